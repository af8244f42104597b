package site_test

import (
	"crypto/sha256"
	"encoding/hex"
	"strings"
	"testing"

	"giornata/api"
	"giornata/site"
)

// K1: digests that are known.
func TestKnownSums(t *testing.T) {
	for text, digest := range map[string]string{
		"":    "e3b0c44298fc1c149afbf4c8996fb92427ae41e4649b934ca495991b7852b855",
		"abc": "ba7816bf8f01cfea414140de5dae2223b00361a396177a9cb410ff61f20015ad",
		"abcdbcdecdefdefgefghfghighijhijkijkljklmklmnlmnomnopnopq": "248d6a61d20638b8e5c026930c3e6039a33ce45964ff2167f6ecedd419db06c1",
		strings.Repeat("a", 1000000):                               "cdc76e5c9914fb9281a1c7e284d73e67f1809a48a497200e046d39ccc7112cd0",
	} {
		got := site.Sum([]byte(text))
		want(t, "Sum of "+text[:min(9, len(text))], hex.EncodeToString(got[:]), digest)
	}
	want(t, "Sum of nothing", site.Sum(nil), site.Sum([]byte{}))
}

// K1: digests of all lengths around those of blocks, and that the bytes stay.
func TestSums(t *testing.T) {
	d := &dice{1}
	b := make([]byte, 300)
	for i := range b {
		b[i] = byte(d.roll(256))
	}
	before := string(b)
	for n := range len(b) + 1 {
		want(t, "Sum", site.Sum(b[:n]), api.Hash(sha256.Sum256(b[:n])))
	}
	want(t, "the bytes", string(b), before)
}
