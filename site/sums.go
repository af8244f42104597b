package site

import (
	"math/bits"
	"slices"

	"giornata/api"
)

// The sizes of SHA-256, in bytes.
const (
	blockSize  = 64
	wordSize   = 4
	lengthSize = 8
)

// sumState is the words that a digest is made of.
type sumState [8]uint32

// firstState is the state before the first block.
var firstState = sumState{0x6a09e667, 0xbb67ae85, 0x3c6ef372, 0xa54ff53a, 0x510e527f, 0x9b05688c, 0x1f83d9ab, 0x5be0cd19}

// roundWords are the constants of the rounds of a block.
var roundWords = [blockSize]uint32{
	0x428a2f98, 0x71374491, 0xb5c0fbcf, 0xe9b5dba5, 0x3956c25b, 0x59f111f1, 0x923f82a4, 0xab1c5ed5,
	0xd807aa98, 0x12835b01, 0x243185be, 0x550c7dc3, 0x72be5d74, 0x80deb1fe, 0x9bdc06a7, 0xc19bf174,
	0xe49b69c1, 0xefbe4786, 0x0fc19dc6, 0x240ca1cc, 0x2de92c6f, 0x4a7484aa, 0x5cb0a9dc, 0x76f988da,
	0x983e5152, 0xa831c66d, 0xb00327c8, 0xbf597fc7, 0xc6e00bf3, 0xd5a79147, 0x06ca6351, 0x14292967,
	0x27b70a85, 0x2e1b2138, 0x4d2c6dfc, 0x53380d13, 0x650a7354, 0x766a0abb, 0x81c2c92e, 0x92722c85,
	0xa2bfe8a1, 0xa81a664b, 0xc24b8b70, 0xc76c51a3, 0xd192e819, 0xd6990624, 0xf40e3585, 0x106aa070,
	0x19a4c116, 0x1e376c08, 0x2748774c, 0x34b0bcb5, 0x391c0cb3, 0x4ed8aa4a, 0x5b9cca4f, 0x682e6ff3,
	0x748f82ee, 0x78a5636f, 0x84c87814, 0x8cc70208, 0x90befffa, 0xa4506ceb, 0xbef9a3f7, 0xc67178f2,
}

// Sum returns the digest SHA-256.
func Sum(b []byte) api.Hash {
	state := firstState
	for block := range slices.Chunk(padded(b), blockSize) {
		state = state.after(scheduleOf(block))
	}
	var out api.Hash
	for i, word := range state {
		for j := range wordSize {
			out[wordSize*i+j] = byte(word >> (8 * (wordSize - 1 - j)))
		}
	}
	return out
}

// padded returns bytes, and behind them what makes them whole blocks, with the number of their bits at the end.
func padded(b []byte) []byte {
	// One byte marks the end; taking a whole block into the sum keeps the remainder from being negative.
	zeros := (2*blockSize - lengthSize - 1 - len(b)%blockSize) % blockSize
	out := slices.Concat(b, []byte{128}, make([]byte, zeros+lengthSize))
	count := 8 * uint64(len(b))
	for i := range lengthSize {
		out[len(out)-1-i] = byte(count >> (8 * i))
	}
	return out
}

// scheduleOf returns the words of the rounds of a block.
func scheduleOf(block []byte) [blockSize]uint32 {
	var w [blockSize]uint32
	for i, b := range block {
		w[i/wordSize] = w[i/wordSize]<<8 | uint32(b)
	}
	for i := blockSize / wordSize; i < len(w); i++ {
		x, y := w[i-15], w[i-2]
		s0 := right(x, 7) ^ right(x, 18) ^ x>>3
		s1 := right(y, 17) ^ right(y, 19) ^ y>>10
		w[i] = s1 + w[i-7] + s0 + w[i-16]
	}
	return w
}

// after returns the state behind a block with some words.
func (state sumState) after(w [blockSize]uint32) sumState {
	s := state
	for i, k := range roundWords {
		a, b, c, e, f, g := s[0], s[1], s[2], s[4], s[5], s[6]
		t := s[7] + (right(e, 6) ^ right(e, 11) ^ right(e, 25)) + (e&f ^ ^e&g) + k + w[i]
		u := (right(a, 2) ^ right(a, 13) ^ right(a, 22)) + (a&b ^ a&c ^ b&c)
		s = sumState{t + u, a, b, c, s[3] + t, e, f, g}
	}
	for i := range s {
		s[i] += state[i]
	}
	return s
}

// right returns a word rotated right.
func right(x uint32, n int) uint32 { return bits.RotateLeft32(x, -n) }
