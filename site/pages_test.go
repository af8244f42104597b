package site_test

import (
	"crypto/sha256"
	"encoding/hex"
	"slices"
	"strconv"
	"strings"
	"testing"

	"giornata/api"
	"giornata/site"
)

var zeros = strings.Repeat("0", 64)

// hashOf returns a digest of 32 different bytes from one on.
func hashOf(first byte) api.Hash {
	var out api.Hash
	for i := range out {
		out[i] = first + byte(i)
	}
	return out
}

// goodPages returns well-formed pages at the edges of what is well-formed.
func goodPages() []api.Page {
	return []api.Page{
		{Kind: 1}, {Seq: 999, Day: 100000, Kind: 10, Body: "a\nb", Prev: hashOf(240)}, {Kind: 3, Body: strings.Repeat("\x00\xff", 10000), Prev: hashOf(7)},
		{Kind: 5, Body: "\n"}, {Kind: 5, Body: "page 0 0 1 0\nprev " + zeros + "\n"}, {Seq: 10, Day: 20, Kind: 9, Body: "é", Prev: hashOf(9)},
	}
}

// badPages returns pages that are not well-formed.
func badPages() []api.Page {
	return []api.Page{
		{}, {Kind: 11}, {Kind: 255}, {Kind: 1, Seq: -1}, {Kind: 1, Seq: 1000}, {Kind: 1, Day: -1}, {Kind: 1, Day: 100001}, {Kind: 1, Body: strings.Repeat("x", 20001)}, {Kind: 1, Seq: huge}, {Kind: 1, Day: tiny},
	}
}

// K2: the texts of pages.
func TestPageTexts(t *testing.T) {
	for _, p := range goodPages() {
		text := "page " + strconv.Itoa(p.Seq) + " " + strconv.Itoa(p.Day) + " " + strconv.Itoa(int(p.Kind)) + " " + strconv.Itoa(len(p.Body)) + "\nprev " + hex.EncodeToString(p.Prev[:]) + "\n" + p.Body
		wants(t, "PutPage", of(site.PutPage(p)), text, api.OK)
		wants(t, "GetPage", of(site.GetPage(text)), p, api.OK)
	}
	for _, p := range badPages() {
		wants(t, "PutPage", of(site.PutPage(p)), "", api.ErrArg)
	}
}

// K2: what is not the text of a page.
func TestNoPageTexts(t *testing.T) {
	prev := "prev " + zeros + "\n"
	good := "page 0 0 1 0\n" + prev
	wants(t, "GetPage", of(site.GetPage(good)), api.Page{Kind: 1}, api.OK)
	for _, text := range []string{
		"", "\n", "\n\n", "page", "page 0 0 1 0", "page 0 0 1 0\n", "page 0 0 1 0\nprev", "page 0 0 1 0\nprev " + zeros, " " + good, good + "x", good + "\n", "page 0 0 1 1\n" + prev, "page 0 0 1 -1\n" + prev, "page 0 0 1 2\n" + prev + "x",
		"page 0 0 1\n" + prev, "page 0 0 1 0 0\n" + prev, "page 0 0 1 0 \n" + prev, "page  0 0 1 0\n" + prev, "Page 0 0 1 0\n" + prev, "p 0 0 1 0\n" + prev, "page 00 0 1 0\n" + prev, "page 0 +0 1 0\n" + prev, "page 0 0 01 0\n" + prev, "page 0 0 1 00\n" + prev, "page -0 0 1 0\n" + prev, "page x 0 1 0\n" + prev, "page 0 0 1 0\r\n" + prev,
		"page 1000 0 1 0\n" + prev, "page -1 0 1 0\n" + prev, "page 0 100001 1 0\n" + prev, "page 0 0 0 0\n" + prev, "page 0 0 11 0\n" + prev, "page 0 0 257 0\n" + prev, "page 0 0 -255 0\n" + prev, "page 99999999999999999999 0 1 0\n" + prev,
		"page 0 0 1 0\nprev \n", "page 0 0 1 0\nprev " + zeros[1:] + "\n", "page 0 0 1 0\nprev " + zeros + "0\n", "page 0 0 1 0\nprev  " + zeros + "\n", "page 0 0 1 0\nprev " + zeros[1:] + "A\n", "page 0 0 1 0\nprev " + zeros[1:] + "g\n", "page 0 0 1 0\nprev " + zeros[1:] + " \n", "page 0 0 1 0\nprev +" + zeros[1:] + "\n", "page 0 0 1 0\nprev " + zeros[2:] + "_1\n", "page 0 0 1 0\nPrev " + zeros + "\n", "page 0 0 1 0\n" + zeros + "\n", "page 0 0 1 0\nprev " + zeros + " \n",
		"page 0 0 1 20001\n" + prev + strings.Repeat("x", 20001),
	} {
		wants(t, "GetPage of "+text[:min(99, len(text))], of(site.GetPage(text)), api.Page{}, api.ErrForm)
	}
	d := &dice{4}
	for range 2000 {
		p := goodPages()[[]int{0, 1, 3, 5}[d.roll(4)]]
		text, _ := site.PutPage(p)
		text = d.spoilt(text)
		if got, e := site.GetPage(text); e == api.OK {
			wants(t, "PutPage of what was got", of(site.PutPage(got)), text, api.OK)
		} else {
			wants(t, "GetPage of "+text, of(got, e), api.Page{}, api.ErrForm)
		}
	}
}

// K2: digests of pages.
func TestDigests(t *testing.T) {
	for _, p := range goodPages() {
		text := "p " + strconv.Itoa(p.Seq) + " " + strconv.Itoa(p.Day) + " " + strconv.Itoa(int(p.Kind)) + " " + strconv.Itoa(len(p.Body)) + "\n" + p.Body + string(p.Prev[:])
		want(t, "Digest", site.Digest(p), api.Hash(sha256.Sum256([]byte(text))))
	}
	for _, p := range badPages() {
		want(t, "Digest of a page that is not well-formed", site.Digest(p), api.Hash{})
	}
}

// row returns linked pages with notes, one for each day.
func row(t *testing.T, days ...int) []api.Page {
	t.Helper()
	f := folder{t: t}
	for i, day := range days {
		f = f.with(day, api.DosNote, strconv.Itoa(i))
	}
	return f.pages
}

// full returns as many linked pages as there can be.
func full(t *testing.T) []api.Page {
	t.Helper()
	var out []api.Page
	var prev api.Hash
	for i := range 1000 {
		out = append(out, api.Page{Seq: i, Kind: api.DosNote, Prev: prev})
		prev = site.Digest(out[i])
	}
	return out
}

// K3: pages that are linked, and the first one that is not.
func TestLinked(t *testing.T) {
	wants(t, "Linked of no pages", of(site.Linked(nil)), 0, api.OK)
	l := row(t, 3, 3, 5, 100000)
	wants(t, "Linked", of(site.Linked(l)), 0, api.OK)
	spoilt := func(at int, spoil func(p *api.Page), e api.Errno) {
		t.Helper()
		out := slices.Clone(l)
		spoil(&out[at])
		wants(t, "Linked", of(site.Linked(out)), at, e)
		for n := range at {
			wants(t, "Linked of the pages before", of(site.Linked(out[:n+1])), 0, api.OK)
		}
	}
	for at := range l {
		spoilt(at, func(p *api.Page) { p.Seq = at + 1 }, api.ErrArg)
		spoilt(at, func(p *api.Page) { p.Seq = -1 }, api.ErrArg)
		spoilt(at, func(p *api.Page) { p.Kind = 0 }, api.ErrArg)
		spoilt(at, func(p *api.Page) { p.Day = 100001 }, api.ErrArg)
		spoilt(at, func(p *api.Page) { p.Body = strings.Repeat("x", 20001) }, api.ErrArg)
		spoilt(at, func(p *api.Page) { p.Prev[31]++ }, api.ErrLink)
		spoilt(at, func(p *api.Page) { p.Prev[0]++ }, api.ErrLink)
		spoilt(at, func(p *api.Page) { p.Kind, p.Prev = 11, api.Hash{1} }, api.ErrArg)
	}
	spoilt(1, func(p *api.Page) { p.Day = 2 }, api.ErrTime)
	spoilt(2, func(p *api.Page) { p.Day, p.Prev = 2, api.Hash{} }, api.ErrTime)
	spoilt(2, func(p *api.Page) { p.Day, p.Kind = 2, 0 }, api.ErrArg)
	// What is changed of a page is found at the next one.
	for at := range l[1:] {
		for _, spoil := range []func(p *api.Page){func(p *api.Page) { p.Body += "x" }, func(p *api.Page) { p.Kind = 1 }} {
			out := slices.Clone(l)
			spoil(&out[at])
			wants(t, "Linked with a page that was changed", of(site.Linked(out)), at+1, api.ErrLink)
		}
	}
	most := full(t)
	wants(t, "Linked of 1000 pages", of(site.Linked(most)), 0, api.OK)
	wants(t, "Linked of 1001 pages", of(site.Linked(append(most, api.Page{}))), 1000, api.ErrLimit)
	wants(t, "Linked of 1002 pages", of(site.Linked(append(most, api.Page{Seq: 1000, Kind: 1}, api.Page{}))), 1000, api.ErrLimit)
}

// K3: the page that comes next.
func TestNext(t *testing.T) {
	wants(t, "Next of no pages", of(site.Next(nil, 0, api.DosNote, "")), api.Page{Kind: api.DosNote}, api.OK)
	l := row(t, 3, 7)
	wants(t, "Next", of(site.Next(l, 7, api.DosAct, "x\n")), api.Page{Seq: 2, Day: 7, Kind: api.DosAct, Body: "x\n", Prev: site.Digest(l[1])}, api.OK)
	wants(t, "Next", of(site.Next(l, 100000, api.DosCartoon, strings.Repeat("x", 20000))), api.Page{Seq: 2, Day: 100000, Kind: api.DosCartoon, Body: strings.Repeat("x", 20000), Prev: site.Digest(l[1])}, api.OK)
	long := strings.Repeat("x", 20001)
	broken := slices.Clone(l)
	broken[1].Prev[5]++
	late := slices.Clone(l)
	late[1].Day = 2
	most := full(t)
	for _, x := range []struct {
		l    []api.Page
		day  int
		kind uint8
		body string
		e    api.Errno
	}{
		{broken, -1, 0, long, api.ErrLink}, {late, -1, 0, long, api.ErrTime}, {[]api.Page{{}}, -1, 0, long, api.ErrArg}, {append(most, api.Page{}), 0, 0, "", api.ErrLimit},
		{most, -1, 0, "", api.ErrLimit}, {most, 0, api.DosNote, "", api.ErrLimit},
		{l, -1, 1, long, api.ErrArg}, {l, 100001, 1, long, api.ErrArg}, {l, 7, 0, long, api.ErrArg}, {l, 7, 11, "", api.ErrArg}, {l, 7, 255, "", api.ErrArg}, {l, tiny, 1, "", api.ErrArg}, {l, huge, 1, "", api.ErrArg},
		{l, 6, 1, long, api.ErrLimit}, {l, 7, 1, long, api.ErrLimit}, {l, 6, 1, "", api.ErrTime}, {l, 0, 10, "", api.ErrTime},
	} {
		wants(t, "Next", of(site.Next(x.l, x.day, x.kind, x.body)), api.Page{}, x.e)
	}
}

// P10.5: Next makes linked pages longer.
func TestNextIsLinked(t *testing.T) {
	d := &dice{5}
	f := folder{t: t}
	day := 0
	for range 100 {
		day += d.roll(3)
		f = f.with(day, uint8(1+d.roll(10)), d.pick("", "x", "\n", "limits 1 0 0"))
		wants(t, "Linked", of(site.Linked(f.pages)), 0, api.OK)
	}
}
