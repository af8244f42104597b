package site

import (
	"slices"
	"strconv"
	"strings"

	"giornata/api"
)

const hexDigits = "0123456789abcdef"

// PutPage returns the text of a page.
func PutPage(p api.Page) (string, api.Errno) {
	if !isPage(p) {
		return "", api.ErrArg
	}
	return headOf(wordPage, p) + wordPrev + " " + hexOf(p.Prev) + "\n" + p.Body, api.OK
}

// GetPage returns the page with a text.
func GetPage(s string) (api.Page, api.Errno) {
	return readText(s, PutPage, func() api.Page {
		head, rest, _ := strings.Cut(s, "\n")
		prev, body, _ := strings.Cut(rest, "\n")
		n := few(head, 4)
		return api.Page{Seq: n[0], Day: n[1], Kind: uint8(n[2]), Body: body, Prev: hashOf(prev)}
	})
}

// Digest returns the digest of a page.
func Digest(p api.Page) api.Hash {
	if !isPage(p) {
		return api.Hash{}
	}
	return Sum(slices.Concat([]byte(headOf("p", p)+p.Body), p.Prev[:]))
}

// Linked returns the index of the first page that does not belong there, and why; 0 and OK for linked pages.
func Linked(l []api.Page) (int, api.Errno) {
	for i, p := range l {
		if e := misfit(l[:i], p); e != api.OK {
			return i, e
		}
	}
	return 0, api.OK
}

// Next returns the page that would be linked behind a list.
func Next(l []api.Page, day int, kind uint8, body string) (api.Page, api.Errno) {
	if _, e := Linked(l); e != api.OK {
		return api.Page{}, e
	}
	return next(l, day, kind, body)
}

// next returns the page that would be linked behind linked pages.
func next(l []api.Page, day int, kind uint8, body string) (api.Page, api.Errno) {
	switch {
	case len(l) >= api.MaxPages:
		return api.Page{}, api.ErrLimit
	case !isDay(day) || !isKind(kind):
		return api.Page{}, api.ErrArg
	case len(body) > api.MaxBody:
		return api.Page{}, api.ErrLimit
	case day < lastDay(l):
		return api.Page{}, api.ErrTime
	}
	return api.Page{Seq: len(l), Day: day, Kind: kind, Body: body, Prev: lastDigest(l)}, api.OK
}

// misfit returns why a page may not stand behind linked ones, or OK.
func misfit(before []api.Page, p api.Page) api.Errno {
	switch {
	case len(before) >= api.MaxPages:
		return api.ErrLimit
	case !isPage(p) || p.Seq != len(before):
		return api.ErrArg
	case p.Day < lastDay(before):
		return api.ErrTime
	case p.Prev != lastDigest(before):
		return api.ErrLink
	}
	return api.OK
}

// lastDay returns the Day of the last page, 0 without one.
func lastDay(l []api.Page) int {
	if len(l) == 0 {
		return 0
	}
	return l[len(l)-1].Day
}

// lastDigest returns the digest of the last page, the zero digest without one.
func lastDigest(l []api.Page) api.Hash {
	if len(l) == 0 {
		return api.Hash{}
	}
	return Digest(l[len(l)-1])
}

// headOf returns the first line of a page, with a line feed.
func headOf(word string, p api.Page) string {
	return lineOf(word, p.Seq, p.Day, int(p.Kind), len(p.Body)) + "\n"
}

func hexOf(h api.Hash) string {
	var out strings.Builder
	for _, b := range h {
		out.WriteByte(hexDigits[b>>4])
		out.WriteByte(hexDigits[b&15])
	}
	return out.String()
}

// hashOf returns the digest of a line, which is behind its first word; it gives up if there is none.
func hashOf(line string) api.Hash {
	var out api.Hash
	_, hex, _ := strings.Cut(line, " ")
	if len(hex) != 2*len(out) {
		giveUp()
	}
	for i := range out {
		n, err := strconv.ParseUint(hex[2*i:2*i+2], 16, 8)
		if err != nil {
			giveUp()
		}
		out[i] = byte(n)
	}
	return out
}

func isPage(p api.Page) bool {
	return isWithin(p.Seq, 0, api.MaxPages-1) && isDay(p.Day) && isKind(p.Kind) && len(p.Body) <= api.MaxBody
}

func isKind(kind uint8) bool { return kind >= api.DosCartoon && kind <= api.DosNote }
