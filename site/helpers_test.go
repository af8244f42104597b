package site_test

import (
	"reflect"
	"slices"
	"strconv"
	"strings"
	"testing"

	"giornata/api"
	"giornata/site"
)

const (
	huge = int(^uint(0) >> 1)
	tiny = -huge - 1
)

// The texts of the chapter's examples.
const (
	chapterCartoon = "wall 0 0 20 0 20 10 0 10\nseam mid 1 0 5 20 5\nground sky 60 5 8 lime azurite\nground sea 60 5 2 lime\n"
	chapterLimits  = "limits 100 0 10"
	chapterWork    = "work 0\norder 1 0\nturn 0 0 0\nturn 2 0 0\n"
	twoDays        = "day 0\nday 1\n"
)

// bentCartoon has two cells of which each lies above the other one somewhere.
const bentCartoon = "wall 0 0 20 0 20 10 0 10\nseam bend 1 10 0 6 3 14 7 10 10\nground left 60 1 5 lime\nground right 60 19 5 lime\n"

// longest is a name of the greatest length.
const longest = "abcdefghijklmnopqrstuv-9"

// yard returns the text of a yard with the same minutes in all seasons, and with the lines of closed days, pits and masters.
func yard(dry, minutes int, lines ...string) string {
	out := "yard " + strconv.Itoa(dry) + "\n" + strings.Repeat("season 600 "+strconv.Itoa(minutes)+"\n", 12)
	return out + strings.Join(lines, "\n") + "\n"
}

// chapterYard returns the text of the yard Y of the chapter.
func chapterYard() string { return yard(1, 500, "closed", "pit 0 0 9", "master ann 0 100 5") }

// wideYard returns the text of a yard that has enough of everything.
func wideYard(dry int) string {
	return yard(dry, 600, "closed", "pit 0 0 100", "master ann 0 100001 9")
}

// grid returns the source of a wall with an upper and a lower cell in each of some columns. The ground of the cell i, counted from below to above and then from left to right, has the work and the colours that it is given.
func grid(columns int, ground func(i int) (work int, colours string)) string {
	var out strings.Builder
	row := func(words ...string) { out.WriteString(strings.Join(words, " ") + "\n") }
	width := strconv.Itoa(10 * columns)
	row("wall 0 0", width, "0", width, "20 0 20")
	middle := "0 10"
	for i := range columns {
		x := strconv.Itoa(10 * (i + 1))
		middle += " " + x + " 10"
		if i+1 < columns {
			row("seam up"+x, strconv.Itoa(1+i%3), x, "0", x, "10", x, "20")
		}
	}
	row("seam mid 2", middle)
	for i := range 2 * columns {
		work, colours := ground(i)
		row("ground g"+strconv.Itoa(i), strconv.Itoa(work), strconv.Itoa(10*(i/2)+5), strconv.Itoa(5+10*(i%2))+colours)
	}
	return out.String()
}

// same ground everywhere.
func plain(work int) func(int) (int, string) {
	return func(int) (int, string) { return work, " lime" }
}

// newSite returns a site with some offices.
func newSite(t *testing.T, offices int) *site.Site {
	t.Helper()
	s, e := site.New(api.Setup{Offices: offices, Sectors: 20000})
	if e != api.OK {
		t.Fatalf("New: error %d", e)
	}
	return s
}

// do wants commands to return OK.
func do(t *testing.T, errors ...api.Errno) {
	t.Helper()
	for i, e := range errors {
		if e != api.OK {
			t.Fatalf("the command %d: error %d", i, e)
		}
	}
}

// divide, plan, replan and enter return the errors alone.
func divide(s *site.Site) api.Errno { _, e := s.Divide(); return e }

func plan(s *site.Site) api.Errno { _, e := s.Plan(); return e }

func replan(s *site.Site) api.Errno { _, e := s.Replan(); return e }

func enter(s *site.Site) api.Errno { _, e := s.Enter(); return e }

// dividedSite returns a site with the division of the chapter, and plannedSite one with its work.
func dividedSite(t *testing.T) *site.Site {
	t.Helper()
	s := newSite(t, 2)
	do(t, s.Draw(chapterCartoon), s.Limit(chapterLimits), divide(s))
	return s
}

func plannedSite(t *testing.T) *site.Site {
	t.Helper()
	s := dividedSite(t)
	do(t, s.Hire(chapterYard()), plan(s))
	return s
}

// audited wants nothing to be wrong with the pages of a site, and its account to be that of its pages.
func audited(t *testing.T, s *site.Site) {
	t.Helper()
	want(t, "Audit", s.Audit(), api.Finding{Ok: true})
	want(t, "Check of the pages", site.Check(s.Pages()), api.Finding{Ok: true})
	want(t, "the account", s.Account(), site.Told(s.Pages()))
}

// lastBody returns the Body of the last page.
func lastBody(s *site.Site) string {
	l := s.Pages()
	if len(l) == 0 {
		return "no page"
	}
	return l[len(l)-1].Body
}

// folder is pages that are put one behind the other.
type folder struct {
	t     *testing.T
	pages []api.Page
}

// with returns a folder with one more page, with which something may be wrong.
func (f folder) with(day int, kind uint8, body string) folder {
	f.t.Helper()
	p, e := site.Next(f.pages, day, kind, body)
	if e != api.OK {
		f.t.Fatalf("Next: error %d", e)
	}
	return folder{f.t, append(slices.Clone(f.pages), p)}
}

// takes returns a folder with one more page, with which nothing is wrong.
func (f folder) takes(day int, kind uint8, body string) folder {
	f.t.Helper()
	out := f.with(day, kind, body)
	want(f.t, "Check with "+body, site.Check(out.pages), api.Finding{Ok: true})
	return out
}

// finds wants something to be wrong with one more page, whatever stands behind it.
func (f folder) finds(what uint8, day int, kind uint8, body string) {
	f.t.Helper()
	out := f.with(day, kind, body)
	finding := api.Finding{At: len(f.pages), What: what}
	want(f.t, "Check with "+body, site.Check(out.pages), finding)
	want(f.t, "Told with "+body, site.Told(out.pages), site.Told(f.pages))
	out = out.with(api.MaxDay, api.DosNote, "")
	want(f.t, "Check with another page behind "+body, site.Check(out.pages), finding)
	want(f.t, "Told with another page behind "+body, site.Told(out.pages), site.Told(f.pages))
}

// same compares results; nil and empty slices are equal, also within structs and lists.
func same(a, b any) bool { return alike(reflect.ValueOf(a), reflect.ValueOf(b)) }

func alike(a, b reflect.Value) bool {
	if !a.IsValid() || !b.IsValid() {
		return blank(a) && blank(b)
	}
	if a.Type() != b.Type() {
		return false
	}
	switch a.Kind() {
	case reflect.Interface:
		return alike(a.Elem(), b.Elem())
	case reflect.Slice:
		if a.Len() != b.Len() {
			return false
		}
		for i := range a.Len() {
			if !alike(a.Index(i), b.Index(i)) {
				return false
			}
		}
		return true
	case reflect.Struct:
		for i := range a.NumField() {
			if !alike(a.Field(i), b.Field(i)) {
				return false
			}
		}
		return true
	}
	return a.Equal(b)
}

// blank reports whether a value is nothing, or an empty slice, which are equivalent.
func blank(v reflect.Value) bool { return !v.IsValid() || v.Kind() == reflect.Slice && v.Len() == 0 }

// isZero reports whether a value is zero, where empty slices are nil, also within structs.
func isZero(v any) bool { return same(v, reflect.Zero(reflect.TypeOf(v)).Interface()) }

func want(t *testing.T, name string, got, wanted any) {
	t.Helper()
	if !same(got, wanted) {
		t.Errorf("%s: %v, want %v", name, got, wanted)
	}
}

// results are what a call returned.
type results []any

func of(values ...any) results { return values }

// wants compares all results of a call.
func wants(t *testing.T, name string, got results, wanted ...any) {
	t.Helper()
	for i := range wanted {
		if len(got) != len(wanted) || !same(got[i], wanted[i]) {
			t.Errorf("%s: %v, want %v", name, got, wanted)
			return
		}
	}
}

// dice yields numbers that are the same in every run.
type dice struct{ state uint64 }

func (d *dice) roll(n int) int {
	d.state = d.state*6364136223846793005 + 1442695040888963407
	return int((d.state >> 33) % uint64(n))
}

// pick returns one of some texts.
func (d *dice) pick(texts ...string) string { return texts[d.roll(len(texts))] }

// spoilt returns a text in which something is changed, most often.
func (d *dice) spoilt(text string) string {
	at := d.roll(len(text) + 1)
	rest := text[at:]
	put := []string{"", "", "0", "1", "9", " ", "a", "-", "\n", "\xff", rest, text}[d.roll(12)]
	return text[:at] + put + rest[d.roll(min(2, len(rest)+1)):]
}
