package site_test

import (
	"slices"
	"strconv"
	"strings"
	"testing"

	"giornata/api"
	"giornata/site"
)

// script returns the script with some lines.
func script(lines ...string) string { return strings.Join(lines, "\n") + "\n" }

// with returns the line of a command that takes the lines of a text, and these.
func with(word, text string) string {
	return word + " " + strconv.Itoa(strings.Count(text, "\n")) + "\n" + strings.TrimSuffix(text, "\n")
}

// prints wants a script to print some lines.
func prints(t *testing.T, script string, lines ...string) {
	t.Helper()
	wanted := ""
	if len(lines) > 0 {
		wanted = strings.Join(lines, "\n") + "\n"
	}
	wants(t, "Run of "+script, of(site.Run(script)), wanted, 0, api.OK)
}

// K18: the script of the chapter's examples.
func TestChapterScript(t *testing.T) {
	prints(t, script(
		"audit", "setup 2 20000", with("draw", chapterCartoon), "limits 100 0 10", "divide", with("hire", chapterYard()), "plan", "work", "rule fast lime", "rule dry azurite", "lay 0 1 lime", "lay 0 1 azurite", "lay 0 0 azurite", "day 2", "lay 0 0 azurite", "lay 0 0 azurite",
		"observe 1 over 2 1", "read 1 2", "sign 1 crack 1", "enter", "greet 0 1", "carry 0 1 0", "carry 1 0 0", "enter", "audit",
	),
		"none", "ok", "ok", "ok", "divided 2 20", "ok", "end 2", "tasks 2", "work 0", "order 1 0", "turn 0 0 0", "turn 2 0 0", "ok", "ok", "ok", "error 8", "error 7", "ok", "ok", "error 6",
		"ok", "read 2 1", "ok", "error 5", "ok", "ok", "ok", "left 0", "audit 1 0 0",
	)
}

// K18: lines that do nothing, and lines that need a site.
func TestEmptyScripts(t *testing.T) {
	for _, text := range []string{"", "\n", "\n\n", "#", "#\n", "# a comment\n#divide 1 2 3\n\n##", "#\xff\x00\n"} {
		prints(t, text)
	}
	for _, line := range []string{"day 1", "draw 0", "hire 0", "limits 1", "rule x", "observe x", "divide", "plan", "replan", "enter", "delay 1", "lay 0 1 x", "sign 0 x", "greet 0 1", "carry 0 1 0", "lose 0 1 0", "repeat 0 1 0", "stop 0 1", "crash 0", "crash 0 1 2", "pages", "division", "work", "strokes", "register 0", "wall 0", "read 1 2", "audit"} {
		prints(t, line, "none")
		prints(t, line+"\n\n#\n"+line, "none", "none")
	}
	prints(t, "draw 2\nx\ny\naudit", "none", "none")
	prints(t, "setup 0 1000\naudit\nsetup 9 1000\nsetup 1 999\nsetup 1 65537\naudit", "error 1", "none", "error 1", "error 1", "error 1", "none")
}

// K18: scripts that are too long.
func TestLongScripts(t *testing.T) {
	prints(t, strings.Repeat("#", 20000))
	wants(t, "Run", of(site.Run(strings.Repeat("#", 20001))), "", 0, api.ErrLimit)
	wants(t, "Run", of(site.Run(strings.Repeat("\n", 20001))), "", 0, api.ErrLimit)
	wants(t, "Run", of(site.Run(strings.Repeat("x", 20001))), "", 0, api.ErrLimit)
	wants(t, "Run", of(site.Run(strings.Repeat("x", 20000))), "", 1, api.ErrForm)
	prints(t, strings.Repeat("\n", 20000))
}

// K18: lines that have no form, behind others that have one.
func TestNoForms(t *testing.T) {
	for _, line := range []string{
		" ", "x", " audit", "audit ", "audit  ", "Audit", "audit 1", "audit\r", "audits", "\taudit", " # comment", "setup", "setup 1", "setup 1 ", "setup  1 1000", "setup 1 1000 ", "setup 1 1000 1", "setup 01 1000", "setup +1 1000", "setup -1 1000", "setup 1 1234567890", "setup 1 x", "setup\t1 1000", "setup 1\t1000",
		"day", "day ", "day x", "day -1", "day 01", "day 00", "day 1.", "day 1 2", "day 1234567890", "day 0x1", "day 1_0", "day ١",
		"draw", "draw ", "draw x", "draw -1", "draw 1", "draw 3\na\nb", "draw 1 ", "draw 0 0", "draw 01\na", "draw 999999999", "hire", "hire 1", "hire 2\nx", "hire -0",
		"limits", "rule", "observe", "divide 1", "divide ", "plan 0", "replan ", "enter 1", "delay", "delay -1", "delay 1 1",
		"lay", "lay 0", "lay 0 1", "lay 0 2 lime", "lay 0 01 lime", "lay 0 -1 lime", "lay 0 x lime", "lay x 1 lime", "lay 00 1 lime", "lay -1 1 lime", "lay  0 1 lime", "lay 0 10 lime", "lay 0 1234567890 x",
		"sign", "sign 0", "sign x crack 1", "sign -1 crack 1", "sign 01 crack 1", "sign  crack 1",
		"greet", "greet 0", "greet 0 ", "greet 0 1 2", "greet 0 -1", "greet a b", "carry 0 1", "carry 0 1 0 0", "carry 0 1 -1", "lose 0 1", "lose 0 1 x", "repeat 0 1", "repeat 0 1 00", "repeat  0 1 0",
		"stop", "stop 0", "stop 0 -1", "stop 0 1 1", "stop 0 1 ", "crash", "crash ", "crash -1", "crash 0 ", "crash 0  1", "crash 0 -0", "crash 0 -", "crash 0 --1", "crash 0 +1", "crash 0 01", "crash 0 -01", "crash 0 1 x", "crash 0 1234567890", "crash 0 -1234567890", "crash 0 1 ", "crash 0 -1 -",
		"pages 0", "pages ", "division 1", "work 0", "strokes 1", "register", "register -1", "register 0 0", "register x", "wall", "wall 00", "wall 0 1", "read", "read 1", "read 1 2 3", "read 1 -2", "read 1  2", "\x00", "\xff", "day\n1",
	} {
		wants(t, "Run of "+line, of(site.Run(line)), "", 1, api.ErrForm)
		wants(t, "Run of "+line+" as the second line", of(site.Run("setup 1 1000\n"+line+"\n")), "", 2, api.ErrForm)
		wants(t, "Run of "+line+" behind others", of(site.Run("#\n\ndraw 2\nx\n\naudit\n"+line)), "", 7, api.ErrForm)
		if !strings.HasPrefix(line, "draw") && !strings.HasPrefix(line, "hire") {
			wants(t, "Run of "+line+" before others without a form", of(site.Run(line+"\nx\n")), "", 1, api.ErrForm)
		}
	}
	// The lines of a text may be whatever they are, but there have to be enough of them.
	prints(t, "draw 3\nx\n#\n\naudit", "none", "none")
	wants(t, "Run", of(site.Run("audit\ndraw 2\nx\n")), "", 2, api.ErrForm)
	wants(t, "Run", of(site.Run("audit\ndraw 2 \nx\ny\n")), "", 2, api.ErrForm)
	prints(t, "audit\ndraw 2\nx\n\n", "none", "none")
	prints(t, "audit\ndraw 1\nx", "none", "none")
}

// K18: numbers at the edges of what a script may have.
func TestScriptNumbers(t *testing.T) {
	prints(t, script("setup 2 1000", "day 999999999", "day 100001", "day 100000", "day 0", "greet 0 999999999", "carry 999999999 0 0", "stop 0 999999999", "crash 0 -999999999 999999999 0 64 -1", "crash 2", "register 999999999", "wall 999999999", "lay 999999999 0 x", "delay 999999999", "read 999999999 0", "setup 999999999 999999999"),
		"ok", "error 1", "error 1", "ok", "error 7", "error 1", "error 5", "ok", "ok", "error 1", "acts 0", "wall", "error 8", "error 8", "error 8", "error 1")
}

// K18: what is behind the blanks may be empty, or have blanks itself.
func TestScriptRests(t *testing.T) {
	prints(t, script("setup 1 1000", "limits ", "limits 100 0 10", "limits  100 0 10", "limits 100 0 10 ", "rule ", "rule fast lime", "rule  fast lime", "rule fast lime ", "observe ", "lay 0 1 ", "lay 0 1 a b", "sign 0 ", "sign 0 crack 1", "sign 0  crack 1", "sign 0 crack 1 "),
		"ok", "error 4", "ok", "error 4", "error 4", "error 4", "ok", "error 4", "error 4", "error 8", "error 8", "error 8", "error 4", "ok", "error 4", "error 4")
	planned := script("setup 1 1000", with("draw", chapterCartoon), "limits 100 0 10", "divide", with("hire", chapterYard()), "plan")
	prints(t, planned+script("lay 0 1 ", "lay 0 1 lime ", "lay 0 1  lime", "observe 1 over 2 1 ", "observe 1 over 2 1"),
		"ok", "ok", "ok", "divided 2 20", "ok", "end 2", "error 5", "error 5", "error 5", "error 4", "ok")
}

// K18: what the questions print.
func TestQuestions(t *testing.T) {
	first := "limits 100 0 10"
	p := api.Page{Kind: api.DosLimits, Body: first}
	q, _ := site.Next([]api.Page{p}, 3, api.DosCartoon, chapterCartoon)
	texts := [2]string{}
	texts[0], _ = site.PutPage(p)
	texts[1], _ = site.PutPage(q)
	prints(t, script("setup 1 1000", "pages", "division", "work", "strokes", "register 0", "register 1", "wall 0", "wall 1", "read 1 2", "audit", first, "pages", "day 3", with("draw", chapterCartoon), "pages"),
		"ok", "pages 0", "patches 0", "tasks 0", "strokes 0", "acts 0", "acts 0", "wall", "wall", "error 8", "audit 1 0 0", "ok", "pages 1", "page "+strconv.Itoa(len(texts[0])), texts[0], "ok", "ok",
		"pages 2", "page "+strconv.Itoa(len(texts[0])), texts[0], "page "+strconv.Itoa(len(texts[1])), texts[1])
	prints(t, script("setup 2 1000", with("draw", chapterCartoon), "limits 100 0 10", "divide", with("hire", chapterYard()), "plan", "division", "rule fast lime", "lay 0 1 lime", "day 2", "lay 1 1 lime", "strokes", "replan", "work", "delay 9"),
		"ok", "ok", "ok", "divided 2 20", "ok", "end 2", "patches 2", "day 0", "day 1", "ok", "ok", "ok", "ok", "strokes 2", "stroke 0 0 1 lime", "stroke 1 2 1 lime", "end 2", "tasks 2", "work 2", "order 1 0", "turn 0 0 0", "turn 2 0 0", "ok")
	prints(t, script("setup 2 1000", "sign 0 crack 2 9", "sign 0 loss 2 5", "sign 0 repaint blue 1 100", "sign 0 repaint red-2 100", "sign 0 mend 9", "sign 0 loss 7", "sign 0 repaint red 7", "wall 0", "register 0", "wall 1", "sign 2 crack 1"),
		"ok", "ok", "ok", "ok", "ok", "ok", "ok", "ok", "face 1 0 0 1", "layer 24 blue", "face 2 1 1 0", "face 5 0 1 0", "face 7 0 0 1", "layer 56 red", "face 100 0 0 2", "layer 24 blue", "layer 32 red-2",
		"wall", "acts 7", "0 1 0 crack 2 9", "0 2 0 loss 2 5", "0 3 0 repaint blue 1 100", "0 4 0 repaint red-2 100", "0 5 0 mend 9", "0 6 0 loss 7", "0 7 0 repaint red 7", "wall", "error 1")
	// What is read.
	prints(t, script("setup 1 1000", with("draw", grid(2, plain(10))), "limits 10 0 20", "divide", "read 1 2", "observe 1 over 1 2", "observe 1 same 2 3", "read 1 3", "read 3 1", "read 2 3", "observe 1 apart 3 4", "read 2 4", "read 1 4", "observe 2 over 3 1", "read 1 2", "read 1 5", "read 1 1"),
		"ok", "ok", "ok", "divided 4 60", "read 0", "ok", "ok", "read 1 1 2", "read 2 1 2", "read 3 2", "ok", "read 4 2 3", "read 0", "ok", "read 5", "error 1", "error 1")
}

// K18: a site that takes the place of another one.
func TestSetupAgain(t *testing.T) {
	prints(t, script("setup 2 1000", "sign 1 crack 1", "day 4", "limits 1 0 0", "setup 9 1000", "register 1", "setup 1 1000", "register 0", "register 1", "pages", "day 3"),
		"ok", "ok", "ok", "ok", "error 1", "acts 1", "1 1 0 crack 1", "ok", "acts 0", "acts 0", "pages 0", "ok")
}

// K18: texts get a line feed for each line, and the last one of a script as well.
func TestScriptTexts(t *testing.T) {
	cartoon := "draw 4\n" + strings.TrimSuffix(chapterCartoon, "\n")
	prints(t, "setup 1 1000\n"+cartoon, "ok", "ok")
	prints(t, "setup 1 1000\ndraw 0\ndraw 1\n\ndraw 1\n# x\ndraw 1\naudit\naudit\nhire 0", "ok", "error 4", "error 4", "error 4", "error 4", "audit 1 0 0", "error 4")
	out, _, e := site.Run("setup 1 1000\n" + cartoon + "\npages\n")
	want(t, "the error of Run", e, api.OK)
	want(t, "the page", strings.Contains(out, " 1 "+strconv.Itoa(len(chapterCartoon))+"\nprev "+zeros+"\n"+chapterCartoon), true)
}

// command is a line of a script, perhaps with others behind it, and what it prints by what the methods return.
type command struct {
	line   string
	answer func(s *site.Site) string
}

func spell(word string, numbers ...int) string {
	for _, n := range numbers {
		word += " " + strconv.Itoa(n)
	}
	return word + "\n"
}

func told(e api.Errno) string {
	if e == api.OK {
		return "ok\n"
	}
	return spell("error", int(e))
}

func toldNumbers(e api.Errno, word string, numbers ...int) string {
	if e == api.OK {
		return spell(word, numbers...)
	}
	return told(e)
}

// commands returns one command of each kind.
func (d *dice) commands(offices int) []command {
	line := strings.TrimSuffix
	a, b, c := d.roll(offices+1), d.roll(offices), d.roll(3)
	day, task, wet := d.roll(1+d.roll(30)), d.roll(3), d.roll(2)
	colour, rule := d.pick("lime", "ochre", "azurite"), d.pick("fast lime", "fast lime", "fast lime", "fast lime", "dry ochre", "fast azurite", "group lime earth", "dry earth", "over azurite lime", "void 1", "void 2", "void 3", "x")
	seen := spell(d.pick("1 over", "1 same", "2 apart", "2 over"), 1+d.roll(4), 1+d.roll(4))
	act := line(spell(d.pick("crack", "mend", "loss", "repaint blue", "repaint red", "remove 8", "undo"), 1+d.roll(12)), "\n")
	kept := [][]int{nil, {64}, {0, 64}, {-5, 99, 7}}[d.roll(4)]
	source := d.pick(chapterCartoon, grid(2, plain(10)), grid(3, func(i int) (int, string) { return 10 + 5*(i%3), d.pick(" lime", " lime azurite", " ochre azurite") }), "x\n")
	limits := d.pick("limits 20 0 20", "limits 100 0 20", "limits 60 0 10 8 20", "limits 1")
	text := d.pick(chapterYard(), wideYard(d.roll(4)), yard(1, 500, "closed 3 4", "pit 0 1 2", "pit 1 2 9", "master ann 0 100 5", "master bob 2 50 4"), "")
	return []command{
		{spell("day", day), func(s *site.Site) string { return told(s.Advance(day)) }},
		{with("draw", source) + "\n", func(s *site.Site) string { return told(s.Draw(source)) }},
		{with("hire", text) + "\n", func(s *site.Site) string { return told(s.Hire(text)) }},
		{limits + "\n", func(s *site.Site) string { return told(s.Limit(limits)) }},
		{"rule " + rule + "\n", func(s *site.Site) string { return told(s.Rule(rule)) }},
		{"observe " + seen, func(s *site.Site) string { return told(s.Observe(line(seen, "\n"))) }},
		{"divide\n", func(s *site.Site) string {
			cost, e := s.Divide()
			return toldNumbers(e, "divided", cost.Days, cost.Seam)
		}},
		{"plan\n", func(s *site.Site) string { n, e := s.Plan(); return toldNumbers(e, "end", n) }},
		{"replan\n", func(s *site.Site) string { n, e := s.Replan(); return toldNumbers(e, "end", n) }},
		{"enter\n", func(s *site.Site) string { n, e := s.Enter(); return toldNumbers(e, "left", n) }},
		{spell("delay", day), func(s *site.Site) string { return told(s.Delay(day)) }},
		{line(spell("lay", task, wet), "\n") + " " + colour + "\n", func(s *site.Site) string { return told(s.Lay(task, wet == 1, colour)) }},
		{line(spell("sign", a), "\n") + " " + act + "\n", func(s *site.Site) string { return told(s.Sign(a, act)) }},
		{spell("greet", a, b), func(s *site.Site) string { return told(s.Greet(a, b)) }},
		{spell("carry", a, b, c), func(s *site.Site) string { return told(s.Carry(a, b, c)) }},
		{spell("lose", a, b, c), func(s *site.Site) string { return told(s.Lose(a, b, c)) }},
		{spell("repeat", a, b, c), func(s *site.Site) string { return told(s.Repeat(a, b, c)) }},
		{spell("stop", a, task), func(s *site.Site) string { return told(s.Stop(a, task)) }},
		{spell("crash", slices.Concat([]int{a}, kept)...), func(s *site.Site) string { return told(s.Crash(a, kept)) }},
	}
}

// questions returns one question of each kind.
func (d *dice) questions(offices int) []command {
	a, i, j := d.roll(offices+1), 1+d.roll(4), 1+d.roll(4)
	return []command{
		{"pages\n", printedPages}, {"division\n", printedDivision}, {"work\n", printedWork}, {"strokes\n", printedStrokes},
		{spell("register", a), func(s *site.Site) string {
			l := append([]string{count("acts", len(s.Register(a)))}, lines(s, a)...)
			return strings.Join(l, "\n") + "\n"
		}},
		{spell("wall", a), func(s *site.Site) string { return printedWall(s.Wall(a)) }},
		{spell("read", i, j), func(s *site.Site) string {
			kind, ids, e := s.Read(i, j)
			return toldNumbers(e, "read", slices.Concat([]int{int(kind)}, ids)...)
		}},
		{"audit\n", func(s *site.Site) string {
			return map[bool]string{true: "audit 1 0 0\n", false: "audit 0\n"}[s.Audit().Ok]
		}},
	}
}

// count returns a line of a word and a number, without a line feed.
func count(word string, n int) string { return word + " " + strconv.Itoa(n) }

func printedPages(s *site.Site) string {
	out := spell("pages", len(s.Pages()))
	for _, p := range s.Pages() {
		text, _ := site.PutPage(p)
		out += spell("page", len(text)) + text + "\n"
	}
	return out
}

func printedDivision(s *site.Site) string {
	l := s.Account().Division.Patches
	out := spell("patches", len(l))
	for _, patch := range l {
		out += spell("day", patch...)
	}
	return out
}

func printedWork(s *site.Site) string {
	w := s.Account().Work
	out := spell("tasks", len(w.Order))
	if len(w.Order) > 0 {
		out += spell("work", w.Done) + spell("order", w.Order...)
	}
	for _, x := range w.Plan.Turns {
		out += spell("turn", x.Day, x.Pit, x.Master)
	}
	return out
}

func printedStrokes(s *site.Site) string {
	out := spell("strokes", len(s.Account().Strokes))
	for _, x := range s.Account().Strokes {
		line, _ := site.PutStroke(x)
		out += line + "\n"
	}
	return out
}

func printedWall(l []api.State) string {
	number := map[bool]int{true: 1}
	out := ""
	for i, x := range l {
		if same(x, api.State{}) {
			continue
		}
		out += spell("face", i+1, number[x.Cracked], number[x.Lost], len(x.Layers))
		for _, y := range x.Layers {
			out += count("layer", y.Act) + " " + y.Name + "\n"
		}
	}
	return out + "wall\n"
}

// random returns commands of a script that draws, divides and plans early, most often, and lays many strokes.
func (d *dice) random(offices, count int) []command {
	var out []command
	add := func(i int) { out = append(out, d.commands(offices)[i]) }
	for _, i := range []int{1, 3, 2, 6, 7, 4, 4} {
		add(i)
	}
	for range count {
		if i := d.roll(25); i < 19 {
			add(i)
		} else {
			add(11)
		}
		if d.roll(3) == 0 {
			out = append(out, d.questions(offices)[d.roll(8)])
		}
	}
	return out
}

// P10.9: a script prints what the methods return; a beginning of it prints a beginning of this.
func TestScriptsAndMethods(t *testing.T) {
	for seed := range uint64(150) {
		d := &dice{seed}
		offices := 1 + d.roll(3)
		s := newSite(t, offices)
		text, wanted := spell("setup", offices, 20000), "ok\n"
		beginnings := []api.Pair{{A: len(text), B: len(wanted)}}
		for _, c := range d.random(offices, 60) {
			text += c.line
			wanted += c.answer(s)
			beginnings = append(beginnings, api.Pair{A: len(text), B: len(wanted)})
		}
		wants(t, "Run", of(site.Run(text)), wanted, 0, api.OK)
		for range 5 {
			x := beginnings[d.roll(len(beginnings))]
			wants(t, "Run of a beginning", of(site.Run(text[:x.A])), wanted[:x.B], 0, api.OK)
		}
	}
}
