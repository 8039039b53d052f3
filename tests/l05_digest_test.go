package tests

import (
	"slices"
	"testing"

	"loop.example/g00014/impl"
)

func cmd(kind int64) impl.Cmd                         { return impl.Cmd{Kind: kind} }
func cmdN(kind, n int64) impl.Cmd                     { return impl.Cmd{Kind: kind, N: n} }
func cmdNums(kind int64, ns ...int64) impl.Cmd        { return impl.Cmd{Kind: kind, Nums: ns} }
func cmdText(kind int64, text string) impl.Cmd        { return impl.Cmd{Kind: kind, Text: text} }
func cmdGlue(kind int64, g impl.Glue) impl.Cmd        { return impl.Cmd{Kind: kind, Glue: g} }
func cmds(cs ...impl.Cmd) []impl.Cmd                  { return cs }
func then(rows ...[]impl.Cmd) []impl.Cmd              { return slices.Concat(rows...) }
func grouped(cs ...impl.Cmd) []impl.Cmd               { return around(cmd(impl.CmdLeft), cs, impl.CmdRight) }
func boxed(first impl.Cmd, cs ...impl.Cmd) []impl.Cmd { return around(first, cs, impl.CmdEnd) }

func around(first impl.Cmd, cs []impl.Cmd, last int64) []impl.Cmd {
	return then(cmds(first), cs, cmds(cmd(last)))
}

// typed are the commands of letters and blanks in a font.
func typed(text string, font int64) []impl.Cmd {
	var out []impl.Cmd
	for i := range len(text) {
		if text[i] == ' ' {
			out = append(out, cmdNums(impl.CmdSpace, font))
		} else {
			out = append(out, impl.Cmd{Kind: impl.CmdChar, N: int64(text[i]), Nums: []int64{font}})
		}
	}
	return out
}

// parOf is the CmdPar that comes with what a level has set.
func parOf(l impl.Level) impl.Cmd {
	return impl.Cmd{Kind: impl.CmdPar, Nums: slices.Concat(l.Counts[:16], l.Lens[:16]), Glues: l.Glues[:8]}
}

// digestCase is a text that is digested in whole: what it gives ahead of the last CmdPar, what it tells, what it sets, and what it costs.
type digestCase struct {
	text  string
	cost  int64
	cmds  []impl.Cmd
	notes []string
	sets  []impl.Set
}

func gives(text string, cost int64, cs ...impl.Cmd) digestCase {
	return digestCase{text: text, cost: cost, cmds: cs}
}

func tells(text string, cost int64, notes ...string) digestCase {
	return digestCase{text: text, cost: cost, notes: notes}
}

func sets(text string, cost int64, ss ...impl.Set) digestCase {
	return digestCase{text: text, cost: cost, sets: ss}
}

func (c digestCase) with(cs ...impl.Cmd) digestCase {
	c.cmds = cs
	return c
}

func (c digestCase) telling(notes ...string) digestCase {
	c.notes = notes
	return c
}

func (c digestCase) setting(ss ...impl.Set) digestCase {
	c.sets = ss
	return c
}

// setAll is an environment with all that is set in its first level.
func setAll(t *testing.T, e impl.Env, ss []impl.Set) impl.Env {
	t.Helper()
	for _, s := range ss {
		e = mustSet(t, e, s, true)
	}
	return e
}

// check digests the text with just what it costs, with more, with as much as may be, and with too little.
func (c digestCase) check(t *testing.T, e impl.Env) {
	t.Helper()
	env := setAll(t, e, c.sets)
	want := impl.Digested{Env: env, Cmds: then(c.cmds, cmds(parOf(env.Levels[0]))), Notes: c.notes, At: int64(len(c.text))}
	for _, budget := range []int64{c.cost, c.cost + 1, impl.MaxBudget} {
		want.Left = budget - c.cost
		got := impl.Digest(e, c.text, budget)
		if !same(got, want) {
			got.Env, want.Env = differing(got.Env, want.Env)
			t.Errorf("%q with %d:\n%+v, want\n%+v", c.text, budget, got, want)
			return
		}
	}
	for budget := range c.cost {
		got := impl.Digest(e, c.text, budget)
		if got.Code != impl.DigBudget || got.Left != 0 || !same(got.Cmds, c.cmds[:min(len(got.Cmds), len(c.cmds))]) {
			t.Errorf("%q with only %d: %d, left %d, %+v", c.text, budget, got.Code, got.Left, got.Cmds)
		}
	}
}

func TestCharactersBecomeCommands(t *testing.T) {
	e := impl.NewEnv()
	for _, c := range []digestCase{
		gives("", 0), gives("a", 1, typed("a", 0)...), gives("aZ1.@", 5, typed("aZ1.@", 0)...), gives("a b", 3, typed("a b", 0)...), gives("a\n", 2, typed("a ", 0)...), gives("a%\nb", 2, typed("ab", 0)...), gives("  a  \t b", 3, typed("a b", 0)...),
		gives("\xff\x80", 2, typed("\xff\x80", 0)...), gives("a\x00b", 2, typed("ab", 0)...),
		gives("~", 1, typed("~", 0)...).with(impl.Cmd{Kind: impl.CmdChar, N: 32, Nums: []int64{0}}),
		gives("$^_&", 4, cmd(impl.CmdMath), cmd(impl.CmdUp), cmd(impl.CmdDown), cmd(impl.CmdTab)),
		gives("{}", 2, grouped()...), gives("{a}", 3, grouped(typed("a", 0)...)...), gives("{a{b}}c", 7, then(grouped(then(typed("a", 0), grouped(typed("b", 0)...))...), typed("c", 0))...),
		gives("\\font 7 a b~", 5, then(typed("a b", 7), cmds(impl.Cmd{Kind: impl.CmdChar, N: 32, Nums: []int64{7}}))...).setting(setCount(31, 7)),
		gives("{\\font 7 a}b", 5, then(grouped(typed("a", 7)...), typed("b", 0))...), gives("\\count 31=-9 a", 2, typed("a", -9)...).setting(setCount(31, -9)),
		gives("\\iftrue a\\else b\\fi c", 4, typed("ac", 0)...), gives("\\number 12 x\\string\\y", 7, typed("12x\\y", 0)...), gives("\\expandafter a\\number 1 ", 4, typed("a1", 0)...), gives("\\csname relax\\endcsname a", 3, typed("a", 0)...),
		gives("\\relax\\endcsname\\noexpand\\fi a", 5, typed("a", 0)...), gives("\\noexpand\\number 1 a", 4, typed("1a", 0)...),
		gives("$\\frac ab\\root c\\over$", 8, then(cmds(cmd(impl.CmdMath), cmd(impl.CmdFrac)), typed("ab", 0), cmds(cmd(impl.CmdRoot)), typed("c", 0), cmds(cmd(impl.CmdOver), cmd(impl.CmdMath)))...),
	} {
		c.check(t, e)
	}
}

// A name that means a character is done as that one is.
func TestNamesThatMeanCharacters(t *testing.T) {
	e := impl.NewEnv()
	for n, c := range map[string]impl.Token{"l": letter('q'), "o": char(5, '?'), "s": space(), "open": open(), "shut": shut(), "m": char(impl.CatMath, 'x'), "u": char(impl.CatUp, 'x'), "d": char(impl.CatDown, 'x'), "t": char(impl.CatTab, 'x'), "p": char(impl.CatParam, 'x'), "a": char(impl.CatActive, 'x')} {
		e = mustSet(t, e, setName(n, means(c)), false)
	}
	for _, c := range []digestCase{
		gives("\\l\\o\\s", 3, typed("q? ", 0)...), gives("\\m\\u\\d\\t", 4, cmd(impl.CmdMath), cmd(impl.CmdUp), cmd(impl.CmdDown), cmd(impl.CmdTab)), gives("\\a", 1, impl.Cmd{Kind: impl.CmdChar, N: 32, Nums: []int64{0}}), tells("\\p", 1, "stray parameter"),
		gives("\\open\\count 1=1 \\shut", 3, grouped()...), gives("{\\shut\\open}", 4, then(grouped(), grouped())...), gives("\\hbox{a\\shut", 3, boxed(cmdNums(impl.CmdHbox, 0, 0), typed("a", 0)...)...), tells("\\shut", 1, "stray close"),
		gives("\\global\\s\\relax\\s\\count 1=2 ", 1).setting(setCount(1, 2)), gives("\\mark\\s{a}\\s", 2, cmdText(impl.CmdMark, "a"), cmdNums(impl.CmdSpace, 0)), gives("\\advance\\s\\count 1 2 ", 1).setting(setCount(1, 2)), gives("\\count 1\\s=2 ", 1).setting(setCount(1, 2)), gives("\\toks 1=\\s{a}", 1).setting(setToks(1, letter('a'))), gives("\\let\\x\\s=b", 1).setting(setName("x", means(letter('b')))),
	} {
		c.check(t, e)
	}
	checkCodes(t, e, impl.DigOpen, "\\hbox\\open", "\\hbox\\s{", "\\vbox to 1pt\\open", "\\note 1\\open", "\\table 1\\open", "\\message\\open", "\\write\\open", "\\mark\\open")
	checkCodes(t, e, impl.DigToks, "\\toks 1\\open", "\\toks 1=\\open a}")
	checkCodes(t, e, impl.DigExp+impl.ExpNumber, "\\count 1\\l", "\\count 1=\\s 2 ", "\\kern\\s 1pt", "\\hskip\\s 1pt")
}

// checkCodes: each of these texts ends with that code.
func checkCodes(t *testing.T, e impl.Env, code int64, texts ...string) {
	t.Helper()
	for _, text := range texts {
		if got := checkDigest(t, e, text, 60); got.Code != code {
			t.Errorf("%q: %d, want %d", text, got.Code, code)
		}
	}
}

func TestPrimitivesBecomeCommands(t *testing.T) {
	e := impl.NewEnv()
	const pt = impl.Point
	for _, c := range []digestCase{
		gives("\\hskip 1pt", 1, cmdGlue(impl.CmdHskip, glue(pt, 0, 0, 0, 0))), gives("\\hskip-1pt plus 2fil minus 3filll", 1, cmdGlue(impl.CmdHskip, glue(-pt, 2*pt, 1, 3*pt, 3))), gives("\\vskip 0pt plus 1fill", 1, cmdGlue(impl.CmdVskip, glue(0, pt, 2, 0, 0))), gives("\\hskip 1pt plus 2pt minus 3pt a", 2, then(cmds(cmdGlue(impl.CmdHskip, glue(pt, 2*pt, 0, 3*pt, 0))), typed("a", 0))...), gives("\\vskip\\glue 3\\relax", 2, cmdGlue(impl.CmdVskip, impl.Glue{})),
		gives("\\kern 2pt a", 2, then(cmds(cmdN(impl.CmdKern, 2*pt)), typed("a", 0))...), gives("\\kern-1073741823sp", 1, cmdN(impl.CmdKern, -impl.MaxLen)), gives("\\penalty 50 ", 1, cmdN(impl.CmdPenalty, 50)), gives("\\penalty-2147483647", 1, cmdN(impl.CmdPenalty, -impl.MaxCount)), gives("\\penalty`a", 1, cmdN(impl.CmdPenalty, 97)),
		gives("\\rule 1pt 2pt 3pt", 1, cmdNums(impl.CmdRule, pt, 2*pt, 3*pt)), gives("\\rule 1pt2pt-3pt4", 2, then(cmds(cmdNums(impl.CmdRule, pt, 2*pt, -3*pt)), typed("4", 0))...), gives("\\rule\\len 1\\len 2\\len 3 ", 1, cmdNums(impl.CmdRule, 0, 0, 0)),
		gives("\\indent\\noindent", 2, cmd(impl.CmdIndent), cmd(impl.CmdNoindent)), gives("\\shipout", 1, cmd(impl.CmdShipout)), gives("\\row\\frac\\root\\over", 4, cmd(impl.CmdRow), cmd(impl.CmdFrac), cmd(impl.CmdRoot), cmd(impl.CmdOver)),
		gives("\\span 1 \\span 20 ", 2, cmdN(impl.CmdSpan, 1), cmdN(impl.CmdSpan, 20)), gives("\\box 0 \\box 15 ", 2, cmdN(impl.CmdBox, 0), cmdN(impl.CmdBox, 15)), gives("\\setbox 0\\setbox 15", 2, cmdN(impl.CmdSetbox, 0), cmdN(impl.CmdSetbox, 15)),
		gives("\\hbox{a}", 3, boxed(cmdNums(impl.CmdHbox, 0, 0), typed("a", 0)...)...), gives("\\vbox{}", 2, boxed(cmdNums(impl.CmdVbox, 0, 0))...), gives("\\hbox to 3pt{}", 2, boxed(cmdNums(impl.CmdHbox, 1, 3*pt))...), gives("\\vbox to-3pt {}", 2, boxed(cmdNums(impl.CmdVbox, 1, -3*pt))...), gives("\\hbox spread 3pt{}", 2, boxed(cmdNums(impl.CmdHbox, 2, 3*pt))...), gives("\\vbox  spread-3pt{}", 2, boxed(cmdNums(impl.CmdVbox, 2, -3*pt))...), gives("\\hbox to\\len 1{}", 2, boxed(cmdNums(impl.CmdHbox, 1, 0))...), gives("\\hbox\n{}", 2, boxed(cmdNums(impl.CmdHbox, 0, 0))...), gives("\\hbox\\iftrue to\\fi 3pt\\iftrue{}\\fi", 6, boxed(cmdNums(impl.CmdHbox, 1, 3*pt))...), gives("\\hbox to 3pt \\iftrue{}\\fi", 4, boxed(cmdNums(impl.CmdHbox, 1, 3*pt))...),
		gives("\\note 0{a}", 3, boxed(cmdN(impl.CmdNote, 0), typed("a", 0)...)...), gives("\\note 15 {}", 2, boxed(cmdN(impl.CmdNote, 15))...), gives("\\table 1{}", 2, boxed(cmdN(impl.CmdTable, 1))...), gives("\\table 20 {}", 2, boxed(cmdN(impl.CmdTable, 20))...),
		gives("\\table 2{a&b\\row\\span 2 c}", 8, boxed(cmdN(impl.CmdTable, 2), then(typed("a", 0), cmds(cmd(impl.CmdTab)), typed("b", 0), cmds(cmd(impl.CmdRow), cmdN(impl.CmdSpan, 2)), typed("c", 0))...)...),
		gives("\\hbox{\\vbox{\\note 2{}}}", 6, boxed(cmdNums(impl.CmdHbox, 0, 0), boxed(cmdNums(impl.CmdVbox, 0, 0), boxed(cmdN(impl.CmdNote, 2))...)...)...), gives("\\hbox{{a}}", 5, boxed(cmdNums(impl.CmdHbox, 0, 0), grouped(typed("a", 0)...)...)...), gives("\\setbox 3\\hbox{a}\\box 3 ", 5, then(cmds(cmdN(impl.CmdSetbox, 3)), boxed(cmdNums(impl.CmdHbox, 0, 0), typed("a", 0)...), cmds(cmdN(impl.CmdBox, 3)))...),
		gives("\\write{a b}", 1, cmdText(impl.CmdWrite, "a b")), gives("\\mark{}", 1, cmdText(impl.CmdMark, "")), gives("\\write{{\\count\\x#}}", 1, cmdText(impl.CmdWrite, "{\\count \\x #}")), gives("\\mark{\\number 7\\noexpand\\fi\\string\\x}", 3, cmdText(impl.CmdMark, "7\\fi \\x")), gives("\\mark\\relax\\relax{a}b", 2, then(cmds(cmdText(impl.CmdMark, "a")), typed("b", 0))...), gives("\\write\\iftrue{a}\\fi", 3, cmdText(impl.CmdWrite, "a")), gives("\\toks 1{ \\relax}\\write\\the\\toks 1{a}", 3, cmdText(impl.CmdWrite, "a")).setting(setToks(1, space(), name("relax"))),
	} {
		c.check(t, e)
	}
}

func TestParHoldsItsRegisters(t *testing.T) {
	e := impl.NewEnv()
	l := &e.Levels[0]
	for i := range int64(32) {
		l.Counts[i], l.Lens[i], l.Glues[i] = 100+i, 200+i, glue(300+i, i, 1, i, 2)
	}
	text := "\\par{\\count 15=1 \\len 0=1sp \\len 15=2sp \\glue 0=3sp \\glue 7=4sp \\count 16=0 \\len 16=0sp \\glue 8=0sp \\par}\n\n\\global\\count 0=5 "
	inner := mustOpen(t, e)
	for _, s := range []impl.Set{setCount(15, 1), setLen(0, 1), setLen(15, 2), setWholeGlue(0, glue(3, 0, 0, 0, 0)), setWholeGlue(7, glue(4, 0, 0, 0, 0))} {
		inner = mustSet(t, inner, s, false)
	}
	after := mustSet(t, e, setCount(0, 5), false)
	want := cmds(parOf(*l), cmd(impl.CmdLeft), parOf(inner.Levels[1]), cmd(impl.CmdRight), cmdNums(impl.CmdSpace, 131), parOf(*l), parOf(after.Levels[0]))
	got := impl.Digest(e, text, 100)
	if got.Code != impl.DigOk || !same(got.Cmds, want) || !same(got.Env, after) {
		t.Errorf("%d %+v, want %+v", got.Code, got.Cmds, want)
	}
	if c := got.Cmds[0]; len(c.Nums) != 32 || len(c.Glues) != 8 || c.Nums[0] != 100 || c.Nums[15] != 115 || c.Nums[16] != 200 || c.Nums[31] != 215 || c.Glues[7] != glue(307, 7, 1, 7, 2) {
		t.Errorf("%+v", c)
	}
}

func TestNotes(t *testing.T) {
	e := impl.NewEnv()
	for _, c := range []digestCase{
		tells("\x7f", 0, "bad byte"), tells("\x7f\x7f", 0, "bad byte", "bad byte"), tells("\\nono", 1, "no meaning: \\nono "), tells("\\1", 1, "no meaning: \\1"), tells("\\", 1, "no meaning: \\"), tells("\\ab1", 2, "no meaning: \\ab ").with(typed("1", 0)...), tells("\\csname a1\\endcsname", 2, "no meaning: \\a1"),
		tells("#", 1, "stray parameter"), tells("}", 1, "stray close"), tells("\\endgroup", 1, "stray endgroup"), tells("{", 1, "open group").with(grouped()...), tells("\\begingroup", 1, "open group"), tells("\\hbox{", 1, "open group").with(boxed(cmdNums(impl.CmdHbox, 0, 0))...),
		tells("\\message{a b}", 1, "say: a b"), tells("\\message{}", 1, "say: "), tells("\\message\\relax{\\number 3\\x#}", 2, "say: 3\\x #"), tells("\\message{\x7f}", 1, "bad byte", "say: "),
		tells("\\begingroup}\\endgroup", 3, "stray close"), tells("{\\endgroup}", 3, "stray endgroup").with(grouped()...), tells("\\hbox{\\endgroup}", 3, "stray endgroup").with(boxed(cmdNums(impl.CmdHbox, 0, 0))...), tells("{\\begingroup}\\endgroup}", 5, "stray close").with(grouped()...), tells("\\begingroup{\\endgroup}\\endgroup", 5, "stray endgroup").with(grouped()...),
		tells("{\\begingroup\\vbox{", 3, "open group", "open group", "open group").with(grouped(boxed(cmdNums(impl.CmdVbox, 0, 0))...)...), tells("}{}}a\\endgroup", 6, "stray close", "stray close", "stray endgroup").with(then(grouped(), typed("a", 0))...), tells("\\x#}", 3, "no meaning: \\x ", "stray parameter", "stray close"),
		tells("\\def\\m#1{}\\m\x7f\x7fa", 2, "bad byte", "bad byte").setting(setName("m", macro(1, slots(1), nil))),
	} {
		c.check(t, e)
	}
}

// Behind end nothing is looked at any more.
func TestEnd(t *testing.T) {
	e := impl.NewEnv()
	for _, c := range []struct {
		text  string
		cost  int64
		cmds  []impl.Cmd
		notes []string
		sets  []impl.Set
	}{
		{"\\end", 1, nil, nil, nil}, {"a\\end", 2, typed("a", 0), nil, nil}, {"\\count 1=4\\end", 2, nil, nil, []impl.Set{setCount(1, 4)}}, {"{\\count 1=4\\end", 3, grouped(), []string{"open group"}, nil},
		{"{\\hbox{\\begingroup\\end", 4, grouped(boxed(cmdNums(impl.CmdHbox, 0, 0))...), []string{"open group", "open group", "open group"}, nil},
		{"\\toks 1{\\end x\\kern}\\the\\toks 1 ", 3, nil, nil, []impl.Set{setToks(1, toks("\\end x\\kern")...)}},
	} {
		for _, behind := range []string{"", " ", " b", "}\x7f\\nono\\kern x", "\n\n", "{\\end"} {
			got := impl.Digest(e, c.text+behind, 50)
			env := setAll(t, e, c.sets)
			want := impl.Digested{Env: env, Cmds: then(c.cmds, cmds(parOf(env.Levels[0]))), Notes: c.notes, At: int64(len(c.text)), Left: 50 - c.cost}
			if !same(got, want) {
				got.Env, want.Env = differing(got.Env, want.Env)
				t.Errorf("%q: %+v, want %+v", c.text+behind, got, want)
			}
		}
	}
}
