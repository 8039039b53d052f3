package tests

import (
	"slices"
	"strings"
	"testing"

	"loop.example/g00014/impl"
)

// stopCase is a text that ends all: the code, where it is reached, and what it costs.
type stopCase struct {
	code       int64
	done, rest string
	cost       int64
}

func stops(code int64, texts ...string) []stopCase {
	var out []stopCase
	for _, text := range texts {
		done, rest, _ := strings.Cut(text, "!")
		out = append(out, stopCase{code, done, rest, 1})
	}
	return out
}

func costing(cost int64, cases []stopCase) []stopCase {
	for i := range cases {
		cases[i].cost = cost
	}
	return cases
}

// Each of these is reached at the mark, or at its end.
func stopCases() []stopCase {
	return slices.Concat(
		stops(impl.DigOpen, "\\hbox x", "\\hbox t", "\\hbox tx", "\\vbox sprea", "\\hbox spreae! 1pt{}", "\\hbox\\relax!{}", "\\hbox}", "\\hbox\\nono", "\\vbox to 1pt x", "\\vbox spread 1pt\\relax!{", "\\note 1x", "\\note 1\\relax!{", "\\table 1 x", "\\table 1}", "\\message x", "\\message}", "\\write\\nono", "\\mark\\relax x", "\\message\\hbox!{}", "\\hbox \n\n"),
		stops(impl.DigAssign, "\\global x", "\\global{", "\\global\\font! 3 ", "\\global\\hbox!{}", "\\global\\nono", "\\global\\par", "\\global\\relax \\global x", "\\global", "\\global ", "\\global\\relax", "\\global\\global\\relax ", "\\advance x", "\\advance\\toks! 1 ", "\\advance\\relax!\\count 1 1 ", "\\advance\\cat! 1 1 ", "\\advance\\def", "\\advance\\global", "\\advance", "\\advance ", "\\times x", "\\times\\glue! 1 2 ", "\\times", "\\divide\\glue! 1 2 ", "\\divide", "\\divide\\nono", "\\global\\advance", "\\global\\times\\glue! 4 2 "),
		stops(impl.DigName, "\\def x!{}", "\\def{!}{}", "\\gdef~!{}", "\\edef 1!{}", "\\let x!=a", "\\let=!\\y a", "\\let#", "\\def}", "\\global\\let}"),
		stops(impl.DigMacro, "\\def\\y#2{}", "\\def\\y#1#1{}", "\\def\\y#2#1{}", "\\def\\y#0!{}", "\\def\\y##!1{}", "\\def\\y#{!}", "\\def\\y#a!{}", "\\def\\y#1##!2{}", "\\def\\y#\\y!{}", "\\def\\y{#1}", "\\def\\y{#}", "\\def\\y{a#}", "\\def\\y{#a}", "\\def\\y{#0}", "\\def\\y#1{#2}", "\\def\\y#1{#1#}", "\\def\\y{###}", "\\def\\y{#{}}", "\\def\\y{#\\x}", "\\def\\y}{}", "\\def\\y#1}{a}", "\\gdef\\y{#}", "\\edef\\y{#}", "\\edef\\y#1{#2}", "\\def\\y#1#2#3#4#5#6#7#8#9#1{}", "\\global\\def\\y{#1}"),
		stops(impl.DigToks, "\\toks 1x", "\\toks 1=x", "\\toks 1}", "\\toks 1 = \\relax}", "\\toks 1\\nono!{}", "\\global\\toks 1=\\hbox!{}", "\\toks 1==!{}"),
		stops(impl.DigEnd, "\\kern", "\\kern-", "\\kern 1", "\\kern 1.", "\\kern 1p", "\\kern .", "\\kern-.p", "\\kern..", "\\kern\\len", "\\hskip", "\\hskip 1", "\\hskip 1pt plus", "\\hskip 1pt plus 1", "\\hskip 1pt plus 1f", "\\hskip 1pt plus .p", "\\hskip 1pt plus 1fil minus .f", "\\hskip .", "\\hskip 1pt minus ", "\\vskip\\glue", "\\penalty", "\\penalty -", "\\penalty`", "\\penalty\\count", "\\rule", "\\rule 1pt", "\\rule 1pt 1pt", "\\rule 1pt 1pt 1", "\\font", "\\box", "\\setbox", "\\span", "\\note", "\\note 1", "\\note 1 ", "\\table", "\\table 2", "\\hbox", "\\hbox ", "\\hbox to", "\\hbox to 1", "\\hbox to 1pt", "\\hbox to 1pt ", "\\vbox", "\\vbox spread", "\\vbox spread 1pt",
			"\\message", "\\message\\relax", "\\message{", "\\message{a", "\\message{{a}", "\\message{\\x\\kern", "\\write", "\\write{", "\\mark ", "\\def", "\\def\\y", "\\def\\y#", "\\def\\y#1", "\\def\\y#2", "\\def\\y}", "\\def\\y a", "\\def\\y{", "\\def\\y{{}", "\\def\\y#1{#1", "\\gdef", "\\gdef\\y{", "\\edef", "\\edef\\y", "\\edef\\y{\\nono", "\\let", "\\let\\y", "\\let\\y=", "\\let\\1 ", "\\let\\1 =",
			"\\count", "\\count 1", "\\count 1=", "\\count 1= ", "\\count 1=-", "\\count 1=`", "\\count 1=\\count", "\\len 1", "\\len 1=", "\\len 1=1", "\\len 1=1p", "\\glue 1=", "\\glue 1=1pt plus", "\\toks", "\\toks 1", "\\toks 1=", "\\toks 1 = \\relax", "\\toks 1{", "\\toks 1={{a}", "\\cat", "\\cat 1", "\\cat 1=", "\\global\\count", "\\global\\def\\y{", "\\advance\\count", "\\advance\\count 1", "\\advance\\count 1 by", "\\advance\\count 1 by -", "\\advance\\len 1 by", "\\advance\\len 1 by 1", "\\advance\\glue 1", "\\times\\count 1", "\\times\\len 1 by", "\\divide\\len", "\\divide\\count 1 "),
		stops(impl.DigRange, "\\count 32 !=1 ", "\\count -1 !=1 ", "\\count 32=!1 ", "\\count 2147483647 ", "\\len 32 !1pt", "\\len-1 ", "\\glue 32 !1pt", "\\glue -1 ", "\\toks 32 !{}", "\\toks-1 !{}", "\\font 16 !a", "\\font -1 ", "\\box 16 ", "\\box-1 ", "\\setbox 16 ", "\\setbox-1 ", "\\note 16 !{}", "\\note-1 !{}", "\\table 0 !{}", "\\table 21 !{}", "\\table-1 ", "\\span 0 ", "\\span 21 ", "\\span-1 ", "\\cat 256 !1 ", "\\cat -1 !1 ", "\\cat 1=16 ", "\\cat 1=-1 ", "\\cat 1 2147483647 ", "\\advance\\count 32 !1 ", "\\advance\\len 32 !1pt", "\\advance\\glue 32 !1pt", "\\advance\\count-1 !1 ", "\\times\\count 32 ", "\\divide\\len 32 ", "\\advance\\count 1 by 2147483643 ", "\\advance\\count 4 by-2147483647 ", "\\times\\count 1 by 429496730 ", "\\times\\count 1 by-2147483647 ", "\\divide\\count 1 by 0 ", "\\divide\\len 4 by 0 ", "\\times\\len 4 by 2 ", "\\times\\len 4 by -2147483647 ", "\\advance\\len 4 by 1sp ", "\\advance\\len 5-1sp ", "\\advance\\glue 4 by 1sp ", "\\advance\\glue 4 by 0pt plus 1sp ", "\\advance\\glue 4 by 0pt minus 1sp ", "\\global\\count 32 ", "\\global\\advance\\count 1 by 2147483643 "),
		stops(impl.DigExp+impl.ExpNumber, "\\kern x", "\\kern x!y", "\\kern .pt", "\\kern .pt!x", "\\kern .pt! ", "\\kern ..p!t", "\\kern .\\relax!{}", "\\kern .x\\relax!{}", "\\hskip .pt! plus", "\\hskip 1pt plus .pt!x", "\\hskip 1pt plus .filll!l", "\\kern{!1pt}", "\\kern\\nono", "\\hskip x", "\\hskip 1pt plus x", "\\vskip 1pt minus{", "\\penalty x", "\\penalty\\len! 1 ", "\\font x", "\\box{!1}", "\\setbox\\relax", "\\span&", "\\rule 1pt 1pt x", "\\hbox to x!pt{}", "\\hbox spread{", "\\note x", "\\table{", "\\count x", "\\count{!1}", "\\count 1=x", "\\count 1==!1", "\\len 1=x", "\\len 1=1xx!x", "\\glue 1=x", "\\toks x", "\\cat x", "\\cat 1=x", "\\advance\\count x", "\\advance\\count 1 x", "\\advance\\count 1 b", "\\advance\\count 1 bx", "\\advance\\count 1 by x", "\\advance\\len 1 by x", "\\times\\len 1 by x", "\\divide\\count 1 by\\len", "\\number x", "\\global\\count 1=x"),
		stops(impl.DigExp+impl.ExpRange, "\\kern 16384pt! ", "\\penalty 2147483648 !a", "\\count 1=-2147483648 ", "\\count\\count 32 !=", "\\len 1=\\len 32 ", "\\glue 1=1pt plus 16384fil", "\\hskip\\glue-1 ", "\\the\\toks 32 ", "\\font 99999999999 ", "\\hbox to 16384pt!{}", "\\advance\\count 1 by\\count 32 "),
		stops(impl.DigExp+impl.ExpName, "\\the x", "\\the\\nono", "\\csname\\relax!\\endcsname", "\\csname a\\noexpand", "\\ifnum 1x", "\\csname "+strings.Repeat("n", 41)+"!n\\endcsname"),
		stops(impl.DigEnd, "\\number", "\\string", "\\expandafter", "\\expandafter a", "\\iffalse a", "\\iffalse\\iftrue\\fi", "\\csname a", "\\the", "\\the\\count", "\\ifnum 1<", "\\ifsame a", "\\ifcase 1 a", "\\else"),
		costing(2, stops(impl.DigEnd, "\\message{\\number}!1", "\\message{\\string}!a", "\\edef\\y{\\expandafter a}!\\x", "\\write{\\iffalse}!\\fi", "\\mark{\\the\\count}!1", "\\mark{}\\mark{", "\\def\\y#1{}\\y", "\\def\\y#1.{}\\y a", "\\def\\y#1#2{}\\y a")),
		costing(2, stops(impl.DigExp+impl.ExpUse, "\\def\\y.{}\\y,!.")), costing(2, stops(impl.DigExp+impl.ExpExtra, "\\def\\y#1{}\\y}!a", "\\def\\y#1.{}\\y a}!.")), costing(2, stops(impl.DigExp+impl.ExpName, "\\message{\\the x}!}")), costing(2, stops(impl.DigExp+impl.ExpNumber, "\\edef\\y{\\number x}!}")), costing(2, stops(impl.DigExp+impl.ExpRange, "\\write{\\the\\count 32}!}")),
		costing(3, stops(impl.DigMacro, "\\edef\\y{\\iffalse{\\else}\\fi a}!}")),
	)
}

// ahead is a text of which all is done ahead of what ends all, what it gives, and what it costs.
const aheadText = "a\\count 1=5 \\nono{\\count 2=6 \\global\\count 3=7 b"
const aheadCost = 7

func TestWhatStandsTillACode(t *testing.T) {
	e := impl.NewEnv()
	e.Levels[0].Counts[4], e.Levels[0].Lens[4], e.Levels[0].Lens[5] = -1, impl.MaxLen, -impl.MaxLen
	e.Levels[0].Glues[4] = glue(impl.MaxLen, impl.MaxLen, 0, impl.MaxLen, 0)
	env := setAll(t, e, []impl.Set{setCount(1, 5), setCount(3, 7)})
	given := then(typed("a", 0), cmds(cmd(impl.CmdLeft)), typed("b", 0))
	for _, c := range stopCases() {
		ahead := aheadText
		want := impl.Digested{Env: env, Cmds: given, Notes: []string{"no meaning: \\nono "}, Code: c.code, At: int64(len(ahead) + len(c.done)), Left: 50 - aheadCost - c.cost}
		if strings.HasPrefix(c.done, "\\mark{}") {
			want.Cmds = then(given, cmds(cmdText(impl.CmdMark, "")))
		}
		got := impl.Digest(e, ahead+c.done+c.rest, 50)
		if !same(got, want) {
			got.Env, want.Env = differing(got.Env, want.Env)
			t.Errorf("%q %q:\n%+v, want\n%+v", c.done, c.rest, got, want)
		}
	}
}
