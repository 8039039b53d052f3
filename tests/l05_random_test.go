package tests

import (
	"math/rand"
	"strings"
	"testing"

	"loop.example/g00014/impl"
)

// digestEnv has one level: that of expandEnv which counts, and a font.
func digestEnv() impl.Env {
	e := impl.Env{Levels: expandEnv().Levels[1:]}
	l := &e.Levels[0]
	l.Counts[31], l.Counts[15], l.Counts[16] = 3, 15, 16
	l.Lens[15], l.Lens[16], l.Glues[7], l.Glues[8] = 15, 16, glue(7, 0, 0, 0, 0), glue(8, 0, 0, 0, 0)
	return e
}

// sentences are what a text says as a rule; pieces are what it may be made of.
var sentences = []string{
	"a", "ab ", "~", "$x^2_{i}$", "&", "#", "\\unknown", "\x7f", "\\relax", "\n", "\n\n", "%\n", "\\par ", "{", "}", "{a}", "\\begingroup ", "\\endgroup ", "\\begingroup a\\endgroup ",
	"\\hskip 1pt plus 2fil", "\\vskip-\\glue 3 ", "\\kern 2pt", "\\kern\\len 2 ", "\\penalty-50 ", "\\rule 1pt 2pt 3pt ", "\\indent ", "\\noindent ", "\\font 4 ", "\\font\\count 1 ", "\\message{a\\bare\\noexpand\\bare}", "\\write{\\the\\count 1}", "\\mark\\relax {x}",
	"\\hbox{", "\\vbox{", "\\hbox to 3pt{", "\\vbox spread-3pt {", "\\hbox spread\\len 2{a}", "\\note 3{", "\\table 2 {", "\\frac ", "\\root ", "\\over ", "\\row ", "\\span 2 ", "\\shipout ", "\\box 3 ", "\\setbox 4 ",
	"\\count 1=5 ", "\\count 2 -7 ", "\\len 2=1pt", "\\len 3 \\len 2 ", "\\glue 4=1pt plus 1fil", "\\glue 3\\glue 4 ", "\\toks 4={a#{b}}", "\\toks 5{\\bare}", "\\cat`@=11 ", "\\cat 64 13 ", "\\cat`\\~=0 ", "\\cat 98=2 ", "\\the\\toks 4 ",
	"\\global\\count 1=6 ", "\\global \\relax\\global\\len 2 2pt", "\\global\\def\\y{y}", "\\global\\let\\w\\bare ", "\\global\\cat 33 1 ", "\\global\\advance\\count 1 by 1 ", "\\global\\toks 4{g}",
	"\\def\\y#1{<#1>}", "\\y a", "\\y{bc}", "\\gdef\\y#1.#2{#2#1}", "\\y a.b", "\\edef\\y{\\bare\\the\\count 1}", "\\edef\\z#1{\\noexpand\\y#1}", "\\z x", "\\def\\w{\\def\\v##1{[##1]}}", "\\w\\v q",
	"\\let\\z=a", "\\let\\z\\unknown ", "\\let\\w= \\y", "\\let\\y={", "\\let\\z}", "\\let\\z$", "\\let\\par\\relax ",
	"\\advance\\count 1 by 3 ", "\\advance\\count 2-3 ", "\\times\\count 1 by-3 ", "\\divide\\count 1 2 ", "\\advance\\len 2 by 1pt", "\\times\\len 2 by 3 ", "\\divide\\len 2 by-3 ", "\\advance\\glue 3 by 1pt plus 1fil minus 3pt",
}

var pieces = []string{
	"\\def", "\\gdef", "\\edef", "\\let", "\\global", "\\count", "\\len", "\\glue", "\\toks", "\\advance", "\\times", "\\divide", "\\cat", "\\hbox", "\\vbox", "\\note", "\\table", "\\span", "\\box", "\\setbox", "\\font", "\\message", "\\write", "\\mark", "\\hskip", "\\vskip", "\\kern", "\\penalty", "\\rule",
	"\\y", "\\z", "\\w", "#1", "##", "#", "#2", "#0", "by", " by ", "to", " to", "spread", "t", "sp", "=", " = ", "0", "31", "32", "16", "15", "20", "21", "255", "256", "-1", "99999999999", "1pt", "0pt", "{", "}", " ", "{a}", "{#1}", "\\blank", "\\opened", "\\csname\\endcsname", "\\expandafter", "\\relax", "\\string", "\\number",
}

// randomJob is a text of sentences, of pieces and of what chapter 4 is tried with.
func randomJob(r *rand.Rand, most int) string {
	var text strings.Builder
	for range r.Intn(most + 1) {
		from := sentences
		switch r.Intn(8) {
		case 0:
			from = pieces
		case 1:
			from = snippets
		}
		text.WriteString(from[r.Intn(len(from))])
	}
	return text.String()
}

func TestDigestAtRandom(t *testing.T) {
	t.Parallel()
	r := rand.New(rand.NewSource(21))
	e := digestEnv()
	var codes [200]int
	var kinds [impl.CmdRight + 1]int
	for range 8000 {
		got := checkDigest(t, e, randomJob(r, 20), r.Int63n(90))
		codes[got.Code]++
		for _, c := range got.Cmds {
			kinds[c.Kind]++
		}
	}
	for _, code := range []int64{impl.DigOk, impl.DigBudget, impl.DigOpen, impl.DigAssign, impl.DigName, impl.DigMacro, impl.DigToks, impl.DigEnd, impl.DigRange, 102, 103, 104, 106, 107} {
		if codes[code] < 3 {
			t.Errorf("the code %d came only %d times", code, codes[code])
		}
	}
	for kind := impl.CmdChar; kind <= impl.CmdRight; kind++ {
		if kinds[kind] < 50 {
			t.Errorf("the command %d came only %d times", kind, kinds[kind])
		}
	}
}

// Pieces alone: most of such texts end early, at every place at which a text may.
func TestDigestOfPiecesAtRandom(t *testing.T) {
	t.Parallel()
	r := rand.New(rand.NewSource(22))
	e := digestEnv()
	for range 12000 {
		var text strings.Builder
		for range 1 + r.Intn(6) {
			text.WriteString(pieces[r.Intn(len(pieces))])
		}
		checkDigest(t, e, text.String(), 40)
	}
}
