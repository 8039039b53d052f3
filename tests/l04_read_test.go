package tests

import (
	"math/rand"
	"slices"
	"strconv"
	"strings"
	"testing"

	"loop.example/g00014/impl"
)

type reading func(impl.Env, []impl.Token, int64) impl.Read

// checkReads: what each text is read as, what is left of it behind, and what it costs.
func checkReads(t *testing.T, read reading, cases []readCase) {
	t.Helper()
	e := expandEnv()
	for _, c := range cases {
		want := impl.Read{N: c.n, Glue: c.glue, Rest: toks(c.rest), Left: 100 - c.cost}
		if got := read(e, toks(c.text), 100); !same(got, want) {
			t.Errorf("%q: %+v, want %+v", c.text, got, want)
		}
	}
}

type readCase struct {
	text string
	n    int64
	glue impl.Glue
	rest string
	cost int64
}

func number(text string, n int64, rest string, cost int64) readCase {
	return readCase{text, n, impl.Glue{}, rest, cost}
}

func glued(text string, g impl.Glue, rest string, cost int64) readCase {
	return readCase{text, 0, g, rest, cost}
}

func TestReadNumberKnown(t *testing.T) {
	checkReads(t, impl.ReadNumber, []readCase{
		number("7", 7, "", 0), number("007x", 7, "x", 0), number("12 3", 12, "3", 0), number("12{}", 12, "{}", 0), number("0", 0, "", 0), number("-0", 0, "", 0),
		number("-5", -5, "", 0), number("--5", 5, "", 0), number("- + - -5", -5, "", 0), number("+5", 5, "", 0),
		number("2147483647", impl.MaxCount, "", 0), number("-2147483647", -impl.MaxCount, "", 0), number("0000000000000000000000000000001", 1, "", 0),
		number("`a", 'a', "", 0), number("`a b", 'a', "b", 0), number("`ab", 'a', "b", 0), number("-`a", -'a', "", 0), number("`7", '7', "", 0), number("`{}", '{', "}", 0), number("`~", '~', "", 0),
		number("`\\a", 'a', "", 0), number("`\\{ x", '{', "x", 0), number("`\\\\", '\\', "", 0), number("`\\-5", '-', "5", 0),
		number("\\count 1", 7, "", 0), number("\\count1 x", 7, "x", 0), number("-\\count 7 ", 3, "", 0), number("\\count\\count 1", -3, "", 0), number("\\count-0", impl.MaxCount, "", 0), number("\\count31\\relax", -impl.MaxCount, "\\relax", 0), number("-\\count31", impl.MaxCount, "", 0),
		number("\\digits", 12, "", 1), number("\\digits 3", 123, "", 1), number("3\\digits", 312, "", 1), number("\\none\\none-\\none5\\none 6\\none", -56, "", 5), number("3\\bare", 3, "xyz", 1), number("3 \\bare", 3, "\\bare", 0), number("`a\\bare", 'a', "xyz", 1), number("`a\\none b", 'a', "b", 1),
		number("\\iftrue 5\\else 6\\fi", 5, "", 2), number("\\iffalse 5\\else 6\\fi x", 6, "x", 2), number("\\number\\number 4", 4, "", 2), number("\\the\\count 1x", 7, "x", 1), number("4\\iffalse x\\fi 5y", 45, "y", 1),
		number("1\\noexpand\\bare", 1, "\\noexpand\\bare", 0), number("1\\blank2", 1, "\\blank2", 0),
	})
}

func TestReadLenKnown(t *testing.T) {
	checkReads(t, impl.ReadLen, []readCase{
		number("1pt", 65536, "", 0), number("1.5pt x", 98304, "x", 0), number("-1.5pt", -98304, "", 0), number("--.5pt", 32768, "", 0), number("1.pt", 65536, "", 0), number(" + 0.0pt", 0, "", 0),
		number("1mm", 186468, "", 0), number("1in", 4736287, "", 0), number("1pc", 786432, "", 0), number("1sp", 1, "", 0), number("0.4sp", 0, "", 0), number("-0.5sp", -1, "", 0),
		number("1073741823sp", impl.MaxLen, "", 0), number("-1073741823spx", -impl.MaxLen, "x", 0), number("16383.99999pt", impl.MaxLen, "", 0), number("000000000000001pt", 65536, "", 0), number("0.00000000000000pt", 0, "", 0),
		number("2ptplus", 131072, "plus", 0), number("2pt  x", 131072, "x", 0),
		number("\\len 2", 98304, "", 0), number("-\\len 2 x", -98304, "x", 0), number("\\len0", impl.MaxLen, "", 0), number("\\len31 ", -impl.MaxLen, "", 0), number("--\\len\\count1 ", -1, "", 0),
		number("\\digits pt", 12*65536, "", 1), number("1\\unit\\bare", 65536, "xyz", 2), number("1\\unit \\bare", 65536, "xyz", 2), number("1pt \\bare", 65536, "\\bare", 0), number("1\\none.\\none 5\\none p\\none t\\none\\none y", 98304, "y", 6), number("\\the\\len 2", 98304, "", 1), number("\\iftrue1\\else2\\fi pt", 65536, "", 2),
	})
	if got := impl.ReadLen(expandEnv(), list(char(5, '1'), char(5, 'p'), letter('t'), space(), space()), 0); got.N != 65536 || !same(got.Rest, list(space())) {
		t.Errorf("one space is taken: %+v", got)
	}
}

func TestReadGlueKnown(t *testing.T) {
	const pt = impl.Point
	checkReads(t, impl.ReadGlue, []readCase{
		glued("1pt", glue(pt, 0, 0, 0, 0), "", 0), glued("-1pt x", glue(-pt, 0, 0, 0, 0), "x", 0), glued("\\len 2 ", glue(98304, 0, 0, 0, 0), "", 0),
		glued("1pt plus 2pt", glue(pt, 2*pt, 0, 0, 0), "", 0), glued("1pt minus 2pt", glue(pt, 0, 0, 2*pt, 0), "", 0), glued("1ptplus2ptminus3pt", glue(pt, 2*pt, 0, 3*pt, 0), "", 0), glued("-1pt plus -2pt minus --3pt.", glue(-pt, -2*pt, 0, 3*pt, 0), ".", 0),
		glued("0pt plus 1fil", glue(0, pt, 1, 0, 0), "", 0), glued("0pt plus 1fill", glue(0, pt, 2, 0, 0), "", 0), glued("0pt plus 1filll", glue(0, pt, 3, 0, 0), "", 0), glued("0pt plus 1fillll", glue(0, pt, 3, 0, 0), "l", 0),
		glued("0pt minus 1fil", glue(0, 0, 0, pt, 1), "", 0), glued("0pt minus -1.5fill", glue(0, 0, 0, -98304, 2), "", 0), glued("0pt plus .5fil minus 2.filll", glue(0, pt/2, 1, 2*pt, 3), "", 0), glued("0pt plus 0fil", glue(0, 0, 1, 0, 0), "", 0),
		glued("1pt plus 2fill minus3pt.", glue(pt, 2*pt, 2, 3*pt, 0), ".", 0), glued("1pt plus 2filx", glue(pt, 2*pt, 1, 0, 0), "x", 0), glued("1pt plus 2pt x", glue(pt, 2*pt, 0, 0, 0), "x", 0), glued("1pt plus\\len 2 minus-\\len 2 x", glue(pt, 98304, 0, -98304, 0), "x", 0),
		glued("1pt minus 2pt plus 3pt", glue(pt, 0, 0, 2*pt, 0), "plus 3pt", 0), glued("1pt pluto", glue(pt, 0, 0, 0, 0), "pluto", 0), glued("1pt plu", glue(pt, 0, 0, 0, 0), "plu", 0), glued("1ptpl us", glue(pt, 0, 0, 0, 0), "pl us", 0), glued("1pt plus 2pt minu", glue(pt, 2*pt, 0, 0, 0), "minu", 0), glued("1pt m", glue(pt, 0, 0, 0, 0), "m", 0), glued("1pt Plus 2pt", glue(pt, 0, 0, 0, 0), "Plus 2pt", 0), glued("1pt p{lus}", glue(pt, 0, 0, 0, 0), "p{lus}", 0),
		glued("\\glue 3", glue(65536, 131072, 2, -196608, 0), "", 0), glued("-\\glue 3 x", glue(-65536, -131072, 2, 196608, 0), "x", 0), glued("--\\glue0", glue(impl.MaxLen, -impl.MaxLen, 3, impl.MaxLen, 1), "", 0), glued("-\\glue0\\relax", glue(-impl.MaxLen, impl.MaxLen, 3, -impl.MaxLen, 1), "\\relax", 0), glued("\\glue 31 plus 1pt", glue(-impl.MaxLen, 0, 2, 0, 0), "plus 1pt", 0),
		glued("1073741823sp plus 16383.99999fil minus -1073741823sp", glue(impl.MaxLen, impl.MaxLen, 1, -impl.MaxLen, 0), "", 0),
		glued("1pt\\words", glue(pt, pt, 0, 0, 0), "", 1), glued("\\digits pt\\words minus\\digits fi\\iftrue lll\\fi", glue(12*pt, pt, 0, 12*pt, 3), "\\fi", 4), glued("1pt pl\\none us\\none 2fi\\none l\\none l\\none x", glue(pt, 2*pt, 2, 0, 0), "x", 5), glued("1pt \\bare", glue(pt, 0, 0, 0, 0), "xyz", 1), glued("1pt p\\bare", glue(pt, 0, 0, 0, 0), "pxyz", 1), glued("\\the\\glue 3", glue(65536, 131072, 2, -196608, 0), "", 1),
	})
	spaced := append(toks("1pt"), space(), space(), space(), letter('q'))
	if got := impl.ReadGlue(expandEnv(), spaced, 0); !same(got.Rest, spaced[4:]) {
		t.Errorf("spaces with no word behind them stay, but one: %+v", got)
	}
	if got := impl.ReadGlue(expandEnv(), toks("1pt plus 2fil x"), 0); got.Glue != glue(pt, 2*pt, 1, 0, 0) || !same(got.Rest, list(space(), letter('x'))) {
		t.Errorf("the space behind a share stays: %+v", got)
	}
	for _, cat := range []int64{impl.CatLetter, impl.CatOther} {
		ts := append(toks("1pt"), space(), space(), char(cat, 'p'), char(9-cat, 'l'), char(cat, 'u'), char(cat, 's'), char(5, '2'), char(cat, 'f'), char(cat, 'i'), char(cat, 'l'))
		if got := impl.ReadGlue(expandEnv(), ts, 0); got.Glue != glue(pt, 2*pt, 1, 0, 0) || len(got.Rest) != 0 {
			t.Errorf("words of category %d: %+v", cat, got)
		}
	}
}

// What a name means is no character here, and a digit, a dot and the like are such only of their categories.
func TestNamesThatMeanCharactersAreNoneInNumbers(t *testing.T) {
	e := expandEnv()
	lengths := func(tok impl.Token) []impl.Token { return append(list(char(5, '1'), tok), toks("pt")...) }
	for _, tok := range []impl.Token{name("minusname"), name("blank"), name("letter"), letter('1'), char(impl.CatActive, '1'), char(impl.CatActive, '-'), char(impl.CatMath, '+'), char(impl.CatUp, '`')} {
		if got := impl.ReadNumber(e, list(tok, char(5, '1')), 9); !same(got, impl.Read{Code: impl.ExpNumber, Left: 9}) {
			t.Errorf("%+v ahead of a number: %+v", tok, got)
		}
		if got := impl.ReadLen(e, lengths(tok), 9); !same(got, impl.Read{Code: impl.ExpNumber, Left: 9}) {
			t.Errorf("%+v within a length: %+v", tok, got)
		}
	}
	if got := impl.ReadLen(e, lengths(letter('.')), 9); got.Code != impl.ExpNumber {
		t.Errorf("a dot that is a letter: %+v", got)
	}
	for _, tok := range []impl.Token{letter('-'), char(5, '-')} {
		if got := impl.ReadNumber(e, list(tok, char(5, '1')), 9); got.N != -1 {
			t.Errorf("%+v: %+v", tok, got)
		}
		if got := impl.ReadNumber(e, list(char(tok.Cat, '`'), tok, space(), space()), 9); got.N != '-' || len(got.Rest) != 1 {
			t.Errorf("%+v: %+v", tok, got)
		}
	}
	if got := impl.ReadNumber(e, list(letter('`'), name("\xff")), 0); got.N != 255 || got.Code != 0 {
		t.Errorf("a name of one byte: %+v", got)
	}
	if got := impl.ReadNumber(e, toks("`\\a x"), 9); got.N != 'a' || got.Left != 9 || impl.ShowTokens(got.Rest) != "x" {
		t.Errorf("a name that is a macro: %+v", got)
	}
	if got := impl.ReadLen(e, list(char(5, '1'), char(impl.CatActive, 'p'), letter('t')), 9); got.Code != impl.ExpNumber {
		t.Errorf("a unit: %+v", got)
	}
}

type codeCase struct {
	code  int64
	texts []string
}

func TestReadCodes(t *testing.T) {
	e := expandEnv()
	check := func(what string, read reading, cases []codeCase) {
		for _, c := range cases {
			for _, text := range c.texts {
				if got := read(e, toks(text), 7); got.Code != c.code || got.N != 0 || got.Glue != (impl.Glue{}) || len(got.Rest) != 0 {
					t.Errorf("%s %q: %+v, want %d", what, text, got, c.code)
				}
			}
		}
	}
	check("number", impl.ReadNumber, []codeCase{
		{impl.ExpEnd, []string{"", "-", "+ -", "`", "-`", "\\count", "\\count-", "\\count\\count", "\\none", "\\iftrue", "\\number", "5\\number", "`a\\number", "\\count 1\\csname"}},
		{impl.ExpNumber, []string{"x", "-x", "{", "}", "\\relax", "\\len 1", "\\unknown", "\\noexpand 1", ".5", "`\\ab", "`\\relax", "\\endcsname", "\\bare", "\\count x", "\\count{1}"}},
		{impl.ExpRange, []string{"2147483648", "-2147483648", "99999999999999999999999999999999", "18446744073709551617", "\\count 32", "\\count -1", "\\count 2147483647", "\\count`a", "\\count\\count 31"}},
		{impl.ExpBudget, []string{"\\again", "-\\again", "1\\again", "`a\\again", "\\count\\again"}},
		{impl.ExpUse, []string{"\\lead x", "1\\lead x"}}, {impl.ExpExtra, []string{"\\pair}", "1\\swap a}.b"}},
		{impl.ExpName, []string{"\\the x", "1\\the\\def", "\\csname\\relax"}},
	})
	check("length", impl.ReadLen, []codeCase{
		{impl.ExpEnd, []string{"", "-", "1", "1.", ".", "1.5", "1p", "-.5m", ".x", "-.p", "..", ".\\none p\\none", "\\len", "\\len-", "\\len\\count", "1pt\\number"}},
		{impl.ExpNumber, []string{"p", "-x", ".\\relax", ".p\\relax", ".{", ". pt", "..pt", "...", "p\\again", ".\\unit\\again", "pt", ".pt", "1em", "1 pt", "1p t", "1.2.3pt", "1..5pt", "1p\\relax", "1\\relax", "1{pt}", "x1pt", "\\count 1 pt", "\\glue 1", "0000000000000001pt", "1.000000000000000pt", "1PT", "1fil", "1pp", "`a pt", "\\relax"}},
		{impl.ExpRange, []string{"16384pt", "-16384pt", "1073741824sp", "-1073741824sp", "1366pc", "226.71in", "999999999999999pt", "999999999999999sp", "\\len 32", "\\len-1", "\\len\\count 0"}},
		{impl.ExpBudget, []string{"\\again", "1\\again", ".\\again", ".p\\again", "1p\\again", "1pt\\again", "\\len\\again"}},
	})
	check("glue", impl.ReadGlue, []codeCase{
		{impl.ExpEnd, []string{"", "-", "1", "1p", "\\glue", "\\glue-", "\\len", "1pt plus", "1pt plus -", "1pt plus 2", "1pt plus 2p", "1pt plus 2f", "1pt plus .", "1pt plus .p", "1pt plus .f", "1pt minus.f", "1pt plus .5fil minus .p", "1pt plus\\len", "1pt minus", "1pt minus 2.", "1pt plus 2pt minus", "1pt plus 2fil minus 3m"}},
		{impl.ExpNumber, []string{"x", "xx", "1pt plus x", "1pt plus f\\again", "1pt minus.fi", "1pt minus .pt", "1pt minus..p", ".fil", "1fil", "1 pt", "\\count 1", "1pt plus xx", "1pt plus fil", "1pt plus .fil", "1pt plus 2fi", "1pt plus 2fix", "1pt plus 2 fil", "1pt plus 2FIL", "1pt plus\\glue 3", "1pt minus{1pt}", "1pt plus 0000000000000001fil", "1pt plus 2pt minus 2x.", "1pt plus 1.2.3fil"}},
		{impl.ExpRange, []string{"16384pt", "1pt plus 16384pt", "1pt plus 16384fil", "1pt plus -16384filll", "1pt minus 16384fill", "\\glue 32", "\\glue -1", "1pt minus\\len 32 "}},
		{impl.ExpBudget, []string{"\\again", "1pt\\again", "1pt plus\\again", "1pt plus 1fil\\again", "1pt pl\\again", "1pt plus 1f\\again", "1pt plus 1pt minus\\again", "\\glue\\again"}},
	})
}

// behind are lists that go on with nothing that a number, a length or a glue could take.
func behind() [][]impl.Token {
	return [][]impl.Token{nil, toks("x"), toks("{}"), toks("\\relax 1"), toks("\\unknown\\bare"), toks("pl"), toks("~ "), list(letter('0')), many(1000, letter('y'))}
}

// asTokens are the forms in which a shown text is read again: as scanned, and as the gives it; with a space behind it if that is taken too.
func asTokens(text string, taken bool) [][]impl.Token {
	out := [][]impl.Token{toks(text), others(text)}
	if taken {
		out = append(out, append(toks(text), space()), append(others(text), space()))
	}
	return out
}

func checkReadAgain(t *testing.T, read reading, text string, taken bool, n int64, g impl.Glue) {
	t.Helper()
	e := impl.NewEnv()
	for _, shown := range asTokens(text, taken) {
		for _, rest := range behind()[:3+len(text)%6] {
			want := impl.Read{N: n, Glue: g, Rest: rest, Left: 3}
			if got := read(e, slices.Concat(shown, rest), 3); !same(got, want) {
				t.Fatalf("%q and %q: %+v", impl.ShowTokens(shown), impl.ShowTokens(rest), got)
			}
		}
	}
}

func TestWhatIsShownIsReadAgain(t *testing.T) {
	t.Parallel()
	r := rand.New(rand.NewSource(14))
	lens := []int64{0, 1, -1, 32768, 65535, 65536, 98304, impl.MaxLen, -impl.MaxLen, impl.MaxLen - 1}
	numbers := []int64{0, 1, -1, 9, 10, -10, impl.MaxCount, -impl.MaxCount, impl.MaxCount - 1}
	glues := []impl.Glue{{}, glue(impl.MaxLen, impl.MaxLen, 3, -impl.MaxLen, 3)}
	for range 150 {
		lens = append(lens, r.Int63n(2*impl.MaxLen+1)-impl.MaxLen, r.Int63n(200000)-100000)
		numbers = append(numbers, r.Int63n(2*impl.MaxCount+1)-impl.MaxCount)
		glues = append(glues, randomGlue(r, impl.MaxLen, 4), randomGlue(r, 70000, 4), randomGlue(r, 2, 4))
	}
	for _, n := range numbers {
		checkReadAgain(t, impl.ReadNumber, strconv.FormatInt(n, 10), true, n, impl.Glue{})
	}
	for _, n := range lens {
		checkReadAgain(t, impl.ReadLen, impl.ShowLen(n), true, n, impl.Glue{})
		checkReadAgain(t, impl.ReadGlue, impl.ShowLen(n), true, 0, impl.Glue{Size: n})
	}
	for _, g := range glues {
		text := impl.ShowGlue(g)
		checkReadAgain(t, impl.ReadGlue, text, !strings.HasSuffix(text, "l"), 0, normal(g))
	}
}

// normal: of what is 0 no order is shown.
func normal(g impl.Glue) impl.Glue {
	if g.Plus == 0 {
		g.PlusOrder = 0
	}
	if g.Minus == 0 {
		g.MinusOrder = 0
	}
	return g
}

func TestRegistersAreReadAsTheyAreShown(t *testing.T) {
	r := rand.New(rand.NewSource(15))
	for range 20 {
		e := impl.NewEnv()
		l := &e.Levels[0]
		for i := range impl.MaxCounts {
			l.Counts[i], l.Lens[i], l.Glues[i] = r.Int63n(9999999)-5555555, r.Int63n(9999999)-5555555, normal(randomGlue(r, impl.MaxLen, 4))
		}
		for i := range impl.MaxCounts {
			at := strconv.Itoa(i) + " "
			for _, word := range []string{"", "\\the"} {
				cost := int64(len(word)) / 4
				n := impl.ReadNumber(e, toks(word+"\\count "+at+"x"), 5)
				length := impl.ReadLen(e, toks(word+"\\len "+at+"x"), 5)
				g := impl.ReadGlue(e, toks(word+"\\glue "+at+"x"), 5)
				rest := toks("x")
				if !same(n, impl.Read{N: l.Counts[i], Rest: rest, Left: 5 - cost}) || !same(length, impl.Read{N: l.Lens[i], Rest: rest, Left: 5 - cost}) || !same(g, impl.Read{Glue: l.Glues[i], Rest: rest, Left: 5 - cost}) {
					t.Fatalf("%q %d: %+v %+v %+v", word, i, n, length, g)
				}
			}
		}
	}
}
