package tests

import (
	"math"
	"math/rand"
	"slices"
	"strconv"
	"strings"
	"testing"

	"loop.example/g00014/impl"
)

type expandCase struct {
	text string
	want []impl.Token
	cost int64
}

func expands(text, want string, cost int64) expandCase { return expandCase{text, toks(want), cost} }

// spells is for what comes out byte by byte.
func spells(text, want string, cost int64) expandCase { return expandCase{text, others(want), cost} }

func expandCases() []expandCase {
	return []expandCase{
		expands("", "", 0), expands("abc {x}$&#^_~ .", "abc {x}$&#^_~ .", 0), expands("\\relax\\unknown\\endcsname\\def\\letter", "\\relax\\unknown\\endcsname\\def\\letter", 0),
		expands("\\bare", "xyz", 1), expands("a\\none b", "ab", 1), expands("\\swap a.b", "b-a", 1), expands("\\swap{a.b}.{cd}e", "cd-a.be", 1), expands("\\pair{ab}cd", "(abcab)d", 1), expands("\\pair\\bare\\none", "(xyzxyz)", 4), expands("\\till a!b{!!}!!c", "<a!b{!!}>c", 1), expands("\\till{!!}!!", "<!!>", 1), expands("\\lead::{ab}c", "ab{ab}c", 1), expands("\\a", "xyzb", 2), expands("{\\bare}", "{xyz}", 1),
		expands("\\noexpand\\bare", "\\bare", 0), expands("\\noexpand a\\noexpand\\noexpand", "a\\noexpand", 0), expands("\\noexpand\\fi\\bare", "\\fi xyz", 1), expands("\\noexpand{", "{", 0),
		expands("\\expandafter a\\bare", "axyz", 2), expands("\\expandafter ab", "ab", 1), expands("\\expandafter\\pair\\bare", "(xyx)z", 3), expands("\\expandafter\\swap\\a.c", "c-xyzb", 4), expands("\\expandafter\\noexpand\\bare", "xyz", 2), expands("\\expandafter a\\noexpand\\bare", "a\\bare", 1), expands("\\expandafter\\expandafter\\expandafter\\pair\\expandafter\\bare\\none a", "(xyx)za", 7), expands("\\expandafter\\relax\\iffalse a\\fi b", "\\relax b", 2), expands("\\expandafter\\expandafter\\bare\\none", "xyz", 4),
		expands("\\csname\\endcsname", "\\csname\\endcsname", 1), expands("\\csname s\\endcsname", "\\s", 1), expands("\\csname bare\\endcsname", "xyz", 2), expands("\\csname a{1#\\bare$\\endcsname", "", 2), expands("\\csname\\number`a\\endcsname x", "", 2), expands("\\csname a \\none b\\endcsname", "", 2), expands("\\csname \\csname none\\endcsname n\\csname none\\endcsname one\\endcsname", "", 6),
		spells("\\string a", "a", 1), spells("\\string\\bare", "\\bare", 1), spells("\\string\\{", "\\{", 1), spells("\\string\\ ", "\\ ", 1), spells("\\string{\\string}\\string#\\string~", "{}#~", 4), spells("\\string\\iffalse", "\\iffalse", 1),
		spells("\\number 007", "7", 1), spells("\\number-007", "-7", 1), spells("\\number-0", "0", 1), spells("\\number`a", "97", 1), spells("\\number\\count 1", "7", 1), spells("\\number-\\count 0", "-2147483647", 1), spells("\\num\\digits", "12", 2), spells("\\number\\number\\number 3", "3", 3), expandCase{"\\number 1 x", list(char(5, '1'), letter('x')), 1}, spells("\\number\\count31 ", "-2147483647", 1),
		spells("\\the\\count 1", "7", 1), spells("\\the\\count31", "-2147483647", 1), spells("\\the\\len 2", "1.5pt", 1), spells("\\the\\len 31", "-16383.99998pt", 1), spells("\\the\\len 5", "0.0pt", 1), spells("\\the\\glue 3", "1.0pt plus 2.0fill minus -3.0pt", 1), spells("\\the\\glue 1", "0.0pt", 1), spells("\\the\\glue\\count 1", "0.0pt", 1),
		expands("\\the\\toks 0", "xyz", 2), expands("\\the\\toks 4", "a{b\\bare}", 2), expandCase{"\\the\\toks 31", list(char(impl.CatParam, '#'), name("")), 1}, expands("\\the\\toks 9x", "x", 1), expands("\\expandafter\\noexpand\\the\\toks 0", "\\bare", 2),
	}
}

func conditionCases() []expandCase {
	return []expandCase{
		expands("\\iftrue a\\fi b", "ab", 2), expands("\\iftrue a\\else b\\fi c", "ac", 2), expands("\\iffalse a\\fi b", "b", 1), expands("\\iffalse a\\else b\\fi c", "bc", 2), expands("\\iftrue\\fi", "", 2), expands("\\iffalse\\fi", "", 1), expands("\\iffalse\\else\\fi", "", 2),
		expands("\\iffalse\\iftrue a\\else b\\fi c\\else d\\fi", "d", 2), expands("\\iffalse\\ifnum\\iflen\\fi\\fi\\else d\\fi", "d", 2), expands("\\iffalse\\ifcase 1\\or\\or\\else\\fi\\or x\\else d\\fi", "d", 2), expands("\\iftrue\\iffalse a\\else b\\fi c\\else d\\fi e", "bce", 4), expands("\\iftrue a\\else\\iftrue b\\else c\\fi d\\fi e", "ae", 2), expands("\\iffalse\\iffalse\\else\\fi\\fi x", "x", 1), expands("\\iffalse\\bare\\again\\pair}\\fi x", "x", 1), expands("\\iffalse\\noexpand\\fi x", "x", 1), expands("\\iffalse{\\fi x", "x", 1), expands("\\iftrue\\iftrue\\iftrue a\\fi b\\fi c\\fi", "abc", 6),
		expands("\\ifnum 1<2 a\\else b\\fi", "a", 2), expands("\\ifnum 2<2 a\\else b\\fi", "b", 2), expands("\\ifnum 2=2 a\\else b\\fi", "a", 2), expands("\\ifnum 1=2 a\\else b\\fi", "b", 2), expands("\\ifnum 3>2 a\\else b\\fi", "a", 2), expands("\\ifnum 2>2 a\\else b\\fi", "b", 2), expands("\\ifnum-1<-\\count 7 a\\fi", "a", 2), expands("\\ifnum`a\\iftrue=\\fi 97 a\\fi", "a", 4), expands("\\ifnum 1 < 2 a\\fi", "a", 2), expands("\\ifnum\\count0>\\count31 a\\fi", "a", 2), expands("\\ifnum\\digits=12\\none a\\fi", "a", 4), expands("\\ifnum 1=1\\else b\\fi c", "c", 2), expands("\\ifnum 1=1\\fi c", "c", 2),
		expands("\\iflen 1pt<2pt a\\else b\\fi", "a", 2), expands("\\iflen 1in>72.27pt a\\else b\\fi", "b", 2), expands("\\iflen 1pc=12pt a\\else b\\fi", "a", 2), expands("\\iflen\\len 0>-\\len 0 a\\fi", "a", 2), expands("\\iflen 1sp < 1.5sp a\\fi", "a", 2),
		expands("\\ifodd 1 a\\else b\\fi", "a", 2), expands("\\ifodd 2 a\\else b\\fi", "b", 2), expands("\\ifodd-1 a\\else b\\fi", "a", 2), expands("\\ifodd-2 a\\else b\\fi", "b", 2), expands("\\ifodd 0 a\\fi", "", 1), expands("\\ifodd\\count 31 a\\fi", "a", 2),
		expands("\\ifsame aax\\fi", "x", 2), expands("\\ifsame abx\\fi", "", 1), expands("\\ifsame\\u\\v x\\fi", "x", 2), expands("\\ifsame\\letter ax\\fi", "x", 2), expands("\\ifsame\\number\\num x\\fi", "x", 2), expands("\\ifsame\\fi\\fi x\\fi", "x", 2), expands("\\ifsame\\bare\\again x\\else y\\fi", "y", 2), expands("\\ifsame\\iftrue\\else x\\else y\\fi", "y", 2),
		expands("\\ifcase 0 a\\or b\\or c\\else d\\fi e", "ae", 2), expands("\\ifcase 1 a\\or b\\or c\\else d\\fi e", "be", 2), expands("\\ifcase 2 a\\or b\\or c\\else d\\fi e", "ce", 2), expands("\\ifcase 3 a\\or b\\or c\\else d\\fi e", "de", 2), expands("\\ifcase 9 a\\or b\\fi e", "e", 1), expands("\\ifcase-1 a\\or b\\else d\\fi e", "de", 2), expands("\\ifcase-1 a\\or b\\fi e", "e", 1), expands("\\ifcase 0 \\fi", "", 2), expands("\\ifcase 0 a\\else b\\fi", "a", 2), expands("\\ifcase 1 \\ifcase 0 \\or\\or\\fi\\or b\\fi", "b", 2), expands("\\ifcase 1 \\iftrue\\or\\else\\or\\fi a\\or b\\or\\iftrue\\fi\\fi e", "be", 2), expands("\\ifcase\\count0 a\\or b\\else c\\fi", "c", 2), expands("\\ifcase\\count31 a\\or b\\else c\\fi", "c", 2), expands("\\ifcase 2 a\\or b\\else c\\or d\\fi e", "ce", 2),
		expands("\\fi a\\fi", "a", 2), expands("\\else a\\fi b", "b", 1), expands("\\or a\\or\\else\\iftrue\\fi b\\fi c", "c", 1), expands("a\\else\\iffalse\\else\\fi\\else\\fi b", "ab", 1),
	}
}

// The names that csname makes of bytes that no text of names has.
func specialNames() map[string][]impl.Token {
	return map[string][]impl.Token{
		"\\csname\\endcsname": list(name("")), "\\csname a{1#\\bare$\\endcsname": list(name("a{1#xyz$")), "\\csname\\number`a\\endcsname x": list(name("97"), letter('x')), "\\csname a \\none b\\endcsname": list(name("a b")),
		"\\csname \\csname none\\endcsname n\\csname none\\endcsname one\\endcsname": nil,
	}
}

func allCases() []expandCase {
	out := slices.Concat(expandCases(), conditionCases())
	for i, c := range out {
		if want, ok := specialNames()[c.text]; ok {
			out[i].want = want
		}
	}
	return out
}

// Each case at just its cost, with one less, with more, and as much as may be.
func TestExpandAllKnown(t *testing.T) {
	e := expandEnv()
	for _, c := range allCases() {
		ts := toks(c.text)
		for _, budget := range []int64{c.cost, c.cost + 1, impl.MaxBudget} {
			want := impl.Expanded{Toks: c.want, Left: budget - c.cost}
			if got := impl.ExpandAll(e, ts, budget); !same(got, want) {
				t.Errorf("%q with %d: %q %d, left %d", c.text, budget, impl.ShowTokens(got.Toks), got.Code, got.Left)
			}
		}
		for budget := range c.cost {
			if got := impl.ExpandAll(e, ts, budget); got.Code != impl.ExpBudget || got.Left != 0 || !slices.Equal(got.Toks, c.want[:min(len(got.Toks), len(c.want))]) {
				t.Errorf("%q with only %d: %q %d", c.text, budget, impl.ShowTokens(got.Toks), got.Code)
			}
		}
	}
}

func TestExpandAllCodes(t *testing.T) {
	e := expandEnv()
	forty := strings.Repeat("n", 40)
	for _, c := range []codeCase{
		{impl.ExpEnd, []string{"\\swap", "\\swap a", "\\swap a.", "\\swap{a.b", "\\swap a. ", "\\pair", "\\pair a", "\\pair a ", "\\pair{", "\\pair{a}{b", "\\lead", "\\lead:", "\\lead::", "\\till a!", "\\till{!!}",
			"\\expandafter", "\\expandafter a", "\\expandafter a\\expandafter", "\\expandafter a\\expandafter b", "\\expandafter a\\string", "\\csname", "\\csname ab", "\\csname ab\\none", "\\csname\\csname", "\\string", "\\noexpand", "a\\noexpand",
			"\\number", "\\number-", "\\number`", "\\number\\count", "\\number\\count ", "\\the", "\\the\\count", "\\the\\len-", "\\the\\glue", "\\the\\toks", "\\the\\toks\\count",
			"\\ifnum", "\\ifnum 3", "\\ifnum 3<", "\\ifnum 3<-", "\\ifnum\\count", "\\iflen", "\\iflen 3", "\\iflen 3p", "\\iflen 3pt", "\\iflen 3pt<", "\\iflen 3pt<3", "\\ifodd", "\\ifodd-", "\\ifsame", "\\ifsame a", "\\ifcase", "\\ifcase-",
			"\\iffalse", "\\iffalse a", "\\iffalse\\iftrue\\fi", "\\iffalse\\iftrue\\else\\fi", "\\ifnum 1=2 ", "\\iflen 1pt=2pt a", "\\ifodd 2", "\\ifsame ab", "\\ifcase 1 a", "\\ifcase 1 \\iftrue\\or\\fi", "\\ifcase 2 \\or", "\\ifcase -1 \\or", "\\else", "\\else a", "\\else\\iftrue\\fi", "\\or", "\\or\\else", "\\iftrue a\\else b"}},
		{impl.ExpUse, []string{"\\lead x", "\\lead:x", "a\\lead x", "\\expandafter\\lead\\bare"}},
		{impl.ExpExtra, []string{"\\pair}", "\\pair a}", "\\swap a}.b", "\\till}!!", "\\swap a.}", "{\\pair}"}},
		{impl.ExpNumber, []string{"\\number x", "\\number{1}", "\\number\\relax", "\\number\\len 1", "\\number`\\ab", "\\the\\count x", "\\ifnum x", "\\ifnum 1<x", "\\iflen 1<<", "\\iflen 1pt=1xx", "\\iflen\\count 1", "\\ifodd\\relax", "\\ifcase x\\fi", "\\number\\minusname1", "\\number\\noexpand 1"}},
		{impl.ExpBudget, []string{"\\again", "a\\again b", "\\number\\again", "\\csname\\again", "\\the\\count\\again", "\\ifnum\\again", "\\ifnum 1\\again", "\\expandafter a\\again"}},
		{impl.ExpRange, []string{"\\number 2147483648", "\\number-2147483648", "\\number\\count 32", "\\number\\count -1", "\\the\\count 32", "\\the\\len 32", "\\the\\glue 32", "\\the\\toks 32", "\\the\\toks-1", "\\ifnum 99999999999=1", "\\iflen 16384pt<", "\\iflen 1pt<16384pt", "\\iflen\\len 32 ", "\\ifodd 4294967297 ", "\\ifcase 2147483648 "}},
		{impl.ExpName, []string{"\\csname\\relax\\endcsname", "\\csname a\\noexpand\\endcsname", "\\csname\\letter\\endcsname", "\\csname\\unknown\\endcsname", "\\csname a\\def", "\\csname n" + forty + "\\endcsname", "\\csname\\csname" + forty + "n\\endcsname", "\\the x", "\\the 1", "\\the\\def", "\\the\\unknown", "\\the\\letter", "\\the\\bare", "\\the\\the\\count 1", "\\the\\noexpand\\count 1", "\\the{", "\\ifnum 1x", "\\ifnum 1\\relax", "\\ifnum 1{<}", "\\ifnum\\count 1 \\minusname", "\\iflen 1ptx", "\\ifnum 1\\noexpand<2 ", "\\ifnum 1~"}},
	} {
		for _, text := range c.texts {
			ts := toks(text)
			got := impl.ExpandAll(e, ts, 50)
			if got.Code != c.code {
				t.Errorf("%q: %d, want %d", text, got.Code, c.code)
			}
			if c.code != impl.ExpBudget {
				more := impl.ExpandAll(e, append(list(letter('k'), open()), ts...), 50)
				if want := append(list(letter('k'), open()), got.Toks...); !same(more, impl.Expanded{Toks: want, Code: c.code, Left: got.Left}) {
					t.Errorf("%q: what has come out till then: %+v", text, more)
				}
			}
		}
	}
	if got := impl.ExpandAll(e, append(toks("\\csname "+forty), name("endcsname")), 1); !same(got, impl.Expanded{Toks: list(name(forty))}) {
		t.Errorf("a name of as many bytes as may be: %+v", got)
	}
	for _, relation := range []impl.Token{letter('<'), char(5, '<')} {
		got := impl.ExpandAll(e, slices.Concat(toks("\\ifnum 1"), list(relation), toks("2 x\\fi")), 9)
		if !same(got, impl.Expanded{Toks: toks("x"), Left: 7}) {
			t.Errorf("%+v: %+v", relation, got)
		}
	}
	spaced := slices.Concat(toks("\\ifnum 1"), list(space(), space()), toks("<2 x\\fi"))
	if got := impl.ExpandAll(e, spaced, 9); got.Code != impl.ExpName {
		t.Errorf("one space behind a number is taken: %+v", got)
	}
}

// big has macros of 1, 2 and 2000 letters, and one of 2000 slots.
func bigEnv() impl.Env {
	e := impl.NewEnv()
	for n, m := range map[string]impl.Mean{"one": macro(0, nil, many(1, letter('b'))), "two": macro(0, nil, many(2, letter('b'))), "big": macro(0, nil, many(2000, letter('b'))), "fold": macro(1, slots(1), many(2000, slot(1)))} {
		e, _ = impl.SetEnv(e, setName(n, m), false)
	}
	e.Levels[0].Toks[0] = many(2, letter('b'))
	e.Levels[0].Counts[0] = -impl.MaxCount
	return e
}

func TestListsAtTheMostTokens(t *testing.T) {
	e := bigEnv()
	for _, c := range []struct {
		text       string
		comes, out int // how many tokens the text becomes, in the list and in the answer
	}{
		{"\\one", 1, 1}, {"\\two", 2, 2}, {"\\big", 2000, 2000}, {"\\fold a", 2000, 2000}, {"\\fold{ab}", 4000, 4000}, {"\\fold{}", 2, 0}, {"\\the\\toks 0", 3, 2}, {"\\the\\count 0", 11, 11}, {"\\the\\glue 0", 5, 5}, {"\\number\\count 0", 11, 11}, {"\\string\\relax", 6, 6},
		{"\\expandafter a\\two", 3, 3}, {"\\expandafter a\\big", 2001, 2001}, {"\\csname\\endcsname", 1, 1}, {"\\expandafter\\expandafter a\\two", 3, 3},
	} {
		ts := toks(c.text)
		most := impl.MaxTokens - max(c.comes, len(ts))
		got := impl.ExpandAll(e, append(slices.Clone(ts), many(most, letter('a'))...), 9)
		if got.Code != impl.ExpOk || len(got.Toks) != c.out+most {
			t.Errorf("%q with %d behind it: %d, %d tokens", c.text, most, got.Code, len(got.Toks))
		}
		if most+1+len(ts) > impl.MaxTokens {
			continue
		}
		got = impl.ExpandAll(e, append(slices.Clone(ts), many(most+1, letter('a'))...), 9)
		if got.Code != impl.ExpFull || len(got.Toks) != 0 {
			t.Errorf("%q with %d behind it: %d, %d tokens", c.text, most+1, got.Code, len(got.Toks))
		}
		read := impl.ReadNumber(e, append(slices.Clone(ts), many(most+1, letter('a'))...), 9)
		if read.Code != impl.ExpFull {
			t.Errorf("%q with %d behind it as a number: %d", c.text, most+1, read.Code)
		}
	}
	if got := impl.ExpandAll(e, toks("\\fold{bbbbbbbbbb}"), 9); !same(got, impl.Expanded{Toks: many(impl.MaxTokens, letter('b')), Left: 8}) {
		t.Error("a body filled with as many as may be:", got.Code, len(got.Toks))
	}
	if got := impl.ExpandAll(e, toks("\\fold{bbbbbbbbbbb}"), 9); !same(got, impl.Expanded{Code: impl.ExpFull, Left: 8}) {
		t.Error("a body filled with more:", got.Code, len(got.Toks))
	}
}

func TestAnswersAtTheMostTokens(t *testing.T) {
	e := bigEnv()
	ten := many(10, name("big"))
	full := many(impl.MaxTokens, letter('b'))
	for _, c := range []struct {
		behind string
		code   int64
		left   int64
	}{{"", impl.ExpOk, 90}, {"\\iffalse x\\fi", impl.ExpOk, 89}, {"x", impl.ExpFull, 90}, {"\\one", impl.ExpFull, 89}, {"\\noexpand x", impl.ExpFull, 90}, {"\\noexpand", impl.ExpEnd, 90}, {"\\number", impl.ExpEnd, 89}, {"xx", impl.ExpFull, 90}} {
		got := impl.ExpandAll(e, append(slices.Clone(ten), toks(c.behind)...), 100)
		if !same(got, impl.Expanded{Toks: full, Code: c.code, Left: c.left}) {
			t.Errorf("%q behind as many as may be: %d, %d tokens, left %d", c.behind, got.Code, len(got.Toks), got.Left)
		}
	}
	for _, n := range []int{impl.MaxTokens - 1, impl.MaxTokens} {
		ts := many(n, letter('a'))
		if got := impl.ExpandAll(e, ts, 0); !same(got, impl.Expanded{Toks: ts}) {
			t.Error(n, got.Code)
		}
	}
}

func TestBudgets(t *testing.T) {
	e := expandEnv()
	for _, budget := range []int64{0, 1, 2, 999, impl.MaxBudget - 1, impl.MaxBudget} {
		if got := impl.ExpandAll(e, toks("\\again"), budget); !same(got, impl.Expanded{Code: impl.ExpBudget}) {
			t.Errorf("%d: %+v", budget, got)
		}
		if got := impl.ExpandAll(e, toks("ab"), budget); !same(got, impl.Expanded{Toks: toks("ab"), Left: budget}) {
			t.Errorf("%d: %+v", budget, got)
		}
		for what, read := range map[string]reading{"number": impl.ReadNumber, "length": impl.ReadLen, "glue": impl.ReadGlue} {
			if got := read(e, toks("\\again"), budget); !same(got, impl.Read{Code: impl.ExpBudget}) {
				t.Errorf("%s with %d: %+v", what, budget, got)
			}
		}
	}
	steps := macro(1, slots(1), slices.Concat(toks("\\ifnum 1<"), slots(1), list(space()), toks("\\expandafter\\steps\\expandafter{\\number 0}\\fi")))
	e = mustSet(t, e, setName("steps", steps), false)
	if got := impl.ExpandAll(e, toks("\\steps{5}x"), impl.MaxBudget); got.Code != impl.ExpOk || impl.ShowTokens(got.Toks) != "x" {
		t.Errorf("%q %d", impl.ShowTokens(got.Toks), got.Code)
	}
	l := &e.Levels[len(e.Levels)-1]
	l.Toks[9] = append(many(999, name("none")), toks("\\the\\toks 9")...)
	if got := impl.ExpandAll(e, toks("\\the\\toks 9"), impl.MaxBudget); !same(got, impl.Expanded{Code: impl.ExpBudget}) {
		t.Errorf("%+v", got)
	}
}

// What is read within what is read goes as deep as the budget, or the list, lets it.
func TestExpansionInTheDepth(t *testing.T) {
	for _, body := range []string{"\\number\\deep", "\\csname\\deep", "\\the\\count\\deep", "\\ifnum\\deep", "\\iflen-\\deep", "\\ifcase\\count\\deep", "\\ifodd\\deep", "\\expandafter\\relax\\number\\deep"} {
		e := mustSet(t, impl.NewEnv(), setName("deep", macro(0, nil, toks(body))), false)
		if got := impl.ExpandAll(e, toks("\\deep"), impl.MaxBudget); !same(got, impl.Expanded{Code: impl.ExpBudget}) {
			t.Errorf("%q: %d, left %d", body, got.Code, got.Left)
		}
	}
	e := impl.NewEnv()
	for _, word := range []string{"number", "csname", "ifnum", "ifodd", "expandafter", "ifcase", "string"} {
		got := impl.ExpandAll(e, many(impl.MaxTokens-1, name(word)), impl.MaxBudget)
		want := plainAll(e, many(impl.MaxTokens-1, name(word)), impl.MaxBudget)
		if !same(got, want) {
			t.Errorf("%s: %d, left %d, want %d, left %d", word, got.Code, got.Left, want.Code, want.Left)
		}
	}
	numbers := append(many(impl.MaxTokens-1, name("number")), char(5, '7'))
	if got := impl.ExpandAll(e, numbers, impl.MaxBudget); !same(got, impl.Expanded{Toks: others("7"), Left: impl.MaxBudget - impl.MaxTokens + 1}) {
		t.Error("as many numbers as may be:", got.Code, got.Left)
	}
	counts := append(many(impl.MaxTokens-1, name("count")), char(5, '7'))
	if got := impl.ReadNumber(e, counts, 0); !same(got, impl.Read{}) {
		t.Error("as many counts as may be:", got.Code)
	}
}

func TestMoreBudgetChangesNothingButWhatIsLeft(t *testing.T) {
	t.Parallel()
	r := rand.New(rand.NewSource(16))
	e := expandEnv()
	for range 4000 {
		ts, budget, more := randomSnippets(r, 10), r.Int63n(12), 1+r.Int63n(100)
		got, rich := impl.ExpandAll(e, ts, budget), impl.ExpandAll(e, ts, budget+more)
		if got.Code != impl.ExpBudget {
			got.Left += more
			if !same(got, rich) {
				t.Fatalf("%q with %d and %d: %+v, %+v", impl.ShowTokens(ts), budget, budget+more, got, rich)
			}
		} else if got.Left != 0 || len(rich.Toks) < len(got.Toks) || !same(got.Toks, rich.Toks[:len(got.Toks)]) {
			t.Fatalf("%q with %d and %d: %+v, %+v", impl.ShowTokens(ts), budget, budget+more, got, rich)
		}
		for _, read := range []reading{impl.ReadNumber, impl.ReadLen, impl.ReadGlue} {
			got, rich := read(e, ts, budget), read(e, ts, budget+more)
			if got.Code == impl.ExpBudget {
				continue
			}
			got.Left += more
			if !same(got, rich) {
				t.Fatalf("%q with %d and %d: %+v, %+v", impl.ShowTokens(ts), budget, budget+more, got, rich)
			}
		}
	}
}

// callText is a call of one of the environment's macros, with lists for it.
func callText(r *rand.Rand) string {
	calls := []string{"\\bare", "\\none", "\\digits", "\\unit", "\\words", "\\a", "\\two", "\\swap{a}.{b}", "\\swap 1.5pt", "\\swap\\digits.\\none", "\\pair 12", "\\pair{\\none}{ab}", "\\till 3pt plus 1fil!!", "\\till{!!}!!", "\\lead::7", "\\lead::{\\bare}", "\\swap a", "\\pair}", "\\lead x"}
	return calls[r.Intn(len(calls))]
}

// A call is what its filled body is, with one more of the budget spent: in front of all, and behind what stays as it is.
func TestACallMeansWhatItsFilledBodyMeans(t *testing.T) {
	t.Parallel()
	r := rand.New(rand.NewSource(17))
	e := expandEnv()
	matchedOnce := 0
	for range 2000 {
		call := append(toks(callText(r)), randomSnippets(r, 6)...)
		budget := 1 + r.Int63n(30)
		m := impl.Look(e, call[0].Name).Macro
		match := impl.MatchArgs(m, call[1:])
		all := impl.ExpandAll(e, call, budget)
		if match.Code != impl.ExpOk {
			if !same(all, impl.Expanded{Code: match.Code, Left: budget - 1}) {
				t.Fatalf("%q: %+v", impl.ShowTokens(call), all)
			}
			continue
		}
		matchedOnce++
		body, ok := impl.FillBody(m, match.Args)
		if !ok {
			t.Fatal("a body too long")
		}
		filled := append(body, call[1+match.Used:]...)
		if want := impl.ExpandAll(e, filled, budget-1); !same(all, want) {
			t.Fatalf("%q: %+v, want %+v", impl.ShowTokens(call), all, want)
		}
		lead := toks("k{ \\relax")
		behindLead, want := impl.ExpandAll(e, append(slices.Clone(lead), call...), budget), impl.ExpandAll(e, append(slices.Clone(lead), filled...), budget-1)
		if !same(behindLead, want) {
			t.Fatalf("%q behind others: %+v, want %+v", impl.ShowTokens(call), behindLead, want)
		}
		for _, start := range []string{"", "-", "1pt", "1pt ", "1pt plus", "1pt plus 2fil"} {
			if start != "" && budget < 2 {
				continue
			}
			for _, read := range []reading{impl.ReadNumber, impl.ReadLen, impl.ReadGlue} {
				got, want := read(e, append(toks(start), call...), budget), read(e, append(toks(start), filled...), budget-1)
				looked := got.Code != impl.ExpOk || len(got.Rest) < len(call) || !slices.Equal(got.Rest[len(got.Rest)-len(call):], call)
				if looked && !same(got, want) {
					t.Fatalf("%q: %+v, want %+v", start+impl.ShowTokens(call), got, want)
				}
			}
		}
	}
	if matchedOnce < 1000 {
		t.Error("too few calls:", matchedOnce)
	}
}

func TestWhatExpandsToCharactersAloneExpandsToItself(t *testing.T) {
	r := rand.New(rand.NewSource(18))
	e := expandEnv()
	found := 0
	check := func(ts []impl.Token) {
		if slices.ContainsFunc(ts, func(tok impl.Token) bool { return tok.Cat == 0 }) {
			return
		}
		found++
		if got := impl.ExpandAll(e, ts, 0); !same(got, impl.Expanded{Toks: ts}) {
			t.Fatalf("%q: %+v", impl.ShowTokens(ts), got)
		}
	}
	for _, c := range allCases() {
		check(impl.ExpandAll(e, toks(c.text), 100).Toks)
	}
	for range 4000 {
		if got := impl.ExpandAll(e, randomSnippets(r, 8), 100); got.Code == impl.ExpOk {
			check(got.Toks)
		}
	}
	if found < 1000 {
		t.Error("too few:", found)
	}
}

func TestSameMean(t *testing.T) {
	e := expandEnv()
	l := &e.Levels[1]
	for i, n := range []string{"~1", "~2", "~3", "~4", "~5", "~6"} {
		m := []impl.Mean{macro(0, nil, toks("xyz")), macro(0, toks("q"), toks("xyz")), macro(1, slots(1), toks("xyz")), macro(0, nil, list(char(5, 'x'), letter('y'), letter('z'))), macro(0, nil, toks("xyzz")), means(char(5, 'a'))}[i]
		l.Binds = append(l.Binds, bind(n, m))
	}
	var toksToHold []impl.Token
	for _, n := range strings.Fields("bare ~1 ~2 ~3 ~4 ~5 ~6 none again letter blank minusname opened number num string relax def unknown other a swap pair bar") {
		toksToHold = append(toksToHold, name(n))
	}
	toksToHold = append(toksToHold, name(""), letter('a'), char(5, 'a'), letter('b'), space(), char(impl.CatSpace, 9), char(5, '-'), letter('-'), open(), shut(), char(impl.CatActive, '~'), char(impl.CatParam, '#'))
	p := plainOf(e, nil, 0)
	for _, a := range toksToHold {
		for _, b := range toksToHold {
			if got, want := impl.SameMean(e, a, b), same(p.mean(a), p.mean(b)); got != want {
				t.Errorf("%+v and %+v: %v", a, b, got)
			}
		}
	}
	for _, c := range []struct {
		a, b impl.Token
		want bool
	}{
		{name("bare"), name("~1"), true}, {name("bare"), name("~2"), false}, {name("bare"), name("~3"), false}, {name("bare"), name("~4"), false}, {name("bare"), name("~5"), false},
		{name("letter"), letter('a'), true}, {name("~6"), char(5, 'a'), true}, {name("letter"), name("~6"), false}, {letter('a'), char(5, 'a'), false}, {name("number"), name("num"), true}, {name("unknown"), name("other"), true}, {name("unknown"), letter('a'), false}, {name("unknown"), name("none"), false},
	} {
		if impl.SameMean(e, c.a, c.b) != c.want || impl.SameMean(e, c.b, c.a) != c.want {
			t.Errorf("%+v and %+v: want %v", c.a, c.b, c.want)
		}
		if got := impl.ExpandAll(e, slices.Concat(toks("\\ifsame"), list(c.a, c.b), toks("x\\fi")), 9); (len(got.Toks) == 1) != c.want {
			t.Errorf("ifsame of %+v and %+v: %+v", c.a, c.b, got)
		}
	}
}

func TestExpansionRefuses(t *testing.T) {
	good, ts := expandEnv(), toks("12pt")
	check := func(what string, e impl.Env, ts []impl.Token, budget int64) {
		t.Helper()
		for i, read := range []reading{impl.ReadNumber, impl.ReadLen, impl.ReadGlue} {
			if got := read(e, ts, budget); !same(got, impl.Read{Code: impl.ExpArgs}) {
				t.Errorf("%s: function %d: %+v", what, i, got)
			}
		}
		if got := impl.ExpandAll(e, ts, budget); !same(got, impl.Expanded{Code: impl.ExpArgs}) {
			t.Errorf("%s: %+v", what, got)
		}
	}
	for _, e := range badEnvs() {
		check("an environment", e, ts, 9)
		if impl.SameMean(e, letter('a'), letter('a')) || impl.SameMean(e, name("u"), name("v")) {
			t.Error("the same in what is no environment")
		}
	}
	for _, bad := range badLists() {
		check("a list", good, bad, 9)
	}
	for _, budget := range []int64{-1, impl.MaxBudget + 1, math.MinInt64, math.MaxInt64, 1 << 32, -1 << 32} {
		check("a budget of "+strconv.FormatInt(budget, 10), good, ts, budget)
		check("a budget with no tokens", good, nil, budget)
	}
	for _, tok := range manyTokens() {
		fine := tokenIs(tok) && tok.Cat != 16
		if impl.SameMean(good, tok, tok) != fine || impl.SameMean(good, tok, letter('q')) || impl.SameMean(good, letter('q'), tok) {
			t.Errorf("%+v", tok)
		}
	}
}

func TestOnlyTheLastLevelCounts(t *testing.T) {
	low := expandEnv()
	e := impl.Env{Levels: []impl.Level{low.Levels[1], impl.NewEnv().Levels[0]}}
	if got := impl.ExpandAll(e, toks("\\bare\\the\\count 1"), 9); !same(got, impl.Expanded{Toks: append(toks("\\bare"), others("0")...), Left: 8}) {
		t.Errorf("%+v", got)
	}
	bare := e
	bare.Levels[1].Binds = nil
	if got := impl.ExpandAll(bare, toks("\\number 5\\iffalse\\noexpand"), 0); !same(got, impl.Expanded{Toks: toks("\\number 5\\iffalse\\noexpand")}) {
		t.Errorf("names that mean nothing: %+v", got)
	}
	if got := impl.ReadNumber(bare, toks("\\count 1"), 0); got.Code != impl.ExpNumber {
		t.Errorf("%+v", got)
	}
}

func TestExpansionAnswersAreNewMemoryAndArgumentsStay(t *testing.T) {
	r := rand.New(rand.NewSource(19))
	e := expandEnv()
	e.Levels[1].Toks[5] = toks("\\held{\\in}\\toks")
	e = roomy(e)
	kept := told(e)
	texts := []string{"1\\relax\\unknown", "\\the\\toks 5", "1pt\\the\\toks 5\\name", "\\a\\name", "\\pair{\\name}\\other\\more", "\\noexpand\\name\\csname x\\endcsname", "\\iffalse\\fi\\name{\\x}", "1pt plus 2pt \\relax\\name", "\\again\\name", "\\x\\number", "\\glue 3\\name", "1pt  p\\name"}
	for range 300 {
		texts = append(texts, impl.ShowTokens(randomSnippets(r, 8)))
	}
	for _, text := range texts {
		ts := roomy(toks(text))
		keptList := told(ts)
		for _, read := range []reading{impl.ReadNumber, impl.ReadLen, impl.ReadGlue} {
			checkNewMemory(t, read(e, ts, 50), e, ts)
		}
		checkNewMemory(t, impl.ExpandAll(e, ts, 50), e, ts)
		if len(ts) > 1 {
			impl.SameMean(e, ts[0], ts[1])
		}
		if told(ts) != keptList {
			t.Errorf("a list is changed: %q", text)
		}
	}
	if told(e) != kept {
		t.Error("an environment is changed")
	}
}
