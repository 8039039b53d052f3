package tests

import (
	"math"
	"slices"
	"strings"
	"testing"

	"loop.example/g00014/impl"
)

// patternOf is a pattern as a text tells it: #1 is a slot, all else tokens.
func patternOf(text string) impl.Macro {
	var m impl.Macro
	ts := toks(text)
	for i := 0; i < len(ts); i++ {
		if ts[i].Cat == impl.CatParam {
			i++
			m.Slots++
			ts[i] = slot(ts[i].Char - '0')
		}
		m.Pattern = append(m.Pattern, ts[i])
	}
	return m
}

func TestMatchArgsKnown(t *testing.T) {
	for _, c := range []struct {
		pattern, text string
		args          []string
		used          int64
	}{
		{"", "", nil, 0},
		{"", "abc", nil, 0},
		{"ab", "abc", nil, 2},
		{"\\x.", "\\x.y", nil, 2},
		{"#1", "a", []string{"a"}, 1},
		{"#1", "\\x y", []string{"\\x "}, 1},
		{"#1", "{abc}d", []string{"abc"}, 5},
		{"#1", "{}d", []string{""}, 2},
		{"#1", "{a{b}c}d", []string{"a{b}c"}, 7},
		{"#1", "{{a}}d", []string{"{a}"}, 5},
		{"#1", "x {a} b", []string{"x"}, 1},
		{"#1#2", "a b", []string{"a", "b"}, 3},
		{"#1#2", "{a} {b}c", []string{"a", "b"}, 7},
		{"#1#2#3", "{}{{}}#", []string{"", "{}", "#"}, 7},
		{"#1.", "abc.d", []string{"abc"}, 4},
		{"#1.", ".d", []string{""}, 1},
		{"#1.", " a .d", []string{"a "}, 3},
		{"#1.", "{a.b}.c", []string{"a.b"}, 6},
		{"#1.", "{a}{b}.c", []string{"{a}{b}"}, 7},
		{"#1.", "{a}b.c", []string{"{a}b"}, 5},
		{"#1.", "b{a}.c", []string{"b{a}"}, 5},
		{"#1.", "{}.c", []string{""}, 3},
		{"#1.", "{{a}}.c", []string{"{a}"}, 6},
		{"#1.", "{{a}{b}}.c", []string{"{a}{b}"}, 9},
		{"#1.", "{.}{.}.", []string{"{.}{.}"}, 7},
		{"#1ab", "aab", []string{"a"}, 3},
		{"#1aab", "aaaab.", []string{"aa"}, 5},
		{"#1abab", "ababbabab", []string{""}, 4},
		{"#1aba", "abbaba", []string{"abb"}, 6},
		{"#1\\end", "a\\endx\\end b", []string{"a\\endx "}, 3},
		{"#1.#2", "{ab}. {cd}e", []string{"ab", "cd"}, 10},
		{"#1#2.", "a b.c", []string{"a", " b"}, 4},
		{"#1 #2.", "ab c.d", []string{"ab", "c"}, 5},
		{"(#1,#2)", "({a,b},c)d", []string{"a,b", "c"}, 9},
		{"a#1b#2c#3", "a1b2c{3}4", []string{"1", "2", "3"}, 8},
		{"#1#2#3#4#5#6#7#8#9", "123456789", strings.Split("123456789", ""), 9},
	} {
		got := impl.MatchArgs(patternOf(c.pattern), toks(c.text))
		var args []string
		for _, arg := range got.Args {
			args = append(args, impl.ShowTokens(arg))
		}
		if got.Code != impl.ExpOk || got.Used != c.used || !slices.Equal(args, c.args) {
			t.Errorf("%q in %q: %q, %d used, code %d", c.pattern, c.text, args, got.Used, got.Code)
		}
	}
}

func TestMatchArgsCodes(t *testing.T) {
	for _, c := range []struct {
		pattern, text string
		code          int64
	}{
		{"a", "", impl.ExpEnd}, {"ab", "a", impl.ExpEnd}, {"#1", "", impl.ExpEnd}, {"#1", "  ", impl.ExpEnd}, {"#1#2", "a", impl.ExpEnd}, {"#1#2", "{a} ", impl.ExpEnd},
		{"#1", "{", impl.ExpEnd}, {"#1", "{a", impl.ExpEnd}, {"#1", "{a{b}", impl.ExpEnd}, {"#1.", "", impl.ExpEnd}, {"#1.", "a", impl.ExpEnd}, {"#1.", "{a.}", impl.ExpEnd}, {"#1.", "{a.", impl.ExpEnd}, {"#1ab", "cca", impl.ExpEnd}, {"#1.#2", "a.", impl.ExpEnd}, {"#1.#2.", "a.b", impl.ExpEnd},
		{"a", "b", impl.ExpUse}, {"ab", "ac", impl.ExpUse}, {"ab", "b", impl.ExpUse}, {"\\x", "x", impl.ExpUse}, {"\\x", "\\y", impl.ExpUse}, {"a#1", "{a}", impl.ExpUse}, {"a", "}", impl.ExpUse}, {". #1", ".a", impl.ExpUse},
		{"#1", "}", impl.ExpExtra}, {"#1", "x}", impl.ExpOk}, {"#1#2", "a}", impl.ExpExtra}, {"#1#2", "a }", impl.ExpExtra}, {"#1.", "}.", impl.ExpExtra}, {"#1.", "a}.", impl.ExpExtra}, {"#1.", "{a}}.", impl.ExpExtra}, {"#1..", "a.}.", impl.ExpExtra}, {"#1.", "}", impl.ExpExtra},
	} {
		got := impl.MatchArgs(patternOf(c.pattern), toks(c.text))
		if got.Code != c.code || c.code != impl.ExpOk && !same(got, impl.Match{Code: c.code}) {
			t.Errorf("%q in %q: %+v, want %d", c.pattern, c.text, got, c.code)
		}
	}
}

// Tokens are the same just as they are: of another category, or as a name, the same byte is another one.
func TestDelimitersAreJustAsTheyAre(t *testing.T) {
	m := impl.Macro{Pattern: list(slot(1), char(5, 'a')), Slots: 1}
	got := impl.MatchArgs(m, list(letter('a'), name("a"), char(5, 'b'), char(5, 'a'), char(5, 'a')))
	if want := (impl.Match{Args: [][]impl.Token{list(letter('a'), name("a"), char(5, 'b'))}, Used: 4}); !same(got, want) {
		t.Errorf("%+v", got)
	}
	lead := impl.Macro{Pattern: list(char(5, 'a'))}
	for tok, code := range map[impl.Token]int64{char(5, 'a'): impl.ExpOk, letter('a'): impl.ExpUse, name("a"): impl.ExpUse, char(5, 'b'): impl.ExpUse} {
		if got := impl.MatchArgs(lead, list(tok)); got.Code != code {
			t.Errorf("%+v: %d", tok, got.Code)
		}
	}
	blanks := list(char(impl.CatSpace, 'x'), char(impl.CatSpace, 9), letter('y'))
	if got := impl.MatchArgs(impl.Macro{Pattern: slots(1), Slots: 1}, blanks); got.Used != 3 || !same(got.Args, [][]impl.Token{list(letter('y'))}) {
		t.Errorf("spaces of other bytes: %+v", got)
	}
	groups := list(char(impl.CatOpen, '['), letter('y'), char(impl.CatClose, ')'), shut())
	if got := impl.MatchArgs(impl.Macro{Pattern: slots(1), Slots: 1}, groups); got.Used != 3 || !same(got.Args, [][]impl.Token{list(letter('y'))}) {
		t.Errorf("a group of other bytes: %+v", got)
	}
}

func TestMatchArgsAtTheMostTokens(t *testing.T) {
	dot := char(5, '.')
	long := many(impl.MaxTokens-1, letter('a'))
	upTo := impl.Macro{Pattern: list(slot(1), dot), Slots: 1}
	if got := impl.MatchArgs(upTo, append(slices.Clone(long), dot)); got.Code != impl.ExpOk || got.Used != impl.MaxTokens || !same(got.Args, [][]impl.Token{long}) {
		t.Error("a list up to a delimiter:", got.Code, got.Used)
	}
	if got := impl.MatchArgs(upTo, append(slices.Clone(long), letter('a'), dot)); !same(got, impl.Match{Code: impl.ExpArgs}) {
		t.Error("a token too many:", got.Code)
	}
	bare := impl.Macro{Pattern: slots(1), Slots: 1}
	deep := nested(impl.MaxTokens / 2)
	if got := impl.MatchArgs(bare, deep); got.Code != impl.ExpOk || got.Used != impl.MaxTokens || !same(got.Args, [][]impl.Token{deep[1 : len(deep)-1]}) {
		t.Error("groups within groups:", got.Code, got.Used)
	}
	longest := impl.Macro{Pattern: append(slots(1), many(99, dot)...), Slots: 1}
	if got := impl.MatchArgs(longest, many(impl.MaxTokens, dot)); got.Code != impl.ExpOk || got.Used != 99 || !same(got.Args, [][]impl.Token{nil}) {
		t.Error("the longest delimiter:", got.Code, got.Used)
	}
	if got := impl.MatchArgs(longest, append(many(98, dot), many(impl.MaxTokens-98, letter('x'))...)); got.Code != impl.ExpEnd {
		t.Error("all but the last of a delimiter:", got.Code)
	}
}

// badLists are lists of tokens that chapter 4 does not take.
func badLists() [][]impl.Token {
	out := [][]impl.Token{many(impl.MaxTokens+1, letter('a')), many(3*impl.MaxTokens, space()), append(many(impl.MaxTokens-1, letter('a')), slot(1)), list(name(strings.Repeat("x", 41)))}
	for _, tok := range manyTokens() {
		if !tokenIs(tok) || tok.Cat == 16 {
			out = append(out, list(letter('1'), tok))
		}
	}
	return out
}

func badMacros() []impl.Macro {
	var out []impl.Macro
	for _, m := range badMeans() {
		if !macroIs(m.Macro) {
			out = append(out, m.Macro)
		}
	}
	return out
}

func TestMatchArgsAndFillBodyRefuse(t *testing.T) {
	if len(badMacros()) < 30 {
		t.Error("too few macros that can't be")
	}
	for _, m := range badMacros() {
		if got := impl.MatchArgs(m, toks("abc")); !same(got, impl.Match{Code: impl.ExpArgs}) {
			t.Errorf("%+v: %+v", m, got)
		}
		for _, n := range []int64{0, 1, 2, 9, m.Slots} {
			args := make([][]impl.Token, min(max(n, 0), 10))
			if got, ok := impl.FillBody(m, args); ok || len(got) != 0 {
				t.Errorf("%+v with %d lists: %+v", m, n, got)
			}
		}
	}
	two := impl.Macro{Pattern: slots(2), Slots: 2, Body: list(letter('a'))}
	for _, ts := range badLists() {
		if got := impl.MatchArgs(impl.Macro{}, ts); !same(got, impl.Match{Code: impl.ExpArgs}) {
			t.Errorf("%d tokens: %d", len(ts), got.Code)
		}
		for _, args := range [][][]impl.Token{{ts, nil}, {nil, ts}} {
			got, ok := impl.FillBody(two, args)
			long := len(ts) > impl.MaxTokens // such a list is none of the answer's
			if ok != long || !ok && len(got) != 0 {
				t.Errorf("%d tokens: %v", len(ts), ok)
			}
		}
	}
	for n := range 5 {
		got, ok := impl.FillBody(two, make([][]impl.Token, n))
		if ok != (n == 2) || ok != (len(got) == 1) {
			t.Errorf("%d lists for 2 slots: %v", n, ok)
		}
	}
}

func TestFillBodyKnown(t *testing.T) {
	for _, c := range []struct {
		slots int64
		body  []impl.Token
		args  []string
		want  string
	}{
		{0, nil, nil, ""},
		{0, toks("a{b}#"), nil, "a{b}#"},
		{1, list(slot(1)), []string{"xy"}, "xy"},
		{1, list(slot(1), slot(1)), []string{"x"}, "xx"},
		{1, list(letter('a')), []string{"x"}, "a"},
		{1, list(letter('a'), slot(1), letter('b')), []string{""}, "ab"},
		{2, list(slot(2), letter('-'), slot(1)), []string{"1", "{2}"}, "{2}-1"},
		{2, list(open(), slot(2), shut(), slot(2)), []string{"x", "}{"}, "{}{}}{"},
		{9, append(slots(9), slot(1)), strings.Split("123456789", ""), "1234567891"},
	} {
		var args [][]impl.Token
		for _, arg := range c.args {
			args = append(args, toks(arg))
		}
		got, ok := impl.FillBody(impl.Macro{Pattern: slots(c.slots), Slots: c.slots, Body: c.body}, args)
		if !ok || impl.ShowTokens(got) != c.want {
			t.Errorf("%q with %q: %q %v", impl.ShowTokens(c.body), c.args, impl.ShowTokens(got), ok)
		}
	}
}

func TestFillBodyAtTheMostTokens(t *testing.T) {
	m := impl.Macro{Pattern: slots(2), Slots: 2, Body: many(2000, slot(1))}
	ten := many(10, letter('a'))
	if got, ok := impl.FillBody(m, [][]impl.Token{ten, many(99999, space())}); !ok || !same(got, many(impl.MaxTokens, letter('a'))) {
		t.Error("as many as may be:", ok, len(got))
	}
	m.Body[1999] = slot(2)
	for n, want := range map[int]bool{0: true, 9: true, 10: true, 11: false, 12: false, 200000: false} {
		got, ok := impl.FillBody(m, [][]impl.Token{ten, many(n, letter('b'))})
		if ok != want || ok && len(got) != 19990+n || !ok && len(got) != 0 {
			t.Errorf("%d in the last slot: %v, %d", n, ok, len(got))
		}
	}
}

func TestMatchArgsAndFillBodyAnswerNewMemory(t *testing.T) {
	for _, c := range []struct{ pattern, text string }{
		{"#1", "{\\name x}y"}, {"#1#2#3", "{\\a}\\b {c}"}, {"#1.#2", "\\long\\list.{\\other}"}, {"#1.#2.", "{\\in}..x"}, {"\\lead#1", "\\lead\\x"}, {"#1", "}"}, {"a", "b"},
	} {
		m, ts := roomy(patternOf(c.pattern)), roomy(toks(c.text))
		kept, keptMacro := told(ts), told(m)
		got := impl.MatchArgs(m, ts)
		checkNewMemory(t, got, m, ts)
		if told(ts) != kept || told(m) != keptMacro {
			t.Errorf("an argument is changed: %q in %q", c.pattern, c.text)
		}
	}
	for _, body := range [][]impl.Token{list(name("body")), list(slot(1)), list(slot(2), slot(2)), list(name("a"), slot(1), name("b"), slot(2), name("c"))} {
		m := roomy(impl.Macro{Pattern: slots(2), Slots: 2, Body: body})
		args := roomy([][]impl.Token{toks("\\one{x}"), toks("\\two")})
		kept, keptMacro := told(args), told(m)
		got, ok := impl.FillBody(m, args)
		checkNewMemory(t, got, m, args)
		if !ok || told(args) != kept || told(m) != keptMacro {
			t.Errorf("%q: %v, or an argument is changed", impl.ShowTokens(body), ok)
		}
	}
}

func TestMatchArgsAndFillBodyAtEveryArgument(t *testing.T) {
	for _, n := range corners {
		m := impl.Macro{Pattern: list(impl.Token{Cat: n, Char: n}), Slots: n, Body: list(impl.Token{Cat: 16, Char: n})}
		if got := impl.MatchArgs(m, nil); got.Code != impl.ExpArgs && macroIs(m) == false {
			t.Errorf("%d: %+v", n, got)
		}
		impl.FillBody(m, nil)
		impl.FillBody(impl.Macro{Slots: n, Pattern: slots(min(max(n, 0), 9))}, [][]impl.Token{nil})
		impl.MatchArgs(impl.Macro{}, list(impl.Token{Cat: n, Char: n, Name: "x"}))
	}
	if got := impl.MatchArgs(impl.Macro{Slots: math.MinInt64}, nil); got.Code != impl.ExpArgs {
		t.Error(got)
	}
}
