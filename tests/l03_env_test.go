package tests

import (
	"math"
	"math/rand"
	"slices"
	"strings"
	"testing"

	"loop.example/g00014/impl"
)

func prim(n int64) impl.Mean { return impl.Mean{Kind: impl.MeanPrim, Num: n} }

func means(t impl.Token) impl.Mean { return impl.Mean{Kind: impl.MeanChar, Token: t} }

func macro(slots int64, pattern, body []impl.Token) impl.Mean {
	return impl.Mean{Kind: impl.MeanMacro, Macro: impl.Macro{Pattern: pattern, Slots: slots, Body: body}}
}

func bind(name string, m impl.Mean) impl.Bind { return impl.Bind{Name: name, Mean: m} }

func list(ts ...impl.Token) []impl.Token { return ts }

func many(n int, t impl.Token) []impl.Token { return slices.Repeat([]impl.Token{t}, n) }

func letter(c byte) impl.Token { return char(impl.CatLetter, c) }
func open() impl.Token         { return char(impl.CatOpen, '{') }
func shut() impl.Token         { return char(impl.CatClose, '}') }

// slots are the slots 1 .. n, in order.
func slots(n int64) []impl.Token {
	var out []impl.Token
	for i := range n {
		out = append(out, slot(i+1))
	}
	return out
}

// nested are n groups, each within the one ahead.
func nested(n int) []impl.Token { return append(many(n, open()), many(n, shut())...) }

// balancedIs: taken away as long as there are some, do pairs that stand side by side leave nothing of CatOpen and CatClose?
func balancedIs(ts []impl.Token) bool {
	var groups string
	for _, t := range ts {
		if t.Cat == 1 {
			groups += "("
		} else if t.Cat == 2 {
			groups += ")"
		}
	}
	for strings.Contains(groups, "()") {
		groups = strings.ReplaceAll(groups, "()", "")
	}
	return groups == ""
}

func bodyIs(ts []impl.Token, n int64) bool {
	wrong := slices.ContainsFunc(ts, func(t impl.Token) bool { return !tokenIs(t) || t.Cat == 16 && t.Char > n })
	return len(ts) <= 2000 && !wrong && balancedIs(ts)
}

func macroIs(m impl.Macro) bool {
	barred := func(t impl.Token) bool { return !tokenIs(t) || t.Cat == 1 || t.Cat == 2 || t.Cat == 7 }
	var found []impl.Token
	for _, t := range m.Pattern {
		if t.Cat == 16 {
			found = append(found, t)
		}
	}
	if m.Slots < 0 || m.Slots > 9 || len(m.Pattern) > 100 || slices.ContainsFunc(m.Pattern, barred) {
		return false
	}
	return slices.Equal(found, slots(m.Slots)) && bodyIs(m.Body, m.Slots)
}

func meanIs(m impl.Mean) bool {
	rest := m
	switch m.Kind {
	case 0:
	case 1:
		if m.Num < 1 || m.Num > 58 {
			return false
		}
		rest.Num = 0
	case 2:
		if !tokenIs(m.Token) || m.Token.Cat == 0 || m.Token.Cat == 16 {
			return false
		}
		rest.Token = impl.Token{}
	case 3:
		if !macroIs(m.Macro) {
			return false
		}
		rest.Macro = impl.Macro{}
	default:
		return false
	}
	rest.Kind = 0
	return same(rest, impl.Mean{})
}

// goodMeans are means that can be, at the edges too.
func goodMeans() []impl.Mean {
	dot, par := char(impl.CatOther, '.'), char(impl.CatParam, '#')
	return []impl.Mean{
		{}, prim(1), prim(2), prim(57), prim(impl.LastPrim),
		{Macro: impl.Macro{Pattern: list(), Body: list()}},
		means(letter('a')), means(char(impl.CatOther, 0)), means(char(impl.CatActive, 255)), means(open()), means(shut()), means(par), means(space()),
		macro(0, nil, nil), macro(0, list(), list()), macro(0, list(dot, name("end"), space()), list(letter('x'))),
		macro(1, list(slot(1)), list(slot(1), slot(1))), macro(1, list(slot(1)), nil), macro(2, list(slot(1), dot, slot(2)), list(slot(2), slot(1))),
		macro(9, slots(9), slots(9)), macro(9, slots(9), list(slot(9))),
		macro(0, many(100, dot), nil), macro(9, append(many(91, dot), slots(9)...), nil), macro(9, append(slots(9), many(91, dot)...), nil),
		macro(0, nil, many(2000, dot)), macro(0, nil, nested(1000)), macro(0, nil, append(nested(3), nested(2)...)), macro(9, slots(9), many(2000, slot(9))),
		macro(0, nil, list(par, par)), macro(0, nil, list(open(), par, shut())), macro(0, list(name(strings.Repeat("x", 40)), name("")), list(name(""))),
	}
}

// badMeans are means that can't be, most of them by one thing only.
func badMeans() []impl.Mean {
	dot := char(impl.CatOther, '.')
	out := []impl.Mean{
		{Kind: -1}, {Kind: 4}, {Kind: math.MaxInt64}, {Kind: math.MinInt64}, {Kind: 1 << 32},
		prim(0), prim(-1), prim(impl.LastPrim + 1), prim(math.MaxInt64), prim(math.MinInt64), prim(1 << 32),
		means(impl.Token{}), means(name("a")), means(slot(1)), means(char(impl.CatEnd, 10)), means(char(impl.CatBad, 1)), means(impl.Token{Cat: 5, Char: 256}), means(impl.Token{Cat: 5, Char: -1}), means(impl.Token{Cat: 5, Char: 1, Name: "x"}),
		macro(-1, nil, nil), macro(10, append(slots(9), slot(9)), nil), macro(10, append(slots(9), slot(10)), nil), macro(math.MinInt64, nil, nil), macro(math.MaxInt64, nil, nil), macro(1<<32, nil, nil),
		macro(1, nil, nil), macro(2, list(slot(1)), nil), macro(0, list(slot(1)), nil), macro(1, slots(2), nil), macro(9, slots(8), nil),
		macro(2, list(slot(2)), nil), macro(2, list(slot(2), slot(1)), nil), macro(2, list(slot(1), slot(1)), nil), macro(2, list(slot(1), slot(2), slot(2)), nil), macro(2, list(slot(1), slot(1), slot(2)), nil), macro(1, list(slot(1), slot(1)), nil), macro(3, list(slot(1), slot(3), slot(2)), nil),
		macro(0, list(open(), shut()), nil), macro(0, list(open()), nil), macro(0, list(shut()), nil), macro(0, list(dot, char(impl.CatParam, '#')), nil), macro(1, list(slot(1), char(impl.CatParam, 'x')), nil),
		macro(0, list(char(impl.CatNote, '%')), nil), macro(0, list(name(strings.Repeat("x", 41))), nil),
		macro(0, many(101, dot), nil), macro(9, append(many(92, dot), slots(9)...), nil),
		macro(0, nil, many(2001, dot)), macro(0, nil, append(nested(1000), dot)), macro(0, nil, nested(1001)),
		macro(0, nil, list(open())), macro(0, nil, list(shut())), macro(0, nil, list(shut(), open())), macro(0, nil, list(open(), shut(), shut(), open())), macro(0, nil, list(open(), open(), shut())), macro(0, nil, list(open(), shut(), shut())),
		macro(0, nil, list(slot(1))), macro(1, slots(1), list(slot(2))), macro(8, slots(8), list(slot(9))), macro(9, slots(9), list(slot(10))), macro(9, slots(9), list(slot(0))),
		macro(0, nil, list(dot, char(impl.CatIgnore, 0))), macro(0, nil, list(impl.Token{Cat: 17})),
	}
	for kind := range int64(4) {
		unused := []impl.Mean{prim(1), means(letter('a')), {Macro: impl.Macro{Pattern: list(dot)}}, {Macro: impl.Macro{Slots: 1}}, {Macro: impl.Macro{Body: list(dot)}}, {Num: -1}, {Token: name("a")}, {Token: impl.Token{Char: 1}}}
		for _, u := range unused {
			m := []impl.Mean{{}, prim(7), means(dot), macro(0, list(dot), nil)}[kind]
			m.Num += u.Num
			if kind != 2 {
				m.Token = u.Token
			}
			if kind != 3 {
				m.Macro = u.Macro
			}
			if !meanIs(m) {
				out = append(out, m)
			}
		}
	}
	return out
}

func TestMeanOk(t *testing.T) {
	for i, m := range goodMeans() {
		if !impl.MeanOk(m) || !meanIs(m) {
			t.Errorf("%d is refused: %+v", i, m)
		}
	}
	for i, m := range badMeans() {
		if impl.MeanOk(m) || meanIs(m) {
			t.Errorf("%d is taken: %+v", i, m)
		}
	}
}

func TestMeanOkAtEachToken(t *testing.T) {
	for _, tok := range manyTokens() {
		for _, m := range []impl.Mean{means(tok), macro(0, list(tok), nil), macro(0, nil, list(tok)), macro(1, slots(1), list(tok)), macro(1, list(tok), nil), {Token: tok}, {Kind: 1, Num: 1, Token: tok}, {Kind: 3, Token: tok}} {
			if impl.MeanOk(m) != meanIs(m) {
				t.Fatalf("%+v: want %v", m, meanIs(m))
			}
		}
	}
}

func randomTokens(r *rand.Rand, most int, of []impl.Token) []impl.Token {
	out := make([]impl.Token, r.Intn(most+1))
	for i := range out {
		out[i] = of[r.Intn(len(of))]
	}
	return out
}

func TestMeanOkAtRandom(t *testing.T) {
	r := rand.New(rand.NewSource(5))
	taken := 0
	for range 50000 {
		n := r.Int63n(4)
		pattern := randomTokens(r, 3, list(slot(1), slot(1), slot(2), slot(3), letter('a'), letter('b'), name("c")))
		if r.Intn(2) == 0 {
			pattern = append(pattern, slots(n)...)
		}
		m := macro(n, pattern, randomTokens(r, 6, list(open(), shut(), open(), shut(), slot(1), letter('b'))))
		if impl.MeanOk(m) != meanIs(m) {
			t.Fatalf("%+v: want %v", m, meanIs(m))
		}
		if meanIs(m) {
			taken++
		}
	}
	if taken < 1000 {
		t.Error("too few that can be:", taken)
	}
}

const allPrims = "expandafter noexpand csname endcsname string number the iftrue iffalse ifnum iflen ifodd ifsame ifcase else or fi def gdef edef let global count len glue toks advance times divide cat begingroup endgroup relax par hskip vskip kern penalty hbox vbox rule font indent noindent note mark table row span frac root over write message shipout box setbox end"

func TestPrimName(t *testing.T) {
	names := strings.Fields(allPrims)
	if len(names) != 58 || impl.LastPrim != 58 {
		t.Fatal(len(names), impl.LastPrim)
	}
	e := impl.NewEnv()
	for i, n := range names {
		if got := impl.PrimName(int64(i + 1)); got != n {
			t.Errorf("%d: %q, want %q", i+1, got, n)
		}
		if m := impl.Look(e, n); !same(m, prim(int64(i+1))) {
			t.Errorf("%s: %+v", n, m)
		}
	}
	for _, n := range []int64{0, -1, 59, 60, math.MinInt64, math.MaxInt64, 1 << 32, 1<<32 + 1} {
		if got := impl.PrimName(n); got != "" {
			t.Errorf("%d: %q", n, got)
		}
	}
	known := map[int64]string{impl.PrimExpandafter: "expandafter", impl.PrimThe: "the", impl.PrimIftrue: "iftrue", impl.PrimFi: "fi", impl.PrimDef: "def", impl.PrimGlobal: "global", impl.PrimCount: "count", impl.PrimCat: "cat", impl.PrimBegingroup: "begingroup", impl.PrimPar: "par", impl.PrimHskip: "hskip", impl.PrimNoindent: "noindent", impl.PrimNote: "note", impl.PrimOver: "over", impl.PrimWrite: "write", impl.PrimEnd: "end"}
	for n, want := range known {
		if impl.PrimName(n) != want {
			t.Errorf("the constant of %s is %d", want, n)
		}
	}
}

func TestNewEnv(t *testing.T) {
	var binds []impl.Bind
	names := strings.Fields(allPrims)
	for i, n := range names {
		binds = append(binds, bind(n, prim(int64(i+1))))
	}
	slices.SortFunc(binds, func(a, b impl.Bind) int { return strings.Compare(a.Name, b.Name) })
	want := impl.Env{Levels: []impl.Level{{Cats: impl.PlainCats(), Binds: binds, Counts: make([]int64, 32), Lens: make([]int64, 32), Glues: make([]impl.Glue, 32), Toks: make([][]impl.Token, 32)}}}
	got := impl.NewEnv()
	if !same(got, want) || !impl.EnvOk(got) {
		t.Errorf("%+v", got)
	}
	got.Levels[0].Binds[0].Name = "changed"
	got.Levels[0].Counts[0] = 1
	again := impl.NewEnv()
	if !same(again, want) {
		t.Error("NewEnv hands out one level twice")
	}
	checkNewMemory(t, again)
}

func bindsAre(bs []impl.Bind) bool {
	names := map[string]int{}
	var order []string
	for _, b := range bs {
		if len(b.Name) > 40 || b.Mean.Kind == 0 || !meanIs(b.Mean) {
			return false
		}
		names[b.Name]++
		order = append(order, b.Name)
	}
	return len(bs) <= 500 && len(names) == len(bs) && slices.IsSorted(order)
}

func levelIs(l impl.Level) bool {
	if len(l.Cats) != 256 || len(l.Counts) != 32 || len(l.Lens) != 32 || len(l.Glues) != 32 || len(l.Toks) != 32 || !bindsAre(l.Binds) {
		return false
	}
	for _, c := range l.Cats {
		if c < 0 || c > 15 {
			return false
		}
	}
	for i := range 32 {
		if max(l.Counts[i], -l.Counts[i]) > 2147483647 || l.Counts[i] == math.MinInt64 || max(l.Lens[i], -l.Lens[i]) > 1073741823 || l.Lens[i] == math.MinInt64 || !impl.GlueOk(l.Glues[i]) || !bodyIs(l.Toks[i], 0) {
			return false
		}
	}
	return true
}

func envIs(e impl.Env) bool {
	wrong := slices.ContainsFunc(e.Levels, func(l impl.Level) bool { return !levelIs(l) })
	return len(e.Levels) >= 1 && len(e.Levels) <= 20 && !wrong
}

// manyBinds are n binds with names of numbers.
func manyBinds(n int) []impl.Bind {
	var out []impl.Bind
	for i := range n {
		out = append(out, bind(string([]byte{byte('a' + i/100), byte('0' + i/10%10), byte('0' + i%10)}), prim(1)))
	}
	return out
}

// changed are environments of three levels, of which one, at the place given, is as change makes it.
func changed(at int, change func(*impl.Level)) impl.Env {
	e := impl.Env{}
	for range 3 {
		e.Levels = append(e.Levels, impl.NewEnv().Levels...)
	}
	change(&e.Levels[at])
	return e
}

// goodLevels are changes of a level that leave it as it has to be, with everything that may be in one at its edges.
func goodLevels() []func(*impl.Level) {
	out := []func(*impl.Level){
		func(l *impl.Level) {},
		func(l *impl.Level) { l.Binds = nil },
		func(l *impl.Level) { l.Binds = []impl.Bind{} },
		func(l *impl.Level) { l.Binds = manyBinds(500) },
		func(l *impl.Level) {
			l.Binds = []impl.Bind{bind("", prim(1)), bind("\x00", prim(2)), bind("a", prim(3)), bind("ab", prim(58)), bind("b", prim(1)), bind("\xff", prim(1)), bind(strings.Repeat("\xff", 40), prim(1))}
		},
		func(l *impl.Level) { l.Cats = slices.Repeat([]int64{15}, 256) },
		func(l *impl.Level) { l.Cats[0], l.Cats[255] = 0, 15 },
		func(l *impl.Level) { l.Counts[0], l.Counts[31] = -2147483647, 2147483647 },
		func(l *impl.Level) { l.Lens[0], l.Lens[31] = -1073741823, 1073741823 },
		func(l *impl.Level) {
			l.Glues[0], l.Glues[31] = glue(-1073741823, 1073741823, 3, -1073741823, 3), glue(1, 2, 0, 3, 1)
		},
		func(l *impl.Level) { l.Toks[0], l.Toks[31] = many(2000, letter('x')), nested(1000) },
		func(l *impl.Level) { l.Toks[5] = list(char(impl.CatParam, '#'), name(""), open(), shut()) },
	}
	for _, m := range goodMeans() {
		if m.Kind != 0 {
			out = append(out, func(l *impl.Level) { l.Binds = []impl.Bind{bind("x", m)} })
		}
	}
	return out
}

// badLevels are changes of a level that make it none, most of them by one thing only.
func badLevels() []func(*impl.Level) {
	out := []func(*impl.Level){
		func(l *impl.Level) { *l = impl.Level{} },
		func(l *impl.Level) { l.Binds = manyBinds(501) },
		func(l *impl.Level) { l.Binds = []impl.Bind{bind("b", prim(1)), bind("a", prim(1))} },
		func(l *impl.Level) { l.Binds = []impl.Bind{bind("a", prim(1)), bind("a", prim(1))} },
		func(l *impl.Level) { l.Binds = []impl.Bind{bind("", prim(1)), bind("", prim(2))} },
		func(l *impl.Level) { l.Binds = []impl.Bind{bind("ab", prim(1)), bind("a", prim(1))} },
		func(l *impl.Level) { l.Binds = []impl.Bind{bind("\xff", prim(1)), bind("a", prim(1))} },
		func(l *impl.Level) {
			l.Binds = []impl.Bind{bind("a", prim(1)), bind("c", prim(1)), bind("b", prim(1)), bind("d", prim(1))}
		},
		func(l *impl.Level) { l.Binds = []impl.Bind{bind(strings.Repeat("x", 41), prim(1))} },
		func(l *impl.Level) { l.Binds = []impl.Bind{bind("a", impl.Mean{})} },
		func(l *impl.Level) { l.Binds[57].Mean = impl.Mean{} },
		func(l *impl.Level) { l.Counts = l.Counts[:31] },
		func(l *impl.Level) { l.Counts = append(l.Counts, 0) },
		func(l *impl.Level) { l.Counts = nil },
		func(l *impl.Level) { l.Lens = l.Lens[:31] },
		func(l *impl.Level) { l.Lens = append(l.Lens, 0) },
		func(l *impl.Level) { l.Lens = nil },
		func(l *impl.Level) { l.Glues = l.Glues[:31] },
		func(l *impl.Level) { l.Glues = append(l.Glues, impl.Glue{}) },
		func(l *impl.Level) { l.Glues = nil },
		func(l *impl.Level) { l.Toks = l.Toks[:31] },
		func(l *impl.Level) { l.Toks = append(l.Toks, nil) },
		func(l *impl.Level) { l.Toks = nil },
	}
	for _, cats := range noCats() {
		out = append(out, func(l *impl.Level) { l.Cats = cats })
	}
	for _, at := range []int{0, 17, 31} {
		for _, n := range []int64{2147483648, -2147483648, math.MinInt64, math.MaxInt64} {
			out = append(out, func(l *impl.Level) { l.Counts[at] = n })
		}
		for _, n := range []int64{1073741824, -1073741824, 2147483647, math.MinInt64, math.MaxInt64} {
			out = append(out, func(l *impl.Level) { l.Lens[at] = n })
		}
		for _, g := range noGlues() {
			out = append(out, func(l *impl.Level) { l.Glues[at] = g })
		}
		for _, ts := range [][]impl.Token{many(2001, letter('x')), append(nested(1000), letter('x')), list(slot(1)), list(slot(0)), list(open()), list(shut()), list(shut(), open()), list(letter('x'), char(impl.CatBad, 'x'))} {
			out = append(out, func(l *impl.Level) { l.Toks[at] = ts })
		}
	}
	for _, m := range badMeans() {
		out = append(out, func(l *impl.Level) { l.Binds = []impl.Bind{bind("a", prim(1)), bind("b", m)} })
	}
	return out
}

func badEnvs() []impl.Env {
	out := []impl.Env{{}, {Levels: []impl.Level{}}, {Levels: slices.Repeat(impl.NewEnv().Levels, 21)}, {Levels: slices.Repeat(impl.NewEnv().Levels, 1000)}}
	for i, change := range badLevels() {
		out = append(out, changed(i%3, change))
	}
	return out
}

func TestEnvOk(t *testing.T) {
	for at := range 3 {
		for i, change := range goodLevels() {
			if e := changed(at, change); !impl.EnvOk(e) || !envIs(e) {
				t.Errorf("good level %d as number %d is refused", i, at)
			}
		}
		for i, change := range badLevels() {
			if e := changed(at, change); impl.EnvOk(e) || envIs(e) {
				t.Errorf("bad level %d as number %d is taken", i, at)
			}
		}
	}
	for i, e := range badEnvs() {
		if impl.EnvOk(e) {
			t.Error("taken:", i)
		}
	}
	for n := 1; n <= 22; n++ {
		if impl.EnvOk(impl.Env{Levels: slices.Repeat(impl.NewEnv().Levels, n)}) != (n <= impl.MaxLevels) {
			t.Error("levels:", n)
		}
	}
}

func TestLook(t *testing.T) {
	long := strings.Repeat("x", 40)
	call := macro(1, list(slot(1), name("end")), list(slot(1)))
	e := changed(2, func(l *impl.Level) {
		l.Binds = []impl.Bind{bind("", prim(9)), bind("a", call), bind("ab", means(letter('q'))), bind("b", prim(58)), bind(long, prim(3))}
	})
	want := map[string]impl.Mean{"": prim(9), "a": call, "ab": means(letter('q')), "b": prim(58), long: prim(3)}
	for n, m := range want {
		if got := impl.Look(e, n); !same(got, m) {
			t.Errorf("%q: %+v, want %+v", n, got, m)
		}
	}
	for _, n := range []string{"def", "A", "aa", "abc", "c", "\x00", "\xff", long[1:], long + "x", strings.Repeat("y", 5000)} {
		if got := impl.Look(e, n); !same(got, impl.Mean{}) {
			t.Errorf("%q means %+v", n, got)
		}
	}
	below := impl.Env{Levels: []impl.Level{e.Levels[2], e.Levels[0]}}
	if !same(impl.Look(below, "a"), impl.Mean{}) || !same(impl.Look(below, "def"), prim(impl.PrimDef)) {
		t.Error("another level than the last is asked")
	}
	for i, bad := range badEnvs() {
		if m := impl.Look(bad, "def"); !same(m, impl.Mean{}) {
			t.Errorf("%d: %+v", i, m)
		}
	}
}

func TestLookFindsEachOfTheMost(t *testing.T) {
	e := changed(2, func(l *impl.Level) { l.Binds = manyBinds(500) })
	for i := range e.Levels[2].Binds {
		e.Levels[2].Binds[i].Mean.Num = int64(i%58 + 1)
	}
	for _, b := range e.Levels[2].Binds {
		if !same(impl.Look(e, b.Name), b.Mean) || !same(impl.Look(e, b.Name+"x"), impl.Mean{}) {
			t.Error(b.Name)
		}
	}
}
