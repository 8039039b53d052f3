package tests

import (
	"fmt"
	"math"
	"math/rand"
	"slices"
	"strings"
	"testing"

	"loop.example/g00014/impl"
)

func setCat(at, cat int64) impl.Set   { return impl.Set{Kind: impl.SetCat, At: at, N: cat} }
func setCount(at, n int64) impl.Set   { return impl.Set{Kind: impl.SetCount, At: at, N: n} }
func setLen(at, n int64) impl.Set     { return impl.Set{Kind: impl.SetLen, At: at, N: n} }
func setGlue(at, size int64) impl.Set { return setWholeGlue(at, glue(size, size, 1, size, 2)) }

func setWholeGlue(at int64, g impl.Glue) impl.Set {
	return impl.Set{Kind: impl.SetGlue, At: at, Glue: g}
}

func setToks(at int64, ts ...impl.Token) impl.Set {
	return impl.Set{Kind: impl.SetToks, At: at, Toks: ts}
}

func setName(n string, m impl.Mean) impl.Set {
	return impl.Set{Kind: impl.SetName, Name: n, Mean: m}
}

// applied is a set in one level, told plainly. A place that is none makes the level none.
func applied(l impl.Level, s impl.Set) impl.Level {
	l = roomy(l)
	rows := map[int64]int64{1: 256, 2: 32, 3: 32, 4: 32, 5: 32, 6: math.MaxInt64}
	if size, ok := rows[s.Kind]; !ok || s.Kind != 6 && (s.At < 0 || s.At >= size) {
		return impl.Level{}
	}
	switch s.Kind {
	case 1:
		l.Cats[s.At] = s.N
	case 2:
		l.Counts[s.At] = s.N
	case 3:
		l.Lens[s.At] = s.N
	case 4:
		l.Glues[s.At] = s.Glue
	case 5:
		l.Toks[s.At] = s.Toks
	case 6:
		l.Binds = slices.DeleteFunc(l.Binds, func(b impl.Bind) bool { return b.Name == s.Name })
		if s.Mean.Kind != 0 {
			l.Binds = append(l.Binds, bind(s.Name, s.Mean))
		}
		slices.SortFunc(l.Binds, func(a, b impl.Bind) int { return strings.Compare(a.Name, b.Name) })
	}
	return l
}

// setPlainly is what the document says of SetEnv, for an environment that can be.
func setPlainly(e impl.Env, s impl.Set, global bool) (impl.Env, bool) {
	out := impl.Env{Levels: slices.Clone(e.Levels)}
	for i := range out.Levels {
		if global || i == len(out.Levels)-1 {
			out.Levels[i] = applied(out.Levels[i], s)
		}
	}
	if !envIs(out) {
		return e, false
	}
	return out, true
}

func checkSet(t *testing.T, e impl.Env, s impl.Set, global bool) (impl.Env, bool) {
	t.Helper()
	got, ok := impl.SetEnv(e, s, global)
	want, wantOk := setPlainly(e, s, global)
	if ok != wantOk || !same(got, want) {
		t.Fatalf("SetEnv(%+v, %v) in %d levels: %v, want %v; the same environment: %v", s, global, len(e.Levels), ok, wantOk, same(got, want))
	}
	return got, ok
}

func mustOpen(t *testing.T, e impl.Env) impl.Env {
	t.Helper()
	got, ok := impl.OpenGroup(e)
	if !ok {
		t.Fatal("no group is opened")
	}
	return got
}

func mustClose(t *testing.T, e impl.Env) impl.Env {
	t.Helper()
	got, ok := impl.CloseGroup(e)
	if !ok {
		t.Fatal("no group is closed")
	}
	return got
}

func mustSet(t *testing.T, e impl.Env, s impl.Set, global bool) impl.Env {
	t.Helper()
	got, ok := impl.SetEnv(e, s, global)
	if !ok {
		t.Fatalf("%+v is not set", s)
	}
	return got
}

// goodSets can be taken by every level that has room for a name, of each kind and at its edges.
func goodSets() []impl.Set {
	out := []impl.Set{
		setCat(0, 15), setCat(255, 0), setCat(92, 12), setCat('a', 14),
		setCount(0, -impl.MaxCount), setCount(31, impl.MaxCount), setCount(7, 1),
		setLen(0, impl.MaxLen), setLen(31, -impl.MaxLen), setLen(7, 1),
		setGlue(0, impl.MaxLen), setGlue(31, -impl.MaxLen), setWholeGlue(3, glue(0, 0, 3, 0, 3)), setWholeGlue(3, impl.Glue{}),
		setToks(0), setToks(31, many(impl.MaxBody, letter('x'))...), setToks(4, nested(1000)...), setToks(5, name("a"), char(impl.CatParam, '#')),
		setName("", prim(1)), setName("def", prim(58)), setName(strings.Repeat("n", 40), prim(1)), setName("a", impl.Mean{}), setName("def", impl.Mean{}), setName("\xff", macro(0, nil, nil)),
		setName(strings.Repeat("n", 41), impl.Mean{}),
	}
	for i, m := range goodMeans() {
		out = append(out, setName(fmt.Sprint("mean", i), m))
	}
	return out
}

// badSets can be taken by no level.
func badSets() []impl.Set {
	var out []impl.Set
	for _, kind := range []int64{0, -1, 7, 8, math.MinInt64, math.MaxInt64, 1<<32 + 1} {
		out = append(out, impl.Set{Kind: kind}, impl.Set{Kind: kind, Name: "a", Mean: prim(1)})
	}
	for _, at := range []int64{-1, 256, math.MinInt64, math.MaxInt64, 1 << 32} {
		out = append(out, setCat(at, 1))
	}
	for _, at := range []int64{-1, 32, 255, math.MinInt64, math.MaxInt64, 1 << 32} {
		out = append(out, setCount(at, 1), setLen(at, 1), setGlue(at, 1), setToks(at))
	}
	for _, n := range []int64{-1, 16, math.MinInt64, math.MaxInt64, 1 << 32} {
		out = append(out, setCat(0, n), setCat(255, n))
	}
	for _, n := range []int64{impl.MaxCount + 1, -impl.MaxCount - 1, math.MinInt64, math.MaxInt64} {
		out = append(out, setCount(0, n), setCount(31, n))
	}
	for _, n := range []int64{impl.MaxLen + 1, -impl.MaxLen - 1, math.MinInt64, math.MaxInt64} {
		out = append(out, setLen(0, n), setLen(31, n))
	}
	for _, g := range noGlues() {
		out = append(out, setWholeGlue(0, g), setWholeGlue(31, g))
	}
	out = append(out, setToks(0, many(impl.MaxBody+1, letter('x'))...), setToks(0, slot(1)), setToks(31, open()), setToks(31, shut()), setToks(31, shut(), open()), setToks(0, char(impl.CatEnd, 10)))
	out = append(out, setName(strings.Repeat("n", 41), prim(1)))
	for _, m := range badMeans() {
		if m.Kind != 0 {
			out = append(out, setName("a", m), setName("def", m))
		}
	}
	return out
}

func TestSetEnvTakesAndRefuses(t *testing.T) {
	one := impl.NewEnv()
	three := changed(1, func(l *impl.Level) { l.Binds = manyBinds(9) })
	for _, e := range []impl.Env{one, three} {
		for _, global := range []bool{false, true} {
			for _, s := range goodSets() {
				if _, ok := checkSet(t, e, s, global); !ok {
					t.Errorf("%+v is refused", s)
				}
			}
			for _, s := range badSets() {
				if _, ok := checkSet(t, e, s, global); ok {
					t.Errorf("%+v is taken", s)
				}
			}
		}
	}
}

func TestWhatItsKindDoesNotUseOfASetDoesNotCount(t *testing.T) {
	e := mustOpen(t, impl.NewEnv())
	wild := impl.Set{At: math.MinInt64, Name: strings.Repeat("x", 99), N: math.MaxInt64, Glue: glue(math.MaxInt64, 0, 9, 0, -9), Toks: list(open(), slot(7)), Mean: impl.Mean{Kind: 77, Num: 5}}
	for _, s := range goodSets() {
		for _, global := range []bool{false, true} {
			want := mustSet(t, e, s, global)
			messy := wild
			messy.Kind = s.Kind
			switch s.Kind {
			case impl.SetCat, impl.SetCount, impl.SetLen:
				messy.At, messy.N = s.At, s.N
			case impl.SetGlue:
				messy.At, messy.Glue = s.At, s.Glue
			case impl.SetToks:
				messy.At, messy.Toks = s.At, s.Toks
			case impl.SetName:
				messy.Name, messy.Mean = s.Name, s.Mean
			}
			if got, ok := impl.SetEnv(e, messy, global); !ok || !same(got, want) {
				t.Errorf("%+v", s)
			}
		}
	}
}

func TestANameThatIsToMeanNothing(t *testing.T) {
	e := impl.NewEnv()
	before := impl.Look(e, "edef")
	for _, nothing := range []impl.Mean{{}, {Num: 5}, {Token: letter('a'), Macro: impl.Macro{Slots: 99}}} {
		set := mustSet(t, e, setName("new", macro(0, nil, list(letter('x')))), false)
		if m := impl.Look(set, "new"); !same(m, macro(0, nil, list(letter('x')))) || len(set.Levels[0].Binds) != 59 {
			t.Errorf("%+v", m)
		}
		gone := mustSet(t, set, setName("new", nothing), false)
		if !same(gone, e) || !same(impl.Look(gone, "new"), impl.Mean{}) {
			t.Error("a name that means nothing is there")
		}
		gone = mustSet(t, gone, setName("def", nothing), true)
		if !same(impl.Look(gone, "def"), impl.Mean{}) || !same(impl.Look(gone, "edef"), before) || len(gone.Levels[0].Binds) != 57 {
			t.Error("a primitive that was set to nothing")
		}
	}
}

// full is an environment whose levels have so many binds.
func full(counts ...int) impl.Env {
	var e impl.Env
	for _, n := range counts {
		l := impl.NewEnv().Levels[0]
		l.Binds = manyBinds(n)
		e.Levels = append(e.Levels, l)
	}
	return e
}

func TestSetEnvAtTheMostNames(t *testing.T) {
	tests := []struct {
		counts []int
		set    impl.Set
		global bool
		want   bool
	}{
		{[]int{499}, setName("new", prim(1)), false, true},
		{[]int{500}, setName("new", prim(1)), false, false},
		{[]int{500}, setName("new", prim(1)), true, false},
		{[]int{500}, setName("a00", prim(2)), false, true},
		{[]int{500}, setName("a00", prim(2)), true, true},
		{[]int{500}, setName("a00", impl.Mean{}), false, true},
		{[]int{500}, setName("new", impl.Mean{}), true, true},
		{[]int{500, 499}, setName("new", prim(1)), false, true},
		{[]int{500, 499}, setName("new", prim(1)), true, false},
		{[]int{499, 500}, setName("new", prim(1)), true, false},
		{[]int{499, 500}, setName("new", prim(1)), false, false},
		{[]int{499, 499, 499}, setName("new", prim(1)), true, true},
		{[]int{499, 500, 499}, setName("new", prim(1)), true, false},
		{[]int{500, 3, 3}, setName("new", prim(1)), true, false},
		{[]int{500, 499, 500}, setName("e99", prim(2)), true, true},
		{[]int{499, 0, 500}, setName("e99", prim(2)), true, true},
		{[]int{500, 0, 500}, setName("e99", prim(2)), true, true},
		{[]int{500, 0, 500}, setName("a00", prim(2)), false, true},
		{[]int{500, 0, 0}, setName("f00", prim(2)), true, false},
		{[]int{500, 0}, setName("e99", prim(2)), true, true},
		{[]int{500, 500, 0}, setName("a00", prim(2)), true, true},
	}
	for _, c := range tests {
		if _, ok := checkSet(t, full(c.counts...), c.set, c.global); ok != c.want {
			t.Errorf("%v, %s, global %v: %v", c.counts, c.set.Name, c.global, ok)
		}
	}
}

func TestNamesThatComeAndGoAtTheMost(t *testing.T) {
	e := mustOpen(t, full(499))
	e = mustSet(t, e, setName("one", prim(1)), false)
	if _, ok := checkSet(t, e, setName("two", prim(1)), true); ok {
		t.Error("too many names in the inner level")
	}
	e = mustSet(t, e, setName("a00", impl.Mean{}), false)
	e = mustSet(t, e, setName("two", prim(1)), true)
	if _, ok := checkSet(t, e, setName("three", prim(1)), true); ok {
		t.Error("too many names in the outer level")
	}
	e = mustSet(t, e, setName("two", impl.Mean{}), true)
	e, _ = checkSet(t, e, setName("three", prim(1)), true)
	if out := mustClose(t, e); !same(out, mustSet(t, full(499), setName("three", prim(1)), false)) {
		t.Error("what is behind the group")
	}
}

func TestANameThatOnlyTheInnerLevelHasRoomFor(t *testing.T) {
	e := mustSet(t, full(500, 3), setName("new", prim(1)), false)
	if _, ok := checkSet(t, e, setName("new", prim(2)), true); ok {
		t.Error("a name is set in a level that has no room for it")
	}
	if _, ok := checkSet(t, e, setName("new", impl.Mean{}), true); !ok {
		t.Error("a name can't be set to nothing in all levels")
	}
}

func TestSetEnvRefusesWhatIsNoEnvironment(t *testing.T) {
	for i, e := range badEnvs() {
		for _, s := range []impl.Set{setCount(0, 1), {Kind: 99}, setName("a", impl.Mean{})} {
			for _, global := range []bool{false, true} {
				if got, ok := impl.SetEnv(e, s, global); ok || !same(got, impl.Env{}) {
					t.Errorf("%d: %v, %d levels", i, ok, len(got.Levels))
				}
			}
		}
		if got, ok := impl.OpenGroup(e); ok || !same(got, impl.Env{}) {
			t.Errorf("%d is opened: %v, %d levels", i, ok, len(got.Levels))
		}
		if got, ok := impl.CloseGroup(e); ok || !same(got, impl.Env{}) {
			t.Errorf("%d is closed: %v, %d levels", i, ok, len(got.Levels))
		}
	}
}

func TestOpenGroupAndCloseGroup(t *testing.T) {
	for at := range 3 {
		for i, change := range goodLevels() {
			e := changed(at, change)
			opened, ok := impl.OpenGroup(e)
			if !ok || !same(opened, impl.Env{Levels: append(slices.Clone(e.Levels), e.Levels[2])}) {
				t.Errorf("level %d as number %d is opened: %v", i, at, ok)
			}
			if closed, ok := impl.CloseGroup(opened); !ok || !same(closed, e) {
				t.Errorf("level %d as number %d is closed: %v", i, at, ok)
			}
			if closed, ok := impl.CloseGroup(e); !ok || !same(closed, impl.Env{Levels: e.Levels[:2]}) {
				t.Errorf("level %d as number %d, without the last: %v", i, at, ok)
			}
		}
	}
}

func TestTheMostLevels(t *testing.T) {
	e := impl.NewEnv()
	if got, ok := impl.CloseGroup(e); ok || !same(got, e) {
		t.Error("the only level is closed")
	}
	for n := 1; n <= impl.MaxLevels; n++ {
		if len(e.Levels) != n {
			t.Fatal("levels:", len(e.Levels))
		}
		e = mustSet(t, e, setCount(1, int64(n)), false)
		got, ok := impl.OpenGroup(e)
		if ok != (n < impl.MaxLevels) || !ok && !same(got, e) {
			t.Fatal(n, ok)
		}
		e = got
	}
	e = mustSet(t, e, setCount(2, 9), true)
	for n := impl.MaxLevels; n > 1; n-- {
		if e.Levels[n-1].Counts[1] != int64(n) || e.Levels[n-1].Counts[2] != 9 {
			t.Error("level", n, e.Levels[n-1].Counts)
		}
		e = mustClose(t, e)
	}
	if got, ok := impl.CloseGroup(e); ok || !same(got, e) || e.Levels[0].Counts[1] != 1 || e.Levels[0].Counts[2] != 9 {
		t.Error("what is left", e.Levels[0].Counts)
	}
}

func TestAGroupOfEachKind(t *testing.T) {
	kinds := [][2]impl.Set{
		{setCat('a', 11), setCat('b', 12)}, {setCount(0, 5), setCount(31, 6)}, {setLen(0, 5), setLen(31, 6)}, {setGlue(0, 5), setGlue(31, 6)},
		{setToks(0, letter('x')), setToks(31, letter('y'))}, {setName("one", prim(1)), setName("def", means(letter('x')))}, {setName("def", impl.Mean{}), setName("let", impl.Mean{})},
	}
	before := impl.NewEnv()
	for _, k := range kinds {
		local, wide := k[0], k[1]
		in := mustSet(t, mustSet(t, mustOpen(t, before), local, false), wide, true)
		if !same(in.Levels[1], applied(applied(before.Levels[0], local), wide)) {
			t.Errorf("%+v: in the group", local)
		}
		if out := mustClose(t, in); !same(out.Levels[0], applied(before.Levels[0], wide)) {
			t.Errorf("%+v: behind the group", local)
		}
		inner := mustSet(t, mustOpen(t, mustSet(t, mustOpen(t, before), local, false)), wide, true)
		if middle := mustClose(t, inner); !same(middle.Levels[1], applied(applied(before.Levels[0], local), wide)) || !same(mustClose(t, middle).Levels[0], applied(before.Levels[0], wide)) {
			t.Errorf("%+v: with a group within", local)
		}
	}
}

func TestOneThingSetInTurns(t *testing.T) {
	count := func(e impl.Env) []int64 {
		var out []int64
		for _, l := range e.Levels {
			out = append(out, l.Counts[3])
		}
		return out
	}
	e := mustOpen(t, mustSet(t, impl.NewEnv(), setCount(3, 1), false))
	e = mustOpen(t, mustSet(t, e, setCount(3, 2), false))
	e = mustSet(t, e, setCount(3, 3), false)
	steps := []struct {
		n      int64
		global bool
		want   []int64
	}{
		{4, false, []int64{1, 2, 4}}, {5, true, []int64{5, 5, 5}}, {6, false, []int64{5, 5, 6}}, {7, true, []int64{7, 7, 7}}, {7, false, []int64{7, 7, 7}}, {8, false, []int64{7, 7, 8}},
	}
	for _, s := range steps {
		e = mustSet(t, e, setCount(3, s.n), s.global)
		if got := count(e); !slices.Equal(got, s.want) {
			t.Fatalf("%d: %v, want %v", s.n, got, s.want)
		}
	}
	e = mustSet(t, mustClose(t, e), setCount(3, 9), false)
	if got := count(e); !slices.Equal(got, []int64{7, 9}) {
		t.Error(got)
	}
	if got := count(mustClose(t, e)); !slices.Equal(got, []int64{7}) {
		t.Error(got)
	}
}

// randomSet is of any kind, on few places, so that the same thing is set again and again; some can't be.
func randomSet(r *rand.Rand) impl.Set {
	at := []int64{0, 1, 30, 31, 31, 32}[r.Intn(6)]
	names := []string{"", "a", "b", "def", "let", "zz", strings.Repeat("n", 40), strings.Repeat("n", 41)}
	what := []impl.Mean{{}, {}, prim(r.Int63n(60)), means(letter('a')), means(name("a")), macro(1, slots(1), list(open(), slot(1), shut())), macro(0, slots(1), nil)}
	switch r.Intn(7) {
	case 0:
		return setCat([]int64{0, 1, 254, 255, 256}[r.Intn(5)], r.Int63n(17))
	case 1:
		return setCount(at, r.Int63n(9)-4)
	case 2:
		return setLen(at, r.Int63n(9)-4)
	case 3:
		return setGlue(at, r.Int63n(9))
	case 4:
		return setToks(at, randomTokens(r, 3, list(letter('a'), letter('b'), name("c"), open(), shut()))...)
	case 5:
		return setName(names[r.Intn(len(names))], what[r.Intn(len(what))])
	}
	return impl.Set{Kind: r.Int63n(9), At: r.Int63n(40), Name: "q", Mean: prim(1)}
}

func TestGroupsAndSetsAtRandom(t *testing.T) {
	t.Parallel()
	r := rand.New(rand.NewSource(6))
	for range 60 {
		e := full(r.Intn(4), r.Intn(4))
		for range 60 {
			switch r.Intn(5) {
			case 0:
				opened, ok := impl.OpenGroup(e)
				want := impl.Env{Levels: append(slices.Clone(e.Levels), e.Levels[len(e.Levels)-1])}
				if !ok || !same(opened, want) {
					t.Fatal("opened", ok)
				}
				e = opened
			case 1:
				closed, ok := impl.CloseGroup(e)
				want := impl.Env{Levels: e.Levels[:max(len(e.Levels)-1, 1)]}
				if ok != (len(e.Levels) > 1) || !same(closed, want) {
					t.Fatal("closed", ok)
				}
				e = closed
			default:
				e, _ = checkSet(t, e, randomSet(r), r.Intn(3) == 0)
			}
		}
	}
}

// throughGroup opens a group, sets things in it and in groups within it, which it closes again, and then closes it. Behind it stands what before would be with the global ones alone.
func throughGroup(t *testing.T, r *rand.Rand, e, before impl.Env) (impl.Env, impl.Env) {
	t.Helper()
	start := len(e.Levels)
	e = mustOpen(t, e)
	for steps := r.Intn(25); steps > 0; steps-- {
		switch {
		case r.Intn(5) == 0 && len(e.Levels) < 6:
			e = mustOpen(t, e)
		case r.Intn(6) == 0 && len(e.Levels) > start+1:
			e = mustClose(t, e)
		default:
			s, global := randomSet(r), r.Intn(3) == 0
			set, ok := impl.SetEnv(e, s, global)
			if ok && global {
				before, _ = checkSet(t, before, s, true)
			}
			e = set
		}
	}
	for len(e.Levels) > start {
		e = mustClose(t, e)
	}
	return e, before
}

func TestAGroupLeavesJustWhatWasSetGloballyInIt(t *testing.T) {
	r := rand.New(rand.NewSource(7))
	for range 150 {
		e := full(r.Intn(3), r.Intn(3))
		for range 3 {
			e, _ = impl.SetEnv(e, randomSet(r), false)
		}
		behind, want := throughGroup(t, r, e, e)
		if !same(behind, want) {
			t.Fatal("a group leaves another environment")
		}
	}
}

func TestEnvAnswersAreNewMemoryAndArgumentsStay(t *testing.T) {
	rich := changed(1, func(l *impl.Level) {
		l.Binds = []impl.Bind{bind("a", macro(1, list(slot(1), name("end")), list(slot(1), name("body")))), bind("b", means(letter('q')))}
		l.Toks[0], l.Toks[9] = list(name("tok")), list(open(), name("x"), shut())
	})
	rich.Levels[2] = rich.Levels[1]
	given := roomy(rich)
	kept := told(given)
	tries := map[string]func() (impl.Env, bool){
		"open":  func() (impl.Env, bool) { return impl.OpenGroup(given) },
		"close": func() (impl.Env, bool) { return impl.CloseGroup(given) },
	}
	sets := append(goodSets(), setCat(0, 99), impl.Set{Kind: 9}, setName("x", macro(1, list(slot(1)), list(name("inside")))), setToks(2, name("inside")))
	for i, s := range sets {
		own := roomy(s)
		ownKept := told(own)
		for _, global := range []bool{false, true} {
			got, ok := impl.SetEnv(given, own, global)
			if ok != (i < len(goodSets()) || i >= len(goodSets())+2) {
				t.Error(i, ok)
			}
			checkNewMemory(t, got, given, own)
		}
		if told(own) != ownKept {
			t.Errorf("a set is changed: %s", ownKept)
		}
	}
	for what, try := range tries {
		got, ok := try()
		if !ok {
			t.Error(what)
		}
		checkNewMemory(t, got, given)
		again, _ := try()
		checkNewMemory(t, again, got)
	}
	for _, n := range []string{"a", "b", "none"} {
		checkNewMemory(t, impl.Look(given, n), given)
	}
	impl.EnvOk(given)
	m := roomy(macro(1, list(slot(1), name("x")), list(slot(1), name("y"))))
	meanKept := told(m)
	if impl.MeanOk(m); told(m) != meanKept || told(given) != kept {
		t.Error("an argument is changed")
	}
}

func TestWhatIsRefusedIsNewMemoryToo(t *testing.T) {
	one := roomy(impl.NewEnv())
	most := roomy(impl.Env{Levels: slices.Repeat(impl.NewEnv().Levels, impl.MaxLevels)})
	kept, mostKept := told(one), told(most)
	closed, ok := impl.CloseGroup(one)
	if ok || !same(closed, one) {
		t.Error("the only level")
	}
	checkNewMemory(t, closed, one)
	opened, ok := impl.OpenGroup(most)
	if ok || !same(opened, most) {
		t.Error("the most levels")
	}
	checkNewMemory(t, opened, most)
	if told(one) != kept || told(most) != mostKept {
		t.Error("an argument is changed")
	}
}

func TestEnvAnswersAtEveryArgument(t *testing.T) {
	envs := append(badEnvs(), impl.NewEnv(), full(0, 500), impl.Env{Levels: slices.Repeat(full(1).Levels, 20)})
	names := []string{"", "a", "def", strings.Repeat("x", 41), strings.Repeat("\xff", impl.MaxText)}
	for _, at := range corners {
		impl.PrimName(at)
		impl.MeanOk(impl.Mean{Kind: at, Num: at, Token: impl.Token{Cat: at, Char: at}, Macro: impl.Macro{Slots: at}})
		for kind := int64(-1); kind <= 7; kind++ {
			s := impl.Set{Kind: kind, At: at, N: at, Name: "x", Glue: glue(at, at, at, at, at), Toks: list(impl.Token{Cat: at, Char: at}), Mean: impl.Mean{Kind: at, Num: at}}
			checkSet(t, impl.NewEnv(), s, at%2 == 0)
		}
	}
	for _, e := range envs {
		fine := envIs(e)
		_, opened := impl.OpenGroup(e)
		_, closed := impl.CloseGroup(e)
		if impl.EnvOk(e) != fine || opened != (fine && len(e.Levels) < 20) || closed != (fine && len(e.Levels) > 1) {
			t.Error("levels:", len(e.Levels), fine, opened, closed)
		}
		for _, n := range names {
			impl.Look(e, n)
		}
	}
}
