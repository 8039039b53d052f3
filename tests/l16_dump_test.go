package tests

import (
	"bytes"
	"slices"
	"strings"
	"testing"

	"loop.example/g00014/impl"
)

// Where the lists of an environment stand in its bytes, if it has no names, and registers of one byte.
const (
	namesAt  = 4 + 256
	countsAt = namesAt + 1
	lensAt   = countsAt + 32
	gluesAt  = lensAt + 32
	toksAt   = gluesAt + 4*32
	sumAt    = toksAt + 32
)

func TestAnEmptyFormatKnown(t *testing.T) {
	e := withBinds()
	e.Levels[0].Cats = make([]int64, 256)
	want := slices.Concat([]byte("QFM1"), make([]byte, 481), []byte{109, 4})
	if got := checkDump(t, e); !bytes.Equal(got, want) {
		t.Errorf("%v", got)
	}
	if got, ok := checkLoad(t, want); !ok || !same(got, e) {
		t.Error("not loaded")
	}
}

func TestANewFormatKnown(t *testing.T) {
	e := impl.NewEnv()
	b := checkDump(t, e)
	names := strings.Fields(allPrims)
	slices.Sort(names)
	at := namesAt + 1
	for _, n := range names {
		want := slices.Concat([]byte{byte(len(n))}, []byte(n), []byte{impl.MeanPrim, byte(impl.Look(e, n).Num)})
		if got := b[at : at+len(want)]; !bytes.Equal(got, want) {
			t.Fatalf("%s: %v, not %v", n, got, want)
		}
		at += len(want)
	}
	if string(b[:4]) != "QFM1" || b[namesAt] != 58 || !bytes.Equal(b[at:at+224], make([]byte, 224)) || len(b) != at+226 || impl.DumpSize(e) != int64(at+226) {
		t.Errorf("%d bytes, %v", len(b), b)
	}
	for c, cat := range impl.PlainCats() {
		if b[4+c] != byte(cat) {
			t.Errorf("the category of %d is %d", c, b[4+c])
		}
	}
}

func TestNamesKnown(t *testing.T) {
	dot := char(impl.CatOther, '.')
	long := repeat("\xff", 40)
	for _, c := range []struct {
		what string
		b    []impl.Bind
		want []byte
	}{
		{"none", nil, []byte{0}},
		{"the first primitive", []impl.Bind{bind("a", prim(1))}, []byte{1, 1, 'a', 1, 1}},
		{"the last primitive", []impl.Bind{bind("a", prim(58))}, []byte{1, 1, 'a', 1, 58}},
		{"a name without bytes", []impl.Bind{bind("", prim(1))}, []byte{1, 0, 1, 1}},
		{"a name of many bytes", []impl.Bind{bind(long, prim(1))}, slices.Concat([]byte{1, 40}, []byte(long), []byte{1, 1})},
		{"names that are no letters", []impl.Bind{bind("\x00", prim(1)), bind(" \n", prim(2)), bind("{", prim(3))}, []byte{3, 1, 0, 1, 1, 2, ' ', '\n', 1, 2, 1, '{', 1, 3}},
		{"a beginning is less", []impl.Bind{bind("a", prim(1)), bind("ab", prim(2)), bind("b", prim(3))}, []byte{3, 1, 'a', 1, 1, 2, 'a', 'b', 1, 2, 1, 'b', 1, 3}},
		{"a letter", []impl.Bind{bind("a", means(letter('q')))}, []byte{1, 1, 'a', 2, 4, 'q'}},
		{"characters of all kinds", []impl.Bind{bind("a", means(open())), bind("b", means(char(impl.CatOther, 0))), bind("c", means(char(impl.CatActive, 255)))}, []byte{3, 1, 'a', 2, 1, '{', 1, 'b', 2, 5, 0, 1, 'c', 2, 14, 255}},
		{"a macro without anything", []impl.Bind{bind("a", macro(0, nil, nil))}, []byte{1, 1, 'a', 3, 0, 0, 0}},
		{"a macro with a body", []impl.Bind{bind("a", macro(0, nil, list(letter('x'), name("par"), name(""), open(), shut())))}, []byte{1, 1, 'a', 3, 0, 0, 5, 4, 'x', 0, 3, 'p', 'a', 'r', 0, 0, 1, '{', 2, '}'}},
		{"a macro with slots", []impl.Bind{bind("a", macro(2, slots(2), list(slot(2), slot(1))))}, []byte{1, 1, 'a', 3, 2, 2, 16, 1, 16, 2, 2, 16, 2, 16, 1}},
		{"a macro with nine slots", []impl.Bind{bind("a", macro(9, slots(9), list(slot(9))))}, []byte{1, 1, 'a', 3, 9, 9, 16, 1, 16, 2, 16, 3, 16, 4, 16, 5, 16, 6, 16, 7, 16, 8, 16, 9, 1, 16, 9}},
		{"a macro with delimiters", []impl.Bind{bind("a", macro(1, list(dot, slot(1), name("end"), dot), nil))}, []byte{1, 1, 'a', 3, 1, 4, 5, '.', 16, 1, 0, 3, 'e', 'n', 'd', 5, '.', 0}},
		{"a macro with delimiters and no slots", []impl.Bind{bind("a", macro(0, list(dot), list(dot)))}, []byte{1, 1, 'a', 3, 0, 1, 5, '.', 1, 5, '.'}},
		{"a body of the most of one group", []impl.Bind{bind("a", macro(0, nil, many(127, dot)))}, slices.Concat([]byte{1, 1, 'a', 3, 0, 0, 127}, bytes.Repeat([]byte{5, '.'}, 127))},
		{"a body of the least of two groups", []impl.Bind{bind("a", macro(0, nil, many(128, dot)))}, slices.Concat([]byte{1, 1, 'a', 3, 0, 0, 128, 1}, bytes.Repeat([]byte{5, '.'}, 128))},
		{"a body of the most tokens", []impl.Bind{bind("a", macro(0, nil, many(2000, name("x"))))}, slices.Concat([]byte{1, 1, 'a', 3, 0, 0, 208, 15}, bytes.Repeat([]byte{0, 1, 'x'}, 2000))},
		{"a pattern of the most tokens", []impl.Bind{bind("a", macro(0, many(100, dot), nil))}, slices.Concat([]byte{1, 1, 'a', 3, 0, 100}, bytes.Repeat([]byte{5, '.'}, 100), []byte{0})},
	} {
		e := withBinds(c.b...)
		got := checkDump(t, e)
		if got := got[namesAt : len(got)-226]; !bytes.Equal(got, c.want) {
			t.Errorf("%s: %v, not %v", c.what, got, c.want)
		}
		if back, ok := checkLoad(t, got); !ok || !same(back.Levels[0].Binds, c.b) {
			t.Errorf("%s: loaded as %v, %v", c.what, back.Levels, ok)
		}
	}
}

func TestRegistersKnown(t *testing.T) {
	dot := char(impl.CatOther, '.')
	for _, c := range []struct {
		what   string
		change func(*impl.Level)
		at     int
		want   []byte
	}{
		{"counts near 0", func(l *impl.Level) { copy(l.Counts, []int64{0, 1, -1, 2, -2}) }, countsAt, []byte{0, 2, 1, 4, 3, 0}},
		{"counts of one group and of two", func(l *impl.Level) { copy(l.Counts, []int64{63, 64, -64, -65}) }, countsAt, []byte{126, 128, 1, 127, 129, 1, 0}},
		{"counts of two groups and of three", func(l *impl.Level) { copy(l.Counts, []int64{8191, 8192, -8192, -8193}) }, countsAt, []byte{254, 127, 128, 128, 1, 255, 127, 129, 128, 1, 0}},
		{"counts at both ends", func(l *impl.Level) { copy(l.Counts, []int64{2147483647, -2147483647}) }, countsAt, []byte{254, 255, 255, 255, 15, 253, 255, 255, 255, 15, 0}},
		{"the last count", func(l *impl.Level) { l.Counts[31] = -1 }, lensAt - 2, []byte{0, 1, 0}},
		{"lengths near 0", func(l *impl.Level) { copy(l.Lens, []int64{0, 1, -1, 65536, -65536}) }, lensAt, []byte{0, 2, 1, 128, 128, 8, 255, 255, 7, 0}},
		{"lengths at both ends", func(l *impl.Level) { copy(l.Lens, []int64{1073741823, -1073741823}) }, lensAt, []byte{254, 255, 255, 255, 7, 253, 255, 255, 255, 7, 0}},
		{"the last length", func(l *impl.Level) { l.Lens[31] = -1 }, gluesAt - 2, []byte{0, 1, 0}},
		{"glues of all orders", func(l *impl.Level) {
			copy(l.Glues, []impl.Glue{glue(1, 2, 0, 3, 0), glue(-1, -2, 1, -3, 0), glue(0, 0, 0, 0, 1), glue(0, 1, 2, 0, 3), glue(0, 0, 3, 0, 3)})
		}, gluesAt, []byte{2, 4, 6, 0, 1, 3, 5, 1, 0, 0, 0, 16, 0, 2, 0, 50, 0, 0, 0, 51, 0, 0, 0, 0}},
		{"glues at both ends", func(l *impl.Level) { l.Glues[0] = glue(1073741823, -1073741823, 3, 1073741823, 2) }, gluesAt, []byte{254, 255, 255, 255, 7, 253, 255, 255, 255, 7, 254, 255, 255, 255, 7, 35, 0}},
		{"the last glue", func(l *impl.Level) { l.Glues[31] = glue(0, 0, 0, 1, 2) }, toksAt - 5, []byte{0, 0, 0, 2, 32, 0}},
		{"rows of tokens", func(l *impl.Level) {
			l.Toks[0], l.Toks[2] = list(dot), list(open(), name("ab"), char(impl.CatParam, '#'), shut())
		}, toksAt, []byte{1, 5, '.', 0, 4, 1, '{', 0, 2, 'a', 'b', 7, '#', 2, '}', 0}},
		{"the last row", func(l *impl.Level) { l.Toks[31] = list(name("")) }, sumAt - 2, []byte{0, 1, 0, 0}},
		{"categories", func(l *impl.Level) { l.Cats[0], l.Cats[1], l.Cats[255] = 15, 0, 7 }, 4, []byte{15, 0, 5}},
		{"the last category", func(l *impl.Level) { l.Cats[255] = 7 }, namesAt - 2, []byte{5, 7, 0}},
	} {
		e := withBinds()
		c.change(&e.Levels[0])
		got := checkDump(t, e)
		if got := got[c.at : c.at+len(c.want)]; !bytes.Equal(got, c.want) {
			t.Errorf("%s: %v, not %v", c.what, got, c.want)
		}
		if back, ok := checkLoad(t, got); !ok || !same(back, e) {
			t.Errorf("%s: not loaded", c.what)
		}
	}
}

func TestLevelsAtTheirEdges(t *testing.T) {
	for i, change := range goodLevels() {
		e := oneLevel(change)
		if b := checkDump(t, e); len(b) == 0 {
			t.Errorf("good level %d has no bytes", i)
		}
	}
	rich := impl.Env{Levels: []impl.Level{richLevel()}}
	if len(checkDump(t, rich)) == 0 {
		t.Error("the rich level has no bytes")
	}
}

// checkNoBytes: there are none of such an environment.
func checkNoBytes(t *testing.T, what string, e impl.Env) {
	t.Helper()
	if b := checkDump(t, e); len(b) > 0 || impl.DumpSize(e) != 0 {
		t.Errorf("%s: %d bytes", what, len(b))
	}
}

func TestLevelsThatCannotBeHaveNoBytes(t *testing.T) {
	for _, change := range badLevels() {
		checkNoBytes(t, "a bad level", oneLevel(change))
	}
	for _, e := range badEnvs() {
		checkNoBytes(t, "a bad environment", e)
	}
}

// Each field of a mean that is not used, and each that is, alone.
func TestTokensThatCannotBeHaveNoBytes(t *testing.T) {
	can := 0
	for _, tok := range manyTokens() {
		for _, e := range []impl.Env{withBinds(bind("a", means(tok))), withBinds(bind("a", macro(0, list(tok), nil))), withBinds(bind("a", macro(1, slots(1), list(tok)))), withBinds(bind("a", impl.Mean{Kind: 1, Num: 1, Token: tok})), oneLevel(func(l *impl.Level) { l.Toks[7] = list(tok) })} {
			got, want := impl.Dump(e), envIs(e)
			if len(got) > 0 != want || impl.DumpSize(e) != int64(len(got)) {
				t.Fatalf("%+v: %d bytes", tok, len(got))
			}
			if want {
				can++
				checkDump(t, e)
			}
		}
	}
	if can < 100 {
		t.Error("too few:", can)
	}
}

func TestOnlyOneLevelHasBytes(t *testing.T) {
	e := impl.NewEnv()
	checkNoBytes(t, "no level", impl.Env{})
	checkNoBytes(t, "a list without a level", impl.Env{Levels: []impl.Level{}})
	if len(checkDump(t, e)) == 0 {
		t.Error("one level has no bytes")
	}
	for n := 2; n <= 22; n++ {
		checkNoBytes(t, "several levels", impl.Env{Levels: slices.Repeat(e.Levels, n)})
	}
	checkNoBytes(t, "a group", mustOpen(t, e))
	if closed := mustClose(t, mustOpen(t, e)); !bytes.Equal(checkDump(t, closed), checkDump(t, e)) {
		t.Error("a group that is closed has other bytes")
	}
}

func TestTheMostOfEverything(t *testing.T) {
	dot := char(impl.CatOther, '.')
	x := func(n int) string { return repeat("x", n) }
	for _, c := range []struct {
		what      string
		most      int
		envOfSize func(n int) impl.Env
	}{
		{"bytes of a name", impl.MaxName, func(n int) impl.Env { return withBinds(bind(x(n), prim(1))) }},
		{"bytes of a name in a body", impl.MaxName, func(n int) impl.Env { return withBinds(bind("a", macro(0, nil, list(name(x(n)))))) }},
		{"bytes of a name in a pattern", impl.MaxName, func(n int) impl.Env { return withBinds(bind("a", macro(0, list(name(x(n))), nil))) }},
		{"bytes of a name in a register", impl.MaxName, func(n int) impl.Env { return oneLevel(func(l *impl.Level) { l.Toks[3] = list(name(x(n))) }) }},
		{"tokens of a body", impl.MaxBody, func(n int) impl.Env { return withBinds(bind("a", macro(0, nil, many(n, dot)))) }},
		{"tokens of a pattern", impl.MaxPattern, func(n int) impl.Env { return withBinds(bind("a", macro(0, many(n, dot), nil))) }},
		{"tokens of a register", impl.MaxBody, func(n int) impl.Env { return oneLevel(func(l *impl.Level) { l.Toks[31] = many(n, dot) }) }},
		{"slots", 9, func(n int) impl.Env { return withBinds(bind("a", macro(int64(n), slots(int64(n)), nil))) }},
		{"names", impl.MaxBinds, func(n int) impl.Env { return withBinds(manyBinds(n)...) }},
		{"a primitive", impl.LastPrim, func(n int) impl.Env { return withBinds(bind("a", prim(int64(n)))) }},
		{"a category", 15, func(n int) impl.Env { return oneLevel(func(l *impl.Level) { l.Cats[9] = int64(n) }) }},
		{"a count", impl.MaxCount, func(n int) impl.Env { return oneLevel(func(l *impl.Level) { l.Counts[9] = int64(n) }) }},
		{"a count below 0", impl.MaxCount, func(n int) impl.Env { return oneLevel(func(l *impl.Level) { l.Counts[9] = -int64(n) }) }},
		{"a length", impl.MaxLen, func(n int) impl.Env { return oneLevel(func(l *impl.Level) { l.Lens[9] = int64(n) }) }},
		{"a length below 0", impl.MaxLen, func(n int) impl.Env { return oneLevel(func(l *impl.Level) { l.Lens[9] = -int64(n) }) }},
		{"a Size", impl.MaxLen, func(n int) impl.Env { return oneLevel(func(l *impl.Level) { l.Glues[9].Size = -int64(n) }) }},
		{"a Plus", impl.MaxLen, func(n int) impl.Env { return oneLevel(func(l *impl.Level) { l.Glues[9].Plus = int64(n) }) }},
		{"a Minus", impl.MaxLen, func(n int) impl.Env { return oneLevel(func(l *impl.Level) { l.Glues[9].Minus = -int64(n) }) }},
		{"a PlusOrder", impl.MaxOrder, func(n int) impl.Env { return oneLevel(func(l *impl.Level) { l.Glues[9].PlusOrder = int64(n) }) }},
		{"a MinusOrder", impl.MaxOrder, func(n int) impl.Env { return oneLevel(func(l *impl.Level) { l.Glues[9].MinusOrder = int64(n) }) }},
	} {
		for _, n := range []int{c.most - 1, c.most} {
			if len(checkDump(t, c.envOfSize(n))) == 0 {
				t.Errorf("%d %s: no bytes", n, c.what)
			}
		}
		passed := c.envOfSize(c.most + 1)
		checkNoBytes(t, c.what, passed)
		checkNoFormat(t, c.what, bytesOfLevel(passed.Levels[0]))
	}
}

// nameTokens are tokens of so many bytes in all, told in a row of two groups.
func nameTokens(size int) []impl.Token {
	count := max(128, (size+41)/42)
	var out []impl.Token
	for i := range count {
		out = append(out, name(repeat("n", (size+i)/count-2)))
	}
	return out
}

// envOfBytes is an environment that has so many bytes, at least some thousands: full names, and one that fills what is left.
func envOfBytes(t *testing.T, size int) impl.Env {
	t.Helper()
	const around, most = 9, 2000 * 42
	rest := size - sumAt - 2
	var binds []impl.Bind
	for i := 0; rest > 0; i++ {
		body := min(rest-around, most)
		if left := rest - around - body; left > 0 && left < 1000 {
			body -= 1000
		}
		binds = append(binds, bind(manyBinds(500)[i].Name, macro(0, nil, nameTokens(body))))
		rest -= around + body
	}
	return withBinds(binds...)
}

func TestTheMostBytes(t *testing.T) {
	t.Parallel()
	for _, size := range []int{1000, 65520, 65521, 84500, 100000, impl.MaxDump - 1, impl.MaxDump, impl.MaxDump + 1, impl.MaxDump + 2} {
		e := envOfBytes(t, size)
		b := checkDump(t, e)
		if len(b) != size {
			t.Fatalf("%d bytes, not %d", len(b), size)
		}
		if got, ok := checkLoad(t, b); ok != (size <= impl.MaxDump) || ok && !same(got, e) {
			t.Errorf("%d bytes: %v", size, ok)
		}
	}
}

// As large as an environment can be it has bytes, too, though they are not loaded.
func TestTheLargestEnvironment(t *testing.T) {
	t.Parallel()
	full := name(repeat("n", 40))
	binds := manyBinds(500)
	for i := range binds {
		binds[i] = bind(binds[i].Name+repeat("x", 37), macro(0, many(100, full), many(2000, full)))
	}
	e := withBinds(binds...)
	for i := range 32 {
		e.Levels[0].Toks[i] = many(2000, full)
	}
	want := sumAt + 2 + 1 + 500*(41+1+1+1+100*42+2+2000*42) + 32*(1+2000*42)
	b := impl.Dump(e)
	if len(b) != want || impl.DumpSize(e) != int64(want) {
		t.Errorf("%d bytes, not %d", len(b), want)
	}
	if !bytes.Equal(b, sealPlainly(b[:len(b)-2])) {
		t.Error("another sum")
	}
	if got, ok := impl.Load(b); ok || len(got.Levels) > 0 {
		t.Error("loaded")
	}
}
