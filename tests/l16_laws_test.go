package tests

import (
	"bytes"
	"math/rand"
	"slices"
	"strings"
	"testing"

	"loop.example/g00014/impl"
)

// spoilLevel makes of a level one that most often can't be.
func spoilLevel(r *rand.Rand, l *impl.Level) {
	x := []int64{-1 << 63, -1 << 32, -1 << 31, -1 << 30, -1, 0, 1, 4, 15, 16, 58, 59, 1 << 30, 1 << 31, 1 << 32, 1<<63 - 1}[r.Intn(16)]
	at := r.Intn(32)
	switch r.Intn(9) {
	case 0:
		l.Cats[r.Intn(256)] = x
	case 1:
		l.Counts[at] = x
	case 2:
		l.Lens[at] = x
	case 3:
		*[]*int64{&l.Glues[at].Size, &l.Glues[at].Plus, &l.Glues[at].Minus, &l.Glues[at].PlusOrder, &l.Glues[at].MinusOrder}[r.Intn(5)] = x
	case 4:
		l.Toks[at] = append(l.Toks[at], list(open(), shut(), slot(1), impl.Token{Cat: x, Char: 'x'}, impl.Token{Cat: 5, Char: x}, name(repeat("x", 41)))[r.Intn(6)])
	case 5:
		l.Binds = append(l.Binds, bind(randomName(r), randomMean(r)))
	case 6:
		l.Binds = append(l.Binds, bind("\xff"+randomName(r), impl.Mean{Kind: x, Num: x % 100}))
	case 7:
		l.Counts = l.Counts[:at]
	case 8:
		l.Toks = append(l.Toks, nil)
	}
}

// What has bytes is loaded from them again; checkDump asks for it.
func TestFormatsAtRandom(t *testing.T) {
	t.Parallel()
	r := rand.New(rand.NewSource(191))
	with, without := 0, 0
	for range 4000 {
		e := randomFormat(r)
		if r.Intn(3) == 0 {
			spoilLevel(r, &e.Levels[0])
		}
		if len(checkDump(t, e)) > 0 {
			with++
		} else {
			without++
		}
	}
	if with < 2000 || without < 500 {
		t.Error("too few:", with, without)
	}
}

// Two environments have the same bytes only if they are the same.
func TestBytesTellFormatsApart(t *testing.T) {
	t.Parallel()
	r := rand.New(rand.NewSource(192))
	seen := map[string]impl.Env{}
	again := 0
	small := []impl.Mean{prim(1), prim(2), means(letter('a')), macro(0, nil, nil), macro(0, list(letter('a')), nil), macro(0, nil, list(letter('a'))), macro(1, slots(1), nil), macro(0, nil, list(name("a")))}
	for range 20000 {
		e := withBinds()
		l := &e.Levels[0]
		for _, n := range []string{"", "a", "b"} {
			if r.Intn(2) == 0 {
				l.Binds = append(l.Binds, bind(n, small[r.Intn(len(small))]))
			}
		}
		l.Counts[0], l.Lens[0] = r.Int63n(3)-1, r.Int63n(3)-1
		l.Toks[31] = randomTokens(r, 1, list(letter('a'), name("a"), name("")))
		b := string(impl.Dump(e))
		if other, found := seen[b]; found {
			again++
			if !same(other, e) {
				t.Fatalf("%v and %v are the same bytes", other, e)
			}
		}
		seen[b] = e
	}
	if again < 1000 || len(seen) < 3000 {
		t.Error("too few:", again, len(seen))
	}
}

// changeBytes changes some of the bytes ahead of a place a bit.
func changeBytes(r *rand.Rand, b []byte, ahead int) []byte {
	for range 1 + r.Intn(2) {
		at := r.Intn(min(ahead, len(b)))
		switch r.Intn(6) {
		case 0:
			b[at] = byte(r.Intn(256))
		case 1:
			b[at] ^= 1 << r.Intn(8)
		case 2:
			b[at] += byte(1 - 2*r.Intn(2))
		case 3:
			b = slices.Insert(b, at, byte(r.Intn(3)))
		case 4:
			b = slices.Delete(b, at, at+1)
		case 5:
			b = slices.Insert(slices.Delete(b, len(b)-1, len(b)), at, 0)
		}
	}
	return b
}

// Bytes that are an environment are those of what is loaded; checkLoad asks for it. The sum is right here, so that all else counts.
func TestFormatBytesAtRandom(t *testing.T) {
	t.Parallel()
	r := rand.New(rand.NewSource(193))
	loaded, refused := 0, 0
	for range 1000 {
		whole := impl.Dump(randomFormat(r))
		for range 15 {
			body := slices.Clone(whole[:len(whole)-2])
			head := slices.Clone(body[:namesAt])
			body = changeBytes(r, body[namesAt:], 1+r.Intn(len(body)-namesAt))
			if _, ok := checkLoad(t, sealPlainly(append(head, body...))); ok {
				loaded++
			} else {
				refused++
			}
		}
	}
	if loaded < 2000 || refused < 2000 {
		t.Error("too few:", loaded, refused)
	}
}

// All short rows of bytes in the place of the names.
func TestAllShortBytesOfNames(t *testing.T) {
	t.Parallel()
	loaded := 0
	var grow func(names []byte, more int)
	grow = func(names []byte, more int) {
		if _, ok := checkLoad(t, sealPlainly(slices.Concat([]byte(formatMark), make([]byte, 256), names, make([]byte, 224)))); ok {
			loaded++
		}
		if more == 0 {
			return
		}
		for _, c := range []byte{0, 1, 2, 3, 5, 16, 128} {
			grow(append(slices.Clone(names), c), more-1)
		}
	}
	grow(nil, 4)
	grow([]byte{1, 0}, 4)
	grow([]byte{1, 0, 3, 0}, 4)
	if loaded < 50 {
		t.Error("too few:", loaded)
	}
}

func TestOneChangedByteOfAFormatIsTold(t *testing.T) {
	t.Parallel()
	r := rand.New(rand.NewSource(194))
	envs := []impl.Env{withBinds(), impl.NewEnv(), {Levels: []impl.Level{richLevel()}}, randomFormat(r), randomFormat(r)}
	for i, e := range envs {
		whole := impl.Dump(e)
		for at := range whole {
			for to := range 256 {
				if i == 0 || r.Intn(16) == 0 || to == int(whole[at])+1 || to == int(whole[at])-1 {
					formatKind().checkChanged(t, whole, at, byte(to))
				}
			}
		}
		if got, ok := impl.Load(whole); !ok || !same(got, e) {
			t.Fatal("not loaded")
		}
	}
}

func TestOneChangedByteOfALargeFormatIsTold(t *testing.T) {
	t.Parallel()
	r := rand.New(rand.NewSource(195))
	for _, size := range []int{2000, 32768, 60000, 65519, 65520} {
		formatKind().checkSomeChanged(t, r, checkDump(t, envOfBytes(t, size)), 300)
	}
}

// The byte with the number 65521 counts as often as none does, the one ahead of it and the one behind do not.
func TestFormatPlacesCountModulo65521(t *testing.T) {
	t.Parallel()
	e := withBinds()
	for i := range 32 {
		e.Levels[0].Toks[i] = many(2000, char(impl.CatOther, 'a'))
	}
	whole := checkDump(t, e)
	for _, at := range []int{65518, 65520, 65522} {
		other := slices.Clone(whole)
		if other[at] != 'a' {
			t.Fatal("no char stands at", at)
		}
		other[at] = 'b'
		got, ok := checkLoad(t, other)
		if ok != (at == 65520) || ok && same(got, e) {
			t.Errorf("number %d of %d bytes changed: %v", at+1, len(whole), ok)
		}
	}
}

// loadedAgain is an environment that was dumped and loaded.
func loadedAgain(t *testing.T, e impl.Env) impl.Env {
	t.Helper()
	got, ok := impl.Load(impl.Dump(e))
	if !ok || !same(got, e) {
		t.Fatal("not loaded as it was")
	}
	return got
}

// checkDigestsAlike: a text gives the same with the environment that was loaded.
func checkDigestsAlike(t *testing.T, e, loaded impl.Env, text string, budget int64) impl.Digested {
	t.Helper()
	got, want := impl.Digest(loaded, text, budget), impl.Digest(e, text, budget)
	if !same(got, want) {
		got.Env, want.Env = differing(got.Env, want.Env)
		t.Fatalf("%q with %d:\n%+v, want\n%+v", text, budget, got, want)
	}
	return got
}

func TestLoadedEnvironmentsDigestAlike(t *testing.T) {
	t.Parallel()
	r := rand.New(rand.NewSource(196))
	plain := digestEnv()
	good, set := 0, 0
	for i := range 1500 {
		e := plain
		if i%3 == 0 {
			e = randomFormat(r)
		}
		loaded := loadedAgain(t, e)
		for range 2 {
			got := checkDigestsAlike(t, e, loaded, randomJob(r, 12), r.Int63n(200))
			if got.Code != impl.DigOk {
				continue
			}
			good++
			// What was set goes on through another dump.
			if !same(got.Env, e) {
				set++
			}
			checkDigestsAlike(t, got.Env, loadedAgain(t, got.Env), randomJob(r, 12), 200)
		}
	}
	if good < 1000 || set < 500 {
		t.Error("too few:", good, set)
	}
}

// What one text sets counts for the next, when it was dumped and loaded in between.
func TestATextGoesOnAfterALoad(t *testing.T) {
	e := impl.NewEnv()
	first := "\\def\\say#1.{<#1>}\\let\\again\\say\\let\\brace={\\count 7=-5 \\len 3=1.5pt\\glue 2=1pt plus 2fil minus 3filll\\toks 4={\\say x.#}\\expandafter\\def\\csname a b\\endcsname{!}\\cat`@=11 \\cat`!=0 \\font 3 "
	set := impl.Digest(e, first, 1000)
	if set.Code != impl.DigOk || len(set.Notes) > 0 {
		t.Fatal(set.Code, set.Notes)
	}
	loaded := loadedAgain(t, set.Env)
	for _, c := range []struct{ text, want string }{
		{"\\message{\\say hello.}", "<hello>"}, {"\\message{\\again hello.}", "<hello>"}, {"\\message{\\number\\count 7}", "-5"}, {"\\message{\\the\\len 3}", "1.5pt"},
		{"\\message{\\the\\glue 2}", "1.0pt plus 2.0fil minus 3.0filll"}, {"\\message{\\the\\toks 4}", "<x>#"}, {"!message{x}", "x"}, {"\\message{\\number\\count 31}", "3"}, {"\\message{\\csname a b\\endcsname}", "!"},
	} {
		got := checkDigestsAlike(t, set.Env, loaded, c.text, 1000)
		if got.Code != impl.DigOk || !slices.Equal(got.Notes, []string{"say: " + c.want}) {
			t.Errorf("%q: %d, %q", c.text, got.Code, got.Notes)
		}
	}
	for _, text := range []string{"", "abc @ ~ $x^2$", "\\say", "\\say{a}", "\\brace a}", "}", "\\nono", "!say", "\\kern\\len 3", "\\hskip\\glue 2 ", "\\def\\say{}\\say", "\\count 7=1\\relax\\number\\count 7"} {
		checkDigestsAlike(t, set.Env, loaded, text, 1000)
		checkDigestsAlike(t, set.Env, loaded, text, 3)
	}
}

func TestFormatAnswersAreNewMemoryAndArgumentsStay(t *testing.T) {
	t.Parallel()
	r := rand.New(rand.NewSource(197))
	for i := range 150 {
		e := randomFormat(r)
		if i == 0 {
			e.Levels[0] = richLevel()
		}
		if r.Intn(5) == 0 {
			spoilLevel(r, &e.Levels[0])
		}
		e = roomy(e)
		before := told(e)
		b := impl.Dump(e)
		impl.DumpSize(e)
		checkNewMemory(t, [][]byte{b, impl.Dump(e)}, e)
		if told(e) != before {
			t.Fatal("an environment was changed")
		}
		b = roomy(b)
		if r.Intn(5) == 0 && len(b) > 0 {
			b[r.Intn(len(b))]++
		}
		before = told(b)
		first, _ := impl.Load(b)
		second, _ := impl.Load(b)
		checkNewMemory(t, []impl.Env{first, second}, b)
		if told(b) != before {
			t.Fatal("bytes were changed")
		}
	}
}

// No text of an answer lies in the bytes that it was loaded from: they may be changed then.
func TestLoadedNamesStayWhenTheBytesChange(t *testing.T) {
	e := impl.Env{Levels: []impl.Level{richLevel()}}
	b := impl.Dump(e)
	got, ok := impl.Load(b)
	clear(b)
	if !ok || !same(got, e) {
		t.Error("an environment changes with its bytes")
	}
}

// The same answers come, whatever stands in the room behind the lists, and whatever was written into answers ahead.
func TestFormatAnswersHangOnNothingElse(t *testing.T) {
	e := impl.Env{Levels: []impl.Level{richLevel()}}
	b := impl.Dump(e)
	want := slices.Clone(b)
	first, _ := impl.Load(b)
	l := &first.Levels[0]
	clear(l.Cats[:cap(l.Cats)])
	clear(l.Toks[31])
	clear(l.Binds[3].Mean.Macro.Body)
	clear(l.Binds[:cap(l.Binds)])
	clear(l.Glues[:cap(l.Glues)])
	if second, ok := impl.Load(b); !ok || !same(second, e) {
		t.Error("another answer")
	}
	clear(b[:cap(b)])
	if !bytes.Equal(impl.Dump(e), want) || !bytes.Equal(impl.Dump(roomy(e)), want) || impl.DumpSize(roomy(e)) != int64(len(want)) {
		t.Error("other bytes")
	}
	if got, ok := impl.Load(roomy(want)); !ok || !same(got, e) {
		t.Error("the room behind bytes counts")
	}
}

// Lists may be one and the same, in an argument.
func TestOneListManyTimes(t *testing.T) {
	row := list(open(), name("in"), shut())
	e := withBinds(bind("a", macro(0, nil, row)), bind("b", macro(0, nil, row)))
	numbers := make([]int64, 32)
	e.Levels[0].Counts, e.Levels[0].Lens = numbers, numbers
	for i := range 32 {
		e.Levels[0].Toks[i] = row
	}
	checkDump(t, e)
	checkNewMemory(t, loadedAgain(t, e), e)
}

// Every function answers whatever it is given.
func TestFormatsOfAnything(t *testing.T) {
	t.Parallel()
	r := rand.New(rand.NewSource(198))
	for range 3000 {
		e := randomFormat(r)
		for range r.Intn(6) {
			if len(e.Levels[0].Counts) == 32 && len(e.Levels[0].Toks) == 32 {
				spoilLevel(r, &e.Levels[0])
			}
		}
		e.Levels = slices.Repeat(e.Levels, r.Intn(3))
		checkDump(t, e)
		b := make([]byte, r.Intn(900))
		r.Read(b)
		checkLoad(t, b)
		checkLoad(t, sealPlainly(append([]byte(formatMark), b...)))
		for i := range b {
			b[i] %= 16
		}
		checkLoad(t, sealPlainly(append([]byte(formatMark), b...)))
	}
	for _, n := range []int{impl.MaxDump - 1, impl.MaxDump, impl.MaxDump + 1, 3 * impl.MaxDump} {
		checkNoFormat(t, "zeros", make([]byte, n))
		checkNoFormat(t, "a mark and zeros", sealPlainly(append([]byte(formatMark), make([]byte, n-6)...)))
	}
	for _, text := range []string{"QFM1", strings.Repeat("QFM1", 1000), "\x00", "\xff"} {
		checkNoFormat(t, text[:1], []byte(text))
	}
}
