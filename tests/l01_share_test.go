package tests

import (
	"math"
	"math/big"
	"math/rand"
	"slices"
	"testing"

	"loop.example/g00014/impl"
)

// sharedOut sets a row as the document says it, without bounds on any sum.
func sharedOut(gs []impl.Glue, width, target int64) ([]int64, impl.Setting) {
	want := target - width
	lens := []int64{}
	for _, g := range gs {
		want -= g.Size
		lens = append(lens, g.Size)
	}
	if want == 0 {
		return lens, impl.Setting{}
	}
	set := impl.Setting{Sign: 1, Want: want}
	if want < 0 {
		set = impl.Setting{Sign: -1, Want: -want}
	}
	amount := func(g impl.Glue) (int64, int64) {
		if set.Sign > 0 {
			return g.Plus, g.PlusOrder
		}
		return g.Minus, g.MinusOrder
	}
	for order := int64(impl.MaxOrder); order >= 0 && set.Have == 0; order-- {
		set.Order = order
		for _, g := range gs {
			if n, o := amount(g); o == order {
				set.Have += n
			}
		}
	}
	overfull := set.Sign < 0 && (set.Have <= 0 || set.Order == 0 && set.Have < set.Want)
	switch {
	case overfull:
		set.Bad, set.Over = impl.Overfull, set.Want-max(set.Have, 0)
	case set.Have <= 0:
		set.Bad = impl.MaxBad
	case set.Order == 0:
		set.Bad = badnessOf(big.NewInt(set.Want), big.NewInt(set.Have))
	}
	if set.Have <= 0 {
		return lens, set
	}
	bound := big.NewInt(1 << 60)
	sum, ahead := int64(0), int64(0)
	for i, g := range gs {
		n, o := amount(g)
		if o != set.Order {
			continue
		}
		if overfull {
			lens[i] -= n
			continue
		}
		sum += n
		q := nearestOf(times(set.Want, sum), big.NewInt(set.Have))
		if q.CmpAbs(bound) > 0 {
			q.Mul(bound, big.NewInt(int64(q.Sign())))
		}
		lens[i] += set.Sign * (q.Int64() - ahead)
		ahead = q.Int64()
	}
	return lens, set
}

func checkShare(t *testing.T, gs []impl.Glue, width, target int64) {
	t.Helper()
	lens, set := impl.Share(gs, width, target)
	wantLens, want := sharedOut(gs, width, target)
	if set != want || !slices.Equal(lens, wantLens) {
		if len(gs) > 20 {
			gs, lens, wantLens = gs[:20], lens[:20], wantLens[:20]
		}
		t.Fatalf("Share(%v, %d, %d): %v %v, want %v %v", gs, width, target, lens, set, wantLens, want)
	}
	sum := width
	for _, n := range lens {
		sum += n
	}
	if set.Sign != 0 && set.Have <= 0 {
		return
	}
	if sum != target+set.Over {
		t.Fatalf("Share(%v, %d, %d): %d long, over %d", gs, width, target, sum, set.Over)
	}
}

func randomGlue(r *rand.Rand, most int64, orders int64) impl.Glue {
	n := func() int64 { return r.Int63n(2*most+1) - most }
	plus := func() int64 { return r.Int63n(most+most/4+1) - most/4 }
	return impl.Glue{Size: n(), Plus: min(plus(), most), PlusOrder: r.Int63n(orders), Minus: min(plus(), most), MinusOrder: r.Int63n(orders)}
}

func TestRowsAreAsLongAsWanted(t *testing.T) {
	r := rand.New(rand.NewSource(5))
	for range 40000 {
		most := []int64{1, 3, 50, impl.Point * 20, impl.MaxLen}[r.Intn(5)]
		gs := make([]impl.Glue, r.Intn(9))
		orders := 1 + r.Int63n(impl.MaxOrder+1)
		for i := range gs {
			gs[i] = randomGlue(r, most, orders)
		}
		checkShare(t, gs, r.Int63n(2*most+1)-most, r.Int63n(2*most+1)-most)
	}
}

func TestRoundingsNeverAddUp(t *testing.T) {
	gs := make([]impl.Glue, impl.MaxGlue)
	for i := range gs {
		gs[i] = impl.Glue{Size: 10, Plus: 3, Minus: 3}
	}
	for _, extra := range []int64{1, 4999, 5000, 9999, 10001, 14999, -1, -5000, -15001, -29999, -30000, -30001} {
		checkShare(t, gs, 5, 5+10*impl.MaxGlue+extra)
	}
	lens, _ := impl.Share(gs[:4], 0, 42)
	if !slices.Equal(lens, []int64{11, 10, 11, 10}) {
		t.Error(lens)
	}
	lens, _ = impl.Share(gs[:4], 0, 38)
	if !slices.Equal(lens, []int64{9, 10, 9, 10}) {
		t.Error(lens)
	}
}

func TestShareSettings(t *testing.T) {
	type glues = []impl.Glue
	for _, c := range []struct {
		gs            glues
		width, target int64
		lens          []int64
		set           impl.Setting
	}{
		{nil, 7, 7, nil, impl.Setting{}},
		{nil, 7, 9, nil, impl.Setting{Sign: 1, Want: 2, Bad: impl.MaxBad}},
		{nil, 7, 4, nil, impl.Setting{Sign: -1, Want: 3, Bad: impl.Overfull, Over: 3}},
		{glues{glue(1, 5, 1, 5, 2)}, 2, 3, []int64{1}, impl.Setting{}},
		{glues{glue(1, -5, 0, 0, 0)}, 0, 3, []int64{1}, impl.Setting{Sign: 1, Want: 2, Have: -5, Bad: impl.MaxBad}},
		{glues{glue(1, 4, 0, 0, 0), glue(1, 2, 1, 0, 0), glue(1, -2, 1, 0, 0)}, 0, 5, []int64{3, 1, 1}, impl.Setting{Sign: 1, Want: 2, Have: 4, Bad: 13}},
		{glues{glue(1, 4, 0, 0, 0), glue(1, 2, 1, 0, 0), glue(1, -3, 1, 0, 0)}, 0, 5, []int64{1, 1, 1}, impl.Setting{Sign: 1, Order: 1, Want: 2, Have: -1, Bad: impl.MaxBad}},
		{glues{glue(1, 4, 0, 0, 0), glue(1, 0, 3, 0, 0), glue(1, 1, 2, 0, 0)}, 0, 50, []int64{1, 1, 48}, impl.Setting{Sign: 1, Order: 2, Want: 47, Have: 1}},
		{glues{glue(10, 0, 0, 4, 0), glue(10, 0, 0, 2, 0)}, 0, 14, []int64{6, 8}, impl.Setting{Sign: -1, Want: 6, Have: 6, Bad: 100}},
		{glues{glue(10, 0, 0, 4, 0), glue(10, 0, 0, 2, 0)}, 0, 13, []int64{6, 8}, impl.Setting{Sign: -1, Want: 7, Have: 6, Bad: impl.Overfull, Over: 1}},
		{glues{glue(10, 0, 0, 4, 0), glue(10, 0, 0, -2, 0)}, 0, 13, []int64{6, 12}, impl.Setting{Sign: -1, Want: 7, Have: 2, Bad: impl.Overfull, Over: 5}},
		{glues{glue(10, 0, 0, 4, 0), glue(10, 0, 0, 1, 3)}, 0, 0, []int64{10, -10}, impl.Setting{Sign: -1, Order: 3, Want: 20, Have: 1}},
		{glues{glue(10, 0, 0, -4, 0)}, 0, 9, []int64{10}, impl.Setting{Sign: -1, Want: 1, Have: -4, Bad: impl.Overfull, Over: 1}},
		{glues{glue(10, 0, 0, 9, 0), glue(10, 0, 0, -4, 1)}, 0, 19, []int64{10, 10}, impl.Setting{Sign: -1, Order: 1, Want: 1, Have: -4, Bad: impl.Overfull, Over: 1}},
		{glues{glue(10, 0, 0, 9, 0), glue(10, 0, 0, 4, 1), glue(0, 0, 0, -4, 1)}, 0, 14, []int64{4, 10, 0}, impl.Setting{Sign: -1, Want: 6, Have: 9, Bad: 30}},
	} {
		lens, set := impl.Share(c.gs, c.width, c.target)
		if set != c.set || !slices.Equal(lens, c.lens) {
			t.Errorf("Share(%v, %d, %d): %v %v, want %v %v", c.gs, c.width, c.target, lens, set, c.lens, c.set)
		}
		checkShare(t, c.gs, c.width, c.target)
	}
}

func TestShareAtTheGreatestLengths(t *testing.T) {
	const m = impl.MaxLen
	gs := []impl.Glue{{Plus: m, Minus: m}, {Plus: -m, Minus: -m}, {Plus: 1, Minus: 1}, {Plus: m, PlusOrder: 1, Minus: m, MinusOrder: 1}, {Plus: 1 - m, PlusOrder: 1, Minus: 1 - m, MinusOrder: 1}}
	long, deep := slices.Clone(gs), slices.Clone(gs)
	for len(long) < impl.MaxGlue {
		long = append(long, impl.Glue{Size: -m})
		deep = append(deep, impl.Glue{Size: m})
	}
	for _, w := range []int64{-m, 0, m} {
		checkShare(t, long, w, -w)
		checkShare(t, deep, w, -w)
		checkShare(t, long[3:], w, w)
		checkShare(t, deep[3:], w, w)
		checkShare(t, long[:3], w, -w)
	}
	lens, set := impl.Share(long, 0, 0)
	want := int64(impl.MaxGlue-len(gs)) * m
	if set != (impl.Setting{Sign: 1, Order: 1, Want: want, Have: 1}) || lens[3] != 1<<60 || lens[4] != want-1<<60 {
		t.Error(lens[:5], set)
	}
	lens, set = impl.Share(deep, 0, 0)
	if set != (impl.Setting{Sign: -1, Order: 1, Want: want, Have: 1}) || lens[3] != -1<<60 || lens[4] != 1<<60-want {
		t.Error(lens[:5], set)
	}
}

func refusedShare(t *testing.T, gs []impl.Glue, width, target int64) {
	t.Helper()
	if lens, set := impl.Share(gs, width, target); len(lens) > 0 || set != (impl.Setting{}) {
		t.Error(width, target, len(gs), set)
	}
}

func TestShareAndSumRefuse(t *testing.T) {
	full := make([]impl.Glue, impl.MaxGlue+1)
	for i := range full {
		full[i] = impl.Glue{Size: 1, Plus: 2, PlusOrder: 1, Minus: 3, MinusOrder: 2}
	}
	refusedShare(t, full, 0, 0)
	if size, plus, minus := impl.SumGlue(full); size != 0 || len(plus) > 0 || len(minus) > 0 {
		t.Error(size, plus, minus)
	}
	if lens, set := impl.Share(full[1:], 0, 0); len(lens) != impl.MaxGlue || set.Want != impl.MaxGlue {
		t.Error(len(lens), set)
	}
	for _, x := range []int64{impl.MaxLen + 1, -impl.MaxLen - 1, math.MaxInt64, math.MinInt64} {
		refusedShare(t, full[:3], x, 0)
		refusedShare(t, full[:3], 0, x)
	}
	for _, bad := range noGlues() {
		gs := []impl.Glue{{Size: 5, Plus: 1}, bad, {Size: 6}}
		refusedShare(t, gs, 0, 100)
		if size, plus, minus := impl.SumGlue(gs); size != 0 || len(plus) > 0 || len(minus) > 0 {
			t.Error(bad, size, plus, minus)
		}
	}
	for _, w := range []int64{impl.MaxLen, -impl.MaxLen} {
		checkShare(t, full[:3], w, -w)
		checkShare(t, full[:3], w, w)
	}
}

func TestSumGlue(t *testing.T) {
	const m = impl.MaxLen
	size, plus, minus := impl.SumGlue([]impl.Glue{glue(1, 2, 0, 3, 3), glue(4, 5, 1, -6, 3), glue(-7, 8, 1, 9, 2)})
	if size != -2 || !slices.Equal(plus, []int64{2, 13, 0, 0}) || !slices.Equal(minus, []int64{0, 0, 9, -3}) {
		t.Error(size, plus, minus)
	}
	size, plus, minus = impl.SumGlue(nil)
	if size != 0 || !slices.Equal(plus, make([]int64, 4)) || !slices.Equal(minus, make([]int64, 4)) {
		t.Error(size, plus, minus)
	}
	gs := slices.Repeat([]impl.Glue{glue(m, m, 3, -m, 0)}, impl.MaxGlue)
	size, plus, minus = impl.SumGlue(gs)
	if size != m*impl.MaxGlue || !slices.Equal(plus, []int64{0, 0, 0, m * impl.MaxGlue}) || !slices.Equal(minus, []int64{-m * impl.MaxGlue, 0, 0, 0}) {
		t.Error(size, plus, minus)
	}
}

func TestGlueAnswersAreNewAndArgumentsStay(t *testing.T) {
	room := slices.Repeat([]impl.Glue{glue(7, 7, 1, 7, 2)}, 8)
	before := slices.Clone(room)
	gs := room[2:5]
	lens, _ := impl.Share(gs, 1, 100)
	size, plus, minus := impl.SumGlue(gs)
	wantLens, wantPlus, wantMinus := slices.Clone(lens), slices.Clone(plus), slices.Clone(minus)
	for i := range lens[:cap(lens)] {
		lens[:cap(lens)][i] = -99
	}
	for i := range plus[:cap(plus)] {
		plus[:cap(plus)][i] = -99
	}
	if !slices.Equal(minus, wantMinus) {
		t.Error("the lists of one answer share memory")
	}
	if !slices.Equal(room, before) {
		t.Error("an argument, or the room around it, was written to")
	}
	again, _ := impl.Share(gs, 1, 100)
	size2, plus2, minus2 := impl.SumGlue(gs)
	if !slices.Equal(again, wantLens) || size != size2 || !slices.Equal(plus2, wantPlus) || !slices.Equal(minus2, wantMinus) {
		t.Error("an answer hangs on one that was given before")
	}
}

func TestDimAnswersAtEveryArgument(t *testing.T) {
	for _, a := range corners {
		impl.ShowLen(a)
		for _, b := range corners {
			impl.Badness(a, b)
			g, h := glue(a, b, a, b, b), glue(b, a, 0, a, 3)
			impl.GlueOk(g)
			impl.ShowGlue(g)
			impl.AddGlue(g, h)
			impl.AddGlue(h, g)
			impl.SumGlue([]impl.Glue{g, h})
			impl.Share([]impl.Glue{g, h}, a, b)
			impl.Share([]impl.Glue{h, h}, b, a)
			impl.Share(nil, a, b)
		}
	}
	for a := range 256 {
		for b := range 256 {
			impl.ParseLen(string([]byte{byte(a), byte(b)}))
			impl.ParseLen(string([]byte{'-', byte(a), '1', byte(b), 'p', 't'}))
		}
	}
}
