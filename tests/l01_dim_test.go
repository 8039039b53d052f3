package tests

import (
	"math"
	"math/big"
	"math/rand"
	"strconv"
	"strings"
	"testing"

	"loop.example/g00014/impl"
)

// corners are numbers at which a sum, a product or a bound may go wrong.
var corners = []int64{
	math.MinInt64, math.MinInt64 + 1, -1 << 62, -1<<32 - 1, -1 << 32, -1 << 31, -impl.MaxLen - 1, -impl.MaxLen, -65537, -65536, -1024, -7, -3, -2, -1,
	0, 1, 2, 3, 7, 1024, 65535, 65536, impl.MaxLen, impl.MaxLen + 1, 1 << 31, 1<<32 - 1, 1 << 32, 1<<32 + 1, 1 << 62, math.MaxInt64 - 1, math.MaxInt64,
}

// nearestOf is num / den to the nearest, of two the one further from 0, without bounds.
func nearestOf(num, den *big.Int) *big.Int {
	n, d := new(big.Int).Abs(num), new(big.Int).Abs(den)
	n.Lsh(n, 1).Add(n, d)
	n.Quo(n, d.Lsh(d, 1))
	if num.Sign()*den.Sign() < 0 {
		n.Neg(n)
	}
	return n
}

func times(xs ...int64) *big.Int {
	p := big.NewInt(1)
	for _, x := range xs {
		p.Mul(p, big.NewInt(x))
	}
	return p
}

func fitsBig(x *big.Int) bool { return x.CmpAbs(big.NewInt(impl.MaxLen)) <= 0 }

func checkRatio(t *testing.T, x, num, den int64) {
	t.Helper()
	want, wantOk := int64(0), false
	if den != 0 {
		if q := nearestOf(times(x, num), big.NewInt(den)); fitsBig(q) {
			want, wantOk = q.Int64(), true
		}
	}
	if got, ok := impl.Ratio(x, num, den); got != want || ok != wantOk {
		t.Fatalf("Ratio(%d, %d, %d): %d %v, want %d %v", x, num, den, got, ok, want, wantOk)
	}
}

// anyNumber is of either sign and of any number of bits.
func anyNumber(r *rand.Rand) int64 { return int64(r.Uint64()) >> r.Intn(64) }

func TestRatioIsTheNearest(t *testing.T) {
	for _, x := range corners {
		for _, num := range corners {
			for _, den := range corners {
				checkRatio(t, x, num, den)
			}
		}
	}
	r := rand.New(rand.NewSource(1))
	for range 200000 {
		checkRatio(t, anyNumber(r), anyNumber(r), anyNumber(r))
	}
	for x := int64(-20); x <= 20; x++ {
		for den := int64(-9); den <= 9; den++ {
			checkRatio(t, x, 1, den)
			checkRatio(t, x, -3, den)
		}
	}
}

func TestRatioEdges(t *testing.T) {
	for _, c := range []struct {
		x, num, den, want int64
		ok                bool
	}{
		{1, 1, 2, 1, true}, {-1, 1, 2, -1, true}, {1, -1, 2, -1, true}, {1, 1, -2, -1, true}, {-3, -1, -2, -2, true},
		{1, 1, 3, 0, true}, {-2, 1, 3, -1, true}, {0, math.MinInt64, math.MaxInt64, 0, true},
		{impl.MaxLen, 1, 1, impl.MaxLen, true}, {impl.MaxLen + 1, 1, 1, 0, false},
		{-impl.MaxLen, 1, 1, -impl.MaxLen, true}, {-impl.MaxLen - 1, 1, 1, 0, false},
		{4*impl.MaxLen + 1, 1, 4, impl.MaxLen, true}, {2*impl.MaxLen + 1, 1, 2, 0, false}, {2*impl.MaxLen + 1, -1, 2, 0, false},
		{math.MinInt64, math.MinInt64, math.MinInt64, 0, false}, {math.MinInt64, 1, math.MinInt64, 1, true},
		{math.MinInt64, 1, math.MaxInt64, -1, true}, {math.MaxInt64, impl.MaxLen, math.MinInt64, -impl.MaxLen, true},
		{1 << 62, -1, math.MinInt64, 1, true}, {1<<62 - 1, -1, math.MinInt64, 0, true},
		{5, 7, 0, 0, false}, {0, 0, 0, 0, false},
	} {
		if got, ok := impl.Ratio(c.x, c.num, c.den); got != c.want || ok != c.ok {
			t.Errorf("Ratio(%d, %d, %d): %d %v, want %d %v", c.x, c.num, c.den, got, ok, c.want, c.ok)
		}
	}
}

func TestParseLenKnown(t *testing.T) {
	for _, c := range []struct {
		s string
		n int64
	}{
		{"0pt", 0}, {"-0pt", 0}, {"+1pt", 65536}, {"1.pt", 65536}, {".5pt", 32768}, {"-.5pt", -32768}, {"007pt", 458752},
		{"1pc", 786432}, {"1in", 4736287}, {"-1in", -4736287}, {"25.4mm", 4736287}, {"1mm", 186468}, {"100in", 473628672}, {"2540mm", 473628672},
		{"0.5sp", 1}, {"-0.5sp", -1}, {"1.5sp", 2}, {"-1.5sp", -2}, {"2.5sp", 3}, {"0.49999999999999sp", 0}, {"-0.49999999999999sp", 0},
		{"1073741823sp", impl.MaxLen}, {"-1073741823sp", -impl.MaxLen}, {"1073741823.4999sp", impl.MaxLen}, {"-1073741823.4999sp", -impl.MaxLen},
		{"16383.99999pt", impl.MaxLen}, {"000000000000001pt", 65536}, {".000000000000001pt", 0}, {"0000000.00000010in", 0}, {"00000000000.001pt", 66},
	} {
		if n, ok := impl.ParseLen(c.s); !ok || n != c.n {
			t.Errorf("ParseLen(%q): %d %v, want %d", c.s, n, ok, c.n)
		}
	}
}

func TestParseLenRefuses(t *testing.T) {
	for _, s := range []string{
		"", "+", "-", ".", "pt", ".pt", "+pt", "-.pt", "1", "1.", "1.5", "1p", "1t", "1 pt", " 1pt", "1pt ", "1pt\n", "1ptpt", "1ptx", "1PT", "1Pt",
		"1..2pt", "1.2.3pt", "..1pt", "1.2.pt", "--1pt", "++1pt", "+-1pt", "-+1pt", "1-pt", "1,5pt", "1e3pt", "0x1pt", "1_0pt", "1em", "1cm", "1fil", "1pts",
		"16384pt", "-16384pt", "1073741824sp", "-1073741824sp", "1073741823.5sp", "-1073741823.5sp", "999999999999999in",
		"0000000000000001pt", "0.000000000000001pt", "1234567890123456sp", "0000000000000000pt", "1.000000000000000pt", strings.Repeat("9", 100000) + "pt",
		"\u0661pt", "1\xffpt", "1p\x00t", "\x001pt", "1pt\x00", "\u22121pt",
	} {
		if n, ok := impl.ParseLen(s); ok || n != 0 {
			t.Errorf("ParseLen(%.40q): %d %v", s, n, ok)
		}
	}
}

func TestParseLenIsExactAndRoundedOnce(t *testing.T) {
	units := []struct {
		name     string
		num, den int64
	}{{"pt", 65536, 1}, {"mm", 473628672, 2540}, {"in", 473628672, 100}, {"pc", 786432, 1}, {"sp", 1, 1}}
	r := rand.New(rand.NewSource(2))
	for range 100000 {
		digits := 1 + r.Intn(impl.MaxDigits)
		s := strconv.FormatInt(1e15+r.Int63n(1e15), 10)[1 : 1+digits]
		places := r.Intn(digits + 1)
		number, _ := new(big.Int).SetString(s, 10)
		u := units[r.Intn(len(units))]
		den := new(big.Int).Exp(big.NewInt(10), big.NewInt(int64(places)), nil)
		q := nearestOf(number.Mul(number, big.NewInt(u.num)), den.Mul(den, big.NewInt(u.den)))
		text := s[:digits-places] + "." + s[digits-places:] + u.name
		if r.Intn(2) == 0 {
			text, q = "-"+text, q.Neg(q)
		}
		n, ok := impl.ParseLen(text)
		if ok != fitsBig(q) || ok && n != q.Int64() || !ok && n != 0 {
			t.Fatalf("ParseLen(%q): %d %v, want %v", text, n, ok, q)
		}
	}
}

// shownLen tries every text near x with one digit, two, .. and takes the nearest, of two the lesser number.
func shownLen(x int64) string {
	exact := big.NewRat(x, impl.Point)
	for places, scale := 1, int64(10); ; places, scale = places+1, scale*10 {
		best, bestOff := "", (*big.Rat)(nil)
		for n := x*scale/impl.Point - 3; n <= x*scale/impl.Point+3; n++ {
			text := big.NewRat(n, scale).FloatString(places) + "pt"
			if back, ok := impl.ParseLen(text); !ok || back != x {
				continue
			}
			off := new(big.Rat).Sub(big.NewRat(n, scale), exact)
			if off.Abs(off); bestOff == nil || off.Cmp(bestOff) < 0 {
				best, bestOff = text, off
			}
		}
		if best != "" {
			return best
		}
	}
}

func checkShown(t *testing.T, x int64) {
	t.Helper()
	got := impl.ShowLen(x)
	if want := shownLen(x); got != want {
		t.Fatalf("ShowLen(%d): %q, want %q", x, got, want)
	}
	if back, ok := impl.ParseLen(got); !ok || back != x {
		t.Fatalf("ShowLen(%d) is %q, read as %d %v", x, got, back, ok)
	}
}

func TestShownLengthsAreReadAgain(t *testing.T) {
	t.Parallel()
	for x := int64(-66000); x <= 66000; x++ {
		checkShown(t, x)
	}
	r := rand.New(rand.NewSource(3))
	for range 20000 {
		checkShown(t, r.Int63n(2*impl.MaxLen+1)-impl.MaxLen)
	}
	for x := int64(impl.MaxLen - 2000); x <= impl.MaxLen; x++ {
		checkShown(t, x)
		checkShown(t, -x)
	}
}

func TestShowLenEdges(t *testing.T) {
	for _, c := range []struct {
		x int64
		s string
	}{
		{0, "0.0pt"}, {1, "0.00002pt"}, {-1, "-0.00002pt"}, {65536, "1.0pt"}, {-98304, "-1.5pt"}, {65535, "0.99998pt"},
		{1024, "0.01562pt"}, {-1024, "-0.01563pt"}, {65536 + 3*1024, "1.04687pt"}, {-65536 - 3*1024, "-1.04688pt"},
		{impl.MaxLen, "16383.99998pt"}, {-impl.MaxLen, "-16383.99998pt"},
		{impl.MaxLen + 1, ""}, {-impl.MaxLen - 1, ""}, {math.MaxInt64, ""}, {math.MinInt64, ""},
	} {
		if s := impl.ShowLen(c.x); s != c.s {
			t.Errorf("ShowLen(%d): %q, want %q", c.x, s, c.s)
		}
	}
}

func glue(size, plus, plusOrder, minus, minusOrder int64) impl.Glue {
	return impl.Glue{Size: size, Plus: plus, PlusOrder: plusOrder, Minus: minus, MinusOrder: minusOrder}
}

// noGlues can't be, each for one reason.
func noGlues() []impl.Glue {
	var out []impl.Glue
	for _, x := range []int64{impl.MaxLen + 1, -impl.MaxLen - 1, math.MaxInt64, math.MinInt64} {
		out = append(out, impl.Glue{Size: x}, impl.Glue{Plus: x}, impl.Glue{Minus: x})
	}
	for _, o := range []int64{impl.MaxOrder + 1, -1, math.MaxInt64, math.MinInt64} {
		out = append(out, impl.Glue{PlusOrder: o}, impl.Glue{MinusOrder: o})
	}
	return out
}

func edgeGlues() []impl.Glue {
	const m, o = impl.MaxLen, impl.MaxOrder
	return []impl.Glue{{}, glue(m, m, o, m, o), glue(-m, -m, o, -m, 0), glue(1, 0, o, 0, 1), glue(0, m, 0, -m, 2)}
}

func TestGlueOk(t *testing.T) {
	for _, g := range edgeGlues() {
		if !impl.GlueOk(g) {
			t.Error(g)
		}
	}
	for _, g := range noGlues() {
		if impl.GlueOk(g) {
			t.Error(g)
		}
		if s := impl.ShowGlue(g); s != "" {
			t.Error(g, s)
		}
		if sum, ok := impl.AddGlue(g, impl.Glue{}); ok || sum != (impl.Glue{}) {
			t.Error(g, sum)
		}
		if sum, ok := impl.AddGlue(impl.Glue{}, g); ok || sum != (impl.Glue{}) {
			t.Error(g, sum)
		}
	}
}

func TestAddGlue(t *testing.T) {
	const m = impl.MaxLen
	for _, c := range []struct {
		a, b, want impl.Glue
		ok         bool
	}{
		{glue(1, 2, 0, 3, 0), glue(4, 5, 0, 6, 0), glue(5, 7, 0, 9, 0), true},
		{glue(1, 2, 1, 3, 2), glue(4, 5, 2, 6, 1), glue(5, 5, 2, 3, 2), true},
		{glue(0, 0, 3, 0, 2), glue(0, 5, 1, -6, 0), glue(0, 5, 1, -6, 0), true},
		{glue(0, 0, 3, 0, 2), glue(0, 0, 1, 0, 3), impl.Glue{}, true},
		{glue(0, 7, 2, -7, 3), glue(0, -7, 2, 7, 3), impl.Glue{}, true},
		{glue(0, -7, 2, -1, 1), glue(0, 3, 1, 9, 0), glue(0, -7, 2, -1, 1), true},
		{glue(m, m, 1, m, 0), impl.Glue{}, glue(m, m, 1, m, 0), true},
		{glue(m-1, 0, 0, 0, 0), glue(1, 0, 0, 0, 0), glue(m, 0, 0, 0, 0), true},
		{glue(m, 0, 0, 0, 0), glue(1, 0, 0, 0, 0), impl.Glue{}, false},
		{glue(0, m, 1, 0, 0), glue(0, 1, 1, 0, 0), impl.Glue{}, false},
		{glue(0, m, 1, 0, 0), glue(0, 1, 0, 0, 0), glue(0, m, 1, 0, 0), true},
		{glue(0, 0, 0, -m, 2), glue(0, 0, 0, -1, 2), impl.Glue{}, false},
		{glue(-m, 0, 0, 0, 0), glue(-1, 0, 0, 0, 0), impl.Glue{}, false},
	} {
		for range 2 {
			if got, ok := impl.AddGlue(c.a, c.b); got != c.want || ok != c.ok {
				t.Errorf("AddGlue(%v, %v): %v %v, want %v %v", c.a, c.b, got, ok, c.want, c.ok)
			}
			c.a, c.b = c.b, c.a
		}
	}
}

func TestShowGlue(t *testing.T) {
	const p = impl.Point
	for _, c := range []struct {
		g impl.Glue
		s string
	}{
		{impl.Glue{}, "0.0pt"}, {glue(p, 0, 3, 0, 2), "1.0pt"},
		{glue(-p, p, 0, p/2, 0), "-1.0pt plus 1.0pt minus 0.5pt"},
		{glue(p, -p, 1, 1, 2), "1.0pt plus -1.0fil minus 0.00002fill"},
		{glue(0, 0, 0, p, 3), "0.0pt minus 1.0filll"},
		{glue(0, impl.MaxLen, 3, 0, 0), "0.0pt plus 16383.99998filll"},
		{glue(1024, -1024, 2, 1024, 0), "0.01562pt plus -0.01563fill minus 0.01562pt"},
	} {
		if s := impl.ShowGlue(c.g); s != c.s {
			t.Errorf("ShowGlue(%v): %q, want %q", c.g, s, c.s)
		}
	}
}

func badnessOf(short, can *big.Int) int64 {
	if short.Sign() <= 0 {
		return 0
	}
	if can.Sign() <= 0 {
		return impl.MaxBad
	}
	three := big.NewInt(3)
	num := new(big.Int).Exp(short, three, nil)
	q := nearestOf(num.Mul(num, big.NewInt(100)), new(big.Int).Exp(can, three, nil))
	if q.Cmp(big.NewInt(impl.MaxBad)) > 0 {
		return impl.MaxBad
	}
	return q.Int64()
}

func checkBadness(t *testing.T, short, can int64) {
	t.Helper()
	if got, want := impl.Badness(short, can), badnessOf(big.NewInt(short), big.NewInt(can)); got != want {
		t.Fatalf("Badness(%d, %d): %d, want %d", short, can, got, want)
	}
}

func TestBadnessIsExact(t *testing.T) {
	for _, a := range corners {
		for _, b := range corners {
			checkBadness(t, a, b)
		}
	}
	for a := int64(-2); a < 60; a++ {
		for b := int64(-2); b < 60; b++ {
			checkBadness(t, a, b)
		}
	}
	r := rand.New(rand.NewSource(4))
	for range 50000 {
		can := 1 + r.Int63()>>r.Intn(62)
		checkBadness(t, r.Int63n(can), can)
		checkBadness(t, can, 1+can/5+r.Int63n(can/2+1))
	}
}

func TestBadnessEdges(t *testing.T) {
	for _, c := range [][3]int64{
		{0, 0, 0}, {-1, 0, 0}, {math.MinInt64, math.MinInt64, 0}, {1, 0, impl.MaxBad}, {1, -1, impl.MaxBad}, {1, math.MinInt64, impl.MaxBad},
		{1, 1, 100}, {1, 2, 13}, {3, 2, 338}, {1, 10, 0}, {math.MaxInt64, math.MaxInt64, 100}, {math.MaxInt64, 1, impl.MaxBad}, {1, math.MaxInt64, 0},
		{1 << 61, 1 << 62, 13}, {46415, 10000, 9999}, {46416, 10000, impl.MaxBad}, {5, 1, impl.MaxBad},
	} {
		if got := impl.Badness(c[0], c[1]); got != c[2] {
			t.Errorf("Badness(%d, %d): %d, want %d", c[0], c[1], got, c[2])
		}
	}
}
