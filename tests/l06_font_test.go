package tests

import (
	"math"
	"math/rand"
	"slices"
	"strconv"
	"strings"
	"testing"

	"loop.example/g00014/impl"
)

// fontCase is a small font with one thing changed.
type fontCase struct {
	what   string
	change func(f *impl.Font)
}

// wideFont has all codes and so many pairs, each of its first one with every other, and so on.
func wideFont(pairs int) impl.Font {
	f := impl.Font{Name: "wide"}
	for code := range int64(256) {
		f.Glyphs = append(f.Glyphs, glyph(code, code, 1, 0))
	}
	for at := range int64(pairs) {
		f.Pairs = append(f.Pairs, kerns(at/256, at%256, at+1))
	}
	return f
}

func setPair(at int, p impl.Pair) func(*impl.Font) {
	return func(f *impl.Font) { f.Pairs[at] = p }
}

func setSpace(g impl.Glue) func(*impl.Font) {
	return func(f *impl.Font) { f.Space = g }
}

func setGlyph(at int, g impl.Glyph) func(*impl.Font) {
	return func(f *impl.Font) { f.Glyphs[at] = g }
}

// fontsThatCan are at the edges.
func fontsThatCan() []fontCase {
	return []fontCase{
		{"as it is", func(*impl.Font) {}},
		{"the zero value", func(f *impl.Font) { *f = impl.Font{} }},
		{"no glyph", func(f *impl.Font) { f.Glyphs, f.Pairs = nil, nil }},
		{"no pair", func(f *impl.Font) { f.Pairs = nil }},
		{"no name", func(f *impl.Font) { f.Name = "" }},
		{"a name of MaxName bytes", func(f *impl.Font) { f.Name = strings.Repeat("\xff", impl.MaxName) }},
		{"the Code 0", func(f *impl.Font) { f.Glyphs = append([]impl.Glyph{glyph(0, 1, 2, 3)}, f.Glyphs...) }},
		{"the Code 255", func(f *impl.Font) { f.Glyphs = append(f.Glyphs, glyph(255, 1, 2, 3)) }},
		{"lengths of 0", setGlyph(2, glyph('a', 0, 0, 0))},
		{"lengths of MaxSize", setGlyph(2, glyph('a', impl.MaxSize, impl.MaxSize, impl.MaxSize))},
		{"MaxPairs pairs of all codes", func(f *impl.Font) { *f = wideFont(impl.MaxPairs) }},
		{"a kern of MaxSize", setPair(3, kerns('b', 'c', impl.MaxSize))},
		{"a kern of -MaxSize", setPair(3, kerns('b', 'c', -impl.MaxSize))},
		{"a ligature of the Code 0", func(f *impl.Font) {
			f.Glyphs = append([]impl.Glyph{glyph(0, 1, 2, 3)}, f.Glyphs...)
			f.Pairs[2] = ligs('a', 'b', 0)
		}},
		{"a ligature that is its left side", setPair(2, ligs('a', 'b', 'a'))},
		{"a pair of one glyph and itself", setPair(2, ligs('a', 'a', 'd'))},
		{"a space of 0", setSpace(impl.Glue{})},
		{"the greatest space", setSpace(glue(impl.MaxLen, impl.MaxLen, 0, impl.MaxLen, 0))},
		{"a space that gives less than nothing", setSpace(glue(0, -impl.MaxLen, 0, -impl.MaxLen, 0))},
		{"Quad and Rise of 0", func(f *impl.Font) { f.Quad, f.Rise = 0, 0 }},
		{"Quad and Rise of MaxSize", func(f *impl.Font) { f.Quad, f.Rise = impl.MaxSize, impl.MaxSize }},
	}
}

// fontsThatCannot break one condition each.
func fontsThatCannot() []fontCase {
	cases := []fontCase{
		{"a name that is too long", func(f *impl.Font) { f.Name = strings.Repeat("n", impl.MaxName+1) }},
		{"the Code -1", func(f *impl.Font) { f.Glyphs = append([]impl.Glyph{glyph(-1, 1, 2, 3)}, f.Glyphs...) }},
		{"the Code 256", func(f *impl.Font) { f.Glyphs = append(f.Glyphs, glyph(256, 1, 2, 3)) }},
		{"glyphs out of order", func(f *impl.Font) { f.Glyphs[4], f.Glyphs[5] = f.Glyphs[5], f.Glyphs[4] }},
		{"the first glyphs out of order", func(f *impl.Font) { f.Glyphs[0], f.Glyphs[1] = f.Glyphs[1], f.Glyphs[0] }},
		{"a glyph twice", func(f *impl.Font) { f.Glyphs = append(f.Glyphs, f.Glyphs[5]) }},
		{"pairs out of order by Left", func(f *impl.Font) { f.Pairs[3], f.Pairs[4] = f.Pairs[4], f.Pairs[3] }},
		{"pairs out of order by Right", func(f *impl.Font) { f.Pairs = []impl.Pair{kerns('a', 'c', 1), kerns('a', 'b', 1)} }},
		{"a pair twice", func(f *impl.Font) { f.Pairs = append(f.Pairs, f.Pairs[4]) }},
		{"two pairs of the same two", func(f *impl.Font) { f.Pairs = append(f.Pairs, kerns('c', 'c', 1)) }},
		{"too many pairs", func(f *impl.Font) { *f = wideFont(impl.MaxPairs + 1) }},
		{"pairs without glyphs", func(f *impl.Font) { f.Glyphs = nil }},
		{"a Left of a code without a glyph", setPair(0, ligs(0, 'c', 2))},
		{"a Left of -1", setPair(0, ligs(-1, 'c', 2))},
		{"a Left of 256", func(f *impl.Font) { f.Pairs = append(f.Pairs, kerns(256, 'a', 1)) }},
		{"a Right of a code without a glyph", setPair(0, ligs(1, 'e', 2))},
		{"a Right of -1", setPair(0, ligs(1, -1, 2))},
		{"a Right of 256", setPair(0, kerns(1, 256, 2))},
		{"a Lig of a code without a glyph", setPair(0, ligs(1, 'c', 3))},
		{"a Lig of 0 without a glyph", setPair(0, ligs(1, 'c', 0))},
		{"a Lig of -2", setPair(0, ligs(1, 'c', -2))},
		{"a Lig of 256 and 1", setPair(0, ligs(1, 'c', 257))},
		{"a Kern beside a Lig", setPair(0, impl.Pair{Left: 1, Right: 'c', Lig: 2, Kern: 1})},
		{"a Kern below 0 beside a Lig", setPair(0, impl.Pair{Left: 1, Right: 'c', Lig: 2, Kern: -1})},
		{"a kern above MaxSize", setPair(3, kerns('b', 'c', impl.MaxSize+1))},
		{"a kern below -MaxSize", setPair(3, kerns('b', 'c', -impl.MaxSize-1))},
		{"a space below 0", setSpace(glue(-1, 15, 0, 10, 0))},
		{"a space of which the Plus has an order", setSpace(glue(30, 15, 1, 10, 0))},
		{"a space of which the Minus has an order", setSpace(glue(30, 15, 0, 10, 1))},
		{"a space of no order", setSpace(glue(30, 15, -1, 10, 0))},
		{"a space that is too great", setSpace(glue(impl.MaxLen+1, 15, 0, 10, 0))},
		{"a space that stretches too much", setSpace(glue(30, impl.MaxLen+1, 0, 10, 0))},
		{"a space that shrinks too much", setSpace(glue(30, 15, 0, -impl.MaxLen-1, 0))},
	}
	for _, x := range []int64{-1, impl.MaxSize + 1, math.MinInt64, math.MaxInt64} {
		number := strconv.FormatInt(x, 10)
		cases = append(cases,
			fontCase{"a Width of " + number, setGlyph(2, glyph('a', x, 1, 1))},
			fontCase{"a Height of " + number, setGlyph(2, glyph('a', 1, x, 1))},
			fontCase{"a Depth of " + number, setGlyph(5, glyph('d', 1, 1, x))},
			fontCase{"a Quad of " + number, func(f *impl.Font) { f.Quad = x }},
			fontCase{"a Rise of " + number, func(f *impl.Font) { f.Rise = x }},
		)
	}
	return cases
}

func TestFontsThatCanBe(t *testing.T) {
	for _, c := range fontsThatCan() {
		f := smallFont()
		c.change(&f)
		if !impl.FontOk(f) {
			t.Errorf("%s: refused", c.what)
		}
		for code := int64(-3); code < 260; code++ {
			want, found := glyphPlainly(f, code)
			if got, ok := impl.GlyphOf(f, code); ok != found || got != want {
				t.Errorf("%s: GlyphOf(%d) = %v, %v", c.what, code, got, ok)
			}
		}
		checkWord(t, f, []byte("abcabaabbccdcabcab"))
	}
}

func TestFontsThatCannotBe(t *testing.T) {
	for _, c := range fontsThatCannot() {
		f := smallFont()
		c.change(&f)
		if impl.FontOk(f) {
			t.Errorf("%s: taken", c.what)
		}
		for _, code := range []int64{-1, 0, 1, 'a', 'd', 255, 256} {
			if g, ok := impl.GlyphOf(f, code); ok || g != (impl.Glyph{}) {
				t.Errorf("%s: GlyphOf(%d) = %v, %v", c.what, code, g, ok)
			}
		}
		if got := impl.SetWord(f, []byte("abcd")); len(got) != 0 {
			t.Errorf("%s: SetWord = %v", c.what, got)
		}
		if got := impl.WordSize(f, []byte("abcd")); got != (impl.Size{}) {
			t.Errorf("%s: WordSize = %v", c.what, got)
		}
	}
}

func TestGlyphOfNoCode(t *testing.T) {
	for _, code := range []int64{-1, 0, 3, 'e', 256, 256 + 'a', math.MinInt64, math.MaxInt64} {
		if g, ok := impl.GlyphOf(smallFont(), code); ok || g != (impl.Glyph{}) {
			t.Errorf("GlyphOf(%d) = %v, %v", code, g, ok)
		}
	}
	if g, ok := impl.GlyphOf(smallFont(), 'c'); !ok || g != glyph('c', 40, 6, 3) {
		t.Error("GlyphOf(c) =", g, ok)
	}
}

// plainPairTexts are the pairs of each plain font, in order.
const plainPairTexts = "\x01i Aa Ae Ao Au LT LV Ly Ta Te To Tu Va Ve Vo Vu Wa We Wo Wu Ya Ye Yo Yu ff fi"

func plainPairsOf(u int64) []impl.Pair {
	var out []impl.Pair
	for _, s := range strings.Fields(plainPairTexts) {
		left, right := int64(s[0]), int64(s[1])
		switch s {
		case "ff":
			out = append(out, ligs(left, right, 1))
		case "fi":
			out = append(out, ligs(left, right, 2))
		case "\x01i":
			out = append(out, ligs(left, right, 3))
		default:
			out = append(out, kerns(left, right, int64(math.Floor(-float64(u)/2))))
		}
	}
	return out
}

func plainGlyphOf(c byte, n, u int64) impl.Glyph {
	wide := []int64{4, 5, 6, 7, 8, 9}
	g := glyph(int64(c), u*wide[(7*int64(c)+n)%6], 3*u, 0)
	if strings.Contains("abcdefghijklmnopqrstuvwxyzABCDEFGHIJKLMNOPQRSTUVWXYZ0123456789", string(rune(c))) {
		g.Height = u*4 + u*(int64(c)-int64(c)/4*4)
	}
	switch c {
	case 'g', 'j', 'p', 'q', 'y':
		g.Depth = u + u
	}
	return g
}

func plainFontOf(n int64) impl.Font {
	u := 52424 + 6553*n
	f := impl.Font{
		Name:  "plain" + strconv.Itoa(int(n)),
		Pairs: plainPairsOf(u),
		Space: glue(u+u+u, (u+u+u)/2, 0, u, 0),
		Quad:  10 * u,
		Rise:  4 * u,
	}
	f.Glyphs = append(f.Glyphs, plainGlyphOf(1, n, u), plainGlyphOf(2, n, u), plainGlyphOf(3, n, u))
	for c := byte('!'); c <= '~'; c++ {
		f.Glyphs = append(f.Glyphs, plainGlyphOf(c, n, u))
	}
	return f
}

func TestThePlainFonts(t *testing.T) {
	for n := range int64(16) {
		f, want := impl.PlainFont(n), plainFontOf(n)
		if !impl.FontOk(f) {
			t.Errorf("PlainFont(%d) can't be", n)
		}
		if f.Name != want.Name || f.Space != want.Space || f.Quad != want.Quad || f.Rise != want.Rise {
			t.Errorf("PlainFont(%d) = %s %v %d %d", n, f.Name, f.Space, f.Quad, f.Rise)
		}
		if !slices.Equal(f.Glyphs, want.Glyphs) {
			t.Errorf("PlainFont(%d): glyphs %v", n, f.Glyphs)
		}
		if !slices.Equal(f.Pairs, want.Pairs) {
			t.Errorf("PlainFont(%d): pairs %v", n, f.Pairs)
		}
	}
}

// The numbers here are reckoned by hand.
func TestPlainFontKnown(t *testing.T) {
	f := impl.PlainFont(1) // u is 58977, an odd number
	if f.Name != "plain1" || f.Space != glue(176931, 88465, 0, 58977, 0) || f.Quad != 589770 || f.Rise != 235908 {
		t.Error(f.Name, f.Space, f.Quad, f.Rise)
	}
	if p := f.Pairs[1]; p != (impl.Pair{Left: 'A', Right: 'a', Lig: -1, Kern: -29489}) {
		t.Error("A a:", p)
	}
	for _, want := range []impl.Glyph{
		glyph('g', 58977*6, 58977*7, 58977*2),
		glyph('0', 58977*5, 58977*4, 0),
		glyph('@', 58977*9, 58977*3, 0),
		glyph(3, 58977*8, 58977*3, 0),
	} {
		if g, ok := impl.GlyphOf(f, want.Code); !ok || g != want {
			t.Errorf("GlyphOf(%d) = %v, %v, not %v", want.Code, g, ok, want)
		}
	}
	if f = impl.PlainFont(15); f.Name != "plain15" || f.Quad != 1507190 || f.Pairs[5].Kern != -75360 {
		t.Error(f.Name, f.Quad, f.Pairs[5])
	}
	if f = impl.PlainFont(0); f.Name != "plain0" || f.Quad != 524240 || f.Pairs[5].Kern != -26212 {
		t.Error(f.Name, f.Quad, f.Pairs[5])
	}
}

func TestPlainFontOfNoNumber(t *testing.T) {
	for _, n := range []int64{-1, 16, 17, -16, 256, math.MinInt64, math.MaxInt64} {
		if f := impl.PlainFont(n); !same(f, impl.Font{}) {
			t.Errorf("PlainFont(%d) = %s", n, f.Name)
		}
	}
}

// fontIs says the conditions again, each for itself.
func fontIs(f impl.Font) bool {
	codes := map[int64]bool{}
	last := int64(-1)
	ok := len(f.Name) <= 40 && len(f.Pairs) <= 2000
	for _, g := range f.Glyphs {
		ok = ok && g.Code > last && g.Code < 256
		ok = ok && min(g.Width, g.Height, g.Depth) >= 0 && max(g.Width, g.Height, g.Depth) <= 6553600
		last, codes[g.Code] = g.Code, true
	}
	for i, p := range f.Pairs {
		ok = ok && codes[p.Left] && codes[p.Right] && (p.Lig == -1 || codes[p.Lig] && p.Kern == 0)
		ok = ok && p.Kern <= 6553600 && p.Kern >= -6553600
		ok = ok && (i == 0 || f.Pairs[i-1].Left*256+f.Pairs[i-1].Right < p.Left*256+p.Right)
	}
	s := f.Space
	ok = ok && s.Size >= 0 && s.PlusOrder == 0 && s.MinusOrder == 0 && max(s.Size, s.Plus, s.Minus) <= impl.MaxLen && min(s.Plus, s.Minus) >= -impl.MaxLen
	return ok && min(f.Quad, f.Rise) >= 0 && max(f.Quad, f.Rise) <= 6553600
}

// spoil changes one number of a font, or two places of a list.
func spoil(r *rand.Rand, f *impl.Font) {
	x := []int64{-2, -1, 0, 1, 97, 100, 255, 256, impl.MaxSize, impl.MaxSize + 1, -impl.MaxSize}[r.Intn(11)]
	switch g := r.Intn(7); {
	case g == 0:
		*[]*int64{&f.Quad, &f.Rise, &f.Space.Size, &f.Space.Plus, &f.Space.PlusOrder, &f.Space.MinusOrder}[r.Intn(6)] = x
	case g < 3 && len(f.Glyphs) > 0:
		g := &f.Glyphs[r.Intn(len(f.Glyphs))]
		*[]*int64{&g.Code, &g.Width, &g.Height, &g.Depth}[r.Intn(4)] = x
	case g < 5 && len(f.Pairs) > 0:
		p := &f.Pairs[r.Intn(len(f.Pairs))]
		*[]*int64{&p.Left, &p.Right, &p.Lig, &p.Kern}[r.Intn(4)] = x
	case g == 5 && len(f.Glyphs) > 0:
		f.Glyphs[0], f.Glyphs[r.Intn(len(f.Glyphs))] = f.Glyphs[r.Intn(len(f.Glyphs))], f.Glyphs[0]
	case len(f.Pairs) > 0:
		f.Pairs[r.Intn(len(f.Pairs))] = f.Pairs[0]
	}
}

func TestFontOkAtRandom(t *testing.T) {
	r := rand.New(rand.NewSource(61))
	can := 0
	for range 4000 {
		f := randomFont(r)
		for range r.Intn(3) {
			spoil(r, &f)
		}
		want := fontIs(f)
		if got := impl.FontOk(f); got != want {
			t.Fatalf("FontOk(%+v) = %v", f, got)
		}
		if want {
			can++
			checkWord(t, f, randomWord(r, 30))
		} else if len(impl.SetWord(f, []byte("abc"))) != 0 {
			t.Fatalf("SetWord of a font that can't be: %+v", f)
		}
	}
	if can < 400 || can > 3600 {
		t.Error("too much of one kind:", can)
	}
}
