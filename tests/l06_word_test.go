package tests

import (
	"bytes"
	"math/rand"
	"slices"
	"strings"
	"testing"

	"loop.example/g00014/impl"
)

// wordCase is a word of the small font, what it becomes, and how large that is.
type wordCase struct {
	word string
	want []impl.Piece
	size impl.Size
}

func sized(width, height, depth int64) impl.Size {
	return impl.Size{Width: width, Height: height, Depth: depth}
}

func TestWordsOfTheSmallFont(t *testing.T) {
	for _, c := range []wordCase{
		{"", nil, sized(0, 0, 0)},
		{"a", showsAll("a"), sized(10, 5, 0)},
		{"ba", showsAll("ba"), sized(30, 7, 2)},
		{"ab", showsAll("\x01"), sized(70, 9, 1)},
		{"dabd", showsAll("d\x01d"), sized(230, 9, 1)},
		{"abab", showsAll("\x01\x01"), sized(140, 9, 1)},
		{"aab", showsAll("a\x01"), sized(80, 9, 1)},
		{"abb", showsAll("\x01b"), sized(90, 9, 2)},
		{"abc", showsAll("\x02"), sized(90, 8, 0)},
		{"\x01c", showsAll("\x02"), sized(90, 8, 0)},
		{"abcc", showsAll("\x02c"), sized(130, 8, 3)},
		{"abca", laid(shows(2), moves(6), shows('a')), sized(106, 8, 0)},
		{"\x02ab", laid(shows(2), moves(6), shows(1)), sized(166, 9, 1)},
		{"bc", laid(shows('b'), moves(-3), shows('c')), sized(57, 7, 3)},
		{"bcbc", laid(shows('b'), moves(-3), shows('c'), shows('b'), moves(-3), shows('c')), sized(114, 7, 3)},
		{"cc", showsAll("cc"), sized(80, 6, 3)},
		{"ccc", showsAll("ccc"), sized(120, 6, 3)},
		{"a b", showsAll("\x01"), sized(70, 9, 1)},
		{" b\x00\xff\x80c ", laid(shows('b'), moves(-3), shows('c')), sized(57, 7, 3)},
		{"  ", nil, sized(0, 0, 0)},
		{"xyz", nil, sized(0, 0, 0)},
		{"xdx", showsAll("d"), sized(80, 1, 1)},
	} {
		got, size := impl.SetWord(smallFont(), []byte(c.word)), impl.WordSize(smallFont(), []byte(c.word))
		if !same(got, c.want) || size != c.size {
			t.Errorf("%q becomes %v of %v, not %v of %v", c.word, got, size, c.want, c.size)
		}
	}
}

func TestWordsOfAPlainFont(t *testing.T) {
	const u = 65530
	near := moves(-u / 2)
	for _, c := range []wordCase{
		{"ff", showsAll("\x01"), sized(u*7, u*3, 0)},
		{"fi", showsAll("\x02"), sized(u*8, u*3, 0)},
		{"ffi", showsAll("\x03"), sized(u*9, u*3, 0)},
		{"fff", showsAll("\x01f"), sized(u*13, u*6, 0)},
		{"fffi", showsAll("\x01\x02"), sized(u*15, u*3, 0)},
		{"To", laid(shows('T'), near, shows('o')), sized(u*6+u*9-u/2, u*7, 0)},
		{"LTa", laid(shows('L'), near, shows('T'), near, shows('a')), sized(u*4+u*6+u*7-u, u*5, 0)},
		{"Ly", laid(shows('L'), near, shows('y')), sized(u*4+u*7-u/2, u*5, u*2)},
		{"oT", showsAll("oT"), sized(u*15, u*7, 0)},
		{"f f i", showsAll("\x03"), sized(u*9, u*3, 0)},
	} {
		got, size := impl.SetWord(impl.PlainFont(2), []byte(c.word)), impl.WordSize(impl.PlainFont(2), []byte(c.word))
		if !same(got, c.want) || size != c.size {
			t.Errorf("%q becomes %v of %v, not %v of %v", c.word, got, size, c.want, c.size)
		}
	}
}

func TestEachTwoGlyphsOfAPlainFont(t *testing.T) {
	for _, n := range []int64{0, 7, 15} {
		f := impl.PlainFont(n)
		for _, left := range f.Glyphs {
			for _, right := range f.Glyphs {
				checkWord(t, f, []byte{byte(left.Code), byte(right.Code)})
			}
		}
	}
}

func TestEveryPlainFontSetsWords(t *testing.T) {
	for n := range int64(16) {
		for _, word := range []string{"office", "Toffee", "AVATAR", "LVLTLy", "waffling, fjord; (1234)", "Wolf-Yeti", "\x01i\x02\x03"} {
			checkWord(t, impl.PlainFont(n), []byte(word))
		}
	}
}

// A font in which all that comes is swallowed by what stands there, and one in which the width is below 0.
func TestWordsThatShrink(t *testing.T) {
	f := smallFont()
	f.Pairs = []impl.Pair{ligs('a', 'a', 'a'), kerns('b', 'b', -impl.MaxSize)}
	if got := checkWord(t, f, bytes.Repeat([]byte("a"), impl.MaxWord)); len(got) != 1 {
		t.Error("the ligatures leave", got)
	}
	checkWord(t, f, bytes.Repeat([]byte("b"), impl.MaxWord))
	want := int64(impl.MaxWord*20 - (impl.MaxWord-1)*impl.MaxSize)
	if got := impl.WordSize(f, bytes.Repeat([]byte("b"), impl.MaxWord)); got != sized(want, 7, 2) {
		t.Error("a width below 0:", got)
	}
}

func TestTheLongestWord(t *testing.T) {
	f := smallFont()
	f.Glyphs[5] = glyph('d', impl.MaxSize, impl.MaxSize, impl.MaxSize)
	longest := bytes.Repeat([]byte("d"), impl.MaxWord)
	if got := impl.SetWord(f, longest); !same(got, showsAll(string(longest))) {
		t.Error("of MaxWord bytes:", len(got))
	}
	if got := impl.WordSize(f, longest); got != sized(impl.MaxWord*impl.MaxSize, impl.MaxSize, impl.MaxSize) {
		t.Error("of MaxWord bytes:", got)
	}
	// Bytes without a glyph count, too.
	for _, more := range []string{"d", " "} {
		word := append(bytes.Clone(longest), more...)
		if got := impl.SetWord(f, word); len(got) != 0 {
			t.Errorf("of one more, %q: %d pieces", more, len(got))
		}
		if got := impl.WordSize(f, word); got != (impl.Size{}) {
			t.Errorf("of one more, %q: %v", more, got)
		}
	}
	blanks := bytes.Repeat([]byte(" "), impl.MaxWord-2)
	if got := impl.SetWord(f, slices.Concat([]byte("a"), blanks, []byte("b"))); !same(got, showsAll("\x01")) {
		t.Error("over as many bytes as can be:", got)
	}
}

func TestWordsAtRandom(t *testing.T) {
	r := rand.New(rand.NewSource(62))
	for range 3000 {
		checkWord(t, randomFont(r), randomWord(r, 40))
	}
}

// apartFrom: does no pair stand between the end of what a becomes and the beginning of b? (A pair with neither a ligature nor a kern does nothing.)
func apartFrom(f impl.Font, a []impl.Piece, b []byte) bool {
	b = bytes.Map(func(c rune) rune {
		if _, ok := glyphPlainly(f, int64(c)); ok {
			return c
		}
		return -1
	}, b)
	if len(a) == 0 || len(b) == 0 {
		return true
	}
	p := pairPlainly(f, a[len(a)-1].Code, int64(b[0]))
	return p.Lig == -1 && p.Kern == 0
}

func TestWhatNoPairTouchesIsTheSumOfItsParts(t *testing.T) {
	r := rand.New(rand.NewSource(63))
	apart := 0
	for range 4000 {
		f, a, b := randomFont(r), randomWord(r, 12), randomWord(r, 12)
		first := impl.SetWord(f, a)
		if !apartFrom(f, first, b) {
			continue
		}
		apart++
		whole := slices.Concat(a, b)
		if got, want := impl.SetWord(f, whole), slices.Concat(first, impl.SetWord(f, b)); !slices.Equal(got, want) {
			t.Fatalf("%+v: %q and %q become %v, not %v", f, a, b, got, want)
		}
		x, y, size := impl.WordSize(f, a), impl.WordSize(f, b), impl.WordSize(f, whole)
		if size != sized(x.Width+y.Width, max(x.Height, y.Height), max(x.Depth, y.Depth)) {
			t.Fatalf("%+v: %q and %q: %v of %v and %v", f, a, b, size, x, y)
		}
	}
	if apart < 1000 {
		t.Error("too few without a pair:", apart)
	}
}

// What comes later changes nothing but the last glyph, which may join.
func TestWordsAreSetFromLeftToRight(t *testing.T) {
	r := rand.New(rand.NewSource(64))
	for range 2000 {
		f, word := randomFont(r), randomWord(r, 20)
		all := impl.SetWord(f, word)
		for k := range word {
			begun := impl.SetWord(f, word[:k])
			settled := begun[:max(0, len(begun)-1)]
			if len(all) < len(settled) || !slices.Equal(all[:len(settled)], settled) {
				t.Fatalf("%+v: %q begins as %v, but becomes %v", f, word, begun, all)
			}
		}
	}
}

func TestFontAnswersAreNewMemoryAndArgumentsStay(t *testing.T) {
	r := rand.New(rand.NewSource(65))
	fonts := []impl.Font{impl.PlainFont(3), smallFont(), {}, wideFont(impl.MaxPairs + 1)}
	for range 50 {
		fonts = append(fonts, randomFont(r))
	}
	for _, given := range fonts {
		f, word := roomy(given), roomy(randomWord(r, 40))
		before := told(f) + told(word)
		impl.FontOk(f)
		impl.GlyphOf(f, 'a')
		impl.WordSize(f, word)
		got := impl.SetWord(f, word)
		checkNewMemory(t, got, f, word)
		checkNewMemory(t, got, impl.SetWord(f, word))
		if told(f)+told(word) != before {
			t.Fatalf("%s and %q were changed", f.Name, word)
		}
	}
	for n := int64(-1); n < 17; n++ {
		a, b := impl.PlainFont(n), impl.PlainFont(n)
		checkNewMemory(t, a, b)
		for i := range a.Pairs {
			a.Pairs[i] = impl.Pair{}
		}
		if again := impl.PlainFont(n); !same(again, b) {
			t.Fatalf("PlainFont(%d) has changed", n)
		}
	}
}

func TestFontsOfAnyNumbers(t *testing.T) {
	r := rand.New(rand.NewSource(66))
	for range 3000 {
		f := impl.Font{Name: strings.Repeat("n", r.Intn(50)), Space: glue(anyNumber(r), anyNumber(r), anyNumber(r), anyNumber(r), anyNumber(r)), Quad: anyNumber(r), Rise: anyNumber(r)}
		for range r.Intn(4) {
			f.Glyphs = append(f.Glyphs, glyph(anyNumber(r), anyNumber(r), anyNumber(r), anyNumber(r)))
			f.Pairs = append(f.Pairs, impl.Pair{Left: anyNumber(r), Right: anyNumber(r), Lig: anyNumber(r), Kern: anyNumber(r)})
		}
		ok := impl.FontOk(f)
		if len(f.Pairs) > 0 && ok != fontIs(f) {
			t.Fatalf("FontOk(%+v) = %v", f, ok)
		}
		g, found := impl.GlyphOf(f, anyNumber(r))
		if found && !ok || !found && g != (impl.Glyph{}) {
			t.Fatalf("GlyphOf(%+v) = %v, %v", f, g, found)
		}
		if !ok && (len(impl.SetWord(f, []byte("ab"))) != 0 || impl.WordSize(f, []byte("ab")) != (impl.Size{})) {
			t.Fatalf("words of %+v", f)
		}
	}
}
