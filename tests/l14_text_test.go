package tests

import (
	"math"
	"math/rand"
	"slices"
	"strings"
	"testing"

	"loop.example/g00014/impl"
)

// What a line of text has beside glyphs.
const (
	theKern  = -1
	theSpace = -2
)

// setLine is a line of these glyphs, kerns and spaces.
func setLine(font int64, codes ...int64) nodes {
	u := 6553 * (8 + font)
	var out nodes
	for _, code := range codes {
		switch code {
		case theKern:
			out = append(out, kernNode(-(u+1)/2)...)
		case theSpace:
			out = append(out, glueNode(glue(3*u, 3*u/2, 0, u, 0))...)
		default:
			out = append(out, shownGlyph(font, code)...)
		}
	}
	return out
}

type textCase struct {
	text string
	want []int64
}

func textCases() []textCase {
	return []textCase{
		{"", nil},
		{" ", nil},
		{"     ", nil},
		{"a", []int64{'a'}},
		{"word", []int64{'w', 'o', 'r', 'd'}},
		{"a b", []int64{'a', theSpace, 'b'}},
		{"a  b", []int64{'a', theSpace, 'b'}},
		{"a      b", []int64{'a', theSpace, 'b'}},
		{"x y   z", []int64{'x', theSpace, 'y', theSpace, 'z'}},
		{" a", []int64{'a'}},
		{"a ", []int64{'a'}},
		{"   a  b    ", []int64{'a', theSpace, 'b'}},
		// Ligatures and kerns: within a word alone.
		{"off", []int64{'o', 1}},
		{"fi", []int64{2}},
		{"office", []int64{'o', 3, 'c', 'e'}},
		{"fff", []int64{1, 'f'}},
		{"\x01i", []int64{3}},
		{"\x02\x03", []int64{2, 3}},
		{"f i", []int64{'f', theSpace, 'i'}},
		{"ff i", []int64{1, theSpace, 'i'}},
		{"To", []int64{'T', theKern, 'o'}},
		{"T o", []int64{'T', theSpace, 'o'}},
		{"AVa", []int64{'A', 'V', theKern, 'a'}},
		{"LyLT To", []int64{'L', theKern, 'y', 'L', theKern, 'T', theSpace, 'T', theKern, 'o'}},
		// Bytes without a glyph are passed over, but what is no blank parts no words.
		{"\x80", nil},
		{"a\x80b", []int64{'a', 'b'}},
		{"\xff\x00a\x7f", []int64{'a'}},
		{"f\x80i", []int64{2}},
		{"T\to", []int64{'T', theKern, 'o'}},
		{"a\nb", []int64{'a', 'b'}},
		{"a\tb", []int64{'a', 'b'}},
		{"a\r\n\v\fb", []int64{'a', 'b'}},
		{"a\u00a0b", []int64{'a', 'b'}}, // bytes 194 and 160, no blank
		{"a\u2003b\u0085c", []int64{'a', 'b', 'c'}},
		{"\xc2 \xa0 caf\xc3\xa9", []int64{theSpace, theSpace, 'c', 'a', 'f'}},
		// A word of such bytes alone is a word, which has no glyphs.
		{"a \x80 b", []int64{'a', theSpace, theSpace, 'b'}},
		{"\x80 a", []int64{theSpace, 'a'}},
		{"a \x80", []int64{'a', theSpace}},
		{"\x80  \t", []int64{theSpace}},
		{" \x80 ", nil},
	}
}

func TestTextLinesKnown(t *testing.T) {
	for _, c := range textCases() {
		for font := range int64(16) {
			if got := checkText(t, c.text, font); !same(got, setLine(font, c.want...)) {
				t.Errorf("TextLine(%q, %d) = %+v", c.text, font, got)
			}
		}
	}
}

// The numbers here are reckoned by hand.
func TestATextLineByItsNumbers(t *testing.T) {
	want := listed(
		nodes{{Kind: impl.NodeChar, Font: 2, Char: 'T', Width: 393180, Height: 262120}},
		kernNode(-32765),
		nodes{{Kind: impl.NodeChar, Font: 2, Char: 'o', Width: 589770, Height: 458710}},
		glueNode(glue(196590, 98295, 0, 65530, 0)),
		nodes{{Kind: impl.NodeChar, Font: 2, Char: 'y', Width: 458710, Height: 327650, Depth: 131060}},
	)
	if got := impl.TextLine("  To   y ", 2); !same(got, want) {
		t.Errorf("%+v", got)
	}
}

func TestFontsOfATextLine(t *testing.T) {
	for font, want := range map[int64]int{0: 3, 1: 3, 14: 3, 15: 3, 16: 0, 17: 0, -1: 0, -16: 0, 256: 0, 1 << 32: 0, math.MinInt64: 0, math.MaxInt64: 0} {
		if got := checkText(t, "a b", font); len(got) != want {
			t.Errorf("font %d: %+v", font, got)
		}
	}
}

func TestTheLongestTexts(t *testing.T) {
	t.Parallel()
	for _, c := range []struct {
		what, text, more string
		want             int
	}{
		{"one word", strings.Repeat("a", impl.MaxWord), "a", 1000},
		{"one word and a blank", strings.Repeat("a", 1000), " ", 1000},
		{"a blank and one word", " " + strings.Repeat("a", 999), "a", 999},
		{"words", strings.Repeat("a ", 500), "a", 999},
		{"words and a blank", strings.Repeat("a ", 500), " ", 999},
		{"blanks", strings.Repeat(" ", 999) + "a", " ", 1},
		{"blanks alone", strings.Repeat(" ", 1000), " ", 0},
		{"ligatures", strings.Repeat("fi", 500), "f", 500},
		{"kerns", strings.Repeat("To", 500), "T", 1500},
		{"bytes without a glyph", strings.Repeat("\x80", 999) + "a", "a", 1},
	} {
		if len(c.text) != impl.MaxNoteText {
			t.Fatal(c.what, len(c.text))
		}
		for _, font := range []int64{0, 15} {
			if got := checkText(t, c.text, font); len(got) != c.want || !impl.ListOk(got) {
				t.Errorf("%s: %d nodes, not %d", c.what, len(got), c.want)
			}
			if got := checkText(t, c.text+c.more, font); len(got) > 0 {
				t.Errorf("%s and one byte more: %d nodes", c.what, len(got))
			}
		}
	}
	for _, many := range []int{1001, 1002, 2000, 70000} {
		if len(impl.TextLine(strings.Repeat("b", many), 3))+len(impl.TextLine(strings.Repeat("b ", many), 3)) > 0 {
			t.Error(many)
		}
	}
}

func TestHeadsKnown(t *testing.T) {
	const u = 52424 // a tenth of font 0
	a, b := setLine(0, 'a'), setLine(0, 'b')
	space := glue(3*u, 3*u/2, 0, u, 0)
	for _, c := range []struct {
		what, first, last string
		width             int64
		want              nodes
	}{
		{"both", "a", "b", 100 * u, hboxNode(100*u, 6*u, 0, 0, a, fil(89*u), b)},
		{"both, with a depth", "y", "q", 100 * u, hboxNode(100*u, 5*u, 2*u, 0, setLine(0, 'y'), fil(86*u), setLine(0, 'q'))},
		{"first alone", "a", "", 100 * u, hboxNode(100*u, 5*u, 0, 0, a, fil(95*u))},
		{"last alone", "", "b", 100 * u, hboxNode(100*u, 6*u, 0, 0, fil(94*u), b)},
		{"last of blanks", "a", "   ", 100 * u, hboxNode(100*u, 5*u, 0, 0, a, fil(95*u))},
		{"none", "", "", 100 * u, hboxNode(100*u, 0, 0, 0, fil(100*u))},
		{"none, and no width", "", "", 0, hboxNode(0, 0, 0, 0, fil(0))},
		{"none, and a width below 0", "", "", -5, hboxNode(-5, 0, 0, 0, fil(0))},
		{"just the width of both", "a", "b", 11 * u, hboxNode(11*u, 6*u, 0, 0, a, fil(0), b)},
		{"one more", "a", "b", 11*u + 1, hboxNode(11*u+1, 6*u, 0, 0, a, fil(1), b)},
		{"one less", "a", "b", 11*u - 1, hboxNode(11*u-1, 6*u, 0, 0, a, fil(0), b)},
		{"no width", "a", "b", 0, hboxNode(0, 6*u, 0, 0, a, fil(0), b)},
		{"a width below 0", "a", "b", -7 * u, hboxNode(-7*u, 6*u, 0, 0, a, fil(0), b)},
		// Words stay as far from each other as they are by themselves, as long as there is room.
		{"words", "a b", "b", 40 * u, hboxNode(40*u, 6*u, 0, 0, a, setGlueNode(space, 3*u), b, fil(20*u), b)},
		{"words nearer to each other", "a b", "b", 20*u - 9, hboxNode(20*u-9, 6*u, 0, 0, a, setGlueNode(space, 3*u-9), b, fil(0), b)},
		{"words as near as can be", "a b", "b", u, hboxNode(u, 6*u, 0, 0, a, setGlueNode(space, 2*u), b, fil(0), b)},
		{"words of both nearer", "a b", "b a", 28*u - 3, hboxNode(28*u-3, 6*u, 0, 0, a, setGlueNode(space, 3*u-2), b, fil(0), b, setGlueNode(space, 3*u-1), a)},
		{"a ligature and a kern", "fi", "To", 100 * u, hboxNode(100*u, 7*u, 0, 0, setLine(0, 2), fil(84*u-u/2), setLine(0, 'T', theKern, 'o'))},
	} {
		if got := checkHead(t, c.first, c.last, c.width); !same(got, c.want) {
			t.Errorf("%s: %+v, not %+v", c.what, got, c.want)
		}
	}
}

// A head has no room for a text that is too long; the other one stands.
func TestHeadsOfLongTexts(t *testing.T) {
	long := strings.Repeat("fi To ", 167)
	for _, c := range []struct{ first, last, sameFirst, sameLast string }{
		{long, "b", "", "b"},
		{"a", long, "a", ""},
		{long, long, "", ""},
		{"a", strings.Repeat("x", 1001), "a", ""},
	} {
		got := checkHead(t, c.first, c.last, 900*impl.Point)
		if len(got) == 0 || !same(got, impl.HeadOf(c.sameFirst, c.sameLast, 900*impl.Point)) {
			t.Errorf("%.9q and %.9q: %+v", c.first, c.last, short(got))
		}
	}
	most := strings.Repeat("m", 1000)
	for _, width := range []int64{-maxLen, 0, maxLen} {
		if got := checkHead(t, most, most, width); len(got) != 2002 || got[0].Width != width || !impl.ListOk(got) {
			t.Error("two of the longest:", len(got))
		}
	}
}

// edgeWidths are widths at the ends of their type and of what fits, and whether they fit.
func edgeWidths() map[int64]bool {
	return map[int64]bool{
		0: true, 1: true, -1: true, maxLen: true, maxLen - 1: true, -maxLen: true, 1 - maxLen: true,
		maxLen + 1: false, -maxLen - 1: false, 1 << 32: false, -1 << 32: false, math.MaxInt64: false, math.MinInt64: false, math.MinInt64 + 1: false,
	}
}

func TestWidthsOfHeadsAndFeet(t *testing.T) {
	for width, can := range edgeWidths() {
		for _, texts := range [][2]string{{"", ""}, {"a", ""}, {"", "b"}, {"a word", "To fi"}} {
			got := checkHead(t, texts[0], texts[1], width)
			if can != (len(got) > 0) || can && (got[0].Width != width || got[0].Kind != impl.NodeHbox || !impl.ListOk(got)) {
				t.Errorf("HeadOf %q and %q at %d: %+v", texts[0], texts[1], width, got)
			}
		}
		for _, n := range []int64{0, 7, 1234567, math.MaxInt64} {
			got := checkFoot(t, n, width)
			if can != (len(got) > 0) || can && (got[0].Width != width || got[0].Kind != impl.NodeHbox || !impl.ListOk(got)) {
				t.Errorf("FootOf %d at %d: %+v", n, width, got)
			}
		}
	}
}

func TestFeetKnown(t *testing.T) {
	const u = 52424
	for _, c := range []struct {
		what     string
		n, width int64
		want     nodes
	}{
		{"0", 0, 20 * u, hboxNode(20*u, 4*u, 0, 0, fil(8*u), setLine(0, '0'), fil(8*u))},
		{"one digit", 7, 25 * u, hboxNode(25*u, 7*u, 0, 0, fil(10*u), setLine(0, '7'), fil(10*u))},
		{"two digits", 10, 20*u + 2, hboxNode(20*u+2, 5*u, 0, 0, fil(11*u/2+1), setLine(0, '1', '0'), fil(11*u/2+1))},
		{"several digits", 2026, 48 * u, hboxNode(48*u, 6*u, 0, 0, fil(14*u), setLine(0, '2', '0', '2', '6'), fil(14*u))},
		{"an odd rest", 7, 25*u + 1, hboxNode(25*u+1, 7*u, 0, 0, fil(10*u+1), setLine(0, '7'), fil(10*u))},
		{"no room", 7, 3, hboxNode(3, 7*u, 0, 0, fil(0), setLine(0, '7'), fil(0))},
		{"no width", 0, 0, hboxNode(0, 4*u, 0, 0, fil(0), setLine(0, '0'), fil(0))},
		{"a width below 0", 0, -u, hboxNode(-u, 4*u, 0, 0, fil(0), setLine(0, '0'), fil(0))},
	} {
		if got := checkFoot(t, c.n, c.width); !same(got, c.want) {
			t.Errorf("%s: %+v, not %+v", c.what, got, c.want)
		}
	}
}

func TestNumbersOfFeet(t *testing.T) {
	for n, want := range map[int64]string{
		0: "0", 1: "1", 9: "9", 10: "10", 99: "99", 100: "100", 65536: "65536", 1000000: "1000000", math.MaxInt64: "9223372036854775807", math.MaxInt64 - 1: "9223372036854775806",
		-1: "", -2: "", -10: "", math.MinInt64: "", math.MinInt64 + 1: "",
	} {
		got := checkFoot(t, n, 300*impl.Point)
		if lettersIn(got) != want || want == "" && len(got) > 0 {
			t.Errorf("FootOf(%d): %q", n, lettersIn(got))
		}
	}
}

// A text is its words with spaces between them, and no blank more or less ahead, behind or between changes it.
func TestTextsAreTheirWords(t *testing.T) {
	t.Parallel()
	r := rand.New(rand.NewSource(170))
	for range 3000 {
		font := r.Int63n(16)
		blanks := func(least int) string { return strings.Repeat(" ", least+r.Intn(3)) }
		var want nodes
		text := blanks(0)
		for i := range r.Intn(7) {
			word := randomText(r, 8, "aabcffiTVoyL.1\x80\t") + "e"
			if i > 0 {
				text += blanks(1)
				want = append(want, setLine(font, theSpace)...)
			}
			text += word
			want = append(want, impl.TextLine(word, font)...)
		}
		text += blanks(0)
		if got := checkText(t, text, font); !same(got, want) {
			t.Fatalf("TextLine(%q, %d) = %+v", text, font, got)
		}
	}
}

// The glyphs and kerns of a text are as wide as its words are.
func TestTextsAreAsWideAsTheirWords(t *testing.T) {
	t.Parallel()
	r := rand.New(rand.NewSource(171))
	for range 2000 {
		text, font := randomTitle(r), r.Int63n(16)
		f := impl.PlainFont(font)
		want := impl.Size{}
		words := slices.DeleteFunc(strings.Split(text, " "), func(w string) bool { return w == "" })
		for i, word := range words {
			s := impl.WordSize(f, []byte(word))
			want = impl.Size{Width: want.Width + s.Width, Height: max(want.Height, s.Height), Depth: max(want.Depth, s.Depth)}
			if i > 0 {
				want.Width += f.Space.Size
			}
		}
		if got := impl.Natural(checkText(t, text, font), true); got != want {
			t.Fatalf("%q in font %d is %+v large, not %+v", text, font, got, want)
		}
	}
}

func TestHeadsAndFeetAtRandom(t *testing.T) {
	t.Parallel()
	r := rand.New(rand.NewSource(172))
	width := func() int64 {
		switch r.Intn(4) {
		case 0:
			return corners[r.Intn(len(corners))]
		case 1:
			return anyNumber(r)
		}
		return r.Int63n(200*impl.Point) - 5*impl.Point
	}
	tight, none := 0, 0
	for range 6000 {
		first, last, w := randomTitle(r), randomTitle(r), width()
		got := checkHead(t, first, last, w)
		if len(got) == 0 {
			none++
		} else if impl.Natural(got[1:], true).Width > w {
			tight++
		}
		checkFoot(t, anyNumber(r), w)
		checkFoot(t, r.Int63n(2000), width())
		checkText(t, first, anyNumber(r))
	}
	if tight < 500 || none < 500 {
		t.Error("too few:", tight, none)
	}
}
