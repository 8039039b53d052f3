package tests

import (
	"fmt"
	"math"
	"slices"
	"strings"
	"testing"

	"loop.example/g00014/impl"
)

func TestSessionsKnown(t *testing.T) {
	if impl.Margin != margin {
		t.Error(impl.Margin)
	}
	for _, c := range []struct {
		source string
		count  int64
		words  string
		lines  int64
		notes  []string
	}{
		{"", 0, "", 0, nil},
		{" \n\n ", 0, "", 0, nil},
		{"% a note", 0, "", 0, nil},
		{"\\shipout", 0, "", 0, nil},
		{"\\nono", 0, "", 0, []string{"no meaning: \\nono "}},
		{"a", 1, "a 1", 2, nil},
		{"~", 1, "1", 1, nil},
		{"\\label{k}", 1, "1", 1, nil},
		{"a b", 1, "a b 1", 2, nil},
		{"a\n\nb", 1, "a b 1", 3, nil},
		{"a~b", 1, "a b 1", 2, nil},
		{"a\\shipout b", 2, "a 1 b 2", 4, nil},
		{"a\\shipout\\shipout b\\shipout", 2, "a 1 b 2", 4, nil},
		{"a\\message{hi}", 1, "a 1", 2, []string{"say: hi"}},
		{"a$^$", 1, "a 1", 2, []string{"bad formula"}},
		{"office Toffee ff fi ffi fif", 1, "office Toffee ff fi ffi fif 1", 2, nil},
		{"\\section{One}see \\ref{k}.\\shipout next\\label{k} $a=b$ end", 2, "One One One see 2. 1 One One next a = b end 2", 7, nil},
		{"a\\foot{b}c", 1, "ac b 1", 3, nil},
		{"\\item{1}one\\item{2}two", 1, "1 one 2 two 1", 3, nil},
		{"\\entry{k}{7}", 1, "k 7 1", 2, nil},
		{"\\contents\\shipout a\\label{k}", 2, "k 2 1 a 2", 4, nil},
		{"\\table 2{a&b\\row c&d}", 1, "a b c d 1", 3, nil},
		{"a\\end b", 1, "a 1", 2, nil},
	} {
		s := checkSession(t, c.source)
		if s.Code != impl.DigOk || !s.Stable || s.Count != c.count || strings.Join(s.words, " ") != c.words || s.lines != c.lines || !slices.Equal(s.Notes, c.notes) {
			t.Errorf("%q: code %d, %v, %d pages, %q, %d lines, %q", c.source, s.Code, s.Stable, s.Count, s.words, s.lines, s.Notes)
		}
		if len(s.Desc) == 0 {
			t.Errorf("%q: no description", c.source)
		}
	}
}

// The sheet's left edge and its top are at the margin. The head is empty, and so has no height; then come a gap, the page of 300 points, another gap, and the foot.
func TestWhereThingsOfASessionStand(t *testing.T) {
	s := checkSession(t, "a\\rule 2pt 3pt 1pt\\shipout b")
	a, _ := impl.GlyphOf(impl.PlainFont(2), 'a')
	one, _ := impl.GlyphOf(impl.PlainFont(0), '1')
	top := int64(margin + impl.SheetGap)
	want := spots{
		{X: margin, Y: top + a.Height, Font: 2, Char: 'a', Width: a.Width, Height: a.Height},
		{X: margin + a.Width, Y: top + a.Height + point, Char: -1, Width: 2 * point, Height: 4 * point},
		{X: margin + (200*point-one.Width)/2, Y: top + 301*point + impl.SheetGap + one.Height, Char: '1', Width: one.Width, Height: one.Height},
	}
	if !same(s.pages[0], want) || len(s.pages) != 2 || s.pages[1][0].X != margin {
		t.Errorf("%+v, not %+v", s.pages, want)
	}
}

func TestSessionsWithACode(t *testing.T) {
	for _, c := range []struct {
		source string
		code   int64
		runs   int64
		notes  []string
	}{
		{"\\kern", impl.DigEnd, 1, nil},
		{"a\\message{m}\\label{k}\\kern", impl.DigEnd, 1, []string{"say: m"}},
		{"a\\kern x", impl.DigExp + impl.ExpNumber, 1, nil},
		{strings.Repeat("a", impl.MaxText+1), impl.DigArgs, 1, nil},
		{strings.Repeat("a", 20000), impl.DigFull, 1, nil},
		{"\\def\\x{\\x}\\x", impl.DigBudget, 1, nil},
		{"a\\label{k}\\count 3=0\\ref{k} \\ifodd\\count 3 \\font 99 \\fi", impl.DigRange, 2, nil},
	} {
		s := checkSession(t, c.source)
		if !same(s.Result, impl.Result{Code: c.code, Runs: c.runs, Notes: c.notes}) || len(s.words) > 0 || s.lines != 0 {
			t.Errorf("%.40q: %+v, %q, %d", c.source, s.Result, s.words, s.lines)
		}
		for page := range int64(3) {
			if got := checkPreview(t, c.source, page, point, 5, 5); len(got) > 0 {
				t.Errorf("%.40q: a picture of page %d", c.source, page)
			}
		}
	}
	// Text of which all names were used up is refused as a job is.
	var many strings.Builder
	for i := range 440 {
		fmt.Fprintf(&many, "\\label{%d}", i)
	}
	if s := checkSession(t, "a"+many.String()); !same(s.Result, impl.Result{Code: impl.DigArgs}) {
		t.Errorf("%+v", s.Result)
	}
}

func TestASessionThatNeverComesToRest(t *testing.T) {
	s := checkSession(t, restless)
	if s.Code != impl.DigOk || s.Stable || s.Runs != impl.MaxRuns || s.Count != 1 || strings.Join(s.words, " ") != "b 1" || len(s.Desc) == 0 {
		t.Errorf("%+v, %q", s.Result, s.words)
	}
}

// wordsOf are those of a source, but the page number.
func wordsOf(t *testing.T, source string) string {
	t.Helper()
	words := checkSession(t, source).words
	return strings.Join(words[:len(words)-1], " ")
}

func TestWhereWordsArePartedInOrder(t *testing.T) {
	for source, want := range map[string]string{
		// A rule parts, also one that is no wider than what comes back over it; one that is not seen does not.
		"a\\rule 1pt 1pt 0pt b":                   "a b",
		"a\\rule 1sp 1sp 0sp b":                   "a b",
		"a\\rule 1pt 1pt 0pt\\kern-1pt b":         "a b",
		"a\\rule 0pt 9pt 0pt b":                   "ab",
		"a\\rule 9pt 0pt 0pt\\kern-9pt b":         "ab",
		"\\rule 1pt 1pt 0pt a\\rule 1pt 1pt 0pt ": "a",
		// Another font does; the same in a group does not.
		"a\\emph{b}c":                "a b c",
		"a{\\font 3 b}{\\font 3 c}d": "a bc d",
		"a{b}c":                      "abc",
		"{a}{b}{\\font 2 c}":         "abc",
		// Another baseline does, wherever it is.
		"\\hbox{\\hbox{a}\\vbox{\\hbox{b}\\hbox{c}}}": "a b c",
		"\\hbox{\\hbox{a}\\vbox{\\hbox{b}}}":          "ab",
		"\\font 0 $x^2$":                              "x 2",
		"\\font 0 $x_2$":                              "x 2",
		"$xy$":                                        "xy",
		// Boxes and groups do not, and neither do kerns of the font.
		"a\\hbox{b}c":                    "abc",
		"To Vo LT AVa Ya":                "To Vo LT AVa Ya",
		"\\hbox{a}\\hbox{b}":             "a b",
		"\\noindent\\hbox{a}\\hbox{b}":   "ab",
		"a\\hbox to 0pt{}b":              "ab",
		"a\\penalty 0 b\\relax c{}d":     "abcd",
		"a\\hskip 0pt b":                 "ab",
		"a\\hskip 3pt b\\kern 5pt c":     "a b c",
		"a\\kern-3pt b":                  "a b",
		"f{}i f{}f f{}fi ff{}i":          "fi ff ffi ffi",
		"fi ff ffi fff fffi fif\x01\x03": "fi ff ffi fff fffi fifffffi",
		// Bytes are told as they are.
		"a\"!?.,:;'`()[]<>=+*/|@0189": "a\"!?.,:;'`()[]<>=+*/|@0189",
		"a\x80\xffb":                  "ab",
		"\\rule 1pt 1pt 1pt":          "",
	} {
		if got := wordsOf(t, source); got != want {
			t.Errorf("%q: %q, not %q", source, got, want)
		}
	}
}

// A char that is moved against the end of the one ahead by a quarter of its own Width is parted from it, by less it is not.
func TestWordsArePartedAtAQuarter(t *testing.T) {
	for _, font := range []int64{0, 2, 7, 15} {
		for _, pair := range []string{"ab", "ba", "ai", "il", "mm", "z1", "1z", "..", "a\x02"} {
			g, ok := impl.GlyphOf(impl.PlainFont(font), int64(pair[1]))
			if !ok {
				t.Fatal("no glyph")
			}
			shown := [2]string{spelledOut(impl.Spot{Char: int64(pair[0])}), spelledOut(impl.Spot{Char: int64(pair[1])})}
			for _, move := range []int64{0, 1, g.Width/4 - 1, g.Width / 4, g.Width/4 + 1, g.Width / 2, g.Width, 9 * point} {
				for _, sign := range []int64{1, -1} {
					source := fmt.Sprintf("\\font %d \\hbox{%c\\kern %dsp%c}", font, pair[0], sign*move, pair[1])
					want := shown[0] + shown[1]
					if move*4 >= g.Width {
						want = shown[0] + " " + shown[1]
					}
					if got := wordsOf(t, source); got != want {
						t.Errorf("%q: %q, not %q", source, got, want)
					}
				}
			}
		}
	}
}

// Widths that are no multiple of four: a quarter lies between two units.
func TestAQuarterThatIsNoWholeNumber(t *testing.T) {
	odd := 0
	for font := range int64(16) {
		for _, g := range impl.PlainFont(font).Glyphs {
			if g.Width%4 == 0 || g.Code < 97 || g.Code > 99 {
				continue
			}
			odd++
			for move, apart := range map[int64]bool{g.Width / 4: false, g.Width/4 + 1: true} {
				source := fmt.Sprintf("\\font %d \\hbox{x\\kern %dsp%c}", font, move, g.Code)
				if got := wordsOf(t, source); (got == "x "+string(rune(g.Code))) != apart {
					t.Errorf("%q: %q", source, got)
				}
			}
		}
	}
	if odd < 5 {
		t.Error("too few:", odd)
	}
}

// Words of one page never go on upon the next one.
func TestPagesPartWords(t *testing.T) {
	s := checkSession(t, "\\hbox{a}\\shipout\\hbox{b}\\shipout\\hbox{c}")
	if strings.Join(s.words, " ") != "a 1 b 2 c 3" {
		t.Errorf("%q", s.words)
	}
}

func TestHowManyLines(t *testing.T) {
	for source, want := range map[string]int64{
		"\\rule 1pt 1pt 1pt": 1,
		"\\hbox{a\\rule 1pt 9pt 9pt b}\\rule 1pt 1pt 1pt \\hbox{\\rule 1pt 1pt 1pt}": 2,
		"a\\shipout b\\shipout c":                 6,
		"\\section{A}":                            3,
		"\\section{A}\\shipout\\rule 1pt 1pt 1pt": 5,
		"\\font 0 $x^2$":                          3,
		"$x^2_1$":                                 4,
		"$a\\frac b$":                             3,
		"\\hbox{\\hbox{a}\\vbox{\\hbox{b}\\hbox{c}}}":                  3,
		"\\hbox{\\vbox{\\hbox{a}\\hbox{b}}\\vbox{\\hbox{c}\\hbox{d}}}": 3,
		"\\table 3{a&b&c\\row d&e&f\\row g}":                           4,
		"a\\foot{b}\\foot{c}":                                          4,
	} {
		if s := checkSession(t, source); s.lines != want {
			t.Errorf("%q: %d lines, not %d: %q", source, s.lines, want, s.words)
		}
	}
}

func TestPictures(t *testing.T) {
	source := "\\section{One}words of a page\\rule 20pt 9pt 3pt\\shipout another, with an office $x^2$\\foot{below}"
	for page := int64(1); page <= 2; page++ {
		for _, c := range [][3]int64{{point, 300, 400}, {3 * point, 100, 130}, {point / 2, 400, 400}, {1, 1, 1}, {maxLen, 1, 1}, {10 * point, 400, 1}, {7 * point, 1, 400}} {
			got := checkPreview(t, source, page, c[0], c[1], c[2])
			if int64(len(got)) != c[2] || int64(len(got[0])) != c[1] {
				t.Errorf("page %d, %v: %d rows", page, c, len(got))
			}
		}
	}
	picture := strings.Join(checkPreview(t, source, 1, 2*point, 140, 200), "")
	for _, sign := range []string{"O", "n", "e", "#", "1", "w"} {
		if !strings.Contains(picture, sign) {
			t.Errorf("%s is not seen", sign)
		}
	}
	if picture := strings.Join(checkPreview(t, source, 2, 2*point, 140, 200), ""); !strings.Contains(picture, "?") || strings.Contains(picture, "#") {
		t.Error("the ligature is not seen, or a rule is")
	}
	// Nothing stands in the margin.
	for _, row := range checkPreview(t, source, 1, point, 36, 400) {
		if strings.Trim(row, " ") != "" {
			t.Errorf("%q", row)
		}
	}
	for _, row := range checkPreview(t, source, 1, point, 400, 36) {
		if strings.Trim(row, " ") != "" {
			t.Errorf("%q", row)
		}
	}
}

func TestPicturesThatCannotBe(t *testing.T) {
	for _, source := range []string{"a\\shipout b", "", "\\kern", strings.Repeat("a", impl.MaxText+1)} {
		count := impl.Typeset(source).Count
		for _, page := range []int64{0, -1, math.MinInt64, count + 1, count + 2, math.MaxInt64} {
			if got := checkPreview(t, source, page, point, 5, 5); len(got) > 0 {
				t.Errorf("%.20q: a picture of page %d", source, page)
			}
		}
		for _, c := range [][3]int64{{0, 5, 5}, {-1, 5, 5}, {maxLen + 1, 5, 5}, {math.MinInt64, 5, 5}, {math.MaxInt64, 5, 5}, {point, 0, 5}, {point, -1, 5}, {point, 401, 5}, {point, math.MaxInt64, 5}, {point, math.MinInt64, 5}, {point, 5, 0}, {point, 5, -1}, {point, 5, 401}, {point, 5, math.MaxInt64}, {point, 5, math.MinInt64}} {
			for page := int64(0); page <= count+1; page++ {
				if got := checkPreview(t, source, page, c[0], c[1], c[2]); len(got) > 0 {
					t.Errorf("%.20q: a picture of page %d with %v", source, page, c)
				}
			}
		}
	}
}

// As many pages as a description can have, and one more: then there are no bytes and no picture, but the pages are there.
func TestTheMostPagesOfASession(t *testing.T) {
	t.Parallel()
	for _, count := range []int{1000, 1001} {
		source := "\\glue 0=0pt " + strings.Repeat("\\hbox{a}\\shipout ", count)
		s := checkSession(t, source)
		can := count <= impl.MaxPages
		if s.Code != impl.DigOk || !s.Stable || s.Count != int64(count) || (len(s.Desc) > 0) != can || len(s.words) != 2*count || s.lines != int64(2*count) {
			t.Errorf("%d pages: %d, %v, %d, %d bytes, %d words, %d lines", count, s.Code, s.Stable, s.Count, len(s.Desc), len(s.words), s.lines)
		}
		for _, page := range []int64{1, int64(count)} {
			if got := checkPreview(t, source, page, point, 3, 3); (len(got) > 0) != can {
				t.Errorf("%d pages: a picture of %d rows", count, len(got))
			}
		}
	}
}

// As many Spots as a description can have, and one more. Heads that are long make many of them: both marks of a head have no room, and so are one word.
func TestTheMostSpotsOfASession(t *testing.T) {
	t.Parallel()
	for _, more := range []int{0, 1} {
		source := "\\mark{" + strings.Repeat("x", 998) + "}" + strings.Repeat("a", 20+more) + strings.Repeat("\\shipout a", 9)
		s := checkSession(t, source)
		if n := len(slices.Concat(s.pages...)); n != impl.MaxSpots+more || s.Count != 10 || s.Code != impl.DigOk {
			t.Fatalf("%d Spots on %d pages, code %d", n, s.Count, s.Code)
		}
		if (len(s.Desc) > 0) != (more == 0) || len(s.words) != 30 {
			t.Errorf("%d more: %d bytes, %d words", more, len(s.Desc), len(s.words))
		}
	}
}

// A sheet that fits without the margin alone: where it stands can't be told, so its page is empty.
func TestASheetThatIsTooTallForItsMargin(t *testing.T) {
	for tall, seen := range map[int]bool{16300: true, 16350: false} {
		source := fmt.Sprintf("\\len 1=%dpt a", tall)
		s := checkSession(t, source)
		if s.Code != impl.DigOk || s.Count != 1 || len(s.Desc) == 0 || (len(s.words) == 2) != seen || (s.lines == 2) != seen {
			t.Errorf("%d: %+v, %q, %d", tall, s.Result, s.words, s.lines)
		}
		if picture := checkPreview(t, source, 1, point, 60, 60); len(picture) != 60 || (strings.Trim(strings.Join(picture, ""), " ") != "") != seen {
			t.Errorf("%d: %q", tall, picture)
		}
	}
	if s := checkSession(t, "\\len 1=16383pt a"); s.Code != impl.DigOk || s.Count != 0 || len(s.Desc) == 0 {
		t.Errorf("%+v", s.Result)
	}
}
