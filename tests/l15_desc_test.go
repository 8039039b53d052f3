package tests

import (
	"bytes"
	"math"
	"slices"
	"testing"

	"loop.example/g00014/impl"
)

// bodyOf are the bytes between mark and sum.
func bodyOf(b []byte) []byte { return b[len(markOf) : len(b)-2] }

func TestWholeDescriptionsKnown(t *testing.T) {
	for _, c := range []struct {
		what string
		d    desc
		want []byte
	}{
		{"no page", nil, []byte{'Q', 'P', 'D', '1', 0, 134, 2}},
		{"three Spots", desc{{{X: 1, Y: -1, Char: 65, Width: 2, Height: 3}, {X: 1, Y: 99, Font: 2, Char: 66, Width: 200}, {X: 0, Y: 99, Char: -1, Width: 1, Height: 1}}},
			[]byte{'Q', 'P', 'D', '1', 1, 3, 2, 1, 66, 2, 3, 0, 200, 1, 195, 6, 200, 1, 0, 1, 0, 0, 1, 1, 237, 40}},
		{"a sum beyond 65521", desc{{{X: maxLen, Y: -maxLen, Font: 15, Char: 255, Width: maxLen, Height: maxLen}, {X: -maxLen, Y: maxLen, Font: 15, Char: 255, Width: maxLen, Height: maxLen}}},
			[]byte{'Q', 'P', 'D', '1', 1, 2, 254, 255, 255, 255, 7, 253, 255, 255, 255, 7, 128, 34, 255, 255, 255, 255, 3, 255, 255, 255, 255, 3, 251, 255, 255, 255, 15, 252, 255, 255, 255, 15, 128, 2, 255, 255, 255, 255, 3, 255, 255, 255, 255, 3, 200, 163}},
	} {
		if got := checkDesc(t, c.d); !bytes.Equal(got, c.want) {
			t.Errorf("%s: %v, not %v", c.what, got, c.want)
		}
		if got, ok := checkBytes(t, c.want); !ok || !same(got, c.d) {
			t.Errorf("%s: read as %v, %v", c.what, got, ok)
		}
	}
}

func TestDescBodiesKnown(t *testing.T) {
	a, b := glyphSpot(10, 20, 0, 'a'), glyphSpot(13, 20, 0, 'b')
	rule := ruleSpot(10, 20, 5, 7)
	sizes := func(width, height int64) desc { return desc{{{Width: width, Height: height}}} }
	places := func(places ...int64) desc {
		var page spots
		for i := 0; i < len(places); i += 2 {
			page = append(page, impl.Spot{X: places[i], Y: places[i+1]})
		}
		return desc{page}
	}
	for _, c := range []struct {
		what string
		d    desc
		want []byte
	}{
		{"a page without a Spot", desc{{}}, []byte{1, 0}},
		{"three pages without a Spot", desc{{}, nil, {}}, []byte{3, 0, 0, 0}},
		{"one letter", desc{{a}}, []byte{1, 1, 20, 40, 98, 5, 7}},
		{"two letters", desc{{a, b}}, []byte{1, 2, 20, 40, 98, 5, 7, 6, 0, 99, 5, 7}},
		{"two pages: places begin anew", desc{{a}, {b}}, []byte{2, 1, 20, 40, 98, 5, 7, 1, 26, 40, 99, 5, 7}},
		{"pages without a Spot around one", desc{{}, {a}, {}}, []byte{3, 0, 1, 20, 40, 98, 5, 7, 0}},
		{"a rule alone", desc{{rule}}, []byte{1, 1, 20, 40, 0, 5, 7}},
		{"a rule first", desc{{rule, a}}, []byte{1, 2, 20, 40, 0, 5, 7, 0, 0, 98, 5, 7}},
		{"a rule last", desc{{a, rule}}, []byte{1, 2, 20, 40, 98, 5, 7, 0, 0, 0, 5, 7}},
		{"a rule between letters", desc{{a, rule, b}}, []byte{1, 3, 20, 40, 98, 5, 7, 0, 0, 0, 5, 7, 6, 0, 99, 5, 7}},
		{"the first in another font", desc{{glyphSpot(0, 0, 1, 0)}}, []byte{1, 1, 0, 0, 129, 4, 5, 7}},
		{"a font that stays", desc{{glyphSpot(0, 0, 1, 0), glyphSpot(0, 0, 1, 1)}}, []byte{1, 2, 0, 0, 129, 4, 5, 7, 0, 0, 2, 5, 7}},
		{"from font to font", desc{{glyphSpot(0, 0, 1, 0), glyphSpot(0, 0, 2, 0), glyphSpot(0, 0, 1, 0)}}, []byte{1, 3, 0, 0, 129, 4, 5, 7, 0, 0, 129, 6, 5, 7, 0, 0, 129, 4, 5, 7}},
		{"back to font 0", desc{{glyphSpot(0, 0, 1, 0), glyphSpot(0, 0, 0, 0)}}, []byte{1, 2, 0, 0, 129, 4, 5, 7, 0, 0, 129, 2, 5, 7}},
		{"one font again behind a rule", desc{{glyphSpot(0, 0, 1, 0), ruleSpot(0, 0, 5, 7), glyphSpot(0, 0, 1, 0)}}, []byte{1, 3, 0, 0, 129, 4, 5, 7, 0, 0, 0, 5, 7, 0, 0, 1, 5, 7}},
		{"one font again behind two rules", desc{{glyphSpot(0, 0, 1, 0), ruleSpot(0, 0, 5, 7), ruleSpot(0, 0, 5, 7), glyphSpot(0, 0, 1, 0)}}, []byte{1, 4, 0, 0, 129, 4, 5, 7, 0, 0, 0, 5, 7, 0, 0, 0, 5, 7, 0, 0, 1, 5, 7}},
		{"font 0 behind a rule", desc{{glyphSpot(0, 0, 1, 0), ruleSpot(0, 0, 5, 7), glyphSpot(0, 0, 0, 0)}}, []byte{1, 3, 0, 0, 129, 4, 5, 7, 0, 0, 0, 5, 7, 0, 0, 129, 2, 5, 7}},
		{"fonts begin anew on a page", desc{{glyphSpot(0, 0, 1, 0)}, {glyphSpot(0, 0, 0, 0)}, {glyphSpot(0, 0, 1, 0)}}, []byte{3, 1, 0, 0, 129, 4, 5, 7, 1, 0, 0, 1, 5, 7, 1, 0, 0, 129, 4, 5, 7}},
		{"the least and the greatest char", desc{{glyphSpot(0, 0, 0, 0), glyphSpot(0, 0, 0, 255)}}, []byte{1, 2, 0, 0, 1, 5, 7, 0, 0, 128, 2, 5, 7}},
		{"the greatest char of the greatest font", desc{{glyphSpot(0, 0, 15, 255)}}, []byte{1, 1, 0, 0, 128, 34, 5, 7}},
		{"to the right and to the left", places(5, 0, 7, 0, 6, 0, -1, 0), []byte{1, 4, 10, 0, 1, 0, 0, 4, 0, 1, 0, 0, 1, 0, 1, 0, 0, 13, 0, 1, 0, 0}},
		{"below and above", places(0, 5, 0, 7, 0, 6, 0, -1), []byte{1, 4, 0, 10, 1, 0, 0, 0, 4, 1, 0, 0, 0, 1, 1, 0, 0, 0, 13, 1, 0, 0}},
		{"a step behind a rule", desc{{{X: 5, Y: 6, Char: -1}, {X: 4, Y: 8}}}, []byte{1, 2, 10, 12, 0, 0, 0, 1, 4, 1, 0, 0}},
		{"signed numbers of one and of two groups", places(63, -64, 127, -129, 191, -193), []byte{1, 3, 126, 127, 1, 0, 0, 128, 1, 129, 1, 1, 0, 0, 128, 1, 127, 1, 0, 0}},
		{"numbers of one group", sizes(1, 127), []byte{1, 1, 0, 0, 1, 1, 127}},
		{"the least and the greatest of two groups", sizes(128, 16383), []byte{1, 1, 0, 0, 1, 128, 1, 255, 127}},
		{"the least and the greatest of three groups", sizes(16384, 2097151), []byte{1, 1, 0, 0, 1, 128, 128, 1, 255, 255, 127}},
		{"the least and the greatest of four groups", sizes(2097152, 268435455), []byte{1, 1, 0, 0, 1, 128, 128, 128, 1, 255, 255, 255, 127}},
		{"the least and the greatest of five groups", sizes(268435456, maxLen), []byte{1, 1, 0, 0, 1, 128, 128, 128, 128, 1, 255, 255, 255, 255, 3}},
		{"the longest steps", places(-maxLen, maxLen, maxLen, -maxLen), []byte{1, 2, 253, 255, 255, 255, 7, 254, 255, 255, 255, 7, 1, 0, 0, 252, 255, 255, 255, 15, 251, 255, 255, 255, 15, 1, 0, 0}},
	} {
		if got := bodyOf(checkDesc(t, c.d)); !bytes.Equal(got, c.want) {
			t.Errorf("%s: %v, not %v", c.what, got, c.want)
		}
		if got, ok := checkBytes(t, marked(c.want)); !ok || !same(got, c.d) {
			t.Errorf("%s: read as %v, %v", c.what, got, ok)
		}
	}
}

// Every char of every font, alone and behind every other font.
func TestAllCharsOfAllFonts(t *testing.T) {
	for font := range int64(16) {
		for ahead := range int64(16) {
			for c := range int64(256) {
				if b := checkDesc(t, desc{{glyphSpot(0, 0, ahead, 1), glyphSpot(0, 0, font, c)}}); len(b) == 0 {
					t.Fatal("nothing of font", font, "and char", c)
				}
			}
		}
	}
}

// spotEdges are the values that a field just can have, and some that it can't.
func spotEdges() map[string]struct {
	field       func(*impl.Spot) *int64
	can, cannot []int64
} {
	type edges = struct {
		field       func(*impl.Spot) *int64
		can, cannot []int64
	}
	return map[string]edges{
		"X":      {func(s *impl.Spot) *int64 { return &s.X }, []int64{-maxLen, -1, 0, 1, maxLen}, []int64{-maxLen - 1, maxLen + 1}},
		"Y":      {func(s *impl.Spot) *int64 { return &s.Y }, []int64{-maxLen, -1, 0, 1, maxLen}, []int64{-maxLen - 1, maxLen + 1}},
		"Font":   {func(s *impl.Spot) *int64 { return &s.Font }, []int64{0, 1, 15}, []int64{-1, 16}},
		"Char":   {func(s *impl.Spot) *int64 { return &s.Char }, []int64{-1, 0, 1, 127, 128, 255}, []int64{-2, 256}},
		"Width":  {func(s *impl.Spot) *int64 { return &s.Width }, []int64{0, 1, maxLen}, []int64{-1, maxLen + 1}},
		"Height": {func(s *impl.Spot) *int64 { return &s.Height }, []int64{0, 1, maxLen}, []int64{-1, maxLen + 1}},
	}
}

// pagesAround are pages in which a Spot stands alone, first, last, between others, and on a later page.
func pagesAround(s impl.Spot) []desc {
	a, rule := glyphSpot(1, 2, 0, 'a'), ruleSpot(3, 4, 5, 6)
	return []desc{{{s}}, {{s, a}}, {{a, s}}, {{a, s, rule}}, {{rule, s, a}}, {{a}, {}, {rule, s}}, {{s}, {a}}}
}

func TestEdgesOfSpots(t *testing.T) {
	for name, e := range spotEdges() {
		for _, x := range e.can {
			s := glyphSpot(1, 2, 0, 'a')
			*e.field(&s) = x
			for _, d := range pagesAround(s) {
				if b := checkDesc(t, d); len(b) == 0 || !impl.DescOk(d) {
					t.Errorf("%s of %d is refused in %v", name, x, d)
				}
			}
			if len(checkRaster(t, spots{s}, 1, 3, 2)) != 2 || len(checkBounds(t, spots{s})) != 4 {
				t.Errorf("%s of %d is on no page", name, x)
			}
		}
		for _, x := range append(e.cannot, math.MinInt64, math.MinInt64+1, math.MaxInt64-1, math.MaxInt64) {
			s := glyphSpot(1, 2, 0, 'a')
			*e.field(&s) = x
			for _, d := range pagesAround(s) {
				if b := checkDesc(t, d); len(b) > 0 || impl.DescOk(d) {
					t.Errorf("%s of %d is taken in %v", name, x, d)
				}
			}
			a := glyphSpot(0, 9, 0, 'a')
			for _, page := range []spots{{s}, {s, a}, {a, s}, {a, s, a}} {
				if len(checkRaster(t, page, 1, 3, 2)) > 0 || len(checkBounds(t, page)) > 0 {
					t.Errorf("%s of %d is on a page", name, x)
				}
			}
		}
	}
}

// A rule with a Font is a Spot as others are, but has no bytes.
func TestRulesWithAFont(t *testing.T) {
	a := glyphSpot(1, 2, 0, 'a')
	for font := int64(1); font < 16; font++ {
		rule := impl.Spot{X: 1, Y: 2, Font: font, Char: -1, Width: 3, Height: 4}
		for _, d := range append(pagesAround(rule), desc{{glyphSpot(0, 0, font, 'a'), rule}}, desc{{rule, rule}, {rule}}) {
			if b := checkDesc(t, d); len(b) > 0 || !impl.DescOk(d) {
				t.Errorf("%v: %v", d, b)
			}
		}
		if pic := checkRaster(t, spots{rule}, 1, 5, 2); !slices.Equal(pic, []string{" ### ", " ### "}) {
			t.Errorf("%q", pic)
		}
		if got := checkBounds(t, spots{rule}); !slices.Equal(got, []int64{1, -2, 4, 2}) {
			t.Error(got)
		}
		// One that can't be makes it none, wherever it stands.
		wrong := a
		wrong.Width = -1
		for _, d := range []desc{{{rule, wrong}}, {{wrong, rule}}, {{rule}, {wrong}}, {{wrong}, {rule}}, {{rule, a}, {a, rule, wrong, rule}, {a}}} {
			if b := checkDesc(t, d); len(b) > 0 || impl.DescOk(d) {
				t.Errorf("%v: %v", d, b)
			}
		}
	}
	for _, font := range []int64{math.MinInt64, -1, 16, math.MaxInt64} {
		if d := (desc{{{Font: font, Char: -1}}}); impl.DescOk(d) || len(checkDesc(t, d)) > 0 {
			t.Errorf("%v", d)
		}
	}
}

// pagesOfSpots are pages with so many Spots each.
func pagesOfSpots(counts ...int) desc {
	var out desc
	for _, n := range counts {
		page := make(spots, n)
		for i := range page {
			page[i] = glyphSpot(int64(i%50), int64(i/50), int64(i%3), int64(i%256))
		}
		out = append(out, page)
	}
	return out
}

func TestTheMostPages(t *testing.T) {
	for n, can := range map[int]bool{1: true, 127: true, 128: true, 999: true, 1000: true, 1001: false, 1002: false, 30000: false} {
		d := make(desc, n)
		if b := checkDesc(t, d); impl.DescOk(d) != can || len(b) > 0 != can {
			t.Errorf("%d pages: %v", n, !can)
		}
		d[n-1] = spots{glyphSpot(1, 2, 3, 4)}
		if b := checkDesc(t, d); impl.DescOk(d) != can || len(b) > 0 != can {
			t.Errorf("%d pages with a Spot: %v", n, !can)
		}
	}
}

func TestTheMostSpots(t *testing.T) {
	twenty := slices.Repeat([]int{20}, 1000)
	for _, c := range []struct {
		counts []int
		can    bool
	}{
		{[]int{19999}, true},
		{[]int{20000}, true},
		{[]int{20001}, false},
		{[]int{40000}, false},
		{[]int{0, 20000, 0}, true},
		{[]int{0, 20001, 0}, false},
		{[]int{20000, 1}, false},
		{[]int{1, 20000}, false},
		{[]int{10000, 10000}, true},
		{[]int{10000, 10001}, false},
		{[]int{10000, 10000, 1}, false},
		{[]int{20000, 20000}, false},
		{[]int{7000, 0, 7000, 6000}, true},
		{[]int{7000, 0, 7000, 6001}, false},
		{twenty, true},
		{append(twenty[:999:999], 21), false},
	} {
		d := pagesOfSpots(c.counts...)
		if b := checkDesc(t, d); impl.DescOk(d) != c.can || len(b) > 0 != c.can {
			t.Errorf("%v Spots: %v", c.counts[:min(len(c.counts), 5)], !c.can)
		}
	}
}

// So many Spots as a page can have are one page for pictures and bounds too.
func TestTheMostSpotsOfAPage(t *testing.T) {
	for n, can := range map[int]bool{19999: true, 20000: true, 20001: false, 50000: false} {
		page := pagesOfSpots(n)[0]
		if len(checkRaster(t, page, 10, 4, 3)) > 0 != can || len(checkBounds(t, page)) > 0 != can {
			t.Errorf("%d Spots: %v", n, !can)
		}
	}
}
