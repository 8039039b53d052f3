package tests

import (
	"math"
	"math/rand"
	"slices"
	"strings"
	"testing"

	"loop.example/g00014/impl"
)

// areaOf is a Spot that is told by its edges.
func areaOf(c, left, top, right, bottom int64) impl.Spot {
	return impl.Spot{X: left, Y: bottom, Char: c, Width: right - left, Height: bottom - top}
}

func TestRasterKnown(t *testing.T) {
	a := func(edges ...int64) impl.Spot { return areaOf('a', edges[0], edges[1], edges[2], edges[3]) }
	for _, c := range []struct {
		what                string
		page                spots
		cell, columns, rows int64
		want                string
	}{
		{"no Spot", nil, 10, 3, 2, "   |   "},
		{"one cell", spots{a(0, 0, 10, 10)}, 10, 1, 1, "a"},
		{"the first of some cells", spots{a(0, 0, 10, 10)}, 10, 3, 2, "a  |   "},
		{"a row", spots{a(0, 10, 30, 20)}, 10, 3, 2, "   |aaa"},
		{"a column", spots{a(20, 0, 30, 20)}, 10, 3, 2, "  a|  a"},
		{"all", spots{a(0, 0, 30, 20)}, 10, 3, 2, "aaa|aaa"},
		{"much more than all", spots{a(-500, -500, 500, 500)}, 10, 3, 2, "aaa|aaa"},
		{"a letter and a rule", spots{a(0, 0, 20, 20), areaOf(-1, 10, 10, 25, 20)}, 10, 3, 2, "aa |a# "},

		{"an end ahead of the middle", spots{a(0, 0, 4, 10)}, 10, 2, 1, "  "},
		{"an end at the middle", spots{a(0, 0, 5, 10)}, 10, 2, 1, "  "},
		{"an end behind the middle", spots{a(0, 0, 6, 10)}, 10, 2, 1, "a "},
		{"an end at the second middle", spots{a(0, 0, 15, 10)}, 10, 2, 1, "a "},
		{"an end behind the second middle", spots{a(0, 0, 16, 10)}, 10, 2, 1, "aa"},
		{"a beginning ahead of the middle", spots{a(4, 0, 10, 10)}, 10, 2, 1, "a "},
		{"a beginning at the middle", spots{a(5, 0, 10, 10)}, 10, 2, 1, "a "},
		{"a beginning behind the middle", spots{a(6, 0, 10, 10)}, 10, 2, 1, "  "},
		{"a beginning behind the middle of one", spots{a(6, 0, 20, 10)}, 10, 2, 1, " a"},
		{"just the middle", spots{a(5, 5, 6, 6)}, 10, 2, 2, "a |  "},
		{"between two middles", spots{a(6, 6, 15, 15)}, 10, 2, 2, "  |  "},
		{"a lower end ahead of the middle", spots{a(0, 0, 10, 4)}, 10, 1, 2, " | "},
		{"a lower end at the middle", spots{a(0, 0, 10, 5)}, 10, 1, 2, " | "},
		{"a lower end behind the middle", spots{a(0, 0, 10, 6)}, 10, 1, 2, "a| "},
		{"an upper end ahead of the middle", spots{a(0, 4, 10, 10)}, 10, 1, 2, "a| "},
		{"an upper end at the middle", spots{a(0, 5, 10, 10)}, 10, 1, 2, "a| "},
		{"an upper end behind the middle", spots{a(0, 6, 10, 10)}, 10, 1, 2, " | "},
		{"a lower end at the second middle", spots{a(0, 0, 10, 15)}, 10, 1, 2, "a| "},
		{"a lower end behind the second middle", spots{a(0, 0, 10, 16)}, 10, 1, 2, "a|a"},

		{"an odd cell: an end at the middle", spots{a(0, 0, 3, 7)}, 7, 2, 1, "  "},
		{"an odd cell: an end behind the middle", spots{a(0, 0, 4, 7)}, 7, 2, 1, "a "},
		{"an odd cell: a beginning at the middle", spots{a(3, 0, 7, 7)}, 7, 2, 1, "a "},
		{"an odd cell: a beginning behind the middle", spots{a(4, 0, 7, 7)}, 7, 2, 1, "  "},
		{"an odd cell: the second middle", spots{a(10, 10, 11, 11)}, 7, 2, 2, "  | a"},
		{"cells of a unit", spots{a(1, 0, 3, 1), areaOf('b', 3, 1, 4, 2)}, 1, 5, 2, " aa  |   b "},
		{"cells of two units: an end at the middle", spots{a(0, 0, 1, 2)}, 2, 2, 1, "  "},
		{"cells of two units: an end behind the middle", spots{a(0, 0, 2, 2)}, 2, 2, 1, "a "},

		{"the last one is shown", spots{a(0, 0, 2, 1), areaOf('b', 1, 0, 3, 1)}, 1, 3, 1, "abb"},
		{"the last one is shown, the other way", spots{areaOf('b', 1, 0, 3, 1), a(0, 0, 2, 1)}, 1, 3, 1, "aab"},
		{"one in another", spots{a(0, 0, 3, 3), areaOf('b', 1, 1, 2, 2)}, 1, 3, 3, "aaa|aba|aaa"},
		{"one below another", spots{areaOf('b', 1, 1, 2, 2), a(0, 0, 3, 3)}, 1, 3, 3, "aaa|aaa|aaa"},
		{"a rule over a letter", spots{a(0, 0, 3, 1), areaOf(-1, 1, 0, 2, 1)}, 1, 3, 1, "a#a"},
		{"a letter over a rule", spots{areaOf(-1, 0, 0, 3, 1), a(1, 0, 2, 1)}, 1, 3, 1, "#a#"},
		{"what shows as a ? covers too", spots{a(0, 0, 3, 1), areaOf(32, 1, 0, 2, 1)}, 1, 3, 1, "a?a"},

		{"partly to the left", spots{a(-5, 0, 1, 1)}, 1, 3, 1, "a  "},
		{"partly to the right", spots{a(2, 0, 9, 1)}, 1, 3, 1, "  a"},
		{"partly above", spots{a(0, -5, 1, 1)}, 1, 1, 3, "a| | "},
		{"partly below", spots{a(0, 2, 1, 9)}, 1, 1, 3, " | |a"},
		{"just to the left", spots{a(-5, 0, 0, 1)}, 1, 3, 1, "   "},
		{"just to the right", spots{a(3, 0, 9, 1)}, 1, 3, 1, "   "},
		{"just above", spots{a(0, -5, 1, 0)}, 1, 1, 3, " | | "},
		{"just below", spots{a(0, 3, 1, 9)}, 1, 1, 3, " | | "},
		{"far out", spots{a(-maxLen, -maxLen, -9, -9), a(maxLen, 5, maxLen, 9), a(900, 900, maxLen, maxLen)}, 1, 2, 2, "  |  "},

		{"0 wide", spots{a(1, 0, 1, 3)}, 1, 3, 2, "   |   "},
		{"0 high", spots{a(0, 1, 3, 1)}, 1, 3, 2, "   |   "},
		{"0 wide, over another", spots{a(0, 0, 3, 2), areaOf('b', 1, 0, 1, 2)}, 1, 3, 2, "aaa|aaa"},
		{"0 high, over another", spots{a(0, 0, 3, 2), areaOf(-1, 0, 1, 3, 1)}, 1, 3, 2, "aaa|aaa"},
		{"0 wide, at a middle", spots{a(5, 0, 5, 10)}, 10, 2, 1, "  "},
	} {
		if got := strings.Join(checkRaster(t, c.page, c.cell, c.columns, c.rows), "|"); got != c.want {
			t.Errorf("%s: %q, not %q", c.what, got, c.want)
		}
	}
}

// What each char is shown as, in whatever font.
func TestWhatCharsShow(t *testing.T) {
	for c, want := range map[int64]string{-1: "#", 0: "?", 1: "?", 31: "?", 32: "?", 33: "!", 34: "\"", '#': "#", '?': "?", 'A': "A", 'z': "z", 125: "}", 126: "~", 127: "?", 128: "?", 254: "?", 255: "?"} {
		for font := range int64(16) {
			s := areaOf(c, 0, 0, 1, 1)
			s.Font = font
			if got := checkRaster(t, spots{s}, 1, 1, 1); len(got) != 1 || got[0] != want {
				t.Errorf("char %d of font %d: %q", c, font, got)
			}
		}
	}
	for c := int64(-1); c < 256; c++ {
		checkRaster(t, spots{areaOf('a', 0, 0, 3, 1), areaOf(c, 1, 0, 2, 1)}, 1, 3, 1)
	}
}

// All places and widths, and heights, around some cells of all small sizes.
func TestWhereSpotsEndInCells(t *testing.T) {
	for cell := int64(1); cell < 8; cell++ {
		for from := -cell - 2; from < 3*cell+2; from++ {
			for to := from; to < 4*cell; to++ {
				across, down := areaOf('a', from, 0, to, cell), areaOf('a', 0, from, cell, to)
				row, column := checkRaster(t, spots{across}, cell, 3, 1), checkRaster(t, spots{down}, cell, 1, 3)
				if row[0] != strings.Join(column, "") {
					t.Fatalf("%d to %d in cells of %d: %q across, %q down", from, to, cell, row, column)
				}
			}
		}
	}
}

func TestEdgesOfPictures(t *testing.T) {
	page := spots{areaOf('a', 0, 0, 10, 10)}
	far := []int64{math.MinInt64, math.MinInt64 + 1, -1, 0, math.MaxInt64 - 1, math.MaxInt64}
	for _, cell := range []int64{1, 2, 3, impl.Point, maxLen - 1, maxLen} {
		if got := checkRaster(t, page, cell, 2, 3); len(got) != 3 || len(got[0]) != 2 {
			t.Errorf("cells of %d: %q", cell, got)
		}
	}
	for _, n := range []int64{1, 2, 399, 400} {
		if got := checkRaster(t, page, 5, n, 3); len(got) != 3 || len(got[2]) != int(n) {
			t.Errorf("%d columns: %q", n, got)
		}
		if got := checkRaster(t, page, 5, 3, n); len(got) != int(n) || len(got[0]) != 3 {
			t.Errorf("%d rows: %q", n, got)
		}
	}
	for _, none := range append(far, maxLen+1) {
		if got := checkRaster(t, page, none, 2, 3); len(got) > 0 {
			t.Errorf("cells of %d: %q", none, got)
		}
	}
	for _, none := range append(far, 401, 1<<32+1) {
		if len(checkRaster(t, page, 5, none, 3)) > 0 || len(checkRaster(t, page, 5, 3, none)) > 0 || len(checkRaster(t, page, 5, none, none)) > 0 {
			t.Errorf("%d columns or rows", none)
		}
	}
	for _, none := range far {
		if len(checkRaster(t, nil, none, none, none)) > 0 {
			t.Errorf("%d of all", none)
		}
	}
}

// Cells of the greatest size: the middle of the second one lies beyond all places, but a Spot may reach it.
func TestTheGreatestCells(t *testing.T) {
	middle := int64(maxLen / 2)
	for _, c := range []struct {
		what string
		page spots
		want string
	}{
		{"all of the first", spots{areaOf('a', 0, 0, maxLen, maxLen)}, "a  "},
		{"just the middle", spots{areaOf('a', middle, 0, middle+1, maxLen)}, "a  "},
		{"up to the middle", spots{areaOf('a', 0, 0, middle, maxLen)}, "   "},
		{"behind the middle", spots{areaOf('a', middle+1, 0, maxLen, maxLen)}, "   "},
		{"the second", spots{areaOf('a', maxLen, 0, 2*maxLen, maxLen)}, " a "},
		{"up to the second middle", spots{areaOf('a', maxLen, 0, maxLen+middle, maxLen)}, "   "},
		{"behind the second middle", spots{areaOf('a', maxLen, 0, maxLen+middle+1, maxLen)}, " a "},
		{"from far to the left", spots{areaOf('a', -maxLen, 0, 0, maxLen)}, "   "},
	} {
		if got := checkRaster(t, c.page, maxLen, 3, 1); len(got) != 1 || got[0] != c.want {
			t.Errorf("%s: %q", c.what, got)
		}
	}
	if got := checkRaster(t, spots{areaOf('a', 0, 0, maxLen, maxLen)}, maxLen, 1, 3); strings.Join(got, "|") != "a| | " {
		t.Errorf("%q", got)
	}
	checkRaster(t, spots{{X: -maxLen, Y: -maxLen, Width: maxLen, Height: maxLen}, {X: maxLen, Y: maxLen, Width: maxLen, Height: maxLen}}, maxLen, 400, 400)
}

// The most Spots, each over the whole of the greatest picture: the last one is shown.
func TestTheMostSpotsInThePicture(t *testing.T) {
	page := slices.Repeat(spots{areaOf('a', -5, -5, 4000, 4000)}, impl.MaxSpots)
	page[len(page)-2].Char = 'b'
	page[len(page)-1] = areaOf('c', 0, 0, 5, 10)
	got := impl.Raster(page, 10, 400, 400)
	if len(got) != 400 || got[0] != strings.Repeat("b", 400) {
		t.Fatalf("%.20q", got)
	}
	page[len(page)-1].Width = 6
	if got := impl.Raster(page, 10, 400, 400); got[0] != "c"+strings.Repeat("b", 399) || got[1] != strings.Repeat("b", 400) {
		t.Fatalf("%.20q", got)
	}
}

func TestBoundsKnown(t *testing.T) {
	for _, c := range []struct {
		what string
		page spots
		want []int64
	}{
		{"no Spot", nil, nil},
		{"no Spot, and room for some", make(spots, 0, 5), nil},
		{"one", spots{{X: 3, Y: 9, Width: 5, Height: 2}}, []int64{3, 7, 8, 9}},
		{"one of no size", spots{{X: 3, Y: 9}}, []int64{3, 9, 3, 9}},
		{"one at 0", spots{{}}, []int64{0, 0, 0, 0}},
		{"a rule", spots{ruleSpot(3, 9, 5, 2)}, []int64{3, 7, 8, 9}},
		{"one below 0", spots{{X: -30, Y: -9, Width: 5, Height: 2}}, []int64{-30, -11, -25, -9}},
		{"one across 0", spots{{X: -3, Y: 1, Width: 5, Height: 2}}, []int64{-3, -1, 2, 1}},
		{"two, apart", spots{{X: 3, Y: 9, Width: 5, Height: 2}, {X: -3, Y: 90, Width: 1, Height: 1}}, []int64{-3, 7, 8, 90}},
		{"two, the other way", spots{{X: -3, Y: 90, Width: 1, Height: 1}, {X: 3, Y: 9, Width: 5, Height: 2}}, []int64{-3, 7, 8, 90}},
		{"one in another", spots{{X: 0, Y: 100, Width: 100, Height: 100}, {X: 5, Y: 9, Width: 5, Height: 2}}, []int64{0, 0, 100, 100}},
		{"each edge of another", spots{{X: -9, Y: 5}, {X: 0, Y: 6, Height: 40}, {X: 1, Y: 5, Width: 70}, {X: 2, Y: 80}}, []int64{-9, -34, 71, 80}},
		{"a low one that is higher at its top", spots{{X: 0, Y: 50, Height: 100}, {X: 0, Y: 10, Height: 5}}, []int64{0, -50, 0, 50}},
		{"the left one that ends furthest", spots{{X: 0, Y: 0, Width: 100}, {X: 50, Y: 0, Width: 5}}, []int64{0, 0, 100, 0}},
		{"the last one decides", spots{{}, {}, {X: -1, Y: 5, Width: 6, Height: 9}}, []int64{-1, -4, 5, 5}},
		{"all below 0", spots{{X: -5, Y: -5, Width: 1, Height: 1}, {X: -7, Y: -3, Width: 2, Height: 1}}, []int64{-7, -6, -4, -3}},
		{"the furthest", spots{{X: maxLen, Y: -maxLen, Width: maxLen, Height: maxLen}}, []int64{maxLen, -2 * maxLen, 2 * maxLen, -maxLen}},
		{"the widest", spots{{X: -maxLen, Y: maxLen}, {X: maxLen, Y: -maxLen, Width: maxLen, Height: maxLen}}, []int64{-maxLen, -2 * maxLen, 2 * maxLen, maxLen}},
	} {
		if got := checkBounds(t, c.page); !same(got, c.want) {
			t.Errorf("%s: %v, not %v", c.what, got, c.want)
		}
	}
}

func TestPicturesAndBoundsAtRandom(t *testing.T) {
	t.Parallel()
	r := rand.New(rand.NewSource(181))
	covered, nothing := 0, 0
	for range 20000 {
		l := lengths{r, []int64{5, 40, 200, 50 * impl.Point, maxLen}[r.Intn(5)]}
		page := randomPage(l, 12)
		if len(page) > 0 && r.Intn(10) == 0 {
			spoilSpot(r, &page[r.Intn(len(page))])
		}
		got := checkRaster(t, page, max(1, min(maxLen, r.Int63n(l.most/5+2))), 1+r.Int63n(12), 1+r.Int63n(9))
		checkBounds(t, page)
		if len(got) == 0 {
			nothing++
		}
		if strings.Trim(strings.Join(got, ""), " ") != "" {
			covered++
		}
	}
	if covered < 8000 || nothing < 500 {
		t.Error("too few:", covered, nothing)
	}
}

// What is outside of the bounds is blank, and a picture moves with its Spots.
func TestPicturesMoveWithTheirSpots(t *testing.T) {
	r := rand.New(rand.NewSource(182))
	seen := 0
	for range 3000 {
		page := randomPage(lengths{r, 60}, 6)
		bounds := impl.Bounds(page)
		if len(bounds) == 0 {
			continue
		}
		cell := 1 + r.Int63n(9)
		right, down := r.Int63n(4), r.Int63n(4)
		moved := slices.Clone(page)
		for i := range moved {
			moved[i].X += right * cell
			moved[i].Y += down * cell
		}
		before, after := impl.Raster(page, cell, 20, 20), impl.Raster(moved, cell, 20+right, 20+down)
		for y, row := range before {
			if got := after[int64(y)+down][right:]; got != row {
				t.Fatalf("%v, moved by %d and %d cells of %d: row %d is %q, not %q", page, right, down, cell, y, got, row)
			}
			for x := range row {
				at, below := int64(x)*cell+cell/2, int64(y)*cell+cell/2
				inside := between(bounds[0], at, bounds[2]-1) && between(bounds[1], below, bounds[3]-1)
				if row[x] != ' ' && !inside {
					t.Fatalf("%v: %q at %d, %d, outside of %v", page, row[x], at, below, bounds)
				}
				if row[x] != ' ' {
					seen++
				}
			}
		}
	}
	if seen < 10000 {
		t.Error("too few:", seen)
	}
}
