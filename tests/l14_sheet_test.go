package tests

import (
	"math"
	"slices"
	"strings"
	"testing"

	"loop.example/g00014/impl"
)

// tenth is that of font 0, in which heads and feet are.
const tenth = 52424

// pageOf is a page with that Box.
func pageOf(first, last string, box nodes) impl.Page {
	return impl.Page{Box: box, First: first, Last: last}
}

func TestSheetBoxesKnown(t *testing.T) {
	const u, gap = tenth, 786432
	const w = 30 * u
	headAB := hboxNode(w, 6*u, 0, 0, setLine(0, 'a'), fil(19*u), setLine(0, 'b'))
	headYY := hboxNode(w, 5*u, 2*u, 0, setLine(0, 'y'), fil(20*u), setLine(0, 'y'))
	bare := hboxNode(w, 0, 0, 0, fil(w))
	foot0 := hboxNode(w, 4*u, 0, 0, fil(13*u), setLine(0, '0'), fil(13*u))
	foot12 := hboxNode(w, 6*u, 0, 0, fil(19*u/2), setLine(0, '1', '2'), fil(19*u/2))
	inner := listed(charNode('x', 5, 6, 7), setGlueNode(glue(3, 2, 1, 1, 0), 9), markNode("inner"), noteNode(1, 2, kernNode(4)))
	for _, c := range []struct {
		what string
		page impl.Page
		n    int64
		want nodes
	}{
		{"a stack", pageOf("a", "b", vboxNode(w, 100, 20, 0, inner)), 12,
			vboxNode(w, 12*u+120+2*gap, 0, 0, headAB, kernNode(gap), vboxNode(w, 100, 20, 0, inner), kernNode(gap), foot12)},
		{"a row", pageOf("a", "b", hboxNode(w, 100, 20, 0, inner)), 0,
			vboxNode(w, 10*u+120+2*gap, 0, 0, headAB, kernNode(gap), hboxNode(w, 100, 20, 0, inner), kernNode(gap), foot0)},
		{"an empty stack", pageOf("", "", vboxNode(w, 100, 0, 0)), 0,
			vboxNode(w, 4*u+100+2*gap, 0, 0, bare, kernNode(gap), vboxNode(w, 100, 0, 0), kernNode(gap), foot0)},
		{"an empty row", pageOf("", "", hboxNode(w, 0, 0, 0)), 12,
			vboxNode(w, 6*u+2*gap, 0, 0, bare, kernNode(gap), hboxNode(w, 0, 0, 0), kernNode(gap), foot12)},
		{"a head with a depth", pageOf("y", "y", vboxNode(w, 100, 20, 0)), 0,
			vboxNode(w, 11*u+120+2*gap, 0, 0, headYY, kernNode(gap), vboxNode(w, 100, 20, 0), kernNode(gap), foot0)},
		{"a box that is shifted", pageOf("a", "b", vboxNode(w, 100, 20, 7, inner)), 0,
			vboxNode(w+7, 10*u+120+2*gap, 0, 0, headAB, kernNode(gap), vboxNode(w, 100, 20, 7, inner), kernNode(gap), foot0)},
		{"a box that is shifted to the left", pageOf("a", "b", hboxNode(w, 100, 20, -7)), 0,
			vboxNode(w, 10*u+120+2*gap, 0, 0, headAB, kernNode(gap), hboxNode(w, 100, 20, -7), kernNode(gap), foot0)},
		{"a box in a box", pageOf("a", "b", vboxNode(w, 100, 20, 0, hboxNode(9, 8, 7, 6, vboxNode(1, 2, 3, 4)))), 12,
			vboxNode(w, 12*u+120+2*gap, 0, 0, headAB, kernNode(gap), vboxNode(w, 100, 20, 0, hboxNode(9, 8, 7, 6, vboxNode(1, 2, 3, 4))), kernNode(gap), foot12)},
		{"heights below 0", pageOf("a", "b", vboxNode(w, -50, -5, 0)), 0,
			vboxNode(w, 10*u-55+2*gap, 0, 0, headAB, kernNode(gap), vboxNode(w, -50, -5, 0), kernNode(gap), foot0)},
		{"no width", pageOf("a", "b", vboxNode(0, 100, 0, 0)), 0,
			vboxNode(0, 10*u+100+2*gap, 0, 0, hboxNode(0, 6*u, 0, 0, setLine(0, 'a'), fil(0), setLine(0, 'b')), kernNode(gap), vboxNode(0, 100, 0, 0), kernNode(gap), hboxNode(0, 4*u, 0, 0, fil(0), setLine(0, '0'), fil(0)))},
		{"a width below 0", pageOf("", "", hboxNode(-9, 100, 0, 0)), 0,
			vboxNode(0, 4*u+100+2*gap, 0, 0, hboxNode(-9, 0, 0, 0, fil(0)), kernNode(gap), hboxNode(-9, 100, 0, 0), kernNode(gap), hboxNode(-9, 4*u, 0, 0, fil(0), setLine(0, '0'), fil(0)))},
	} {
		if got := checkSheetBox(t, c.page, c.n); !same(got, c.want) {
			t.Errorf("%s: %+v, not %+v", c.what, got, c.want)
		}
	}
}

// Only the Box and the marks of a page count for its sheet.
func TestWhatASheetBoxTakesOfAPage(t *testing.T) {
	box := vboxNode(90*impl.Point, 100, 20, 0, stacked("a b"))
	plain := pageOf("first", "last", box)
	full := impl.Page{From: 7, To: -3, Cost: math.MaxInt64, Box: box, First: "first", Last: "last", Writes: []string{"a", "b"}}
	if got := checkSheetBox(t, full, 3); len(got) == 0 || !same(got, checkSheetBox(t, plain, 3)) {
		t.Error(got)
	}
}

func TestNumbersOfSheets(t *testing.T) {
	p := pageOf("a", "b", vboxNode(200*impl.Point, 100, 20, 0))
	for n, can := range map[int64]bool{0: true, 1: true, 2026: true, math.MaxInt64: true, -1: false, -2: false, math.MinInt64: false} {
		got := checkSheetBox(t, p, n)
		if can != (len(got) > 0) {
			t.Errorf("number %d: %+v", n, got)
		}
	}
}

func TestBoxesOfSheetsThatAreNone(t *testing.T) {
	for what, box := range noOneBox() {
		if got := checkSheetBox(t, pageOf("a", "b", box), 1); len(got) > 0 {
			t.Errorf("%s: %+v", what, got)
		}
	}
	for what, list := range noLists() {
		for _, box := range []nodes{list, vboxNode(1, 1, 1, 0, list)} {
			if got := checkSheetBox(t, pageOf("a", "b", box), 1); len(got) > 0 {
				t.Errorf("%s: %+v", what, short(got))
			}
		}
	}
	if got := checkSheetBox(t, impl.Page{}, 1); len(got) > 0 {
		t.Error("no page:", got)
	}
}

// Boxes that can be, but of which the sheet is as large as can be, or larger by one.
func TestSheetBoxesThatJustFit(t *testing.T) {
	t.Parallel()
	const taken = 2*786432 + 4*tenth // two gaps, and a foot of 0
	for _, c := range []struct {
		what      string
		first     string
		n         int64
		fit, past nodes
	}{
		{"Height", "", 0, vboxNode(1, maxLen-taken, 0, 0), vboxNode(1, maxLen-taken+1, 0, 0)},
		{"Height and Depth", "", 0, hboxNode(1, maxLen-taken-9, 9, 0), hboxNode(1, maxLen-taken-9, 10, 0)},
		{"Height, with a head", "a", 0, vboxNode(1, maxLen-taken-5*tenth, 0, 0), vboxNode(1, maxLen-taken-5*tenth+1, 0, 0)},
		{"Height, with a deep head", "y", 0, vboxNode(1, maxLen-taken-7*tenth, 0, 0), vboxNode(1, maxLen-taken-7*tenth+1, 0, 0)},
		{"Height, with a higher foot", "", 7, vboxNode(1, maxLen-taken-3*tenth, 0, 0), vboxNode(1, maxLen-taken-3*tenth+1, 0, 0)},
		{"Width and Shift", "a", 0, vboxNode(maxLen-9, 1, 1, 9), vboxNode(maxLen-9, 1, 1, 10)},
		{"boxes in one another", "a", 0, nest(40, nil, impl.NodeVbox), nest(41, nil, impl.NodeVbox)},
		{"notes in one another", "a", 0, hboxNode(1, 1, 1, 0, nest(39, nil, impl.NodeNote)), hboxNode(1, 1, 1, 0, nest(40, nil, impl.NodeNote))},
		{"nodes", "", 0, vboxNode(1, 1, 1, 0, manyNodes(19990)), vboxNode(1, 1, 1, 0, manyNodes(19991))},
		{"nodes, with a longer head", "ab", 0, vboxNode(1, 1, 1, 0, manyNodes(19988)), vboxNode(1, 1, 1, 0, manyNodes(19989))},
		{"nodes, with a longer foot", "", 123, vboxNode(1, 1, 1, 0, manyNodes(19988)), vboxNode(1, 1, 1, 0, manyNodes(19989))},
	} {
		if !impl.ListOk(c.fit) || !impl.ListOk(c.past) {
			t.Fatal(c.what, "is no list")
		}
		if got := checkSheetBox(t, pageOf(c.first, "", c.fit), c.n); len(got) == 0 || !impl.ListOk(got) {
			t.Errorf("%s that just fits: refused", c.what)
		}
		if got := checkSheetBox(t, pageOf(c.first, "", c.past), c.n); len(got) > 0 {
			t.Errorf("%s passed by one: %+v", c.what, short(got))
		}
	}
	for _, width := range []int64{maxLen, -maxLen} {
		if got := checkSheetBox(t, pageOf("a", "b", vboxNode(width, 1, 1, 0)), 1); len(got) == 0 || got[0].Width != max(width, 0) {
			t.Errorf("a width of %d: %+v", width, got)
		}
	}
}

// A mark that is too long for a line leaves its side of the head empty.
func TestSheetBoxesOfLongMarks(t *testing.T) {
	box, long := vboxNode(200*impl.Point, 1, 1, 0), strings.Repeat("x", 1001)
	if got := checkSheetBox(t, pageOf(long, "b", box), 1); len(got) == 0 || !same(got, impl.SheetBox(pageOf("", "b", box), 1)) {
		t.Errorf("%+v", short(got))
	}
}

// sheetTexts are the letters of each sheet's head, foot, and what is between.
func sheetTexts(sheets []nodes) []string {
	var out []string
	for _, sheet := range sheets {
		items := impl.Items(impl.Inside(sheet))
		out = append(out, lettersIn(items[0])+"|"+lettersIn(items[2])+"|"+lettersIn(items[4]))
	}
	return out
}

func TestSheetsKnown(t *testing.T) {
	for _, c := range []struct {
		what, stack string
		want        []string
	}{
		{"nothing", "", nil},
		{"what is discardable alone", " =.#!", nil},
		{"one page", "a b", []string{"|ab|1"}},
		{"pages without marks", "a!b!c", []string{"|a|1", "|b|2", "|c|3"}},
		{"empty pages are none", "!a!!=!b!", []string{"|a|1", "|b|2"}},
		{"a mark", "^a", []string{"mark0mark0|a|1"}},
		{"two marks", "^a^", []string{"mark0mark2|a|1"}},
		{"a mark that is carried over", "a^!b!c", []string{"mark1mark1|a|1", "mark1mark1|b|2", "mark1mark1|c|3"}},
		{"the last one is carried over", "^a^!b!^c^^!d", []string{"mark0mark2|a|1", "mark2mark2|b|2", "mark6mark9|c|3", "mark9mark9|d|4"}},
		{"a mark on the second page alone", "a!b^!c", []string{"|a|1", "mark3mark3|b|2", "mark3mark3|c|3"}},
		{"more than nine pages", "a!b!c!d!e!f!g!h!i!j!k", []string{"|a|1", "|b|2", "|c|3", "|d|4", "|e|5", "|f|6", "|g|7", "|h|8", "|i|9", "|j|10", "|k|11"}},
		{"writes are not seen", "a%!%b", []string{"|a|1", "|b|2"}},
		{"a page of a mark alone", "^!a", []string{"mark0mark0||1", "mark0mark0|a|2"}},
	} {
		got, _ := checkSheets(t, builtOf(300*impl.Point, stacked(c.stack)))
		if texts := sheetTexts(got); !slices.Equal(texts, c.want) {
			t.Errorf("%s: %q, not %q", c.what, texts, c.want)
		}
	}
}

// One sheet, by its numbers: a page with notes that is stretched, and as deep as pages may be.
func TestASheetByItsNumbers(t *testing.T) {
	const u, p, gap = tenth, impl.Point, 786432
	note := noteNode(1, 9*p, hboxNode(40*p, 5*p, 4*p, 0))
	b := builtOf(60*p, markNode("a"), hboxNode(90*p, 10*p, 2*p, 0), note, glueNode(glue(5*p, p, 0, 0, 0)), ruleNode(80*p, 7*p, p), markNode("b"))
	// 12, 5 plus 1, 8, 6 plus 2, and 9 points, of which 3 hang below: 23 more are wanted.
	page := vboxNode(90*p, 60*p, 3*p, 0, markNode("a"), hboxNode(90*p, 10*p, 2*p, 0), setGlueNode(glue(5*p, p, 0, 0, 0), 5*p+502443),
		ruleNode(80*p, 7*p, p), markNode("b"), setGlueNode(glue(6*p, 2*p, 0, 0, 0), 6*p+1004885), hboxNode(40*p, 5*p, 4*p, 0))
	head := hboxNode(90*p, 6*u, 0, 0, setLine(0, 'a'), fil(90*p-11*u), setLine(0, 'b'))
	foot := hboxNode(90*p, 5*u, 0, 0, fil((90*p-5*u)/2), setLine(0, '1'), fil((90*p-5*u)/2))
	want := vboxNode(90*p, 11*u+63*p+2*gap, 0, 0, head, kernNode(gap), page, kernNode(gap), foot)
	got, _ := checkSheets(t, b)
	if len(got) != 1 || !same(got[0], want) {
		t.Errorf("%+v, not %+v", got, want)
	}
}

// A page has a depth of 3 points at most.
func TestHowDeepSheetsArePages(t *testing.T) {
	const p = impl.Point
	for depth, want := range map[int64]int64{0: 0, 2 * p: 2 * p, 3*p - 1: 3*p - 1, 3 * p: 3 * p, 3*p + 1: 3 * p, 9 * p: 3 * p} {
		got, _ := checkSheets(t, builtOf(50*p, hboxNode(9, 20*p, depth, 0)))
		if len(got) != 1 || impl.Items(impl.Inside(got[0]))[2][0].Depth != want {
			t.Errorf("%d deep: %+v", depth, got)
		}
	}
}

// Notes on a page are at most as tall as half of it, rounded down.
func TestHowTallNotesOfSheetsAre(t *testing.T) {
	for _, height := range []int64{1000, 1001, 40 * impl.Point, 40*impl.Point + 1, 2, 3, 1} {
		half := height / 2
		for notes, want := range map[int64]int{half - 1: 1, half: 1, half + 1: 2} {
			b := builtOf(height, hboxNode(1, 0, 0, 0), kernNode(-6*impl.Point), noteNode(1, 0), penaltyNode(0), hboxNode(1, 0, 0, 0), noteNode(1, notes))
			if got, _ := checkSheets(t, b); len(got) != want {
				t.Errorf("notes of %d on pages of %d: %d sheets, not %d", notes, height, len(got), want)
			}
		}
	}
}

func TestHeightsOfSheets(t *testing.T) {
	const most = maxLen - 2*786432 - 5*tenth // of a page without a head, with a foot of 1
	for height, can := range map[int64]bool{
		0: true, 1: true, 2: true, 999: true, 1000: true, 300 * impl.Point: true, most - 1: true, most: true,
		most + 1: false, maxLen - 1: false, maxLen: false, maxLen + 1: false, 1 << 32: false, math.MaxInt64: false, -1: false, -2: false, -maxLen: false, math.MinInt64: false,
	} {
		b := builtOf(height, hboxNode(9, 0, 0, 0), writeNode("w"))
		got, refs := checkSheets(t, b)
		if can != (len(got) == 1) || can != (len(refs) == 1) {
			t.Errorf("Height %d: %+v %+v", height, got, refs)
		}
		if pages := impl.Pages(b.Nodes, sheetFor(height)); len(pages) > 0 != between(0, height, maxLen) {
			t.Errorf("Height %d: %d pages", height, len(pages))
		}
	}
}

// A page as tall as can be has a sheet when its Depth is far enough below 0; a taller one has none whatever stands on it.
func TestTheTallestPageOfASheet(t *testing.T) {
	const below = 2*786432 + 5*tenth
	for _, c := range []struct {
		height, depth int64
		can           bool
	}{{maxLen, -below, true}, {maxLen, 1 - below, false}, {maxLen, -maxLen, true}, {maxLen + 1, -below - 1, false}, {maxLen + 1, -maxLen, false}} {
		if got, _ := checkSheets(t, builtOf(c.height, ruleNode(9, 5, c.depth))); c.can != (len(got) == 1) {
			t.Errorf("Height %d, Depth %d: %+v", c.height, c.depth, got)
		}
	}
}

func TestNodesThatHaveNoSheets(t *testing.T) {
	for what, list := range noLists() {
		for _, ns := range []nodes{list, listed(stacked("%a!%"), list)} {
			if got, refs := checkSheets(t, builtOf(300*impl.Point, ns)); len(got)+len(refs) > 0 {
				t.Errorf("%s: %d sheets, %d refs", what, len(got), len(refs))
			}
		}
	}
	if got, refs := checkSheets(t, impl.Built{}); len(got)+len(refs) > 0 {
		t.Error("of nothing built:", got, refs)
	}
	marks := slices.Repeat(stacked("%"), impl.MaxStack)
	if got, refs := checkSheets(t, builtOf(300*impl.Point, marks)); len(got) != 1 || len(refs) != 1 {
		t.Error("MaxStack items:", len(got), len(refs))
	}
	if got, refs := checkSheets(t, builtOf(300*impl.Point, marks, stacked("%"))); len(got)+len(refs) > 0 {
		t.Error("one more than MaxStack items:", len(got), len(refs))
	}
}

// What was told while it was built is nothing to its sheets.
func TestNotesOfABuiltAreNotSet(t *testing.T) {
	b := builtOf(300*impl.Point, stacked("^%a!b"))
	plain, plainRefs := checkSheets(t, b)
	b.Notes = []string{"box dropped", "stray end"}
	got, refs := checkSheets(t, b)
	if len(got) != 2 || !same(got, plain) || !same(refs, plainRefs) {
		t.Error(got, refs)
	}
}

// A page that can be, of which no sheet can: one among others leaves no sheet at all.
func TestSheetsOfWhichOneCannotBe(t *testing.T) {
	t.Parallel()
	const tall, tallest = 300 * impl.Point, maxLen - 2*786432 - 7*tenth // a foot of 3 is 7 tenths
	for what, c := range map[string]struct {
		height    int64
		fit, past nodes
	}{
		"boxes in one another": {tall, nest(39, nil, impl.NodeHbox), nest(40, nil, impl.NodeHbox)},
		"nodes":                {tall, hboxNode(1, 1, 1, 0, manyNodes(19988)), hboxNode(1, 1, 1, 0, manyNodes(19989))},
		"a head":               {tallest, nil, markNode("a word")},
	} {
		for at := range 3 {
			pages := []nodes{stacked("%"), stacked("%"), stacked("%")}
			joined := func(ns nodes) impl.Built {
				pages[at] = append(stacked("%"), ns...)
				return builtOf(c.height, pages[0], stacked("!"), pages[1], stacked("!"), pages[2])
			}
			fit, past := joined(c.fit), joined(c.past)
			if got, refs := checkSheets(t, fit); len(got) != 3 || len(refs) != 1 {
				t.Errorf("%s at %d: %d sheets, %d refs", what, at, len(got), len(refs))
			}
			if pages := impl.Pages(past.Nodes, sheetFor(c.height)); len(pages) != 3 {
				t.Fatalf("%s at %d: %d pages", what, at, len(pages))
			}
			if got, refs := checkSheets(t, past); len(got)+len(refs) > 0 {
				t.Errorf("%s passed at %d: %d sheets, %d refs", what, at, len(got), len(refs))
			}
		}
	}
}
