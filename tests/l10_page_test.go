package tests

import (
	"math"
	"reflect"
	"slices"
	"strconv"
	"testing"

	"loop.example/g00014/impl"
)

// stacked is a stack as one writes it: letters are boxes of Height 10, and each other kind has a sign. Marks and writes tell where they stand.
func stacked(text string) nodes {
	signs := map[byte]nodes{
		' ': glueNode(glue(2, 1, 0, 1, 0)),
		'~': glueNode(glue(2, 1, 1, 0, 0)), // stretches as far as one wants
		'=': kernNode(4),
		'/': kernNode(-20),
		'!': penaltyNode(-10000),
		'?': penaltyNode(-9999),
		'<': penaltyNode(-50),
		'.': penaltyNode(0),
		'>': penaltyNode(50),
		':': penaltyNode(9999),
		'#': penaltyNode(10000),
		'|': ruleNode(10, 6, 4),
		'D': hboxNode(10, 10, 6, 0),
		'V': vboxNode(10, 10, 0, 2, glueNode(glue(70, 1, 2, 1, 2))),
		'*': noteNode(3, 5, hboxNode(4, 5, 0, 0)),
		'+': noteNode(4, 12, hboxNode(4, 5, 0, 0), glueNode(glue(2, 1, 0, 1, 0)), hboxNode(4, 3, 2, 0)),
		'_': noteNode(5, 0),
		'-': hyphenNode('-', 4, 3, 1),
		'C': charNode('C', 10, 20, 30),
	}
	var out nodes
	for at := range len(text) {
		piece, ok := signs[text[at]]
		switch {
		case text[at] == '^':
			piece = markNode("mark " + strconv.Itoa(at))
		case text[at] == '%':
			piece = writeNode("write " + strconv.Itoa(at))
		case !ok:
			piece = hboxNode(10, 10, 0, 0, charNode(int64(text[at]), 9, 9, 0))
		}
		out = append(out, piece...)
	}
	return out
}

// plainSheet has pages so tall.
func plainSheet(height int64) impl.Sheet {
	return impl.Sheet{Height: height, Deep: 3, Gap: glue(3, 0, 0, 0, 0), Notes: 12}
}

func TestSheetOkAtEachEdge(t *testing.T) {
	for _, base := range []impl.Sheet{{}, plainSheet(100)} {
		for _, name := range []string{"Height", "Deep", "Notes"} {
			for _, c := range []struct {
				value int64
				want  bool
			}{{0, true}, {1, true}, {maxLen - 1, true}, {maxLen, true}, {-1, false}, {maxLen + 1, false}, {-maxLen, false}, {math.MinInt64, false}, {math.MaxInt64, false}} {
				s := base
				reflect.ValueOf(&s).Elem().FieldByName(name).SetInt(c.value)
				refusesSheet(t, name, s, c.want)
			}
		}
		for _, g := range edgeGlues() {
			s := base
			s.Gap = g
			refusesSheet(t, "Gap", s, true)
		}
		for _, g := range noGlues() {
			s := base
			s.Gap = g
			refusesSheet(t, "Gap", s, false)
		}
	}
}

// refusesSheet: a sheet that can't be has no pages; another one has some.
func refusesSheet(t *testing.T, what string, s impl.Sheet, can bool) {
	t.Helper()
	ns := stacked("_~")
	if got := impl.SheetOk(s); got != can {
		t.Errorf("SheetOk(%+v) = %v", s, got)
	}
	page, cost := checkPage(t, ns, s, 0, 2)
	next := checkNextBreak(t, ns, s, 0)
	if can {
		if len(page) != 2 || next < 1 {
			t.Errorf("a sheet with another %s is refused: %v %d", what, page, next)
		}
		return
	}
	pages, body := checkPages(t, ns, s)
	if len(page) > 0 || cost != impl.NoCost || next != -1 || len(pages) > 0 || len(body) > 0 {
		t.Errorf("a sheet that can't be for its %s: %v %d %d %v %v", what, page, cost, next, pages, body)
	}
}

func TestPageBreaksKnown(t *testing.T) {
	for _, c := range []struct {
		stack string
		want  []int64
	}{
		{"", []int64{0}},
		{" ", []int64{1}},
		{"   ", []int64{3}},
		{"a", []int64{1}},
		{"a ", []int64{1, 2}},
		{"a b", []int64{1, 3}},
		{" a b ", []int64{2, 4, 5}},
		{"a  b", []int64{1, 4}},
		// Behind what is discardable no page ends at a glue; behind all else one may.
		{"a= b", []int64{4}},
		{"a# b", []int64{4}},
		{"a. b", []int64{1, 4}},
		{"| b", []int64{1, 3}},
		{"V b", []int64{1, 3}},
		{"* b", []int64{1, 3}},
		{"_ b", []int64{1, 3}},
		{"^ b", []int64{1, 3}},
		{"% b", []int64{1, 3}},
		{"- b", []int64{1, 3}},
		{"C b", []int64{1, 3}},
		// Penalties below 10000, wherever they stand.
		{"a#b", []int64{3}},
		{"a:b", []int64{1, 3}},
		{"a>b", []int64{1, 3}},
		{"a.b", []int64{1, 3}},
		{"a<b", []int64{1, 3}},
		{"a?b", []int64{1, 3}},
		{"a!b", []int64{1, 3}},
		{"..", []int64{0, 1, 2}},
		{"!", []int64{0, 1}},
		{"#", []int64{1}},
		// No kern, and nothing of what stands in a box or a note.
		{"a=b", []int64{3}},
		{"VVV", []int64{3}},
		{"+V+", []int64{3}},
	} {
		if got := checkPageBreaks(t, stacked(c.stack)); !slices.Equal(got, c.want) {
			t.Errorf("PageBreaks(%q) = %v, not %v", c.stack, got, c.want)
		}
	}
}

func TestPagesToBreaksKnown(t *testing.T) {
	gap := glueNode(glue(3, 0, 0, 0, 0))
	small, inner := hboxNode(4, 5, 0, 0), stacked("+")[1:]
	for _, c := range []struct {
		stack    string
		from, to int64
		want     nodes
	}{
		{"", 0, 0, nil},
		{"a", 0, 1, stacked("a")},
		{"a", 1, 1, nil},
		{"a b", 0, 1, stacked("a")},
		{"a b", 1, 1, nil},
		{"a b", 2, 3, stacked("b")},
		{"a b", 0, 3, stacked("a b")},
		{"a b", 1, 3, stacked("b")},
		{"a b ", 0, 4, stacked("a b ")},
		// From 0 and from behind each kind of break, with discardable items first.
		{" =#.a", 0, 5, stacked("a")},
		{"a =#.b c", 2, 6, stacked("b")},
		{"a. =b c", 2, 5, stacked("b")},
		{"a! =b c", 2, 5, stacked("b")},
		{"a =. b", 2, 3, nil},
		{"a =. b", 1, 6, stacked("b")},
		{"a =. b", 0, 3, stacked("a =")},
		{"...", 1, 2, nil},
		// To each kind of break; what a break is stands on no page, but those within do.
		{"a:b>c.d<e?f!g h", 0, 13, stacked("a:b>c.d<e?f!g")},
		{"a:b>c.d<e?f!g h", 4, 9, stacked("c.d<e")},
		{"a:b>c.d<e?f!g h", 0, 11, stacked("a:b>c.d<e?f")},
		{"a:b>c.d<e?f!g h", 12, 15, stacked("g h")},
		// Notes: none, one, several, with several items, with nothing.
		{"a*b c", 0, 3, listed(stacked("ab"), gap, small)},
		{"a*b+ c", 0, 4, listed(stacked("ab"), gap, small, inner)},
		{"a+b* c", 0, 4, listed(stacked("ab"), gap, inner, small)},
		{"a*b+ c", 5, 6, stacked("c")},
		{"a*b+ c", 2, 6, listed(stacked("b c"), gap, inner)},
		{"a_b", 0, 3, listed(stacked("ab"), gap)},
		{"_", 0, 1, gap},
		{"*", 0, 1, listed(gap, small)},
		{"__a+_", 0, 5, listed(stacked("a"), gap, inner)},
		// A note is not discardable: what comes behind it stays.
		{" * =b", 0, 5, listed(stacked(" =b"), gap, small)},
		// So are marks and writes.
		{"^ =b", 0, 4, stacked("^ =b")},
		{"- =b", 0, 4, stacked("- =b")},
		// What belongs to boxes comes along.
		{"aVb ", 0, 3, stacked("aVb")},
		{"|CV-", 0, 4, stacked("|CV-")},
	} {
		if got, _ := checkPage(t, stacked(c.stack), plainSheet(30), c.from, c.to); !same(got, c.want) {
			t.Errorf("PageOf(%q, %d, %d) = %+v, not %+v", c.stack, c.from, c.to, got, c.want)
		}
	}
}

// Only the notes that are items move: those in boxes stay there, and what is set stays set.
func TestPagesKeepTheirNodes(t *testing.T) {
	inner := hboxNode(5, 4, 3, 2, setGlueNode(glue(9, 0, 0, 0, 0), 66), noteNode(1, 2, kernNode(7)), writeNode("w"))
	outer := noteNode(2, 9, setGlueNode(glue(8, 0, 0, 0, 0), 77), noteNode(3, 4, ruleNode(1, 2, 3)), inner)
	ns := listed(inner, setGlueNode(glue(1, 2, 3, 1, 0), 55), outer, ruleNode(1, 1, 1))
	s := plainSheet(30)
	want := listed(inner, setGlueNode(glue(1, 2, 3, 1, 0), 55), ruleNode(1, 1, 1), glueNode(s.Gap), outer[1:])
	if got, _ := checkPage(t, ns, s, 0, 4); !same(got, want) {
		t.Errorf("%+v, not %+v", got, want)
	}
	if _, body := checkPages(t, ns, s); !same(body, ns) {
		t.Errorf("the body of one page: %+v", body)
	}
}

func TestThePagesThatAreNone(t *testing.T) {
	s := plainSheet(30)
	ns := stacked("a b= c!d#e*f g")
	breaks := []int64{1, 6, 12, 14}
	if got := checkPageBreaks(t, ns); !slices.Equal(got, breaks) {
		t.Fatal(got)
	}
	numbers := []int64{-2, -1, math.MinInt64, math.MaxInt64, 1 << 32, 1<<32 + 1}
	for at := range int64(17) {
		numbers = append(numbers, at)
	}
	for _, from := range numbers {
		if got := checkNextBreak(t, ns, s, from); (got >= 0) != (from >= 0 && from <= 14) {
			t.Errorf("NextBreak from %d: %d", from, got)
		}
		for _, to := range numbers {
			can := slices.Contains(breaks, to) && from >= 0 && from <= to
			page, cost := checkPage(t, ns, s, from, to)
			if !can && (len(page) > 0 || cost != impl.NoCost) {
				t.Errorf("PageOf from %d to %d: %+v %d", from, to, page, cost)
			}
		}
	}
}

func TestStacksThatAreNone(t *testing.T) {
	s := plainSheet(30)
	for what, ns := range noLists() {
		pages, body := checkPages(t, ns, s)
		page, cost := checkPage(t, ns, s, 0, 1)
		next := checkNextBreak(t, ns, s, 0)
		if len(checkPageBreaks(t, ns)) > 0 || len(pages) > 0 || len(body) > 0 || len(page) > 0 || cost != impl.NoCost || next != -1 {
			t.Errorf("%s has pages: %v %v %v %d %d", what, pages, body, page, cost, next)
		}
	}
}

func TestTheGreatestStacks(t *testing.T) {
	s := plainSheet(30)
	for what, piece := range map[string]nodes{
		"marks": stacked("^"), "glues": stacked(" "), "boxes": stacked("V"), "notes": stacked("*"), "penalties": stacked("."),
	} {
		most := slices.Repeat(piece, impl.MaxStack)
		over := append(slices.Clone(most), piece...)
		if what == "glues" { // so that no page is overfull, and it stands
			s.Height = maxLen
		}
		if got := checkPageBreaks(t, most); len(got) == 0 || got[len(got)-1] != impl.MaxStack {
			t.Errorf("MaxStack %s: %d breaks", what, len(got))
		}
		if got := impl.NextBreak(most, s, 0); got < 0 {
			t.Errorf("MaxStack %s: no next break", what)
		}
		if got := impl.NextBreak(most, s, impl.MaxStack); got != impl.MaxStack {
			t.Errorf("MaxStack %s: %d from the end", what, got)
		}
		page, cost := impl.PageOf(over, s, 0, impl.MaxStack+1), impl.PageCost(over, s, 0, impl.MaxStack+1)
		if len(impl.PageBreaks(over)) > 0 || len(page) > 0 || cost != impl.NoCost || impl.NextBreak(over, s, 0) != -1 || len(impl.Pages(over, s)) > 0 || len(impl.Body(over, s)) > 0 {
			t.Errorf("more than MaxStack %s have pages", what)
		}
	}
	marks := slices.Repeat(stacked("^"), impl.MaxStack)
	if got := impl.PageOf(marks, s, 0, impl.MaxStack); !same(got, marks) {
		t.Error("MaxStack marks are no page")
	}
	if got := impl.Body(marks, s); !same(got, marks) {
		t.Error("MaxStack marks are not on a page")
	}
}
