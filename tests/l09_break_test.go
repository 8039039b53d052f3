package tests

import (
	"math"
	"reflect"
	"slices"
	"testing"

	"loop.example/g00014/impl"
)

// written is a row as one writes it: letters of Width 10, and a sign for each other kind.
func written(text string) nodes {
	signs := map[byte]nodes{
		' ': glueNode(glue(6, 3, 0, 2, 0)),
		'~': glueNode(glue(6, 1, 1, 0, 0)), // stretches as far as one wants
		'=': kernNode(10),
		'-': hyphenNode('-', 4, 3, 1),
		'!': penaltyNode(-10000),
		'?': penaltyNode(-9999),
		'<': penaltyNode(-50),
		'.': penaltyNode(0),
		'>': penaltyNode(50),
		':': penaltyNode(9999),
		'#': penaltyNode(10000),
		'|': ruleNode(10, 8, 3),
		'[': hboxNode(10, 9, 9, 1, charNode('i', 3, 4, 5), glueNode(glue(70, 1, 2, 1, 2))),
		'{': vboxNode(10, 9, 9, -1, glueNode(glue(70, 1, 2, 1, 2))),
		'^': markNode("a mark"),
		'%': writeNode("a write"),
		'*': noteNode(3, 4, charNode('n', 3, 4, 5), glueNode(glue(70, 1, 2, 1, 2))),
	}
	var out nodes
	for at := range len(text) {
		piece, ok := signs[text[at]]
		if !ok {
			piece = charNode(int64(text[at]), 10, 5, 2)
		}
		out = append(out, piece...)
	}
	return out
}

// plainStyle has lines so long, and nothing else of note.
func plainStyle(width int64) impl.Style {
	return impl.Style{Width: width, Tolerance: 1000, Line: 10, Hyphen: 50, Fill: glue(0, 1, 1, 0, 0)}
}

func TestStyleOkAtEachEdge(t *testing.T) {
	most := map[string]int64{"Width": maxLen, "Narrow": maxLen, "Hang": 4, "Tolerance": 10000, "Line": 10000, "Hyphen": 10000, "Double": 1000000, "Adjacent": 1000000}
	for _, base := range []impl.Style{{}, plainStyle(100)} {
		if !impl.StyleOk(base) {
			t.Error("refused:", base)
		}
		for name, high := range most {
			for _, c := range []struct {
				value int64
				want  bool
			}{{0, true}, {1, true}, {high - 1, true}, {high, true}, {-1, false}, {high + 1, false}, {math.MinInt64, false}, {math.MaxInt64, false}, {-high, false}} {
				s := base
				reflect.ValueOf(&s).Elem().FieldByName(name).SetInt(c.value)
				if got := impl.StyleOk(s); got != c.want {
					t.Errorf("StyleOk with %s %d: %v", name, c.value, got)
				}
				refuses(t, name, s, c.want)
			}
		}
		for _, name := range []string{"Left", "Right", "Fill"} {
			check := func(g impl.Glue, want bool) {
				s := base
				reflect.ValueOf(&s).Elem().FieldByName(name).Set(reflect.ValueOf(g))
				if got := impl.StyleOk(s); got != want {
					t.Errorf("StyleOk with %s %v: %v", name, g, got)
				}
				refuses(t, name, s, want)
			}
			for _, g := range edgeGlues() {
				check(g, true)
			}
			for _, g := range noGlues() {
				check(g, false)
			}
		}
	}
}

// refuses: a style that can't be has no breaks, no lines, no demerits and no paragraph; another one has all of these.
func refuses(t *testing.T, what string, s impl.Style, can bool) {
	t.Helper()
	ns := written("a b")
	breaks, line := impl.BreakList(ns, s), impl.LineOf(ns, s, -1, 5)
	n, ok := impl.Demerits(ns, s, []int64{1, 5})
	if can {
		if len(breaks) != 2 || len(line) == 0 || !ok {
			t.Errorf("a style with another %s is refused: %v %v %v", what, breaks, line, ok)
		}
		return
	}
	if len(breaks) > 0 || len(line) > 0 || n != 0 || ok || !same(impl.BreakPara(ns, s), impl.Broken{}) {
		t.Errorf("a style that can't be for its %s: %v %v %d %v", what, breaks, line, n, ok)
	}
}

func TestBreaksKnown(t *testing.T) {
	for _, c := range []struct {
		row  string
		want []int64
	}{
		{"", []int64{2}},
		{" ", []int64{2}},
		{"    ", []int64{2}},
		{"a", []int64{3}},
		{"a ", []int64{3}},
		{"a   ", []int64{3}},
		{"a b", []int64{1, 5}},
		{"a  b", []int64{1, 6}},
		{" a b ", []int64{2, 6}},
		{"ab cd ef", []int64{2, 5, 10}},
		// Behind what is discardable no line ends at a glue; behind all else one may.
		{"a= b", []int64{6}},
		{"a# b", []int64{6}},
		{"a. b", []int64{1, 6}},
		{"= b", []int64{5}},
		{"| b", []int64{1, 5}},
		{"[ b", []int64{1, 5}},
		{"{ b", []int64{1, 5}},
		{"- b", []int64{0, 1, 5}},
		{"^ b", []int64{1, 5}},
		{"% b", []int64{1, 5}},
		{"* b", []int64{1, 5}},
		{"a =b", []int64{1, 6}},
		// Penalties below 10000, wherever they stand.
		{"a#b", []int64{5}},
		{"a:b", []int64{1, 5}},
		{"a>b", []int64{1, 5}},
		{"a.b", []int64{1, 5}},
		{"a<b", []int64{1, 5}},
		{"a?b", []int64{1, 5}},
		{"a!b", []int64{1, 5}},
		{"..", []int64{0, 1, 4}},
		{".", []int64{0, 3}},
		{"!", []int64{0, 3}},
		{"#", []int64{3}},
		// Hyphens, even at the ends.
		{"-", []int64{0, 3}},
		{"a-b", []int64{1, 5}},
		{"a--b-", []int64{1, 2, 4, 7}},
		// No kern.
		{"a=b", []int64{5}},
		// Only glues at the end are left out.
		{"a =", []int64{1, 5}},
		{"a .", []int64{1, 2, 5}},
		{"a . ", []int64{1, 2, 5}},
		{"a = = ", []int64{1, 7}},
		{"a #  ", []int64{1, 5}},
		{"a [", []int64{1, 5}},
		{"a {", []int64{1, 5}},
		{"a *", []int64{1, 5}},
		{"a [ ", []int64{1, 5}},
		// What stands in a box or a note is of no account, and they are one item each.
		{"[[[", []int64{5}},
		{"*{[ a", []int64{3, 7}},
	} {
		for _, s := range []impl.Style{{}, plainStyle(50)} {
			if got := checkBreaks(t, written(c.row), s); !slices.Equal(got, c.want) {
				t.Errorf("BreakList(%q) = %v, not %v", c.row, got, c.want)
			}
		}
	}
}

func TestTheGreatestRows(t *testing.T) {
	s := plainStyle(5000)
	most := slices.Repeat(written("a"), impl.MaxRow)
	over := append(slices.Clone(most), written("a")...)
	glues := append(slices.Clone(most[1:]), written("  ")...) // those at the end are of the row, too
	boxes := slices.Repeat(written("[{*a"), impl.MaxRow/4)
	for _, c := range []struct {
		what string
		row  nodes
		can  bool
	}{
		{"MaxRow letters", most, true},
		{"one more", over, false},
		{"MaxRow with a glue at the end", glues[:len(glues)-1], true},
		{"one more glue at the end", glues, false},
		{"MaxRow boxes, notes and letters", boxes, true},
		{"one more behind boxes", append(slices.Clone(boxes), penaltyNode(10000)...), false},
		{"glues alone", slices.Repeat(written(" "), impl.MaxRow), true},
		{"one more glue", slices.Repeat(written(" "), impl.MaxRow+1), false},
	} {
		breaks := checkBreaks(t, c.row, s)
		if (len(breaks) == 1) != c.can {
			t.Errorf("%s: %v", c.what, breaks)
		}
		end := int64(impl.MaxRow + 2)
		if c.can {
			end = breaks[0]
		}
		_, ok := checkDemerits(t, c.row, s, []int64{end})
		line := checkLine(t, c.row, s, -1, end)
		if ok != c.can || (len(line) > 0) != c.can {
			t.Errorf("%s: demerits %v, a line of %d", c.what, ok, len(line))
		}
		if !c.can && !same(impl.BreakPara(c.row, s), impl.Broken{}) {
			t.Errorf("%s: is a paragraph", c.what)
		}
	}
}

func TestTheMostBreaks(t *testing.T) {
	s := plainStyle(200)
	for what, piece := range map[string]nodes{"glues": written("a "), "hyphens": written("a-"), "penalties": written("a."), "forced": written("a!")} {
		row := append(slices.Repeat(piece, impl.MaxBreaks-1), written("b")...)
		breaks := checkBreaks(t, row, s)
		if len(breaks) != impl.MaxBreaks {
			t.Errorf("%d %s: %d breaks", impl.MaxBreaks-1, what, len(breaks))
		}
		got := impl.BreakPara(row, s)
		if d, ok := checkDemerits(t, row, s, got.Breaks); !ok || d != got.Demerits || len(got.Lines) == 0 {
			t.Errorf("MaxBreaks breaks, %s: %v", what, got.Breaks)
		}
		over := append(slices.Clone(piece), row...)
		last := int64(2*impl.MaxBreaks + 3)
		if got := checkBreaks(t, over, s); len(got) != 0 {
			t.Errorf("more than MaxBreaks %s: %d", what, len(got))
		}
		if !same(impl.BreakPara(over, s), impl.Broken{}) || len(checkLine(t, over, s, -1, last)) > 0 {
			t.Errorf("more than MaxBreaks %s are a paragraph", what)
		}
		if _, ok := checkDemerits(t, over, s, []int64{last}); ok {
			t.Errorf("more than MaxBreaks %s have demerits", what)
		}
	}
}

// framed is a line as it is told: with the glues of the style around it.
func framed(s impl.Style, line nodes) nodes {
	return listed(glueNode(s.Left), line, glueNode(s.Right))
}

func TestLinesKnown(t *testing.T) {
	dash := charNode('-', 4, 3, 1)
	plain, wide := plainStyle(50), plainStyle(50)
	wide.Left, wide.Right = glue(7, 1, 1, 2, 0), glue(-8, 0, 3, 9, 2)
	for _, s := range []impl.Style{plain, wide} {
		end := listed(penaltyNode(10000), glueNode(s.Fill))
		for _, c := range []struct {
			row      string
			from, to int64
			want     nodes
		}{
			{"", -1, 2, nil},
			{"  ", -1, 2, nil},
			{"a", -1, 3, listed(written("a"), end)},
			{"ab cd", -1, 2, written("ab")},
			{"ab cd", 2, 7, listed(written("cd"), end)},
			{"ab cd", -1, 7, listed(written("ab cd"), end)},
			{"ab cd ", -1, 7, listed(written("ab cd"), end)},
			// Discardable items that come first, from the beginning and from each kind of break.
			{" =#ab", -1, 7, listed(written("ab"), end)},
			{"a  =#. b", 1, 5, nil},
			{"a  =#. b", 5, 10, listed(written("b"), end)},
			{"a  =#. b", 1, 10, listed(written("b"), end)},
			{"a  =#. b", -1, 5, written("a  =#")},
			{"a. = b c", 1, 6, written("b")},
			{"a- = b c", 1, 6, written("b")},
			{"a! = b c", 1, 6, written("b")},
			// To each kind of break.
			{"ab cd.ef-gh", 2, 5, written("cd")},
			{"ab cd.ef-gh", 2, 8, listed(written("cd.ef"), dash)},
			{"ab cd.ef-gh", 5, 8, listed(written("ef"), dash)},
			{"ab cd.ef-gh", 8, 13, listed(written("gh"), end)},
			{"ab cd.ef-gh", -1, 13, listed(written("ab cd.efgh"), end)},
			{"a!b!c", -1, 3, written("a!b")}, // that a break of cost -10000 is left out is not asked here
			{"a!b!c", 1, 3, written("b")},
			// Hyphens within are left out, but for the one at which the line ends.
			{"a-b-c", -1, 3, listed(written("ab"), dash)},
			{"a-b-c", 1, 3, listed(written("b"), dash)},
			{"a--c", 1, 2, dash},
			{"a--c", -1, 2, listed(written("a"), dash)},
			{"-", -1, 0, dash},
			{"-", -1, 3, end},
			{"-", 0, 3, nil},
			{" =-", -1, 2, dash},
			// A hyphen is not discardable: what comes behind it stays, though it is left out.
			{"a - =b c", 1, 6, written(" =b")},
			{"a - =b c", 2, 6, written("b")},
			{"-=.", -1, 2, written("=")},
			// Lines in which all is discardable are empty.
			{"a.=.b", 1, 3, nil},
			{"a..b", 1, 2, nil},
			{"a...", 1, 6, nil},
			{"a...", 3, 6, nil},
			// What belongs to boxes and notes comes along.
			{"[{*^%| [*", -1, 6, written("[{*^%|")},
			{"[{*^%| [*", 6, 11, listed(written("[*"), end)},
			{"^ * %", 1, 3, written("*")},
		} {
			if got := checkLine(t, written(c.row), s, c.from, c.to); !same(got, framed(s, c.want)) {
				t.Errorf("LineOf(%q, %d, %d) = %+v, not %+v", c.row, c.from, c.to, got, framed(s, c.want))
			}
		}
	}
}

// What is set in the row is set in the line: its nodes are those of the row.
func TestLinesKeepTheirNodes(t *testing.T) {
	s := plainStyle(50)
	row := listed(charNode('a', 1, 2, 3), setGlueNode(glue(1, 2, 3, 1, 0), 55), hboxNode(5, 4, 3, 2, setGlueNode(glue(9, 0, 0, 0, 0), 66)), kernNode(-3), charNode('b', 4, 5, 6))
	if got := checkLine(t, row, s, -1, 7); !same(got, framed(s, listed(row, penaltyNode(10000), glueNode(s.Fill)))) {
		t.Error(got)
	}
}

func TestLinesThatAreNone(t *testing.T) {
	s := plainStyle(50)
	row := written("ab cd=e-f!g#h")
	breaks := []int64{2, 7, 9, 15}
	if got := checkBreaks(t, row, s); !slices.Equal(got, breaks) {
		t.Fatal(got)
	}
	numbers := append([]int64{-2, -1, math.MinInt64, math.MaxInt64, 1 << 32, 1<<32 + 2}, breaks...)
	for at := range int64(20) {
		numbers = append(numbers, at)
	}
	for _, from := range numbers {
		for _, to := range numbers {
			begins := from == -1 || slices.Contains(breaks, from)
			want := begins && slices.Contains(breaks, to) && from < to
			if got := checkLine(t, row, s, from, to); (len(got) > 0) != want {
				t.Errorf("LineOf from %d to %d: %+v", from, to, got)
			}
		}
	}
	for what, ns := range noLists() {
		if got := checkLine(t, ns, s, -1, 3); len(got) > 0 {
			t.Errorf("a line of %s: %+v", what, got)
		}
		if got := checkBreaks(t, ns, s); len(got) > 0 {
			t.Errorf("breaks of %s: %v", what, got)
		}
		if _, ok := checkDemerits(t, ns, s, []int64{3}); ok {
			t.Errorf("demerits of %s", what)
		}
		if got := impl.BreakPara(ns, s); !same(got, impl.Broken{}) {
			t.Errorf("a paragraph of %s: %v", what, got)
		}
	}
}

// noLists can't be, each for one reason; each has one item, and would have its last break at 3.
func noLists() map[string]nodes {
	return map[string]nodes{
		"no kind":                    {{Kind: 0}},
		"a kind too high":            {{Kind: 12}},
		"a char with a Shift":        {{Kind: impl.NodeChar, Shift: 1}},
		"a penalty that is too high": penaltyNode(10001),
		"a glue that can't be":       glueNode(glue(0, 0, 4, 0, 0)),
		"a width that is too long":   kernNode(maxLen + 1),
		"a box that lacks Kids":      {{Kind: impl.NodeHbox, Kids: 1}},
		"a box too deep":             nest(42, nil, impl.NodeHbox),
		"a box of what can't be":     hboxNode(1, 1, 1, 0, nodes{{Kind: impl.NodeMark, N: 1}}),
		"too many nodes":             hboxNode(1, 1, 1, 0, manyNodes(impl.MaxNodes)),
	}
}
