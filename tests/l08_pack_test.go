package tests

import (
	"math"
	"slices"
	"testing"

	"loop.example/g00014/impl"
)

const maxLen = impl.MaxLen

// packCase is a list, how it is packed, and what comes of it: the box, the widths of its glues, and how they are set.
type packCase struct {
	what             string
	list             nodes
	mode, size, deep int64
	box              impl.Node
	widths           []int64
	set              impl.Setting
}

func (c packCase) check(t *testing.T, down bool) {
	t.Helper()
	c.box.Kind, c.box.Kids = impl.NodeHbox, int64(len(c.list))
	if down {
		c.box.Kind = impl.NodeVbox
	}
	want := append(nodes{c.box}, c.list...)
	widths := c.widths
	for at := 1; at < len(want); at += 1 + int(want[at].Kids) {
		if want[at].Kind == impl.NodeGlue {
			want[at].Width, widths = widths[0], widths[1:]
		}
	}
	got := checkPack(t, c.list, down, c.mode, c.size, c.deep)
	if !same(got.Nodes, want) || got.Set != c.set {
		t.Errorf("%s: %+v %v, not %+v %v", c.what, got.Nodes, got.Set, want, c.set)
	}
}

func frame(width, height, depth int64) impl.Node {
	return impl.Node{Width: width, Height: height, Depth: depth}
}

var natural impl.Setting

func TestRowsKnown(t *testing.T) {
	a, b := charNode('a', 100, 50, 10), charNode('b', 60, 40, 20)
	word := glueNode(glue(20, 30, 0, 8, 0))
	for _, c := range []packCase{
		{"nothing", nil, 0, 0, 0, frame(0, 0, 0), nil, natural},
		{"nothing, to a size", nil, 1, 9, 0, frame(9, 0, 0), nil, impl.Setting{Sign: 1, Want: 9, Bad: impl.MaxBad}},
		{"nothing, to less than nothing", nil, 1, -9, 0, frame(-9, 0, 0), nil, impl.Setting{Sign: -1, Want: 9, Bad: impl.Overfull, Over: 9}},
		{"nothing, and more", nil, 2, 9, 0, frame(9, 0, 0), nil, impl.Setting{Sign: 1, Want: 9, Bad: impl.MaxBad}},
		{"as it is", listed(a, word, b), 0, 7, 0, frame(180, 50, 20), []int64{20}, natural},
		{"to its length", listed(a, word, b), 1, 180, 0, frame(180, 50, 20), []int64{20}, natural},
		{"to more", listed(a, word, b), 1, 195, 0, frame(195, 50, 20), []int64{35}, impl.Setting{Sign: 1, Want: 15, Have: 30, Bad: 13}},
		{"to less", listed(a, word, b), 1, 176, 0, frame(176, 50, 20), []int64{16}, impl.Setting{Sign: -1, Want: 4, Have: 8, Bad: 13}},
		{"and more", listed(a, word, b), 2, 15, 0, frame(195, 50, 20), []int64{35}, impl.Setting{Sign: 1, Want: 15, Have: 30, Bad: 13}},
		{"and less", listed(a, word, b), 2, -4, 0, frame(176, 50, 20), []int64{16}, impl.Setting{Sign: -1, Want: 4, Have: 8, Bad: 13}},
		{"overfull", listed(a, word, b), 1, 170, 0, frame(170, 50, 20), []int64{12}, impl.Setting{Sign: -1, Want: 10, Have: 8, Bad: impl.Overfull, Over: 2}},
		{"overfull without a glue", listed(a, b), 1, 150, 0, frame(150, 50, 20), nil, impl.Setting{Sign: -1, Want: 10, Bad: impl.Overfull, Over: 10}},
		{"underfull", listed(a, glueNode(glue(20, 0, 0, 9, 0)), b), 1, 190, 0, frame(190, 50, 20), []int64{20}, impl.Setting{Sign: 1, Want: 10, Bad: impl.MaxBad}},
		{"a glue that was set", listed(a, setGlueNode(glue(20, 30, 0, 8, 0), 777)), 1, 125, 0, frame(125, 50, 10), []int64{25}, impl.Setting{Sign: 1, Want: 5, Have: 30, Bad: 0}},
		{"a kern", listed(a, kernNode(-30), b, kernNode(7)), 0, 0, 0, frame(137, 50, 20), nil, natural},
		{"a rule", listed(a, ruleNode(5, 90, 80)), 0, 0, 0, frame(105, 90, 80), nil, natural},
		{"sizes below 0", listed(charNode('c', -5, -6, -7), ruleNode(-1, -2, -3), hboxNode(-3, -4, -5, 0)), 0, 0, 0, frame(-9, 0, 0), nil, natural},
		{"a box", listed(a, hboxNode(30, 70, 60, 0, b), vboxNode(8, 20, 90, 0, a)), 0, 0, 0, frame(138, 70, 90), nil, natural},
		{"a box that is moved down", listed(hboxNode(30, 70, 60, 15)), 0, 0, 0, frame(30, 55, 75), nil, natural},
		{"a box that is moved up", listed(vboxNode(30, 70, 60, -15)), 0, 0, 0, frame(30, 85, 45), nil, natural},
		{"boxes that are moved far", listed(vboxNode(30, 70, 60, -100), hboxNode(1, 2, 3, 200)), 0, 0, 0, frame(31, 170, 203), nil, natural},
		{"a box far below", listed(hboxNode(1, 2, 3, 200)), 0, 0, 0, frame(1, 0, 203), nil, natural},
		{"what counts nothing", listed(hyphenNode('-', 9, 99, 99), penaltyNode(-5), markNode("m"), writeNode("w"), noteNode(1, 99, b, word), a), 0, 0, 0, frame(100, 50, 10), nil, natural},
		{"glues in boxes", listed(hboxNode(10, 1, 1, 0, word), word), 1, 35, 0, frame(35, 1, 1), []int64{25}, impl.Setting{Sign: 1, Want: 5, Have: 30}},
	} {
		c.check(t, false)
	}
}

func TestStacksKnown(t *testing.T) {
	a, r := charNode('a', 100, 50, 10), ruleNode(40, 6, 5)
	gap := glueNode(glue(20, 30, 0, 8, 0))
	line := hboxNode(90, 12, 4, 0, a)
	for _, c := range []packCase{
		{"nothing", nil, 0, 0, 0, frame(0, 0, 0), nil, natural},
		{"nothing, to a size", nil, 1, 9, 5, frame(0, 9, 0), nil, impl.Setting{Sign: 1, Want: 9, Bad: impl.MaxBad}},
		{"as it is", listed(line, gap, line), 0, 7, 9, frame(90, 48, 4), []int64{20}, natural},
		{"to more", listed(line, gap, line), 1, 63, 9, frame(90, 63, 4), []int64{35}, impl.Setting{Sign: 1, Want: 15, Have: 30, Bad: 13}},
		{"and less", listed(line, gap, line), 2, -4, 9, frame(90, 44, 4), []int64{16}, impl.Setting{Sign: -1, Want: 4, Have: 8, Bad: 13}},
		{"overfull", listed(line, gap, line), 1, 38, 9, frame(90, 38, 4), []int64{12}, impl.Setting{Sign: -1, Want: 10, Have: 8, Bad: impl.Overfull, Over: 2}},
		{"underfull", listed(line, kernNode(3), line), 1, 40, 9, frame(90, 40, 4), nil, impl.Setting{Sign: 1, Want: 9, Bad: impl.MaxBad}},
		{"a last rule", listed(line, r), 0, 0, 9, frame(90, 22, 5), nil, natural},
		{"a last rule, deep 0", listed(line, r), 0, 0, 0, frame(90, 27, 0), nil, natural},
		{"a last rule, deep less than its Depth", listed(line, r), 0, 0, 4, frame(90, 23, 4), nil, natural},
		{"a last rule, deep as its Depth", listed(line, r), 0, 0, 5, frame(90, 22, 5), nil, natural},
		{"a last rule, deep MaxLen", listed(line, r), 0, 0, maxLen, frame(90, 22, 5), nil, natural},
		{"a last hbox", listed(r, line), 0, 0, 3, frame(90, 24, 3), nil, natural},
		{"a last vbox", listed(r, vboxNode(9, 8, 7, 0, r)), 0, 0, 3, frame(40, 23, 3), nil, natural},
		{"a last glue", listed(line, gap), 0, 0, 9, frame(90, 36, 0), []int64{20}, natural},
		{"a last kern", listed(line, kernNode(20)), 0, 0, 9, frame(90, 36, 0), nil, natural},
		{"a last kern below 0", listed(line, kernNode(-20)), 0, 0, 9, frame(90, -4, 0), nil, natural},
		{"a last penalty", listed(line, penaltyNode(20)), 0, 0, 9, frame(90, 16, 0), nil, natural},
		{"a last mark", listed(line, markNode("m")), 0, 0, 9, frame(90, 16, 0), nil, natural},
		{"a last char", listed(line, a), 0, 0, 9, frame(90, 16, 0), nil, natural},
		{"a last note", listed(line, noteNode(0, 5, r)), 0, 0, 9, frame(90, 16, 0), nil, natural},
		{"a Depth below 0", listed(line, ruleNode(1, 6, -5)), 0, 0, 3, frame(90, 22, -5), nil, natural},
		{"a Depth below 0, deep 0", listed(line, hboxNode(1, 6, -5, 0)), 0, 0, 0, frame(90, 22, -5), nil, natural},
		{"a Depth below 0 ahead", listed(ruleNode(1, 6, -5), line), 0, 0, 9, frame(90, 13, 4), nil, natural},
		{"what is more counts to the height", listed(gap, r), 1, 29, 2, frame(40, 29, 2), []int64{20}, natural},
		{"what is more is shared", listed(gap, r), 1, 44, 2, frame(40, 44, 2), []int64{35}, impl.Setting{Sign: 1, Want: 15, Have: 30, Bad: 13}},
		{"a box that is moved right", listed(hboxNode(90, 1, 0, 15), r), 0, 0, 9, frame(105, 7, 5), nil, natural},
		{"a box that is moved left", listed(vboxNode(90, 1, 0, -15), r), 0, 0, 9, frame(75, 7, 5), nil, natural},
		{"a box far left", listed(vboxNode(90, 1, 0, -100), ruleNode(-9, 1, 1)), 0, 0, 9, frame(0, 2, 1), nil, natural},
		{"what counts nothing", listed(a, hyphenNode('-', 999, 99, 99), penaltyNode(-5), markNode("m"), writeNode("w"), noteNode(1, 99, r, gap), r), 0, 0, 9, frame(40, 6, 5), nil, natural},
		{"glues in boxes", listed(vboxNode(1, 10, 0, 0, gap), gap), 1, 35, 9, frame(1, 35, 0), []int64{25}, impl.Setting{Sign: 1, Want: 5, Have: 30}},
	} {
		c.check(t, true)
	}
}

// Glues of each order that stretch and that shrink: only those of the highest order give.
func TestGluesOfEachOrder(t *testing.T) {
	for order := range int64(4) {
		gs := []impl.Glue{glue(10, 6, order, 6, order), glue(10, 3, order, 3, order), glue(10, 0, 3, 0, 3)}
		if order > 0 {
			gs = append(gs, glue(10, 100, order-1, 100, order-1))
		}
		list := kernNode(5)
		rest := []int64{}
		for i, g := range gs {
			list = append(list, glueNode(g)...)
			if i > 1 {
				rest = append(rest, g.Size)
			}
		}
		size := int64(5 + 10*len(gs))
		more, less := impl.Setting{Sign: 1, Order: order, Want: 8, Have: 9}, impl.Setting{Sign: -1, Order: order, Want: 8, Have: 9}
		if order == 0 {
			more.Bad, less.Bad = 70, 70
		}
		for _, down := range []bool{false, true} {
			box := func(length int64) impl.Node {
				if down {
					return frame(0, length, 0)
				}
				return frame(length, 0, 0)
			}
			for _, mode := range []int64{1, 2} {
				natural := (2 - mode) * size
				packCase{"stretched", list, mode, natural + 8, 0, box(size + 8), append([]int64{15, 13}, rest...), more}.check(t, down)
				packCase{"shrunk", list, mode, natural - 8, 0, box(size - 8), append([]int64{5, 7}, rest...), less}.check(t, down)
			}
		}
	}
}

// givenUp: what can't be packed is the zero value.
func givenUp(t *testing.T, what string, p impl.Packed) {
	t.Helper()
	if len(p.Nodes) > 0 || p.Set != (impl.Setting{}) {
		t.Errorf("%s: %+v %v", what, short(p.Nodes), p.Set)
	}
}

func taken(t *testing.T, what string, p impl.Packed) {
	t.Helper()
	if len(p.Nodes) == 0 {
		t.Errorf("%s: refused", what)
	}
}

func TestPackRefuses(t *testing.T) {
	list := listed(charNode('a', 1, 2, 3), glueNode(glue(1, 1, 1, 1, 1)), ruleNode(1, 2, 3))
	for _, down := range []bool{false, true} {
		for _, mode := range []int64{math.MinInt64, -1, 3, 4, math.MaxInt64} {
			givenUp(t, "a mode", checkPack(t, list, down, mode, 10, 0))
		}
		for mode := range int64(3) {
			for _, size := range []int64{math.MinInt64, -maxLen - 1, maxLen + 1, math.MaxInt64} {
				givenUp(t, "a size", checkPack(t, list, down, mode, size, 0))
			}
			for _, size := range []int64{-maxLen, maxLen} {
				if p := checkPack(t, list[:1], down, mode, size, 0); len(p.Nodes) == 0 && (mode < 2 || down) {
					t.Error("a size that just fits is refused:", mode, size)
				}
			}
			for _, deep := range []int64{math.MinInt64, -1, maxLen + 1, math.MaxInt64} {
				givenUp(t, "a deep", impl.VPack(list, mode, 10, deep))
			}
			for _, deep := range []int64{0, maxLen} {
				taken(t, "a deep", impl.VPack(list, mode, 10, deep))
			}
		}
	}
}

// edgeCase is a list that can just be packed, and one that misses it by one.
type edgeCase struct {
	what       string
	mode, size int64
	can, not   nodes
}

func (c edgeCase) check(t *testing.T, down bool) {
	t.Helper()
	taken(t, c.what, checkPack(t, c.can, down, c.mode, c.size, 0))
	givenUp(t, c.what, checkPack(t, c.not, down, c.mode, c.size, 0))
	if c.mode == 0 {
		if got := impl.Natural(c.not, !down); got != (impl.Size{}) {
			t.Errorf("%s: Natural %v", c.what, got)
		}
		checkList(t, c.can)
	}
}

func TestRowsThatJustFit(t *testing.T) {
	most, least := kernNode(maxLen), kernNode(-maxLen)
	one := func(n int64) nodes { return glueNode(glue(n, 1, 0, 1, 0)) }
	for _, c := range []edgeCase{
		{"a natural width", 0, 0, listed(most, kernNode(0)), listed(most, kernNode(1))},
		{"a natural width of chars", 0, 0, listed(charNode('a', maxLen-1, 0, 0), charNode('b', 1, 0, 0)), listed(charNode('a', maxLen, 0, 0), charNode('b', 1, 0, 0))},
		{"a natural width below 0", 0, 0, listed(least, kernNode(0)), listed(least, kernNode(-1))},
		{"a natural width of glues", 0, 0, listed(one(maxLen-1), one(1)), listed(one(maxLen), one(1))},
		{"a width and more", 2, maxLen, listed(kernNode(0)), listed(kernNode(1))},
		{"a width and less", 2, -maxLen, listed(one(0), kernNode(0)), listed(kernNode(-1), one(0))},
		{"the width of all else", 1, 0, listed(most, one(5)), listed(most, kernNode(1), one(5))},
		{"the width of all else below 0", 1, 0, listed(least, one(-5)), listed(least, kernNode(-1), one(-5))},
		{"the width of all else, which glues make up for", 0, 0, listed(most, one(-9)), listed(most, kernNode(1), one(-9))},
		{"the width of all else without glues", 1, 0, listed(most, kernNode(1), kernNode(-1)), listed(most, kernNode(1))},
		{"a height", 0, 0, hboxNode(0, maxLen-9, 0, -9), hboxNode(0, maxLen-9, 0, -10)},
		{"a depth", 0, 0, vboxNode(0, 0, maxLen-9, 9), vboxNode(0, 0, maxLen-9, 10)},
		{"a glue that is set", 1, 0, listed(least, one(maxLen-1), kernNode(0)), listed(least, one(maxLen-1), one(maxLen), kernNode(-maxLen))},
		{"a glue that stretches", 1, 1, listed(least, one(maxLen), kernNode(1)), listed(least, one(maxLen))},
		{"a glue that shrinks", 1, -1, listed(most, one(-maxLen), kernNode(-1)), listed(most, one(-maxLen))},
	} {
		c.check(t, false)
	}
	taken(t, "more glue than a width can be", checkPack(t, listed(one(maxLen), one(maxLen)), false, 1, 0, 0))
	taken(t, "height and depth of MaxLen", checkPack(t, ruleNode(maxLen, maxLen, maxLen), false, 0, 0, 0))
	taken(t, "a width that is not asked for", checkPack(t, listed(one(maxLen), one(5)), false, 1, 7, 0))
}

func TestStacksThatJustFit(t *testing.T) {
	most, least := kernNode(maxLen), kernNode(-maxLen)
	one := func(n int64) nodes { return glueNode(glue(n, 1, 0, 1, 0)) }
	for _, c := range []edgeCase{
		{"a natural height", 0, 0, listed(most, kernNode(0)), listed(most, kernNode(1))},
		{"a natural height of rules", 0, 0, listed(ruleNode(0, maxLen-3, 2), ruleNode(0, 1, 0)), listed(ruleNode(0, maxLen-3, 2), ruleNode(0, 2, 0))},
		{"a natural height below 0", 0, 0, listed(least, kernNode(0)), listed(least, kernNode(-1))},
		{"a natural height of glues", 0, 0, listed(one(maxLen-1), one(1)), listed(one(maxLen), one(1))},
		{"a height and more", 2, maxLen, listed(kernNode(0)), listed(kernNode(1))},
		{"the height of all else", 1, 0, listed(most, one(5)), listed(most, kernNode(1), one(5))},
		{"a width", 0, 0, hboxNode(maxLen-9, 0, 0, 9), hboxNode(maxLen-9, 0, 0, 10)},
		{"a glue that stretches", 1, 1, listed(least, one(maxLen), kernNode(1)), listed(least, one(maxLen))},
		{"a glue that shrinks", 1, -1, listed(most, one(-maxLen), kernNode(-1)), listed(most, one(-maxLen))},
	} {
		c.check(t, true)
	}
	last := ruleNode(5, maxLen, maxLen)
	if got := impl.Natural(last, false); got != sized(5, maxLen, maxLen) {
		t.Error("Height and Depth of MaxLen:", got)
	}
	taken(t, "what is more of the depth", checkPack(t, listed(kernNode(maxLen-9), ruleNode(0, 4, 5)), true, 0, 0, 0))
	givenUp(t, "what is more of the depth", checkPack(t, listed(kernNode(maxLen-9), ruleNode(0, 4, 6)), true, 0, 0, 0))
	givenUp(t, "a depth that counts to the height", checkPack(t, last, true, 0, 0, maxLen-1))
	taken(t, "the greatest depth", checkPack(t, last, true, 0, 0, maxLen))
	taken(t, "a depth of -MaxLen", checkPack(t, ruleNode(5, 5, -maxLen), true, 0, 0, 0))
}

func TestTheMostGlues(t *testing.T) {
	thirds := slices.Repeat(glueNode(glue(10, 3, 0, 3, 0)), impl.MaxGlue+1)
	most := thirds[1:]
	for _, down := range []bool{false, true} {
		for mode := range int64(3) {
			taken(t, "MaxGlue glues", checkPack(t, most, down, mode, 5000, 0))
			givenUp(t, "more than MaxGlue glues", checkPack(t, thirds, down, mode, 5000, 0))
		}
		// Those in boxes are not counted.
		taken(t, "glues in a box", checkPack(t, listed(most, hboxNode(1, 1, 1, 0, most[:5000])), down, 1, 7, 0))
		givenUp(t, "more than MaxGlue glues behind a box", checkPack(t, listed(hboxNode(1, 1, 1, 0, most[:5000]), thirds), down, 1, 7, 0))
	}
	if impl.Natural(most, true) != sized(10*impl.MaxGlue, 0, 0) || impl.Natural(thirds, true) != (impl.Size{}) {
		t.Error("Natural of the most glues")
	}
	if !impl.ListOk(thirds) {
		t.Error("more than MaxGlue glues are a list")
	}
}

func TestNaturalKnown(t *testing.T) {
	a := charNode('a', 100, 50, 10)
	for _, c := range []struct {
		list       nodes
		row, stack impl.Size
	}{
		{nil, sized(0, 0, 0), sized(0, 0, 0)},
		{a, sized(100, 50, 10), sized(0, 0, 0)},
		{ruleNode(9, 8, 7), sized(9, 8, 7), sized(9, 8, 7)},
		{listed(ruleNode(9, 8, 7), ruleNode(19, 5, 6)), sized(28, 8, 7), sized(19, 20, 6)},
		{listed(hboxNode(9, 8, 7, 5, a), kernNode(4)), sized(13, 3, 12), sized(14, 19, 0)},
		{listed(glueNode(glue(3, 1, 1, 1, 1)), vboxNode(9, 8, 7, -5, a)), sized(12, 13, 2), sized(4, 11, 7)},
		{listed(a, glueNode(glue(3, 1, 1, 1, 1)), a, hyphenNode('-', 9, 99, 9)), sized(203, 50, 10), sized(0, 3, 0)},
		{nodes{{Kind: 12}}, sized(0, 0, 0), sized(0, 0, 0)},
	} {
		if row, stack := impl.Natural(c.list, true), impl.Natural(c.list, false); row != c.row || stack != c.stack {
			t.Errorf("Natural(%+v) = %v and %v, not %v and %v", c.list, row, stack, c.row, c.stack)
		}
	}
}

func TestInsideKnown(t *testing.T) {
	a, g := charNode('a', 1, 2, 3), glue(1, 2, 3, 4, 0)
	inner := hboxNode(5, 6, 7, 8, setGlueNode(g, 50), a)
	note := noteNode(3, 4, setGlueNode(g, 60))
	inside := listed(a, setGlueNode(g, 9), inner, setGlueNode(g, -9), note, kernNode(8))
	bare := listed(a, glueNode(g), inner, glueNode(g), note, kernNode(8)) // what stands in other boxes is set as it was
	for _, kind := range []int64{impl.NodeHbox, impl.NodeVbox} {
		if got := impl.Inside(boxNode(kind, 9, 8, 7, 6, inside)); !same(got, bare) {
			t.Errorf("Inside of kind %d: %+v", kind, got)
		}
		if got := impl.Inside(boxNode(kind, 9, 8, 7, 6)); len(got) != 0 {
			t.Errorf("Inside of an empty box: %+v", got)
		}
	}
	for what, ns := range noOneBox() {
		if got := impl.Inside(ns); len(got) != 0 {
			t.Errorf("Inside of %s: %+v", what, got)
		}
	}
}

// noOneBox are lists that are not of one box.
func noOneBox() map[string]nodes {
	a := charNode('a', 1, 2, 3)
	box := hboxNode(9, 8, 7, 0, a)
	return map[string]nodes{
		"nothing":               nil,
		"a char":                a,
		"a rule":                ruleNode(1, 2, 3),
		"a glue":                glueNode(glue(1, 2, 3, 1, 0)),
		"a kern":                kernNode(1),
		"a note":                noteNode(1, 2, box),
		"an empty note":         noteNode(1, 2),
		"two boxes":             listed(box, box),
		"two empty boxes":       listed(hboxNode(1, 1, 1, 0), vboxNode(1, 1, 1, 0)),
		"a box and a char":      listed(box, a),
		"a char and a box":      listed(a, box),
		"a box and a penalty":   listed(box, penaltyNode(0)),
		"a box that can't be":   hboxNode(9, 8, 7, maxLen+1, a),
		"a box of what can't":   hboxNode(9, 8, 7, 0, nodes{{Kind: 99}}),
		"a box that lacks Kids": hboxNode(9, 8, 7, 0, a)[:1],
	}
}
