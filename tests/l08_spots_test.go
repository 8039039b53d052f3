package tests

import (
	"math"
	"math/rand"
	"slices"
	"testing"

	"loop.example/g00014/impl"
)

func charSpot(x, y, c, width, height int64) impl.Spot {
	return impl.Spot{X: x, Y: y, Font: 3, Char: c, Width: width, Height: height}
}

func ruleSpot(x, y, width, height int64) impl.Spot {
	return impl.Spot{X: x, Y: y, Char: -1, Width: width, Height: height}
}

func TestSpotsKnown(t *testing.T) {
	a, b := charNode('a', 10, 7, 2), charNode('b', 20, 5, 4)
	r := ruleNode(6, 3, 1)
	g := glue(1, 2, 0, 3, 0)
	for _, c := range []struct {
		what string
		list nodes
		want []impl.Spot
	}{
		{"an empty hbox", hboxNode(9, 9, 9, 0), nil},
		{"an empty vbox", vboxNode(9, 9, 9, 0), nil},
		{"chars in a row", hboxNode(1, 1, 1, 0, a, b, a), []impl.Spot{charSpot(1000, 2000, 'a', 10, 7), charSpot(1010, 2000, 'b', 20, 5), charSpot(1030, 2000, 'a', 10, 7)}},
		{"a Shift of the box itself", hboxNode(1, 1, 1, 77, a), []impl.Spot{charSpot(1000, 2000, 'a', 10, 7)}},
		{"a rule in a row", hboxNode(1, 1, 1, 0, a, r, b), []impl.Spot{charSpot(1000, 2000, 'a', 10, 7), ruleSpot(1010, 2001, 6, 4), charSpot(1016, 2000, 'b', 20, 5)}},
		{"kerns and glues as they are set", hboxNode(1, 1, 1, 0, kernNode(5), a, setGlueNode(g, 50), b, kernNode(-7), a), []impl.Spot{charSpot(1005, 2000, 'a', 10, 7), charSpot(1065, 2000, 'b', 20, 5), charSpot(1078, 2000, 'a', 10, 7)}},
		{"what has no width", hboxNode(1, 1, 1, 0, hyphenNode('-', 99, 9, 9), penaltyNode(5), markNode("m"), writeNode("w"), noteNode(1, 9, a, r), a), []impl.Spot{charSpot(1000, 2000, 'a', 10, 7)}},
		{"boxes in a row", hboxNode(1, 1, 1, 0, a, hboxNode(40, 1, 1, 0, b), a), []impl.Spot{charSpot(1000, 2000, 'a', 10, 7), charSpot(1010, 2000, 'b', 20, 5), charSpot(1050, 2000, 'a', 10, 7)}},
		{"boxes that are moved down and up", hboxNode(1, 1, 1, 0, hboxNode(40, 1, 1, 8, b), hboxNode(0, 1, 1, -9, a), a), []impl.Spot{charSpot(1000, 2008, 'b', 20, 5), charSpot(1040, 1991, 'a', 10, 7), charSpot(1040, 2000, 'a', 10, 7)}},
		{"a vbox in an hbox", hboxNode(1, 1, 1, 0, a, vboxNode(30, 25, 5, 2, hboxNode(1, 12, 3, 0, b), r)), []impl.Spot{charSpot(1000, 2000, 'a', 10, 7), charSpot(1010, 1989, 'b', 20, 5), ruleSpot(1010, 1996, 6, 4)}},
		{"rules in a stack", vboxNode(1, 100, 1, 0, r, r), []impl.Spot{ruleSpot(1000, 1904, 6, 4), ruleSpot(1000, 1908, 6, 4)}},
		{"kerns and glues in a stack", vboxNode(1, 100, 1, 0, kernNode(10), r, setGlueNode(g, 20), r, kernNode(-3), r), []impl.Spot{ruleSpot(1000, 1914, 6, 4), ruleSpot(1000, 1938, 6, 4), ruleSpot(1000, 1939, 6, 4)}},
		{"an hbox in a vbox", vboxNode(1, 100, 1, 0, hboxNode(9, 12, 3, 0, a), hboxNode(9, 8, 5, 0, b)), []impl.Spot{charSpot(1000, 1912, 'a', 10, 7), charSpot(1000, 1923, 'b', 20, 5)}},
		{"boxes that are moved right and left", vboxNode(1, 100, 1, 0, hboxNode(9, 12, 3, 30, a), vboxNode(9, 8, 5, -40, r)), []impl.Spot{charSpot(1030, 1912, 'a', 10, 7), ruleSpot(960, 1919, 6, 4)}},
		{"chars in a stack", vboxNode(1, 100, 1, 0, a, r, b), []impl.Spot{ruleSpot(1000, 1904, 6, 4)}},
		{"what has no height", vboxNode(1, 100, 1, 0, hyphenNode('-', 9, 9, 9), penaltyNode(5), markNode("m"), writeNode("w"), noteNode(1, 9, r, r), r), []impl.Spot{ruleSpot(1000, 1904, 6, 4)}},
		{"a box without height", vboxNode(1, 0, 0, 0, r), []impl.Spot{ruleSpot(1000, 2004, 6, 4)}},
		{"sizes below 0", vboxNode(1, -10, 0, 0, ruleNode(4, -5, 9), ruleNode(4, 9, -5), hboxNode(1, -7, -8, 0, charNode('n', -4, -5, -6), a)), []impl.Spot{ruleSpot(1000, 2014, 4, 4), ruleSpot(1000, 2018, 4, 4), charSpot(1000, 2011, 'n', -4, -5), charSpot(996, 2011, 'a', 10, 7)}},
		{"in the order of the nodes", hboxNode(1, 1, 1, 0, hboxNode(0, 1, 1, 0, hboxNode(0, 1, 1, 0, a), b), r, a), []impl.Spot{charSpot(1000, 2000, 'a', 10, 7), charSpot(1000, 2000, 'b', 20, 5), ruleSpot(1000, 2001, 6, 4), charSpot(1006, 2000, 'a', 10, 7)}},
		{"boxes in a note", hboxNode(1, 1, 1, 0, noteNode(1, 1, hboxNode(9, 9, 9, 0, a), r), b), []impl.Spot{charSpot(1000, 2000, 'b', 20, 5)}},
		{"a note as the last of a box", hboxNode(1, 1, 1, 0, hboxNode(9, 9, 9, 1, a, noteNode(1, 1, r)), b), []impl.Spot{charSpot(1000, 2001, 'a', 10, 7), charSpot(1009, 2000, 'b', 20, 5)}},
	} {
		if got := checkSpots(t, c.list, 1000, 2000); !slices.Equal(got, c.want) {
			t.Errorf("%s: %v, not %v", c.what, got, c.want)
		}
	}
}

func TestRulesThatAreNotSeen(t *testing.T) {
	for _, c := range []struct {
		width, height, depth int64
		seen                 bool
	}{
		{1, 1, 0, true}, {1, 0, 1, true}, {1, 2, -1, true}, {1, -1, 2, true}, {maxLen, maxLen, -5, true},
		{0, 1, 1, false}, {-1, 1, 1, false}, {1, 0, 0, false}, {1, 5, -5, false}, {1, 5, -6, false}, {-1, -1, -1, false}, {0, 0, 0, false},
	} {
		for _, kind := range []int64{impl.NodeHbox, impl.NodeVbox} {
			got := checkSpots(t, boxNode(kind, 0, 0, 0, 0, ruleNode(c.width, c.height, c.depth)), 10, -20)
			if len(got) == 1 != c.seen || c.seen && (got[0].Width != c.width || got[0].Height != c.height+c.depth || got[0].Font != 0 || got[0].Char != -1) {
				t.Errorf("%+v in kind %d: %v", c, kind, got)
			}
			// One that is not seen takes its room nevertheless.
			behind := checkSpots(t, boxNode(kind, 0, 0, 0, 0, ruleNode(c.width, c.height, c.depth), ruleNode(7, 7, 7)), 10, -maxLen/2)
			if len(behind) > 0 && behind[len(behind)-1].Width != 7 {
				t.Errorf("behind %+v: %v", c, behind)
			}
		}
	}
}

// Of a spot only the place has to fit, not what height and depth are together.
func TestTheGreatestRule(t *testing.T) {
	got := checkSpots(t, hboxNode(0, 0, 0, 0, ruleNode(maxLen, maxLen, maxLen)), 5, 0)
	if !slices.Equal(got, []impl.Spot{ruleSpot(5, maxLen, maxLen, 2*maxLen)}) {
		t.Error(got)
	}
}

func TestPlacesThatJustFit(t *testing.T) {
	a, r := charNode('a', 1, 2, 3), ruleNode(1, 2, 3)
	far, near := kernNode(maxLen), kernNode(-maxLen)
	one := func(n int64) nodes { return kernNode(n) }
	for _, c := range []struct {
		what     string
		x, y     int64
		can, not nodes
	}{
		{"a char's x", 0, 0, hboxNode(0, 0, 0, 0, far, a), hboxNode(0, 0, 0, 0, far, one(1), a)},
		{"a char's x below 0", 0, 0, hboxNode(0, 0, 0, 0, near, a), hboxNode(0, 0, 0, 0, near, one(-1), a)},
		{"x itself", maxLen, 0, hboxNode(0, 0, 0, 0, a), hboxNode(0, 0, 0, 0, one(1), a)},
		{"x itself, below 0", -maxLen, 0, hboxNode(0, 0, 0, 0, r), hboxNode(0, 0, 0, 0, one(-1), r)},
		{"y itself", 0, maxLen, hboxNode(0, 0, 0, 0, hboxNode(0, 0, 0, 0, a)), hboxNode(0, 0, 0, 0, hboxNode(0, 0, 0, 1, a))},
		{"y itself, below 0", 0, -maxLen, hboxNode(0, 0, 0, 0, hboxNode(0, 0, 0, 0, a)), hboxNode(0, 0, 0, 0, hboxNode(0, 0, 0, -1, a))},
		{"a rule's y", 0, maxLen - 3, hboxNode(0, 0, 0, 0, r), hboxNode(0, 0, 0, 0, ruleNode(1, 2, 4))},
		{"a top", 0, -maxLen + 9, vboxNode(0, 9, 0, 0, hboxNode(0, 0, 0, 0, a)), vboxNode(0, 10, 0, 0, hboxNode(0, 0, 0, 0, a))},
		{"a place down a stack", 0, 0, vboxNode(0, 0, 0, 0, kernNode(maxLen-5), r), vboxNode(0, 0, 0, 0, kernNode(maxLen-4), r)},
		{"a place right of a stack", maxLen - 5, 0, vboxNode(0, 0, 0, 0, hboxNode(0, 0, 0, 5, a)), vboxNode(0, 0, 0, 0, hboxNode(0, 0, 0, 6, a))},
		{"a place behind a glue", 0, 0, hboxNode(0, 0, 0, 0, setGlueNode(impl.Glue{}, maxLen), a), hboxNode(0, 0, 0, 0, setGlueNode(impl.Glue{}, maxLen), one(1), a)},
		{"the last of many", 0, 0, hboxNode(0, 0, 0, 0, manyNodes(50), kernNode(maxLen-50), a), hboxNode(0, 0, 0, 0, manyNodes(50), kernNode(maxLen-49), a, kernNode(-50), a)},
	} {
		if got := checkSpots(t, c.can, c.x, c.y); len(got) == 0 {
			t.Errorf("%s: refused", c.what)
		}
		if got := checkSpots(t, c.not, c.x, c.y); len(got) != 0 {
			t.Errorf("%s: %v", c.what, got)
		}
	}
	// What has no spot stands anywhere, and the way to a place may lead far out.
	for what, list := range map[string]nodes{
		"far out and back":                 hboxNode(0, 0, 0, 0, far, far, far, near, near, near, a),
		"a char of a stack, far out":       vboxNode(0, 0, 0, 0, far, far, a, near, near, r),
		"a rule that is not seen, far out": hboxNode(0, 0, 0, 0, a, far, far, ruleNode(0, 1, 1)),
		"a note, far out":                  hboxNode(0, 0, 0, 0, a, far, far, noteNode(1, 1, r)),
		"an empty box, far out":            hboxNode(0, 0, 0, 0, a, far, far, hboxNode(1, 1, 1, maxLen)),
		"the end of a char":                hboxNode(0, 0, 0, 0, kernNode(maxLen), charNode('a', maxLen, maxLen, maxLen)),
	} {
		if got := checkSpots(t, list, 0, 0); len(got) != 1 {
			t.Errorf("%s: %v", what, got)
		}
	}
}

func TestSpotsRefuses(t *testing.T) {
	box := hboxNode(9, 8, 7, 0, charNode('a', 1, 2, 3))
	for what, ns := range noOneBox() {
		if got := impl.Spots(ns, 0, 0); len(got) != 0 {
			t.Errorf("Spots of %s: %v", what, got)
		}
		checkSpots(t, ns, 0, 0)
	}
	for _, x := range []int64{math.MinInt64, -maxLen - 1, maxLen + 1, math.MaxInt64} {
		for _, ns := range []nodes{box, hboxNode(1, 1, 1, 0, kernNode(-5), box), vboxNode(1, 5, 1, 0, box), vboxNode(1, 1, 1, 0)} {
			if len(checkSpots(t, ns, x, 0)) != 0 || len(checkSpots(t, ns, 0, x)) != 0 {
				t.Errorf("Spots at %d", x)
			}
		}
	}
}

// movedAlike: all spots of a box move as the box does.
func movedAlike(t *testing.T, box nodes, x, y, right, down int64) {
	t.Helper()
	spots, moved := impl.Spots(box, x, y), impl.Spots(box, x+right, y+down)
	if len(spots) != len(moved) {
		t.Fatalf("%d spots at %d %d, and %d when the box is moved by %d %d", len(spots), x, y, len(moved), right, down)
	}
	for i, s := range spots {
		s.X += right
		s.Y += down
		if moved[i] != s {
			t.Fatalf("%v is moved by %d %d to %v", spots[i], right, down, moved[i])
		}
	}
}

func TestPlacesMoveWithTheBox(t *testing.T) {
	r := rand.New(rand.NewSource(93))
	seen := 0
	for range 3000 {
		l := lengths{r, []int64{5, 100, impl.Point * 20}[r.Intn(3)]}
		box := boxNode(impl.NodeHbox+r.Int63n(2), l.from0(), l.from0(), l.from0(), l.length(), l.list(8, 3))
		movedAlike(t, box, l.length(), l.length(), l.length(), l.length())
		seen += len(impl.Spots(box, 0, 0))
		// In another box, behind something: so far right, or so far down.
		at, shift := l.length(), l.length()
		inRow := impl.Spots(hboxNode(1, 1, 1, 0, kernNode(at), changedNode(box, "Shift", shift)), 7, 8)
		inStack := impl.Spots(vboxNode(1, 1, 1, 0, kernNode(at), changedNode(box, "Shift", shift)), 7, 8)
		if !same(inRow, impl.Spots(box, 7+at, 8+shift)) || !same(inStack, impl.Spots(box, 7+shift, 8-1+at+box[0].Height)) {
			t.Fatalf("%+v, moved by %d and %d in a box: %v and %v", box, at, shift, inRow, inStack)
		}
	}
	if seen < 4000 {
		t.Error("too few spots:", seen)
	}
}

func TestSpotsAtRandom(t *testing.T) {
	r := rand.New(rand.NewSource(94))
	seen, outside := 0, 0
	for range 6000 {
		l := randomLengths(r)
		box := boxNode(impl.NodeHbox+r.Int63n(2), l.from0(), l.from0(), l.from0(), l.length(), l.list(8, 4))
		if r.Intn(8) == 0 {
			box = l.list(3, 2)
		}
		got := checkSpots(t, box, l.length(), l.length())
		seen += len(got)
		if len(got) == 0 {
			outside++
		}
	}
	if seen < 6000 || outside < 1000 {
		t.Error("too few of one kind:", seen, outside)
	}
}
