package tests

import (
	"math/rand"
	"slices"
	"testing"

	"loop.example/g00014/impl"
)

// alongPacked is how long what is in a packed box is, glues as they are set; of a stack without the Depth of the box.
func alongPacked(p impl.Packed) int64 {
	box, _ := onlyBoxPlainly(p.Nodes)
	sum := box.ahead(len(box.kids))
	if box.Kind == impl.NodeVbox {
		sum -= box.Depth
	}
	return sum
}

// lengthPacked is how long the box itself is.
func lengthPacked(p impl.Packed) int64 {
	if p.Nodes[0].Kind == impl.NodeVbox {
		return p.Nodes[0].Height
	}
	return p.Nodes[0].Width
}

// checkLong: what is in a box is as long as the box, but where nothing gives, or it is overfull.
func checkLong(t *testing.T, p impl.Packed) {
	t.Helper()
	want := lengthPacked(p) + p.Set.Over
	if p.Set.Sign == 1 && p.Set.Have <= 0 {
		want -= p.Set.Want
	}
	if got := alongPacked(p); got != want {
		t.Fatalf("%d long, not %d: %+v %v", got, want, short(p.Nodes), p.Set)
	}
}

// checkHolds: a packed list has just the nodes that were put in, but for the Widths of its glues.
func checkHolds(t *testing.T, p impl.Packed, ns nodes) {
	t.Helper()
	items, _ := listPlainly(ns)
	inside := slices.Clone(p.Nodes[1:])
	at := 0
	for _, item := range items {
		if item.Kind == impl.NodeGlue {
			inside[at].Width = item.Width
		}
		at += 1 + int(item.Kids)
	}
	if !same(inside, ns) {
		t.Fatalf("%+v became %+v", short(ns), short(p.Nodes))
	}
	if !impl.ListOk(p.Nodes) || len(impl.Items(p.Nodes)) != 1 {
		t.Fatalf("no list of one box: %+v", short(p.Nodes))
	}
}

// checkAgain: what is inside, packed again, is the same.
func checkAgain(t *testing.T, p impl.Packed, down bool, mode, size, deep int64) {
	t.Helper()
	again := impl.HPack(impl.Inside(p.Nodes), mode, size)
	if down {
		again = impl.VPack(impl.Inside(p.Nodes), mode, size, deep)
	}
	if !same(again, p) {
		t.Fatalf("packed again: %+v %v, not %+v %v", short(again.Nodes), again.Set, short(p.Nodes), p.Set)
	}
}

// checkNatural: with mode 0, and deep enough, it is what Natural says; with mode 1 to that length nothing is to be shared.
func checkNatural(t *testing.T, ns nodes, down bool) {
	t.Helper()
	p := checkPack(t, ns, down, 0, 0, maxLen)
	if len(p.Nodes) == 0 {
		return
	}
	box := p.Nodes[0]
	if got := impl.Natural(ns, !down); got != sized(box.Width, box.Height, box.Depth) {
		t.Fatalf("Natural(%+v, %v) = %v", short(ns), !down, got)
	}
	if same := checkPack(t, ns, down, 1, lengthPacked(p), maxLen); same.Set != (impl.Setting{}) || lengthPacked(same) != lengthPacked(p) {
		t.Fatalf("to its own length: %v", same.Set)
	}
}

func TestBoxesAtRandom(t *testing.T) {
	t.Parallel()
	r := rand.New(rand.NewSource(95))
	counts := map[string]int{}
	for range 20000 {
		l := randomLengths(r)
		ns := l.list(9, 3)
		down, mode, size, deep := r.Intn(2) == 0, r.Int63n(3), l.length(), l.from0()
		p := checkPack(t, ns, down, mode, size, deep)
		checkNatural(t, ns, down)
		if len(p.Nodes) == 0 {
			counts["refused"]++
			continue
		}
		checkLong(t, p)
		checkHolds(t, p, ns)
		checkAgain(t, p, down, mode, size, deep)
		switch {
		case p.Set.Over > 0:
			counts["overfull"]++
		case p.Set.Sign == 1 && p.Set.Have <= 0:
			counts["underfull"]++
		case p.Set.Sign == 1:
			counts["stretched"]++
		case p.Set.Sign == -1:
			counts["shrunk"]++
		default:
			counts["as it is"]++
		}
	}
	for _, what := range []string{"refused", "overfull", "underfull", "stretched", "shrunk", "as it is"} {
		if counts[what] < 500 {
			t.Error("too few:", what, counts)
		}
	}
}

// Where something gives, a row is just as long as it is wanted, however many glues share what can't be parted evenly.
func TestRoundingsOfALongRow(t *testing.T) {
	for _, down := range []bool{false, true} {
		for _, count := range []int{1, 2, 7, 999, 5000} {
			ns := slices.Repeat(listed(kernNode(3), glueNode(glue(10, 7, 2, 7, 2))), count)
			for _, more := range []int64{1, 2, 5, 100, 4999, 100003, -1, -3, -4999, -100003} {
				p := checkPack(t, ns, down, 2, more, 0)
				if alongPacked(p) != int64(13*count)+more || lengthPacked(p) != int64(13*count)+more {
					t.Errorf("%d glues share %d: %d", count, more, alongPacked(p))
				}
				least, most := p.Nodes[2].Width, p.Nodes[2].Width
				for at := 2; at < len(p.Nodes); at += 2 {
					least, most = min(least, p.Nodes[at].Width), max(most, p.Nodes[at].Width)
				}
				if most-least > 1 {
					t.Errorf("%d glues share %d: from %d to %d", count, more, least, most)
				}
			}
		}
	}
}

// Boxes that are packed can be packed in others, and their spots are where the packed rows are.
func TestLinesInAStack(t *testing.T) {
	a := charNode('a', 100, 50, 10)
	word := glueNode(glue(20, 30, 0, 8, 0))
	line := impl.HPack(listed(a, word, a, word, a), 1, 400).Nodes
	page := impl.VPack(listed(line, glueNode(glue(5, 1, 1, 0, 0)), line, line), 1, 300, 10)
	if page.Nodes[0] != (impl.Node{Kind: impl.NodeVbox, Width: 400, Height: 300, Depth: 10, Kids: 19}) {
		t.Error(page.Nodes[0])
	}
	var want []impl.Spot
	for _, y := range []int64{50, 240, 300} {
		for _, x := range []int64{0, 150, 300} {
			want = append(want, charSpot(x, y, 'a', 100, 50))
		}
	}
	if got := checkSpots(t, page.Nodes, 0, 300); !slices.Equal(got, want) {
		t.Error(got)
	}
	if inside := impl.Items(impl.Inside(page.Nodes)); len(inside) != 4 || !same(inside[0], line) || inside[1][0].Width != 0 {
		t.Error("lines change in a stack:", inside)
	}
}

func TestBoxAnswersAreNewMemoryAndArgumentsStay(t *testing.T) {
	r := rand.New(rand.NewSource(96))
	for range 600 {
		l := randomLengths(r)
		ns := roomy(listed(l.list(6, 3), markNode("a long mark"), hboxNode(1, 1, 1, 0, writeNode("a long write"))))
		box := roomy(boxNode(impl.NodeHbox+r.Int63n(2), 1, 1, 1, 0, ns))
		before := told(ns) + told(box)
		impl.ListOk(ns)
		impl.Natural(ns, true)
		impl.Natural(ns, false)
		for mode := range int64(3) {
			h, v := impl.HPack(ns, mode, 100), impl.VPack(ns, mode, 100, 5)
			checkNewMemory(t, h, ns)
			checkNewMemory(t, v, ns)
			checkNewMemory(t, []nodes{h.Nodes, v.Nodes}, ns)
		}
		checkNewMemory(t, impl.Items(ns), ns)
		checkNewMemory(t, impl.Items(box), box)
		checkNewMemory(t, impl.Inside(box), box)
		checkNewMemory(t, [][]impl.Spot{impl.Spots(box, 0, 0), impl.Spots(box, 0, 0)}, box)
		if told(ns)+told(box) != before {
			t.Fatalf("%+v was changed", ns)
		}
	}
}

// What is written into an answer is seen in no other one.
func TestBoxAnswersHangOnNothingElse(t *testing.T) {
	ns := listed(charNode('a', 1, 2, 3), glueNode(glue(1, 2, 0, 1, 0)), hboxNode(3, 2, 1, 0, ruleNode(1, 2, 3)))
	first, items, inside, spots := impl.HPack(ns, 1, 9), impl.Items(ns), impl.Inside(hboxNode(1, 2, 3, 0, ns)), impl.Spots(hboxNode(1, 2, 3, 0, ns), 4, 5)
	for _, list := range append(slices.Clone(items), first.Nodes, inside) {
		list = list[:cap(list)]
		for i := range list {
			list[i] = impl.Node{Kind: -5, Kids: 99}
		}
	}
	for i := range spots {
		spots[i] = impl.Spot{}
	}
	if !checkList(t, ns) || len(checkSpots(t, hboxNode(1, 2, 3, 0, ns), 4, 5)) != 2 {
		t.Error("an argument was changed")
	}
	checkPack(t, ns, false, 1, 9, 0)
}

func TestBoxesOfAnyNumbers(t *testing.T) {
	r := rand.New(rand.NewSource(97))
	number := func() int64 {
		if r.Intn(3) == 0 {
			return anyNumber(r)
		}
		return corners[r.Intn(len(corners))]
	}
	for range 20000 {
		var ns nodes
		for range r.Intn(5) {
			n := impl.Node{Kind: r.Int63n(13)}
			for range r.Intn(4) {
				spoilNode(r, &n)
			}
			for _, f := range []*int64{&n.Width, &n.Height, &n.Depth, &n.Kids} {
				if r.Intn(6) == 0 {
					*f = number()
				}
			}
			ns = append(ns, n)
		}
		checkList(t, ns)
		mode, size, deep := number(), number(), number()
		checkPack(t, ns, false, mode, size, deep)
		checkPack(t, ns, true, mode, size, deep)
		checkPack(t, ns, true, r.Int63n(3), size, r.Int63n(5))
		checkSpots(t, ns, number(), number())
		checkSpots(t, ns, 0, size)
	}
	for _, a := range corners {
		for _, b := range corners {
			for _, ns := range []nodes{nil, ruleNode(1, 2, 3), hboxNode(1, 1, 1, 0, charNode('a', 1, 1, 1)), {{Kind: a, Kids: b}}, {{Kind: impl.NodeVbox, Kids: a, Width: b}}} {
				checkPack(t, ns, false, a, b, 0)
				checkPack(t, ns, true, r.Int63n(3), a, b)
				checkSpots(t, ns, a, b)
			}
		}
	}
}
