package tests

import (
	"math/rand"
	"reflect"
	"slices"
	"testing"

	"loop.example/g00014/impl"
)

// firm are the items that are not discardable.
func firm(ns nodes) []nodes {
	return slices.DeleteFunc(impl.Items(ns), func(item nodes) bool {
		return slices.Contains([]int64{impl.NodeGlue, impl.NodeKern, impl.NodePenalty}, item[0].Kind)
	})
}

// checkNoPageLost: the pages lie one behind the other, each as tall as the sheet; all that is not discardable stands on them once, in its order; marks and writes are those of the stack.
func checkNoPageLost(t *testing.T, ns nodes, s impl.Sheet, got []impl.Page) {
	t.Helper()
	if len(got) == 0 {
		return
	}
	items := impl.Items(ns)
	from, mark := int64(0), ""
	var stand []nodes
	var writes []string
	for number, p := range got {
		if p.From != from || p.To < p.From || p.Box[0].Height != s.Height || p.Box[0].Kind != impl.NodeVbox {
			t.Fatalf("page %d of %+v: %+v", number, short(ns), p)
		}
		checkCheapest(t, ns, s, p)
		between := slices.Concat(items[p.From:p.To]...)
		checkOnPage(t, between, s, p)
		first, last := mark, mark
		for _, item := range items[p.From:p.To] {
			if item[0].Kind == impl.NodeMark {
				last = item[0].Text
			}
		}
		if at := slices.IndexFunc(items[p.From:p.To], func(item nodes) bool { return item[0].Kind == impl.NodeMark }); at >= 0 {
			first = items[p.From:p.To][at][0].Text
		}
		if p.First != first || p.Last != last {
			t.Fatalf("page %d of %+v: marks %q %q, not %q %q", number, short(ns), p.First, p.Last, first, last)
		}
		from, mark = p.To+1, p.Last
		stand = append(stand, firm(between)...)
		writes = append(writes, p.Writes...)
	}
	if !same(stand, firm(ns)) || !same(firm(impl.Body(ns, s)), firm(ns)) {
		t.Fatalf("%+v stands as %+v", short(ns), stand)
	}
	var want []string
	for _, item := range items {
		if item[0].Kind == impl.NodeWrite {
			want = append(want, item[0].Text)
		}
	}
	if !same(writes, want) {
		t.Fatalf("writes of %+v: %q, not %q", short(ns), writes, want)
	}
}

// checkOnPage: on a page stands what is not discardable, first what is no note, then what is in the notes.
func checkOnPage(t *testing.T, between nodes, s impl.Sheet, p impl.Page) {
	t.Helper()
	var above, below []nodes
	for _, item := range firm(between) {
		if item[0].Kind == impl.NodeNote {
			below = append(below, firm(item[1:])...)
		} else {
			above = append(above, item)
		}
	}
	if got := firm(impl.Inside(p.Box)); !same(got, append(above, below...)) {
		t.Fatalf("a page of %+v: %+v", short(between), got)
	}
}

// checkCheapest: no break that counts costs less, nor as much if it is behind, by what PageCost tells of each.
func checkCheapest(t *testing.T, ns nodes, s impl.Sheet, p impl.Page) {
	t.Helper()
	if next := impl.NextBreak(ns, s, p.From); next != p.To || impl.PageCost(ns, s, p.From, p.To) != p.Cost {
		t.Fatalf("page %+v: the next break is %d", p, next)
	}
	items := impl.Items(ns)
	breaks := impl.PageBreaks(ns)
	for _, to := range breaks {
		if to < p.From || len(firm(slices.Concat(items[p.From:to]...))) == 0 {
			continue
		}
		cost := impl.PageCost(ns, s, p.From, to)
		if cost < p.Cost || cost == p.Cost && to > p.To {
			t.Fatalf("page %+v: to %d it costs %d", p, to, cost)
		}
		if cost == impl.NoCost || to < int64(len(items)) && items[to][0].N == -10000 {
			return
		}
	}
}

// A long text as one would set it: its pages are filled.
func TestABookOfPages(t *testing.T) {
	t.Parallel()
	r := rand.New(rand.NewSource(113))
	var ns nodes
	for range 1100 {
		ns = append(ns, hboxNode(300*impl.Point, 7*impl.Point, 2*impl.Point, 0)...)
		if r.Intn(12) == 0 {
			ns = append(ns, noteNode(1, 8*impl.Point, hboxNode(300*impl.Point, 6*impl.Point, 2*impl.Point, 0))...)
		}
		if r.Intn(9) == 0 {
			ns = append(ns, listed(penaltyNode(r.Int63n(300)-150), glueNode(glue(8*impl.Point, 4*impl.Point, 0, impl.Point, 0)), markNode(randomText(r, 9, "mark")))...)
			continue
		}
		ns = append(ns, glueNode(glue(3*impl.Point, impl.Point, 0, 0, 0))...)
	}
	s := impl.Sheet{Height: 400 * impl.Point, Deep: 3 * impl.Point, Gap: glue(6*impl.Point, 2*impl.Point, 0, 0, 0), Notes: 200 * impl.Point}
	got, _ := checkPages(t, ns, s)
	if len(got) < 30 {
		t.Error("too few pages:", len(got))
	}
	for _, p := range got {
		if p.Cost >= 5000 {
			t.Error("a page costs", p.Cost)
		}
	}
	checkNoPageLost(t, ns, s, got)
}

func TestPageAnswersAreNewMemoryAndArgumentsStay(t *testing.T) {
	r := rand.New(rand.NewSource(114))
	for range 400 {
		l := randomStacks(r)
		l.most = min(l.most, 1000)
		ns := roomy(listed(l.stack(12), markNode("a long mark"), hboxNode(1, 1, 1, 0, writeNode("an inner write")), writeNode("a long write"), penaltyNode(-10000), noteNode(1, 0, markNode("an inner mark")), hboxNode(1, 1, 1, 0), penaltyNode(-10000), hboxNode(1, 1, 1, 0)))
		s := l.sheet()
		before := told(ns)
		all := impl.PageBreaks(ns)
		end := all[len(all)-1]
		checkNewMemory(t, [][]int64{all, impl.PageBreaks(ns)}, ns)
		checkNewMemory(t, []nodes{impl.PageOf(ns, s, 0, end), impl.PageOf(ns, s, 0, end)}, ns)
		checkNewMemory(t, []nodes{impl.Body(ns, s), impl.Body(ns, s)}, ns)
		checkNewMemory(t, [][]impl.Page{impl.Pages(ns, s), impl.Pages(ns, s)}, ns)
		impl.PageCost(ns, s, 0, end)
		impl.NextBreak(ns, s, 0)
		if told(ns) != before {
			t.Fatalf("%+v was changed", ns)
		}
	}
}

// What is written into an answer is seen in no other one.
func TestPageAnswersHangOnNothingElse(t *testing.T) {
	ns, s := stacked("a b*c^ d%e! f g"), plainSheet(30)
	breaks, page, body, pages := impl.PageBreaks(ns), impl.PageOf(ns, s, 0, 6), impl.Body(ns, s), impl.Pages(ns, s)
	lists := []nodes{page, body}
	for i := range pages {
		lists = append(lists, pages[i].Box)
		for j := range pages[i].Writes {
			pages[i].Writes[j] = "another"
		}
	}
	for _, list := range lists {
		list = list[:cap(list)]
		for i := range list {
			list[i] = impl.Node{Kind: -5, Kids: 99}
		}
	}
	for i := range breaks {
		breaks[i] = -9
	}
	checkPageBreaks(t, ns)
	checkPage(t, ns, s, 0, 6)
	if again, _ := checkPages(t, ns, s); len(again) != len(pages) || len(again) < 3 {
		t.Error(len(again), len(pages))
	}
}

// spoilSheet sets a field to what it may not be, or may hardly.
func spoilSheet(r *rand.Rand, s *impl.Sheet) {
	v := reflect.ValueOf(s).Elem()
	f := v.Field(r.Intn(v.NumField()))
	if f.Kind() == reflect.Struct {
		f = f.Field(r.Intn(f.NumField()))
	}
	if r.Intn(2) == 0 {
		f.SetInt(corners[r.Intn(len(corners))])
	} else {
		f.SetInt(strange[r.Intn(len(strange))])
	}
}

func TestPagesOfAnyNumbers(t *testing.T) {
	t.Parallel()
	r := rand.New(rand.NewSource(115))
	can := 0
	for range 8000 {
		l := randomStacks(r)
		ns, s := l.stack(6), l.sheet()
		for range r.Intn(3) {
			spoilSheet(r, &s)
		}
		if len(ns) > 0 && r.Intn(3) == 0 {
			spoilNode(r, &ns[r.Intn(len(ns))])
		}
		if got := impl.SheetOk(s); got != sheetPlainly(s) {
			t.Fatalf("SheetOk(%+v) = %v", s, got)
		}
		breaks := checkPageBreaks(t, ns)
		if pages, _ := checkPages(t, ns, s); len(pages) > 0 {
			can++
		}
		numbers := append(slices.Clone(breaks), -1, anyNumber(r), corners[r.Intn(len(corners))], r.Int63n(20))
		for range 6 {
			checkPage(t, ns, s, numbers[r.Intn(len(numbers))], numbers[r.Intn(len(numbers))])
			checkNextBreak(t, ns, s, numbers[r.Intn(len(numbers))])
		}
	}
	if can < 1000 {
		t.Error("too few that can be:", can)
	}
}
