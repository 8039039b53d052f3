package tests

import (
	"math/rand"
	"slices"
	"testing"

	"loop.example/g00014/impl"
)

// stackPlainly is a stack that is to become pages, item by item.
type stackPlainly struct {
	items []tree
	sheet impl.Sheet
}

func sheetPlainly(s impl.Sheet) bool {
	lengths := between(0, s.Height, 1073741823) && between(0, s.Deep, 1073741823) && between(0, s.Notes, 1073741823)
	return lengths && nodeIs(impl.Node{Kind: impl.NodeGlue, Glue: s.Gap})
}

// scrollPlainly is false when the list is no stack, or the sheet can't be.
func scrollPlainly(ns nodes, s impl.Sheet) (stackPlainly, bool) {
	items, ok := listPlainly(ns)
	return stackPlainly{items, s}, ok && len(items) <= 4000 && sheetPlainly(s)
}

func (p stackPlainly) end() int64 { return int64(len(p.items)) }

// breakCost is that of a place, and whether a page may end there.
func (p stackPlainly) breakCost(at int64) (int64, bool) {
	if at < 0 || at > p.end() {
		return 0, false
	}
	if at == p.end() {
		return -10000, true
	}
	switch item := p.items[at]; item.Kind {
	case impl.NodeGlue:
		return 0, at > 0 && !isDiscardable(p.items[at-1])
	case impl.NodePenalty:
		return item.N, item.N < 10000
	}
	return 0, false
}

func (p stackPlainly) breaks() []int64 {
	var out []int64
	for at := range p.end() + 1 {
		if _, ok := p.breakCost(at); ok {
			out = append(out, at)
		}
	}
	return out
}

// can says whether there is a page from one place to another.
func (p stackPlainly) can(from, to int64) bool {
	_, ok := p.breakCost(to)
	return ok && between(0, from, to)
}

// standing are the items of a page as they stand in the stack.
func (p stackPlainly) standing(from, to int64) []tree {
	items := p.items[from:to]
	for len(items) > 0 && isDiscardable(items[0]) {
		items = items[1:]
	}
	return items
}

func (p stackPlainly) isEmpty(from, to int64) bool {
	return !slices.ContainsFunc(p.items[from:to], func(t tree) bool { return !isDiscardable(t) })
}

// page are the items that stand on a page, with its notes below.
func (p stackPlainly) page(from, to int64) []tree {
	var out, below []tree
	notes := 0
	for _, t := range p.standing(from, to) {
		if t.Kind == impl.NodeNote {
			notes++
			below = append(below, t.kids...)
		} else {
			out = append(out, t)
		}
	}
	if notes > 0 {
		out = append(out, tree{Node: glueNode(p.sheet.Gap)[0]})
	}
	return append(out, below...)
}

func flatten(items []tree) nodes {
	var out nodes
	for _, t := range items {
		out = append(out, t.flat()...)
	}
	return out
}

// bad is that of a page set to the sheet's Height, whatever its sums are.
func (p stackPlainly) bad(from, to int64) int64 {
	page := p.page(from, to)
	_, rest := framePlainly(page, true, p.sheet.Deep)
	var glues []impl.Glue
	for _, t := range page {
		if isGlue(t) {
			glues = append(glues, t.Glue)
		}
	}
	_, set := sharedOut(glues, rest, p.sheet.Height)
	return set.Bad
}

func (p stackPlainly) cost(from, to int64) int64 {
	if !p.can(from, to) {
		return 1000000000
	}
	heights := int64(0)
	for _, t := range p.items[from:to] {
		if t.Kind == impl.NodeNote {
			heights += t.Height
		}
	}
	bad := p.bad(from, to)
	breakCost, _ := p.breakCost(to)
	switch {
	case bad == 1000000 || heights > p.sheet.Notes:
		return 1000000000
	case breakCost <= -10000:
		return breakCost
	case bad < 10000:
		return bad + breakCost
	}
	return 100000
}

// ending is a break that may be chosen, with what the page to it costs.
type ending struct{ to, cost int64 }

// endings are the breaks that count for the page from a place on.
func (p stackPlainly) endings(from int64) []ending {
	var out []ending
	for _, to := range p.breaks() {
		if to < from || p.isEmpty(from, to) && to != p.end() {
			continue
		}
		cost := p.cost(from, to)
		out = append(out, ending{to, cost})
		if breakCost, _ := p.breakCost(to); breakCost == -10000 || cost == 1000000000 {
			break
		}
	}
	return out
}

func (p stackPlainly) next(from int64) int64 {
	if !between(0, from, p.end()) {
		return -1
	}
	all := p.endings(from)
	if all[0].cost == 1000000000 {
		return all[0].to
	}
	least := slices.MinFunc(all, func(a, b ending) int { return int(a.cost - b.cost) }).cost
	slices.Reverse(all)
	return all[slices.IndexFunc(all, func(e ending) bool { return e.cost == least })].to
}

// texts are those of one kind of items, from a place up to another one.
func (p stackPlainly) texts(from, to, kind int64) []string {
	var out []string
	for _, t := range p.items[from:to] {
		if t.Kind == kind {
			out = append(out, t.Text)
		}
	}
	return out
}

func pagesPlainly(ns nodes, s impl.Sheet) []impl.Page {
	p, ok := scrollPlainly(ns, s)
	if !ok {
		return nil
	}
	var out []impl.Page
	mark := ""
	for from, to := int64(0), int64(-1); to != p.end(); from = to + 1 {
		to = p.next(from)
		if p.isEmpty(from, to) {
			continue
		}
		page := impl.Page{From: from, To: to, Cost: p.cost(from, to), First: mark, Last: mark}
		page.Box = packedPlainly(flatten(p.page(from, to)), true, 1, s.Height, s.Deep).Nodes
		if len(page.Box) == 0 {
			return nil
		}
		if marks := p.texts(from, to, impl.NodeMark); len(marks) > 0 {
			page.First, page.Last = marks[0], marks[len(marks)-1]
		}
		page.Writes = p.texts(from, to, impl.NodeWrite)
		mark = page.Last
		out = append(out, page)
	}
	return out
}

func bodyPlainly(ns nodes, s impl.Sheet) nodes {
	var out nodes
	p, _ := scrollPlainly(ns, s)
	for _, page := range pagesPlainly(ns, s) {
		out = append(out, flatten(p.standing(page.From, page.To))...)
	}
	return out
}

// checkPageBreaks holds PageBreaks against the plain telling, and gives the breaks.
func checkPageBreaks(t *testing.T, ns nodes) []int64 {
	t.Helper()
	var want []int64
	if p, ok := scrollPlainly(ns, impl.Sheet{}); ok {
		want = p.breaks()
	}
	got := impl.PageBreaks(ns)
	if !slices.Equal(got, want) {
		t.Fatalf("PageBreaks(%+v) = %v, not %v", short(ns), got, want)
	}
	return got
}

// checkPage holds PageOf and PageCost against the plain telling, and gives both.
func checkPage(t *testing.T, ns nodes, s impl.Sheet, from, to int64) (nodes, int64) {
	t.Helper()
	var want nodes
	wantCost := int64(1000000000)
	if p, ok := scrollPlainly(ns, s); ok && p.can(from, to) {
		want, wantCost = flatten(p.page(from, to)), p.cost(from, to)
	}
	got, cost := impl.PageOf(ns, s, from, to), impl.PageCost(ns, s, from, to)
	if !same(got, want) {
		t.Fatalf("PageOf(%+v, %+v, %d, %d) = %+v, not %+v", short(ns), s, from, to, short(got), short(want))
	}
	if cost != wantCost {
		t.Fatalf("PageCost(%+v, %+v, %d, %d) = %d, not %d", short(ns), s, from, to, cost, wantCost)
	}
	return got, cost
}

// checkNextBreak holds NextBreak against the plain telling, and gives the break.
func checkNextBreak(t *testing.T, ns nodes, s impl.Sheet, from int64) int64 {
	t.Helper()
	want := int64(-1)
	if p, ok := scrollPlainly(ns, s); ok {
		want = p.next(from)
	}
	got := impl.NextBreak(ns, s, from)
	if got != want {
		t.Fatalf("NextBreak(%+v, %+v, %d) = %d, not %d", short(ns), s, from, got, want)
	}
	return got
}

// checkPages holds Pages and Body against the plain telling, and gives both.
func checkPages(t *testing.T, ns nodes, s impl.Sheet) ([]impl.Page, nodes) {
	t.Helper()
	got, want := impl.Pages(ns, s), pagesPlainly(ns, s)
	if !same(got, want) {
		t.Fatalf("Pages(%+v, %+v) = %+v, not %+v", short(ns), s, got, want)
	}
	body, wantBody := impl.Body(ns, s), bodyPlainly(ns, s)
	if !same(body, wantBody) {
		t.Fatalf("Body(%+v, %+v) = %+v, not %+v", short(ns), s, short(body), short(wantBody))
	}
	return got, body
}

// stacks are what random stacks and sheets are made of.
type stacks struct {
	lengths
	even bool // all of them alike, so that many breaks cost the same
}

// gap is a glue between lines.
func (r stacks) gap() impl.Glue {
	if r.even {
		return []impl.Glue{glue(1, 1, 1, 0, 0), glue(1, 1, 0, 1, 0), glue(1, 0, 0, 0, 0)}[r.Intn(3)]
	}
	if r.Intn(20) == 0 {
		return r.glue()
	}
	return glue(r.Int63n(r.most), r.Int63n(r.most+1), 0, r.Int63n(r.most/2+1), 0)
}

func (r stacks) cost() int64 {
	if r.even && r.Intn(3) > 0 {
		return 0
	}
	return []int64{-10000, -9999, -100, -7, 0, 0, 3, 60, 500, 9999, 10000}[r.Intn(11)]
}

// line is a box as tall as most lines are.
func (r stacks) line() nodes {
	if r.even {
		return hboxNode(5, r.most, 0, 0)
	}
	return boxNode(impl.NodeHbox+r.Int63n(2), r.from0(), r.from0(), r.from0()/3, r.length(), charNode('x', 1, 2, 3))
}

// part is an item, or a line and a gap.
func (r stacks) part() nodes {
	switch r.Intn(16) {
	case 0:
		return penaltyNode(r.cost())
	case 1:
		return glueNode(r.gap())
	case 2:
		return kernNode(r.length() / 2)
	case 3:
		return nodes{{Kind: impl.NodeMark + r.Int63n(2), Text: randomText(r.Rand, 8, "text")}}
	case 4:
		return noteNode(r.Int63n(16), r.Int63n(r.most+1), r.line(), glueNode(r.gap()), r.line())
	case 5:
		return noteNode(r.Int63n(16), r.from0(), r.list(3, 2))
	case 6, 7:
		return r.item(2)
	case 8:
		return listed(r.line(), penaltyNode(r.cost()), r.line())
	}
	return listed(r.line(), glueNode(r.gap()))
}

func (r stacks) stack(most int) nodes {
	var out nodes
	for range r.Intn(most + 1) {
		out = append(out, r.part()...)
	}
	return out
}

func (r stacks) sheet() impl.Sheet {
	s := impl.Sheet{
		Height: min(r.Int63n(5*r.most), maxLen),
		Deep:   r.Int63n(r.most + 1),
		Gap:    r.gap(),
		Notes:  min(r.Int63n(3*r.most), maxLen),
	}
	if r.Intn(4) == 0 {
		s.Deep = 0
	}
	return s
}

// randomStacks have small lengths, or as great as can be.
func randomStacks(r *rand.Rand) stacks {
	return stacks{lengths{r, []int64{4, 10, 100, impl.Point * 10, impl.MaxLen / 4, impl.MaxLen}[r.Intn(6)]}, r.Intn(3) == 0}
}
