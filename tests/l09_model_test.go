package tests

import (
	"cmp"
	"math/rand"
	"slices"
	"testing"

	"loop.example/g00014/impl"
)

// paraPlainly is a row with what comes behind it, item by item.
type paraPlainly struct {
	items []tree
	style impl.Style
}

func between(low, x, high int64) bool { return low <= x && x <= high }

func stylePlainly(s impl.Style) bool {
	for _, g := range []impl.Glue{s.Left, s.Right, s.Fill} {
		if !nodeIs(impl.Node{Kind: impl.NodeGlue, Glue: g}) {
			return false
		}
	}
	lengths := between(0, s.Width, 1073741823) && between(0, s.Narrow, 1073741823) && between(0, s.Hang, 4)
	costs := between(0, s.Tolerance, 10000) && between(0, s.Line, 10000) && between(0, s.Hyphen, 10000)
	return lengths && costs && between(0, s.Double, 1000000) && between(0, s.Adjacent, 1000000)
}

func isGlue(t tree) bool { return t.Kind == impl.NodeGlue }

func isDiscardable(t tree) bool {
	return isGlue(t) || t.Kind == impl.NodeKern || t.Kind == impl.NodePenalty
}

// rowPlainly is false when the list is no row, or the style can't be.
func rowPlainly(ns nodes, s impl.Style) (paraPlainly, bool) {
	items, ok := listPlainly(ns)
	if !ok || len(items) > 2000 || !stylePlainly(s) {
		return paraPlainly{}, false
	}
	for len(items) > 0 && isGlue(items[len(items)-1]) {
		items = items[:len(items)-1]
	}
	end := listed(penaltyNode(10000), glueNode(s.Fill), penaltyNode(-10000))
	for _, n := range end {
		items = append(items, tree{Node: n})
	}
	return paraPlainly{items, s}, true
}

// cost is that of an item, and whether it is a break.
func (p paraPlainly) cost(at int64) (int64, bool) {
	if at < 0 || at >= int64(len(p.items)) {
		return 0, false
	}
	switch item := p.items[at]; item.Kind {
	case impl.NodeGlue:
		return 0, at > 0 && !isDiscardable(p.items[at-1])
	case impl.NodePenalty:
		return item.N, item.N < 10000
	case impl.NodeHyphen:
		return p.style.Hyphen, true
	}
	return 0, false
}

func (p paraPlainly) breaks() []int64 {
	var out []int64
	for at := range int64(len(p.items)) {
		if _, ok := p.cost(at); ok {
			out = append(out, at)
		}
	}
	if len(out) > 300 {
		return nil
	}
	return out
}

// isHyphen is asked of the beginning, too.
func (p paraPlainly) isHyphen(at int64) bool { return at >= 0 && p.items[at].Kind == impl.NodeHyphen }

// line is what stands between two breaks, with what the style puts ahead of it and behind it.
func (p paraPlainly) line(from, to int64) nodes {
	between := p.items[from+1 : to]
	for len(between) > 0 && isDiscardable(between[0]) {
		between = between[1:]
	}
	out := glueNode(p.style.Left)
	for _, t := range between {
		if t.Kind != impl.NodeHyphen {
			out = append(out, t.flat()...)
		}
	}
	if p.isHyphen(to) {
		shown := p.items[to].Node
		shown.Kind = impl.NodeChar
		out = append(out, shown)
	}
	return append(out, glueNode(p.style.Right)...)
}

// setting is how a line is set to a length, whatever its sums are.
func setting(line nodes, length int64) impl.Setting {
	var glues []impl.Glue
	rest := int64(0)
	for at := 0; at < len(line); at += 1 + int(line[at].Kids) {
		t := tree{Node: line[at]}
		rest += t.long(false)
		if isGlue(t) {
			glues = append(glues, t.Glue)
		}
	}
	_, set := sharedOut(glues, rest, length)
	return set
}

func classOf(set impl.Setting) int64 {
	if set.Sign == -1 && set.Bad > 12 {
		return 3
	}
	if set.Bad <= 12 {
		return 2
	}
	if set.Bad <= 99 {
		return 1
	}
	return 0
}

// length is that of a line by its number, from 0 on.
func (p paraPlainly) length(number int) int64 {
	if int64(number) < p.style.Hang {
		return p.style.Narrow
	}
	return p.style.Width
}

// lineCost is what a line costs that is set like that, behind a line of that class.
func (p paraPlainly) lineCost(from, to int64, set impl.Setting, ahead int64) int64 {
	sum := (p.style.Line + set.Bad) * (p.style.Line + set.Bad)
	cost, _ := p.cost(to)
	if cost > 0 {
		sum += cost * cost
	}
	if cost < 0 && cost > -10000 {
		sum -= cost * cost
	}
	if p.isHyphen(from) && p.isHyphen(to) {
		sum += p.style.Double
	}
	if apart := classOf(set) - ahead; apart > 1 || apart < -1 {
		sum += p.style.Adjacent
	}
	return sum
}

// demerits are those of a sequence of breaks, with the greatest Bad of its lines; false when it can't be one.
func (p paraPlainly) demerits(breaks []int64) (sum, worst int64, ok bool) {
	all := p.breaks()
	from, class := int64(-1), int64(2)
	for number, to := range breaks {
		if !slices.Contains(all, to) || to <= from {
			return 0, 0, false
		}
		set := setting(p.line(from, to), p.length(number))
		sum += p.lineCost(from, to, set, class)
		from, class, worst = to, classOf(set), max(worst, set.Bad)
	}
	for _, b := range all {
		if cost, _ := p.cost(b); cost == -10000 && !slices.Contains(breaks, b) {
			return 0, 0, false
		}
	}
	return sum, worst, len(breaks) > 0
}

func demeritsPlainly(ns nodes, s impl.Style, breaks []int64) (int64, bool) {
	p, ok := rowPlainly(ns, s)
	if !ok {
		return 0, false
	}
	sum, _, ok := p.demerits(breaks)
	if !ok {
		return 0, false
	}
	return sum, true
}

// tried is a sequence of breaks that was gone through.
type tried struct {
	breaks          []int64
	demerits, worst int64
}

// compare is less than 0 when a is the one that is to be taken.
func (a tried) compare(b tried) int {
	fewer := cmp.Or(cmp.Compare(a.demerits, b.demerits), cmp.Compare(len(a.breaks), len(b.breaks)))
	backward := func(breaks []int64) []int64 {
		breaks = slices.Clone(breaks)
		slices.Reverse(breaks)
		return breaks
	}
	return cmp.Or(fewer, slices.Compare(backward(a.breaks), backward(b.breaks)))
}

// walk goes through all sequences from a break on, one by one; each line is set but once.
type walk struct {
	paraPlainly
	all  []int64
	sets map[[3]int64]impl.Setting
	out  []tried
}

func (w *walk) setting(from, to int64, number int) impl.Setting {
	key := [3]int64{from, to, w.length(number)}
	set, ok := w.sets[key]
	if !ok {
		set = setting(w.line(from, to), key[2])
		w.sets[key] = set
	}
	return set
}

func (w *walk) on(so tried, class int64) {
	from := int64(-1)
	if len(so.breaks) > 0 {
		from = so.breaks[len(so.breaks)-1]
	}
	if from == w.all[len(w.all)-1] {
		w.out = append(w.out, so)
		return
	}
	for _, to := range w.all {
		if to <= from {
			continue
		}
		set := w.setting(from, to, len(so.breaks))
		cost := so.demerits + w.lineCost(from, to, set, class)
		w.on(tried{append(slices.Clone(so.breaks), to), cost, max(so.worst, set.Bad)}, classOf(set))
		if cost, _ := w.cost(to); cost == -10000 {
			return
		}
	}
}

// legal are all legal sequences, and the pass in which they are.
func (p paraPlainly) legal() ([]tried, int64) {
	w := walk{p, p.breaks(), map[[3]int64]impl.Setting{}, nil}
	w.on(tried{}, 2)
	good := slices.DeleteFunc(slices.Clone(w.out), func(t tried) bool { return t.worst > p.style.Tolerance })
	if len(good) > 0 {
		return good, 1
	}
	return w.out, 2
}

// brokenPlainly is BreakPara by all legal sequences, which it gives, too.
func brokenPlainly(ns nodes, s impl.Style) (impl.Broken, []tried) {
	p, ok := rowPlainly(ns, s)
	if !ok || len(p.breaks()) == 0 {
		return impl.Broken{}, nil
	}
	ways, pass := p.legal()
	best := slices.MinFunc(ways, tried.compare)
	out := impl.Broken{Breaks: best.breaks, Demerits: best.demerits, Pass: pass}
	from := int64(-1)
	for number, to := range best.breaks {
		packed := packedPlainly(p.line(from, to), false, 1, p.length(number), 0)
		if len(packed.Nodes) == 0 {
			return impl.Broken{}, ways
		}
		out.Lines = append(out.Lines, packed.Nodes)
		from = to
	}
	return out, ways
}

// checkBreaks holds BreakList against the plain telling, and gives the breaks.
func checkBreaks(t *testing.T, ns nodes, s impl.Style) []int64 {
	t.Helper()
	var want []int64
	if p, ok := rowPlainly(ns, s); ok {
		want = p.breaks()
	}
	got := impl.BreakList(ns, s)
	if !slices.Equal(got, want) {
		t.Fatalf("BreakList(%+v, %+v) = %v, not %v", short(ns), s, got, want)
	}
	return got
}

// checkLine holds LineOf against the plain telling, and gives the line.
func checkLine(t *testing.T, ns nodes, s impl.Style, from, to int64) nodes {
	t.Helper()
	var want nodes
	if p, ok := rowPlainly(ns, s); ok {
		all := p.breaks()
		if slices.Contains(all, to) && (from == -1 || slices.Contains(all, from)) && from < to {
			want = p.line(from, to)
		}
	}
	got := impl.LineOf(ns, s, from, to)
	if !same(got, want) {
		t.Fatalf("LineOf(%+v, %+v, %d, %d) = %+v, not %+v", short(ns), s, from, to, short(got), short(want))
	}
	return got
}

// checkDemerits holds Demerits against the plain telling, and gives what it tells.
func checkDemerits(t *testing.T, ns nodes, s impl.Style, breaks []int64) (int64, bool) {
	t.Helper()
	want, wantOk := demeritsPlainly(ns, s, breaks)
	got, ok := impl.Demerits(ns, s, breaks)
	if got != want || ok != wantOk {
		t.Fatalf("Demerits(%+v, %+v, %v) = %d %v, not %d %v", short(ns), s, breaks, got, ok, want, wantOk)
	}
	return got, ok
}

// checkPara holds BreakPara against all legal sequences, and gives it with them.
func checkPara(t *testing.T, ns nodes, s impl.Style) (impl.Broken, []tried) {
	t.Helper()
	want, ways := brokenPlainly(ns, s)
	got := impl.BreakPara(ns, s)
	if !same(got, want) {
		t.Fatalf("BreakPara(%+v, %+v) = %v %d %d, not %v %d %d\n%+v\n%+v", short(ns), s, got.Breaks, got.Demerits, got.Pass, want.Breaks, want.Demerits, want.Pass, got.Lines, want.Lines)
	}
	return got, ways
}

// rows are what random rows and styles are made of.
type rows struct {
	lengths
	even bool // all of them alike, so that many ways cost the same
}

// gap is a glue between words.
func (r rows) gap() impl.Glue {
	if r.even {
		return []impl.Glue{glue(1, 1, 1, 0, 0), glue(1, 1, 0, 1, 0), glue(1, 0, 0, 0, 0)}[r.Intn(3)]
	}
	if r.Intn(30) == 0 { // one that shrinks by a higher order makes all lines one
		return r.glue()
	}
	return glue(1+r.Int63n(r.most), r.Int63n(r.most+1), 0, r.Int63n(r.most+1), 0)
}

func (r rows) cost() int64 {
	if r.even && r.Intn(4) > 0 {
		return 0
	}
	return []int64{-10000, -9999, -100, -7, 0, 0, 3, 60, 500, 9999, 10000}[r.Intn(11)]
}

// part is an item, or a word and a gap.
func (r rows) part() nodes {
	n := r.Intn(14)
	if r.even && n > 8 {
		n = 0
	}
	switch n {
	case 7:
		return penaltyNode(r.cost())
	case 8:
		return hyphenNode('-', 1+r.Int63n(r.most/4+1), 1, 1)
	case 9:
		return kernNode(r.length() / 2)
	case 10:
		return glueNode(r.gap())
	case 11, 12:
		return r.item(2)
	}
	var out nodes
	for range 1 + r.Intn(3) {
		width := r.most
		if !r.even {
			width = 1 + r.Int63n(r.most)
		}
		out = append(out, charNode('a'+r.Int63n(26), width, 5, 2)...)
		if r.Intn(8) == 0 {
			out = append(out, hyphenNode('-', 1+r.Int63n(r.most/4+1), 1, 1)...)
		}
	}
	return append(out, glueNode(r.gap())...)
}

// row has so many breaks at most.
func (r rows) row(breaks int) nodes {
	var out nodes
	for range r.Intn(2 * breaks) {
		next := append(slices.Clone(out), r.part()...)
		if p, ok := rowPlainly(next, impl.Style{}); ok && len(p.breaks()) <= breaks {
			out = next
		}
	}
	return out
}

func (r rows) style() impl.Style {
	small := func() int64 { return r.Int63n([]int64{1, 5, 50, 1000}[r.Intn(4)]) }
	least := r.Int63n(4)
	s := impl.Style{
		Width:     min(r.most*least+r.Int63n(4*r.most), maxLen),
		Narrow:    min(r.most*least+r.Int63n(2*r.most), maxLen),
		Tolerance: []int64{0, 12, 100, 1000, 9999, 10000}[r.Intn(6)],
		Line:      small(),
		Hyphen:    small(),
		Fill:      glue(0, 1, 1, 0, 0),
	}
	if r.Intn(3) == 0 {
		s.Hang = r.Int63n(5)
	}
	if r.even {
		s.Line, s.Hyphen = 0, 0
		s.Left = []impl.Glue{{}, glue(0, 1, 1, 0, 0)}[r.Intn(2)]
		return s
	}
	if r.Intn(2) == 0 {
		s.Double, s.Adjacent = r.Int63n(20000), r.Int63n(20000)
	}
	for _, g := range []*impl.Glue{&s.Left, &s.Right, &s.Fill} {
		if r.Intn(5) == 0 {
			*g = r.gap()
		}
	}
	return s
}

// randomRows have small lengths, or as great as can be.
func randomRows(r *rand.Rand) rows {
	return rows{lengths{r, []int64{4, 10, 100, impl.Point * 10, impl.MaxLen / 2}[r.Intn(5)]}, r.Intn(3) == 0}
}
