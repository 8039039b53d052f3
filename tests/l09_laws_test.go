package tests

import (
	"math/rand"
	"reflect"
	"slices"
	"testing"

	"loop.example/g00014/impl"
)

// lineLength is how long a line has to be, by its number.
func lineLength(s impl.Style, number int) int64 {
	if int64(number) < s.Hang {
		return s.Narrow
	}
	return s.Width
}

// checkLines: Demerits of what is told is what is told, and each line is LineOf, packed to its length.
func checkLines(t *testing.T, ns nodes, s impl.Style, got impl.Broken) {
	t.Helper()
	if sum, ok := impl.Demerits(ns, s, got.Breaks); !ok || sum != got.Demerits || len(got.Lines) != len(got.Breaks) {
		t.Fatalf("Demerits(%+v, %+v, %v) = %d %v, not %d", short(ns), s, got.Breaks, sum, ok, got.Demerits)
	}
	from, worst := int64(-1), int64(0)
	for number, to := range got.Breaks {
		p := impl.HPack(impl.LineOf(ns, s, from, to), 1, lineLength(s, number))
		if !same(p.Nodes, got.Lines[number]) || got.Lines[number][0].Width != lineLength(s, number) {
			t.Fatalf("line %d of %+v, %+v: %+v, not %+v", number, short(ns), s, short(got.Lines[number]), short(p.Nodes))
		}
		from, worst = to, max(worst, p.Set.Bad)
	}
	if got.Pass != 1 && got.Pass != 2 || got.Pass == 1 && worst > s.Tolerance || got.Pass == 2 && worst <= s.Tolerance {
		t.Fatalf("pass %d with a Bad of %d: %+v, %+v", got.Pass, worst, short(ns), s)
	}
}

// stays are the items that are neither discardable nor hyphens.
func stays(ns nodes) []nodes {
	return slices.DeleteFunc(impl.Items(ns), func(item nodes) bool {
		return slices.Contains([]int64{impl.NodeGlue, impl.NodeKern, impl.NodePenalty, impl.NodeHyphen}, item[0].Kind)
	})
}

// checkNothingLost: all that stays stands on the lines once, in its order, and nothing else but the hyphens at which lines end.
func checkNothingLost(t *testing.T, ns nodes, got impl.Broken) {
	t.Helper()
	row := impl.Items(ns)
	var stand []nodes
	for number, line := range got.Lines {
		items := stays(impl.Inside(line))
		if to := got.Breaks[number]; to < int64(len(row)) && row[to][0].Kind == impl.NodeHyphen {
			shown := slices.Clone(row[to])
			shown[0].Kind = impl.NodeChar
			if len(items) == 0 || !same(items[len(items)-1], shown) {
				t.Fatalf("line %d of %+v does not end with its hyphen: %+v", number, short(ns), short(line))
			}
			items = items[:len(items)-1]
		}
		stand = append(stand, items...)
	}
	if !same(stand, stays(ns)) {
		t.Fatalf("%+v stands as %+v", short(ns), stand)
	}
}

// neighbours are sequences that differ from one by a break that is left out, taken in, or exchanged for the next one or the one ahead.
func neighbours(all, breaks []int64) [][]int64 {
	var out [][]int64
	for at, b := range all[:len(all)-1] {
		place, taken := slices.BinarySearch(breaks, b)
		if !taken {
			out = append(out, slices.Insert(slices.Clone(breaks), place, b))
			continue
		}
		out = append(out, slices.Delete(slices.Clone(breaks), place, place+1))
		for _, other := range []int{at - 1, at + 1} {
			if other >= 0 && other < len(all)-1 && !slices.Contains(breaks, all[other]) {
				moved := slices.Clone(breaks)
				moved[place] = all[other]
				out = append(out, moved)
			}
		}
	}
	return out
}

// checkNoneIsBetter holds a paragraph against its neighbours.
func checkNoneIsBetter(t *testing.T, ns nodes, s impl.Style, got impl.Broken) {
	t.Helper()
	p, _ := rowPlainly(ns, s)
	best := tried{breaks: got.Breaks, demerits: got.Demerits}
	for _, breaks := range neighbours(p.breaks(), got.Breaks) {
		sum, worst, ok := p.demerits(breaks)
		legal := ok && (got.Pass == 2 || worst <= s.Tolerance)
		if legal && best.compare(tried{breaks: breaks, demerits: sum}) > 0 {
			t.Fatalf("%v costs %d, but %v only %d: %+v, %+v", got.Breaks, got.Demerits, breaks, sum, short(ns), s)
		}
	}
}

func TestLongParas(t *testing.T) {
	r := rand.New(rand.NewSource(103))
	lines := 0
	for range 150 {
		l := randomRows(r)
		l.most = min(l.most, impl.Point*10)
		ns, s := l.row(40), l.style()
		// Where a line is overfull all others are best in it, too: so no word is as long as a line.
		s.Width, s.Narrow = l.most*(4+r.Int63n(4)), l.most*(4+r.Int63n(4))
		checkBreaks(t, ns, s)
		got := impl.BreakPara(ns, s)
		if len(got.Lines) == 0 {
			continue
		}
		lines += len(got.Lines)
		checkLines(t, ns, s, got)
		checkNothingLost(t, ns, got)
		checkNoneIsBetter(t, ns, s, got)
	}
	if lines < 800 {
		t.Error("too few lines:", lines)
	}
}

// A text as one would set it: all is decent, and what the lines hold is the text.
func TestAPageOfText(t *testing.T) {
	r := rand.New(rand.NewSource(104))
	var ns nodes
	for len(impl.BreakList(ns, impl.Style{})) < 250 {
		for range 2 + r.Intn(7) {
			ns = append(ns, charNode('a'+r.Int63n(26), impl.Point*(4+r.Int63n(4)), impl.Point*5, impl.Point)...)
			if r.Intn(4) == 0 {
				ns = append(ns, hyphenNode('-', impl.Point*3, impl.Point*2, 0)...)
			}
		}
		ns = append(ns, glueNode(glue(impl.Point*4, impl.Point*2, 0, impl.Point, 0))...)
	}
	s := impl.Style{Width: impl.Point * 300, Narrow: impl.Point * 200, Hang: 3, Tolerance: 200, Line: 10, Hyphen: 50, Double: 10000, Adjacent: 10000, Fill: glue(0, impl.Point, 1, 0, 0)}
	got := impl.BreakPara(ns, s)
	if got.Pass != 1 || len(got.Lines) < 10 {
		t.Fatal(got.Pass, got.Breaks)
	}
	checkLines(t, ns, s, got)
	checkNothingLost(t, ns, got)
	checkNoneIsBetter(t, ns, s, got)
}

func TestParaAnswersAreNewMemoryAndArgumentsStay(t *testing.T) {
	r := rand.New(rand.NewSource(105))
	for range 400 {
		l := randomRows(r)
		l.most = min(l.most, 1000)
		ns := roomy(listed(l.row(12), markNode("a long mark"), hboxNode(1, 1, 1, 0, writeNode("a long write")), written(" a")))
		s := l.style()
		all := impl.BreakList(ns, s)
		breaks := roomy(all)
		before := told(ns) + told(breaks)
		got := impl.BreakPara(ns, s)
		checkNewMemory(t, got, ns, breaks)
		checkNewMemory(t, [][]int64{all, impl.BreakList(ns, s)}, ns)
		first, second := impl.LineOf(ns, s, -1, all[len(all)-1]), impl.LineOf(ns, s, -1, all[len(all)-1])
		checkNewMemory(t, []nodes{first, second}, ns)
		impl.Demerits(ns, s, breaks)
		impl.Demerits(ns, s, breaks[:len(breaks)/2])
		if told(ns)+told(breaks) != before {
			t.Fatalf("%+v was changed", ns)
		}
	}
}

// What is written into an answer is seen in no other one.
func TestParaAnswersHangOnNothingElse(t *testing.T) {
	ns, s := written("aa bb-cc [d! e *f"), plainStyle(50)
	wantBreaks, wantLine, want := impl.BreakList(ns, s), impl.LineOf(ns, s, -1, 5), impl.BreakPara(ns, s)
	breaks, line, got := impl.BreakList(ns, s), impl.LineOf(ns, s, -1, 5), impl.BreakPara(ns, s)
	for _, list := range append(slices.Clone(got.Lines), line) {
		list = list[:cap(list)]
		for i := range list {
			list[i] = impl.Node{Kind: -5, Kids: 99}
		}
	}
	for _, list := range [][]int64{breaks, got.Breaks} {
		for i := range list {
			list[i] = -9
		}
	}
	if !same(impl.BreakList(ns, s), wantBreaks) || !same(impl.LineOf(ns, s, -1, 5), wantLine) || !same(impl.BreakPara(ns, s), want) {
		t.Error("an answer hangs on another one")
	}
	checkPara(t, ns, s)
}

// spoilStyle sets a field to what it may not be, or may hardly.
func spoilStyle(r *rand.Rand, s *impl.Style) {
	v := reflect.ValueOf(s).Elem()
	f := v.Field(r.Intn(v.NumField()))
	if f.Kind() == reflect.Struct {
		f = f.Field(r.Intn(f.NumField()))
	}
	if r.Intn(2) == 0 {
		f.SetInt(corners[r.Intn(len(corners))])
	} else {
		f.SetInt(strange[r.Intn(len(strange))])
	}
}

func TestParasOfAnyNumbers(t *testing.T) {
	t.Parallel()
	r := rand.New(rand.NewSource(106))
	can := 0
	for range 6000 {
		l := randomRows(r)
		ns, s := l.row(6), l.style()
		for range r.Intn(3) {
			spoilStyle(r, &s)
		}
		if len(ns) > 0 && r.Intn(3) == 0 {
			spoilNode(r, &ns[r.Intn(len(ns))])
		}
		if got := impl.StyleOk(s); got != stylePlainly(s) {
			t.Fatalf("StyleOk(%+v) = %v", s, got)
		}
		breaks := checkBreaks(t, ns, s)
		if len(breaks) > 0 {
			can++
		}
		checkPara(t, ns, s)
		numbers := append(slices.Clone(breaks), -1, anyNumber(r), corners[r.Intn(len(corners))], r.Int63n(20))
		for range 5 {
			checkLine(t, ns, s, numbers[r.Intn(len(numbers))], numbers[r.Intn(len(numbers))])
		}
		for range 3 {
			var some []int64
			for _, n := range numbers {
				if r.Intn(3) > 0 {
					some = append(some, n)
				}
			}
			checkDemerits(t, ns, s, some)
			checkDemerits(t, ns, s, some[:min(len(some), len(breaks))])
		}
	}
	if can < 1000 {
		t.Error("too few that can be:", can)
	}
}
