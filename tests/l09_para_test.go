package tests

import (
	"slices"
	"testing"

	"loop.example/g00014/impl"
)

// paraCase is a row, and how it is broken.
type paraCase struct {
	what, row string
	style     impl.Style
	pass      int64
	demerits  int64
	breaks    []int64
}

func (c paraCase) check(t *testing.T) {
	t.Helper()
	got, _ := checkPara(t, written(c.row), c.style)
	if got.Pass != c.pass || got.Demerits != c.demerits || !slices.Equal(got.Breaks, c.breaks) {
		t.Errorf("%s: pass %d, %d, %v, not %d, %d, %v", c.what, got.Pass, got.Demerits, got.Breaks, c.pass, c.demerits, c.breaks)
	}
}

// styled is a plain style that is changed.
func styled(width int64, change func(*impl.Style)) impl.Style {
	s := plainStyle(width)
	change(&s)
	return s
}

func TestParasKnown(t *testing.T) {
	free := func(s *impl.Style) { s.Line, s.Hyphen = 0, 0 }
	left := func(s *impl.Style) { s.Line, s.Hyphen, s.Left = 0, 0, glue(0, 1, 1, 0, 0) }
	for _, c := range []paraCase{
		{"nothing", "", plainStyle(0), 1, 100, []int64{2}},
		{"nothing, of some length", "", plainStyle(9), 2, 10010 * 10010, []int64{2}},
		{"glues alone", "   ", styled(9, left), 1, 0, []int64{2}},
		{"one line", "aa bb", plainStyle(99), 1, 100, []int64{7}},
		{"one line that is just as long", "aa bb", plainStyle(46), 1, 100, []int64{7}},
		{"two lines", "aa bb cc", plainStyle(46), 1, 200, []int64{5, 10}},
		{"lines of several lengths", "aa bb cc d", plainStyle(47), 1, 14*14 + 100, []int64{5, 12}},
		{"one legal way", "aa bb cc dd", plainStyle(46), 1, 200, []int64{5, 13}},
		{"no line shrinks more than it can", "aa bb", plainStyle(44), 1, 110 * 110, []int64{7}},
		{"none in the first pass", "aa bb", plainStyle(43), 2, 10010*10010 + 100, []int64{2, 7}},
		{"a word that is too long", "aaaa", plainStyle(30), 2, 1000010 * 1000010, []int64{6}},
		{"a break that is forced", "a!b", styled(99, left), 1, 0, []int64{1, 5}},
		{"two that are forced, one behind the other", "a!!b", styled(99, left), 1, 0, []int64{1, 2, 6}},
		{"one that is forced at the end", "a!", styled(99, left), 1, 0, []int64{1, 4}},
		{"one that is forced at the beginning", "!a", styled(99, left), 1, 0, []int64{0, 4}},
		{"a penalty below 0 is worth a line", "a<b", styled(99, left), 1, -2500, []int64{1, 5}},
		{"a penalty above 0 is not", "a>b", styled(99, left), 1, 0, []int64{5}},
		{"all that are below 0", "a<b<c<d", styled(99, left), 1, -7500, []int64{1, 3, 5, 9}},
		{"a hyphen where there has to be one", "aa bb-cc", styled(50, func(s *impl.Style) { s.Hyphen = 50 }), 1, 200 + 2500, []int64{5, 10}},
		{"two hyphens", "aa-bb-.cc", styled(24, left), 1, 0, []int64{2, 5, 11}},
		{"no second hyphen", "aa-bb-.cc", styled(24, func(s *impl.Style) {
			left(s)
			s.Double = 1
		}), 1, 0, []int64{2, 6, 11}},
		{"narrow lines first", "a~a~a~a~a~a", styled(26, func(s *impl.Style) {
			left(s)
			s.Narrow, s.Hang = 10, 2
		}), 1, 0, []int64{1, 3, 7, 13}},
		{"narrow lines are longer here", "a~a~a~a~a~a", styled(10, func(s *impl.Style) {
			left(s)
			s.Narrow, s.Hang = 26, 2
		}), 1, 0, []int64{3, 7, 9, 13}},
		// As cheap with more lines, and with as many.
		{"the fewest lines", "a~b", styled(50, left), 1, 0, []int64{5}},
		{"the fewest lines of many ways", "a~b~c~d~e~f", styled(26, left), 1, 0, []int64{3, 7, 13}},
		{"the least from the last break back", "a~b~c", styled(26, left), 1, 0, []int64{1, 7}},
		{"the least from the last break back, twice", "a~b~c~d~e", styled(26, left), 1, 0, []int64{1, 5, 11}},
		{"what costs nothing", "a b", styled(10, free), 1, 0, []int64{1, 5}},
	} {
		c.check(t)
	}
}

// A way with more lines that is cheaper is better than one with fewer; a greater break is better where it is cheaper.
func TestParasWhereCostsDecide(t *testing.T) {
	s := styled(26, func(s *impl.Style) { s.Line, s.Left = 0, glue(0, 1, 1, 0, 0) })
	for _, c := range []paraCase{
		{"a cheaper way with more lines", "a<b~c", s, 1, -2500, []int64{1, 7}},
		{"two of them", "a<b<c", s, 1, -5000, []int64{1, 3, 7}},
		{"a cheaper break further behind", "a>b~c", s, 1, 0, []int64{3, 7}},
		{"a break that is cheaper, as one cost is above the other", "a>b:c>d:e", s, 1, 2 * 2500, []int64{1, 5, 11}},
	} {
		c.check(t)
	}
}

func TestTolerance(t *testing.T) {
	row := written("aa bb!c")
	for _, c := range []struct{ width, bad int64 }{{46, 0}, {47, 4}, {48, 30}, {49, 100}, {50, 237}, {51, 463}, {59, 8137}, {60, 10000}, {45, 13}, {44, 100}} {
		for _, tolerance := range []int64{c.bad - 1, c.bad, c.bad + 1} {
			s := plainStyle(c.width)
			s.Tolerance = tolerance
			if !impl.StyleOk(s) {
				continue
			}
			got, _ := checkPara(t, row, s)
			if first := c.bad <= tolerance; (got.Pass == 1) != first {
				t.Errorf("Bad %d, Tolerance %d: pass %d", c.bad, tolerance, got.Pass)
			}
		}
	}
	s := plainStyle(15)
	s.Tolerance = 10000
	if got, _ := checkPara(t, row, s); got.Pass != 2 {
		t.Error("an overfull line is tolerated:", got)
	}
}

// In the second pass no line has to be decent, though lines could be; in the first each has to be, whatever it costs.
func TestPasses(t *testing.T) {
	s := plainStyle(46)
	s.Tolerance = 20
	// In the first pass only the dear way is legal.
	got, ways := checkPara(t, written("aa bb:cc dd"), s)
	if got.Pass != 1 || len(ways) != 1 || !slices.Equal(got.Breaks, []int64{5, 13}) {
		t.Error(got.Pass, got.Breaks, len(ways))
	}
	// The second knows all of them again.
	got, ways = checkPara(t, written("aa bb:cc dd!eeeee"), s)
	if got.Pass != 2 || len(ways) != 8 {
		t.Error(got.Pass, got.Breaks, len(ways))
	}
	// What is forced is forced in both.
	got, ways = checkPara(t, written("a!aaaaaaaaaaa"), s)
	if got.Pass != 2 || len(ways) != 1 || !slices.Equal(got.Breaks, []int64{1, 15}) {
		t.Error(got.Pass, got.Breaks, len(ways))
	}
}

// One way is the best up to a break, and another one with what comes behind it: lines of another class, or of another length.
func TestTheBestBeginningIsNotAlwaysTheBest(t *testing.T) {
	differ := 0
	for width := int64(20); width < 90; width++ {
		for _, row := range []string{"aa bb ccc d ee", "a bb cc ddd e ff", "aaa b cc dd e f gg", "a b c d e f g h"} {
			s := plainStyle(width)
			s.Tolerance = 10000
			first, _ := checkPara(t, written(row), s)
			s.Adjacent = 20000
			second, _ := checkPara(t, written(row), s)
			s.Hang, s.Narrow = 2, 35
			third, _ := checkPara(t, written(row), s)
			if !slices.Equal(first.Breaks, second.Breaks) || !slices.Equal(second.Breaks, third.Breaks) {
				differ++
			}
		}
	}
	if differ < 50 {
		t.Error("too few that differ:", differ)
	}
}

// A line that is chosen and can't be packed: nothing, though another way could be packed.
func TestParasThatCannotBePacked(t *testing.T) {
	loose := styled(50, func(s *impl.Style) { s.Left = glue(0, 1, 1, 1, 1) })
	alone := loose
	alone.Fill = impl.Glue{}
	wide := listed(ruleNode(maxLen, 1, 1), written("<"), ruleNode(1, 1, 1))
	for _, c := range []struct {
		what     string
		can, not nodes
		style    impl.Style
	}{
		{"a width that does not fit", listed(ruleNode(maxLen-1, 1, 1), ruleNode(1, 1, 1)), listed(ruleNode(maxLen, 1, 1), ruleNode(1, 1, 1)), loose},
		{"a width that does not fit, though it could be broken", wide, listed(ruleNode(maxLen, 1, 1), written(">"), ruleNode(1, 1, 1)), loose},
		{"the first line", listed(ruleNode(maxLen, 1, 1), written("!a")), listed(ruleNode(maxLen, 1, 1), written("a!a")), loose},
		{"the last line", listed(written("a!"), ruleNode(maxLen, 1, 1)), listed(written("a!a"), ruleNode(maxLen, 1, 1)), loose},
		{"a box that is too deep", listed(written("a"), nest(40, nil, impl.NodeHbox)), listed(written("a"), nest(41, nil, impl.NodeHbox)), loose},
		{"too many nodes", listed(hboxNode(1, 1, 1, 0, manyNodes(impl.MaxNodes-6))), listed(hboxNode(1, 1, 1, 0, manyNodes(impl.MaxNodes-5))), loose},
		{"a height", hboxNode(1, maxLen-9, 1, -9), hboxNode(1, maxLen-9, 1, -10), loose},
		{"a glue that is set", ruleNode(50-maxLen, 1, 1), ruleNode(49-maxLen, 1, 1), alone},
	} {
		for _, ns := range []nodes{c.can, c.not} {
			breaks := impl.BreakList(ns, c.style)
			if len(breaks) == 0 {
				t.Fatalf("%s: no breaks", c.what)
			}
		}
		if got, _ := checkPara(t, c.can, c.style); len(got.Lines) == 0 {
			t.Errorf("%s: refused, though it just can be", c.what)
		}
		if got, _ := checkPara(t, c.not, c.style); !same(got, impl.Broken{}) {
			t.Errorf("%s: %v", c.what, got.Breaks)
		}
	}
}

func TestBrokenLinesKnown(t *testing.T) {
	s := plainStyle(52)
	s.Left, s.Right = glue(-1, 0, 0, 0, 0), glue(3, 0, 0, 0, 0)
	row := listed(written(" aa "), markNode("a long mark"), written("bb-cc [d "))
	got, _ := checkPara(t, row, s)
	word := setGlueNode(glue(6, 3, 0, 2, 0), 6)
	left, right := setGlueNode(s.Left, -1), setGlueNode(s.Right, 3)
	want := impl.Broken{
		Breaks: []int64{7, 15},
		Lines: []nodes{
			hboxNode(52, 5, 2, 0, left, written("aa"), word, markNode("a long mark"), written("bb"), charNode('-', 4, 3, 1), right),
			hboxNode(52, 8, 10, 0, left, written("cc"), word, written("[d#"), setGlueNode(s.Fill, 4), right),
		},
		Demerits: 100 + 2500 + 100,
		Pass:     1,
	}
	if !same(got, want) {
		t.Errorf("%+v, not %+v", got, want)
	}
}
