package tests

import (
	"math"
	"slices"
	"testing"

	"loop.example/g00014/impl"
)

// demeritsAre holds what a row costs against what was reckoned by hand.
func demeritsAre(t *testing.T, what string, ns nodes, s impl.Style, want int64, breaks ...int64) {
	t.Helper()
	if got, ok := checkDemerits(t, ns, s, breaks); !ok || got != want {
		t.Errorf("%s: %d %v, not %d", what, got, ok, want)
	}
}

func TestDemeritsKnown(t *testing.T) {
	s := plainStyle(46)
	for _, c := range []struct {
		what, row string
		width     int64
		breaks    []int64
		want      int64
	}{
		{"nothing", "", 46, []int64{2}, 10010 * 10010}, // its line is empty, so nothing stretches
		{"nothing, of no length", "", 0, []int64{2}, 100},
		{"one line that Fill makes up for", "aa bb", 99, []int64{7}, 100},
		{"two lines", "aa bb cc", 46, []int64{5, 10}, 100 + 100},
		{"a line that stretches", "aa bb cc", 48, []int64{5, 10}, 40*40 + 100},
		{"a line that stretches as far as it can", "aa bb cc", 49, []int64{5, 10}, 110*110 + 100},
		{"a line that stretches further", "aa bb cc", 50, []int64{5, 10}, 247*247 + 100},
		{"a line that stretches far too far", "aa bb cc", 80, []int64{5, 10}, 10010*10010 + 100},
		{"a line that shrinks", "aa bb cc", 45, []int64{5, 10}, 23*23 + 100},
		{"a line that shrinks as far as it can", "aa bb cc", 44, []int64{5, 10}, 110*110 + 100},
		{"a line that is overfull", "aa bb cc", 43, []int64{5, 10}, 1000010*1000010 + 100},
		{"a line in which nothing stretches", "aa bb", 46, []int64{2, 7}, 10010*10010 + 100},
		{"a line in which nothing shrinks", "aa bb", 19, []int64{2, 7}, 2 * 1000010 * 1000010},
		{"three lines, the one in the middle is just as long", "a b c", 10, []int64{1, 3, 7}, 300},
		{"an empty line in the middle", "a..b", 10, []int64{1, 2, 6}, 100 + 10010*10010 + 100},
		// What breaks cost.
		{"a penalty of 0", "a.b", 10, []int64{1, 5}, 200},
		{"a penalty above 0", "a>b", 10, []int64{1, 5}, 200 + 50*50},
		{"a penalty below 0", "a<b", 10, []int64{1, 5}, 200 - 50*50},
		{"the greatest penalty", "a:b", 10, []int64{1, 5}, 200 + 9999*9999},
		{"the least penalty that forces nothing", "a?b", 10, []int64{1, 5}, 200 - 9999*9999},
		{"a penalty that forces a break", "a!b", 10, []int64{1, 5}, 200},
		{"a hyphen", "a-b", 14, []int64{1, 5}, 200 + 50*50},
		{"a hyphen counts where the line ends with it", "a-b", 10, []int64{1, 5}, 1000010*1000010 + 50*50 + 100},
		{"a hyphen within counts nothing", "a-b", 20, []int64{5}, 100},
		{"a penalty within counts nothing", "a>b", 20, []int64{5}, 100},
		{"a kern and a rule", "=|=b", 30, []int64{6}, 100}, // the first kern is left out
		{"a box", "[{", 20, []int64{4}, 100},
		{"what has no width", "^%*a", 10, []int64{6}, 100},
	} {
		s.Width = c.width
		demeritsAre(t, c.what, written(c.row), s, c.want, c.breaks...)
	}
}

func TestCostsAtTheirLimits(t *testing.T) {
	s := plainStyle(14)
	s.Line, s.Hyphen = 0, 0
	demeritsAre(t, "nothing costs anything", written("a-b"), s, 0, 1, 5)
	s.Line = 10000
	demeritsAre(t, "the greatest Line", written("a-b"), s, 2*10000*10000, 1, 5)
	s.Line, s.Hyphen = 0, 10000
	demeritsAre(t, "the greatest Hyphen", written("a-b"), s, 10000*10000, 1, 5)
	demeritsAre(t, "Line and an overfull line", written("ab-c"), impl.Style{Width: 14, Line: 10000}, 1010000*1010000+(10000+10000)*(10000+10000), 2, 6)
}

// Two hyphens in a row cost more, and only they.
func TestDoubleHyphens(t *testing.T) {
	s := plainStyle(14)
	s.Hyphen, s.Double = 0, 7000
	for _, c := range []struct {
		what, row string
		breaks    []int64
		want      int64
	}{
		{"two hyphens in a row", "a-b-c", []int64{1, 3, 7}, 300 + 7000},
		{"three", "a-b-c-d", []int64{1, 3, 5, 9}, 400 + 2*7000},
		{"one hyphen", "a-b-c", []int64{1, 7}, 100 + 1000010*1000010},
		{"a penalty between", "a-b=.c-d", []int64{1, 4, 6, 10}, 300 + 1000010*1000010},
		{"the beginning is no hyphen", "a-b", []int64{1, 5}, 200},
	} {
		demeritsAre(t, c.what, written(c.row), s, c.want, c.breaks...)
	}
	s.Double = 1000000
	demeritsAre(t, "the greatest Double", written("a-b-c"), s, 300+1000000, 1, 3, 7)
}

// classLine is a rule that leaves so much of a line of 9000 to glues which stretch and shrink by 1000.
func classLine(missing int64) nodes { return ruleNode(9000-missing, 1, 1) }

// missings are, by what is missing, the Bad and the class of a line.
var missings = []struct{ missing, bad, class int64 }{
	{0, 0, 2}, {100, 0, 2}, {-100, 0, 2},
	{499, 12, 2}, {500, 13, 1}, {998, 99, 1}, {999, 100, 0}, {1000, 100, 0}, {2000, 800, 0}, {9000, 10000, 0},
	{-499, 12, 2}, {-500, 13, 3}, {-998, 99, 3}, {-999, 100, 3}, {-1000, 100, 3}, {-1001, 1000000, 3}, {-5000, 1000000, 3},
}

func TestClasses(t *testing.T) {
	s := impl.Style{Width: 9000, Line: 1, Adjacent: 500000, Left: glue(0, 400, 0, 700, 0), Right: glue(0, 600, 0, 300, 0)}
	square := func(bad int64) int64 { return (1 + bad) * (1 + bad) }
	apart := func(a, b int64) int64 {
		if a-b > 1 || b-a > 1 {
			return 500000
		}
		return 0
	}
	for _, a := range missings {
		if a.missing != 9000 {
			demeritsAre(t, "a first line", classLine(a.missing), s, square(a.bad)+apart(2, a.class), 3)
		}
		for _, b := range missings {
			row := listed(classLine(a.missing), penaltyNode(-10000), classLine(b.missing))
			want := square(a.bad) + apart(2, a.class) + square(b.bad) + apart(a.class, b.class)
			demeritsAre(t, "two lines", row, s, want, 1, 5)
		}
	}
	s.Adjacent = 1000000
	demeritsAre(t, "the greatest Adjacent", classLine(999), s, 101*101+1000000, 3)
}

// The first Hang lines are Narrow, whichever breaks they end at.
func TestHangingLines(t *testing.T) {
	row := written("a!b!c!d!e!f")
	breaks := []int64{1, 3, 5, 7, 9, 13}
	for hang := range int64(5) {
		s := plainStyle(20)
		s.Narrow, s.Hang, s.Line = 10, hang, 0
		s.Left = glue(0, 1, 1, 0, 0) // so that lines may be too short, but not too long
		demeritsAre(t, "lines that all can stretch", row, s, 0, breaks...)
		s.Narrow = 9
		demeritsAre(t, "the first are too short", row, s, hang*1000000*1000000, breaks...)
		s.Width, s.Narrow = 9, 10
		demeritsAre(t, "all but the first are too short", row, s, (6-hang)*1000000*1000000, breaks...)
		got := impl.BreakPara(row, s)
		for number, line := range got.Lines {
			if want := []int64{9, 10}[max(min(hang-int64(number), 1), 0)]; line[0].Width != want {
				t.Errorf("Hang %d: line %d is %d long", hang, number, line[0].Width)
			}
		}
		if len(got.Lines) != 6 {
			t.Errorf("Hang %d: %d lines", hang, len(got.Lines))
		}
	}
}

// Glues of a higher order that stretch or shrink are never bad; those in boxes and notes are of no account.
func TestGluesOfALine(t *testing.T) {
	s := plainStyle(50)
	s.Fill = impl.Glue{}
	for order := int64(1); order <= 3; order++ {
		row := listed(written("a"), glueNode(glue(0, 1, order, 1, order)), written("b"))
		demeritsAre(t, "far too short", row, s, 100, 5)
		s.Width = 5
		demeritsAre(t, "far too long", row, s, 100, 5)
		s.Width = 50
	}
	demeritsAre(t, "a glue in a box", written("a["), s, 10010*10010, 4)
	s.Left, s.Right = glue(5, 0, 0, 0, 0), glue(25, 0, 0, 0, 0)
	demeritsAre(t, "Left and Right are of the line", written("ab"), s, 100, 4)
	s.Left, s.Right = glue(0, 20, 0, 0, 0), glue(0, 10, 0, 0, 0)
	demeritsAre(t, "Left and Right stretch", written("ab"), s, 110*110, 4)
	s.Left, s.Right = glue(0, 20, 1, 0, 0), glue(0, -20, 1, 0, 0)
	demeritsAre(t, "orders of which the total is 0", written("ab"), s, 10010*10010, 4)
	s.Left, s.Right, s.Fill = glue(0, 20, 1, 0, 0), glue(0, -20, 1, 0, 0), glue(0, 30, 0, 0, 0)
	demeritsAre(t, "those that give are of a lower order then", written("ab"), s, 110*110, 4)
	s.Left, s.Right, s.Fill = glue(0, 20, 1, 0, 0), glue(0, -30, 1, 0, 0), glue(0, 30, 0, 0, 0)
	demeritsAre(t, "a total below 0", written("ab"), s, 10010*10010, 4)
}

// Whatever the sums are: a line may be longer than any length.
func TestLinesWhoseSumsDoNotFit(t *testing.T) {
	s := plainStyle(maxLen)
	long := listed(ruleNode(maxLen, 1, 1), ruleNode(maxLen, 1, 1))
	demeritsAre(t, "two of the greatest widths", long, s, 1000010*1000010, 4)
	back := listed(long, kernNode(-maxLen))
	demeritsAre(t, "as long again", back, s, 100, 5)
	short := slices.Repeat(ruleNode(-maxLen, 1, 1), impl.MaxRow)
	demeritsAre(t, "far below 0", short, s, 100, impl.MaxRow+2)
	s.Fill = glue(maxLen, maxLen, 0, maxLen, 0)
	demeritsAre(t, "far below 0, with a glue", short, s, 10010*10010, impl.MaxRow+2)
	demeritsAre(t, "far above", slices.Repeat(ruleNode(maxLen, 1, 1), impl.MaxRow), s, 1000010*1000010, impl.MaxRow+2)
	glues := slices.Repeat(listed(glueNode(glue(maxLen, maxLen, 0, maxLen, 0)), ruleNode(-maxLen, 1, 1)), 150)
	s.Width, s.Fill = 0, impl.Glue{}
	demeritsAre(t, "glues that make up for it, but the first, which is left out", glues, s, 100, 302)
}

func TestBreaksThatHaveNoDemerits(t *testing.T) {
	s := plainStyle(46)
	row := written("aa bb!c-d#e f")
	all := []int64{2, 5, 7, 11, 15}
	if got := checkBreaks(t, row, s); !slices.Equal(got, all) {
		t.Fatal(got)
	}
	for _, c := range []struct {
		what   string
		breaks []int64
		want   bool
	}{
		{"all of them", all, true},
		{"some of them", []int64{5, 15}, true},
		{"some others", []int64{2, 5, 11, 15}, true},
		{"none", nil, false},
		{"not the last one", []int64{2, 5, 7, 11}, false},
		{"the last one alone", []int64{15}, false},
		{"not the one of -10000", []int64{2, 7, 11, 15}, false},
		{"the one of -10000 alone", []int64{5}, false},
		{"one twice", []int64{5, 5, 15}, false},
		{"the last one twice", []int64{5, 15, 15}, false},
		{"one that goes back", []int64{5, 2, 15}, false},
		{"one that goes back later", []int64{5, 11, 7, 15}, false},
		{"behind the last one", []int64{5, 15, 7}, false},
		{"the beginning", []int64{-1, 5, 15}, false},
		{"a letter", []int64{1, 5, 15}, false},
		{"a penalty of 10000", []int64{5, 9, 15}, false},
		{"the last glue", []int64{5, 14, 15}, false},
		{"one that is beyond", []int64{5, 15, 16}, false},
		{"one that is far beyond", []int64{5, 15, math.MaxInt64}, false},
		{"one that is far ahead", []int64{math.MinInt64, 5, 15}, false},
		{"one that wraps", []int64{5, 1<<32 + 15}, false},
	} {
		if _, ok := checkDemerits(t, row, s, c.breaks); ok != c.want {
			t.Errorf("%s: %v", c.what, ok)
		}
	}
	if _, ok := checkDemerits(t, row, s, make([]int64, 100000)); ok {
		t.Error("far too many")
	}
}
