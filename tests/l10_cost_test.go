package tests

import (
	"testing"

	"loop.example/g00014/impl"
)

const dear = 100000

// pageCosts holds what a page costs against what was reckoned by hand.
func pageCosts(t *testing.T, ns nodes, s impl.Sheet, from, to, want int64) {
	t.Helper()
	if _, got := checkPage(t, ns, s, from, to); got != want {
		t.Errorf("PageCost(%+v, %+v, %d, %d) = %d, not %d", short(ns), s, from, to, got, want)
	}
}

// How bad a page of two boxes and a glue is, by its Height: and so with breaks of every cost.
func TestPageCostsByTheBreak(t *testing.T) {
	bads := map[int64]int64{19: 1000000, 20: 1000000, 21: 100, 22: 0, 23: 100, 24: 800, 25: 2700, 26: 6400, 27: 10000, 50: 10000}
	costs := map[string]int64{":": 9999, ">": 50, ".": 0, " ": 0, "<": -50, "?": -9999, "!": -10000}
	for height, bad := range bads {
		for sign, cost := range costs {
			want := bad + cost
			switch {
			case bad == 1000000:
				want = impl.NoCost
			case cost == -10000:
				want = -10000
			case bad == 10000:
				want = dear
			}
			pageCosts(t, stacked("a b"+sign+"c"), plainSheet(height), 0, 3, want)
			if sign == "!" {
				pageCosts(t, stacked("a b"), plainSheet(height), 0, 3, want)
			}
		}
	}
}

func TestPageCostsKnown(t *testing.T) {
	for _, c := range []struct {
		what, stack string
		from, to    int64
		just        int64 // the Height at which the page is just as tall
	}{
		{"one box", "a.", 0, 1, 10},
		{"two boxes", "ab.", 0, 2, 20},
		{"from the middle", "ab.cd.", 3, 5, 20},
		{"from within", "abc.", 1, 3, 20},
		{"a kern", "a=b.", 0, 3, 24},
		{"a kern at the end", "a=.", 0, 2, 14},
		{"discardable items first", " =#a.", 0, 4, 10},
		{"penalties within", "a#b>c.", 0, 5, 30},
		{"a vbox that holds a glue", "aV.", 0, 2, 20},
		// The last item's Depth counts as far as it is above Deep.
		{"a rule", "|a.", 0, 2, 20},
		{"a rule at the end", "a|.", 0, 2, 17},
		{"a box that is deeper than Deep", "aD.", 0, 2, 23},
		{"one that is not the last", "Da.", 0, 2, 26},
		{"a mark behind it", "aD^.", 0, 3, 26},
		{"a write behind it", "aD%.", 0, 3, 26},
		{"a kern behind it", "aD=.", 0, 3, 30},
		{"a penalty behind it", "aD#.", 0, 3, 26},
		{"what counts nothing", "a^%-C.", 0, 5, 10},
		{"a mark alone", "^.", 0, 1, 0},
		// Notes: Gap is 3.
		{"a note", "a*.", 0, 2, 18},
		{"a note ahead", "*a.", 0, 2, 18},
		{"two notes", "a**.", 0, 3, 23},
		{"a note that is empty", "a_.", 0, 2, 13},
		{"a note alone", "*.", 0, 1, 8},
		{"an empty note alone", "_.", 0, 1, 3},
		{"a note of another page", "*.a.", 2, 3, 10},
		{"a note behind the break", "a.*.", 0, 1, 10},
		{"a deep box above a note", "D*.", 0, 2, 24},
		{"a deep box above an empty note", "D_.", 0, 2, 19},
		{"an empty note behind another one", "a*_.", 0, 3, 18},
	} {
		ns := stacked(c.stack)
		pageCosts(t, ns, plainSheet(c.just), c.from, c.to, 0)
		pageCosts(t, ns, plainSheet(c.just+1), c.from, c.to, dear)
		if c.just > 0 {
			pageCosts(t, ns, plainSheet(c.just-1), c.from, c.to, impl.NoCost)
		}
	}
}

// What is in a note stretches and shrinks with the page, as does Gap; its last Depth is the page's.
func TestNotesGive(t *testing.T) {
	s := plainSheet(0)
	ns := stacked("a b+.")
	for height, want := range map[int64]int64{35: 0, 36: 13, 37: 100, 34: 13, 33: 100, 32: impl.NoCost, 38: 338} {
		s.Height = height
		pageCosts(t, ns, s, 0, 4, want)
	}
	s.Gap = glue(3, 2, 0, 4, 0)
	for height, want := range map[int64]int64{35: 0, 39: 100, 29: 100, 28: impl.NoCost} {
		s.Height = height
		pageCosts(t, ns, s, 0, 4, want)
	}
	s.Gap, s.Height = glue(3, 1, 1, 1, 2), 1000
	pageCosts(t, ns, s, 0, 4, 0)
	s.Height = 0
	pageCosts(t, ns, s, 0, 4, 0)
	s = plainSheet(36)
	s.Deep = 1 // the last box of the note has a Depth of 2
	pageCosts(t, ns, s, 0, 4, 0)
	s.Deep, s.Height = 0, 37
	pageCosts(t, ns, s, 0, 4, 0)
}

func TestNotesAreNotTooTall(t *testing.T) {
	for _, c := range []struct {
		stack string
		end   int64
		high  int64 // the Heights of its notes
	}{{"a.", 1, 0}, {"a_.", 2, 0}, {"a*.", 2, 5}, {"a+.", 2, 12}, {"a*~*.", 4, 10}, {"+a*_*.", 5, 22}} {
		ns := stacked(c.stack)
		s := plainSheet(0)
		s.Gap = glue(0, 1, 1, 1, 1)
		for _, notes := range []int64{0, c.high - 1, c.high, c.high + 1, 100} {
			s.Notes = notes
			s.Height = int64(10)
			if notes < 0 {
				continue
			}
			want := int64(0)
			if c.high > notes {
				want = impl.NoCost
			}
			pageCosts(t, ns, s, 0, c.end, want)
		}
	}
	// One that is below 0 makes up for another one; those of other pages do not count.
	ns := listed(stacked("*."), noteNode(1, -20), stacked("++."))
	s := impl.Sheet{Height: 100, Gap: glue(0, 1, 1, 0, 0), Notes: 4}
	pageCosts(t, ns, s, 2, 5, 0)
	s.Notes = 3
	pageCosts(t, ns, s, 2, 5, impl.NoCost)
	pageCosts(t, ns, s, 0, 1, impl.NoCost)
}

// A page that is empty has a cost, too.
func TestEmptyPagesCost(t *testing.T) {
	for _, c := range []struct {
		stack          string
		from, to       int64
		atNone, atSome int64
	}{
		{"", 0, 0, -10000, -10000},
		{" ", 0, 1, -10000, -10000},
		{"a ", 2, 2, -10000, -10000},
		{"=.", 0, 1, 0, dear},
		{" <", 0, 1, -50, dear},
		{" :", 0, 1, 9999, dear},
		{" !", 0, 1, -10000, -10000},
		{"a b", 1, 1, 0, dear},
	} {
		pageCosts(t, stacked(c.stack), plainSheet(0), c.from, c.to, c.atNone)
		pageCosts(t, stacked(c.stack), plainSheet(5), c.from, c.to, c.atSome)
	}
}

// Sums have no bounds: so there are costs where no box could be packed.
func TestCostsOfSumsThatDoNotFit(t *testing.T) {
	tall := ruleNode(1, maxLen, maxLen)
	low := ruleNode(1, -maxLen, -maxLen)
	s := impl.Sheet{Height: maxLen, Deep: 0, Notes: maxLen}
	for _, c := range []struct {
		what string
		ns   nodes
		want int64
	}{
		{"what is too tall", listed(tall, tall, penaltyNode(7)), impl.NoCost},
		{"what is too tall and makes up for it", listed(tall, tall, low, kernNode(-maxLen), penaltyNode(7)), 7},
		{"what shrinks", listed(tall, glueNode(glue(0, 0, 0, 1, 1)), tall, penaltyNode(7)), 7},
		{"what shrinks far", listed(tall, glueNode(glue(0, 0, 0, maxLen, 0)), glueNode(glue(0, 0, 0, maxLen, 0)), kernNode(maxLen), penaltyNode(7)), 107},
		{"what stretches far", listed(low, glueNode(glue(0, maxLen, 0, 0, 0)), low, kernNode(maxLen), kernNode(0), penaltyNode(7)), 6407},
		{"what does not stretch", listed(low, low, penaltyNode(7)), dear},
		{"notes that are too tall", listed(noteNode(1, maxLen), noteNode(1, maxLen), glueNode(glue(maxLen, 0, 0, 0, 0)), penaltyNode(7)), impl.NoCost},
	} {
		end := int64(len(impl.Items(c.ns)) - 1)
		pageCosts(t, c.ns, s, 0, end, c.want)
	}
	many := listed(noteNode(1, 0, listed(manyGlues(impl.MaxGlue+1)...)), penaltyNode(7))
	pageCosts(t, many, impl.Sheet{Height: impl.MaxGlue + 1}, 0, 1, 7)
}

func manyGlues(count int) []nodes {
	out := make([]nodes, count)
	for i := range out {
		out[i] = glueNode(glue(1, 0, 0, 0, 0))
	}
	return out
}

func TestNextBreaksKnown(t *testing.T) {
	for _, c := range []struct {
		what, stack  string
		height, from int64
		want         int64
	}{
		{"the one that fits", "a b c d", 22, 0, 3},
		{"the one that fits, from behind it", "a b c d", 22, 4, 7},
		{"from within", "a b c d", 22, 2, 5},
		{"from the break itself", "a b c d", 22, 3, 7},
		{"the end, if it can be", "a b c d", 100, 0, 7},
		{"the end, however bad", "a", 100, 0, 1},
		{"the least of all", "a<b>c~d", 30, 0, 5},
		{"the first one is the least", "a<b~c~dd", 10, 0, 1},
		{"of several as cheap the last", "a~b~c~d", 40, 0, 5},
		{"of several that are dear the last", "a.b.c.d.", 35, 0, 5},
		{"one that is cheaper further behind", "~a~b~c<d~e", 41, 0, 6},
		{"one that is cheaper ahead", "a~b<c~d~e", 48, 0, 3},
		// Ahead of and behind a forced one.
		{"a forced one", "a~b~c!d~e", 100, 0, 5},
		{"the first of two", "a!b!c", 100, 0, 1},
		{"not behind a forced one", "a!b<c", 100, 0, 1},
		{"a forced one that is overfull", "a~b<c~d!e", 40, 0, 3},
		{"a forced one that is overfull and the first", "aaa!b", 20, 0, 3},
		{"-9999 forces nothing", "a?b", 100, 0, 3},
		// The first one has NoCost already.
		{"the first one is overfull", "aa b c", 10, 0, 2},
		{"all are overfull", "aa.b.c", 10, 0, 2},
		{"the end is overfull", "aaa", 10, 0, 3},
		{"not behind the first with NoCost", "aa>bb ccc/=a", 22, 0, 2},
		{"not behind NoCost, though it would fit again", "a~b~cc.//d.e", 30, 0, 3},
		{"the first one is overfull, though it would fit again", "aaa.//b.", 15, 0, 3},
		// Notes.
		{"a note that is too tall", "a~b+~c*~d", 50, 0, 4},
		{"a note that needs its room", "a~b*~c~d", 34, 0, 4},
		{"the first one has too tall notes", "a+*~b", 100, 0, 3},
		{"notes of pages ahead do not count", "a+~b+~c", 60, 3, 7},
		// Empty pages are left out, but for the end.
		{"empty pages", " ..=.a~b.", 30, 0, 9},
		{"empty pages that are forced", "!!a!b", 30, 0, 3},
		{"empty pages that are cheaper", "<a~b~c", 25, 0, 4},
		{"nothing but empty pages", "a ..!=", 30, 2, 6},
		{"nothing but empty pages from 0", "!. ", 30, 0, 3},
		{"the end alone", "a b", 30, 3, 3},
		{"nothing", "", 30, 0, 0},
		{"nothing, of no height", "", 0, 0, 0},
	} {
		if got := checkNextBreak(t, stacked(c.stack), plainSheet(c.height), c.from); got != c.want {
			t.Errorf("%s: NextBreak(%q, %d, %d) = %d, not %d", c.what, c.stack, c.height, c.from, got, c.want)
		}
	}
}
