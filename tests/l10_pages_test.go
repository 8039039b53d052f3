package tests

import (
	"slices"
	"strings"
	"testing"

	"loop.example/g00014/impl"
)

// pageEnds are where pages begin and end, and what they cost.
func pageEnds(pages []impl.Page) [][3]int64 {
	var out [][3]int64
	for _, p := range pages {
		out = append(out, [3]int64{p.From, p.To, p.Cost})
	}
	return out
}

func TestPagesKnown(t *testing.T) {
	for _, c := range []struct {
		what, stack string
		height      int64
		want        [][3]int64
		body        string
	}{
		{"nothing", "", 30, nil, ""},
		{"nothing but what is discardable", " .=!#<", 30, nil, ""},
		{"one page", "a b", 30, [][3]int64{{0, 3, -10000}}, "a b"},
		{"three pages", "a b c d e", 22, [][3]int64{{0, 3, 0}, {4, 7, 0}, {8, 9, -10000}}, "a bc de"},
		{"pages that stretch", "a b c d e", 23, [][3]int64{{0, 3, 100}, {4, 7, 100}, {8, 9, -10000}}, "a bc de"},
		{"pages that shrink", "a b c d e", 21, [][3]int64{{0, 3, 100}, {4, 7, 100}, {8, 9, -10000}}, "a bc de"},
		{"pages that are underfull", "a b c d e", 30, [][3]int64{{0, 3, dear}, {4, 7, dear}, {8, 9, -10000}}, "a bc de"},
		{"pages that are overfull", "aaa bbb", 22, [][3]int64{{0, 3, impl.NoCost}, {4, 7, impl.NoCost}}, "aaabbb"},
		{"a page to each forced break", "a!b!c", 10, [][3]int64{{0, 1, -10000}, {2, 3, -10000}, {4, 5, -10000}}, "abc"},
		{"no empty page between", "a! !=!b", 10, [][3]int64{{0, 1, -10000}, {2, 7, -10000}}, "ab"},
		{"none at the beginning", "! =a", 10, [][3]int64{{0, 4, -10000}}, "a"},
		{"none at the end", "a! =", 10, [][3]int64{{0, 1, -10000}}, "a"},
		{"none behind the last break", "a!", 10, [][3]int64{{0, 1, -10000}}, "a"},
		{"glues ahead of a page", "a! ~=b c", 22, [][3]int64{{0, 1, -10000}, {2, 8, -10000}}, "ab c"},
		{"glues behind a break", "a b  ~=c d", 22, [][3]int64{{0, 3, 0}, {4, 10, -10000}}, "a bc d"},
		{"a page of a mark", "a!^!b", 10, [][3]int64{{0, 1, -10000}, {2, 3, -10000}, {4, 5, -10000}}, "a^b"},
		{"a page of an empty note", "a!_", 13, [][3]int64{{0, 1, -10000}, {2, 3, -10000}}, "a_"},
		{"notes stay where they are called", "a*b c+ d", 28, [][3]int64{{0, 3, 0}, {4, 6, 0}, {7, 8, -10000}}, "a*bc+d"},
	} {
		s := plainSheet(c.height)
		if c.what == "notes stay where they are called" {
			s.Gap = glue(3, 1, 1, 0, 0)
		}
		pages, body := checkPages(t, stacked(c.stack), s)
		if got := pageEnds(pages); !slices.Equal(got, c.want) {
			t.Errorf("%s: %v, not %v", c.what, got, c.want)
		}
		if letters(body) != letters(stacked(c.body)) {
			t.Errorf("%s: a body of %q, not %q", c.what, letters(body), letters(stacked(c.body)))
		}
	}
}

// letters are the items of a list, but for the texts of marks and writes: one byte each.
func letters(ns nodes) string {
	var out strings.Builder
	for _, item := range impl.Items(ns) {
		if len(item) > 1 && item[1].Kind == impl.NodeChar {
			out.WriteByte(byte(item[1].Char))
		} else {
			out.WriteByte("0123456789AB"[item[0].Kind])
		}
	}
	return out.String()
}

func TestMarksAndWrites(t *testing.T) {
	type texts struct{ first, last, writes string }
	for _, c := range []struct {
		what, stack string
		want        []texts
	}{
		{"none", "a!b", []texts{{}, {}}},
		{"one", "a^!b", []texts{{"mark 1", "mark 1", ""}, {"mark 1", "mark 1", ""}}},
		{"two on a page", "^a^!b!c", []texts{{"mark 0", "mark 2", ""}, {"mark 2", "mark 2", ""}, {"mark 2", "mark 2", ""}}},
		{"three on a page", "^^^a!b", []texts{{"mark 0", "mark 2", ""}, {"mark 2", "mark 2", ""}}},
		{"on the second page", "a!^b^!c!^d", []texts{{}, {"mark 2", "mark 4", ""}, {"mark 4", "mark 4", ""}, {"mark 8", "mark 8", ""}}},
		{"ahead of a page's first box", "a!=^ b", []texts{{}, {"mark 3", "mark 3", ""}}},
		{"behind its last", "a =^!b", []texts{{"mark 3", "mark 3", ""}, {"mark 3", "mark 3", ""}}},
		{"writes", "%a%%!b!c%", []texts{{"", "", "write 0 write 2 write 3"}, {}, {"", "", "write 8"}}},
		{"both", "%^a%!^%b%^", []texts{{"mark 1", "mark 1", "write 0 write 3"}, {"mark 5", "mark 9", "write 6 write 8"}}},
	} {
		pages, _ := checkPages(t, stacked(c.stack), plainSheet(100))
		var got []texts
		for _, p := range pages {
			got = append(got, texts{p.First, p.Last, strings.Join(p.Writes, " ")})
		}
		if !slices.Equal(got, c.want) {
			t.Errorf("%s: %q: %q, not %q", c.what, c.stack, got, c.want)
		}
	}
}

// A mark or a write in a box or a note is no item of the stack; an empty text is one as good as any.
func TestWhatMarksCount(t *testing.T) {
	s := plainSheet(50)
	inner := listed(markNode("inner"), writeNode("inner"))
	ns := listed(markNode("outer"), hboxNode(1, 1, 1, 0, inner), vboxNode(1, 1, 1, 0, inner), noteNode(1, 1, inner), penaltyNode(-10000), markNode(""), writeNode(""), writeNode("outer"), writeNode("outer"))
	pages, _ := checkPages(t, ns, s)
	if len(pages) != 2 || pages[0].First != "outer" || pages[0].Last != "outer" || len(pages[0].Writes) != 0 {
		t.Fatalf("%+v", pages)
	}
	if p := pages[1]; p.First != "" || p.Last != "" || !slices.Equal(p.Writes, []string{"", "outer", "outer"}) {
		t.Errorf("%+v", p)
	}
}

func TestPageBoxesKnown(t *testing.T) {
	word := glue(2, 1, 0, 1, 0)
	ns := listed(stacked(" a D+^"), hboxNode(25, 7, 6, 3), stacked(" c"))
	s := impl.Sheet{Height: 59, Deep: 4, Gap: glue(3, 3, 0, 0, 0), Notes: 12}
	pages, body := checkPages(t, ns, s)
	want := []impl.Page{
		{From: 0, To: 7, Cost: 100, First: "mark 5", Last: "mark 5", Box: vboxNode(28, 59, 2, 0,
			stacked("a"), setGlueNode(word, 3), stacked("D"), markNode("mark 5"), hboxNode(25, 7, 6, 3),
			setGlueNode(s.Gap, 6), hboxNode(4, 5, 0, 0), setGlueNode(word, 3), hboxNode(4, 3, 2, 0))},
		{From: 8, To: 9, Cost: -10000, First: "mark 5", Last: "mark 5", Box: vboxNode(10, 59, 0, 0, stacked("c"))},
	}
	if !same(pages, want) {
		t.Errorf("%+v, not %+v", pages, want)
	}
	if !same(body, listed(stacked("a D+"), markNode("mark 5"), hboxNode(25, 7, 6, 3), stacked("c"))) {
		t.Errorf("%+v", body)
	}
}

// Where one box can't be there are no pages, though others could be.
func TestPagesThatCannotBePacked(t *testing.T) {
	loose := impl.Sheet{Height: 50, Deep: maxLen, Gap: glue(0, 1, 1, 1, 1), Notes: maxLen}
	for _, c := range []struct {
		what     string
		can, not nodes
	}{
		{"a height that does not fit", listed(ruleNode(1, maxLen-1, 0), ruleNode(1, 1, 0)), listed(ruleNode(1, maxLen, 0), ruleNode(1, 1, 0))},
		{"the first page", listed(ruleNode(1, maxLen, 0), stacked("!a")), listed(ruleNode(1, maxLen, 0), stacked("a!a"))},
		{"the last page", listed(stacked("a!"), ruleNode(1, maxLen, 0)), listed(stacked("a!a"), ruleNode(1, maxLen, 0))},
		{"a width", hboxNode(maxLen-9, 1, 1, 9), hboxNode(maxLen-9, 1, 1, 10)},
		{"a box that is too deep", listed(stacked("a"), nest(40, nil, impl.NodeHbox)), listed(stacked("a"), nest(41, nil, impl.NodeHbox))},
		{"too many nodes", hboxNode(1, 1, 1, 0, manyNodes(impl.MaxNodes-2)), hboxNode(1, 1, 1, 0, manyNodes(impl.MaxNodes-1))},
		{"too many glues", noteNode(1, 1, manyGlues(impl.MaxGlue-1)...), noteNode(1, 1, manyGlues(impl.MaxGlue)...)},
		{"a glue that is set", listed(ruleNode(1, 50-maxLen, 0), stacked("_")), listed(ruleNode(1, 49-maxLen, 0), stacked("_"))},
	} {
		for _, ns := range []nodes{c.can, c.not} {
			if breaks := impl.PageBreaks(ns); len(breaks) == 0 || impl.NextBreak(ns, loose, 0) < 0 || len(impl.PageOf(ns, loose, 0, breaks[len(breaks)-1])) == 0 {
				t.Fatalf("%s: no stack", c.what)
			}
		}
		if got, body := checkPages(t, c.can, loose); len(got) == 0 || len(body) == 0 {
			t.Errorf("%s: refused, though it just can be", c.what)
		}
		if got, body := checkPages(t, c.not, loose); len(got) > 0 || len(body) > 0 {
			t.Errorf("%s: %v", c.what, pageEnds(got))
		}
	}
}

// Far more breaks than are reckoned at one time: where they stop, and which is the least, is not a matter of their number.
func TestManyBreaks(t *testing.T) {
	for count := range 70 {
		boxes := strings.Repeat("a.", count)
		for _, c := range []struct {
			what, behind string
			want         int64
		}{
			{"the end", "b", int64(2*count + 1)},
			{"a forced one", "b!c", int64(2*count + 1)},
			{"a cheaper one", "<" + strings.Repeat("c.", 20) + "z", int64(2 * count)},
		} {
			ns := stacked(boxes + c.behind)
			s := impl.Sheet{Height: maxLen}
			if strings.HasSuffix(c.behind, "z") {
				ns = listed(stacked("~"), ns, ruleNode(1, maxLen, maxLen))
				ns = append(stacked("^"), ns...)
				c.want += 2
				s.Height = 1000000
			}
			if got := checkNextBreak(t, ns, s, 0); got != c.want {
				t.Errorf("%s behind %d breaks: %d, not %d", c.what, count, got, c.want)
			}
		}
	}
}
