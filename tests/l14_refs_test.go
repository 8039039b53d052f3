package tests

import (
	"slices"
	"strconv"
	"strings"
	"testing"

	"loop.example/g00014/impl"
)

// shownRefs are refs as one writes them.
func shownRefs(refs []impl.Ref) string {
	var out []string
	for _, r := range refs {
		out = append(out, r.Text+" "+strconv.FormatInt(r.Page, 10))
	}
	return strings.Join(out, ", ")
}

// pagesWith are pages that are told by what is written on them: a word is a write, / ends a page.
func pagesWith(text string) nodes {
	ns := hboxNode(9, 5, 0, 0)
	for _, word := range strings.Fields(text) {
		if word == "/" {
			ns = listed(ns, penaltyNode(-10000), hboxNode(9, 5, 0, 0))
		} else {
			ns = listed(ns, writeNode(word))
		}
	}
	return ns
}

func TestRefsKnown(t *testing.T) {
	for _, c := range []struct{ what, pages, want string }{
		{"none", "", ""},
		{"none on several pages", "/ /", ""},
		{"one", "k", "k 1"},
		{"two on a page", "k j", "k 1, j 1"},
		{"in the order of the writes", "j k i", "j 1, k 1, i 1"},
		{"on several pages", "k / j / i", "k 1, j 2, i 3"},
		{"on the last page alone", "/ / / k", "k 4"},
		{"the same twice on a page", "k k", "k 1"},
		{"the same with another between", "k j k", "k 1, j 1"},
		{"the same on two pages", "k / k", "k 1"},
		{"the same on two later pages", "/ k / k j", "k 2, j 3"},
		{"the same on all pages", "k / j k / k i / i j k", "k 1, j 2, i 3"},
		{"more than nine pages", "/ / / / / / / / / k / j", "k 10, j 11"},
		{"texts that begin alike", "k kk k1 / K k kk", "k 1, kk 1, k1 1, K 2"},
	} {
		if _, refs := checkSheets(t, builtOf(100, pagesWith(c.pages))); shownRefs(refs) != c.want {
			t.Errorf("%s: %q, not %q", c.what, shownRefs(refs), c.want)
		}
	}
}

// Every text is one as good as another: an empty one, one of blanks, of any bytes, and the longest.
func TestTextsOfRefs(t *testing.T) {
	long := strings.Repeat("k", impl.MaxNoteText)
	texts := []string{"", " ", "a b", " a b", "a b ", "\x00", "\x80\xff", "\\ref{k}", long, long[1:], long[1:] + "j"}
	var ns nodes
	var want []impl.Ref
	for i, text := range texts {
		ns = listed(ns, writeNode(text), hboxNode(9, 5, 0, 0), penaltyNode(-10000))
		want = append(want, impl.Ref{Text: text, Page: int64(i + 1)})
	}
	for _, text := range slices.Backward(texts) {
		ns = listed(ns, writeNode(text))
	}
	if _, refs := checkSheets(t, builtOf(100, ns)); !same(refs, want) {
		t.Errorf("%+v", refs)
	}
	if _, refs := checkSheets(t, builtOf(100, hboxNode(1, 1, 1, 0), writeNode(long+"k"))); len(refs) > 0 {
		t.Error("a text that is too long")
	}
}

// Only writes that are items of the stack are refs; marks, and what stands in boxes and notes, are none.
func TestWhatIsARef(t *testing.T) {
	inner := listed(writeNode("inner"), markNode("inner"))
	ns := listed(markNode("mark"), hboxNode(1, 1, 1, 0, inner), vboxNode(1, 1, 1, 0, inner), noteNode(1, 1, inner), penaltyNode(-10000), writeNode("outer"), markNode("outer"))
	if _, refs := checkSheets(t, builtOf(900*impl.Point, ns)); shownRefs(refs) != "outer 2" {
		t.Error(refs)
	}
}

// What is written where nothing else stands has a page, too; what is discardable around it is no matter.
func TestRefsBesideBreaks(t *testing.T) {
	for stack, want := range map[string]string{
		"%":         "write 0 1",
		"!%":        "write 1 1",
		"%!%":       "write 0 1, write 2 2",
		"a%!%b":     "write 1 1, write 3 2",
		"a! =%=!!b": "write 4 2",
		"a!!!%":     "write 4 2",
		"% % %":     "write 0 1, write 2 1, write 4 1",
	} {
		if _, refs := checkSheets(t, builtOf(100*impl.Point, stacked(stack))); shownRefs(refs) != want {
			t.Errorf("%q: %q, not %q", stack, shownRefs(refs), want)
		}
	}
}

// manyWrites are so many unlike ones, some on each page.
func manyWrites(from, count, onPage int) nodes {
	var ns nodes
	for i := range count {
		ns = append(ns, writeNode("w"+strconv.Itoa(from+i))...)
		if (i+1)%onPage == 0 {
			ns = listed(ns, penaltyNode(-10000))
		}
	}
	return ns
}

func TestTheMostRefs(t *testing.T) {
	t.Parallel()
	for _, onPage := range []int{1, 7, 10000} {
		for _, count := range []int{499, 500, 501, 502, 900} {
			ns := manyWrites(0, count, onPage)
			_, refs := checkSheets(t, builtOf(100, ns))
			if len(refs) != min(count, impl.MaxRefs) {
				t.Errorf("%d writes: %d refs", count, len(refs))
			}
			for i, r := range refs {
				if r.Text != "w"+strconv.Itoa(i) || r.Page != int64(i/onPage+1) {
					t.Fatalf("%d writes: %+v at %d", count, r, i)
				}
			}
		}
		// Those that are told already take no room, wherever they stand.
		for _, ns := range []nodes{
			listed(manyWrites(0, 300, onPage), manyWrites(0, 300, onPage), manyWrites(300, 200, onPage), manyWrites(100, 300, onPage)),
			listed(manyWrites(0, 499, onPage), manyWrites(0, 499, onPage), manyWrites(499, 1, onPage)),
			listed(manyWrites(0, 499, onPage), manyWrites(0, 499, onPage), manyWrites(499, 2, onPage), manyWrites(0, 9, onPage)),
		} {
			if _, refs := checkSheets(t, builtOf(100, ns)); len(refs) != impl.MaxRefs || refs[499].Text != "w499" {
				t.Errorf("%d on a page, some twice: %d refs", onPage, len(refs))
			}
		}
	}
}

// A text as one writes it: its sheets, and where it refers to.
func TestSheetsOfAText(t *testing.T) {
	text := `\len 0=150pt \len 1=60pt \count 1=10000 \count 2=10 \glue 0=13pt \glue 3=0pt plus 1fil \glue 4=0pt plus 1fil \font 2
\mark{One fine day}\write{one}First words\write{both} of all\note 1{\font 0 below\par}.\shipout
Second page\write{two}\write{both}\mark{Two}, and \mark{Two and more}more.\shipout
The last\write{three}.\write{one}`
	d := impl.Digest(impl.NewEnv(), text, impl.MaxBudget)
	b := impl.Build(d.Cmds, impl.PlainBook())
	if d.Code != impl.DigOk || len(b.Notes) > 0 {
		t.Fatal(d.Code, b.Notes)
	}
	sheets, refs := checkSheets(t, b)
	want := []string{"OnefinedayOnefineday|Firstwordsofall.below|1", "TwoTwoandmore|Secondpage,andmore.|2", "TwoandmoreTwoandmore|Thelast.|3"}
	if texts := sheetTexts(sheets); !slices.Equal(texts, want) {
		t.Errorf("%q, not %q", texts, want)
	}
	if got := shownRefs(refs); got != "one 1, both 1, two 2, three 3" {
		t.Errorf("%q", got)
	}
}
