package tests

import (
	"math/rand"
	"runtime"
	"slices"
	"strconv"
	"strings"
	"testing"
	"time"

	"loop.example/g00014/impl"
)

// checkOnSheet: a sheet is a stack of five, of which the middle one is the page's Box, just as it is; the head tells its marks, the foot its number.
func checkOnSheet(t *testing.T, sheet nodes, p impl.Page, number int64) {
	t.Helper()
	items := impl.Items(impl.Inside(sheet))
	if len(items) != 5 || !same(items[2], p.Box) || sheet[0].Kind != impl.NodeVbox || sheet[0].Depth != 0 || !impl.ListOk(sheet) {
		t.Fatalf("sheet %d of %+v: %+v", number, p, short(sheet))
	}
	gap := kernNode(impl.SheetGap)
	if !same(items[1], gap) || !same(items[3], gap) {
		t.Fatalf("sheet %d: gaps of %+v and %+v", number, items[1], items[3])
	}
	width := p.Box[0].Width
	if !same(items[0], impl.HeadOf(p.First, p.Last, width)) || !same(items[4], impl.FootOf(number, width)) {
		t.Fatalf("sheet %d: head %+v, foot %+v", number, items[0], items[4])
	}
	if text := lettersIn(items[4]); text != strconv.FormatInt(number, 10) {
		t.Fatalf("sheet %d has the number %s", number, text)
	}
	head := lettersIn(impl.TextLine(p.First, 0)) + lettersIn(impl.TextLine(p.Last, 0))
	if text := lettersIn(items[0]); text != head {
		t.Fatalf("sheet %d: a head of %q, not %q", number, text, head)
	}
	sum := int64(2 * impl.SheetGap)
	for _, at := range []int{0, 2, 4} {
		sum += items[at][0].Height + items[at][0].Depth
	}
	if sheet[0].Height != sum {
		t.Fatalf("sheet %d is %d tall, not %d", number, sheet[0].Height, sum)
	}
}

// checkFirstPages: each ref names the first page on which its text is written, and none is left out without need; they come in the order of the writes.
func checkFirstPages(t *testing.T, refs []impl.Ref, pages []impl.Page) {
	t.Helper()
	var texts []string
	for _, p := range pages {
		for _, text := range p.Writes {
			if !slices.Contains(texts, text) {
				texts = append(texts, text)
			}
		}
	}
	texts = texts[:min(len(texts), impl.MaxRefs)]
	if len(refs) != len(texts) {
		t.Fatalf("%d refs of %d texts", len(refs), len(texts))
	}
	for i, r := range refs {
		first := slices.IndexFunc(pages, func(p impl.Page) bool { return slices.Contains(p.Writes, r.Text) })
		if r.Text != texts[i] || r.Page != int64(first+1) {
			t.Fatalf("ref %d is %+v, not %q on page %d", i, r, texts[i], first+1)
		}
	}
}

// There are as many sheets as pages, each a box that holds the page's; refs name first pages.
func TestSheetsAtRandom(t *testing.T) {
	t.Parallel()
	r := rand.New(rand.NewSource(173))
	counts := map[string]int{}
	for range 5000 {
		b := randomBuilt(r)
		sheets, refs := checkSheets(t, b)
		pages := impl.Pages(b.Nodes, sheetFor(b.Height))
		if len(sheets) == 0 {
			counts["nothing"]++
			if len(pages) > 0 {
				counts["pages without sheets"]++
			}
			continue
		}
		if len(sheets) != len(pages) {
			t.Fatalf("%d sheets of %d pages", len(sheets), len(pages))
		}
		for i, p := range pages {
			checkOnSheet(t, sheets[i], p, int64(i+1))
			if p.First != p.Last {
				counts["two marks"]++
			}
			if i > 0 && p.First == pages[i-1].Last && p.First != "" {
				counts["marks carried over"]++
			}
		}
		checkFirstPages(t, refs, pages)
		counts["sheets"] += len(sheets)
		counts["refs"] += len(refs)
	}
	for what, least := range map[string]int{"nothing": 500, "pages without sheets": 100, "sheets": 5000, "refs": 1000, "two marks": 200, "marks carried over": 300} {
		if counts[what] < least {
			t.Error("too few:", what, counts)
		}
	}
}

// A sheet's page stands where it would alone, below the head.
func TestWhereThingsOnASheetStand(t *testing.T) {
	t.Parallel()
	r := rand.New(rand.NewSource(174))
	seen := 0
	for range 2000 {
		l := lengths{r, []int64{40, 1000, 50 * impl.Point}[r.Intn(3)]}
		box := boxNode(impl.NodeHbox+r.Int63n(2), l.from0(), l.from0(), l.from0(), l.length(), l.list(6, 3))
		p := pageOf(randomTitle(r), randomTitle(r), box)
		n := r.Int63n(2000)
		sheet := checkSheetBox(t, p, n)
		if len(sheet) == 0 {
			continue
		}
		checkOnSheet(t, sheet, p, n)
		x, y := l.length(), l.length()
		head, foot := impl.HeadOf(p.First, p.Last, box[0].Width), impl.FootOf(n, box[0].Width)
		top := y - sheet[0].Height
		below := top + head[0].Height + head[0].Depth + impl.SheetGap
		want := slices.Concat(
			impl.Spots(head, x, top+head[0].Height),
			impl.Spots(box, x+box[0].Shift, below+box[0].Height),
			impl.Spots(foot, x, below+box[0].Height+box[0].Depth+impl.SheetGap+foot[0].Height),
		)
		if got := checkSpots(t, sheet, x, y); !same(got, want) {
			t.Fatalf("%+v, not %+v", got, want)
		}
		seen++
	}
	if seen < 1500 {
		t.Error("too few:", seen)
	}
}

// A long text as one would set it.
func TestABookOfSheets(t *testing.T) {
	t.Parallel()
	r := rand.New(rand.NewSource(175))
	var ns nodes
	for line := range 900 {
		ns = append(ns, hboxNode(300*impl.Point, 7*impl.Point, 2*impl.Point, 0)...)
		switch r.Intn(9) {
		case 0:
			ns = append(ns, noteNode(1, 8*impl.Point, hboxNode(300*impl.Point, 6*impl.Point, 2*impl.Point, 0))...)
		case 1:
			ns = append(ns, markNode("Section "+strconv.Itoa(line))...)
		case 2:
			ns = append(ns, writeNode("line "+strconv.Itoa(r.Intn(line+1)))...)
		}
		ns = append(ns, glueNode(glue(3*impl.Point, impl.Point, 0, 0, 0))...)
	}
	b := builtOf(400*impl.Point, ns)
	sheets, refs := checkSheets(t, b)
	pages := impl.Pages(ns, sheetFor(b.Height))
	if len(sheets) < 25 || len(sheets) != len(pages) || len(refs) < 50 {
		t.Fatal("too few:", len(sheets), len(pages), len(refs))
	}
	for i, p := range pages {
		checkOnSheet(t, sheets[i], p, int64(i+1))
	}
	checkFirstPages(t, refs, pages)
}

func TestSheetAnswersAreNewMemoryAndArgumentsStay(t *testing.T) {
	t.Parallel()
	r := rand.New(rand.NewSource(176))
	sheetsSeen, refsSeen := 0, 0
	for range 400 {
		b := randomBuilt(r)
		b.Nodes = listed(markNode("a long mark"), b.Nodes, hboxNode(1, 1, 1, 0, writeNode("an inner write")), writeNode("a long write"), penaltyNode(-10000), writeNode("another"), noteNode(1, 0, markNode("an inner mark")), hboxNode(1, 1, 1, 0), penaltyNode(-10000), writeNode("a long write"))
		b.Notes = []string{"a note", "another note"}
		b = roomy(b)
		before := told(b)
		sheets, refs := impl.Sheets(b), impl.Refs(b)
		checkNewMemory(t, [][]nodes{sheets, impl.Sheets(b)}, b)
		checkNewMemory(t, [][]impl.Ref{refs, impl.Refs(b)}, b)
		if told(b) != before {
			t.Fatalf("%+v was changed", b)
		}
		sheetsSeen += len(sheets)
		refsSeen += len(refs)
		page := roomy(impl.Page{Box: vboxNode(90, 80, 0, 0, b.Nodes), First: "a first mark", Last: "a last one", Writes: []string{"a write"}})
		before = told(page)
		checkNewMemory(t, []nodes{impl.SheetBox(page, 7), impl.SheetBox(page, 7)}, page)
		if told(page) != before {
			t.Fatalf("%+v was changed", page)
		}
		first, last := strings.Clone(randomTitle(r)), strings.Clone(randomTitle(r))
		checkNewMemory(t, []nodes{impl.TextLine(first, 3), impl.TextLine(first, 3), impl.HeadOf(first, last, 90), impl.HeadOf(first, last, 90), impl.FootOf(7, 90), impl.FootOf(7, 90)}, first, last)
	}
	if sheetsSeen < 400 || refsSeen < 400 {
		t.Error("too few:", sheetsSeen, refsSeen)
	}
}

// What is written into an answer is seen in no other one.
func TestSheetAnswersHangOnNothingElse(t *testing.T) {
	b := builtOf(100*impl.Point, stacked("^%a*!b%^!c"))
	page := pageOf("first mark", "last mark", vboxNode(90*impl.Point, 9, 9, 0, stacked("a b")))
	sheets, refs := impl.Sheets(b), impl.Refs(b)
	lists := append(slices.Clone(sheets), impl.TextLine("a word", 4), impl.HeadOf("a b", "c", 900), impl.FootOf(12, 900), impl.SheetBox(page, 3))
	for _, list := range lists {
		if len(list) == 0 {
			t.Fatal("nothing")
		}
		for i := range list[:cap(list)] {
			list[:cap(list)][i] = impl.Node{Kind: -5, Kids: 99}
		}
	}
	for i := range refs {
		refs[i] = impl.Ref{Text: "another", Page: -9}
	}
	for i := range sheets {
		sheets[i] = nil
	}
	if again, refs := checkSheets(t, b); len(again) != 3 || len(refs) != 2 {
		t.Error(len(again), refs)
	}
	checkText(t, "a word", 4)
	checkHead(t, "a b", "c", 900)
	checkFoot(t, 12, 900)
	checkSheetBox(t, page, 3)
}

// When the sheets are answered nobody is at work any more, also when one of them can't be.
func TestNobodyWorksOnSheetsThatAreAnswered(t *testing.T) {
	bad := nest(40, nil, impl.NodeHbox)
	builts := []impl.Built{
		builtOf(100*impl.Point, stacked("%a!b!c!d")),
		builtOf(100*impl.Point, bad, stacked("!b!c!d")),
		builtOf(100*impl.Point, stacked("a!"), bad, stacked("!c!d")),
		builtOf(100*impl.Point, stacked("a!b!c!"), bad),
		builtOf(-1, stacked("a")),
		{},
	}
	before := runtime.NumGoroutine()
	for range 200 {
		for _, b := range builts {
			impl.Sheets(b)
			impl.Refs(b)
		}
	}
	for range 200 {
		if runtime.NumGoroutine() <= before {
			return
		}
		time.Sleep(5 * time.Millisecond)
	}
	t.Errorf("%d at work, %d before", runtime.NumGoroutine(), before)
}

// Sheets that are made at the same time are those that are made alone.
func TestSheetsAtTheSameTime(t *testing.T) {
	t.Parallel()
	b := builtOf(100*impl.Point, stacked("^%a*!b%^!c!d%"))
	want, wantRefs := checkSheets(t, b)
	answers, refs := make(chan []nodes), make(chan []impl.Ref)
	for range 30 {
		go func() { answers <- impl.Sheets(b) }()
		go func() { refs <- impl.Refs(b) }()
	}
	for range 30 {
		if got, gotRefs := <-answers, <-refs; !same(got, want) || !same(gotRefs, wantRefs) {
			t.Error(got, gotRefs)
		}
	}
}

func TestSheetsOfAnyNumbers(t *testing.T) {
	t.Parallel()
	r := rand.New(rand.NewSource(177))
	number := func() int64 {
		if r.Intn(3) == 0 {
			return anyNumber(r)
		}
		return corners[r.Intn(len(corners))]
	}
	can := 0
	for range 5000 {
		b := randomBuilt(r)
		if r.Intn(3) == 0 {
			b.Height = number()
		}
		if len(b.Nodes) > 0 && r.Intn(3) == 0 {
			spoilNode(r, &b.Nodes[r.Intn(len(b.Nodes))])
		}
		if sheets, _ := checkSheets(t, b); len(sheets) > 0 {
			can++
		}
		p := impl.Page{From: number(), To: number(), Cost: number(), Box: b.Nodes, First: randomTitle(r), Last: randomTitle(r)}
		checkSheetBox(t, p, number())
		p.Box = boxNode(impl.NodeHbox+r.Int63n(2), number(), number(), 0, 0, b.Nodes)
		checkSheetBox(t, p, r.Int63n(100))
		checkHead(t, p.First, p.Last, number())
		checkFoot(t, number(), number())
		checkText(t, p.First, number())
	}
	if can < 1000 {
		t.Error("too few that can be:", can)
	}
}
