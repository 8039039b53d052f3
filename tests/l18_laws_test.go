package tests

import (
	"math/rand"
	"slices"
	"strconv"
	"strings"
	"testing"

	"loop.example/g00014/impl"
)

// lettersOnPage are those of a page of a description without hyphens: those of other fonts than 0, and those of 0.
func lettersOnPage(page spots) (text, rest string) {
	var ns nodes
	for _, s := range page {
		if s.Char >= 0 {
			ns = append(ns, impl.Node{Kind: impl.NodeChar, Font: s.Font, Char: s.Char})
		}
	}
	return fontLetters(ns)
}

// checkRead: the letters of what was written are read from the bytes in their order; beside them there are heads, notes and numbers, which are of font 0.
func checkRead(t *testing.T, a *author, r impl.Result, f impl.Finished) {
	t.Helper()
	d, ok := impl.DecodeDesc(r.Desc)
	if !ok || len(d) != len(f.Pages) {
		t.Fatalf("%q: %d pages are read, not %d", a.source.String(), len(d), len(f.Pages))
	}
	var text, notes string
	for i, page := range d {
		more, rest := lettersOnPage(page)
		text += more
		head := lettersIn(impl.Items(impl.Inside(f.Pages[i]))[0])
		rest, hasHead := strings.CutPrefix(rest, head)
		rest, hasFoot := strings.CutSuffix(rest, strconv.Itoa(i+1))
		if !hasHead || !hasFoot {
			t.Fatalf("%q: page %d has no head %s, or no number", a.source.String(), i+1, head)
		}
		notes += rest
	}
	if want := lettersWith(a.text, f.Refs); text != want {
		t.Fatalf("%q:\n%s, not\n%s", a.source.String(), text, want)
	}
	if want := lettersWith(a.notes, nil); notes != want {
		t.Fatalf("%q: notes\n%s, not\n%s", a.source.String(), notes, want)
	}
}

func TestWhatIsTypesetCanBeRead(t *testing.T) {
	t.Parallel()
	r := rand.New(rand.NewSource(206))
	pages, read := 0, 0
	for range 150 {
		a := newAuthor(r, 1+r.Intn(14))
		s := checkSession(t, a.source.String())
		if s.Code != impl.DigOk || !clean(s.Notes) {
			t.Fatalf("%q: %d %q", a.source.String(), s.Code, s.Notes)
		}
		pages += len(s.pages)
		if !s.Stable {
			continue
		}
		read++
		f := impl.Job(a.source.String(), impl.FormatEnv(), impl.PlainBook(), impl.MaxBudget)
		checkRead(t, a, s.Result, f)
		if joined := strings.ReplaceAll(strings.Join(s.words, ""), "-", ""); joined != lettersOfAll(s.pages) {
			t.Fatalf("%q: the words have other letters", a.source.String())
		}
	}
	if pages < 200 || read < 130 {
		t.Error("too few:", pages, read)
	}
}

// lettersOfAll are those of all pages in the order of Spots, without hyphens.
func lettersOfAll(d desc) string {
	var out strings.Builder
	for _, page := range d {
		for _, s := range page {
			if s.Char >= 0 && s.Char != '-' {
				out.WriteString(spelledOut(s))
			}
		}
	}
	return out.String()
}

// plainWords are a text of words and nothing else.
func plainWords(r *rand.Rand, count int) []string {
	var out []string
	for range count {
		out = append(out, string(byte('a'+r.Intn(26)))+randomText(r, 11, "abcdefghiklmnoprstuvwzTAVLy"))
	}
	return out
}

// Plain texts: their letters are read, and where no word is parted at a line's end, their words are.
func TestWordsOfPlainTexts(t *testing.T) {
	t.Parallel()
	r := rand.New(rand.NewSource(207))
	for range 60 {
		words := plainWords(r, 1+r.Intn(150))
		var source strings.Builder
		for _, w := range words {
			source.WriteString(w + []string{" ", " ", " ", "\n", "\n\n"}[r.Intn(5)])
		}
		s := checkSession(t, source.String())
		// The last one of each page is its number.
		var letters strings.Builder
		for i, page := range s.pages {
			all := lettersOfAll(desc{page})
			letters.WriteString(strings.TrimSuffix(all, strconv.Itoa(i+1)))
		}
		if letters.String() != strings.Join(words, "") {
			t.Fatalf("%q: %s", source.String(), letters.String())
		}
		// Without a book no word is parted; with one word a line they all stand for themselves.
		alone := strings.Join(words[:min(len(words), 15)], "\n\n")
		if got := checkSession(t, alone).words; !slices.Equal(got, append(slices.Clone(words[:min(len(words), 15)]), "1")) {
			t.Fatalf("%q: %q", alone, got)
		}
	}
}

// loosened is a text with more blanks, with notes at the ends of its lines, and empty lines at its end.
func loosened(r *rand.Rand, source string) string {
	lines := strings.Split(source, "\n")
	blanks := func(least int) string { return randomBlanks(r, least) }
	for i, line := range lines {
		if strings.Trim(line, " \t") == "" {
			lines[i] = line + blanks(0)
			continue
		}
		var out strings.Builder
		out.WriteString(blanks(0))
		for j, word := range strings.Split(line, " ") {
			if j > 0 {
				out.WriteString(blanks(1))
			}
			out.WriteString(word)
		}
		switch r.Intn(3) {
		case 0:
			out.WriteString(blanks(0))
		case 1:
			out.WriteString(blanks(1) + "%" + []string{"", "% a note", " }{ \\kern #", "\x7f $ \\end"}[r.Intn(4)])
		}
		lines[i] = out.String()
	}
	return strings.Join(lines, "\n") + strings.Repeat("\n"+blanks(0), r.Intn(4))
}

func randomBlanks(r *rand.Rand, least int) string {
	var out strings.Builder
	for range least + r.Intn(3) {
		out.WriteByte(" \t"[r.Intn(2)])
	}
	return out.String()
}

func TestBlanksAndNotesChangeNothing(t *testing.T) {
	t.Parallel()
	r := rand.New(rand.NewSource(208))
	changed := 0
	for range 150 {
		source := newAuthor(r, 1+r.Intn(8)).source.String()
		other := loosened(r, source)
		sameSession(t, source, other)
		if source != other {
			changed++
		}
		sameSession(t, source, source+strings.Repeat("\n", 1+r.Intn(5)))
	}
	if changed < 140 {
		t.Error("too few:", changed)
	}
}

func TestBlanksAndNotesKnown(t *testing.T) {
	for _, pair := range [][2]string{
		{"a", "a\n\n\n"}, {"a", " a "}, {"a", "a%"}, {"a", "a % note"}, {"a", "% note\na"}, {"a", "%\n%\na\n%"}, {"", "%"}, {"", "\n \n\t\n"},
		{"a b", "a   b"}, {"a b", "a\tb"}, {"a b", "a\nb"}, {"a b", "a \n  b"}, {"a b", "a % note\nb"}, {"a b", "a % note\n   b"}, {"ab", "a% note\nb"}, {"ab", "a%\n  b"},
		{"a\n\nb", "a\n \n\n  \nb"}, {"a\n\nb", "a % note\n\nb"}, {"a\n\nb", "a\\par b"}, {"a\n\nb", "a\n\n% note\nb"},
		{"\\section{One}a", "\\section {One}a"}, {"\\section{One}a", "\\section% note\n  {One}a\n\n\n"}, {"\\label{k}\\ref{k}", "\\label  {k}\\ref\n{k}"},
	} {
		sameSession(t, pair[0], pair[1])
	}
	for _, pair := range [][2]string{{"a b", "ab"}, {"a\nb", "a%\nb"}, {"a\n\nb", "a\nb"}, {"a", "%a"}} {
		if same(impl.Typeset(pair[0]), impl.Typeset(pair[1])) {
			t.Errorf("%q and %q are the same", pair[0], pair[1])
		}
	}
}

// Each page's picture is what Raster shows of the description's page, and there is none of one more.
func TestPicturesAtRandom(t *testing.T) {
	t.Parallel()
	r := rand.New(rand.NewSource(209))
	shown := 0
	for range 25 {
		source := newAuthor(r, 1+r.Intn(8)).source.String()
		d, ok := impl.DecodeDesc(impl.Typeset(source).Desc)
		if !ok {
			t.Fatal("no description")
		}
		for page := int64(-1); page <= int64(len(d))+1; page++ {
			cell, columns, rows := 1+r.Int63n(9*point), 1+r.Int63n(60), 1+r.Int63n(60)
			got := impl.Preview(source, page, cell, columns, rows)
			if between(1, page, int64(len(d))) {
				shown++
				if !same(got, impl.Raster(d[page-1], cell, columns, rows)) {
					t.Fatalf("page %d of %q", page, source)
				}
			} else if len(got) > 0 {
				t.Fatalf("a picture of page %d of %d", page, len(d))
			}
		}
	}
	if shown < 25 {
		t.Error("too few:", shown)
	}
}

// Every function answers whatever it is given.
func TestSessionsOfAnything(t *testing.T) {
	t.Parallel()
	r := rand.New(rand.NewSource(210))
	counts := map[string]int{}
	for i := range 700 {
		source := randomJob(r, 30)
		switch i % 4 {
		case 1:
			b := make([]byte, r.Intn(200))
			r.Read(b)
			source = string(b)
		case 2:
			source = randomText(r, 120, "ab fi\\{}$^_&#~%\n\n.1")
		case 3:
			source = newAuthor(r, 1+r.Intn(3)).source.String()
			at := r.Intn(len(source) + 1)
			source = source[:at] + randomJob(r, 3) + source[at:]
		}
		s := checkSession(t, source)
		checkPreview(t, source, r.Int63n(4)-1, r.Int63n(5*point)-1, r.Int63n(20)-1, r.Int63n(20)-1)
		if s.Code != impl.DigOk {
			counts["codes"]++
		}
		if len(s.Notes) > 0 {
			counts["notes"]++
		}
		counts["words"] += len(s.words)
	}
	for what, least := range map[string]int{"codes": 80, "notes": 100, "words": 3000} {
		if counts[what] < least {
			t.Error("too few:", what, counts)
		}
	}
}

func TestSessionAnswersAreNewMemoryAndArgumentsStay(t *testing.T) {
	t.Parallel()
	r := rand.New(rand.NewSource(211))
	for i := range 40 {
		source := newAuthor(r, 1+r.Intn(4)).source.String() + "\\message{a long note}$^$\\nono"
		if i%5 == 0 {
			source += "\\kern"
		}
		source = roomy(source)
		before := strings.Clone(source)
		checkNewMemory(t, []impl.Result{impl.Typeset(source), impl.Typeset(source)}, source)
		checkNewMemory(t, [][]string{impl.Words(source), impl.Words(source), impl.Preview(source, 1, 3*point, 90, 90), impl.Preview(source, 1, 3*point, 90, 90)}, source)
		if source != before {
			t.Fatal("the source was changed")
		}
	}
	checkNewMemory(t, []string{impl.PlainFormat()}, roomy(impl.PlainFormat()))
}

// What is written into an answer is seen in no other one.
func TestSessionAnswersHangOnNothingElse(t *testing.T) {
	source := "\\section{One}a\\ref{k}\\label{k}}\\shipout b"
	want, words, picture := impl.Typeset(source), impl.Words(source), impl.Preview(source, 1, point, 50, 50)
	spoilt, other, seen := impl.Typeset(source), impl.Words(source), impl.Preview(source, 1, point, 50, 50)
	clear(spoilt.Desc[:cap(spoilt.Desc)])
	clear(spoilt.Notes)
	clear(other[:cap(other)])
	clear(seen[:cap(seen)])
	if !same(impl.Typeset(source), want) || !same(impl.Words(source), words) || !same(impl.Preview(source, 1, point, 50, 50), picture) {
		t.Error("another answer")
	}
	checkSession(t, source)
}

// Sessions at the same time are what they are alone.
func TestSessionsAtTheSameTime(t *testing.T) {
	t.Parallel()
	source := "\\contents\\shipout\\section{One}a\\foot{b}\\ref{k}\\shipout c\\label{k}"
	want := checkSession(t, source)
	answers, words, lines := make(chan impl.Result), make(chan []string), make(chan int64)
	for range 12 {
		go func() { answers <- impl.Typeset(source) }()
		go func() { words <- impl.Words(source) }()
		go func() { lines <- impl.LinesOf(source) }()
	}
	for range 12 {
		if got := <-answers; !same(got, want.Result) {
			t.Error(got)
		}
		if !same(<-words, want.words) || <-lines != want.lines {
			t.Error("other words or lines")
		}
	}
}
