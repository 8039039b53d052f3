package tests

import (
	"fmt"
	"math/rand"
	"slices"
	"strconv"
	"strings"
	"testing"

	"loop.example/g00014/impl"
)

// saying is a part of what a text says: letters, the page of a mark, or all of the contents.
type saying struct {
	letters, ref string
	contents     bool
}

// author writes texts for the plain format, and keeps which letters are to stand on their pages: those of notes, which are of font 0 alone, for themselves.
type author struct {
	*rand.Rand
	source      strings.Builder
	text, notes []saying
	labels      int
}

func (a *author) put(source string, said ...saying) {
	a.source.WriteString(source)
	a.text = append(a.text, said...)
}

func (a *author) letters() string {
	return string(byte('a'+a.Intn(26))) + randomText(a.Rand, 9, "aabcdefffghiimnoTVWAxyz")
}

// word is one that is said.
func (a *author) word() {
	w := a.letters()
	a.put(w, saying{letters: w})
}

// label writes a mark, perhaps one that is there already, beside a sign by which one sees where it stands.
func (a *author) label() {
	n := a.labels
	if n > 0 && a.Intn(5) == 0 {
		n = a.Intn(n)
	} else {
		a.labels++
	}
	a.put(fmt.Sprintf("Q%d.\\label{%d}", n, n), saying{letters: fmt.Sprintf("Q%d.", n)})
}

func (a *author) note() {
	w := a.letters()
	a.source.WriteString("\\foot{" + w + "}")
	a.notes = append(a.notes, saying{letters: w})
}

// some is what may stand in a paragraph, between blanks.
func (a *author) some() {
	switch a.Intn(14) {
	case 0:
		a.put("\\emph{")
		a.word()
		a.put("}")
	case 1:
		a.label()
	case 2:
		key := strconv.Itoa(a.Intn(8))
		a.put("(\\ref{"+key+"})", saying{letters: "("}, saying{ref: key}, saying{letters: ")"})
	case 3:
		a.word()
		a.note()
	case 4:
		a.put("$a+b$", saying{letters: "a+b"})
	case 5:
		a.word()
		a.put("~")
		a.word()
	case 6:
		a.put("\\hbox{")
		a.word()
		a.put("}")
	default:
		a.word()
	}
}

func (a *author) words(most int) {
	for i := range 1 + a.Intn(most) {
		if i > 0 {
			a.put([]string{" ", " ", " ", "\n"}[a.Intn(4)])
		}
		a.some()
	}
}

// block is what stands between paragraphs, or one.
func (a *author) block() {
	switch a.Intn(12) {
	case 0:
		title := a.letters() + " " + a.letters()
		a.put("\\section{"+title+"}", saying{letters: strings.ReplaceAll(title, " ", "")})
	case 1:
		a.put("\\item{7}", saying{letters: "7"})
		a.words(12)
	case 2:
		a.put("\\centre{")
		a.words(3)
		a.put("}")
	case 3:
		a.put("\\entry{")
		a.word()
		a.put("}{")
		a.word()
		a.put("}")
	case 4:
		a.put("$$x=y$$", saying{letters: "x=y"})
	case 5:
		a.put("\\table 2{")
		a.word()
		a.put("&")
		a.word()
		a.put("\\row ")
		a.word()
		a.put("}")
	case 6:
		a.put("\\shipout")
	case 7:
		a.put("\\contents", saying{contents: true})
	default:
		a.words(40)
	}
	a.put([]string{"\n\n", "\n\n", "\\par\n"}[a.Intn(3)])
}

// newAuthor is one that has written some blocks.
func newAuthor(r *rand.Rand, blocks int) *author {
	a := &author{Rand: r}
	for range blocks {
		a.block()
	}
	return a
}

// lettersWith are the letters of what is said, when the pages are those.
func lettersWith(said []saying, rs refs) string {
	var out strings.Builder
	for _, s := range said {
		out.WriteString(s.letters)
		for _, r := range rs {
			if s.contents {
				out.WriteString(strings.ReplaceAll(r.Text, " ", ""))
			}
			if s.contents || s.ref == r.Text {
				out.WriteString(strconv.FormatInt(r.Page, 10))
			}
		}
	}
	return out.String()
}

// fontLetters are the letters of a list without hyphens: those of other fonts than 0, and those of 0.
func fontLetters(ns nodes) (text, notes string) {
	for _, n := range ns {
		if n.Kind != impl.NodeChar || n.Char == '-' {
			continue
		}
		if n.Font == 0 {
			notes += lettersIn(nodes{n})
		} else {
			text += lettersIn(nodes{n})
		}
	}
	return text, notes
}

// clean: is there no note but that a mark is not there?
func clean(notes []string) bool {
	return !slices.ContainsFunc(notes, func(note string) bool { return !strings.HasPrefix(note, "no meaning: \\page @") })
}

// checkSaid: what was written stands on the pages, in its order, and nothing else.
func checkSaid(t *testing.T, a *author, f impl.Finished) {
	t.Helper()
	var text, notes string
	for _, sheet := range f.Pages {
		more, below := fontLetters(impl.Items(impl.Inside(sheet))[2])
		text, notes = text+more, notes+below
	}
	if want := lettersWith(a.text, f.Refs); text != want {
		t.Fatalf("%q:\n%s, not\n%s", a.source.String(), text, want)
	}
	if want := lettersWith(a.notes, nil); notes != want {
		t.Fatalf("%q: notes\n%s, not\n%s", a.source.String(), notes, want)
	}
}

// checkFirstSigns: each mark's ref names the first page on which its sign stands.
func checkFirstSigns(t *testing.T, f impl.Finished) (seen int) {
	t.Helper()
	for _, r := range f.Refs {
		if _, err := strconv.Atoi(r.Text); err != nil {
			continue // a section
		}
		sign := "Q" + r.Text + "."
		first := slices.IndexFunc(f.Pages, func(sheet nodes) bool {
			text, _ := fontLetters(sheet)
			return strings.Contains(text, sign)
		})
		if first+1 != int(r.Page) {
			t.Fatalf("%+v: its sign stands on page %d", r, first+1)
		}
		seen++
	}
	return seen
}

func TestJobsAtRandom(t *testing.T) {
	t.Parallel()
	r := rand.New(rand.NewSource(201))
	e, book := impl.FormatEnv(), impl.PlainBook()
	counts := map[string]int{}
	for range 250 {
		a := newAuthor(r, 1+r.Intn(16))
		f := checkJob(t, a.source.String(), e, book, impl.MaxBudget)
		if f.Code != impl.DigOk || !clean(f.Notes) {
			t.Fatalf("%q: %s", a.source.String(), shownFinished(f))
		}
		counts[fmt.Sprint("runs ", f.Runs)]++
		counts["pages"] += len(f.Pages)
		if !f.Stable {
			continue
		}
		counts["stable"]++
		checkSaid(t, a, f)
		counts["signs"] += checkFirstSigns(t, f)
	}
	for what, least := range map[string]int{"runs 1": 20, "runs 2": 80, "runs 3": 3, "pages": 300, "stable": 240, "signs": 400} {
		if counts[what] < least {
			t.Error("too few:", what, counts)
		}
	}
}

// All letters that are written stand in the stack of a text that is digested with the plain format, in order, and no others: here of the first run, in which no page is known.
func TestLettersOfTheFormatsTexts(t *testing.T) {
	t.Parallel()
	r := rand.New(rand.NewSource(202))
	e, book := impl.FormatEnv(), impl.PlainBook()
	all := 0
	for range 400 {
		a := newAuthor(r, 1+r.Intn(10))
		d := impl.Digest(e, a.source.String(), impl.MaxBudget)
		b := impl.Build(d.Cmds, book)
		if d.Code != impl.DigOk || !clean(d.Notes) || len(b.Notes) > 0 || !impl.ListOk(b.Nodes) {
			t.Fatalf("%q: %d %q %q", a.source.String(), d.Code, d.Notes, b.Notes)
		}
		text, notes := lettersApart(b.Nodes)
		if text != lettersWith(a.text, nil) || notes != lettersWith(a.notes, nil) {
			t.Fatalf("%q: %s and %s", a.source.String(), text, notes)
		}
		all += len(text)
	}
	if all < 50000 {
		t.Error("too few:", all)
	}
}

// Texts of all that digesting knows, with the plain format and with other environments: every job is one, or has a code.
func TestJobsOfAnyText(t *testing.T) {
	t.Parallel()
	r := rand.New(rand.NewSource(203))
	format := impl.FormatEnv()
	books := []impl.Book{impl.PlainBook(), {}, {Patterns: []impl.Pattern{{}}}}
	counts := map[string]int{}
	for range 1500 {
		e := format
		switch r.Intn(4) {
		case 0:
			e = digestEnv()
		case 1:
			e = randomFormat(r)
			if r.Intn(5) == 0 {
				spoilLevel(r, &e.Levels[0])
			}
		}
		source := randomJob(r, 25)
		for range r.Intn(4) {
			source += []string{"\\label{k}", "\\ref{k}", "\\contents ", "\\section{S}", "\\shipout ", "\\write{}", "\\write{\\ref{k}}", "\\foot{\\label{l}}", "words "}[r.Intn(9)] + randomJob(r, 4)
		}
		f := checkJob(t, source, e, books[min(r.Intn(30), 29)/14], r.Int63n(2000)-20)
		checkRun(t, source, e, books[0], 1000)
		counts[fmt.Sprint("runs ", f.Runs)]++
		if f.Stable {
			counts["stable"]++
		}
		counts["pages"] += len(f.Pages)
		counts["refs"] += len(f.Refs)
		counts["notes"] += len(f.Notes)
	}
	for what, least := range map[string]int{"runs 0": 20, "runs 1": 500, "runs 2": 50, "stable": 100, "pages": 150, "refs": 100, "notes": 300} {
		if counts[what] < least {
			t.Error("too few:", what, counts)
		}
	}
}

// randomRefs are such as come out of texts, and others.
func randomRefs(r *rand.Rand, most int) refs {
	var out refs
	for range r.Intn(most + 1) {
		text := randomTitle(r)
		switch r.Intn(6) {
		case 0:
			text = randomText(r, 6, "{}}{a%\n\\#\x7f\x00 ")
		case 1:
			text = strings.Repeat("x", 30+r.Intn(8))
		case 2:
			text = strings.Repeat("y ", 10+r.Intn(120))
		}
		out = append(out, ref(text, r.Int63n(30)-2))
	}
	return out
}

func TestWithRefsAtRandom(t *testing.T) {
	t.Parallel()
	r := rand.New(rand.NewSource(204))
	with, without := 0, 0
	for range 1500 {
		e := randomFormat(r)
		switch r.Intn(8) {
		case 0:
			spoilLevel(r, &e.Levels[0])
		case 1:
			e = namesBeside(470+r.Intn(31), r.Intn(20))
		}
		rs := randomRefs(r, 30)
		if r.Intn(20) == 0 {
			rs = append(rs, ref(strings.Repeat("z", 999+r.Intn(4)), 1))
		}
		if _, ok := checkWithRefs(t, e, rs); ok {
			with++
		} else {
			without++
		}
	}
	if with < 1000 || without < 100 {
		t.Error("too few:", with, without)
	}
}

func TestJobAnswersAreNewMemoryAndArgumentsStay(t *testing.T) {
	t.Parallel()
	r := rand.New(rand.NewSource(205))
	for i := range 60 {
		e := impl.FormatEnv()
		if r.Intn(3) == 0 {
			e = randomFormat(r)
		}
		book, rs := impl.PlainBook(), randomRefs(r, 6)
		source := newAuthor(r, 1+r.Intn(4)).source.String() + "\\message{a long note}$^$\\section{a long title}\\label{a long mark}"
		if i%6 == 0 {
			source += "\\kern"
		}
		e, book, rs, source = roomy(e), roomy(book), roomy(append(rs, ref("a longer text", 7))), roomy(source)
		before := told(e) + told(book) + told(rs) + source
		first, _ := impl.WithRefs(e, rs)
		second, _ := impl.WithRefs(e, rs)
		checkNewMemory(t, []impl.Env{first, second, impl.FormatEnv(), impl.FormatEnv()}, e, rs)
		checkNewMemory(t, []impl.Ran{impl.RunOnce(source, e, book, 5000), impl.RunOnce(source, e, book, 5000)}, source, e, book)
		checkNewMemory(t, []impl.Finished{impl.Job(source, e, book, 5000), impl.Job(source, e, book, 5000)}, source, e, book)
		if told(e)+told(book)+told(rs)+source != before {
			t.Fatal("an argument was changed")
		}
	}
}

// What is written into an answer is seen in no other one.
func TestJobAnswersHangOnNothingElse(t *testing.T) {
	e, book, source := impl.FormatEnv(), impl.PlainBook(), "\\section{One}a\\ref{k}\\label{k}}\\shipout b"
	rs := refs{ref("k", 3)}
	want, wantRan, wantJob := mustWith(t, e, rs), impl.RunOnce(source, e, book, 1000), impl.Job(source, e, book, 1000)
	spoiltEnv, spoiltRan, spoiltJob := mustWith(t, e, rs), impl.RunOnce(source, e, book, 1000), impl.Job(source, e, book, 1000)
	l := spoiltEnv.Levels[0]
	clear(l.Toks[15])
	clear(l.Binds[:cap(l.Binds)])
	clear(l.Counts)
	for _, pages := range [][]nodes{spoiltRan.Pages, spoiltJob.Pages} {
		for _, sheet := range pages {
			clear(sheet[:cap(sheet)])
		}
		clear(pages)
	}
	clear(spoiltRan.Refs)
	clear(spoiltJob.Refs)
	clear(spoiltJob.Notes)
	format := impl.FormatEnv().Levels[0]
	clear(format.Cats)
	clear(format.Binds)
	if !same(mustWith(t, e, rs), want) || !same(impl.RunOnce(source, e, book, 1000), wantRan) || !same(impl.Job(source, impl.FormatEnv(), book, 1000), wantJob) {
		t.Error("another answer")
	}
}

// Jobs that are run at the same time are what they are alone.
func TestJobsAtTheSameTime(t *testing.T) {
	t.Parallel()
	source := "\\contents\\shipout\\section{One}a\\foot{b}\\ref{k}\\shipout c\\label{k}"
	want := plainJob(t, source)
	answers := make(chan impl.Finished)
	for range 20 {
		go func() { answers <- impl.Job(source, impl.FormatEnv(), impl.PlainBook(), 10000) }()
	}
	for range 20 {
		if got := <-answers; !same(got, want) {
			t.Error(shownFinished(got))
		}
	}
}
