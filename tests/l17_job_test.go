package tests

import (
	"fmt"
	"math"
	"slices"
	"strings"
	"testing"

	"loop.example/g00014/impl"
)

func TestRunsKnown(t *testing.T) {
	e, book := impl.FormatEnv(), impl.PlainBook()
	for _, c := range []struct {
		what, source, sheets, refs string
		notes                      []string
	}{
		{"nothing", "", "", "", nil},
		{"a page", "a b", "|ab|1", "", nil},
		{"two pages", "a\\shipout b", "|a|1 |b|2", "", nil},
		{"a reference that nothing is known of", "a\\ref{k}\\label{k}", "|a|1", "k 1", []string{"no meaning: \\page @k "}},
		{"notes of both stages, one behind the other", "$^$\\nono\\message{m}a}", "|a|1", "", []string{"no meaning: \\nono ", "say: m", "stray close", "bad formula"}},
		{"contents of which nothing is known", "\\contents a\\label{k}", "|a|1", "k 1", nil},
	} {
		got := checkRun(t, c.source, e, book, 1000)
		if got.Code != impl.DigOk || strings.Join(sheetTexts(got.Pages), " ") != c.sheets || shownRefs(got.Refs) != c.refs || !slices.Equal(got.Notes, c.notes) {
			t.Errorf("%s: %d, %q, %v, %q", c.what, got.Code, sheetTexts(got.Pages), got.Refs, got.Notes)
		}
	}
	// What is known is told.
	with := mustWith(t, e, refs{ref("k", 12), ref("l", 3)})
	if got := checkRun(t, "a\\ref{k}b\\ref{l}\\contents", with, book, 1000); len(got.Notes) > 0 || len(got.Refs) > 0 || sheetTexts(got.Pages)[0] != "|a12b3k12l3|1" {
		t.Errorf("%q, %v, %q", sheetTexts(got.Pages), got.Refs, got.Notes)
	}
}

// More notes than one stage has come from both together.
func TestAsManyNotesAsBothStagesHave(t *testing.T) {
	source := strings.Repeat("}$^$", 300)
	got := checkRun(t, source, impl.FormatEnv(), impl.PlainBook(), impl.MaxBudget)
	d := impl.Digest(impl.FormatEnv(), source, impl.MaxBudget)
	b := impl.Build(d.Cmds, impl.PlainBook())
	if len(d.Notes) != impl.MaxNotes || len(got.Notes) != len(d.Notes)+len(b.Notes) || len(b.Notes) < impl.MaxNotes {
		t.Error(len(got.Notes), len(d.Notes), len(b.Notes))
	}
}

// With a Code there are the notes till then, and nothing else.
func TestRunsWithACode(t *testing.T) {
	e, book := impl.FormatEnv(), impl.PlainBook()
	for _, c := range []struct {
		source string
		budget int64
		code   int64
		notes  []string
	}{
		{"\\kern", 1000, impl.DigEnd, nil},
		{"a\\label{k}\\message{m}\\kern", 1000, impl.DigEnd, []string{"say: m"}},
		{"}\\kern x", 1000, impl.DigExp + impl.ExpNumber, []string{"stray close"}},
		{"\\font 16 ", 1000, impl.DigRange, nil},
		{"\\label", 1000, impl.DigEnd, nil},
		{"\\def 1{}", 1000, impl.DigName, nil},
		{strings.Repeat("{", 30), 1000, impl.DigDeep, nil},
		{"a", 0, impl.DigBudget, nil},
		{"ab", 1, impl.DigBudget, nil},
		{"", -1, impl.DigArgs, nil},
		{"", math.MinInt64, impl.DigArgs, nil},
		{"", impl.MaxBudget + 1, impl.DigArgs, nil},
		{strings.Repeat(" ", impl.MaxText+1), 1000, impl.DigArgs, nil},
		{strings.Repeat("a", 20001), impl.MaxBudget, impl.DigFull, nil},
	} {
		got := checkRun(t, c.source, e, book, c.budget)
		if !same(got, impl.Ran{Code: c.code, Notes: c.notes}) {
			t.Errorf("%.30q, %d: %d, %q", c.source, c.budget, got.Code, got.Notes)
		}
		if f := checkJob(t, c.source, e, book, c.budget); !same(f, impl.Finished{Runs: 1, Code: c.code, Notes: c.notes}) {
			t.Errorf("%.30q, %d: %s", c.source, c.budget, shownFinished(f))
		}
	}
	// What is just enough is taken.
	for _, c := range []struct {
		source string
		budget int64
	}{{"", 0}, {"a", 1}, {"ab", 2}, {"", impl.MaxBudget}, {strings.Repeat(" ", impl.MaxText), 0}, {strings.Repeat("a", 19999), impl.MaxBudget}} {
		if got := checkRun(t, c.source, e, book, c.budget); got.Code != impl.DigOk {
			t.Errorf("%.30q, %d: %d", c.source, c.budget, got.Code)
		}
	}
}

// badBooks are no books.
func badBooks() []impl.Book {
	return []impl.Book{
		{Patterns: []impl.Pattern{{}}},
		{Patterns: []impl.Pattern{pattern("a", 0, 10)}},
		{Patterns: slices.Repeat([]impl.Pattern{pattern("a", 0, 0)}, impl.MaxPatterns+1)},
		{Words: []impl.Exception{exception("b"), exception("a")}},
		{Words: []impl.Exception{exception("ab", 2)}},
	}
}

// wrongJobEnvs are environments with which nothing is run.
func wrongJobEnvs() []impl.Env {
	format := impl.FormatEnv()
	bad := impl.FormatEnv()
	bad.Levels[0].Counts[5] = impl.MaxCount + 1
	return []impl.Env{{}, {Levels: []impl.Level{}}, {Levels: slices.Repeat(format.Levels, 2)}, {Levels: slices.Repeat(format.Levels, 21)}, {Levels: []impl.Level{{}}}, bad}
}

func TestJobsWithAWrongBook(t *testing.T) {
	e := impl.FormatEnv()
	for i, book := range badBooks() {
		for _, source := range []string{"", "a\\label{k}", "\\kern", strings.Repeat("a", impl.MaxText+1)} {
			for _, budget := range []int64{1000, 0, -1} {
				if got := checkRun(t, source, e, book, budget); !same(got, impl.Ran{Code: impl.JobBook}) {
					t.Errorf("book %d: %d", i, got.Code)
				}
				if f := checkJob(t, source, e, book, budget); !same(f, impl.Finished{Runs: 1, Code: impl.JobBook}) {
					t.Errorf("book %d: %s", i, shownFinished(f))
				}
			}
		}
		// A run asks for the book ahead of all else; a job has asked for the environment by then.
		for _, wrong := range wrongJobEnvs() {
			if got := checkRun(t, "a", wrong, book, 1000); !same(got, impl.Ran{Code: impl.JobBook}) {
				t.Errorf("book %d, and a wrong environment: %d", i, got.Code)
			}
			if f := checkJob(t, "a", wrong, book, 1000); !same(f, impl.Finished{Code: impl.DigArgs}) {
				t.Errorf("book %d, and a wrong environment: %s", i, shownFinished(f))
			}
		}
	}
	if impl.JobBook != 200 {
		t.Error(impl.JobBook)
	}
}

func TestJobsWithAWrongEnvironment(t *testing.T) {
	for i, e := range wrongJobEnvs() {
		for _, source := range []string{"", "a", "\\kern"} {
			if got := checkRun(t, source, e, impl.PlainBook(), 1000); !same(got, impl.Ran{Code: impl.DigArgs}) {
				t.Errorf("environment %d: %d", i, got.Code)
			}
			if f := checkJob(t, source, e, impl.PlainBook(), 1000); !same(f, impl.Finished{Code: impl.DigArgs}) {
				t.Errorf("environment %d: %s", i, shownFinished(f))
			}
		}
	}
}

func TestReferences(t *testing.T) {
	for _, c := range []struct {
		what, source string
		runs         int64
		sheets       string
		refs         string
		notes        []string
	}{
		{"no letters at all", "", 1, "", "", nil},
		{"blanks and empty lines alone", "  \n\n \n", 1, "", "", nil},
		{"one page", "a", 1, "|a|1", "", nil},
		{"a mark that nothing refers to", "a\\label{k}", 2, "|a|1", "k 1", nil},
		{"ahead of its mark", "a\\ref{k}\\shipout b\\label{k}", 2, "|a2|1 |b|2", "k 2", nil},
		{"behind its mark", "a\\label{k}\\shipout b\\ref{k}", 2, "|a|1 |b1|2", "k 1", nil},
		{"on the page of its mark", "a\\label{k}\\ref{k}\\ref{k}b", 2, "|a11b|1", "k 1", nil},
		{"to a mark that is not there", "a\\ref{k}b", 1, "|ab|1", "", []string{"no meaning: \\page @k "}},
		{"to one of two marks", "a\\ref{k}b\\ref{l}\\label{l}", 2, "|ab1|1", "l 1", []string{"no meaning: \\page @k "}},
		{"to a mark that is written twice", "a\\shipout b\\ref{k}\\label{k}\\shipout c\\label{k}\\ref{k}", 2, "|a|1 |b2|2 |c2|3", "k 2", nil},
		{"each to the other", "a\\label{k}\\ref{l}\\shipout b\\label{l}\\ref{k}", 2, "|a2|1 |b1|2", "k 1, l 2", nil},
		{"to a section", "a\\ref{Two}\\shipout\\section{Two}b", 2, "|a2|1 TwoTwo|Twob|2", "Two 2", nil},
		{"to a text of blanks and signs", "a\\ref{x y, z}\\label{x y, z}", 2, "|a1|1", "x y, z 1", nil},
		{"by a name that is made", "\\def\\k{key}a\\ref{\\k}\\label{\\k}", 2, "|a1|1", "key 1", nil},
		{"that make a page of their own", "\\ref{k}\\shipout a\\label{k}", 3, "|2|1 |a|2", "k 2", nil},
		{"contents", "\\contents\\shipout a\\label{k}\\shipout b\\label{l}", 3, "|k2l3|1 |a|2 |b|3", "k 2, l 3", nil},
		{"contents at the end", "a\\label{k}\\shipout b\\label{l}\\shipout\\contents", 2, "|a|1 |b|2 |k1l2|3", "k 1, l 2", nil},
		{"contents of sections", "\\contents\\shipout\\section{One}a\\shipout\\section{Two}b", 3, "|One2Two3|1 OneOne|Onea|2 TwoTwo|Twob|3", "One 2, Two 3", nil},
	} {
		f := plainJob(t, c.source)
		if f.Code != impl.DigOk || !f.Stable || f.Runs != c.runs || strings.Join(sheetTexts(f.Pages), " ") != c.sheets || shownRefs(f.Refs) != c.refs || !slices.Equal(f.Notes, c.notes) {
			t.Errorf("%s: %s", c.what, shownFinished(f))
		}
	}
}

// A table of contents that fills pages of its own: all that is behind it moves, and then it is right.
func TestContentsThatFillPages(t *testing.T) {
	var source strings.Builder
	source.WriteString("\\contents\\shipout ")
	for i := range 60 {
		fmt.Fprintf(&source, "\\section{Part %d}Some words.\\shipout ", i)
	}
	f := plainJob(t, source.String())
	if f.Code != impl.DigOk || !f.Stable || f.Runs != 3 || len(f.Refs) != 60 || len(f.Notes) > 0 {
		t.Fatal(shownFinished(f))
	}
	ahead := len(f.Pages) - 60
	if ahead < 2 {
		t.Fatalf("%d pages", len(f.Pages))
	}
	for i, r := range f.Refs {
		if r.Text != fmt.Sprint("Part ", i) || r.Page != int64(ahead+i+1) {
			t.Errorf("%+v, behind %d pages of contents", r, ahead)
		}
	}
	var entries strings.Builder
	for i := range 60 {
		fmt.Fprintf(&entries, "Part%d%d", i, ahead+i+1)
	}
	var contents strings.Builder
	for _, sheet := range f.Pages[:ahead] {
		contents.WriteString(lettersIn(impl.Items(impl.Inside(sheet))[2]))
	}
	if contents.String() != entries.String() {
		t.Errorf("%s, not %s", contents.String(), entries.String())
	}
}

// climbing is a text whose mark stands one page further than where it stood in the run ahead, up to a page; then it stays.
func climbing(to int) string {
	var source strings.Builder
	source.WriteString("\\count 3=0\\ref{k} \\ifcase\\count 3 ")
	for i := range to {
		page := min(i+1, to-1)
		source.WriteString("\\or " + strings.Repeat("a\\shipout ", page))
	}
	return source.String() + "\\fi b\\label{k}"
}

func TestHowManyRunsAJobHas(t *testing.T) {
	for to := 1; to <= 9; to++ {
		f := plainJob(t, climbing(to))
		wantRuns, wantPage := min(to+1, impl.MaxRuns), min(to, impl.MaxRuns)
		if f.Code != impl.DigOk || f.Runs != int64(wantRuns) || f.Stable != (to < impl.MaxRuns) || !same(f.Refs, refs{ref("k", int64(wantPage))}) || len(f.Pages) != wantPage {
			t.Errorf("up to page %d: %s", to, shownFinished(f))
		}
	}
	if impl.MaxRuns != 5 {
		t.Error(impl.MaxRuns)
	}
}

// restless is a text whose mark stands on the second page, if it stood on the first one, and otherwise on the first.
const restless = "\\count 3=0\\ref{k} \\ifnum\\count 3=1 a\\shipout\\fi b\\label{k}"

func TestAJobThatNeverComesToRest(t *testing.T) {
	f := plainJob(t, restless)
	if f.Code != impl.DigOk || f.Runs != impl.MaxRuns || f.Stable || shownRefs(f.Refs) != "k 1" || len(f.Pages) != 1 {
		t.Error(shownFinished(f))
	}
	// A mark that names another one each time.
	f = plainJob(t, "\\count 3=0\\ref{k} \\ifodd\\count 3 \\label{l}\\else\\label{k}\\fi a")
	if f.Code != impl.DigOk || f.Runs != impl.MaxRuns || f.Stable || shownRefs(f.Refs) != "k 1" {
		t.Error(shownFinished(f))
	}
	// Marks that change their order alone are others: here the first entry says which one comes last.
	f = plainJob(t, "\\count 4=0 \\def\\entry#1#2{\\ifnum\\count 4=0 \\count 4=`#1 \\fi}\\contents\\ifnum\\count 4=`k \\label{l}\\label{k}\\else\\label{k}\\label{l}\\fi a")
	if f.Code != impl.DigOk || f.Runs != impl.MaxRuns || f.Stable || shownRefs(f.Refs) != "k 1, l 1" {
		t.Error(shownFinished(f))
	}
}

// With a Code in a later run there are its notes, and nothing else of it.
func TestACodeInALaterRun(t *testing.T) {
	e, book := impl.FormatEnv(), impl.PlainBook()
	source := "a\\label{k}\\count 3=0\\ref{k} \\message{run \\number\\count 3}\\ifodd\\count 3 \\kern\\fi b"
	f := checkJob(t, source, e, book, 1000)
	if !same(f, impl.Finished{Runs: 2, Code: impl.DigExp + impl.ExpNumber, Notes: []string{"say: run 1"}}) {
		t.Error(shownFinished(f))
	}
	// The budget is that of each run: what is referred to costs more when it is known.
	source = "a\\ref{k}\\label{k}"
	least := int64(0)
	for checkJob(t, source, e, book, least).Code != impl.DigOk {
		least++
	}
	if f := checkJob(t, source, e, book, least); !f.Stable || f.Runs != 2 {
		t.Error(shownFinished(f))
	}
	if f := checkJob(t, source, e, book, least-1); !same(f, impl.Finished{Runs: 2, Code: impl.DigBudget}) {
		t.Error(shownFinished(f))
	}
}

// What came out of a run is refused when it has no room beside the names that are there.
func TestAJobWhoseRefsAreRefused(t *testing.T) {
	e := impl.FormatEnv()
	for i := range impl.MaxBinds - len(e.Levels[0].Binds) - 1 {
		e = mustSet(t, e, setName(fmt.Sprint("zz", 1000+i), prim(1)), false)
	}
	if f := checkJob(t, "a\\label{k}\\ref{k}", e, impl.PlainBook(), 1000); !f.Stable || f.Runs != 2 || shownRefs(f.Refs) != "k 1" {
		t.Error(shownFinished(f))
	}
	if f := checkJob(t, "a\\label{k}\\label{l}", e, impl.PlainBook(), 1000); !same(f, impl.Finished{Code: impl.DigArgs}) {
		t.Error(shownFinished(f))
	}
}

// A job begins with an empty table of contents, and with what its environment says of pages.
func TestWhatAJobBeginsWith(t *testing.T) {
	e := mustWith(t, impl.FormatEnv(), refs{ref("k", 9), ref("l", 8)})
	if f := checkJob(t, "\\contents a\\ref{k}", e, impl.PlainBook(), 1000); f.Runs != 1 || sheetTexts(f.Pages)[0] != "|a9|1" {
		t.Error(shownFinished(f))
	}
	if f := checkJob(t, "\\contents a\\ref{k}\\ref{l}\\label{k}", e, impl.PlainBook(), 1000); f.Runs != 2 || sheetTexts(f.Pages)[0] != "|k1a18|1" {
		t.Error(shownFinished(f))
	}
}

// Long texts of marks, and more of them than can be told.
func TestJobsWithManyAndLongMarks(t *testing.T) {
	t.Parallel()
	long := strings.Repeat("x", 34)
	f := plainJob(t, "\\ref{"+long+"}\\label{"+long+"}")
	if sheetTexts(f.Pages)[0] != "|1|1" || !f.Stable {
		t.Error(shownFinished(f))
	}
	// A longer name can't be made at all.
	if f := plainJob(t, "\\ref{"+long+"x}"); f.Code != impl.DigExp+impl.ExpName {
		t.Error(shownFinished(f))
	}
	if f := plainJob(t, "\\contents\\label{"+long+"x}"); sheetTexts(f.Pages)[0] != "|"+long+"x1|1" || !f.Stable {
		t.Error(shownFinished(f))
	}
	if f := plainJob(t, "a\\label{"+strings.Repeat("x", 1200)+"}"); f.Code != impl.DigOk || !f.Stable || len(f.Refs[0].Text) != impl.MaxNoteText {
		t.Error(shownFinished(f))
	}
	for _, count := range []int{430, 433, 434, 520} {
		var source strings.Builder
		for i := range count {
			fmt.Fprintf(&source, "\\label{%d}", i)
		}
		// 67 names are the format's.
		f := plainJob(t, "a"+source.String())
		if count+67 <= impl.MaxBinds {
			if !f.Stable || f.Runs != 2 || len(f.Refs) != count {
				t.Errorf("%d marks: %s", count, shownFinished(f))
			}
		} else if !same(f, impl.Finished{Code: impl.DigArgs}) {
			t.Errorf("%d marks: %s", count, shownFinished(f))
		}
	}
}

// The whole way of a job, each stage told plainly.
func TestJobsToldPlainly(t *testing.T) {
	t.Parallel()
	for _, source := range []string{
		"", "a", "\\section{One}see \\ref{k}.\\shipout next\\label{k} $a=b$ end", "\\contents\\shipout a\\label{k}\\foot{below}\\shipout b\\label{l}", restless, climbing(3),
		"\\item{1}some words that a line has no room for, so that there are more of them than one\\item{2}\\emph{office} and $$x^2$$ \\centre{end}", "\\kern", "a\\ref{k}\\label{k}\\nono",
	} {
		got := plainJob(t, source)
		want := plainStages().job(source, impl.FormatEnv(), impl.PlainBook(), impl.MaxBudget)
		if !same(got, want) {
			t.Errorf("%q: %s, not %s", source, shownFinished(got), shownFinished(want))
		}
	}
}

// A text of which the stack is too long has no pages, and so no refs.
func TestAJobWithoutSheets(t *testing.T) {
	if f := plainJob(t, strings.Repeat("a\n\n", 1400)+"\\label{k}}"); !same(f, impl.Finished{Runs: 1, Stable: true, Notes: []string{"stray close"}}) {
		t.Error(shownFinished(f))
	}
}
