package tests

import (
	"slices"
	"strings"
	"testing"

	"loop.example/g00014/impl"
)

// formatLines are those of the plain format.
var formatLines = []string{
	"\\len 0=200pt \\len 1=300pt \\len 2=12pt",
	"\\count 1=2000 \\count 2=10 \\count 3=50 \\count 4=10000 \\count 5=10000",
	"\\count 6=2 \\count 7=2 \\count 8=0 \\count 9=0",
	"\\glue 0=13pt plus 1pt \\glue 1=4pt plus 2pt \\glue 4=0pt plus 1fil",
	"\\font 2",
	"\\def\\section#1{\\par\\vskip 8pt plus 4pt\\penalty -200",
	"  \\noindent{\\font 6 #1}\\mark{#1}\\write{#1}\\par\\penalty 10000 }",
	"\\def\\label#1{\\write{#1}}",
	"\\def\\ref#1{\\csname page @#1\\endcsname}",
	"\\def\\foot#1{\\note 1{\\font 0 #1\\par}}",
	"\\def\\emph#1{{\\font 4 #1}}",
	"\\def\\centre#1{\\par\\noindent\\hskip 0pt plus 1fil #1\\hskip 0pt plus 1fil\\par}",
	"\\def\\item#1{\\par\\noindent\\hbox to 15pt{#1\\hskip 0pt plus 1fil}}",
	"\\def\\entry#1#2{\\par\\noindent #1\\hskip 1pt plus 1fill #2\\par}",
	"\\def\\contents{\\the\\toks 15 }",
}

func TestPlainFormatByteByByte(t *testing.T) {
	got := impl.PlainFormat()
	lines := strings.SplitAfter(got, "\n")
	if len(lines) != len(formatLines)+1 || lines[len(lines)-1] != "" {
		t.Fatalf("%d lines, and %q", len(lines)-1, lines[len(lines)-1])
	}
	for i, line := range formatLines {
		if lines[i] != line+"\n" {
			t.Errorf("line %d is %q, not %q", i, lines[i], line+"\n")
		}
	}
}

func TestTheFormatsRegisters(t *testing.T) {
	e := impl.FormatEnv()
	if !impl.EnvOk(e) || len(e.Levels) != 1 {
		t.Fatal("no environment of one level")
	}
	want := impl.NewEnv().Levels[0]
	for at, n := range map[int]int64{1: 2000, 2: 10, 3: 50, 4: 10000, 5: 10000, 6: 2, 7: 2, 31: 2} {
		want.Counts[at] = n
	}
	want.Lens[0], want.Lens[1], want.Lens[2] = 200*point, 300*point, 12*point
	want.Glues[0], want.Glues[1], want.Glues[4] = glue(13*point, point, 0, 0, 0), glue(4*point, 2*point, 0, 0, 0), glue(0, point, 1, 0, 0)
	got := e.Levels[0]
	for what, pair := range map[string][2]any{
		"Cats": {got.Cats, want.Cats}, "Counts": {got.Counts, want.Counts}, "Lens": {got.Lens, want.Lens}, "Glues": {got.Glues, want.Glues}, "Toks": {got.Toks, want.Toks},
	} {
		if !same(pair[0], pair[1]) {
			t.Errorf("%s: %v, not %v", what, pair[0], pair[1])
		}
	}
}

// formatMacros are what the format's macros are filled with: their slots, and their bodies as they are shown.
func formatMacros() map[string]struct {
	slots int64
	body  string
} {
	return map[string]struct {
		slots int64
		body  string
	}{
		"section":  {1, `\par \vskip 8pt plus 4pt\penalty -200 \noindent {\font 6 #1}\mark {#1}\write {#1}\par \penalty 10000 `},
		"label":    {1, `\write {#1}`},
		"ref":      {1, `\csname page @#1\endcsname `},
		"foot":     {1, `\note 1{\font 0 #1\par }`},
		"emph":     {1, `{\font 4 #1}`},
		"centre":   {1, `\par \noindent \hskip 0pt plus 1fil #1\hskip 0pt plus 1fil\par `},
		"item":     {1, `\par \noindent \hbox to 15pt{#1\hskip 0pt plus 1fil}`},
		"entry":    {2, `\par \noindent #1\hskip 1pt plus 1fill #2\par `},
		"contents": {0, `\the \toks 15 `},
	}
}

func TestTheFormatsMacros(t *testing.T) {
	e := impl.FormatEnv()
	macros := formatMacros()
	for name, want := range macros {
		m := impl.Look(e, name)
		if m.Kind != impl.MeanMacro || m.Macro.Slots != want.slots || !same(m.Macro.Pattern, slots(want.slots)) || impl.ShowTokens(m.Macro.Body) != want.body {
			t.Errorf("%s is %d, %d, %q, %q", name, m.Kind, m.Macro.Slots, impl.ShowTokens(m.Macro.Pattern), impl.ShowTokens(m.Macro.Body))
		}
	}
	// Beside them the primitives stand as they did, and nothing else.
	for n := int64(1); n <= impl.LastPrim; n++ {
		if !same(impl.Look(e, impl.PrimName(n)), prim(n)) {
			t.Errorf("%s is another", impl.PrimName(n))
		}
	}
	if len(e.Levels[0].Binds) != int(impl.LastPrim)+len(macros) {
		t.Errorf("%d names", len(e.Levels[0].Binds))
	}
}

// The format is digested to its end, without a note, and within its budget; what is set is what the plain digester sets.
func TestTheFormatIsDigested(t *testing.T) {
	d := checkDigest(t, impl.NewEnv(), impl.PlainFormat(), 5000)
	if d.Code != impl.DigOk || d.At != int64(len(impl.PlainFormat())) || len(d.Notes) > 0 {
		t.Error(d.Code, d.At, d.Notes)
	}
	if !same(impl.FormatEnv(), d.Env) {
		t.Error("another environment")
	}
}

// The format is read again from its bytes, as any environment of one level.
func TestTheFormatIsLoadedAgain(t *testing.T) {
	e := impl.FormatEnv()
	checkDump(t, e)
	source := "\\contents\\section{One}see \\ref{k}\\foot{below}\\shipout next\\label{k}"
	if a, b := plainJob(t, source), impl.Job(source, loadedAgain(t, e), impl.PlainBook(), impl.MaxBudget); !same(a, b) {
		t.Error(shownFinished(a), shownFinished(b))
	}
}

// onSheets are the texts of a job's sheets: head, page and foot.
func onSheets(t *testing.T, source string) string {
	t.Helper()
	f := plainJob(t, source)
	if f.Code != impl.DigOk || !f.Stable || len(f.Notes) > 0 {
		t.Errorf("%q: %s", source, shownFinished(f))
	}
	return strings.Join(sheetTexts(f.Pages), " ")
}

func TestEachMacroOfTheFormat(t *testing.T) {
	for _, c := range []struct{ source, sheets, refs string }{
		{"\\section{One}", "OneOne|One|1", "One 1"},
		{"\\section{One}text", "OneOne|Onetext|1", "One 1"},
		{"text\\section{One}", "OneOne|textOne|1", "One 1"},
		{"\\section{One}a\\section{Two}b", "OneTwo|OneaTwob|1", "One 1, Two 1"},
		{"\\section{One}a\\shipout b\\shipout\\section{Two}c", "OneOne|Onea|1 OneOne|b|2 TwoTwo|Twoc|3", "One 1, Two 3"},
		{"a\\label{k}", "|a|1", "k 1"},
		{"\\label{k}", "||1", "k 1"},
		{"\\label{k}\\label{l}a\\shipout b\\label{k}\\label{m}", "|a|1 |b|2", "k 1, l 1, m 2"},
		{"a\\ref{k}\\label{k}", "|a1|1", "k 1"},
		{"a\\foot{below}b", "|abbelow|1", ""},
		{"a\\foot{x}\\shipout b\\foot{y}\\foot{z}", "|ax|1 |byz|2", ""},
		{"a\\emph{b}c", "|abc|1", ""},
		{"a\\centre{b}c", "|abc|1", ""},
		{"\\item{1}a\\item{2}b", "|1a2b|1", ""},
		{"\\entry{a}{7}", "|a7|1", ""},
		{"\\contents", "", ""},
		{"\\contents a", "|a|1", ""},
		{"\\contents\\label{k}", "|k1|1", "k 1"},
		{"\\section{One}a\\section{Two}\\contents", "OneTwo|OneaTwoOne1Two1|1", "One 1, Two 1"},
	} {
		if got := onSheets(t, c.source); got != c.sheets {
			t.Errorf("%q: %s, not %s", c.source, got, c.sheets)
		}
		if got := shownRefs(plainJob(t, c.source).Refs); got != c.refs {
			t.Errorf("%q: refs %s, not %s", c.source, got, c.refs)
		}
	}
}

// fontsOnPage are the fonts of all chars of the first page, those of the foot too.
func fontsOnPage(t *testing.T, source string) []int64 {
	t.Helper()
	return charFonts(plainJob(t, source).Pages[0])
}

func TestFontsOfTheFormatsMacros(t *testing.T) {
	for source, want := range map[string][]int64{
		"a":                  {2, 0},
		"a\\emph{b}c":        {2, 4, 2, 0},
		"\\section{A}b":      {0, 0, 6, 2, 0},
		"a\\foot{b}c":        {2, 2, 0, 0},
		"\\centre{a}b":       {2, 2, 0},
		"\\item{a}b":         {2, 2, 0},
		"\\entry{a}{b}":      {2, 2, 0},
		"\\emph{a\\emph{b}}": {4, 4, 0},
		"\\emph{a\\foot{b}}": {4, 0, 0},
		"\\font 7 a\\par b":  {7, 7, 0},
	} {
		if got := fontsOnPage(t, source); !slices.Equal(got, want) {
			t.Errorf("%q: fonts %v, not %v", source, got, want)
		}
	}
}

// edgesOf are where the spots of the first page's text begin and end, from the left edge of the sheet; the foot's are left out.
func edgesOf(t *testing.T, source string) [][2]int64 {
	t.Helper()
	sheet := plainJob(t, source).Pages[0]
	all := impl.Spots(sheet, 0, 0)
	var out [][2]int64
	for _, s := range all[:len(all)-1] {
		out = append(out, [2]int64{s.X, s.X + s.Width})
	}
	return out
}

// Where the macros put things: lines are 200 points long, an item's sign has 15 points. What is discardable is left out at a line's beginning, so an indent and a glue ahead of all else are.
func TestPlacesOfTheFormatsMacros(t *testing.T) {
	wide := wordWidth("a")
	first, last := [2]int64{0, wide}, [2]int64{200*point - wide, 200 * point}
	for source, want := range map[string][][2]int64{
		"a":                    {first},
		"\\noindent a":         {first},
		"\\item{a}a":           {first, {15 * point, 15*point + wide}},
		"\\item{}a":            {{15 * point, 15*point + wide}},
		"\\entry{a}{a}":        {first, last},
		"\\entry{}{a}":         {first},
		"\\entry{\\hbox{}}{a}": {last},
		"\\centre{a}":          {first},
		"a\\centre{a}a":        {first, first, first},
		"\\hbox{a}":            {first},
		"\\hbox{}\\indent a":   {first},
		"\\emph{a}":            {{0, impl.WordSize(impl.PlainFont(4), []byte("a")).Width}},
	} {
		if got := edgesOf(t, source); !slices.Equal(got, want) {
			t.Errorf("%q: %v, not %v", source, got, want)
		}
	}
}

// A page is 300 points tall: so many lines of 13 points, or just the gaps of that stretch.
func TestAPageIsAsTallAsTheFormatSays(t *testing.T) {
	f := plainJob(t, strings.Repeat("a\n\n", 100))
	if len(f.Pages) < 4 || f.Code != impl.DigOk {
		t.Fatal(shownFinished(f))
	}
	for _, sheet := range f.Pages {
		page := impl.Items(impl.Inside(sheet))[2][0]
		if page.Height != 300*point || page.Width != 200*point {
			t.Errorf("%d times %d", page.Width, page.Height)
		}
	}
}
