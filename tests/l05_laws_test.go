package tests

import (
	"math/rand"
	"slices"
	"strings"
	"testing"

	"loop.example/g00014/impl"
)

// whole: is it digested to its end, with each group closed by what the text itself says?
func whole(d impl.Digested, text string) bool {
	return d.Code == impl.DigOk && d.At == int64(len(text)) && !slices.Contains(d.Notes, "open group")
}

func checkParts(t *testing.T, e impl.Env, a, b string, budget int64) bool {
	t.Helper()
	first := impl.Digest(e, a, budget)
	if !whole(first, a) {
		return false
	}
	second := impl.Digest(first.Env, b, first.Left)
	want := second
	want.Cmds = then(first.Cmds[:len(first.Cmds)-1], second.Cmds)
	want.Notes = slices.Concat(first.Notes, second.Notes)
	want.At += int64(len(a))
	if got := impl.Digest(e, a+b, budget); !same(got, want) {
		got.Env, want.Env = differing(got.Env, want.Env)
		t.Fatalf("%q and %q:\n%+v, want\n%+v", a, b, got, want)
	}
	return true
}

func TestATextInTwoPartsIsTheFirstAndThenTheSecond(t *testing.T) {
	t.Parallel()
	r := rand.New(rand.NewSource(23))
	e := digestEnv()
	parted, good := 0, 0
	for range 6000 {
		a, b := randomJob(r, 10)+"\\relax\n", randomJob(r, 10)
		if checkParts(t, e, a, b, 100+r.Int63n(200)) {
			parted++
			if impl.Digest(e, a+b, impl.MaxBudget).Code == impl.DigOk {
				good++
			}
		}
	}
	if parted < 1000 || good < 500 {
		t.Error("too few:", parted, good)
	}
}

// What one part leaves to the next: names, registers, categories, a font, the half of a condition.
func TestPartsThatHangOnEachOther(t *testing.T) {
	t.Parallel()
	e := digestEnv()
	firsts := []string{"", "a b", "\n\n", "\\count 1=5", "\\def\\q#1{<#1>}", "{\\global\\len 1=1pt}", "\\cat 64=1", "\\font 3", "\\iftrue a", "\\nono#}", "\\message{m}", "\\let\\q=\\pair", "\\hbox to 1pt{x}", "\\toks 4={x\\par}", "%", "\x7f", "\\glue 3=1pt", "\\let\\par\\indent"}
	seconds := []string{"", " a", "\n", "\n\n", "\\q a", "\\q{b}{c}", "@}", "@", "b\\else c\\fi", "\\advance\\count 1 by 2", "\\number\\count 1", "\\mark{\\the\\count 1}", "}", "{", "\\kern\\len 1", "\\vskip\\glue 3", "\\the\\toks 4", "\\kern x", "\\end a"}
	for _, a := range firsts {
		for _, b := range firsts {
			for _, c := range seconds {
				if !checkParts(t, e, a+"\\relax\n"+b+"\\relax\n", c, 300) {
					t.Errorf("%q and %q have no end", a, b)
				}
			}
		}
	}
}

// balancedCmds: does each CmdRight close a CmdLeft, and each CmdEnd a box, a note or a table, in their order?
func balancedCmds(cs []impl.Cmd) bool {
	var open []int64
	for _, c := range cs {
		switch c.Kind {
		case impl.CmdLeft:
			open = append(open, impl.CmdRight)
		case impl.CmdHbox, impl.CmdVbox, impl.CmdNote, impl.CmdTable:
			open = append(open, impl.CmdEnd)
		case impl.CmdRight, impl.CmdEnd:
			if len(open) == 0 || open[len(open)-1] != c.Kind {
				return false
			}
			open = open[:len(open)-1]
		}
	}
	return len(open) == 0
}

func TestCommandsAreBalanced(t *testing.T) {
	t.Parallel()
	r := rand.New(rand.NewSource(24))
	e := digestEnv()
	parts := []string{"{", "{", "}", "}", "}", "\\begingroup ", "\\endgroup ", "\\hbox{", "\\vbox to 1pt{", "\\note 1{", "\\table 2{", "a", "\\opened", "\\let\\y}", "\\y", "\\end ", "\\global\\let\\z={", "\\z", "$", "\\relax"}
	good, closed := 0, 0
	for range 1500 {
		var text strings.Builder
		for range r.Intn(20) {
			text.WriteString(parts[r.Intn(len(parts))])
		}
		got := checkDigest(t, e, text.String(), 100)
		if got.Code != impl.DigOk {
			continue
		}
		good++
		if !balancedCmds(got.Cmds) || got.Cmds[len(got.Cmds)-1].Kind != impl.CmdPar {
			t.Fatalf("%q: %+v", text.String(), got.Cmds)
		}
		if slices.Contains(got.Notes, "open group") {
			closed++
		}
	}
	for range 3000 {
		text := randomJob(r, 25)
		if got := impl.Digest(e, text, 200); got.Code == impl.DigOk && !balancedCmds(got.Cmds) {
			t.Fatalf("%q: %+v", text, got.Cmds)
		}
	}
	if good < 1000 || closed < 300 {
		t.Error("too few:", good, closed)
	}
}

// A group leaves all as it was, unless something is set globally in it: then it leaves just that.
func TestAGroupOfATextLeavesWhatWasSetGlobally(t *testing.T) {
	t.Parallel()
	r := rand.New(rand.NewSource(25))
	e := digestEnv()
	globals := []struct {
		text string
		set  impl.Set
	}{{"\\global\\count 9=9 ", setCount(9, 9)}, {"\\global\\len 9=9sp ", setLen(9, 9)}, {"\\global\\glue 9=9sp ", setWholeGlue(9, glue(9, 0, 0, 0, 0))}, {"\\global\\toks 9={9}", setToks(9, char(5, '9'))}, {"\\global\\cat 9=9 ", setCat(9, 9)}, {"\\gdef\\nine{9}", setName("nine", macro(0, nil, others("9")))}, {"\\global\\let\\nine=a", setName("nine", means(letter('a')))}}
	found := 0
	for range 5000 {
		a, b := randomJob(r, 6)+"\\relax\n", randomJob(r, 6)+"\\relax\n"
		first, both := impl.Digest(e, a, 300), impl.Digest(e, a+b, 300)
		if !whole(first, a) || !whole(both, a+b) || says(a+b, "global", "gdef", "cat") || says(strings.Join(both.Notes, " "), "stray") || !samePrims(first.Env, e) {
			continue
		}
		found++
		g := globals[r.Intn(len(globals))]
		for _, brackets := range [][2]string{{"{", "}"}, {"\\begingroup ", "\\endgroup "}, {"\\hbox{", "}"}, {"{{", "}}"}, {"\\note 1{\\begingroup ", "\\endgroup}"}} {
			got := impl.Digest(e, brackets[0]+a+b+brackets[1], 310)
			if got.Code != impl.DigOk || !same(got.Env, e) {
				t.Fatalf("%q: %d", brackets[0]+a+b, got.Code)
			}
			got = impl.Digest(e, brackets[0]+a+g.text+"\\relax "+b+brackets[1], 350)
			if got.Code != impl.DigOk || !same(got.Env, setAll(t, e, []impl.Set{g.set})) {
				t.Fatalf("%q: not just what was set globally", brackets[0]+a+g.text+b)
			}
		}
	}
	if found < 500 {
		t.Error("too few:", found)
	}
}

func says(text string, words ...string) bool {
	return slices.ContainsFunc(words, func(word string) bool { return strings.Contains(text, word) })
}

// samePrims: are the primitives' names what they are in another one?
func samePrims(a, b impl.Env) bool {
	for n := range int64(impl.LastPrim) {
		if word := impl.PrimName(n + 1); !same(impl.Look(a, word), impl.Look(b, word)) {
			return false
		}
	}
	return true
}

func TestDigestAnswersAreNewMemoryAndArgumentsStay(t *testing.T) {
	r := rand.New(rand.NewSource(26))
	e := digestEnv()
	e.Levels[0].Toks[5] = toks("\\held{\\in}\\toks")
	e = roomy(e)
	kept := told(e)
	texts := []string{"\\par\\par", "\\nono\\other", "\\write{\\name a}\\mark{\\the\\toks 5}\\message{\\name}", "\\toks 1={\\name\\the}\\toks 2=\\toks", "\\def\\y#1\\name{\\name#1}\\let\\z\\y\\let\\w\\a", "\\edef\\y{\\the\\toks 5}\\toks 1{\\a}\\global\\toks 2{\\a}", "{\\toks 5{\\b}\\rule 1pt 1pt 1pt", "\\hbox to 1pt{\\vbox{", "a b~\\font 2 c", "\\kern x", "\\pair{\\name\\other}\\more\\till\\name!!", "\\expandafter\\def\\csname new\\endcsname{\\csname}", "\\let\\name\\swap\\let\\letters\\letter\\nono"}
	for range 1500 {
		texts = append(texts, randomJob(r, 12))
	}
	for _, text := range texts {
		text = string([]byte(text))
		keptText := strings.Clone(text)
		checkNewMemory(t, impl.Digest(e, text, 100), e, text)
		if text != keptText {
			t.Errorf("a text is changed: %q", keptText)
		}
	}
	if told(e) != kept {
		t.Error("an environment is changed")
	}
}

// Any bytes, in any categories, with names and registers at random.
func TestDigestAtEveryArgument(t *testing.T) {
	t.Parallel()
	r := rand.New(rand.NewSource(27))
	for range 2000 {
		e := digestEnv()
		if r.Intn(2) == 0 {
			e.Levels[0].Cats = randomCats(r)
		}
		for i := range 32 {
			e.Levels[0].Counts[i] = []int64{0, 1, -1, impl.MaxCount, -impl.MaxCount, r.Int63n(40)}[r.Intn(6)]
		}
		binds := e.Levels[0].Binds
		for range r.Intn(9) {
			binds[r.Intn(len(binds))].Mean = binds[r.Intn(len(binds))].Mean
		}
		bytes := make([]byte, r.Intn(30))
		for i := range bytes {
			bytes[i] = byte(r.Intn(256))
		}
		checkDigest(t, e, string(bytes)+randomJob(r, 8)+string(bytes), r.Int63n(60))
	}
}

// More budget changes nothing but what is left.
func TestMoreBudgetDigestsTheSame(t *testing.T) {
	r := rand.New(rand.NewSource(28))
	e := digestEnv()
	ended := 0
	for range 1500 {
		text := randomJob(r, 12)
		most := impl.Digest(e, text, 400)
		if most.Code == impl.DigBudget {
			continue
		}
		ended++
		needed := 400 - most.Left
		for _, budget := range []int64{needed, needed + 1, impl.MaxBudget} {
			got := impl.Digest(e, text, budget)
			got.Left += 400 - budget
			if !same(got, most) {
				t.Fatalf("%q with %d: %d, left %d", text, budget, got.Code, got.Left)
			}
		}
		if needed > 0 {
			got := impl.Digest(e, text, needed-1)
			if got.Code != impl.DigBudget || got.Left != 0 || got.At > most.At || !same(got.Cmds, most.Cmds[:min(len(got.Cmds), len(most.Cmds))]) || !same(got.Notes, most.Notes[:min(len(got.Notes), len(most.Notes))]) {
				t.Fatalf("%q with only %d: %d, left %d", text, needed-1, got.Code, got.Left)
			}
		}
	}
	if ended < 1000 {
		t.Error("too few:", ended)
	}
}
