package tests

import (
	"fmt"
	"math"
	"strings"
	"testing"

	"loop.example/g00014/impl"
)

func repeat(text string, n int) string { return strings.Repeat(text, n) }

func TestDigestRefuses(t *testing.T) {
	check := func(what string, e impl.Env, text string, budget int64) {
		t.Helper()
		if got := impl.Digest(e, text, budget); !same(got, impl.Digested{Code: impl.DigArgs}) {
			t.Errorf("%s: %d, %d commands, left %d", what, got.Code, len(got.Cmds), got.Left)
		}
	}
	good := impl.NewEnv()
	for i, e := range badEnvs() {
		check(fmt.Sprint("environment ", i), e, "a", 9)
	}
	check("two levels", mustOpen(t, good), "a", 9)
	check("many levels", impl.Env{Levels: []impl.Level{good.Levels[0], good.Levels[0], good.Levels[0]}}, "", 0)
	for _, budget := range []int64{-1, impl.MaxBudget + 1, math.MinInt64, math.MaxInt64, 1 << 32, -1 << 32} {
		check(fmt.Sprint("a budget of ", budget), good, "a", budget)
		check("a budget without a text", good, "", budget)
	}
	for _, size := range []int{impl.MaxText + 1, impl.MaxText + 2, 3 * impl.MaxText} {
		check("a long text", good, repeat("%", size), 9)
		check("a long text that ends at once", good, "\\end"+repeat("a", size-4), 9)
	}
}

func TestTheLongestText(t *testing.T) {
	e := impl.NewEnv()
	for _, text := range []string{repeat("%", impl.MaxText), repeat(" ", impl.MaxText), repeat("\x00", impl.MaxText), repeat("\\relax", 10922) + "    ", "\\end" + repeat("{", impl.MaxText-4), "\\iffalse " + repeat("x", impl.MaxText-12) + "\\fi"} {
		got := impl.Digest(e, text, impl.MaxBudget)
		if len(text) != impl.MaxText || got.Code != impl.DigOk || len(got.Cmds) != 1 || len(got.Notes) != 0 {
			t.Errorf("%.9q of %d bytes: %d, %d commands", text, len(text), got.Code, len(got.Cmds))
		}
	}
	got := impl.Digest(e, repeat("\x7f", impl.MaxText), 0)
	if got.Code != impl.DigOk || len(got.Notes) != impl.MaxNotes || len(got.Cmds) != 1 || got.At != impl.MaxText {
		t.Errorf("bad bytes alone: %d, %d notes", got.Code, len(got.Notes))
	}
}

func TestDigestBudgets(t *testing.T) {
	e := impl.NewEnv()
	for _, text := range []string{"", "%a", "\x7f", " ", "\x00"} {
		if got := impl.Digest(e, text, 0); got.Code != impl.DigOk || got.Left != 0 {
			t.Errorf("%q costs nothing: %d", text, got.Code)
		}
	}
	for _, text := range []string{"a", "\\relax", "\\end", "{", "}", "#", "\\nono", "\n", "\\number 1", "\\fi", "\\noexpand"} {
		got := impl.Digest(e, text, 0)
		if got.Code != impl.DigBudget || got.Left != 0 || len(got.Cmds) != 0 || len(got.Notes) != 0 || !same(got.Env, e) || got.At != int64(len(strings.TrimSuffix(text, " 1"))) {
			t.Errorf("%q with nothing: %+v", text, got.Code)
		}
	}
	loop := "\\def\\l{\\relax\\l}\\l"
	got := impl.Digest(e, loop, impl.MaxBudget)
	if got.Code != impl.DigBudget || got.Left != 0 || got.At != int64(len(loop)) || impl.Look(got.Env, "l").Kind != impl.MeanMacro {
		t.Errorf("without an end: %d, left %d", got.Code, got.Left)
	}
	most := "\\def\\l{\\relax\\advance\\count 1 by 1 \\ifnum\\count 1<24999 \\expandafter\\l\\fi}\\l"
	if got := impl.Digest(e, most, impl.MaxBudget); got.Code != impl.DigBudget {
		t.Errorf("more than there is: %d", got.Code)
	}
	if got := impl.Digest(e, repeat("\\relax", 9999), 9999); got.Code != impl.DigOk || got.Left != 0 {
		t.Errorf("just what is needed: %d, left %d", got.Code, got.Left)
	}
}

// foldEnv has names of one letter: f fills 2000 slots, e eats a group, d eats up to a dot, r is relax.
func foldEnv(t *testing.T) impl.Env {
	t.Helper()
	e := impl.NewEnv()
	for n, m := range map[string]impl.Mean{"f": macro(1, slots(1), many(2000, slot(1))), "e": macro(1, slots(1), nil), "d": macro(1, list(slot(1), char(5, '.')), nil), "r": prim(impl.PrimRelax)} {
		e = mustSet(t, e, setName(n, m), false)
	}
	return e
}

func TestTheMostTokensInALine(t *testing.T) {
	e := foldEnv(t)
	for _, c := range []struct {
		text string
		most int // of what stands at the mark
		what string
		code int64
	}{
		{"\\f{!}", 10, "\\r", impl.DigFull}, {"\\expandafter\\r\\f{!}", 9, "\\r", impl.DigFull}, {"\\f{!}\\f{!}", 10, "\\r", impl.DigFull}, {"\\e{!}", 20000, "a", impl.DigFull}, {"\\e{{}!}", 19998, "a", impl.DigFull}, {"\\d !.", 20000, "a", impl.DigFull}, {"\\message{!}", 20000, "a", impl.DigFull}, {"\\write{{!}}", 19998, "a", impl.DigFull}, {"\\mark{\\iffalse !\\fi}", 19998, "a", impl.DigFull}, {"\\message{\\f{!}}", 10, "a", impl.DigFull}, {"\\message{\\f{\\r\\r\\r\\r\\r\\r\\r\\r\\r\\r}!}", 0, "a", impl.DigFull}, {"\\edef\\y{\\iffalse !\\fi}", 19998, "a", impl.DigFull}, {"\\expandafter\\e{!}", 20000, "a", impl.DigFull},
		{"\\toks 1{!}", 2000, "a", impl.DigToks}, {"\\toks 1={!\\r}", 1999, "a", impl.DigToks}, {"\\global\\toks 1{{!}}", 999, "{}", impl.DigToks}, {"\\def\\y{!}", 2000, "a", impl.DigMacro}, {"\\def\\y#1{!}", 2000, "#1", impl.DigMacro}, {"\\gdef\\y{!}", 2000, "##", impl.DigMacro}, {"\\edef\\y{!}", 2000, "a", impl.DigMacro}, {"\\edef\\y{\\f{!}}", 1, "a", impl.DigMacro}, {"\\edef\\y{\\iffalse\\r\\fi !}", 2000, "a", impl.DigMacro},
		{"\\def\\y !{}", 100, "a", impl.DigMacro}, {"\\def\\y#1#2!#3{}", 97, "a", impl.DigMacro}, {"\\gdef\\y!#1{}", 99, "\\r", impl.DigMacro}, {"\\edef\\y!{}", 100, "~", impl.DigMacro},
	} {
		text := func(n int) string { return strings.ReplaceAll(c.text, "!", repeat(c.what, n)) }
		if got := impl.Digest(e, text(c.most), impl.MaxBudget); got.Code != impl.DigOk {
			t.Errorf("%q with %d of %q: %d", c.text, c.most, c.what, got.Code)
		}
		if got := impl.Digest(e, text(c.most+1), impl.MaxBudget); got.Code != c.code {
			t.Errorf("%q with %d of %q: %d", c.text, c.most+1, c.what, got.Code)
		}
	}
}

// A pattern is too long as soon as it is; a body, or the tokens of a register, when all of it has come.
func TestWhenItIsTooLong(t *testing.T) {
	e := foldEnv(t)
	for _, c := range []stopCase{
		{impl.DigMacro, "\\def\\y " + repeat("a", 101), "", 1}, {impl.DigMacro, "\\def\\y " + repeat("a", 101), "a{}", 1}, {impl.DigEnd, "\\def\\y " + repeat("a", 100), "", 1}, {impl.DigMacro, "\\def\\y#1" + repeat("a", 100), "{", 1},
		{impl.DigEnd, "\\def\\y{" + repeat("a", 2001), "", 1}, {impl.DigMacro, "\\def\\y{" + repeat("a", 2001) + "}", "a", 1}, {impl.DigMacro, "\\def\\y{" + repeat("a", 30000) + "}", "a", 1}, {impl.DigEnd, "\\toks 1{" + repeat("a", 2001), "", 1}, {impl.DigToks, "\\toks 1{" + repeat("a", 30000) + "}", "a", 1}, {impl.DigEnd, "\\message{" + repeat("a", 30000), "", 1}, {impl.DigFull, "\\message{" + repeat("a", 30000) + "}", "a", 1},
		{impl.DigFull, "\\e{" + repeat("a", 20001), "a}", 1},
	} {
		want := impl.Digested{Env: e, Code: c.code, At: int64(len(c.done)), Left: 9 - c.cost}
		if got := impl.Digest(e, c.done+c.rest, 9); !same(got, want) {
			t.Errorf("%.12q of %d: %d at %d, left %d", c.done, len(c.done), got.Code, got.At, got.Left)
		}
	}
}

func TestTheMostCommands(t *testing.T) {
	e := impl.NewEnv()
	for _, c := range []struct {
		ahead, behind string
		more          int // commands beside the letters and the last CmdPar
	}{{"", "", 0}, {"{", "}", 2}, {"{", "", 2}, {"\\hbox{", "", 2}, {"\\hbox{", "}", 2}, {"\\begingroup ", "", 0}, {"", "\\par", 1}, {"", "\\mark{}", 1}, {"", "\\end", 0}, {"", " ", 1}, {"", "\\hbox{}", 2}, {"", "{}", 2}} {
		most := impl.MaxCmds - 1 - c.more
		got := impl.Digest(e, c.ahead+repeat("a", most)+c.behind, impl.MaxBudget)
		if got.Code != impl.DigOk || len(got.Cmds) != impl.MaxCmds {
			t.Errorf("%q, %d letters, %q: %d, %d commands", c.ahead, most, c.behind, got.Code, len(got.Cmds))
		}
		text := c.ahead + repeat("a", most+1) + c.behind
		got = impl.Digest(e, text, impl.MaxBudget)
		if got.Code != impl.DigFull || len(got.Cmds) != impl.MaxCmds || got.At != int64(len(text)) || !same(got.Env, e) {
			t.Errorf("%q, %d letters, %q: %d at %d, %d commands", c.ahead, most+1, c.behind, got.Code, got.At, len(got.Cmds))
		}
	}
	full := repeat("a", impl.MaxCmds)
	for _, text := range []string{"b", " ", "$", "{", "\\indent", "\\kern 1pt", "\\hbox{", "\\note 1{", "~", "\\shipout", "\\box 1"} {
		got := impl.Digest(e, full+text+"bb", impl.MaxBudget)
		if got.Code != impl.DigFull || len(got.Cmds) != impl.MaxCmds || got.Left < impl.MaxBudget-impl.MaxCmds-2 || got.Left >= impl.MaxBudget-impl.MaxCmds {
			t.Errorf("%q behind all: %d, %d commands, left %d", text, got.Code, len(got.Cmds), got.Left)
		}
	}
	got := impl.Digest(e, full+"\\count 1=5 \\begingroup\\global\\count 2=6 #\\endgroup", impl.MaxBudget)
	if got.Code != impl.DigFull || got.Env.Levels[0].Counts[1] != 5 || got.Env.Levels[0].Counts[2] != 6 || !same(got.Notes, []string{"stray parameter"}) {
		t.Errorf("what gives none: %d %+v", got.Code, got.Notes)
	}
}

func TestTheMostNotes(t *testing.T) {
	e := impl.NewEnv()
	for _, n := range []int{0, 1, impl.MaxNotes - 1, impl.MaxNotes, impl.MaxNotes + 1, 3 * impl.MaxNotes} {
		for what, note := range map[string]string{"#": "stray parameter", "\x7f": "bad byte", "}": "stray close", "\\endgroup": "stray endgroup", "\\nono": "no meaning: \\nono ", "\\message{hi}": "say: hi"} {
			got := impl.Digest(e, repeat(what, n), impl.MaxBudget)
			if got.Code != impl.DigOk || len(got.Notes) != min(n, impl.MaxNotes) || len(got.Cmds) != 1 {
				t.Errorf("%d of %q: %d, %d notes", n, what, got.Code, len(got.Notes))
			}
			for _, told := range got.Notes {
				if told != note {
					t.Fatalf("%q: %q", what, told)
				}
			}
		}
	}
	got := impl.Digest(e, repeat("#", impl.MaxNotes-1)+"{{", impl.MaxBudget)
	if got.Code != impl.DigOk || len(got.Notes) != impl.MaxNotes || got.Notes[impl.MaxNotes-1] != "open group" || got.Notes[impl.MaxNotes-2] != "stray parameter" || len(got.Cmds) != 5 {
		t.Errorf("groups that are open: %d, %d notes", got.Code, len(got.Notes))
	}
}

func TestTheMostGroups(t *testing.T) {
	e := impl.NewEnv()
	most := impl.MaxLevels - 1
	for _, c := range []struct {
		open, shut string
		given      []impl.Cmd
		left       int // how many commands of the one that is too many stand there
		cost       int64
	}{{"{", "}", grouped(), 1, 1}, {"\\begingroup ", "\\endgroup ", nil, 0, 1}, {"\\hbox{", "}", boxed(cmdNums(impl.CmdHbox, 0, 0)), 0, 1}, {"\\note 3{", "}", boxed(cmdN(impl.CmdNote, 3)), 0, 1}, {"\\table 3{", "}", boxed(cmdN(impl.CmdTable, 3)), 0, 1}} {
		for _, n := range []int{1, 2, most} {
			got := impl.Digest(e, repeat(c.open, n)+repeat(c.shut, n), 99)
			if got.Code != impl.DigOk || len(got.Cmds) != n*len(c.given)+1 || len(got.Notes) != 0 || !same(got.Env, e) {
				t.Errorf("%d of %q: %d, %d commands", n, c.open, got.Code, len(got.Cmds))
			}
			got = impl.Digest(e, repeat(c.open, n), 99)
			if got.Code != impl.DigOk || len(got.Cmds) != n*len(c.given)+1 || len(got.Notes) != n || got.Notes[n-1] != "open group" || got.Left != 99-int64(n)*c.cost {
				t.Errorf("%d of %q that are open: %d, %d commands", n, c.open, got.Code, len(got.Cmds))
			}
			again := repeat(repeat(c.open, n)+repeat(c.shut, n), 3)
			if got := impl.Digest(e, again, 999); got.Code != impl.DigOk || len(got.Cmds) != 3*n*len(c.given)+1 {
				t.Errorf("%d of %q, three times: %d", n, c.open, got.Code)
			}
		}
		text := repeat(c.open, most+1)
		got := impl.Digest(e, text+"a", 99)
		if got.Code != impl.DigDeep || got.At != int64(len(strings.TrimSuffix(text, " "))) || len(got.Cmds) != most*(len(c.given)/2)+c.left || len(got.Notes) != 0 || got.Left != 99-int64(most+1)*c.cost {
			t.Errorf("one more of %q: %d at %d, %d commands, left %d", c.open, got.Code, got.At, len(got.Cmds), got.Left)
		}
	}
	mixed := repeat("{\\begingroup\\hbox{", 6) + "{"
	if got := checkDigest(t, e, mixed, 99); got.Code != impl.DigOk || len(got.Notes) != most {
		t.Errorf("of all sorts: %d", got.Code)
	}
	checkCodes(t, e, impl.DigDeep, mixed+"{", mixed+"\\begingroup", mixed+"\\vbox{")
}

// What a level has no room for is out of range.
func TestTheMostNamesOfAText(t *testing.T) {
	e := impl.NewEnv()
	for i := len(e.Levels[0].Binds); i < impl.MaxBinds; i++ {
		e = mustSet(t, e, setName(fmt.Sprint("n", i), prim(1)), false)
	}
	checkCodes(t, e, impl.DigOk, "\\def\\par{}", "\\let\\par=a", "\\let\\new\\unknown", "\\let\\par\\unknown\\def\\new{}", "{\\let\\par\\unknown\\def\\new{}}\\par", "{\\let\\par\\unknown\\global\\let\\or\\unknown\\gdef\\new{}}", "\\global\\let\\par\\unknown{\\gdef\\new{}}")
	for _, text := range []string{"\\def\\new{}", "\\gdef\\new{}", "\\edef\\new{}", "\\let\\new=a", "\\let\\new\\par", "\\let\\par\\unknown\\def\\new{}\\let\\other=a", "{\\let\\par\\unknown\\gdef\\new{}}", "{\\let\\par\\unknown\\global\\let\\new=a}"} {
		checkCodes(t, e, impl.DigRange, text)
		if got := impl.Digest(e, text, 9); impl.Look(got.Env, "other").Kind != impl.MeanNone || !impl.EnvOk(got.Env) {
			t.Errorf("%q is set", text)
		}
	}
}
