package tests

import (
	"math/rand"
	"slices"
	"strings"
	"testing"

	"loop.example/g00014/impl"
)

// writer makes commands of which all letters are to stand in the stack, and keeps these letters: those in notes for themselves, since notes stand behind the lines that call them.
type writer struct {
	orders
	text, notes strings.Builder
}

func (w *writer) write(letters string, inNote bool) []impl.Cmd {
	if inNote {
		w.notes.WriteString(letters)
	} else {
		w.text.WriteString(letters)
	}
	return typed(letters, w.Int63n(16))
}

func (w *writer) word(inNote bool) []impl.Cmd {
	return w.write(randomText(w.Rand, 9, "aabcdefffghiimnoTVWAxyz1."), inNote)
}

// inRow is what may stand in a row or a paragraph.
func (w *writer) inRow(deep int, inNote bool) []impl.Cmd {
	var out []impl.Cmd
	for range 1 + w.Intn(8) {
		switch w.Intn(12) {
		case 0:
			out = then(out, grouped(w.word(inNote)...))
		case 1:
			out = append(out, hardSpace(2))
		case 2:
			out = then(out, cmds(mathCmd), w.write("ab", inNote), cmds(cmd(impl.CmdUp)), w.write("c", inNote), w.write("+x", inNote), cmds(mathCmd))
		case 3:
			out = append(out, cmdText(impl.CmdMark+w.Int63n(2)-1, "zzz"), kernCmd(w.Int63n(999)))
		case 4:
			if deep > 0 {
				out = then(out, inHbox(w.inRow(deep-1, inNote)...))
			}
		case 5:
			if deep > 0 {
				out = then(out, boxed(cmdN(impl.CmdNote, 7), w.inStack(deep-1, true)...))
			}
		default:
			out = then(out, w.word(inNote), typed(" ", 2))
		}
	}
	return out
}

// inStack is what may stand in a stack.
func (w *writer) inStack(deep int, inNote bool) []impl.Cmd {
	var out []impl.Cmd
	par := func() impl.Cmd {
		return raggedCmd((60+w.Int63n(200))*point, func(c *impl.Cmd) { c.Nums[8], c.Glues[0] = w.Int63n(99), glue(20*point, 0, 0, 0, 0) })
	}
	for range 1 + w.Intn(4) {
		switch w.Intn(8) {
		case 0:
			out = append(out, cmdGlue(impl.CmdVskip, glue(9, 8, 1, 0, 0)), cmd(impl.CmdShipout))
		case 1:
			if deep > 0 {
				out = then(out, inVbox(w.inStack(deep-1, inNote)...))
			}
		case 2:
			if deep > 0 {
				cells := then(w.inRow(deep-1, inNote), cmds(tabCmd), w.inRow(deep-1, inNote), cmds(rowCmd, cmdN(impl.CmdSpan, 2)), w.inRow(deep-1, inNote))
				out = then(out, inTable(2, cells...))
			}
		case 3:
			out = then(out, inDisplay(w.write("y=z", inNote)...))
		case 4:
			out = then(out, inHbox(w.inRow(0, inNote)...))
		default:
			out = then(out, cmds(cmd(impl.CmdIndent+w.Int63n(2))), w.inRow(deep, inNote), cmds(par()))
		}
	}
	return append(out, par())
}

// lettersApart are the letters of a list, without the hyphens at lines' ends, and those of its notes.
func lettersApart(ns nodes) (text, notes string) {
	for _, item := range impl.Items(ns) {
		switch item[0].Kind {
		case impl.NodeNote:
			a, b := lettersApart(item[1:])
			notes += a + b
		case impl.NodeHbox, impl.NodeVbox:
			a, b := lettersApart(item[1:])
			text, notes = text+a, notes+b
		default:
			text += strings.ReplaceAll(lettersIn(item), "-", "")
		}
	}
	return text, notes
}

// sortedBytes are those of a text, since the notes of a note may come behind what stands behind them.
func sortedBytes(text string) string {
	out := []byte(text)
	slices.Sort(out)
	return string(out)
}

func TestLettersStandInTheirOrder(t *testing.T) {
	t.Parallel()
	r := rand.New(rand.NewSource(161))
	whole, letters := 0, 0
	for range 3000 {
		w := &writer{orders: orders{r}}
		cs := w.inStack(3, false)
		got := impl.Build(cs, impl.PlainBook())
		text, notes := lettersApart(got.Nodes)
		if len(got.Notes) > 0 {
			continue // something was dropped, and that was told
		}
		whole++
		letters += len(text)
		if text != w.text.String() || sortedBytes(notes) != sortedBytes(w.notes.String()) {
			t.Fatalf("%q and %q, not %q and %q", text, notes, w.text.String(), w.notes.String())
		}
	}
	if whole < 2500 || letters < 100000 {
		t.Error("too few:", whole, letters)
	}
}

// Letters of a plain text, whatever blanks stand between its words and at its ends.
func TestBlanksChangeNoLetters(t *testing.T) {
	t.Parallel()
	r := rand.New(rand.NewSource(162))
	for range 800 {
		par := raggedCmd((30+r.Int63n(100))*point, nil)
		var tight, loose []impl.Cmd
		for range 1 + r.Intn(12) {
			word := typed(randomText(r, 12, "abcdefilmnorst"), 2)
			tight = then(tight, word, typed(" ", 2))
			loose = then(loose, word, typed(strings.Repeat(" ", 1+r.Intn(3)), 2))
		}
		a := impl.Build(then(tight, cmds(par)), impl.PlainBook())
		b := impl.Build(then(typed(strings.Repeat(" ", r.Intn(3)), 2), loose, cmds(par)), impl.PlainBook())
		if text, other := strings.ReplaceAll(lettersIn(a.Nodes), "-", ""), strings.ReplaceAll(lettersIn(b.Nodes), "-", ""); text != other || len(text) != len(typedLetters(tight)) {
			t.Fatalf("%q and %q", text, other)
		}
		// Blanks at the paragraph's end are left out.
		if c := impl.Build(then(tight, typed("   ", 2), cmds(par)), impl.PlainBook()); !same(a, c) {
			t.Fatal(shownBuilt(c))
		}
	}
}

// typedLetters are the bytes of all CmdChars.
func typedLetters(cs []impl.Cmd) string {
	var out []byte
	for _, c := range cs {
		if c.Kind == impl.CmdChar {
			out = append(out, byte(c.N))
		}
	}
	return string(out)
}

// closedCmds: are all places and formulas ended by what the commands themselves say, and no other one?
func closedCmds(b impl.Built, cs []impl.Cmd) bool {
	deep := 0
	for _, c := range cs {
		if beginsPlace(c.Kind) {
			deep++
		} else if c.Kind == impl.CmdEnd {
			deep--
		}
	}
	return deep == 0 && !slices.Contains(b.Notes, openFormula) && !slices.Contains(b.Notes, "stray end")
}

// What is built of commands that a CmdPar ends is the beginning of what is built of these and others behind them.
func TestWhatIsBuiltStays(t *testing.T) {
	t.Parallel()
	r := orders{rand.New(rand.NewSource(163))}
	seen := 0
	for range 4000 {
		first := append(r.some(12), r.par())
		second := r.some(8)
		a := impl.Build(first, impl.PlainBook())
		if !closedCmds(a, first) {
			continue
		}
		both := impl.Build(then(first, second), impl.PlainBook())
		if len(both.Nodes) == 0 && len(a.Nodes) > 0 {
			continue // all of it would be no list
		}
		seen++
		if len(both.Nodes) < len(a.Nodes) || !same(both.Nodes[:len(a.Nodes)], a.Nodes) || !same(both.Notes[:len(a.Notes)], a.Notes) {
			t.Fatalf("%s and%s:\n%s and\n%s", shownCmds(first), shownCmds(second), shownBuilt(a), shownBuilt(both))
		}
	}
	if seen < 2000 {
		t.Error("too few:", seen)
	}
}

// Build takes all that Digest gives: with a stray end ahead of it there is a note at least.
func TestBuildTakesWhatDigestGives(t *testing.T) {
	t.Parallel()
	r := rand.New(rand.NewSource(164))
	e := digestEnv()
	many := 0
	for range 4000 {
		d := impl.Digest(e, randomJob(r, 25), 300)
		got := checkBuild(t, then(cmds(cmd(impl.CmdEnd)), d.Cmds), impl.PlainBook())
		if len(got.Notes) == 0 || got.Notes[0] != "stray end" {
			t.Fatalf("refused:%s", shownCmds(d.Cmds))
		}
		if len(got.Nodes) > 5 {
			many++
		}
	}
	if many < 500 {
		t.Error("too few:", many)
	}
}

// A text as one writes it.
func TestBuildAText(t *testing.T) {
	text := `\len 0=100pt \len 1=300pt \count 1=10000 \count 2=10 \count 6=2 \count 7=2 \count 8=50 \glue 0=13pt \glue 1=4pt plus 2pt \glue 3=0pt plus 1fil \glue 4=0pt plus 1fil \font 2
\mark{start}A typesetter reads a text\note 1{\font 0 It is \hbox{a long} one.} with macros.

\table 2{name&width\row a&\hskip 0pt plus 1fil 7\row \span 2 both}
$$a+b$$ and $x^2$.\shipout\vskip 5pt The {end}.`
	d := impl.Digest(impl.NewEnv(), text, impl.MaxBudget)
	got := checkBuild(t, d.Cmds, impl.PlainBook())
	if d.Code != impl.DigOk || len(got.Notes) > 0 || got.Height != 300*point {
		t.Fatal(d.Code, got.Notes, got.Height)
	}
	kinds := ""
	for _, item := range impl.Items(got.Nodes) {
		kinds += "?ckgprhv-mwn"[item[0].Kind : item[0].Kind+1]
	}
	if want := "mg" + "hpghnpgh" + "ghghgh" + "gghg" + "ggh" + "pg" + "gh"; kinds != want {
		t.Errorf("%s, not %s", kinds, want)
	}
	letters, notes := lettersApart(got.Nodes)
	if want := "Atypesetterreadsatextwithmacros.namewidtha7botha+bandx2.Theend."; letters != want || notes != "Itisalongone." {
		t.Errorf("%q %q", letters, notes)
	}
}

func TestBuildAnswersAreNewMemoryAndArgumentsStay(t *testing.T) {
	t.Parallel()
	r := orders{rand.New(rand.NewSource(165))}
	book := roomy(impl.PlainBook())
	nodesSeen, notesSeen := 0, 0
	for range 500 {
		cs := r.some(25)
		if r.Intn(4) == 0 {
			cs = r.loose(25)
		}
		cs = roomy(then(cmds(cmdText(impl.CmdMark, "a mark"), cmdText(impl.CmdWrite, strings.Repeat("long", 300))), cs))
		before := told(cs) + told(book)
		got, again := impl.Build(cs, book), impl.Build(cs, book)
		checkNewMemory(t, []impl.Built{got, again}, cs, book)
		if told(cs)+told(book) != before {
			t.Fatalf("changed:%s", shownCmds(cs))
		}
		for i := range got.Nodes[:cap(got.Nodes)] {
			got.Nodes[:cap(got.Nodes)][i] = impl.Node{Kind: -5, Kids: 99}
		}
		for i := range got.Notes[:cap(got.Notes)] {
			got.Notes[:cap(got.Notes)][i] = "spoilt"
		}
		if !same(again, impl.Build(cs, book)) {
			t.Fatal("an answer hangs on another one")
		}
		nodesSeen += len(again.Nodes)
		notesSeen += len(again.Notes)
	}
	if nodesSeen < 5000 || notesSeen < 100 {
		t.Error("too few:", nodesSeen, notesSeen)
	}
}
