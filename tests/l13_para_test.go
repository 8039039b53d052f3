package tests

import (
	"slices"
	"strings"
	"testing"

	"loop.example/g00014/impl"
)

const point = impl.Point

// parCmd has lines so wide, of which the last is filled up, and what else is set.
func parCmd(width int64, change func(*impl.Cmd)) impl.Cmd {
	c := impl.Cmd{Kind: impl.CmdPar, Nums: make([]int64, 32), Glues: make([]impl.Glue, 8)}
	c.Nums[1], c.Nums[2], c.Nums[6], c.Nums[7], c.Nums[16] = 10000, 10, 2, 2, width
	c.Glues[4] = glue(0, point, 1, 0, 0)
	if change != nil {
		change(&c)
	}
	return c
}

// raggedCmd has lines that are filled up, each of them.
func raggedCmd(width int64, change func(*impl.Cmd)) impl.Cmd {
	return parCmd(width, func(c *impl.Cmd) {
		c.Glues[3] = glue(0, point, 1, 0, 0)
		if change != nil {
			change(c)
		}
	})
}

const lineWidth = 200 * point

func plainPar() impl.Cmd { return parCmd(lineWidth, nil) }

// chars are the chars of a text in a plain font, without what pairs do.
func chars(text string, font int64) nodes {
	var out nodes
	for i := range len(text) {
		out = append(out, mathPlainly{0, font}.char(int64(text[i]))...)
	}
	return out
}

// packedRow is a row as a box of its own.
func packedRow(parts ...nodes) nodes { return packedPlainly(listed(parts...), false, 0, 0, 0).Nodes }

// lastLine is the last line of a paragraph that plainPar ends, if something stands in it.
func lastLine(parts ...nodes) nodes {
	fill := glueNode(glue(0, point, 1, 0, 0))
	return packedPlainly(listed(noGap(), listed(parts...), penaltyNode(10000), fill, noGap()), false, 1, lineWidth, 0).Nodes
}

// emptyLine is one in which nothing stood that is not left out at its beginning.
func emptyLine() nodes { return hboxNode(lineWidth, 0, 0, 0, noGap(), noGap()) }

// noGap is the glue between two things of which the settings say nothing.
func noGap() nodes { return glueNode(impl.Glue{}) }

// hardSpace is a space at which no line is broken.
func hardSpace(font int64) impl.Cmd {
	return impl.Cmd{Kind: impl.CmdChar, N: 32, Nums: []int64{font}}
}

func kernCmd(n int64) impl.Cmd { return cmdN(impl.CmdKern, n) }

// inHbox and the others are places as long as they are by themselves.
func inHbox(cs ...impl.Cmd) []impl.Cmd { return boxed(cmdNums(impl.CmdHbox, 0, 0), cs...) }
func inVbox(cs ...impl.Cmd) []impl.Cmd { return boxed(cmdNums(impl.CmdVbox, 0, 0), cs...) }
func inNote(n int64, cs ...impl.Cmd) []impl.Cmd {
	return boxed(cmdN(impl.CmdNote, n), cs...)
}
func inTable(columns int64, cs ...impl.Cmd) []impl.Cmd {
	return boxed(cmdN(impl.CmdTable, columns), cs...)
}

// buildCase is what commands become: the nodes, and what is told.
type buildCase struct {
	what  string
	cmds  []impl.Cmd
	want  nodes
	notes []string
}

func (c buildCase) check(t *testing.T) {
	t.Helper()
	got := checkBuild(t, c.cmds, impl.PlainBook())
	if !same(got.Nodes, c.want) || !same(got.Notes, c.notes) {
		t.Errorf("%s:\n%s, not\n%s", c.what, shownBuilt(got), shownBuilt(impl.Built{Nodes: c.want, Notes: c.notes, Height: got.Height}))
	}
}

func checkBuilds(t *testing.T, cases ...buildCase) {
	t.Helper()
	for _, c := range cases {
		c.check(t)
	}
}

func TestBuildNothing(t *testing.T) {
	tall := parCmd(lineWidth, func(c *impl.Cmd) { c.Nums[17] = 77 })
	for _, c := range []struct {
		cmds   []impl.Cmd
		height int64
	}{
		{nil, 0}, {cmds(), 0}, {cmds(tall), 77}, {cmds(plainPar(), tall), 77}, {cmds(tall, plainPar()), 0},
		{typed("  ", 2), 0}, {then(typed(" ", 2), cmds(tall), typed(" ", 2)), 77},
	} {
		if got := checkBuild(t, c.cmds, impl.PlainBook()); !same(got, impl.Built{Height: c.height}) {
			t.Errorf("%+v: %+v", c.cmds, got)
		}
	}
}

func TestParagraphsOfLetters(t *testing.T) {
	a, b := chars("a", 2), chars("b", 2)
	space := setGlueNode(glue(3*65530, 98295, 0, 65530, 0), 3*65530)
	checkBuilds(t,
		buildCase{what: "a letter", cmds: then(typed("a", 2), cmds(plainPar())), want: lastLine(a)},
		buildCase{what: "letters and a blank", cmds: then(typed("a b", 2), cmds(plainPar())), want: lastLine(a, space, b)},
		buildCase{what: "blanks at its ends", cmds: then(typed(" a b  ", 2), cmds(plainPar())), want: lastLine(a, space, b)},
		buildCase{what: "two of them", cmds: then(typed("a", 2), cmds(plainPar()), typed("b", 2), cmds(plainPar())), want: listed(lastLine(a), noGap(), lastLine(b))},
		buildCase{what: "a second CmdPar", cmds: then(typed("a", 2), cmds(plainPar(), plainPar()), typed("b", 2), cmds(plainPar())), want: listed(lastLine(a), noGap(), lastLine(b))},
		buildCase{what: "no CmdPar behind", cmds: then(cmds(plainPar()), typed("a", 2)), want: lastLine(a)},
		buildCase{what: "no CmdPar at all", cmds: typed("a", 2), want: hboxNode(0, 5*65530, 0, 0, noGap(), a, penaltyNode(10000), noGap(), noGap())},
		buildCase{what: "two fonts", cmds: then(typed("a", 2), typed("b", 4), cmds(plainPar())), want: lastLine(a, chars("b", 4))},
		buildCase{what: "blanks of their fonts", cmds: then(typed("a", 2), typed(" ", 4), typed("b", 2), cmds(plainPar())), want: lastLine(a, setGlueNode(glue(3*78636, 117954, 0, 78636, 0), 3*78636), b)},
		buildCase{what: "a byte 32", cmds: then(typed("a", 2), cmds(hardSpace(2)), typed("b", 2), cmds(plainPar())), want: lastLine(a, penaltyNode(10000), space, b)},
		buildCase{what: "a byte 32 begins it", cmds: cmds(hardSpace(2), hardSpace(2), plainPar()), want: emptyLine()},
		buildCase{what: "bytes without a glyph", cmds: then(typed("\x00\xffa\x7f", 2), cmds(plainPar())), want: lastLine(a)},
		buildCase{what: "a byte without a glyph begins it", cmds: then(typed("\xff", 2), cmds(plainPar())), want: emptyLine()},
	)
}

// What begins a paragraph does so in a stack, whatever stack that is; nothing else does.
func TestWhatBeginsAParagraph(t *testing.T) {
	mark := cmdText(impl.CmdMark, "m")
	for _, indent := range []int64{0, 20 * point, -point} {
		par := parCmd(lineWidth, func(c *impl.Cmd) { c.Nums[18] = indent })
		for _, c := range []struct {
			begin []impl.Cmd
			row   nodes
		}{
			{typed("a", 2), chars("a", 2)},
			{cmds(cmdGlue(impl.CmdHskip, glue(5, 6, 0, 7, 0))), nil},
			{then(cmds(cmd(impl.CmdMath)), typed("x", 2), cmds(cmd(impl.CmdMath))), chars("x", 2)},
			{cmds(cmd(impl.CmdIndent)), nil},
			{cmds(cmd(impl.CmdNoindent)), nil},
		} {
			line := listed(lastLine(c.row), markNode("m"))
			checkBuilds(t,
				buildCase{what: "begun", cmds: then(c.begin, cmds(mark, par)), want: line},
				buildCase{what: "in a note", cmds: then(inNote(3, then(c.begin, cmds(mark))...), cmds(par)), want: noteNode(3, line[0].Height, line)},
			)
		}
	}
	for _, kind := range []int64{impl.CmdUp, impl.CmdDown, impl.CmdTab, impl.CmdFrac, impl.CmdRoot, impl.CmdOver, impl.CmdRow, impl.CmdLeft, impl.CmdRight} {
		buildCase{what: "not begun", cmds: cmds(cmd(kind), mark, plainPar()), want: markNode("m")}.check(t)
	}
	for what, c := range map[string]buildCase{
		"a blank":   {cmds: typed(" ", 2)},
		"a kern":    {cmds: cmds(kernCmd(5)), want: kernNode(5)},
		"a penalty": {cmds: cmds(cmdN(impl.CmdPenalty, 5)), want: penaltyNode(5)},
		"a rule":    {cmds: cmds(cmdNums(impl.CmdRule, 1, 2, 3)), want: ruleNode(1, 2, 3)},
		"a write":   {cmds: cmds(cmdText(impl.CmdWrite, "w")), want: writeNode("w")},
		"a box":     {cmds: inHbox(), want: hboxNode(0, 0, 0, 0)},
		"a span":    {cmds: cmds(cmdN(impl.CmdSpan, 2))},
		"a note":    {cmds: inNote(0), want: noteNode(0, 0)},
	} {
		c.what, c.cmds, c.want = what, then(c.cmds, cmds(mark, plainPar())), listed(c.want, markNode("m"))
		c.check(t)
	}
}

// The kern of an indent is an item of the row, though no line shows it: with it there may be one other item less.
func TestTheIndentIsAnItem(t *testing.T) {
	t.Parallel()
	indent, noindent := cmds(cmd(impl.CmdIndent)), cmds(cmd(impl.CmdNoindent))
	for _, c := range []struct {
		what   string
		begin  []impl.Cmd
		items  int // that it leaves itself
		indent int64
		good   bool
	}{
		{"a CmdIndent", indent, 0, 1, false}, {"a CmdIndent of 0", indent, 0, 0, true}, {"a CmdIndent below 0", indent, 0, -1, true},
		{"a CmdNoindent", noindent, 0, 1, true}, {"a CmdNoindent of 0", noindent, 0, 0, true},
		{"a letter", typed("a", 2), 1, 1, false}, {"a letter with an indent of 0", typed("a", 2), 1, 0, true}, {"a hard space", cmds(hardSpace(2)), 2, 1, false},
		{"a skip", cmds(cmdGlue(impl.CmdHskip, impl.Glue{})), 1, 1, false}, {"a formula", inMath(typed("x", 2)...), 1, 1, false},
		{"the first of them counts", then(noindent, indent, typed("a", 2)), 1, 1, true}, {"the first of them counts, too", then(indent, noindent, typed("a", 2)), 1, 1, false},
	} {
		par := parCmd(lineWidth, func(p *impl.Cmd) { p.Nums[18] = c.indent })
		cs := then(c.begin, slices.Repeat(cmds(cmdText(impl.CmdMark, "")), impl.MaxRow-c.items), cmds(par))
		got := checkBuild(t, cs, impl.Book{})
		if c.good != (len(got.Notes) == 0) || c.good != (len(got.Nodes) > 0) {
			t.Errorf("%s: %d nodes, %q", c.what, len(got.Nodes), got.Notes)
		}
	}
}

func TestWhatEndsAParagraph(t *testing.T) {
	a, b := lastLine(chars("a", 2)), lastLine(chars("b", 2))
	inside := func(cs []impl.Cmd) []impl.Cmd { return then(typed("a", 2), cs, typed("b", 2), cmds(plainPar())) }
	cell := listed(hboxNode(7*65530, 5*65530, 0, 0, chars("a", 2), fil(0)))
	math := cmds(cmd(impl.CmdMath), cmd(impl.CmdMath))
	x := packedPlainly(listed(glueNode(fil(0)[0].Glue), packedRow(chars("x", 2)), glueNode(fil(0)[0].Glue)), false, 1, lineWidth, 0).Nodes
	checkBuilds(t,
		buildCase{what: "a CmdPar", cmds: inside(cmds(plainPar())), want: listed(a, noGap(), b)},
		buildCase{what: "a CmdVskip", cmds: inside(cmds(cmdGlue(impl.CmdVskip, glue(9, 8, 1, 7, 2)))), want: listed(a, glueNode(glue(9, 8, 1, 7, 2)), noGap(), b)},
		buildCase{what: "a CmdVbox", cmds: inside(inVbox()), want: listed(a, vboxNode(0, 0, 0, 0), noGap(), b)},
		buildCase{what: "a CmdTable", cmds: inside(inTable(1, typed("a", 2)...)), want: listed(a, packedRow(cell), noGap(), b)},
		buildCase{what: "a CmdShipout", cmds: inside(cmds(cmd(impl.CmdShipout))), want: listed(a, penaltyNode(-10000), noGap(), b)},
		buildCase{what: "a display", cmds: inside(then(math, typed("x", 2), math)), want: listed(a, noGap(), x, noGap(), noGap(), b)},
		buildCase{what: "the end of a box", cmds: then(inVbox(typed("a", 2)...), typed("b", 2), cmds(plainPar())), want: listed(vboxNode(lineWidth, 5*65530, 0, 0, a), noGap(), b)},
		buildCase{what: "the end of a note", cmds: then(inNote(1, typed("a", 2)...), typed("b", 2), cmds(plainPar())), want: listed(noteNode(1, 5*65530, a), noGap(), b)},
		buildCase{what: "the end of all", cmds: then(cmds(plainPar()), typed("a", 2)), want: a},
		buildCase{what: "a table that is dropped", cmds: inside(inTable(1)), want: listed(a, noGap(), b), notes: []string{"table dropped"}},
		buildCase{what: "a box that is dropped", cmds: inside(inVbox(kernCmd(impl.MaxLen), kernCmd(1))), want: listed(a, noGap(), b), notes: []string{"box dropped"}},
	)
	for what, cs := range map[string][]impl.Cmd{
		"a CmdHbox":                    inHbox(),
		"a CmdNote":                    inNote(1),
		"a CmdKern":                    cmds(kernCmd(0)),
		"a CmdPenalty":                 cmds(cmdN(impl.CmdPenalty, 10000)),
		"a CmdRule":                    cmds(cmdNums(impl.CmdRule, 0, 0, 0)),
		"a CmdBox of none":             cmds(cmdN(impl.CmdBox, 0)),
		"a CmdVbox behind a CmdSetbox": then(cmds(cmdN(impl.CmdSetbox, 0)), inVbox()),
		"a CmdIndent":                  cmds(cmd(impl.CmdIndent)),
		"a CmdNoindent":                cmds(cmd(impl.CmdNoindent)),
		"a CmdRow":                     cmds(cmd(impl.CmdRow)),
		"a stray CmdEnd":               cmds(cmd(impl.CmdEnd)),
		"a formula":                    then(math[:1], typed("x", 2), math[:1]),
	} {
		lines := 0
		for _, item := range impl.Items(checkBuild(t, inside(cs), impl.Book{}).Nodes) {
			if item[0].Kind == impl.NodeHbox {
				lines++
			}
		}
		if lines != 1 {
			t.Errorf("%s: %d lines", what, lines)
		}
	}
}

// A word is set as one; each command but a letter of its font ends it.
func TestWords(t *testing.T) {
	u2, u3 := int64(6553*10), int64(6553*11)
	fi := setChar(2, 2, 8, 3, 0)
	line := func(what string, row nodes, cs ...[]impl.Cmd) buildCase {
		return buildCase{what: what, cmds: then(then(cs...), cmds(plainPar())), want: lastLine(row)}
	}
	checkBuilds(t,
		line("a ligature", fi, typed("fi", 2)),
		line("three letters", setChar(2, 3, 9, 3, 0), typed("ffi", 2)),
		line("a kern", listed(setChar(2, 'T', 6, 4, 0), kernNode(-u2/2), setChar(2, 'o', 9, 7, 0)), typed("To", 2)),
		line("two fonts", listed(setChar(2, 'f', 6, 6, 0), setChar(3, 'i', 4, 5, 0)), typed("f", 2), typed("i", 3)),
		line("two fonts, each with its pairs", listed(fi, setChar(3, 2, 9, 3, 0), setChar(3, 'T', 7, 4, 0), kernNode((-u3-1)/2), setChar(3, 'o', 4, 7, 0)), typed("fi", 2), typed("fiTo", 3)),
		line("a font of 15", setChar(15, 2, 9, 3, 0), typed("fi", 15)),
		line("fonts that count as 0", setChar(0, 2, 6, 3, 0), typed("f", 16), typed("i", -1)),
		line("fonts as far off as can be", setChar(0, 3, 7, 3, 0), typed("f", impl.MaxCount), typed("f", 0), typed("i", -impl.MaxCount)),
		line("bytes without a glyph within", fi, typed("f\x00\x80i", 2)),
		line("with a sign", listed(fi, chars("-1", 2), fi), typed("fi-1fi", 2)),
	)
	for _, kind := range []int64{impl.CmdLeft, impl.CmdRight, impl.CmdUp, impl.CmdDown, impl.CmdTab, impl.CmdFrac, impl.CmdRoot, impl.CmdOver, impl.CmdRow, impl.CmdIndent, impl.CmdNoindent} {
		line("parted", chars("fi", 2), typed("f", 2), cmds(cmd(kind)), typed("i", 2)).check(t)
	}
	line("parted by a span", chars("fi", 2), typed("f", 2), cmds(cmdN(impl.CmdSpan, 1)), typed("i", 2)).check(t)
	line("parted by a CmdSetbox", chars("fi", 2), typed("f", 2), cmds(cmdN(impl.CmdSetbox, 1)), typed("i", 2)).check(t)
	line("parted by a CmdBox of none", chars("fi", 2), typed("f", 2), cmds(cmdN(impl.CmdBox, 1)), typed("i", 2)).check(t)
	for _, kind := range []int64{impl.CmdPar, impl.CmdShipout} {
		c := cmd(kind)
		if kind == impl.CmdPar {
			c = plainPar()
		}
		buildCase{what: "parted in a box", cmds: inHbox(then(typed("f", 2), cmds(c), typed("i", 2))...), want: packedRow(chars("fi", 2))}.check(t)
	}
	stray := line("parted by a stray end", chars("fi", 2), typed("f", 2), cmds(cmd(impl.CmdEnd)), typed("i", 2))
	stray.notes = []string{"stray end"}
	stray.check(t)
}

// A word of more than MaxWord bytes is one of which SetWord gives nothing.
func TestLongWords(t *testing.T) {
	for n, want := range map[int]int{999: 999, impl.MaxWord: 1000, impl.MaxWord + 1: 0, 1999: 0} {
		got := checkBuild(t, then(typed(strings.Repeat("a", n), 2), cmds(plainPar())), impl.Book{})
		if letters := len(lettersIn(got.Nodes)); letters != want {
			t.Errorf("%d letters: %d", n, letters)
		}
		got = checkBuild(t, inHbox(then(typed(strings.Repeat("a", n), 2), typed("b", 3))...), impl.Book{})
		if letters := len(lettersIn(got.Nodes)) - 1; letters != want {
			t.Errorf("%d letters in a box: %d", n, letters)
		}
	}
}

// lettersIn are those of a list, ligatures as what they stand for.
func lettersIn(ns nodes) string {
	var out strings.Builder
	for _, n := range ns {
		if n.Kind != impl.NodeChar {
			continue
		}
		switch n.Char {
		case 1:
			out.WriteString("ff")
		case 2:
			out.WriteString("fi")
		case 3:
			out.WriteString("ffi")
		default:
			out.WriteByte(byte(n.Char))
		}
	}
	return out.String()
}

// linesOf are the letters of each box of a stack.
func linesOf(ns nodes) []string {
	var out []string
	for _, item := range impl.Items(ns) {
		if item[0].Kind == impl.NodeHbox {
			out = append(out, lettersIn(item))
		}
	}
	return out
}

// wordWidth is how wide a word is in font 2.
func wordWidth(word string) int64 { return impl.WordSize(impl.PlainFont(2), []byte(word)).Width }

// partCase are commands that are set in lines as wide as a word, and these lines.
type partCase struct {
	what        string
	cmds        []impl.Cmd
	left, right int64
	width       string
	lines       string
}

func (c partCase) check(t *testing.T, book impl.Book) {
	t.Helper()
	par := raggedCmd(wordWidth(c.width), func(p *impl.Cmd) { p.Nums[6], p.Nums[7] = c.left, c.right })
	got := checkBuild(t, then(c.cmds, cmds(par)), book)
	if lines := strings.Join(linesOf(got.Nodes), " "); lines != c.lines || len(got.Notes) > 0 {
		t.Errorf("%s: %q, not %q", c.what, lines, c.lines)
	}
}

func TestWordsAreParted(t *testing.T) {
	word := typed("machinery", 2)
	for _, c := range []partCase{
		{"an exception", word, 1, 1, "chine-", "ma- chine- ry"},
		{"large letters", typed("MachinerY", 2), 1, 1, "chine-", "Ma- chine- rY"},
		{"enough ahead and behind", word, 2, 2, "chine-", "ma- chine- ry"},
		{"too few ahead", word, 3, 2, "machine-", "machine- ry"},
		{"too few behind", word, 2, 3, "chinery", "ma- chinery"},
		{"bounds below 0", word, -impl.MaxCount, -impl.MaxCount, "chine-", "ma- chine- ry"},
		{"a bound above all", word, impl.MaxCount, 0, "chine-", "machinery"},
		{"the other one", word, 0, impl.MaxCount, "chine-", "machinery"},
		{"room for more", word, 1, 1, "machine-", "ma- chinery"},
		{"room for all", word, 1, 1, "machinery", "machinery"},
		{"by patterns", typed("stretching", 2), 1, 1, "stret-", "stret- ching"},
		{"a word that is never parted", typed("page", 2), 1, 1, "p", "page"},
		{"with a digit", typed("machinery1", 2), 1, 1, "chine-", "machinery1"},
		{"with a sign", typed("machinery.", 2), 1, 1, "chine-", "machinery."},
		{"with a byte that has no glyph", typed("machinery\xff", 2), 1, 1, "chine-", "machinery"},
		{"two words", typed("machinery machinery", 2), 1, 1, "chine-", "ma- chine- ryma- chine- ry"},
		{"of two fonts", then(typed("page", 2), typed("page", 3)), 1, 1, "page", "pagepage"},
		{"two words of two fonts", then(typed("machinery", 2), typed("page", 3)), 1, 1, "machine-", "machine- rypage"},
		{"parted by a group", then(word, grouped(typed("page", 2)...)), 1, 1, "machine-", "machine- rypage"},
		{"within a group", then(typed("pa", 2), grouped(typed("chinery", 2)...)), 1, 1, "pachi-", "pach- inery"},
		{"in a box of a paragraph", then(cmds(cmd(impl.CmdNoindent)), inHbox(word...), typed(" a", 2)), 1, 1, "machinery", "machinery a"},
	} {
		c.check(t, impl.PlainBook())
	}
	par := raggedCmd(wordWidth("chine-"), nil)
	for what, cs := range map[string][]impl.Cmd{"a box": inVbox(word...), "a note": inNote(1, word...)} {
		if got := checkBuild(t, then(cs, cmds(par)), impl.PlainBook()); lettersIn(got.Nodes) != "ma-chine-ry" {
			t.Errorf("in %s: %q", what, lettersIn(got.Nodes))
		}
	}
}

// A hyphen is the font's glyph 45. It comes just behind a glyph, ahead of the kern, which is gone then, and none comes within a ligature.
func TestHyphensAndGlyphs(t *testing.T) {
	book := impl.Book{Words: []impl.Exception{exception("office", 1, 2, 3, 4, 5), exception("toa", 1)}}
	for _, c := range []partCase{
		{"all glyphs", typed("office", 2), 1, 1, "\x03-", "o- ffi- ce"},
		{"two glyphs", typed("office", 2), 1, 1, "o\x03-", "o- ffice"},
		{"one line", typed("office", 2), 1, 1, "office", "office"},
	} {
		c.check(t, book)
	}
	width := wordWidth("oa")
	par := raggedCmd(width, func(c *impl.Cmd) { c.Nums[6], c.Nums[7] = 1, 1 })
	fill := glueNode(glue(0, point, 1, 0, 0))
	line := func(parts ...nodes) nodes {
		return packedPlainly(listed(noGap(), listed(parts...), fill), false, 1, width, 0).Nodes
	}
	want := listed(line(chars("T-", 2)), line(chars("oa", 2), penaltyNode(10000), fill))
	if got := checkBuild(t, then(typed("Toa", 2), cmds(par)), book); !same(got.Nodes, want) {
		t.Errorf("%s, not %s", shownNodes(got.Nodes), shownNodes(want))
	}
}

// Words of MaxLetters letters are parted, those of one more are not; and no word is, in a row.
func TestTheLongestWordThatIsParted(t *testing.T) {
	book := impl.Book{Patterns: []impl.Pattern{pattern("a", 1, 0)}}
	par := raggedCmd(20*point, func(c *impl.Cmd) { c.Nums[6], c.Nums[7] = 1, 1 })
	for n, parted := range map[int]bool{2: false, 30: true, 59: true, impl.MaxLetters: true, impl.MaxLetters + 1: false, 100: false} {
		word := typed(strings.Repeat("a", n), 2)
		got := checkBuild(t, then(word, cmds(par)), book)
		if lines := linesOf(got.Nodes); parted != (len(lines) > 1) || strings.ReplaceAll(strings.Join(lines, ""), "-", "") != strings.Repeat("a", n) {
			t.Errorf("%d letters: %q", n, lines)
		}
		for _, cs := range [][]impl.Cmd{inHbox(word...), inTable(1, word...), inNote(1, inHbox(word...)...), inVbox(inHbox(word...)...)} {
			for _, n := range checkBuild(t, then(cs, cmds(par)), book).Nodes {
				if n.Kind == impl.NodeHyphen {
					t.Fatal("a hyphen in a row")
				}
			}
		}
	}
}

// Marks, writes and notes of a line stand behind it, as they came; between two lines there is a penalty, if it is not 0.
func TestLinesWithMarks(t *testing.T) {
	par := func(between int64) impl.Cmd {
		return raggedCmd(lineWidth, func(c *impl.Cmd) { c.Nums[8] = between })
	}
	brk := cmdN(impl.CmdPenalty, -10000)
	fill := glueNode(glue(0, point, 1, 0, 0))
	line := func(parts ...nodes) nodes {
		return packedPlainly(listed(noGap(), listed(parts...), fill), false, 1, lineWidth, 0).Nodes
	}
	last := func(parts ...nodes) nodes { return line(listed(parts...), penaltyNode(10000), fill) }
	mark, write := cmdText(impl.CmdMark, "m"), cmdText(impl.CmdWrite, "w")
	three := then(cmds(cmd(impl.CmdIndent), mark), typed("a", 2), cmds(write), inNote(4, kernCmd(9)), cmds(brk), typed("b", 2), cmds(brk, write, mark), typed("c", 2))
	goes := []nodes{listed(markNode("m"), writeNode("w"), noteNode(4, 9, kernNode(9))), listed(writeNode("w"), markNode("m"))}
	for between, want := range map[int64]nodes{0: nil, 1: penaltyNode(1), -1: penaltyNode(-1), 10000: penaltyNode(10000), 10001: penaltyNode(10000), -10001: penaltyNode(-10000), -impl.MaxCount: penaltyNode(-10000)} {
		buildCase{what: "three lines", cmds: then(three, cmds(par(between))),
			want: listed(line(chars("a", 2)), goes[0], want, line(chars("b", 2)), want, last(chars("c", 2)), goes[1])}.check(t)
		buildCase{what: "one line", cmds: then(typed("a", 2), cmds(mark, par(between))), want: listed(last(chars("a", 2)), markNode("m"))}.check(t)
	}
	// What stands in a box of a line stays there.
	box := packedRow(markNode("m"), chars("b", 2))
	buildCase{what: "in a box", cmds: then(typed("a", 2), inHbox(then(cmds(mark), typed("b", 2))...), cmds(write, par(5))), want: listed(last(chars("a", 2), box), writeNode("w"))}.check(t)
}

func TestParagraphsThatAreDropped(t *testing.T) {
	t.Parallel()
	mark := cmdText(impl.CmdMark, "")
	rows := map[string][2][]impl.Cmd{ // one that can be, and one that can't
		"items":  {slices.Repeat(cmds(mark), impl.MaxRow-1), slices.Repeat(cmds(mark), impl.MaxRow)},
		"breaks": {slices.Repeat(cmds(cmdN(impl.CmdPenalty, 0)), impl.MaxBreaks-1), slices.Repeat(cmds(cmdN(impl.CmdPenalty, 0)), impl.MaxBreaks)},
		"length": {cmds(cmdNums(impl.CmdRule, impl.MaxLen-458710, 0, 0)), cmds(cmdNums(impl.CmdRule, impl.MaxLen, 0, 0))},
	}
	for what, pair := range rows {
		for i, row := range pair {
			cs := then(typed("a", 2), row, cmds(parCmd(impl.MaxLen, nil), kernCmd(5)))
			got := checkBuild(t, cs, impl.Book{})
			if i == 0 && len(got.Notes) > 0 || i == 1 && (!same(got.Notes, []string{"bad paragraph"}) || !same(got.Nodes, kernNode(5))) {
				t.Errorf("%s %d: %d nodes, %q", what, i, len(got.Nodes), got.Notes)
			}
		}
	}
	// In a box that is a stack the rest of it stays.
	cs := then(inVbox(then(cmds(kernCmd(7)), typed("a", 2), rows["items"][1], cmds(plainPar(), kernCmd(8)))...), cmds(plainPar()))
	buildCase{what: "in a box", cmds: cs, want: vboxNode(0, 15, 0, 0, kernNode(7), kernNode(8)), notes: []string{"bad paragraph"}}.check(t)
}
