package tests

import (
	"slices"
	"strings"
	"testing"

	"loop.example/g00014/impl"
)

var mathCmd = cmd(impl.CmdMath)

// mathCmds are the commands of a formula's text, its letters in a font.
func mathCmds(text string, font int64) []impl.Cmd {
	kinds := map[byte]int64{'{': impl.CmdLeft, '}': impl.CmdRight, '^': impl.CmdUp, '_': impl.CmdDown, '/': impl.CmdFrac, '\\': impl.CmdRoot}
	var out []impl.Cmd
	for i := range len(text) {
		if kind := kinds[text[i]]; kind != 0 {
			out = append(out, cmd(kind))
		} else {
			out = append(out, typed(text[i:i+1], font)...)
		}
	}
	return out
}

// inMath is a formula, inDisplay a display.
func inMath(cs ...impl.Cmd) []impl.Cmd    { return then(cmds(mathCmd), cs, cmds(mathCmd)) }
func inDisplay(cs ...impl.Cmd) []impl.Cmd { return inMath(inMath(cs...)...) }

// mathRow is a formula that is set.
func mathRow(text string, style, font int64) nodes {
	as, _ := readMathPlainly(text)
	return mathRowPlainly(as, style, font)
}

// displayBox is a formula as a display in lines of plainPar.
func displayBox(text string, font int64) nodes {
	fil := glueNode(impl.Glue{Plus: 65536, PlusOrder: 1})
	return packedPlainly(listed(fil, packedRow(mathRow(text, impl.Display, font)), fil), false, 1, lineWidth, 0).Nodes
}

const badFormula, openFormula = "bad formula", "open formula"

func TestFormulasInPlaces(t *testing.T) {
	for _, text := range []string{"x", "a+b", "x^2_1", "{a+b}/c", `\{xy}`, `\{}`, "{}", "a=b,c", "fi", "To"} {
		for _, font := range []int64{0, 2, 5, 15} {
			cs := inMath(mathCmds(text, font)...)
			if !strings.ContainsAny(text, "xabf") && !strings.Contains(text, "To") {
				font = 2
			}
			row := mathRow(text, impl.Text, font)
			checkBuilds(t,
				buildCase{what: text + " in a paragraph", cmds: then(typed("a", 3), cs, typed("b", 3), cmds(plainPar())), want: lastLine(chars("a", 3), row, chars("b", 3))},
				buildCase{what: text + " begins a paragraph", cmds: then(cs, cmds(plainPar())), want: lastLine(row)},
				buildCase{what: text + " in a row", cmds: inHbox(then(typed("a", 3), cs, typed("b", 3))...), want: packedRow(chars("a", 3), row, chars("b", 3))},
				buildCase{what: text + " in a cell", cmds: inTable(1, cs...), want: builtTable(1, cellsRow(cellOf(1, 0, row)))},
			)
		}
	}
	checkBuilds(t,
		buildCase{what: "a font that counts as 0", cmds: inHbox(inMath(typed("x", 16)...)...), want: packedRow(chars("x", 0))},
		buildCase{what: "a font below 0", cmds: inHbox(inMath(typed("x", -impl.MaxCount)...)...), want: packedRow(chars("x", 0))},
		buildCase{what: "the font of the first letter", cmds: inHbox(inMath(then(typed("x", 5), typed("y", 7))...)...), want: packedRow(chars("xy", 5))},
		buildCase{what: "two formulas", cmds: inHbox(then(inMath(typed("x", 5)...), inMath(typed("y", 7)...))...), want: packedRow(chars("x", 5), chars("y", 7))},
		buildCase{what: "in a group", cmds: inHbox(inMath(grouped(typed("x", 2)...)...)...), want: packedRow(packedRow(chars("x", 2)))},
	)
}

// What is no part of a formula's text is left out, boxes, notes and tables with all that is in them.
func TestWhatFormulasLeaveOut(t *testing.T) {
	long := func(cs []impl.Cmd) []impl.Cmd { return then(typed("x", 2), cs, typed("y", 3)) }
	row := mathRow("xy", impl.Text, 2)
	for what, cs := range map[string][]impl.Cmd{
		"nothing":                nil,
		"signs as letters":       typed(`{}^_/\`, 4),
		"bytes without a glyph":  typed("\x00\x01\x1f\x7f\x80\xff", 4),
		"blanks":                 typed("  ", 4),
		"a hard space":           cmds(hardSpace(4)),
		"a kern":                 cmds(kernCmd(5)),
		"skips":                  cmds(cmdGlue(impl.CmdHskip, glue(1, 2, 0, 3, 0)), cmdGlue(impl.CmdVskip, glue(1, 2, 0, 3, 0))),
		"a penalty":              cmds(cmdN(impl.CmdPenalty, 5)),
		"a rule":                 cmds(cmdNums(impl.CmdRule, 1, 2, 3)),
		"a mark and a write":     cmds(cmdText(impl.CmdMark, "m"), cmdText(impl.CmdWrite, "w")),
		"a CmdPar":               cmds(plainPar()),
		"a CmdShipout":           cmds(cmd(impl.CmdShipout)),
		"indents":                cmds(cmd(impl.CmdIndent), cmd(impl.CmdNoindent)),
		"a CmdOver":              cmds(cmd(impl.CmdOver)),
		"what a table has":       cmds(tabCmd, rowCmd, cmdN(impl.CmdSpan, 2)),
		"boxes with numbers":     cmds(boxCmd(1)),
		"a box":                  inHbox(typed("z", 4)...),
		"a stack":                inVbox(typed("z", 4)...),
		"a note":                 inNote(1, typed("z", 4)...),
		"a table":                inTable(1, tabled("z&z/z")...),
		"boxes in a box":         inHbox(then(inVbox(inNote(1, typed("z", 4)...)...), typed("z", 4), inTable(1))...),
		"a formula in a box":     inHbox(inMath(typed("z", 4)...)...),
		"a display in a box":     inVbox(inDisplay(typed("z", 4)...)...),
		"half a formula in it":   inHbox(then(cmds(mathCmd), typed("z", 4))...),
		"two boxes":              then(inHbox(typed("z", 4)...), inHbox(typed("z", 4)...)),
		"a box that is too wide": inHbox(kernCmd(impl.MaxLen), kernCmd(impl.MaxLen)),
	} {
		checkBuilds(t,
			buildCase{what: what + " in a row", cmds: inHbox(inMath(long(cs)...)...), want: packedRow(row)},
			buildCase{what: what + " in a paragraph", cmds: then(inMath(long(cs)...), cmds(plainPar())), want: lastLine(row)},
			buildCase{what: what + " ahead", cmds: inHbox(inMath(then(cs, typed("x", 2))...)...), want: packedRow(chars("x", 2)), notes: nil},
		)
	}
	// A CmdSetbox that is left out gives no box a number.
	buildCase{what: "a CmdSetbox", cmds: then(inHbox(inMath(then(typed("x", 2), cmds(setboxCmd(1)))...)...), inHbox(kernCmd(1)), cmds(boxCmd(1))), want: listed(packedRow(chars("x", 2)), hboxNode(1, 0, 0, 0, kernNode(1)))}.check(t)
	// Nor does a box that is put within a formula leave its number.
	buildCase{what: "a CmdBox", cmds: then(cmds(setboxCmd(1)), inHbox(kernCmd(1)), inHbox(inMath(then(typed("x", 2), cmds(boxCmd(1)))...)...), cmds(boxCmd(1))), want: listed(packedRow(chars("x", 2)), hboxNode(1, 0, 0, 0, kernNode(1)))}.check(t)
}

func TestBadFormulas(t *testing.T) {
	long := strings.Repeat("a", impl.MaxNoteText)
	bad := []string{badFormula}
	for what, cs := range map[string][]impl.Cmd{
		"a script of nothing":   mathCmds("^2", 2),
		"a group that is open":  mathCmds("{a", 2),
		"a group that is not":   mathCmds("a}", 2),
		"two scripts":           mathCmds("a^b^c", 2),
		"a root of nothing":     mathCmds(`\`, 2),
		"a fraction of one":     mathCmds("a/", 2),
		"one that is too long":  typed(long+"a", 2),
		"only what is left out": typed(" ", 2),
		"a box alone":           inHbox(typed("a", 2)...),
		"signs as letters":      typed("{", 2),
	} {
		checkBuilds(t,
			buildCase{what: what + " in a row", cmds: inHbox(inMath(cs...)...), want: hboxNode(0, 0, 0, 0), notes: bad},
			buildCase{what: what + " begins a paragraph", cmds: then(inMath(cs...), cmds(plainPar())), want: emptyLine(), notes: bad},
			buildCase{what: what + " in a paragraph", cmds: then(typed("f", 2), inMath(cs...), typed("i", 2), cmds(plainPar())), want: lastLine(chars("fi", 2)), notes: bad},
			buildCase{what: what + " as a display", cmds: then(typed("f", 2), inDisplay(cs...), typed("i", 2), cmds(plainPar())), want: listed(lastLine(chars("f", 2)), noGap(), lastLine(chars("i", 2))), notes: bad},
			buildCase{what: what + " as a display alone", cmds: then(inDisplay(cs...), cmds(plainPar())), notes: bad},
		)
	}
	buildCase{what: "the longest", cmds: inHbox(inMath(typed(long, 2)...)...), want: packedRow(chars(long, 2))}.check(t)
}

func TestDisplays(t *testing.T) {
	gap, base := glue(1, 2, 1, 3, 2), glue(30*point, 5, 0, 6, 0)
	par := parCmd(lineWidth, func(c *impl.Cmd) { c.Glues[1], c.Glues[0] = gap, base })
	plain, x := cmds(plainPar()), displayBox("x", 2)
	shown := func(box nodes) nodes { return listed(noGap(), box, noGap()) }
	math := cmds(mathCmd)
	for _, text := range []string{"x", "a/b", "x^2_1", `\{a/b}`, "{}"} {
		buildCase{what: text, cmds: then(inDisplay(mathCmds(text, 2)...), plain), want: shown(displayBox(text, 2))}.check(t)
	}
	sized := func(size int64) nodes {
		g := base
		g.Size -= size
		return glueNode(g)
	}
	u := int64(65530)
	checkBuilds(t,
		buildCase{what: "its font", cmds: then(inDisplay(mathCmds("a/b", 7)...), plain), want: shown(displayBox("a/b", 7))},
		buildCase{what: "in a paragraph", cmds: then(typed("a", 2), inDisplay(typed("x", 2)...), typed("b", 2), plain), want: listed(lastLine(chars("a", 2)), shown(x), noGap(), lastLine(chars("b", 2)))},
		buildCase{what: "two of them", cmds: then(inDisplay(typed("x", 2)...), inDisplay(typed("x", 2)...), plain), want: listed(shown(x), shown(x))},
		buildCase{what: "ended by one CmdMath", cmds: then(math, math, typed("x", 2), math, typed("b", 2), plain), want: listed(shown(x), noGap(), lastLine(chars("b", 2)))},
		buildCase{what: "ended by three", cmds: then(math, inDisplay(typed("x", 2)...)[1:], math, typed("b", 2), math, plain), want: listed(shown(x), noGap(), lastLine(chars("b", 2)))},
		buildCase{what: "a formula and a display", cmds: then(inMath(typed("b", 2)...), inDisplay(typed("x", 2)...), plain), want: listed(lastLine(chars("b", 2)), shown(x))},
		buildCase{what: "empty", cmds: then(math, math, math, math, plain), notes: []string{badFormula}},
		buildCase{what: "empty, ended by one", cmds: then(math, math, math, typed("b", 2), plain), want: lastLine(chars("b", 2)), notes: []string{badFormula}},
		buildCase{what: "a formula with a blank is no display", cmds: then(math, typed(" ", 2), math, typed("b", 2), plain), want: lastLine(chars("b", 2)), notes: []string{badFormula}},
		buildCase{what: "in a box", cmds: then(inVbox(inDisplay(typed("x", 2)...)...), plain), want: packedPlainly(shown(x), true, 0, 0, impl.MaxLen).Nodes},
		buildCase{what: "in a note", cmds: then(inNote(1, inDisplay(typed("x", 2)...)...), plain), want: noteNode(1, x[0].Height+x[0].Depth, shown(x))},
		buildCase{what: "gaps and a base", cmds: then(inDisplay(typed("x", 2)...), typed("p", 2), inDisplay(typed("x", 2)...), inHbox(typed("b", 2)...), cmds(par)),
			want: listed(glueNode(gap), x, glueNode(gap), glueNode(gap), sized(x[0].Depth+4*u), lastLine(chars("p", 2)), glueNode(gap), sized(2*u+x[0].Height), x, glueNode(gap), sized(x[0].Depth+6*u), packedRow(chars("b", 2)))},
		buildCase{what: "wider than a line", cmds: then(inDisplay(typed(strings.Repeat("x", 100), 2)...), plain), want: shown(displayBox(strings.Repeat("x", 100), 2))},
	)
}

// A row has no displays: two CmdMaths beside each other are an empty formula there, and the second one ends it.
func TestDisplaysInRows(t *testing.T) {
	math, x, ff := cmds(mathCmd), typed("x", 2), mathPlainly{0, 2}.char(1)
	empty := then(math, math)
	one, two, three := slices.Repeat([]string{badFormula}, 1), slices.Repeat([]string{badFormula}, 2), slices.Repeat([]string{badFormula}, 3)
	open := []string{badFormula, openFormula}
	for _, c := range []struct {
		what  string
		cmds  []impl.Cmd
		row   nodes
		notes []string
	}{
		{"$$", empty, nil, one},
		{"$$x", then(empty, x), chars("x", 2), one},
		{"$$x$", then(empty, x, math), chars("x", 2), append(open, badFormula)},
		{"$$x$x", then(empty, x, math, x), chars("xx", 2), open},
		{"$$x$$", inDisplay(x...), chars("x", 2), two},
		{"$$x$$$x$", then(inDisplay(x...), inMath(x...)), chars("xx", 2), two},
		{"$$x$x$", then(empty, x, inMath(x...)), chars("xx", 2), one},
		{"$$$", then(empty, math), nil, append(open, badFormula)},
		{"$$$x$", then(empty, inMath(x...)), chars("x", 2), one},
		{"$$$$", then(empty, empty), nil, two},
		{"$$$$x", then(empty, empty, x), chars("x", 2), two},
		{"$$$$$$", slices.Repeat(empty, 3), nil, three},
		{"$x$$x$", then(inMath(x...), inMath(x...)), chars("xx", 2), nil},
		{"$x$$$x$", then(inMath(x...), math, inMath(x...)), chars("xx", 2), append(slices.Clone(one), openFormula, badFormula)},
		{"$x$$$$x$", then(inMath(x...), empty, inMath(x...)), chars("xx", 2), one},
		{"$$ff$$, a word", inDisplay(typed("ff", 2)...), ff, two},
		{"$ff$, a formula", inMath(typed("ff", 2)...), chars("ff", 2), nil},
		{"f$$f, two words", then(typed("f", 2), empty, typed("f", 2)), chars("ff", 2), one},
		{"$$x^x$$, without a script", inDisplay(mathCmds("x^x", 2)...), chars("xx", 2), two},
		{"$$a/b$$, without a fraction", inDisplay(mathCmds("a/b", 2)...), chars("ab", 2), two},
		{"$$\\{xy}$$, without a root", inDisplay(mathCmds(`\{xy}`, 2)...), chars("xy", 2), two},
		{"letters of two fonts", inDisplay(then(typed("x", 3), typed("y", 5))...), listed(chars("x", 3), chars("y", 5)), two},
		{"what formulas leave out", inDisplay(then(x, cmds(kernCmd(5)), inHbox(x...))...), listed(chars("x", 2), kernNode(5), packedRow(chars("x", 2))), two},
		{"a CmdLeft between the two", inMath(then(cmds(cmd(impl.CmdLeft)), math)...), nil, append(slices.Clone(one), openFormula, badFormula)},
	} {
		padded := then(typed("a", 3), c.cmds)
		row := listed(chars("a", 3), c.row)
		checkBuilds(t,
			buildCase{what: c.what + " in a box", cmds: inHbox(padded...), want: packedRow(row), notes: c.notes},
			buildCase{what: c.what + " in a box in a paragraph", cmds: then(typed("b", 2), inHbox(padded...), cmds(plainPar())), want: lastLine(chars("b", 2), packedRow(row)), notes: c.notes},
			buildCase{what: c.what + " in a cell", cmds: inTable(1, padded...), want: builtTable(1, cellsRow(cellOf(1, 0, row))), notes: c.notes},
			buildCase{what: c.what + " in a box that is open", cmds: then(cmds(cmdNums(impl.CmdHbox, 0, 0)), padded), want: packedRow(row), notes: c.notes},
		)
	}
	shown := listed(noGap(), displayBox("x", 2), noGap())
	stack := packedPlainly(shown, true, 0, 0, impl.MaxLen).Nodes
	checkBuilds(t,
		buildCase{what: "in a stack in a row", cmds: then(inHbox(inVbox(inDisplay(x...)...)...), cmds(plainPar())), want: packedRow(stack)},
		buildCase{what: "in a row in a stack in a row", cmds: inHbox(inVbox(inHbox(inDisplay(x...)...)...)...), want: packedRow(vboxNode(6*65530, 4*65530, 0, 0, packedRow(chars("x", 2)))), notes: two},
		buildCase{what: "ahead of a tab", cmds: inTable(2, then(empty, cmds(tabCmd), empty, x)...), want: builtTable(2, textCells("", "x")), notes: two},
		buildCase{what: "over a tab", cmds: inTable(2, then(math, cmds(tabCmd), math, x)...), want: builtTable(2, textCells("x")), notes: one},
		buildCase{what: "alone in a row of a table", cmds: inTable(1, then(x, cmds(rowCmd), empty)...), want: builtTable(1, textCells("x")), notes: one},
	)
}

// A display is in two boxes more than its formula: so no more than 39 groups may be in one another there.
func TestDisplaysThatCannotBePacked(t *testing.T) {
	for deep, good := range map[int]bool{39: true, 40: false} {
		text := strings.Repeat("{", deep) + "x" + strings.Repeat("}", deep)
		got := checkBuild(t, then(inDisplay(mathCmds(text, 2)...), cmds(plainPar())), impl.Book{})
		if good != (len(got.Notes) == 0) || !good && (!same(got.Notes, []string{badFormula}) || len(got.Nodes) > 0) {
			t.Errorf("%d groups: %s", deep, shownBuilt(got))
		}
		if got := checkBuild(t, then(inMath(mathCmds(text, 2)...), cmds(plainPar())), impl.Book{}); len(got.Notes) > 0 {
			t.Errorf("%d groups in a paragraph: %q", deep, got.Notes)
		}
	}
}

func TestOpenFormulas(t *testing.T) {
	math, x := cmds(mathCmd), typed("x", 2)
	open := []string{openFormula}
	both := []string{openFormula, badFormula}
	plain := cmds(plainPar())
	end := cmds(cmd(impl.CmdEnd))
	line, shown := lastLine(chars("x", 2)), listed(noGap(), displayBox("x", 2), noGap())
	checkBuilds(t,
		buildCase{what: "at the end of all", cmds: then(plain, math, x), want: line, notes: open},
		buildCase{what: "empty at the end of all", cmds: then(plain, math), want: emptyLine(), notes: both},
		buildCase{what: "at the end of a box", cmds: then(inHbox(then(math, x)...), typed("a", 2), plain), want: listed(packedRow(chars("x", 2)), noGap(), lastLine(chars("a", 2))), notes: open},
		buildCase{what: "empty at the end of a box", cmds: inHbox(math...), want: hboxNode(0, 0, 0, 0), notes: both},
		buildCase{what: "at the end of a note", cmds: then(inNote(1, then(math, x)...), plain), want: noteNode(1, line[0].Height, line), notes: open},
		buildCase{what: "at the end of a table", cmds: then(inTable(1, then(math, x)...), plain), want: builtTable(1, textCells("x")), notes: open},
		buildCase{what: "at a stray end", cmds: then(math, x, end, typed("a", 2), plain), want: lastLine(chars("xa", 2)), notes: []string{openFormula, "stray end"}},
		buildCase{what: "with a box that is open", cmds: then(plain, math, x, cmds(cmdNums(impl.CmdHbox, 0, 0)), math, typed("a", 2)), want: line, notes: open},
		buildCase{what: "behind a box within", cmds: then(inHbox(then(math, x, inHbox(math...))...), plain), want: packedRow(chars("x", 2)), notes: open},
		buildCase{what: "a bad one", cmds: then(inHbox(then(math, mathCmds("^", 2))...), plain), want: hboxNode(0, 0, 0, 0), notes: both},
		buildCase{what: "a display at the end of all", cmds: then(plain, math, math, x), want: shown, notes: open},
		buildCase{what: "an empty display at the end of all", cmds: then(plain, math, math), notes: both},
		buildCase{what: "a display behind a paragraph", cmds: then(plain, typed("a", 2), math, math, x), want: listed(lastLine(chars("a", 2)), shown), notes: open},
		buildCase{what: "a display at the end of a box", cmds: then(inVbox(then(math, math, x)...), plain), want: packedPlainly(shown, true, 0, 0, impl.MaxLen).Nodes, notes: open},
		buildCase{what: "behind an empty one in a row", cmds: then(inHbox(then(math, math, math, x)...), plain), want: packedRow(chars("x", 2)), notes: []string{badFormula, openFormula}},
		buildCase{what: "a display at a stray end", cmds: then(math, math, x, end, plain), want: shown, notes: []string{openFormula, "stray end"}},
		buildCase{what: "a display behind a bad paragraph", cmds: then(cmds(cmd(impl.CmdIndent)), slices.Repeat(cmds(cmdText(impl.CmdMark, "")), impl.MaxRow+1), math, math, plain), notes: []string{"bad paragraph", openFormula, badFormula}},
	)
}
