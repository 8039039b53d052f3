package tests

import (
	"slices"
	"testing"

	"loop.example/g00014/impl"
)

// builtTable is a table as CmdTable has it.
func builtTable(columns int64, rows ...impl.Row) nodes {
	return setTablePlainly(tableOf(columns, impl.Glue{Size: 655300}, rows...))
}

// textCells are cells of one column with a text each, at the left.
func textCells(texts ...string) impl.Row {
	var out impl.Row
	for _, text := range texts {
		out.Cells = append(out.Cells, cellOf(1, impl.AlignLeft, chars(text, 2)))
	}
	return out
}

var tabCmd, rowCmd = cmd(impl.CmdTab), cmd(impl.CmdRow)

// tabled are the commands of a table's text: & ends a cell, / a row, and a number is a Span.
func tabled(text string) []impl.Cmd {
	var out []impl.Cmd
	for i := range len(text) {
		switch c := text[i]; {
		case c == '&':
			out = append(out, tabCmd)
		case c == '/':
			out = append(out, rowCmd)
		case '0' <= c && c <= '9':
			out = append(out, cmdN(impl.CmdSpan, int64(c-'0')))
		default:
			out = append(out, typed(text[i:i+1], 2)...)
		}
	}
	return out
}

func TestTablesOfCells(t *testing.T) {
	spanned := func(span int64, text string) impl.Cell { return cellOf(span, 0, chars(text, 2)) }
	for _, c := range []struct {
		what    string
		columns int64
		text    string
		rows    []impl.Row
	}{
		{"a cell", 1, "a", []impl.Row{textCells("a")}},
		{"two cells", 2, "a&b", []impl.Row{textCells("a", "b")}},
		{"a cell for two columns", 2, "a", []impl.Row{textCells("a")}},
		{"two rows", 2, "a&b/c&d", []impl.Row{textCells("a", "b"), textCells("c", "d")}},
		{"rows of all lengths", 3, "a&b&c/d/e&f", []impl.Row{textCells("a", "b", "c"), textCells("d"), textCells("e", "f")}},
		{"a last row that does not count", 2, "a&b/", []impl.Row{textCells("a", "b")}},
		{"a last row that counts by its cells", 2, "a/&", []impl.Row{textCells("a"), textCells("", "")}},
		{"a last row that counts by what stands in it", 2, "a/&b", []impl.Row{textCells("a"), textCells("", "b")}},
		{"an empty row ahead", 2, "/a", []impl.Row{textCells(""), textCells("a")}},
		{"empty rows", 1, "//", []impl.Row{textCells(""), textCells("")}},
		{"one empty row", 1, "/", []impl.Row{textCells("")}},
		{"empty cells alone", 2, "&", []impl.Row{textCells("", "")}},
		{"a Span", 2, "2a/b&c", []impl.Row{cellsRow(spanned(2, "a")), textCells("b", "c")}},
		{"a Span behind", 2, "a2/b&c", []impl.Row{cellsRow(spanned(2, "a")), textCells("b", "c")}},
		{"the last Span counts", 3, "3a2&c", []impl.Row{cellsRow(spanned(2, "a"), spanned(1, "c"))}},
		{"a Span of the next cell is 1", 3, "2a&b/c&d&e", []impl.Row{cellsRow(spanned(2, "a"), spanned(1, "b")), textCells("c", "d", "e")}},
		{"a Span of the next row is 1", 2, "2a/b&c", []impl.Row{cellsRow(spanned(2, "a")), textCells("b", "c")}},
		{"a Span that is cut", 2, "9a", []impl.Row{cellsRow(spanned(2, "a"))}},
		{"a Span that is cut behind a cell", 3, "a&3b", []impl.Row{cellsRow(spanned(1, "a"), spanned(2, "b"))}},
		{"cells beyond", 2, "a&b&c&d/e", []impl.Row{textCells("a", "b"), textCells("e")}},
		{"cells beyond a Span", 2, "2a&b/c", []impl.Row{cellsRow(spanned(2, "a")), textCells("c")}},
		{"a cell beyond that a Span is given", 1, "a&5b/c", []impl.Row{textCells("a"), textCells("c")}},
		{"a last row of which only a cell beyond has something", 1, "a/&b", []impl.Row{textCells("a"), textCells("")}},
		{"a last row of which only a cell beyond is another one", 1, "a/&", []impl.Row{textCells("a")}},
		{"a last row that a Span fills", 2, "a/2&", []impl.Row{textCells("a")}},
		{"a last row with a Span alone", 2, "a/2", []impl.Row{textCells("a")}},
		{"a row in the middle that would not count at the end", 2, "a//b", []impl.Row{textCells("a"), textCells(""), textCells("b")}},
	} {
		want := builtTable(c.columns, c.rows...)
		if len(want) == 0 {
			t.Fatal(c.what)
		}
		checkBuilds(t,
			buildCase{what: c.what, cmds: inTable(c.columns, tabled(c.text)...), want: want},
			buildCase{what: c.what + ", open at the end", cmds: then(cmds(cmdN(impl.CmdTable, c.columns)), tabled(c.text)), want: want},
			buildCase{what: c.what + ", in a box", cmds: inVbox(inTable(c.columns, tabled(c.text)...)...), want: packedPlainly(want, true, 0, 0, impl.MaxLen).Nodes},
		)
	}
}

// A cell that has a glue ahead of all else is at the right, without it.
func TestCellsAtTheRight(t *testing.T) {
	fil := cmdGlue(impl.CmdHskip, glue(0, 1, 1, 0, 0))
	a := chars("a", 2)
	space := glueNode(glue(3*65530, 98295, 0, 65530, 0))
	right := func(parts ...nodes) impl.Row { return cellsRow(cellOf(1, impl.AlignRight, parts...)) }
	left := func(parts ...nodes) impl.Row { return cellsRow(cellOf(1, impl.AlignLeft, parts...)) }
	wide := cellsRow(cellOf(1, impl.AlignLeft, chars("abc", 2)))
	for what, c := range map[string]struct {
		cmds []impl.Cmd
		row  impl.Row
	}{
		"a skip":                {then(cmds(fil), typed("a", 2)), right(a)},
		"a blank":               {typed(" a", 2), right(a)},
		"a glue alone":          {cmds(fil), right()},
		"two of them":           {then(cmds(fil), typed(" a", 2)), right(space, a)},
		"at both ends":          {typed(" a ", 2), right(a, space)},
		"behind":                {typed("a ", 2), left(a, space)},
		"behind a kern":         {then(cmds(kernCmd(0)), typed(" a", 2)), left(kernNode(0), space, a)},
		"behind a mark":         {then(cmds(cmdText(impl.CmdMark, "m")), typed(" a", 2)), left(markNode("m"), space, a)},
		"behind a word of none": {typed("\xff a", 2), right(a)},
		"a hard space":          {then(cmds(hardSpace(2)), typed("a", 2)), left(penaltyNode(10000), space, a)},
		"behind a group":        {grouped(typed(" a", 2)...), right(a)},
		"behind a Span":         {then(cmds(cmdN(impl.CmdSpan, 1)), typed(" a", 2)), right(a)},
		"in a box":              {inHbox(typed(" a", 2)...), left(packedRow(space, a))},
	} {
		buildCase{what: what, cmds: inTable(1, then(typed("abc", 2), cmds(rowCmd), c.cmds)...), want: builtTable(1, wide, c.row)}.check(t)
	}
}

// What stands in a cell stands as in a row.
func TestWhatStandsInCells(t *testing.T) {
	one := func(parts ...nodes) nodes { return builtTable(1, cellsRow(cellOf(1, 0, parts...))) }
	a := chars("a", 2)
	math := cmds(cmd(impl.CmdMath))
	checkBuilds(t,
		buildCase{what: "a word ends with its cell", cmds: inTable(2, tabled("f&i/f/i")...), want: builtTable(2, textCells("f", "i"), textCells("f"), textCells("i"))},
		buildCase{what: "a ligature", cmds: inTable(1, tabled("fi")...), want: one(setChar(2, 2, 8, 3, 0))},
		buildCase{what: "a CmdPar", cmds: inTable(1, then(typed("a", 2), cmds(plainPar()), typed("a", 2))...), want: one(a, a)},
		buildCase{what: "a CmdVskip", cmds: inTable(1, then(typed("a", 2), cmds(cmdGlue(impl.CmdVskip, glue(1, 2, 0, 0, 0))))...), want: one(a)},
		buildCase{what: "a CmdShipout", cmds: inTable(1, then(typed("a", 2), cmds(cmd(impl.CmdShipout)))...), want: one(a)},
		buildCase{what: "a box", cmds: inTable(1, inVbox(kernCmd(5))...), want: one(vboxNode(0, 5, 0, 0, kernNode(5)))},
		buildCase{what: "a tab and a row in a box", cmds: inTable(2, inHbox(tabled("a&/9a")...)...), want: builtTable(2, cellsRow(cellOf(1, 0, packedRow(a, a))))},
		buildCase{what: "a note", cmds: inTable(1, inNote(3, kernCmd(5))...), want: one(noteNode(3, 5, kernNode(5)))},
		buildCase{what: "a box with a number", cmds: inTable(2, then(cmds(setboxCmd(1), tabCmd), inHbox(typed("a", 2)...), cmds(rowCmd, boxCmd(1)))...), want: builtTable(2, textCells("", ""), cellsRow(cellOf(1, 0, packedRow(a))))},
		buildCase{what: "a formula over a tab", cmds: inTable(2, then(math, tabled("a&a/"), math)...), want: builtTable(2, cellsRow(cellOf(1, 0, a, a)))},
		buildCase{what: "a formula that its end ends", cmds: inTable(2, then(math, tabled("a&a/"))...), want: builtTable(2, cellsRow(cellOf(1, 0, a, a))), notes: []string{"open formula"}},
		buildCase{what: "a table", cmds: inTable(1, then(typed("a", 2), inTable(1, typed("b", 2)...))...), want: one(a), notes: []string{"table dropped"}},
		buildCase{what: "a mark alone in the last row", cmds: inTable(1, then(typed("a", 2), cmds(rowCmd, cmdText(impl.CmdMark, "m")))...), want: builtTable(1, textCells("a"), cellsRow(cellOf(1, 0, markNode("m"))))},
		buildCase{what: "nothing but an empty word in the last row", cmds: inTable(1, then(typed("a", 2), cmds(rowCmd), typed("\xff", 2))...), want: builtTable(1, textCells("a"))},
	)
}

func TestWhereTablesStand(t *testing.T) {
	a := builtTable(1, textCells("a"))
	table := inTable(1, typed("a", 2)...)
	dropped := []string{"table dropped"}
	checkBuilds(t,
		buildCase{what: "in a note", cmds: inNote(1, table...), want: noteNode(1, 5*65530, a)},
		buildCase{what: "in a row", cmds: inHbox(then(typed("b", 2), table, typed("b", 2))...), want: packedRow(chars("bb", 2)), notes: dropped},
		buildCase{what: "in a paragraph", cmds: then(typed("b", 2), table, typed("b", 2), cmds(plainPar())), want: listed(lastLine(chars("b", 2)), a, noGap(), lastLine(chars("b", 2)))},
		buildCase{what: "in a row in a paragraph", cmds: then(typed("b", 2), inHbox(table...), cmds(plainPar())), want: lastLine(chars("b", 2), hboxNode(0, 0, 0, 0)), notes: dropped},
		buildCase{what: "what is set in one that is dropped is set", cmds: then(inHbox(inTable(1, then(cmds(setboxCmd(1)), inHbox(typed("a", 2)...))...)...), cmds(boxCmd(1))), want: listed(hboxNode(0, 0, 0, 0), packedRow(chars("a", 2))), notes: dropped},
		buildCase{what: "what is told in one that is dropped is told ahead", cmds: inHbox(inTable(1, inHbox(kernCmd(impl.MaxLen), kernCmd(1))...)...), want: hboxNode(0, 0, 0, 0), notes: []string{"box dropped", "table dropped"}},
		buildCase{what: "without a row", cmds: inTable(3), notes: dropped},
		buildCase{what: "with a Span alone", cmds: inTable(3, cmdN(impl.CmdSpan, 2)), notes: dropped},
		buildCase{what: "open at the end, without a row", cmds: cmds(cmdN(impl.CmdTable, 3)), notes: dropped},
		buildCase{what: "too wide", cmds: inTable(2, kernCmd(impl.MaxLen), tabCmd, kernCmd(1)), notes: dropped},
		buildCase{what: "a cell too wide", cmds: inTable(1, kernCmd(impl.MaxLen), kernCmd(1)), notes: dropped},
	)
}

func TestTheMostRowsOfABuiltTable(t *testing.T) {
	for rows, good := range map[int]bool{1: true, impl.MaxRows: true, impl.MaxRows + 1: false} {
		cs := inTable(1, then(slices.Repeat(cmds(rowCmd), rows-1), typed("a", 2))...)
		got := checkBuild(t, cs, impl.Book{})
		if good != (len(impl.Items(got.Nodes)) == rows) || good != (len(got.Notes) == 0) {
			t.Errorf("%d rows: %d, %q", rows, len(impl.Items(got.Nodes)), got.Notes)
		}
	}
	for columns, want := range map[int64]int{1: 1, 20: 20} {
		got := checkBuild(t, inTable(columns, slices.Repeat(cmds(kernCmd(7), tabCmd), 30)...), impl.Book{})
		cells := 0
		for _, item := range impl.Items(got.Nodes[1:]) {
			if item[0].Kind == impl.NodeHbox {
				cells++
			}
		}
		if cells != want {
			t.Errorf("%d columns: %d cells", columns, cells)
		}
	}
}

// The rows of a table are boxes that are put: the base is between them.
func TestTheGlueBetweenRows(t *testing.T) {
	base := glue(20*point, 5, 1, 6, 2)
	par := parCmd(lineWidth, func(c *impl.Cmd) { c.Glues[0] = base })
	rows := impl.Items(builtTable(1, textCells("p"), textCells("b")))
	sized := func(depth, height int64) nodes {
		g := base
		g.Size -= depth + height
		return glueNode(g)
	}
	u := int64(65530)
	cs := then(inHbox(typed("p", 2)...), inTable(1, tabled("p/b")...), inHbox(typed("a", 2)...), cmds(par))
	buildCase{what: "rows", cmds: cs, want: listed(packedRow(chars("p", 2)), sized(2*u, 4*u), rows[0], sized(2*u, 6*u), rows[1], sized(0, 5*u), packedRow(chars("a", 2)))}.check(t)
}
