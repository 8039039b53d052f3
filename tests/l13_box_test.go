package tests

import (
	"slices"
	"strings"
	"testing"

	"loop.example/g00014/impl"
)

// Each command that leaves a node does so in a row, in a paragraph and in a stack, as the document says of each.
func TestWhereThingsStand(t *testing.T) {
	space := glueNode(glue(3*65530, 98295, 0, 65530, 0))
	skip := glue(9, 8, 1, 7, 2)
	long := strings.Repeat("0123456789", 100)
	for _, c := range []struct {
		what string
		cmd  impl.Cmd
		row  nodes // what it leaves in a row
		bare nodes // what it leaves in a stack without a paragraph
		ends bool  // whether it ends a paragraph
	}{
		{"a blank", typed(" ", 2)[0], space, nil, false},
		{"a CmdVskip", cmdGlue(impl.CmdVskip, skip), nil, glueNode(skip), true},
		{"a kern", kernCmd(-5), kernNode(-5), kernNode(-5), false},
		{"the longest kern", kernCmd(impl.MaxLen), kernNode(impl.MaxLen), kernNode(impl.MaxLen), false},
		{"a penalty", cmdN(impl.CmdPenalty, 77), penaltyNode(77), penaltyNode(77), false},
		{"the most", cmdN(impl.CmdPenalty, 10000), penaltyNode(10000), penaltyNode(10000), false},
		{"more", cmdN(impl.CmdPenalty, 10001), penaltyNode(10000), penaltyNode(10000), false},
		{"as much as can be", cmdN(impl.CmdPenalty, 1<<63-1), penaltyNode(10000), penaltyNode(10000), false},
		{"a rule", cmdNums(impl.CmdRule, 1, -2, 3), ruleNode(1, -2, 3), ruleNode(1, -2, 3), false},
		{"a mark", cmdText(impl.CmdMark, "m"), markNode("m"), markNode("m"), false},
		{"an empty mark", cmdText(impl.CmdMark, ""), markNode(""), markNode(""), false},
		{"a long mark", cmdText(impl.CmdMark, long), markNode(long), markNode(long), false},
		{"a mark that is too long", cmdText(impl.CmdMark, long+"x"), markNode(long), markNode(long), false},
		{"a write", cmdText(impl.CmdWrite, "w"), writeNode("w"), writeNode("w"), false},
		{"a write that is too long", cmdText(impl.CmdWrite, long+long), writeNode(long), writeNode(long), false},
		{"a CmdShipout", cmd(impl.CmdShipout), nil, penaltyNode(-10000), true},
		{"a CmdPar", plainPar(), nil, nil, true},
		{"a CmdUp", cmd(impl.CmdUp), nil, nil, false},
		{"a CmdDown", cmd(impl.CmdDown), nil, nil, false},
		{"a CmdFrac", cmd(impl.CmdFrac), nil, nil, false},
		{"a CmdRoot", cmd(impl.CmdRoot), nil, nil, false},
		{"a CmdOver", cmd(impl.CmdOver), nil, nil, false},
		{"a CmdTab", cmd(impl.CmdTab), nil, nil, false},
		{"a CmdRow", cmd(impl.CmdRow), nil, nil, false},
		{"a CmdSpan", cmdN(impl.CmdSpan, 3), nil, nil, false},
		{"a CmdLeft", cmd(impl.CmdLeft), nil, nil, false},
		{"a CmdRight", cmd(impl.CmdRight), nil, nil, false},
		{"a CmdBox", cmdN(impl.CmdBox, 15), nil, nil, false},
		{"a CmdSetbox", cmdN(impl.CmdSetbox, 15), nil, nil, false},
	} {
		a, b := chars("a", 2), chars("b", 2)
		tall := impl.Natural(c.bare, false)
		between := func(begin, end []impl.Cmd) []impl.Cmd { return then(begin, cmds(c.cmd), end) }
		if packed := packedRow(a, c.row, b); len(packed) > 0 {
			buildCase{what: c.what + " in a box", cmds: between(cmds(cmdNums(impl.CmdHbox, 0, 0), typed("a", 2)[0]), then(typed("b", 2), cmds(cmd(impl.CmdEnd)))), want: packed}.check(t)
		}
		buildCase{what: c.what + " in a note", cmds: inNote(0, c.cmd), want: noteNode(0, max(tall.Height+tall.Depth, 0), c.bare)}.check(t)
		buildCase{what: c.what + " in a stack", cmds: cmds(c.cmd), want: c.bare}.check(t)
		cs := between(typed("a", 2), then(typed("b", 2), cmds(plainPar())))
		switch got := checkBuild(t, cs, impl.Book{}); {
		case c.ends:
			buildCase{what: c.what + " ends a paragraph", cmds: cs, want: listed(lastLine(a), c.bare, noGap(), lastLine(b))}.check(t)
		case len(c.row) == 1 && (c.row[0].Kind == impl.NodeMark || c.row[0].Kind == impl.NodeWrite):
			buildCase{what: c.what + " in a paragraph", cmds: cs, want: listed(lastLine(a, b), c.row)}.check(t)
		case len(got.Notes) == 0:
			row := packedPlainly(c.row, false, 0, 0, 0).Nodes
			buildCase{what: c.what + " in a paragraph", cmds: cs, want: lastLine(a, row[min(1, len(row)):], b)}.check(t)
		}
	}
}

func TestBoxes(t *testing.T) {
	a, ab := chars("a", 2), chars("ab", 2)
	wide, tall := int64(7*65530), int64(5*65530)
	rule := cmdNums(impl.CmdRule, 10, 20, 30)
	fil := cmdGlue(impl.CmdHskip, glue(0, 1, 1, 0, 0))
	checkBuilds(t,
		buildCase{what: "none", cmds: inHbox(), want: hboxNode(0, 0, 0, 0)},
		buildCase{what: "no stack", cmds: inVbox(), want: vboxNode(0, 0, 0, 0)},
		buildCase{what: "a row", cmds: inHbox(typed("ab", 2)...), want: hboxNode(15*65530, 6*65530, 0, 0, ab)},
		buildCase{what: "a row so long", cmds: boxed(cmdNums(impl.CmdHbox, 1, 999999), then(typed("a", 2), cmds(fil))...), want: hboxNode(999999, tall, 0, 0, a, setGlueNode(fil.Glue, 999999-wide))},
		buildCase{what: "a row so much longer", cmds: boxed(cmdNums(impl.CmdHbox, 2, 99), then(typed("a", 2), cmds(fil))...), want: hboxNode(wide+99, tall, 0, 0, a, setGlueNode(fil.Glue, 99))},
		buildCase{what: "a row of length 0", cmds: boxed(cmdNums(impl.CmdHbox, 1, 0), typed("a", 2)...), want: hboxNode(0, tall, 0, 0, a)},
		buildCase{what: "a row shorter by some", cmds: boxed(cmdNums(impl.CmdHbox, 2, -wide-7), typed("a", 2)...), want: hboxNode(-7, tall, 0, 0, a)},
		buildCase{what: "a row as long as can be", cmds: boxed(cmdNums(impl.CmdHbox, 1, -impl.MaxLen)), want: hboxNode(-impl.MaxLen, 0, 0, 0)},
		buildCase{what: "a stack", cmds: inVbox(rule, kernCmd(5), rule), want: vboxNode(10, 75, 30, 0, ruleNode(10, 20, 30), kernNode(5), ruleNode(10, 20, 30))},
		buildCase{what: "a stack so tall", cmds: boxed(cmdNums(impl.CmdVbox, 1, 7), rule), want: vboxNode(10, 7, 30, 0, ruleNode(10, 20, 30))},
		buildCase{what: "a stack so much taller", cmds: boxed(cmdNums(impl.CmdVbox, 2, 7), rule), want: vboxNode(10, 27, 30, 0, ruleNode(10, 20, 30))},
		buildCase{what: "a stack as deep as can be", cmds: inVbox(cmdNums(impl.CmdRule, 1, 2, impl.MaxLen)), want: vboxNode(1, 2, impl.MaxLen, 0, ruleNode(1, 2, impl.MaxLen))},
		buildCase{what: "boxes in boxes", cmds: inHbox(then(inVbox(inHbox(typed("a", 2)...)...), typed("b", 2))...), want: hboxNode(15*65530, 6*65530, 0, 0, vboxNode(wide, tall, 0, 0, hboxNode(wide, tall, 0, 0, a)), chars("b", 2))},
		buildCase{what: "a box in a paragraph", cmds: then(typed("a", 2), inHbox(typed("b", 2)...), cmds(plainPar())), want: lastLine(a, packedRow(chars("b", 2)))},
		buildCase{what: "a box ahead of a paragraph", cmds: then(inHbox(typed("b", 2)...), typed("a", 2), cmds(plainPar())), want: listed(packedRow(chars("b", 2)), noGap(), lastLine(a))},
		buildCase{what: "open at the end", cmds: then(cmds(cmdNums(impl.CmdHbox, 0, 0), cmdNums(impl.CmdVbox, 0, 0), cmdNums(impl.CmdHbox, 0, 0)), typed("a", 2)), want: hboxNode(wide, tall, 0, 0, vboxNode(wide, tall, 0, 0, hboxNode(wide, tall, 0, 0, a)))},
		buildCase{what: "open at the end, with a paragraph", cmds: then(cmds(plainPar(), cmdN(impl.CmdNote, 2), cmdNums(impl.CmdVbox, 0, 0)), typed("a", 2)), want: noteNode(2, tall, vboxNode(lineWidth, tall, 0, 0, lastLine(a)))},
		buildCase{what: "too wide", cmds: inHbox(kernCmd(impl.MaxLen), kernCmd(1)), notes: []string{"box dropped"}},
		buildCase{what: "as wide as can be", cmds: inHbox(kernCmd(impl.MaxLen-1), kernCmd(1)), want: hboxNode(impl.MaxLen, 0, 0, 0, kernNode(impl.MaxLen-1), kernNode(1))},
		buildCase{what: "too tall", cmds: inVbox(kernCmd(impl.MaxLen), kernCmd(1)), notes: []string{"box dropped"}},
		buildCase{what: "wider than can be", cmds: boxed(cmdNums(impl.CmdHbox, 2, impl.MaxLen), kernCmd(1)), notes: []string{"box dropped"}},
		buildCase{what: "one dropped in another", cmds: inHbox(then(typed("a", 2), inHbox(kernCmd(-impl.MaxLen), kernCmd(-1)), typed("b", 2))...), want: hboxNode(15*65530, 6*65530, 0, 0, ab), notes: []string{"box dropped"}},
		buildCase{what: "a stray end", cmds: cmds(cmd(impl.CmdEnd)), notes: []string{"stray end"}},
		buildCase{what: "stray ends", cmds: then(cmds(cmd(impl.CmdEnd)), inHbox(), cmds(cmd(impl.CmdEnd), cmd(impl.CmdEnd))), want: hboxNode(0, 0, 0, 0), notes: []string{"stray end", "stray end", "stray end"}},
	)
}

func TestBoxesInOneAnother(t *testing.T) {
	in := func(deep int, first impl.Cmd) []impl.Cmd {
		return then(slices.Repeat(cmds(first), deep), slices.Repeat(cmds(cmd(impl.CmdEnd)), deep), cmds(kernCmd(3)))
	}
	for deep, dropped := range map[int]bool{1: false, 40: false, 41: false, 42: true} {
		for _, kind := range []int64{impl.CmdHbox, impl.CmdVbox} {
			got := checkBuild(t, in(deep, cmdNums(kind, 0, 0)), impl.Book{})
			if dropped != same(got.Notes, []string{"box dropped"}) || dropped != same(got.Nodes, kernNode(3)) || !dropped && len(got.Nodes) != deep+1 {
				t.Errorf("%d boxes: %s", deep, shownBuilt(got))
			}
		}
		got := checkBuild(t, in(deep, cmdN(impl.CmdNote, 0)), impl.Book{})
		if len(got.Notes) > 0 || dropped != same(got.Nodes, kernNode(3)) || !dropped && len(got.Nodes) != deep+1 {
			t.Errorf("%d notes: %s", deep, shownBuilt(got))
		}
	}
	if got := checkBuild(t, in(9999, cmdNums(impl.CmdHbox, 0, 0)), impl.Book{}); len(got.Notes) != 9999/42 {
		t.Errorf("%d notes", len(got.Notes))
	}
	if got := checkBuild(t, in(9999, cmdN(impl.CmdNote, 0)), impl.Book{}); len(got.Notes) != 0 || len(got.Nodes) != 9999%42+1 {
		t.Error(shownBuilt(got))
	}
}

func setboxCmd(n int64) impl.Cmd { return cmdN(impl.CmdSetbox, n) }
func boxCmd(n int64) impl.Cmd    { return cmdN(impl.CmdBox, n) }

func TestBoxesWithNumbers(t *testing.T) {
	a := packedRow(chars("a", 2))
	v := vboxNode(7*65530, 5*65530, 0, 0, a)
	set := func(n int64) []impl.Cmd { return then(cmds(setboxCmd(n)), inHbox(typed("a", 2)...)) }
	checkBuilds(t,
		buildCase{what: "never put", cmds: set(3)},
		buildCase{what: "put", cmds: then(set(3), cmds(kernCmd(1), boxCmd(3), kernCmd(2))), want: listed(kernNode(1), a, kernNode(2))},
		buildCase{what: "put twice", cmds: then(set(3), cmds(boxCmd(3), kernCmd(1), boxCmd(3))), want: listed(a, kernNode(1))},
		buildCase{what: "another one", cmds: then(set(3), cmds(boxCmd(4))), want: nil},
		buildCase{what: "the first and the last number", cmds: then(set(0), cmds(setboxCmd(15)), inHbox(), cmds(boxCmd(15), boxCmd(0))), want: listed(hboxNode(0, 0, 0, 0), a)},
		buildCase{what: "set twice", cmds: then(set(3), cmds(setboxCmd(3)), inHbox(), cmds(boxCmd(3), boxCmd(3))), want: hboxNode(0, 0, 0, 0)},
		buildCase{what: "set twice ahead of a box", cmds: then(cmds(setboxCmd(4)), set(3), cmds(boxCmd(4), kernCmd(1), boxCmd(3))), want: listed(kernNode(1), a)},
		buildCase{what: "put, and set again", cmds: then(set(3), cmds(boxCmd(3)), set(3), cmds(kernCmd(1), boxCmd(3))), want: listed(a, kernNode(1), a)},
		buildCase{what: "an empty one", cmds: then(cmds(setboxCmd(1)), inVbox(), cmds(boxCmd(1))), want: vboxNode(0, 0, 0, 0)},
		buildCase{what: "a stack", cmds: then(cmds(setboxCmd(1)), inVbox(inHbox(typed("a", 2)...)...), cmds(boxCmd(1))), want: v},
		buildCase{what: "set in a box, put outside", cmds: then(inHbox(set(1)...), cmds(boxCmd(1))), want: listed(hboxNode(0, 0, 0, 0), a)},
		buildCase{what: "set outside, put in a note", cmds: then(set(1), inNote(2, boxCmd(1)), cmds(boxCmd(1))), want: noteNode(2, 5*65530, a)},
		buildCase{what: "a stack put in a row", cmds: then(cmds(setboxCmd(1)), inVbox(inHbox(typed("a", 2)...)...), inHbox(boxCmd(1))), want: hboxNode(7*65530, 5*65530, 0, 0, v)},
		buildCase{what: "put in a paragraph", cmds: then(set(1), typed("b", 2), cmds(boxCmd(1), plainPar())), want: lastLine(chars("b", 2), a)},
		buildCase{what: "a stack put in a paragraph", cmds: then(cmds(setboxCmd(1)), inVbox(inHbox(typed("a", 2)...)...), typed("b", 2), cmds(boxCmd(1), plainPar())), want: lastLine(chars("b", 2), v)},
		buildCase{what: "a stack set in a paragraph", cmds: then(typed("b", 2), cmds(setboxCmd(1)), inVbox(inHbox(typed("a", 2)...)...), typed("b", 2), cmds(boxCmd(1), plainPar())), want: lastLine(chars("bb", 2), v)},
		buildCase{what: "one that is dropped leaves the one ahead", cmds: then(set(1), cmds(setboxCmd(1)), inHbox(kernCmd(impl.MaxLen), kernCmd(1)), cmds(boxCmd(1))), want: a, notes: []string{"box dropped"}},
		buildCase{what: "open at the end", cmds: then(cmds(setboxCmd(1), cmdNums(impl.CmdHbox, 0, 0)), typed("a", 2)), want: nil},
	)
}

// A CmdSetbox counts for the box that begins next, unless a place begins or ends between.
func TestWhatComesBehindASetbox(t *testing.T) {
	a := packedRow(chars("a", 2))
	for what, c := range map[string]struct {
		between []impl.Cmd
		left    nodes
		notes   []string
	}{
		"a box":       {inHbox(), nil, nil},
		"a stack":     {inVbox(), nil, nil},
		"a note":      {inNote(1), noteNode(1, 0), nil},
		"a table":     {inTable(1), nil, []string{"table dropped"}},
		"a stray end": {cmds(cmd(impl.CmdEnd)), nil, []string{"stray end"}},
	} {
		cs := then(cmds(setboxCmd(2)), c.between, inHbox(typed("a", 2)...), cmds(kernCmd(1)))
		buildCase{what: what, cmds: cs, want: listed(c.left, a, kernNode(1)), notes: c.notes}.check(t)
	}
	// The end of the place in which it stands comes between, too.
	buildCase{what: "its place's end", cmds: then(inNote(0, setboxCmd(2)), inHbox(typed("a", 2)...)), want: listed(noteNode(0, 0), a)}.check(t)
	for what, c := range map[string]struct {
		between []impl.Cmd
		left    nodes
	}{
		"a kern":     {cmds(kernCmd(5)), kernNode(5)},
		"a mark":     {cmds(cmdText(impl.CmdMark, "m")), markNode("m")},
		"a CmdPar":   {cmds(plainPar()), nil},
		"a blank":    {typed(" ", 2), nil},
		"a CmdVskip": {cmds(cmdGlue(impl.CmdVskip, glue(1, 2, 0, 0, 0))), glueNode(glue(1, 2, 0, 0, 0))},
		"a CmdBox":   {cmds(boxCmd(7)), nil},
		"a group":    {grouped(), nil},
		"a CmdRow":   {cmds(cmd(impl.CmdRow)), nil},
		"letters":    {then(typed("b", 2), cmds(plainPar())), lastLine(chars("b", 2))},
		"a formula":  {then(cmds(cmd(impl.CmdMath)), typed("b", 2), cmds(cmd(impl.CmdMath), plainPar())), lastLine(chars("b", 2))},
	} {
		cs := then(cmds(setboxCmd(2)), c.between, inHbox(typed("a", 2)...), cmds(cmdText(impl.CmdMark, "-"), boxCmd(2)))
		buildCase{what: what, cmds: cs, want: listed(c.left, markNode("-"), a)}.check(t)
	}
}

func TestNotesInPlaces(t *testing.T) {
	a := packedRow(chars("a", 2))
	checkBuilds(t,
		buildCase{what: "the first number", cmds: inNote(0), want: noteNode(0, 0)},
		buildCase{what: "the last number", cmds: inNote(15), want: noteNode(15, 0)},
		buildCase{what: "Height and Depth", cmds: inNote(1, kernCmd(5), cmdNums(impl.CmdRule, 1, 20, 300)), want: noteNode(1, 325, kernNode(5), ruleNode(1, 20, 300))},
		buildCase{what: "glues are not set", cmds: inNote(1, cmdGlue(impl.CmdVskip, glue(5, 6, 0, 7, 0))), want: noteNode(1, 5, glueNode(glue(5, 6, 0, 7, 0)))},
		buildCase{what: "below 0", cmds: inNote(1, kernCmd(-5)), want: noteNode(1, 0, kernNode(-5))},
		buildCase{what: "as tall as can be", cmds: inNote(1, kernCmd(impl.MaxLen)), want: noteNode(1, impl.MaxLen, kernNode(impl.MaxLen))},
		buildCase{what: "taller", cmds: inNote(1, kernCmd(impl.MaxLen), cmdNums(impl.CmdRule, 1, 0, 1)), want: noteNode(1, impl.MaxLen, kernNode(impl.MaxLen), ruleNode(1, 0, 1))},
		buildCase{what: "of which VPack makes nothing", cmds: inNote(1, kernCmd(impl.MaxLen), kernCmd(1)), want: noteNode(1, 0, kernNode(impl.MaxLen), kernNode(1))},
		buildCase{what: "in a row", cmds: inHbox(then(typed("a", 2), inNote(2, inHbox(typed("a", 2)...)...))...), want: hboxNode(7*65530, 5*65530, 0, 0, chars("a", 2), noteNode(2, 5*65530, a))},
		buildCase{what: "in a paragraph", cmds: then(typed("a", 2), inNote(2, typed("a", 2)...), typed("b", 2), cmds(plainPar())), want: listed(lastLine(chars("ab", 2)), noteNode(2, 5*65530, lastLine(chars("a", 2))))},
		buildCase{what: "in a stack", cmds: inVbox(inNote(2, typed("a", 2)...)...), want: vboxNode(0, 0, 0, 0, noteNode(2, 5*65530, hboxNode(0, 5*65530, 0, 0, noGap(), chars("a", 2), penaltyNode(10000), noGap(), noGap())))},
		buildCase{what: "in a note", cmds: inNote(2, inNote(3, kernCmd(7))...), want: noteNode(2, 0, noteNode(3, 7, kernNode(7)))},
		buildCase{what: "open at the end", cmds: cmds(cmdN(impl.CmdNote, 4), kernCmd(7)), want: noteNode(4, 7, kernNode(7))},
	)
}

// Between two boxes comes what is left of the base, at least 0, unless a skip, a kern or a rule stands between them.
func TestTheGlueBetweenBoxes(t *testing.T) {
	base := glue(100, 5, 1, 6, 2)
	par := func(g impl.Glue) impl.Cmd {
		return parCmd(lineWidth, func(c *impl.Cmd) { c.Glues[0], c.Glues[1] = g, glue(1, 2, 0, 3, 0) })
	}
	rule := func(height, depth int64) []impl.Cmd { return inHbox(cmdNums(impl.CmdRule, 1, height, depth)) }
	box := func(height, depth int64) nodes {
		return hboxNode(1, max(height, 0), max(depth, 0), 0, ruleNode(1, height, depth))
	}
	sized := func(size int64) nodes {
		g := base
		g.Size = size
		return glueNode(g)
	}
	for _, c := range []struct {
		depth, height, size int64
	}{
		{0, 0, 100}, {10, 20, 70}, {40, 60, 0}, {40, 61, 0}, {40, 59, 1}, {41, 60, 0}, {1000, 0, 0}, {0, 1000, 0}, {-50, -50, 100}, {impl.MaxLen, impl.MaxLen, 0},
	} {
		cs := then(rule(7, c.depth), rule(c.height, 3), cmds(par(base)))
		buildCase{what: "two boxes", cmds: cs, want: listed(box(7, c.depth), sized(c.size), box(c.height, 3))}.check(t)
	}
	two := func(between ...impl.Cmd) []impl.Cmd { return then(rule(7, 10), between, rule(20, 3), cmds(par(base))) }
	glued := listed(sized(70), box(20, 3))
	for what, c := range map[string]struct {
		between []impl.Cmd
		want    nodes
	}{
		"a CmdVskip":              {cmds(cmdGlue(impl.CmdVskip, glue(5, 0, 0, 0, 0))), listed(glueNode(glue(5, 0, 0, 0, 0)), box(20, 3))},
		"a CmdVskip of nothing":   {cmds(cmdGlue(impl.CmdVskip, impl.Glue{})), listed(noGap(), box(20, 3))},
		"a CmdKern":               {cmds(kernCmd(5)), listed(kernNode(5), box(20, 3))},
		"a CmdRule":               {cmds(cmdNums(impl.CmdRule, 1, 2, 3)), listed(ruleNode(1, 2, 3), box(20, 3))},
		"a CmdPenalty":            {cmds(cmdN(impl.CmdPenalty, 5)), listed(penaltyNode(5), glued)},
		"a CmdShipout":            {cmds(cmd(impl.CmdShipout)), listed(penaltyNode(-10000), glued)},
		"a CmdMark":               {cmds(cmdText(impl.CmdMark, "m")), listed(markNode("m"), glued)},
		"a CmdNote":               {inNote(1, kernCmd(5)), listed(noteNode(1, 5, kernNode(5)), glued)},
		"a box with a number":     {then(cmds(setboxCmd(1)), inHbox(kernCmd(5))), glued},
		"a CmdBox of none":        {cmds(boxCmd(1)), glued},
		"a box that is dropped":   {inVbox(kernCmd(impl.MaxLen), kernCmd(1)), glued},
		"a blank":                 {typed(" ", 2), glued},
		"a CmdPar of no row":      {cmds(par(base)), glued},
		"a table that is dropped": {inTable(1), glued},
	} {
		got := checkBuild(t, two(c.between...), impl.Book{})
		if want := listed(box(7, 10), c.want); !same(got.Nodes, want) {
			t.Errorf("%s between: %s, not %s", what, shownNodes(got.Nodes), shownNodes(want))
		}
	}
	checkBuilds(t,
		buildCase{what: "in another stack", cmds: then(rule(7, 10), inVbox(then(rule(5, 5), rule(20, 3))...), cmds(par(base))),
			want: listed(box(7, 10), sized(0), vboxNode(1, 105, 3, 0, box(5, 5), setGlueNode(sized(75)[0].Glue, 75), box(20, 3)))},
		buildCase{what: "a Size of 0", cmds: then(rule(7, 10), rule(20, 3), cmds(par(glue(0, 5, 1, 6, 2)))), want: listed(box(7, 10), box(20, 3))},
		buildCase{what: "a Size below 0", cmds: then(rule(7, 10), rule(20, 3), cmds(par(glue(-5, 5, 1, 6, 2)))), want: listed(box(7, 10), sized(0), box(20, 3))},
		buildCase{what: "no settings", cmds: then(rule(7, 10), rule(20, 3)), want: listed(box(7, 10), box(20, 3))},
		buildCase{what: "a box with a number", cmds: then(cmds(setboxCmd(1)), rule(20, 3), rule(7, 10), cmds(boxCmd(1), par(base))), want: listed(box(7, 10), glued)},
	)
}

// The glue ahead of a line is that of the paragraph's settings, behind the gap; a kern within the paragraph does not count.
func TestTheGlueBetweenLines(t *testing.T) {
	base, gap := glue(20*point, 5, 1, 6, 2), glue(3, 4, 0, 5, 0)
	par := parCmd(lineWidth, func(c *impl.Cmd) { c.Glues[0], c.Glues[1], c.Nums[8] = base, gap, 77 })
	sized := func(depth, height int64) nodes {
		g := base
		g.Size -= depth + height
		return glueNode(g)
	}
	u := int64(65530)
	brk := cmdN(impl.CmdPenalty, -10000)
	mid := packedPlainly(listed(noGap(), chars("p", 2), noGap()), false, 1, lineWidth, 0).Nodes
	checkBuilds(t,
		buildCase{what: "two lines", cmds: then(typed("p", 2), cmds(brk), typed("b", 2), cmds(par)), want: listed(mid, penaltyNode(77), sized(2*u, 6*u), lastLine(chars("b", 2)))},
		buildCase{what: "two paragraphs", cmds: then(typed("p", 2), cmds(par), typed("b", 2), cmds(par)), want: listed(lastLine(chars("p", 2)), glueNode(gap), sized(2*u, 6*u), lastLine(chars("b", 2)))},
		buildCase{what: "a kern in the second", cmds: then(typed("p", 2), cmds(par), typed("b", 2), cmds(kernCmd(9), par)), want: listed(lastLine(chars("p", 2)), glueNode(gap), sized(2*u, 6*u), lastLine(chars("b", 2), kernNode(9)))},
		buildCase{what: "a kern between", cmds: then(typed("p", 2), cmds(par, kernCmd(9)), typed("b", 2), cmds(par)), want: listed(lastLine(chars("p", 2)), kernNode(9), glueNode(gap), lastLine(chars("b", 2)))},
		buildCase{what: "a mark ahead of the first", cmds: then(cmds(cmdText(impl.CmdMark, "m")), typed("p", 2), cmds(par)), want: listed(markNode("m"), glueNode(gap), lastLine(chars("p", 2)))},
		buildCase{what: "a box ahead", cmds: then(inHbox(typed("p", 2)...), typed("b", 2), cmds(par)), want: listed(packedRow(chars("p", 2)), glueNode(gap), sized(2*u, 6*u), lastLine(chars("b", 2)))},
		buildCase{what: "a box behind", cmds: then(typed("p", 2), cmds(par), inHbox(typed("b", 2)...), cmds(par)), want: listed(lastLine(chars("p", 2)), sized(2*u, 6*u), packedRow(chars("b", 2)))},
	)
}

// A glue of boxes that can't be makes the stack none.
func TestTheGlueBetweenBoxesThatIsNone(t *testing.T) {
	deep := inVbox(cmdNums(impl.CmdRule, 1, 2, -impl.MaxLen))
	par := func(size int64) impl.Cmd {
		return parCmd(lineWidth, func(c *impl.Cmd) { c.Glues[0], c.Nums[17] = impl.Glue{Size: size}, 9 })
	}
	for size, good := range map[int64]bool{-5: true, 1: false, impl.MaxLen: false} {
		cs := then(cmds(cmd(impl.CmdEnd)), deep, inHbox(), cmds(par(size)))
		got := checkBuild(t, cs, impl.Book{})
		want := impl.Built{Notes: []string{"stray end"}}
		if good {
			want.Nodes, want.Height = listed(deepBox(), glueNode(impl.Glue{Size: size + impl.MaxLen}), hboxNode(0, 0, 0, 0)), 9
		}
		if !same(got, want) {
			t.Errorf("%d: %s", size, shownBuilt(got))
		}
		// In a box it drops the box; in a note the note.
		buildCase{what: "in a box", cmds: then(inVbox(then(deep, inHbox())...), cmds(kernCmd(1), par(1))), want: kernNode(1), notes: []string{"box dropped"}}.check(t)
		buildCase{what: "in a note", cmds: then(inNote(1, then(deep, inHbox())...), cmds(kernCmd(1), par(1))), want: kernNode(1)}.check(t)
	}
}

// deepBox is a stack whose depth is as far below 0 as can be.
func deepBox() nodes {
	return vboxNode(1, 2, -impl.MaxLen, 0, ruleNode(1, 2, -impl.MaxLen))
}
