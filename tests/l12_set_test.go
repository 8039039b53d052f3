package tests

import (
	"math/rand"
	"slices"
	"testing"

	"loop.example/g00014/impl"
)

// setRule is what wideCell holds.
func setRule(width int64) nodes { return ruleNode(width, 1, 0) }

func TestTableRowsKnown(t *testing.T) {
	c := func(span, align, width int64) impl.Cell { return cellOf(span, align, ruleNode(width, 1, 0)) }
	const left, mid, right = impl.AlignLeft, impl.AlignMid, impl.AlignRight
	gap := glue(10, 4, 0, 3, 1)
	between := setGlueNode(gap, 10)
	for _, k := range []struct {
		what   string
		row    impl.Row
		widths []int64
		want   nodes
	}{
		{"left, as wide", cellsRow(c(1, left, 20)), []int64{20}, hboxNode(20, 1, 0, 0, hboxNode(20, 1, 0, 0, setRule(20), fil(0)))},
		{"mid, as wide", cellsRow(c(1, mid, 20)), []int64{20}, hboxNode(20, 1, 0, 0, hboxNode(20, 1, 0, 0, fil(0), setRule(20), fil(0)))},
		{"right, as wide", cellsRow(c(1, right, 20)), []int64{20}, hboxNode(20, 1, 0, 0, hboxNode(20, 1, 0, 0, fil(0), setRule(20)))},
		{"left", cellsRow(c(1, left, 20)), []int64{25}, hboxNode(25, 1, 0, 0, hboxNode(25, 1, 0, 0, setRule(20), fil(5)))},
		{"mid", cellsRow(c(1, mid, 20)), []int64{24}, hboxNode(24, 1, 0, 0, hboxNode(24, 1, 0, 0, fil(2), setRule(20), fil(2)))},
		{"mid, an odd rest", cellsRow(c(1, mid, 20)), []int64{25}, hboxNode(25, 1, 0, 0, hboxNode(25, 1, 0, 0, fil(3), setRule(20), fil(2)))},
		{"right", cellsRow(c(1, right, 20)), []int64{25}, hboxNode(25, 1, 0, 0, hboxNode(25, 1, 0, 0, fil(5), setRule(20)))},
		{"empty", cellsRow(cellOf(1, mid)), []int64{8}, hboxNode(8, 0, 0, 0, hboxNode(8, 0, 0, 0, fil(4), fil(4)))},
		{"too narrow", cellsRow(c(1, mid, 20)), []int64{15}, hboxNode(15, 1, 0, 0, hboxNode(15, 1, 0, 0, fil(0), setRule(20), fil(0)))},
		{"two cells", cellsRow(c(1, left, 20), c(1, right, 30)), []int64{21, 32}, hboxNode(63, 1, 0, 0,
			hboxNode(21, 1, 0, 0, setRule(20), fil(1)), between, hboxNode(32, 1, 0, 0, fil(2), setRule(30)))},
		{"two columns", cellsRow(c(2, right, 30)), []int64{21, 32}, hboxNode(63, 1, 0, 0, hboxNode(63, 1, 0, 0, fil(33), setRule(30)))},
		{"not all are covered", cellsRow(c(1, left, 20)), []int64{21, 32, 7}, hboxNode(80, 1, 0, 0,
			hboxNode(21, 1, 0, 0, setRule(20), fil(1)), between, kernNode(32), between, kernNode(7))},
		{"of two columns, not all are covered", cellsRow(c(2, left, 20)), []int64{21, 32, 7}, hboxNode(80, 1, 0, 0,
			hboxNode(63, 1, 0, 0, setRule(20), fil(43)), between, kernNode(7))},
		{"none is covered", cellsRow(), []int64{21, 32, 0}, hboxNode(73, 0, 0, 0, kernNode(21), between, kernNode(32), between, kernNode(0))},
		{"one column, none is covered", cellsRow(), []int64{9}, hboxNode(9, 0, 0, 0, kernNode(9))},
		{"a line", lineRow(6), []int64{21, 32, 7}, hboxNode(80, 6, 0, 0, ruleNode(80, 6, 0))},
		{"a line of one column", lineRow(6), []int64{21}, hboxNode(21, 6, 0, 0, ruleNode(21, 6, 0))},
		{"a line as wide as its gap", lineRow(6), []int64{0, 0}, hboxNode(10, 6, 0, 0, ruleNode(10, 6, 0))},
		{"chars, high and deep", cellsRow(cellOf(1, left, charNode('g', 9, 7, 3)), cellOf(1, left, hboxNode(4, 2, 8, 1))), []int64{9, 4}, hboxNode(23, 7, 9, 0,
			hboxNode(9, 7, 3, 0, charNode('g', 9, 7, 3), fil(0)), between, hboxNode(4, 1, 9, 0, hboxNode(4, 2, 8, 1), fil(0)))},
	} {
		x := tableOf(int64(len(k.widths)), gap, cellsRow(), k.row, lineRow(1))
		if got := checkSetRow(t, x, 1, k.widths); !same(got, k.want) {
			t.Errorf("%s: %+v, not %+v", k.what, got, k.want)
		}
	}
}

// A gap of a row is as long as its Size, whatever it could give.
func TestGapsAreSetToTheirSize(t *testing.T) {
	for _, g := range []impl.Glue{{}, {Size: 10}, {Size: -10}, glue(10, 50, 0, 0, 0), glue(10, 50, 3, 40, 2), glue(-10, 1, 1, 1, 1), glue(0, -5, 2, -6, 0)} {
		x := tableOf(3, g, cellsRow(wideCell(1, 20), wideCell(1, 30)))
		want := hboxNode(90+2*g.Size, 1, 0, 0, hboxNode(20, 1, 0, 0, setRule(20), fil(0)), setGlueNode(g, g.Size),
			hboxNode(30, 1, 0, 0, setRule(30), fil(0)), setGlueNode(g, g.Size), kernNode(40))
		if got := checkSetRow(t, x, 0, []int64{20, 30, 40}); !same(got, want) {
			t.Errorf("%v: %+v, not %+v", g, got, want)
		}
		x.Rows[0] = cellsRow(cellOf(3, impl.AlignRight, setRule(20)))
		want = hboxNode(90+2*g.Size, 1, 0, 0, hboxNode(90+2*g.Size, 1, 0, 0, fil(70+2*g.Size), setRule(20)))
		if got := checkSetRow(t, x, 0, []int64{20, 30, 40}); !same(got, want) {
			t.Errorf("%v: %+v, not %+v", g, got, want)
		}
	}
}

// Glues of a cell give as HPack says: those of order 1 share with the one that aligns, those of a higher order take all, those that shrink do so in a narrow one.
func TestGluesInCells(t *testing.T) {
	setIn := func(g impl.Glue, width int64) (inner, filler int64) {
		x := tableOf(1, impl.Glue{}, cellsRow(cellOf(1, impl.AlignLeft, setRule(20), setGlueNode(g, 77), setRule(20))))
		row := checkSetRow(t, x, 0, []int64{width})
		return row[3].Width, row[5].Width
	}
	for _, k := range []struct {
		g                    impl.Glue
		width, inner, filler int64
	}{
		{glue(10, 30, 0, 5, 0), 80, 10, 30},
		{glue(10, impl.Point, 1, 5, 0), 80, 25, 15},
		{glue(10, 1, 2, 5, 0), 80, 40, 0},
		{glue(10, 30, 0, 5, 0), 50, 10, 0},
		{glue(10, 30, 0, 5, 0), 48, 8, 0},
		{glue(10, 30, 0, 5, 0), 40, 5, 0},
		{glue(10, 30, 0, 5, 1), 40, 0, 0},
	} {
		if inner, filler := setIn(k.g, k.width); inner != k.inner || filler != k.filler {
			t.Errorf("%v in %d: %d and %d, not %d and %d", k.g, k.width, inner, filler, k.inner, k.filler)
		}
	}
}

func TestRowsThatAreNot(t *testing.T) {
	x := mixedTable()
	widths := impl.Widths(x)
	for row := range int64(5) {
		if got := checkSetRow(t, x, row, widths); len(got) == 0 {
			t.Error("row", row)
		}
	}
	for _, row := range append([]int64{-1, 5, 6, -5, 1 << 32, 1<<32 + 1}, corners...) {
		if got := checkSetRow(t, x, row, widths); !between(0, row, 4) && len(got) > 0 {
			t.Error("row", row)
		}
	}
	for _, row := range []int64{0, -1, 1} {
		if got := checkSetRow(t, tableOf(1, impl.Glue{}), row, []int64{1}); len(got) > 0 {
			t.Error("a row of none")
		}
	}
}

// rowsOfEachSort are a row of two cells, one of a cell of two columns, one of which only one column is covered, one without cells, and a line.
func rowsOfEachSort() []impl.Row {
	return []impl.Row{cellsRow(wideCell(1, 5), wideCell(1, 6)), cellsRow(wideCell(2, 5)), cellsRow(wideCell(1, 5)), cellsRow(), lineRow(3)}
}

func TestWidthsThatAreNot(t *testing.T) {
	const m = impl.MaxLen
	x := tableOf(2, impl.Glue{}, rowsOfEachSort()...)
	for row := range int64(5) {
		for _, w := range append([]int64{-1, 0, 1, m - 1, m, m + 1}, corners...) {
			for _, widths := range [][]int64{{w, 0}, {0, w}} {
				got := checkSetRow(t, x, row, widths)
				if can := between(0, w, m); can != (len(got) > 0) || can && got[0].Width != w {
					t.Errorf("row %d of %v: %+v", row, widths, got)
				}
			}
		}
		for _, widths := range [][]int64{nil, {}, {1}, {1, 2, 3}, {1, 2, 0}, make([]int64, 20), make([]int64, 1000)} {
			if got := checkSetRow(t, x, row, widths); len(got) > 0 {
				t.Error(row, widths)
			}
		}
	}
}

func TestTableRowsThatJustFit(t *testing.T) {
	const m = impl.MaxLen
	for _, k := range []struct {
		what      string
		gap       int64
		row       impl.Row
		fit, past []int64 // widths that fit, and those that do not by one
	}{
		{"two cells", 5, cellsRow(wideCell(1, 5), wideCell(1, 5)), []int64{m - 10, 5}, []int64{m - 10, 6}},
		{"a cell and a kern", 5, cellsRow(wideCell(1, 5)), []int64{m - 10, 5}, []int64{m - 10, 6}},
		{"kerns", 5, cellsRow(), []int64{m - 10, 5}, []int64{m - 10, 6}},
		{"a line", 5, lineRow(1), []int64{m - 10, 5}, []int64{m - 10, 6}},
		{"two columns", 5, cellsRow(wideCell(2, 5)), []int64{m - 10, 5}, []int64{m - 10, 6}},
		{"two columns of three", -m, cellsRow(wideCell(2, 5)), []int64{m, m, 0}, []int64{m, m, 1}},
		{"two columns together", 5, cellsRow(wideCell(1, 5), wideCell(2, 5)), []int64{0, m - 15, 5}, []int64{0, m - 15, 6}},
		{"two cells without their gap", -m, cellsRow(wideCell(1, 5), wideCell(1, 5)), []int64{m - 5, 5}, []int64{m - 5, 6}},
		{"kerns without their gap", -m, cellsRow(), []int64{m - 5, 5}, []int64{m - 5, 6}},
		{"a line below 0", -m, lineRow(1), []int64{m, 0, 0}, []int64{m - 1, 0, 0}},
		{"three columns below 0", -m, cellsRow(wideCell(3, 5)), []int64{m, 0, 0}, []int64{m - 1, 0, 0}},
		{"kerns below 0", -m, cellsRow(), []int64{m, 0, 0}, []int64{m - 1, 0, 0}},
	} {
		x := tableOf(int64(len(k.fit)), impl.Glue{Size: k.gap}, k.row)
		if got := checkSetRow(t, x, 0, k.fit); len(got) == 0 || got[0].Width != joined(k.fit, k.gap) {
			t.Errorf("%s, that fit: %+v", k.what, got)
		}
		if got := checkSetRow(t, x, 0, k.past); len(got) > 0 {
			t.Errorf("%s, that do not: %+v", k.what, got)
		}
	}
	// A line is as wide as it is, whatever the columns are without their gaps.
	if got := checkSetRow(t, tableOf(2, impl.Glue{Size: -m}, lineRow(1)), 0, []int64{m, m}); len(got) == 0 || got[0].Width != m {
		t.Error(got)
	}
}

// A cell of which HPack makes a box may be too great for the glues that align it, or for the row.
func TestCellsThatCannotBeSet(t *testing.T) {
	t.Parallel()
	const most = impl.MaxNodes
	boxesIn := func(n int) nodes { return nest(n, nil, impl.NodeHbox) }
	glues := func(n int) nodes { return slices.Repeat(glueNode(impl.Glue{}), n) }
	for _, k := range []struct {
		what      string
		align     int64
		fit, past nodes
	}{
		{"nodes, left", impl.AlignLeft, manyNodes(most - 3), manyNodes(most - 2)},
		{"nodes, right", impl.AlignRight, manyNodes(most - 3), manyNodes(most - 2)},
		{"nodes, mid", impl.AlignMid, manyNodes(most - 4), manyNodes(most - 3)},
		{"boxes", impl.AlignLeft, boxesIn(39), boxesIn(40)},
		{"glues, left", impl.AlignLeft, glues(impl.MaxGlue - 1), glues(impl.MaxGlue)},
		{"glues, right", impl.AlignRight, glues(impl.MaxGlue - 1), glues(impl.MaxGlue)},
		{"glues, mid", impl.AlignMid, glues(impl.MaxGlue - 2), glues(impl.MaxGlue - 1)},
	} {
		x := tableOf(1, impl.Glue{}, cellsRow(), cellsRow(cellOf(1, k.align, k.fit)))
		width := impl.Widths(x)
		if got := checkSetRow(t, x, 1, width); !checkTable(t, x) || len(got) == 0 {
			t.Error(k.what, "that fit")
		}
		x.Rows[1].Cells[0].Nodes = k.past
		width = impl.Widths(x)
		if got := checkSetRow(t, x, 1, width); !checkTable(t, x) || len(got) > 0 || len(impl.SetTable(x)) > 0 {
			t.Error(k.what, "that do not")
		}
		if got := checkSetRow(t, x, 0, width); len(got) == 0 {
			t.Error("the row beside it", k.what)
		}
	}
}

// The nodes of a table are its rows': a list of no more than MaxNodes.
func TestTheMostNodesOfATable(t *testing.T) {
	t.Parallel()
	rows := slices.Repeat([]impl.Row{cellsRow(cellOf(1, impl.AlignLeft, manyNodes(97)))}, 200)
	x := tableOf(1, impl.Glue{}, rows...) // a row is 97 nodes, a glue, and two boxes
	if got := impl.SetTable(x); !checkTable(t, x) || len(got) != impl.MaxNodes || !impl.ListOk(got) {
		t.Error("MaxNodes nodes")
	}
	x.Rows[77] = cellsRow(cellOf(1, impl.AlignLeft, manyNodes(98)))
	if !checkTable(t, x) || len(impl.SetTable(x)) > 0 || len(impl.Widths(x)) == 0 {
		t.Error("one more")
	}
	if got := checkSetRow(t, x, 77, impl.Widths(x)); len(got) != 101 {
		t.Error("the row alone")
	}
	x = tableOf(20, impl.Glue{}, cellsRow(slices.Repeat([]impl.Cell{cellOf(1, impl.AlignLeft, manyNodes(1900))}, 20)...))
	if !checkTable(t, x) || len(checkSetRow(t, x, 0, impl.Widths(x))) > 0 {
		t.Error("a row of too many")
	}
}

func TestTablesKnown(t *testing.T) {
	x := tableOf(2, glue(10, 1, 0, 0, 0), lineRow(2), cellsRow(wideCell(1, 5), cellOf(1, impl.AlignRight, setRule(6))), cellsRow(), lineRow(3), cellsRow(cellOf(2, impl.AlignMid, setRule(25))))
	gap := setGlueNode(x.Gap, 10)
	want := listed(
		hboxNode(25, 2, 0, 0, ruleNode(25, 2, 0)),
		hboxNode(25, 1, 0, 0, hboxNode(5, 1, 0, 0, setRule(5), fil(0)), gap, hboxNode(10, 1, 0, 0, fil(4), setRule(6))),
		hboxNode(25, 0, 0, 0, kernNode(5), gap, kernNode(10)),
		hboxNode(25, 3, 0, 0, ruleNode(25, 3, 0)),
		hboxNode(25, 1, 0, 0, hboxNode(25, 1, 0, 0, fil(0), setRule(25), fil(0))),
	)
	if got := impl.SetTable(x); !checkTable(t, x) || !same(got, want) {
		t.Errorf("%+v", got)
	}
	for _, none := range []impl.Table{tableOf(1, impl.Glue{}), tableOf(20, glue(5, 0, 0, 0, 0))} {
		if got := impl.SetTable(none); !checkTable(t, none) || len(got) > 0 {
			t.Error("no rows")
		}
	}
}

// One row that can't be packed leaves nothing of the table.
func TestTablesOfWhichARowIsNone(t *testing.T) {
	const m = impl.MaxLen
	x := tableOf(2, impl.Glue{Size: -m}, cellsRow(wideCell(1, m), wideCell(1, m)))
	if !checkTable(t, x) || len(impl.SetTable(x)) > 0 || impl.TableWidth(x) != m {
		t.Error("the gap alone makes it fit")
	}
	for _, row := range []int{0, 1, 2} {
		x := tableOf(2, impl.Glue{}, lineRow(1), cellsRow(wideCell(1, 3)), lineRow(1))
		x.Rows[row] = cellsRow(cellOf(2, 0, nest(40, nil, impl.NodeHbox)))
		if !checkTable(t, x) || len(impl.SetTable(x)) > 0 {
			t.Error(row)
		}
	}
	wide := tableOf(2, impl.Glue{}, cellsRow(wideCell(1, m)), cellsRow(wideCell(1, 1), wideCell(1, 1)))
	if !checkTable(t, wide) || len(impl.SetTable(wide)) > 0 || impl.TableWidth(wide) != 0 || len(impl.Widths(wide)) != 2 {
		t.Error("too wide by one")
	}
}

func TestTablesAtRandom(t *testing.T) {
	t.Parallel()
	r := rand.New(rand.NewSource(144))
	set, unset := 0, 0
	for range 3000 {
		some := randomTables(r)
		x := some.table(8, 6)
		if !checkTable(t, x) {
			continue
		}
		if len(impl.SetTable(x)) > 0 {
			set++
		} else {
			unset++
		}
		for row := range int64(len(x.Rows)) {
			checkSetRow(t, x, row, some.widths(x.Columns))
			checkSetRow(t, x, row, impl.Widths(x))
		}
	}
	if set < 1000 || unset < 300 {
		t.Error("too few:", set, unset)
	}
}

// Tables as large as they may be.
func TestLargeTablesAtRandom(t *testing.T) {
	t.Parallel()
	r := rand.New(rand.NewSource(145))
	for range 10 {
		some := tables{lengths{r, impl.Point}}
		x := impl.Table{Columns: 20, Gap: some.gap()}
		for range 200 {
			x.Rows = append(x.Rows, some.row(20))
		}
		checkTable(t, x)
	}
}
