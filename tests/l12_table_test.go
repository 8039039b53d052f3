package tests

import (
	"math"
	"math/rand"
	"reflect"
	"slices"
	"testing"

	"loop.example/g00014/impl"
)

// mixedTable has a row of each sort.
func mixedTable() impl.Table {
	return tableOf(4, glue(3, 2, 0, 1, 0),
		cellsRow(wideCell(1, 10), wideCell(1, 20), wideCell(1, 30), wideCell(1, 40)),
		lineRow(2),
		cellsRow(),
		cellsRow(cellOf(2, impl.AlignMid), cellOf(1, impl.AlignRight, charNode('a', 8, 5, 2))),
		cellsRow(wideCell(4, 90)),
	)
}

// emptyTable fails when a function gives something of a table that can't be.
func emptyTable(t *testing.T, x impl.Table, what ...any) {
	t.Helper()
	if checkTable(t, x) {
		t.Error("is accepted:", what)
	}
	widths := make([]int64, min(max(x.Columns, 0), 30))
	if impl.TableWidth(x) != 0 || len(impl.Widths(x))+len(impl.SetTable(x))+len(impl.Cells(x)) > 0 {
		t.Error("gives something:", what)
	}
	for row := range int64(len(x.Rows)) {
		if got := checkSetRow(t, x, row, widths); len(got) > 0 {
			t.Error("has a row:", what)
		}
	}
}

func TestTablesThatCanBe(t *testing.T) {
	for name, x := range map[string]impl.Table{
		"no rows":        tableOf(1, impl.Glue{}),
		"one empty row":  tableOf(1, impl.Glue{}, cellsRow()),
		"one cell":       tableOf(1, impl.Glue{}, cellsRow(wideCell(1, 5))),
		"one empty cell": tableOf(1, impl.Glue{}, cellsRow(cellOf(1, 0))),
		"a line alone":   tableOf(1, impl.Glue{}, lineRow(1)),
		"lines only":     tableOf(3, impl.Glue{}, lineRow(1), lineRow(2), lineRow(impl.MaxLen)),
		"of each sort":   mixedTable(),
		"all kinds":      tableOf(2, glue(1, 1, 1, 1, 1), cellsRow(cellOf(1, 1, oneOfEach()...), cellOf(1, 2, slices.Concat(oneOfEach()...)))),
	} {
		if !checkTable(t, x) {
			t.Error(name)
		}
	}
	for _, g := range edgeGlues() {
		if !checkTable(t, tableOf(2, g)) || !checkTable(t, tableOf(1, g, cellsRow(wideCell(1, 1)), lineRow(3))) {
			t.Error(g)
		}
	}
}

func TestCellsKnown(t *testing.T) {
	want := [][]int64{{0, 0, 1}, {0, 1, 1}, {0, 2, 1}, {0, 3, 1}, {3, 0, 2}, {3, 2, 1}, {4, 0, 4}}
	if got := impl.Cells(mixedTable()); !same(got, want) {
		t.Error(got)
	}
	x := tableOf(6, impl.Glue{}, lineRow(1), cellsRow(cellOf(3, 0), cellOf(2, 0), cellOf(1, 0)), lineRow(1), cellsRow(cellOf(1, 0), cellOf(2, 2)))
	if got, want := impl.Cells(x), [][]int64{{1, 0, 3}, {1, 3, 2}, {1, 5, 1}, {3, 0, 1}, {3, 1, 2}}; !same(got, want) {
		t.Error(got)
	}
	for _, none := range []impl.Table{tableOf(3, impl.Glue{}), tableOf(3, impl.Glue{}, lineRow(1), cellsRow())} {
		if got := impl.Cells(none); len(got) > 0 || !impl.TableOk(none) {
			t.Error(got)
		}
	}
}

func TestColumnsLimits(t *testing.T) {
	for _, columns := range []int64{1, 2, 19, impl.MaxColumns} {
		ones := slices.Repeat([]impl.Cell{wideCell(1, 7)}, int(columns))
		x := tableOf(columns, glue(2, 0, 0, 0, 0), cellsRow(ones...), cellsRow(wideCell(columns, 3)), lineRow(1))
		if !checkTable(t, x) || len(impl.Widths(x)) != int(columns) || impl.TableWidth(x) != 9*columns-2 {
			t.Error(columns)
		}
		x.Rows[0].Cells = append(x.Rows[0].Cells, wideCell(1, 7))
		emptyTable(t, x, "a cell more than columns", columns)
	}
	for _, columns := range append([]int64{0, -1, impl.MaxColumns + 1, 22, 256, 1 << 32, 1<<32 + 1}, corners...) {
		if !between(1, columns, 20) {
			for _, x := range []impl.Table{tableOf(columns, impl.Glue{}), tableOf(columns, impl.Glue{}, lineRow(1)), tableOf(columns, impl.Glue{}, cellsRow(wideCell(1, 1)))} {
				emptyTable(t, x, "columns", columns)
			}
		}
	}
}

func TestRowsLimits(t *testing.T) {
	for _, row := range []impl.Row{lineRow(3), cellsRow(), cellsRow(wideCell(1, 4), wideCell(1, 5))} {
		rows := slices.Repeat([]impl.Row{row}, impl.MaxRows+1)
		x := tableOf(2, glue(1, 0, 0, 0, 0), rows[:impl.MaxRows]...)
		if !checkTable(t, x) || len(impl.Items(impl.SetTable(x))) != 200 {
			t.Error("MaxRows rows")
		}
		if got := checkSetRow(t, x, impl.MaxRows-1, []int64{4, 5}); len(got) == 0 {
			t.Error("the last row")
		}
		emptyTable(t, tableOf(2, glue(1, 0, 0, 0, 0), rows...), "MaxRows and one more")
	}
	emptyTable(t, impl.Table{Columns: 1, Rows: make([]impl.Row, 5000)}, "5000 rows")
}

func TestRuleLimits(t *testing.T) {
	for _, thick := range []int64{1, impl.Point, impl.MaxLen - 1, impl.MaxLen} {
		x := tableOf(2, impl.Glue{}, lineRow(thick), cellsRow(wideCell(1, 5)), lineRow(thick))
		if !checkTable(t, x) {
			t.Error(thick)
		}
		x.Rows[0].Cells = []impl.Cell{wideCell(1, 5)}
		emptyTable(t, x, "a Rule and Cells", thick)
	}
	for _, thick := range append([]int64{-1, -2, impl.MaxLen + 1}, corners...) {
		if !between(0, thick, impl.MaxLen) {
			emptyTable(t, tableOf(2, impl.Glue{}, cellsRow(), lineRow(thick)), "Rule", thick)
			emptyTable(t, tableOf(2, impl.Glue{}, impl.Row{Rule: thick, Cells: []impl.Cell{wideCell(1, 5)}}), "Rule and Cells", thick)
		}
	}
}

// The Spans of a row are together at most Columns.
func TestSpanLimits(t *testing.T) {
	for columns := int64(1); columns <= 20; columns++ {
		for ahead := range columns {
			left := columns - ahead
			cells := []impl.Cell{wideCell(left, 5)}
			if ahead > 0 {
				cells = []impl.Cell{wideCell(ahead, 3), wideCell(left, 5)}
			}
			x := tableOf(columns, glue(1, 0, 0, 0, 0), cellsRow(cells...))
			if !checkTable(t, x) {
				t.Error(columns, ahead)
			}
			for _, span := range []int64{left + 1, left + 2, 0, -1, -left, math.MaxInt64, math.MinInt64, math.MaxInt64 - ahead, math.MaxInt64 - ahead + 1, 1<<32 + 1} {
				cells[len(cells)-1].Span = span
				emptyTable(t, x, "Span", span, "of", left)
			}
		}
	}
	for _, spans := range [][]int64{{math.MaxInt64, math.MaxInt64, 4}, {-1, 3}, {3, -1}, {2, 0, 1}, {1, 1, 1, 1}, {2, 2}} {
		var r impl.Row
		for _, span := range spans {
			r.Cells = append(r.Cells, wideCell(span, 1))
		}
		emptyTable(t, tableOf(3, impl.Glue{}, cellsRow(), r), spans)
	}
	emptyTable(t, tableOf(20, impl.Glue{}, impl.Row{Cells: make([]impl.Cell, 100000)}), "cells of Span 0")
}

func TestAlignLimits(t *testing.T) {
	for align := range int64(3) {
		if !checkTable(t, tableOf(2, impl.Glue{}, cellsRow(wideCell(1, 1), cellOf(1, align, ruleNode(3, 1, 0))))) {
			t.Error(align)
		}
	}
	for _, align := range append([]int64{-1, 3, 4, 256}, corners...) {
		if !between(0, align, 2) {
			emptyTable(t, tableOf(2, impl.Glue{}, cellsRow(wideCell(1, 1), cellOf(1, align, ruleNode(3, 1, 0)))), "Align", align)
		}
	}
}

func TestGapsThatCannotBe(t *testing.T) {
	for _, g := range noGlues() {
		x := mixedTable()
		x.Gap = g
		emptyTable(t, x, g)
		emptyTable(t, tableOf(1, g), g)
		emptyTable(t, tableOf(1, g, lineRow(1)), g)
	}
}

// listsWithoutBox are lists of which HPack makes no box, each with a neighbour of which it makes one.
func listsWithoutBox() map[string][2]nodes {
	half := int64(impl.MaxLen/2 + 1)
	return map[string][2]nodes{
		"too many nodes":   {manyNodes(impl.MaxNodes), manyNodes(impl.MaxNodes - 3)},
		"too deep":         {nest(41, nil, impl.NodeHbox), nest(39, nil, impl.NodeHbox)},
		"too many glues":   {slices.Repeat(glueNode(impl.Glue{}), impl.MaxGlue+1), slices.Repeat(glueNode(impl.Glue{}), impl.MaxGlue-2)},
		"too wide":         {listed(kernNode(half), kernNode(half)), listed(kernNode(half), kernNode(half-1))},
		"too wide by glue": {listed(kernNode(half), glueNode(impl.Glue{Size: half})), listed(kernNode(half), glueNode(impl.Glue{Size: half - 1}))},
		"too wide ahead":   {listed(kernNode(half), kernNode(half), glueNode(impl.Glue{Size: -1})), listed(kernNode(half), kernNode(half-1), glueNode(impl.Glue{Size: -1}))},
		"too high":         {hboxNode(1, impl.MaxLen, 0, -1), hboxNode(1, impl.MaxLen, 0, 0)},
		"too deep below":   {hboxNode(1, 0, impl.MaxLen, 1), hboxNode(1, 0, impl.MaxLen, 0)},
	}
}

func TestCellsOfNoBox(t *testing.T) {
	t.Parallel()
	x := tableOf(3, glue(1, 0, 0, 0, 0), cellsRow(wideCell(1, 1)), cellsRow(wideCell(1, 1), cellOf(1, 0), wideCell(1, 2)))
	cell := &x.Rows[1].Cells[1]
	for name, lists := range listsWithoutBox() {
		for align := range int64(3) {
			cell.Align = align
			if cell.Nodes = lists[1]; !checkTable(t, x) {
				t.Error(name, "that fit")
			}
			cell.Nodes = lists[0]
			emptyTable(t, x, name)
		}
	}
	for _, bad := range []nodes{{{}}, kernNode(impl.MaxLen + 1), kernNode(-impl.MaxLen - 1), changedNode(kernNode(1), "Height", int64(1)), changedNode(hboxNode(1, 1, 1, 0), "Kids", int64(1)), manyNodes(impl.MaxNodes + 1), penaltyNode(10001), nest(42, nil, impl.NodeVbox)} {
		cell.Nodes = bad
		emptyTable(t, x, short(bad))
	}
}

// A fault is seen in any row and cell.
func TestOneFaultSpoilsATable(t *testing.T) {
	faults := map[string]func(*impl.Cell){
		"Span":  func(c *impl.Cell) { c.Span = 0 },
		"Align": func(c *impl.Cell) { c.Align = 3 },
		"Nodes": func(c *impl.Cell) { c.Nodes = nodes{{Kind: 12}} },
	}
	for name, spoil := range faults {
		for row, r := range mixedTable().Rows {
			for at := range r.Cells {
				x := mixedTable()
				spoil(&x.Rows[row].Cells[at])
				emptyTable(t, x, name, row, at)
			}
		}
	}
	for row := range mixedTable().Rows {
		x := mixedTable()
		x.Rows[row].Rule = -1
		emptyTable(t, x, "Rule", row)
	}
}

// spoilTable changes one number of a table, or of one of its rows, cells or nodes.
func spoilTable(r *rand.Rand, x *impl.Table) {
	number := func(v reflect.Value) {
		if f := v.Field(r.Intn(v.NumField())); f.Kind() == reflect.Int64 {
			f.SetInt(append(strange, 4, 5, 20, 21)[r.Intn(len(strange)+4)])
		}
	}
	which := r.Intn(6)
	if which == 0 || len(x.Rows) == 0 {
		number(reflect.ValueOf(x).Elem())
		return
	}
	if which == 1 {
		number(reflect.ValueOf(&x.Gap).Elem())
		return
	}
	row := &x.Rows[r.Intn(len(x.Rows))]
	if which == 2 || len(row.Cells) == 0 {
		row.Rule = strange[r.Intn(len(strange))]
		return
	}
	cell := &row.Cells[r.Intn(len(row.Cells))]
	if which == 3 && len(cell.Nodes) > 0 {
		spoilNode(r, &cell.Nodes[r.Intn(len(cell.Nodes))])
		return
	}
	number(reflect.ValueOf(cell).Elem())
}

func TestTablesOfAnyNumbers(t *testing.T) {
	t.Parallel()
	r := rand.New(rand.NewSource(140))
	good, bad := 0, 0
	for range 6000 {
		some := randomTables(r)
		x := some.table(6, 4)
		for range r.Intn(3) {
			spoilTable(r, &x)
		}
		if checkTable(t, x) {
			good++
		} else {
			bad++
		}
		widths := some.widths(x.Columns & 7)
		switch r.Intn(4) {
		case 0:
			widths = append(widths, anyNumber(r))
		case 1:
			if len(widths) > 0 {
				widths[r.Intn(len(widths))] = corners[r.Intn(len(corners))]
			}
		}
		for _, row := range []int64{0, -1, int64(len(x.Rows)), int64(len(x.Rows)) - 1, anyNumber(r), corners[r.Intn(len(corners))]} {
			checkSetRow(t, x, row, widths)
		}
	}
	if good < 1000 || bad < 1000 {
		t.Error("too few:", good, bad)
	}
}
