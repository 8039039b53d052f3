package tests

import (
	"math/rand"
	"slices"
	"testing"

	"loop.example/g00014/impl"
)

func tableOf(columns int64, gap impl.Glue, rows ...impl.Row) impl.Table {
	return impl.Table{Columns: columns, Gap: gap, Rows: rows}
}

func cellsRow(cells ...impl.Cell) impl.Row { return impl.Row{Cells: cells} }

func lineRow(thick int64) impl.Row { return impl.Row{Rule: thick} }

func cellOf(span, align int64, parts ...nodes) impl.Cell {
	return impl.Cell{Span: span, Align: align, Nodes: listed(parts...)}
}

// wideCell covers so many columns and is so wide by itself.
func wideCell(span, width int64) impl.Cell { return cellOf(span, 0, ruleNode(width, 1, 0)) }

// cellPlainly says of a cell whether it can be, with so many columns left for it.
func cellPlainly(c impl.Cell, left int64) bool {
	return between(1, c.Span, left) && between(0, c.Align, 2) && len(packedPlainly(c.Nodes, false, 0, 0, 0).Nodes) > 0
}

func rowIs(r impl.Row, columns int64) bool {
	if r.Rule != 0 {
		return between(1, r.Rule, 1073741823) && len(r.Cells) == 0
	}
	for _, c := range r.Cells {
		if !cellPlainly(c, columns) {
			return false
		}
		columns -= c.Span
	}
	return true
}

func tablePlainly(x impl.Table) bool {
	if !between(1, x.Columns, 20) || !nodeIs(impl.Node{Kind: impl.NodeGlue, Glue: x.Gap}) || len(x.Rows) > 200 {
		return false
	}
	return !slices.ContainsFunc(x.Rows, func(r impl.Row) bool { return !rowIs(r, x.Columns) })
}

// cellsPlainly is Cells.
func cellsPlainly(x impl.Table) [][]int64 {
	var out [][]int64
	if !tablePlainly(x) {
		return out
	}
	for i, r := range x.Rows {
		column := int64(0)
		for _, c := range r.Cells {
			out = append(out, []int64{int64(i), column, c.Span})
			column += c.Span
		}
	}
	return out
}

// joined is how wide neighbouring columns are together.
func joined(widths []int64, gap int64) int64 {
	sum := -gap
	for _, w := range widths {
		sum += w + gap
	}
	return sum
}

// cellsOfAll are the cells of all rows, in the order of Cells.
func cellsOfAll(x impl.Table) []impl.Cell {
	var out []impl.Cell
	for _, r := range x.Rows {
		out = append(out, r.Cells...)
	}
	return out
}

// widthsPlainly is Widths.
func widthsPlainly(x impl.Table) []int64 {
	if !tablePlainly(x) {
		return nil
	}
	var widths []int64
	places, cells := cellsPlainly(x), cellsOfAll(x)
	for column := range x.Columns {
		least := int64(0)
		for i, p := range places {
			if p[1]+p[2]-1 == column {
				ahead := joined(append(slices.Clone(widths[p[1]:column]), 0), x.Gap.Size)
				least = max(least, naturalPlainly(cells[i].Nodes, true).Width-ahead)
			}
		}
		if !fitsPlainly(least) {
			return nil
		}
		widths = append(widths, least)
	}
	return widths
}

func tableWidthPlainly(x impl.Table) int64 {
	widths := widthsPlainly(x)
	if len(widths) == 0 {
		return 0
	}
	if sum := joined(widths, x.Gap.Size); fitsPlainly(sum) {
		return sum
	}
	return 0
}

// setCellPlainly gives up with noBox when the cell can't be packed.
func setCellPlainly(c impl.Cell, width int64) nodes {
	filler := glueNode(impl.Glue{Plus: 65536, PlusOrder: 1})
	list := [3]nodes{listed(c.Nodes, filler), listed(filler, c.Nodes, filler), listed(filler, c.Nodes)}[c.Align]
	return mustPack(packedPlainly(list, false, 1, width, 0))
}

// rowSetPlainly is a row of a table that can be, with widths that can.
func rowSetPlainly(r impl.Row, gap impl.Glue, widths []int64) (out nodes) {
	defer func() {
		if fault := recover(); fault != nil {
			_ = fault.(noBox)
			out = nil
		}
	}()
	if r.Rule > 0 {
		return packedPlainly(ruleNode(joined(widths, gap.Size), r.Rule, 0), false, 0, 0, 0).Nodes
	}
	var parts []nodes
	for _, c := range r.Cells {
		parts = append(parts, setCellPlainly(c, joined(widths[:c.Span], gap.Size)))
		widths = widths[c.Span:]
	}
	for _, w := range widths {
		parts = append(parts, kernNode(w))
	}
	var list nodes
	for i, part := range parts {
		if i > 0 {
			list = append(list, glueNode(gap)...)
		}
		list = append(list, part...)
	}
	return packedPlainly(list, false, 0, 0, 0).Nodes
}

// setRowPlainly is SetRow.
func setRowPlainly(x impl.Table, row int64, widths []int64) nodes {
	if !tablePlainly(x) || !between(0, row, int64(len(x.Rows))-1) || int64(len(widths)) != x.Columns {
		return nil
	}
	if slices.Min(widths) < 0 || !fitsPlainly(widths...) {
		return nil
	}
	return rowSetPlainly(x.Rows[row], x.Gap, widths)
}

// setTablePlainly is SetTable.
func setTablePlainly(x impl.Table) nodes {
	var out nodes
	widths := widthsPlainly(x)
	if len(widths) == 0 {
		return nil
	}
	for _, r := range x.Rows {
		row := rowSetPlainly(r, x.Gap, widths)
		if out = append(out, row...); len(row) == 0 || len(out) > 20000 {
			return nil
		}
	}
	return out
}

// shortTable is what a fault tells of a table: no more than some of it.
func shortTable(x impl.Table) impl.Table {
	x.Rows = slices.Clone(x.Rows[:min(len(x.Rows), 6)])
	for i := range x.Rows {
		x.Rows[i].Cells = slices.Clone(x.Rows[i].Cells[:min(len(x.Rows[i].Cells), 6)])
		for k := range x.Rows[i].Cells {
			c := &x.Rows[i].Cells[k]
			c.Nodes = short(c.Nodes)
		}
	}
	return x
}

// checkTable holds TableOk, Cells, Widths, TableWidth and SetTable against the plain telling, and tells whether it is one.
func checkTable(t *testing.T, x impl.Table) bool {
	t.Helper()
	want := tablePlainly(x)
	if got := impl.TableOk(x); got != want {
		t.Fatalf("TableOk(%+v) = %v", shortTable(x), got)
	}
	if got, want := impl.Cells(x), cellsPlainly(x); !same(got, want) {
		t.Fatalf("Cells(%+v) = %v, not %v", shortTable(x), got, want)
	}
	if got, want := impl.Widths(x), widthsPlainly(x); !same(got, want) {
		t.Fatalf("Widths(%+v) = %v, not %v", shortTable(x), got, want)
	}
	if got, want := impl.TableWidth(x), tableWidthPlainly(x); got != want {
		t.Fatalf("TableWidth(%+v) = %v, not %v", shortTable(x), got, want)
	}
	if got, want := impl.SetTable(x), setTablePlainly(x); !same(got, want) {
		t.Fatalf("SetTable(%+v) = %+v, not %+v", shortTable(x), short(got), short(want))
	}
	return want
}

// checkSetRow holds SetRow against the plain telling, and gives the row.
func checkSetRow(t *testing.T, x impl.Table, row int64, widths []int64) nodes {
	t.Helper()
	got, want := impl.SetRow(x, row, widths), setRowPlainly(x, row, widths)
	if !same(got, want) {
		t.Fatalf("SetRow(%+v, %d, %v) = %+v, not %+v", shortTable(x), row, widths, short(got), short(want))
	}
	return got
}

// tables are made at random.
type tables struct{ lengths }

func randomTables(r *rand.Rand) tables { return tables{randomLengths(r)} }

// cell covers no more than so many columns. Many have one width, which tells more of columns than a list of all kinds does.
func (r tables) cell(left int64) impl.Cell {
	c := impl.Cell{Span: 1 + r.Int63n(left), Align: r.Int63n(3)}
	if r.Intn(2) == 0 {
		c.Span = 1
	}
	switch r.Intn(5) {
	case 0:
		c.Nodes = r.list(5, 2)
	case 1:
		c.Nodes = listed(charNode('a', r.from0(), 5, 2), glueNode(r.glue()), charNode('b', r.from0(), 7, 1))
	case 2, 3:
		c.Nodes = ruleNode(r.from0(), 3, 1)
	}
	return c
}

func (r tables) row(columns int64) impl.Row {
	if r.Intn(6) == 0 {
		return lineRow(1 + r.Int63n(r.most))
	}
	var out impl.Row
	for columns > 0 && r.Intn(7) > 0 {
		c := r.cell(columns)
		out.Cells = append(out.Cells, c)
		columns -= c.Span
	}
	return out
}

// gap is wide or narrow, and some give.
func (r tables) gap() impl.Glue {
	switch r.Intn(4) {
	case 0:
		return impl.Glue{}
	case 1:
		return impl.Glue{Size: r.length() / 4}
	case 2:
		return impl.Glue{Size: r.Int63n(r.most + 1)}
	}
	return r.glue()
}

func (r tables) table(mostColumns int64, mostRows int) impl.Table {
	x := impl.Table{Columns: 1 + r.Int63n(mostColumns), Gap: r.gap()}
	for range r.Intn(mostRows + 1) {
		x.Rows = append(x.Rows, r.row(x.Columns))
	}
	return x
}

// widths are some for a table, most of them so many as it wants.
func (r tables) widths(columns int64) []int64 {
	out := []int64{}
	for range columns {
		out = append(out, r.Int63n(r.most+1))
	}
	return out
}
