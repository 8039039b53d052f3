package tests

import (
	"math/rand"
	"strings"
	"testing"

	"loop.example/g00014/impl"
)

// Every row of a table that is set is a box as wide as the table, as SetRow makes it.
func TestTableRowsAreAsWideAsTheTable(t *testing.T) {
	t.Parallel()
	r := rand.New(rand.NewSource(146))
	rows := 0
	for range 3000 {
		x := randomTables(r).table(20, 6)
		ns, widths := impl.SetTable(x), impl.Widths(x)
		if len(ns) == 0 {
			continue
		}
		items := impl.Items(ns)
		if len(items) != len(x.Rows) || !impl.ListOk(ns) {
			t.Fatalf("%+v: %d rows", shortTable(x), len(items))
		}
		for i, item := range items {
			rows++
			if item[0].Kind != impl.NodeHbox || item[0].Width != impl.TableWidth(x) || !same(item, impl.SetRow(x, int64(i), widths)) {
				t.Fatalf("%+v: row %d is %+v, not %d wide", shortTable(x), i, short(item), impl.TableWidth(x))
			}
		}
	}
	if rows < 3000 {
		t.Error("too few:", rows)
	}
}

// startsOf are how far from the left each column begins.
func startsOf(widths []int64, gap int64) []int64 {
	starts, at := []int64{}, int64(0)
	for _, w := range widths {
		starts = append(starts, at)
		at += w + gap
	}
	return starts
}

// The cells of a row lie one behind the other, each from its first column on and as wide as its columns; what is left are kerns in the places of the other columns; and each is aligned in its place.
func TestCellsLieInTheirColumns(t *testing.T) {
	t.Parallel()
	r := rand.New(rand.NewSource(147))
	seen := 0
	for range 2000 {
		some := randomTables(r)
		x := some.table(12, 5)
		widths := some.widths(x.Columns)
		starts := startsOf(widths, x.Gap.Size)
		for row := range int64(len(x.Rows)) {
			ns := impl.SetRow(x, row, widths)
			if len(ns) == 0 || x.Rows[row].Rule > 0 {
				continue
			}
			seen++
			checkPlaces(t, x, row, ns, starts, widths)
		}
	}
	if seen < 3000 {
		t.Error("too few:", seen)
	}
}

// checkPlaces looks through a row that is set, item by item.
func checkPlaces(t *testing.T, x impl.Table, row int64, ns nodes, starts, widths []int64) {
	t.Helper()
	at, column := int64(0), int64(0)
	cells := x.Rows[row].Cells
	for i, item := range impl.Items(ns[1:]) {
		n := item[0]
		if i%2 == 1 {
			if n.Kind != impl.NodeGlue || n.Glue != x.Gap || n.Width != x.Gap.Size {
				t.Fatalf("%+v between two", n)
			}
			at += n.Width
			continue
		}
		if at != starts[column] {
			t.Fatalf("row %d of %+v: item %d is at %d, not %d", row, shortTable(x), i, at, starts[column])
		}
		kind, span, held := int64(impl.NodeKern), int64(1), nodes(nil)
		if len(cells) > 0 {
			kind, span, held = impl.NodeHbox, cells[0].Span, cells[0].Nodes
			checkHeld(t, item, held, cells[0].Align)
			cells = cells[1:]
		}
		if wide := joined(widths[column:column+span], x.Gap.Size); n.Kind != kind || n.Width != wide {
			t.Fatalf("row %d of %+v: item %d is %+v, not %d wide", row, shortTable(x), i, n, wide)
		}
		column += span
		at += n.Width
	}
	if column != x.Columns || len(cells) > 0 {
		t.Fatalf("row %d of %+v ends at column %d", row, shortTable(x), column)
	}
}

// checkHeld: a cell that is set holds its list, and a glue on the sides where it has room.
func checkHeld(t *testing.T, item, held nodes, align int64) {
	t.Helper()
	inside := impl.Inside(item)
	ahead, behind := 0, 0
	if align != impl.AlignLeft {
		ahead = 1
	}
	if align != impl.AlignRight {
		behind = 1
	}
	unset := impl.Inside(impl.HPack(held, 0, 0).Nodes)
	if !same(inside, listed(fil(0)[:ahead], unset, fil(0)[:behind])) {
		t.Fatalf("a cell of align %d holds %+v, not %+v", align, inside, unset)
	}
}

// What is in a cell stands at the left, in the middle or at the right of its columns.
func TestWhereCellsAreAligned(t *testing.T) {
	for align, want := range []int64{113, 143, 173} {
		x := tableOf(4, glue(3, 0, 0, 0, 0), cellsRow(wideCell(1, 10), cellOf(2, int64(align), charNode('a', 40, 5, 0)), wideCell(1, 5)), lineRow(2))
		spots := impl.Spots(impl.SetRow(x, 0, []int64{10, 20, 77, 5}), 100, 0)
		if len(spots) != 3 || spots[0].X != 100 || spots[1].X != want || spots[2].X != 216 {
			t.Error(align, spots)
		}
		if spots := impl.Spots(impl.SetRow(x, 1, []int64{10, 20, 77, 5}), 100, 0); len(spots) != 1 || spots[0].Width != 121 || spots[0].Height != 2 {
			t.Error(spots)
		}
	}
}

// A cell that covers all columns and is as wide as the table changes no width; one that is wider by some makes the last column wider by that.
func TestACellAcrossAll(t *testing.T) {
	t.Parallel()
	r := rand.New(rand.NewSource(148))
	for range 1000 {
		x := tables{lengths{r, 1000}}.table(8, 5)
		widths, whole := impl.Widths(x), impl.TableWidth(x)
		for _, more := range []int64{-1, 0, 1, 500} {
			wider := x
			wider.Rows = append([]impl.Row{cellsRow(wideCell(x.Columns, whole+more))}, x.Rows...)
			want := append([]int64{}, widths...)
			want[x.Columns-1] += max(more, 0)
			if got := impl.Widths(wider); !same(got, want) || impl.TableWidth(wider) != whole+max(more, 0) {
				t.Fatalf("%+v and a cell wider by %d: %v, not %v", shortTable(x), more, got, want)
			}
		}
	}
}

// withTexts is a table in whose cells there are marks, notes and writes.
func (r tables) withTexts() impl.Table {
	x := r.table(4, 4)
	cell := cellOf(1, r.Int63n(3), markNode(strings.Repeat("mark", 3)), noteNode(1, 5, writeNode("a write")), r.list(3, 2))
	x.Rows = append(x.Rows, cellsRow(cell), lineRow(5), cellsRow(cell))
	return x
}

func TestTableAnswersAreNewMemoryAndArgumentsStay(t *testing.T) {
	t.Parallel()
	r := rand.New(rand.NewSource(149))
	set := 0
	for range 600 {
		some := randomTables(r)
		x := roomy(some.withTexts())
		widths := roomy(some.widths(x.Columns))
		before := told(x) + told(widths)
		checkNewMemory(t, [][]int64{impl.Widths(x), impl.Widths(x)}, x)
		checkNewMemory(t, [][][]int64{impl.Cells(x), impl.Cells(x)}, x)
		checkNewMemory(t, []nodes{impl.SetTable(x), impl.SetTable(x)}, x)
		for row := range int64(len(x.Rows)) {
			checkNewMemory(t, []nodes{impl.SetRow(x, row, widths), impl.SetRow(x, row, widths)}, x, widths)
		}
		impl.TableOk(x)
		impl.TableWidth(x)
		if told(x)+told(widths) != before {
			t.Fatalf("%+v was changed", x)
		}
		if len(impl.SetTable(x)) > 0 {
			set++
		}
	}
	if set < 200 {
		t.Error("too few:", set)
	}
}

// What is written into an answer is seen in no other one.
func TestTableAnswersHangOnNothingElse(t *testing.T) {
	x := mixedTable()
	widths, cells, ns := impl.Widths(x), impl.Cells(x), impl.SetTable(x)
	row := impl.SetRow(x, 0, widths)
	for _, list := range []nodes{ns, row} {
		for i := range list[:cap(list)] {
			list[:cap(list)][i] = impl.Node{Kind: -5, Kids: 99}
		}
	}
	for _, list := range append(cells, widths) {
		for i := range list[:cap(list)] {
			list[:cap(list)][i] = -9
		}
	}
	if !checkTable(t, x) || !checkTable(t, mixedTable()) || len(checkSetRow(t, x, 0, impl.Widths(x))) == 0 {
		t.Error("other answers were changed")
	}
}
