package tests

import (
	"math/rand"
	"slices"
	"testing"

	"loop.example/g00014/impl"
)

func TestWidthsKnown(t *testing.T) {
	const m = impl.MaxLen
	c, gap := wideCell, func(size int64) impl.Glue { return impl.Glue{Size: size} }
	for _, k := range []struct {
		what   string
		x      impl.Table
		widths []int64
		whole  int64
	}{
		{"no rows", tableOf(3, gap(10)), []int64{0, 0, 0}, 20},
		{"one column", tableOf(1, gap(10), cellsRow(c(1, 5)), cellsRow(c(1, 8)), cellsRow(c(1, 7))), []int64{8}, 8},
		{"empty cells", tableOf(2, gap(10), cellsRow(cellOf(1, 0), cellOf(1, 0))), []int64{0, 0}, 10},
		{"several columns", tableOf(3, gap(10), cellsRow(c(1, 5), c(1, 8), c(1, 7))), []int64{5, 8, 7}, 40},
		{"the greatest of each", tableOf(2, gap(0), cellsRow(c(1, 5), c(1, 8)), cellsRow(c(1, 6), c(1, 7))), []int64{6, 8}, 14},
		{"fewer cells", tableOf(3, gap(1), cellsRow(c(1, 5)), cellsRow(c(1, 4), c(1, 3)), cellsRow()), []int64{5, 3, 0}, 10},
		{"lines are no cells", tableOf(2, gap(1), lineRow(500), cellsRow(c(1, 5), c(1, 6)), lineRow(500)), []int64{5, 6}, 12},
		{"two columns, room already", tableOf(2, gap(10), cellsRow(c(1, 20), c(1, 30)), cellsRow(c(2, 59))), []int64{20, 30}, 60},
		{"two columns, just fits", tableOf(2, gap(10), cellsRow(c(1, 20), c(1, 30)), cellsRow(c(2, 60))), []int64{20, 30}, 60},
		{"two columns, one more", tableOf(2, gap(10), cellsRow(c(1, 20), c(1, 30)), cellsRow(c(2, 61))), []int64{20, 31}, 61},
		{"two columns ahead of the rows", tableOf(2, gap(10), cellsRow(c(2, 61)), cellsRow(c(1, 20), c(1, 30))), []int64{20, 31}, 61},
		{"two columns alone", tableOf(2, gap(10), cellsRow(c(2, 61))), []int64{0, 51}, 61},
		{"the last column is wide enough", tableOf(2, gap(10), cellsRow(c(2, 61)), cellsRow(cellOf(1, 0), c(1, 70))), []int64{0, 70}, 80},
		{"ends in a middle column", tableOf(4, gap(5), cellsRow(c(1, 10), c(2, 50), c(1, 7)), cellsRow(c(1, 3), c(1, 20))), []int64{10, 20, 25, 7}, 77},
		{"a wider column is room for the next", tableOf(3, gap(0), cellsRow(c(2, 50), c(1, 1)), cellsRow(c(1, 10), c(2, 60)), cellsRow(c(1, 20))), []int64{20, 30, 30}, 80},
		{"three columns", tableOf(3, gap(5), cellsRow(c(1, 10), c(1, 20), c(1, 30)), cellsRow(c(3, 100))), []int64{10, 20, 60}, 100},
		{"three columns and two", tableOf(3, gap(5), cellsRow(c(3, 100)), cellsRow(c(1, 1), c(2, 90))), []int64{1, 0, 89}, 100},
		{"two and three columns", tableOf(3, gap(5), cellsRow(c(3, 100)), cellsRow(c(1, 1), c(2, 96))), []int64{1, 0, 91}, 102},
		{"columns that no cell ends in", tableOf(5, gap(2), cellsRow(c(2, 10), c(2, 20))), []int64{0, 8, 0, 18, 0}, 34},
		{"gap below 0", tableOf(2, gap(-10), cellsRow(c(1, 20), c(1, 30)), cellsRow(c(2, 41))), []int64{20, 31}, 41},
		{"gap below 0, nothing in it", tableOf(3, gap(-10), cellsRow(cellOf(3, 0))), []int64{0, 0, 20}, 0},
		{"gap below 0, no cells", tableOf(3, gap(-10), cellsRow()), []int64{0, 0, 0}, -20},
		{"gap that gives", tableOf(2, glue(10, 500, 0, 300, 0), cellsRow(c(1, 20), c(1, 30)), cellsRow(c(2, 61))), []int64{20, 31}, 61},
		{"gap that gives without end", tableOf(2, glue(10, m, 3, m, 3), cellsRow(c(1, 20), c(1, 30)), cellsRow(c(2, 61))), []int64{20, 31}, 61},
		{"cells below 0", tableOf(2, gap(1), cellsRow(c(1, -5), c(1, -m))), []int64{0, 0}, 1},
		{"natural width of glues and kerns", tableOf(1, gap(1), cellsRow(cellOf(1, 0, charNode('a', 5, 1, 1), glueNode(glue(7, 100, 2, 7, 0)), kernNode(-2), hboxNode(11, 1, 1, 4), hyphenNode('-', 50, 1, 1), penaltyNode(9)))), []int64{21}, 21},
		{"glue that is set already", tableOf(1, gap(1), cellsRow(cellOf(1, 0, setGlueNode(glue(7, 0, 0, 0, 0), 90)))), []int64{7}, 7},
	} {
		if got := impl.Widths(k.x); !checkTable(t, k.x) || !slices.Equal(got, k.widths) || impl.TableWidth(k.x) != k.whole {
			t.Errorf("%s: %v and %d, not %v and %d", k.what, got, impl.TableWidth(k.x), k.widths, k.whole)
		}
	}
}

func TestWidthsThatJustFit(t *testing.T) {
	const m = impl.MaxLen
	c, gap := wideCell, func(size int64) impl.Glue { return impl.Glue{Size: size} }
	for _, k := range []struct {
		what   string
		x      impl.Table
		widths []int64
		whole  int64
	}{
		{"a column of MaxLen", tableOf(1, gap(0), cellsRow(c(1, m))), []int64{m}, m},
		{"two columns of MaxLen", tableOf(2, gap(-m), cellsRow(c(1, m), c(1, m))), []int64{m, m}, m},
		{"the last column fits", tableOf(2, gap(-3), cellsRow(c(2, m-3))), []int64{0, m}, m - 3},
		{"the last column does not", tableOf(2, gap(-3), cellsRow(c(2, m-2))), nil, 0},
		{"a column ahead does not", tableOf(3, gap(-3), cellsRow(c(2, m-2), c(1, 5))), nil, 0},
		{"a column far too great", tableOf(20, gap(-m), cellsRow(c(20, m))), nil, 0},
		{"a far greater gap", tableOf(20, gap(m), cellsRow(c(20, m))), make([]int64, 20), 0},
		{"whole fits", tableOf(2, gap(2), cellsRow(c(1, m-10), c(1, 8))), []int64{m - 10, 8}, m},
		{"whole does not", tableOf(2, gap(2), cellsRow(c(1, m-10), c(1, 9))), []int64{m - 10, 9}, 0},
		{"whole does not, by the gap", tableOf(2, gap(3), cellsRow(c(1, m-10), c(1, 8))), []int64{m - 10, 8}, 0},
		{"whole fits, below 0", tableOf(2, gap(-m)), []int64{0, 0}, -m},
		{"whole fits, below 0, with a cell", tableOf(3, gap(-m), cellsRow(c(1, m))), []int64{m, 0, 0}, -m},
		{"whole does not, below 0", tableOf(3, gap(-m), cellsRow(c(1, m-1))), []int64{m - 1, 0, 0}, 0},
		{"twenty columns", tableOf(20, gap(-m), cellsRow(slices.Repeat([]impl.Cell{c(1, m)}, 20)...)), slices.Repeat([]int64{m}, 20), m},
	} {
		if got := impl.Widths(k.x); !checkTable(t, k.x) || !slices.Equal(got, k.widths) || impl.TableWidth(k.x) != k.whole {
			t.Errorf("%s: %v and %d, not %v and %d", k.what, got, impl.TableWidth(k.x), k.widths, k.whole)
		}
		if k.widths == nil && len(impl.SetTable(k.x)) > 0 {
			t.Error(k.what, "is set")
		}
	}
}

// hasRoom says whether every cell that ends in a column has room there.
func hasRoom(x impl.Table, widths []int64, column int64) bool {
	cells := cellsOfAll(x)
	for i, p := range impl.Cells(x) {
		end := p[1] + p[2]
		if end-1 == column && joined(widths[p[1]:end], x.Gap.Size) < impl.Natural(cells[i].Nodes, true).Width {
			return false
		}
	}
	return true
}

// Every cell has room, and no column that is not 0 wide could be less.
func TestColumnsAreTheLeast(t *testing.T) {
	t.Parallel()
	r := rand.New(rand.NewSource(141))
	above, none := 0, 0
	for range 4000 {
		x := randomTables(r).table(20, 10)
		widths := impl.Widths(x)
		for column := range int64(len(widths)) {
			if !hasRoom(x, widths, column) {
				t.Fatalf("%+v: no room in column %d of %v", shortTable(x), column, widths)
			}
			if widths[column] == 0 {
				none++
				continue
			}
			above++
			less := slices.Clone(widths)
			less[column]--
			if widths[column] < 0 || hasRoom(x, less, column) {
				t.Fatalf("%+v: column %d of %v could be less", shortTable(x), column, widths)
			}
		}
	}
	if above < 5000 || none < 5000 {
		t.Error("too few:", above, none)
	}
}

// The order of the rows, how cells are aligned, and how gaps and glues give, change no width.
func TestWidthsHangOnCellsAlone(t *testing.T) {
	t.Parallel()
	r := rand.New(rand.NewSource(142))
	for range 1000 {
		x := randomTables(r).table(8, 6)
		widths, whole := impl.Widths(x), impl.TableWidth(x)
		r.Shuffle(len(x.Rows), func(i, k int) { x.Rows[i], x.Rows[k] = x.Rows[k], x.Rows[i] })
		x.Rows = append(x.Rows, lineRow(1+r.Int63n(50)))
		x.Gap.Plus, x.Gap.PlusOrder, x.Gap.Minus = r.Int63n(100), r.Int63n(4), r.Int63n(100)
		for _, row := range x.Rows {
			for i := range row.Cells {
				row.Cells[i].Align = r.Int63n(3)
			}
		}
		if got := impl.Widths(x); !slices.Equal(got, widths) || impl.TableWidth(x) != whole {
			t.Fatalf("%+v: %v, not %v", shortTable(x), got, widths)
		}
	}
}

// What ends behind a column changes neither it nor those ahead.
func TestWidthsComeFromTheLeft(t *testing.T) {
	t.Parallel()
	r := rand.New(rand.NewSource(143))
	for range 2000 {
		x := randomTables(r).table(10, 6)
		widths := impl.Widths(x)
		if len(widths) == 0 {
			continue
		}
		x.Columns = 1 + r.Int63n(x.Columns)
		for i := range x.Rows {
			x.Rows[i].Cells = cellsTo(x.Rows[i].Cells, x.Columns)
		}
		if got := impl.Widths(x); !slices.Equal(got, widths[:x.Columns]) {
			t.Fatalf("%+v: %v, not %v", shortTable(x), got, widths[:x.Columns])
		}
	}
}

// cellsTo are the first cells, of which so many columns are enough.
func cellsTo(cells []impl.Cell, columns int64) []impl.Cell {
	for i, c := range cells {
		if columns -= c.Span; columns < 0 {
			return cells[:i]
		}
	}
	return cells
}
