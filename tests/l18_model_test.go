package tests

import (
	"bytes"
	"strings"
	"testing"

	"loop.example/g00014/impl"
)

// margin is from the edge of a page to its sheet.
const margin = 36 * point

// pagesOfJob are the Spots of a job's sheets, each told plainly.
func pagesOfJob(f impl.Finished) desc {
	var out desc
	for _, sheet := range f.Pages {
		out = append(out, spotsPlainly(sheet, margin, margin+sheet[0].Height))
	}
	return out
}

// oneWord: do two chars beside each other in the order of Spots belong to one word?
func oneWord(ahead, s impl.Spot) bool {
	if ahead.Char == -1 || s.Char == -1 || ahead.Y != s.Y || ahead.Font != s.Font {
		return false
	}
	gap := 4 * (s.X - ahead.X - ahead.Width)
	return gap == 0 || -s.Width < gap && gap < s.Width
}

// spelledOut are the letters of a Spot's char.
func spelledOut(s impl.Spot) string {
	return lettersIn(nodes{{Kind: impl.NodeChar, Char: s.Char}})
}

// wordsPlainly is Words, of pages.
func wordsPlainly(d desc) []string {
	var out []string
	for _, page := range d {
		for i, s := range page {
			switch {
			case s.Char == -1:
			case i > 0 && oneWord(page[i-1], s):
				out[len(out)-1] += spelledOut(s)
			default:
				out = append(out, spelledOut(s))
			}
		}
	}
	return out
}

// linesPlainly is LinesOf, of pages.
func linesPlainly(d desc) int64 {
	type line struct {
		page int
		y    int64
	}
	lines := map[line]int{}
	for i, page := range d {
		for _, s := range page {
			if s.Char >= 0 {
				lines[line{i, s.Y}]++
			}
		}
	}
	return int64(len(lines))
}

// typesetPlainly is Typeset, and the pages.
func typesetPlainly(source string) (impl.Result, desc) {
	f := impl.Job(source, impl.FormatEnv(), impl.PlainBook(), 100000)
	d := pagesOfJob(f)
	r := impl.Result{Code: f.Code, Runs: f.Runs, Stable: f.Stable, Notes: f.Notes, Count: int64(len(f.Pages))}
	if f.Code == 0 {
		r.Desc = bytesPlainly(d)
	}
	return r, d
}

// session is all that a source becomes.
type session struct {
	impl.Result
	pages desc
	words []string
	lines int64
}

// checkSession holds Typeset, Words and LinesOf against the plain telling.
func checkSession(t *testing.T, source string) session {
	t.Helper()
	got, words, lines := impl.Typeset(source), impl.Words(source), impl.LinesOf(source)
	want, d := typesetPlainly(source)
	if !same(got, want) {
		t.Fatalf("Typeset(%.80q): code %d, %d runs, %v, %d pages, %d bytes, %q, not code %d, %d runs, %v, %d pages, %d bytes, %q",
			source, got.Code, got.Runs, got.Stable, got.Count, len(got.Desc), got.Notes, want.Code, want.Runs, want.Stable, want.Count, len(want.Desc), want.Notes)
	}
	if !same(words, wordsPlainly(d)) {
		t.Fatalf("Words(%.80q): %q, not %q", source, words, wordsPlainly(d))
	}
	if lines != linesPlainly(d) {
		t.Fatalf("LinesOf(%.80q): %d, not %d", source, lines, linesPlainly(d))
	}
	checkReadBack(t, source, got, d)
	return session{got, d, words, lines}
}

// checkReadBack: the bytes are read as the pages; without bytes there are no pages, or none that have bytes.
func checkReadBack(t *testing.T, source string, got impl.Result, d desc) {
	t.Helper()
	read, ok := impl.DecodeDesc(got.Desc)
	if ok != (len(got.Desc) > 0) || ok && !same(read, d) {
		t.Fatalf("%.80q: its bytes are read as %v, %v", source, shortDesc(read), ok)
	}
	if got.Code != impl.DigOk && (ok || len(d) > 0) {
		t.Fatalf("%.80q: code %d, and %d pages", source, got.Code, len(d))
	}
}

// checkPreview holds Preview against what Raster shows of the page.
func checkPreview(t *testing.T, source string, page, cell, columns, rows int64) []string {
	t.Helper()
	got := impl.Preview(source, page, cell, columns, rows)
	var want []string
	if d, ok := readPlainly(impl.Typeset(source).Desc); ok && between(1, page, int64(len(d))) {
		want = rasterPlainly(d[page-1], cell, columns, rows)
	}
	if !same(got, want) {
		t.Fatalf("Preview(%.80q, %d, %d, %d, %d):\n%s\nnot\n%s", source, page, cell, columns, rows, strings.Join(got, "\n"), strings.Join(want, "\n"))
	}
	return got
}

// sameSession: what two sources become is the same, byte by byte.
func sameSession(t *testing.T, a, b string) {
	t.Helper()
	first, second := impl.Typeset(a), impl.Typeset(b)
	if !same(first, second) || !bytes.Equal(first.Desc, second.Desc) {
		t.Fatalf("%q and %q: code %d, %d runs, %d pages, %q, and code %d, %d runs, %d pages, %q", a, b, first.Code, first.Runs, first.Count, first.Notes, second.Code, second.Runs, second.Count, second.Notes)
	}
}
