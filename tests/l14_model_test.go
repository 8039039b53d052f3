package tests

import (
	"fmt"
	"math/rand"
	"slices"
	"strings"
	"testing"

	"loop.example/g00014/impl"
)

// shownGlyph is a glyph of a plain font as a node.
func shownGlyph(font, code int64) nodes {
	g := plainGlyphOf(byte(code), font, 6553*(8+font))
	return nodes{{Kind: impl.NodeChar, Font: font, Char: code, Width: g.Width, Height: g.Height, Depth: g.Depth}}
}

// textPlainly is TextLine.
func textPlainly(s string, font int64) nodes {
	if !between(0, font, 15) || len(s) > 1000 {
		return nil
	}
	f := plainFontOf(font)
	words := slices.DeleteFunc(strings.Split(s, " "), func(word string) bool { return word == "" })
	var out nodes
	for i, word := range words {
		if i > 0 {
			out = append(out, glueNode(f.Space)...)
		}
		for _, p := range wordPlainly(f, []byte(word)) {
			if p.Code == -1 {
				out = append(out, kernNode(p.Kern)...)
			} else {
				out = append(out, shownGlyph(font, p.Code)...)
			}
		}
	}
	return out
}

// headPlainly is HeadOf.
func headPlainly(first, last string, width int64) nodes {
	row := listed(textPlainly(first, 0), fil(0), textPlainly(last, 0))
	return packedPlainly(row, false, 1, width, 0).Nodes
}

// footPlainly is FootOf.
func footPlainly(n, width int64) nodes {
	if n < 0 {
		return nil
	}
	row := listed(fil(0), textPlainly(fmt.Sprint(n), 0), fil(0))
	return packedPlainly(row, false, 1, width, 0).Nodes
}

// sheetBoxPlainly is SheetBox.
func sheetBoxPlainly(p impl.Page, n int64) nodes {
	box, ok := onlyBoxPlainly(p.Box)
	if !ok {
		return nil
	}
	head, foot := headPlainly(p.First, p.Last, box.Width), footPlainly(n, box.Width)
	if len(head) == 0 || len(foot) == 0 {
		return nil
	}
	stack := listed(head, kernNode(786432), p.Box, kernNode(786432), foot)
	return packedPlainly(stack, true, 0, 0, 0).Nodes
}

// sheetFor is the Sheet of what is built with such a Height.
func sheetFor(height int64) impl.Sheet {
	half := height / 2
	if half*2 > height {
		half--
	}
	return impl.Sheet{Height: height, Deep: 196608, Gap: glue(393216, 131072, 0, 0, 0), Notes: half}
}

// sheetsPlainly is Sheets.
func sheetsPlainly(b impl.Built) []nodes {
	var out []nodes
	for i, p := range pagesPlainly(b.Nodes, sheetFor(b.Height)) {
		sheet := sheetBoxPlainly(p, int64(i+1))
		if len(sheet) == 0 {
			return nil
		}
		out = append(out, sheet)
	}
	return out
}

// refsPlainly is Refs.
func refsPlainly(b impl.Built) []impl.Ref {
	var out []impl.Ref
	if len(sheetsPlainly(b)) == 0 {
		return nil
	}
	for i, p := range pagesPlainly(b.Nodes, sheetFor(b.Height)) {
		for _, text := range p.Writes {
			if !slices.ContainsFunc(out, func(r impl.Ref) bool { return r.Text == text }) {
				out = append(out, impl.Ref{Text: text, Page: int64(i + 1)})
			}
		}
	}
	return out[:min(len(out), 500)]
}

// checkText holds TextLine against the plain telling, and gives the nodes.
func checkText(t *testing.T, s string, font int64) nodes {
	t.Helper()
	got, want := impl.TextLine(s, font), textPlainly(s, font)
	if !same(got, want) {
		t.Fatalf("TextLine(%.40q, %d) = %+v, not %+v", s, font, short(got), short(want))
	}
	return got
}

// checkHead holds HeadOf against the plain telling, and gives the head.
func checkHead(t *testing.T, first, last string, width int64) nodes {
	t.Helper()
	got, want := impl.HeadOf(first, last, width), headPlainly(first, last, width)
	if !same(got, want) {
		t.Fatalf("HeadOf(%.40q, %.40q, %d) = %+v, not %+v", first, last, width, short(got), short(want))
	}
	return got
}

// checkFoot holds FootOf against the plain telling, and gives the foot.
func checkFoot(t *testing.T, n, width int64) nodes {
	t.Helper()
	got, want := impl.FootOf(n, width), footPlainly(n, width)
	if !same(got, want) {
		t.Fatalf("FootOf(%d, %d) = %+v, not %+v", n, width, got, want)
	}
	return got
}

// checkSheetBox holds SheetBox against the plain telling, and gives the sheet.
func checkSheetBox(t *testing.T, p impl.Page, n int64) nodes {
	t.Helper()
	got, want := impl.SheetBox(p, n), sheetBoxPlainly(p, n)
	if !same(got, want) {
		t.Fatalf("SheetBox of %+v with %.40q and %.40q, number %d: %+v, not %+v", short(p.Box), p.First, p.Last, n, short(got), short(want))
	}
	return got
}

// checkSheets holds Sheets and Refs against the plain telling, and gives both.
func checkSheets(t *testing.T, b impl.Built) ([]nodes, []impl.Ref) {
	t.Helper()
	got, want := impl.Sheets(b), sheetsPlainly(b)
	if !same(got, want) {
		t.Fatalf("Sheets of %+v, Height %d: %d of them, not %d: %+v, not %+v", short(b.Nodes), b.Height, len(got), len(want), got, want)
	}
	refs, wantRefs := impl.Refs(b), refsPlainly(b)
	if !same(refs, wantRefs) {
		t.Fatalf("Refs of %+v, Height %d: %+v, not %+v", short(b.Nodes), b.Height, refs, wantRefs)
	}
	return got, refs
}

func builtOf(height int64, parts ...nodes) impl.Built {
	return impl.Built{Nodes: listed(parts...), Height: height}
}

// randomTitle is what a mark or a write may say: words with ligatures and kerns, and bytes of which no font has a glyph.
func randomTitle(r *rand.Rand) string {
	if r.Intn(5) == 0 {
		return randomText(r, 12, "")
	}
	return randomText(r, 12, "abffiToVL.  \x80\t1")
}

// randomMessage is a mark or a write; many of the writes say the same.
func randomMessage(r *rand.Rand) nodes {
	switch r.Intn(4) {
	case 0:
		return writeNode(randomTitle(r))
	case 1:
		return writeNode(randomText(r, 1, "kl"))
	}
	return markNode(randomTitle(r))
}

// randomBuilt has pages as one builds them, with many marks and writes.
func randomBuilt(r *rand.Rand) impl.Built {
	l := randomStacks(r)
	if r.Intn(2) == 0 {
		l.most = 10 * impl.Point
	}
	var ns nodes
	for range r.Intn(14) {
		ns = append(ns, l.part()...)
		if r.Intn(3) == 0 {
			ns = append(ns, randomMessage(r)...)
		}
	}
	return impl.Built{Nodes: ns, Height: min(r.Int63n(5*l.most), maxLen)}
}
