package tests

import (
	"math/rand"
	"slices"
	"strings"
	"testing"

	"loop.example/g00014/impl"
)

// atoms are a formula, or a piece of one.
type atoms = []impl.Atom

func charAtom(class int64, c byte) atoms {
	return atoms{{Kind: impl.AtomChar, Class: class, Char: int64(c)}}
}

// holderAtom is an atom around others.
func holderAtom(kind, class int64, body ...atoms) atoms {
	inside := slices.Concat(body...)
	return append(atoms{{Kind: kind, Class: class, Body: int64(len(inside))}}, inside...)
}

func groupAtom(body ...atoms) atoms { return holderAtom(impl.AtomGroup, impl.Ord, body...) }

func rootAtom(body ...atoms) atoms { return holderAtom(impl.AtomRoot, impl.Ord, body...) }

// fracAtom is one of two formulas, each in a group.
func fracAtom(above, below atoms) atoms {
	return holderAtom(impl.AtomFrac, impl.Inner, groupAtom(above), groupAtom(below))
}

// withScripts is one atom, which has none yet, with these.
func withScripts(a, up, down atoms) atoms {
	out := slices.Concat(a, up, down)
	out[0].Up, out[0].Down = int64(len(up)), int64(len(down))
	return out
}

func formula(parts ...atoms) atoms { return slices.Concat(parts...) }

// mathTree is an atom with what belongs to it.
type mathTree struct {
	impl.Atom
	body, up, down []mathTree
}

// atomIs says of an atom alone whether it can be; its parts are formulas.
func atomIs(t mathTree) bool {
	if t.Class < 0 || t.Class > 7 {
		return false
	}
	switch t.Kind {
	case 1:
		return t.Char >= 33 && t.Char <= 126 && t.Body == 0
	case 2, 4:
		return t.Char == 0
	case 3:
		for _, part := range t.body {
			if part.Kind != 2 || part.Up+part.Down != 0 {
				return false
			}
		}
		return t.Char == 0 && len(t.body) == 2
	}
	return false
}

// grownMath is a formula that is in so many atoms' parts.
func grownMath(as atoms, around int) ([]mathTree, bool) {
	var out []mathTree
	for len(as) > 0 {
		t := mathTree{Atom: as[0]}
		as = as[1:]
		for _, part := range []struct {
			count int64
			tree  *[]mathTree
		}{{t.Body, &t.body}, {t.Up, &t.up}, {t.Down, &t.down}} {
			if part.count < 0 || part.count > int64(len(as)) {
				return nil, false
			}
			var ok bool
			if *part.tree, ok = grownMath(as[:part.count], around+1); !ok {
				return nil, false
			}
			as = as[part.count:]
		}
		if around > 40 || !atomIs(t) {
			return nil, false
		}
		out = append(out, t)
	}
	return out, true
}

func formulaPlainly(as atoms) ([]mathTree, bool) {
	if len(as) > 2000 {
		return nil, false
	}
	return grownMath(as, 0)
}

func (t mathTree) flat() atoms {
	parts := []atoms{{}, {}, {}}
	for i, part := range [][]mathTree{t.body, t.up, t.down} {
		for _, k := range part {
			parts[i] = append(parts[i], k.flat()...)
		}
	}
	t.Body, t.Up, t.Down = int64(len(parts[0])), int64(len(parts[1])), int64(len(parts[2]))
	return slices.Concat(atoms{t.Atom}, parts[0], parts[1], parts[2])
}

func classesPlainly(row []mathTree) []int64 {
	var out []int64
	for i, t := range row {
		class := t.Class
		if class == 2 {
			first, last := i == 0, i == len(row)-1
			if first || last || slices.Contains([]int64{2, 1, 3, 4, 6}, out[i-1]) || slices.Contains([]int64{3, 5, 6}, row[i+1].Class) {
				class = 0
			}
		}
		out = append(out, class)
	}
	return out
}

// gapTable is the document's, row by row.
const gapTable = `
 0   3  [4] [5]  0   0   0  [3]
 3   3   0  [5]  0   0   0  [3]
[4] [4]  0   0  [4]  0   0  [4]
[5] [5]  0   0  [5]  0   0  [5]
 0   0   0   0   0   0   0   0
 0   3  [4] [5]  0   0   0  [3]
[3] [3]  0  [3] [3] [3] [3] [3]
[3]  3  [4] [5] [3]  0  [3] [3]`

func gapPlainly(a, b int64, small bool) int64 {
	if a < 0 || a > 7 || b < 0 || b > 7 {
		return 0
	}
	cell := strings.Fields(gapTable)[8*a+b]
	inBrackets := strings.HasPrefix(cell, "[")
	if inBrackets && small {
		return 0
	}
	return int64(strings.Trim(cell, "[]")[0] - '0')
}

// mathPlainly sets formulas in one style.
type mathPlainly struct{ style, base int64 }

func (m mathPlainly) font() int64 {
	return max(0, m.base-[]int64{0, 0, 3, 5}[m.style])
}

// unit is a tenth of the font's size: a Quad is 10 of it, a Rise 4.
func (m mathPlainly) unit() int64 { return 6553 * (8 + m.font()) }

func (m mathPlainly) scripts() mathPlainly {
	return mathPlainly{[]int64{2, 2, 3, 3}[m.style], m.base}
}

func (m mathPlainly) parts() mathPlainly {
	return mathPlainly{[]int64{1, 2, 3, 3}[m.style], m.base}
}

func (m mathPlainly) char(c int64) nodes {
	g := plainGlyphOf(byte(c), m.font(), m.unit())
	return nodes{{Kind: impl.NodeChar, Font: m.font(), Char: c, Width: g.Width, Height: g.Height, Depth: g.Depth}}
}

// noBox is what is given up with when a box can't be packed.
type noBox struct{}

func mustPack(p impl.Packed) nodes {
	if len(p.Nodes) == 0 {
		panic(noBox{})
	}
	return p.Nodes
}

func shiftBox(box nodes, shift int64) nodes {
	if !fitsPlainly(shift) {
		panic(noBox{})
	}
	box[0].Shift = shift
	return box
}

func (m mathPlainly) packed(row []mathTree) nodes {
	return mustPack(packedPlainly(m.row(row), false, 0, 0, 0))
}

func (m mathPlainly) body(t mathTree) nodes {
	rise := 4 * m.unit()
	bar := rise / 10
	switch t.Kind {
	case 1:
		return m.char(t.Char)
	case 2:
		return m.packed(t.body)
	case 3:
		first, second := m.parts().packed(t.body[0].body), m.parts().packed(t.body[1].body)
		w := max(first[0].Width, second[0].Width)
		fil := glueNode(impl.Glue{Plus: 65536, PlusOrder: 1})
		first = mustPack(packedPlainly(listed(fil, first, fil), false, 1, w, 0))
		second = mustPack(packedPlainly(listed(fil, second, fil), false, 1, w, 0))
		box := mustPack(packedPlainly(listed(first, kernNode(bar*2), ruleNode(w, bar, 0), kernNode(bar*2), second), true, 0, 0, 0))
		return shiftBox(box, box[0].Height-(first[0].Height+first[0].Depth)-bar*3-rise/2)
	}
	a := m.packed(t.body)
	return listed(m.char(118), mustPack(packedPlainly(listed(ruleNode(a[0].Width, bar, 0), kernNode(bar), a), true, 0, 0, a[0].Depth)))
}

func (m mathPlainly) behindBody(t mathTree) nodes {
	rise := 4 * m.unit()
	if len(t.up) > 0 && len(t.down) > 0 {
		up, down := m.scripts().packed(t.up), m.scripts().packed(t.down)
		box := mustPack(packedPlainly(listed(up, kernNode(rise/2), down), true, 0, 0, 1073741823))
		return shiftBox(box, down[0].Depth-rise/2)
	}
	if len(t.up) > 0 {
		return shiftBox(m.scripts().packed(t.up), -rise)
	}
	if len(t.down) > 0 {
		return shiftBox(m.scripts().packed(t.down), rise/2)
	}
	return nil
}

func (m mathPlainly) row(row []mathTree) nodes {
	var out nodes
	classes := classesPlainly(row)
	for i, t := range row {
		if i > 0 {
			gap := gapPlainly(classes[i-1], classes[i], m.style >= 2)
			if kern := gap * 10 * m.unit() / 18; kern != 0 {
				out = append(out, kernNode(kern)...)
			}
		}
		out = append(out, listed(m.body(t), m.behindBody(t))...)
	}
	return out
}

// mathRowPlainly is SetMath.
func mathRowPlainly(as atoms, style, font int64) (out nodes) {
	row, ok := formulaPlainly(as)
	if !ok || !between(0, style, 3) || !between(0, font, 15) {
		return nil
	}
	defer func() {
		if fault := recover(); fault != nil {
			_ = fault.(noBox)
			out = nil
		}
	}()
	return mathPlainly{style, font}.row(row)
}

// cutPiece is the byte or group a text begins with: its text, what is behind, whether it is a group.
func cutPiece(s string) (piece, rest string, group, ok bool) {
	if s == "" || strings.ContainsAny(s[:1], `^_/\}`) || s[0] < 33 || s[0] > 126 {
		return "", "", false, false
	}
	if s[0] != '{' {
		return s[:1], s[1:], false, true
	}
	open := 0
	for i := range len(s) {
		switch s[i] {
		case '{':
			open++
		case '}':
			open--
		}
		if open == 0 {
			return s[1:i], s[i+1:], true, true
		}
	}
	return "", "", false, false
}

// inGroup is a tree as a fraction has it.
func inGroup(t mathTree) mathTree {
	if t.Kind == 2 {
		return t
	}
	return mathTree{Atom: impl.Atom{Kind: 2}, body: []mathTree{t}}
}

// readAtoms are the atoms of a text without blanks that stands in so many groups.
func readAtoms(s string, around int) ([]mathTree, bool) {
	var out []mathTree
	for s != "" {
		sign := byte(' ')
		if strings.ContainsAny(s[:1], `^_/\`) {
			sign, s = s[0], s[1:]
		}
		piece, rest, group, ok := cutPiece(s)
		if !ok || group && around == 40 {
			return nil, false
		}
		s = rest
		var next []mathTree
		one := mathTree{Atom: impl.Atom{Kind: 1}}
		if group {
			if next, ok = readAtoms(piece, around+1); !ok {
				return nil, false
			}
			one = mathTree{Atom: impl.Atom{Kind: 2}, body: next}
		} else {
			one.Char = int64(piece[0])
			one.Class = classPlainly(one.Char)
			next = []mathTree{one}
		}
		if strings.IndexByte("^_/", sign) >= 0 {
			if len(out) == 0 || !joinPiece(&out[len(out)-1], sign, one, next) {
				return nil, false
			}
			continue
		}
		if sign == '\\' {
			one = mathTree{Atom: impl.Atom{Kind: 4}, body: next}
		}
		out = append(out, one)
	}
	return out, true
}

// joinPiece makes of the atom ahead what a sign and the piece behind it say; next is the piece as a formula.
func joinPiece(ahead *mathTree, sign byte, one mathTree, next []mathTree) bool {
	if sign == '/' {
		ok := ahead.Kind != 4 && len(ahead.up)+len(ahead.down) == 0
		*ahead = mathTree{Atom: impl.Atom{Kind: 3, Class: 7}, body: []mathTree{inGroup(*ahead), inGroup(one)}}
		return ok
	}
	place := &ahead.down
	if sign == '^' {
		place = &ahead.up
	}
	ok := len(*place) == 0 && len(next) > 0
	*place = next
	return ok
}

func classPlainly(c int64) int64 {
	for class, of := range []string{"", "", "+-*", "<=>:", "([", ")]!?", ",;"} {
		if c > 0 && c < 128 && strings.Contains(of, string(rune(c))) {
			return int64(class)
		}
	}
	return 0
}

// readMathPlainly is ReadMath.
func readMathPlainly(s string) (atoms, bool) {
	if len(s) > 1000 {
		return nil, false
	}
	row, ok := readAtoms(strings.Join(strings.Split(s, " "), ""), 0)
	var out atoms
	for _, t := range row {
		out = append(out, t.flat()...)
	}
	if _, can := formulaPlainly(out); !ok || !can {
		return nil, false
	}
	return out, true
}

// shortAtoms is what a fault tells of a formula: no more than some of it.
func shortAtoms(as atoms) atoms { return as[:min(len(as), 20)] }

// checkFormula holds FormulaOk and Classes against the plain telling, and tells whether it is one.
func checkFormula(t *testing.T, as atoms) bool {
	t.Helper()
	row, want := formulaPlainly(as)
	if got := impl.FormulaOk(as); got != want {
		t.Fatalf("FormulaOk(%+v) = %v", shortAtoms(as), got)
	}
	if got, want := impl.Classes(as), classesPlainly(row); !same(got, want) {
		t.Fatalf("Classes(%+v) = %v, not %v", shortAtoms(as), got, want)
	}
	return want
}

// checkMath holds SetMath and MathSize against the plain telling, and gives the row.
func checkMath(t *testing.T, as atoms, style, font int64) nodes {
	t.Helper()
	got, want := impl.SetMath(as, style, font), mathRowPlainly(as, style, font)
	if !same(got, want) {
		t.Fatalf("SetMath(%+v, %d, %d) = %+v, not %+v", shortAtoms(as), style, font, short(got), short(want))
	}
	if got, want := impl.MathSize(as, style, font), naturalPlainly(want, true); got != want {
		t.Fatalf("MathSize(%+v, %d, %d) = %v, not %v", shortAtoms(as), style, font, got, want)
	}
	return got
}

// checkReadMath holds ReadMath against the plain telling, and gives what is read.
func checkReadMath(t *testing.T, s string) (atoms, bool) {
	t.Helper()
	got, ok := impl.ReadMath(s)
	if want, can := readMathPlainly(s); ok != can || !same(got, want) {
		t.Fatalf("ReadMath(%q) = %+v %v, not %+v %v", s, shortAtoms(got), ok, shortAtoms(want), can)
	}
	return got, ok
}

// readsAs is the formula of a text that has one.
func readsAs(t *testing.T, s string) atoms {
	t.Helper()
	as, ok := checkReadMath(t, s)
	if !ok {
		t.Fatalf("ReadMath(%q) is false", s)
	}
	return as
}

// formulas are made at random.
type formulas struct{ *rand.Rand }

func (r formulas) char() atoms {
	const some = "abgpqxyzAX019+-*<=>:([)]!?,;|v."
	if r.Intn(3) == 0 {
		return charAtom(r.Int63n(8), byte(33+r.Intn(94)))
	}
	c := some[r.Intn(len(some))]
	return charAtom(classPlainly(int64(c)), c)
}

// atom is one of any kind, with others in it no more than so deep.
func (r formulas) atom(deep int) atoms {
	if deep <= 0 {
		return r.char()
	}
	var a atoms
	switch r.Intn(9) {
	case 0, 1:
		a = groupAtom(r.row(4, deep-1))
	case 2:
		a = fracAtom(r.row(3, deep-2), r.row(3, deep-2))
	case 3:
		a = rootAtom(r.row(3, deep-1))
	default:
		a = r.char()
	}
	if r.Intn(3) == 0 && a[0].Kind != impl.AtomChar {
		a[0].Class = r.Int63n(8)
	}
	switch r.Intn(8) {
	case 0:
		return withScripts(a, r.row(3, deep-1), nil)
	case 1:
		return withScripts(a, nil, r.row(3, deep-1))
	case 2:
		return withScripts(a, r.row(3, deep-1), r.row(3, deep-1))
	}
	return a
}

func (r formulas) row(most, deep int) atoms {
	var out atoms
	for range r.Intn(most + 1) {
		out = append(out, r.atom(deep)...)
	}
	return out
}
