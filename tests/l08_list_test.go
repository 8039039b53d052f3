package tests

import (
	"math"
	"math/rand"
	"reflect"
	"slices"
	"strings"
	"testing"

	"loop.example/g00014/impl"
)

// oneOfEach is an item of each kind, those with Kids around one node.
func oneOfEach() []nodes {
	inner := charNode('i', 1, 2, 3)
	return []nodes{
		charNode('a', 10, 7, 2),
		kernNode(-4),
		setGlueNode(glue(5, 4, 1, 3, 2), 6),
		penaltyNode(50),
		ruleNode(9, 8, 7),
		hboxNode(10, 11, 12, -13, inner),
		vboxNode(10, 11, 12, 13, inner),
		hyphenNode('-', 3, 4, 0),
		markNode("mark"),
		writeNode("write"),
		noteNode(2, 14, inner),
	}
}

// aroundPiece are lists in which a piece stands: alone, between others, and in boxes and a note.
func aroundPiece(piece nodes) []nodes {
	a := charNode('a', 10, 7, 2)
	return []nodes{
		piece,
		listed(a, piece, a),
		hboxNode(1, 1, 1, 0, a, piece),
		vboxNode(1, 1, 1, 0, noteNode(0, 0, piece, a), a),
	}
}

func checkTaken(t *testing.T, what string, piece nodes) {
	t.Helper()
	for _, ns := range aroundPiece(piece) {
		if !checkList(t, ns) {
			t.Errorf("%s: refused: %+v", what, short(ns))
		}
	}
}

// checkNoList: what is no list is refused by all functions.
func checkNoList(t *testing.T, what string, ns nodes) {
	t.Helper()
	if checkList(t, ns) {
		t.Errorf("%s: taken: %+v", what, short(ns))
	}
	h, v := impl.HPack(ns, 1, 100), impl.VPack(ns, 0, 0, 0)
	if len(h.Nodes)+len(v.Nodes) > 0 || h.Set != (impl.Setting{}) || v.Set != (impl.Setting{}) {
		t.Errorf("%s: packed: %+v", what, short(ns))
	}
	if len(impl.Items(ns)) > 0 || len(impl.Inside(ns)) > 0 || len(impl.Spots(ns, 0, 0)) > 0 {
		t.Errorf("%s: gone through: %+v", what, short(ns))
	}
	if impl.Natural(ns, true) != (impl.Size{}) || impl.Natural(ns, false) != (impl.Size{}) {
		t.Errorf("%s: measured: %+v", what, short(ns))
	}
}

// checkRefused: a piece that can't be makes a list none, wherever it stands.
func checkRefused(t *testing.T, what string, piece nodes) {
	t.Helper()
	for _, ns := range aroundPiece(piece) {
		checkNoList(t, what, ns)
	}
}

func TestListsOfEachKind(t *testing.T) {
	for _, piece := range oneOfEach() {
		checkTaken(t, "a kind", piece)
	}
	all := slices.Concat(oneOfEach()...)
	checkTaken(t, "all kinds", all)
	if items := impl.Items(all); !same(items, oneOfEach()) {
		t.Error("Items of one of each:", items)
	}
	if !impl.ListOk(nil) || !impl.ListOk(nodes{}) || len(impl.Items(nil)) != 0 {
		t.Error("the empty list")
	}
}

func TestKindsThatAreNone(t *testing.T) {
	for _, kind := range []int64{-1, 0, 12, 13, 1 + 256, math.MinInt64, math.MaxInt64} {
		checkRefused(t, "a kind that is none", nodes{{Kind: kind}})
	}
	for kind := int64(-3); kind < 20; kind++ {
		if got := impl.ListOk(nodes{{Kind: kind}}); got != (kind >= 1 && kind <= 11) {
			t.Errorf("a zero node of kind %d: %v", kind, got)
		}
	}
}

// otherValues are values of a type, none of them zero.
func otherValues(of reflect.Type) []any {
	switch of {
	case reflect.TypeFor[string]():
		return []any{"x", strings.Repeat("x", 1000)}
	case reflect.TypeFor[impl.Glue]():
		return []any{impl.Glue{Size: 1}, impl.Glue{Plus: 1}, impl.Glue{PlusOrder: 1}, impl.Glue{Minus: -1}, impl.Glue{MinusOrder: 3}}
	}
	return []any{int64(1), int64(-1), int64(15)}
}

// Each kind with each field that it does not use: no such field may have a value.
func TestFieldsThatAKindDoesNotUse(t *testing.T) {
	count := 0
	for _, piece := range oneOfEach() {
		fields := reflect.TypeFor[impl.Node]()
		for i := range fields.NumField() {
			f := fields.Field(i)
			if f.Name == "Kind" || strings.Contains(usedFields[piece[0].Kind], " "+f.Name+" ") {
				continue
			}
			for _, value := range otherValues(f.Type) {
				wrong := append(slices.Clone(piece), charNode('z', 1, 1, 1)...) // so that Kids have what they could hold
				reflect.ValueOf(&wrong[0]).Elem().Field(i).Set(reflect.ValueOf(value))
				checkRefused(t, f.Name, wrong)
				count++
			}
		}
	}
	if count < 200 {
		t.Error("too few:", count)
	}
}

// changedNode is a piece of which the first node has a field with another value.
func changedNode(piece nodes, field string, value any) nodes {
	out := slices.Clone(piece)
	reflect.ValueOf(&out[0]).Elem().FieldByName(field).Set(reflect.ValueOf(value))
	return out
}

// fieldEdges are values that a field of a kind may just have, and those that it may not.
func fieldEdges(kind int64, field string) (can, cannot []any) {
	numbers := func(least, most int64) ([]any, []any) {
		return []any{least, most}, []any{least - 1, most + 1, int64(math.MinInt64), int64(math.MaxInt64)}
	}
	switch {
	case field == "Font":
		return numbers(0, 15)
	case field == "Char":
		return numbers(0, 255)
	case field == "N" && kind == impl.NodePenalty:
		return numbers(-10000, 10000)
	case field == "N":
		return numbers(0, 15)
	case field == "Text":
		long := strings.Repeat("\xff\x00x", 400)
		return []any{"", "\x00", long[:impl.MaxNoteText]}, []any{long[:impl.MaxNoteText+1], long}
	case field == "Glue":
		for _, g := range edgeGlues() {
			can = append(can, g)
		}
		for _, g := range noGlues() {
			cannot = append(cannot, g)
		}
		return can, cannot
	}
	return numbers(-impl.MaxLen, impl.MaxLen)
}

func TestFieldsAtTheirBounds(t *testing.T) {
	for _, piece := range oneOfEach() {
		kind := piece[0].Kind
		for _, field := range strings.Fields(usedFields[kind]) {
			if field == "Kids" {
				continue
			}
			can, cannot := fieldEdges(kind, field)
			for _, value := range can {
				ns := changedNode(piece, field, value)
				if !impl.ListOk(ns) || !impl.ListOk(vboxNode(0, 0, 0, 0, ns)) {
					t.Errorf("kind %d, %s of %v: refused", kind, field, value)
				}
				checkList(t, ns)
			}
			for _, value := range cannot {
				checkRefused(t, field, changedNode(piece, field, value))
			}
		}
	}
}

func TestKidsEndWithinWhatTheyBelongTo(t *testing.T) {
	a := charNode('a', 1, 1, 1)
	// box is one of which the Kids are as said, whatever is behind it.
	box := func(kind, kids int64, behind ...nodes) nodes {
		return append(nodes{{Kind: kind, Kids: kids}}, slices.Concat(behind...)...)
	}
	for _, kind := range []int64{impl.NodeHbox, impl.NodeVbox, impl.NodeNote} {
		for what, ns := range map[string]nodes{
			"no Kids":                    box(kind, 0),
			"no Kids, with nodes behind": box(kind, 0, a, a),
			"all that is behind":         box(kind, 2, a, a),
			"one that is behind":         box(kind, 1, a, a),
			"boxes that end together":    box(kind, 3, box(kind, 2, box(kind, 1, a))),
			"boxes that end in turn":     box(kind, 5, box(kind, 3, box(kind, 1, a), a), a),
			"boxes beside each other":    box(kind, 3, box(kind, 0), box(kind, 1, a), box(kind, 0)),
		} {
			if !checkList(t, ns) {
				t.Errorf("kind %d, %s: refused", kind, what)
			}
		}
		for what, ns := range map[string]nodes{
			"Kids below 0":                     box(kind, -1, a, a),
			"least Kids":                       box(kind, math.MinInt64, a, a),
			"most Kids":                        box(kind, math.MaxInt64, a, a),
			"one beyond the list":              box(kind, 3, a, a),
			"one beyond nothing":               box(kind, 1),
			"one beyond the box":               box(kind, 2, box(kind, 2, a), a),
			"one beyond the innermost":         box(kind, 4, box(kind, 2, box(kind, 2, a), a)),
			"beyond the box, within the outer": box(kind, 4, box(kind, 1, box(kind, 2, a, a))),
			"beyond the box and the list":      box(kind, 2, a, box(kind, 1)),
			"below 0 in a box":                 box(kind, 2, box(kind, -1, a), a),
			"of the last node":                 listed(a, a, box(kind, 1)),
		} {
			checkNoList(t, what, ns)
			checkNoList(t, what, vboxNode(1, 1, 1, 0, a, ns))
			checkNoList(t, what, listed(hboxNode(1, 1, 1, 0, a, ns), a, a)) // within the list, but beyond the box
		}
	}
	for _, piece := range oneOfEach() {
		kind := piece[0].Kind
		if kind != impl.NodeHbox && kind != impl.NodeVbox && kind != impl.NodeNote {
			checkRefused(t, "Kids of another kind", listed(changedNode(piece, "Kids", int64(1)), a))
		}
	}
}

// manyNodes are so many nodes, each an item.
func manyNodes(n int) nodes { return slices.Repeat(charNode('m', 1, 2, 3), n) }

func TestTheMostNodes(t *testing.T) {
	most := manyNodes(impl.MaxNodes)
	if !checkList(t, most) || len(impl.Items(most)) != impl.MaxNodes {
		t.Error("MaxNodes nodes are refused")
	}
	if full := hboxNode(0, 0, 0, 0, manyNodes(impl.MaxNodes-1)); !checkList(t, full) || len(impl.Spots(full, 0, 0)) != impl.MaxNodes-1 || len(impl.Inside(full)) != impl.MaxNodes-1 {
		t.Error("a box with MaxNodes less 1 nodes is refused")
	}
	over := manyNodes(impl.MaxNodes + 1)
	if checkList(t, over) || len(impl.Items(over)) > 0 {
		t.Error("more than MaxNodes nodes are taken")
	}
	if full := hboxNode(0, 0, 0, 0, manyNodes(impl.MaxNodes)); checkList(t, full) || len(impl.Spots(full, 0, 0)) > 0 || len(impl.Inside(full)) > 0 {
		t.Error("a box with MaxNodes nodes is taken")
	}
	for _, down := range []bool{false, true} {
		if p := checkPack(t, most[1:], down, 0, 0, 0); len(p.Nodes) != impl.MaxNodes {
			t.Error("MaxNodes less 1 nodes are not packed")
		}
		if p := checkPack(t, most, down, 0, 0, 0); len(p.Nodes) != 0 {
			t.Error("MaxNodes nodes are packed")
		}
	}
	if impl.Natural(most[1:], true) != sized(impl.MaxNodes-1, 2, 3) || impl.Natural(most, true) != (impl.Size{}) {
		t.Error("Natural of MaxNodes nodes")
	}
}

// nest are so many of these kinds in one another, by turns, around a piece.
func nest(deep int, piece nodes, kinds ...int64) nodes {
	for at := range deep {
		piece = boxNode(kinds[at%len(kinds)], 0, 0, 0, 0, piece)
	}
	return piece
}

func TestTheMostInOneAnother(t *testing.T) {
	a := charNode('a', 1, 1, 1)
	h, v, n := int64(impl.NodeHbox), int64(impl.NodeVbox), int64(impl.NodeNote)
	for _, kinds := range [][]int64{{h}, {v}, {n}, {h, v}, {v, n}, {n, v, h}} {
		for _, piece := range []nodes{nil, a, listed(a, a)} {
			for deep, want := range map[int]bool{1: true, 39: true, 40: true, 41: true, 42: false, 43: false, 300: false} {
				ns := nest(deep, piece, kinds...)
				if got := checkList(t, ns); got != want {
					t.Errorf("%d in one another of %v: %v", deep, kinds, got)
				}
				if got := checkList(t, listed(a, nest(2, a, h), ns, a)); got != want {
					t.Errorf("%d in one another of %v among others: %v", deep, kinds, got)
				}
				for _, down := range []bool{false, true} {
					p := checkPack(t, ns, down, 0, 0, 0)
					if packs := len(p.Nodes) > 0; packs != (deep <= impl.MaxNest) {
						t.Errorf("%d in one another of %v, down %v: packed %v", deep, kinds, down, packs)
					}
				}
			}
		}
	}
	// Those beside each other are in no other.
	if beside := slices.Repeat(nest(41, nil, h, n), 100); !checkList(t, beside) {
		t.Error("many beside each other are refused")
	}
	if deepest := nest(impl.MaxNest+1, a, h); len(impl.Spots(deepest, 5, 6)) != 1 || !same(impl.Inside(deepest), nest(impl.MaxNest, a, h)) {
		t.Error("the deepest box")
	}
	if beyond := nest(impl.MaxNest+2, a, h); len(impl.Spots(beyond, 5, 6)) != 0 || len(impl.Inside(beyond)) != 0 {
		t.Error("a box that is too deep is gone through")
	}
}

func TestItemsKnown(t *testing.T) {
	a, b := charNode('a', 1, 1, 1), charNode('b', 2, 2, 2)
	deep := hboxNode(1, 2, 3, 4, a, vboxNode(5, 6, 7, 8, b, a), noteNode(1, 2))
	note := noteNode(15, 9, b, deep)
	for _, want := range [][]nodes{
		{a},
		{a, b},
		{deep},
		{note, a, deep},
		{hboxNode(0, 0, 0, 0), vboxNode(0, 0, 0, 0), noteNode(0, 0), b},
		{deep, note, deep},
	} {
		ns := slices.Concat(want...)
		if got := impl.Items(ns); !same(got, want) {
			t.Errorf("Items(%+v) = %+v", ns, got)
		}
		checkList(t, ns)
	}
}

func TestItemsAreTheList(t *testing.T) {
	r := rand.New(rand.NewSource(91))
	for range 2000 {
		ns := randomLengths(r).list(12, 4)
		items := impl.Items(ns)
		if !same(slices.Concat(items...), ns) {
			t.Fatalf("the items of %+v are %+v", ns, items)
		}
		for _, item := range items {
			if again := impl.Items(item); len(again) != 1 || !same(again[0], item) {
				t.Fatalf("an item has the items %+v", again)
			}
		}
	}
}

// strange are values of which some are at a bound, and some beyond.
var strange = []int64{math.MinInt64, -impl.MaxLen - 1, -impl.MaxLen, -10001, -10000, -1, 0, 1, 2, 3, 7, 11, 12, 15, 16, 255, 256, 10000, 10001, impl.MaxLen, impl.MaxLen + 1, math.MaxInt64}

// spoilNode changes one field of a node, or of its glue.
func spoilNode(r *rand.Rand, n *impl.Node) {
	v := reflect.ValueOf(n).Elem()
	if r.Intn(4) == 0 {
		v = v.FieldByName("Glue")
	}
	switch f := v.Field(r.Intn(v.NumField())); f.Kind() {
	case reflect.Int64:
		f.SetInt(strange[r.Intn(len(strange))])
	case reflect.String:
		f.SetString(strings.Repeat("t", []int{0, 1, 1000, 1001}[r.Intn(4)]))
	}
}

func TestListOkAtRandom(t *testing.T) {
	t.Parallel()
	r := rand.New(rand.NewSource(92))
	can := 0
	for range 20000 {
		ns := randomLengths(r).list(8, 3)
		for range r.Intn(3) {
			if len(ns) > 0 {
				spoilNode(r, &ns[r.Intn(len(ns))])
			}
		}
		if checkList(t, ns) {
			can++
		} else if p := impl.HPack(ns, 0, 0); len(p.Nodes) > 0 {
			t.Fatalf("packed: %+v", ns)
		}
	}
	if can < 4000 || can > 16000 {
		t.Error("too much of one kind:", can)
	}
}
