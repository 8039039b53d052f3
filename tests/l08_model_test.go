package tests

import (
	"math/rand"
	"reflect"
	"slices"
	"strings"
	"testing"

	"loop.example/g00014/impl"
)

// nodes are a list, or a piece of one.
type nodes = []impl.Node

func charNode(c, width, height, depth int64) nodes {
	return nodes{{Kind: impl.NodeChar, Font: 3, Char: c, Width: width, Height: height, Depth: depth}}
}

func hyphenNode(c, width, height, depth int64) nodes {
	return nodes{{Kind: impl.NodeHyphen, Font: 3, Char: c, Width: width, Height: height, Depth: depth}}
}

func kernNode(width int64) nodes { return nodes{{Kind: impl.NodeKern, Width: width}} }

func glueNode(g impl.Glue) nodes { return nodes{{Kind: impl.NodeGlue, Glue: g}} }

// setGlueNode is a glue that is set so long.
func setGlueNode(g impl.Glue, width int64) nodes {
	return nodes{{Kind: impl.NodeGlue, Glue: g, Width: width}}
}

func penaltyNode(n int64) nodes { return nodes{{Kind: impl.NodePenalty, N: n}} }

func ruleNode(width, height, depth int64) nodes {
	return nodes{{Kind: impl.NodeRule, Width: width, Height: height, Depth: depth}}
}

func markNode(text string) nodes  { return nodes{{Kind: impl.NodeMark, Text: text}} }
func writeNode(text string) nodes { return nodes{{Kind: impl.NodeWrite, Text: text}} }

func noteNode(n, height int64, kids ...nodes) nodes {
	inside := slices.Concat(kids...)
	return append(nodes{{Kind: impl.NodeNote, N: n, Height: height, Kids: int64(len(inside))}}, inside...)
}

func boxNode(kind, width, height, depth, shift int64, kids ...nodes) nodes {
	inside := slices.Concat(kids...)
	return append(nodes{{Kind: kind, Width: width, Height: height, Depth: depth, Shift: shift, Kids: int64(len(inside))}}, inside...)
}

func hboxNode(width, height, depth, shift int64, kids ...nodes) nodes {
	return boxNode(impl.NodeHbox, width, height, depth, shift, kids...)
}

func vboxNode(width, height, depth, shift int64, kids ...nodes) nodes {
	return boxNode(impl.NodeVbox, width, height, depth, shift, kids...)
}

func listed(parts ...nodes) nodes { return slices.Concat(parts...) }

// usedFields are, by kind, those that the document's table names.
var usedFields = map[int64]string{
	impl.NodeChar:    " Font Char Width Height Depth ",
	impl.NodeKern:    " Width ",
	impl.NodeGlue:    " Glue Width ",
	impl.NodePenalty: " N ",
	impl.NodeRule:    " Width Height Depth ",
	impl.NodeHbox:    " Width Height Depth Shift Kids ",
	impl.NodeVbox:    " Width Height Depth Shift Kids ",
	impl.NodeHyphen:  " Font Char Width Height Depth ",
	impl.NodeMark:    " Text ",
	impl.NodeWrite:   " Text ",
	impl.NodeNote:    " N Height Kids ",
}

func fitsPlainly(xs ...int64) bool {
	return slices.Max(xs) <= 1073741823 && slices.Min(xs) >= -1073741823
}

// nodeIs says of a node alone whether it is as the table wants it; what its Kids are is not asked.
func nodeIs(n impl.Node) bool {
	used, ok := usedFields[n.Kind]
	v := reflect.ValueOf(n)
	for i := range v.NumField() {
		name := v.Type().Field(i).Name
		ok = ok && (name == "Kind" || v.Field(i).IsZero() || strings.Contains(used, " "+name+" "))
	}
	least, most := int64(-10000), int64(10000)
	if n.Kind == impl.NodeNote {
		least, most = 0, 15
	}
	g := n.Glue
	ok = ok && fitsPlainly(n.Width, n.Height, n.Depth, n.Shift, g.Size, g.Plus, g.Minus) && min(g.PlusOrder, g.MinusOrder) >= 0 && max(g.PlusOrder, g.MinusOrder) <= 3
	return ok && n.Font >= 0 && n.Font <= 15 && n.Char >= 0 && n.Char <= 255 && n.N >= least && n.N <= most && len(n.Text) <= 1000
}

// tree is an item with the items of what belongs to it.
type tree struct {
	impl.Node
	kids []tree
}

// grown are the items of a list that stands in so many boxes and notes.
func grown(ns nodes, around int) ([]tree, bool) {
	var out []tree
	for len(ns) > 0 {
		n := ns[0]
		tooDeep := strings.Contains(usedFields[n.Kind], "Kids") && around > 40
		if !nodeIs(n) || tooDeep || n.Kids < 0 || n.Kids > int64(len(ns))-1 {
			return nil, false
		}
		kids, ok := grown(ns[1:1+n.Kids], around+1)
		if !ok {
			return nil, false
		}
		out = append(out, tree{n, kids})
		ns = ns[1+n.Kids:]
	}
	return out, true
}

func listPlainly(ns nodes) ([]tree, bool) {
	if len(ns) > 20000 {
		return nil, false
	}
	return grown(ns, 0)
}

// flat is a tree as a list again.
func (t tree) flat() nodes {
	out := nodes{t.Node}
	for _, k := range t.kids {
		out = append(out, k.flat()...)
	}
	return out
}

func (t tree) isBox() bool { return t.Kind == impl.NodeHbox || t.Kind == impl.NodeVbox }

// solid are the kinds that have a size in a row, or in a stack.
func (t tree) solid(down bool) bool {
	return t.isBox() || t.Kind == impl.NodeRule || t.Kind == impl.NodeChar && !down
}

// long is how far an item reaches along a row or a stack, but for a glue.
func (t tree) long(down bool) int64 {
	switch {
	case t.Kind == impl.NodeKern, t.solid(false) && !down:
		return t.Width
	case t.solid(down):
		return t.Height + t.Depth
	}
	return 0
}

// framePlainly is the box around the items, but for its length, and how long all but their glues is.
func framePlainly(items []tree, down bool, deep int64) (impl.Node, int64) {
	box := impl.Node{Kind: impl.NodeHbox}
	rest := int64(0)
	for _, t := range items {
		rest += t.long(down)
		if t.solid(false) && !down {
			box.Height, box.Depth = max(box.Height, t.Height-t.Shift), max(box.Depth, t.Depth+t.Shift)
		}
		if t.solid(true) && down {
			box.Width = max(box.Width, t.Width+t.Shift)
		}
	}
	if !down {
		return box, rest
	}
	box.Kind = impl.NodeVbox
	if last := len(items) - 1; last >= 0 && items[last].solid(true) {
		depth := items[last].Depth
		rest -= depth
		box.Depth = depth
		if depth > deep {
			box.Depth = deep
			rest += depth - deep
		}
	}
	return box, rest
}

// packedPlainly is HPack, or VPack when it goes down.
func packedPlainly(ns nodes, down bool, mode, size, deep int64) impl.Packed {
	items, ok := grown(ns, 1)
	if !ok || len(ns) > 19999 || mode < 0 || mode > 2 || !fitsPlainly(size) || deep < 0 || !fitsPlainly(deep) {
		return impl.Packed{}
	}
	box, rest := framePlainly(items, down, deep)
	var glues []impl.Glue
	natural := rest
	for _, t := range items {
		if t.Kind == impl.NodeGlue {
			glues = append(glues, t.Glue)
			natural += t.Glue.Size
		}
	}
	length := []int64{natural, size, natural + size}[mode]
	if down {
		box.Height = length
	} else {
		box.Width = length
	}
	if len(glues) > 10000 || !fitsPlainly(rest, box.Width, box.Height, box.Depth) {
		return impl.Packed{}
	}
	widths, set := sharedOut(glues, rest, length)
	box.Kids = int64(len(ns))
	out := nodes{box}
	for _, t := range items {
		if t.Kind == impl.NodeGlue {
			t.Width, widths = widths[0], widths[1:]
			if !fitsPlainly(t.Width) {
				return impl.Packed{}
			}
		}
		out = append(out, t.flat()...)
	}
	return impl.Packed{Nodes: out, Set: set}
}

func naturalPlainly(ns nodes, row bool) impl.Size {
	p := packedPlainly(ns, !row, 0, 0, 1073741823)
	if len(p.Nodes) == 0 {
		return impl.Size{}
	}
	return impl.Size{Width: p.Nodes[0].Width, Height: p.Nodes[0].Height, Depth: p.Nodes[0].Depth}
}

// onlyBoxPlainly is the one item of a list, if it is a box.
func onlyBoxPlainly(ns nodes) (tree, bool) {
	items, ok := listPlainly(ns)
	if !ok || len(items) != 1 || !items[0].isBox() {
		return tree{}, false
	}
	return items[0], true
}

func insidePlainly(ns nodes) nodes {
	var out nodes
	box, _ := onlyBoxPlainly(ns)
	for _, t := range box.kids {
		if t.Kind == impl.NodeGlue {
			t.Width = 0
		}
		out = append(out, t.flat()...)
	}
	return out
}

// ahead is how far the items in front of one reach, along their box.
func (t tree) ahead(at int) int64 {
	sum := int64(0)
	for _, k := range t.kids[:at] {
		sum += k.long(t.Kind == impl.NodeVbox)
		if k.Kind == impl.NodeGlue {
			sum += k.Width
		}
	}
	return sum
}

// spots are those of what is in a box that stands there.
func (t tree) spots(x, y int64) []impl.Spot {
	var out []impl.Spot
	for at, k := range t.kids {
		left, base := x+t.ahead(at), y
		if t.Kind == impl.NodeVbox {
			left, base = x, y-t.Height+t.ahead(at)+k.Height
		}
		switch {
		case k.isBox() && t.Kind == impl.NodeVbox:
			out = append(out, k.spots(left+k.Shift, base)...)
		case k.isBox():
			out = append(out, k.spots(left, base+k.Shift)...)
		case k.Kind == impl.NodeChar && t.Kind == impl.NodeHbox:
			out = append(out, impl.Spot{X: left, Y: base, Font: k.Font, Char: k.Char, Width: k.Width, Height: k.Height})
		case k.Kind == impl.NodeRule && k.Width > 0 && k.Height+k.Depth > 0:
			out = append(out, impl.Spot{X: left, Y: base + k.Depth, Char: -1, Width: k.Width, Height: k.Height + k.Depth})
		}
	}
	return out
}

func spotsPlainly(ns nodes, x, y int64) []impl.Spot {
	box, ok := onlyBoxPlainly(ns)
	if !ok || !fitsPlainly(x, y) {
		return nil
	}
	out := box.spots(x, y)
	for _, s := range out {
		if !fitsPlainly(s.X, s.Y) {
			return nil
		}
	}
	return out
}

// short is what a fault tells of nodes: no more than some of them.
func short(ns nodes) nodes { return ns[:min(len(ns), 30)] }

// checkList holds ListOk, Items and Natural against the plain telling, and tells whether it is a list.
func checkList(t *testing.T, ns nodes) bool {
	t.Helper()
	items, want := listPlainly(ns)
	if got := impl.ListOk(ns); got != want {
		t.Fatalf("ListOk(%+v) = %v", short(ns), got)
	}
	var wantItems []nodes
	for _, item := range items {
		wantItems = append(wantItems, item.flat())
	}
	if got := impl.Items(ns); !same(got, wantItems) {
		t.Fatalf("Items(%+v) = %+v", short(ns), got)
	}
	for _, row := range []bool{true, false} {
		if got, want := impl.Natural(ns, row), naturalPlainly(ns, row); got != want {
			t.Fatalf("Natural(%+v, %v) = %v, not %v", short(ns), row, got, want)
		}
	}
	return want
}

// checkPack holds HPack, or VPack when it goes down, against the plain telling, and gives what is packed.
func checkPack(t *testing.T, ns nodes, down bool, mode, size, deep int64) impl.Packed {
	t.Helper()
	got := impl.HPack(ns, mode, size)
	if down {
		got = impl.VPack(ns, mode, size, deep)
	} else {
		deep = 0
	}
	if want := packedPlainly(ns, down, mode, size, deep); !same(got, want) {
		t.Fatalf("packed %+v, down %v, mode %d, size %d, deep %d: %+v %v, not %+v %v", short(ns), down, mode, size, deep, short(got.Nodes), got.Set, short(want.Nodes), want.Set)
	}
	return got
}

// checkSpots holds Spots and Inside against the plain telling, and gives the spots.
func checkSpots(t *testing.T, ns nodes, x, y int64) []impl.Spot {
	t.Helper()
	if got, want := impl.Inside(ns), insidePlainly(ns); !same(got, want) {
		t.Fatalf("Inside(%+v) = %+v, not %+v", short(ns), short(got), short(want))
	}
	got, want := impl.Spots(ns, x, y), spotsPlainly(ns, x, y)
	if !same(got, want) {
		t.Fatalf("Spots(%+v, %d, %d) = %v, not %v", short(ns), x, y, got, want)
	}
	return got
}

// lengths are what a random list is made of: most of them are small.
type lengths struct {
	*rand.Rand
	most int64
}

func (r lengths) length() int64 { return r.Int63n(2*r.most+1) - r.most }

// from0 is a length that is hardly ever below 0.
func (r lengths) from0() int64 {
	if r.Intn(12) == 0 {
		return r.length()
	}
	return r.Int63n(r.most + 1)
}

func (r lengths) glue() impl.Glue { return randomGlue(r.Rand, r.most, 1+r.Int63n(4)) }

// item is an item of any kind; boxes and notes in it are no more than so many in one another.
func (r lengths) item(deep int) nodes {
	kinds := 15
	if deep == 0 {
		kinds = 11
	}
	switch r.Intn(kinds) {
	case 0, 1:
		return nodes{{Kind: impl.NodeChar, Font: r.Int63n(16), Char: r.Int63n(256), Width: r.from0(), Height: r.from0(), Depth: r.from0()}}
	case 2:
		return kernNode(r.length())
	case 3, 4, 5:
		return setGlueNode(r.glue(), r.length())
	case 6:
		return penaltyNode(r.Int63n(20001) - 10000)
	case 7:
		return nodes{{Kind: impl.NodeHyphen, Font: r.Int63n(16), Char: r.Int63n(256), Width: r.from0(), Height: r.from0(), Depth: r.from0()}}
	case 8, 9:
		return ruleNode(r.from0(), r.from0(), r.from0())
	case 10:
		return nodes{{Kind: impl.NodeMark + r.Int63n(2), Text: randomText(r.Rand, 8, "text")}}
	case 11:
		return noteNode(r.Int63n(16), r.length(), r.list(4, deep-1))
	}
	return boxNode(impl.NodeHbox+r.Int63n(2), r.from0(), r.from0(), r.from0(), r.length(), r.list(6, deep-1))
}

func (r lengths) list(most, deep int) nodes {
	var out nodes
	for range r.Intn(most + 1) {
		out = append(out, r.item(deep)...)
	}
	return out
}

// randomLengths are small, as those of a page are, or as great as can be.
func randomLengths(r *rand.Rand) lengths {
	return lengths{r, []int64{3, 40, 1000, impl.Point * 50, impl.MaxLen / 8, impl.MaxLen}[r.Intn(6)]}
}
