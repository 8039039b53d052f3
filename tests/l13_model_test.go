package tests

import (
	"fmt"
	"reflect"
	"slices"
	"strings"
	"testing"

	"loop.example/g00014/impl"
)

// heldFields are, by kind, the fields of a command beside its Kind; kinds that are not here have none.
var heldFields = map[int64]string{
	impl.CmdChar: " N Nums ", impl.CmdSpace: " Nums ", impl.CmdPar: " Nums Glues ", impl.CmdHskip: " Glue ", impl.CmdVskip: " Glue ",
	impl.CmdKern: " N ", impl.CmdPenalty: " N ", impl.CmdRule: " Nums ", impl.CmdWrite: " Text ", impl.CmdMark: " Text ",
	impl.CmdHbox: " Nums ", impl.CmdVbox: " Nums ", impl.CmdNote: " N ", impl.CmdTable: " N ", impl.CmdSpan: " N ", impl.CmdBox: " N ", impl.CmdSetbox: " N ",
}

// numsAre: so many counts, and behind them so many lengths.
func numsAre(nums []int64, counts, lens int) bool {
	if len(nums) != counts+lens {
		return false
	}
	for i, n := range nums {
		if i < counts && !between(-2147483647, n, 2147483647) || i >= counts && !fitsPlainly(n) {
			return false
		}
	}
	return true
}

func glueIs(g impl.Glue) bool { return nodeIs(impl.Node{Kind: impl.NodeGlue, Glue: g}) }

// cmdIs says of a command whether it is as Digest gives it.
func cmdIs(c impl.Cmd) bool {
	v := reflect.ValueOf(c)
	for i := range v.NumField() {
		name, f := v.Type().Field(i).Name, v.Field(i)
		isZero := f.IsZero() || f.Kind() == reflect.Slice && f.Len() == 0
		if name != "Kind" && !isZero && !strings.Contains(heldFields[c.Kind], " "+name+" ") {
			return false
		}
	}
	switch c.Kind {
	case impl.CmdChar:
		return between(0, c.N, 255) && numsAre(c.Nums, 1, 0)
	case impl.CmdSpace:
		return numsAre(c.Nums, 1, 0)
	case impl.CmdPar:
		return numsAre(c.Nums, 16, 16) && len(c.Glues) == 8 && !slices.ContainsFunc(c.Glues, func(g impl.Glue) bool { return !glueIs(g) })
	case impl.CmdHskip, impl.CmdVskip:
		return glueIs(c.Glue)
	case impl.CmdKern:
		return fitsPlainly(c.N)
	case impl.CmdRule:
		return numsAre(c.Nums, 0, 3)
	case impl.CmdHbox, impl.CmdVbox:
		return numsAre(c.Nums, 1, 1) && (c.Nums[0] == 1 || c.Nums[0] == 2 || c.Nums[0] == 0 && c.Nums[1] == 0)
	case impl.CmdNote, impl.CmdBox, impl.CmdSetbox:
		return between(0, c.N, 15)
	case impl.CmdTable, impl.CmdSpan:
		return between(1, c.N, 20)
	}
	return between(1, c.Kind, 31)
}

// parPlainly are the settings.
type parPlainly struct {
	style                                impl.Style
	left, right, between, height, indent int64
	base, gap                            impl.Glue
}

func brought(x, least, most int64) int64 {
	if x < least {
		return least
	}
	if x > most {
		return most
	}
	return x
}

func parSays(c impl.Cmd) parPlainly {
	length := func(n int) int64 { return brought(c.Nums[16+n], 0, 1073741823) }
	return parPlainly{
		style: impl.Style{
			Width: length(0), Narrow: brought(length(0)-length(3), 0, 1073741823), Hang: brought(c.Nums[9], 0, 4),
			Tolerance: brought(c.Nums[1], 0, 10000), Line: brought(c.Nums[2], 0, 10000), Hyphen: brought(c.Nums[3], 0, 10000),
			Double: brought(c.Nums[4], 0, 1000000), Adjacent: brought(c.Nums[5], 0, 1000000),
			Left: c.Glues[2], Right: c.Glues[3], Fill: c.Glues[4],
		},
		left: c.Nums[6], right: c.Nums[7], between: brought(c.Nums[8], -10000, 10000),
		height: length(1), indent: length(2), base: c.Glues[0], gap: c.Glues[1],
	}
}

// building goes through the commands place by place: a place within another one is gone through whole, ahead of what is behind it.
type building struct {
	cmds  []impl.Cmd
	book  impl.Book
	at    int        // the command that comes next
	done  []impl.Cmd // those that came ahead, without those in formulas
	boxes [16]nodes
	notes []string
}

func (b *building) kindAt(at int) int64 {
	if at >= len(b.cmds) {
		return 0
	}
	return b.cmds[at].Kind
}

// next is 0 at the end.
func (b *building) next() int64 { return b.kindAt(b.at) }

func (b *building) take() impl.Cmd {
	c := b.cmds[b.at]
	b.done = append(b.done, c)
	b.at++
	return c
}

func (b *building) tell(note string) { b.notes = append(b.notes, note) }

// settings are those at the command that comes next.
func (b *building) settings() parPlainly {
	for at := b.at; at < len(b.cmds); at++ {
		if b.kindAt(at) == impl.CmdPar {
			return parSays(b.cmds[at])
		}
	}
	for at := b.at - 1; at >= 0; at-- {
		if b.kindAt(at) == impl.CmdPar {
			return parSays(b.cmds[at])
		}
	}
	return parPlainly{}
}

// setAhead is the number of the box that begins next, or -1.
func (b *building) setAhead() int64 {
	for _, c := range slices.Backward(b.done) {
		switch c.Kind {
		case impl.CmdHbox, impl.CmdVbox, impl.CmdNote, impl.CmdTable, impl.CmdEnd:
			return -1
		case impl.CmdSetbox:
			return c.N
		}
	}
	return -1
}

func fontPlainly(c impl.Cmd) int64 {
	if between(0, c.Nums[0], 15) {
		return c.Nums[0]
	}
	return 0
}

func spacePlainly(font int64) nodes {
	u := 6553 * (8 + font)
	return glueNode(glue(3*u, 3*u/2, 0, u, 0))
}

// wordNodes are the nodes of a word, parted where it may be.
func (b *building) wordNodes(word string, font int64, inPara bool) nodes {
	if len(word) > 1000 {
		return nil
	}
	var places []int64
	if set := b.settings(); inPara {
		places = impl.Hyphens(b.book, word, set.left, set.right)
	}
	var out nodes
	f, at := impl.PlainFont(font), int64(0)
	for _, p := range impl.SetWord(f, []byte(word)) {
		if p.Code == -1 {
			out = append(out, kernNode(p.Kern)...)
			continue
		}
		m := mathPlainly{0, font}
		out = append(out, m.char(p.Code)...)
		at += map[int64]int64{1: 2, 2: 2, 3: 3}[p.Code]
		if p.Code > 3 {
			at++
		}
		if slices.Contains(places, at) {
			hyphen := m.char('-')
			hyphen[0].Kind = impl.NodeHyphen
			out = append(out, hyphen...)
		}
	}
	return out
}

// letters are what a CmdChar and those behind it become, as far as they are one word.
func (b *building) letters(inPara bool) nodes {
	c := b.take()
	font := fontPlainly(c)
	if c.N == 32 {
		return listed(penaltyNode(10000), spacePlainly(font))
	}
	word := []byte{byte(c.N)}
	for b.next() == impl.CmdChar && b.cmds[b.at].N != 32 && fontPlainly(b.cmds[b.at]) == font {
		word = append(word, byte(b.take().N))
	}
	return b.wordNodes(string(word), font, inPara)
}

func beginsPlace(kind int64) bool {
	return kind == impl.CmdHbox || kind == impl.CmdVbox || kind == impl.CmdNote || kind == impl.CmdTable
}

// behindPlace is where the commands go on behind the place that begins here.
func (b *building) behindPlace(at int) int {
	at++
	for at < len(b.cmds) && b.kindAt(at) != impl.CmdEnd {
		if beginsPlace(b.kindAt(at)) {
			at = b.behindPlace(at)
		} else {
			at++
		}
	}
	return min(at+1, len(b.cmds))
}

// formulaText is the text of the formula from a place on, its font, and where it ends.
func (b *building) formulaText(at int) (text string, font int64, end int) {
	signs := map[int64]string{impl.CmdLeft: "{", impl.CmdRight: "}", impl.CmdUp: "^", impl.CmdDown: "_", impl.CmdFrac: "/", impl.CmdRoot: `\`}
	font = -1
	for at < len(b.cmds) && b.kindAt(at) != impl.CmdMath && b.kindAt(at) != impl.CmdEnd {
		c := b.cmds[at]
		if beginsPlace(c.Kind) {
			at = b.behindPlace(at)
			continue
		}
		if c.Kind == impl.CmdChar && c.N > 32 && c.N < 127 && !strings.Contains(`{}^_/\`, string(rune(c.N))) {
			text += string(rune(c.N))
			if font < 0 {
				font = fontPlainly(c)
			}
		}
		text += signs[c.Kind]
		at++
	}
	if font < 0 {
		font = 2
	}
	return text, font, at
}

// formula is the row of the formula that comes next. Only a display has a second CmdMath at its beginning, and perhaps one at its end.
func (b *building) formula(display bool) nodes {
	b.take()
	style := int64(impl.Text)
	if display {
		b.take()
		style = impl.Display
	}
	text, font, end := b.formulaText(b.at)
	b.at = end
	if b.next() != impl.CmdMath {
		b.tell("open formula")
	} else {
		b.at++
		if display && b.next() == impl.CmdMath {
			b.at++
		}
	}
	as, ok := impl.ReadMath(text)
	if !ok {
		return nil
	}
	return impl.SetMath(as, style, font)
}

// thing is what any other command leaves where it stands, and whether that is a box that is put. All of the place that it begins is gone through.
func (b *building) thing() (nodes, bool) {
	number := b.setAhead()
	c := b.take()
	switch c.Kind {
	case impl.CmdKern:
		return kernNode(c.N), false
	case impl.CmdPenalty:
		return penaltyNode(brought(c.N, -10000, 10000)), false
	case impl.CmdRule:
		return ruleNode(c.Nums[0], c.Nums[1], c.Nums[2]), false
	case impl.CmdMark:
		return markNode(c.Text[:min(1000, len(c.Text))]), false
	case impl.CmdWrite:
		return writeNode(c.Text[:min(1000, len(c.Text))]), false
	case impl.CmdBox:
		box := b.boxes[c.N]
		b.boxes[c.N] = nil
		return box, true
	case impl.CmdNote:
		inside := b.stack(false)
		size := impl.Natural(inside, false)
		if note := noteNode(c.N, brought(size.Height+size.Depth, 0, 1073741823), inside); impl.ListOk(note) {
			return note, false
		}
	case impl.CmdHbox:
		row, _ := b.row(impl.CmdEnd)
		return b.box(impl.HPack(row, c.Nums[0], c.Nums[1]).Nodes, number), true
	case impl.CmdVbox:
		return b.box(impl.VPack(b.stack(false), c.Nums[0], c.Nums[1], 1073741823).Nodes, number), true
	}
	return nil, false
}

// box is one that is put, or nothing.
func (b *building) box(box nodes, number int64) nodes {
	if len(box) == 0 {
		b.tell("box dropped")
	} else if number >= 0 {
		b.boxes[number] = box
		return nil
	}
	return box
}

// end takes the CmdEnd that ends a place, if it does not end with all.
func (b *building) end() {
	if b.next() == impl.CmdEnd {
		b.take()
	}
}

// inRow is what the next command leaves in a row. The end of a place that it begins is left to be taken by the one that asks.
func (b *building) inRow(inPara bool) nodes {
	switch b.next() {
	case impl.CmdChar:
		return b.letters(inPara)
	case impl.CmdSpace:
		return spacePlainly(fontPlainly(b.take()))
	case impl.CmdHskip:
		return glueNode(b.take().Glue)
	case impl.CmdMath:
		row := b.formula(false)
		if len(row) == 0 {
			b.tell("bad formula")
		}
		return row
	case impl.CmdTable:
		b.table()
		b.tell("table dropped")
		b.end()
		return nil
	}
	begins := beginsPlace(b.next())
	ns, _ := b.thing()
	if begins {
		b.end()
	}
	return ns
}

// row is what stands in a row up to a command of one of these kinds, and the last Span that was given.
func (b *building) row(stops ...int64) (out nodes, span int64) {
	span = 1
	for b.at < len(b.cmds) && !slices.Contains(stops, b.next()) {
		if b.next() == impl.CmdSpan {
			span = b.cmds[b.at].N
		}
		out = append(out, b.inRow(false)...)
	}
	return out, span
}

type cellPlain struct {
	list nodes
	span int64
}

// rowsPlainly are the rows of a table: without what of the last one does not count, and cut to the columns.
func rowsPlainly(rows [][]cellPlain, columns int64) []impl.Row {
	var out []impl.Row
	for i, cells := range rows {
		var row impl.Row
		left, stood := columns, false
		for _, c := range cells {
			stood = stood || len(c.list) > 0
			if left == 0 {
				continue
			}
			cell := impl.Cell{Span: min(c.span, left), Nodes: c.list}
			if len(c.list) > 0 && c.list[0].Kind == impl.NodeGlue {
				cell.Align, cell.Nodes = impl.AlignRight, c.list[1:]
			}
			row.Cells = append(row.Cells, cell)
			left -= cell.Span
		}
		if i < len(rows)-1 || stood || len(row.Cells) > 1 {
			out = append(out, row)
		}
	}
	return out
}

// table are the rows of the table that comes next, each as a box; its CmdEnd is not taken.
func (b *building) table() []nodes {
	columns := b.take().N
	rows := [][]cellPlain{nil}
	for {
		list, span := b.row(impl.CmdTab, impl.CmdRow, impl.CmdEnd)
		last := len(rows) - 1
		rows[last] = append(rows[last], cellPlain{list, span})
		if b.next() != impl.CmdTab && b.next() != impl.CmdRow {
			break
		}
		if b.take().Kind == impl.CmdRow {
			rows = append(rows, nil)
		}
	}
	return impl.Items(impl.SetTable(impl.Table{Columns: columns, Gap: impl.Glue{Size: 655300}, Rows: rowsPlainly(rows, columns)}))
}

// stackSoFar is a stack with what has come.
type stackSoFar struct {
	out  nodes
	para *nodes
	last *impl.Node
}

func (s *stackSoFar) put(box nodes, base impl.Glue) {
	if s.last != nil && base.Size != 0 {
		base.Size = brought(base.Size-(s.last.Depth+box[0].Height), 0, 1<<60)
		s.out = append(s.out, glueNode(base)...)
	}
	s.out = append(s.out, box...)
	s.last = &box[0]
}

func (b *building) endPara(s *stackSoFar) {
	if s.para == nil {
		return
	}
	set := b.settings()
	broken := impl.BreakPara(*s.para, set.style)
	s.para = nil
	if len(broken.Lines) == 0 {
		b.tell("bad paragraph")
		return
	}
	if len(s.out) > 0 {
		s.out = append(s.out, glueNode(set.gap)...)
	}
	for i, line := range broken.Lines {
		var stays, goes nodes
		for _, item := range impl.Items(line[1:]) {
			if k := item[0].Kind; k == impl.NodeMark || k == impl.NodeWrite || k == impl.NodeNote {
				goes = append(goes, item...)
			} else {
				stays = append(stays, item...)
			}
		}
		box := listed(line[:1], stays)
		box[0].Kids = int64(len(stays))
		s.put(box, set.base)
		s.out = append(s.out, goes...)
		if i < len(broken.Lines)-1 && set.between != 0 {
			s.out = append(s.out, penaltyNode(set.between)...)
		}
	}
}

func (b *building) display(s *stackSoFar) {
	set := b.settings()
	row := b.formula(true)
	inner := impl.HPack(row, 0, 0).Nodes
	fil := glueNode(impl.Glue{Plus: 65536, PlusOrder: 1})
	outer := impl.HPack(listed(fil, inner, fil), 1, set.style.Width).Nodes
	if len(row) == 0 || len(inner) == 0 || len(outer) == 0 {
		b.tell("bad formula")
		return
	}
	s.out = append(s.out, glueNode(set.gap)...)
	s.put(outer, set.base)
	s.out = append(s.out, glueNode(set.gap)...)
}

// inStack does the next command in a stack.
func (b *building) inStack(s *stackSoFar) {
	kind, set := b.next(), b.settings()
	display := kind == impl.CmdMath && b.kindAt(b.at+1) == impl.CmdMath
	if kind == impl.CmdPar || kind == impl.CmdVskip || kind == impl.CmdVbox && b.setAhead() < 0 || kind == impl.CmdTable || kind == impl.CmdShipout || display {
		b.endPara(s)
	}
	if kind == impl.CmdChar || kind == impl.CmdHskip || kind == impl.CmdMath && !display || kind == impl.CmdIndent || kind == impl.CmdNoindent {
		if s.para == nil {
			s.para = &nodes{}
			if set.indent != 0 && kind != impl.CmdNoindent {
				*s.para = kernNode(set.indent)
			}
		}
	}
	switch {
	case display:
		b.display(s)
	case kind == impl.CmdTable:
		rows := b.table()
		if len(rows) == 0 {
			b.tell("table dropped")
		}
		for _, row := range rows {
			s.put(row, b.settings().base)
		}
		b.end()
	case kind == impl.CmdEnd:
		b.take()
		b.tell("stray end")
	case s.para != nil:
		*s.para = append(*s.para, b.inRow(true)...)
	default:
		b.inBareStack(s)
	}
}

// inBareStack does it where there is no paragraph.
func (b *building) inBareStack(s *stackSoFar) {
	switch b.next() {
	case impl.CmdVskip:
		s.out, s.last = append(s.out, glueNode(b.take().Glue)...), nil
	case impl.CmdShipout:
		b.take()
		s.out = append(s.out, penaltyNode(-10000)...)
	case impl.CmdKern, impl.CmdRule:
		ns, _ := b.thing()
		s.out, s.last = append(s.out, ns...), nil
	default:
		begins, set := beginsPlace(b.next()), b.settings()
		ns, isBox := b.thing()
		if begins {
			set = b.settings()
			b.end()
		}
		if isBox && len(ns) > 0 {
			s.put(ns, set.base)
		} else {
			s.out = append(s.out, ns...)
		}
	}
}

// stack is what stands in a stack up to its CmdEnd, which is not taken; the outer one has none.
func (b *building) stack(outer bool) nodes {
	var s stackSoFar
	for b.at < len(b.cmds) && (outer || b.next() != impl.CmdEnd) {
		b.inStack(&s)
	}
	b.endPara(&s)
	return s.out
}

// buildPlainly is Build.
func buildPlainly(cs []impl.Cmd, book impl.Book) impl.Built {
	if len(cs) > 20000 || !bookIs(book) || slices.ContainsFunc(cs, func(c impl.Cmd) bool { return !cmdIs(c) }) {
		return impl.Built{}
	}
	b := &building{cmds: cs, book: book}
	out := b.stack(true)
	if !impl.ListOk(out) {
		return impl.Built{Notes: b.notes}
	}
	return impl.Built{Nodes: out, Notes: b.notes, Height: b.settings().height}
}

// shownCmds is what a fault tells of commands: no more than some of them, each by its kind and what else it has.
func shownCmds(cs []impl.Cmd) string {
	var out strings.Builder
	for _, c := range cs[:min(len(cs), 60)] {
		fmt.Fprintf(&out, " %d", c.Kind)
		if c.Kind == impl.CmdChar {
			fmt.Fprintf(&out, "%q", rune(c.N))
		} else if c.N != 0 || c.Text != "" || c.Glue != (impl.Glue{}) {
			fmt.Fprint(&out, "(", c.N, c.Text, c.Glue, ")")
		}
		if len(c.Nums) > 0 {
			fmt.Fprint(&out, c.Nums)
		}
		if len(c.Glues) > 0 {
			fmt.Fprint(&out, c.Glues)
		}
	}
	return out.String()
}

// shownNodes is what a fault tells of nodes: those that belong to one stand in brackets behind it.
func shownNodes(ns nodes) string {
	names := []string{"?", "char", "kern", "glue", "penalty", "rule", "hbox", "vbox", "hyphen", "mark", "write", "note"}
	var out strings.Builder
	for _, n := range short(ns) {
		fmt.Fprint(&out, " ", names[n.Kind])
		if n.Kind == impl.NodeChar || n.Kind == impl.NodeHyphen {
			fmt.Fprintf(&out, " %q of %d", rune(n.Char), n.Font)
		} else {
			fmt.Fprint(&out, "(", n.Width, n.Height, n.Depth, " ", n.Shift, n.N, n.Text, n.Glue, " kids ", n.Kids, ")")
		}
	}
	return out.String()
}

func shownBuilt(b impl.Built) string {
	return fmt.Sprintf("%s %q %d", shownNodes(b.Nodes), b.Notes, b.Height)
}

// checkBuild holds Build against the plain telling, and gives what is built, in which all is a list.
func checkBuild(t *testing.T, cs []impl.Cmd, book impl.Book) impl.Built {
	t.Helper()
	got, want := impl.Build(cs, book), buildPlainly(cs, book)
	if !same(got, want) {
		t.Fatalf("Build of%s\nis%s, not\n%s", shownCmds(cs), shownBuilt(got), shownBuilt(want))
	}
	if !impl.ListOk(got.Nodes) {
		t.Fatalf("Build of%s is no list", shownCmds(cs))
	}
	return got
}
