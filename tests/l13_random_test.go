package tests

import (
	"math/rand"
	"strings"
	"testing"

	"loop.example/g00014/impl"
)

// orders are commands made at random.
type orders struct{ *rand.Rand }

// par has settings that make lines of some words; some of them are out of their bounds.
func (r orders) par() impl.Cmd {
	c := parCmd(r.Int63n(120)*impl.Point, nil)
	for _, i := range []int{1, 2, 3, 4, 5, 8} {
		c.Nums[i] = []int64{0, 10, 200, 10000, -50, 2000000}[r.Intn(6)]
	}
	c.Nums[6], c.Nums[7], c.Nums[9] = r.Int63n(4), r.Int63n(4), r.Int63n(7)-1
	for _, i := range []int{17, 18, 19} {
		c.Nums[i] = (r.Int63n(40) - 9) * impl.Point
	}
	for i := range c.Glues {
		if r.Intn(2) == 0 {
			c.Glues[i] = randomGlue(r.Rand, 20*impl.Point, 3)
		}
	}
	if r.Intn(3) > 0 {
		c.Glues[4] = glue(0, impl.Point, 1, 0, 0)
	}
	return c
}

func (r orders) font() int64 { return []int64{2, 2, 2, 2, 0, 15, 16, -1}[r.Intn(8)] }

func (r orders) word() []impl.Cmd {
	words := []string{"a", "fi", "office", "machinery", "become", "Tomato", "stretching", "page", "x1", "To", "f", "i", "\x01", "LaTy", "AVa", "rest-less", "(b)", "\xff"}
	font := r.font()
	return typed(words[r.Intn(len(words))], font)
}

// formula is a text of a formula, most of them good.
func (r orders) formula() []impl.Cmd {
	texts := []string{"x", "a+b", "x^2_1", "{a+b}/c", `\{xy}`, "", "^", "{", "a/b/c", "p", `\{}`, "}"}
	kinds := map[byte]int64{'{': impl.CmdLeft, '}': impl.CmdRight, '^': impl.CmdUp, '_': impl.CmdDown, '/': impl.CmdFrac, '\\': impl.CmdRoot}
	text := texts[r.Intn(len(texts))]
	var out []impl.Cmd
	for i := range len(text) {
		if kind := kinds[text[i]]; kind != 0 {
			out = append(out, cmd(kind))
		} else {
			out = append(out, typed(text[i:i+1], r.font())...)
		}
	}
	if r.Intn(4) == 0 {
		out = append(out, r.some(2)...)
	}
	return out
}

func (r orders) glue() impl.Glue { return randomGlue(r.Rand, 5*impl.Point, 2) }

func (r orders) length() int64 {
	if r.Intn(6) == 0 {
		return []int64{impl.MaxLen, -impl.MaxLen, impl.MaxLen - 99, impl.MaxLen / 2}[r.Intn(4)]
	}
	return r.Int63n(30*impl.Point) - 3*impl.Point
}

// begin is the first command of a place.
func (r orders) begin() impl.Cmd {
	switch r.Intn(8) {
	case 0, 1:
		return cmdNums(impl.CmdHbox, 0, 0)
	case 2:
		return cmdNums(impl.CmdHbox, 1+r.Int63n(2), r.length())
	case 3:
		return cmdNums(impl.CmdVbox, 0, 0)
	case 4:
		return cmdNums(impl.CmdVbox, 1+r.Int63n(2), r.length())
	case 5:
		return cmdN(impl.CmdNote, r.Int63n(16))
	}
	return cmdN(impl.CmdTable, 1+r.Int63n(3))
}

// one is one or a few commands that leave nothing open.
func (r orders) one() []impl.Cmd {
	switch r.Intn(22) {
	case 0, 1, 2, 3:
		return r.word()
	case 4, 5:
		return cmds(cmdNums(impl.CmdSpace, r.font()))
	case 6:
		return cmds(impl.Cmd{Kind: impl.CmdChar, N: 32, Nums: []int64{r.font()}})
	case 7, 8:
		return cmds(r.par())
	case 9:
		return cmds(cmdGlue(impl.CmdHskip+r.Int63n(2), r.glue()))
	case 10:
		return cmds(cmdN(impl.CmdKern, r.length()))
	case 11:
		return cmds(cmdN(impl.CmdPenalty, []int64{0, 50, -50, 10000, -10000, 10001, -1 << 63, 1<<63 - 1}[r.Intn(8)]))
	case 12:
		return cmds(cmdNums(impl.CmdRule, r.length(), r.length(), r.length()))
	case 13:
		return cmds(cmd(impl.CmdIndent + r.Int63n(2)))
	case 14:
		return cmds(cmdText(impl.CmdWrite+r.Int63n(2), strings.Repeat("text", []int{0, 1, 2, 250, 251}[r.Intn(5)])))
	case 15:
		return cmds(cmdN([]int64{impl.CmdBox, impl.CmdSetbox}[r.Intn(2)], r.Int63n(3)))
	case 16, 17:
		return cmds(cmd([]int64{impl.CmdTab, impl.CmdTab, impl.CmdRow, impl.CmdRow, impl.CmdShipout, impl.CmdLeft, impl.CmdRight, impl.CmdUp, impl.CmdOver}[r.Intn(9)]))
	case 18:
		return cmds(cmdN(impl.CmdSpan, 1+r.Int63n(3)))
	case 19:
		return then(cmds(cmd(impl.CmdMath)), r.formula(), cmds(cmd(impl.CmdMath)))
	case 20:
		math := cmds(cmd(impl.CmdMath), cmd(impl.CmdMath))
		return then(math, r.formula(), math)
	}
	return r.inPlace(4)
}

// inPlace is a place, which is hardly ever left open.
func (r orders) inPlace(most int) []impl.Cmd {
	out := then(cmds(r.begin()), r.some(most))
	if r.Intn(15) > 0 {
		out = append(out, cmd(impl.CmdEnd))
	}
	return out
}

func (r orders) some(most int) []impl.Cmd {
	var out []impl.Cmd
	for range r.Intn(most + 1) {
		out = append(out, r.one()...)
	}
	return out
}

// loose are commands of all kinds in any order, whatever they leave open.
func (r orders) loose(most int) []impl.Cmd {
	var out []impl.Cmd
	for range r.Intn(most + 1) {
		switch r.Intn(8) {
		case 0:
			out = append(out, r.begin())
		case 1:
			out = append(out, cmd(impl.CmdEnd))
		case 2:
			out = append(out, cmd(impl.CmdMath))
		default:
			out = append(out, r.one()...)
		}
	}
	return out
}

// countBuilt counts what commands are an example of.
func countBuilt(counts map[string]int, cs []impl.Cmd, got impl.Built) {
	for _, note := range got.Notes {
		counts[note]++
	}
	if len(got.Nodes) == 0 {
		counts["nothing"]++
	}
	names := []string{"", "chars", "kerns", "glues", "penalties", "rules", "hboxes", "vboxes", "hyphens", "marks", "writes", "notes"}
	for _, n := range got.Nodes {
		counts[names[n.Kind]]++
	}
	counts["commands"] += len(cs)
}

func TestBuildAtRandom(t *testing.T) {
	t.Parallel()
	r := orders{rand.New(rand.NewSource(160))}
	counts := map[string]int{}
	books := []impl.Book{impl.PlainBook(), {}, {Words: []impl.Exception{exception("office", 1, 2, 3, 4), exception("tomato", 1, 2, 3)}}}
	for range 15000 {
		cs := r.some(25)
		if r.Intn(3) == 0 {
			cs = r.loose(25)
		}
		countBuilt(counts, cs, checkBuild(t, cs, books[r.Intn(len(books))]))
	}
	for _, what := range []string{"stray end", "box dropped", "table dropped", "open formula", "bad formula", "bad paragraph", "nothing", "chars", "kerns", "glues", "penalties", "rules", "hboxes", "vboxes", "marks", "writes", "notes"} {
		if counts[what] < 150 {
			t.Error("too few:", what, counts)
		}
	}
}
