package tests

import (
	"math"
	"slices"
	"strings"
	"testing"

	"loop.example/g00014/impl"
)

// oneCmdEach is a command of each kind, those with numbers at bounds that they may have.
func oneCmdEach() []impl.Cmd {
	full := parCmd(lineWidth, nil)
	for i := range full.Nums {
		full.Nums[i] = []int64{impl.MaxCount, impl.MaxLen}[i/16]
	}
	full.Glues[7] = glue(-impl.MaxLen, impl.MaxLen, 3, -impl.MaxLen, 3)
	out := []impl.Cmd{
		typed("a", 2)[0], typed("a", impl.MaxCount)[0], typed("\x00", -impl.MaxCount)[0], typed("\xff", 15)[0], typed("a", 16)[0], typed("a", -1)[0],
		typed(" ", impl.MaxCount)[0], typed(" ", -impl.MaxCount)[0],
		full, cmdGlue(impl.CmdHskip, full.Glues[7]), cmdGlue(impl.CmdVskip, full.Glues[7]), cmdGlue(impl.CmdHskip, impl.Glue{}),
		kernCmd(impl.MaxLen), kernCmd(-impl.MaxLen), cmdN(impl.CmdPenalty, math.MaxInt64), cmdN(impl.CmdPenalty, math.MinInt64), cmdN(impl.CmdPenalty, 0),
		cmdNums(impl.CmdRule, impl.MaxLen, -impl.MaxLen, 0), cmdText(impl.CmdWrite, ""), cmdText(impl.CmdWrite, "w"), cmdText(impl.CmdMark, repeat("m", 5000)),
		cmdNums(impl.CmdHbox, 0, 0), cmdNums(impl.CmdHbox, 1, impl.MaxLen), cmdNums(impl.CmdHbox, 2, -impl.MaxLen), cmdNums(impl.CmdHbox, 1, 0),
		cmdNums(impl.CmdVbox, 0, 0), cmdNums(impl.CmdVbox, 2, impl.MaxLen),
		cmdN(impl.CmdNote, 0), cmdN(impl.CmdNote, 15), cmdN(impl.CmdTable, 1), cmdN(impl.CmdTable, 20), cmdN(impl.CmdSpan, 1), cmdN(impl.CmdSpan, 20),
		cmdN(impl.CmdBox, 0), cmdN(impl.CmdBox, 15), cmdN(impl.CmdSetbox, 0), cmdN(impl.CmdSetbox, 15),
	}
	for kind := int64(1); kind <= 31; kind++ {
		if heldFields[kind] == "" {
			out = append(out, cmd(kind))
		}
	}
	return out
}

// takes says whether a command is taken: alone, and ahead of and behind a kern, with which every stack has a node.
func takes(t *testing.T, c impl.Cmd) bool {
	t.Helper()
	last := checkBuild(t, cmds(kernCmd(5), c), impl.Book{})
	first := checkBuild(t, cmds(c, kernCmd(5)), impl.Book{})
	if alone := checkBuild(t, cmds(c), impl.Book{}); len(last.Nodes) == 0 && (len(alone.Nodes)+len(alone.Notes)+len(first.Nodes)+len(first.Notes)+len(last.Notes) > 0 || alone.Height+first.Height+last.Height != 0) {
		t.Errorf("taken in part:%s", shownCmds(cmds(c)))
	}
	return len(last.Nodes) > 0
}

func TestCommandsOfEachKind(t *testing.T) {
	kinds := map[int64]bool{}
	for _, c := range oneCmdEach() {
		kinds[c.Kind] = true
		if !takes(t, c) {
			t.Errorf("refused:%s", shownCmds(cmds(c)))
		}
	}
	if len(kinds) != 31 {
		t.Error("kinds are missing:", len(kinds))
	}
	for _, kind := range append([]int64{0, 32, 33, -1, 256 + 1, 1 << 32, 1<<32 + 1}, corners...) {
		for _, c := range oneCmdEach() {
			c.Kind = kind
			if !between(1, kind, 31) && takes(t, c) {
				t.Errorf("a Kind of %d is taken", kind)
			}
		}
	}
}

// A field that a command does not have has to be zero.
func TestFieldsThatACommandDoesNotHave(t *testing.T) {
	spoils := map[string]func(*impl.Cmd){
		" N ":     func(c *impl.Cmd) { c.N = 1 },
		" Text ":  func(c *impl.Cmd) { c.Text = "x" },
		" Glue ":  func(c *impl.Cmd) { c.Glue.MinusOrder = 1 },
		" Nums ":  func(c *impl.Cmd) { c.Nums = []int64{0} },
		" Glues ": func(c *impl.Cmd) { c.Glues = []impl.Glue{{}} },
	}
	for _, c := range oneCmdEach() {
		for field, spoil := range spoils {
			if !strings.Contains(heldFields[c.Kind], field) {
				bad := c
				spoil(&bad)
				if takes(t, bad) {
					t.Errorf("%q is not zero:%s", field, shownCmds(cmds(bad)))
				}
			}
		}
		empty := c
		if len(empty.Nums) == 0 {
			empty.Nums = []int64{}
		}
		if len(empty.Glues) == 0 {
			empty.Glues = []impl.Glue{}
		}
		if !takes(t, empty) {
			t.Errorf("empty lists are zero, too:%s", shownCmds(cmds(empty)))
		}
	}
}

// Each number of a command at its bounds, and by one beyond.
func TestNumbersThatACommandMayNotHave(t *testing.T) {
	for kind, bounds := range map[int64][2]int64{
		impl.CmdChar: {0, 255}, impl.CmdKern: {-impl.MaxLen, impl.MaxLen}, impl.CmdPenalty: {math.MinInt64, math.MaxInt64},
		impl.CmdNote: {0, 15}, impl.CmdTable: {1, 20}, impl.CmdSpan: {1, 20}, impl.CmdBox: {0, 15}, impl.CmdSetbox: {0, 15},
	} {
		for _, n := range append([]int64{bounds[0], bounds[1], bounds[0] - 1, bounds[1] + 1}, corners...) {
			c := cmdN(kind, n)
			if kind == impl.CmdChar {
				c.Nums = []int64{2}
			}
			if takes(t, c) != between(bounds[0], n, bounds[1]) {
				t.Errorf("N of%s", shownCmds(cmds(c)))
			}
		}
	}
	for _, c := range oneCmdEach() {
		for i := range c.Nums {
			most := int64(impl.MaxCount)
			if c.Kind == impl.CmdPar && i > 15 || c.Kind == impl.CmdRule || i == 1 && c.Kind != impl.CmdPar {
				most = impl.MaxLen
			}
			if c.Kind == impl.CmdHbox || c.Kind == impl.CmdVbox {
				continue
			}
			for _, n := range []int64{most, -most, most + 1, -most - 1, math.MaxInt64, math.MinInt64, 0} {
				bad := c
				bad.Nums = slices.Clone(c.Nums)
				bad.Nums[i] = n
				if takes(t, bad) != between(-most, n, most) {
					t.Errorf("number %d of%s", i, shownCmds(cmds(bad)))
				}
			}
		}
		for _, nums := range [][]int64{c.Nums[:max(len(c.Nums)-1, 0)], append(slices.Clone(c.Nums), 0), nil} {
			bad := c
			bad.Nums = nums
			if len(nums) != len(c.Nums) && takes(t, bad) {
				t.Errorf("so many numbers:%s", shownCmds(cmds(bad)))
			}
		}
		for _, glues := range [][]impl.Glue{c.Glues[:max(len(c.Glues)-1, 0)], append(slices.Clone(c.Glues), impl.Glue{}), nil} {
			bad := c
			bad.Glues = glues
			if len(glues) != len(c.Glues) && takes(t, bad) {
				t.Errorf("so many glues:%s", shownCmds(cmds(bad)))
			}
		}
	}
}

func TestGluesAndBoxesThatACommandMayNotHave(t *testing.T) {
	for _, g := range noGlues() {
		for _, kind := range []int64{impl.CmdHskip, impl.CmdVskip} {
			if takes(t, cmdGlue(kind, g)) {
				t.Errorf("a glue of %v", g)
			}
		}
		for i := range 8 {
			if takes(t, parCmd(lineWidth, func(c *impl.Cmd) { c.Glues[i] = g })) {
				t.Errorf("glue %d of %v", i, g)
			}
		}
	}
	for _, g := range edgeGlues() {
		if !takes(t, cmdGlue(impl.CmdHskip, g)) || !takes(t, parCmd(lineWidth, func(c *impl.Cmd) { c.Glues[7] = g })) {
			t.Errorf("a glue of %v is refused", g)
		}
	}
	for _, kind := range []int64{impl.CmdHbox, impl.CmdVbox} {
		for mode := int64(-2); mode <= 4; mode++ {
			for _, size := range []int64{0, 1, -1, impl.MaxLen, -impl.MaxLen, impl.MaxLen + 1, -impl.MaxLen - 1, math.MaxInt64, math.MinInt64} {
				want := mode == 0 && size == 0 || (mode == 1 || mode == 2) && between(-impl.MaxLen, size, impl.MaxLen)
				if takes(t, cmdNums(kind, mode, size)) != want {
					t.Errorf("a box of %d, %d", mode, size)
				}
			}
		}
		for _, mode := range corners {
			if !between(0, mode, 2) && takes(t, cmdNums(kind, mode, 0)) {
				t.Errorf("a mode of %d", mode)
			}
		}
	}
}

func TestTheMostCommandsThatAreBuilt(t *testing.T) {
	t.Parallel()
	left := slices.Repeat(cmds(cmd(impl.CmdLeft)), impl.MaxCmds)
	left[77] = kernCmd(5)
	if got := checkBuild(t, left, impl.Book{}); !same(got, impl.Built{Nodes: kernNode(5)}) {
		t.Error("MaxCmds commands:", shownBuilt(got))
	}
	for _, c := range []impl.Cmd{cmd(impl.CmdLeft), cmd(impl.CmdEnd), plainPar()} {
		if got := checkBuild(t, append(left, c), impl.Book{}); !same(got, impl.Built{}) {
			t.Error("one more:", shownBuilt(got))
		}
	}
	// One wrong command anywhere leaves nothing of all.
	for _, at := range []int{0, 1, 78, impl.MaxCmds - 1} {
		wrong := slices.Clone(left)
		wrong[at].Text = "x"
		if got := checkBuild(t, wrong, impl.Book{}); !same(got, impl.Built{}) {
			t.Errorf("a wrong one at %d: %s", at, shownBuilt(got))
		}
	}
}

func TestBooksThatAreNot(t *testing.T) {
	good := []impl.Book{{}, impl.PlainBook(), {Patterns: slices.Repeat([]impl.Pattern{pattern("a", 1, 0)}, impl.MaxPatterns)}}
	bad := []impl.Book{
		{Patterns: slices.Repeat([]impl.Pattern{pattern("a", 1, 0)}, impl.MaxPatterns+1)},
		{Patterns: []impl.Pattern{pattern("A", 1, 0)}}, {Patterns: []impl.Pattern{pattern("a", 10, 0)}}, {Patterns: []impl.Pattern{{}}},
		{Words: []impl.Exception{exception("ab", 2)}}, {Words: []impl.Exception{exception("b"), exception("a")}}, {Words: []impl.Exception{exception("a"), exception("a")}},
	}
	for _, cs := range [][]impl.Cmd{nil, cmds(kernCmd(5)), cmds(cmd(impl.CmdEnd)), then(typed("a", 2), cmds(plainPar()))} {
		for i, book := range good {
			got := checkBuild(t, cs, book)
			if len(cs) > 0 && len(got.Nodes)+len(got.Notes) == 0 {
				t.Errorf("book %d is refused", i)
			}
		}
		for i, book := range bad {
			if got := checkBuild(t, cs, book); !same(got, impl.Built{}) {
				t.Errorf("book %d is taken", i)
			}
		}
	}
}

// manyNodesCmds are a box of so many nodes, which has to be an odd number, and kerns behind it.
func manyNodesCmds(count, kerns int) []impl.Cmd {
	back := cmds(kernCmd(-1000000000), kernCmd(0)) // so that all of it has room
	return then(inHbox(then(back, slices.Repeat(cmds(hardSpace(2)), count/2-1))...), slices.Repeat(cmds(kernCmd(1)), kerns))
}

// When the stack has too many nodes there are the notes alone; a note that has too many is none.
func TestTheMostNodesThatAreBuilt(t *testing.T) {
	t.Parallel()
	par := parCmd(lineWidth, func(c *impl.Cmd) { c.Nums[17] = 9 })
	for kerns, good := range map[int]bool{0: true, 1: true, 2: false, 50: false} {
		cs := then(cmds(cmd(impl.CmdEnd)), manyNodesCmds(19999, kerns), cmds(par))
		got := checkBuild(t, cs, impl.Book{})
		if good != (len(got.Nodes) == 19999+kerns) || good != (got.Height == 9) || !good && len(got.Nodes) > 0 || !same(got.Notes, []string{"stray end"}) {
			t.Errorf("%d kerns: %d nodes, %q, %d", kerns, len(got.Nodes), got.Notes, got.Height)
		}
	}
	for kerns, want := range map[int]impl.Built{1: {Nodes: kernNode(5), Height: 9}, 2: {Nodes: kernNode(5), Height: 9}, 0: {}} {
		note := inNote(1, manyNodesCmds(19999, kerns)...)
		if got := checkBuild(t, then(note, cmds(kernCmd(5), par)), impl.Book{}); !same(got, want) {
			t.Errorf("a note with %d kerns and one behind it: %s", kerns, shownBuilt(got))
		}
		if got := checkBuild(t, then(note, cmds(par)), impl.Book{}); kerns == 0 && len(got.Nodes) != impl.MaxNodes || kerns > 0 && len(got.Nodes) > 0 || got.Height != 9 {
			t.Errorf("a note with %d kerns: %d nodes", kerns, len(got.Nodes))
		}
	}
	// A box has to hold all of it in one node less.
	got := checkBuild(t, then(inVbox(manyNodesCmds(19999, 0)...), cmds(kernCmd(5))), impl.Book{})
	if len(got.Notes) != 0 || len(got.Nodes) != 0 {
		t.Errorf("a box of MaxNodes and a kern: %d nodes, %q", len(got.Nodes), got.Notes)
	}
	got = checkBuild(t, then(inVbox(manyNodesCmds(19999, 1)...), cmds(kernCmd(5))), impl.Book{})
	if !same(got, impl.Built{Nodes: kernNode(5), Notes: []string{"box dropped"}}) {
		t.Error("a box of one more:", shownBuilt(got))
	}
}
