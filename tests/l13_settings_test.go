package tests

import (
	"slices"
	"strings"
	"testing"

	"loop.example/g00014/impl"
)

// lineWidths are those of all lines of paragraphs, wherever these stand.
func lineWidths(ns nodes) []int64 {
	var out []int64
	for i, n := range ns {
		if n.Kind == impl.NodeHbox && n.Kids > 0 && ns[i+1].Kind == impl.NodeGlue {
			out = append(out, n.Width)
		}
	}
	return out
}

// Of each place the settings are those of the next CmdPar, at it or behind it, and of the last one when none comes.
func TestSettingsOfAPlace(t *testing.T) {
	par := func(width int64) []impl.Cmd { return cmds(parCmd(width, func(c *impl.Cmd) { c.Nums[17] = width + 1 })) }
	a, skip := typed("a", 2), cmds(cmdGlue(impl.CmdVskip, impl.Glue{}))
	math := cmds(cmd(impl.CmdMath))
	for _, c := range []struct {
		what   string
		cmds   []impl.Cmd
		widths []int64
		height int64
	}{
		{"none", a, []int64{0}, 0},
		{"at it", then(a, par(100)), []int64{100}, 101},
		{"two", then(a, par(100), a, par(200)), []int64{100, 200}, 201},
		{"behind the last", then(a, par(100), a, par(200), a, skip, a), []int64{100, 200, 200, 200}, 201},
		{"behind a CmdVskip", then(par(50), a, skip, a, par(100)), []int64{100, 100}, 101},
		{"behind a CmdShipout", then(a, cmds(cmd(impl.CmdShipout)), a, par(100)), []int64{100, 100}, 101},
		{"of a CmdPar that ends nothing", then(a, skip, par(50), par(100)), []int64{50}, 101},
		{"in a box", then(inVbox(then(a, par(50), a)...), a, par(100)), []int64{50, 100, 100}, 101},
		{"in a row", then(a, skip, inHbox(par(50)...), a, par(100)), []int64{50, 100}, 101},
		{"in a cell", then(a, skip, inTable(1, par(50)...), a, par(100)), []int64{50, 100}, 101},
		{"in a note", then(inNote(1, a...), a, par(100)), []int64{100, 100}, 101},
		{"in a formula", then(a, skip, math, par(50), a, math, skip, par(100)), []int64{50, 100}, 101},
		{"at the end of a box", then(inVbox(a...), par(50), inVbox(a...)), []int64{50, 50}, 51},
		{"a length below 0", then(a, par(-5)), []int64{0}, 0},
		{"the greatest", then(a, cmds(parCmd(impl.MaxLen, nil))), []int64{impl.MaxLen}, 0},
	} {
		got := checkBuild(t, c.cmds, impl.Book{})
		if widths := lineWidths(got.Nodes); !slices.Equal(widths, c.widths) || got.Height != c.height {
			t.Errorf("%s: %v and %d, not %v and %d", c.what, widths, got.Height, c.widths, c.height)
		}
	}
}

// The base of a box that is put is that of the place where it ends, or where its CmdBox stands.
func TestTheBaseOfAPlace(t *testing.T) {
	par := func(size int64) impl.Cmd {
		return parCmd(lineWidth, func(c *impl.Cmd) { c.Glues[0] = impl.Glue{Size: size} })
	}
	sized := func(size int64) nodes { return glueNode(impl.Glue{Size: size}) }
	none := hboxNode(0, 0, 0, 0)
	checkBuilds(t,
		buildCase{what: "a box", cmds: then(inHbox(), cmds(par(5)), inHbox(), cmds(par(6))), want: listed(none, sized(6), none)},
		buildCase{what: "a box around a CmdPar", cmds: then(inHbox(), inHbox(par(5)), cmds(par(6))), want: listed(none, sized(6), none)},
		buildCase{what: "a box with a number", cmds: then(cmds(setboxCmd(1)), inHbox(), inHbox(), cmds(par(5), boxCmd(1), par(6))), want: listed(none, sized(6), none)},
		buildCase{what: "behind the last", cmds: then(cmds(par(5)), inHbox(), inHbox()), want: listed(none, sized(5), none)},
		buildCase{what: "a table", cmds: then(inHbox(), inTable(1, par(5), kernCmd(0)), cmds(par(6))), want: listed(none, sized(6), hboxNode(0, 0, 0, 0, hboxNode(0, 0, 0, 0, kernNode(0), fil(0))))},
	)
}

// manyWords is a text that is broken in many ways.
func manyWords() []impl.Cmd {
	return typed("The typesetter becomes a machinery of stretching restless tomatoes and official reference pages beside kerning combinations which nobody understands within ordinary dimensions", 2)
}

// shortLine has a break that is cheap, though the line ahead of it is bad, if lines are so many points wide.
func shortLine(width int64) []impl.Cmd {
	return then(typed("a", 2), cmds(cmdNums(impl.CmdRule, (width-40)*point, 0, 0), cmdN(impl.CmdPenalty, -9999)), typed("b", 2))
}

// settingDocs are paragraphs at several widths, with a setting at some place.
func settingDocs(change func(*impl.Cmd)) []impl.Built {
	var out []impl.Built
	for width := int64(60); width < 140; width += 10 {
		par := parCmd(width*point, func(c *impl.Cmd) {
			c.Nums[1], c.Nums[2], c.Nums[3], c.Nums[4], c.Nums[5], c.Nums[9], c.Nums[19] = 2000, 10, 50, 5000, 5000, 2, 20*point
			c.Glues[2], c.Glues[3] = glue(0, 3*point, 0, 0, 0), glue(0, 5*point, 0, 0, 0)
			change(c)
		})
		out = append(out, impl.Build(then(manyWords(), cmds(par), inHbox(typed("x", 2)...), manyWords(), cmds(par), shortLine(width), cmds(par)), impl.PlainBook()))
	}
	return out
}

// What is beyond the bounds of a setting is as if it were at them, what is within them is not.
func TestSettingsAtTheirBounds(t *testing.T) {
	t.Parallel()
	for _, c := range []struct {
		what        string
		at          int
		least, most int64
	}{
		{"Tolerance", 1, 0, 10000}, {"Line", 2, 0, 10000}, {"Hyphen", 3, 0, 10000}, {"Double", 4, 0, 1000000}, {"Adjacent", 5, 0, 1000000},
		{"Between", 8, -10000, 10000}, {"Hang", 9, 0, 4},
	} {
		at := func(n int64) []impl.Built { return settingDocs(func(p *impl.Cmd) { p.Nums[c.at] = n }) }
		least, most := at(c.least), at(c.most)
		differ := func(n int64) bool { return !same(at(n), most) }
		if !slices.ContainsFunc([]int64{c.least, 1, 20, 100, 400, 1000}, differ) {
			t.Errorf("%s changes nothing", c.what)
		}
		for _, n := range []int64{c.least - 1, c.least - 1000, -impl.MaxCount} {
			if !same(at(n), least) {
				t.Errorf("%s of %d", c.what, n)
			}
		}
		for _, n := range []int64{c.most + 1, c.most + 1000, impl.MaxCount} {
			if !same(at(n), most) {
				t.Errorf("%s of %d", c.what, n)
			}
		}
	}
	for what, at := range map[string]int{"Width": 16, "Height": 17, "Indent": 18, "Narrow": 19} {
		docs := func(n int64) []impl.Built { return settingDocs(func(p *impl.Cmd) { p.Nums[at] = n }) }
		least := docs(0)
		for _, n := range []int64{-1, -point, -impl.MaxLen} {
			if !same(docs(n), least) {
				t.Errorf("%s of %d", what, n)
			}
		}
		if at != 18 && (same(docs(40*point), least) || same(docs(impl.MaxLen), least)) {
			t.Errorf("%s changes nothing", what)
		}
	}
	for _, at := range []int{0, 10, 11, 15, 20, 31} {
		if !same(settingDocs(func(p *impl.Cmd) { p.Nums[at] = 1000 }), settingDocs(func(p *impl.Cmd) {})) {
			t.Errorf("number %d is no setting", at)
		}
	}
	for at := range 8 {
		differ := !same(settingDocs(func(p *impl.Cmd) { p.Glues[at] = glue(30*point, 5*point, 2, 0, 0) }), settingDocs(func(p *impl.Cmd) {}))
		if differ != (at < 5) {
			t.Errorf("glue %d", at)
		}
	}
}

// Each setting at each of its bounds, held against the plain telling.
func TestSettingsPlainly(t *testing.T) {
	t.Parallel()
	check := func(change func(*impl.Cmd)) {
		t.Helper()
		par := parCmd(90*point, change)
		checkBuild(t, then(manyWords(), cmds(par), inHbox(typed("x", 2)...), typed("page", 2), cmds(par)), impl.PlainBook())
	}
	for at := range 16 {
		for _, n := range []int64{-impl.MaxCount, -10001, -10000, -1, 0, 1, 2, 3, 4, 5, 9999, 10000, 10001, 999999, 1000000, 1000001, impl.MaxCount} {
			check(func(c *impl.Cmd) { c.Nums[at] = n })
		}
		for _, n := range []int64{-impl.MaxLen, -1, 0, 1, 50 * point, 90 * point, 90*point + 1, impl.MaxLen} {
			check(func(c *impl.Cmd) { c.Nums[16+at], c.Nums[9] = n, 2 })
		}
	}
	for at := range 8 {
		for _, g := range edgeGlues() {
			check(func(c *impl.Cmd) { c.Glues[at] = g })
		}
	}
}

// The first lines of a paragraph are narrower, as many as Hang says.
func TestNarrowLines(t *testing.T) {
	for _, c := range []struct{ hang, narrow, first int64 }{
		{1, 20, 80}, {2, 20, 80}, {4, 99, 1}, {3, 100, 0}, {3, 101, 0}, {2, impl.MaxLen, 0}, {2, 0, 100}, {2, -5, 100}, {9, 20, 80}, {0, 20, 100}, {-1, 20, 100},
	} {
		par := parCmd(100, func(p *impl.Cmd) { p.Nums[9], p.Nums[19] = c.hang, c.narrow })
		brk := cmds(cmdN(impl.CmdPenalty, -10000))
		var cs []impl.Cmd
		for range 5 {
			cs = then(cs, typed("a", 2), brk)
		}
		got := checkBuild(t, then(cs, typed("a", 2), cmds(par)), impl.Book{})
		widths := lineWidths(got.Nodes)
		for i := range widths {
			want := int64(100)
			if int64(i) < min(c.hang, 4) {
				want = c.first
			}
			if widths[i] != want {
				t.Errorf("%+v: %v", c, widths)
			}
		}
		if len(widths) != 6 || strings.Repeat("a", 6) != lettersIn(got.Nodes) {
			t.Errorf("%+v: %v", c, widths)
		}
	}
}

// Left and Right stand at the ends of each line, Fill at the end of the last.
func TestTheGluesOfLines(t *testing.T) {
	left, right, fill, gap := glue(1, 2, 2, 0, 0), glue(3, 4, 2, 0, 0), glue(5, 6, 2, 7, 0), glue(7, 8, 1, 9, 2)
	par := parCmd(lineWidth, func(c *impl.Cmd) { c.Glues[1], c.Glues[2], c.Glues[3], c.Glues[4] = gap, left, right, fill })
	line := func(parts ...nodes) nodes {
		return packedPlainly(listed(glueNode(left), listed(parts...), glueNode(right)), false, 1, lineWidth, 0).Nodes
	}
	last := func(text string) nodes { return line(chars(text, 2), penaltyNode(10000), glueNode(fill)) }
	cs := then(typed("a", 2), cmds(cmdN(impl.CmdPenalty, -10000)), typed("b", 2), cmds(par), typed("c", 2), cmds(par))
	buildCase{what: "three lines", cmds: cs, want: listed(line(chars("a", 2)), last("b"), glueNode(gap), last("c"))}.check(t)
}
