package tests

import (
	"math/rand"
	"slices"
	"testing"

	"loop.example/g00014/impl"
)

// setChar is the node of a char of a plain font, so many tenths of its size wide, high and deep.
func setChar(font int64, c byte, wide, high, deep int64) nodes {
	u := 6553 * (8 + font)
	return nodes{{Kind: impl.NodeChar, Font: font, Char: int64(c), Width: u * wide, Height: u * high, Depth: u * deep}}
}

// fil is what a part of a fraction stands between, set so wide.
func fil(width int64) nodes {
	return setGlueNode(impl.Glue{Plus: impl.Point, PlusOrder: 1}, width)
}

// Font 2 has a tenth of 65530, font 0, in which its scripts are, one of 52424.
func TestFormulasThatAreSet(t *testing.T) {
	const tenth, low = 65530, 52424
	for text, want := range map[string]nodes{
		"":      nil,
		"a":     setChar(2, 'a', 7, 5, 0),
		"p":     setChar(2, 'p', 4, 4, 2),
		"ab":    listed(setChar(2, 'a', 7, 5, 0), setChar(2, 'b', 8, 6, 0)),
		"a+b":   listed(setChar(2, 'a', 7, 5, 0), kernNode(145622), setChar(2, '+', 7, 3, 0), kernNode(145622), setChar(2, 'b', 8, 6, 0)),
		"+b":    listed(setChar(2, '+', 7, 3, 0), setChar(2, 'b', 8, 6, 0)),
		"a,b":   listed(setChar(2, 'a', 7, 5, 0), setChar(2, ',', 8, 3, 0), kernNode(109216), setChar(2, 'b', 8, 6, 0)),
		"a=b":   listed(setChar(2, 'a', 7, 5, 0), kernNode(182027), setChar(2, '=', 7, 3, 0), kernNode(182027), setChar(2, 'b', 8, 6, 0)),
		"{}":    hboxNode(0, 0, 0, 0),
		"{a}":   hboxNode(7*tenth, 5*tenth, 0, 0, setChar(2, 'a', 7, 5, 0)),
		"{pa}":  hboxNode(11*tenth, 5*tenth, 2*tenth, 0, setChar(2, 'p', 4, 4, 2), setChar(2, 'a', 7, 5, 0)),
		"{{a}}": hboxNode(7*tenth, 5*tenth, 0, 0, hboxNode(7*tenth, 5*tenth, 0, 0, setChar(2, 'a', 7, 5, 0))),
		"a/b": vboxNode(314544, 707724, 0, 235908,
			hboxNode(314544, 262120, 0, 0, fil(26212), hboxNode(262120, 262120, 0, 0, setChar(0, 'a', 5, 5, 0)), fil(26212)),
			kernNode(52424), ruleNode(314544, 26212, 0), kernNode(52424),
			hboxNode(314544, 314544, 0, 0, fil(0), hboxNode(314544, 314544, 0, 0, setChar(0, 'b', 6, 6, 0)), fil(0))),
		"b/a": vboxNode(314544, 707724, 0, 183484,
			hboxNode(314544, 314544, 0, 0, fil(0), hboxNode(314544, 314544, 0, 0, setChar(0, 'b', 6, 6, 0)), fil(0)),
			kernNode(52424), ruleNode(314544, 26212, 0), kernNode(52424),
			hboxNode(314544, 262120, 0, 0, fil(26212), hboxNode(262120, 262120, 0, 0, setChar(0, 'a', 5, 5, 0)), fil(26212))),
		"a/a": vboxNode(262120, 655300, 0, 183484,
			hboxNode(262120, 262120, 0, 0, fil(0), hboxNode(262120, 262120, 0, 0, setChar(0, 'a', 5, 5, 0)), fil(0)),
			kernNode(52424), ruleNode(262120, 26212, 0), kernNode(52424),
			hboxNode(262120, 262120, 0, 0, fil(0), hboxNode(262120, 262120, 0, 0, setChar(0, 'a', 5, 5, 0)), fil(0))),
		"p/q": vboxNode(9*low, 812572, 0, 288332,
			hboxNode(9*low, 4*low, 2*low, 0, fil(low/2), hboxNode(8*low, 4*low, 2*low, 0, setChar(0, 'p', 8, 4, 2)), fil(low/2)),
			kernNode(52424), ruleNode(9*low, 26212, 0), kernNode(52424),
			hboxNode(9*low, 5*low, 2*low, 0, fil(0), hboxNode(9*low, 5*low, 2*low, 0, setChar(0, 'q', 9, 5, 2)), fil(0))),
		`\p`: listed(setChar(2, 'v', 4, 6, 0), vboxNode(262120, 314544, 131060, 0,
			ruleNode(262120, 26212, 0), kernNode(26212), hboxNode(262120, 262120, 131060, 0, setChar(2, 'p', 4, 4, 2)))),
		`\{}`: listed(setChar(2, 'v', 4, 6, 0), vboxNode(0, 52424, 0, 0, ruleNode(0, 26212, 0), kernNode(26212), hboxNode(0, 0, 0, 0))),
		"a^2": listed(setChar(2, 'a', 7, 5, 0), hboxNode(314544, 314544, 0, -262120, setChar(0, '2', 6, 6, 0))),
		"a_2": listed(setChar(2, 'a', 7, 5, 0), hboxNode(314544, 314544, 0, 131060, setChar(0, '2', 6, 6, 0))),
		"a^2_p": listed(setChar(2, 'a', 7, 5, 0), vboxNode(419392, 655300, 104848, -26212,
			hboxNode(314544, 314544, 0, 0, setChar(0, '2', 6, 6, 0)), kernNode(131060), hboxNode(419392, 209696, 104848, 0, setChar(0, 'p', 8, 4, 2)))),
		"{}^{a+2}": listed(hboxNode(0, 0, 0, 0), hboxNode(16*low, 6*low, 0, -262120, setChar(0, 'a', 5, 5, 0), setChar(0, '+', 5, 3, 0), setChar(0, '2', 6, 6, 0))),
	} {
		if got := checkMath(t, readsAs(t, text), impl.Text, 2); !same(got, want) {
			t.Errorf("%s: %+v, not %+v", text, got, want)
		}
	}
}

// Every char has a glyph in every font.
func TestEveryCharIsSet(t *testing.T) {
	for font := range int64(16) {
		for c := int64(33); c <= 126; c++ {
			g, ok := impl.GlyphOf(impl.PlainFont(font), c)
			want := nodes{{Kind: impl.NodeChar, Font: font, Char: c, Width: g.Width, Height: g.Height, Depth: g.Depth}}
			if got := impl.SetMath(charAtom(impl.Op, byte(c)), impl.Display, font); !ok || !same(got, want) {
				t.Errorf("char %d of font %d: %+v", c, font, got)
			}
		}
	}
}

// charFonts are the fonts of the chars of a row, in order.
func charFonts(ns nodes) []int64 {
	var out []int64
	for _, n := range ns {
		if n.Kind == impl.NodeChar {
			out = append(out, n.Font)
		}
	}
	return out
}

func TestStylesOfParts(t *testing.T) {
	for text, want := range map[string][4]string{ // the styles of its chars, in each style
		"a":               {"d", "t", "s", "m"},
		"{a}":             {"d", "t", "s", "m"},
		`\a`:              {"dd", "tt", "ss", "mm"},
		"a^a_a":           {"dss", "tss", "smm", "mmm"},
		"{a}^{{a}}":       {"ds", "ts", "sm", "mm"},
		"a^{a^{a^a}}":     {"dsmm", "tsmm", "smmm", "mmmm"},
		"a_{a_{a_a}}":     {"dsmm", "tsmm", "smmm", "mmmm"},
		"a/a":             {"tt", "ss", "mm", "mm"},
		"{a/a}/{a}":       {"sst", "mms", "mmm", "mmm"},
		"a/{a/{a/a}}":     {"tsmm", "smmm", "mmmm", "mmmm"},
		"{a}/{a^a}^a":     {"ttss", "ssms", "mmmm", "mmmm"},
		"a^{a/a}":         {"dmm", "tmm", "smm", "mmm"},
		`\{a/a}`:          {"dtt", "tss", "smm", "mmm"},
		`{\{a^{\a}}}/{a}`: {"ttsst", "ssmms", "mmmmm", "mmmmm"},
	} {
		as := readsAs(t, text)
		for style, letters := range want {
			for font := range int64(16) {
				fontOf := map[rune]int64{'d': font, 't': font, 's': max(font-3, 0), 'm': max(font-5, 0)}
				var fonts []int64
				for _, c := range letters {
					fonts = append(fonts, fontOf[c])
				}
				if got := charFonts(checkMath(t, as, int64(style), font)); !slices.Equal(got, fonts) {
					t.Errorf("%s in style %d of font %d: fonts %v, not %v", text, style, font, got, fonts)
				}
			}
		}
	}
}

func TestEveryGapIsSet(t *testing.T) {
	ord := charAtom(impl.Ord, 'a')
	for a := range int64(8) {
		for b := range int64(8) {
			as := formula(ord, charAtom(a, 'a'), charAtom(b, 'a'), ord)
			for style := range int64(4) {
				for _, font := range []int64{0, 2, 3, 5, 15} {
					checkMath(t, as, style, font)
				}
			}
		}
	}
}

func TestFormulasThatAreNotSet(t *testing.T) {
	as := formula(anAtom, fracAtom(anAtom, anAtom))
	for _, bad := range append([]int64{4, 5}, corners...) {
		if bad < 0 || bad > 3 {
			if got := checkMath(t, as, bad, 2); len(got) > 0 {
				t.Errorf("style %d: %+v", bad, got)
			}
		}
		if bad < 0 || bad > 15 {
			if got := checkMath(t, as, impl.Text, bad); len(got) > 0 {
				t.Errorf("font %d: %+v", bad, got)
			}
		}
	}
	for _, style := range []int64{0, 3} {
		for _, font := range []int64{0, 15} {
			if got := checkMath(t, as, style, font); len(got) == 0 {
				t.Errorf("style %d, font %d: nothing", style, font)
			}
		}
	}
	if got := checkMath(t, as, impl.Text, 16); len(got) > 0 {
		t.Error("font 16")
	}
}

// Chars are at most nine tenths of their size wide: b in font 15, e in font 12.
func TestMathTooWide(t *testing.T) {
	bs := func(n int) atoms { return slices.Repeat(charAtom(impl.Ord, 'b'), n) }
	es := func(n int) atoms { return slices.Repeat(charAtom(impl.Ord, 'e'), n) }
	const b, e = 791, 910 // so many fit
	for name, as := range map[string][2]atoms{
		"group":        {groupAtom(bs(b)), groupAtom(bs(b + 1))},
		"root":         {rootAtom(bs(b)), rootAtom(bs(b + 1))},
		"Up":           {withScripts(anAtom, es(e), nil), withScripts(anAtom, es(e+1), nil)},
		"Down":         {withScripts(anAtom, nil, es(e)), withScripts(anAtom, nil, es(e+1))},
		"Up and Down":  {withScripts(anAtom, es(e), es(e)), withScripts(anAtom, es(1), es(e+1))},
		"Up, not Down": {withScripts(anAtom, es(e), es(e)), withScripts(anAtom, es(e+1), es(1))},
		"above":        {fracAtom(es(e), es(e)), fracAtom(es(e+1), es(1))},
		"below":        {fracAtom(es(e), es(e)), fracAtom(es(1), es(e+1))},
	} {
		if got := checkMath(t, as[0], impl.Text, 15); len(got) == 0 || !checkFormula(t, as[1]) {
			t.Error(name, "that fits")
		}
		if got := checkMath(t, as[1], impl.Text, 15); len(got) > 0 {
			t.Error(name, "too wide")
		}
		if got := checkMath(t, formula(anAtom, as[1], anAtom), impl.Text, 15); len(got) > 0 {
			t.Error(name, "too wide, among others")
		}
	}
	// A row is in no box, so it may be as wide as it is; but then it has no size.
	if got := checkMath(t, bs(b+1), impl.Text, 15); len(got) != b+1 || impl.MathSize(bs(b+1), impl.Text, 15) != (impl.Size{}) || impl.MathSize(bs(b), impl.Text, 15).Width != b*9*150719 {
		t.Error("a wide row")
	}
}

// scriptTree is an atom with scripts above and below, in each of which stands such a tree again: so many atoms in all.
func scriptTree(n int) atoms {
	if n < 3 {
		return withScripts(charAtom(impl.Ord, 'g'), slices.Repeat(charAtom(impl.Ord, 'g'), n-1), nil)
	}
	up := (n - 1) / 2
	return withScripts(charAtom(impl.Ord, 'g'), scriptTree(up), scriptTree(n-1-up))
}

func TestMathTooTall(t *testing.T) {
	t.Parallel()
	low, high := 1000, 2000 // low fits, high does not
	for low+1 < high {
		mid := (low + high) / 2
		if len(impl.SetMath(scriptTree(mid), impl.Text, 15)) > 0 {
			low = mid
		} else {
			high = mid
		}
	}
	if low == 1000 || high == 2000 || !checkFormula(t, scriptTree(high)) {
		t.Fatal("no tree is too tall, or all are")
	}
	checkMath(t, scriptTree(low), impl.Text, 15)
	checkMath(t, scriptTree(high), impl.Text, 15)
}

// A group is one box, a root two in each other, a fraction three, a script one, or two where there are both: no box may stand in more than 40.
func TestMathTooDeep(t *testing.T) {
	frac := func(as atoms) atoms { return fracAtom(as, nil) }
	under := func(as atoms) atoms { return fracAtom(nil, as) }
	both := func(as atoms) atoms { return withScripts(anAtom, anAtom, as) }
	groups := func(as atoms, n int) atoms { return inside(as, n, inGroupAtom) }
	for name, as := range map[string][2]atoms{
		"roots":         {groups(inside(anAtom, 20, inRootAtom), 1), inside(anAtom, 21, inRootAtom)},
		"roots, groups": {groups(inside(anAtom, 20, inRootAtom), 1), groups(inside(anAtom, 20, inRootAtom), 2)},
		"above":         {groups(inside(anAtom, 13, frac), 2), groups(inside(anAtom, 13, frac), 3)},
		"below":         {groups(inside(anAtom, 13, under), 2), groups(inside(anAtom, 13, under), 3)},
		"both scripts":  {groups(inside(anAtom, 20, both), 1), groups(inside(anAtom, 20, both), 2)},
	} {
		if len(checkMath(t, as[0], impl.Text, 9)) == 0 {
			t.Error(name, "that can be")
		}
		if !checkFormula(t, as[1]) || len(checkMath(t, as[1], impl.Text, 9)) > 0 {
			t.Error(name, "too deep")
		}
	}
	for _, as := range []atoms{groups(nil, 41), inside(anAtom, 40, inUpOf), inside(anAtom, 40, inDownOf)} {
		if len(checkMath(t, as, impl.Text, 9)) == 0 {
			t.Error("one box a part is never too deep")
		}
	}
}

// So many atoms as there may be.
func TestLargeFormulas(t *testing.T) {
	fracs := slices.Repeat(fracAtom(nil, nil), 666)
	scripts := slices.Repeat(withScripts(charAtom(impl.Rel, '='), anAtom, anAtom), 666)
	for _, as := range []atoms{fracs, scripts, formula(fracs, anAtom, anAtom), slices.Repeat(rootAtom(), 2000), inside(slices.Repeat(anAtom, 1900), 20, inRootAtom)} {
		if ns := checkMath(t, as, impl.Display, 0); len(ns) == 0 || !impl.ListOk(ns) {
			t.Errorf("%+v gives nothing", shortAtoms(as))
		}
	}
}

func TestMathAtRandom(t *testing.T) {
	t.Parallel()
	r := formulas{rand.New(rand.NewSource(123))}
	counts := map[int64]int{}
	for range 1500 {
		as := r.row(6, r.Intn(6))
		checkFormula(t, as)
		for _, n := range checkMath(t, as, r.Int63n(4), r.Int63n(16)) {
			counts[n.Kind]++
		}
	}
	for _, kind := range []int64{impl.NodeChar, impl.NodeKern, impl.NodeGlue, impl.NodeRule, impl.NodeHbox, impl.NodeVbox} {
		if counts[kind] < 1000 {
			t.Error("too few nodes:", kind, counts)
		}
	}
}

// Formulas that may be too deep to be set.
func TestDeepMathAtRandom(t *testing.T) {
	t.Parallel()
	r := formulas{rand.New(rand.NewSource(124))}
	around := []func(atoms) atoms{
		inGroupAtom, inRootAtom, inUpOf, inDownOf,
		func(as atoms) atoms { return fracAtom(as, anAtom) },
		func(as atoms) atoms { return fracAtom(anAtom, as) },
		func(as atoms) atoms { return withScripts(rootAtom(anAtom), as, anAtom) },
		func(as atoms) atoms { return withScripts(groupAtom(as), anAtom, nil) },
	}
	set, unset := 0, 0
	for range 250 {
		as := r.row(2, 2)
		for range 15 + r.Intn(25) {
			as = around[r.Intn(len(around))](as)
		}
		if ok := checkFormula(t, as); ok && len(checkMath(t, as, r.Int63n(4), r.Int63n(16))) > 0 {
			set++
		} else if ok {
			unset++
		}
	}
	if set < 30 || unset < 30 {
		t.Error("too few:", set, unset)
	}
}
