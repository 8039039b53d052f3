package tests

import (
	"math/rand"
	"reflect"
	"slices"
	"strings"
	"testing"

	"loop.example/g00014/impl"
)

var anAtom = charAtom(impl.Ord, 'a')

// formulasThatCan have each kind of atom, with and without scripts, and with parts in parts.
var formulasThatCan = map[string]atoms{
	"nothing":                     nil,
	"a char":                      anAtom,
	"some chars":                  formula(charAtom(impl.Bin, '+'), anAtom, charAtom(impl.Rel, '=')),
	"the first char":              charAtom(impl.Ord, 33),
	"the last char":               charAtom(impl.Ord, 126),
	"an empty group":              groupAtom(),
	"a group":                     groupAtom(anAtom, anAtom),
	"groups in a group":           groupAtom(groupAtom(), anAtom, groupAtom(anAtom)),
	"a fraction":                  fracAtom(anAtom, formula(anAtom, anAtom)),
	"a fraction of nothing":       fracAtom(nil, nil),
	"parts of any class":          holderAtom(impl.AtomFrac, impl.Op, holderAtom(impl.AtomGroup, impl.Bin), holderAtom(impl.AtomGroup, impl.Rel, anAtom)),
	"a root":                      rootAtom(anAtom, anAtom),
	"a root of nothing":           rootAtom(),
	"a char with Up":              withScripts(anAtom, anAtom, nil),
	"a char with Down":            withScripts(anAtom, nil, anAtom),
	"a char with both":            withScripts(anAtom, formula(anAtom, anAtom), anAtom),
	"a group with Up":             withScripts(groupAtom(anAtom), anAtom, nil),
	"an empty group with Down":    withScripts(groupAtom(), nil, anAtom),
	"a fraction with both":        withScripts(fracAtom(anAtom, anAtom), anAtom, anAtom),
	"a root with both":            withScripts(rootAtom(anAtom), anAtom, anAtom),
	"scripts of scripts":          withScripts(anAtom, withScripts(anAtom, anAtom, anAtom), withScripts(anAtom, nil, anAtom)),
	"scripts in a fraction":       fracAtom(withScripts(anAtom, anAtom, nil), withScripts(anAtom, nil, anAtom)),
	"a fraction in a root":        rootAtom(fracAtom(rootAtom(anAtom), anAtom)),
	"groups in parts' groups":     fracAtom(withScripts(groupAtom(anAtom), anAtom, nil), groupAtom()),
	"a fraction and a root in Up": withScripts(anAtom, formula(fracAtom(anAtom, anAtom), rootAtom(anAtom)), nil),
}

func TestFormulasThatCan(t *testing.T) {
	for name, as := range formulasThatCan {
		if !checkFormula(t, as) {
			t.Error(name)
		}
		if inside := formula(anAtom, groupAtom(as), anAtom); !checkFormula(t, inside) {
			t.Error(name, "in a group")
		}
	}
}

func changedAtom(as atoms, at int, change func(*impl.Atom)) atoms {
	out := slices.Clone(as)
	change(&out[at])
	return out
}

// formulasThatCannot are each wrong in one thing.
func formulasThatCannot() map[string]atoms {
	inUp := withScripts(anAtom, anAtom, nil)
	group := groupAtom(anAtom)
	parts := func(parts ...atoms) atoms { return holderAtom(impl.AtomFrac, impl.Inner, parts...) }
	return map[string]atoms{
		"kind 0":                      changedAtom(anAtom, 0, func(a *impl.Atom) { a.Kind = 0 }),
		"the zero value":              {{}},
		"kind 5":                      changedAtom(group, 0, func(a *impl.Atom) { a.Kind = 5 }),
		"kind -1":                     changedAtom(group, 0, func(a *impl.Atom) { a.Kind = -1 }),
		"class -1":                    charAtom(-1, 'a'),
		"class 8":                     charAtom(8, 'a'),
		"class 8 of a group":          holderAtom(impl.AtomGroup, 8),
		"class -1 of a root":          holderAtom(impl.AtomRoot, -1),
		"class 8 in a group":          groupAtom(charAtom(8, 'a')),
		"char 32":                     charAtom(impl.Ord, 32),
		"char 127":                    charAtom(impl.Ord, 127),
		"char 0":                      charAtom(impl.Ord, 0),
		"char 'a' and 256":            changedAtom(anAtom, 0, func(a *impl.Atom) { a.Char += 256 }),
		"a group with a Char":         changedAtom(group, 0, func(a *impl.Atom) { a.Char = 'a' }),
		"a root with a Char":          changedAtom(rootAtom(), 0, func(a *impl.Atom) { a.Char = 'a' }),
		"a fraction with a Char":      changedAtom(fracAtom(nil, nil), 0, func(a *impl.Atom) { a.Char = 'a' }),
		"a char with a Body":          changedAtom(formula(anAtom, anAtom), 0, func(a *impl.Atom) { a.Body = 1 }),
		"Body -1":                     changedAtom(group, 0, func(a *impl.Atom) { a.Body = -1 }),
		"Up -1":                       changedAtom(inUp, 0, func(a *impl.Atom) { a.Up = -1 }),
		"Down -1":                     changedAtom(inUp, 0, func(a *impl.Atom) { a.Down = -1 }),
		"Body beyond the end":         changedAtom(group, 0, func(a *impl.Atom) { a.Body = 2 }),
		"Up beyond the end":           changedAtom(inUp, 0, func(a *impl.Atom) { a.Up = 2 }),
		"Down beyond the end":         changedAtom(inUp, 0, func(a *impl.Atom) { a.Down = 1 }),
		"Body beyond what it is in":   formula(groupAtom(changedAtom(group, 0, func(a *impl.Atom) { a.Body = 2 })), anAtom),
		"Up beyond what it is in":     formula(groupAtom(changedAtom(anAtom, 0, func(a *impl.Atom) { a.Up = 1 })), anAtom),
		"Down beyond what it is in":   formula(withScripts(anAtom, nil, changedAtom(anAtom, 0, func(a *impl.Atom) { a.Down = 1 })), anAtom),
		"Body and Up that wrap round": changedAtom(group, 0, func(a *impl.Atom) { a.Body, a.Up = 1<<62+1<<61, 1<<62+1<<61 }),
		"a fraction of nothing":       parts(),
		"a fraction of one part":      parts(group),
		"a fraction of three parts":   parts(group, group, group),
		"a fraction of chars":         parts(anAtom, anAtom),
		"a fraction over a char":      parts(group, anAtom),
		"a fraction under a char":     parts(anAtom, group),
		"a fraction of roots":         parts(rootAtom(anAtom), rootAtom(anAtom)),
		"a fraction of a fraction":    parts(fracAtom(anAtom, anAtom), group),
		"a part with Up":              parts(withScripts(group, anAtom, nil), group),
		"a part with Down":            parts(group, withScripts(group, nil, anAtom)),
		"a wrong one in Up":           withScripts(anAtom, charAtom(8, 'a'), nil),
		"a wrong one in Down":         withScripts(anAtom, nil, charAtom(8, 'a')),
		"a wrong one in a root":       rootAtom(charAtom(8, 'a')),
		"a wrong one in a part":       fracAtom(anAtom, charAtom(8, 'a')),
		"a wrong one behind all":      formula(fracAtom(anAtom, anAtom), anAtom, charAtom(impl.Ord, 32)),
	}
}

func TestFormulasThatCannot(t *testing.T) {
	for name, as := range formulasThatCannot() {
		for _, all := range []atoms{as, formula(anAtom, as), groupAtom(as)} {
			if checkFormula(t, all) || len(impl.Classes(all)) > 0 || len(impl.SetMath(all, impl.Text, 2)) > 0 || impl.MathSize(all, impl.Text, 2) != (impl.Size{}) {
				t.Error(name)
			}
		}
	}
}

// inside puts a formula into so many atoms' parts, each time in another way.
func inside(as atoms, deep int, around ...func(atoms) atoms) atoms {
	for i := range deep {
		as = around[i%len(around)](as)
	}
	return as
}

func inGroupAtom(as atoms) atoms { return groupAtom(as) }
func inRootAtom(as atoms) atoms  { return rootAtom(as) }
func inUpOf(as atoms) atoms      { return withScripts(anAtom, as, nil) }
func inDownOf(as atoms) atoms    { return withScripts(anAtom, nil, as) }

func TestFormulaLimits(t *testing.T) {
	many := func(n int) atoms { return slices.Repeat(anAtom, n) }
	for name, as := range map[string][2]atoms{
		"atoms":              {many(2000), many(2001)},
		"atoms in a group":   {groupAtom(many(1999)), groupAtom(many(2000))},
		"atoms in scripts":   {withScripts(anAtom, many(1000), many(999)), withScripts(anAtom, many(1000), many(1000))},
		"groups":             {inside(anAtom, 40, inGroupAtom), inside(anAtom, 41, inGroupAtom)},
		"empty groups":       {inside(groupAtom(), 40, inGroupAtom), inside(groupAtom(), 41, inGroupAtom)},
		"roots":              {inside(anAtom, 40, inRootAtom), inside(anAtom, 41, inRootAtom)},
		"in Up":              {inside(anAtom, 40, inUpOf), inside(anAtom, 41, inUpOf)},
		"in Down":            {inside(anAtom, 40, inDownOf), inside(anAtom, 41, inDownOf)},
		"in all":             {inside(anAtom, 40, inUpOf, inGroupAtom, inDownOf, inRootAtom), inside(anAtom, 41, inUpOf, inGroupAtom, inDownOf, inRootAtom)},
		"above in fractions": {inside(anAtom, 20, func(as atoms) atoms { return fracAtom(as, nil) }), groupAtom(inside(anAtom, 20, func(as atoms) atoms { return fracAtom(as, nil) }))},
		"below in fractions": {inside(anAtom, 20, func(as atoms) atoms { return fracAtom(nil, as) }), groupAtom(inside(anAtom, 20, func(as atoms) atoms { return fracAtom(nil, as) }))},
	} {
		if !checkFormula(t, as[0]) || checkFormula(t, as[1]) {
			t.Error(name)
		}
		if len(impl.Classes(as[0])) == 0 || len(impl.Classes(as[1])) != 0 || len(impl.SetMath(as[1], impl.Text, 2)) != 0 {
			t.Error(name)
		}
	}
}

func TestClassOfEachByte(t *testing.T) {
	known := map[int64]string{impl.Bin: "+-*", impl.Rel: "<=>:", impl.Open: "([", impl.Close: ")]!?", impl.Punct: ",;"}
	for c := int64(-300); c <= 600; c++ {
		want := int64(impl.Ord)
		for class, of := range known {
			if c >= 0 && c < 128 && strings.IndexByte(of, byte(c)) >= 0 {
				want = class
			}
		}
		if got := impl.ClassOf(c); got != want {
			t.Errorf("ClassOf(%d) = %d", c, got)
		}
	}
	for _, c := range corners {
		if got := impl.ClassOf(c); got != 0 {
			t.Errorf("ClassOf(%d) = %d", c, got)
		}
	}
	if impl.ClassOf('|') != impl.Ord || impl.ClassOf('+'+256) != impl.Ord {
		t.Error("no byte of a class")
	}
}

func TestEveryGap(t *testing.T) {
	numbers := append([]int64{4, 5, 6, 8, 9}, corners...)
	for _, a := range numbers {
		for _, b := range numbers {
			for _, small := range []bool{false, true} {
				if got, want := impl.Gap(a, b, small), gapPlainly(a, b, small); got != want {
					t.Errorf("Gap(%d, %d, %v) = %d, not %d", a, b, small, got, want)
				}
			}
		}
	}
	if impl.Gap(impl.Punct, impl.Rel, false) != 3 || impl.Gap(impl.Rel, impl.Punct, false) != 0 || impl.Gap(impl.Inner, impl.Op, true) != 3 || impl.Gap(impl.Inner, impl.Punct, true) != 0 {
		t.Error("gaps")
	}
}

// ofClasses is a row of chars, in which a digit is one of that class.
func ofClasses(text string) atoms {
	var out atoms
	for i := range len(text) {
		out = append(out, charAtom(int64(text[i]-'0'), 'a')...)
	}
	return out
}

func TestClassesOfRows(t *testing.T) {
	for text, want := range map[string]string{
		"":        "",
		"0":       "0",
		"01":      "01",
		"0134567": "0134567",
		"2":       "0",
		"22":      "00",
		"222":     "020", // the one in the middle has an Ord ahead, and a Bin behind
		"20":      "00",
		"02":      "00",
		"020":     "020",
		"0220":    "0200",
		"02220":   "02020", // the third has one ahead that counts as Ord
		"022220":  "020200",
		"120":     "100",
		"320":     "300",
		"420":     "400",
		"520":     "520",
		"620":     "600",
		"720":     "720",
		"021":     "021",
		"023":     "003",
		"024":     "024",
		"025":     "005",
		"026":     "006",
		"027":     "027",
		"0223":    "0203", // what is behind has its own Class, Bin
		"52027":   "52027",
	} {
		as := ofClasses(text)
		checkFormula(t, as)
		got := ""
		for _, c := range impl.Classes(as) {
			got += string(rune('0' + c))
		}
		if got != want {
			t.Errorf("classes of %s: %s, not %s", text, got, want)
		}
	}
}

// Only atoms in no other's part count: what is in a part is behind no one.
func TestClassesPassOverParts(t *testing.T) {
	bin := charAtom(impl.Bin, '+')
	as := formula(withScripts(anAtom, bin, bin), bin, groupAtom(charAtom(impl.Rel, '='), bin), fracAtom(bin, bin), withScripts(holderAtom(impl.AtomRoot, impl.Bin, bin), bin, nil))
	if got := impl.Classes(as); !slices.Equal(got, []int64{impl.Ord, impl.Bin, impl.Ord, impl.Inner, impl.Ord}) {
		t.Error(got)
	}
	checkFormula(t, as)
}

func TestClassesOfAllShortRows(t *testing.T) {
	var rows func(ahead string, more int)
	rows = func(ahead string, more int) {
		checkFormula(t, ofClasses(ahead))
		for c := '0'; c <= '7' && more > 0; c++ {
			rows(ahead+string(c), more-1)
		}
	}
	rows("", 4)
}

func TestClassesOfLongRows(t *testing.T) {
	r := rand.New(rand.NewSource(131))
	for range 3000 {
		as := make(atoms, 0, 40)
		for range r.Intn(40) {
			class := r.Int63n(8)
			if r.Intn(2) == 0 {
				class = impl.Bin
			}
			as = append(as, charAtom(class, 'a')...)
		}
		checkFormula(t, as)
	}
}

// spoilAtom changes one field of an atom.
func spoilAtom(r *rand.Rand, a *impl.Atom) {
	f := reflect.ValueOf(a).Elem().Field(r.Intn(6))
	switch r.Intn(3) {
	case 0:
		f.SetInt(strange[r.Intn(len(strange))])
	case 1:
		f.SetInt(anyNumber(r))
	case 2:
		f.SetInt(f.Int() + r.Int63n(5) - 2)
	}
}

func TestFormulasAtRandom(t *testing.T) {
	t.Parallel()
	r := formulas{rand.New(rand.NewSource(121))}
	can, cannot := 0, 0
	for range 8000 {
		as := r.row(5, 6)
		if !checkFormula(t, as) {
			t.Fatalf("%+v is no formula", as)
		}
		for range min(1+r.Intn(2), len(as)) {
			spoilAtom(r.Rand, &as[r.Intn(len(as))])
		}
		if checkFormula(t, as) {
			can++
		} else {
			cannot++
		}
	}
	if can < 1000 || cannot < 1000 {
		t.Error("too few:", can, cannot)
	}
}

// A formula's atoms, whatever the numbers that say which belong to which.
func TestFormulasOfAnyParts(t *testing.T) {
	r := rand.New(rand.NewSource(122))
	can := 0
	for range 60000 {
		as := make(atoms, r.Intn(6))
		for i := range as {
			as[i] = impl.Atom{Kind: 1 + r.Int63n(4), Class: r.Int63n(8), Body: r.Int63n(3), Up: r.Int63n(2), Down: r.Int63n(2)}
			if as[i].Kind == impl.AtomFrac {
				as[i].Body = 2 + r.Int63n(3)
			}
			if as[i].Kind == impl.AtomChar && r.Intn(9) > 0 {
				as[i].Char, as[i].Body = 33+r.Int63n(94), 0
			}
		}
		if checkFormula(t, as) {
			can++
		}
	}
	if can < 5000 {
		t.Error("too few that can be:", can)
	}
}
