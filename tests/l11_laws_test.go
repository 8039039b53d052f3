package tests

import (
	"math/rand"
	"slices"
	"strings"
	"testing"

	"loop.example/g00014/impl"
)

// alone are the atoms of a formula that are in no other's part, each with what belongs to it.
func alone(as atoms) []atoms {
	var out []atoms
	for len(as) > 0 {
		end := 1 + as[0].Body + as[0].Up + as[0].Down
		out = append(out, as[:end])
		as = as[end:]
	}
	return out
}

// A row is its atoms as they are alone, and the gaps of the classes they count as.
func TestRowsAreAtomsAndGaps(t *testing.T) {
	t.Parallel()
	r := formulas{rand.New(rand.NewSource(126))}
	for range 1000 {
		as, style, font := r.row(7, 3), r.Int63n(4), r.Int63n(16)
		quad := impl.PlainFont(max(0, font-[]int64{0, 0, 3, 5}[style])).Quad
		classes := impl.Classes(as)
		var row nodes
		width := int64(0)
		for i, a := range alone(as) {
			if i > 0 {
				gap := impl.Gap(classes[i-1], classes[i], style >= impl.Script) * quad / 18
				width += gap
				if gap != 0 {
					row = append(row, kernNode(gap)...)
				}
			}
			row = append(row, impl.SetMath(a, style, font)...)
			width += impl.MathSize(a, style, font).Width
		}
		got := impl.SetMath(as, style, font)
		if size := impl.MathSize(as, style, font); size.Width != width || !same(got, row) || size != impl.Natural(got, true) || !impl.ListOk(got) {
			t.Fatalf("%+v in style %d of font %d: %+v, not %+v", as, style, font, short(got), short(row))
		}
	}
}

// What stands in brackets in the table is no gap in Script and Small: what is left stands beside an Op.
func TestSmallRowsHaveNoGapsInBrackets(t *testing.T) {
	for a := range int64(8) {
		for b := range int64(8) {
			as := formula(anAtom, charAtom(a, 'a'), charAtom(b, 'a'), anAtom)
			for _, style := range []int64{impl.Script, impl.Small} {
				kerns := 0
				for _, n := range impl.SetMath(as, style, 9) {
					if n.Kind == impl.NodeKern {
						kerns++
						if n.Width != 3*impl.PlainFont(9-[]int64{3, 5}[style-2]).Quad/18 {
							t.Errorf("a gap of %d between %d and %d", n.Width, a, b)
						}
					}
				}
				if kerns > 0 && a != impl.Op && b != impl.Op || kerns == 0 && a == impl.Op {
					t.Errorf("%d gaps of classes %d and %d", kerns, a, b)
				}
			}
		}
	}
	wide, small := readsAs(t, "a+b=c,(x)"), readsAs(t, "a^{a+b=c,(x)}")
	if kerns := len(impl.SetMath(wide, impl.Text, 9)) - 9; kerns != 5 {
		t.Error(kerns)
	}
	if got := impl.SetMath(small, impl.Text, 9); len(got) != 2+9 {
		t.Error(got)
	}
}

// A text in braces is a group of one atom, which is as large as the text is alone.
func TestTextsInBraces(t *testing.T) {
	t.Parallel()
	r := formulas{rand.New(rand.NewSource(127))}
	for range 1000 {
		s := r.text(5, 2)
		as, group := readsAs(t, s), readsAs(t, "{"+s+"}")
		if len(impl.Classes(group)) != 1 || !same(group, groupAtom(as)) {
			t.Fatalf("%q in braces: %+v", s, group)
		}
		style, font := r.Int63n(4), r.Int63n(16)
		got, want := impl.MathSize(group, style, font), impl.MathSize(as, style, font)
		box := impl.HPack(impl.SetMath(as, style, font), 0, 0).Nodes
		if got != want || !same(impl.SetMath(group, style, font), box) {
			t.Fatalf("%q in braces is as large as %+v, not %+v", s, got, want)
		}
	}
}

// lowerEdges are how high above a row's baseline its rules begin.
func lowerEdges(row nodes) []int64 {
	var out []int64
	for _, s := range impl.Spots(impl.HPack(row, 0, 0).Nodes, 0, 0) {
		if s.Char == -1 {
			out = append(out, -s.Y)
		}
	}
	return out
}

// The rule of a fraction is half a Rise above the baseline, whatever is above and below.
func TestFractionsStandOnTheirRule(t *testing.T) {
	r := formulas{rand.New(rand.NewSource(128))}
	chars := func() atoms {
		var out atoms
		for range 1 + r.Intn(4) {
			out = append(out, charAtom(r.Int63n(8), byte(33+r.Intn(94)))...)
		}
		return out
	}
	for range 500 {
		above, below, style, font := chars(), chars(), r.Int63n(4), r.Int63n(16)
		rise := impl.PlainFont(max(0, font-[]int64{0, 0, 3, 5}[style])).Rise
		row := impl.SetMath(fracAtom(above, below), style, font)
		if got := lowerEdges(row); !slices.Equal(got, []int64{rise / 2}) {
			t.Fatalf("rules at %v, not %d", got, rise/2)
		}
		part := []int64{1, 2, 3, 3}[style]
		if row[0].Width != max(impl.MathSize(above, part, font).Width, impl.MathSize(below, part, font).Width) {
			t.Fatal("a fraction is as wide as its wider part")
		}
	}
}

// What a formula shows, it shows in every way to say it: with scripts in either order, with blanks, with braces around a byte of a fraction or a root.
func TestTextsThatAreTheSame(t *testing.T) {
	for _, texts := range [][]string{
		{"x^2_1", "x_1^2", "x_{1}^{2}", " x _ 1 ^ { 2 }"},
		{"a/b", "{a}/b", "a/{b}", "{a}/{b}"},
		{`\a`, `\{a}`, `\ { a }`},
		{"a/b/c", "{a/b}/c", "{{a}/{b}}/{c}"},
		{"a^{b}", "a^b"},
	} {
		want := readsAs(t, texts[0])
		for _, text := range texts[1:] {
			if got := readsAs(t, text); !same(got, want) {
				t.Errorf("%q and %q: %+v, %+v", texts[0], text, want, got)
			}
		}
	}
}

func TestMathAnswersAreNewMemoryAndArgumentsStay(t *testing.T) {
	r := formulas{rand.New(rand.NewSource(129))}
	for range 300 {
		as := roomy(formula(r.row(5, 4), fracAtom(anAtom, anAtom), withScripts(rootAtom(anAtom), anAtom, anAtom)))
		before := told(as)
		checkNewMemory(t, [][]int64{impl.Classes(as), impl.Classes(as)}, as)
		checkNewMemory(t, []nodes{impl.SetMath(as, 0, 9), impl.SetMath(as, 0, 9)}, as)
		impl.FormulaOk(as)
		impl.MathSize(as, 1, 9)
		if told(as) != before {
			t.Fatalf("%+v was changed", as)
		}
		s := strings.Clone(r.text(4, 2))
		one, _ := impl.ReadMath(s)
		two, _ := impl.ReadMath(s)
		checkNewMemory(t, []atoms{one, two}, s)
	}
}

// What is written into an answer is seen in no other one.
func TestMathAnswersHangOnNothingElse(t *testing.T) {
	text := `a+{b}/{c^2_1}=\{x+y}`
	as, _ := impl.ReadMath(text)
	row, classes := impl.SetMath(as, impl.Text, 5), impl.Classes(as)
	for i := range row[:cap(row)] {
		row[:cap(row)][i] = impl.Node{Kind: -5, Kids: 99}
	}
	for i := range classes[:cap(classes)] {
		classes[:cap(classes)][i] = -9
	}
	for i := range as[:cap(as)] {
		as[:cap(as)][i] = impl.Atom{Kind: -5, Body: 99}
	}
	again := readsAs(t, text)
	checkFormula(t, again)
	if got := checkMath(t, again, impl.Text, 5); len(got) != len(row) {
		t.Error(got)
	}
}

func TestMathOfAnyNumbers(t *testing.T) {
	r := formulas{rand.New(rand.NewSource(130))}
	for range 3000 {
		as := r.row(4, 3)
		if len(as) > 0 && r.Intn(2) == 0 {
			spoilAtom(r.Rand, &as[r.Intn(len(as))])
		}
		checkFormula(t, as)
		style, font := r.Int63n(6)-1, r.Int63n(18)-1
		if r.Intn(4) == 0 {
			style = anyNumber(r.Rand)
		}
		if r.Intn(4) == 0 {
			font = anyNumber(r.Rand)
		}
		checkMath(t, as, style, font)
		a, b := anyNumber(r.Rand), r.Int63n(10)-1
		if impl.Gap(a, b, true) != gapPlainly(a, b, true) || impl.Gap(b, a, false) != gapPlainly(b, a, false) || impl.ClassOf(a) != classPlainly(a) {
			t.Fatal(a, b)
		}
		bytes := make([]byte, r.Intn(12))
		r.Read(bytes)
		checkReadMath(t, string(bytes))
	}
	for _, n := range []int{1001, 100000} {
		if as, ok := impl.ReadMath(strings.Repeat("{", n)); ok || len(as) > 0 {
			t.Error(n)
		}
	}
	if impl.FormulaOk(make(atoms, 1000000)) || impl.FormulaOk(slices.Repeat(groupAtom(anAtom), 100000)) {
		t.Error("too many atoms")
	}
}
