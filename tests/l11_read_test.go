package tests

import (
	"math/rand"
	"strings"
	"testing"

	"loop.example/g00014/impl"
)

func TestTextsOfFormulas(t *testing.T) {
	a, b, c := anAtom, charAtom(impl.Ord, 'b'), charAtom(impl.Ord, 'c')
	for text, want := range map[string]atoms{
		"":              nil,
		"   ":           nil,
		"a":             a,
		" a b ":         formula(a, b),
		"a+b":           formula(a, charAtom(impl.Bin, '+'), b),
		"!~":            formula(charAtom(impl.Close, '!'), charAtom(impl.Ord, '~')),
		"([<|;":         formula(charAtom(impl.Open, '('), charAtom(impl.Open, '['), charAtom(impl.Rel, '<'), charAtom(impl.Ord, '|'), charAtom(impl.Punct, ';')),
		"{}":            groupAtom(),
		"{ }":           groupAtom(),
		"{}{}":          formula(groupAtom(), groupAtom()),
		"{a{b}c}":       groupAtom(a, groupAtom(b), c),
		"a^b":           withScripts(a, b, nil),
		"a_b":           withScripts(a, nil, b),
		"a^b_c":         withScripts(a, b, c),
		"a_c^b":         withScripts(a, b, c),
		"a ^ b _ c":     withScripts(a, b, c),
		"a^bc":          formula(withScripts(a, b, nil), c),
		"a^{bc}":        withScripts(a, formula(b, c), nil),
		"a^{{b}}":       withScripts(a, groupAtom(b), nil),
		"a^{{}}":        withScripts(a, groupAtom(), nil),
		"a_{b_c}":       withScripts(a, nil, withScripts(b, nil, c)),
		"a^+":           withScripts(a, charAtom(impl.Bin, '+'), nil),
		"{}_a":          withScripts(groupAtom(), nil, a),
		"{a}^b":         withScripts(groupAtom(a), b, nil),
		"a/b":           fracAtom(a, b),
		"a / b":         fracAtom(a, b),
		"{a}/{b}":       fracAtom(a, b),
		"{ab}/c":        fracAtom(formula(a, b), c),
		"{}/{}":         fracAtom(nil, nil),
		"{{a}}/b":       fracAtom(groupAtom(a), b),
		"a/b/c":         fracAtom(fracAtom(a, b), c),
		"a/{b/c}":       fracAtom(a, fracAtom(b, c)),
		"{a/b}/c":       fracAtom(fracAtom(a, b), c),
		"ab/cc":         formula(a, fracAtom(b, c), c),
		"a/b^c":         withScripts(fracAtom(a, b), c, nil),
		"a/b_c^a":       withScripts(fracAtom(a, b), a, c),
		"a/{b^c}":       fracAtom(a, withScripts(b, c, nil)),
		"{a^b}/c":       fracAtom(withScripts(a, b, nil), c),
		"+/=":           fracAtom(charAtom(impl.Bin, '+'), charAtom(impl.Rel, '=')),
		`\a`:            rootAtom(a),
		`\ a`:           rootAtom(a),
		`\{ab}`:         rootAtom(a, b),
		`\{}`:           rootAtom(),
		`\{{a}}`:        rootAtom(groupAtom(a)),
		`\ab`:           formula(rootAtom(a), b),
		`\a^b`:          withScripts(rootAtom(a), b, nil),
		`\{a^b}_c`:      withScripts(rootAtom(withScripts(a, b, nil)), nil, c),
		`{\a}/b`:        fracAtom(rootAtom(a), b),
		`a/{\b}`:        fracAtom(a, rootAtom(b)),
		`\{a/b}`:        rootAtom(fracAtom(a, b)),
		`a\b`:           formula(a, rootAtom(b)),
		`a^{\b}`:        withScripts(a, rootAtom(b), nil),
		`\{\{\a}}`:      rootAtom(rootAtom(rootAtom(a))),
		"a^{b/c}_{\\c}": withScripts(a, fracAtom(b, c), rootAtom(c)),
	} {
		if got := readsAs(t, text); !same(got, want) {
			t.Errorf("ReadMath(%q) = %+v, not %+v", text, got, want)
		}
	}
}

func TestTextsOfNoFormula(t *testing.T) {
	for _, text := range []string{
		"{", "}", "a}", "{a", "{{a}", "{a}}", "}{", "a{", "{a}}{b}", "a^{b", "a^b}", "a/{b", `\{a`,
		"^", "_", "^a", "_a", " ^a", "{^a}", "{_a}", "a^{_b}", "b^{^a}",
		"a^", "a_", "a^ ", "{a^}", "a^b_", "a^_b", "a_^b", "a^^b", "a__b", "a^/b", `a^\b`, "a^}",
		"a^b^c", "a_b_c", "a^b_c^b", "a_b^c_a", "{a}^b^c", "a/b^c^c",
		"a^{}", "a_{}", "a^{ }", "a^b_{}", "{}^{}",
		"/", "/a", "a/", "{/a}", "{a/}", "a//b", "a/^b", "a/_b", `a/\b`, "a/}", "a/ ", "a^{/b}", "a^{b/}",
		"a^b/c", "a_b/c", "{a}^b/c", `\a/b`, `\{a}/b`, `\a^b/c`, "a/b^c/a", "a^b_c/a",
		`\`, `\ `, `a\`, `{\}`, `\}`, `\\a`, `\^a`, `\_a`, `\/a`, `a^{\}`, `{\`,
		"\t", "a\nb", "a\x00b", "\x00", "a\x1f", "\x7f", "a\x80", "\xff", "{\x7f}", "a^\x7f", "a/\x00", "\\\x7f", "a^{\x1f}", "\u00e4",
	} {
		if as, ok := checkReadMath(t, text); ok || len(as) > 0 {
			t.Errorf("ReadMath(%q) = %+v %v", text, as, ok)
		}
	}
}

func TestEachByteAsAText(t *testing.T) {
	for c := range 256 {
		text := string([]byte{byte(c)})
		for _, s := range []string{text, "a" + text, "a^" + text, text + "a", "a/" + text, "\\" + text, "{" + text + "}"} {
			checkReadMath(t, s)
		}
		as, ok := impl.ReadMath(text)
		plain := c > 32 && c < 127 && strings.IndexByte(`{}^_/\`, byte(c)) < 0
		if ok != (plain || c == 32) || plain && !same(as, charAtom(impl.ClassOf(int64(c)), byte(c))) {
			t.Errorf("byte %d: %+v %v", c, as, ok)
		}
	}
}

// wrapped is a text in so many others.
func wrapped(ahead string, n int, text, behind string) string {
	return strings.Repeat(ahead, n) + text + strings.Repeat(behind, n)
}

func TestTextLimits(t *testing.T) {
	for name, texts := range map[string][2]string{
		"bytes":            {strings.Repeat("a", 1000), strings.Repeat("a", 1001)},
		"blanks":           {strings.Repeat(" ", 1000), strings.Repeat(" ", 1001)},
		"blanks behind":    {"a" + strings.Repeat(" ", 999), "a" + strings.Repeat(" ", 1000)},
		"groups":           {wrapped("{", 40, "a", "}"), wrapped("{", 41, "a", "}")},
		"empty groups":     {wrapped("{", 40, "", "}"), wrapped("{", 41, "", "}")},
		"roots":            {wrapped(`\{`, 40, "a", "}"), wrapped(`\{`, 41, "a", "}")},
		"empty roots":      {wrapped(`\{`, 40, "", "}"), wrapped(`\{`, 41, "", "}")},
		"Up":               {wrapped("a^{", 40, "a", "}"), wrapped("a^{", 41, "a", "}")},
		"Down":             {wrapped("a_{", 40, "a", "}"), wrapped("a_{", 41, "a", "}")},
		"groups and Up":    {wrapped("{", 39, "a^b", "}"), wrapped("{", 40, "a^b", "}")},
		"groups and roots": {wrapped("{", 39, `\a`, "}"), wrapped("{", 40, `\a`, "}")},
		"groups, fraction": {wrapped("{", 38, "a/b", "}"), wrapped("{", 39, "a/b", "}")},
		"fractions":        {"a" + strings.Repeat("/b", 20), "a" + strings.Repeat("/b", 21)},
		"fractions below":  {wrapped("a/{", 20, "a", "}"), wrapped("a/{", 21, "a", "}")},
	} {
		if _, ok := checkReadMath(t, texts[0]); !ok {
			t.Error(name, "that can be")
		}
		if as, ok := checkReadMath(t, texts[1]); ok || len(as) > 0 {
			t.Error(name, "beyond")
		}
	}
	// It is the text that nests too deep here: the formula could be.
	if !checkFormula(t, inside(nil, 41, inGroupAtom)) {
		t.Error("41 groups, the last of them empty")
	}
	// Groups beside each other nest no deeper.
	for _, text := range []string{strings.Repeat("{}", 500), strings.Repeat("{a^{b}}", 142), strings.Repeat("a/b", 333), strings.Repeat(`\a`, 500)} {
		readsAs(t, text)
	}
}

func (r formulas) textOf(deep int) string {
	piece := func() string {
		if deep > 0 && r.Intn(2) == 0 {
			return "{" + r.text(3, deep-1) + "}"
		}
		return string("abgx+=(),-1"[r.Intn(11)])
	}
	script := func() string {
		if s := piece(); s != "{}" {
			return s
		}
		return "{{}}"
	}
	var s string
	switch r.Intn(8) {
	case 0:
		s = piece() + "/" + piece()
		for range r.Intn(2) {
			s += "/" + piece()
		}
	case 1:
		s = `\` + piece()
	default:
		s = piece()
	}
	switch r.Intn(8) {
	case 0:
		return s + "^" + script()
	case 1:
		return s + "_" + script()
	case 2:
		return s + "^" + script() + "_" + script()
	case 3:
		return s + "_" + script() + "^" + script()
	}
	return s
}

// text is one that has a formula.
func (r formulas) text(most, deep int) string {
	s := ""
	for range r.Intn(most + 1) {
		s += r.textOf(deep)
	}
	return s
}

// withBlanks is the text with blanks between its bytes.
func (r formulas) withBlanks(s string) string {
	var out strings.Builder
	for i := range len(s) {
		if r.Intn(3) == 0 {
			out.WriteString(strings.Repeat(" ", 1+r.Intn(2)))
		}
		out.WriteByte(s[i])
	}
	return out.String()
}

func TestTextsAtRandom(t *testing.T) {
	t.Parallel()
	r := formulas{rand.New(rand.NewSource(125))}
	can, cannot := 0, 0
	for range 10000 {
		s := r.text(5, 3)
		if len(s) > 300 {
			continue
		}
		as := readsAs(t, s)
		if blank := readsAs(t, r.withBlanks(s)); !same(blank, as) {
			t.Fatalf("%q with blanks: %+v", s, blank)
		}
		bytes := []byte(s)
		for range min(len(bytes), 1+r.Intn(2)) {
			at := r.Intn(len(bytes))
			switch r.Intn(3) {
			case 0:
				bytes[at] = "a{}^_/\\ \x00\x7f"[r.Intn(10)]
			case 1:
				bytes = append(bytes[:at], bytes[at+1:]...)
			case 2:
				bytes = append(bytes, "a{}^_/\\"[r.Intn(7)])
			}
			if len(bytes) == 0 {
				break
			}
		}
		if _, ok := checkReadMath(t, string(bytes)); ok {
			can++
		} else {
			cannot++
		}
	}
	if can < 1000 || cannot < 1000 {
		t.Error("too few:", can, cannot)
	}
}

// All texts of some bytes that mean something.
func TestAllShortTexts(t *testing.T) {
	var texts func(ahead string, more int)
	texts = func(ahead string, more int) {
		checkReadMath(t, ahead)
		for _, c := range `a{}^_/\` {
			if more > 0 {
				texts(ahead+string(c), more-1)
			}
		}
	}
	texts("", 6)
}
