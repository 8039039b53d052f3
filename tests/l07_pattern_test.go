package tests

import (
	"math"
	"math/rand"
	"strings"
	"testing"

	"loop.example/g00014/impl"
)

func patternsThatCan() []impl.Pattern {
	twenty := strings.Repeat("z", impl.MaxPart)
	return []impl.Pattern{
		pattern("a", 0, 0),
		pattern("z", 9, 9),
		pattern("ab", 1, 2, 3),
		pattern(".a", 1, 0, 4),
		pattern("a.", 0, 0, 5),
		pattern(".a.", 9, 8, 7, 6),
		pattern(".abc", 0, 0, 0, 0, 0),
		pattern(twenty, make([]int64, impl.MaxPart+1)...),
		pattern("."+twenty[2:]+".", make([]int64, impl.MaxPart+1)...),
	}
}

func patternsThatCannot() []impl.Pattern {
	tooLong := strings.Repeat("z", impl.MaxPart+1)
	return []impl.Pattern{
		{},
		pattern("", 0),
		pattern(".", 0, 0),
		pattern("..", 0, 0, 0),
		pattern("...", 0, 0, 0, 0),
		pattern("..a", 0, 0, 0, 0),
		pattern("a..", 0, 0, 0, 0),
		pattern("a.b", 0, 0, 0, 0),
		pattern("a.b.", 0, 0, 0, 0, 0),
		pattern("A", 0, 0),
		pattern("aBc", 0, 0, 0, 0),
		pattern("`", 0, 0),
		pattern("{", 0, 0),
		pattern("a1", 0, 0, 0),
		pattern("a-b", 0, 0, 0, 0),
		pattern("a b", 0, 0, 0, 0),
		pattern("a\x00", 0, 0, 0),
		pattern("\xe4", 0, 0),
		pattern("\u00e4", 0, 0, 0),
		pattern(tooLong, make([]int64, impl.MaxPart+2)...),
		pattern("."+tooLong[1:], make([]int64, impl.MaxPart+2)...),
		pattern("ab"),
		pattern("ab", 0, 0),
		pattern("ab", 0, 0, 0, 0),
		pattern("ab", -1, 0, 0),
		pattern("ab", 0, -1, 0),
		pattern("ab", 0, 0, -1),
		pattern("ab", 10, 0, 0),
		pattern("ab", 0, 10, 0),
		pattern("ab", 0, 0, 10),
		pattern("ab", 0, math.MinInt64, 0),
		pattern("ab", 0, math.MaxInt64, 0),
	}
}

func TestPatternsThatCanBe(t *testing.T) {
	for _, p := range patternsThatCan() {
		if !impl.PatternOk(p) {
			t.Errorf("%v: refused", p)
		}
		shown := impl.ShowPattern(p)
		if again, ok := impl.ReadPattern(shown); !ok || !same(again, p) {
			t.Errorf("%v is shown as %q and read as %v, %v", p, shown, again, ok)
		}
	}
}

func TestPatternsThatCannotBe(t *testing.T) {
	for _, p := range patternsThatCannot() {
		if impl.PatternOk(p) || patternIs(p) {
			t.Errorf("%v: taken", p)
		}
		if shown := impl.ShowPattern(p); shown != "" {
			t.Errorf("%v is shown as %q", p, shown)
		}
		if impl.BookOk(impl.Book{Patterns: []impl.Pattern{pattern("a", 0, 1), p}}) {
			t.Errorf("%v: taken in a book", p)
		}
	}
}

func TestReadPatternKnown(t *testing.T) {
	for _, c := range []struct {
		text  string
		want  impl.Pattern
		shown string
	}{
		{"a", pattern("a", 0, 0), "a"},
		{"1a", pattern("a", 1, 0), "1a"},
		{"a1", pattern("a", 0, 1), "a1"},
		{"9z9", pattern("z", 9, 9), "9z9"},
		{"0a0", pattern("a", 0, 0), "a"},
		{"1a2b.", pattern("ab.", 1, 2, 0, 0), "1a2b."},
		{"a0b3c", pattern("abc", 0, 0, 3, 0), "ab3c"},
		{"2ab", pattern("ab", 2, 0, 0), "2ab"},
		{"ab2", pattern("ab", 0, 0, 2), "ab2"},
		{".a4", pattern(".a", 0, 0, 4), ".a4"},
		{".4a", pattern(".a", 0, 4, 0), ".4a"},
		{"4.a", pattern(".a", 4, 0, 0), "4.a"},
		{"a4.", pattern("a.", 0, 4, 0), "a4."},
		{"a.4", pattern("a.", 0, 0, 4), "a.4"},
		{"1.2a3.4", pattern(".a.", 1, 2, 3, 4), "1.2a3.4"},
		{"1tion", pattern("tion", 1, 0, 0, 0, 0), "1tion"},
		{"st1r", pattern("str", 0, 0, 1, 0), "st1r"},
		{strings.Repeat("5z", 20) + "5", pattern(strings.Repeat("z", 20), 5, 5, 5, 5, 5, 5, 5, 5, 5, 5, 5, 5, 5, 5, 5, 5, 5, 5, 5, 5, 5), strings.Repeat("5z", 20) + "5"},
	} {
		got, ok := impl.ReadPattern(c.text)
		if !ok || !same(got, c.want) {
			t.Errorf("ReadPattern(%q) = %v, %v", c.text, got, ok)
		}
		if shown := impl.ShowPattern(got); shown != c.shown {
			t.Errorf("%q is shown as %q", c.text, shown)
		}
	}
}

func TestReadPatternRefuses(t *testing.T) {
	for _, text := range []string{
		"", "1", "12", ".", "..", "1.", ".1", "1.2.3", "12a", "a12", "a12b", "00a", "a00", "a10b", "a.b", "a1.b", "..a", "a..", "a...",
		"A", "aB", "a-b", "a=", "a b", " a", "a ", "a\n", "a\x00", "\xe4", "\u00e4b", "a\u00e4", "\uff11a", "a+", "a/b", "a:b", "`a", "a{",
		strings.Repeat("z", impl.MaxPart+1), "." + strings.Repeat("z", impl.MaxPart), strings.Repeat("1z", impl.MaxPart+1), strings.Repeat("1", 1000), strings.Repeat("z", 100000),
	} {
		if p, ok := impl.ReadPattern(text); ok || !same(p, impl.Pattern{}) {
			t.Errorf("ReadPattern(%q) = %v, %v", text, p, ok)
		}
	}
}

func TestPatternTextsAtRandom(t *testing.T) {
	r := rand.New(rand.NewSource(71))
	read := 0
	for range 20000 {
		text := randomText(r, 9, []string{"ab1.", "abz0139", "ab.2-A", "azb9"}[r.Intn(4)])
		got, ok := impl.ReadPattern(text)
		want, is := patternPlainly(text)
		if ok != is || !same(got, want) {
			t.Fatalf("ReadPattern(%q) = %v, %v, not %v, %v", text, got, ok, want, is)
		}
		if is {
			read++
			if shown := impl.ShowPattern(got); shown != strings.ReplaceAll(text, "0", "") {
				t.Fatalf("%q is shown as %q", text, shown)
			}
		}
	}
	if read < 2000 || read > 18000 {
		t.Error("too much of one kind:", read)
	}
}

func TestAPatternIsReadFromWhatItIsShownAs(t *testing.T) {
	r := rand.New(rand.NewSource(72))
	for range 5000 {
		p := randomPattern(r)
		if !impl.PatternOk(p) {
			t.Fatalf("%v: refused", p)
		}
		shown := impl.ShowPattern(p)
		if again, ok := impl.ReadPattern(shown); !ok || !same(again, p) || strings.Contains(shown, "0") {
			t.Fatalf("%v is shown as %q and read as %v, %v", p, shown, again, ok)
		}
	}
}
