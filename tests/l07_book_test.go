package tests

import (
	"fmt"
	"math"
	"math/rand"
	"slices"
	"strings"
	"testing"

	"loop.example/g00014/impl"
)

// numbered is a word of its own for each number below 17576, in their order.
func numbered(n int) string {
	return string([]byte{byte('a' + n/676), byte('a' + n/26%26), byte('a' + n%26)})
}

func numberedWords(n int) []impl.Exception {
	var out []impl.Exception
	for i := range n {
		out = append(out, exception(numbered(i), 1))
	}
	return out
}

func TestBooksThatCanBe(t *testing.T) {
	longest := strings.Repeat("m", impl.MaxLetters)
	for i, b := range []impl.Book{
		{},
		{Patterns: patternsThatCan()},
		{Patterns: slices.Repeat([]impl.Pattern{pattern("ab", 0, 1, 0)}, impl.MaxPatterns)},
		{Words: numberedWords(impl.MaxPatterns)},
		{Words: []impl.Exception{exception("a"), exception("ab", 1), exception("abc"), exception("b"), exception("z")}},
		{Words: []impl.Exception{exception(longest, 1, 2, impl.MaxLetters-1)}},
		{Words: []impl.Exception{exception("abc", 1), exception("abd", 2), exception("zzz", 1, 2)}},
		impl.PlainBook(),
	} {
		if !impl.BookOk(b) {
			t.Errorf("book %d is refused", i)
		}
		if len(impl.Marks(b, "ab")) != 3 || impl.Parted(b, "xy", 2, 2) != "xy" {
			t.Errorf("book %d parts no word", i)
		}
	}
}

func TestBooksThatCannotBe(t *testing.T) {
	good := exception("mm", 1)
	for i, b := range []impl.Book{
		{Patterns: slices.Repeat([]impl.Pattern{pattern("ab", 0, 1, 0)}, impl.MaxPatterns+1)},
		{Words: numberedWords(impl.MaxPatterns + 1)},
		{Patterns: []impl.Pattern{{}}},
		{Patterns: []impl.Pattern{pattern("ab", 0, 1, 0), pattern("ab", 0, 10, 0)}},
		{Words: []impl.Exception{exception("b"), exception("a")}},
		{Words: []impl.Exception{exception("a"), exception("c"), exception("b")}},
		{Words: []impl.Exception{exception("ab"), exception("a")}},
		{Words: []impl.Exception{exception("ab", 1), exception("ab", 1)}},
		{Words: []impl.Exception{exception("ab"), exception("ab", 1)}},
		{Words: []impl.Exception{exception(""), good}},
		{Words: []impl.Exception{good, exception(strings.Repeat("z", impl.MaxLetters+1))}},
		{Words: []impl.Exception{exception("A"), good}},
		{Words: []impl.Exception{exception("aB"), good}},
		{Words: []impl.Exception{exception("a-b"), good}},
		{Words: []impl.Exception{exception("a."), good}},
		{Words: []impl.Exception{exception("`"), good}},
		{Words: []impl.Exception{good, exception("{")}},
		{Words: []impl.Exception{good, exception("\xe4\xf6")}},
		{Words: []impl.Exception{exception("a", 0), good}},
		{Words: []impl.Exception{exception("a", 1), good}},
		{Words: []impl.Exception{exception("abc", 0), good}},
		{Words: []impl.Exception{exception("abc", 3), good}},
		{Words: []impl.Exception{exception("abc", 1, 3), good}},
		{Words: []impl.Exception{exception("abc", -1), good}},
		{Words: []impl.Exception{exception("abc", 2, 1), good}},
		{Words: []impl.Exception{exception("abc", 1, 1), good}},
		{Words: []impl.Exception{exception("abc", math.MinInt64), good}},
		{Words: []impl.Exception{good, exception("zzz", math.MaxInt64)}},
	} {
		if impl.BookOk(b) {
			t.Errorf("book %d is taken", i)
		}
		if got := impl.Marks(b, "mm"); len(got) != 0 {
			t.Errorf("book %d: Marks = %v", i, got)
		}
		if got := impl.Hyphens(b, "mm", 0, 0); len(got) != 0 {
			t.Errorf("book %d: Hyphens = %v", i, got)
		}
		if got := impl.Parted(b, "mm", 0, 0); got != "" {
			t.Errorf("book %d: Parted = %q", i, got)
		}
	}
}

func TestReadBookKnown(t *testing.T) {
	for _, c := range []struct {
		text string
		want impl.Book
	}{
		{"", impl.Book{}},
		{" \n\n  \n", impl.Book{}},
		{"a1b", impl.Book{Patterns: []impl.Pattern{pattern("ab", 0, 1, 0)}}},
		{"\n a1b\n\n  .c2 \n", impl.Book{Patterns: []impl.Pattern{pattern("ab", 0, 1, 0), pattern(".c", 0, 0, 2)}}},
		{"b a b", impl.Book{Patterns: []impl.Pattern{pattern("b", 0, 0), pattern("a", 0, 0), pattern("b", 0, 0)}}},
		{"a-b", impl.Book{Words: []impl.Exception{exception("ab", 1)}}},
		{"a-b-c", impl.Book{Words: []impl.Exception{exception("abc", 1, 2)}}},
		{"abc=", impl.Book{Words: []impl.Exception{exception("abc")}}},
		{"a=", impl.Book{Words: []impl.Exception{exception("a")}}},
		{"ab-c=", impl.Book{Words: []impl.Exception{exception("abc", 2)}}},
		{"z-z b= a-b ab-c", impl.Book{Words: []impl.Exception{exception("ab", 1), exception("abc", 2), exception("b"), exception("zz", 1)}}},
		{"ab-c a-bc", impl.Book{Words: []impl.Exception{exception("abc", 1)}}},
		{"a-b-c x-y abc= 1b", impl.Book{Patterns: []impl.Pattern{pattern("b", 1, 0)}, Words: []impl.Exception{exception("abc"), exception("xy", 1)}}},
		{"abc= a-b-c abc= ab-c", impl.Book{Words: []impl.Exception{exception("abc", 2)}}},
		{"ab ab=", impl.Book{Patterns: []impl.Pattern{pattern("ab", 0, 0, 0)}, Words: []impl.Exception{exception("ab")}}},
	} {
		got, n := impl.ReadBook(c.text)
		if n != 0 || !same(got, c.want) {
			t.Errorf("ReadBook(%q) = %v, %d", c.text, got, n)
		}
		if want, n := bookPlainly(c.text); n != 0 || !same(want, c.want) {
			t.Errorf("%q is told as %v, %d", c.text, want, n)
		}
	}
}

func TestReadBookTellsTheFirstWordThatIsNeither(t *testing.T) {
	long, letters := strings.Repeat("z", impl.MaxPart+1), strings.Repeat("z", impl.MaxLetters+1)
	for _, wrong := range []string{
		"1", "a12b", "12a", "A", "a.b", ".", "..", "a\tb", "\t", "a\rb", "\r", "\x00", "a\xa0", "\u00e4", "a_b", long,
		"-", "--", "=", "==", "-=", "a-", "-a", "a--b", "-a-b", "a-b-", "a-=", "a==", "a=b", "a=b-c", "a-b=c", "=a", "=a-b", "=-a", "a-b==",
		"A-b", "AB=", "3c-d", "a1-b", "a-b1", "ab1=", "a.=", ".a-b", "a-b.", "a-\u00e4", letters + "=", "z-" + letters[1:],
	} {
		for number, text := range []string{
			1: wrong,
			2: "1b " + wrong + " a1",
			3: " \n1b\n\n  a-b \n" + wrong,
			4: "1b 1c x-y " + wrong + " " + wrong + " 9999",
		} {
			if number == 0 {
				continue
			}
			if b, n := impl.ReadBook(text); n != int64(number) || !same(b, impl.Book{}) {
				t.Errorf("ReadBook(%q) = %v, %d, not %d", text, b, n, number)
			}
		}
	}
}

func TestReadBookWithTheLongestWords(t *testing.T) {
	letters := strings.Repeat("z", impl.MaxLetters)
	b := bookOf(t, strings.Repeat("z", impl.MaxPart)+" z-"+letters[1:]+" a"+letters[1:]+"=")
	want := []impl.Exception{exception("a" + letters[1:]), exception(letters, 1)}
	if len(b.Patterns) != 1 || !same(b.Words, want) {
		t.Error(b)
	}
	b = bookOf(t, strings.Join(strings.Split(letters, ""), "-"))
	if len(b.Words) != 1 || len(b.Words[0].Places) != impl.MaxLetters-1 {
		t.Error(b)
	}
}

func TestReadBookAtItsLimits(t *testing.T) {
	exceptions := func(n int) string {
		var out strings.Builder
		for i := range n {
			out.WriteString(numbered(i) + "= ")
		}
		return out.String()
	}
	patterns := func(n int) string { return strings.Repeat("1a ", n) }
	for _, c := range []struct {
		what, text          string
		n, patterns, exempt int
	}{
		{"a text of MaxText bytes", "a1b" + strings.Repeat(" ", impl.MaxText-6) + "c-d", 0, 1, 1},
		{"a text that is too long", "a1b" + strings.Repeat(" ", impl.MaxText-5) + "c-d", -1, 0, 0},
		{"blanks that are too long", strings.Repeat("\n", impl.MaxText+1), -1, 0, 0},
		{"a text that is too long and has a wrong word", "??" + strings.Repeat(" ", impl.MaxText), -1, 0, 0},
		{"MaxPatterns patterns", patterns(impl.MaxPatterns), 0, impl.MaxPatterns, 0},
		{"one pattern more", patterns(impl.MaxPatterns + 1), -1, 0, 0},
		{"MaxPatterns exceptions", exceptions(impl.MaxPatterns), 0, 0, impl.MaxPatterns},
		{"one exception more", exceptions(impl.MaxPatterns + 1), -1, 0, 0},
		{"as many of both", exceptions(impl.MaxPatterns) + patterns(impl.MaxPatterns), 0, impl.MaxPatterns, impl.MaxPatterns},
		{"one exception more, for a word that has one", exceptions(impl.MaxPatterns) + "a-aa", 0, 0, impl.MaxPatterns},
		{"one pattern more, and then a wrong word", patterns(impl.MaxPatterns+1) + "a--b", impl.MaxPatterns + 2, 0, 0},
		{"a wrong word, and then one pattern more", "a--b " + patterns(impl.MaxPatterns+1), 1, 0, 0},
	} {
		b, n := impl.ReadBook(c.text)
		if n != int64(c.n) || len(b.Patterns) != c.patterns || len(b.Words) != c.exempt {
			t.Errorf("%s: %d patterns, %d exceptions, %d", c.what, len(b.Patterns), len(b.Words), n)
		}
		if want, told := bookPlainly(c.text); told != n || !same(b, want) {
			t.Errorf("%s: told as %d", c.what, told)
		}
		if n == 0 && !impl.BookOk(b) {
			t.Errorf("%s: the book can't be", c.what)
		}
	}
}

func TestReadBookAtRandom(t *testing.T) {
	r := rand.New(rand.NewSource(73))
	read := 0
	for range 6000 {
		text := randomText(r, 40, []string{"ab 1", "ab- \n", "abc-= \n  ", "a1 \n.b", "aab- =2  "}[r.Intn(5)])
		got, n := impl.ReadBook(text)
		want, told := bookPlainly(text)
		if n != told || !same(got, want) {
			t.Fatalf("ReadBook(%q) = %v, %d, not %v, %d", text, got, n, want, told)
		}
		if n == 0 {
			read++
		}
		if n == 0 && !impl.BookOk(got) {
			t.Fatalf("ReadBook(%q) = %v, which can't be", text, got)
		}
	}
	if read < 300 || read > 5700 {
		t.Error("too much of one kind:", read)
	}
}

func TestBookOkAtRandom(t *testing.T) {
	r := rand.New(rand.NewSource(74))
	can := 0
	for range 4000 {
		b := randomBook(r)
		if len(b.Patterns) > 0 && r.Intn(3) == 0 {
			p := &b.Patterns[r.Intn(len(b.Patterns))]
			p.Marks[r.Intn(len(p.Marks))] = r.Int63n(14) - 2
		}
		if len(b.Words) > 0 && r.Intn(2) == 0 {
			e := &b.Words[r.Intn(len(b.Words))]
			*e = exception(randomText(r, 4, "abcA"), e.Places...)
		}
		if got, want := impl.BookOk(b), bookIs(b); got != want {
			t.Fatalf("BookOk(%v) = %v", b, got)
		} else if got {
			can++
		}
	}
	if can < 400 || can > 3600 {
		t.Error("too much of one kind:", can)
	}
}

// shownBook is a text that has the book.
func shownBook(b impl.Book) string {
	var out strings.Builder
	for _, p := range b.Patterns {
		out.WriteString(impl.ShowPattern(p) + "\n")
	}
	for _, e := range b.Words {
		for i := range e.Word {
			if slices.Contains(e.Places, int64(i)) {
				out.WriteByte('-')
			}
			out.WriteByte(e.Word[i])
		}
		out.WriteString("= ")
	}
	return out.String()
}

func TestABookIsReadFromItsText(t *testing.T) {
	r := rand.New(rand.NewSource(75))
	for range 1500 {
		b := randomBook(r)
		if again, n := impl.ReadBook(shownBook(b)); n != 0 || !same(again, b) {
			t.Fatalf("%v is read as %v, %d", b, again, n)
		}
	}
}

func TestThePlainBook(t *testing.T) {
	b := impl.PlainBook()
	if !impl.BookOk(b) || len(b.Patterns) != 59 {
		t.Fatal("the plain book:", len(b.Patterns), "patterns")
	}
	var texts []string
	for _, p := range b.Patterns {
		texts = append(texts, impl.ShowPattern(p))
	}
	want := "1b 1c 1d 1f 1g 1k 1l 1m 1n 1p 1r 1s 1t 1v 1z a2b. e2d. 2ll. 2ss. c2h ch1 s2h sh1 t2h th1 c2k ck1 q2u 2ng ng1 n2k st1r s2t p2l b2l c2l f2l g2l p2r b2r c2r d2r f2r g2r t2r 4e. .a4 .e4 .i4 .o4 .u4 in3g 1tion 1ment 1ness un1 re1 pre1 be1come"
	if got := strings.Join(texts, " "); got != want {
		t.Error("patterns:", got)
	}
	words := []impl.Exception{exception("machinery", 2, 7), exception("one"), exception("page"), exception("two"), exception("typesetter", 4)}
	if !same(b.Words, words) {
		t.Error("exceptions:", fmt.Sprint(b.Words))
	}
}
