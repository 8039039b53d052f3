package tests

import (
	"math"
	"math/rand"
	"slices"
	"strings"
	"testing"

	"loop.example/g00014/impl"
)

func TestMarksKnown(t *testing.T) {
	for _, c := range []struct {
		book, word string
		want       []int64
	}{
		{"", "a", []int64{0, 0}},
		{"", "abc", []int64{0, 0, 0, 0}},
		{"1a", "a", []int64{1, 0}},
		{"a1", "a", []int64{0, 1}},
		{"3a5", "aa", []int64{3, 5, 5}},
		{"5a3", "aa", []int64{5, 5, 3}},
		{"1b a2b", "cbab", []int64{0, 1, 0, 2, 0}},
		{"a1b", "abab", []int64{0, 1, 0, 1, 0}},
		{"1a2a3", "aaaa", []int64{1, 2, 3, 3, 3}},
		{"9a", "bcd", []int64{0, 0, 0, 0}},
		{"abcd9", "abc", []int64{0, 0, 0, 0}},
		{"1a2b3c4 8b c9", "abc", []int64{1, 8, 3, 9}},
		{".a1", "aa", []int64{0, 1, 0}},
		{"1a.", "aa", []int64{0, 1, 0}},
		{".1a", "aa", []int64{1, 0, 0}},
		{"a1.", "aa", []int64{0, 0, 1}},
		{".a1a.", "aa", []int64{0, 1, 0}},
		{".a1a.", "aaa", []int64{0, 0, 0, 0}},
		{".1a2.", "a", []int64{1, 2}},
		{"9.a", "aa", []int64{0, 0, 0}},
		{"a.9", "aa", []int64{0, 0, 0}},
		{"9.1a.9", "a", []int64{1, 0}},
		{"a3b a2b a1b", "ab", []int64{0, 3, 0}},
		{"a1b a2b a3b", "ab", []int64{0, 3, 0}},
		{"a9b a9b", "ab", []int64{0, 9, 0}},
		{"1ab 2abc 3abcd", "abcx", []int64{2, 0, 0, 0, 0}},
		{"a-b", "ab", []int64{0, 0, 0}},
		{"a1b", "AB", []int64{0, 1, 0}},
		{"z1a", "aZa", []int64{0, 0, 1, 0}},
	} {
		if got := impl.Marks(bookOf(t, c.book), c.word); !slices.Equal(got, c.want) {
			t.Errorf("Marks(%q, %q) = %v, not %v", c.book, c.word, got, c.want)
		}
		checkParted(t, bookOf(t, c.book), c.word, 0, 0)
	}
}

func TestMarksOfTheLongestPatternAndWord(t *testing.T) {
	twenty, sixty := strings.Repeat("z", impl.MaxPart), strings.Repeat("z", impl.MaxLetters)
	b := bookOf(t, "7"+twenty+"5 ."+twenty[1:]+"9 8"+twenty[1:]+".")
	for n := 1; n <= impl.MaxLetters; n++ {
		checkParted(t, b, sixty[:n], 0, 0)
	}
	got := impl.Marks(b, sixty)
	if len(got) != impl.MaxLetters+1 || got[0] != 7 || got[18] != 7 || got[19] != 9 || got[20] != 7 || got[40] != 7 || got[41] != 8 || got[42] != 5 || got[60] != 5 {
		t.Error(got)
	}
}

func TestWordsThatAreNone(t *testing.T) {
	b := bookOf(t, "1a 1b 1z a-b")
	for _, word := range []string{
		"", strings.Repeat("a", impl.MaxLetters+1), strings.Repeat("a", 100000), "a b", "a1", "1", "a.", ".a", "a-b", "ab=", "a\x00", "\x00", "a\n",
		"@a", "a[", "`a", "a{", "\xe4", "\u00e4", "a\u00e4b", "\u212a", "\u017f", "a\xff", "\uff41",
	} {
		if got := impl.Marks(b, word); len(got) != 0 {
			t.Errorf("Marks(%q) = %v", word, got)
		}
		if got := impl.Hyphens(b, word, 0, 0); len(got) != 0 {
			t.Errorf("Hyphens(%q) = %v", word, got)
		}
		if got := impl.Parted(b, word, 0, 0); got != "" {
			t.Errorf("Parted(%q) = %q", word, got)
		}
	}
}

func TestExceptionsKnown(t *testing.T) {
	b := bookOf(t, "1a 1b 1c 1d ab-cd dcba= bad-c a=")
	for _, c := range []struct {
		word, parted string
	}{
		{"abcd", "ab-cd"},
		{"aBCd", "aB-Cd"},
		{"ABCD", "AB-CD"},
		{"dcba", "dcba"},
		{"DCba", "DCba"},
		{"badc", "bad-c"},
		{"a", "a"},
		{"abcda", "a-b-c-d-a"},
		{"abc", "a-b-c"},
		{"dcbaa", "d-c-b-a-a"},
		{"xax", "x-ax"},
	} {
		if got := impl.Parted(b, c.word, 0, 0); got != c.parted {
			t.Errorf("Parted(%q) = %q, not %q", c.word, got, c.parted)
		}
		for left := int64(-1); left < 6; left++ {
			for right := int64(-1); right < 6; right++ {
				checkParted(t, b, c.word, left, right)
			}
		}
	}
}

func TestLeftAndRight(t *testing.T) {
	b := bookOf(t, "1a o-xoxoxox xo-xo-xo-x")
	for _, word := range []string{"a", "aa", "aaaaa", "aaaaaaaa", "oxoxoxox", "XOXOXOX"} {
		for left := int64(-2); left < 11; left++ {
			for right := int64(-2); right < 11; right++ {
				checkParted(t, b, word, left, right)
			}
		}
		for _, far := range []int64{math.MinInt64, math.MinInt64 + 1, 61, math.MaxInt64 - 1, math.MaxInt64} {
			for _, near := range []int64{math.MinInt64, 0, 2, math.MaxInt64} {
				checkParted(t, b, word, far, near)
				checkParted(t, b, word, near, far)
			}
		}
	}
	for _, c := range []struct {
		left, right int64
		parted      string
	}{
		{0, 0, "a-a-a-a-a"},
		{1, 1, "a-a-a-a-a"},
		{2, 1, "aa-a-a-a"},
		{1, 2, "a-a-a-aa"},
		{2, 3, "aa-aaa"},
		{3, 3, "aaaaa"},
		{4, 1, "aaaa-a"},
		{5, 0, "aaaaa"},
		{0, 5, "aaaaa"},
		{-5, -5, "a-a-a-a-a"},
		{math.MaxInt64, 0, "aaaaa"},
		{0, math.MaxInt64, "aaaaa"},
		{math.MinInt64, math.MinInt64, "a-a-a-a-a"},
	} {
		if got := impl.Parted(b, "aaaaa", c.left, c.right); got != c.parted {
			t.Errorf("left %d, right %d: %q, not %q", c.left, c.right, got, c.parted)
		}
	}
}

func TestWordsThatThePlainBookParts(t *testing.T) {
	for _, c := range []struct{ word, parted string }{
		{"become", "be-co-me"},
		{"Become", "Be-co-me"},
		{"station", "sta-tion"},
		{"table", "ta-ble"},
		{"crab", "crab"},
		{"hello", "he-l-lo"},
		{"happiness", "ha-p-pi-ness"},
		{"instruction", "in-stru-c-tion"},
		{"thing", "th-ing"},
		{"undo", "un-do"},
		{"machinery", "ma-chine-ry"},
		{"MACHINERY", "MA-CHINE-RY"},
		{"typesetter", "type-setter"},
		{"Typesetter", "Type-setter"},
		{"typesetters", "ty-pe-se-t-te-rs"},
		{"one", "one"},
		{"Two", "Two"},
		{"page", "page"},
		{"pages", "pa-ges"},
	} {
		if got := impl.Parted(impl.PlainBook(), c.word, 2, 2); got != c.parted {
			t.Errorf("Parted(%q) = %q, not %q", c.word, got, c.parted)
		}
		for left := range int64(len(c.word) + 2) {
			checkParted(t, impl.PlainBook(), c.word, left, 2)
			checkParted(t, impl.PlainBook(), c.word, 1, left)
		}
	}
}

func TestPartedAtRandom(t *testing.T) {
	r := rand.New(rand.NewSource(76))
	parts, exempt := 0, 0
	for range 4000 {
		b := randomBook(r)
		word := randomText(r, 9, "abcABC")
		if len(b.Words) > 0 && r.Intn(3) == 0 {
			word = b.Words[r.Intn(len(b.Words))].Word
			exempt++
		}
		left, right := r.Int63n(6)-1, r.Int63n(6)-1
		checkParted(t, b, word, left, right)
		if strings.Contains(impl.Parted(b, word, left, right), "-") {
			parts++
		}
	}
	if parts < 400 || exempt < 400 {
		t.Error("too few that are parted:", parts, exempt)
	}
	for range 1500 {
		word := randomText(r, 12, "abcdefghijklmnopqrstuvwxyz")
		checkParted(t, impl.PlainBook(), word, r.Int63n(4), r.Int63n(4))
	}
}

func TestTheOrderOfPatternsMeansNothing(t *testing.T) {
	r := rand.New(rand.NewSource(77))
	for range 1500 {
		b, word := randomBook(r), "a"+randomText(r, 12, "abc")
		marks, parted := impl.Marks(b, word), impl.Parted(b, word, 1, 1)
		turned := impl.Book{Patterns: slices.Clone(b.Patterns), Words: b.Words}
		r.Shuffle(len(turned.Patterns), func(i, j int) {
			turned.Patterns[i], turned.Patterns[j] = turned.Patterns[j], turned.Patterns[i]
		})
		turned.Patterns = append(turned.Patterns, b.Patterns...)
		if got := impl.Marks(turned, word); !slices.Equal(got, marks) {
			t.Fatalf("%v: %q has %v, and in another order %v", b, word, marks, got)
		}
		if got := impl.Parted(turned, word, 1, 1); got != parted {
			t.Fatalf("%v: %q is %s, and in another order %s", b, word, parted, got)
		}
	}
}

// The marks of a book are the greatest of those of its patterns alone.
func TestMarksAreTheGreatestOfAnyPattern(t *testing.T) {
	r := rand.New(rand.NewSource(78))
	for range 1500 {
		b, word := randomBook(r), "b"+randomText(r, 12, "abc")
		want := make([]int64, len(word)+1)
		for _, p := range b.Patterns {
			for k, m := range impl.Marks(impl.Book{Patterns: []impl.Pattern{p}}, word) {
				want[k] = max(want[k], m)
			}
		}
		if got := impl.Marks(b, word); !slices.Equal(got, want) {
			t.Fatalf("Marks(%v, %q) = %v, not %v", b, word, got, want)
		}
	}
}

func TestOfSeveralExceptionsTheLastCounts(t *testing.T) {
	r := rand.New(rand.NewSource(79))
	texts := []string{"abcd=", "a-bcd", "ab-cd", "abc-d", "a-b-c-d", "a-bcd="}
	for range 300 {
		var words []string
		for range 1 + r.Intn(6) {
			words = append(words, texts[r.Intn(len(texts))])
		}
		want := strings.TrimSuffix(words[len(words)-1], "=")
		b := bookOf(t, strings.Join(words, " b1c x-y "))
		if got := impl.Parted(b, "abcd", 0, 0); got != want {
			t.Fatalf("%v: %s, not %s", words, got, want)
		}
	}
}

func TestAPartedWordIsTheWord(t *testing.T) {
	r := rand.New(rand.NewSource(80))
	for range 3000 {
		b, word := randomBook(r), "C"+randomText(r, 20, "abcABCxyz")
		left, right := r.Int63n(5)-1, r.Int63n(5)-1
		parted := impl.Parted(b, word, left, right)
		if strings.ReplaceAll(parted, "-", "") != word {
			t.Fatalf("%q is parted as %q", word, parted)
		}
		if strings.Count(parted, "-") != len(impl.Hyphens(b, word, left, right)) {
			t.Fatalf("%q is parted as %q", word, parted)
		}
	}
}

func TestBookAnswersAreNewMemoryAndArgumentsStay(t *testing.T) {
	r := rand.New(rand.NewSource(81))
	for range 400 {
		b, word := roomy(randomBook(r)), roomy("a"+randomText(r, 8, "abc"))
		if len(b.Words) > 0 && r.Intn(2) == 0 {
			word = roomy(b.Words[0].Word)
		}
		text := roomy(shownBook(b) + "b-a b=")
		before := told(b) + word + text
		impl.BookOk(b)
		checkNewMemory(t, impl.Marks(b, word), b, word)
		checkNewMemory(t, impl.Hyphens(b, word, 0, 0), b, word)
		checkNewMemory(t, impl.Parted(b, word, 0, 0), b, word)
		read, _ := impl.ReadBook(text)
		checkNewMemory(t, read, text)
		for _, p := range b.Patterns {
			impl.PatternOk(p)
			shown := impl.ShowPattern(p)
			checkNewMemory(t, shown, p)
			again, _ := impl.ReadPattern(shown)
			checkNewMemory(t, again, shown, p)
		}
		if told(b)+word+text != before {
			t.Fatalf("%v was changed", b)
		}
	}
	checkNewMemory(t, impl.PlainBook(), impl.PlainBook())
}

func TestBooksOfAnyBytesAndNumbers(t *testing.T) {
	r := rand.New(rand.NewSource(82))
	anyText := func(most int) string {
		bytes := make([]byte, r.Intn(most+1))
		r.Read(bytes)
		return string(bytes)
	}
	for range 3000 {
		p := impl.Pattern{Letters: anyText(4)}
		for range len(p.Letters) + r.Intn(2) {
			p.Marks = append(p.Marks, anyNumber(r))
		}
		if impl.PatternOk(p) != patternIs(p) {
			t.Fatalf("PatternOk(%v)", p)
		}
		if shown := impl.ShowPattern(p); (shown != "") != patternIs(p) {
			t.Fatalf("ShowPattern(%v) = %q", p, shown)
		}
		b := impl.Book{Patterns: []impl.Pattern{p}, Words: []impl.Exception{exception(anyText(4), anyNumber(r))}}
		if impl.BookOk(b) != bookIs(b) {
			t.Fatalf("BookOk(%v)", b)
		}
		checkParted(t, b, anyText(4), anyNumber(r), anyNumber(r))
		checkParted(t, impl.PlainBook(), anyText(2), anyNumber(r), anyNumber(r))
		text := anyText(20)
		got, n := impl.ReadBook(text)
		if want, told := bookPlainly(text); n != told || !same(got, want) {
			t.Fatalf("ReadBook(%q) = %v, %d", text, got, n)
		}
	}
}
