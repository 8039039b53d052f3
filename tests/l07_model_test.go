package tests

import (
	"math/rand"
	"regexp"
	"slices"
	"strings"
	"testing"

	"loop.example/g00014/impl"
)

func pattern(letters string, marks ...int64) impl.Pattern {
	return impl.Pattern{Letters: letters, Marks: marks}
}

func exception(word string, places ...int64) impl.Exception {
	return impl.Exception{Word: word, Places: places}
}

var (
	lettersForm   = regexp.MustCompile(`^\.?[a-z]+\.?$`)
	patternForm   = regexp.MustCompile(`^[0-9]?(?:[a-z.][0-9]?)+$`)
	exceptionForm = regexp.MustCompile(`^[a-z]+(?:-[a-z]+)*=?$`)
	smallForm     = regexp.MustCompile(`^[a-z]{1,60}$`)
	wordForm      = regexp.MustCompile(`^[a-zA-Z]{1,60}$`)
)

func patternIs(p impl.Pattern) bool {
	wrong := slices.ContainsFunc(p.Marks, func(m int64) bool { return m < 0 || m > 9 })
	return len(p.Letters) <= 20 && lettersForm.MatchString(p.Letters) && len(p.Marks)-1 == len(p.Letters) && !wrong
}

// patternPlainly reads a text: a 0 is put wherever no digit stands, and then the one half are letters, the other marks.
func patternPlainly(s string) (impl.Pattern, bool) {
	if !patternForm.MatchString(s) {
		return impl.Pattern{}, false
	}
	var p impl.Pattern
	for s != "" {
		if s[0] < '0' || s[0] > '9' {
			s = "0" + s
		}
		p.Marks = append(p.Marks, int64(s[0]-'0'))
		if len(s) == 1 {
			return patternOr(p)
		}
		p.Letters += s[1:2]
		s = s[2:]
	}
	p.Marks = append(p.Marks, 0)
	return patternOr(p)
}

func patternOr(p impl.Pattern) (impl.Pattern, bool) {
	if !patternIs(p) {
		return impl.Pattern{}, false
	}
	return p, true
}

func exceptionIs(e impl.Exception) bool {
	ok := smallForm.MatchString(e.Word)
	for i, k := range e.Places {
		ok = ok && k > 0 && k < int64(len(e.Word)) && (i == 0 || e.Places[i-1] < k)
	}
	return ok
}

func bookIs(b impl.Book) bool {
	ok := len(b.Patterns) <= 5000 && len(b.Words) <= 5000
	for _, p := range b.Patterns {
		ok = ok && patternIs(p)
	}
	for i, e := range b.Words {
		ok = ok && exceptionIs(e) && (i == 0 || strings.Compare(b.Words[i-1].Word, e.Word) == -1)
	}
	return ok
}

// bookPlainly reads the words of a text one by one, and puts each exception where it belongs.
func bookPlainly(text string) (impl.Book, int64) {
	if len(text) > 65536 {
		return impl.Book{}, -1
	}
	var b impl.Book
	number := int64(0)
	for _, word := range strings.Split(strings.ReplaceAll(text, "\n", " "), " ") {
		if word == "" {
			continue
		}
		number++
		if !strings.Contains(word, "-") && word[len(word)-1] != '=' {
			p, ok := patternPlainly(word)
			if !ok {
				return impl.Book{}, number
			}
			b.Patterns = append(b.Patterns, p)
			continue
		}
		if !exceptionForm.MatchString(word) || len(strings.Trim(strings.ReplaceAll(word, "-", ""), "=")) > 60 {
			return impl.Book{}, number
		}
		b.Words = putPlainly(b.Words, strings.Split(strings.TrimSuffix(word, "="), "-"))
	}
	if len(b.Patterns) > 5000 || len(b.Words) > 5000 {
		return impl.Book{}, -1
	}
	return b, 0
}

// putPlainly puts the word of these parts in the place of the same one, or where it belongs.
func putPlainly(words []impl.Exception, parts []string) []impl.Exception {
	e := impl.Exception{Word: parts[0]}
	for _, part := range parts[1:] {
		e.Places = append(e.Places, int64(len(e.Word)))
		e.Word += part
	}
	at := 0
	for at < len(words) && words[at].Word < e.Word {
		at++
	}
	if at < len(words) && words[at].Word == e.Word {
		words[at] = e
		return words
	}
	return slices.Insert(words, at, e)
}

// marksPlainly tries each pattern at each place of the word.
func marksPlainly(b impl.Book, word string) []int64 {
	if !bookIs(b) || !wordForm.MatchString(word) {
		return nil
	}
	dotted := "." + strings.ToLower(word) + "."
	marks := make([]int64, len(word)+1)
	for k := range marks {
		for _, p := range b.Patterns {
			for at := range dotted {
				here := k + 1 - at
				if strings.HasPrefix(dotted[at:], p.Letters) && here >= 0 && here < len(p.Marks) {
					marks[k] = max(marks[k], p.Marks[here])
				}
			}
		}
	}
	return marks
}

// hyphensPlainly asks of each place in turn whether it is one.
func hyphensPlainly(b impl.Book, word string, left, right int64) []int64 {
	marks := marksPlainly(b, word)
	var out []int64
	for k := int64(1); k < int64(len(marks))-1; k++ {
		wanted := marks[k]%2 != 0
		for _, e := range b.Words {
			if e.Word == strings.ToLower(word) {
				wanted = slices.Contains(e.Places, k)
			}
		}
		if wanted && k >= left && int64(len(word))-k >= right {
			out = append(out, k)
		}
	}
	return out
}

func partedPlainly(b impl.Book, word string, left, right int64) string {
	if len(marksPlainly(b, word)) == 0 {
		return ""
	}
	places := hyphensPlainly(b, word, left, right)
	var out string
	for i := range len(word) {
		if slices.Contains(places, int64(i)) {
			out += "-"
		}
		out += word[i : i+1]
	}
	return out
}

// checkParted holds Marks, Hyphens and Parted against the plain telling.
func checkParted(t *testing.T, b impl.Book, word string, left, right int64) {
	t.Helper()
	if got, want := impl.Marks(b, word), marksPlainly(b, word); !same(got, want) {
		t.Fatalf("Marks(%v, %q) = %v, not %v", b, word, got, want)
	}
	if got, want := impl.Hyphens(b, word, left, right), hyphensPlainly(b, word, left, right); !same(got, want) {
		t.Fatalf("Hyphens(%v, %q, %d, %d) = %v, not %v", b, word, left, right, got, want)
	}
	if got, want := impl.Parted(b, word, left, right), partedPlainly(b, word, left, right); got != want {
		t.Fatalf("Parted(%v, %q, %d, %d) = %q, not %q", b, word, left, right, got, want)
	}
}

// bookOf is the book of a text that is one.
func bookOf(t *testing.T, text string) impl.Book {
	t.Helper()
	b, n := impl.ReadBook(text)
	if n != 0 {
		t.Fatalf("ReadBook(%q): %d", text, n)
	}
	return b
}

// randomPattern can be; it is short, of few letters, so that many stand in a word.
func randomPattern(r *rand.Rand) impl.Pattern {
	p := impl.Pattern{Letters: string("abc"[r.Intn(3)]) + randomText(r, 3, "abc")}
	if r.Intn(4) == 0 {
		p.Letters = "." + p.Letters
	}
	if r.Intn(4) == 0 {
		p.Letters += "."
	}
	for range len(p.Letters) + 1 {
		p.Marks = append(p.Marks, max(0, r.Int63n(15)-5))
	}
	return p
}

func randomBook(r *rand.Rand) impl.Book {
	var b impl.Book
	for range r.Intn(8) {
		b.Patterns = append(b.Patterns, randomPattern(r))
	}
	for range r.Intn(4) {
		parts := []string{"a" + randomText(r, 3, "abc")}
		for range r.Intn(3) {
			parts = append(parts, "b"+randomText(r, 2, "abc"))
		}
		b.Words = putPlainly(b.Words, parts)
	}
	return b
}
