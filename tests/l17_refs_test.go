package tests

import (
	"fmt"
	"math"
	"slices"
	"strconv"
	"strings"
	"testing"

	"loop.example/g00014/impl"
)

// contentsOf is the list number 15, as it is shown.
func contentsOf(e impl.Env) string { return impl.ShowTokens(e.Levels[0].Toks[15]) }

// pageMeans is what the name of a ref's text becomes; ? when it means nothing.
func pageMeans(e impl.Env, text string) string {
	m := impl.Look(e, "page @"+text)
	if m.Kind != impl.MeanMacro || m.Macro.Slots != 0 || len(m.Macro.Pattern) > 0 {
		return "?"
	}
	for _, tok := range m.Macro.Body {
		if tok.Cat != impl.CatOther {
			return "a token of category " + strconv.FormatInt(tok.Cat, 10)
		}
	}
	return impl.ShowTokens(m.Macro.Body)
}

func mustWith(t *testing.T, e impl.Env, rs refs) impl.Env {
	t.Helper()
	with, ok := checkWithRefs(t, e, rs)
	if !ok {
		t.Fatalf("%d refs are refused", len(rs))
	}
	return with
}

func TestWithRefsKnown(t *testing.T) {
	e := impl.FormatEnv()
	for _, c := range []struct {
		what  string
		refs  refs
		pages map[string]string
		list  string
	}{
		{"none", nil, map[string]string{"k": "?", "": "?"}, ""},
		{"one", refs{ref("k", 12)}, map[string]string{"k": "12", "l": "?"}, `\entry {k}{12}`},
		{"several, in their order", refs{ref("k", 3), ref("a b", 1), ref("j", 2)}, map[string]string{"k": "3", "a b": "1", "j": "2"}, `\entry {k}{3}\entry {a b}{1}\entry {j}{2}`},
		{"one text twice: the last page counts, both are entries", refs{ref("k", 3), ref("k", 5)}, map[string]string{"k": "5"}, `\entry {k}{3}\entry {k}{5}`},
		{"an empty text", refs{ref("", 4)}, map[string]string{"": "4"}, `\entry {}{4}`},
		{"a page of 0", refs{ref("k", 0)}, map[string]string{"k": "0"}, `\entry {k}{0}`},
		{"a page below 0", refs{ref("k", -7)}, map[string]string{"k": "-7"}, `\entry {k}{-7}`},
		{"the greatest page", refs{ref("k", math.MaxInt64)}, map[string]string{"k": "9223372036854775807"}, `\entry {k}{9223372036854775807}`},
		{"the least page", refs{ref("k", math.MinInt64)}, map[string]string{"k": "-9223372036854775808"}, `\entry {k}{-9223372036854775808}`},
		{"names", refs{ref(`a\b c`, 1)}, map[string]string{`a\b c`: "1"}, `\entry {a\b c}{1}`},
		{"groups", refs{ref("{a}b{{}}", 1)}, map[string]string{"{a}b{{}}": "1"}, `\entry {{a}b{{}}}{1}`},
		{"braces that close and open", refs{ref("a}{b", 1)}, map[string]string{"a}{b": "1"}, `\entry {a}{b}{1}`},
		{"parameters", refs{ref("#1#", 1)}, map[string]string{"#1#": "1"}, `\entry {#1#}{1}`},
		{"other signs", refs{ref("$^_&~", 1)}, map[string]string{"$^_&~": "1"}, `\entry {$^_&~}{1}`},
		{"blanks", refs{ref("  a   b  ", 1)}, map[string]string{"  a   b  ": "1", "a b": "?"}, `\entry { a b }{1}`},
		{"a byte that is ignored", refs{ref("a\x00b", 1)}, map[string]string{"a\x00b": "1"}, `\entry {ab}{1}`},
		{"bytes beyond 127", refs{ref("\x80\xff", 1)}, map[string]string{"\x80\xff": "1"}, "\\entry {\x80\xff}{1}"},
		{"lines", refs{ref("a\nb\n\nc", 1)}, map[string]string{"a\nb\n\nc": "1"}, `\entry {a b \par c}{1}`},
		{"a note that ends", refs{ref("a% } {\nb", 1)}, map[string]string{"a% } {\nb": "1"}, `\entry {ab}{1}`},
	} {
		with := mustWith(t, e, c.refs)
		for text, want := range c.pages {
			if got := pageMeans(with, text); got != want {
				t.Errorf("%s: %q is %s, not %s", c.what, text, got, want)
			}
		}
		if got := contentsOf(with); got != c.list {
			t.Errorf("%s: %s, not %s", c.what, got, c.list)
		}
	}
}

// What can't be an entry is left out of the list; the name has its meaning all the same.
func TestRefsThatAreNoEntries(t *testing.T) {
	e := impl.FormatEnv()
	for _, text := range []string{"{", "}", "a{b", "a}b", "}{{", "}}{{", "{}}", "}a{}", "\x7f", "a\x7fb", "{\x7f}", "%", "a % b", `\`, `a\`, `{\`, "\x7f{", "%\n}"} {
		with := mustWith(t, e, refs{ref("k", 1), ref(text, 2), ref("l", 3)})
		if got := contentsOf(with); got != `\entry {k}{1}\entry {l}{3}` {
			t.Errorf("%q: %s", text, got)
		}
		if got := pageMeans(with, text); got != "2" {
			t.Errorf("%q: page %s", text, got)
		}
	}
}

// The list is what it is with the plain categories, whatever the environment's are, and what stood in it is gone.
func TestContentsAreReadPlainly(t *testing.T) {
	e := oneLevel(func(l *impl.Level) {
		for i := range l.Cats {
			l.Cats[i] = impl.CatIgnore
		}
		for i := range l.Toks {
			l.Toks[i] = list(letter('q'))
		}
	})
	with := mustWith(t, e, refs{ref("a {b}", 1)})
	if got := contentsOf(with); got != `\entry {a {b}}{1}` {
		t.Error(got)
	}
	for i, ts := range with.Levels[0].Toks {
		if i != 15 && !same(ts, list(letter('q'))) {
			t.Errorf("the list %d is %v", i, ts)
		}
	}
	if got := contentsOf(mustWith(t, e, nil)); got != "" {
		t.Errorf("without refs: %s", got)
	}
}

// Whatever else stands in an environment stays, names of pages too; those that are told anew mean what is told.
func TestTheRestOfAnEnvironmentStays(t *testing.T) {
	first := mustWith(t, impl.FormatEnv(), refs{ref("k", 3), ref("l", 4)})
	second := mustWith(t, first, refs{ref("k", 8)})
	if pageMeans(second, "k") != "8" || pageMeans(second, "l") != "4" || contentsOf(second) != `\entry {k}{8}` {
		t.Error(pageMeans(second, "k"), pageMeans(second, "l"), contentsOf(second))
	}
	e := withBinds(bind("page @c", means(letter('x'))), bind("page @p", prim(1)), bind("q", macro(0, nil, others("7"))))
	with := mustWith(t, e, refs{ref("c", 1), ref("p", 2)})
	if pageMeans(with, "c") != "1" || pageMeans(with, "p") != "2" || len(with.Levels[0].Binds) != 3 {
		t.Error(with.Levels[0].Binds)
	}
	if with := mustWith(t, impl.Env{Levels: []impl.Level{richLevel()}}, refs{ref("", 1)}); pageMeans(with, "") != "1" {
		t.Error("a rich level")
	}
}

// manyRefs are so many unlike ones, with texts of four bytes.
func manyRefs(count int) refs {
	var out refs
	for i := range count {
		out = append(out, ref(fmt.Sprintf("w%03d", i), int64(i)))
	}
	return out
}

func TestTheMostRefsThatGoIn(t *testing.T) {
	e := withBinds()
	for _, count := range []int{0, 1, 499, 500, 501, 502, 900} {
		with, ok := checkWithRefs(t, e, manyRefs(count))
		if ok != (count <= impl.MaxRefs) || ok && len(with.Levels[0].Binds) != count {
			t.Errorf("%d refs: %v", count, ok)
		}
	}
	// It is not asked whether they are unlike.
	for _, count := range []int{500, 501} {
		if _, ok := checkWithRefs(t, e, slices.Repeat(refs{ref("k", 1)}, count)); ok != (count == 500) {
			t.Errorf("%d refs of one text: %v", count, ok)
		}
	}
}

func TestTheLongestTextsOfRefs(t *testing.T) {
	e := impl.FormatEnv()
	for size, can := range map[int]bool{0: true, 33: true, 34: true, 35: true, 40: true, 41: true, 999: true, 1000: true, 1001: false, 1002: false, 70000: false} {
		text := strings.Repeat("x", size)
		for _, rs := range []refs{{ref(text, 6)}, {ref("k", 1), ref(text, 6)}, {ref(text, 6), ref("k", 1)}} {
			with, ok := checkWithRefs(t, e, rs)
			if ok != can {
				t.Fatalf("a text of %d bytes: %v", size, ok)
			}
			if !ok {
				continue
			}
			// A name longer than MaxName is left out; the entry is there all the same.
			want := map[bool]string{true: "6", false: "?"}[size+len("page @") <= impl.MaxName]
			if got := pageMeans(with, text); got != want {
				t.Errorf("a text of %d bytes: page %s", size, got)
			}
			if !strings.Contains(contentsOf(with), `\entry {`+text+"}{6}") {
				t.Errorf("a text of %d bytes: no entry", size)
			}
		}
	}
}

// namesBeside are an environment with so many names, of which some are those of the first refs already.
func namesBeside(count, already int) impl.Env {
	binds := manyBinds(count - already)
	for _, r := range manyRefs(already) {
		binds = append(binds, bind("page @"+r.Text, prim(1)))
	}
	return withBinds(binds...)
}

func TestTheMostNamesWithRefs(t *testing.T) {
	for _, c := range []struct {
		names, already, refs int
		can                  bool
	}{
		{0, 0, 500, true}, {1, 0, 499, true}, {1, 0, 500, false}, {400, 0, 100, true}, {400, 0, 101, false},
		{499, 0, 1, true}, {499, 0, 2, false}, {500, 0, 0, true}, {500, 0, 1, false},
		{500, 1, 1, true}, {500, 1, 2, false}, {500, 100, 100, true}, {500, 100, 101, false}, {450, 100, 150, true}, {450, 100, 151, false},
		{500, 100, 7, true}, {500, 500, 500, true},
	} {
		e := namesBeside(c.names, c.already)
		with, ok := checkWithRefs(t, e, manyRefs(c.refs))
		if ok != c.can {
			t.Errorf("%+v: %v", c, ok)
		}
		if ok && len(with.Levels[0].Binds) != c.names+max(c.refs-c.already, 0) {
			t.Errorf("%+v: %d names", c, len(with.Levels[0].Binds))
		}
	}
	// Two refs of one text, and those of which the name would be too long, take no more room.
	for _, rs := range []refs{{ref("k", 1), ref("k", 2)}, {ref("k", 1), ref(strings.Repeat("x", 35), 2)}, {ref(strings.Repeat("x", 35), 2), ref(strings.Repeat("y", 1000), 2), ref("k", 1)}} {
		if _, ok := checkWithRefs(t, namesBeside(499, 0), rs); !ok {
			t.Errorf("%.50v is refused", rs)
		}
		if _, ok := checkWithRefs(t, namesBeside(500, 0), rs); ok {
			t.Errorf("%.50v is taken", rs)
		}
	}
}

// entryOfTokens is a ref whose entry has so many tokens.
func entryOfTokens(count int) impl.Ref { return ref(strings.Repeat("x", count-6), 7) }

func TestTheMostTokensOfContents(t *testing.T) {
	e := impl.FormatEnv()
	for _, c := range []struct {
		what string
		adds []int // how many tokens each entry has
		in   []int // which of them stand in the list
	}{
		{"just as many", []int{1000, 1000}, []int{0, 1}},
		{"one less", []int{1000, 999}, []int{0, 1}},
		{"one more", []int{1000, 999, 2000 - 1999 + 6}, []int{0, 1}},
		{"one token too many", []int{1000, 500, 501}, []int{0, 1}},
		{"room for one that is smaller, behind it", []int{1000, 900, 101, 100}, []int{0, 1, 3}},
		{"several that have no room, among others", []int{900, 900, 900, 100, 300, 50, 51, 50}, []int{0, 1, 3, 5, 7}},
		{"full, and then others", []int{1000, 1000, 7, 7, 6}, []int{0, 1}},
		{"small ones", slices.Repeat([]int{8}, 300), numbersTo(250)},
		{"small ones that leave a bit", slices.Repeat([]int{7}, 300), numbersTo(285)},
	} {
		var rs refs
		want := []impl.Token{}
		for i, count := range c.adds {
			rs = append(rs, entryOfTokens(count))
			ts, ok := entryTokens(rs[i])
			if !ok || len(ts) != count {
				t.Fatal("an entry of", len(ts), "tokens, not", count)
			}
			if slices.Contains(c.in, i) {
				want = append(want, ts...)
			}
		}
		if with := mustWith(t, e, rs); !same(with.Levels[0].Toks[15], want) {
			t.Errorf("%s: %d tokens, not %d", c.what, len(with.Levels[0].Toks[15]), len(want))
		}
	}
}

// numbersTo are those from 0 on, so many.
func numbersTo(count int) []int {
	var out []int
	for i := range count {
		out = append(out, i)
	}
	return out
}

func TestWithRefsOfWrongEnvironments(t *testing.T) {
	var wrong []impl.Env
	wrong = append(wrong, badEnvs()...)
	for _, change := range badLevels() {
		wrong = append(wrong, oneLevel(change))
	}
	wrong = append(wrong, impl.Env{Levels: slices.Repeat(impl.FormatEnv().Levels, 2)}, impl.Env{Levels: slices.Repeat(impl.FormatEnv().Levels, 20)})
	for i, e := range wrong {
		for _, rs := range []refs{nil, {ref("k", 1)}} {
			if with, ok := checkWithRefs(t, e, rs); ok || len(with.Levels) > 0 {
				t.Errorf("environment %d is taken", i)
			}
		}
	}
	for i, change := range goodLevels() {
		if _, ok := checkWithRefs(t, oneLevel(change), nil); !ok {
			t.Errorf("good level %d is refused", i)
		}
	}
}
