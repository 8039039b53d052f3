package tests

import (
	"math"
	"math/rand"
	"slices"
	"strings"
	"testing"
	"unsafe"

	"loop.example/g00014/impl"
)

const allStates = impl.StateSkip + 1

func char(cat int64, c byte) impl.Token { return impl.Token{Cat: cat, Char: int64(c)} }
func name(bytes string) impl.Token      { return impl.Token{Name: bytes} }
func slot(n int64) impl.Token           { return impl.Token{Cat: impl.CatSlot, Char: n} }
func space() impl.Token                 { return char(impl.CatSpace, ' ') }

func scan(kind int64, t impl.Token, at, state int64) impl.Scan {
	return impl.Scan{Kind: kind, Token: t, At: at, State: state}
}

func scanArgs() impl.Scan { return impl.Scan{Kind: impl.ScanArgs} }

// byteCats is a table in which the bytes 0 .. 15 are of the category of their number, all others of CatOther.
func byteCats() []int64 {
	cats := slices.Repeat([]int64{impl.CatOther}, 256)
	for c := range int64(impl.CatBad + 1) {
		cats[c] = c
	}
	return cats
}

// noCats are lists that are no tables.
func noCats() [][]int64 {
	out := [][]int64{nil, {}, byteCats()[:255], append(byteCats(), 0)}
	for _, at := range []int{0, 15, 128, 255} {
		for _, c := range []int64{-1, 16, math.MinInt64, math.MaxInt64, 15 - 1<<32, 1 << 32} {
			cats := byteCats()
			cats[at] = c
			out = append(out, cats)
		}
	}
	return out
}

func TestCatsOk(t *testing.T) {
	tables := [][]int64{byteCats(), impl.PlainCats(), make([]int64, 256), slices.Repeat([]int64{15}, 256)}
	for i, cats := range tables {
		if !impl.CatsOk(cats) {
			t.Error("a table is refused:", i)
		}
	}
	for i, cats := range noCats() {
		if impl.CatsOk(cats) {
			t.Error("no table, but taken:", i)
		}
	}
}

func TestPlainCats(t *testing.T) {
	want := map[byte]int64{'\\': 0, '{': 1, '}': 2, ' ': 3, '\t': 3, '\n': 6, '#': 7, '%': 8, 0: 9, '$': 10, '^': 11, '_': 12, '&': 13, '~': 14, 127: 15}
	for c := byte('a'); c <= 'z'; c++ {
		want[c], want[c-32] = 4, 4
	}
	cats := impl.PlainCats()
	if len(cats) != 256 {
		t.Fatal(len(cats))
	}
	for c, got := range cats {
		cat, ok := want[byte(c)]
		if !ok {
			cat = 5
		}
		if got != cat {
			t.Errorf("byte %d: %d, want %d", c, got, cat)
		}
	}
}

func tokenIs(tok impl.Token) bool {
	isName := tok.Cat == 0 && tok.Char == 0 && len(tok.Name) <= 40
	isChar := slices.Contains([]int64{1, 2, 3, 4, 5, 7, 10, 11, 12, 13, 14}, tok.Cat) && tok.Name == "" && tok.Char >= 0 && tok.Char < 256
	isSlot := tok.Cat == 16 && tok.Name == "" && tok.Char > 0 && tok.Char < 10
	return isName || isChar || isSlot
}

// manyTokens are tokens at all edges, such that can be and such that can't.
func manyTokens() []impl.Token {
	cats := []int64{math.MinInt64, math.MaxInt64, 1 << 32, -16}
	for c := int64(-2); c <= 19; c++ {
		cats = append(cats, c)
	}
	chars := []int64{math.MinInt64, -256, -1, 0, 1, 2, 8, 9, 10, 32, 65, 127, 128, 254, 255, 256, 257, math.MaxInt64}
	names := []string{"", "a", "\x00", " ", "par", strings.Repeat("x", 39), strings.Repeat("\xff", 40), strings.Repeat("x", 41), strings.Repeat("x", 1000)}
	var out []impl.Token
	for _, cat := range cats {
		for _, c := range chars {
			for _, n := range names {
				out = append(out, impl.Token{Cat: cat, Char: c, Name: n})
			}
		}
	}
	return out
}

func TestTokenOk(t *testing.T) {
	for _, tok := range manyTokens() {
		if impl.TokenOk(tok) != tokenIs(tok) {
			t.Errorf("%+v: want %v", tok, tokenIs(tok))
		}
	}
	for c := range 256 {
		if !impl.TokenOk(char(impl.CatOther, byte(c))) {
			t.Error("a byte is refused:", c)
		}
	}
}

// scanned is what the document says of Next, for arguments that it takes.
func scanned(cats []int64, text string, at, state int64) impl.Scan {
	if at == int64(len(text)) {
		return scan(0, impl.Token{}, at, state)
	}
	c := text[at]
	rest := text[at+1:]
	switch cats[c] {
	case 0:
		return scannedName(cats, rest, at+1)
	case 3:
		if state == 1 {
			return scan(1, space(), at+1, 2)
		}
		return scanned(cats, text, at+1, state)
	case 6:
		answers := []impl.Scan{scan(1, name("par"), at+1, 0), scan(1, space(), at+1, 0)}
		if state < 2 {
			return answers[state]
		}
		return scanned(cats, text, at+1, 0)
	case 8:
		for i := range int64(len(rest)) {
			if cats[rest[i]] == 6 {
				return scanned(cats, text, at+1+i+1, 0)
			}
		}
		return scan(0, impl.Token{}, int64(len(text)), 0)
	case 9:
		return scanned(cats, text, at+1, state)
	case 15:
		return scan(2, impl.Token{}, at+1, state)
	}
	return scan(1, char(cats[c], c), at+1, 1)
}

func scannedName(cats []int64, rest string, at int64) impl.Scan {
	if rest == "" {
		return scan(1, name(""), at, 1)
	}
	letters := int64(0)
	for letters < int64(len(rest)) && letters < 40 && cats[rest[letters]] == 4 {
		letters++
	}
	if letters > 0 {
		return scan(1, name(rest[:letters]), at+letters, 2)
	}
	if cats[rest[0]] == 3 {
		return scan(1, name(rest[:1]), at+1, 2)
	}
	return scan(1, name(rest[:1]), at+1, 1)
}

func checkNext(t *testing.T, cats []int64, text string, at, state int64) impl.Scan {
	t.Helper()
	got, want := impl.Next(cats, text, at, state), scanned(cats, text, at, state)
	if got != want {
		t.Fatalf("Next(%v, %q, %d, %d) = %+v, want %+v", cats, text, at, state, got, want)
	}
	return got
}

func TestEachCategoryInEachState(t *testing.T) {
	const none, tok, bad = impl.ScanEnd, impl.ScanToken, impl.ScanBad
	const fresh, mid, skip = impl.StateNew, impl.StateMid, impl.StateSkip
	no, dot := impl.Token{}, char(impl.CatOther, '.')
	same := func(s impl.Scan) [3]impl.Scan { return [3]impl.Scan{s, s, s} }
	alone := map[int64][3]impl.Scan{
		impl.CatEscape: same(scan(tok, name(""), 1, mid)),
		impl.CatEnd:    {scan(tok, name("par"), 1, fresh), scan(tok, space(), 1, fresh), scan(none, no, 1, fresh)},
		impl.CatSpace:  {scan(none, no, 1, fresh), scan(tok, space(), 1, skip), scan(none, no, 1, skip)},
		impl.CatNote:   same(scan(none, no, 1, fresh)),
		impl.CatIgnore: {scan(none, no, 1, fresh), scan(none, no, 1, mid), scan(none, no, 1, skip)},
		impl.CatBad:    {scan(bad, no, 1, fresh), scan(bad, no, 1, mid), scan(bad, no, 1, skip)},
	}
	followed := map[int64][3]impl.Scan{
		impl.CatEscape: same(scan(tok, name("."), 2, mid)),
		impl.CatEnd:    {scan(tok, name("par"), 1, fresh), scan(tok, space(), 1, fresh), scan(tok, dot, 2, mid)},
		impl.CatSpace:  {scan(tok, dot, 2, mid), scan(tok, space(), 1, skip), scan(tok, dot, 2, mid)},
		impl.CatNote:   same(scan(none, no, 2, fresh)),
		impl.CatIgnore: same(scan(tok, dot, 2, mid)),
		impl.CatBad:    {scan(bad, no, 1, fresh), scan(bad, no, 1, mid), scan(bad, no, 1, skip)},
	}
	for cat := range int64(impl.CatBad + 1) {
		plain := same(scan(tok, char(cat, byte(cat)), 1, mid))
		wantAlone, wantFollowed := plain, plain
		if a, ok := alone[cat]; ok {
			wantAlone, wantFollowed = a, followed[cat]
		}
		for state := range int64(allStates) {
			if got := impl.Next(byteCats(), string([]byte{byte(cat)}), 0, state); got != wantAlone[state] {
				t.Errorf("category %d alone in state %d: %+v, want %+v", cat, state, got, wantAlone[state])
			}
			if got := impl.Next(byteCats(), string([]byte{byte(cat), '.'}), 0, state); got != wantFollowed[state] {
				t.Errorf("category %d in state %d: %+v, want %+v", cat, state, got, wantFollowed[state])
			}
		}
	}
}

func TestNextKnown(t *testing.T) {
	long := strings.Repeat("n", 40)
	tests := []struct {
		text  string
		at    int64
		state int64
		want  impl.Scan
	}{
		{"", 0, 0, scan(0, impl.Token{}, 0, 0)},
		{"", 0, 2, scan(0, impl.Token{}, 0, 2)},
		{"ab", 2, 1, scan(0, impl.Token{}, 2, 1)},
		{`\foo  x`, 0, 0, scan(1, name("foo"), 4, 2)},
		{`\foo1`, 0, 1, scan(1, name("foo"), 4, 2)},
		{`x\foo`, 1, 1, scan(1, name("foo"), 5, 2)},
		{`\1a`, 0, 0, scan(1, name("1"), 2, 1)},
		{`\\a`, 0, 0, scan(1, name(`\`), 2, 1)},
		{`\ a`, 0, 0, scan(1, name(" "), 2, 2)},
		{"\\\ta", 0, 1, scan(1, name("\t"), 2, 2)},
		{"\\\na", 0, 1, scan(1, name("\n"), 2, 1)},
		{"\\%a", 0, 1, scan(1, name("%"), 2, 1)},
		{"\\\x00a", 0, 1, scan(1, name("\x00"), 2, 1)},
		{"\\\x7fa", 0, 1, scan(1, name("\x7f"), 2, 1)},
		{"\\\xffa", 0, 1, scan(1, name("\xff"), 2, 1)},
		{`a\`, 1, 1, scan(1, name(""), 2, 1)},
		{`\` + long[1:], 0, 0, scan(1, name(long[1:]), 40, 2)},
		{`\` + long, 0, 0, scan(1, name(long), 41, 2)},
		{`\` + long + "n", 0, 0, scan(1, name(long), 41, 2)},
		{`\` + long + long, 0, 0, scan(1, name(long), 41, 2)},
		{`\` + long + "1", 0, 0, scan(1, name(long), 41, 2)},
		{`\` + long + " ", 0, 0, scan(1, name(long), 41, 2)},
		{"% a\n b", 0, 1, scan(1, char(4, 'b'), 6, 1)},
		{"% a\n\nb", 0, 1, scan(1, name("par"), 5, 0)},
		{"% a\\\nb", 0, 2, scan(1, char(4, 'b'), 6, 1)},
		{"%%\x7f", 0, 1, scan(0, impl.Token{}, 3, 0)},
		{" \t \n", 0, 0, scan(1, name("par"), 4, 0)},
		{"  \n", 0, 1, scan(1, space(), 1, 2)},
		{" \n", 1, 2, scan(0, impl.Token{}, 2, 0)},
		{"\n\n", 0, 2, scan(1, name("par"), 2, 0)},
		{"\t", 0, 1, scan(1, space(), 1, 2)},
		{"\x00\x00 \x00", 0, 1, scan(1, space(), 3, 2)},
		{"\x00\x7f", 0, 2, scan(2, impl.Token{}, 2, 2)},
		{"\xff", 0, 0, scan(1, char(5, '\xff'), 1, 1)},
	}
	for _, c := range tests {
		if got := impl.Next(impl.PlainCats(), c.text, c.at, c.state); got != c.want {
			t.Errorf("Next(%q, %d, %d) = %+v, want %+v", c.text, c.at, c.state, got, c.want)
		}
	}
}

func TestNextRefuses(t *testing.T) {
	plain := impl.PlainCats()
	check := func(cats []int64, text string, at, state int64) {
		t.Helper()
		if got := impl.Next(cats, text, at, state); got != scanArgs() {
			t.Errorf("taken: %d categories, %d bytes, at %d, state %d: %+v", len(cats), len(text), at, state, got)
		}
	}
	for _, cats := range noCats() {
		check(cats, "ab", 0, 0)
	}
	for _, at := range []int64{-1, 3, 4, math.MinInt64, math.MaxInt64, 1 << 32, -1 << 32} {
		check(plain, "ab", at, 0)
	}
	check(plain, "", 1, 0)
	check(plain, "", -1, 0)
	for _, state := range []int64{-1, 3, math.MinInt64, math.MaxInt64, 1 << 32} {
		check(plain, "ab", 0, state)
		check(plain, "ab", 2, state)
	}
	check(plain, strings.Repeat("a", impl.MaxText+1), 0, 0)
	check(plain, strings.Repeat("a", impl.MaxText+1), impl.MaxText+1, 0)
}

func TestNextAtTheGreatestText(t *testing.T) {
	plain := impl.PlainCats()
	text := strings.Repeat("a", impl.MaxText)
	if got := impl.Next(plain, text, impl.MaxText-1, 0); got != scan(1, char(4, 'a'), impl.MaxText, 1) {
		t.Error(got)
	}
	if got := impl.Next(plain, text, impl.MaxText, 1); got != scan(0, impl.Token{}, impl.MaxText, 1) {
		t.Error(got)
	}
	for _, passed := range []string{" ", "\x00", "%"} {
		if got := impl.Next(plain, strings.Repeat(passed, impl.MaxText), 0, 2); got.Kind != impl.ScanEnd || got.At != impl.MaxText {
			t.Errorf("%q: %+v", passed, got)
		}
	}
}

func randomCats(r *rand.Rand) []int64 {
	cats := make([]int64, 256)
	for i := range cats {
		cats[i] = r.Int63n(16)
	}
	return cats
}

func randomText(r *rand.Rand, most int, of string) string {
	out := make([]byte, r.Intn(most+1))
	for i := range out {
		out[i] = byte(r.Intn(256))
		if of != "" {
			out[i] = of[r.Intn(len(of))]
		}
	}
	return string(out)
}

func TestNextAtRandom(t *testing.T) {
	r := rand.New(rand.NewSource(2))
	for range 4000 {
		cats, text := randomCats(r), randomText(r, 10, "")
		if r.Intn(2) == 0 {
			cats, text = byteCats(), randomText(r, 60, "\x00\x04\x04\x04\x04\x04\x04\x03\x06\x08\x0f\x09\x01.")
		}
		for at := range int64(len(text) + 1) {
			for state := range int64(allStates) {
				checkNext(t, cats, text, at, state)
			}
		}
	}
}

// stepped is what comes of a text when it is asked for token by token.
func stepped(t *testing.T, cats []int64, text string) ([]impl.Token, int64) {
	t.Helper()
	var out []impl.Token
	at, state := int64(0), int64(impl.StateNew)
	for {
		s := checkNext(t, cats, text, at, state)
		if s.Kind == impl.ScanBad {
			return out, s.At - 1
		}
		if s.Kind == impl.ScanEnd {
			return out, -1
		}
		out = append(out, s.Token)
		at, state = s.At, s.State
	}
}

func checkTokenize(t *testing.T, cats []int64, text string) ([]impl.Token, int64) {
	t.Helper()
	ts, bad := impl.Tokenize(cats, text)
	want, wantBad := stepped(t, cats, text)
	if bad != wantBad || !slices.Equal(ts, want) {
		t.Fatalf("Tokenize(%q) = %v, %d, want %v, %d", text, ts, bad, want, wantBad)
	}
	return ts, bad
}

// plainBytes has a byte of every plain category.
const plainBytes = "\\\\\\\\{} \t  \t\n\n\n\nabcXYZ#%%\x00$^_&~1.\x7f\xff"

func TestTokenizeIsNextTokenByToken(t *testing.T) {
	r := rand.New(rand.NewSource(3))
	for range 3000 {
		checkTokenize(t, randomCats(r), randomText(r, 40, ""))
		checkTokenize(t, byteCats(), randomText(r, 40, "\x00\x01\x02\x03\x04\x05\x06\x07\x08\x09\x0a\x0b\x0c\x0d\x0e...\x03\x06\x03\x06"))
		checkTokenize(t, impl.PlainCats(), randomText(r, 40, plainBytes))
	}
	checkTokenize(t, impl.PlainCats(), "")
}

func TestTokenizeKnown(t *testing.T) {
	par, a := name("par"), char(4, 'a')
	tests := []struct {
		text string
		want []impl.Token
		bad  int64
	}{
		{"", nil, -1},
		{"  \t", nil, -1},
		{"a", []impl.Token{a}, -1},
		{"a\n", []impl.Token{a, space()}, -1},
		{"a \n", []impl.Token{a, space()}, -1},
		{"a \n a", []impl.Token{a, space(), a}, -1},
		{"\n", []impl.Token{par}, -1},
		{"a\n\na", []impl.Token{a, space(), par, a}, -1},
		{"a\n \n\t\na", []impl.Token{a, space(), par, par, a}, -1},
		{"a%\na", []impl.Token{a, a}, -1},
		{"a%\n\na", []impl.Token{a, par, a}, -1},
		{"a %\n a", []impl.Token{a, space(), a}, -1},
		{"\\a\na", []impl.Token{name("a"), a}, -1},
		{"\\a\n\na", []impl.Token{name("a"), par, a}, -1},
		{"\\1\na", []impl.Token{name("1"), space(), a}, -1},
		{"\\ \na", []impl.Token{name(" "), a}, -1},
		{"a\\", []impl.Token{a, name("")}, -1},
		{"\x7f", nil, 0},
		{"a\x7fa", []impl.Token{a}, 1},
		{"a\x00\x7f\x7f", []impl.Token{a}, 2},
		{"%\x7f\n\\\x7fa\x7f", []impl.Token{name("\x7f"), a}, 6},
	}
	for _, c := range tests {
		ts, bad := impl.Tokenize(impl.PlainCats(), c.text)
		if bad != c.bad || !slices.Equal(ts, c.want) {
			t.Errorf("Tokenize(%q) = %v, %d, want %v, %d", c.text, ts, bad, c.want, c.bad)
		}
	}
}

func TestTokenizeRefuses(t *testing.T) {
	for i, cats := range noCats() {
		for _, text := range []string{"", "ab", "\x7f"} {
			if ts, bad := impl.Tokenize(cats, text); len(ts) != 0 || bad != -2 {
				t.Error(i, ts, bad)
			}
		}
	}
	whole := strings.Repeat("a", impl.MaxText)
	if ts, bad := impl.Tokenize(impl.PlainCats(), whole); len(ts) != impl.MaxText || bad != -1 {
		t.Error(len(ts), bad)
	}
	if ts, bad := impl.Tokenize(impl.PlainCats(), whole[1:]+"\x7f"); len(ts) != impl.MaxText-1 || bad != impl.MaxText-1 {
		t.Error(len(ts), bad)
	}
	if ts, bad := impl.Tokenize(impl.PlainCats(), whole+"a"); len(ts) != 0 || bad != -2 {
		t.Error(len(ts), bad)
	}
}

func TestShowTokensKnown(t *testing.T) {
	long := strings.Repeat("x", 40)
	tests := []struct {
		ts   []impl.Token
		want string
	}{
		{nil, ""},
		{[]impl.Token{name("")}, `\`},
		{[]impl.Token{name("a")}, `\a `},
		{[]impl.Token{name("Z"), name("z"), name("A")}, `\Z \z \A `},
		{[]impl.Token{name("a1")}, `\a1`},
		{[]impl.Token{name("1a")}, `\1a `},
		{[]impl.Token{name("@"), name("["), name("`"), name("{")}, "\\@\\[\\`\\{"},
		{[]impl.Token{name(" "), name("\n"), name("\xe9")}, "\\ \\\n\\\xe9"},
		{[]impl.Token{name(long), name("")}, `\` + long + ` \`},
		{[]impl.Token{char(4, 'a'), space(), char(3, 'q'), char(5, 0), char(14, 255)}, "a q\x00\xff"},
		{[]impl.Token{char(7, '#'), slot(1), slot(9), char(1, 'x')}, "##1#9x"},
	}
	for _, c := range tests {
		if got := impl.ShowTokens(c.ts); got != c.want {
			t.Errorf("%v: %q, want %q", c.ts, got, c.want)
		}
	}
}

func TestShowTokensRefuses(t *testing.T) {
	for _, tok := range manyTokens() {
		for _, ts := range [][]impl.Token{{tok}, {tok, char(4, 'a')}, {char(4, 'a'), tok}} {
			if got := impl.ShowTokens(ts); (got != "") != tokenIs(tok) {
				t.Errorf("%v: %q", ts, got)
			}
		}
	}
	full := slices.Repeat([]impl.Token{name(strings.Repeat("x", 40))}, impl.MaxTokens)
	if got := impl.ShowTokens(full); len(got) != impl.MaxTokens*42 {
		t.Error(len(got))
	}
	if got := impl.ShowTokens(append(full, char(4, 'a'))); got != "" {
		t.Error("too many tokens are shown:", len(got))
	}
	full[impl.MaxTokens-1] = char(impl.CatBad, 0)
	if got := impl.ShowTokens(full); got != "" {
		t.Error("a list with a wrong token is shown:", len(got))
	}
}

// checkShownAgain holds what the document says follows: what is shown and made tokens of again is the same.
func checkShownAgain(t *testing.T, text string) {
	t.Helper()
	ts, _ := impl.Tokenize(impl.PlainCats(), text)
	if len(ts) > impl.MaxTokens {
		t.Fatal("too many tokens", len(ts))
	}
	shown := impl.ShowTokens(ts)
	again, bad := impl.Tokenize(impl.PlainCats(), shown)
	if bad != -1 || !slices.Equal(ts, again) {
		t.Fatalf("%q: %v, shown as %q: %v, %d", text, ts, shown, again, bad)
	}
}

func TestTokensShownAndScannedAgainAreTheSame(t *testing.T) {
	r := rand.New(rand.NewSource(4))
	for range 20000 {
		checkShownAgain(t, randomText(r, 30, plainBytes))
		checkShownAgain(t, randomText(r, 8, "\\ \na%"))
		checkShownAgain(t, randomText(r, 30, ""))
	}
	checkShownAgain(t, strings.Repeat("a", impl.MaxTokens))
	checkShownAgain(t, strings.Repeat("\n", impl.MaxText/5))
	for n := 1; n < 130; n++ {
		checkShownAgain(t, `\`+strings.Repeat("n", n))
		checkShownAgain(t, `\`+strings.Repeat("n", n)+" n")
		checkShownAgain(t, `\`+strings.Repeat("n", n)+`\`)
	}
}

// within: do the bytes of part lie in the memory of text?
func within(part, text string) bool {
	if part == "" || text == "" {
		return false
	}
	p, t := uintptr(unsafe.Pointer(unsafe.StringData(part))), uintptr(unsafe.Pointer(unsafe.StringData(text)))
	return t <= p && p < t+uintptr(len(text))
}

func TestScanAnswersAreNewAndArgumentsStay(t *testing.T) {
	cats := impl.PlainCats()
	cats[0] = 99
	if impl.PlainCats()[0] != impl.CatIgnore {
		t.Error("PlainCats hands out one table twice")
	}
	room := append(impl.PlainCats(), 70, 71, 72)
	given, before := room[:256], slices.Clone(room)
	text := strings.Clone("\\name\\x a\\")
	ts, bad := impl.Tokenize(given, text)
	if next := impl.Next(given, text, 0, 0); within(next.Token.Name, text) {
		t.Error("a name lies in the text")
	}
	if !impl.CatsOk(given) || bad != -1 || !slices.Equal(room, before) {
		t.Error("the table is changed")
	}
	for _, tok := range ts {
		if within(tok.Name, text) {
			t.Error("a name lies in the text:", tok.Name)
		}
	}
	again, _ := impl.Tokenize(given, text)
	ts[0] = slot(1)
	if again[0] != name("name") {
		t.Error("two answers share their tokens")
	}
	tokens := append(again, slot(9), slot(8))
	kept := slices.Clone(tokens)
	shown := impl.ShowTokens(tokens[:len(tokens)-2])
	if shown != "\\name \\x a\\" || !slices.Equal(tokens, kept) {
		t.Error("shown tokens are changed", shown)
	}
	one := []impl.Token{name(strings.Clone("1"))}
	if within(one[0].Name, impl.ShowTokens(one)) {
		t.Error("a text that is shown lies in the token")
	}
}

func TestScanAnswersAtEveryArgument(t *testing.T) {
	texts := []string{"", "a", "\\", "%", "\x7f", "\n", "\\a \n\x00\xff", strings.Repeat("\\", impl.MaxText), strings.Repeat("\n", impl.MaxText+1)}
	tables := append(noCats(), impl.PlainCats(), byteCats(), make([]int64, 256))
	for _, cats := range tables {
		impl.CatsOk(cats)
		for _, text := range texts {
			impl.Tokenize(cats, text)
			for _, at := range corners {
				for _, state := range []int64{math.MinInt64, -1, 0, 1, 2, 3, math.MaxInt64} {
					s := impl.Next(cats, text, at, state)
					taken := impl.CatsOk(cats) && len(text) <= impl.MaxText && at >= 0 && at <= int64(len(text)) && state >= 0 && state <= 2
					if (s.Kind == impl.ScanArgs) == taken || !taken && s != scanArgs() {
						t.Fatal(len(cats), len(text), at, state, s)
					}
				}
			}
		}
	}
}
