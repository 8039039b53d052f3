package tests

import (
	"math/big"
	"math/rand"
	"slices"
	"strconv"
	"strings"
	"testing"

	"loop.example/g00014/impl"
)

// plain tells chapter 4 plainly: a list and what more comes behind it, what is left, and the first code, with which nothing more is done.
type plain struct {
	level impl.Level
	ts    []impl.Token
	more  func() (impl.Token, bool)
	left  int64
	code  int64
}

func (p *plain) fail(code int64) {
	if p.code == 0 {
		p.code = code
	}
}

// pull puts one more token behind the list, if one comes.
func (p *plain) pull() bool {
	if p.code != 0 || p.more == nil {
		return false
	}
	t, ok := p.more()
	if ok {
		p.ts = append(slices.Clone(p.ts), t)
	}
	return ok
}

func (p *plain) has() bool { return p.code == 0 && (len(p.ts) > 0 || p.pull()) }

func (p *plain) take() impl.Token {
	if !p.has() {
		p.fail(impl.ExpEnd)
	}
	if p.code != 0 {
		return impl.Token{}
	}
	t := p.ts[0]
	p.ts = p.ts[1:]
	return t
}

func (p *plain) put(ts []impl.Token) {
	if len(p.ts)+len(ts) > 20000 {
		p.fail(impl.ExpFull)
	}
	if p.code == 0 {
		p.ts = append(slices.Clone(ts), p.ts...)
	}
}

func (p *plain) mean(t impl.Token) impl.Mean {
	if t.Cat != 0 {
		return means(t)
	}
	for _, b := range p.level.Binds {
		if b.Name == t.Name {
			return b.Mean
		}
	}
	return impl.Mean{}
}

// called is the name of the primitive that a token is.
func (p *plain) called(t impl.Token) string { return impl.PrimName(p.mean(t).Num) }

const expandables = " expandafter csname string number the iftrue iffalse ifnum iflen ifodd ifsame ifcase else or fi "
const ifs = " iftrue iffalse ifnum iflen ifodd ifsame ifcase "

func oneOf(words, word string) bool { return word != "" && strings.Contains(words, " "+word+" ") }

func (p *plain) canExpand() bool {
	return p.has() && (p.mean(p.ts[0]).Kind == 3 || oneOf(expandables, p.called(p.ts[0])))
}

func (p *plain) settle() {
	for p.canExpand() {
		p.step()
	}
}

// next is the token that comes behind what can be expanded; a name of no token when there is none.
func (p *plain) next() impl.Token {
	p.settle()
	if !p.has() {
		return impl.Token{}
	}
	return p.ts[0]
}

func (p *plain) takeNext() impl.Token {
	p.settle()
	return p.take()
}

// step expands the first token, which can be.
func (p *plain) step() {
	if p.left == 0 {
		p.fail(impl.ExpBudget)
		return
	}
	p.left--
	t := p.take()
	if m := p.mean(t); m.Kind == 3 {
		p.callMacro(m.Macro)
		return
	}
	switch word := p.called(t); word {
	case "expandafter":
		held := p.take()
		if !p.has() {
			p.fail(impl.ExpEnd)
		}
		if p.canExpand() {
			p.step()
		}
		p.put(list(held))
	case "csname":
		p.put(list(name(p.nameBytes())))
	case "string":
		if t := p.take(); t.Cat == 0 {
			p.put(others("\\" + t.Name))
		} else {
			p.put(others(string([]byte{byte(t.Char)})))
		}
	case "number":
		p.put(others(strconv.FormatInt(p.number(), 10)))
	case "the":
		p.the()
	case "ifcase":
		p.ifcase(p.number())
	case "else", "or":
		p.skip(false, 0)
	case "fi":
	default:
		if holds := p.test(word); !holds {
			p.skip(true, 0)
		}
	}
}

func (p *plain) callMacro(m impl.Macro) {
	got := matched(m, p.ts)
	for got.Code == impl.ExpEnd && p.pull() {
		got = matched(m, p.ts)
	}
	p.fail(got.Code)
	body, ok := bodyWith(m, got.Args)
	if !ok {
		p.fail(impl.ExpFull)
	}
	if p.code == 0 {
		p.ts = p.ts[got.Used:]
		p.put(body)
	}
}

func (p *plain) nameBytes() string {
	bytes := ""
	for p.code == 0 {
		t := p.takeNext()
		if p.called(t) == "endcsname" {
			break
		}
		if t.Cat == 0 || len(bytes) >= 40 {
			p.fail(impl.ExpName)
		}
		bytes += string([]byte{byte(t.Char)})
	}
	return bytes
}

func (p *plain) the() {
	word := p.called(p.take())
	if !oneOf(" count len glue toks ", word) {
		p.fail(impl.ExpName)
	}
	n := p.place()
	switch word {
	case "count":
		p.put(others(strconv.FormatInt(p.level.Counts[n], 10)))
	case "len":
		p.put(others(impl.ShowLen(p.level.Lens[n])))
	case "glue":
		p.put(others(impl.ShowGlue(p.level.Glues[n])))
	case "toks":
		p.put(p.level.Toks[n])
	}
}

func (p *plain) test(word string) bool {
	read := p.number
	switch word {
	case "iftrue", "iffalse":
		return word == "iftrue"
	case "ifodd":
		n := p.number()
		return n&1 == 1
	case "ifsame":
		a, b := p.take(), p.take()
		return same(p.mean(a), p.mean(b))
	case "iflen":
		read = p.length
	}
	a := read()
	relation := p.takeNext()
	if !isNamed(relation, '<') && !isNamed(relation, '=') && !isNamed(relation, '>') {
		p.fail(impl.ExpName)
	}
	b := read()
	return a < b && relation.Char == '<' || a == b && relation.Char == '=' || a > b && relation.Char == '>'
}

// skip takes all up to a fi, an else if that counts, or the or of that number, if it is above 0.
func (p *plain) skip(elses bool, or int64) {
	for p.code == 0 {
		word := p.called(p.take())
		switch {
		case word == "fi", word == "else" && elses:
			return
		case word == "or" && or > 0:
			if or == 1 {
				return
			}
			or--
		case oneOf(ifs, word):
			p.skip(false, 0)
		}
	}
}

func (p *plain) ifcase(n int64) {
	if n != 0 {
		p.skip(true, n)
	}
}

func isNamed(t impl.Token, c byte) bool { return (t.Cat == 4 || t.Cat == 5) && t.Char == int64(c) }

func (p *plain) signs() int64 {
	sign := int64(1)
	for {
		t := p.next()
		if isNamed(t, '-') {
			sign = -sign
		} else if t.Cat != 3 && !isNamed(t, '+') {
			return sign
		}
		p.take()
	}
}

func (p *plain) space() {
	if p.next().Cat == 3 {
		p.take()
	}
}

// run are the bytes of CatOther that come, as long as they are such and a dot comes at most once.
func (p *plain) run(of string) string {
	out := ""
	for {
		t := p.next()
		if t.Cat != 5 || !strings.ContainsRune(of, rune(t.Char)) || t.Char == '.' && strings.Contains(out, ".") {
			return out
		}
		out += string(rune(p.take().Char))
	}
}

const tenDigits = "0123456789"

func (p *plain) number() int64 {
	sign := p.signs()
	digits := p.run(tenDigits)
	if digits != "" {
		n, _ := new(big.Int).SetString(digits, 10)
		if n.Cmp(big.NewInt(2147483647)) > 0 {
			p.fail(impl.ExpRange)
		}
		p.space()
		return sign * n.Int64()
	}
	t := p.takeNext()
	if isNamed(t, '`') {
		t = p.take()
		n := t.Char
		if t.Cat == 0 && len(t.Name) == 1 {
			n = int64(t.Name[0])
		} else if t.Cat == 0 {
			p.fail(impl.ExpNumber)
		}
		p.space()
		return sign * n
	}
	if p.called(t) != "count" {
		p.fail(impl.ExpNumber)
	}
	return sign * p.level.Counts[p.place()]
}

func (p *plain) place() int64 {
	if p.code != 0 {
		return 0
	}
	n := p.number()
	if n < 0 || n > 31 {
		p.fail(impl.ExpRange)
	}
	if p.code != 0 {
		return 0
	}
	return n
}

func (p *plain) length() int64 {
	sign := p.signs()
	return sign * p.lengthOrShare(false).Plus
}

// lengthOrShare is what stands behind the signs, as the Plus of a glue.
func (p *plain) lengthOrShare(shares bool) impl.Glue {
	if p.called(p.next()) == "len" {
		p.take()
		return impl.Glue{Plus: p.level.Lens[p.place()]}
	}
	digits := p.run(tenDigits + ".")
	if digits == "" && p.has() {
		p.fail(impl.ExpNumber)
	}
	if shares && p.word("fil") {
		order := int64(1)
		for order < 3 && p.word("l") {
			order++
		}
		return impl.Glue{Plus: p.measured(digits + "pt"), PlusOrder: order}
	}
	for range 2 {
		t := p.takeNext()
		if t.Cat != 4 && t.Cat != 5 {
			p.fail(impl.ExpNumber)
		}
		digits += string([]byte{byte(t.Char)})
	}
	n := p.measured(digits)
	p.space()
	return impl.Glue{Plus: n}
}

// measured is a length of a text without a sign. A text that would be a length if all its digits were 0 is only too large.
func (p *plain) measured(text string) int64 {
	n, ok := impl.ParseLen(text)
	if ok {
		return n
	}
	number, unit := text[:len(text)-2], text[len(text)-2:]
	for _, digit := range tenDigits {
		number = strings.ReplaceAll(number, string(digit), "0")
	}
	if _, ok := impl.ParseLen(number + unit); ok {
		p.fail(impl.ExpRange)
	}
	p.fail(impl.ExpNumber)
	return 0
}

// word takes the characters of a word, or none.
func (p *plain) word(word string) bool {
	taken := 0
	var held []impl.Token
	for taken < len(word) && isNamed(p.next(), word[taken]) {
		held = append(held, p.take())
		taken++
	}
	if taken < len(word) {
		p.put(held)
		return false
	}
	return true
}

func (p *plain) spacedWord(word string) bool {
	var held []impl.Token
	for p.next().Cat == 3 {
		held = append(held, p.take())
	}
	found := p.word(word)
	if !found {
		p.put(held)
	}
	return found
}

func (p *plain) glue() impl.Glue {
	sign := p.signs()
	if p.called(p.next()) == "glue" {
		p.take()
		g := p.level.Glues[p.place()]
		return glue(sign*g.Size, sign*g.Plus, g.PlusOrder, sign*g.Minus, g.MinusOrder)
	}
	out := impl.Glue{Size: sign * p.lengthOrShare(false).Plus}
	if p.spacedWord("plus") {
		sign := p.signs()
		g := p.lengthOrShare(true)
		out.Plus, out.PlusOrder = sign*g.Plus, g.PlusOrder
	}
	if p.spacedWord("minus") {
		sign := p.signs()
		g := p.lengthOrShare(true)
		out.Minus, out.MinusOrder = sign*g.Plus, g.PlusOrder
	}
	return out
}

func (p *plain) all() []impl.Token {
	var out []impl.Token
	for {
		p.settle()
		if !p.has() {
			return out
		}
		t := p.take()
		if p.called(t) == "noexpand" {
			t = p.take()
		}
		if len(out) == 20000 {
			p.fail(impl.ExpFull)
		}
		if p.code != 0 {
			return out
		}
		out = append(out, t)
	}
}

// groupEnd is the place of what closes the group that stands open ahead of the first token; -1 when nothing does.
func groupEnd(ts []impl.Token) int {
	for i := range ts {
		if ts[i].Cat == 2 && balancedIs(ts[:i]) {
			return i
		}
	}
	return -1
}

// matched is what the document says of MatchArgs, for what can be.
func matched(m impl.Macro, ts []impl.Token) impl.Match {
	var out impl.Match
	at := 0
	for i := 0; i < len(m.Pattern); i++ {
		if m.Pattern[i].Cat != 16 {
			if at == len(ts) {
				return impl.Match{Code: impl.ExpEnd}
			}
			if ts[at] != m.Pattern[i] {
				return impl.Match{Code: impl.ExpUse}
			}
			at++
			continue
		}
		end := i + 1
		for end < len(m.Pattern) && m.Pattern[end].Cat != 16 {
			end++
		}
		found, used, code := matchedList(m.Pattern[i+1:end], ts[at:])
		if code != 0 {
			return impl.Match{Code: code}
		}
		out.Args = append(out.Args, found)
		at += used
		i = end - 1
	}
	out.Used = int64(at)
	return out
}

func matchedList(delimiter, ts []impl.Token) ([]impl.Token, int, int64) {
	if len(delimiter) == 0 {
		return matchedBare(ts)
	}
	for at := 0; at < len(ts); at++ {
		ahead := ts[:at]
		if len(ts)-at >= len(delimiter) && slices.Equal(ts[at:at+len(delimiter)], delimiter) && balancedIs(ahead) {
			used := at + len(delimiter)
			if at > 0 && ahead[0].Cat == 1 && groupEnd(ahead[1:]) == at-2 {
				ahead = ahead[1 : at-1]
			}
			return ahead, used, 0
		}
		if ts[at].Cat == 2 && balancedIs(ahead) {
			return nil, 0, impl.ExpExtra
		}
	}
	return nil, 0, impl.ExpEnd
}

func matchedBare(ts []impl.Token) ([]impl.Token, int, int64) {
	at := 0
	for at < len(ts) && ts[at].Cat == 3 {
		at++
	}
	switch {
	case at == len(ts):
		return nil, 0, impl.ExpEnd
	case ts[at].Cat == 2:
		return nil, 0, impl.ExpExtra
	case ts[at].Cat == 1:
		size := groupEnd(ts[at+1:])
		if size < 0 {
			return nil, 0, impl.ExpEnd
		}
		return ts[at+1 : at+1+size], at + size + 2, 0
	}
	return ts[at : at+1], at + 1, 0
}

// bodyWith is what the document says of FillBody, for what can be.
func bodyWith(m impl.Macro, args [][]impl.Token) ([]impl.Token, bool) {
	var out []impl.Token
	for _, t := range m.Body {
		if t.Cat != 16 {
			out = append(out, t)
		} else if int(t.Char) <= len(args) {
			out = append(out, args[t.Char-1]...)
		}
	}
	if len(out) > 20000 {
		return nil, false
	}
	return out, true
}

func plainOf(e impl.Env, ts []impl.Token, budget int64) *plain {
	return &plain{level: e.Levels[len(e.Levels)-1], ts: ts, left: budget}
}

func (p *plain) read(n int64, g impl.Glue) impl.Read {
	if p.code != 0 {
		return impl.Read{Code: p.code, Left: p.left}
	}
	return impl.Read{N: n, Glue: g, Rest: p.ts, Left: p.left}
}

func plainNumber(e impl.Env, ts []impl.Token, budget int64) impl.Read {
	p := plainOf(e, ts, budget)
	return p.read(p.number(), impl.Glue{})
}

func plainLen(e impl.Env, ts []impl.Token, budget int64) impl.Read {
	p := plainOf(e, ts, budget)
	return p.read(p.length(), impl.Glue{})
}

func plainGlue(e impl.Env, ts []impl.Token, budget int64) impl.Read {
	p := plainOf(e, ts, budget)
	return p.read(0, p.glue())
}

func plainAll(e impl.Env, ts []impl.Token, budget int64) impl.Expanded {
	p := plainOf(e, ts, budget)
	out := p.all()
	return impl.Expanded{Toks: out, Code: p.code, Left: p.left}
}

// checkAll holds all that is made of a list against what is told plainly, and gives the codes.
func checkAll(t *testing.T, e impl.Env, ts []impl.Token, budget int64) (codes [4]int64) {
	t.Helper()
	reads := []struct {
		what      string
		got, want impl.Read
	}{
		{"ReadNumber", impl.ReadNumber(e, ts, budget), plainNumber(e, ts, budget)},
		{"ReadLen", impl.ReadLen(e, ts, budget), plainLen(e, ts, budget)},
		{"ReadGlue", impl.ReadGlue(e, ts, budget), plainGlue(e, ts, budget)},
	}
	for i, r := range reads {
		if !same(r.got, r.want) {
			t.Fatalf("%s of %q with %d:\n%+v, want\n%+v", r.what, impl.ShowTokens(ts), budget, r.got, r.want)
		}
		codes[i] = r.got.Code
	}
	got, want := impl.ExpandAll(e, ts, budget), plainAll(e, ts, budget)
	if !same(got, want) {
		t.Fatalf("ExpandAll of %q with %d:\n%+v, want\n%+v", impl.ShowTokens(ts), budget, got, want)
	}
	codes[3] = got.Code
	return codes
}

// snippets are what random texts are made of: all that counts in chapter 4, whole and in parts.
var snippets = []string{
	"\\expandafter", "\\expandafter", "\\noexpand", "\\csname", "\\endcsname", "\\csname a\\endcsname", "\\csname ba", "re\\endcsname", "\\string", "\\number", "\\number", "\\the", "\\the",
	"\\iftrue", "\\iffalse", "\\ifnum", "\\ifnum 1", "\\iflen", "\\iflen 2pt", "\\ifodd", "\\ifsame", "\\ifcase", "\\ifcase 1 ", "\\ifcase 2 ", "\\else", "\\else", "\\or", "\\or", "\\fi", "\\fi", "\\fi",
	"\\count", "\\len", "\\glue", "\\toks", "\\count 1", "\\len 2 ", "\\glue 3 ", "\\toks 4",
	"0", "1", "7", "31", "32", "2147483647", "99999999999", ".", "1.5", "`", "`a", "`\\a", "-", "+", "<", "=", ">", "<3 ", "=1 ", ">1pt ",
	"pt", "mm", "in", "pc", "sp", "p", "t", "1pt", "20000pt ", "plus", " plus", "minus", " minus ", "plu", "fil", "fill", "l", "2fil", "-3filll",
	" ", " ", "{", "}", "#", "~", "x", "a", "b", ".", "!", "{ab}", "{a}{b}", "\\relax",
	"\\bare", "\\none", "\\swap", "\\swap a.b", "\\pair", "\\pair{a}b", "\\till", "\\till a\\bare b!!", "\\lead", "\\lead::x", "\\two", "\\digits", "\\unit", "\\words", "\\again", "\\letter", "\\blank", "\\minusname", "\\opened", "\\a", "\\unknown",
}

// expandEnv has a macro of each sort, names that mean characters, and something in the registers.
func expandEnv() impl.Env {
	dot, bang, colon := char(5, '.'), char(5, '!'), char(5, ':')
	l := impl.NewEnv().Levels[0]
	add := func(n string, m impl.Mean) { l.Binds = append(l.Binds, bind(n, m)) }
	body := func(n, text string) { add(n, macro(0, nil, toks(text))) }
	body("bare", "xyz")
	body("none", "")
	body("two", "\\number 2 \\relax")
	body("digits", "12")
	body("unit", "pt")
	body("words", " plus 1pt")
	body("again", "\\again")
	body("a", "\\bare b")
	add("swap", macro(2, list(slot(1), dot, slot(2)), list(slot(2), char(5, '-'), slot(1))))
	add("pair", macro(2, slots(2), list(char(5, '('), slot(1), slot(2), slot(1), char(5, ')'))))
	add("till", macro(1, list(slot(1), bang, bang), list(char(5, '<'), slot(1), char(5, '>'))))
	add("lead", macro(1, list(colon, colon, slot(1)), list(slot(1), open(), slot(1), shut())))
	add("letter", means(letter('a')))
	add("blank", means(space()))
	add("minusname", means(char(5, '-')))
	add("opened", means(open()))
	add("num", prim(impl.PrimNumber))
	slices.SortFunc(l.Binds, func(a, b impl.Bind) int { return strings.Compare(a.Name, b.Name) })
	l.Counts[0], l.Counts[1], l.Counts[7], l.Counts[31] = impl.MaxCount, 7, -3, -impl.MaxCount
	l.Lens[0], l.Lens[2], l.Lens[7], l.Lens[31] = impl.MaxLen, 98304, -1, -impl.MaxLen
	l.Glues[0], l.Glues[3] = glue(impl.MaxLen, -impl.MaxLen, 3, impl.MaxLen, 1), glue(65536, 131072, 2, -196608, 0)
	l.Glues[31] = glue(-impl.MaxLen, 0, 2, 0, 0)
	l.Toks[0], l.Toks[4], l.Toks[31] = toks("\\bare"), toks("a{b\\noexpand\\bare}\\fi"), list(char(impl.CatParam, '#'), name(""))
	return impl.Env{Levels: append(impl.NewEnv().Levels, l)}
}

func toks(text string) []impl.Token {
	ts, bad := impl.Tokenize(impl.PlainCats(), text)
	if bad != -1 {
		panic(text)
	}
	return ts
}

// others are the bytes of a text, each of CatOther, but blanks.
func others(text string) []impl.Token {
	var out []impl.Token
	for i := range len(text) {
		if text[i] == ' ' {
			out = append(out, space())
		} else {
			out = append(out, char(impl.CatOther, text[i]))
		}
	}
	return out
}

func randomSnippets(r *rand.Rand, most int) []impl.Token {
	var text strings.Builder
	for range r.Intn(most + 1) {
		text.WriteString(snippets[r.Intn(len(snippets))])
	}
	return toks(text.String())
}

func TestExpansionAtRandom(t *testing.T) {
	t.Parallel()
	r := rand.New(rand.NewSource(11))
	e := expandEnv()
	var seen [4][impl.ExpArgs]int
	for range 25000 {
		budget := r.Int63n(40)
		for i, code := range checkAll(t, e, randomSnippets(r, 12), budget) {
			seen[i][code]++
		}
	}
	for i, counts := range seen {
		for _, code := range []int64{impl.ExpOk, impl.ExpEnd, impl.ExpUse, impl.ExpExtra, impl.ExpNumber, impl.ExpBudget, impl.ExpRange, impl.ExpName} {
			if counts[code] < 10 {
				t.Errorf("function %d gave the code %d only %d times", i, code, counts[code])
			}
		}
	}
}

func TestReadingAtRandom(t *testing.T) {
	t.Parallel()
	r := rand.New(rand.NewSource(12))
	e := expandEnv()
	parts := []string{"-", " ", "+", "1", "2.5", ".5", ".", "12", "pt", "pt", "mm", "in", "pc", "sp", "fil", "fill", "filll", "l", " plus", " plus ", "plus", " minus", "minus ", "pl", " m", "\\len 2 ", "\\glue 3", "\\count 1 ", "\\digits", "\\unit", "\\words", "\\none", "\\bare", "`a", "x", "30000", "\\iftrue", "\\fi"}
	read := 0
	for range 25000 {
		text := "1pt"
		if r.Intn(3) == 0 {
			text = ""
		}
		for range r.Intn(7) {
			text += parts[r.Intn(len(parts))]
		}
		codes := checkAll(t, e, toks(text), r.Int63n(12))
		if codes[2] == impl.ExpOk {
			read++
		}
	}
	if read < 2500 {
		t.Error("too few glues:", read)
	}
}

func randomMacro(r *rand.Rand) impl.Macro {
	n := r.Int63n(4)
	var pattern, body []impl.Token
	few := list(letter('a'), letter('b'), space(), name("a"))
	for i := range n {
		pattern = append(pattern, randomTokens(r, 2, few)...)
		pattern = append(pattern, slot(i+1))
	}
	pattern = append(pattern, randomTokens(r, 3, few)...)
	for range r.Intn(5) {
		body = append(body, letter('y'))
		if n > 0 {
			body = append(body, slot(1+r.Int63n(n)))
		}
	}
	return impl.Macro{Pattern: pattern, Slots: n, Body: body}
}

func TestMatchArgsAndFillBodyAtRandom(t *testing.T) {
	r := rand.New(rand.NewSource(13))
	var seen [impl.ExpArgs]int
	for range 200000 {
		m := randomMacro(r)
		ts := randomTokens(r, 10, list(letter('a'), letter('a'), letter('b'), space(), name("a"), open(), shut(), letter('x')))
		if r.Intn(2) == 0 {
			at := slices.IndexFunc(m.Pattern, func(t impl.Token) bool { return t.Cat == 16 })
			ts = append(slices.Clone(m.Pattern[:max(at, 0)]), ts...)
		}
		got, want := impl.MatchArgs(m, ts), matched(m, ts)
		if !same(got, want) {
			t.Fatalf("%q in %q:\n%+v, want\n%+v", impl.ShowTokens(m.Pattern), impl.ShowTokens(ts), got, want)
		}
		seen[got.Code]++
		if got.Code != impl.ExpOk {
			continue
		}
		body, ok := impl.FillBody(m, got.Args)
		wantBody, wantOk := bodyWith(m, want.Args)
		if ok != wantOk || !same(body, wantBody) {
			t.Fatalf("%q with %+v: %q", impl.ShowTokens(m.Body), got.Args, impl.ShowTokens(body))
		}
	}
	for _, code := range []int64{impl.ExpOk, impl.ExpEnd, impl.ExpUse, impl.ExpExtra} {
		if seen[code] < 1000 {
			t.Errorf("the code %d came only %d times", code, seen[code])
		}
	}
}
