package tests

import (
	"bytes"
	"encoding/binary"
	"fmt"
	"maps"
	"math/rand"
	"slices"
	"testing"

	"loop.example/g00014/impl"
)

// formatMark is how the bytes of an environment begin.
const formatMark = "QFM1"

// formatPart is a part of the bytes of an environment: a number, or one byte or more as they are.
type formatPart struct {
	what   string
	number uint64
	plain  []byte // nil for a number
}

func numberPart(what string, n uint64) formatPart { return formatPart{what: what, number: n} }

func signedPart(what string, x int64) formatPart {
	return numberPart(what, uint64(max(2*x, -2*x-1)))
}

func plainPart(what string, b ...byte) formatPart { return formatPart{what: what, plain: b} }

func (p formatPart) bytes() []byte {
	if p.plain != nil {
		return p.plain
	}
	return inGroups(p.number)
}

func nameParts(name string) []formatPart {
	return []formatPart{numberPart("bytes", uint64(len(name))), plainPart("name", append([]byte{}, name...)...)}
}

func tokenParts(t impl.Token) []formatPart {
	cat := plainPart("cat", byte(t.Cat))
	if t.Cat == 0 {
		return append([]formatPart{cat}, nameParts(t.Name)...)
	}
	return []formatPart{cat, plainPart("char", byte(t.Char))}
}

func rowParts(ts []impl.Token) []formatPart {
	out := []formatPart{numberPart("tokens", uint64(len(ts)))}
	for _, t := range ts {
		out = append(out, tokenParts(t)...)
	}
	return out
}

func bindParts(b impl.Bind) []formatPart {
	out := append(nameParts(b.Name), plainPart("kind", byte(b.Mean.Kind)))
	switch b.Mean.Kind {
	case 1:
		return append(out, numberPart("primitive", uint64(b.Mean.Num)))
	case 2:
		return append(out, tokenParts(b.Mean.Token)...)
	case 3:
		out = append(out, numberPart("slots", uint64(b.Mean.Macro.Slots)))
		return slices.Concat(out, rowParts(b.Mean.Macro.Pattern), rowParts(b.Mean.Macro.Body))
	}
	return out
}

// levelParts are all that stands between mark and sum.
func levelParts(l impl.Level) []formatPart {
	var out []formatPart
	for _, c := range l.Cats {
		out = append(out, plainPart("category", byte(c)))
	}
	out = append(out, numberPart("names", uint64(len(l.Binds))))
	for _, b := range l.Binds {
		out = append(out, bindParts(b)...)
	}
	for _, n := range l.Counts {
		out = append(out, signedPart("count", n))
	}
	for _, n := range l.Lens {
		out = append(out, signedPart("length", n))
	}
	for _, g := range l.Glues {
		out = append(out, signedPart("size", g.Size), signedPart("plus", g.Plus), signedPart("minus", g.Minus), plainPart("orders", byte(g.PlusOrder+16*g.MinusOrder)))
	}
	for _, ts := range l.Toks {
		out = append(out, rowParts(ts)...)
	}
	return out
}

// bytesOfParts stand between the mark and their sum.
func bytesOfParts(parts []formatPart) []byte {
	out := []byte(formatMark)
	for _, p := range parts {
		out = append(out, p.bytes()...)
	}
	return sealPlainly(out)
}

// bytesOfLevel are those that a level would have, whether it can be or not.
func bytesOfLevel(l impl.Level) []byte { return bytesOfParts(levelParts(l)) }

// dumpPlainly is Dump.
func dumpPlainly(e impl.Env) []byte {
	if len(e.Levels) != 1 || !envIs(e) {
		return nil
	}
	return bytesOfLevel(e.Levels[0])
}

// looseReader reads an environment, however it is written, and passes over nothing but what ends too early.
type looseReader struct {
	rest []byte
	ok   bool
}

func (r *looseReader) number() uint64 {
	n, length := binary.Uvarint(r.rest)
	r.ok = r.ok && length > 0
	r.rest = r.rest[max(length, 0):]
	return n
}

func (r *looseReader) signed() int64 {
	n := r.number()
	return int64(n>>1) ^ -int64(n&1)
}

func (r *looseReader) plain(n uint64) []byte {
	if n > uint64(len(r.rest)) {
		r.ok = false
		return nil
	}
	out := r.rest[:n]
	r.rest = r.rest[n:]
	return out
}

func (r *looseReader) one() int64 {
	if b := r.plain(1); len(b) == 1 {
		return int64(b[0])
	}
	return 0
}

func (r *looseReader) name() string { return string(r.plain(r.number())) }

func (r *looseReader) token() impl.Token {
	if cat := r.one(); cat != 0 {
		return impl.Token{Cat: cat, Char: r.one()}
	}
	return impl.Token{Name: r.name()}
}

func (r *looseReader) row() []impl.Token {
	var out []impl.Token
	for count := r.number(); r.ok && uint64(len(out)) < count; {
		out = append(out, r.token())
	}
	return out
}

func (r *looseReader) bind() impl.Bind {
	b := bind(r.name(), impl.Mean{Kind: r.one()})
	switch b.Mean.Kind {
	case 1:
		b.Mean.Num = int64(r.number())
	case 2:
		b.Mean.Token = r.token()
	case 3:
		b.Mean.Macro.Slots = int64(r.number())
		b.Mean.Macro.Pattern = r.row()
		b.Mean.Macro.Body = r.row()
	}
	return b
}

func (r *looseReader) level() impl.Level {
	var l impl.Level
	for range 256 {
		l.Cats = append(l.Cats, r.one())
	}
	for count := r.number(); r.ok && uint64(len(l.Binds)) < count; {
		l.Binds = append(l.Binds, r.bind())
	}
	for range 32 {
		l.Counts = append(l.Counts, r.signed())
	}
	for range 32 {
		l.Lens = append(l.Lens, r.signed())
	}
	for range 32 {
		g := impl.Glue{Size: r.signed(), Plus: r.signed(), Minus: r.signed()}
		orders := r.one()
		g.PlusOrder, g.MinusOrder = orders&15, orders>>4
		l.Glues = append(l.Glues, g)
	}
	for range 32 {
		l.Toks = append(l.Toks, r.row())
	}
	return l
}

// loadPlainly is Load: bytes are an environment if they are its bytes.
func loadPlainly(b []byte) (impl.Env, bool) {
	body, found := bytes.CutPrefix(b, []byte(formatMark))
	if !found || len(b) > 4000000 {
		return impl.Env{}, false
	}
	r := looseReader{body, true}
	e := impl.Env{Levels: []impl.Level{r.level()}}
	if !r.ok || !bytes.Equal(dumpPlainly(e), b) {
		return impl.Env{}, false
	}
	return e, true
}

// checkDump holds Dump and DumpSize against the plain telling, loads the bytes again, and gives them.
func checkDump(t *testing.T, e impl.Env) []byte {
	t.Helper()
	got, want := impl.Dump(e), dumpPlainly(e)
	if !bytes.Equal(got, want) {
		t.Fatalf("Dump: %d bytes, %v, not %d, %v", len(got), shortBytes(got), len(want), shortBytes(want))
	}
	if size := impl.DumpSize(e); size != int64(len(want)) {
		t.Fatalf("DumpSize: %d, not %d", size, len(want))
	}
	if len(got) > 0 && len(got) <= 4000000 {
		if again, ok := impl.Load(got); !ok || !same(again, e) {
			t.Fatalf("%d bytes are not loaded as what they are of: %v", len(got), ok)
		}
	}
	return got
}

// checkLoad holds Load against the plain telling, dumps again what is loaded, and gives it.
func checkLoad(t *testing.T, b []byte) (impl.Env, bool) {
	t.Helper()
	got, ok := impl.Load(b)
	if want, wantOk := loadPlainly(b); ok != wantOk || !same(got, want) {
		t.Fatalf("Load of %d bytes, %v: %v, not %v", len(b), shortBytes(b), ok, wantOk)
	}
	if ok && !bytes.Equal(impl.Dump(got), b) {
		t.Fatalf("%d bytes, %v, are loaded as what has others", len(b), shortBytes(b))
	}
	return got, ok
}

// checkNoFormat: these bytes are none.
func checkNoFormat(t *testing.T, what string, b []byte) {
	t.Helper()
	if e, ok := checkLoad(t, b); ok || len(e.Levels) > 0 {
		t.Errorf("%s: %d bytes are loaded", what, len(b))
	}
}

// oneLevel is a new environment as change makes it.
func oneLevel(change func(*impl.Level)) impl.Env {
	e := impl.NewEnv()
	change(&e.Levels[0])
	return e
}

// withBinds is an environment of which the names are these alone.
func withBinds(binds ...impl.Bind) impl.Env {
	return oneLevel(func(l *impl.Level) { l.Binds = binds })
}

// randomBalanced are tokens in which groups open and close.
func randomBalanced(r *rand.Rand, most int, of []impl.Token) []impl.Token {
	out := randomTokens(r, most, of)
	for range r.Intn(3) {
		from := r.Intn(len(out) + 1)
		out = slices.Insert(out, from, open())
		out = slices.Insert(out, from+1+r.Intn(len(out)-from), shut())
	}
	return out
}

// randomName is of any bytes, and short as a rule.
func randomName(r *rand.Rand) string {
	size := []int{0, 1, 1, 2, 3, 5, r.Intn(41), 40}[r.Intn(8)]
	b := make([]byte, size)
	r.Read(b)
	return string(b)
}

// wordTokens are tokens that may stand everywhere.
func wordTokens(r *rand.Rand) []impl.Token {
	return list(letter('a'), letter(byte(r.Intn(256))), char(impl.CatOther, byte(r.Intn(256))), char(impl.CatActive, '~'), char(impl.CatMath, '$'), space(), name("par"), name(randomName(r)), name(""))
}

func randomMean(r *rand.Rand) impl.Mean {
	words := wordTokens(r)
	switch r.Intn(4) {
	case 0:
		return prim(1 + r.Int63n(58))
	case 1:
		return means(append(words[:6], open(), shut(), char(impl.CatParam, '#'))[r.Intn(9)])
	}
	n := r.Int63n(4) * r.Int63n(4)
	var pattern []impl.Token
	for _, s := range slots(n) {
		pattern = append(append(pattern, randomTokens(r, 2, words)...), s)
	}
	pattern = append(pattern, randomTokens(r, 2, words)...)
	return macro(n, pattern, randomBalanced(r, 8, append(append(words, char(impl.CatParam, '#')), slots(n)...)))
}

// randomRegister is a number that a register just can hold, or one that is near to 0.
func randomRegister(r *rand.Rand, most int64) int64 {
	n := []int64{0, 0, 0, 1, 63, 64, 65, 8191, 8192, most - 1, most, r.Int63n(most)}[r.Intn(12)]
	return n - 2*n*r.Int63n(2)
}

// randomFormat is an environment of one level with all that can be in one.
func randomFormat(r *rand.Rand) impl.Env {
	l := impl.NewEnv().Levels[0]
	if r.Intn(2) == 0 {
		l.Cats = randomCats(r)
	}
	binds := map[string]impl.Mean{}
	for _, b := range l.Binds[:r.Intn(59)*r.Intn(2)] {
		binds[b.Name] = b.Mean
	}
	for range r.Intn(8) {
		binds[randomName(r)] = randomMean(r)
	}
	l.Binds = nil
	for _, n := range slices.Sorted(maps.Keys(binds)) {
		l.Binds = append(l.Binds, bind(n, binds[n]))
	}
	for i := range 32 {
		l.Counts[i], l.Lens[i] = randomRegister(r, impl.MaxCount), randomRegister(r, impl.MaxLen)
		l.Glues[i] = glue(randomRegister(r, impl.MaxLen), randomRegister(r, impl.MaxLen), r.Int63n(4), randomRegister(r, impl.MaxLen), r.Int63n(4))
		if r.Intn(4) == 0 {
			l.Toks[i] = randomBalanced(r, 6, append(wordTokens(r), char(impl.CatParam, '#')))
		}
	}
	return impl.Env{Levels: []impl.Level{l}}
}

// richLevel has a bit of everything, so that each part of the bytes stands in them at least once.
func richLevel() impl.Level {
	l := impl.NewEnv().Levels[0]
	dot := char(impl.CatOther, '.')
	l.Cats[0], l.Cats['a'], l.Cats[255] = 15, 14, 7
	l.Binds = []impl.Bind{
		bind("", prim(1)), bind("\x00{", means(open())), bind("a", macro(0, nil, nil)),
		bind("ab", macro(2, list(slot(1), dot, slot(2), name("end")), list(slot(2), open(), slot(1), shut(), name("x"), name("")))),
		bind("b", prim(58)), bind("c", macro(0, list(dot), list(dot))), bind(repeat("\xff", 40), means(char(impl.CatOther, 255))),
	}
	copy(l.Counts, []int64{1, -1, 63, 64, -64, -65})
	copy(l.Lens, []int64{-1, 1, 8191, 8192, -8192, -8193})
	l.Counts[30], l.Counts[31], l.Lens[30], l.Lens[31] = impl.MaxCount, -impl.MaxCount, impl.MaxLen, -impl.MaxLen
	for i := range int64(16) {
		l.Glues[i] = glue(i, -i, i%4, 64*i, i/4)
	}
	l.Glues[31] = glue(impl.MaxLen, -impl.MaxLen, 3, impl.MaxLen, 3)
	l.Toks[0], l.Toks[9], l.Toks[31] = list(dot), list(open(), name("in"), char(impl.CatParam, '#'), shut()), many(130, letter('q'))
	return l
}

// placesOf are where the parts of one kind stand among others.
func placesOf(parts []formatPart, what string) []int {
	var out []int
	for i, p := range parts {
		if p.what == what {
			out = append(out, i)
		}
	}
	if len(out) == 0 {
		panic(fmt.Sprint("no part is ", what))
	}
	return out
}

// withPart are the bytes of parts, of which one is written in another way.
func withPart(parts []formatPart, at int, other ...byte) []byte {
	out := slices.Clone(parts)
	out[at] = plainPart("other", append([]byte{}, other...)...)
	return bytesOfParts(out)
}
