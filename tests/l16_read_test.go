package tests

import (
	"bytes"
	"math/big"
	"slices"
	"testing"

	"loop.example/g00014/impl"
)

func richBytes() []byte { return bytesOfLevel(richLevel()) }

func TestPartsAreThoseThatAreRead(t *testing.T) {
	e := impl.Env{Levels: []impl.Level{richLevel()}}
	whole := checkDump(t, e)
	if got, ok := checkLoad(t, whole); !ok || !same(got, e) {
		t.Error("the rich level is not loaded")
	}
	parts := levelParts(richLevel())
	for at, p := range parts {
		again := p.bytes()
		if p.plain == nil {
			again = groupsOf(new(big.Int).SetUint64(p.number), 0)
		}
		if b := withPart(parts, at, again...); !bytes.Equal(b, whole) {
			t.Fatalf("part %d, %s: other bytes", at, p.what)
		}
	}
}

func TestNoFormatBytes(t *testing.T) {
	marked := func(b []byte) []byte { return sealPlainly(append([]byte(formatMark), b...)) }
	checkNoFormat(t, "nil", nil)
	checkNoFormat(t, "no bytes", []byte{})
	checkNoFormat(t, "a sum of no bytes", sealPlainly(nil))
	checkNoFormat(t, "a mark alone", []byte(formatMark))
	checkNoFormat(t, "a mark and its sum", marked(nil))
	for n := range 600 {
		checkNoFormat(t, "zeros", make([]byte, n))
		checkNoFormat(t, "zeros and their sum", sealPlainly(make([]byte, n)))
		checkNoFormat(t, "a mark and all bits", marked(bytes.Repeat([]byte{255}, n)))
		checkNoFormat(t, "a mark and empty groups", marked(bytes.Repeat([]byte{128}, n)))
		// All zeros are an environment without anything, if they are as many as it needs.
		if _, ok := checkLoad(t, marked(make([]byte, n))); ok != (n == sumAt-4) {
			t.Errorf("a mark and %d zeros: %v", n, ok)
		}
	}
}

// knownFormats are some bytes of environments, with much in them and with little.
func knownFormats(t *testing.T) [][]byte {
	t.Helper()
	return [][]byte{richBytes(), checkDump(t, impl.NewEnv()), checkDump(t, withBinds())}
}

func TestFormatsCutShort(t *testing.T) {
	t.Parallel()
	for _, whole := range knownFormats(t) {
		formatKind().checkCutShort(t, whole)
		// Without a byte in their midst they may be those of something else.
		for n := range len(whole) - 2 {
			checkLoad(t, sealPlainly(slices.Delete(slices.Clone(whole[:len(whole)-2]), n, n+1)))
		}
	}
}

func TestBytesBehindFormats(t *testing.T) {
	t.Parallel()
	for _, whole := range knownFormats(t) {
		formatKind().checkBytesBehind(t, whole)
	}
}

func TestAnotherBeginningOfAFormat(t *testing.T) {
	formatKind().checkOtherBeginnings(t, richBytes(), "QPD1", "qfm1", "1MFQ")
	if descKind().reads(richBytes()) {
		t.Error("a format is a description")
	}
	checkNoFormat(t, "a description", impl.EncodeDesc(readable()))
}

func TestFormatNumbersInMoreGroupsThanTheyNeed(t *testing.T) {
	t.Parallel()
	parts := levelParts(richLevel())
	for at, p := range parts {
		if p.plain != nil {
			continue
		}
		for _, empty := range []int{1, 2, 3, 4, 5, 7, 8, 9, 10, 20} {
			checkNoFormat(t, p.what, withPart(parts, at, groupsOf(new(big.Int).SetUint64(p.number), empty)...))
		}
	}
}

// A number that is too great is none, not one of which some bits are lost.
func TestFormatNumbersThatDoNotFit(t *testing.T) {
	t.Parallel()
	parts := levelParts(richLevel())
	taken := 0
	for at, p := range parts {
		if p.plain != nil {
			continue
		}
		for _, bit := range []uint{1, 3, 6, 7, 8, 13, 14, 30, 31, 32, 33, 35, 42, 49, 56, 62, 63, 64, 65, 70, 77, 128} {
			great := new(big.Int).Lsh(big.NewInt(1), bit)
			for _, other := range []*big.Int{new(big.Int).Add(great, new(big.Int).SetUint64(p.number)), new(big.Int).Sub(great, big.NewInt(1))} {
				_, ok := checkLoad(t, withPart(parts, at, groupsOf(other, 0)...))
				if ok && bit > 32 {
					t.Errorf("%s as %v: taken", p.what, other)
				}
				if ok {
					taken++
				}
			}
		}
	}
	if taken < 1000 {
		t.Error("too few:", taken)
	}
}

func TestRegistersThatPassTheirEnds(t *testing.T) {
	parts := levelParts(richLevel())
	for what, most := range map[string]uint64{"count": impl.MaxCount, "length": impl.MaxLen, "size": impl.MaxLen, "plus": impl.MaxLen, "minus": impl.MaxLen} {
		for _, at := range placesOf(parts, what) {
			for _, can := range []uint64{0, 1, 2*most - 1, 2 * most} {
				if _, ok := checkLoad(t, withPart(parts, at, inGroups(can)...)); !ok {
					t.Errorf("%s as %d is refused", what, can)
				}
			}
			for _, cannot := range []uint64{2*most + 1, 2*most + 2, 4 * most, 1 << 62, 1<<63 - 1, 1 << 63, 1<<64 - 1} {
				checkNoFormat(t, what, withPart(parts, at, inGroups(cannot)...))
			}
		}
	}
}

// Whatever is told, what comes next is read as if it were so.
func TestMoreOrFewerNamesAndTokensAreToldThanThereAre(t *testing.T) {
	parts := levelParts(richLevel())
	for _, what := range []string{"names", "tokens", "bytes"} {
		for _, at := range placesOf(parts, what) {
			for _, other := range []uint64{0, 1, 2, 3, 5, 40, 41, 100, 101, 127, 128, 500, 501, 2000, 2001, 1 << 20, 1 << 32, 1 << 40, 1 << 62, 1<<64 - 1} {
				if other != parts[at].number {
					checkNoFormat(t, what, withPart(parts, at, inGroups(other)...))
				}
			}
		}
	}
	for by := range 40 {
		more := slices.Clone(parts)
		at := placesOf(more, "names")[0]
		more[at].number += uint64(by + 1)
		checkNoFormat(t, "more names", bytesOfParts(more))
	}
}

func TestNamesThatAreNotInTheirOrder(t *testing.T) {
	names := []string{"", "\x00", "a", "a\x00", "aa", "ab", "b", "ba", "\x7f", "\x80", "\xff", "\xff\x00", "\xff\xff"}
	load := func(of ...string) bool {
		l := withBinds().Levels[0]
		for _, n := range of {
			l.Binds = append(l.Binds, bind(n, prim(1)))
		}
		_, ok := checkLoad(t, bytesOfLevel(l))
		return ok
	}
	for i, a := range names {
		for j, b := range names {
			if load(a, b) != (i < j) {
				t.Errorf("%q and %q: %v", a, b, i >= j)
			}
			for k, c := range names {
				if load(a, b, c) != (i < j && j < k) {
					t.Errorf("%q, %q and %q", a, b, c)
				}
			}
		}
	}
	if !load(names...) || load(append(slices.Clone(names), "\xff\xff")...) || load(append([]string{""}, names...)...) {
		t.Error("all names")
	}
}

func TestEachByteOfACategory(t *testing.T) {
	t.Parallel()
	parts := levelParts(withBinds().Levels[0])
	for _, at := range placesOf(parts, "category") {
		for c := range 256 {
			if at%85 > 1 && c > 17 && c != 32 && c != 255 {
				continue
			}
			if e, ok := checkLoad(t, withPart(parts, at, byte(c))); ok != (c < 16) || ok && e.Levels[0].Cats[at] != int64(c) {
				t.Errorf("%d for the byte %d: %v", c, at, ok)
			}
		}
	}
}

func TestEachByteOfAKind(t *testing.T) {
	parts := levelParts(richLevel())
	for _, at := range placesOf(parts, "kind") {
		for c := range 256 {
			// What follows is that of another kind, and may happen to be read as of this one.
			if _, ok := checkLoad(t, withPart(parts, at, byte(c))); ok && !between(1, int64(c), 3) || !ok && byte(c) == parts[at].plain[0] {
				t.Errorf("%d for the kind %d: %v", c, parts[at].plain[0], ok)
			}
		}
	}
}

func TestEachByteOfOrders(t *testing.T) {
	parts := levelParts(withBinds().Levels[0])
	for i, at := range placesOf(parts, "orders") {
		for c := range int64(256) {
			e, ok := checkLoad(t, withPart(parts, at, byte(c)))
			if ok != (c%16 < 4 && c/16 < 4) || ok && e.Levels[0].Glues[i] != glue(0, 0, c%16, 0, c/16) {
				t.Errorf("%d for the orders of glue %d: %v", c, i, ok)
			}
		}
	}
}

// formatOfRows has two tokens in a pattern, in a body and in a register, and one as a mean.
func formatOfRows(inPattern, inBody, inToks, asMean impl.Token) impl.Level {
	l := withBinds(bind("a", macro(1, list(slot(1), inPattern), list(letter('x'), inBody))), bind("b", means(asMean))).Levels[0]
	l.Toks[30] = list(letter('x'), inToks)
	return l
}

func TestEachByteOfAToken(t *testing.T) {
	t.Parallel()
	dot := char(impl.CatOther, '.')
	if _, ok := checkLoad(t, bytesOfLevel(formatOfRows(dot, dot, dot, dot))); !ok {
		t.Fatal("not loaded")
	}
	chars := []int64{0, 1, 2, 9, 10, '#', '{', 255}
	for cat := range int64(256) {
		for _, c := range chars {
			tok := impl.Token{Cat: cat, Char: c}
			if cat == 0 {
				tok = name(repeat("x", min(int(c), 40)))
			}
			word := tokenIs(tok) && cat != 1 && cat != 2 && cat != 16
			for what, place := range map[string]struct {
				level impl.Level
				can   bool
			}{
				"in a pattern":  {formatOfRows(tok, dot, dot, dot), word && cat != 7},
				"in a body":     {formatOfRows(dot, tok, dot, dot), word || cat == 16 && c == 1},
				"in a register": {formatOfRows(dot, dot, tok, dot), word},
				"as a mean":     {formatOfRows(dot, dot, dot, tok), tokenIs(tok) && cat != 0 && cat != 16},
			} {
				if _, ok := checkLoad(t, bytesOfLevel(place.level)); ok != place.can {
					t.Errorf("%v %s: %v", tok, what, ok)
				}
			}
		}
	}
}

func TestEachPrimitiveAndNumberOfSlots(t *testing.T) {
	for n := range int64(300) {
		_, ok := checkLoad(t, bytesOfLevel(withBinds(bind("a", prim(n))).Levels[0]))
		if ok != between(1, n, 58) {
			t.Errorf("the primitive %d: %v", n, ok)
		}
		for have := range int64(11) {
			_, ok := checkLoad(t, bytesOfLevel(withBinds(bind("a", macro(n, slots(have), nil))).Levels[0]))
			if ok != (n == have && n < 10) {
				t.Errorf("%d slots, %d in the pattern: %v", n, have, ok)
			}
		}
	}
}

// What can't be an environment is none, if one writes it down nevertheless.
func TestBadLevelsWrittenDown(t *testing.T) {
	t.Parallel()
	refused := 0
	for _, change := range badLevels() {
		if _, ok := checkLoad(t, bytesOfLevel(oneLevel(change).Levels[0])); !ok {
			refused++
		}
	}
	for _, change := range goodLevels() {
		if _, ok := checkLoad(t, bytesOfLevel(oneLevel(change).Levels[0])); !ok {
			t.Error("a good level is refused")
		}
	}
	if all := len(badLevels()); refused < all*2/3 {
		t.Error("too few:", refused, all)
	}
}

func TestSumsThatAreNotTheirsOfFormats(t *testing.T) {
	t.Parallel()
	for _, whole := range [][]byte{richBytes(), checkDump(t, withBinds())} {
		formatKind().checkOtherSums(t, whole)
	}
}

func TestFormatSumsBeyondTheModulus(t *testing.T) {
	t.Parallel()
	e := withBinds()
	seen := 0
	for n := range int64(65536) {
		e.Levels[0].Cats[n%256], e.Levels[0].Counts[n%32] = n%16, n
		if formatKind().checkSumBeyond(t, impl.Dump(e)) {
			seen++
		}
	}
	if seen == 0 {
		t.Error("no sum below 15")
	}
}
