package tests

import (
	"bytes"
	"math/big"
	"slices"
	"testing"

	"loop.example/g00014/impl"
)

// readable is a description with all that a reader meets: pages without a Spot, rules, fonts, numbers of one group and of several.
func readable() desc {
	return desc{
		{glyphSpot(10, 20, 0, 'a'), glyphSpot(-1000, 200000, 3, 200), ruleSpot(maxLen, -maxLen, 128, 16384), glyphSpot(-maxLen, maxLen, 3, 'b')},
		{},
		{ruleSpot(0, 0, 0, 0), {X: 1, Y: 1, Font: 15, Char: 255, Width: maxLen, Height: maxLen}, glyphSpot(1, 1, 0, 0)},
	}
}

// groupsOf is a number of any size in groups of seven bits, with empty groups behind them.
func groupsOf(n *big.Int, empty int) []byte {
	var out []byte
	for rest := new(big.Int).Set(n); rest.Sign() > 0; rest.Rsh(rest, 7) {
		out = append(out, byte(new(big.Int).And(rest, big.NewInt(127)).Int64())+128)
	}
	if len(out) == 0 {
		out = []byte{128}
	}
	out = append(out, bytes.Repeat([]byte{128}, empty)...)
	out[len(out)-1] -= 128
	return out
}

// withNumber are the bytes of the numbers, of which one is written in another way.
func withNumber(ns []uint64, at int, other []byte) []byte {
	return marked(inGroups(ns[:at]...), other, inGroups(ns[at+1:]...))
}

func TestGroupsAreThoseThatAreRead(t *testing.T) {
	ns := numbersOfDesc(readable())
	for at, n := range ns {
		if b := withNumber(ns, at, groupsOf(new(big.Int).SetUint64(n), 0)); !bytes.Equal(b, checkDesc(t, readable())) {
			t.Fatalf("number %d, %d: %v", at, n, b)
		}
	}
}

func TestNoBytes(t *testing.T) {
	checkNoDesc(t, "nil", nil)
	checkNoDesc(t, "no bytes", []byte{})
	checkNoDesc(t, "a sum of no bytes", sealPlainly(nil))
	checkNoDesc(t, "a mark alone", []byte(markOf))
	checkNoDesc(t, "a mark and its sum", marked())
	for n := range 300 {
		checkNoDesc(t, "zeros", make([]byte, n))
		checkNoDesc(t, "zeros and their sum", sealPlainly(make([]byte, n)))
		checkNoDesc(t, "all bits", bytes.Repeat([]byte{255}, n))
		checkNoDesc(t, "a mark and all bits", marked(bytes.Repeat([]byte{255}, n)))
		checkNoDesc(t, "a mark and empty groups", marked(bytes.Repeat([]byte{128}, n)))
	}
}

func TestBytesCutShort(t *testing.T) {
	for _, d := range []desc{nil, {{}}, {{}, {}}, readable(), pagesOfSpots(3, 200)} {
		descKind().checkCutShort(t, checkDesc(t, d))
	}
}

func TestBytesBehind(t *testing.T) {
	for _, d := range []desc{nil, {{}}, readable(), pagesOfSpots(3, 200)} {
		descKind().checkBytesBehind(t, checkDesc(t, d))
	}
}

func TestAnotherBeginning(t *testing.T) {
	descKind().checkOtherBeginnings(t, checkDesc(t, readable()), "QFM1", "qpd1", "1DPQ")
}

func TestNumbersInMoreGroupsThanTheyNeed(t *testing.T) {
	for _, d := range []desc{nil, {{}}, readable()} {
		ns := numbersOfDesc(d)
		for at, n := range ns {
			for empty := 1; empty < 30; empty++ {
				checkNoDesc(t, "empty groups", withNumber(ns, at, groupsOf(new(big.Int).SetUint64(n), empty)))
			}
		}
	}
}

// A number that is too great is none, not one of which some bits are lost.
func TestNumbersThatDoNotFit(t *testing.T) {
	for _, d := range []desc{nil, {{}}, readable()} {
		ns := numbersOfDesc(d)
		for at, n := range ns {
			for bit := range uint(150) {
				great := new(big.Int).Lsh(big.NewInt(1), bit)
				for _, other := range []*big.Int{new(big.Int).Add(great, new(big.Int).SetUint64(n)), great, new(big.Int).Sub(great, big.NewInt(1))} {
					b := withNumber(ns, at, groupsOf(other, 0))
					if _, ok := checkBytes(t, b); ok && (bit > 33 || other.Cmp(big.NewInt(4*maxLen)) > 0) {
						t.Errorf("number %d as %v: taken", at, other)
					}
				}
			}
		}
	}
}

func TestMoreOrFewerAreToldThanThereAre(t *testing.T) {
	d := readable()
	ns := numbersOfDesc(d)
	told := []int{0} // where counts stand
	for at, page := 1, 0; page < len(d); page++ {
		told = append(told, at)
		at += 1 + 5*len(d[page])
	}
	for _, at := range told {
		for _, by := range []int{-4, -3, -2, -1, 1, 2, 100, 999, 1000, 20000, 1 << 20, 1 << 40, 1 << 62} {
			other := slices.Clone(ns)
			if other[at] += uint64(by); by > 0 || int(ns[at])+by >= 0 {
				checkNoDesc(t, "another count", marked(inGroups(other...)))
			}
		}
	}
	// Rules that are all zeros look like pages without a Spot.
	for pages := range uint64(6) {
		for count := range uint64(6) {
			for zeros := range 30 {
				_, ok := checkBytes(t, marked(inGroups(pages, count), make([]byte, zeros)))
				if want := pages > 0 && uint64(zeros) == 5*count+pages-1; ok != want {
					t.Errorf("%d pages, %d Spots on the first, %d zeros: %v", pages, count, zeros, ok)
				}
			}
		}
	}
}

// As many pages and Spots as there can be are read, one more is not, though all of them are there.
func TestTheMostThatIsRead(t *testing.T) {
	for _, c := range []struct {
		d   desc
		can bool
	}{
		{make(desc, 1000), true},
		{make(desc, 1001), false},
		{append(make(desc, 999), pagesOfSpots(20000)...), true},
		{append(make(desc, 1000), pagesOfSpots(20000)...), false},
		{append(make(desc, 999), pagesOfSpots(20001)...), false},
		{pagesOfSpots(20000, 0), true},
		{pagesOfSpots(20000, 1), false},
		{pagesOfSpots(20001), false},
		{pagesOfSpots(12000, 8000), true},
		{pagesOfSpots(12000, 8001), false},
		{pagesOfSpots(1, 20000), false},
	} {
		if got, ok := checkBytes(t, marked(inGroups(numbersOfDesc(c.d)...))); ok != c.can || ok && !same(got, c.d) {
			t.Errorf("%d pages, %d Spots: %v", len(c.d), len(slices.Concat(c.d...)), ok)
		}
	}
}

// spotBytes is a page of Spots that are told by five numbers each.
func spotBytes(ns ...uint64) []byte {
	return marked(inGroups(1, uint64(len(ns)/5)), inGroups(ns...))
}

func TestSpotsThatCannotBeRead(t *testing.T) {
	most := uint64(maxLen)
	for _, c := range []struct {
		what     string
		can, not []uint64
	}{
		{"X to the right", []uint64{2 * most, 0, 1, 0, 0}, []uint64{2*most + 2, 0, 1, 0, 0}},
		{"X to the left", []uint64{2*most - 1, 0, 1, 0, 0}, []uint64{2*most + 1, 0, 1, 0, 0}},
		{"Y below", []uint64{0, 2 * most, 1, 0, 0}, []uint64{0, 2*most + 2, 1, 0, 0}},
		{"Y above", []uint64{0, 2*most - 1, 1, 0, 0}, []uint64{0, 2*most + 1, 1, 0, 0}},
		{"X of a rule", []uint64{2 * most, 0, 0, 0, 0}, []uint64{2*most + 2, 0, 0, 0, 0}},
		{"X of a second Spot", []uint64{2*most - 4, 0, 1, 0, 0, 4, 0, 1, 0, 0}, []uint64{2*most - 4, 0, 1, 0, 0, 6, 0, 1, 0, 0}},
		{"Y of a second Spot", []uint64{0, 2*most - 5, 1, 0, 0, 0, 3, 1, 0, 0}, []uint64{0, 2*most - 5, 1, 0, 0, 0, 5, 1, 0, 0}},
		{"the longest way", []uint64{2*most - 1, 0, 1, 0, 0, 4 * most, 0, 1, 0, 0}, []uint64{2*most - 1, 0, 1, 0, 0, 4*most + 2, 0, 1, 0, 0}},
		{"the longest way back", []uint64{0, 2 * most, 1, 0, 0, 0, 4*most - 1, 1, 0, 0}, []uint64{0, 2 * most, 1, 0, 0, 0, 4*most + 1, 1, 0, 0}},
		{"a font", []uint64{0, 0, 257 + 255 + 256*15, 0, 0}, []uint64{0, 0, 257 + 255 + 256*15 + 1, 0, 0}},
		{"a font far out", []uint64{0, 0, 257 + 256*15, 0, 0}, []uint64{0, 0, 257 + 256*1600, 0, 0}},
		{"Width", []uint64{0, 0, 1, most, 0}, []uint64{0, 0, 1, most + 1, 0}},
		{"Height", []uint64{0, 0, 1, 0, most}, []uint64{0, 0, 1, 0, most + 1}},
		{"Width of a rule", []uint64{0, 0, 0, most, 0}, []uint64{0, 0, 0, most + 1, 0}},
		{"Height of a rule", []uint64{0, 0, 0, 0, most}, []uint64{0, 0, 0, 0, most + 1}},
	} {
		if _, ok := checkBytes(t, spotBytes(c.can...)); !ok {
			t.Errorf("%s: refused", c.what)
		}
		checkNoDesc(t, c.what, spotBytes(c.not...))
		checkNoDesc(t, c.what+", behind another", spotBytes(append([]uint64{0, 0, 0, 0, 0}, c.not...)...))
		checkNoDesc(t, c.what+", ahead of another", spotBytes(append(slices.Clone(c.not), 1, 1, 0, 0, 0)...))
	}
}

func TestFontsToldAnew(t *testing.T) {
	in := func(font int64) uint64 { return uint64(257 + 'a' + 256*font) }
	at := func(codes ...uint64) []byte {
		var ns []uint64
		for _, code := range codes {
			ns = append(ns, 2, 1, code, 5, 7)
		}
		return spotBytes(ns...)
	}
	for what, codes := range map[string][]uint64{
		"font 0 at first":                   {in(0)},
		"font 0 behind itself":              {'a', in(0)},
		"font 0 behind a rule":              {0, in(0)},
		"font 0, come back to":              {in(3), in(0), in(0)},
		"font 3 behind itself":              {in(3), in(3)},
		"font 3, behind letters of it":      {in(3), 'a', 'b', in(3)},
		"font 3 behind itself and a rule":   {in(3), 0, in(3)},
		"font 3 behind itself and rules":    {in(3), 0, 0, 0, in(3)},
		"font 15 behind itself":             {in(3), in(15), in(15)},
		"font 3 anew and others behind":     {in(3), in(3), in(4), 'a'},
		"font 0 with a letter in between":   {'a', 'b', in(0)},
		"font 0 behind a letter and a rule": {'a', 0, in(0)},
	} {
		checkNoDesc(t, what, at(codes...))
	}
	for what, codes := range map[string][]uint64{
		"one of 0":            {'a'},
		"another one":         {in(3)},
		"there and back":      {in(3), in(0), in(3)},
		"behind a rule":       {in(3), 0, in(4), 0, 'a'},
		"of another 15 times": {in(1), in(2), in(3), in(4), in(5), in(6), in(7), in(8), in(9), in(10), in(11), in(12), in(13), in(14), in(15), in(0)},
	} {
		if _, ok := checkBytes(t, at(codes...)); !ok {
			t.Errorf("%s: refused", what)
		}
	}
	// A page begins in font 0, whatever the one ahead ends with.
	second := func(code uint64) []byte {
		return marked(inGroups(2, 1, 0, 0, in(3), 5, 7, 1, 0, 0, code, 5, 7))
	}
	checkNoDesc(t, "font 0 on a second page", second(in(0)))
	for code, font := range map[uint64]int64{in(3): 3, 1 + 'a': 0} {
		if got, ok := checkBytes(t, second(code)); !ok || got[1][0] != glyphSpot(0, 0, font, 'a') {
			t.Errorf("on a second page, %d: %v, %v", code, got, ok)
		}
	}
}

func TestSumsThatAreNotTheirs(t *testing.T) {
	for _, d := range []desc{nil, {{}, {}}, readable()} {
		descKind().checkOtherSums(t, checkDesc(t, d))
	}
}

func TestSumsBeyondTheModulus(t *testing.T) {
	seen := 0
	for size := range int64(100000) {
		whole := impl.EncodeDesc(append(readable(), spots{{X: 7 * size, Y: -9 * size, Width: 10007 * size, Height: 10007 * (100000 - size)}}))
		if descKind().checkSumBeyond(t, whole) {
			seen++
		}
	}
	if seen == 0 {
		t.Error("no sum below 15")
	}
}
