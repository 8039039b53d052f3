package impl

import (
	"bytes"
	"slices"
	"sync"
	"testing"
)

// From outside all faults are one answer; what they are and where is told inside alone.

// bareBody are the bytes of a level between mark and sum: all categories 0, these binds, and registers of 0.
func bareBody(binds ...byte) []byte {
	return slices.Concat(make([]byte, 256), binds, make([]byte, MaxCounts*(1+1+4+1)))
}

func TestFaultsOfFormatsTellWhatAndWhere(t *testing.T) {
	body := func(b []byte) []byte { return sealed(append([]byte(dumpMark), b...)) }
	changed := func(at int, c byte) []byte {
		b := bareBody(0)
		b[at] = c
		return body(b)
	}
	registers := 256 + 1
	glues := registers + 2*MaxCounts
	toks := glues + 4*MaxCounts
	for _, c := range []struct {
		b     []byte
		cause error
		text  string
	}{
		{body(bareBody(0)), nil, ""},
		{nil, errMark, "another beginning"},
		{make([]byte, MaxDump), errMark, "another beginning"},
		{make([]byte, MaxDump+1), errLong, "too many bytes"},
		{[]byte("QFM1\x00"), errEnd, "the bytes end"},
		{[]byte("QFM1\x00\x00\x00"), errSum, "another sum"},
		{body(make([]byte, 255)), errEnd, "category 255: the bytes end"},
		{body(make([]byte, 256)), errEnd, "the bytes end"},
		{body(append(bareBody(0), 0)), errBehind, "bytes behind the end"},
		{body(bareBody(128, 0)), errGroups, "a number in more groups than it needs"},
		{body(bareBody(0xf5, 3)), errBinds, "too many names"},
		{body(bareBody(1, 41)), errName, "bind 0: a name that is too long"},
		{body(bareBody(2, 0, MeanPrim, 1, 1, 'a', 4)), errKind, "bind 1: no such kind of meaning"},
		{body(bareBody(1, 0, MeanMacro, 0, 0, 0xd1, 15)), errTokens, "bind 0: too many tokens"},
		{body(append(make([]byte, 256), 1, 0, MeanMacro, 0, 2, CatOther, 1, CatEscape, 3, 'a')), errEnd, "bind 0: token 1: byte 1: the bytes end"},
		{body(bareBody(0)[:registers+5]), errEnd, "count 5: the bytes end"},
		{body(bareBody(0)[:glues-1]), errEnd, "length 31: the bytes end"},
		{body(bareBody(0)[:glues+7]), errEnd, "glue 1: the bytes end"},
		{body(bareBody(0)[:toks]), errEnd, "row 0: the bytes end"},
		{changed(255, CatSlot), errEnv, "no environment"},
		{changed(glues+3, 4), errEnv, "no environment"},
		{body(bareBody(1, 0, MeanPrim, LastPrim+1)), errEnv, "no environment"},
	} {
		_, err := load(c.b)
		checkFault(t, err, c.cause, c.text)
	}
}

// However writers take turns, none of what they write is lost.
func TestManyWriteAtOnce(t *testing.T) {
	const writers, each = 8, 20000
	w := &dumpWriter{}
	begin := make(chan bool)
	var done sync.WaitGroup
	for range writers {
		done.Go(func() {
			<-begin
			for range each {
				w.write([]byte{7, 9})
			}
		})
	}
	close(begin)
	done.Wait()
	want := sealed(bytes.Repeat([]byte{7, 9}, writers*each))
	if got := w.together(); !bytes.Equal(got, want) || w.size() != int64(len(want)) {
		t.Errorf("%d bytes, counted as %d, not %d", len(got), w.size(), len(want))
	}
}

func TestTheSumIsThatOfAllPieces(t *testing.T) {
	whole := []byte("some bytes that come in pieces")
	for cut := range whole {
		w := &dumpWriter{}
		w.write(whole[:cut])
		w.write(nil)
		w.write(whole[cut:])
		if got, want := w.together(), sealed(slices.Clone(whole)); !bytes.Equal(got, want) {
			t.Errorf("cut at %d: %v, not %v", cut, got, want)
		}
	}
	if got := (&dumpWriter{}).together(); !bytes.Equal(got, []byte{0, 0}) {
		t.Errorf("without a piece: %v", got)
	}
}
