package tests

import (
	"bytes"
	"math/rand"
	"slices"
	"testing"

	"loop.example/g00014/impl"
)

// sealedKind is one of the kinds of bytes that stand between a mark and their sum.
type sealedKind struct {
	mark  string
	none  func(t *testing.T, what string, b []byte) // these bytes are none, and by the plain telling neither
	reads func(b []byte) bool                       // is something read of them? Without the plain telling, since it is asked often.
}

func descKind() sealedKind {
	return sealedKind{markOf, checkNoDesc, func(b []byte) bool {
		d, ok := impl.DecodeDesc(b)
		return ok || len(d) > 0
	}}
}

func formatKind() sealedKind {
	return sealedKind{formatMark, checkNoFormat, func(b []byte) bool {
		e, ok := impl.Load(b)
		return ok || len(e.Levels) > 0
	}}
}

func (k sealedKind) checkCutShort(t *testing.T, whole []byte) {
	t.Helper()
	for n := range whole {
		k.none(t, "cut short", whole[:n])
		k.none(t, "without a beginning", whole[n+1:])
	}
	for n := range len(whole) - 2 {
		k.none(t, "cut short, with a sum of its own", sealPlainly(whole[:n]))
	}
}

func (k sealedKind) checkBytesBehind(t *testing.T, whole []byte) {
	t.Helper()
	body := whole[:len(whole)-2]
	for c := range 256 {
		k.none(t, "a byte behind", append(slices.Clone(whole), byte(c)))
		k.none(t, "a byte behind, ahead of the sum", sealPlainly(append(slices.Clone(body), byte(c))))
	}
	k.none(t, "a second sum", sealPlainly(whole))
	k.none(t, "twice", append(slices.Clone(whole), whole...))
	k.none(t, "many bytes behind", sealPlainly(append(slices.Clone(body), make([]byte, 100000)...)))
}

func (k sealedKind) checkOtherBeginnings(t *testing.T, whole []byte, marks ...string) {
	t.Helper()
	body := whole[:len(whole)-2]
	for at := range len(k.mark) {
		for c := range 256 {
			if other := slices.Clone(body); byte(c) != other[at] {
				other[at] = byte(c)
				k.none(t, "another beginning", sealPlainly(other))
			}
		}
	}
	for _, mark := range append(marks, "", k.mark[:1], k.mark[:3], k.mark+"1", k.mark[:3]+"2", " "+k.mark, "\x00"+k.mark) {
		k.none(t, mark, sealPlainly(append([]byte(mark), body[len(k.mark):]...)))
	}
}

func (k sealedKind) checkOtherSums(t *testing.T, whole []byte) {
	t.Helper()
	body, sum := whole[:len(whole)-2], whole[len(whole)-2:]
	for n := range 65536 {
		other := append(slices.Clone(body), byte(n), byte(n>>8))
		if k.reads(other) != bytes.Equal(other[len(body):], sum) {
			t.Fatalf("a sum of %d", n)
		}
	}
	k.none(t, "the higher one first", append(slices.Clone(body), sum[1], sum[0]))
	k.none(t, "no sum", body)
	k.none(t, "a byte of the sum", whole[:len(whole)-1])
}

// checkSumBeyond says whether the sum is one of those that are the same modulo 65521 as another number of two bytes: only the lesser one is a sum.
func (k sealedKind) checkSumBeyond(t *testing.T, whole []byte) bool {
	t.Helper()
	body := whole[:len(whole)-2]
	sum := int(sumPlainly(body))
	if sum+65521 >= 65536 {
		return false
	}
	if !k.reads(whole) {
		t.Fatalf("a sum of %d is refused", sum)
	}
	sum += 65521
	k.none(t, "a sum beyond the modulus", append(slices.Clone(body), byte(sum), byte(sum>>8)))
	return true
}

// checkChanged: bytes with one of them changed are none.
func (k sealedKind) checkChanged(t *testing.T, whole []byte, at int, to byte) {
	t.Helper()
	before := whole[at]
	if to == before {
		return
	}
	whole[at] = to
	if k.reads(whole) {
		t.Fatalf("%d bytes, of which number %d is %d, not %d: read", len(whole), at, to, before)
	}
	whole[at] = before
}

// checkSomeChanged changes a byte here and there, at both ends too.
func (k sealedKind) checkSomeChanged(t *testing.T, r *rand.Rand, whole []byte, times int) {
	t.Helper()
	for at := range 20 {
		k.checkChanged(t, whole, at, byte(r.Intn(256)))
		k.checkChanged(t, whole, len(whole)-1-at, byte(r.Intn(256)))
	}
	for range times {
		at := r.Intn(len(whole))
		k.checkChanged(t, whole, at, whole[at]^1<<r.Intn(8))
		k.checkChanged(t, whole, at, byte(r.Intn(256)))
	}
}
