package tests

import (
	"bytes"
	"encoding/binary"
	"math/rand"
	"slices"
	"strings"
	"testing"

	"loop.example/g00014/impl"
)

type spots = []impl.Spot
type desc = []spots

// spotIs: one that a description can have.
func spotIs(s impl.Spot) bool {
	return between(-maxLen, s.X, maxLen) && between(-maxLen, s.Y, maxLen) && between(0, s.Font, 15) && between(-1, s.Char, 255) && between(0, s.Width, maxLen) && between(0, s.Height, maxLen)
}

// descIs is DescOk.
func descIs(d desc) bool {
	all := slices.Concat(d...)
	return len(d) <= 1000 && len(all) <= 20000 && !slices.ContainsFunc(all, func(s impl.Spot) bool { return !spotIs(s) })
}

// sumPlainly is the sum that stands behind bytes.
func sumPlainly(b []byte) uint16 {
	sum := uint64(len(b))
	for i, c := range b {
		sum += uint64(c) * uint64(i+1)
	}
	return uint16(sum % 65521)
}

// sealPlainly are bytes with their sum.
func sealPlainly(b []byte) []byte {
	return binary.LittleEndian.AppendUint16(slices.Clone(b), sumPlainly(b))
}

// markOf is how the bytes of a description begin.
const markOf = "QPD1"

// fontAhead is that of the last Spot that is no rule.
func fontAhead(page spots) int64 {
	for _, s := range slices.Backward(page) {
		if s.Char >= 0 {
			return s.Font
		}
	}
	return 0
}

// glyphNumber is a Spot's number for its font and char, behind others on its page.
func glyphNumber(s impl.Spot, ahead spots) uint64 {
	switch {
	case s.Char == -1:
		return 0
	case s.Font == fontAhead(ahead):
		return uint64(1 + s.Char)
	}
	return uint64(257 + s.Char + 256*s.Font)
}

// numbersOfDesc are all numbers that stand between mark and sum, those with a sign made ones without.
func numbersOfDesc(d desc) []uint64 {
	out := []uint64{uint64(len(d))}
	unsigned := func(x int64) uint64 { return uint64(max(2*x, -2*x-1)) }
	for _, page := range d {
		out = append(out, uint64(len(page)))
		var ahead impl.Spot
		for i, s := range page {
			out = append(out, unsigned(s.X-ahead.X), unsigned(s.Y-ahead.Y), glyphNumber(s, page[:i]), uint64(s.Width), uint64(s.Height))
			ahead = s
		}
	}
	return out
}

// inGroups are numbers one behind the other, each in groups of seven bits.
func inGroups(ns ...uint64) []byte {
	var out []byte
	for _, n := range ns {
		out = binary.AppendUvarint(out, n)
	}
	return out
}

// marked are parts between the mark and their sum.
func marked(parts ...[]byte) []byte {
	return sealPlainly(append([]byte(markOf), slices.Concat(parts...)...))
}

// bytesPlainly is EncodeDesc.
func bytesPlainly(d desc) []byte {
	fontOfRule := func(s impl.Spot) bool { return s.Char == -1 && s.Font != 0 }
	if !descIs(d) || slices.ContainsFunc(slices.Concat(d...), fontOfRule) {
		return nil
	}
	return marked(inGroups(numbersOfDesc(d)...))
}

// loosely reads a description from what follows the mark, however it is written, and passes over nothing but what ends too early.
func loosely(b []byte) (out desc, ok bool) {
	number := func() (n uint64) {
		n, length := binary.Uvarint(b)
		ok = ok && length > 0
		b = b[max(length, 0):]
		return n
	}
	signed := func() int64 {
		n := number()
		return int64(n>>1) ^ -int64(n&1)
	}
	ok = true
	for pages := number(); ok && uint64(len(out)) < pages; {
		var page spots
		for count := number(); ok && uint64(len(page)) < count; {
			var ahead impl.Spot
			if len(page) > 0 {
				ahead = page[len(page)-1]
			}
			s := impl.Spot{X: ahead.X + signed(), Y: ahead.Y + signed(), Char: -1}
			switch code := number(); {
			case code > 256:
				s.Font, s.Char = int64((code-257)/256), int64((code-257)%256)
			case code > 0:
				s.Font, s.Char = fontAhead(page), int64(code-1)
			}
			s.Width, s.Height = int64(number()), int64(number())
			page = append(page, s)
		}
		out = append(out, page)
	}
	return out, ok
}

// readPlainly is DecodeDesc: bytes are a description if they are its bytes.
func readPlainly(b []byte) (desc, bool) {
	body, found := bytes.CutPrefix(b, []byte(markOf))
	if !found {
		return nil, false
	}
	d, ok := loosely(body)
	if !ok || !bytes.Equal(bytesPlainly(d), b) {
		return nil, false
	}
	return d, true
}

// showsIn is what the last Spot that covers a point shows.
func showsIn(page spots, x, y int64) byte {
	for _, s := range slices.Backward(page) {
		if x < s.X || x >= s.X+s.Width || y < s.Y-s.Height || y >= s.Y {
			continue
		}
		switch {
		case s.Char == -1:
			return '#'
		case !between(33, s.Char, 126):
			return '?'
		}
		return byte(s.Char)
	}
	return ' '
}

// rasterPlainly is Raster.
func rasterPlainly(page spots, cell, columns, rows int64) []string {
	if !between(1, cell, maxLen) || !between(1, columns, 400) || !between(1, rows, 400) || !descIs(desc{page}) {
		return nil
	}
	var out []string
	for row := range rows {
		var line strings.Builder
		for column := range columns {
			line.WriteByte(showsIn(page, column*cell+cell/2, row*cell+cell/2))
		}
		out = append(out, line.String())
	}
	return out
}

// boundsPlainly is Bounds.
func boundsPlainly(page spots) []int64 {
	if len(page) == 0 || !descIs(desc{page}) {
		return nil
	}
	var lefts, tops, rights, bottoms []int64
	for _, s := range page {
		lefts, tops = append(lefts, s.X), append(tops, s.Y-s.Height)
		rights, bottoms = append(rights, s.X+s.Width), append(bottoms, s.Y)
	}
	return []int64{slices.Min(lefts), slices.Min(tops), slices.Max(rights), slices.Max(bottoms)}
}

// shortDesc is a description that is told in a message.
func shortDesc(d desc) any {
	if n := len(slices.Concat(d...)); n+len(d) > 40 {
		return [2]int{len(d), n}
	}
	return d
}

// shortBytes are bytes that are told in a message.
func shortBytes(b []byte) []byte { return b[:min(len(b), 100)] }

// checkDesc holds DescOk and EncodeDesc against the plain telling, reads the bytes back, and gives them.
func checkDesc(t *testing.T, d desc) []byte {
	t.Helper()
	if got := impl.DescOk(d); got != descIs(d) {
		t.Fatalf("DescOk of %v: %v", shortDesc(d), got)
	}
	got, want := impl.EncodeDesc(d), bytesPlainly(d)
	if !bytes.Equal(got, want) {
		t.Fatalf("EncodeDesc of %v: %v, not %v", shortDesc(d), shortBytes(got), shortBytes(want))
	}
	if len(got) > 0 {
		if again, ok := impl.DecodeDesc(got); !ok || !same(again, d) {
			t.Fatalf("%v is read back as %v, %v", shortDesc(d), shortDesc(again), ok)
		}
	}
	return got
}

// checkBytes holds DecodeDesc against the plain telling, writes again what is read, and gives it.
func checkBytes(t *testing.T, b []byte) (desc, bool) {
	t.Helper()
	got, ok := impl.DecodeDesc(b)
	if want, wantOk := readPlainly(b); ok != wantOk || !same(got, want) {
		t.Fatalf("DecodeDesc of %v (%d): %v, %v, not %v, %v", shortBytes(b), len(b), shortDesc(got), ok, shortDesc(want), wantOk)
	}
	if ok && !bytes.Equal(impl.EncodeDesc(got), b) {
		t.Fatalf("%v is read as %v, of which the bytes are others", shortBytes(b), shortDesc(got))
	}
	return got, ok
}

// checkNoDesc: these bytes are none.
func checkNoDesc(t *testing.T, what string, b []byte) {
	t.Helper()
	if d, ok := impl.DecodeDesc(b); ok || len(d) > 0 {
		t.Errorf("%s: %v is read as %v, %v", what, shortBytes(b), shortDesc(d), ok)
	}
	if _, ok := checkBytes(t, b); ok {
		t.Errorf("%s: %v is a description", what, shortBytes(b))
	}
}

// checkRaster holds Raster against the plain telling, and gives the picture.
func checkRaster(t *testing.T, page spots, cell, columns, rows int64) []string {
	t.Helper()
	got, want := impl.Raster(page, cell, columns, rows), rasterPlainly(page, cell, columns, rows)
	if !same(got, want) {
		t.Fatalf("Raster of %v, cell %d, %d columns, %d rows: %q, not %q", shortDesc(desc{page}), cell, columns, rows, got, want)
	}
	return got
}

// checkBounds holds Bounds against the plain telling, and gives them.
func checkBounds(t *testing.T, page spots) []int64 {
	t.Helper()
	got, want := impl.Bounds(page), boundsPlainly(page)
	if !same(got, want) {
		t.Fatalf("Bounds of %v: %v, not %v", shortDesc(desc{page}), got, want)
	}
	return got
}

// glyphSpot is a Spot of a char in a font, small and near.
func glyphSpot(x, y, font, c int64) impl.Spot {
	return impl.Spot{X: x, Y: y, Font: font, Char: c, Width: 5, Height: 7}
}

// randomSpot is mostly one that can be; some are rules, many of one font.
func randomSpot(r lengths) impl.Spot {
	s := impl.Spot{X: r.length(), Y: r.length(), Width: r.Int63n(r.most + 1), Height: r.Int63n(r.most + 1), Char: r.Int63n(256)}
	switch r.Intn(5) {
	case 0:
		s.Char = -1
	case 1:
		s.Font = r.Int63n(16)
	case 2:
		s.Font = 3
	}
	return s
}

func randomPage(r lengths, most int) spots {
	var out spots
	for range r.Intn(most + 1) {
		out = append(out, randomSpot(r))
	}
	return out
}

func randomDesc(r *rand.Rand) desc {
	var out desc
	for range r.Intn(5) {
		out = append(out, randomPage(randomLengths(r), 8))
	}
	return out
}

// spoilSpot makes of a Spot one that most often can't be, or has no bytes.
func spoilSpot(r *rand.Rand, s *impl.Spot) {
	x := []int64{-1 << 63, -maxLen - 1, -maxLen, -2, -1, 0, 1, 15, 16, 255, 256, maxLen, maxLen + 1, 1<<63 - 1}[r.Intn(14)]
	*[]*int64{&s.X, &s.Y, &s.Font, &s.Char, &s.Width, &s.Height}[r.Intn(6)] = x
}
