package tests

import (
	"bytes"
	"math/rand"
	"slices"
	"strings"
	"testing"

	"loop.example/g00014/impl"
)

// A description that has bytes is read back from them; checkDesc asks for it.
func TestDescsAtRandom(t *testing.T) {
	t.Parallel()
	r := rand.New(rand.NewSource(183))
	counts := map[string]int{}
	for range 20000 {
		d := randomDesc(r)
		if page := r.Intn(5); page < len(d) && len(d[page]) > 0 {
			s := &d[page][r.Intn(len(d[page]))]
			switch r.Intn(4) {
			case 0:
				spoilSpot(r, s)
			case 1:
				s.Char, s.Font = -1, r.Int63n(4)
			}
		}
		b := checkDesc(t, d)
		switch {
		case len(b) > 0:
			counts["bytes"]++
		case impl.DescOk(d):
			counts["no bytes"]++
		default:
			counts["none"]++
		}
	}
	if counts["bytes"] < 10000 || counts["no bytes"] < 500 || counts["none"] < 500 {
		t.Error("too few:", counts)
	}
}

// Two descriptions have the same bytes only if they are the same.
func TestBytesTellDescsApart(t *testing.T) {
	r := rand.New(rand.NewSource(184))
	seen := map[string]desc{}
	again := 0
	for range 100000 {
		var d desc
		for range r.Intn(3) {
			d = append(d, randomPage(lengths{r, 1}, 2))
		}
		for _, page := range d {
			for i := range page {
				page[i].Char = min(page[i].Char, 1)
				page[i].Font = min(page[i].Font, 1) * min(page[i].Char+1, 1)
			}
		}
		b := string(impl.EncodeDesc(d))
		if other, found := seen[b]; found {
			again++
			if !same(other, d) {
				t.Fatalf("%v and %v are the same bytes", other, d)
			}
		}
		seen[b] = d
	}
	if again < 1000 || len(seen) < 10000 {
		t.Error("too few:", again, len(seen))
	}
}

// Bytes that are a description are those of what is read; checkBytes asks for it. The sum is right here, so that all else counts.
func TestBytesAtRandom(t *testing.T) {
	t.Parallel()
	r := rand.New(rand.NewSource(185))
	read, refused := 0, 0
	for range 100000 {
		body := bodyOf(impl.EncodeDesc(append(randomDesc(r), spots{})))
		for range 1 + r.Intn(2) {
			at := r.Intn(len(body))
			switch r.Intn(5) {
			case 0:
				body[at] = byte(r.Intn(256))
			case 1:
				body[at] ^= 1 << r.Intn(8)
			case 2:
				body = slices.Insert(body, at, byte(r.Intn(256)))
			case 3:
				body[at] += byte(1 - 2*r.Intn(2))
			case 4:
				body = slices.Insert(body, at, byte(r.Intn(2)))
			}
		}
		if _, ok := checkBytes(t, marked(body)); ok {
			read++
		} else {
			refused++
		}
	}
	if read < 10000 || refused < 10000 {
		t.Error("too few:", read, refused)
	}
}

// All short rows of numbers, most of which are no description.
func TestAllShortBytes(t *testing.T) {
	t.Parallel()
	values := []byte{0, 1, 2, 3, 128, 129, 255}
	read := 0
	var grow func(body []byte, more int)
	grow = func(body []byte, more int) {
		if _, ok := checkBytes(t, marked(body)); ok {
			read++
		}
		if more == 0 {
			return
		}
		for _, c := range values {
			grow(append(slices.Clone(body), c), more-1)
		}
	}
	grow(nil, 5)
	grow([]byte{1, 1}, 5)
	if read < 100 {
		t.Error("too few:", read)
	}
}

func TestOneChangedByteIsTold(t *testing.T) {
	t.Parallel()
	r := rand.New(rand.NewSource(186))
	descs := []desc{nil, {{}}, {{}, {}}, readable(), pagesOfSpots(5, 0, 40)}
	for range 20 {
		descs = append(descs, randomDesc(r))
	}
	for _, d := range descs {
		whole := slices.Clone(impl.EncodeDesc(d))
		for at := range whole {
			for to := range 256 {
				descKind().checkChanged(t, whole, at, byte(to))
			}
		}
		if got, ok := impl.DecodeDesc(whole); !ok || !same(got, d) {
			t.Fatalf("%v is not read", d)
		}
	}
}

// descOfLength is a description of so many bytes: each Spot has 5 or, when it is wider than 127, 6 of them.
func descOfLength(t *testing.T, length int) desc {
	t.Helper()
	d := pagesOfSpots((length - 2 - len(markOf) - 4) / 5)
	for i := range d[0] {
		d[0][i] = glyphSpot(int64(i), 0, 0, int64(i%100))
	}
	for i := range d[0] {
		if len(impl.EncodeDesc(d)) == length {
			return d
		}
		d[0][i].Width = 128
	}
	t.Fatal("no description of", length, "bytes")
	return nil
}

func TestOneChangedByteOfManyIsTold(t *testing.T) {
	t.Parallel()
	r := rand.New(rand.NewSource(187))
	for _, length := range []int{255, 256, 257, 300, 1000, 32768, 60000, 65519, 65520} {
		descKind().checkSomeChanged(t, r, checkDesc(t, descOfLength(t, length)), 500)
	}
}

// The byte with the number 65521 counts as often as none does, the one ahead of it and the one behind do not.
func TestPlacesCountModulo65521(t *testing.T) {
	t.Parallel()
	for _, length := range []int{65523, 65524, 65600, 90000} {
		d := descOfLength(t, length)
		whole := checkDesc(t, d)
		for _, at := range []int{65519, 65520, 65521} {
			if at >= length-2 {
				continue
			}
			other := slices.Clone(whole)
			other[at] ^= 1
			got, ok := checkBytes(t, other)
			if ok != (at == 65520) || ok && (len(got) != 1 || same(got, d)) {
				t.Errorf("%d bytes, number %d of them changed: %v", length, at+1, ok)
			}
		}
	}
}

// What stands on sheets of a text can be written down, and read back.
func TestSheetsAsDescs(t *testing.T) {
	e := impl.NewEnv()
	text := "\\len 0=100pt \\len 1=80pt \\count 1=10000 \\glue 0=12pt \\glue 4=0pt plus 1fil \\font 2 "
	digested := impl.Digest(e, text+strings.Repeat("Some {\\font 4 words} of a text, \\rule 3pt 2pt 1pt and more of them.\\par ", 30), 10000)
	if digested.Code != impl.DigOk {
		t.Fatal("not digested:", digested.Code, digested.Notes)
	}
	var d desc
	for _, sheet := range impl.Sheets(impl.Build(digested.Cmds, impl.PlainBook())) {
		d = append(d, impl.Spots(sheet, 36*impl.Point, 36*impl.Point+sheet[0].Height))
	}
	b := checkDesc(t, d)
	if len(d) < 5 || len(b) < 1000 {
		t.Fatal("too few:", len(d), len(b))
	}
	checkBytes(t, b)
	for _, page := range d {
		bounds := checkBounds(t, page)
		picture := checkRaster(t, page, 4*impl.Point, 50, 50)
		if len(bounds) != 4 || bounds[0] < 36*impl.Point || strings.TrimSpace(strings.Join(picture, "")) == "" {
			t.Errorf("%v, %q", bounds, picture)
		}
	}
}

func TestDescAnswersAreNewMemoryAndArgumentsStay(t *testing.T) {
	t.Parallel()
	r := rand.New(rand.NewSource(188))
	for range 300 {
		d := randomDesc(r)
		if r.Intn(4) == 0 {
			d = append(d, spots{{Char: -2}})
		}
		d = roomy(append(d, spots{}, randomPage(randomLengths(r), 8)))
		before := told(d)
		b := impl.EncodeDesc(d)
		impl.DescOk(d)
		checkNewMemory(t, [][]byte{b, impl.EncodeDesc(d)}, d)
		page := d[len(d)-1]
		checkNewMemory(t, [][]string{impl.Raster(page, 3, 9, 9), impl.Raster(page, 3, 9, 9)}, d)
		checkNewMemory(t, [][]int64{impl.Bounds(page), impl.Bounds(page)}, d)
		if told(d) != before {
			t.Fatalf("%v was changed", d)
		}
		b = roomy(b)
		if r.Intn(4) == 0 && len(b) > 0 {
			b[r.Intn(len(b))]++
		}
		before = told(b)
		first, _ := impl.DecodeDesc(b)
		second, _ := impl.DecodeDesc(b)
		checkNewMemory(t, []desc{first, second}, b)
		if told(b) != before {
			t.Fatalf("%v was changed", b)
		}
	}
}

// The same answers come, whatever stands in the room behind the lists, and whatever was written into answers ahead.
func TestDescAnswersHangOnNothingElse(t *testing.T) {
	d := readable()
	b := impl.EncodeDesc(d)
	page := d[0]
	answers := func() []any {
		read, ok := impl.DecodeDesc(b)
		return []any{impl.DescOk(d), impl.EncodeDesc(d), read, ok, impl.Raster(page, 9, 5, 5), impl.Bounds(page)}
	}
	before := told(answers())
	for _, answer := range answers() {
		switch list := answer.(type) {
		case []byte:
			clear(list[:cap(list)])
		case desc:
			for _, page := range list {
				clear(page[:cap(page)])
			}
			clear(list[:cap(list)])
		case []string:
			clear(list[:cap(list)])
		case []int64:
			clear(list[:cap(list)])
		}
	}
	if after := told(answers()); after != before {
		t.Errorf("%s, not %s", after, before)
	}
	if !bytes.Equal(impl.EncodeDesc(roomy(d)), b) || !same(impl.Bounds(roomy(page)), impl.Bounds(page)) || !same(impl.Raster(roomy(page), 9, 5, 5), impl.Raster(page, 9, 5, 5)) {
		t.Error("the room behind a list counts")
	}
	if read, ok := impl.DecodeDesc(roomy(b)); !ok || !same(read, d) {
		t.Error("the room behind bytes counts")
	}
}

// Lists of pages may be one and the same, in an argument.
func TestOnePageManyTimes(t *testing.T) {
	page := spots{glyphSpot(1, 2, 3, 'a'), ruleSpot(1, 2, 3, 4)}
	d := slices.Repeat(desc{page}, impl.MaxPages)
	if got, ok := impl.DecodeDesc(checkDesc(t, d)); !ok || len(got) != impl.MaxPages {
		t.Error("not read")
	} else {
		checkNewMemory(t, got, d)
	}
	if d := slices.Repeat(desc{pagesOfSpots(20)[0]}, impl.MaxPages); len(checkDesc(t, d)) == 0 {
		t.Error("the most Spots are refused")
	}
}

// Every function answers whatever the numbers are.
func TestDescsOfAnyNumbers(t *testing.T) {
	t.Parallel()
	r := rand.New(rand.NewSource(189))
	far := func() int64 {
		switch r.Intn(4) {
		case 0:
			return int64(r.Uint64())
		case 1:
			return r.Int63n(2*maxLen+3) - maxLen - 1
		}
		return []int64{-1 << 63, -1<<63 + 1, -maxLen - 1, -maxLen, -2, -1, 0, 1, 15, 16, 255, 256, 400, 401, maxLen, maxLen + 1, 1<<63 - 2, 1<<63 - 1}[r.Intn(18)]
	}
	for range 20000 {
		page := make(spots, r.Intn(4))
		for i := range page {
			page[i] = impl.Spot{X: far(), Y: far(), Font: r.Int63n(16), Char: r.Int63n(257) - 1, Width: far(), Height: far()}
			if r.Intn(2) == 0 {
				spoilSpot(r, &page[i])
			}
		}
		checkDesc(t, desc{page, {}})
		checkBounds(t, page)
		impl.Raster(page, far(), far(), far())
		checkRaster(t, page, far(), r.Int63n(12)-1, r.Int63n(12)-1)
		b := make([]byte, r.Intn(40))
		r.Read(b)
		checkBytes(t, b)
		checkBytes(t, marked(b))
	}
}
