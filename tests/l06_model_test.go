package tests

import (
	"math/rand"
	"slices"
	"testing"

	"loop.example/g00014/impl"
)

func glyph(code, width, height, depth int64) impl.Glyph {
	return impl.Glyph{Code: code, Width: width, Height: height, Depth: depth}
}

// ligs and kerns are pairs of glyphs that become one, or come nearer.
func ligs(left, right, lig int64) impl.Pair {
	return impl.Pair{Left: left, Right: right, Lig: lig}
}

func kerns(left, right, kern int64) impl.Pair {
	return impl.Pair{Left: left, Right: right, Lig: -1, Kern: kern}
}

func shows(code int64) impl.Piece { return impl.Piece{Code: code} }
func moves(kern int64) impl.Piece { return impl.Piece{Code: -1, Kern: kern} }

func laid(ps ...impl.Piece) []impl.Piece { return ps }

// showsAll are the glyphs of a text, one by one.
func showsAll(text string) []impl.Piece {
	var out []impl.Piece
	for _, c := range []byte(text) {
		out = append(out, shows(int64(c)))
	}
	return out
}

// smallFont has a pair of each kind: a b is the ligature 1, 1 c is 2, b c and 2 a have kerns, c c one of 0.
func smallFont() impl.Font {
	return impl.Font{
		Name:   "small",
		Glyphs: []impl.Glyph{glyph(1, 70, 9, 1), glyph(2, 90, 8, 0), glyph('a', 10, 5, 0), glyph('b', 20, 7, 2), glyph('c', 40, 6, 3), glyph('d', 80, 1, 1)},
		Pairs:  []impl.Pair{ligs(1, 'c', 2), kerns(2, 'a', 6), ligs('a', 'b', 1), kerns('b', 'c', -3), kerns('c', 'c', 0)},
		Space:  glue(30, 15, 0, 10, 0),
		Quad:   100,
		Rise:   40,
	}
}

func glyphPlainly(f impl.Font, code int64) (impl.Glyph, bool) {
	for _, g := range f.Glyphs {
		if g.Code == code {
			return g, true
		}
	}
	return impl.Glyph{}, false
}

func pairPlainly(f impl.Font, left, right int64) impl.Pair {
	for _, p := range f.Pairs {
		if p.Left == left && p.Right == right {
			return p
		}
	}
	return kerns(left, right, 0)
}

// joinPlainly tells what a row of codes becomes, by its first two.
func joinPlainly(f impl.Font, codes []int64) []impl.Piece {
	if len(codes) == 0 {
		return nil
	}
	if len(codes) == 1 {
		return laid(shows(codes[0]))
	}
	p := pairPlainly(f, codes[0], codes[1])
	if p.Lig != -1 {
		return joinPlainly(f, slices.Concat([]int64{p.Lig}, codes[2:]))
	}
	out := laid(shows(codes[0]))
	if p.Kern != 0 {
		out = append(out, moves(p.Kern))
	}
	return append(out, joinPlainly(f, codes[1:])...)
}

// wordPlainly is SetWord of a font that can be and a word that is not too long.
func wordPlainly(f impl.Font, word []byte) []impl.Piece {
	var codes []int64
	for _, c := range word {
		if _, ok := glyphPlainly(f, int64(c)); ok {
			codes = append(codes, int64(c))
		}
	}
	return joinPlainly(f, codes)
}

func sizePlainly(f impl.Font, ps []impl.Piece) impl.Size {
	var s impl.Size
	for _, p := range ps {
		if p.Code == -1 {
			s.Width += p.Kern
			continue
		}
		g, _ := glyphPlainly(f, p.Code)
		s = impl.Size{Width: s.Width + g.Width, Height: max(s.Height, g.Height), Depth: max(s.Depth, g.Depth)}
	}
	return s
}

// checkWord holds SetWord and WordSize against the plain telling, and gives the pieces.
func checkWord(t *testing.T, f impl.Font, word []byte) []impl.Piece {
	t.Helper()
	got, want := impl.SetWord(f, word), wordPlainly(f, word)
	if !same(got, want) {
		t.Fatalf("SetWord(%s, %q) = %v, not %v", f.Name, word, got, want)
	}
	if got, want := impl.WordSize(f, word), sizePlainly(f, want); got != want {
		t.Fatalf("WordSize(%s, %q) = %v, not %v", f.Name, word, got, want)
	}
	return got
}

// randomFont can be: it has glyphs of some of the codes 1 .. 3 and a .. h, and pairs of some of them.
func randomFont(r *rand.Rand) impl.Font {
	f := impl.Font{Name: "random", Space: glue(r.Int63n(100), r.Int63n(50)-9, 0, r.Int63n(50)-9, 0), Quad: r.Int63n(900), Rise: r.Int63n(900)}
	for _, code := range []int64{1, 2, 3, 'a', 'b', 'c', 'd', 'e', 'f', 'g', 'h'} {
		if r.Intn(4) > 0 {
			f.Glyphs = append(f.Glyphs, glyph(code, r.Int63n(100), r.Int63n(100), r.Int63n(100)))
		}
	}
	for _, left := range f.Glyphs {
		for _, right := range f.Glyphs {
			switch r.Intn(10) {
			case 0:
				f.Pairs = append(f.Pairs, kerns(left.Code, right.Code, r.Int63n(41)-20))
			case 1:
				f.Pairs = append(f.Pairs, kerns(left.Code, right.Code, 0))
			case 2, 3:
				f.Pairs = append(f.Pairs, ligs(left.Code, right.Code, f.Glyphs[r.Intn(len(f.Glyphs))].Code))
			}
		}
	}
	return f
}

func randomWord(r *rand.Rand, most int) []byte {
	return []byte(randomText(r, most, "abcdefgh\x01\x02\x03 X"))
}
