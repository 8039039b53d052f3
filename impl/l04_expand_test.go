package impl

import (
	"slices"
	"testing"
)

// No list that is handed in is longer than MaxTokens; one that goes on behind it may be.
func TestMatchedListsAtTheMostTokens(t *testing.T) {
	a, dot := Token{Cat: CatLetter, Char: 'a'}, Token{Cat: CatOther, Char: '.'}
	open, shut := Token{Cat: CatOpen, Char: '{'}, Token{Cat: CatClose, Char: '}'}
	slot := Token{Cat: CatSlot, Char: 1}
	letters := func(n int) []Token { return slices.Repeat([]Token{a}, n) }
	for n, code := range map[int]int64{0: ExpOk, 1: ExpOk, MaxTokens - 1: ExpOk, MaxTokens: ExpOk, MaxTokens + 1: ExpFull, 2 * MaxTokens: ExpFull} {
		for what, c := range map[string]struct{ pattern, list []Token }{
			"a delimiter":      {[]Token{slot, dot}, append(letters(n), dot)},
			"a long delimiter": {[]Token{slot, dot, dot, dot}, append(letters(n), dot, dot, dot)},
			"a group":          {[]Token{slot}, slices.Concat([]Token{open}, letters(n), []Token{shut})},
		} {
			var args [][]Token
			x := &expander{front: c.list[:1], behind: &link{c.list[1:], nil}, length: len(c.list)}
			got := run(func() { args = x.match(c.pattern) })
			if got != code || code == ExpOk && (len(args[0]) != n || x.length != 0) {
				t.Errorf("%d letters and %s: %d", n, what, got)
			}
		}
	}
}

// What is matched across rows of the list is a copy, within one it is shared: in neither case a row is changed.
func TestMatchedListsLeaveTheRowsAsTheyAre(t *testing.T) {
	text := func(s string) []Token {
		ts, _ := Tokenize(PlainCats(), s)
		return ts
	}
	whole := text("ab.cd{ef}gh.xyz")
	for cut := range len(whole) {
		row := slices.Clone(whole)
		x := &expander{front: row[:cut], behind: &link{row[cut:], nil}, length: len(row)}
		var args [][]Token
		pattern := []Token{{Cat: CatSlot, Char: 1}, {Cat: CatOther, Char: '.'}, {Cat: CatSlot, Char: 2}, {Cat: CatOther, Char: '.'}, {Cat: CatSlot, Char: 3}}
		code := run(func() { args = x.match(pattern) })
		if code != ExpOk || ShowTokens(args[0]) != "ab" || ShowTokens(args[1]) != "cd{ef}gh" || ShowTokens(args[2]) != "x" || ShowTokens(x.rest()) != "yz" {
			t.Errorf("cut at %d: %d %+v", cut, code, args)
		}
		if !slices.Equal(row, whole) {
			t.Errorf("cut at %d: the list is changed", cut)
		}
	}
}
