package impl

import (
	"slices"
	"testing"
)

// No plain font has a glyph without a width; what one would be is seen inside alone.

func TestWordsOfSpots(t *testing.T) {
	spot := func(x, y, font, char, width int64) Spot {
		return Spot{X: x, Y: y, Font: font, Char: char, Width: width}
	}
	a := spot(0, 0, 2, 'a', 10)
	for _, c := range []struct {
		what string
		page []Spot
		want []string
	}{
		{"none", nil, nil},
		{"a rule alone", []Spot{spot(0, 0, 0, ruleChar, 5)}, nil},
		{"one char", []Spot{a}, []string{"a"}},
		{"just where the one ahead ended", []Spot{a, spot(10, 0, 2, 'b', 10)}, []string{"ab"}},
		{"just there, without a width", []Spot{a, spot(10, 0, 2, 'b', 0), spot(10, 0, 2, 'c', 10)}, []string{"abc"}},
		{"moved by 1, without a width", []Spot{a, spot(11, 0, 2, 'b', 0)}, []string{"a", "b"}},
		{"moved back by 1, without a width", []Spot{a, spot(9, 0, 2, 'b', 0)}, []string{"a", "b"}},
		{"moved by less than a quarter of its own width", []Spot{a, spot(14, 0, 2, 'b', 17), spot(32, 0, 2, 'c', 5)}, []string{"abc"}},
		{"moved by a quarter of its own width", []Spot{a, spot(14, 0, 2, 'b', 16)}, []string{"a", "b"}},
		{"the width of the one ahead is no matter", []Spot{spot(0, 0, 2, 'a', 100), spot(101, 0, 2, 'b', 4)}, []string{"a", "b"}},
		{"moved back by less than a quarter", []Spot{a, spot(6, 0, 2, 'b', 17)}, []string{"ab"}},
		{"moved back by a quarter", []Spot{a, spot(6, 0, 2, 'b', 16)}, []string{"a", "b"}},
		{"another baseline", []Spot{a, spot(10, 1, 2, 'b', 10)}, []string{"a", "b"}},
		{"another font", []Spot{a, spot(10, 0, 3, 'b', 10)}, []string{"a", "b"}},
		{"font 0, as a rule has it", []Spot{spot(0, 0, 0, 'a', 10), spot(10, 0, 0, ruleChar, 0), spot(10, 0, 0, 'b', 10)}, []string{"a", "b"}},
		{"rules at both ends", []Spot{spot(0, 0, 0, ruleChar, 10), spot(10, 0, 0, 'a', 10), spot(20, 0, 0, ruleChar, 10)}, []string{"a"}},
		{"ligatures", []Spot{spot(0, 0, 2, 1, 10), spot(10, 0, 2, 2, 10), spot(20, 0, 2, 3, 10), spot(30, 0, 2, 4, 10)}, []string{"fffiffi\x04"}},
		{"every byte", []Spot{spot(0, 0, 2, 0, 10), spot(10, 0, 2, 32, 10), spot(20, 0, 2, 128, 10), spot(30, 0, 2, 255, 10)}, []string{"\x00 \x80\xff"}},
	} {
		if got := wordsOn(c.page); !slices.Equal(got, c.want) {
			t.Errorf("%s: %q, not %q", c.what, got, c.want)
		}
	}
}

func TestLinesOfSpots(t *testing.T) {
	rule := Spot{Y: 7, Char: ruleChar}
	for _, c := range []struct {
		page []Spot
		want int
	}{
		{nil, 0},
		{[]Spot{rule}, 0},
		{[]Spot{{}}, 1},
		{[]Spot{{Y: 1}, {Y: 2}, {Y: 1}, rule}, 2},
		{[]Spot{{Y: 1, Font: 3}, {Y: 1}, {Y: -1}, {Y: 1}}, 2},
		{[]Spot{{Y: 7}, rule}, 1},
	} {
		if got := linesOn(c.page); got != c.want {
			t.Errorf("%v: %d, not %d", c.page, got, c.want)
		}
	}
}
