package impl

import (
	"errors"
	"testing"
)

// From outside all faults are one answer; what they are and where is told inside alone.

func TestFaultsOfDescsTellWhatAndWhere(t *testing.T) {
	a, rule := Spot{Char: 'a'}, Spot{Font: 3, Char: ruleChar}
	for _, c := range []struct {
		pages [][]Spot
		cause error
		text  string
	}{
		{nil, nil, ""},
		{[][]Spot{{a, a}, {}, {a}}, nil, ""},
		{make([][]Spot, MaxPages+1), errPages, "too many pages"},
		{[][]Spot{{a}, make([]Spot, MaxSpots)}, errSpots, "page 1: too many Spots"},
		{[][]Spot{{a, {X: MaxLen + 1}}}, errPlace, "page 0: spot 1: a place that does not fit"},
		{[][]Spot{{}, {{Y: -MaxLen - 1}}}, errPlace, "page 1: spot 0: a place that does not fit"},
		{[][]Spot{{{Width: -1}}}, errSize, "page 0: spot 0: a size that does not fit"},
		{[][]Spot{{{Height: MaxLen + 1}}}, errSize, "page 0: spot 0: a size that does not fit"},
		{[][]Spot{{{Font: 16}}}, errFont, "page 0: spot 0: no such font"},
		{[][]Spot{{{Char: 256}}}, errChar, "page 0: spot 0: no such char"},
		{[][]Spot{{{Char: -2}}, {{Char: 256}}}, errChar, "page 0: spot 0: no such char"},
		{[][]Spot{{a}, {a, rule}}, ruleFont(3), "page 1: spot 1: a rule of font 3"},
		{[][]Spot{{a, rule}, {rule}}, ruleFont(3), "page 0: spot 1: a rule of font 3"},
		{[][]Spot{{rule, {Char: 256}, {Width: -1}}, {rule}}, errChar, "page 0: spot 1: no such char"},
		{[][]Spot{{rule}, {rule, {Char: 256}}}, errChar, "page 1: spot 1: no such char"},
	} {
		checkFault(t, descFault(c.pages), c.cause, c.text)
	}
}

func TestFaultsOfBytesTellWhatAndWhere(t *testing.T) {
	body := func(ns ...byte) []byte { return sealed(append([]byte(descMark), ns...)) }
	for _, c := range []struct {
		b     []byte
		cause error
		text  string
	}{
		{body(1, 1, 0, 0, 1, 0, 0), nil, ""},
		{nil, errMark, "another beginning"},
		{[]byte("QPD2\x00\x00\x00"), errMark, "another beginning"},
		{[]byte("QPD1\x00"), errEnd, "the bytes end"},
		{[]byte("QPD1\x00\x00\x00"), errSum, "another sum"},
		{body(), errEnd, "the bytes end"},
		{body(0, 0), errBehind, "bytes behind the end"},
		{body(128, 0), errGroups, "a number in more groups than it needs"},
		{body(0xe9, 7), errPages, "too many pages"},
		{body(255, 255, 255, 255, 255, 255, 255, 255, 255, 1), errGreat, "a number that is too great"},
		{body(1), errEnd, "page 0: the bytes end"},
		{body(2, 0, 1, 0, 0), errEnd, "page 1: spot 0: the bytes end"},
		{body(1, 2, 0, 0, 1, 0, 0, 0, 0, 1, 128), errEnd, "page 0: spot 1: the bytes end"},
		{body(1, 1, 0, 0, 129, 2, 0, 0), errAnew, "page 0: spot 0: a font told anew"},
		{body(1, 1, 0x80, 0x80, 0x80, 0x80, 8, 0, 1, 0, 0), errPlace, "page 0: spot 0: a place that does not fit"},
		{body(1, 1, 0, 0, 129, 34, 0, 0), errFont, "page 0: spot 0: no such font"},
		{body(2, 0, 0xa1, 0x9c, 1), errSpots, "page 1: too many Spots"},
	} {
		_, err := decodeDesc(c.b)
		checkFault(t, err, c.cause, c.text)
	}
}

func checkFault(t *testing.T, fault, cause error, text string) {
	t.Helper()
	if !errors.Is(fault, cause) {
		t.Errorf("%v is no %v", fault, cause)
	}
	if fault != nil && fault.Error() != text {
		t.Errorf("%q, not %q", fault.Error(), text)
	}
	var font ruleFont
	if _, want := cause.(ruleFont); errors.As(fault, &font) != want || want && font != cause {
		t.Errorf("%v: a rule of font %d", fault, font)
	}
}
