package tests

import (
	"math/rand"
	"slices"
	"testing"

	"loop.example/g00014/impl"
)

// countPara counts what a paragraph is an example of.
func countPara(counts map[string]int, got impl.Broken, ways []tried) {
	if len(got.Breaks) == 0 {
		counts["can't be packed"]++
		return
	}
	counts[[]string{"", "first pass", "second pass"}[got.Pass]]++
	fewer, back := 0, 0
	for _, w := range ways {
		if w.demerits == got.Demerits {
			if len(w.breaks) > len(got.Breaks) {
				fewer = 1
			} else if len(w.breaks) == len(got.Breaks) {
				back++
			}
		}
	}
	counts["as cheap with more lines"] += fewer
	if back > 1 {
		counts["as cheap with as many lines"]++
	}
	switch {
	case len(ways) == 1:
		counts["one way"]++
	case len(ways) > 50:
		counts["many ways"]++
	}
	if got.Demerits < 0 {
		counts["below 0"]++
	}
	if len(got.Lines) > 4 {
		counts["many lines"]++
	}
}

// No legal way, gone through one by one, is better than the one that is told.
func TestParasAtRandom(t *testing.T) {
	t.Parallel()
	r := rand.New(rand.NewSource(101))
	counts := map[string]int{}
	for range 4000 {
		l := randomRows(r)
		ns, s := l.row(9), l.style()
		got, ways := checkPara(t, ns, s)
		countPara(counts, got, ways)
		if len(got.Breaks) > 0 {
			checkLines(t, ns, s, got)
			checkNothingLost(t, ns, got)
		}
	}
	for what, least := range map[string]int{"first pass": 500, "second pass": 500, "can't be packed": 100, "as cheap with more lines": 100, "as cheap with as many lines": 100, "one way": 300, "many ways": 300, "below 0": 50, "many lines": 100} {
		if counts[what] < least {
			t.Error("too few:", what, counts)
		}
	}
}

// All lines between all breaks, and sequences of them.
func TestLinesAndDemeritsAtRandom(t *testing.T) {
	t.Parallel()
	r := rand.New(rand.NewSource(102))
	for range 1500 {
		l := randomRows(r)
		ns, s := l.row(9), l.style()
		breaks := checkBreaks(t, ns, s)
		for at, to := range breaks {
			checkLine(t, ns, s, -1, to)
			for _, from := range breaks[:at+1] {
				checkLine(t, ns, s, from, to)
			}
		}
		for range 8 {
			some := slices.DeleteFunc(slices.Clone(breaks), func(int64) bool { return r.Intn(3) == 0 })
			checkDemerits(t, ns, s, some)
		}
	}
}
