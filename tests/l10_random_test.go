package tests

import (
	"math/rand"
	"testing"

	"loop.example/g00014/impl"
)

// countPages counts what pages are an example of.
func countPages(counts map[string]int, ns nodes, s impl.Sheet, got []impl.Page) {
	p, _ := scrollPlainly(ns, s)
	if len(got) == 0 {
		counts["nothing"]++
		return
	}
	if len(got) > 3 {
		counts["many pages"]++
	}
	for _, page := range got {
		all := p.endings(page.From)
		cheapest := 0
		for _, e := range all {
			if e.cost == page.Cost {
				cheapest++
			}
		}
		switch {
		case page.Cost == impl.NoCost:
			counts["NoCost"]++
		case page.Cost == 100000:
			counts["dear"]++
		case page.Cost < 0 && page.Cost > -10000:
			counts["below 0"]++
		case page.Cost == -10000:
			counts["forced"]++
		}
		if cheapest > 1 {
			counts["one of several as cheap"]++
		}
		if len(all) > 1 && all[len(all)-1].to != page.To {
			counts["not the last that counts"]++
		}
	}
}

// Pages are those of the plain telling, which goes through all breaks by the document's words.
func TestPagesAtRandom(t *testing.T) {
	t.Parallel()
	r := rand.New(rand.NewSource(111))
	counts := map[string]int{}
	for range 6000 {
		l := randomStacks(r)
		ns, s := l.stack(14), l.sheet()
		got, _ := checkPages(t, ns, s)
		countPages(counts, ns, s, got)
		checkNoPageLost(t, ns, s, got)
	}
	for what, least := range map[string]int{"nothing": 300, "many pages": 1000, "NoCost": 500, "dear": 200, "below 0": 100, "forced": 1000, "one of several as cheap": 200, "not the last that counts": 500} {
		if counts[what] < least {
			t.Error("too few:", what, counts)
		}
	}
}

// All pages from all places, to all breaks and to what is none.
func TestPagesFromEverywhere(t *testing.T) {
	t.Parallel()
	r := rand.New(rand.NewSource(112))
	for range 600 {
		l := randomStacks(r)
		ns, s := l.stack(9), l.sheet()
		breaks := checkPageBreaks(t, ns)
		end := breaks[len(breaks)-1]
		for from := int64(-1); from <= end+1; from++ {
			checkNextBreak(t, ns, s, from)
			for to := int64(-1); to <= end+1; to++ {
				checkPage(t, ns, s, from, to)
			}
		}
	}
}
