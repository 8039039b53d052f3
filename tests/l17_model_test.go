package tests

import (
	"maps"
	"slices"
	"strconv"
	"strings"
	"testing"

	"loop.example/g00014/impl"
)

type refs = []impl.Ref

func ref(text string, page int64) impl.Ref { return impl.Ref{Text: text, Page: page} }

// entryTokens are those of the entry of a ref; false when they can't stand in a list.
func entryTokens(r impl.Ref) ([]impl.Token, bool) {
	ts, bad := impl.Tokenize(impl.PlainCats(), "\\entry{"+r.Text+"}{"+strconv.FormatInt(r.Page, 10)+"}")
	return ts, bad == -1 && balancedIs(ts)
}

// withRefsPlainly is WithRefs.
func withRefsPlainly(e impl.Env, rs refs) (impl.Env, bool) {
	if len(e.Levels) != 1 || !envIs(e) || len(rs) > 500 {
		return impl.Env{}, false
	}
	l := roomy(e).Levels[0]
	binds := map[string]impl.Mean{}
	for _, b := range l.Binds {
		binds[b.Name] = b.Mean
	}
	l.Binds, l.Toks[15] = nil, nil
	for _, r := range rs {
		if len(r.Text) > 1000 {
			return impl.Env{}, false
		}
		if len(r.Text) <= 34 {
			binds["page @"+r.Text] = macro(0, nil, others(strconv.FormatInt(r.Page, 10)))
		}
		if ts, ok := entryTokens(r); ok && len(l.Toks[15])+len(ts) <= 2000 {
			l.Toks[15] = slices.Concat(l.Toks[15], ts)
		}
	}
	for _, n := range slices.Sorted(maps.Keys(binds)) {
		l.Binds = append(l.Binds, bind(n, binds[n]))
	}
	if len(l.Binds) > 500 {
		return impl.Env{}, false
	}
	return impl.Env{Levels: []impl.Level{l}}, true
}

// stages are what a run is made of.
type stages struct {
	digest func(impl.Env, string, int64) impl.Digested
	build  func([]impl.Cmd, impl.Book) impl.Built
	sheets func(impl.Built) []nodes
	refs   func(impl.Built) []impl.Ref
}

// builtStages are those of the program, plainStages those that the tests of the chapters ahead hold these against.
func builtStages() stages { return stages{impl.Digest, impl.Build, impl.Sheets, impl.Refs} }

func plainStages() stages {
	return stages{digestedPlainly, buildPlainly, sheetsPlainly, refsPlainly}
}

// runOnce is RunOnce.
func (s stages) runOnce(source string, e impl.Env, book impl.Book, budget int64) impl.Ran {
	if !bookIs(book) {
		return impl.Ran{Code: 200}
	}
	d := s.digest(e, source, budget)
	if d.Code != 0 {
		return impl.Ran{Code: d.Code, Notes: d.Notes}
	}
	b := s.build(d.Cmds, book)
	return impl.Ran{Pages: s.sheets(b), Refs: s.refs(b), Notes: slices.Concat(d.Notes, b.Notes)}
}

// job is Job.
func (s stages) job(source string, e impl.Env, book impl.Book, budget int64) impl.Finished {
	var in refs
	for run := int64(1); ; run++ {
		with, ok := withRefsPlainly(e, in)
		if !ok {
			return impl.Finished{Code: 1}
		}
		ran := s.runOnce(source, with, book, budget)
		f := impl.Finished{Runs: run, Code: ran.Code, Pages: ran.Pages, Refs: ran.Refs, Notes: ran.Notes}
		f.Stable = ran.Code == 0 && slices.Equal(in, ran.Refs)
		if f.Stable || ran.Code != 0 || run == 5 {
			return f
		}
		in = ran.Refs
	}
}

// shownFinished is what a job has come to, in a message.
func shownFinished(f impl.Finished) string {
	return strings.Join([]string{"runs", strconv.FormatInt(f.Runs, 10), strconv.FormatBool(f.Stable), "code", strconv.FormatInt(f.Code, 10), "pages", strings.Join(sheetTexts(f.Pages), " "), "refs", shownRefs(f.Refs), "notes", strings.Join(f.Notes, ", ")}, " ")
}

// checkWithRefs holds WithRefs against the plain telling, and gives the environment.
func checkWithRefs(t *testing.T, e impl.Env, rs refs) (impl.Env, bool) {
	t.Helper()
	got, ok := impl.WithRefs(e, rs)
	want, wantOk := withRefsPlainly(e, rs)
	if ok != wantOk || !same(got, want) {
		t.Fatalf("WithRefs of %d refs: %v, not %v, or another environment", len(rs), ok, wantOk)
	}
	if ok && !impl.EnvOk(got) {
		t.Fatalf("WithRefs of %d refs: no environment", len(rs))
	}
	return got, ok
}

// checkRun holds RunOnce against the plain telling, and gives what has come out.
func checkRun(t *testing.T, source string, e impl.Env, book impl.Book, budget int64) impl.Ran {
	t.Helper()
	got, want := impl.RunOnce(source, e, book, budget), builtStages().runOnce(source, e, book, budget)
	if !same(got, want) {
		t.Fatalf("RunOnce(%.80q, %d): %d, %q, %v, %q, not %d, %q, %v, %q", source, budget, got.Code, sheetTexts(got.Pages), got.Refs, got.Notes, want.Code, sheetTexts(want.Pages), want.Refs, want.Notes)
	}
	return got
}

// checkJob holds Job against the plain telling, and gives what it has come to.
func checkJob(t *testing.T, source string, e impl.Env, book impl.Book, budget int64) impl.Finished {
	t.Helper()
	got, want := impl.Job(source, e, book, budget), builtStages().job(source, e, book, budget)
	if !same(got, want) {
		t.Fatalf("Job(%.80q, %d):\n%s, not\n%s", source, budget, shownFinished(got), shownFinished(want))
	}
	checkRest(t, source, e, book, budget, got)
	return got
}

// checkRest: a job that is stable gives the same with what came out; one that is not has a Code, or was run as often as can be.
func checkRest(t *testing.T, source string, e impl.Env, book impl.Book, budget int64, f impl.Finished) {
	t.Helper()
	if !f.Stable {
		if f.Code == impl.DigOk && f.Runs != impl.MaxRuns {
			t.Fatalf("%.80q: not stable after %d runs", source, f.Runs)
		}
		return
	}
	with, ok := impl.WithRefs(e, f.Refs)
	if !ok {
		t.Fatalf("%.80q: its own refs are refused", source)
	}
	if again := impl.RunOnce(source, with, book, budget); !same(again, impl.Ran{Pages: f.Pages, Refs: f.Refs, Notes: f.Notes}) {
		t.Fatalf("%.80q: once more it is %q and %v, not %q and %v", source, sheetTexts(again.Pages), again.Refs, sheetTexts(f.Pages), f.Refs)
	}
}

// plainJob is a job with the plain format.
func plainJob(t *testing.T, source string) impl.Finished {
	t.Helper()
	return checkJob(t, source, impl.FormatEnv(), impl.PlainBook(), impl.MaxBudget)
}
