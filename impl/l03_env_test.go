package impl

import (
	"math/rand"
	"reflect"
	"strconv"
	"testing"
)

// Within one scope much may be set in turns before a group ends, while each call of SetEnv begins with a new one: both ways lead to the same.

func randomSet(r *rand.Rand, names int) Set {
	at := r.Int63n(3)
	name := "name" + strconv.Itoa(r.Intn(names))
	means := []Mean{{}, {Num: 1}, {Kind: MeanPrim, Num: 1 + r.Int63n(58)}, {Kind: MeanMacro, Macro: Macro{Body: []Token{{Cat: CatLetter, Char: r.Int63n(256)}}}}}
	toks := []Token{{Cat: CatLetter, Char: r.Int63n(256)}}
	return Set{Kind: r.Int63n(8), At: at, Name: name, N: r.Int63n(16), Glue: Glue{Size: r.Int63n(9)}, Toks: toks, Mean: means[r.Intn(len(means))]}
}

func sameLists(e Env) Env {
	for i := range e.Levels {
		if len(e.Levels[i].Binds) == 0 {
			e.Levels[i].Binds = nil
		}
	}
	return e
}

func checkTurns(t *testing.T, r *rand.Rand, start Env, names int) {
	t.Helper()
	s, e := scopeOf(start), start
	for range 200 {
		var ok, want bool
		switch r.Intn(8) {
		case 0:
			ok = s.open()
			e, want = OpenGroup(e)
		case 1:
			ok = s.close()
			e, want = CloseGroup(e)
		default:
			set, global := randomSet(r, names), r.Intn(4) == 0
			what := settableOf(set)
			ok = what != nil && what.set(s, global)
			e, want = SetEnv(e, set, global)
		}
		last := len(e.Levels) - 1
		if ok != want || s.top() != last || s.bound[last] != len(e.Levels[last].Binds) {
			t.Fatalf("%v, want %v; level %d, want %d; names %v", ok, want, s.top(), last, s.bound)
		}
	}
	if got := s.unwind(); !reflect.DeepEqual(sameLists(got), sameLists(e)) {
		t.Fatal("the scope holds another environment")
	}
}

func TestManySettingsInOneScope(t *testing.T) {
	r := rand.New(rand.NewSource(8))
	for range 20 {
		checkTurns(t, r, NewEnv(), 3)
	}
}

func TestManyNamesInOneScope(t *testing.T) {
	r := rand.New(rand.NewSource(9))
	for range 4 {
		e := NewEnv()
		e.Levels[0].Binds = nil
		for i := range MaxBinds - 3 {
			e.Levels[0].Binds = append(e.Levels[0].Binds, Bind{"a" + strconv.Itoa(1000+i), Mean{Kind: MeanPrim, Num: 1}})
		}
		checkTurns(t, r, e, 12)
	}
}
