package tests

import (
	"slices"
	"strings"
	"testing"

	"loop.example/g00014/impl"
)

// plainDigester tells chapter 5 plainly: a list that goes on into a text, and an environment in which each setting is a call of chapter 3.
type plainDigester struct {
	plain
	env       impl.Env
	text      string
	at, state int64
	groups    []string
	cmds      []impl.Cmd
	notes     []string
	over      bool
}

// ofDigest sets the codes of chapter 5 apart from those of chapter 4.
const ofDigest = 1000

func (d *plainDigester) refuse(code int64) { d.fail(ofDigest + code) }

func (d *plainDigester) told() int64 {
	switch {
	case d.code >= ofDigest:
		return d.code - ofDigest
	case d.code == 1:
		return 10
	case d.code == 5:
		return 2
	case d.code == 8:
		return 3
	case d.code == 0:
		return 0
	}
	return 100 + d.code
}

func digestedPlainly(e impl.Env, text string, budget int64) impl.Digested {
	d := &plainDigester{text: text}
	d.enter(e)
	d.left = budget
	d.more = d.scan
	for !d.over {
		d.settle()
		if !d.has() {
			break
		}
		if d.left == 0 {
			d.fail(impl.ExpBudget)
			break
		}
		d.left--
		d.do(d.take())
	}
	d.finish()
	for len(d.env.Levels) > 1 {
		d.env, _ = impl.CloseGroup(d.env)
	}
	return impl.Digested{Env: d.env, Cmds: d.cmds, Notes: d.notes, Code: d.told(), At: d.at, Left: d.left}
}

func (d *plainDigester) enter(e impl.Env) {
	d.env = e
	d.level = e.Levels[len(e.Levels)-1]
}

func (d *plainDigester) scan() (impl.Token, bool) {
	for {
		s := impl.Next(d.level.Cats, d.text, d.at, d.state)
		d.at, d.state = s.At, s.State
		if s.Kind != impl.ScanBad {
			return s.Token, s.Kind == impl.ScanToken
		}
		d.tell("bad byte")
	}
}

func (d *plainDigester) tell(note string) {
	if d.code == 0 && len(d.notes) < 200 {
		d.notes = append(d.notes, note)
	}
}

func (d *plainDigester) emit(c impl.Cmd) {
	if len(d.cmds) == 20000 {
		d.refuse(3)
	}
	if d.code == 0 {
		d.cmds = append(d.cmds, c)
	}
}

func (d *plainDigester) begin(sort string) {
	if d.code != 0 {
		return
	}
	e, ok := impl.OpenGroup(d.env)
	if !ok {
		d.refuse(5)
		return
	}
	d.enter(e)
	d.groups = append(d.groups, sort)
}

// last is the sort of the group that was opened last.
func (d *plainDigester) last() string {
	if len(d.groups) == 0 {
		return ""
	}
	return d.groups[len(d.groups)-1]
}

func (d *plainDigester) shut() {
	switch d.last() {
	case "brace":
		d.emit(impl.Cmd{Kind: 31})
	case "box":
		d.emit(impl.Cmd{Kind: 27})
	}
	if d.code == 0 {
		e, _ := impl.CloseGroup(d.env)
		d.enter(e)
		d.groups = d.groups[:len(d.groups)-1]
	}
}

func (d *plainDigester) finish() {
	for d.code == 0 && len(d.groups) > 0 {
		d.tell("open group")
		d.shut()
	}
	if d.code == 0 {
		d.emit(d.par())
	}
}

func (d *plainDigester) par() impl.Cmd {
	c := impl.Cmd{Kind: 7}
	for i := range 16 {
		c.Nums = append(c.Nums, d.level.Counts[i])
	}
	for i := range 16 {
		c.Nums = append(c.Nums, d.level.Lens[i])
	}
	for i := range 8 {
		c.Glues = append(c.Glues, d.level.Glues[i])
	}
	return c
}

func (d *plainDigester) do(t impl.Token) {
	m := d.mean(t)
	if m.Kind == 2 {
		d.doCharacter(m.Token)
		return
	}
	if m.Kind == 0 {
		shown := "\\" + t.Name
		if n := len(t.Name); n > 0 && strings.ContainsAny(strings.ToLower(t.Name[n-1:]), "abcdefghijklmnopqrstuvwxyz") {
			shown += " "
		}
		d.tell("no meaning: " + shown)
		return
	}
	word := impl.PrimName(m.Num)
	if assigns(word) {
		d.assign(word, false)
	} else {
		d.doWord(word)
	}
}

func (d *plainDigester) doCharacter(t impl.Token) {
	font := []int64{d.level.Counts[31]}
	switch t.Cat {
	case 4, 5:
		d.emit(impl.Cmd{Kind: 1, N: t.Char, Nums: font})
	case 14:
		d.emit(impl.Cmd{Kind: 1, N: 32, Nums: font})
	case 3:
		d.emit(impl.Cmd{Kind: 2, Nums: font})
	case 10, 11, 12, 13:
		d.emit(impl.Cmd{Kind: t.Cat - 7})
	case 7:
		d.tell("stray parameter")
	case 1:
		d.emit(impl.Cmd{Kind: 30})
		d.begin("brace")
	case 2:
		if d.last() == "" || d.last() == "begingroup" {
			d.tell("stray close")
		} else {
			d.shut()
		}
	}
}

// bare are the commands that hold nothing.
var bare = map[string]int64{"indent": 13, "noindent": 14, "frac": 21, "root": 22, "over": 23, "row": 24, "shipout": 26}

func (d *plainDigester) doWord(word string) {
	if kind, ok := bare[word]; ok {
		d.emit(impl.Cmd{Kind: kind})
		return
	}
	switch word {
	case "par":
		d.emit(d.par())
	case "hskip":
		d.emit(impl.Cmd{Kind: 8, Glue: d.glue()})
	case "vskip":
		d.emit(impl.Cmd{Kind: 9, Glue: d.glue()})
	case "kern":
		d.emit(impl.Cmd{Kind: 10, N: d.length()})
	case "penalty":
		d.emit(impl.Cmd{Kind: 11, N: d.number()})
	case "rule":
		width := d.length()
		height := d.length()
		depth := d.length()
		d.emit(impl.Cmd{Kind: 12, Nums: []int64{width, height, depth}})
	case "font":
		d.set(setCount(31, d.among(0, 15)), false)
	case "message":
		text := d.says()
		d.tell("say: " + text)
	case "write":
		d.emit(impl.Cmd{Kind: 15, Text: d.says()})
	case "mark":
		d.emit(impl.Cmd{Kind: 16, Text: d.says()})
	case "end":
		d.over = true
	case "span":
		d.emit(impl.Cmd{Kind: 25, N: d.among(1, 20)})
	case "box":
		d.emit(impl.Cmd{Kind: 28, N: d.among(0, 15)})
	case "setbox":
		d.emit(impl.Cmd{Kind: 29, N: d.among(0, 15)})
	case "begingroup":
		d.begin("begingroup")
	case "endgroup":
		if d.last() == "begingroup" {
			d.shut()
		} else {
			d.tell("stray endgroup")
		}
	case "global":
		d.global()
	case "hbox", "vbox", "note", "table":
		d.container(word)
	}
}

func (d *plainDigester) container(word string) {
	var c impl.Cmd
	switch word {
	case "hbox", "vbox":
		c.Kind = 17
		if word == "vbox" {
			c.Kind = 18
		}
		c.Nums = []int64{0, 0}
		if d.spacedWord("to") {
			c.Nums = []int64{1, d.length()}
		} else if d.spacedWord("spread") {
			c.Nums = []int64{2, d.length()}
		}
	case "note":
		c = impl.Cmd{Kind: 19, N: d.among(0, 15)}
	case "table":
		c = impl.Cmd{Kind: 20, N: d.among(1, 20)}
	}
	if t := d.takeNext(); t.Cat != 1 {
		d.refuse(4)
	}
	d.begin("box")
	d.emit(c)
}

func (d *plainDigester) among(least, most int64) int64 {
	n := d.number()
	if n < least || n > most {
		d.refuse(11)
	}
	return n
}

// pass takes what comes as long as it is a space or one of these words.
func (d *plainDigester) pass(words string) {
	for {
		t := d.next()
		if !d.has() || d.mean(t).Token.Cat != 3 && !oneOf(words, d.called(t)) {
			return
		}
		d.take()
	}
}

// inside are the tokens up to the end of a group of which the beginning is taken.
func (d *plainDigester) inside() []impl.Token {
	var out []impl.Token
	for {
		t := d.take()
		if d.code != 0 || t.Cat == 2 && balancedIs(out) {
			return out
		}
		out = append(out, t)
	}
}

func (d *plainDigester) group(otherwise int64) []impl.Token {
	d.pass(" relax ")
	if t := d.takeNext(); t.Cat != 1 {
		d.refuse(otherwise)
	}
	return d.inside()
}

func (d *plainDigester) expanded(ts []impl.Token) []impl.Token {
	p := plain{level: d.level, ts: ts, left: d.left, code: d.code}
	if len(ts) > 20000 {
		p.fail(impl.ExpFull)
	}
	out := p.all()
	d.left = p.left
	d.fail(p.code)
	return out
}

func (d *plainDigester) says() string { return impl.ShowTokens(d.expanded(d.group(4))) }

func assigns(word string) bool {
	return oneOf(" def gdef edef let count len glue toks advance times divide cat ", word)
}

func (d *plainDigester) global() {
	d.pass(" relax global ")
	if !d.has() {
		d.refuse(6)
		return
	}
	word := d.called(d.take())
	if !assigns(word) {
		d.refuse(6)
		return
	}
	d.assign(word, true)
}

func (d *plainDigester) set(s impl.Set, global bool) {
	if d.code != 0 {
		return
	}
	e, ok := impl.SetEnv(d.env, s, global)
	if !ok {
		d.refuse(11)
		return
	}
	d.enter(e)
}

func (d *plainDigester) assign(word string, global bool) {
	switch word {
	case "def", "gdef", "edef":
		d.define(word == "edef", global || word == "gdef")
	case "let":
		n := d.name()
		t := d.take()
		for d.code == 0 && d.mean(t).Token.Cat == 3 {
			t = d.take()
		}
		if isNamed(t, '=') {
			t = d.take()
		}
		d.set(setName(n, d.mean(t)), global)
	case "advance", "times", "divide":
		d.change(word, global)
	case "cat":
		at := d.among(0, 255)
		d.equals()
		d.set(setCat(at, d.among(0, 15)), global)
	default:
		at := d.among(0, 31)
		d.equals()
		d.set(d.register(word, at), global)
	}
}

func (d *plainDigester) equals() {
	d.pass("")
	if isNamed(d.next(), '=') {
		d.take()
	}
}

func (d *plainDigester) register(word string, at int64) impl.Set {
	switch word {
	case "count":
		return setCount(at, d.number())
	case "len":
		return setLen(at, d.length())
	case "glue":
		return setWholeGlue(at, d.glue())
	}
	ts := d.group(9)
	if len(ts) > 2000 {
		d.refuse(9)
	}
	return setToks(at, ts...)
}

func (d *plainDigester) name() string {
	t := d.take()
	if t.Cat != 0 {
		d.refuse(7)
	}
	return t.Name
}

func (d *plainDigester) define(expand, global bool) {
	n := d.name()
	m := impl.Macro{}
	for d.code == 0 {
		t := d.take()
		if t.Cat == 1 {
			break
		}
		if len(m.Pattern) == 100 {
			d.refuse(8)
		}
		if t.Cat == 7 {
			t = d.slotOf(d.take())
			m.Slots++
		}
		m.Pattern = append(m.Pattern, t)
	}
	body := d.inside()
	if expand {
		body = d.expanded(body)
	}
	m.Body = d.slotted(body)
	if !macroIs(m) {
		d.refuse(8)
	}
	d.set(setName(n, impl.Mean{Kind: 3, Macro: m}), global)
}

func (d *plainDigester) slotOf(t impl.Token) impl.Token {
	if t.Cat != 5 || t.Char < '1' || t.Char > '9' {
		d.refuse(8)
	}
	return slot(t.Char - '0')
}

func (d *plainDigester) slotted(body []impl.Token) []impl.Token {
	var out []impl.Token
	for i := 0; i < len(body); i++ {
		switch {
		case body[i].Cat != 7:
			out = append(out, body[i])
		case i+1 == len(body):
			d.refuse(8)
		case body[i+1].Cat == 7:
			out = append(out, body[i])
			i++
		default:
			out = append(out, d.slotOf(body[i+1]))
			i++
		}
	}
	return out
}

func (d *plainDigester) change(word string, global bool) {
	d.pass("")
	if !d.has() {
		d.refuse(6)
		return
	}
	kind := d.called(d.take())
	if kind != "count" && kind != "len" && (kind != "glue" || word != "advance") {
		d.refuse(6)
		return
	}
	at := d.among(0, 31)
	d.spacedWord("by")
	if d.code != 0 {
		return
	}
	s := impl.Set{Kind: map[string]int64{"count": 2, "len": 3, "glue": 4}[kind], At: at}
	ok := true
	switch kind + " " + word {
	case "count advance":
		s.N = d.level.Counts[at] + d.number()
	case "count times":
		s.N = d.level.Counts[at] * d.number()
	case "count divide":
		if n := d.number(); n == 0 {
			ok = false
		} else {
			s.N = d.level.Counts[at] / n
		}
	case "len advance":
		s.N = d.level.Lens[at] + d.length()
	case "len times":
		s.N, ok = impl.Ratio(d.level.Lens[at], d.number(), 1)
	case "len divide":
		s.N, ok = impl.Ratio(d.level.Lens[at], 1, d.number())
	case "glue advance":
		s.Glue, ok = impl.AddGlue(d.level.Glues[at], d.glue())
	}
	if !ok {
		d.refuse(11)
	}
	d.set(s, global)
}

// checkDigest holds what is made of a text against what is told plainly.
func checkDigest(t *testing.T, e impl.Env, text string, budget int64) impl.Digested {
	t.Helper()
	got, want := impl.Digest(e, text, budget), digestedPlainly(e, text, budget)
	if !same(got, want) {
		got.Env, want.Env = differing(got.Env, want.Env)
		t.Fatalf("%q with %d:\n%+v, want\n%+v", text, budget, got, want)
	}
	return got
}

// differing leaves of two environments only the binds in which they differ, if these do: a whole one is too long to be read.
func differing(a, b impl.Env) (impl.Env, impl.Env) {
	if len(a.Levels) != 1 || len(b.Levels) != 1 || same(a, b) {
		return impl.Env{}, impl.Env{}
	}
	without := func(l, other impl.Level) impl.Env {
		l.Cats = nil
		l.Binds = slices.DeleteFunc(slices.Clone(l.Binds), func(x impl.Bind) bool {
			return slices.ContainsFunc(other.Binds, func(y impl.Bind) bool { return same(x, y) })
		})
		return impl.Env{Levels: []impl.Level{l}}
	}
	return without(a.Levels[0], b.Levels[0]), without(b.Levels[0], a.Levels[0])
}
