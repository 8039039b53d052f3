package tests

import (
	"slices"
	"testing"

	"loop.example/g00014/impl"
)

// assignEnv has something in the registers 0, 2 and 31 and a few names.
func assignEnv(t *testing.T) impl.Env {
	t.Helper()
	e := impl.NewEnv()
	l := &e.Levels[0]
	for _, i := range []int{0, 2, 31} {
		l.Counts[i], l.Lens[i], l.Glues[i], l.Toks[i] = 7, 98304, glue(65536, 131072, 1, 0, 0), toks("\\old")
	}
	e = mustSet(t, e, setName("x", macro(0, nil, toks("xyz"))), false)
	return mustSet(t, e, setName("c", means(letter('c'))), false)
}

func assignments() []digestCase {
	const pt = impl.Point
	two := func(text string, s impl.Set) digestCase { return sets(text, 1, s) }
	word := func(text string, m impl.Mean) digestCase { return sets(text, 1, setName("y", m)) }
	return []digestCase{
		two("\\count 2=5 ", setCount(2, 5)), two("\\count 2 5 ", setCount(2, 5)), two("\\count 2 = 5 ", setCount(2, 5)), two("\\count 2= 5\n", setCount(2, 5)), two("\\count2=-5 ", setCount(2, -5)), two("\\count 0=1 ", setCount(0, 1)), two("\\count 31=1 ", setCount(31, 1)), two("\\count\\count 2=\\count 31 ", setCount(7, 7)), two("\\count 2=2147483647 ", setCount(2, impl.MaxCount)), two("\\count 2=-2147483647 ", setCount(2, -impl.MaxCount)), sets("\\count 2\\iftrue\\fi=\\iftrue\\fi 5 ", 5, setCount(2, 5)),
		two("\\len 2=5pt ", setLen(2, 5*pt)), two("\\len 2 5pt ", setLen(2, 5*pt)), two("\\len 2 = 5pt", setLen(2, 5*pt)), two("\\len 0-5pt ", setLen(0, -5*pt)), two("\\len 31=\\len 2 ", setLen(31, 98304)), two("\\len 2=1073741823sp", setLen(2, impl.MaxLen)),
		two("\\glue 2=5pt plus 1fil minus 2pt ", setWholeGlue(2, glue(5*pt, pt, 1, 2*pt, 0))), two("\\glue 0 5pt", setWholeGlue(0, glue(5*pt, 0, 0, 0, 0))), two("\\glue 31 = -\\glue 2 ", setWholeGlue(31, glue(-pt, -2*pt, 1, 0, 0))),
		two("\\toks 2={ab}", setToks(2, toks("ab")...)), two("\\toks 0{}", setToks(0)), two("\\toks 31 = {\\x{#}\\y}", setToks(31, toks("\\x{#}\\y")...)), two("\\toks 2\\relax{a}", setToks(2, toks("a")...)), two("\\toks 2=\\relax\\relax{a}", setToks(2, toks("a")...)), sets("\\toks 2=\\iftrue{\\fi}", 2, setToks(2, name("fi"))),
		two("\\cat 64=4 ", setCat(64, 4)), two("\\cat 0 15 ", setCat(0, 15)), two("\\cat 255 = 0 ", setCat(255, 0)), two("\\cat`@=1 ", setCat(64, 1)),
		two("\\advance\\count 2 by 3 ", setCount(2, 10)), two("\\advance\\count 2 3 ", setCount(2, 10)), two("\\advance \\count 2by-3 ", setCount(2, 4)), two("\\advance\\count 31 by 2147483640 ", setCount(31, impl.MaxCount)), two("\\advance\\count 0\\count 2 ", setCount(0, 14)), sets("\\advance\\iftrue\\count\\fi 2 b\\iftrue y\\fi 3 ", 5, setCount(2, 10)),
		two("\\advance\\len 2 by 1pt", setLen(2, 163840)), two("\\advance\\len 2-2.5pt ", setLen(2, -65536)), two("\\advance\\glue 2 by 1pt plus 1pt minus 3pt ", setWholeGlue(2, glue(2*pt, 2*pt, 1, 3*pt, 0))), two("\\advance\\glue 2 1pt plus-2fil", setWholeGlue(2, glue(2*pt, 0, 0, 0, 0))),
		two("\\times\\count 2 by 3 ", setCount(2, 21)), two("\\times\\count 2-3 ", setCount(2, -21)), two("\\times\\len 2 by-2 ", setLen(2, -196608)), two("\\times\\len 2 0 ", setLen(2, 0)), two("\\times\\count 2 by 306783378 ", setCount(2, 2147483646)),
		two("\\divide\\count 2 by 2 ", setCount(2, 3)), two("\\divide\\count 2-2 ", setCount(2, -3)), two("\\divide\\count 2 by 8 ", setCount(2, 0)), two("\\divide\\len 2 by 5 ", setLen(2, 19661)), two("\\divide\\len 2-5 ", setLen(2, -19661)), two("\\divide\\len 2 by 196608 ", setLen(2, 1)), two("\\divide\\len 2 by 196609 ", setLen(2, 0)),
		word("\\def\\y{ab}", macro(0, nil, toks("ab"))), word("\\def\\y{}", macro(0, nil, nil)), word("\\def\\y#1{<#1>}", macro(1, slots(1), list(char(5, '<'), slot(1), char(5, '>')))), word("\\def\\y a#1.#2{#2#1#2}", macro(2, list(letter('a'), slot(1), char(5, '.'), slot(2)), list(slot(2), slot(1), slot(2)))), word("\\def\\y\\x ~\\par{\\x}", macro(0, toks("\\x~\\par"), toks("\\x"))), word("\\def\\y#1#2#3#4#5#6#7#8#9{#9}", macro(9, slots(9), list(slot(9)))), word("\\def\\y{##}", macro(0, nil, list(char(impl.CatParam, '#')))), word("\\def\\y#1{##1#1}", macro(1, slots(1), list(char(impl.CatParam, '#'), char(5, '1'), slot(1)))), word("\\def\\y#1{\\def\\z##1{#1{##1}####}}", macro(1, slots(1), slices.Concat(toks("\\def\\z#1{"), list(slot(1)), toks("{#1}##}")))), word("\\def\\y{\\unknown{\\fi}}", macro(0, nil, toks("\\unknown{\\fi}"))), word("\\def\\y #1 {}", macro(1, list(slot(1), space()), nil)),
		sets("\\edef\\y{\\x}", 2, setName("y", macro(0, nil, toks("xyz")))), sets("\\edef\\y#1{\\number\\count 2#1##\\noexpand\\x}", 2, setName("y", macro(1, slots(1), slices.Concat(others("7"), list(slot(1), char(impl.CatParam, '#')), toks("\\x"))))), sets("\\edef\\y#1{\\the\\toks 2\\string##1}", 3, setName("y", macro(1, slots(1), slices.Concat(toks("\\old"), list(char(5, '#'), slot(1)))))),
		sets("\\edef\\y#1#2{\\iffalse#1\\fi\\csname z#2\\endcsname}", 3, setName("y", macro(2, slots(2), list(name("z#2"))))),
		word("\\let\\y=a", means(letter('a'))), word("\\let\\y a", means(letter('a'))), word("\\let\\y==", means(char(5, '='))), word("\\let\\y{", means(open())), word("\\let\\y=}", means(shut())), word("\\let\\y#", means(char(impl.CatParam, '#'))), word("\\let\\y=\\x", macro(0, nil, toks("xyz"))), word("\\let\\y\\c", means(letter('c'))), word("\\let\\y\\def", prim(impl.PrimDef)), word("\\let\\y\\fi", prim(impl.PrimFi)), word("\\let\\y= ", means(space())), sets("\\let\\x\\unknown", 1, setName("x", impl.Mean{})), sets("\\let\\unknown\\other", 1), sets("\\let\\1 =b", 1, setName("1", means(letter('b')))), sets("\\let\\1 b", 1, setName("1", means(letter('b')))), sets("\\let\\x\\x", 1), sets("\\let\\par\\relax", 1, setName("par", prim(impl.PrimRelax))),
		sets("\\def\\par{}", 1, setName("par", macro(0, nil, nil))), sets("\\def\\1{a}", 1, setName("1", macro(0, nil, toks("a")))), sets("\\expandafter\\def\\csname\\endcsname{a}", 3, setName("", macro(0, nil, toks("a")))), sets("\\expandafter\\let\\csname a b\\endcsname=\\x", 3, setName("a b", macro(0, nil, toks("xyz")))),
	}
}

func TestAssignments(t *testing.T) {
	e := assignEnv(t)
	for _, c := range assignments() {
		c.check(t, e)
		set := setAll(t, e, c.sets)
		for _, g := range []struct {
			ahead, behind string
			cost          int64
			env           impl.Env
			cmds          []impl.Cmd
		}{
			{"{", "}", 2, e, grouped()}, {"\\begingroup", "\\endgroup", 2, e, nil}, {"\\hbox{", "}", 2, e, boxed(cmdNums(impl.CmdHbox, 0, 0))},
			{"\\global", "\\relax", 1, set, nil}, {"{\\global", "}", 2, set, grouped()}, {"{\\begingroup\\global \\relax\\global\\relax", "\\endgroup}", 4, set, grouped()}, {"\\vbox{{\\global", "}}", 4, set, boxed(cmdNums(impl.CmdVbox, 0, 0), grouped()...)},
		} {
			text := g.ahead + c.text + g.behind
			want := impl.Digested{Env: g.env, Cmds: then(g.cmds, cmds(parOf(g.env.Levels[0]))), At: int64(len(text)), Left: 50 - c.cost - g.cost}
			if got := impl.Digest(e, text, 50); !same(got, want) {
				got.Env, want.Env = differing(got.Env, want.Env)
				t.Errorf("%q:\n%+v, want\n%+v", text, got, want)
			}
		}
	}
}

// What is set counts at once, in the group that sets it and in those within; what is set globally also in those around it.
func TestWhatIsSetCountsAtOnce(t *testing.T) {
	e := assignEnv(t)
	show := "\\number\\count 2,"
	for text, want := range map[string]string{
		"\\count 2=1 " + show: "1,", "{\\count 2=1 " + show + "}" + show: "1,7,", "{\\count 2=1 {" + show + "\\count 2=2 " + show + "}" + show + "}" + show: "1,2,1,7,", "{\\count 2=1 {\\global\\count 2=2 " + show + "}" + show + "}" + show: "2,2,2,", "{\\global\\count 2=2 \\count 2=1 " + show + "}" + show: "1,2,", "\\begingroup\\count 2=1 " + show + "\\endgroup " + show: "1,7,", "{\\count 2=1 \\global\\advance\\count 2 by 1 " + show + "}" + show: "2,2,",
		"\\def\\y{a}{\\def\\y{b}\\y}\\y": "ba", "{\\gdef\\y{b}\\y}\\y": "bb", "{\\def\\y{a}{\\gdef\\y{b}}\\y}\\y": "bb", "\\def\\y#1{<#1>}\\y a\\y{bc}": "<a><bc>", "\\def\\y#1.#2;{#2#1}\\y a.b;": "ba", "\\def\\y{\\def\\z##1{[##1]}}\\y\\z q": "[q]", "\\def\\y#1{\\def\\z##1{#1##1}}\\y p\\z q": "pq", "\\def\\y{a}\\edef\\z{\\y}\\def\\y{b}\\z": "a", "\\def\\y{a}\\def\\z{\\y}\\def\\y{b}\\z": "b", "\\def\\y{a}\\let\\z\\y\\def\\y{b}\\z": "a", "\\let\\y=a\\y": "a", "\\let\\y=\\x\\y": "xyz", "\\let\\y= b": "b", "\\global\\let\\z\\count\\z 2=9 \\number\\z2 ": "9", "\\edef\\y{\\noexpand\\x}\\def\\x{n}\\y": "n", "\\edef\\y#1{\\number\\count 2#1}\\count 2=0 \\y a": "7a", "\\toks 1={\\x}\\def\\x{t}\\the\\toks 1 ": "t",
		"\\len 1=2pt \\the\\len 1,\\advance\\len 1 by\\len 1 \\the\\len 1 ": "2.0pt,4.0pt", "\\len 1=2pt\\the\\len 1 ": "0.0pt", "\\glue 1=1pt plus 2fil\\relax\\advance\\glue 1 by\\glue 1 \\edef\\y{\\the\\glue 1}\\y": "2.0ptplus4.0fil",
		"\\count 1=3 \\times\\count 1 by\\count 1\\divide\\count 1 2 \\number\\count 1 ": "4", "\\count 1=-7 \\divide\\count 1 by 2 \\number\\count 1 ": "-3", "\\count 1=-7 \\divide\\count 1-2 \\number\\count 1 ": "3",
	} {
		got := impl.Digest(e, text, 200)
		var bytes []byte
		for _, c := range got.Cmds {
			if c.Kind == impl.CmdChar {
				bytes = append(bytes, byte(c.N))
			}
		}
		if got.Code != impl.DigOk || string(bytes) != want || len(got.Notes) != 0 {
			t.Errorf("%q: %d %q, want %q; %q", text, got.Code, bytes, want, got.Notes)
		}
	}
}

// Categories count from the next byte on that is scanned: what was looked at is scanned already.
func TestCategoriesChangeInTheMidst(t *testing.T) {
	e := impl.NewEnv()
	eat := setName("m", macro(1, slots(1), slices.Concat(toks("\\cat 64=1 "), list(slot(1)))))
	for _, c := range []digestCase{
		gives("\\cat 64=1 @a}", 4, grouped(typed("a", 0)...)...).setting(setCat(64, 1)), gives("\\cat 64=1@a}", 4, typed("@a", 0)...).setting(setCat(64, 1)).telling("stray close"), gives("\\cat 64=1\\relax @a}", 5, grouped(typed("a", 0)...)...).setting(setCat(64, 1)),
		gives("{\\cat 64=13 @}@", 5, then(grouped(cmd(impl.CmdTab)), typed("@", 0))...), gives("{\\global\\cat 64=13 @}@", 5, then(grouped(cmd(impl.CmdTab)), cmds(cmd(impl.CmdTab)))...).setting(setCat(64, 13)), gives("\\begingroup\\cat 64=13 @\\endgroup@", 5, then(cmds(cmd(impl.CmdTab)), typed("@", 0))...),
		gives("\\cat 98=9 abc", 3, typed("ac", 0)...).setting(setCat(98, 9)), gives("\\cat 98=15 abc", 3, typed("ac", 0)...).setting(setCat(98, 15)).telling("bad byte"), gives("\\cat 33=6 a!!b", 5, then(typed("a ", 0), cmds(parOf(e.Levels[0])), typed("b", 0))...).setting(setCat(33, 6)), gives("\\cat 33=8 a!bc\nd", 3, typed("ad", 0)...).setting(setCat(33, 8)), gives("\\cat 33=0 !relax!indent", 3, cmd(impl.CmdIndent)).setting(setCat(33, 0)), gives("\\cat 92=5 \\a", 3, typed("\\a", 0)...).setting(setCat(92, 5)), gives("\\cat 49=4 \\a1", 2).setting(setCat(49, 4)).telling("no meaning: \\a1"), gives("\\cat 33=7 !", 2).setting(setCat(33, 7)).telling("stray parameter"), gives("\\cat 33=14 !", 2, impl.Cmd{Kind: impl.CmdChar, N: 32, Nums: []int64{0}}).setting(setCat(33, 14)), gives("\\cat 33=3 a!!b", 4, typed("a b", 0)...).setting(setCat(33, 3)), gives("\\cat 0=4 \x00\\cat 255=15 \xff", 3, typed("\x00", 0)...).setting(setCat(0, 4), setCat(255, 15)).telling("bad byte"),
		gives("\\def\\m#1{\\cat 64=1 #1}\\m{@}@}", 6, then(typed("@", 0), grouped())...).setting(setCat(64, 1), eat),
		gives("\\cat 33=7 \\def\\y!1#2{!2#1!!}", 2).setting(setCat(33, 7), setName("y", macro(2, slots(2), list(slot(2), slot(1), char(impl.CatParam, '!'))))), gives("\\cat 33=7 \\def\\y{!##!}", 2).setting(setCat(33, 7), setName("y", macro(0, nil, list(char(impl.CatParam, '!'), char(impl.CatParam, '#'))))), gives("\\cat 91=1 \\cat 93=2 \\toks 1[a}b]\\hbox[}", 7, then(typed("b", 0), boxed(cmdNums(impl.CmdHbox, 0, 0)))...).setting(setCat(91, 1), setCat(93, 2), setToks(1, letter('a'))).telling("stray close"),
	} {
		c.check(t, e)
	}
}
