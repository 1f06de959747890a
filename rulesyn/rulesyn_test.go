package rulesyn

import (
	"math"
	"reflect"
	"slices"
	"strings"
	"testing"

	"scriptshift/api"
	"scriptshift/runes"
	"scriptshift/setsyn"
)

func letters(l ...rune) []api.Item {
	var out []api.Item
	for _, r := range l {
		out = append(out, api.Item{Kind: api.ItRune, Rune: r})
	}
	return out
}

func set(l ...api.Span) api.Item { return api.Item{Kind: api.ItSet, Set: l} }

func named(s string) api.Item { return api.Item{Kind: api.ItVar, Name: s} }

func list(l ...api.Item) []api.Item { return l }

// bare is a side that is a Source alone.
func bare(l ...api.Item) api.Side { return api.Side{Source: l, Cursor: -1} }

func rule(left api.Side, dir int, right api.Side) api.Part {
	return api.Part{Kind: api.PaRule, Left: left, Dir: dir, Right: right}
}

// same is whether the parts are the same, nil and no entries being one.
func same(a, b []api.Part) bool {
	spans := func(a, b []api.Span) bool { return slices.Equal(a, b) }
	items := func(a, b []api.Item) bool {
		return slices.EqualFunc(a, b, func(x, y api.Item) bool {
			return x.Kind == y.Kind && x.Rune == y.Rune && x.Name == y.Name && spans(x.Set, y.Set)
		})
	}
	sides := func(a, b api.Side) bool {
		return a.Start == b.Start && a.End == b.End && a.Cursor == b.Cursor && items(a.Before, b.Before) && items(a.Source, b.Source) && items(a.After, b.After)
	}
	return slices.EqualFunc(a, b, func(x, y api.Part) bool {
		return x.Kind == y.Kind && x.Name == y.Name && x.Dir == y.Dir && spans(x.Set, y.Set) && sides(x.Left, y.Left) && sides(x.Right, y.Right)
	})
}

func reads(t *testing.T, text string, want ...api.Part) {
	t.Helper()
	l, f := Read(text)
	if f != (api.Fault{}) || !same(l, want) {
		t.Errorf("Read(%q): %v, %v, not %v", text, l, f, want)
	}
}

func faults(t *testing.T, text string, err api.Errno, at int) {
	t.Helper()
	l, f := Read(text)
	if f != (api.Fault{Err: err, At: at}) || l != nil {
		t.Errorf("Read(%.80q): %v, %v, not {%d %d}", text, l, f, err, at)
	}
}

func prints(t *testing.T, want string, l ...api.Part) {
	t.Helper()
	text, f := Print(l)
	if f != (api.Fault{}) || text != want {
		t.Errorf("Print(%v): %q, %v, not %q", l, text, f, want)
	}
}

func wrong(t *testing.T, err api.Errno, at int, l ...api.Part) {
	t.Helper()
	want := api.Fault{Err: err, At: at}
	if f := Wrong(l); f != want {
		t.Errorf("Wrong(%v): %v, not %v", l, f, want)
	}
	if text, f := Print(l); f != want || (text != "") != (err == api.OK && len(l) > 0) {
		t.Errorf("Print(%v): %q, %v, not %v", l, text, f, want)
	}
}

// E1

func TestNames(t *testing.T) {
	const first, later = "abcdefghijklmnopqrstuvwxyz_", "abcdefghijklmnopqrstuvwxyz_0123456789"
	for a := range rune(400) {
		if got, want := Named(string(a)), strings.ContainsRune(first, a); got != want {
			t.Errorf("Named(%q): %v", string(a), got)
		}
		for b := range rune(400) {
			s := string([]rune{a, b})
			if got, want := Named(s), strings.ContainsRune(first, a) && strings.ContainsRune(later, b); got != want {
				t.Errorf("Named(%q): %v", s, got)
			}
		}
	}
	for n := range 60 {
		if got := Named(strings.Repeat("z", n)); got != (n >= 1 && n <= 20) {
			t.Errorf("Named of %d letters: %v", n, got)
		}
	}
	for _, s := range []string{"", "\xff", "a\xff", "a b", " a", "a ", "$a", "é", "aé", "日", "a\x00", "aaaaaaaaaaaaaaaaaaaé", "aB", "1", "0_"} {
		if Named(s) {
			t.Errorf("Named(%q)", s)
		}
	}
	for _, s := range []string{"_", "__", "_0", "a0123456789_zzzzzzzz", "x1y2"} {
		if !Named(s) {
			t.Errorf("not Named(%q)", s)
		}
	}
}

func TestPartsThatAreWrong(t *testing.T) {
	bad := []api.Span{{Low: 5, High: 4}}
	many := make([]api.Span, 201)
	wrong(t, api.OK, 0)
	for kind := -3; kind < 9; kind++ {
		if kind < 1 || kind > 4 {
			wrong(t, api.ErrKind, 0, api.Part{Kind: kind, Name: "upper"})
		}
	}
	wrong(t, api.ErrKind, 0, api.Part{Kind: math.MaxInt}, api.Part{Kind: math.MinInt})
	wrong(t, api.ErrName, 0, api.Part{Kind: api.PaVar})
	wrong(t, api.ErrName, 0, api.Part{Kind: api.PaVar, Name: "V", Set: bad})
	wrong(t, api.ErrRange, 0, api.Part{Kind: api.PaVar, Name: "v", Set: bad})
	wrong(t, api.ErrMany, 0, api.Part{Kind: api.PaVar, Name: "v", Set: many})
	wrong(t, api.ErrForm, 0, api.Part{Kind: api.PaVar, Name: "v", Set: []api.Span{{Low: 1, High: 2}, {Low: 3, High: 4}}})
	wrong(t, api.OK, 0, api.Part{Kind: api.PaVar, Name: "v"})
	wrong(t, api.OK, 0, api.Part{Kind: api.PaFilter})
	wrong(t, api.ErrRange, 0, api.Part{Kind: api.PaFilter, Name: "V", Set: bad})
	wrong(t, api.ErrMany, 0, api.Part{Kind: api.PaFilter, Set: many})
	for _, s := range []string{"", "low", "lowers", "Upper", "UPPER", "null ", "any", "v"} {
		wrong(t, api.ErrName, 0, api.Part{Kind: api.PaPass, Name: s})
	}
	for _, s := range []string{"lower", "null", "remove", "upper"} {
		wrong(t, api.OK, 0, api.Part{Kind: api.PaPass, Name: s})
	}
}

func TestThePartThatIsWrongFirst(t *testing.T) {
	null := api.Part{Kind: api.PaPass, Name: "null"}
	wrong(t, api.ErrName, 2, null, null, api.Part{Kind: api.PaVar}, api.Part{})
	wrong(t, api.ErrKind, 1, null, api.Part{}, api.Part{Kind: api.PaVar})
	wrong(t, api.ErrNone, 1, null, rule(bare(), api.DirForth, bare()), api.Part{})
	l := slices.Repeat([]api.Part{null}, 200)
	wrong(t, api.OK, 0, l...)
	l[199].Kind = 0
	wrong(t, api.ErrKind, 199, l...)
	wrong(t, api.ErrMany, 0, append(l, null)...)
	wrong(t, api.ErrMany, 0, make([]api.Part, 201)...)
}

func TestFieldsThatAKindHasNotMeanNothing(t *testing.T) {
	bad := []api.Span{{Low: -1, High: -2}}
	worst := api.Side{Start: true, Before: make([]api.Item, 30), Cursor: -7}
	full := func(kind int) api.Part {
		return api.Part{Kind: kind, Name: "upper", Dir: 9, Left: worst, Right: worst}
	}
	prints(t, "$upper = [] ;\n", full(api.PaVar))
	prints(t, ":: [] ;\n", full(api.PaFilter))
	p := full(api.PaPass)
	p.Set = bad
	prints(t, ":: upper ;\n", p)
	p = full(api.PaFilter)
	p.Name = "?"
	prints(t, ":: [] ;\n", p)
	p = rule(bare(api.Item{Kind: api.ItRune, Rune: 'a', Set: bad, Name: "?"}), api.DirForth, bare())
	p.Name, p.Set = "?", bad
	prints(t, "a > ;\n", p)
	prints(t, "[] $v > ;\n", rule(bare(api.Item{Kind: api.ItSet, Rune: -5, Name: "?"}, api.Item{Kind: api.ItVar, Rune: -5, Name: "v", Set: bad}), api.DirForth, bare()))
}

func TestItemsThatAreWrong(t *testing.T) {
	each := func(err api.Errno, x ...api.Item) {
		t.Helper()
		a := letters('a')
		wrong(t, err, 0, rule(api.Side{Before: x, Source: a, Cursor: -1}, api.DirForth, bare()))
		wrong(t, err, 0, rule(bare(x...), api.DirForth, bare()))
		wrong(t, err, 0, rule(api.Side{Source: a, After: x, Cursor: -1}, api.DirForth, bare()))
		wrong(t, err, 0, rule(bare(), api.DirBack, api.Side{Before: x, Source: a, Cursor: -1}))
		wrong(t, err, 0, rule(bare(), api.DirBack, bare(x...)))
		wrong(t, err, 0, rule(bare(), api.DirBack, api.Side{Source: a, After: x, Cursor: -1}))
	}
	for _, r := range []rune{-1, math.MinInt32, 55296, 57343, 1114112, math.MaxInt32} {
		each(api.ErrRange, api.Item{Kind: api.ItRune, Rune: r})
	}
	for _, r := range []rune{0, 55295, 57344, 65533, 1114111, ' ', ';'} {
		each(api.OK, api.Item{Kind: api.ItRune, Rune: r})
	}
	each(api.ErrRange, set(api.Span{Low: 0, High: 1114112}))
	each(api.ErrForm, set(api.Span{Low: 9, High: 9}, api.Span{Low: 10, High: 10}))
	each(api.ErrMany, set(make([]api.Span, 201)...))
	each(api.OK, set(), set(api.Span{Low: 55296, High: 57343}))
	each(api.ErrName, named(""))
	each(api.ErrName, named("9"))
	each(api.ErrName, named(strings.Repeat("v", 21)))
	each(api.OK, named(strings.Repeat("v", 20)))
	each(api.ErrKind, api.Item{})
	each(api.ErrKind, api.Item{Kind: 4})
	each(api.ErrKind, api.Item{Kind: -1})
	each(api.ErrName, named(""), api.Item{})
	each(api.ErrKind, api.Item{}, named(""))
	each(api.ErrMany, make([]api.Item, 21)...)
	each(api.ErrKind, make([]api.Item, 20)...)
	each(api.OK, slices.Repeat(letters('a'), 20)...)
}

func TestRulesThatAreWrong(t *testing.T) {
	a, none := bare(letters('a')...), bare()
	for dir := -2; dir < 7; dir++ {
		if dir < 1 || dir > 3 {
			wrong(t, api.ErrKind, 0, rule(api.Side{Before: make([]api.Item, 21)}, dir, none))
		}
	}
	wrong(t, api.ErrNone, 0, rule(none, api.DirForth, a))
	wrong(t, api.ErrNone, 0, rule(none, api.DirBoth, a))
	wrong(t, api.OK, 0, rule(none, api.DirBack, a))
	wrong(t, api.ErrNone, 0, rule(a, api.DirBack, none))
	wrong(t, api.ErrNone, 0, rule(a, api.DirBoth, none))
	wrong(t, api.OK, 0, rule(a, api.DirForth, none))
	at := func(cursor int) api.Side {
		s := bare(letters('a', 'b')...)
		s.Cursor = cursor
		return s
	}
	for n, want := range map[int]api.Errno{-1: api.OK, 0: api.OK, 1: api.OK, 2: api.OK, -2: api.ErrRange, 3: api.ErrRange, math.MinInt: api.ErrRange, math.MaxInt: api.ErrRange} {
		wrong(t, want, 0, rule(a, api.DirForth, at(n)))
		wrong(t, want, 0, rule(at(n), api.DirBack, a))
		wrong(t, want, 0, rule(at(n), api.DirBoth, a))
		wrong(t, want, 0, rule(a, api.DirBoth, at(n)))
		if n >= 0 && want == api.OK {
			want = api.ErrFit
		}
		wrong(t, want, 0, rule(at(n), api.DirForth, a))
		wrong(t, want, 0, rule(a, api.DirBack, at(n)))
	}
	// What is wrong with Left is told ahead of what is wrong with Right, a missing Source too.
	wrong(t, api.ErrNone, 0, rule(none, api.DirForth, bare(named(""))))
	wrong(t, api.ErrRange, 0, rule(at(3), api.DirForth, bare(named(""))))
	wrong(t, api.ErrName, 0, rule(a, api.DirForth, bare(named(""))))
	// A cursor that is none is told ahead of a Source that is none.
	wrong(t, api.ErrRange, 0, rule(api.Side{Cursor: 1}, api.DirForth, a))
	wrong(t, api.ErrNone, 0, rule(api.Side{}, api.DirForth, a))
}

func TestSidesThatDoNotFit(t *testing.T) {
	a := bare(letters('a')...)
	v, s := bare(named("v")), bare(letters('a')[0], set())
	around := []api.Side{{Start: true}, {End: true}, {Before: list(named("v"))}, {After: list(set())}}
	for _, x := range []api.Side{v, s} {
		wrong(t, api.OK, 0, rule(x, api.DirForth, a))
		wrong(t, api.ErrFit, 0, rule(a, api.DirForth, x))
		wrong(t, api.OK, 0, rule(a, api.DirBack, x))
		wrong(t, api.ErrFit, 0, rule(x, api.DirBack, a))
		wrong(t, api.ErrFit, 0, rule(x, api.DirBoth, a))
		wrong(t, api.ErrFit, 0, rule(a, api.DirBoth, x))
	}
	for _, x := range around {
		x.Source, x.Cursor = letters('b'), -1
		wrong(t, api.OK, 0, rule(x, api.DirForth, a))
		wrong(t, api.ErrFit, 0, rule(a, api.DirForth, x))
		wrong(t, api.OK, 0, rule(a, api.DirBack, x))
		wrong(t, api.ErrFit, 0, rule(x, api.DirBack, a))
		wrong(t, api.OK, 0, rule(x, api.DirBoth, x))
	}
}

// TestManyThingsWrong: of all that is wrong with a rule the first one is told.
func TestManyThingsWrong(t *testing.T) {
	pool := [][]api.Item{nil, {}, letters('a'), letters('a', 'b'), letters(-1), list(set()), list(set(api.Span{Low: 1})), list(named("v")), list(named("")), make([]api.Item, 1), make([]api.Item, 21), list(letters('a')[0], named("")), slices.Repeat(list(set()), 20)}
	n := 0
	next := func(below int) int {
		n = (n*1103515245 + 12345) & (1<<31 - 1)
		return n >> 8 % below
	}
	side := func(calm bool) api.Side {
		s := api.Side{Start: next(5) == 0, End: next(5) == 0, Cursor: next(4) - 1}
		if calm {
			s.Source = pool[2+next(2)]
			return s
		}
		s.Before, s.Source, s.After, s.Cursor = pool[next(len(pool))], pool[next(len(pool))], pool[next(len(pool))], next(8)-3
		return s
	}
	met := map[api.Errno]int{}
	for range 60000 {
		p := rule(side(next(3) > 0), next(5), side(next(3) > 0))
		want := oracleWrong(p)
		met[want]++
		if f := Wrong([]api.Part{{Kind: api.PaPass, Name: "null"}, p}); f.Err != want || (f.At == 1) != (want != api.OK) {
			t.Fatalf("Wrong(%v): %v, not %d", p, f, want)
		}
	}
	for _, err := range []api.Errno{api.OK, api.ErrKind, api.ErrRange, api.ErrMany, api.ErrNone, api.ErrName, api.ErrFit} {
		if met[err] < 100 {
			t.Errorf("%d is met %d times", err, met[err])
		}
	}
}

// E2

func TestVariablesFiltersAndPasses(t *testing.T) {
	ac := []api.Span{{Low: 'a', High: 'c'}}
	reads(t, "")
	reads(t, " \t\n# all of it is a remark")
	reads(t, "$v=[a-c];", api.Part{Kind: api.PaVar, Name: "v", Set: ac})
	reads(t, "$v = [a-c] ;", api.Part{Kind: api.PaVar, Name: "v", Set: ac})
	reads(t, "$v_1\n=\t[ a-b [c] ]\n;", api.Part{Kind: api.PaVar, Name: "v_1", Set: ac})
	reads(t, "$_#r=\n#\n#;\n=#\n[a-c]#;\n;#", api.Part{Kind: api.PaVar, Name: "_", Set: ac})
	reads(t, "$"+strings.Repeat("a", 20)+"=[];", api.Part{Kind: api.PaVar, Name: strings.Repeat("a", 20)})
	reads(t, "::[a-c];", api.Part{Kind: api.PaFilter, Set: ac})
	reads(t, ":: # r\n [a-c] ;", api.Part{Kind: api.PaFilter, Set: ac})
	for _, s := range []string{"lower", "null", "remove", "upper"} {
		reads(t, "::"+s+";", api.Part{Kind: api.PaPass, Name: s})
		reads(t, ":: "+s+" ;", api.Part{Kind: api.PaPass, Name: s})
		reads(t, "::#:\n"+s+"#:\n;", api.Part{Kind: api.PaPass, Name: s})
	}
}

func TestRules(t *testing.T) {
	a, b, x := letters('a'), letters('b'), bare(letters('x')...)
	reads(t, "a>x;", rule(bare(a...), api.DirForth, x))
	reads(t, "x < a ;", rule(x, api.DirBack, bare(a...)))
	reads(t, "x<>a;", rule(x, api.DirBoth, bare(a...)))
	reads(t, "a > ;", rule(bare(a...), api.DirForth, bare()))
	reads(t, "<a;", rule(bare(), api.DirBack, bare(a...)))
	reads(t, "a { b } c > x | y ;", rule(api.Side{Before: a, Source: b, After: letters('c'), Cursor: -1}, api.DirForth, api.Side{Source: letters('x', 'y'), Cursor: 1}))
	reads(t, "^{b}$>x;", rule(api.Side{Start: true, Source: b, End: true, Cursor: -1}, api.DirForth, x))
	reads(t, "{b}>x;", rule(bare(b...), api.DirForth, x))
	reads(t, "^a a{b}>x;", rule(api.Side{Start: true, Before: letters('a', 'a'), Source: b, Cursor: -1}, api.DirForth, x))
	reads(t, "b}a$>x;", rule(api.Side{Source: b, After: a, End: true, Cursor: -1}, api.DirForth, x))
	reads(t, "b}$v$>x;", rule(api.Side{Source: b, After: list(named("v")), End: true, Cursor: -1}, api.DirForth, x))
	reads(t, "b}$#v\n>x;", rule(api.Side{Source: b, End: true, Cursor: -1}, api.DirForth, x))
	reads(t, "x<^a{b}a$;", rule(x, api.DirBack, api.Side{Start: true, Before: a, Source: b, After: a, End: true, Cursor: -1}))
	reads(t, "a{b|}a<>|x;", rule(api.Side{Before: a, Source: b, After: a, Cursor: 1}, api.DirBoth, api.Side{Source: letters('x'), Cursor: 0}))
	reads(t, "a{|b}a<>x|;", rule(api.Side{Before: a, Source: b, After: a, Cursor: 0}, api.DirBoth, api.Side{Source: letters('x'), Cursor: 1}))
	reads(t, "a>|;", rule(bare(a...), api.DirForth, api.Side{}))
	reads(t, "a>x;b>x;", rule(bare(a...), api.DirForth, x), rule(bare(b...), api.DirForth, x))
}

func TestItems(t *testing.T) {
	items := func(text string, l ...api.Item) {
		t.Helper()
		reads(t, text+">;", rule(bare(l...), api.DirForth, bare()))
		reads(t, "< "+text+" ;", rule(bare(), api.DirBack, bare(l...)))
		reads(t, text+"{a}"+text+" >;", rule(api.Side{Before: l, Source: letters('a'), After: l, Cursor: -1}, api.DirForth, bare()))
	}
	items("abc", letters('a', 'b', 'c')...)
	items("a b\t\nc", letters('a', 'b', 'c')...)
	items("a#b\nc", letters('a', 'c')...)
	items("A0_.!%*+/?@`~\r\x00é日", letters('A', '0', '_', '.', '!', '%', '*', '+', '/', '?', '@', '`', '~', 13, 0, 233, 26085)...)
	items(`\n\t\>\\\'\ \é\u{e9}\u{00000A}`, letters(10, 9, '>', '\\', '\'', ' ', 233, 233, 10)...)
	items("\xff\\\xff", letters(65533, 65533)...)
	items("[a-c][]", set(api.Span{Low: 'a', High: 'c'}), set())
	items(`[\u{d800}]`, set(api.Span{Low: 55296, High: 55296}))
	items("$v", named("v"))
	items("$v$w1a", named("v"), named("w1a"))
	items("$v a", list(named("v"), letters('a')[0])...)
	items("$vA", list(named("v"), letters('A')[0])...)
	items("$vé", list(named("v"), letters('é')[0])...)
	items("$_0[a]", named("_0"), set(api.Span{Low: 'a', High: 'a'}))
	items("'a b'", letters('a', ' ', 'b')...)
	items("'a''b'", letters('a', 'b')...)
	items("'#;>\n$v[\\'", letters('#', ';', '>', '\n', '$', 'v', '[', '\\')...)
	items("a''b", letters('a', 'b')...)
	items("'\xff|'", letters(65533, '|')...)
	items(strings.Repeat("a", 20), slices.Repeat(letters('a'), 20)...)
	items("'"+strings.Repeat("a", 20)+"'''", slices.Repeat(letters('a'), 20)...)
}

func TestWhereAVariableIsAnItem(t *testing.T) {
	x := bare(letters('x')...)
	reads(t, "$v>x;", rule(bare(named("v")), api.DirForth, x))
	reads(t, "$v # =\n > x ;", rule(bare(named("v")), api.DirForth, x))
	reads(t, "$v \\= > x ;", rule(bare(list(named("v"), letters('=')[0])...), api.DirForth, x))
	reads(t, "$v{$v}$v>x;", rule(api.Side{Before: list(named("v")), Source: list(named("v")), After: list(named("v")), Cursor: -1}, api.DirForth, x))
	faults(t, "a $v = [a] ;", api.ErrForm, 5)
	faults(t, "$v $w = [a] ;", api.ErrForm, 6)
	faults(t, "$v | = [a] ;", api.ErrForm, 5)
	faults(t, "$v == [a] ;", api.ErrForm, 4)
	faults(t, "$v = [a] > x ;", api.ErrForm, 9)
	faults(t, "$v = $w ;", api.ErrForm, 5)
	faults(t, "$vA = [a] ;", api.ErrForm, 4)
}

// TestBlanksAndRemarksMakeNothing: words stand wherever they stand.
func TestBlanksAndRemarksMakeNothing(t *testing.T) {
	words := strings.Fields(`:: [a-z] ; :: upper ; $v = [a-c] ; ^ a $v { b [c] } 'de' $ > x | y ; ^ { q } $v <> | z ; w < r { \; ;`)
	want, f := Read(strings.Join(words, " "))
	if f != (api.Fault{}) || len(want) != 6 {
		t.Fatal(want, f)
	}
	for _, between := range []string{"\n", "\t", " \n\t", "#\n", " # a > b ; '[\n", "# 1\n# 2\n", "\n##\n#é\xff\n "} {
		reads(t, strings.Join(words, between), want...)
		reads(t, between+strings.Join(words, between)+between+"#", want...)
	}
	reads(t, `::[a-z];::upper;$v=[a-c];^a$v{b[c]}'de'$>x|y;^{q}$v<>|z;w<r{\;;`, want...)
}

// E3

func TestSomethingIsMissingAtTheEnd(t *testing.T) {
	for _, s := range []string{"a", "a > b", "a >", ">", "<", "<>", "a {", "a }", "^", "^ a", "^ a {", "a } $", "$v", "$v =", "$v = [a]", ":: upper", ":: [a]", "a > b ; c", "a | b > [c]"} {
		faults(t, s, api.ErrForm, len(s))
		faults(t, s+"\n # é\n ", api.ErrForm, len(s)+7)
		faults(t, s+"# ;", api.ErrForm, len(s)+3)
	}
	for _, s := range []string{"$v = [", "$v = [a", "::[", ":", "'", "'a", "a > 'x ;", `\`, `\u`, `\u{41`} {
		faults(t, s, api.ErrForm, len(s))
	}
	faults(t, "é日 > x", api.ErrForm, 6)
}

func TestWhereItCannotGoOn(t *testing.T) {
	for _, r := range "&-:\"=(),]" {
		s := string(r)
		if r != ':' {
			faults(t, s, api.ErrForm, 0)
			faults(t, " "+s+"a > b ;", api.ErrForm, 1)
		}
		faults(t, "a"+s+"> b ;", api.ErrForm, 1)
		faults(t, "a { "+s+" > b ;", api.ErrForm, 4)
		faults(t, "a } "+s+" > b ;", api.ErrForm, 4)
		faults(t, "a > b "+s+" ;", api.ErrForm, 6)
		faults(t, "^ "+s, api.ErrForm, 2)
		faults(t, "a > b ; ; ", api.ErrForm, 8)
	}
	faults(t, ";", api.ErrForm, 0)
	faults(t, "a ;", api.ErrForm, 2)
	faults(t, "a > b > c ;", api.ErrForm, 6)
	faults(t, "a > b < c ;", api.ErrForm, 6)
	faults(t, "a < > c ;", api.ErrForm, 4)
	faults(t, "a { b { c > x ;", api.ErrForm, 6)
	faults(t, "a } b } c > x ;", api.ErrForm, 6)
	faults(t, "a } b { c > x ;", api.ErrForm, 6)
	faults(t, "a ^ { b > x ;", api.ErrForm, 2)
	faults(t, "^ ^ { b > x ;", api.ErrForm, 2)
	faults(t, "{ ^ b > x ;", api.ErrForm, 2)
	faults(t, "| ^ { b > x ;", api.ErrForm, 2)
	faults(t, "^ b > x ;", api.ErrForm, 4)
	faults(t, "^ b # \n } x > x ;", api.ErrForm, 8)
	faults(t, "x < ^ b ;", api.ErrForm, 8)
	faults(t, "$ > x ;", api.ErrForm, 0)
	faults(t, "b $ > x ;", api.ErrForm, 2)
	faults(t, "b } $ c > x ;", api.ErrForm, 6)
	faults(t, "b } $ $v > x ;", api.ErrForm, 6)
	faults(t, "b } $ | > x ;", api.ErrForm, 6)
	faults(t, "b } $ } > x ;", api.ErrForm, 6)
	faults(t, "b } $1 > x ;", api.ErrForm, 5)
	faults(t, "b } $$ > x ;", api.ErrForm, 5)
	faults(t, "$1 = [a] ;", api.ErrForm, 0)
	faults(t, "$ v = [a] ;", api.ErrForm, 0)
	faults(t, "$V = [a] ;", api.ErrForm, 0)
	faults(t, "$v = a ;", api.ErrForm, 5)
	faults(t, ": : upper ;", api.ErrForm, 1)
	faults(t, ":: upper lower ;", api.ErrForm, 9)
	faults(t, ":: upperX ;", api.ErrForm, 8)
	faults(t, ":: [a] [b] ;", api.ErrForm, 7)
	faults(t, "a :: upper ;", api.ErrForm, 2)
}

func TestFaultsOfSetsAndCharacters(t *testing.T) {
	deep := strings.Repeat("[", 20) + strings.Repeat("]", 20)
	reads(t, "::"+deep+";", api.Part{Kind: api.PaFilter})
	for _, s := range []string{"[", "[a", "[c-a]", "[[:no:]]", "[a;]", "[#\n]", "[$v]", "['a']", `[\a]`, `[\u{110000}]`, "[" + deep + "]", `[\u{}]`, "[a-", "[^ ^]", spotted(201), "[a & b]"} {
		_, f := setsyn.Read(s)
		if f.Err == api.OK {
			t.Fatal(s)
		}
		for _, ahead := range []string{"$v = ", "::", ":: ", "a ", "é{", "a } ", "a > ", "a <> b ", "a>b;\n\n", "# é\n"} {
			faults(t, ahead+s+"> x ;", f.Err, len(runes.Decode(ahead))+f.At)
		}
	}
	for _, ahead := range []string{"", "a ", "é{", "a } ", "a > ", "a>b;\n\n", "x <> |"} {
		n := len(runes.Decode(ahead))
		faults(t, ahead+`\a > x ;`, api.ErrForm, n+1)
		faults(t, ahead+`\Z > x ;`, api.ErrForm, n+1)
		faults(t, ahead+`\0 > x ;`, api.ErrForm, n+1)
		faults(t, ahead+`\u > x ;`, api.ErrForm, n+2)
		faults(t, ahead+`\u{} > x ;`, api.ErrForm, n+3)
		faults(t, ahead+`\u{1234567} > x ;`, api.ErrForm, n+3)
		faults(t, ahead+`\u{12 > x ;`, api.ErrForm, n+5)
		faults(t, ahead+`\u{110000} > x ;`, api.ErrRange, n+1)
		faults(t, ahead+`\u{d800} > x ;`, api.ErrRange, n)
		faults(t, ahead+`\u{DFFF} > x ;`, api.ErrRange, n)
	}
	reads(t, `\u{d7ff}\u{e000}\u{10ffff}\u{0}>;`, rule(bare(letters(55295, 57344, 1114111, 0)...), api.DirForth, bare()))
}

// spotted is a set of so many spans.
func spotted(n int) string {
	var out strings.Builder
	for i := range n {
		out.WriteRune(rune(1000 + 2*i))
	}
	return "[" + out.String() + "]"
}

func TestNamesThatAreNone(t *testing.T) {
	long := strings.Repeat("v", 21)
	faults(t, "$"+long+" > x ;", api.ErrName, 1)
	faults(t, "$"+long+" = [a] ;", api.ErrName, 1)
	faults(t, "$"+long+"=[", api.ErrName, 1)
	faults(t, "$"+long, api.ErrName, 1)
	faults(t, "a > b ;\n $"+long+" ;", api.ErrName, 10)
	faults(t, "a { $"+long+" > x ;", api.ErrName, 5)
	faults(t, "a } $"+long+" > x ;", api.ErrName, 5)
	faults(t, "a > $"+long+" ;", api.ErrName, 5)
	for _, s := range []string{"", " ", "foo", "Upper", "uppers", "upper1", "_upper", "1upper", "$v", "'upper'", ">", "#\n", "é", "^", ":", "]", long} {
		for _, behind := range []string{";", " ;", ""} {
			text := "::" + s + behind
			at := 2 + strings.Index(s+"X", strings.TrimLeft(s+"X", " #\n"))
			if s == "" || s == " " || s == "#\n" {
				at = len(strings.TrimSuffix(text, ";"))
			}
			faults(t, text, api.ErrName, at)
		}
	}
}

func TestTooMany(t *testing.T) {
	faults(t, "a > x || y ;", api.ErrMany, 7)
	faults(t, "a > | x | y ;", api.ErrMany, 8)
	faults(t, "a | | { b > x ;", api.ErrMany, 4)
	faults(t, "^ a | | { b > x ;", api.ErrMany, 6)
	faults(t, "a } b | | > x ;", api.ErrMany, 8)
	faults(t, "a > x | y | ", api.ErrMany, 10)
	many := strings.Repeat("a", 20)
	must(t, many+"{"+many+"}"+many+"<>"+many+"{|"+many+"}"+many+";")
	for _, ahead := range []string{"", "^", "a{", "a}", "a>", "a<>|", "a{b}"} {
		n := len(ahead) + 20
		for _, more := range []string{"a", "[b]", "$v", "'a'", `\>`, "'ab'"} {
			faults(t, ahead+many+more+"?;", api.ErrMany, n)
			faults(t, ahead+many+" "+more, api.ErrMany, n+1)
		}
		// What is wrong with the item itself is met as it is read.
		faults(t, ahead+many+"[b-a]", api.ErrRange, n+3)
		faults(t, ahead+many+"'a", api.ErrForm, n+2)
		faults(t, ahead+many+`\u{d800}`, api.ErrRange, n)
		faults(t, ahead+many+`$`+strings.Repeat("v", 21), api.ErrName, n+1)
	}
	faults(t, "'"+strings.Repeat("a", 21)+"' > x ;", api.ErrMany, 0)
	faults(t, "aaaaaaaaaa 'bbbbbbbbbbb' > x ;", api.ErrMany, 11)
	for _, s := range []string{"a>b;", "$v=[a];", "::null;", "::[];"} {
		l := must(t, strings.Repeat(s, 200))
		if len(l) != 200 {
			t.Errorf("%d parts of %q", len(l), s)
		}
		faults(t, strings.Repeat(s, 200)+" # \n"+s, api.ErrMany, 200*len(s)+4)
		faults(t, strings.Repeat(s, 200)+";", api.ErrMany, 200*len(s))
		must(t, strings.Repeat(s, 200)+" # \n")
	}
}

func must(t *testing.T, text string) []api.Part {
	t.Helper()
	l, f := Read(text)
	if f != (api.Fault{}) {
		t.Errorf("Read(%.80q): %v", text, f)
	}
	return l
}

func TestTooMuch(t *testing.T) {
	for _, s := range []string{" ", "é", "#", "\xff"} {
		text := "# " + strings.Repeat(s, 15998)
		must(t, text)
		faults(t, text+s, api.ErrMuch, 0)
		faults(t, ";"+text, api.ErrMuch, 0)
	}
	must(t, strings.Repeat(" ", 15996)+"a>b;")
	faults(t, strings.Repeat("a", 16001), api.ErrMuch, 0)
	faults(t, strings.Repeat("a", 16000), api.ErrMany, 20)
	faults(t, "::["+strings.Repeat("a", 15000), api.ErrForm, 15003)
	faults(t, "'"+strings.Repeat("a", 15000)+"'", api.ErrMany, 0)
}

func TestCursorsThatDoNotFit(t *testing.T) {
	faults(t, "a | { b > x ;", api.ErrFit, 0)
	faults(t, " a | { b <> x ;", api.ErrFit, 1)
	faults(t, "#\n | { b <> x ;", api.ErrFit, 3)
	faults(t, "^ a | { b <> x ;", api.ErrFit, 1)
	faults(t, " ^| { b <> x ;", api.ErrFit, 2)
	faults(t, "b <> a | { x ;", api.ErrFit, 5)
	faults(t, "b <>  ^ a | { x ;", api.ErrFit, 7)
	faults(t, "a } b | > x ;", api.ErrFit, 3)
	faults(t, "a } | $ <> x ;", api.ErrFit, 3)
	faults(t, "a { c } |b <> x ;", api.ErrFit, 7)
	faults(t, "b <> a } b | ;", api.ErrFit, 8)
	// It is met behind all items, and ahead of what stands behind these.
	faults(t, "^ a | ; ", api.ErrFit, 1)
	faults(t, "^ a | ", api.ErrFit, 1)
	faults(t, "a } b | ", api.ErrFit, 3)
	faults(t, `a } b | \a`, api.ErrForm, 9)
	faults(t, "a | b", api.ErrForm, 5)
}

func TestRulesThatAreReadAndWrong(t *testing.T) {
	faults(t, "> a ;", api.ErrNone, 0)
	faults(t, "> ;", api.ErrNone, 0)
	faults(t, "a < ;", api.ErrNone, 0)
	faults(t, "a <> ;", api.ErrNone, 0)
	faults(t, "<> a ;", api.ErrNone, 0)
	faults(t, "a { } b > c ;", api.ErrNone, 0)
	faults(t, "# é\n a > b ; > c ;", api.ErrNone, 13)
	faults(t, "a > b ;\n\n  '' > c ;", api.ErrNone, 11)
	faults(t, "a | b > x ;", api.ErrFit, 0)
	faults(t, " a < x | ;", api.ErrFit, 1)
	faults(t, "a > [b] ;", api.ErrFit, 0)
	faults(t, "a > $v ;", api.ErrFit, 0)
	faults(t, "[a] < b ;", api.ErrFit, 0)
	faults(t, "[a] <> b ;", api.ErrFit, 0)
	faults(t, "a <> $v ;", api.ErrFit, 0)
	faults(t, "a > b { c ;", api.ErrFit, 0)
	faults(t, "a > b } c ;", api.ErrFit, 0)
	faults(t, "a > ^ { c ;", api.ErrFit, 0)
	faults(t, "a > b } $ ;", api.ErrFit, 0)
	faults(t, "a { b < c ;", api.ErrFit, 0)
	// A rule is whole with its `;`, and what stands behind that is met later.
	faults(t, "> a", api.ErrForm, 3)
	faults(t, "> a ]", api.ErrForm, 4)
	faults(t, "a | b > x > y ;", api.ErrForm, 10)
	faults(t, "> a ; ]", api.ErrNone, 0)
	faults(t, "a > b ; ] > a ;", api.ErrForm, 8)
	reads(t, "a > { } ;", rule(bare(letters('a')...), api.DirForth, bare()))
}

// TestAnotherReader holds Read against the reader of oracle_test.go, for all short rows of words, whatever stands around these.
func TestAnotherReader(t *testing.T) {
	words := []string{"a", " ", "[b]", "$v", "$", "'cd'", "{", "}", "^", "|", ">", "<", ";", "=", "#\n", ":", "'", `\`}
	around := [][2]string{{"", ""}, {"", ">x;"}, {"a>", ";"}, {"a<", ";"}, {"a<>", ";"}, {"^", "{a<>x;"}, {"a}", "<>x;"}, {"a{", "}<>x"}}
	for _, x := range around {
		for _, a := range words {
			for _, b := range words {
				for _, c := range words {
					compare(t, x[0]+a+b+c+x[1])
				}
			}
		}
		compare(t, x[0]+x[1])
	}
}

// TestLongerTexts holds Read against the other reader for rows of many words.
func TestLongerTexts(t *testing.T) {
	words := []string{"a", "b", " ", " ", "\n", "[b-d]", "$v", "'cd'", "{", "}", "^", "|", ">", "<", "<>", ";", ";", "$v=[a];", "::upper;", "::[a];", "a>b;", "a<>b|;", "a{b}c$>d;", "#|\n", `\u{41}`, `\u{d900}`, `\n`, "$", "=", "::", "x", "é", "\xff", "$" + strings.Repeat("q", 21), "'" + strings.Repeat("z", 15) + "'", "[z-y]", "^a{", "}c$"}
	n := 1
	next := func(below int) int {
		n = (n*1103515245 + 12345) & (1<<31 - 1)
		return n >> 8 % below
	}
	met := map[api.Errno]int{}
	for range 60000 {
		var out strings.Builder
		for range 1 + next(14) {
			out.WriteString(words[next(len(words))])
		}
		met[compare(t, out.String())]++
	}
	for _, err := range []api.Errno{api.OK, api.ErrForm, api.ErrRange, api.ErrMany, api.ErrNone, api.ErrName, api.ErrFit} {
		if met[err] < 100 {
			t.Errorf("%d is met %d times", err, met[err])
		}
	}
}

func compare(t *testing.T, text string) api.Errno {
	t.Helper()
	l, f := Read(text)
	want, g := oracleRead(text)
	if f != g || !same(l, want) {
		t.Errorf("Read(%q): %v, %v, not %v, %v", text, l, f, want, g)
	}
	if f.Err == api.OK {
		again(t, l)
	}
	return f.Err
}

// E4

func TestPrint(t *testing.T) {
	x := bare(letters('x')...)
	prints(t, "")
	prints(t, "$v_1 = [a-cz] ;\n", api.Part{Kind: api.PaVar, Name: "v_1", Set: []api.Span{{Low: 'a', High: 'c'}, {Low: 'z', High: 'z'}}})
	prints(t, ":: [\\u{20}é] ;\n:: remove ;\n", api.Part{Kind: api.PaFilter, Set: []api.Span{{Low: ' ', High: ' '}, {Low: 233, High: 233}}}, api.Part{Kind: api.PaPass, Name: "remove"})
	prints(t, "x > ;\n", rule(x, api.DirForth, bare()))
	prints(t, "x <> x ;\n", rule(x, api.DirBoth, x))
	prints(t, "< x ;\n", rule(bare(), api.DirBack, x))
	prints(t, "^ { x > ;\n", rule(api.Side{Start: true, Source: x.Source, Cursor: -1}, api.DirForth, bare()))
	prints(t, "a { x > ;\n", rule(api.Side{Before: letters('a'), Source: x.Source, Cursor: -1}, api.DirForth, bare()))
	prints(t, "^ a { x } b $ > ;\n", rule(api.Side{Start: true, Before: letters('a'), Source: x.Source, After: letters('b'), End: true, Cursor: -1}, api.DirForth, bare()))
	prints(t, "x } b > ;\n", rule(api.Side{Source: x.Source, After: letters('b'), Cursor: -1}, api.DirForth, bare()))
	prints(t, "x } $ > ;\n", rule(api.Side{Source: x.Source, End: true, Cursor: -1}, api.DirForth, bare()))
	prints(t, "[a-b] $v \\u{5b} > ;\n", rule(bare(set(api.Span{Low: 'a', High: 'b'}), named("v"), letters('[')[0]), api.DirForth, bare()))
	for cursor, want := range []string{"| x y z", "x | y z", "x y | z", "x y z |"} {
		s := api.Side{Source: letters('x', 'y', 'z'), Cursor: cursor}
		prints(t, "x > "+want+" ;\n", rule(x, api.DirForth, s))
		prints(t, want+" < x ;\n", rule(s, api.DirBack, x))
		s.Start, s.Before, s.After = true, letters('b'), letters('c')
		prints(t, "^ b { "+want+" } c <> x ;\n", rule(s, api.DirBoth, x))
	}
	prints(t, "x > | ;\n", rule(x, api.DirForth, api.Side{}))
}

func again(t *testing.T, l []api.Part) {
	t.Helper()
	text, f := Print(l)
	if f != (api.Fault{}) {
		t.Errorf("Print(%v): %v", l, f)
	}
	reads(t, text, l...)
}

// TestWhatIsWrittenIsRead: of all kinds of sides, and of each rune that is right.
func TestWhatIsWrittenIsRead(t *testing.T) {
	groups := [][]api.Item{nil, letters('a'), list(named("v"), set(), letters(';')[0]), list(set(api.Span{Low: 0, High: 1114111}), named("w_0"))}
	var sides []api.Side
	for _, before := range groups {
		for _, source := range groups {
			for _, after := range groups {
				for n := range 4 {
					for cursor := -1; cursor <= len(source); cursor++ {
						sides = append(sides, api.Side{Start: n&1 > 0, End: n&2 > 0, Before: before, Source: source, After: after, Cursor: cursor})
					}
				}
			}
		}
	}
	n := 0
	for i, s := range sides {
		for dir := 1; dir <= 3; dir++ {
			for _, p := range []api.Part{rule(s, dir, bare(letters('x')...)), rule(bare(letters('x')...), dir, s), rule(s, dir, sides[(i*31+7)%len(sides)])} {
				if Wrong([]api.Part{p}).Err == api.OK {
					again(t, []api.Part{p, {Kind: api.PaPass, Name: "upper"}, p})
					n++
				}
			}
		}
	}
	if n < 800 {
		t.Errorf("only %d rules are right", n)
	}
	for r := rune(0); r <= 1114111; r++ {
		if runes.Right(r) && (r < 1000 || r%991 == 0) {
			again(t, []api.Part{rule(bare(letters(r, r)...), api.DirForth, bare(letters(r)...))})
		}
	}
}

// Z2

func TestWhatIsHandedInIsOnlyRead(t *testing.T) {
	make1 := func() []api.Part {
		spare := append(letters('a', 'b'), make([]api.Item, 3)...)
		spans := []api.Span{{Low: 'a', High: 'b'}, {Low: -9, High: -9}}
		s := api.Side{Before: spare[:1], Source: spare[1:2], After: list(set(spans[:1]...)), Cursor: -1}
		return []api.Part{rule(s, api.DirForth, bare(letters('x')...)), {Kind: api.PaVar, Name: "v", Set: spans[:1]}, {Kind: 99}}
	}
	l, before := make1(), make1()
	wrong(t, api.OK, 0, l[:2]...)
	prints(t, "a { b } [a-b] > x ;\n$v = [a-b] ;\n", l[:2]...)
	if !reflect.DeepEqual(l, before) {
		t.Errorf("%v, not %v", l, before)
	}
}

func TestAnswersAreNewMemory(t *testing.T) {
	const text = "$v = [a-c] ; $w = [a-c] ; :: [a-c] ; [a-c] ab { [a-c] cd } [a-c] ef > x y | ;"
	l, want := must(t, text), must(t, text)
	// Each list is filled up, spare room too, and no other one has changed by it.
	for i := range l {
		for _, s := range setsOf(&l[i]) {
			full := (*s)[:cap(*s)]
			old := slices.Clone(full)
			for k := range full {
				full[k] = api.Span{Low: -7, High: -7}
			}
			*s = want[i].Set
			rest := must(t, text)
			if !same(rest, want) {
				t.Fatalf("what is answered hangs on an answer: %v", rest)
			}
			copy(full, old)
			*s = full[:1]
			if !same(l, want) {
				t.Fatalf("%v, not %v", l, want)
			}
		}
	}
	for _, x := range []*[]api.Item{&l[3].Left.Before, &l[3].Left.Source, &l[3].Left.After, &l[3].Right.Source} {
		*x = append(*x, named("q"))
		*x = (*x)[:len(*x)-1]
		if !same(l, want) {
			t.Fatalf("%v, not %v", l, want)
		}
	}
}

func setsOf(p *api.Part) []*[]api.Span {
	if p.Kind != api.PaRule {
		return []*[]api.Span{&p.Set}
	}
	return []*[]api.Span{&p.Left.Before[0].Set, &p.Left.Source[0].Set, &p.Left.After[0].Set}
}
