package resolve

import (
	"math"
	"reflect"
	"slices"
	"strings"
	"testing"

	"scriptshift/api"
	"scriptshift/rulesyn"
)

func file(t *testing.T, text string) []api.Part {
	t.Helper()
	l, f := rulesyn.Read(text)
	if f.Err != api.OK {
		t.Fatalf("Read(%.80q): %v", text, f)
	}
	return l
}

func one(r rune) []api.Span { return []api.Span{{Low: r, High: r}} }

func span(low, high rune) []api.Span { return []api.Span{{Low: low, High: high}} }

func list(l ...[]api.Span) [][]api.Span { return l }

// swap is the rule from a rune to runes that has nothing around it, the cursor behind them.
func swap(a rune, l ...rune) api.Rule {
	return api.Rule{Source: list(one(a)), Target: l, Cursor: len(l)}
}

func rules(l ...api.Rule) api.Pass { return api.Pass{Rules: l} }

func named(s string) api.Pass { return api.Pass{Name: s} }

func letters(l ...rune) []api.Item {
	var out []api.Item
	for _, r := range l {
		out = append(out, api.Item{Kind: api.ItRune, Rune: r})
	}
	return out
}

func set(l ...api.Span) api.Item { return api.Item{Kind: api.ItSet, Set: l} }

func variable(s string) api.Item { return api.Item{Kind: api.ItVar, Name: s} }

// bare is a side that is a Source alone.
func bare(l ...api.Item) api.Side { return api.Side{Source: l, Cursor: -1} }

func part(left api.Side, dir int, right api.Side) api.Part {
	return api.Part{Kind: api.PaRule, Left: left, Dir: dir, Right: right}
}

// same is whether the scripts are the same, nil and no entries being one.
func same(a, b api.Script) bool {
	spans := func(a, b []api.Span) bool { return slices.Equal(a, b) }
	lists := func(a, b [][]api.Span) bool { return slices.EqualFunc(a, b, spans) }
	rules := func(a, b api.Rule) bool {
		return a.Start == b.Start && a.End == b.End && a.Cursor == b.Cursor && lists(a.Before, b.Before) && lists(a.Source, b.Source) && lists(a.After, b.After) && slices.Equal(a.Target, b.Target)
	}
	passes := func(a, b api.Pass) bool {
		return a.Name == b.Name && slices.EqualFunc(a.Rules, b.Rules, rules)
	}
	return a.Some == b.Some && spans(a.Only, b.Only) && slices.EqualFunc(a.Passes, b.Passes, passes)
}

// becomes holds both scripts of a file against what they must be, the fault being none.
func becomes(t *testing.T, l []api.Part, forth, back api.Script) {
	t.Helper()
	if s, f := Forth(l); f != (api.Fault{}) || !same(s, forth) {
		t.Errorf("Forth(%v): %v, %v, not %v", l, s, f, forth)
	}
	if s, f := Back(l); f != (api.Fault{}) || !same(s, back) {
		t.Errorf("Back(%v): %v, %v, not %v", l, s, f, back)
	}
}

func reads(t *testing.T, text string, forth, back api.Script) {
	t.Helper()
	becomes(t, file(t, text), forth, back)
}

// passes is the script of these, without a filter.
func passes(l ...api.Pass) api.Script { return api.Script{Passes: l} }

func wrong(t *testing.T, err api.Errno, at int, l ...api.Part) {
	t.Helper()
	want := api.Fault{Err: err, At: at}
	if s, f := Forth(l); f != want || !reflect.DeepEqual(s, api.Script{}) {
		t.Errorf("Forth(%v): %v, %v, not %v", l, s, f, want)
	}
	if s, f := Back(l); f != want || !reflect.DeepEqual(s, api.Script{}) {
		t.Errorf("Back(%v): %v, %v, not %v", l, s, f, want)
	}
}

func faults(t *testing.T, text string, err api.Errno, at int) {
	t.Helper()
	wrong(t, err, at, file(t, text)...)
}

// F1

func TestWhatIsWrongWithPartsComesFirst(t *testing.T) {
	null := api.Part{Kind: api.PaPass, Name: "null"}
	v := api.Part{Kind: api.PaVar, Name: "v"}
	wrong(t, api.ErrKind, 0, api.Part{})
	wrong(t, api.ErrKind, 1, null, api.Part{Kind: math.MinInt})
	wrong(t, api.ErrName, 0, api.Part{Kind: api.PaPass, Name: "up"})
	wrong(t, api.ErrName, 0, api.Part{Kind: api.PaVar, Name: "V"})
	wrong(t, api.ErrRange, 1, null, api.Part{Kind: api.PaFilter, Set: span(5, 4)})
	wrong(t, api.ErrForm, 0, api.Part{Kind: api.PaVar, Name: "v", Set: []api.Span{{Low: 1, High: 2}, {Low: 3, High: 4}}})
	wrong(t, api.ErrMany, 0, make([]api.Part, api.MaxParts+1)...)
	wrong(t, api.ErrMany, 0, slices.Repeat([]api.Part{v}, api.MaxParts+1)...)
	wrong(t, api.ErrNone, 0, part(bare(), api.DirForth, bare()))
	wrong(t, api.ErrKind, 0, part(bare(letters('a')...), 4, bare(letters('a')...)))
	wrong(t, api.ErrRange, 0, part(bare(letters(-1)...), api.DirForth, bare()))
	wrong(t, api.ErrRange, 0, part(bare(letters('a')...), api.DirForth, api.Side{Cursor: 1}))
	wrong(t, api.ErrFit, 0, part(bare(letters('a')...), api.DirForth, bare(variable("v"))))
	// Whatever is wrong with parts beside each other, and however far ahead.
	unknown := part(bare(variable("u")), api.DirForth, bare())
	filter := api.Part{Kind: api.PaFilter}
	wrong(t, api.ErrKind, 2, v, v, api.Part{})
	wrong(t, api.ErrKind, 2, filter, filter, api.Part{})
	wrong(t, api.ErrKind, 1, unknown, api.Part{})
	wrong(t, api.ErrFit, 2, v, v, part(bare(letters('a')...), api.DirForth, bare(variable("v"))))
}

func TestNamesThatAreTaken(t *testing.T) {
	faults(t, "$v = [a] ; $v = [b] ;", api.ErrName, 1)
	faults(t, "$v = [a] ; $v = [a] ;", api.ErrName, 1)
	faults(t, "$v = [] ; $v = [] ;", api.ErrName, 1)
	faults(t, "$v = [a] ; :: null ; $w = [a] ; a > b ; $v = [b] ; $w = [b] ;", api.ErrName, 4)
	becomes(t, file(t, "$v = [a] ; $w = [a] ; $v_ = [a] ; $vv = [a] ; $v1 = [a] ;"), api.Script{}, api.Script{})
	// Only the names of variables are taken.
	upper := api.Part{Kind: api.PaPass, Name: "upper"}
	becomes(t, []api.Part{upper, {Kind: api.PaVar, Name: "upper"}, upper, {Kind: api.PaFilter, Name: "upper"}, upper}, api.Script{Some: true, Passes: slices.Repeat([]api.Pass{named("upper")}, 3)}, api.Script{Some: true, Passes: slices.Repeat([]api.Pass{named("lower")}, 3)})
}

func TestASecondFilter(t *testing.T) {
	faults(t, ":: [a] ; :: [b] ;", api.ErrMany, 1)
	faults(t, ":: [a] ; :: [a] ;", api.ErrMany, 1)
	faults(t, ":: [] ; :: [] ;", api.ErrMany, 1)
	faults(t, "a > b ; :: [a] ; :: upper ; a > b ; :: [a] ; :: [a] ;", api.ErrMany, 4)
}

func TestNamesThatNoneHas(t *testing.T) {
	// In each place of both sides, whatever the rule's direction.
	for _, s := range []string{"$v > x ;", "a $v > x ;", "$v { a > x ;", "a } $v > x ;", "a } b $v $ > x ;", "^ b $v { a > ;",
		"x < $v ;", "x < a $v ;", "x < $v { a ;", "x < a } b $v ;",
		"$v { a <> b ;", "a } $v <> b ;", "a <> $v { b ;", "a <> b } $v ;"} {
		faults(t, s, api.ErrName, 0)
		faults(t, s+"$v = [a] ;", api.ErrName, 0)
		faults(t, "$w = [a] ; $vv = [a] ; :: [a] ; :: upper ;"+s, api.ErrName, 4)
		l := file(t, "$v = [a] ;"+s)
		if _, f := Forth(l); f != (api.Fault{}) {
			t.Errorf("Forth of %q: %v", s, f)
		}
		if _, f := Back(l); f != (api.Fault{}) {
			t.Errorf("Back of %q: %v", s, f)
		}
	}
	faults(t, "$v = [a] ; $v > a ; $w > a ; $w = [a] ;", api.ErrName, 2)
	// A name that isn't a variable's is none.
	wrong(t, api.ErrName, 1, api.Part{Kind: api.PaPass, Name: "upper"}, part(bare(variable("upper")), api.DirForth, bare()))
	wrong(t, api.ErrName, 1, api.Part{Kind: api.PaFilter, Name: "v"}, part(bare(variable("v")), api.DirForth, bare()))
}

func TestTheFirstPartThatIsWrong(t *testing.T) {
	faults(t, ":: [a] ; $v = [a] ; $v = [b] ; :: [b] ; $w > a ;", api.ErrName, 2)
	faults(t, ":: [a] ; $v = [a] ; :: [b] ; $v = [b] ; $w > a ;", api.ErrMany, 2)
	faults(t, ":: [a] ; $v = [a] ; $w > a ; :: [b] ; $v = [b] ;", api.ErrName, 2)
	last := strings.Repeat("a > b ;", api.MaxParts-1)
	faults(t, last+"$v > b ;", api.ErrName, api.MaxParts-1)
	faults(t, "$v = [a] ;"+last[7:]+"$v = [b] ;", api.ErrName, api.MaxParts-1)
	faults(t, ":: [a] ;"+last[7:]+":: [b] ;", api.ErrMany, api.MaxParts-1)
}

// F2

func TestRulesOfEachDirection(t *testing.T) {
	reads(t, "", api.Script{}, api.Script{})
	reads(t, "a > b ;", passes(rules(swap('a', 'b'))), api.Script{})
	reads(t, "a < b ;", api.Script{}, passes(rules(swap('b', 'a'))))
	reads(t, "a <> b ;", passes(rules(swap('a', 'b'))), passes(rules(swap('b', 'a'))))
	reads(t, "a > ;", passes(rules(swap('a'))), api.Script{})
	reads(t, "< a ;", api.Script{}, passes(rules(swap('a'))))
	reads(t, "a > b ; c < d ; e <> f ; g > h ; i < j ; k <> l ;",
		passes(rules(swap('a', 'b'), swap('e', 'f'), swap('g', 'h'), swap('k', 'l'))),
		passes(rules(swap('d', 'c'), swap('f', 'e'), swap('j', 'i'), swap('l', 'k'))))
	// Rules are not looked at beside each other.
	reads(t, "a <> b ; a <> b ;", passes(rules(swap('a', 'b'), swap('a', 'b'))), passes(rules(swap('b', 'a'), swap('b', 'a'))))
}

func TestWhatStandsAround(t *testing.T) {
	forth := api.Rule{Before: list(one('a')), Source: list(one('b')), After: list(one('c')), Target: []rune{'y'}, Cursor: 1}
	back := api.Rule{Before: list(one('x')), Source: list(one('y')), After: list(one('z')), Target: []rune{'b'}, Cursor: 1}
	reads(t, "a { b } c <> x { y } z ;", passes(rules(forth)), passes(rules(back)))
	reads(t, "a { b } c > y ;", passes(rules(forth)), api.Script{})
	reads(t, "b < x { y } z ;", api.Script{}, passes(rules(back)))
	forth.Start, back.End = true, true
	reads(t, "^ a { b } c <> x { y } z $ ;", passes(rules(forth)), passes(rules(back)))
	forth.Start, forth.End, back.Start, back.End = false, true, true, false
	reads(t, "a { b } c $ <> ^ x { y } z ;", passes(rules(forth)), passes(rules(back)))
	edge := api.Rule{Start: true, End: true, Source: list(one('a')), Target: []rune{'b'}, Cursor: 1}
	reads(t, "^ { a } $ > b ;", passes(rules(edge)), api.Script{})
	reads(t, "b < ^ { a } $ ;", api.Script{}, passes(rules(edge)))
	long := api.Rule{Before: list(one('a'), one('b')), Source: list(one('c'), one('d'), one('e')), After: list(one('f'), one('g'), one('h'), one('i')), Target: []rune{'x', 'y'}, Cursor: 2}
	reads(t, "ab { cde } fghi > xy ;", passes(rules(long)), api.Script{})
}

func TestWhatItemsStandFor(t *testing.T) {
	v := []api.Span{{Low: 'a', High: 'c'}, {Low: 'x', High: 'x'}}
	all := list(one('q'), span('0', '9'), v, v, nil)
	r := api.Rule{Before: all, Source: all, After: all, Target: []rune{'x'}, Cursor: 1}
	const items = " q [0-9] $v $v [] "
	reads(t, "$v = [a-cx] ;"+items+"{"+items+"}"+items+"> x ;", passes(rules(r)), api.Script{})
	reads(t, "$v = [a-cx] ; x <"+items+"{"+items+"}"+items+";", api.Script{}, passes(rules(r)))
	// Each name has its own set, and one without entries is one, too.
	named := api.Rule{Source: list(one('2'), nil, one('1')), Cursor: 0}
	reads(t, "$a = [1] ; $b = [2] ; $c = [] ; $b $c $a > ;", passes(rules(named)), api.Script{})
	// Any rune that is right, and sets of those that aren't.
	for _, x := range []rune{0, ' ', 55295, 57344, api.Bad, api.MaxRune} {
		becomes(t, []api.Part{part(bare(letters(x)...), api.DirBoth, bare(letters(x, x)...))}, passes(rules(swap(x, x, x))), passes(rules(api.Rule{Source: list(one(x), one(x)), Target: []rune{x}, Cursor: 1})))
	}
	wide := api.Span{Low: 0, High: api.MaxRune}
	becomes(t, []api.Part{part(bare(set(wide)), api.DirForth, bare())}, passes(rules(api.Rule{Source: list([]api.Span{wide})})), api.Script{})
}

func TestCursors(t *testing.T) {
	for cursor, text := range []string{"| x y z", "x | y z", "x y | z", "x y z |"} {
		want := passes(rules(api.Rule{Source: list(one('a')), Target: []rune{'x', 'y', 'z'}, Cursor: cursor}))
		reads(t, "a > "+text+" ;", want, api.Script{})
		reads(t, text+" < a ;", api.Script{}, want)
		other := passes(rules(api.Rule{Source: list(one('x'), one('y'), one('z')), Target: []rune{'a'}, Cursor: 0}))
		reads(t, "| a <> "+text+" ;", want, other)
		reads(t, text+" <> | a ;", other, want)
	}
	reads(t, "a > x y z ;", passes(rules(swap('a', 'x', 'y', 'z'))), api.Script{})
	reads(t, "a > | ;", passes(rules(swap('a'))), api.Script{})
	// The cursor is the one of where it goes to.
	reads(t, "a | b <> | x ;", passes(rules(api.Rule{Source: list(one('a'), one('b')), Target: []rune{'x'}, Cursor: 0})), passes(rules(api.Rule{Source: list(one('x')), Target: []rune{'a', 'b'}, Cursor: 1})))
	reads(t, "| a b <> x ;", passes(rules(api.Rule{Source: list(one('a'), one('b')), Target: []rune{'x'}, Cursor: 1})), passes(rules(api.Rule{Source: list(one('x')), Target: []rune{'a', 'b'}, Cursor: 0})))
}

func TestFilters(t *testing.T) {
	only := api.Script{Some: true, Only: span('a', 'c')}
	reads(t, ":: [a-c] ;", only, only)
	reads(t, ":: [] ;", api.Script{Some: true}, api.Script{Some: true})
	// It stands where it likes, and rules on both sides of it are of one pass.
	for _, text := range []string{":: [a-c] ; a > b ; c <> d ;", "a > b ; :: [a-c] ; c <> d ;", "a > b ; c <> d ; :: [a-c] ;"} {
		reads(t, text, api.Script{Some: true, Only: only.Only, Passes: []api.Pass{rules(swap('a', 'b'), swap('c', 'd'))}}, api.Script{Some: true, Only: only.Only, Passes: []api.Pass{rules(swap('d', 'c'))}})
	}
	reads(t, ":: upper ; :: [a-c] ;", api.Script{Some: true, Only: only.Only, Passes: []api.Pass{named("upper")}}, api.Script{Some: true, Only: only.Only, Passes: []api.Pass{named("lower")}})
	reads(t, "$v = [a-c] ;", api.Script{}, api.Script{})
}

func TestPasses(t *testing.T) {
	for name, other := range map[string]string{"upper": "lower", "lower": "upper", "null": "null", "remove": "null"} {
		reads(t, ":: "+name+" ;", passes(named(name)), passes(named(other)))
	}
	reads(t, ":: upper ; :: lower ; :: null ; :: remove ; :: remove ;",
		passes(named("upper"), named("lower"), named("null"), named("remove"), named("remove")),
		passes(named("null"), named("null"), named("null"), named("upper"), named("lower")))
	reads(t, "a <> b ; c <> d ; :: upper ; e <> f ; g <> h ; :: remove ; i <> j ;",
		passes(rules(swap('a', 'b'), swap('c', 'd')), named("upper"), rules(swap('e', 'f'), swap('g', 'h')), named("remove"), rules(swap('i', 'j'))),
		passes(rules(swap('j', 'i')), named("null"), rules(swap('f', 'e'), swap('h', 'g')), named("lower"), rules(swap('b', 'a'), swap('d', 'c'))))
	// Where no rule goes that way there is no pass of rules.
	reads(t, "a > b ; :: upper ; c < d ; :: lower ; e > f ;",
		passes(rules(swap('a', 'b')), named("upper"), named("lower"), rules(swap('e', 'f'))),
		passes(named("upper"), rules(swap('d', 'c')), named("lower")))
	reads(t, "a > b ; c < d ; :: null ;", passes(rules(swap('a', 'b')), named("null")), passes(named("null"), rules(swap('d', 'c'))))
	// Variables part no rules.
	reads(t, "a > b ; $v = [a] ; c > d ; $w = [a] ; :: null ; $x = [a] ;", passes(rules(swap('a', 'b'), swap('c', 'd')), named("null")), passes(named("null")))
}

func TestFieldsThatAKindHasNotMeanNothing(t *testing.T) {
	bad := span(-1, -2)
	odd := api.Side{Before: []api.Item{variable("?")}, Cursor: -9}
	l := []api.Part{
		{Kind: api.PaVar, Name: "v", Set: one('v'), Dir: 9, Left: odd, Right: odd},
		{Kind: api.PaFilter, Name: "v", Set: one('f'), Dir: 9, Left: odd, Right: odd},
		{Kind: api.PaPass, Name: "upper", Set: bad, Dir: api.DirForth, Left: odd, Right: odd},
		{Kind: api.PaRule, Name: "v", Set: bad, Dir: api.DirBoth,
			Left:  api.Side{Before: []api.Item{{Kind: api.ItVar, Name: "v", Rune: -5, Set: bad}, {Kind: api.ItSet, Set: one('s'), Rune: -5, Name: "?"}}, Source: []api.Item{{Kind: api.ItRune, Rune: 'a', Set: bad, Name: "?"}}, Cursor: -1},
			Right: bare(letters('b')...)},
	}
	forth := api.Rule{Before: list(one('v'), one('s')), Source: list(one('a')), Target: []rune{'b'}, Cursor: 1}
	becomes(t, l,
		api.Script{Some: true, Only: one('f'), Passes: []api.Pass{named("upper"), rules(forth)}},
		api.Script{Some: true, Only: one('f'), Passes: []api.Pass{rules(swap('b', 'a')), named("lower")}})
}

func TestTheMostParts(t *testing.T) {
	many := strings.Repeat("a", api.MaxItems)
	// A text with so many would be too long.
	l := slices.Repeat(file(t, many+"{"+many+"}"+many+"<>"+many+"{|"+many+"}"+many+";"), api.MaxParts)
	if err := compare(t, l); err != api.OK {
		t.Errorf("%v", err)
	}
	s, _ := Forth(l)
	if len(s.Passes) != 1 || len(s.Passes[0].Rules) != api.MaxParts {
		t.Errorf("%d passes", len(s.Passes))
	}
	s, _ = Back(file(t, strings.Repeat(":: upper ; a < b ;", api.MaxParts/2)))
	if len(s.Passes) != api.MaxParts || s.Passes[0].Name != "" || s.Passes[api.MaxParts-1].Name != "lower" {
		t.Errorf("%d passes", len(s.Passes))
	}
}

// TestAnotherWay holds both against oracle_test.go, for many files, wrong ones among them.
func TestAnotherWay(t *testing.T) {
	words := []string{"$v=[a-c];", "$w=[];", "::[d];", "::upper;", "::lower;", "::null;", "::remove;", "a>b;", "c<d;", "e<>f;", "$v>x;", "a}$w>x|y;", "q<$v$w;", "$v{a}b<>^c{d|}$w;", "^{a}$>b;", "[a-z]>;", "<z;", "|ab<>c;"}
	n := 1
	next := func(below int) int {
		n = (n*1103515245 + 12345) & (1<<31 - 1)
		return n >> 8 % below
	}
	met := map[api.Errno]int{}
	for i := range 20000 {
		var out strings.Builder
		// Most begin with their variables, else hardly any long one would be right.
		if i%3 > 0 {
			out.WriteString("$v=[a-c];$w=[e];")
		}
		for range next(9) {
			k := next(len(words))
			if i%3 == 1 && k < 2 {
				k += 7
			}
			out.WriteString(words[k])
		}
		met[compare(t, file(t, out.String()))]++
	}
	for _, err := range []api.Errno{api.OK, api.ErrMany, api.ErrName} {
		if met[err] < 300 {
			t.Errorf("%d is met %d times", err, met[err])
		}
	}
}

func compare(t *testing.T, l []api.Part) api.Errno {
	t.Helper()
	s, f := Forth(l)
	if want, g := oracleScript(l, false); f != g || !same(s, want) {
		t.Errorf("Forth(%v): %v, %v, not %v, %v", l, s, f, want, g)
	}
	s, f = Back(l)
	if want, g := oracleScript(l, true); f != g || !same(s, want) {
		t.Errorf("Back(%v): %v, %v, not %v, %v", l, s, f, want, g)
	}
	return f.Err
}

// Z2

const full = "$v = [a-c] ; :: [a-c] ; $v [a-c] b { c } $v <> $v { d } $v [a-c] ; a } $v > b ; :: upper ; c < $v $v [a-c] ;"

// loose is a file whose lists all have spare room, and something wrong in it.
func loose() []api.Part {
	spans := func() []api.Span { return []api.Span{{Low: 'a', High: 'c'}, {Low: -9, High: -10}}[:1] }
	items := func(l ...api.Item) []api.Item { return append(l, api.Item{Kind: 99})[:len(l)] }
	side := func(r rune) api.Side {
		return api.Side{Before: items(variable("v"), set(spans()...), set(spans()[:0]...)), Source: items(letters(r)...), After: items(variable("v")), Cursor: -1}
	}
	return []api.Part{
		{Kind: api.PaVar, Name: "v", Set: spans()},
		{Kind: api.PaFilter, Set: spans()},
		part(side('a'), api.DirBoth, side('b')),
		{Kind: api.PaPass, Name: "upper"},
		part(side('c'), api.DirForth, bare(items(letters('d')...)...)),
		part(bare(items()...), api.DirBack, side('e')),
		{Kind: 99},
	}[:6]
}

func TestWhatIsHandedInIsOnlyRead(t *testing.T) {
	l, before := loose(), loose()
	if err := compare(t, l); err != api.OK {
		t.Errorf("%v", err)
	}
	if !reflect.DeepEqual(l[:cap(l)], before[:cap(before)]) {
		t.Errorf("%v, not %v", l, before)
	}
	for i := range l {
		for k, s := range handed(&l[i]) {
			if want := *handed(&before[i])[k]; !slices.Equal((*s)[:cap(*s)], want[:cap(want)]) {
				t.Errorf("the spare room of a set has changed")
			}
		}
		for k, x := range places(&l[i]) {
			if want := places(&before[i])[k]; !reflect.DeepEqual(x[:cap(x)], want[:cap(want)]) {
				t.Errorf("the spare room of items has changed")
			}
		}
	}
}

// places is all lists of items of a part.
func places(p *api.Part) [][]api.Item {
	return [][]api.Item{p.Left.Before, p.Left.Source, p.Left.After, p.Right.Before, p.Right.Source, p.Right.After}
}

// handed is all sets of a part, and of its items.
func handed(p *api.Part) []*[]api.Span {
	out := []*[]api.Span{&p.Set}
	for _, l := range places(p) {
		for i := range l {
			out = append(out, &l[i].Set)
		}
	}
	return out
}

func TestNothingIsKeptOfWhatIsHandedIn(t *testing.T) {
	for _, way := range []func([]api.Part) (api.Script, api.Fault){Forth, Back} {
		l := loose()
		s, _ := way(l)
		want, _ := way(loose())
		for i := range l {
			for _, x := range handed(&l[i]) {
				spoil((*x)[:cap(*x)])
			}
			for _, items := range places(&l[i]) {
				clear(items[:cap(items)])
			}
			l[i] = api.Part{}
		}
		if !same(s, want) {
			t.Errorf("%v, not %v", s, want)
		}
	}
}

func spoil(l []api.Span) {
	for i := range l {
		l[i] = api.Span{Low: -7, High: -7}
	}
}

// TestAnswersAreNewMemory: each list is filled up, its spare room too, and no other list has changed by it.
func TestAnswersAreNewMemory(t *testing.T) {
	for _, way := range []func([]api.Part) (api.Script, api.Fault){Forth, Back} {
		l := file(t, full)
		s, _ := way(l)
		want, _ := way(file(t, full))
		all := made(&s)
		if len(all) < 8 {
			t.Fatalf("only %d sets", len(all))
		}
		for _, x := range all {
			old := slices.Clone(*x)
			room := (*x)[:cap(*x)]
			spoil(room)
			*x = old
			if !same(s, want) {
				t.Fatalf("%v, not %v", s, want)
			}
			if again, _ := way(l); !same(again, want) {
				t.Fatalf("%v, not %v", again, want)
			}
		}
		for i := range s.Passes {
			for k := range s.Passes[i].Rules {
				r := &s.Passes[i].Rules[k]
				for _, x := range []*[][]api.Span{&r.Before, &r.Source, &r.After} {
					*x = append(*x, nil)[:len(*x)]
				}
				r.Target = append(r.Target, -7)[:len(r.Target)]
			}
			s.Passes[i].Rules = append(s.Passes[i].Rules, api.Rule{Start: true})[:len(s.Passes[i].Rules)]
		}
		if !same(s, want) {
			t.Fatalf("%v, not %v", s, want)
		}
	}
}

// made is all sets of a script.
func made(s *api.Script) []*[]api.Span {
	out := []*[]api.Span{&s.Only}
	for _, p := range s.Passes {
		for _, r := range p.Rules {
			for _, l := range [][][]api.Span{r.Before, r.Source, r.After} {
				for i := range l {
					out = append(out, &l[i])
				}
			}
		}
	}
	return out
}

// Z3

func TestNilAndNoEntries(t *testing.T) {
	becomes(t, nil, api.Script{}, api.Script{})
	becomes(t, []api.Part{}, api.Script{}, api.Script{})
	empty := api.Side{Before: []api.Item{}, Source: []api.Item{}, After: []api.Item{}, Cursor: -1}
	some := api.Side{Before: []api.Item{}, Source: []api.Item{set()}, After: []api.Item{}, Cursor: -1}
	want := passes(rules(api.Rule{Source: list(nil)}))
	becomes(t, []api.Part{part(some, api.DirForth, empty)}, want, api.Script{})
	some.Source[0].Set = []api.Span{}
	becomes(t, []api.Part{part(some, api.DirForth, empty)}, want, api.Script{})
	becomes(t, []api.Part{{Kind: api.PaFilter, Set: []api.Span{}}}, api.Script{Some: true}, api.Script{Some: true})
}
