package chain

import (
	"math"
	"reflect"
	"slices"
	"strings"
	"testing"

	"scriptshift/api"
	"scriptshift/resolve"
	"scriptshift/rulesyn"
	"scriptshift/run"
	"scriptshift/sets"
	"scriptshift/vm"
)

func span(low, high rune) api.Span { return api.Span{Low: low, High: high} }

func set(l ...api.Span) []api.Span { return l }

func list(l ...[]api.Span) [][]api.Span { return l }

// singles is a set of its own for each rune.
func singles(s string) [][]api.Span {
	var l [][]api.Span
	for _, r := range s {
		l = append(l, set(span(r, r)))
	}
	return l
}

// rule has its cursor behind its target.
func rule(before, source, after, target string) api.Rule {
	t := []rune(target)
	return api.Rule{Before: singles(before), Source: singles(source), After: singles(after), Target: t, Cursor: len(t)}
}

func plain(source, target string) api.Rule { return rule("", source, "", target) }

func starting(r api.Rule) api.Rule {
	r.Start = true
	return r
}

func ending(r api.Rule) api.Rule {
	r.End = true
	return r
}

func cursor(r api.Rule, at int) api.Rule {
	r.Cursor = at
	return r
}

// by is the pass of that name.
func by(name string) api.Pass { return api.Pass{Name: name} }

// of is the pass of those rules.
func of(l ...api.Rule) api.Pass { return api.Pass{Rules: l} }

// script is one for all runes.
func script(l ...api.Pass) api.Script { return api.Script{Passes: l} }

// only is one for runes of that set alone.
func only(s []api.Span, l ...api.Pass) api.Script {
	return api.Script{Some: true, Only: s, Passes: l}
}

func letters(n int) string { return strings.Repeat("a", n) }

func fault(err api.Errno, at int) api.Fault { return api.Fault{Err: err, At: at} }

var (
	every = set(span(0, api.MaxRune))
	ab    = set(span('a', 'b'))
)

// comes is that Go tells that, where nothing is wrong.
func comes(t *testing.T, s api.Script, text, want string) {
	t.Helper()
	if f := Wrong(s); f != (api.Fault{}) {
		t.Errorf("Wrong(%v): %v", brief(s), f)
	}
	if got, f := Go(s, []rune(text)); string(got) != want || f != (api.Fault{}) {
		t.Errorf("Go(%v, %.60q): %.60q, %v, not %.60q", brief(s), text, string(got), f, want)
	}
}

// refuses is that Go tells that fault, and nothing beside it.
func refuses(t *testing.T, s api.Script, text []rune, want api.Fault) {
	t.Helper()
	if got, f := Go(s, text); len(got) != 0 || f != want {
		t.Errorf("Go(%v, %d runes): %d runes, %v, not none, %v", brief(s), len(text), len(got), f, want)
	}
}

// halts is that Go tells that fault, although Wrong tells none.
func halts(t *testing.T, s api.Script, text string, want api.Fault) {
	t.Helper()
	if f := Wrong(s); f != (api.Fault{}) {
		t.Errorf("Wrong(%v): %v", brief(s), f)
	}
	refuses(t, s, []rune(text), want)
}

// isWrong is that Wrong tells that fault, and Go does, whatever the text is.
func isWrong(t *testing.T, s api.Script, want api.Fault) {
	t.Helper()
	if f := Wrong(s); f != want {
		t.Errorf("Wrong(%v): %v, not %v", brief(s), f, want)
	}
	for _, text := range [][]rune{nil, []rune("abc"), {-1}, make([]rune, 4001)} {
		refuses(t, s, text, want)
	}
}

// brief is what is told of a script, lest it become too long.
func brief(s api.Script) api.Script {
	s.Only = s.Only[:min(3, len(s.Only))]
	s.Passes = slices.Clone(s.Passes[:min(4, len(s.Passes))])
	for k, p := range s.Passes {
		s.Passes[k].Rules = p.Rules[:min(3, len(p.Rules))]
	}
	return s
}

// crowded are rules with which nothing is wrong, but which have one head too many: every third rune makes two, and what is ahead of them all makes one.
func crowded() []api.Rule {
	var l []api.Rule
	for k := range rune(200) {
		l = append(l, plain(string(1+3*k), "!"))
	}
	return l
}

// loop are rules that never end where there is a b.
var loop = of(cursor(plain("b", "b"), 0))

// M1

func TestUpperAndLower(t *testing.T) {
	small, great := letterFor(greatLetters, smallLetters), letterFor(smallLetters, greatLetters)
	if len(small) != 128 || len(great) != 128 {
		t.Fatalf("%d and %d letters", len(small), len(great))
	}
	check := func(r rune) {
		wantUpper, wantLower := r, r
		if x, ok := great[r]; ok {
			wantUpper = x
		}
		if x, ok := small[r]; ok {
			wantLower = x
		}
		if Upper(r) != wantUpper || Lower(r) != wantLower {
			t.Errorf("%d: %d and %d, not %d and %d", r, Upper(r), Lower(r), wantUpper, wantLower)
		}
	}
	for r := rune(-3000); r < api.MaxRune+3000; r++ {
		check(r)
	}
	for k := range rune(200) {
		check(math.MinInt32 + k)
		check(math.MaxInt32 - k)
	}
}

// TestEdgesOfLetters has the document's numbers, by themselves.
func TestEdgesOfLetters(t *testing.T) {
	for _, x := range []struct{ low, high, less rune }{
		{97, 122, 32}, {224, 246, 32}, {248, 254, 32}, {945, 961, 32}, {963, 969, 32}, {1072, 1103, 32}, {1104, 1119, 80},
	} {
		for r := x.low; r <= x.high; r++ {
			if Upper(r) != r-x.less || Lower(r-x.less) != r || Upper(r-x.less) != r-x.less || Lower(r) != r {
				t.Errorf("%d: %d, %d, %d, %d", r, Upper(r), Lower(r-x.less), Upper(r-x.less), Lower(r))
			}
		}
	}
	// What stands beside letters stays: signs, letters with no other one, and what is no rune.
	for _, r := range []rune{-1, 0, 64, 91, 96, 123, 181, 191, 215, 223, 247, 255, 376, 912, 930, 938, 944, 962, 970, 1023, 1120, 1121, 8490, 55296, 65533, 1114111, 1114112} {
		if Upper(r) != r || Lower(r) != r {
			t.Errorf("%d: %d, %d", r, Upper(r), Lower(r))
		}
	}
}

// M2

// wrongSpans are no sets.
var wrongSpans = []struct {
	s   []api.Span
	err api.Errno
}{
	{set(span(5, 1)), api.ErrRange},
	{set(span(-1, 1)), api.ErrRange},
	{set(span(0, api.MaxRune+1)), api.ErrRange},
	{set(span(1, 2), span(3, 4)), api.ErrForm},
	{set(span(5, 6), span(1, 2)), api.ErrForm},
	{make([]api.Span, 201), api.ErrMany},
}

// wrongPasses are passes with which something is wrong.
var wrongPasses = []struct {
	p   api.Pass
	err api.Errno
}{
	{by("foo"), api.ErrName},
	{by("Upper"), api.ErrName},
	{by("uppe"), api.ErrName},
	{by("upperr"), api.ErrName},
	{by("upper "), api.ErrName},
	{by(" "), api.ErrName},
	{by("\x00"), api.ErrName},
	{by("any"), api.ErrName},
	{api.Pass{Name: "foo", Rules: []api.Rule{plain("a", "b")}}, api.ErrName},
	{api.Pass{Name: "foo", Rules: make([]api.Rule, 201)}, api.ErrName},
	{api.Pass{Name: "upper", Rules: []api.Rule{plain("a", "b")}}, api.ErrFit},
	{api.Pass{Name: "lower", Rules: []api.Rule{plain("a", "b")}}, api.ErrFit},
	{api.Pass{Name: "null", Rules: make([]api.Rule, 1)}, api.ErrFit},
	{api.Pass{Name: "remove", Rules: make([]api.Rule, 201)}, api.ErrFit},
	{of(api.Rule{}), api.ErrNone},
	{of(plain("a", "b"), plain("b", "c"), api.Rule{}), api.ErrNone},
	{of(make([]api.Rule, 201)...), api.ErrMany},
	{of(slices.Repeat([]api.Rule{plain("a", "b")}, 201)...), api.ErrMany},
	{of(plain("a", letters(21))), api.ErrMany},
	{of(plain(letters(21), "a")), api.ErrMany},
	{of(plain("a", "b"), cursor(plain("a", "b"), 2)), api.ErrRange},
	{of(cursor(plain("a", "b"), -1)), api.ErrRange},
	{of(cursor(plain("a", "b"), math.MaxInt)), api.ErrRange},
	{of(api.Rule{Source: singles("a"), Target: []rune{55296}, Cursor: 1}), api.ErrRange},
	{of(plain("a", "b"), api.Rule{Source: list(set(span(1, 2), span(3, 4)))}, api.Rule{}), api.ErrForm},
}

// rightPasses are some with which nothing is wrong.
var rightPasses = []api.Pass{
	{}, by("upper"), by("lower"), by("null"), by("remove"), of(plain("a", "b")), loop, of(crowded()...),
	{Name: "upper", Rules: []api.Rule{}}, of(slices.Repeat([]api.Rule{plain("a", "b")}, 200)...),
}

func TestWrong(t *testing.T) {
	for _, s := range []api.Script{{}, script(), script(rightPasses...), only(nil), only(ab, rightPasses...), only(every, rightPasses...)} {
		if f := Wrong(s); f != (api.Fault{}) {
			t.Errorf("Wrong(%v): %v", brief(s), f)
		}
	}
	for _, x := range wrongPasses {
		for _, n := range []int{1, 2, 10, 60} {
			for k := range n {
				l := slices.Repeat(rightPasses, 6)[:n]
				l[k] = x.p
				isWrong(t, script(l...), fault(x.err, k))
				isWrong(t, only(ab, l...), fault(x.err, k))
			}
		}
	}
}

func TestWrongTellsTheFirst(t *testing.T) {
	for _, x := range wrongPasses {
		for _, y := range wrongPasses {
			isWrong(t, script(by("null"), x.p, y.p), fault(x.err, 1))
		}
	}
}

func TestWrongMany(t *testing.T) {
	for _, n := range []int{61, 62, 1000} {
		isWrong(t, script(make([]api.Pass, n)...), fault(api.ErrMany, 0))
		isWrong(t, only(ab, slices.Repeat([]api.Pass{by("upper")}, n)...), fault(api.ErrMany, 0))
		// How many there are is told ahead of what is wrong with them.
		isWrong(t, script(slices.Repeat([]api.Pass{by("foo")}, n)...), fault(api.ErrMany, 0))
	}
	comes(t, script(make([]api.Pass, 60)...), "abc", "abc")
	comes(t, only(ab, slices.Repeat([]api.Pass{by("upper")}, 60)...), "abc", "ABc")
	isWrong(t, script(slices.Repeat([]api.Pass{by("foo")}, 60)...), fault(api.ErrName, 0))
}

func TestWrongOnly(t *testing.T) {
	for _, x := range wrongSpans {
		isWrong(t, only(x.s), fault(x.err, 0))
		isWrong(t, only(x.s, rightPasses...), fault(x.err, 0))
		// Only is told ahead of passes.
		isWrong(t, only(x.s, make([]api.Pass, 61)...), fault(x.err, 0))
		for _, y := range wrongPasses {
			isWrong(t, only(x.s, y.p), fault(x.err, 0))
			isWrong(t, only(x.s, by("null"), y.p), fault(x.err, 0))
		}
		// Without Some it means nothing.
		s := only(x.s, by("upper"))
		s.Some = false
		comes(t, s, "abc", "ABC")
		s.Passes = make([]api.Pass, 61)
		isWrong(t, s, fault(api.ErrMany, 0))
	}
	full := make([]api.Span, 200)
	for k := range full {
		full[k] = span(rune(2*k), rune(2*k))
	}
	comes(t, only(full, by("upper")), "abcd", "aBcD")
}

// M3

func TestGo(t *testing.T) {
	// The document's example 13.
	comes(t, script(by("upper")), "é", "É")
	comes(t, script(by("upper")), "Aé ω1яßÿџ", "AÉ Ω1ЯßÿЏ")
	comes(t, script(by("lower")), "AÉ Ω1ЯßÿЏ", "aé ω1яßÿџ")
	comes(t, script(by("null")), "aB", "aB")
	comes(t, script(by("remove")), "aB", "")
	comes(t, script(of(plain("ab", "x"), plain("a", "y"))), "aba", "xy")
	comes(t, script(of()), "aB", "aB")
	comes(t, script(), "aB", "aB")
	for _, p := range rightPasses {
		comes(t, script(p), "", "")
		comes(t, only(every, p), "", "")
		comes(t, only(nil, p), "", "")
	}
	const edges = "\x00\ud7ff\ue000\ufffd\U0010ffff"
	for _, name := range []string{"upper", "lower", "null"} {
		comes(t, script(by(name)), edges, edges)
		comes(t, script(by(name)), strings.Repeat("1", 4000), strings.Repeat("1", 4000))
	}
	comes(t, script(by("remove")), edges, "")
}

// TestPassesPlayOneBehindTheOther: each plays over what the one ahead made.
func TestPassesPlayOneBehindTheOther(t *testing.T) {
	up, down, gone := by("upper"), by("lower"), by("remove")
	x := of(plain("a", "b"))
	y := of(plain("b", "c"))
	comes(t, script(x, y), "abc", "ccc")
	comes(t, script(y, x), "abc", "bcc")
	comes(t, script(up, x), "abc", "ABC")
	comes(t, script(x, up), "abc", "BBC")
	comes(t, script(up, down), "aBc", "abc")
	comes(t, script(down, up), "aBc", "ABC")
	comes(t, script(up, x, down, x, by("null"), y, up), "abAB", "CCCC")
	comes(t, script(gone, up), "abc", "")
	comes(t, script(gone, x, gone), "abc", "")
	comes(t, script(x, gone), "abc", "")
	// Rules of one pass look at what the one ahead made, at either side.
	comes(t, script(of(plain("a", "xx")), of(rule("x", "x", "", "y"))), "aa", "xyxy")
	comes(t, script(of(plain("b", "")), of(starting(ending(plain("aa", "!"))))), "babab", "!")
	// Rules in one pass are another thing than rules in two.
	comes(t, script(of(plain("a", "b"), plain("b", "a"))), "ab", "ba")
	comes(t, script(of(plain("a", "b")), of(plain("b", "a"))), "ab", "aa")
}

func TestOnly(t *testing.T) {
	up := by("upper")
	comes(t, only(ab, up), "abcabd", "ABcABd")
	comes(t, only(ab, up), "c", "c")
	comes(t, only(ab, up), "ca", "cA")
	comes(t, only(ab, up), "ac", "Ac")
	comes(t, only(ab, up), "ccabcc", "ccABcc")
	comes(t, only(ab), "abcab", "abcab")
	comes(t, only(nil, up, by("remove")), "abc", "abc")
	comes(t, only(every, up), "abc", "ABC")
	comes(t, only(ab, by("remove")), "abcab cbc", "c cc")
	comes(t, only(set(span('b', 'b'), span('d', 'd')), up), "abcde", "aBcDe")
	comes(t, only(set(span(0, 0), span(api.MaxRune, api.MaxRune)), by("remove")), "\x00a\U0010ffff", "a")
	// Only means nothing without Some.
	comes(t, api.Script{Only: ab, Passes: []api.Pass{up}}, "abc", "ABC")
}

// TestPieces: each is a text of its own.
func TestPieces(t *testing.T) {
	// Runes that stay are not looked at, and nothing reaches across them.
	comes(t, only(ab, of(api.Rule{Source: append(singles("a"), every), Target: []rune("!"), Cursor: 1})), "acabaca", "ac!aca")
	comes(t, only(ab, of(api.Rule{Before: list(every), Source: singles("a")})), "acaaca", "acaca")
	comes(t, only(ab, of(api.Rule{Source: singles("a"), After: list(every)})), "acabca", "acbca")
	comes(t, only(ab, of(plain("aa", "!"))), "acaaca", "ac!ca")
	// Start and End are those of pieces.
	comes(t, only(ab, of(starting(plain("a", "x")))), "aacaaca", "xacxacx")
	comes(t, only(ab, of(ending(plain("a", "x")))), "aacaaca", "axcaxcx")
	comes(t, only(ab, of(starting(ending(plain("a", "x"))))), "aacaaca", "aacaacx")
	comes(t, script(of(starting(ending(plain("a", "x"))))), "aacaaca", "aacaaca")
	// All passes play over a piece, whatever has become of it, and over nothing else.
	comes(t, only(ab, of(plain("a", "c")), of(plain("c", "d"))), "abcab", "dbcdb")
	comes(t, only(ab, of(plain("a", "c")), of(plain("cb", "!"))), "abcbab", "!cb!")
	comes(t, only(ab, of(plain("a", "xay")), of(starting(plain("x", "("))), of(ending(plain("y", ")")))), "aacac", "(ayxa)c(a)c")
	// What comes of one piece is not there for the next one.
	comes(t, only(ab, of(plain("a", "b"))), "acaac", "bcbbc")
	comes(t, only(ab, by("remove"), of(plain("a", "b"))), "acaac", "cc")
	comes(t, only(ab, of(plain("b", "")), of(plain("aa", "!"))), "abcba", "aca")
	comes(t, only(ab, of(plain("b", "")), of(plain("aa", "!"))), "abacaba", "!c!")
}

// link is the n-th letter of a chain.
func link(n int) rune { return rune(1000 + n) }

// linked are n rules, each of which makes the next letter of a chain, the cursor ahead of it: for the first letter they take n steps, and one more goes on.
func linked(n int) api.Pass {
	var l []api.Rule
	for k := range n {
		l = append(l, cursor(plain(string(link(k)), string(link(k+1))), 0))
	}
	return of(l...)
}

// TestSteps: how many there are hangs on each piece, and on what the pass ahead made of it.
func TestSteps(t *testing.T) {
	first := string(link(0))
	last := func(n int) string { return string(link(n)) }
	chained := set(span(1000, 1200))
	comes(t, script(linked(47)), first, last(47))
	halts(t, script(linked(48)), first, fault(api.ErrSteps, 0))
	// Runes that stay give no steps to a piece, and take none from it.
	comes(t, only(chained, linked(47)), first+strings.Repeat("a", 3000), last(47)+strings.Repeat("a", 3000))
	halts(t, only(chained, linked(48)), first+strings.Repeat("a", 3000), fault(api.ErrSteps, 0))
	comes(t, script(linked(48)), first+"aa", last(48)+"aa")
	// Each piece has its own, and each pass.
	comes(t, only(chained, linked(47)), strings.Repeat(first+"a", 20), strings.Repeat(last(47)+"a", 20))
	comes(t, only(chained, linked(47), of(plain(last(47), first)), linked(47)), first+"a"+first, last(47)+"a"+last(47))
	halts(t, only(chained, linked(47), of(plain(last(47), first)), linked(48)), "a"+first, fault(api.ErrSteps, 2))
	// What the pass ahead made counts.
	comes(t, script(of(plain("_", first+"aa")), linked(60)), "_", last(60)+"aa")
	halts(t, script(of(plain("_", first+"aa")), linked(62)), "_", fault(api.ErrSteps, 1))
	comes(t, script(of(plain("a", "")), linked(47)), "aaaaa"+first, last(47))
	halts(t, script(of(plain("a", "")), linked(48)), "aaaaa"+first, fault(api.ErrSteps, 1))
}

// TestWhichFaultIsTold: the first piece that has one, and of that the first pass; at the pass's number, whatever the rule's is.
func TestWhichFaultIsTold(t *testing.T) {
	null := by("null")
	halts(t, script(loop), "b", fault(api.ErrSteps, 0))
	halts(t, script(null, null, loop), "ab", fault(api.ErrSteps, 2))
	halts(t, script(of(plain("q", "r"), loop.Rules[0])), "ab", fault(api.ErrSteps, 0))
	comes(t, script(loop), "ac", "ac")
	comes(t, script(by("upper"), loop), "ab", "AB")
	comes(t, script(by("remove"), loop), "ab", "")
	halts(t, script(of(plain("a", "b")), loop), "a", fault(api.ErrSteps, 1))
	// A piece is played to its end ahead of the next one.
	a, b := of(cursor(plain("a", "a"), 0)), loop
	halts(t, only(ab, a, null, b), "bca", fault(api.ErrSteps, 2))
	halts(t, only(ab, a, null, b), "acb", fault(api.ErrSteps, 0))
	halts(t, only(ab, a, null, b), "ba", fault(api.ErrSteps, 0))
	comes(t, only(set(span('c', 'c')), a, b), "abcab", "abcab")
	// Too many heads are told by the pass that plays, not ahead of others.
	many := of(crowded()...)
	halts(t, script(many), "c", fault(api.ErrMany, 0))
	halts(t, script(null, many), "c", fault(api.ErrMany, 1))
	halts(t, script(loop, many), "c", fault(api.ErrMany, 1))
	halts(t, script(loop, many), "b", fault(api.ErrSteps, 0))
	halts(t, script(many, loop), "b", fault(api.ErrMany, 0))
	halts(t, only(ab, loop, many), "acb", fault(api.ErrMany, 1))
	comes(t, script(of(crowded()[:199]...)), "ab", "!b")
}

// TestNothingPlaysWithoutAPiece: a pass plays over a piece of which nothing is left, but not where there was no piece.
func TestNothingPlaysWithoutAPiece(t *testing.T) {
	many := of(crowded()...)
	for _, x := range []struct {
		l  []api.Pass
		at int
	}{
		{[]api.Pass{many}, 0},
		{[]api.Pass{by("remove"), many}, 1},
		{[]api.Pass{by("remove"), by("upper"), by("null"), many, loop}, 3},
	} {
		comes(t, script(x.l...), "", "")
		comes(t, only(ab, x.l...), "", "")
		comes(t, only(ab, x.l...), "cccc", "cccc")
		comes(t, only(nil, x.l...), "abc", "abc")
		halts(t, script(x.l...), "c", fault(api.ErrMany, x.at))
		halts(t, only(ab, x.l...), "ccb", fault(api.ErrMany, x.at))
	}
}

func TestMuch(t *testing.T) {
	double, null := of(plain("a", "aa")), by("null")
	half := of(plain("aa", "a"))
	comes(t, script(double), letters(2000), letters(4000))
	// Of a piece it is told where it plays.
	halts(t, script(double), letters(2001), fault(api.ErrMuch, 0))
	halts(t, script(null, double, by("remove")), letters(2001), fault(api.ErrMuch, 1))
	halts(t, script(double, double), letters(1001), fault(api.ErrMuch, 1))
	comes(t, script(double, double), letters(1000), letters(4000))
	comes(t, script(double, half, double), letters(2000), letters(4000))
	// Of all pieces together it is told in the end.
	aca := func(n int) string { return strings.Repeat("ac", n) }
	aaca := func(n int) string { return strings.Repeat("aac", n) }
	comes(t, only(ab, double), aca(1333), aaca(1333))
	comes(t, only(ab, double), aca(1333)+"c", aaca(1333)+"c")
	halts(t, only(ab, double), aca(1333)+"cc", fault(api.ErrMuch, 1))
	halts(t, only(ab, double), "cc"+aca(1333), fault(api.ErrMuch, 1))
	halts(t, only(ab, double), aca(1333)+"a", fault(api.ErrMuch, 1))
	halts(t, only(ab, double), aca(2000), fault(api.ErrMuch, 1))
	halts(t, only(ab, null, double, null), aca(2000), fault(api.ErrMuch, 3))
	halts(t, only(ab, double), letters(2000)+"c", fault(api.ErrMuch, 1))
	comes(t, only(ab, double), letters(1999)+"cc", letters(3998)+"cc")
	// No piece minds what came of others, as long as there is little in the end.
	comes(t, only(ab, double, half), aca(2000), aca(2000))
	comes(t, only(ab, double, double, by("remove")), strings.Repeat(letters(999)+"c", 4), "cccc")
	comes(t, only(set(span('a', 'a')), of(plain("a", letters(20))), of(plain("aa", "")), double), aca(2000), strings.Repeat("c", 2000))
	// A fault of a later piece is told ahead of it.
	halts(t, only(ab, double, loop), aca(1990)+"b", fault(api.ErrSteps, 1))
	halts(t, only(ab, double, null, loop), aca(1990)+"bc", fault(api.ErrSteps, 2))
	halts(t, only(ab, double, double), aca(600)+"c"+letters(1001), fault(api.ErrMuch, 1))
	halts(t, only(ab, double, double), aca(600)+"c"+letters(1000), fault(api.ErrMuch, 2))
	// A text that is full already stays.
	comes(t, script(), letters(4000), letters(4000))
	comes(t, only(ab), letters(4000), letters(4000))
	comes(t, only(nil, double), letters(4000), letters(4000))
	comes(t, script(of(plain("a", "b")), by("upper")), letters(4000), strings.Repeat("B", 4000))
}

func TestWhatIsWrongWithTheText(t *testing.T) {
	for _, x := range []struct {
		text []rune
		err  api.Errno
	}{
		{[]rune(letters(4001)), api.ErrMuch},
		{append([]rune(letters(4000)), -1), api.ErrMuch},
		{append([]rune(letters(3999)), -1), api.ErrRange},
		{[]rune{math.MinInt32}, api.ErrRange},
		{[]rune{-1}, api.ErrRange},
		{[]rune{'b', 55296}, api.ErrRange},
		{[]rune{57343, 'b'}, api.ErrRange},
		{[]rune{'b', api.MaxRune + 1, 'b'}, api.ErrRange},
		{[]rune{math.MaxInt32}, api.ErrRange},
	} {
		for _, l := range [][]api.Pass{nil, {by("null")}, {by("remove")}, {by("null"), loop}, {of(crowded()...)}, make([]api.Pass, 59)} {
			refuses(t, script(l...), x.text, fault(x.err, 0))
			refuses(t, only(nil, l...), x.text, fault(x.err, 0))
			refuses(t, only(ab, l...), x.text, fault(x.err, 0))
			refuses(t, only(every, l...), x.text, fault(x.err, 0))
			// What is wrong with the script is told ahead of it.
			refuses(t, script(append(slices.Clone(l), by("foo"))...), x.text, fault(api.ErrName, len(l)))
			refuses(t, only(set(span(2, 1)), l...), x.text, fault(api.ErrRange, 0))
		}
	}
}

// TestFiles plays scripts that were read.
func TestFiles(t *testing.T) {
	for _, x := range []struct{ file, text, forth, back string }{
		{":: upper ;", "Grün", "GRÜN", "grün"},
		{":: [a-z] ; ab <> x ; :: upper ;", "ab-Abx", "X-ABX", "ab-Abab"},
		{":: [[:greek:]] ; σ } $ > ς ;", "σοσ σας", "σος σας", "σοσ σας"},
		{":: lower ; a > 4 ; e > 3 ; :: remove ;", "Ave", "", "AVE"},
		{":: [ab] ; ^ { a > x ; b } $ > y ;", "ab ba", "xy ba", "ab ba"},
		{"# nothing", "Ave", "Ave", "Ave"},
	} {
		l, f := rulesyn.Read(x.file)
		if f != (api.Fault{}) {
			t.Fatalf("%q: %v", x.file, f)
		}
		forth, f := resolve.Forth(l)
		back, g := resolve.Back(l)
		if f != (api.Fault{}) || g != (api.Fault{}) {
			t.Fatalf("%q: %v, %v", x.file, f, g)
		}
		comes(t, forth, x.text, x.forth)
		comes(t, back, x.text, x.back)
	}
}

// What comes of it

// oneByOne holds Go of several passes against Go of each of them, one behind the other, where all of a text is one piece.
func oneByOne(t *testing.T, l []api.Pass, text string) {
	t.Helper()
	got, f := Go(script(l...), []rune(text))
	want, g := []rune(text), api.Fault{}
	for k := range l {
		if g.Err == api.OK && len(want) > 0 {
			want, g = Go(script(l[k]), want)
			if g.Err != api.OK {
				g.At = k
			}
		}
	}
	if !slices.Equal(got, want) || f != g {
		t.Errorf("%v, %.60q: %.60q, %v, not %.60q, %v", brief(script(l...)), text, string(got), f, string(want), g)
	}
}

// alone holds Go of a pass of rules against vm.Play, and against run.Run.
func alone(t *testing.T, p api.Pass, text string) {
	t.Helper()
	got, f := Go(script(p), []rune(text))
	played, g := vm.Play(p.Rules, []rune(text))
	ran, h := run.Run(p.Rules, []rune(text))
	if !slices.Equal(got, played.Text) || !slices.Equal(got, ran.Text) || f != g || f != h {
		t.Errorf("%v, %.60q: %.60q, %v, not %.60q, %v", brief(script(p)), text, string(got), f, string(played.Text), g)
	}
}

// dice tells numbers below others, always the same ones.
func dice() func(below int) int {
	seed := 1
	return func(below int) int {
		seed = (seed*1103515245 + 12345) & (1<<31 - 1)
		return (seed >> 8) % below
	}
}

// maker makes scripts and texts of few runes.
type maker struct{ next func(below int) int }

func (m maker) rune() rune {
	l := []rune{0, 'B', 'a', 'b', 0xc9, 0xe9, 55295, 57344, 65533, api.MaxRune}
	return l[m.next(len(l))]
}

func (m maker) word(least, most int) []rune {
	var l []rune
	for range least + m.next(most-least+1) {
		l = append(l, m.rune())
	}
	return l
}

// around are sets that have the runes of a word, and few or many beside them.
func (m maker) around(l []rune) [][]api.Span {
	var out [][]api.Span
	for _, r := range l {
		wide := rune(m.next(3))
		if m.next(3) == 0 {
			wide = 60000
		}
		out = append(out, set(span(max(0, r-wide), min(api.MaxRune, r+wide))))
	}
	return out
}

func (m maker) rule() api.Rule {
	r := api.Rule{
		Start: m.next(9) == 0, End: m.next(9) == 0,
		Before: m.around(m.word(0, m.next(2))), Source: m.around(m.word(1, 2)), After: m.around(m.word(0, m.next(2))),
		Target: m.word(0, 4),
	}
	r.Cursor = len(r.Target)
	if m.next(3) == 0 {
		r.Cursor = m.next(len(r.Target) + 1)
	}
	return r
}

func (m maker) pass() api.Pass {
	if m.next(3) == 0 {
		l := []string{"upper", "lower", "null", "upper", "lower", "null", "remove"}
		return by(l[m.next(len(l))])
	}
	var l []api.Rule
	for range m.next(9) {
		l = append(l, m.rule())
	}
	return of(l...)
}

func (m maker) script() api.Script {
	s := api.Script{Some: m.next(3) > 0}
	for range m.next(5) {
		s.Passes = append(s.Passes, m.pass())
	}
	var l []api.Span
	for _, r := range m.word(0, 9) {
		l = append(l, span(r, r))
	}
	s.Only, _ = sets.Of(l)
	return s
}

// compare holds Go against the oracle; it tells what comes of it.
func compare(t *testing.T, s api.Script, text string) api.Fault {
	t.Helper()
	want, f := anotherWay(s, text)
	if got, g := Go(s, []rune(text)); string(got) != want || f != g {
		t.Errorf("%v, %.60q: %.60q, %v, not %.60q, %v", brief(s), text, string(got), g, want, f)
	}
	return f
}

// TestAnotherWay holds scripts of all kinds against oracle_test.go, and against what else plays rules.
func TestAnotherWay(t *testing.T) {
	n := map[api.Errno]int{}
	m := maker{dice()}
	for range 4000 {
		s, text := m.script(), string(m.word(0, 40))
		if f := Wrong(s); f != (api.Fault{}) {
			t.Fatalf("Wrong(%v): %v", s, f)
		}
		n[compare(t, s, text).Err]++
		oneByOne(t, s.Passes, text)
		for _, p := range s.Passes {
			if p.Name == "" {
				alone(t, p, text)
			}
		}
	}
	if n[api.OK] < 2000 || n[api.ErrSteps] < 200 {
		t.Errorf("of each kind: %v", n)
	}
}

// TestAnotherWayLong does so with rules that go on, over texts that may become too long.
func TestAnotherWayLong(t *testing.T) {
	m := maker{dice()}
	played, ended := 0, 0
	for range 60 {
		s := m.script()
		for _, p := range s.Passes {
			for k := range p.Rules {
				p.Rules[k].Cursor = len(p.Rules[k].Target)
			}
		}
		switch f := compare(t, s, string(m.word(2000, 3500))); {
		case f.Err == api.ErrMuch && f.At == len(s.Passes):
			ended++
		case f.Err == api.ErrMuch:
			played++
		}
	}
	if played < 3 || ended < 3 {
		t.Errorf("too much %d times as it played, and %d times in the end", played, ended)
	}
}

// TestCrowdedInAnotherWay does so with as many heads as there may be, and one more.
func TestCrowdedInAnotherWay(t *testing.T) {
	for _, n := range []int{198, 199, 200} {
		for _, text := range []string{"", "a", "ab", "cbc", "\x00\x01"} {
			for _, s := range []api.Script{script(of(crowded()[:n]...)), only(ab, by("upper"), of(crowded()[:n]...)), only(ab, by("remove"), of(crowded()[:n]...))} {
				compare(t, s, text)
			}
		}
	}
}

// TestReady: a script that plays over one text after the other makes of each what it makes of it alone, whatever came before.
func TestReady(t *testing.T) {
	m := maker{dice()}
	for range 500 {
		s := m.script()
		play, f := Ready(s)
		if f != (api.Fault{}) {
			t.Fatalf("Ready(%v): %v", s, f)
		}
		for range 6 {
			text := string(m.word(0, 20))
			want, g := anotherWay(s, text)
			if got, f := play([]rune(text)); string(got) != want || f != g {
				t.Errorf("%v, %q: %q, %v, not %q, %v", s, text, string(got), f, want, g)
			}
			if got, f := play([]rune{'a', 55296}); len(got) != 0 || f != fault(api.ErrRange, 0) {
				t.Errorf("%v: %q, %v", s, string(got), f)
			}
		}
	}
	if play, f := Ready(script(of(), by("foo"))); play != nil || f != fault(api.ErrName, 1) {
		t.Errorf("of a script that is wrong: %v", f)
	}
}

// Z2

// roomy is a script and a text whose lists all have spare room, and there something that is wrong, or would match.
func roomy() (api.Script, []rune) {
	spans := func(r rune) []api.Span { return set(span(r, r), span(-9, -10))[:1] }
	sets := func(l ...[]api.Span) [][]api.Span { return append(l, set(span(5, 4)))[:len(l)] }
	r := api.Rule{Before: sets(spans('a')), Source: sets(spans('b')), After: sets(spans('c')), Target: []rune{'x', 'y', -1}[:2], Cursor: 2}
	s := api.Rule{Source: sets(spans('c'), spans('d')), Target: []rune{'z', -1}[:1]}
	rules := []api.Rule{r, s, {}}[:2]
	passes := []api.Pass{by("null"), {Rules: rules}, by("null"), {Name: "upper", Rules: []api.Rule{{}}[:0]}, by("foo")}[:4]
	return api.Script{Some: true, Only: set(span('a', 'd'), span(-9, -10))[:1], Passes: passes}, []rune{'e', 'a', 'b', 'c', 'd', 'b', 'e', 'a', 'b', -1, -2}[:8]
}

// whole is all that a script and a text have, spare room and all.
func whole(s api.Script, text []rune) []any {
	out := []any{slices.Clone(text[:cap(text)]), s.Some, slices.Clone(s.Only[:cap(s.Only)])}
	for _, p := range s.Passes[:cap(s.Passes)] {
		out = append(out, p.Name, len(p.Rules))
		for _, r := range p.Rules[:cap(p.Rules)] {
			out = append(out, slices.Clone(r.Target[:cap(r.Target)]), r.Cursor, r.Start, r.End)
			for _, l := range [][][]api.Span{r.Before, r.Source, r.After} {
				for _, s := range l[:cap(l)] {
					out = append(out, slices.Clone(s[:cap(s)]))
				}
			}
		}
	}
	return out
}

// spoil changes all that a list has, spare room and all.
func spoil(l []rune) {
	for k := range l[:cap(l)] {
		l[:cap(l)][k] = -7
	}
}

func TestWhatIsHandedInIsOnlyRead(t *testing.T) {
	s, text := roomy()
	want := whole(s, text)
	for range 2 {
		if f := Wrong(s); f != (api.Fault{}) {
			t.Errorf("Wrong: %v", f)
		}
		got, f := Go(s, text)
		if string(got) != "eAXYZBeA" || f != (api.Fault{}) {
			t.Errorf("Go: %q, %v", string(got), f)
		}
		if !reflect.DeepEqual(whole(s, text), want) {
			t.Errorf("%v, not %v", whole(s, text), want)
		}
		spoil(got)
		if !reflect.DeepEqual(whole(s, text), want) {
			t.Errorf("the answer shares memory: %v, not %v", whole(s, text), want)
		}
	}
	got, _ := Go(s, text)
	spoil(text)
	spoil(s.Passes[1].Rules[0].Target)
	clear(s.Passes[1].Rules)
	clear(s.Passes)
	clear(s.Only)
	if string(got) != "eAXYZBeA" {
		t.Errorf("the answer has become %q", string(got))
	}
}

// No pass changes the text itself, be it the first one to play over it or behind one that let it be.
func TestPassesLeaveTheTextAlone(t *testing.T) {
	for _, p := range []api.Pass{by("upper"), by("lower"), by("remove"), of(plain("a", "x")), of(plain("a", "xyz")), of(plain("a", ""))} {
		for _, s := range []api.Script{script(p), script(by("null"), p), only(ab, p), only(every, by("null"), p, by("upper"))} {
			text := append(make([]rune, 0, 9), 'a', 'B', 'a')
			got, f := Go(s, text)
			if f != (api.Fault{}) || !slices.Equal(text[:9], []rune{'a', 'B', 'a', 0, 0, 0, 0, 0, 0}) {
				t.Errorf("%v: %q, %v; the text has become %v", s, string(got), f, text[:9])
			}
		}
	}
}

// A text that stays as it is is new memory, too.
func TestWhatStaysIsNew(t *testing.T) {
	for _, s := range []api.Script{script(), script(by("null")), script(by("lower")), script(of()), script(by("null"), by("null")), only(ab), only(nil, by("upper")), only(ab, by("null")), only(every, by("null"))} {
		text := append(make([]rune, 0, 9), 'a', 'b', 'c')
		got, f := Go(s, text)
		if string(got) != "abc" || f != (api.Fault{}) {
			t.Errorf("%v: %q, %v", s, string(got), f)
		}
		spoil(append(got, 'd'))
		spoil(got)
		if !slices.Equal(text[:9], []rune{'a', 'b', 'c', 0, 0, 0, 0, 0, 0}) {
			t.Errorf("%v: the text has become %v", s, text[:9])
		}
	}
}

// What stands behind a piece is not there, be it the text's or spare room.
func TestSpareRoomIsNotLookedAt(t *testing.T) {
	text := []rune("abca")
	far := of(plain("abc", "x"), rule("", "a", "bc", "x"), plain("aa", "x"), plain("bc", "x"))
	for n := range 3 {
		comes(t, script(far), string(text[:n]), string(text[:n]))
		got, f := Go(script(by("null"), far), text[:n])
		if !slices.Equal(got, text[:n]) || f != (api.Fault{}) {
			t.Errorf("%q, %v", string(got), f)
		}
	}
	got, f := Go(only(ab, by("null"), far, of(plain("a", "yyy"))), text)
	if string(got) != "yyybcyyy" || f != (api.Fault{}) || string(text) != "abca" {
		t.Errorf("%q, %v; the text has become %q", string(got), f, string(text))
	}
}

// Z3

func TestNilAndNoEntries(t *testing.T) {
	for _, s := range []api.Script{
		{Only: []api.Span{}, Passes: []api.Pass{}},
		{Some: true},
		{Some: true, Only: []api.Span{}, Passes: []api.Pass{{Rules: []api.Rule{}}}},
		script(api.Pass{Rules: []api.Rule{}}, api.Pass{Name: "null", Rules: []api.Rule{}}, api.Pass{}),
		script(of(api.Rule{Before: list(), Source: singles("q"), After: list(), Target: []rune{}})),
	} {
		comes(t, s, "abc", "abc")
		for _, text := range [][]rune{nil, {}} {
			if got, f := Go(s, text); len(got) != 0 || f != (api.Fault{}) {
				t.Errorf("Go(%v, %v): %v, %v", s, text, got, f)
			}
		}
	}
}
