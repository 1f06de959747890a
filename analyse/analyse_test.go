package analyse

import (
	"math"
	"reflect"
	"slices"
	"strings"
	"testing"

	"scriptshift/api"
	"scriptshift/match"
	"scriptshift/run"
	"scriptshift/sets"
)

func span(low, high rune) api.Span { return api.Span{Low: low, High: high} }

func set(l ...api.Span) []api.Span { return l }

// each is a set of its own for each rune.
func each(s string) [][]api.Span {
	var l [][]api.Span
	for _, r := range s {
		l = append(l, set(span(r, r)))
	}
	return l
}

func list(l ...[]api.Span) [][]api.Span { return l }

// rule has its cursor behind its target.
func rule(before, source, after, target string) api.Rule {
	t := []rune(target)
	return api.Rule{Before: each(before), Source: each(source), After: each(after), Target: t, Cursor: len(t)}
}

func plain(source, target string) api.Rule { return rule("", source, "", target) }

// of is a rule of one set.
func of(l ...api.Span) api.Rule { return api.Rule{Source: list(l)} }

func starting(r api.Rule) api.Rule {
	r.Start = true
	return r
}

func ending(r api.Rule) api.Rule {
	r.End = true
	return r
}

func cursor(r api.Rule, at int) api.Rule {
	r.Cursor = at
	return r
}

func rules(l ...api.Rule) []api.Rule { return l }

func letters(n int) string { return strings.Repeat("a", n) }

func fault(err api.Errno, at int) api.Fault { return api.Fault{Err: err, At: at} }

var every = set(span(0, api.MaxRune))

// masking is that Masks tells that, where nothing is wrong, wherever the two rules stand.
func masking(t *testing.T, a, b api.Rule, want bool) {
	t.Helper()
	z := plain("zzz", "")
	for _, x := range []struct {
		l    []api.Rule
		i, j int
	}{{rules(a, b), 0, 1}, {rules(b, a), 1, 0}, {rules(z, b, z, a), 3, 1}} {
		if got, f := Masks(x.l, x.i, x.j); got != want || f != (api.Fault{}) {
			t.Errorf("Masks(%v, %d, %d): %v, %v, not %v", x.l, x.i, x.j, got, f, want)
		}
	}
}

// masked is that Masked tells those, where nothing is wrong.
func masked(t *testing.T, l []api.Rule, want ...int) {
	t.Helper()
	if got, f := Masked(l); !slices.Equal(got, want) || f != (api.Fault{}) {
		t.Errorf("Masked(%v): %v, %v, not %v", l[:min(9, len(l))], got, f, want)
	}
}

// firsts is that Firsts tells that set, where nothing is wrong.
func firsts(t *testing.T, l []api.Rule, want ...api.Span) {
	t.Helper()
	if got, f := Firsts(l); !slices.Equal(got, want) || f != (api.Fault{}) {
		t.Errorf("Firsts(%v): %v, %v, not %v", l[:min(9, len(l))], got, f, want)
	}
}

// steady is that Steady tells that, where nothing is wrong.
func steady(t *testing.T, want bool, l ...api.Rule) {
	t.Helper()
	if got, f := Steady(l); got != want || f != (api.Fault{}) {
		t.Errorf("Steady(%v): %v, %v, not %v", l[:min(9, len(l))], got, f, want)
	}
}

// reach is that Reach tells those.
func reach(t *testing.T, l []api.Rule, behind, ahead int) {
	t.Helper()
	if b, a := Reach(l); b != behind || a != ahead {
		t.Errorf("Reach(%v): %d, %d, not %d, %d", l[:min(9, len(l))], b, a, behind, ahead)
	}
}

// refuse is that all calls with a fault tell that one, and zero values beside it.
func refuse(t *testing.T, l []api.Rule, want api.Fault) {
	t.Helper()
	for _, at := range [][2]int{{0, 0}, {0, len(l) - 1}, {-1, 0}, {0, len(l)}, {math.MinInt, math.MaxInt}} {
		if got, f := Masks(l, at[0], at[1]); got || f != want {
			t.Errorf("Masks(%d rules, %d, %d): %v, %v, not false, %v", len(l), at[0], at[1], got, f, want)
		}
	}
	if got, f := Masked(l); len(got) != 0 || f != want {
		t.Errorf("Masked(%d rules): %v, %v, not none, %v", len(l), got, f, want)
	}
	if got, f := Firsts(l); len(got) != 0 || f != want {
		t.Errorf("Firsts(%d rules): %v, %v, not none, %v", len(l), got, f, want)
	}
	if got, f := Steady(l); got || f != want {
		t.Errorf("Steady(%d rules): %v, %v, not false, %v", len(l), got, f, want)
	}
}

// many are n rules that are right.
func many(n int) []api.Rule {
	l := make([]api.Rule, n)
	for k := range l {
		l[k] = plain("b", "y")
	}
	return l
}

// wrongs are rules with which something is wrong.
var wrongs = []struct {
	r   api.Rule
	err api.Errno
}{
	{api.Rule{}, api.ErrNone},
	{rule("a", "", "b", "c"), api.ErrNone},
	{plain(letters(21), ""), api.ErrMany},
	{rule(letters(21), "a", "", ""), api.ErrMany},
	{rule("", "a", letters(21), ""), api.ErrMany},
	{plain("a", letters(21)), api.ErrMany},
	{cursor(plain("a", "xy"), 3), api.ErrRange},
	{cursor(plain("a", "xy"), -1), api.ErrRange},
	{api.Rule{Source: each("a"), Target: []rune{55296}, Cursor: 1}, api.ErrRange},
	{of(span(5, 4)), api.ErrRange},
	{of(span(1, 2), span(3, 4)), api.ErrForm},
	{api.Rule{Before: list(set(span(-1, 4))), Source: each("a")}, api.ErrRange},
	{api.Rule{Source: each("a"), After: list(set(span(5, 6), span(1, 2)))}, api.ErrForm},
	{api.Rule{Source: list(scattered(0, 201))}, api.ErrMany},
}

// I1

func TestWhatIsWrongIsToldFirst(t *testing.T) {
	for _, x := range wrongs {
		refuse(t, rules(x.r), fault(x.err, 0))
		refuse(t, rules(plain("b", "y"), x.r, api.Rule{}), fault(x.err, 1))
		refuse(t, append(many(199), x.r), fault(x.err, 199))
		refuse(t, append(many(200), x.r), fault(api.ErrMany, 0))
	}
	refuse(t, many(201), fault(api.ErrMany, 0))
	refuse(t, make([]api.Rule, 1000), fault(api.ErrMany, 0))
	// Ahead of too many spans, too.
	l := rules(api.Rule{Source: list(scattered(0, 200))}, api.Rule{Source: list(scattered(2000, 200))}, api.Rule{})
	refuse(t, l, fault(api.ErrNone, 2))
}

func TestMasksNoRule(t *testing.T) {
	for n := range 4 {
		l := many(n)
		for _, no := range []int{math.MinInt, -2, -1, n, n + 1, math.MaxInt} {
			for _, other := range []int{math.MinInt, -1, 0, n - 1, n, math.MaxInt} {
				for _, at := range [][2]int{{no, other}, {other, no}} {
					if got, f := Masks(l, at[0], at[1]); got || f != fault(api.ErrRange, 0) {
						t.Errorf("Masks(%d rules, %d, %d): %v, %v", n, at[0], at[1], got, f)
					}
				}
			}
		}
		for i := range n {
			for j := range n {
				if got, f := Masks(l, i, j); !got || f != (api.Fault{}) {
					t.Errorf("Masks(%d rules, %d, %d): %v, %v", n, i, j, got, f)
				}
			}
		}
	}
	l := append(many(199), plain("bc", ""))
	if got, f := Masks(l, 0, 199); !got || f != (api.Fault{}) {
		t.Errorf("the last of 200: %v, %v", got, f)
	}
	if got, f := Masks(l, 199, 0); got || f != (api.Fault{}) {
		t.Errorf("by the last of 200: %v, %v", got, f)
	}
}

func TestMasksSource(t *testing.T) {
	// The document's example 9.
	masking(t, plain("a", "x"), plain("ab", "y"), true)
	masking(t, plain("ab", "y"), plain("a", "x"), false)
	masking(t, plain("a", ""), plain("a", ""), true)
	masking(t, plain("a", ""), plain("b", ""), false)
	masking(t, plain("b", ""), plain("ab", ""), false)
	masking(t, plain("ab", ""), plain("abc", ""), true)
	masking(t, plain("ac", ""), plain("abc", ""), false)
	masking(t, plain(letters(20), ""), plain(letters(20), ""), true)
	masking(t, plain(letters(20), ""), plain(letters(19)+"b", ""), false)
	masking(t, plain(letters(20), ""), plain(letters(19), ""), false)
	// Nothing hangs on Target, nor on Cursor.
	masking(t, plain("a", "xyz"), cursor(plain("a", "q"), 0), true)
}

func TestMasksAfter(t *testing.T) {
	// Source and After are one list: it doesn't matter where the one ends and the other begins.
	masking(t, rule("", "a", "b", ""), plain("ab", ""), true)
	masking(t, plain("ab", ""), rule("", "a", "b", ""), true)
	masking(t, plain("a", ""), rule("", "a", "b", ""), true)
	masking(t, rule("", "a", "b", ""), plain("a", ""), false)
	masking(t, rule("", "a", "bc", ""), rule("", "ab", "cd", ""), true)
	masking(t, rule("", "abc", "d", ""), rule("", "a", "bcd", ""), true)
	masking(t, rule("", "abc", "d", ""), rule("", "a", "bc", ""), false)
	masking(t, rule("", "a", "bc", ""), rule("", "a", "bd", ""), false)
	masking(t, rule("", "a", "b", ""), rule("", "a", "cb", ""), false)
	masking(t, rule("", letters(20), letters(20), ""), rule("", letters(20), letters(20), ""), true)
	masking(t, rule("", letters(20), letters(20), ""), rule("", letters(20), letters(19)+"b", ""), false)
}

func TestMasksBefore(t *testing.T) {
	masking(t, plain("a", ""), rule("b", "a", "", ""), true)
	masking(t, rule("b", "a", "", ""), plain("a", ""), false)
	masking(t, rule("b", "a", "", ""), rule("b", "a", "", ""), true)
	masking(t, rule("b", "a", "", ""), rule("c", "a", "", ""), false)
	// The last ones are meant, those that are nearest.
	masking(t, rule("b", "a", "", ""), rule("cb", "a", "", ""), true)
	masking(t, rule("b", "a", "", ""), rule("bc", "a", "", ""), false)
	masking(t, rule("cb", "a", "", ""), rule("dcb", "a", "", ""), true)
	masking(t, rule("cb", "a", "", ""), rule("cdb", "a", "", ""), false)
	masking(t, rule("cb", "a", "", ""), rule("bc", "a", "", ""), false)
	masking(t, rule("cb", "a", "", ""), rule("b", "a", "", ""), false)
	masking(t, rule("b", "a", "", ""), rule("b", "c", "", ""), false)
	masking(t, rule(letters(20), "a", "", ""), rule(letters(20), "a", "", ""), true)
	masking(t, rule(letters(20), "a", "", ""), rule("b"+letters(19), "a", "", ""), false)
	// What stands ahead is not what stands behind.
	masking(t, rule("b", "a", "", ""), rule("", "b", "a", ""), false)
	masking(t, plain("ba", ""), rule("b", "a", "", ""), false)
}

func TestMasksSets(t *testing.T) {
	masking(t, of(every...), plain("a", ""), true)
	masking(t, plain("a", ""), of(every...), false)
	masking(t, of(span('a', 'c'), span('x', 'z')), of(span('b', 'c'), span('x', 'x')), true)
	masking(t, of(span('a', 'c'), span('x', 'z')), of(span('c', 'd')), false)
	masking(t, of(span('a', 'c'), span('x', 'z')), of(span('a', 'z')), false)
	// Numbers that are no right runes are numbers, too.
	masking(t, of(span(0, 55295), span(57344, api.MaxRune)), of(every...), false)
	for k, wide := range []api.Rule{{Before: list(every), Source: each("a")}, {Source: list(every)}, {Source: each("a"), After: list(every)}} {
		thin := []api.Rule{rule("b", "a", "", ""), plain("b", ""), rule("", "a", "b", "")}[k]
		masking(t, wide, thin, true)
		masking(t, thin, wide, false)
	}
	// A set that has none is within all others, and none but such ones is within it.
	masking(t, plain("a", ""), of(), true)
	masking(t, of(), plain("a", ""), false)
	masking(t, of(), of(), true)
	masking(t, of(), api.Rule{Source: list(nil, every)}, true)
	// That a rule can't match does not make it masked by one that asks for more.
	masking(t, rule("b", "a", "", ""), of(), false)
	masking(t, plain("ab", ""), of(), false)
	masking(t, plain("b", ""), api.Rule{Source: list(every, nil)}, false)
}

func TestMasksStart(t *testing.T) {
	a, b := plain("a", ""), rule("b", "a", "", "")
	masking(t, starting(a), a, false)
	masking(t, a, starting(a), true)
	masking(t, starting(a), starting(a), true)
	masking(t, starting(a), starting(b), false)
	masking(t, starting(b), starting(b), true)
	masking(t, starting(b), starting(rule("cb", "a", "", "")), false)
	masking(t, b, starting(rule("cb", "a", "", "")), true)
	masking(t, starting(b), starting(rule("c", "a", "", "")), false)
	masking(t, starting(a), b, false)
	masking(t, a, starting(b), true)
	masking(t, starting(b), starting(a), false)
	// It says nothing of what stands behind, and End doesn't do in its place.
	masking(t, starting(a), starting(rule("", "a", "c", "")), true)
	masking(t, starting(a), starting(plain("ac", "")), true)
	masking(t, starting(a), ending(a), false)
	masking(t, starting(a), starting(ending(a)), true)
	masking(t, starting(ending(a)), starting(a), false)
}

func TestMasksEnd(t *testing.T) {
	a, b := plain("a", ""), rule("", "a", "b", "")
	masking(t, ending(a), a, false)
	masking(t, a, ending(a), true)
	masking(t, ending(a), ending(a), true)
	masking(t, ending(a), ending(b), false)
	masking(t, ending(b), ending(b), true)
	masking(t, ending(b), ending(plain("ab", "")), true)
	masking(t, ending(plain("ab", "")), ending(b), true)
	masking(t, ending(b), ending(rule("", "a", "bc", "")), false)
	masking(t, ending(b), ending(plain("abc", "")), false)
	masking(t, b, ending(plain("abc", "")), true)
	masking(t, ending(b), ending(rule("", "a", "c", "")), false)
	masking(t, ending(a), b, false)
	masking(t, ending(b), ending(a), false)
	// It says nothing of what stands ahead, and Start doesn't do in its place.
	masking(t, ending(a), ending(rule("c", "a", "", "")), true)
	masking(t, ending(a), starting(a), false)
	masking(t, ending(a), starting(ending(a)), true)
	masking(t, starting(ending(b)), starting(ending(b)), true)
}

func TestMasked(t *testing.T) {
	a, ab, b := plain("a", ""), plain("ab", ""), plain("b", "")
	masked(t, nil)
	masked(t, rules(a))
	masked(t, rules(a, ab), 1)
	masked(t, rules(ab, a))
	masked(t, rules(a, b))
	masked(t, rules(a, a), 1)
	masked(t, rules(a, b, ab, a, b), 2, 3, 4)
	masked(t, rules(ab, b, a, ab, plain("c", ""), b), 3, 5)
	// By one that is masked, too, and by one that isn't the nearest.
	masked(t, rules(a, ab, plain("abc", "")), 1, 2)
	masked(t, rules(a, b, plain("c", ""), ab), 3)
	// Two that have all together what a third one has do not mask it.
	masked(t, rules(a, b, of(span('a', 'b'))))
	masked(t, rules(of(every...), starting(a), ending(b), rule("c", "a", "b", "")), 1, 2, 3)
	masked(t, rules(starting(a), ending(a), a, starting(a), ending(a)), 3, 4)
	var all []int
	for k := range 199 {
		all = append(all, k+1)
	}
	masked(t, many(200), all...)
}

// I2

func TestSure(t *testing.T) {
	a := plain("a", "xy")
	for _, x := range []struct {
		l    []api.Rule
		want bool
	}{
		{nil, true},
		{rules(a), true},
		{rules(plain("a", "")), true},
		{rules(a, plain("a", ""), plain("b", "x")), true},
		{rules(cursor(a, 1)), false},
		{rules(cursor(a, 0)), false},
		{rules(cursor(a, 1), a), false},
		{rules(a, a, cursor(a, 0)), false},
		{many(200), true},
		{append(many(199), cursor(a, 1)), false},
		// Nothing hangs on what is wrong.
		{many(201), true},
		{append(many(300), cursor(a, 1)), false},
		{rules(api.Rule{}), true},
		{rules(api.Rule{}, cursor(a, 0)), false},
		{rules(cursor(a, 3)), false},
		{rules(cursor(a, -1)), false},
		{rules(cursor(a, math.MinInt), a), false},
		{rules(cursor(plain("a", ""), -1)), false},
		{rules(plain("a", letters(21))), true},
		{rules(cursor(plain("a", letters(21)), 20)), false},
		{rules(api.Rule{Source: list(set(span(5, 4))), Target: []rune{-1}, Cursor: 1}), true},
	} {
		if got := Sure(x.l); got != x.want {
			t.Errorf("Sure(%v): %v", x.l[:min(3, len(x.l))], got)
		}
	}
}

func TestReach(t *testing.T) {
	reach(t, nil, 0, 0)
	reach(t, rules(plain("a", "xyz")), 0, 1)
	reach(t, rules(plain("abc", "")), 0, 3)
	reach(t, rules(rule("", "a", "bc", "")), 0, 3)
	reach(t, rules(rule("ab", "c", "", "")), 2, 1)
	reach(t, rules(rule("ab", "cde", "fghi", "")), 2, 7)
	// The most of each, of whichever rule; of Source and After together, of one rule.
	reach(t, rules(rule("abc", "a", "", ""), rule("", "a", "bc", ""), rule("ab", "ab", "", "")), 3, 3)
	reach(t, rules(rule("", "abcd", "", ""), rule("", "a", "bcde", ""), rule("a", "a", "", "")), 1, 5)
	reach(t, rules(rule("a", "a", "", ""), plain("ab", "")), 1, 2)
	reach(t, rules(rule(letters(20), letters(20), letters(20), "")), 20, 40)
	// Start and End are no sets.
	reach(t, rules(starting(ending(plain("a", "")))), 0, 1)
	reach(t, append(many(199), rule("a", "b", "c", "")), 1, 2)
	// Nothing hangs on what is wrong.
	reach(t, append(many(300), rule("a", "b", "c", "")), 1, 2)
	reach(t, rules(api.Rule{}), 0, 0)
	reach(t, rules(rule("a", "", "bc", "")), 1, 2)
	reach(t, rules(rule(letters(50), letters(60), letters(70), "")), 50, 130)
	reach(t, rules(cursor(plain("a", ""), 9), of(span(5, 4))), 0, 1)
}

// scattered are n spans of two numbers each, from that one on, with two between.
func scattered(from rune, n int) []api.Span {
	var l []api.Span
	for k := range rune(n) {
		l = append(l, span(from+4*k, from+4*k+1))
	}
	return l
}

func TestFirsts(t *testing.T) {
	firsts(t, nil)
	firsts(t, rules(plain("a", "x")), span('a', 'a'))
	firsts(t, rules(plain("b", ""), plain("a", "")), span('a', 'b'))
	firsts(t, rules(plain("c", ""), plain("a", ""), plain("c", "")), span('a', 'a'), span('c', 'c'))
	// Of Source alone, and the first set alone.
	firsts(t, rules(plain("ac", "")), span('a', 'a'))
	firsts(t, rules(rule("q", "a", "z", "y")), span('a', 'a'))
	firsts(t, rules(of(span('a', 'c'), span('x', 'z')), of(span('d', 'e'), span('g', 'w'))), span('a', 'e'), span('g', 'z'))
	firsts(t, rules(of(span('a', 'f')), of(span('c', 'd')), of(span('e', 'h'))), span('a', 'h'))
	firsts(t, rules(of(every...), plain("a", "")), span(0, api.MaxRune))
	firsts(t, rules(of(span(0, 0)), of(span(55296, 57343)), of(span(api.MaxRune, api.MaxRune))), span(0, 0), span(55296, 57343), span(api.MaxRune, api.MaxRune))
	firsts(t, rules(of()))
	firsts(t, rules(of(), plain("a", ""), of()), span('a', 'a'))
	firsts(t, many(200), span('b', 'b'))
}

// TestFirstsMany: Firsts tells too many spans, and so does Steady; the others have nothing to do with it.
func TestFirstsMany(t *testing.T) {
	single := func(l []api.Span) []api.Rule {
		var out []api.Rule
		for _, x := range l {
			out = append(out, of(x))
		}
		return out
	}
	full := api.Rule{Source: list(scattered(0, 200))}
	firsts(t, rules(full), scattered(0, 200)...)
	firsts(t, rules(full, full), scattered(0, 200)...)
	firsts(t, single(scattered(0, 200)), scattered(0, 200)...)
	firsts(t, rules(full, of(span(2, 3))), append(set(span(0, 5)), scattered(8, 198)...)...)
	steady(t, true, full)
	for _, l := range [][]api.Rule{
		rules(full, of(span(1000, 1000))),
		rules(of(span(1000, 1000)), full),
		rules(full, api.Rule{Source: list(scattered(1000, 200))}),
		append(single(scattered(4, 199)), of(span(0, 0), span(2, 2))),
		rules(cursor(plain("a", "x"), 0), full, of(span(9999, 9999))),
		rules(rule("", "ab", "c", "a"), full, of(span(9999, 9999))),
	} {
		if got, f := Firsts(l); len(got) != 0 || f != fault(api.ErrMany, 0) {
			t.Errorf("Firsts of %d rules: %d spans, %v", len(l), len(got), f)
		}
		if got, f := Steady(l); got || f != fault(api.ErrMany, 0) {
			t.Errorf("Steady of %d rules: %v, %v", len(l), got, f)
		}
		masked(t, l)
		if got, f := Masks(l, 0, 0); !got || f != (api.Fault{}) {
			t.Errorf("Masks of %d rules: %v, %v", len(l), got, f)
		}
	}
	// What is too many on the way is not in the end.
	more := api.Rule{Source: list(scattered(1000, 200))}
	firsts(t, rules(full, more, of(span(0, 2000))), span(0, 2000))
	firsts(t, rules(full, more, of(every...)), span(0, api.MaxRune))
	firsts(t, rules(full, api.Rule{Source: list(scattered(2, 200))}), span(0, 799))
	steady(t, true, full, more, of(every...))
	steady(t, false, full, more, of(every...), plain("a", "a"))
}

func TestSteady(t *testing.T) {
	a := plain("a", "x")
	steady(t, true)
	steady(t, true, a)
	steady(t, true, plain("a", ""))
	steady(t, true, a, plain("b", "yz"), plain("c", ""))
	// Sure.
	steady(t, false, cursor(a, 0))
	steady(t, false, a, cursor(plain("b", "xy"), 1))
	// One set of Source, no After, no End.
	steady(t, false, plain("ab", "x"))
	steady(t, false, a, plain("ab", ""))
	steady(t, false, rule("", "a", "b", "x"))
	steady(t, false, ending(a))
	steady(t, false, a, plain("c", ""), ending(plain("b", "")))
	// But there may be Before and Start, and Target may be what stands there.
	steady(t, true, rule("bc", "a", "", "x"))
	steady(t, true, starting(a))
	steady(t, true, starting(rule("b", "a", "", "b")))
	steady(t, true, rule("x", "a", "", "x"))
	// No rune of Target in Firsts, whoever's it is.
	steady(t, false, plain("a", "a"))
	steady(t, false, plain("a", "xya"))
	steady(t, false, plain("a", "axy"))
	steady(t, false, a, plain("x", ""))
	steady(t, false, plain("x", ""), a)
	steady(t, false, rule("q", "x", "", ""), a)
	steady(t, false, a, of(every...))
	steady(t, false, a, of(span('p', 'p'), span('x', 'x'), span('z', 'z')))
	steady(t, true, a, of(span('p', 'w'), span('y', 'z')))
	steady(t, true, a, of())
	steady(t, true, of(every...))
	steady(t, true, many(200)...)
	steady(t, false, append(many(199), plain("y", ""))...)
}

// Other ways

// patterns are all lists of the sets of a, of b, and of both, from least to most long.
func patterns(least, most int) [][][]api.Span {
	kinds := list(set(span('a', 'a')), set(span('b', 'b')), set(span('a', 'b')))
	all := [][][]api.Span{nil}
	for from := 0; len(all[from]) < most; from++ {
		for _, s := range kinds {
			all = append(all, append(slices.Clone(all[from]), s))
		}
	}
	return slices.DeleteFunc(all, func(l [][]api.Span) bool { return len(l) < least })
}

// texts are all of a and b, up to that many runes.
func texts(most int) [][]rune {
	l := [][]rune{nil}
	for from := 0; len(l[from]) < most; from++ {
		l = append(l, append(slices.Clone(l[from]), 'a'), append(slices.Clone(l[from]), 'b'))
	}
	return l
}

// shapes are rules of one or two sets of Source, up to one ahead, and up to one behind.
func shapes() []api.Rule {
	var l []api.Rule
	for _, source := range patterns(1, 2) {
		for _, before := range patterns(0, 1) {
			for _, after := range patterns(0, 1) {
				for k := range 4 {
					l = append(l, api.Rule{Start: k&1 > 0, End: k&2 > 0, Before: before, Source: source, After: after})
				}
			}
		}
	}
	return l
}

// TestWhoMasksMatches: where no set is without runes, a masks b just if it matches wherever b does. Texts of six runes are enough: those that b asks for, and one more on either side.
func TestWhoMasksMatches(t *testing.T) {
	l, all := shapes(), texts(6)
	places := make([][]bool, len(l))
	for k, r := range l {
		for _, text := range all {
			for at := range len(text) + 1 {
				ok, _ := match.Matches(r, text, at)
				places[k] = append(places[k], ok)
			}
		}
	}
	everywhere := func(a, b []bool) bool {
		for k := range b {
			if b[k] && !a[k] {
				return false
			}
		}
		return true
	}
	n := 0
	for i, a := range l {
		for j, b := range l {
			want := everywhere(places[i], places[j])
			if got, f := Masks(rules(a, b), 0, 1); got != want || f != (api.Fault{}) {
				t.Errorf("Masks of %v and %v: %v, %v, not %v", a, b, got, f, want)
			}
			if want {
				n++
			}
		}
	}
	if n < 5000 || n > len(l)*len(l)/2 {
		t.Errorf("%d of %d pairs mask", n, len(l)*len(l))
	}
}

// dice are numbers that look like chance, and are the same each time.
func dice() func(below int) int {
	seed := 1
	return func(below int) int {
		seed = (seed*1103515245 + 12345) & (1<<31 - 1)
		return (seed >> 8) % below
	}
}

// someSet is spans of the numbers from 0 to 63, at times none.
func someSet(next func(int) int) []api.Span {
	var s []api.Span
	for low := rune(next(30)); low < 60; low += rune(2 + next(30)) {
		high := low + rune(next(4))
		s = append(s, span(low, high))
		low = high
	}
	return s[:min(len(s), next(9))]
}

// thinner is a list of sets that are within those of l, but at times.
func thinner(next func(int) int, l [][]api.Span) [][]api.Span {
	var out [][]api.Span
	for _, s := range l {
		switch next(12) {
		case 0:
			s = someSet(next)
		case 1, 2, 3:
			s = s[len(s)/2:]
		}
		out = append(out, s)
	}
	return out
}

func someSets(next func(int) int, least, most int) [][]api.Span {
	var l [][]api.Span
	for range least + next(most-least+1) {
		l = append(l, someSet(next))
	}
	return l
}

func someRule(next func(int) int) api.Rule {
	r := api.Rule{Start: next(5) == 0, End: next(5) == 0, Before: someSets(next, 0, next(4)), Source: someSets(next, 1, 1+next(3)), After: someSets(next, 0, next(4))}
	for range next(3) {
		r.Target = append(r.Target, rune(next(64)))
	}
	r.Cursor = max(0, len(r.Target)-next(9)/8)
	return r
}

// like is a rule that r masks, but at times.
func like(next func(int) int, r api.Rule) api.Rule {
	r.Before = append(someSets(next, 0, next(2)), thinner(next, r.Before)...)
	rest := append(thinner(next, slices.Concat(r.Source, r.After)), someSets(next, 0, next(2))...)
	cut := 1 + next(min(20, len(rest)))
	r.Source, r.After = rest[:cut], rest[cut:]
	r.Start, r.End = r.Start || next(4) == 0, r.End || next(4) == 0
	return r
}

// TestAnotherWay holds all against oracle_test.go.
func TestAnotherWay(t *testing.T) {
	next := dice()
	mask, not := 0, 0
	for range 2000 {
		l := rules(someRule(next))
		for range next(7) {
			r := someRule(next)
			if next(2) == 0 {
				r = like(next, l[next(len(l))])
			}
			l = append(l, r)
		}
		for i, a := range l {
			for j, b := range l {
				want := oracleMasks(a, b)
				if got, f := Masks(l, i, j); got != want || f != (api.Fault{}) {
					t.Errorf("Masks(%v, %d, %d): %v, %v", l, i, j, got, f)
				}
				if want && i != j {
					mask++
				} else if !want {
					not++
				}
			}
		}
		masked(t, l, oracleMasked(l)...)
		got, f := Firsts(l)
		if bits(got) != oracleFirsts(l) || f != (api.Fault{}) {
			t.Errorf("Firsts(%v): %v, %v", l, got, f)
		}
		steady(t, oracleSteady(l), l...)
	}
	if mask < 2000 || not < 2000 {
		t.Errorf("%d mask, %d do not", mask, not)
	}
}

// gentle are rules of digits, many lists of which are steady.
func gentle(next func(int) int, n int) []api.Rule {
	var l []api.Rule
	for range n {
		r := plain("012"[next(3):][:1], "78917"[next(4):][:next(3)/2])
		if next(2) == 0 {
			r.Before = each("01789"[next(5):][:1])
		}
		r.Start = next(4) == 0
		r.End = next(12) == 0
		l = append(l, r)
	}
	return l
}

// TestWhatIsSteadyStays: what came of steady rules stays as it is, if they play over it once more.
func TestWhatIsSteadyStays(t *testing.T) {
	next := dice()
	n, changed := 0, 0
	for range 3000 {
		l := gentle(next, 1+next(4))
		ok, f := Steady(l)
		if ok != oracleSteady(l) || f != (api.Fault{}) {
			t.Errorf("Steady(%v): %v, %v", l, ok, f)
		}
		if !ok {
			continue
		}
		n++
		for range 9 {
			var text []rune
			for range next(12) {
				text = append(text, rune('0'+next(10)))
			}
			once, _ := run.Run(l, text)
			twice, f := run.Run(l, once.Text)
			if !slices.Equal(once.Text, twice.Text) || f != (api.Fault{}) || twice.Put > 0 {
				t.Errorf("of %q by %v comes %q, then %q", string(text), l, string(once.Text), string(twice.Text))
			}
			changed += once.Put
		}
	}
	if n < 500 || n > 2900 || changed < 5000 {
		t.Errorf("%d of 3000 are steady, %d changes", n, changed)
	}
}

// TestWhatIsMaskedMayGo: without the rules that are masked the same comes.
func TestWhatIsMaskedMayGo(t *testing.T) {
	next := dice()
	some, all := shapes(), texts(5)
	went := 0
	for range 1500 {
		var l []api.Rule
		for k := range 2 + next(5) {
			r := some[next(len(some))]
			r.Target = []rune{'a', 'b', rune('0' + k)}[next(3):]
			r.Cursor = next(len(r.Target) + 1)
			l = append(l, r)
		}
		gone, _ := Masked(l)
		var left []api.Rule
		for k, r := range l {
			if !slices.Contains(gone, k) {
				left = append(left, r)
			}
		}
		went += len(gone)
		for _, text := range all {
			want, f1 := run.Run(l, text)
			got, f2 := run.Run(left, text)
			if f1 != f2 || !reflect.DeepEqual(got, want) {
				t.Errorf("of %q by %v comes %v, %v, without %v it is %v, %v", string(text), l, want, f1, gone, got, f2)
			}
		}
	}
	if went < 400 {
		t.Errorf("only %d went", went)
	}
}

// TestWhoIsSureEndsSoon: there are no more steps than runes.
func TestWhoIsSureEndsSoon(t *testing.T) {
	next := dice()
	some, all := shapes(), texts(5)
	sure := 0
	for range 1500 {
		var l []api.Rule
		for range 1 + next(3) {
			r := some[next(len(some))]
			r.Target = []rune("abab")[next(5):]
			r.Cursor = max(0, len(r.Target)-next(4)/3)
			l = append(l, r)
		}
		if !Sure(l) {
			continue
		}
		sure++
		for _, text := range all {
			if got, f := run.Run(l, text); f != (api.Fault{}) || got.Steps > len(text) {
				t.Errorf("of %q by %v comes %v, %v", string(text), l, got, f)
			}
		}
	}
	if sure < 300 || sure > 1400 {
		t.Errorf("%d of 1500 are sure", sure)
	}
}

// TestNoRuleLooksFurther: which rule matches hangs on no more than what Reach tells, but for Start and End.
func TestNoRuleLooksFurther(t *testing.T) {
	next := dice()
	some, all := shapes(), texts(7)
	n := 0
	for range 300 {
		l := rules(some[next(len(some))], some[next(len(some))], some[next(len(some))])
		for k := range l {
			l[k].Start, l[k].End = false, false
		}
		behind, ahead := Reach(l)
		for _, text := range all {
			for at := behind; at+ahead <= len(text); at++ {
				want, _ := run.Which(l, text, at)
				got, _ := run.Which(l, text[at-behind:at+ahead], behind)
				if got != want {
					t.Errorf("Which(%v, %q, %d): %d, but %d of what is near alone", l, string(text), at, want, got)
				}
				if want >= 0 {
					n++
				}
			}
		}
	}
	if n < 10000 {
		t.Errorf("only %d matches", n)
	}
}

// TestNoneBeginsElsewhere: at a rune that Firsts hasn't no rule matches.
func TestNoneBeginsElsewhere(t *testing.T) {
	some, all := shapes(), texts(4)
	for _, r := range some {
		s, _ := Firsts(rules(r))
		for _, text := range all {
			for at := range text {
				ok, _ := match.Matches(r, text, at)
				if ok && !sets.Has(s, text[at]) {
					t.Errorf("%v matches %q at %d, Firsts: %v", r, string(text), at, s)
				}
			}
		}
	}
}

// Z2

// roomy is rules whose lists all have spare room, and there something that is wrong, or would make a difference.
func roomy() []api.Rule {
	spans := func(r rune) []api.Span { return set(span(r, r), span('x', 'z'), span(-9, -10))[:1] }
	lists := func(l ...[]api.Span) [][]api.Span { return append(l, set(span(5, 4)))[:len(l)] }
	r := api.Rule{Before: lists(), Source: lists(spans('b')), After: lists(), Target: []rune{'x', 'y', 'b', -1}[:2], Cursor: 2}
	s := api.Rule{Before: lists(spans('q')), Source: lists(spans('b')), After: lists(), Target: []rune{'x', 'b'}[:1], Cursor: 1}
	return rules(r, s, cursor(rule("aaaa", "b", "bbbb", "b"), 0), api.Rule{})[:2]
}

// whole is all that rules have, spare room and all.
func whole(rules []api.Rule) []any {
	var out []any
	for _, r := range rules[:cap(rules)] {
		out = append(out, slices.Clone(r.Target[:cap(r.Target)]), r.Cursor, r.Start, r.End)
		for _, l := range [][][]api.Span{r.Before, r.Source, r.After} {
			for _, s := range l[:cap(l)] {
				out = append(out, slices.Clone(s[:cap(s)]))
			}
		}
	}
	return out
}

func TestWhatIsHandedInIsOnlyRead(t *testing.T) {
	l := roomy()
	want := whole(l)
	for range 2 {
		masking(t, l[0], l[1], true)
		masking(t, l[1], l[0], false)
		masked(t, l, 1)
		firsts(t, l, span('b', 'b'))
		steady(t, true, l...)
		reach(t, l, 1, 1)
		if !Sure(l) {
			t.Error("not sure")
		}
		if !reflect.DeepEqual(whole(l), want) {
			t.Errorf("%v, not %v", whole(l), want)
		}
	}
}

func TestWhatIsAnsweredIsNew(t *testing.T) {
	for k := range 3 {
		some := append(roomy(), of(span('d', 'e'), span('h', 'i')))[k:]
		want := whole(some)
		s, _ := Firsts(some)
		again, _ := Firsts(some)
		clear(s[:cap(s)])
		m, _ := Masked(some)
		clear(m[:cap(m)])
		if !reflect.DeepEqual(whole(some), want) {
			t.Errorf("the answer shares memory: %v, not %v", whole(some), want)
		}
		kept := slices.Clone(again)
		if len(kept) != 3-k/2 {
			t.Errorf("Firsts: %v", kept)
		}
		for _, r := range some {
			clear(r.Source[0])
		}
		if !slices.Equal(again, kept) {
			t.Errorf("the answer has become %v, not %v", again, kept)
		}
	}
}

// Z3

func TestNilAndNoEntries(t *testing.T) {
	bare := plain("a", "")
	r := api.Rule{Before: list(), Source: each("a"), After: list(), Target: []rune{}}
	masking(t, r, bare, true)
	masking(t, bare, r, true)
	masked(t, rules(bare, r), 1)
	steady(t, true, r)
	reach(t, rules(r), 0, 1)
	for _, l := range [][]api.Rule{nil, {}} {
		masked(t, l)
		firsts(t, l)
		steady(t, true, l...)
		reach(t, l, 0, 0)
		if !Sure(l) {
			t.Error("not sure")
		}
		if got, f := Masks(l, 0, 0); got || f != fault(api.ErrRange, 0) {
			t.Errorf("Masks: %v, %v", got, f)
		}
	}
	for _, s := range [][]api.Span{nil, {}} {
		masking(t, bare, api.Rule{Source: list(s)}, true)
		firsts(t, rules(api.Rule{Source: list(s)}))
	}
}
