package compile

import (
	"math"
	"reflect"
	"slices"
	"strings"
	"testing"

	"scriptshift/analyse"
	"scriptshift/api"
	"scriptshift/match"
	"scriptshift/sets"
)

func span(low, high rune) api.Span { return api.Span{Low: low, High: high} }

func set(l ...api.Span) []api.Span { return l }

// each is a set of its own for each rune.
func each(s string) [][]api.Span {
	var l [][]api.Span
	for _, r := range s {
		l = append(l, set(span(r, r)))
	}
	return l
}

func list(l ...[]api.Span) [][]api.Span { return l }

// rule has its cursor behind its target.
func rule(before, source, after, target string) api.Rule {
	t := []rune(target)
	return api.Rule{Before: each(before), Source: each(source), After: each(after), Target: t, Cursor: len(t)}
}

func plain(source, target string) api.Rule { return rule("", source, "", target) }

// of is a rule of one set.
func of(l ...api.Span) api.Rule { return api.Rule{Source: list(l)} }

func rules(l ...api.Rule) []api.Rule { return l }

func head(low, high rune, rules ...int) api.Head { return api.Head{Low: low, High: high, Rules: rules} }

func letters(n int) string { return strings.Repeat("a", n) }

func fault(err api.Errno, at int) api.Fault { return api.Fault{Err: err, At: at} }

// scattered are n spans of two numbers each, from that one on, with two between.
func scattered(from rune, n int) []api.Span {
	var l []api.Span
	for k := range rune(n) {
		l = append(l, span(from+4*k, from+4*k+1))
	}
	return l
}

// single is a rule for each span.
func single(l []api.Span) []api.Rule {
	var out []api.Rule
	for _, x := range l {
		out = append(out, of(x))
	}
	return out
}

// many are n rules that are right.
func many(n int) []api.Rule {
	l := make([]api.Rule, n)
	for k := range l {
		l[k] = plain("b", "y")
	}
	return l
}

func alike(a, b []api.Head) bool {
	return slices.EqualFunc(a, b, func(x, y api.Head) bool {
		return x.Low == y.Low && x.High == y.High && slices.Equal(x.Rules, y.Rules)
	})
}

// heads is that Compile tells those, where nothing is wrong, and that each of them is found at its ends.
func heads(t *testing.T, l []api.Rule, want ...api.Head) {
	t.Helper()
	got, f := Compile(l)
	if !alike(got, want) || f != (api.Fault{}) {
		t.Errorf("Compile(%v): %v, %v, not %v", l[:min(9, len(l))], got, f, want)
	}
	for _, h := range want {
		found(t, got, h.Low, h.Rules...)
		found(t, got, h.High, h.Rules...)
	}
	for _, r := range []rune{math.MinInt32, -2, -1, api.MaxRune + 1, api.MaxRune + 2, math.MaxInt32} {
		found(t, got, r)
	}
}

func found(t *testing.T, l []api.Head, r rune, want ...int) {
	t.Helper()
	if got := Find(l, r); !slices.Equal(got, want) {
		t.Errorf("Find(%v, %d): %v, not %v", l[:min(9, len(l))], r, got, want)
	}
}

// count is that Compile tells that many heads.
func count(t *testing.T, l []api.Rule, want int) {
	t.Helper()
	if got, f := Compile(l); len(got) != want || f != (api.Fault{}) {
		t.Errorf("Compile of %d rules: %d heads, %v, not %d", len(l), len(got), f, want)
	}
}

// refuse is that Compile tells that fault, and nothing beside it.
func refuse(t *testing.T, l []api.Rule, want api.Fault) {
	t.Helper()
	if got, f := Compile(l); len(got) != 0 || f != want {
		t.Errorf("Compile of %d rules: %v, %v, not none, %v", len(l), got, f, want)
	}
}

// wrongs are rules with which something is wrong.
var wrongs = []struct {
	r   api.Rule
	err api.Errno
}{
	{api.Rule{}, api.ErrNone},
	{rule("a", "", "b", "c"), api.ErrNone},
	{plain(letters(21), ""), api.ErrMany},
	{rule(letters(21), "a", "", ""), api.ErrMany},
	{rule("", "a", letters(21), ""), api.ErrMany},
	{plain("a", letters(21)), api.ErrMany},
	{api.Rule{Source: each("a"), Target: []rune("xy"), Cursor: 3}, api.ErrRange},
	{api.Rule{Source: each("a"), Target: []rune("xy"), Cursor: -1}, api.ErrRange},
	{api.Rule{Source: each("a"), Target: []rune{55296}, Cursor: 1}, api.ErrRange},
	{of(span(5, 4)), api.ErrRange},
	{of(span(math.MinInt32, math.MaxInt32)), api.ErrRange},
	{of(span(0, api.MaxRune+1)), api.ErrRange},
	{of(span(1, 2), span(3, 4)), api.ErrForm},
	{of(scattered(0, 201)...), api.ErrMany},
	{api.Rule{Source: append(each("a"), set(span(5, 4)))}, api.ErrRange},
	{api.Rule{Before: list(set(span(-1, 4))), Source: each("a")}, api.ErrRange},
	{api.Rule{Source: each("a"), After: list(set(span(5, 6), span(1, 2)))}, api.ErrForm},
}

// J1

func TestWhatIsWrongIsToldFirst(t *testing.T) {
	for _, x := range wrongs {
		refuse(t, rules(x.r), fault(x.err, 0))
		refuse(t, rules(plain("b", "y"), x.r, api.Rule{}), fault(x.err, 1))
		refuse(t, append(many(199), x.r), fault(x.err, 199))
		refuse(t, append(many(200), x.r), fault(api.ErrMany, 0))
		// Ahead of too many heads, too.
		refuse(t, rules(of(scattered(0, 200)...), of(scattered(2000, 200)...), x.r), fault(x.err, 2))
	}
	refuse(t, many(201), fault(api.ErrMany, 0))
	refuse(t, make([]api.Rule, 1000), fault(api.ErrMany, 0))
}

func TestCompile(t *testing.T) {
	// The document's example 10.
	heads(t, rules(plain("a", "x")), head(0, 96), head(97, 97, 0), head(98, api.MaxRune))
	heads(t, nil, head(0, api.MaxRune))
	heads(t, rules(plain("a", ""), plain("c", "")), head(0, 96), head(97, 97, 0), head(98, 98), head(99, 99, 1), head(100, api.MaxRune))
	// Side by side there is nothing between.
	heads(t, rules(plain("b", ""), plain("a", "")), head(0, 96), head(97, 97, 1), head(98, 98, 0), head(99, api.MaxRune))
	heads(t, rules(plain("a", ""), plain("b", ""), plain("ax", "")), head(0, 96), head(97, 97, 0, 2), head(98, 98, 1), head(99, api.MaxRune))
	// The rules that begin alike have one head, and rise in it.
	heads(t, rules(plain("a", ""), plain("ab", ""), plain("a", "y")), head(0, 96), head(97, 97, 0, 1, 2), head(98, api.MaxRune))
	heads(t, rules(of(span('a', 'c')), of(span('b', 'd'))), head(0, 96), head(97, 97, 0), head(98, 99, 0, 1), head(100, 100, 1), head(101, api.MaxRune))
	heads(t, rules(of(span('b', 'c')), of(span('a', 'd'))), head(0, 96), head(97, 97, 1), head(98, 99, 0, 1), head(100, 100, 1), head(101, api.MaxRune))
	heads(t, rules(of(span('a', 'c'), span('x', 'z'))), head(0, 96), head(97, 99, 0), head(100, 119), head(120, 122, 0), head(123, api.MaxRune))
	all := make([]int, 200)
	for k := range all {
		all[k] = k
	}
	heads(t, many(200), head(0, 97), head(98, 98, all...), head(99, api.MaxRune))
}

// TestTheFirstSetCounts: nothing hangs on what else a rule has.
func TestTheFirstSetCounts(t *testing.T) {
	for _, r := range []api.Rule{
		plain("abc", ""),
		rule("qr", "a", "st", "uvw"),
		{Start: true, End: true, Source: each("a")},
		{Before: list(set(span(0, 5)), nil), Source: list(set(span('a', 'a')), set(span(9, 9)), nil), After: list(nil, set(span(0, 7)))},
	} {
		heads(t, rules(r), head(0, 96), head(97, 97, 0), head(98, api.MaxRune))
	}
}

func TestCompileEdges(t *testing.T) {
	const last = api.MaxRune
	heads(t, rules(of(span(0, last))), head(0, last, 0))
	heads(t, rules(of(span(0, last)), of(span(0, last))), head(0, last, 0, 1))
	heads(t, rules(of(span(0, last)), plain("m", "")), head(0, 108, 0), head(109, 109, 0, 1), head(110, last, 0))
	heads(t, rules(of(span(0, 0))), head(0, 0, 0), head(1, last))
	heads(t, rules(of(span(1, 1))), head(0, 0), head(1, 1, 0), head(2, last))
	heads(t, rules(of(span(last, last))), head(0, last-1), head(last, last, 0))
	heads(t, rules(of(span(0, 5), span(9, last))), head(0, 5, 0), head(6, 8), head(9, last, 0))
	// One that begins where another one ends; what both have together is no set of its own.
	heads(t, rules(of(span(0, 5)), of(span(6, last))), head(0, 5, 0), head(6, last, 1))
	heads(t, rules(of(span(0, 0), span(2, 2)), of(span(1, 1), span(3, 3))), head(0, 0, 0), head(1, 1, 1), head(2, 2, 0), head(3, 3, 1), head(4, last))
	// Numbers that are no right runes are numbers, too.
	heads(t, rules(of(span(55296, 57343))), head(0, 55295), head(55296, 57343, 0), head(57344, last))
	// A set that has none begins nowhere.
	heads(t, rules(of()), head(0, last))
	heads(t, rules(of(), plain("a", ""), of()), head(0, 96), head(97, 97, 1), head(98, last))
}

func TestCompileMany(t *testing.T) {
	// Spans from 0 on make one head less than those that stand free.
	count(t, rules(of(scattered(0, 200)...)), 400)
	count(t, single(scattered(0, 200)), 400)
	count(t, rules(of(scattered(1, 199)...)), 399)
	count(t, single(scattered(1, 199)), 399)
	count(t, rules(of(append(scattered(1, 199), span(api.MaxRune, api.MaxRune))...)), 400)
	for _, l := range [][]api.Rule{
		rules(of(scattered(1, 200)...)),
		single(scattered(1, 200)),
		rules(of(scattered(0, 200)...), of(span(0, 0))),
		rules(of(scattered(0, 200)...), of(scattered(2000, 200)...)),
		rules(of(scattered(0, 100)...), of(scattered(1, 101)...)),
		rules(of(append(scattered(0, 199), span(api.MaxRune-1, api.MaxRune-1))...), of(span(0, 0))),
	} {
		refuse(t, l, fault(api.ErrMany, 0))
	}
	// Where edges meet there are no more heads, however many rules and spans there are.
	count(t, rules(of(scattered(0, 200)...), of(scattered(2, 199)...)), 400)
	full := make([]api.Rule, 200)
	for k := range full {
		full[k] = of(scattered(rune(k%2*2), 100+k/2)...)
	}
	count(t, full, 399)
	// The most that there can be.
	for k := range full {
		full[k] = of(scattered(rune(1000*k), 200)...)
	}
	refuse(t, full, fault(api.ErrMany, 0))
}

func TestFind(t *testing.T) {
	l, _ := Compile(rules(plain("b", ""), of(span('a', 'f')), plain("bc", ""), of(span('d', 'z'))))
	found(t, l, 0)
	found(t, l, '`')
	found(t, l, 'a', 1)
	found(t, l, 'b', 0, 1, 2)
	found(t, l, 'c', 1)
	found(t, l, 'd', 1, 3)
	found(t, l, 'f', 1, 3)
	found(t, l, 'g', 3)
	found(t, l, 'z', 3)
	found(t, l, '{')
	found(t, l, api.MaxRune)
	every, _ := Compile(rules(of(span(0, api.MaxRune))))
	found(t, every, 0, 0)
	found(t, every, 55296, 0)
	found(t, every, api.MaxRune, 0)
	for _, r := range []rune{math.MinInt32, -1, api.MaxRune + 1, math.MaxInt32} {
		found(t, l, r)
		found(t, every, r)
		found(t, nil, r)
	}
	found(t, nil, 0)
	full, _ := Compile(single(scattered(0, 200)))
	for r := range rune(800) {
		if r%4 < 2 {
			found(t, full, r, int(r/4))
		} else {
			found(t, full, r)
		}
	}
}

// TestFindInOtherHeads: of heads that Compile never told nothing is promised but that they are borne.
func TestFindInOtherHeads(t *testing.T) {
	ends := []rune{math.MinInt32, -1, 0, 5, api.MaxRune, api.MaxRune + 1, math.MaxInt32}
	var l []api.Head
	for _, low := range ends {
		for _, high := range ends {
			l = append(l, head(low, high, 7, -1), head(high, low))
		}
	}
	for from := range l {
		for to := from; to <= min(len(l), from+9); to++ {
			for _, r := range ends {
				Find(l[from:to], r)
			}
		}
	}
	Find(make([]api.Head, 1000), 0)
}

// Other ways

// dice are numbers that look like chance, and are the same each time.
func dice() func(below int) int {
	seed := 1
	return func(below int) int {
		seed = (seed*1103515245 + 12345) & (1<<31 - 1)
		return (seed >> 8) % below
	}
}

// someSet is up to eight spans, near each other, at one of the ends or in the middle.
func someSet(next func(int) int) []api.Span {
	var s []api.Span
	from := []rune{0, 1, 97, 55290, api.MaxRune - 40}[next(5)]
	for low := from + rune(next(6)); low <= min(api.MaxRune, from+40); low += rune(2 + next(9)) {
		high := min(api.MaxRune, low+rune(next(5)))
		s = append(s, span(low, high))
		low = high
	}
	if next(5) == 0 && len(s) > 0 {
		s[len(s)-1].High = api.MaxRune
	}
	return s[:min(len(s), next(9))]
}

// TestAnotherWay holds all against oracle_test.go.
func TestAnotherWay(t *testing.T) {
	next := dice()
	most, none := 0, 0
	for range 150 {
		var l []api.Rule
		for range next(12) {
			l = append(l, api.Rule{Source: list(someSet(next), someSet(next))[:1+next(2)], After: list(someSet(next))})
		}
		bits := oracleBits(l)
		want := oracleHeads(bits)
		heads(t, l, want...)
		got, _ := Compile(l)
		for range 200 {
			r := rune(next(api.MaxRune + 1))
			if next(2) == 0 {
				r = min(api.MaxRune, max(0, want[next(len(want))].Low+rune(next(7)-3)))
			}
			found(t, got, r, oracleRules(bits[r])...)
			if bits[r] == 0 {
				none++
			}
		}
		most = max(most, len(want))
	}
	if most < 50 || none < 5000 || none > 25000 {
		t.Errorf("at most %d heads, %d of 30000 numbers have no rule", most, none)
	}
}

// TestWhatMatchesIsFound: a rule that matches at a rune is found there; and whoever is found there would match, had it no more than its first set.
func TestWhatMatchesIsFound(t *testing.T) {
	next := dice()
	matched, out := 0, 0
	for range 500 {
		var l, short []api.Rule
		for range 1 + next(5) {
			r := rule("ab"[next(2):][:next(2)], "abcabd"[next(4):][:1+next(2)], "cd"[next(2):][:next(2)], "")
			r.Source[0] = [][]api.Span{set(span('a', 'b')), set(span('b', 'd')), set(span('a', 'a'), span('c', 'c'))}[next(3)]
			l, short = append(l, r), append(short, of(r.Source[0]...))
		}
		h, _ := Compile(l)
		text := []rune("abcdeabdcaabbccdd")[next(9):]
		for at, x := range text {
			here := Find(h, x)
			for k := range l {
				first, _ := match.Matches(short[k], text, at)
				if first != slices.Contains(here, k) {
					t.Errorf("%v begins with %c: %v, Find: %v", l[k], x, first, here)
				}
				all, _ := match.Matches(l[k], text, at)
				if all && !first {
					t.Errorf("%v matches %q at %d, and is not found", l[k], string(text), at)
				}
				if all {
					matched++
				}
				if !first {
					out++
				}
			}
		}
	}
	if matched < 1000 || out < 1000 {
		t.Errorf("%d match, %d are not found", matched, out)
	}
}

// TestHeadsAreFirsts: the numbers whose heads have rules are those of analyse.Firsts.
func TestHeadsAreFirsts(t *testing.T) {
	next := dice()
	for range 500 {
		var l []api.Rule
		for range next(9) {
			l = append(l, of(someSet(next)...))
		}
		h, f := Compile(l)
		if f != (api.Fault{}) {
			t.Fatalf("Compile(%v): %v", l, f)
		}
		var busy []api.Span
		for _, x := range h {
			if len(x.Rules) > 0 {
				busy = append(busy, span(x.Low, x.High))
			}
		}
		got, _ := sets.Of(busy)
		want, f := analyse.Firsts(l)
		if !slices.Equal(got, want) || f != (api.Fault{}) {
			t.Errorf("of %v: %v, Firsts %v, %v", l, got, want, f)
		}
	}
}

// Z2

// roomy is rules whose lists all have spare room, and there something that is wrong, or would make a difference.
func roomy() []api.Rule {
	spans := func(r rune) []api.Span { return set(span(r, r), span('x', 'z'), span(-9, -10))[:1] }
	lists := func(l ...[]api.Span) [][]api.Span { return append(l, set(span(5, 4)))[:len(l)] }
	r := api.Rule{Before: lists(), Source: lists(spans('b')), After: lists(), Target: []rune{'x', 'y', -1}[:2], Cursor: 2}
	s := api.Rule{Before: lists(spans('q')), Source: lists(spans('b'), spans('c')), After: lists(), Target: []rune{'x', -1}[:1], Cursor: 1}
	return rules(r, s, of(span('d', 'e')), api.Rule{})[:2]
}

// whole is all that rules have, spare room and all.
func whole(rules []api.Rule) []any {
	var out []any
	for _, r := range rules[:cap(rules)] {
		out = append(out, slices.Clone(r.Target[:cap(r.Target)]), r.Cursor, r.Start, r.End)
		for _, l := range [][][]api.Span{r.Before, r.Source, r.After} {
			for _, s := range l[:cap(l)] {
				out = append(out, slices.Clone(s[:cap(s)]))
			}
		}
	}
	return out
}

func TestWhatIsHandedInIsOnlyRead(t *testing.T) {
	l := roomy()
	want := whole(l)
	for range 2 {
		heads(t, l, head(0, 'a'), head('b', 'b', 0, 1), head('c', api.MaxRune))
		if !reflect.DeepEqual(whole(l), want) {
			t.Errorf("%v, not %v", whole(l), want)
		}
	}
	// Behind the heads, and behind their rules, nothing is looked at, and nothing changed.
	h := []api.Head{head(0, 96), head(97, 97, 0, 2, 9), head(98, api.MaxRune, 4), head(0, math.MaxInt32, 5)}
	h[1].Rules, h[2].Rules = h[1].Rules[:2], h[2].Rules[:0]
	short := h[:2]
	found(t, h[:3], 'a', 0, 2)
	found(t, h[:3], 'b')
	found(t, short, 'b')
	found(t, h[:3], api.MaxRune+1)
	if !slices.Equal(h[1].Rules[:3], []int{0, 2, 9}) || h[2].Rules[:1][0] != 4 || !alike(h[3:], []api.Head{head(0, math.MaxInt32, 5)}) {
		t.Errorf("%v", h)
	}
}

func TestWhatIsAnsweredIsNew(t *testing.T) {
	l := append(roomy(), of(span('a', 'f'), span('h', 'i')))
	want := whole(l)
	kept := []api.Head{head(0, 96), head(97, 97, 2), head(98, 98, 0, 1, 2), head(99, 102, 2), head(103, 103), head(104, 105, 2), head(106, api.MaxRune)}
	heads(t, l, kept...)
	// No two lists of one answer share any memory, spare room and all.
	for k := range kept {
		got, _ := Compile(l)
		again, _ := Compile(l)
		x := got[k].Rules[:cap(got[k].Rules)]
		for i := range x {
			x[i] = 77
		}
		rest := slices.Concat(got[:k], got[k+1:])
		if !alike(rest, slices.Concat(kept[:k], kept[k+1:])) || !alike(again, kept) {
			t.Errorf("the rules of head %d are shared: %v, %v", k, rest, again)
		}
		clear(got[:cap(got)])
		if !alike(again, kept) {
			t.Errorf("two answers share memory: %v", again)
		}
	}
	// What Find tells is neither the head's, nor its spare room.
	got, _ := Compile(l)
	for k := range got {
		got[k].Rules = append(got[k].Rules, 50, 60)[:len(kept[k].Rules)]
		x := Find(got, kept[k].Low)
		x = append(x[:cap(x)], 70)
		for i := range x {
			x[i] = 77
		}
		if !alike(got, kept) || !slices.Equal(got[k].Rules[:len(kept[k].Rules)+2][len(kept[k].Rules):], []int{50, 60}) {
			t.Errorf("Find shares memory: %v", got)
		}
	}
	if !reflect.DeepEqual(whole(l), want) {
		t.Errorf("the answer shares memory with the rules: %v, not %v", whole(l), want)
	}
}

func TestNothingIsKept(t *testing.T) {
	l := rules(plain("a", "x"), of(span('c', 'd')))
	got, _ := Compile(l)
	l[1].Source[0][0] = span(0, 9)
	clear(l)
	want := []api.Head{head(0, 96), head(97, 97, 0), head(98, 98), head(99, 100, 1), head(101, api.MaxRune)}
	if !alike(got, want) {
		t.Errorf("%v, not %v", got, want)
	}
	x := Find(got, 'a')
	clear(got[1].Rules)
	got[1].Rules[0] = 8
	if !slices.Equal(x, []int{0}) {
		t.Errorf("%v, not 0", x)
	}
}

// Z3

func TestNoneAndNil(t *testing.T) {
	heads(t, nil, head(0, api.MaxRune))
	heads(t, []api.Rule{}, head(0, api.MaxRune))
	heads(t, rules(api.Rule{Source: list(nil)}), head(0, api.MaxRune))
	heads(t, rules(api.Rule{Source: list(set())}), head(0, api.MaxRune))
	refuse(t, rules(api.Rule{Source: [][]api.Span{}}), fault(api.ErrNone, 0))
	found(t, []api.Head{}, 0)
	found(t, []api.Head{{Low: 0, High: api.MaxRune, Rules: []int{}}}, 0)
	found(t, []api.Head{{Low: 0, High: api.MaxRune}}, 0)
}
