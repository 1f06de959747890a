package find

import (
	"math"
	"reflect"
	"slices"
	"strings"
	"testing"

	"scriptshift/align"
	"scriptshift/api"
	"scriptshift/run"
)

func span(low, high rune) api.Span { return api.Span{Low: low, High: high} }

func set(l ...api.Span) []api.Span { return l }

// each is a set of its own for each rune.
func each(s string) [][]api.Span {
	var l [][]api.Span
	for _, r := range s {
		l = append(l, set(span(r, r)))
	}
	return l
}

// rule has its cursor behind its target.
func rule(before, source, after, target string) api.Rule {
	t := []rune(target)
	return api.Rule{Before: each(before), Source: each(source), After: each(after), Target: t, Cursor: len(t)}
}

func plain(source, target string) api.Rule { return rule("", source, "", target) }

func starting(r api.Rule) api.Rule {
	r.Start = true
	return r
}

func ending(r api.Rule) api.Rule {
	r.End = true
	return r
}

func cursor(r api.Rule, at int) api.Rule {
	r.Cursor = at
	return r
}

func rules(l ...api.Rule) []api.Rule { return l }

func letters(n int) string { return strings.Repeat("a", n) }

func fault(err api.Errno, at int) api.Fault { return api.Fault{Err: err, At: at} }

func of(from, to int) api.Hit { return api.Hit{From: from, To: to} }

// finds is that just those are found, where nothing is wrong.
func finds(t *testing.T, l []api.Rule, text, pattern string, want ...api.Hit) {
	t.Helper()
	if got, f := Find(l, []rune(text), []rune(pattern)); !slices.Equal(got, want) || f != (api.Fault{}) {
		t.Errorf("Find(%v, %.60q, %.60q): %d hits, %v, %v, not %v", l[:min(3, len(l))], text, pattern, len(got), got[:min(60, len(got))], f, want[:min(60, len(want))])
	}
}

// refuses is that Find tells that fault, and nothing beside it.
func refuses(t *testing.T, l []api.Rule, text, pattern []rune, want api.Fault) {
	t.Helper()
	if got, f := Find(l, text, pattern); len(got) != 0 || f != want {
		t.Errorf("Find(%d rules, %d runes, %d runes): %d hits, %v, not none, %v", len(l), len(text), len(pattern), len(got), f, want)
	}
}

// T1

func TestFind(t *testing.T) {
	german := rules(plain("ä", "ae"), plain("ü", "ue"), plain("ß", "ss"))
	// The document's example 20.
	finds(t, german, "grün", "ruen", of(1, 4))
	finds(t, german, "grün", "gruen", of(0, 4))
	finds(t, german, "grün", "ue", of(2, 3))
	finds(t, german, "grün", "n", of(3, 4))
	finds(t, german, "grün", "g", of(0, 1))
	finds(t, german, "süß und süß", "suess", of(0, 3), of(8, 11))
	// It is found in what came, not in what was there.
	finds(t, german, "grün", "grün")
	finds(t, german, "grün", "ü")
	finds(t, german, "grun", "gruen")
	finds(t, rules(plain("a", "b"), plain("b", "a")), "ab", "ab")
	finds(t, rules(plain("a", "b"), plain("b", "a")), "ab", "ba", of(0, 2))
	// Not where it comes of a part of a piece, at either end.
	finds(t, german, "grün", "u")
	finds(t, german, "grün", "e")
	finds(t, german, "grün", "ru")
	finds(t, german, "grün", "en")
	finds(t, german, "ßß", "ss", of(0, 1), of(1, 2))
	finds(t, german, "ßß", "sss")
	finds(t, german, "sßs", "ss", of(1, 2))
	finds(t, german, "sßs", "sss", of(0, 2), of(1, 3))
	finds(t, german, "sssß", "sss", of(0, 3), of(2, 4))
	finds(t, rules(plain("abc", "x"), plain("d", "xyx")), "abcdabc", "x", of(0, 3), of(4, 7))
	finds(t, rules(plain("abc", "x"), plain("d", "xyx")), "abcdabc", "xx")
	finds(t, rules(plain("abc", "x"), plain("d", "xyx")), "abcdabc", "xxyxx", of(0, 7))
	finds(t, rules(plain("ab", "x")), "ababab", "xx", of(0, 4), of(2, 6))
}

func TestFindWithoutRules(t *testing.T) {
	finds(t, nil, "abcab", "ab", of(0, 2), of(3, 5))
	finds(t, nil, "abcab", "abcab", of(0, 5))
	finds(t, nil, "aaaa", "aa", of(0, 2), of(1, 3), of(2, 4))
	finds(t, nil, "abababa", "aba", of(0, 3), of(2, 5), of(4, 7))
	finds(t, nil, "abc", "abcd")
	finds(t, nil, "bcabc", "abcd")
	finds(t, nil, "abc", "ac")
	finds(t, nil, "abc", "d")
	finds(t, nil, "", "a")
	const edges = "\x00\ud7ff\ue000\U0010ffff"
	finds(t, nil, edges+edges, edges, of(0, 4), of(4, 8))
	// A letter with a mark is not that letter and the mark.
	finds(t, nil, "é", "e\u0301")
}

// Pieces of which nothing came stand at either end, or don't: each is a pair of its own.
func TestFindBesideWhatGoes(t *testing.T) {
	gone := rules(plain("a", ""))
	finds(t, gone, "ab", "b", of(0, 2), of(1, 2))
	finds(t, gone, "ba", "b", of(0, 1), of(0, 2))
	finds(t, gone, "aba", "b", of(0, 2), of(0, 3), of(1, 2), of(1, 3))
	finds(t, gone, "aabaa", "b", of(0, 3), of(0, 4), of(0, 5), of(1, 3), of(1, 4), of(1, 5), of(2, 3), of(2, 4), of(2, 5))
	finds(t, gone, "babab", "bb", of(0, 3), of(0, 4), of(1, 5), of(2, 5))
	finds(t, gone, "bab", "bb", of(0, 3))
	finds(t, gone, "aaa", "a")
	finds(t, gone, "aaa", "b")
	l := rules(plain("xy", ""), plain("c", "bb"))
	finds(t, l, "xyxycxy", "bb", of(0, 5), of(0, 7), of(2, 5), of(2, 7), of(4, 5), of(4, 7))
	finds(t, l, "bxyb", "b", of(0, 1), of(0, 3), of(1, 4), of(3, 4))
	finds(t, l, "bxyb", "bb", of(0, 4))
	finds(t, l, "xyc", "b")
	finds(t, rules(starting(plain("a", ""))), "aaba", "b", of(0, 3), of(1, 3), of(2, 3))
	finds(t, rules(ending(plain("a", ""))), "abaa", "ba", of(1, 3), of(1, 4))
}

// What stands around a place has its say in what comes of it, found or not.
func TestFindAround(t *testing.T) {
	finds(t, rules(rule("b", "a", "", "x")), "aba", "x", of(2, 3))
	finds(t, rules(rule("b", "a", "", "x")), "abaa", "bxa", of(1, 4))
	finds(t, rules(rule("", "a", "b", "x")), "aba", "x", of(0, 1))
	finds(t, rules(rule("", "a", "b", "x")), "aba", "ba", of(1, 3))
	finds(t, rules(starting(plain("a", "x"))), "aaa", "aa", of(1, 3))
	finds(t, rules(ending(plain("a", "x"))), "aaa", "ax", of(1, 3))
	// Which rule plays hangs on where the pieces ahead ended.
	l := rules(plain("ab", "x"), plain("ba", "y"))
	finds(t, l, "ababa", "x", of(0, 2), of(2, 4))
	finds(t, l, "cbaba", "yy", of(1, 5))
	finds(t, l, "ababa", "y")
}

func TestFindInTheLongest(t *testing.T) {
	var want []api.Hit
	for k := range 2001 {
		want = append(want, of(k, k+2000))
	}
	finds(t, nil, letters(4000), letters(2000), want...)
	finds(t, nil, letters(4000), letters(4000), of(0, 4000))
	finds(t, nil, letters(3999), letters(4000))
	finds(t, nil, letters(3999)+"b", letters(3999)+"b", of(0, 4000))
	finds(t, nil, letters(4000), letters(3999)+"b")
	finds(t, rules(plain("a", "aa")), letters(2000), letters(4000), of(0, 2000))
	finds(t, rules(plain("a", "aa")), letters(2000), letters(3998), of(0, 1999), of(1, 2000))
	finds(t, rules(plain("a", "aa")), letters(2000), letters(3999))
	finds(t, rules(plain(letters(20), "b")), letters(4000), strings.Repeat("b", 200), of(0, 4000))
	finds(t, rules(plain("b", strings.Repeat("a", 20))), strings.Repeat("b", 200), letters(4000), of(0, 200))
}

// All that begin ahead of the one piece, or with it, and all that end with it, or behind.
func TestFindAsManyAsThereAre(t *testing.T) {
	text := letters(2000) + "b" + letters(1999)
	got, f := Find(rules(plain("a", "")), []rune(text), []rune("b"))
	if len(got) != 2001*2000 || f != (api.Fault{}) {
		t.Fatalf("%d hits, %v", len(got), f)
	}
	for k, x := range got {
		if x != of(k/2000, 2001+k%2000) {
			t.Fatalf("hit %d is %v", k, x)
		}
	}
	finds(t, rules(plain("a", "")), letters(4000), "a")
}

// unsure are right rules whose cursor isn't behind what they put.
var unsure = []api.Rule{
	cursor(plain("q", "x"), 0),
	cursor(plain("q", "xy"), 1),
	cursor(rule("q", "qq", "q", "xyz"), 2),
}

// wrongs are rules with which something is wrong.
var wrongs = []struct {
	r   api.Rule
	err api.Errno
}{
	{api.Rule{}, api.ErrNone},
	{rule("a", "", "b", "c"), api.ErrNone},
	{plain(letters(21), ""), api.ErrMany},
	{plain("a", letters(21)), api.ErrMany},
	{cursor(plain("a", "xy"), 3), api.ErrRange},
	{cursor(plain("a", "xy"), math.MinInt), api.ErrRange},
	{api.Rule{Source: each("a"), Target: []rune{55296}, Cursor: 1}, api.ErrRange},
	{api.Rule{Source: [][]api.Span{set(span(5, 4))}}, api.ErrRange},
	{api.Rule{Source: [][]api.Span{set(span(1, 2), span(3, 4))}}, api.ErrForm},
}

// bad are texts, and patterns, with which something is wrong.
var bad = []struct {
	text []rune
	err  api.Errno
}{
	{[]rune(letters(4001)), api.ErrMuch},
	{append([]rune(letters(4000)), -1), api.ErrMuch},
	{append([]rune(letters(3999)), -1), api.ErrRange},
	{[]rune{math.MinInt32}, api.ErrRange},
	{[]rune{-1}, api.ErrRange},
	{[]rune{'b', 55296}, api.ErrRange},
	{[]rune{57343, 'b'}, api.ErrRange},
	{[]rune{'b', api.MaxRune + 1, 'b'}, api.ErrRange},
	{[]rune{math.MaxInt32}, api.ErrRange},
}

// patterns are right ones, and all kinds of wrong ones.
func patterns() [][]rune {
	l := [][]rune{nil, {}, []rune("a"), []rune("aqb"), []rune(letters(4000))}
	for _, x := range bad {
		l = append(l, x.text)
	}
	return l
}

func TestFaultsOfLinksAreToldFirst(t *testing.T) {
	double, stays := plain("a", "aa"), cursor(plain("a", "a"), 0)
	var crowd []api.Rule
	for k := range rune(200) {
		crowd = append(crowd, plain(string(1+3*k), "!"))
	}
	for _, p := range patterns() {
		for _, x := range wrongs {
			refuses(t, rules(x.r), []rune("a"), p, fault(x.err, 0))
			refuses(t, rules(plain("b", ""), x.r), nil, p, fault(x.err, 1))
			refuses(t, rules(plain("b", ""), unsure[0], x.r, api.Rule{}), []rune{-1}, p, fault(x.err, 2))
		}
		for _, x := range bad {
			refuses(t, nil, x.text, p, fault(x.err, 0))
			refuses(t, rules(double), x.text, p, fault(x.err, 0))
			refuses(t, unsure, x.text, p, fault(x.err, 0))
		}
		for _, r := range unsure {
			refuses(t, rules(r), nil, p, fault(api.ErrFit, 0))
			refuses(t, rules(plain("a", "b"), r), []rune("abc"), p, fault(api.ErrFit, 0))
		}
		refuses(t, make([]api.Rule, 201), nil, p, fault(api.ErrMany, 0))
		refuses(t, crowd, nil, p, fault(api.ErrMany, 0))
		refuses(t, rules(double), []rune(letters(2001)), p, fault(api.ErrMuch, 0))
		refuses(t, rules(stays), []rune("ba"), p, fault(api.ErrSteps, 0))
	}
}

func TestWrongPatterns(t *testing.T) {
	for _, l := range [][]api.Rule{nil, rules(plain("a", "xy")), rules(plain("a", "")), rules(plain("b", "b"), plain("q", "z"))} {
		for _, text := range []string{"", "a", "aqb", letters(2000)} {
			refuses(t, l, []rune(text), nil, fault(api.ErrNone, 1))
			refuses(t, l, []rune(text), []rune{}, fault(api.ErrNone, 1))
			for _, x := range bad {
				refuses(t, l, []rune(text), x.text, fault(x.err, 1))
			}
		}
	}
	finds(t, nil, "\U0010ffff", "\U0010ffff", of(0, 1))
	finds(t, nil, "\x00", "\x00", of(0, 1))
	finds(t, nil, "a", letters(4000))
}

// texts are all of these runes, up to that many.
func texts(alphabet string, most int) []string {
	l := []string{""}
	for from := 0; len(l[from]) < most; from++ {
		for _, r := range alphabet {
			l = append(l, l[from]+string(r))
		}
	}
	return l
}

// small are sure rules of few runes of all kinds.
func small() []api.Rule {
	var l []api.Rule
	for _, source := range []string{"a", "b", "ab", "bb"} {
		for _, target := range []string{"", "a", "bb", "aba"} {
			r := plain(source, target)
			before := r
			before.Before = each("b")
			l = append(l, r, starting(r), ending(r), before)
		}
	}
	return l
}

// TestAnotherWay holds all pairs of small rules against oracle_test.go, over all short texts and patterns of two letters.
func TestAnotherWay(t *testing.T) {
	some, short, sought := small(), texts("ab", 4), texts("ab", 4)[1:]
	n := 0
	for i, r := range some {
		for j, s := range some {
			for k, text := range short {
				// Not all pairs with all texts, lest it take long.
				if (i+j+k)%9 != 0 {
					continue
				}
				l := rules(r, s)
				pieces := cut(l, text)
				for _, p := range sought {
					want := looked(pieces, p, len(text))
					finds(t, l, text, p, want...)
					n += len(want)
				}
			}
		}
	}
	if n < 10000 {
		t.Errorf("only %d hits", n)
	}
}

// TestAnotherWayWhereMuchGoes has texts of which next to nothing comes, so that there are many pairs of pieces.
func TestAnotherWayWhereMuchGoes(t *testing.T) {
	l := rules(plain("aa", "b"), plain("a", ""), plain("bc", "cb"), plain("c", ""))
	for _, text := range texts("abc", 6) {
		pieces := cut(l, text)
		for _, p := range []string{"b", "bb", "cb", "bcb", "cbb", "c"} {
			finds(t, l, text, p, looked(pieces, p, len(text))...)
		}
	}
}

// TestWhatIsThereIsFound has all of what came sought that lies between two pieces' ends, and no more than that found.
func TestWhatIsThereIsFound(t *testing.T) {
	seed := 1
	next := func(below int) int {
		seed = (seed*1103515245 + 12345) & (1<<31 - 1)
		return (seed >> 8) % below
	}
	alphabet := []rune{0, 'a', 'b', 0xe9, 57344, api.MaxRune}
	word := func(least, most int) string {
		var l []rune
		for range least + next(most-least+1) {
			l = append(l, alphabet[next(len(alphabet))])
		}
		return string(l)
	}
	for range 60 {
		var l []api.Rule
		for range next(7) {
			l = append(l, rule(word(0, next(2)), word(1, 2), word(0, next(2)), word(0, 3)))
		}
		text := []rune(word(0, 40))
		sought(t, l, text)
	}
}

func sought(t *testing.T, l []api.Rule, text []rune) {
	t.Helper()
	links, f := align.Links(l, text)
	out, g := run.Run(l, text)
	if f != (api.Fault{}) || g != (api.Fault{}) {
		t.Fatalf("%v, %q: %v, %v", l, string(text), f, g)
	}
	for i, x := range links {
		for _, y := range links[i:] {
			p := out.Text[x.Begin:y.End]
			if len(p) == 0 {
				continue
			}
			hits, f := Find(l, text, p)
			if !slices.Contains(hits, of(x.From, y.To)) || f != (api.Fault{}) {
				t.Errorf("%v, %q, %q: %v, %v, without %v", l, string(text), string(p), hits, f, of(x.From, y.To))
			}
			if !slices.IsSortedFunc(hits, before) || len(slices.Compact(slices.Clone(hits))) != len(hits) {
				t.Errorf("%v, %q, %q: %v: not in order", l, string(text), string(p), hits)
			}
		}
	}
}

func before(a, b api.Hit) int {
	if a.From != b.From {
		return a.From - b.From
	}
	return a.To - b.To
}

// Z2

// roomy is rules, a text and a pattern whose lists all have spare room, and there something that is wrong, or would match.
func roomy() ([]api.Rule, []rune, []rune) {
	spans := func(r rune) []api.Span { return set(span(r, r), span(-9, -10))[:1] }
	sets := func(l ...[]api.Span) [][]api.Span { return append(l, set(span(5, 4)))[:len(l)] }
	r := api.Rule{Before: sets(spans('a')), Source: sets(spans('b')), After: sets(spans('c')), Target: []rune{'x', 'y', 'z'}[:2], Cursor: 2}
	s := api.Rule{Source: sets(spans('c'), spans('d')), Target: []rune{'z', -1}[:1], Cursor: 1}
	return rules(r, s, unsure[0])[:2], []rune{'a', 'b', 'c', 'd', 'b', 'c', 'd', -3}[:6], []rune{'x', 'y', 'z', -1}[:2]
}

// everything is all that rules and lists of runes have, spare room and all.
func everything(rules []api.Rule, l ...[]rune) []any {
	var out []any
	for _, x := range l {
		out = append(out, slices.Clone(x[:cap(x)]))
	}
	for _, r := range rules[:cap(rules)] {
		out = append(out, slices.Clone(r.Target[:cap(r.Target)]), r.Cursor, r.Start, r.End)
		for _, l := range [][][]api.Span{r.Before, r.Source, r.After} {
			for _, s := range l[:cap(l)] {
				out = append(out, slices.Clone(s[:cap(s)]))
			}
		}
	}
	return out
}

func TestWhatIsHandedInIsOnlyRead(t *testing.T) {
	l, text, pattern := roomy()
	whole := everything(l, text, pattern)
	want := []api.Hit{of(1, 2)}
	for range 2 {
		got, f := Find(l, text, pattern)
		if !slices.Equal(got, want) || f != (api.Fault{}) {
			t.Errorf("%v, %v", got, f)
		}
		clear(got[:cap(got)])
		if now := everything(l, text, pattern); !reflect.DeepEqual(now, whole) {
			t.Errorf("%v, not %v", now, whole)
		}
	}
	got, _ := Find(l, text, pattern)
	clear(text[:cap(text)])
	clear(pattern[:cap(pattern)])
	clear(l[:cap(l)])
	if !slices.Equal(got, want) {
		t.Errorf("the answer has become %v", got)
	}
}

// Of one piece no more is taken than its rule puts, nor is a pattern longer than it is.
func TestSpareRoomIsNotLookedAt(t *testing.T) {
	l, text, _ := roomy()
	refuses(t, l, text, []rune{'x', 'y'}[:0], fault(api.ErrNone, 1))
	for _, p := range [][]rune{{'x', 'y', -1}, {'x', 'y', 'z'}, {'x', 'y', 'x'}} {
		p = p[:2]
		if got, f := Find(l, text, p); !slices.Equal(got, []api.Hit{of(1, 2)}) || f != (api.Fault{}) {
			t.Errorf("%v: %v, %v", p, got, f)
		}
	}
	finds(t, l, string(text), "xyz", of(1, 4))
	finds(t, l, string(text), "xyzz")
	finds(t, l, string(text), "xyzbc", of(1, 6))
	finds(t, l, string(text), "z", of(2, 4))
}

// Z3

func TestNilAndNoEntries(t *testing.T) {
	r := api.Rule{Before: [][]api.Span{}, Source: each("a"), After: [][]api.Span{}, Target: []rune{}}
	finds(t, rules(r), "ab", "b", of(0, 2), of(1, 2))
	for _, l := range [][]api.Rule{nil, {}, rules(r)} {
		for _, text := range [][]rune{nil, {}} {
			refuses(t, l, text, []rune("a"), api.Fault{})
			for _, p := range [][]rune{nil, {}} {
				refuses(t, l, text, p, fault(api.ErrNone, 1))
			}
		}
	}
	finds(t, []api.Rule{}, "a", "a", of(0, 1))
}
