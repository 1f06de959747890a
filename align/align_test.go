package align

import (
	"math"
	"reflect"
	"slices"
	"strings"
	"testing"

	"scriptshift/api"
	"scriptshift/run"
	"scriptshift/sets"
	"scriptshift/vm"
)

func span(low, high rune) api.Span { return api.Span{Low: low, High: high} }

func set(l ...api.Span) []api.Span { return l }

// each is a set of its own for each rune.
func each(s string) [][]api.Span {
	var l [][]api.Span
	for _, r := range s {
		l = append(l, set(span(r, r)))
	}
	return l
}

func list(l ...[]api.Span) [][]api.Span { return l }

// rule has its cursor behind its target.
func rule(before, source, after, target string) api.Rule {
	t := []rune(target)
	return api.Rule{Before: each(before), Source: each(source), After: each(after), Target: t, Cursor: len(t)}
}

func plain(source, target string) api.Rule { return rule("", source, "", target) }

func starting(r api.Rule) api.Rule {
	r.Start = true
	return r
}

func ending(r api.Rule) api.Rule {
	r.End = true
	return r
}

func cursor(r api.Rule, at int) api.Rule {
	r.Cursor = at
	return r
}

func rules(l ...api.Rule) []api.Rule { return l }

func letters(n int) string { return strings.Repeat("a", n) }

func fault(err api.Errno, at int) api.Fault { return api.Fault{Err: err, At: at} }

var every = set(span(0, api.MaxRune))

func of(from, to, begin, end, rule int) api.Link {
	return api.Link{From: from, To: to, Begin: begin, End: end, Rule: rule}
}

// even are n links, each of so many runes of the text and so many of what came, all by that rule.
func even(n, about, came, rule int) []api.Link {
	var l []api.Link
	for k := range n {
		l = append(l, of(k*about, (k+1)*about, k*came, (k+1)*came, rule))
	}
	return l
}

// links is that Links tells those, where nothing is wrong.
func links(t *testing.T, l []api.Rule, text string, want ...api.Link) {
	t.Helper()
	if got, f := Links(l, []rune(text)); !slices.Equal(got, want) || f != (api.Fault{}) {
		t.Errorf("Links(%v, %.60q): %v, %v, not %v", l[:min(3, len(l))], text, got[:min(60, len(got))], f, want[:min(60, len(want))])
	}
}

// refuses is that Links tells that fault, and nothing beside it.
func refuses(t *testing.T, l []api.Rule, text []rune, want api.Fault) {
	t.Helper()
	if got, f := Links(l, text); len(got) != 0 || f != want {
		t.Errorf("Links(%d rules, %d runes): %d links, %v, not none, %v", len(l), len(text), len(got), f, want)
	}
}

// O1

func TestLinks(t *testing.T) {
	// The document's example 15.
	links(t, rules(plain("a", "bc")), "xa", of(0, 1, 0, 1, -1), of(1, 2, 1, 3, 0))
	l := rules(plain("ab", "x"), plain("a", "y"))
	links(t, l, "aba", of(0, 2, 0, 1, 0), of(2, 3, 1, 2, 1))
	links(t, rules(l[1], l[0]), "aba", of(0, 1, 0, 1, 0), of(1, 2, 1, 2, -1), of(2, 3, 2, 3, 0))
	links(t, l, "")
	links(t, nil, "")
	links(t, nil, "abc", even(3, 1, 1, -1)...)
	links(t, l, "zz", even(2, 1, 1, -1)...)
	links(t, rules(plain("ä", "ae"), plain("ü", "ue")), "grün", of(0, 1, 0, 1, -1), of(1, 2, 1, 2, -1), of(2, 3, 2, 4, 1), of(3, 4, 4, 5, -1))
	// More come than go, or fewer, and each moves what follows.
	l = rules(plain("abc", "x"), plain("d", "wxyz"), plain("ef", "gh"))
	links(t, l, "dabcdefz", of(0, 1, 0, 4, 1), of(1, 4, 4, 5, 0), of(4, 5, 5, 9, 1), of(5, 7, 9, 11, 2), of(7, 8, 11, 12, -1))
	// A rule that changes nothing is told, too.
	links(t, rules(plain("a", "a")), "ab", of(0, 1, 0, 1, 0), of(1, 2, 1, 2, -1))
	links(t, rules(plain("ab", "ab")), "ab", of(0, 2, 0, 2, 0))
	links(t, append(slices.Repeat(rules(plain("b", "y")), 199), plain("a", "xx")), "ab", of(0, 1, 0, 2, 199), of(1, 2, 2, 3, 0))
}

func TestLinksOfWhatGoes(t *testing.T) {
	gone := rules(plain("a", ""))
	links(t, gone, "a", of(0, 1, 0, 0, 0))
	links(t, gone, "aaa", of(0, 1, 0, 0, 0), of(1, 2, 0, 0, 0), of(2, 3, 0, 0, 0))
	links(t, gone, "aabaa", of(0, 1, 0, 0, 0), of(1, 2, 0, 0, 0), of(2, 3, 0, 1, -1), of(3, 4, 1, 1, 0), of(4, 5, 1, 1, 0))
	links(t, rules(plain("abc", "")), "zabcz", of(0, 1, 0, 1, -1), of(1, 4, 1, 1, 0), of(4, 5, 1, 2, -1))
	links(t, rules(plain("ab", "")), "aabb", of(0, 1, 0, 1, -1), of(1, 3, 1, 1, 0), of(3, 4, 1, 2, -1))
}

// What stands around matters, but no link is about it.
func TestLinksAround(t *testing.T) {
	links(t, rules(rule("b", "a", "", "xy")), "baa", of(0, 1, 0, 1, -1), of(1, 2, 1, 3, 0), of(2, 3, 3, 4, -1))
	links(t, rules(rule("", "a", "a", "xy")), "aaa", of(0, 1, 0, 2, 0), of(1, 2, 2, 4, 0), of(2, 3, 4, 5, -1))
	links(t, rules(rule("ab", "cd", "ef", "x")), "abcdef", of(0, 1, 0, 1, -1), of(1, 2, 1, 2, -1), of(2, 4, 2, 3, 0), of(4, 5, 3, 4, -1), of(5, 6, 4, 5, -1))
	// Before looks at what came, not at what was there.
	links(t, rules(rule("x", "a", "", "xx")), "xaa", of(0, 1, 0, 1, -1), of(1, 2, 1, 3, 0), of(2, 3, 3, 5, 0))
	links(t, rules(rule("a", "a", "", "b")), "aaa", of(0, 1, 0, 1, -1), of(1, 2, 1, 2, 0), of(2, 3, 2, 3, -1))
	links(t, rules(starting(plain("a", "xy"))), "aa", of(0, 1, 0, 2, 0), of(1, 2, 2, 3, -1))
	links(t, rules(starting(plain("a", ""))), "aab", of(0, 1, 0, 0, 0), of(1, 2, 0, 0, 0), of(2, 3, 0, 1, -1))
	links(t, rules(ending(plain("a", "xy"))), "aa", of(0, 1, 0, 1, -1), of(1, 2, 1, 3, 0))
	links(t, rules(ending(plain("a", ""))), "aa", of(0, 1, 0, 1, -1), of(1, 2, 1, 1, 0))
}

func TestLinksOfTheLongest(t *testing.T) {
	most := plain(letters(20), strings.Repeat("x", 20))
	links(t, rules(most), letters(4000), even(200, 20, 20, 0)...)
	links(t, rules(plain(letters(20), "")), letters(4000), even(200, 20, 0, 0)...)
	links(t, rules(plain("a", strings.Repeat("x", 20))), letters(200), even(200, 1, 20, 0)...)
	links(t, nil, letters(4000), even(4000, 1, 1, -1)...)
	links(t, rules(plain("a", "aa")), letters(2000), even(2000, 1, 2, 0)...)
	links(t, rules(most), letters(19), even(19, 1, 1, -1)...)
	const edges = "\x00\ud7ff\ue000\U0010ffff"
	links(t, rules(api.Rule{Source: list(every), Target: []rune(edges), Cursor: 4}), edges, even(4, 1, 4, 0)...)
}

// unsure are right rules whose cursor isn't behind what they put.
var unsure = []api.Rule{
	cursor(plain("q", "x"), 0),
	cursor(plain("q", "xy"), 0),
	cursor(plain("q", "xy"), 1),
	cursor(plain("q", strings.Repeat("x", 20)), 19),
	cursor(rule("q", "qq", "q", "xyz"), 2),
	cursor(api.Rule{Source: list(nil), Target: []rune("x")}, 0),
}

func TestNotSure(t *testing.T) {
	// Whether it plays or not, and wherever among the rules it stands.
	for _, r := range unsure {
		for _, s := range []string{"", "a", "q", "zqz", "qqqqqq", letters(3000)} {
			refuses(t, rules(r), []rune(s), fault(api.ErrFit, 0))
			refuses(t, rules(plain("a", "b"), r), []rune(s), fault(api.ErrFit, 0))
			refuses(t, rules(r, plain("a", "b")), []rune(s), fault(api.ErrFit, 0))
			refuses(t, rules(plain("q", ""), plain("a", "b"), r, plain("c", "d")), []rune(s), fault(api.ErrFit, 0))
		}
	}
	// A cursor at 0 is behind a target of no runes.
	links(t, rules(cursor(plain("q", ""), 0)), "q", of(0, 1, 0, 0, 0))
}

// wrongs are rules with which something is wrong; some aren't sure, either.
var wrongs = []struct {
	r   api.Rule
	err api.Errno
}{
	{api.Rule{}, api.ErrNone},
	{rule("a", "", "b", "c"), api.ErrNone},
	{cursor(rule("a", "", "b", "c"), 0), api.ErrNone},
	{plain(letters(21), ""), api.ErrMany},
	{rule(letters(21), "a", "", ""), api.ErrMany},
	{rule("", "a", letters(21), ""), api.ErrMany},
	{plain("a", letters(21)), api.ErrMany},
	{cursor(plain("a", letters(21)), 0), api.ErrMany},
	{cursor(plain("a", "xy"), 3), api.ErrRange},
	{cursor(plain("a", "xy"), -1), api.ErrRange},
	{cursor(plain("a", "xy"), math.MinInt), api.ErrRange},
	{cursor(plain("a", "xy"), math.MaxInt), api.ErrRange},
	{api.Rule{Source: each("a"), Target: []rune{55296}, Cursor: 1}, api.ErrRange},
	{api.Rule{Source: list(set(span(5, 4)))}, api.ErrRange},
	{api.Rule{Source: list(set(span(math.MinInt32, math.MaxInt32)))}, api.ErrRange},
	{api.Rule{Source: list(set(span(1, 2), span(3, 4)))}, api.ErrForm},
	{api.Rule{Before: list(set(span(-1, 4))), Source: each("a")}, api.ErrRange},
	{api.Rule{Source: each("a"), After: list(set(span(5, 6), span(1, 2)))}, api.ErrForm},
}

// badTexts are texts with which something is wrong.
var badTexts = []struct {
	text []rune
	err  api.Errno
}{
	{[]rune(letters(4001)), api.ErrMuch},
	{append([]rune(letters(4000)), -1), api.ErrMuch},
	{append([]rune(letters(3999)), -1), api.ErrRange},
	{[]rune{math.MinInt32}, api.ErrRange},
	{[]rune{-1}, api.ErrRange},
	{[]rune{'b', 55296}, api.ErrRange},
	{[]rune{57343, 'b'}, api.ErrRange},
	{[]rune{'b', api.MaxRune + 1, 'b'}, api.ErrRange},
	{[]rune{math.MaxInt32}, api.ErrRange},
}

// crowd are 200 rules of which Compile would make 401 heads.
func crowd() []api.Rule {
	var l []api.Rule
	for k := range rune(200) {
		l = append(l, plain(string(1+3*k), "!"))
	}
	return l
}

func TestWrongRulesAreToldFirst(t *testing.T) {
	texts := [][]rune{nil, []rune("aqb")}
	for _, x := range badTexts {
		texts = append(texts, x.text)
	}
	for _, text := range texts {
		for _, x := range wrongs {
			refuses(t, rules(x.r), text, fault(x.err, 0))
			refuses(t, rules(plain("b", ""), unsure[0], x.r, api.Rule{}), text, fault(x.err, 2))
			refuses(t, append(crowd(), x.r), text, fault(api.ErrMany, 0))
			refuses(t, append(crowd()[:199], x.r), text, fault(x.err, 199))
		}
		refuses(t, append(crowd(), unsure[0]), text, fault(api.ErrMany, 0))
		refuses(t, make([]api.Rule, 201), text, fault(api.ErrMany, 0))
	}
}

func TestWrongTextsAreToldNext(t *testing.T) {
	loop := rules(cursor(plain("b", "b"), 0))
	for _, l := range [][]api.Rule{nil, {}, rules(plain("b", "xy")), unsure, loop, crowd()} {
		for _, x := range badTexts {
			refuses(t, l, x.text, fault(x.err, 0))
		}
	}
}

// All that Trace tells is ahead of rules that aren't sure.
func TestFaultsOfPlaying(t *testing.T) {
	for _, s := range []string{"", "a", "\x01"} {
		refuses(t, crowd(), []rune(s), fault(api.ErrMany, 0))
		unsettled := crowd()
		unsettled[7].Cursor = 0
		refuses(t, unsettled, []rune(s), fault(api.ErrMany, 0))
	}
	links(t, crowd()[:199], "\x01\x02", of(0, 1, 0, 1, 0), of(1, 2, 1, 2, -1))
	double := plain("a", "aa")
	refuses(t, rules(double), []rune(letters(2001)), fault(api.ErrMuch, 0))
	refuses(t, rules(double, unsure[0]), []rune(letters(2001)), fault(api.ErrMuch, 0))
	refuses(t, rules(double, unsure[0]), []rune(letters(2000)), fault(api.ErrFit, 0))
	// It is too much at each step, not only in the end.
	l := rules(plain("b", ""), plain("c", "xx"))
	refuses(t, l, []rune("cb"+letters(3998)), fault(api.ErrMuch, 0))
	if got, f := Links(l, []rune("bc"+letters(3998))); len(got) != 4000 || got[1] != of(1, 2, 0, 2, 1) || got[3999] != of(3999, 4000, 3999, 4000, -1) || f != (api.Fault{}) {
		t.Errorf("%d links, %v", len(got), f)
	}
	stays := rules(cursor(plain("a", "a"), 0))
	for _, s := range []string{"a", "ba", letters(4000)} {
		refuses(t, stays, []rune(s), fault(api.ErrSteps, 0))
	}
	// Where no rule matches they only aren't sure.
	refuses(t, stays, []rune("bbb"), fault(api.ErrFit, 0))
	refuses(t, stays, nil, fault(api.ErrFit, 0))
}

// texts are all of a and b, up to that many runes.
func texts(most int) []string {
	l := []string{""}
	for from := 0; len(l[from]) < most; from++ {
		l = append(l, l[from]+"a", l[from]+"b")
	}
	return l
}

// small are sure rules of few runes of all kinds.
func small() []api.Rule {
	var l []api.Rule
	for _, source := range []string{"a", "b", "ab", "bb", "aba"} {
		for _, target := range []string{"", "a", "bb", "aba"} {
			r := plain(source, target)
			l = append(l, r, starting(r), ending(r))
			r.Before = each("b")
			l = append(l, r)
			r.Before, r.After = nil, list(every)
			l = append(l, r)
		}
	}
	return l
}

// compare holds Links against the oracle, and both against what the program plays.
func compare(t *testing.T, l []api.Rule, text string) api.Errno {
	t.Helper()
	o := newOracle([]rune(text))
	if err := o.play(l); err != api.OK {
		refuses(t, l, []rune(text), fault(err, 0))
		return err
	}
	links(t, l, text, o.links()...)
	out, f := run.Run(l, []rune(text))
	if string(out.Text) != o.came() || out.Steps != len(o.steps) || f != (api.Fault{}) {
		t.Errorf("Run(%v, %q): %v, %v, not %q", l, text, out, f, o.came())
	}
	pieces(t, l, []rune(text), out.Text)
	return api.OK
}

// pieces is that links are all of the text, and all of what came, piece for piece, and that each says what is so.
func pieces(t *testing.T, l []api.Rule, text, came []rune) {
	t.Helper()
	got, _ := Links(l, text)
	shots, _ := vm.Trace(l, text)
	from, begin := 0, 0
	for n, x := range got {
		if x.From != from || x.Begin != begin || x.To > len(text) || x.End > len(came) || x.To <= from || x.End < begin {
			t.Fatalf("%v, %q: link %d is %v, from %d and %d on", l, string(text), n, x, from, begin)
		}
		if shots[n] != (api.Shot{At: x.Begin, Rule: x.Rule}) {
			t.Errorf("%v, %q: link %d is %v, and the step %v", l, string(text), n, x, shots[n])
		}
		if !holds(l, x, text[x.From:x.To], came[x.Begin:x.End]) {
			t.Errorf("%v, %q: link %d is %v: of %v came %v", l, string(text), n, x, text[x.From:x.To], came[x.Begin:x.End])
		}
		from, begin = x.To, x.End
	}
	if from != len(text) || begin != len(came) || len(got) != len(shots) {
		t.Errorf("%v, %q: links go to %d and %d, not %d and %d", l, string(text), from, begin, len(text), len(came))
	}
}

// holds is whether by the link's rule the one piece comes of the other one.
func holds(l []api.Rule, x api.Link, piece, came []rune) bool {
	if x.Rule == -1 {
		return len(piece) == 1 && slices.Equal(piece, came)
	}
	r := l[x.Rule]
	return slices.EqualFunc(piece, r.Source, func(p rune, s []api.Span) bool { return sets.Has(s, p) }) && slices.Equal(came, r.Target)
}

// TestAnotherWay holds all pairs of small rules against oracle_test.go, over all short texts of two letters.
func TestAnotherWay(t *testing.T) {
	some, all := small(), texts(4)
	for i, r := range some {
		for j, s := range some {
			for k, text := range all {
				// Not all pairs with all texts, lest it take long.
				if (i+j+k)%5 == 0 {
					compare(t, rules(r, s), text)
				}
			}
		}
	}
}

// TestAnotherWayLong does so with more rules, of more letters, over longer texts.
func TestAnotherWayLong(t *testing.T) {
	seed := 1
	next := func(below int) int {
		seed = (seed*1103515245 + 12345) & (1<<31 - 1)
		return (seed >> 8) % below
	}
	alphabet := []rune{0, 'a', 'b', 0xe9, 55295, 57344, api.MaxRune}
	word := func(least, most int) []rune {
		var l []rune
		for range least + next(most-least+1) {
			l = append(l, alphabet[next(len(alphabet))])
		}
		return l
	}
	around := func(l []rune) [][]api.Span {
		var out [][]api.Span
		for _, r := range l {
			out = append(out, set(span(max(0, r-rune(next(3))), min(api.MaxRune, r+rune(next(3))))))
		}
		return out
	}
	n := map[api.Errno]int{}
	for round := range 800 {
		var l []api.Rule
		for range next(9) {
			r := api.Rule{Start: next(9) == 0, End: next(9) == 0, Before: around(word(0, next(3))), Source: around(word(1, 3)), After: around(word(0, next(3))), Target: word(0, 6)}
			r.Cursor = len(r.Target)
			l = append(l, r)
		}
		most := 60
		if round%20 == 0 {
			most = 4000
		}
		n[compare(t, l, string(word(0, most)))]++
	}
	if n[api.OK] < 500 || n[api.ErrMuch] < 3 {
		t.Errorf("of each kind: %v", n)
	}
}

// Z2

// roomy is rules and a text whose lists all have spare room, and there something that is wrong, or would match.
func roomy() ([]api.Rule, []rune) {
	spans := func(r rune) []api.Span { return set(span(r, r), span(-9, -10))[:1] }
	sets := func(l ...[]api.Span) [][]api.Span { return append(l, set(span(5, 4)))[:len(l)] }
	r := api.Rule{Before: sets(spans('a')), Source: sets(spans('b')), After: sets(spans('c')), Target: []rune{'x', 'y', -1}[:2], Cursor: 2}
	s := api.Rule{Source: sets(spans('c'), spans('d')), Target: []rune{'z', -1}[:1], Cursor: 1}
	return rules(r, s, unsure[0])[:2], []rune{'a', 'b', 'c', 'd', 'b', 'c', -2, -3}[:5]
}

// whole is all that rules and a text have, spare room and all.
func whole(rules []api.Rule, text []rune) []any {
	out := []any{slices.Clone(text[:cap(text)])}
	for _, r := range rules[:cap(rules)] {
		out = append(out, slices.Clone(r.Target[:cap(r.Target)]), r.Cursor, r.Start, r.End)
		for _, l := range [][][]api.Span{r.Before, r.Source, r.After} {
			for _, s := range l[:cap(l)] {
				out = append(out, slices.Clone(s[:cap(s)]))
			}
		}
	}
	return out
}

func TestWhatIsHandedInIsOnlyRead(t *testing.T) {
	l, text := roomy()
	before := whole(l, text)
	want := []api.Link{of(0, 1, 0, 1, -1), of(1, 2, 1, 3, 0), of(2, 4, 3, 4, 1), of(4, 5, 4, 5, -1)}
	for range 2 {
		got, f := Links(l, text)
		if !slices.Equal(got, want) || f != (api.Fault{}) {
			t.Errorf("%v, %v", got, f)
		}
		clear(got[:cap(got)])
		if !reflect.DeepEqual(whole(l, text), before) {
			t.Errorf("%v, not %v", whole(l, text), before)
		}
	}
	got, _ := Links(l, text)
	clear(text[:cap(text)])
	clear(l[:cap(l)])
	if !slices.Equal(got, want) {
		t.Errorf("the answer has become %v", got)
	}
}

// Z3

func TestNilAndNoEntries(t *testing.T) {
	r := api.Rule{Before: list(), Source: each("a"), After: list(), Target: []rune{}}
	links(t, rules(r), "ab", of(0, 1, 0, 0, 0), of(1, 2, 0, 1, -1))
	for _, l := range [][]api.Rule{nil, {}, rules(r)} {
		for _, text := range [][]rune{nil, {}} {
			refuses(t, l, text, api.Fault{})
		}
	}
	links(t, []api.Rule{}, "a", of(0, 1, 0, 1, -1))
}
