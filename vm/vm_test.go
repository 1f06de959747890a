package vm

import (
	"math"
	"reflect"
	"slices"
	"strings"
	"testing"

	"scriptshift/api"
	"scriptshift/compile"
	"scriptshift/match"
	"scriptshift/run"
)

func span(low, high rune) api.Span { return api.Span{Low: low, High: high} }

func set(l ...api.Span) []api.Span { return l }

// each is a set of its own for each rune.
func each(s string) [][]api.Span {
	var l [][]api.Span
	for _, r := range s {
		l = append(l, set(span(r, r)))
	}
	return l
}

func list(l ...[]api.Span) [][]api.Span { return l }

// rule has its cursor behind its target.
func rule(before, source, after, target string) api.Rule {
	t := []rune(target)
	return api.Rule{Before: each(before), Source: each(source), After: each(after), Target: t, Cursor: len(t)}
}

func plain(source, target string) api.Rule { return rule("", source, "", target) }

func starting(r api.Rule) api.Rule {
	r.Start = true
	return r
}

func ending(r api.Rule) api.Rule {
	r.End = true
	return r
}

func cursor(r api.Rule, at int) api.Rule {
	r.Cursor = at
	return r
}

func rules(l ...api.Rule) []api.Rule { return l }

func letters(n int) string { return strings.Repeat("a", n) }

func fault(err api.Errno, at int) api.Fault { return api.Fault{Err: err, At: at} }

var every = set(span(0, api.MaxRune))

// at is a step at that place, by that rule.
func at(at, rule int) api.Shot { return api.Shot{At: at, Rule: rule} }

// on are steps from one place up to another one, each by that rule, and going on by one.
func on(from, to, rule int) []api.Shot {
	var l []api.Shot
	for k := from; k < to; k++ {
		l = append(l, at(k, rule))
	}
	return l
}

// comes is that Play and Trace tell that, where nothing is wrong.
func comes(t *testing.T, l []api.Rule, text, want string, shots ...api.Shot) {
	t.Helper()
	put := 0
	for _, s := range shots {
		if s.Rule >= 0 {
			put++
		}
	}
	out, f := Play(l, []rune(text))
	if string(out.Text) != want || out.Steps != len(shots) || out.Put != put || f != (api.Fault{}) {
		t.Errorf("Play(%v, %.60q): %.60q, %d, %d, %v, not %.60q, %d, %d", l[:min(3, len(l))], text, string(out.Text), out.Steps, out.Put, f, want, len(shots), put)
	}
	if got, f := Trace(l, []rune(text)); !slices.Equal(got, shots) || f != (api.Fault{}) {
		t.Errorf("Trace(%v, %.60q): %v, %v, not %v", l[:min(3, len(l))], text, got[:min(60, len(got))], f, shots[:min(60, len(shots))])
	}
}

// refuses is that Play and Trace tell that fault, and zero values beside it.
func refuses(t *testing.T, l []api.Rule, text []rune, want api.Fault) {
	t.Helper()
	out, f := Play(l, text)
	if len(out.Text) != 0 || out.Steps != 0 || out.Put != 0 || f != want {
		t.Errorf("Play(%d rules, %d runes): %d runes, %d, %d, %v, not zero values and %v", len(l), len(text), len(out.Text), out.Steps, out.Put, f, want)
	}
	if shots, f := Trace(l, text); len(shots) != 0 || f != want {
		t.Errorf("Trace(%d rules, %d runes): %d steps, %v, not none, %v", len(l), len(text), len(shots), f, want)
	}
}

// wrongs are rules with which something is wrong.
var wrongs = []struct {
	r   api.Rule
	err api.Errno
}{
	{api.Rule{}, api.ErrNone},
	{rule("a", "", "b", "c"), api.ErrNone},
	{plain(letters(21), ""), api.ErrMany},
	{rule(letters(21), "a", "", ""), api.ErrMany},
	{rule("", "a", letters(21), ""), api.ErrMany},
	{plain("a", letters(21)), api.ErrMany},
	{cursor(plain("a", "xy"), 3), api.ErrRange},
	{cursor(plain("a", "xy"), -1), api.ErrRange},
	{cursor(plain("a", "xy"), math.MaxInt), api.ErrRange},
	{api.Rule{Source: each("a"), Target: []rune{55296}, Cursor: 1}, api.ErrRange},
	{api.Rule{Source: list(set(span(5, 4)))}, api.ErrRange},
	{api.Rule{Source: list(set(span(math.MinInt32, math.MaxInt32)))}, api.ErrRange},
	{api.Rule{Source: list(set(span(1, 2), span(3, 4)))}, api.ErrForm},
	{api.Rule{Before: list(set(span(-1, 4))), Source: each("a")}, api.ErrRange},
	{api.Rule{Source: each("a"), After: list(set(span(5, 6), span(1, 2)))}, api.ErrForm},
}

// many are n rules that are right.
func many(n int) []api.Rule {
	l := make([]api.Rule, n)
	for k := range l {
		l[k] = plain("b", "y")
	}
	return l
}

// scattered are n rules, of one rune each, every third one from that one on: each but one at 0 makes two heads more.
func scattered(from rune, n int) []api.Rule {
	var l []api.Rule
	for k := range rune(n) {
		l = append(l, plain(string(from+3*k), "!"))
	}
	return l
}

// K1

func TestPlay(t *testing.T) {
	// The document's examples 11 and 8.
	comes(t, rules(plain("a", "b")), "xay", "xby", at(0, -1), at(1, 0), at(2, -1))
	l := rules(plain("ab", "x"), plain("a", "y"))
	comes(t, l, "aba", "xy", at(0, 0), at(1, 1))
	comes(t, rules(l[1], l[0]), "aba", "yby", at(0, 0), at(1, -1), at(2, 0))
	comes(t, l, "", "")
	comes(t, l, "zz", "zz", at(0, -1), at(1, -1))
	comes(t, nil, "abc", "abc", at(0, -1), at(1, -1), at(2, -1))
	comes(t, nil, "", "")
	comes(t, rules(plain("ä", "ae"), plain("ü", "ue")), "grün", "gruen", at(0, -1), at(1, -1), at(2, 1), at(4, -1))
	// What goes leaves the cursor where it is.
	comes(t, rules(plain("a", "")), "aabaa", "b", at(0, 0), at(0, 0), at(0, -1), at(1, 0), at(1, 0))
	// What came isn't looked at again, ..
	comes(t, rules(plain("a", "aa")), "aba", "aabaa", at(0, 0), at(2, -1), at(3, 0))
	comes(t, rules(plain("a", "b"), plain("b", "a")), "abba", "baab", at(0, 0), at(1, 1), at(2, 1), at(3, 0))
	// .. but by what follows: Before looks at what is there by then, After at what is there yet.
	comes(t, rules(rule("x", "a", "", "x")), "xaaa", "xxxx", at(0, -1), at(1, 0), at(2, 0), at(3, 0))
	comes(t, rules(rule("a", "a", "", "b")), "aaaa", "abab", at(0, -1), at(1, 0), at(2, -1), at(3, 0))
	comes(t, rules(rule("", "a", "a", "b")), "aaaa", "bbba", at(0, 0), at(1, 0), at(2, 0), at(3, -1))
	comes(t, rules(rule("ab", "c", "de", "")), "abcde", "abde", at(0, -1), at(1, -1), at(2, 0), at(2, -1), at(3, -1))
	// Start and End are those of the text as it is by then.
	comes(t, rules(starting(plain("a", ""))), "aaba", "ba", at(0, 0), at(0, 0), at(0, -1), at(1, -1))
	comes(t, rules(starting(plain("a", "x"))), "aa", "xa", at(0, 0), at(1, -1))
	comes(t, rules(starting(rule("x", "a", "", "y"))), "xaxa", "xyxa", at(0, -1), at(1, 0), at(2, -1), at(3, -1))
	comes(t, rules(ending(plain("a", ""))), "baa", "ba", at(0, -1), at(1, -1), at(2, 0))
	comes(t, rules(ending(rule("", "a", "b", "c"))), "abab", "abcb", at(0, -1), at(1, -1), at(2, 0), at(3, -1))
	// At the edges of what a rune may be.
	const edges = "\x00\ud7ff\ue000\U0010ffff"
	comes(t, nil, edges, edges, on(0, 4, -1)...)
	comes(t, rules(plain("\U0010ffff", "\x00"), plain("\x00", "\U0010ffff")), edges, "\U0010ffff\ud7ff\ue000\x00", at(0, 1), at(1, -1), at(2, -1), at(3, 0))
	comes(t, rules(api.Rule{Source: list(every), Target: []rune("z"), Cursor: 1}), edges, "zzzz", on(0, 4, 0)...)
	// A set without runes has none of them.
	comes(t, rules(api.Rule{Source: list(nil)}, plain("a", "b")), "a", "b", at(0, 1))
	comes(t, rules(api.Rule{Source: append(each("a"), nil)}, plain("a", "b")), "aa", "bb", at(0, 1), at(1, 1))
}

func TestPlayCursor(t *testing.T) {
	// What came, and the cursor ahead of it, is looked at again.
	comes(t, rules(cursor(plain("bb", "b"), 0)), "abbbc", "abc", at(0, -1), at(1, 0), at(1, 0), at(1, -1), at(2, -1))
	l := rules(plain("a", "bc"), plain("b", "x"), plain("c", "y"))
	comes(t, l, "aa", "bcbc", at(0, 0), at(2, 0))
	l[0].Cursor = 1
	comes(t, l, "aa", "byby", at(0, 0), at(1, 2), at(2, 0), at(3, 2))
	l[0].Cursor = 0
	comes(t, l, "aa", "xyxy", at(0, 0), at(0, 1), at(1, 2), at(2, 0), at(2, 1), at(3, 2))
	comes(t, rules(cursor(plain("a", "bcd"), 2)), "za", "zbcd", at(0, -1), at(1, 0), at(3, -1))
	comes(t, rules(cursor(plain("abc", "ab"), 0), plain("ab", "x")), "abcc", "x", at(0, 0), at(0, 0), at(0, 1))
	comes(t, rules(plain("ab", "")), "aabb", "ab", at(0, -1), at(1, 0), at(1, -1))
}

// TestTheFirstRuleThatMatches: the first of those that match is taken, whichever sets they begin with.
func TestTheFirstRuleThatMatches(t *testing.T) {
	wide := func(r rune) api.Rule { return api.Rule{Source: list(every), Target: []rune{r}, Cursor: 1} }
	l := rules(rule("q", "a", "", "1"), plain("abc", "2"), wide('3'), plain("a", "4"), wide('5'))
	comes(t, l, "abc", "2", at(0, 1))
	comes(t, l, "aqa", "333", at(0, 2), at(1, 2), at(2, 2))
	comes(t, rules(l[1], l[0], l[3]), "aqa", "4q1", at(0, 2), at(1, -1), at(2, 1))
	comes(t, l[3:], "ab", "45", at(0, 0), at(1, 1))
	comes(t, rules(l[0], l[3], l[2]), "ba", "34", at(0, 2), at(1, 1))
	comes(t, rules(wide('q'), l[0]), "aa", "qq", at(0, 0), at(1, 0))
	comes(t, append(many(199), plain("a", "x")), "ab", "xy", at(0, 199), at(1, 0))
}

// link is the n-th letter of a chain.
func link(n int) string { return string(rune(1000 + n)) }

// chain is n rules, each of which makes the next letter of a chain, the cursor ahead of it: for the first letter they take n steps, and one more goes on.
func chain(n int) []api.Rule {
	var l []api.Rule
	for k := range n {
		l = append(l, cursor(plain(link(k), link(k+1)), 0))
	}
	return l
}

// chained are the steps of chain(n), where the first letter is at that place.
func chained(n, place int) []api.Shot {
	var l []api.Shot
	for k := range n {
		l = append(l, at(place, k))
	}
	return append(l, at(place, -1))
}

func TestSteps(t *testing.T) {
	for _, x := range []struct{ rest, most int }{{0, 48}, {1, 56}, {2, 64}, {7, 104}, {15, 168}} {
		rest := letters(x.rest)
		for n := x.most - x.rest - 4; n < x.most-x.rest; n++ {
			comes(t, chain(n), link(0)+rest, link(n)+rest, append(chained(n, 0), on(1, 1+x.rest, -1)...)...)
			comes(t, chain(n), rest+link(0), rest+link(n), append(on(0, x.rest, -1), chained(n, x.rest)...)...)
		}
		for n := x.most - x.rest; n < x.most-x.rest+4; n++ {
			refuses(t, chain(n), []rune(link(0)+rest), fault(api.ErrSteps, 0))
			refuses(t, chain(n), []rune(rest+link(0)), fault(api.ErrSteps, 0))
		}
	}
	// Runes that came of others give no more steps, and those that went take none away.
	twice := cursor(plain("_", link(0)+link(0)), 0)
	comes(t, append(chain(22), twice), "_", link(22)+link(22), slices.Concat([]api.Shot{at(0, 22)}, chained(22, 0), chained(22, 1))...)
	refuses(t, append(chain(23), twice), []rune("_"), fault(api.ErrSteps, 0))
	comes(t, append(chain(54), plain("_", "")), "_"+link(0), link(54), append([]api.Shot{at(0, 54)}, chained(54, 0)...)...)
	refuses(t, append(chain(55), plain("_", "")), []rune("_"+link(0)), fault(api.ErrSteps, 0))
}

// TestEnds: what would never end ends, too.
func TestEnds(t *testing.T) {
	stays := rules(cursor(plain("a", "a"), 0))
	turns := rules(cursor(plain("a", "b"), 0), cursor(plain("b", "a"), 0))
	for _, s := range []string{"a", "ba", letters(100), letters(4000)} {
		refuses(t, stays, []rune(s), fault(api.ErrSteps, 0))
		refuses(t, turns, []rune(s), fault(api.ErrSteps, 0))
	}
	comes(t, stays, "bbb", "bbb", on(0, 3, -1)...)
	comes(t, stays, "", "")
}

func TestMuch(t *testing.T) {
	double := rules(plain("a", "aa"))
	var shots []api.Shot
	for k := range 2000 {
		shots = append(shots, at(2*k, 0))
	}
	comes(t, double, letters(2000), letters(4000), shots...)
	refuses(t, double, []rune(letters(2001)), fault(api.ErrMuch, 0))
	comes(t, rules(plain("aa", "xy")), letters(4000), strings.Repeat("xy", 2000), shots...)
	comes(t, nil, letters(4000), letters(4000), on(0, 4000, -1)...)
	comes(t, rules(plain("a", "b")), letters(4000), strings.Repeat("b", 4000), on(0, 4000, 0)...)
	// It is too much at each step, not only in the end.
	l := rules(plain("b", ""), plain("c", "xx"))
	comes(t, l, "bc"+letters(3998), "xx"+letters(3998), slices.Concat([]api.Shot{at(0, 0), at(0, 1)}, on(2, 4000, -1))...)
	refuses(t, l, []rune("cb"+letters(3998)), fault(api.ErrMuch, 0))
	// Where a text grows by one each step steps end first, if it has 440 runes, and just then it is full; room ends first, if it has more.
	grows := rules(cursor(plain("a", "aa"), 0))
	refuses(t, grows, []rune(letters(439)), fault(api.ErrSteps, 0))
	refuses(t, grows, []rune(letters(440)), fault(api.ErrSteps, 0))
	refuses(t, grows, []rune(letters(441)), fault(api.ErrMuch, 0))
}

// badTexts are texts with which something is wrong.
var badTexts = []struct {
	text []rune
	err  api.Errno
}{
	{[]rune(letters(4001)), api.ErrMuch},
	{append([]rune(letters(4000)), -1), api.ErrMuch},
	{append([]rune(letters(3999)), -1), api.ErrRange},
	{[]rune{math.MinInt32}, api.ErrRange},
	{[]rune{-1}, api.ErrRange},
	{[]rune{'b', 55296}, api.ErrRange},
	{[]rune{57343, 'b'}, api.ErrRange},
	{[]rune{'b', api.MaxRune + 1, 'b'}, api.ErrRange},
	{[]rune{math.MaxInt32}, api.ErrRange},
}

func TestWhatIsWrongWithRulesIsToldFirst(t *testing.T) {
	texts := [][]rune{nil, []rune("bbb")}
	for _, x := range badTexts {
		texts = append(texts, x.text)
	}
	for _, x := range wrongs {
		for _, text := range texts {
			refuses(t, rules(x.r), text, fault(x.err, 0))
			refuses(t, rules(plain("q", ""), cursor(plain("b", "b"), 0), x.r, api.Rule{}), text, fault(x.err, 2))
			refuses(t, append(many(200), x.r), text, fault(api.ErrMany, 0))
			refuses(t, append(scattered(1, 199), x.r), text, fault(x.err, 199))
		}
	}
	for _, text := range texts {
		refuses(t, many(201), text, fault(api.ErrMany, 0))
		refuses(t, make([]api.Rule, 1000), text, fault(api.ErrMany, 0))
	}
	// Ahead of too many heads, too: wide alone makes 401.
	wide := api.Rule{Source: list(nil)}
	for k := range rune(200) {
		wide.Source[0] = append(wide.Source[0], span(4*k+2, 4*k+2))
	}
	l := rules(plain("a", "x"), wide, api.Rule{})
	refuses(t, l, []rune{-1}, fault(api.ErrNone, 2))
	refuses(t, l[:2], []rune{-1}, fault(api.ErrRange, 0))
	refuses(t, l[:2], []rune("a"), fault(api.ErrMany, 0))
	refuses(t, l[1:2], []rune("a"), fault(api.ErrMany, 0))
}

func TestWhatIsWrongWithTheTextIsToldNext(t *testing.T) {
	loop := rules(cursor(plain("b", "b"), 0))
	for _, l := range [][]api.Rule{nil, {}, many(1), many(200), loop, scattered(1, 199), scattered(1, 200)} {
		for _, x := range badTexts {
			refuses(t, l, x.text, fault(x.err, 0))
		}
	}
}

func TestTooManyHeads(t *testing.T) {
	// 401 heads, whether a rule would match or not; then rules never play.
	for _, text := range []string{"", "a", "\x01", letters(4000)} {
		refuses(t, scattered(1, 200), []rune(text), fault(api.ErrMany, 0))
	}
	loop := scattered(1, 200)
	loop[0].Cursor = 0
	loop[0].Target = []rune{1}
	refuses(t, loop, []rune{1}, fault(api.ErrMany, 0))
	refuses(t, loop[:199], []rune{1}, fault(api.ErrSteps, 0))
	// 400, for one of them begins at 0, and 399.
	comes(t, scattered(0, 200), "\x00\x01", "!\x01", at(0, 0), at(1, -1))
	comes(t, scattered(0, 200), string(rune(3*199))+"c", "!!", at(0, 199), at(1, 33))
	comes(t, scattered(1, 199), "a\x00", "!\x00", at(0, 32), at(1, -1))
	comes(t, scattered(1, 199), "", "")
	// Run doesn't mind how many heads there are, but Play does.
	if out, f := run.Run(scattered(1, 200), []rune("a")); string(out.Text) != "!" || f != (api.Fault{}) {
		t.Errorf("Run: %v, %v", out, f)
	}
}

// texts are all of a and b, up to that many runes.
func texts(most int) []string {
	l := []string{""}
	for from := 0; len(l[from]) < most; from++ {
		l = append(l, l[from]+"a", l[from]+"b")
	}
	return l
}

// compare holds Play and Trace against the oracle, and against run.Run; it tells what comes of it.
func compare(t *testing.T, l []api.Rule, text string) api.Errno {
	t.Helper()
	o := newOracle([]rune(text))
	err := o.play(l)
	out, f := run.Run(l, []rune(text))
	if err != api.OK {
		refuses(t, l, []rune(text), fault(err, 0))
		if f != fault(err, 0) {
			t.Errorf("Run(%v, %q): %v, not %d", l, text, f, err)
		}
		return err
	}
	comes(t, l, text, string(o.ahead[1:]), o.shots...)
	if string(out.Text) != string(o.ahead[1:]) || out.Steps != len(o.shots) || out.Put != o.put || f != (api.Fault{}) {
		t.Errorf("Run(%v, %q): %v, %v, not %q, %d, %d", l, text, out, f, string(o.ahead[1:]), len(o.shots), o.put)
	}
	return err
}

// small are rules of few runes of all kinds.
func small() []api.Rule {
	var l []api.Rule
	for _, source := range []string{"a", "b", "ab", "bb"} {
		for _, target := range []string{"", "a", "bb", "aba"} {
			for at := range len(target) + 1 {
				r := cursor(plain(source, target), at)
				l = append(l, r, starting(r), ending(r))
				r.Before = each("b")
				l = append(l, r)
				r.Before, r.After = nil, list(every)
				l = append(l, r)
			}
		}
	}
	return l
}

// TestAnotherWay holds all pairs of small rules against oracle_test.go, over all short texts of two letters.
func TestAnotherWay(t *testing.T) {
	n := map[api.Errno]int{}
	some, all := small(), texts(3)
	for i, r := range some {
		for j, s := range some {
			for k, text := range all {
				// Not all pairs with all texts, lest it take long.
				if (i+j+k)%3 == 0 {
					n[compare(t, rules(r, s), text)]++
				}
			}
		}
	}
	if n[api.OK] < 10000 || n[api.ErrSteps] < 1000 {
		t.Errorf("of each kind: %v", n)
	}
}

// TestAnotherWayLong does so with more rules, of more letters, over longer texts.
func TestAnotherWayLong(t *testing.T) {
	seed := 1
	next := func(below int) int {
		seed = (seed*1103515245 + 12345) & (1<<31 - 1)
		return (seed >> 8) % below
	}
	alphabet := []rune{0, 'a', 'b', 0xe9, 55295, 57344, api.MaxRune}
	word := func(least, most int) []rune {
		var l []rune
		for range least + next(most-least+1) {
			l = append(l, alphabet[next(len(alphabet))])
		}
		return l
	}
	around := func(l []rune) [][]api.Span {
		var out [][]api.Span
		for _, r := range l {
			out = append(out, set(span(max(0, r-rune(next(3))), min(api.MaxRune, r+rune(next(3))))))
		}
		return out
	}
	n := map[api.Errno]int{}
	for round := range 1500 {
		var l []api.Rule
		for range next(9) {
			r := api.Rule{Start: next(9) == 0, End: next(9) == 0, Before: around(word(0, next(3))), Source: around(word(1, 2)), After: around(word(0, next(3))), Target: word(0, 4)}
			r.Cursor = len(r.Target)
			if next(2) == 0 {
				r.Cursor = next(len(r.Target) + 1)
			}
			l = append(l, r)
		}
		most := 60
		if round%10 == 0 {
			most = 4000
		}
		n[compare(t, l, string(word(0, most)))]++
	}
	if n[api.OK] < 500 || n[api.ErrSteps] < 50 || n[api.ErrMuch] < 5 {
		t.Errorf("of each kind: %v", n)
	}
}

// TestStepByStep: what Trace tells is what run.Which does, and match.Put makes of it what Play tells.
func TestStepByStep(t *testing.T) {
	some := small()
	for i := range some {
		l := rules(some[i], some[(i*7+3)%len(some)], some[(i*11+5)%len(some)])
		for _, s := range texts(4) {
			out, f := Play(l, []rune(s))
			shots, g := Trace(l, []rune(s))
			if f != g {
				t.Errorf("%v, %q: Play tells %v, Trace %v", l, s, f, g)
			}
			if f.Err != api.OK {
				continue
			}
			text, cursor := []rune(s), 0
			for n, shot := range shots {
				if k, _ := run.Which(l, text, cursor); shot.At != cursor || shot.Rule != k {
					t.Fatalf("%v, %q: step %d is %v, not at %d by %d", l, s, n, shot, cursor, k)
				}
				if shot.Rule < 0 {
					cursor++
				} else {
					text, cursor, _, _ = match.Put(l[shot.Rule], text, cursor)
				}
			}
			if string(out.Text) != string(text) || cursor != len(text) {
				t.Errorf("%v, %q: %q, not %q, and at %d in the end", l, s, string(out.Text), string(text), cursor)
			}
		}
	}
}

// The machine is a text: what is asked of one is asked of it.
var _ match.View = &machine{}

// TestOnlyWhatMayBegin: a machine whose heads leave a rule out does without it.
func TestOnlyWhatMayBegin(t *testing.T) {
	l := rules(plain("a", "x"), plain("b", "y"))
	m, f := compiled(l).on([]rune("ab"))
	if f != (api.Fault{}) {
		t.Fatal(f)
	}
	m.heads, _ = compile.Compile(l[:1])
	if err := m.play(func(api.Shot) {}); err != api.OK || string(m.Runes()) != "xb" {
		t.Errorf("%d, %q", err, string(m.Runes()))
	}
}

// TestReady: rules that play over one text after the other make of each what they make of it alone, whatever came before, and what was answered stays.
func TestReady(t *testing.T) {
	texts := [][]rune{[]rune("aab"), nil, {55296}, []rune("b"), []rune("cc"), make([]rune, 4001), []rune(letters(4000)), {}, {-1}, []rune("ab"), []rune("aab")}
	for _, l := range [][]api.Rule{
		nil,
		rules(rule("", "a", "b", "xy"), plain("b", "")),
		rules(starting(plain("a", "x")), ending(cursor(plain("b", "xx"), 0))),
		rules(plain("a", "aa"), cursor(plain("c", "c"), 0)),
		rules(plain("a", "b"), api.Rule{}),
		scattered(1, 200),
		many(201),
	} {
		play := Ready(l)
		var told []api.Out
		for _, text := range texts {
			got, f := play(text)
			want, g := Play(l, text)
			if !reflect.DeepEqual(got, want) || f != g {
				t.Errorf("%d rules, %d runes: %v, %v, not %v, %v", len(l), len(text), got, f, want, g)
			}
			told = append(told, got)
		}
		for k, text := range texts {
			if want, _ := Play(l, text); !reflect.DeepEqual(told[k], want) {
				t.Errorf("%d rules, %d runes: it has become %v", len(l), len(text), told[k])
			}
		}
	}
}

// Z2

// roomy is rules and a text whose lists all have spare room, and there something that is wrong, or would match.
func roomy() ([]api.Rule, []rune) {
	spans := func(r rune) []api.Span { return set(span(r, r), span(-9, -10))[:1] }
	sets := func(l ...[]api.Span) [][]api.Span { return append(l, set(span(5, 4)))[:len(l)] }
	r := api.Rule{Before: sets(spans('a')), Source: sets(spans('b')), After: sets(spans('c')), Target: []rune{'x', 'y', -1}[:2], Cursor: 2}
	s := api.Rule{Source: sets(spans('c'), spans('d')), Target: []rune{'z', -1}[:1]}
	return rules(r, s, api.Rule{})[:2], []rune{'a', 'b', 'c', 'd', 'b', -1, -2, -3}[:5]
}

// whole is all that rules and a text have, spare room and all.
func whole(rules []api.Rule, text []rune) []any {
	out := []any{slices.Clone(text[:cap(text)])}
	for _, r := range rules[:cap(rules)] {
		out = append(out, slices.Clone(r.Target[:cap(r.Target)]), r.Cursor, r.Start, r.End)
		for _, l := range [][][]api.Span{r.Before, r.Source, r.After} {
			for _, s := range l[:cap(l)] {
				out = append(out, slices.Clone(s[:cap(s)]))
			}
		}
	}
	return out
}

func TestWhatIsHandedInIsOnlyRead(t *testing.T) {
	l, text := roomy()
	want := whole(l, text)
	steps := []api.Shot{at(0, -1), at(1, 0), at(3, 1), at(3, -1), at(4, -1)}
	for range 2 {
		out, f := Play(l, text)
		if string(out.Text) != "axyzb" || out.Steps != 5 || out.Put != 2 || f != (api.Fault{}) {
			t.Errorf("Play: %q, %d, %d, %v", string(out.Text), out.Steps, out.Put, f)
		}
		shots, f := Trace(l, text)
		if !slices.Equal(shots, steps) || f != (api.Fault{}) {
			t.Errorf("Trace: %v, %v", shots, f)
		}
		if !reflect.DeepEqual(whole(l, text), want) {
			t.Errorf("%v, not %v", whole(l, text), want)
		}
		for i := range out.Text[:cap(out.Text)] {
			out.Text[:cap(out.Text)][i] = -7
		}
		clear(shots[:cap(shots)])
		if !reflect.DeepEqual(whole(l, text), want) {
			t.Errorf("the answer shares memory: %v, not %v", whole(l, text), want)
		}
	}
	out, _ := Play(l, text)
	shots, _ := Trace(l, text)
	clear(text[:cap(text)])
	clear(l[0].Target[:cap(l[0].Target)])
	clear(l[1].Target[:cap(l[1].Target)])
	clear(l[:cap(l)])
	if string(out.Text) != "axyzb" || !slices.Equal(shots, steps) {
		t.Errorf("the answers have become %q and %v", string(out.Text), shots)
	}
}

// A text over which no rule matches is new memory, too.
func TestWhatStaysIsNew(t *testing.T) {
	text := append(make([]rune, 0, 9), 'a', 'b')
	for _, l := range [][]api.Rule{nil, rules(plain("c", "x")), rules(plain("b", "x"))} {
		out, _ := Play(l, text)
		clear(out.Text[:cap(out.Text)])
		if !slices.Equal(text[:9], []rune{'a', 'b', 0, 0, 0, 0, 0, 0, 0}) {
			t.Errorf("the text has become %v", text[:9])
		}
	}
}

// What stands in the text's spare room is not there.
func TestSpareRoomIsNotLookedAt(t *testing.T) {
	text := []rune("abc")
	for n := range 3 {
		out, f := Play(rules(plain("abc", "x"), rule("", "a", "bc", "x")), text[:n])
		if !slices.Equal(out.Text, text[:n]) || out.Steps != n || out.Put != 0 || f != (api.Fault{}) {
			t.Errorf("%v, %v", out, f)
		}
	}
	out, f := Play(rules(ending(plain("a", "xyz"))), text[:1])
	if string(out.Text) != "xyz" || f != (api.Fault{}) || string(text) != "abc" {
		t.Errorf("%v, %v; the text has become %q", out, f, string(text))
	}
}

// Z3

func TestNilAndNoEntries(t *testing.T) {
	r := api.Rule{Before: list(), Source: each("a"), After: list(), Target: []rune{}}
	comes(t, rules(r), "aba", "b", at(0, 0), at(0, -1), at(1, 0))
	for _, l := range [][]api.Rule{nil, {}, rules(r)} {
		for _, text := range [][]rune{nil, {}} {
			out, f := Play(l, text)
			if len(out.Text) != 0 || out.Steps != 0 || out.Put != 0 || f != (api.Fault{}) {
				t.Errorf("Play(%v, %v): %v, %v", l, text, out, f)
			}
			if shots, f := Trace(l, text); len(shots) != 0 || f != (api.Fault{}) {
				t.Errorf("Trace(%v, %v): %v, %v", l, text, shots, f)
			}
		}
	}
}
