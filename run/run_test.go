package run

import (
	"math"
	"reflect"
	"slices"
	"strings"
	"testing"

	"scriptshift/api"
	"scriptshift/match"
)

func span(low, high rune) api.Span { return api.Span{Low: low, High: high} }

func set(l ...api.Span) []api.Span { return l }

// each is a set of its own for each rune.
func each(s string) [][]api.Span {
	var l [][]api.Span
	for _, r := range s {
		l = append(l, set(span(r, r)))
	}
	return l
}

func list(l ...[]api.Span) [][]api.Span { return l }

// rule has its cursor behind its target.
func rule(before, source, after, target string) api.Rule {
	t := []rune(target)
	return api.Rule{Before: each(before), Source: each(source), After: each(after), Target: t, Cursor: len(t)}
}

func plain(source, target string) api.Rule { return rule("", source, "", target) }

func starting(r api.Rule) api.Rule {
	r.Start = true
	return r
}

func ending(r api.Rule) api.Rule {
	r.End = true
	return r
}

func cursor(r api.Rule, at int) api.Rule {
	r.Cursor = at
	return r
}

func rules(l ...api.Rule) []api.Rule { return l }

func letters(n int) string { return strings.Repeat("a", n) }

func fault(err api.Errno, at int) api.Fault { return api.Fault{Err: err, At: at} }

var every = set(span(0, api.MaxRune))

// comes is what Run tells, where nothing is wrong.
func comes(t *testing.T, l []api.Rule, text, want string, steps, put int) {
	t.Helper()
	got, f := Run(l, []rune(text))
	if string(got.Text) != want || got.Steps != steps || got.Put != put || f != (api.Fault{}) {
		t.Errorf("Run(%v, %.60q): %.60q, %d, %d, %v, not %.60q, %d, %d", l[:min(3, len(l))], text, string(got.Text), got.Steps, got.Put, f, want, steps, put)
	}
}

// refuses is that Run tells that fault, and zero values beside it.
func refuses(t *testing.T, l []api.Rule, text []rune, want api.Fault) {
	t.Helper()
	got, f := Run(l, text)
	if len(got.Text) != 0 || got.Steps != 0 || got.Put != 0 || f != want {
		t.Errorf("Run(%d rules, %d runes): %d runes, %d, %d, %v, not zero values and %v", len(l), len(text), len(got.Text), got.Steps, got.Put, f, want)
	}
}

// is is that Which tells that rule, where nothing is wrong.
func is(t *testing.T, l []api.Rule, text string, at, want int) {
	t.Helper()
	if got, f := Which(l, []rune(text), at); got != want || f != (api.Fault{}) {
		t.Errorf("Which(%v, %q, %d): %d, %v, not %d", l, text, at, got, f, want)
	}
}

// isNot is that Which tells that fault, and 0 beside it.
func isNot(t *testing.T, l []api.Rule, text []rune, at int, want api.Fault) {
	t.Helper()
	if got, f := Which(l, text, at); got != 0 || f != want {
		t.Errorf("Which(%d rules, %d runes, %d): %d, %v, not 0, %v", len(l), len(text), at, got, f, want)
	}
}

// wrongs are rules with which something is wrong, and two that are right.
var wrongs = []struct {
	r   api.Rule
	err api.Errno
}{
	{api.Rule{}, api.ErrNone},
	{rule("a", "", "b", "c"), api.ErrNone},
	{plain(letters(21), ""), api.ErrMany},
	{rule(letters(21), "a", "", ""), api.ErrMany},
	{rule("", "a", letters(21), ""), api.ErrMany},
	{plain("a", letters(21)), api.ErrMany},
	{cursor(plain("a", "xy"), 3), api.ErrRange},
	{cursor(plain("a", "xy"), -1), api.ErrRange},
	{plain("a", "xy\x00"), api.OK},
	{api.Rule{Source: each("a"), Target: []rune{55296}}, api.ErrRange},
	{api.Rule{Source: list(set(span(5, 4)))}, api.ErrRange},
	{api.Rule{Source: list(set(span(1, 2), span(3, 4)))}, api.ErrForm},
	{api.Rule{Before: list(set(span(-1, 4))), Source: each("a")}, api.ErrRange},
	{api.Rule{Source: each("a"), After: list(set(span(5, 6), span(1, 2)))}, api.ErrForm},
	{api.Rule{Source: list(nil)}, api.OK},
}

// many are n rules that are right.
func many(n int) []api.Rule {
	l := make([]api.Rule, n)
	for k := range l {
		l[k] = plain("b", "y")
	}
	return l
}

// H1

func TestWrong(t *testing.T) {
	for n := range 4 {
		if f := Wrong(many(n)); f != (api.Fault{}) {
			t.Errorf("%d rules: %v", n, f)
		}
	}
	for _, x := range wrongs {
		for _, n := range []int{1, 2, 5, 200} {
			for k := range n {
				l := many(n)
				l[k] = x.r
				want := api.Fault{}
				if x.err != api.OK {
					want = fault(x.err, k)
				}
				if f := Wrong(l); f != want {
					t.Errorf("Wrong of %v at %d of %d: %v, not %v", x.r, k, n, f, want)
				}
			}
		}
	}
}

func TestWrongTellsTheFirst(t *testing.T) {
	for _, x := range wrongs {
		for _, y := range wrongs {
			want := api.Fault{}
			switch {
			case x.err != api.OK:
				want = fault(x.err, 1)
			case y.err != api.OK:
				want = fault(y.err, 2)
			}
			if f := Wrong(rules(plain("b", "y"), x.r, y.r)); f != want {
				t.Errorf("Wrong of %v and %v: %v, not %v", x.r, y.r, f, want)
			}
		}
	}
}

func TestWrongMany(t *testing.T) {
	for _, n := range []int{201, 202, 1000} {
		if f := Wrong(many(n)); f != fault(api.ErrMany, 0) {
			t.Errorf("%d rules: %v", n, f)
		}
		// How many there are is told ahead of what is wrong with them.
		if f := Wrong(make([]api.Rule, n)); f != fault(api.ErrMany, 0) {
			t.Errorf("%d wrong rules: %v", n, f)
		}
	}
	if f := Wrong(many(200)); f != (api.Fault{}) {
		t.Errorf("200 rules: %v", f)
	}
	if f := Wrong(make([]api.Rule, 200)); f != fault(api.ErrNone, 0) {
		t.Errorf("200 wrong rules: %v", f)
	}
}

func TestWhich(t *testing.T) {
	l := rules(plain("ab", "x"), plain("a", "y"), rule("b", "c", "", "z"), plain("c", ""), plain("a", "never"), plain("c", "never"))
	is(t, l, "ab", 0, 0)
	is(t, l, "ab", 1, -1)
	is(t, l, "ab", 2, -1)
	is(t, l, "aab", 0, 1)
	is(t, l, "aab", 1, 0)
	is(t, l, "bc", 1, 2)
	is(t, l, "c", 0, 3)
	is(t, l, "cc", 1, 3)
	is(t, l, "", 0, -1)
	is(t, nil, "", 0, -1)
	is(t, nil, "a", 0, -1)
	is(t, nil, "a", 1, -1)
	// The order of the rules is what counts.
	is(t, rules(l[1], l[0]), "ab", 0, 0)
	is(t, rules(l[0], l[1]), "ac", 0, 1)
	// Start and End look at the whole text.
	l = rules(starting(plain("a", "")), ending(plain("a", "")), plain("a", ""))
	is(t, l, "aaa", 0, 0)
	is(t, l, "aaa", 1, 2)
	is(t, l, "aaa", 2, 1)
	is(t, l, "aaa", 3, -1)
	is(t, l, "a", 0, 0)
	// Nobody minds what comes of it.
	is(t, rules(plain("a", "xyz")), letters(4000), 3999, 0)
	is(t, append(many(199), plain("a", "")), "ba", 1, 199)
}

func TestWhichRefuses(t *testing.T) {
	right, text := many(1), []rune("ab")
	for _, at := range []int{math.MinInt, -1, 3, math.MaxInt} {
		isNot(t, right, text, at, fault(api.ErrRange, 0))
		isNot(t, nil, text, at, fault(api.ErrRange, 0))
		// Rules ahead of texts, texts ahead of places.
		isNot(t, make([]api.Rule, 201), text, at, fault(api.ErrMany, 0))
		isNot(t, rules(right[0], api.Rule{}), text, at, fault(api.ErrNone, 1))
		isNot(t, right, []rune(letters(4001)), at, fault(api.ErrMuch, 0))
	}
	isNot(t, right, nil, 1, fault(api.ErrRange, 0))
	isNot(t, right, nil, -1, fault(api.ErrRange, 0))
	isNot(t, right, []rune(letters(4001)), 0, fault(api.ErrMuch, 0))
	isNot(t, right, []rune(letters(4001)), 4001, fault(api.ErrMuch, 0))
	isNot(t, right, []rune{'b', -1}, 0, fault(api.ErrRange, 0))
	isNot(t, right, []rune{'b', 57343}, 2, fault(api.ErrRange, 0))
	isNot(t, rules(right[0], right[0], api.Rule{}), []rune{-1}, 0, fault(api.ErrNone, 2))
	isNot(t, rules(right[0], api.Rule{}), []rune(letters(4001)), 0, fault(api.ErrNone, 1))
	isNot(t, many(201), []rune{-1}, 0, fault(api.ErrMany, 0))
}

// H2

func TestRun(t *testing.T) {
	// The document's example 8.
	l := rules(plain("ab", "x"), plain("a", "y"))
	comes(t, l, "aba", "xy", 2, 2)
	comes(t, rules(l[1], l[0]), "aba", "yby", 3, 2)
	comes(t, l, "", "", 0, 0)
	comes(t, l, "zz", "zz", 2, 0)
	comes(t, nil, "abc", "abc", 3, 0)
	comes(t, nil, "", "", 0, 0)
	comes(t, rules(plain("ä", "ae"), plain("ü", "ue")), "grün, lärm", "gruen, laerm", 10, 2)
	// What goes leaves the cursor where it is.
	comes(t, rules(plain("a", "")), "aabaa", "b", 5, 4)
	comes(t, rules(plain("b", "")), "abba", "aa", 4, 2)
	// What came isn't looked at again, ..
	comes(t, rules(plain("a", "aa")), "aba", "aabaa", 3, 2)
	comes(t, rules(plain("a", "b"), plain("b", "a")), "abba", "baab", 4, 4)
	// .. but by what follows: Before looks at what is there by then, After at what is there yet.
	comes(t, rules(rule("x", "a", "", "x")), "xaaa", "xxxx", 4, 3)
	comes(t, rules(rule("a", "a", "", "b")), "aaaa", "abab", 4, 2)
	comes(t, rules(rule("", "a", "a", "b")), "aaaa", "bbba", 4, 3)
	comes(t, rules(rule("b", "a", "", "")), "baaab", "bb", 5, 3)
	// Start and End are those of the text as it is by then.
	comes(t, rules(starting(plain("a", ""))), "aaba", "ba", 4, 2)
	comes(t, rules(starting(plain("a", "x"))), "aaba", "xaba", 4, 1)
	comes(t, rules(ending(plain("a", ""))), "baa", "ba", 3, 1)
	comes(t, rules(rule("", "a", "b", "")), "aab", "ab", 3, 1)
}

func TestRunCursor(t *testing.T) {
	// What came, and the cursor ahead of it, is looked at again.
	comes(t, rules(cursor(plain("bb", "b"), 0)), "abbbbc", "abc", 6, 3)
	comes(t, rules(cursor(plain("a", "bc"), 0), plain("b", "x"), plain("c", "y")), "aa", "xyxy", 6, 6)
	comes(t, rules(cursor(plain("a", "bc"), 1), plain("b", "x"), plain("c", "y")), "aa", "byby", 4, 4)
	comes(t, rules(plain("a", "bc"), plain("b", "x"), plain("c", "y")), "aa", "bcbc", 2, 2)
	comes(t, rules(cursor(plain("a", "bcd"), 2)), "zaz", "zbcdz", 4, 1)
	// The cursor may come into what stood there, where Target is less than Source.
	comes(t, rules(cursor(plain("abc", "ab"), 0), plain("ab", "x")), "abcc", "x", 3, 3)
	comes(t, rules(cursor(plain("ab", ""), 0)), "aabbab", "ab", 4, 2)
}

// link is the n-th letter of a chain.
func link(n int) string { return string(rune(1000 + n)) }

// chain is n rules, each of which makes the next letter of a chain, the cursor ahead of it: for the first letter they take n steps, and one more goes on.
func chain(n int) []api.Rule {
	var l []api.Rule
	for k := range n {
		l = append(l, cursor(plain(link(k), link(k+1)), 0))
	}
	return l
}

func TestRunSteps(t *testing.T) {
	for _, x := range []struct{ rest, most int }{{0, 48}, {1, 56}, {2, 64}, {7, 104}, {15, 168}} {
		rest := letters(x.rest)
		for n := x.most - x.rest - 4; n < x.most-x.rest; n++ {
			comes(t, chain(n), link(0)+rest, link(n)+rest, n+1+x.rest, n)
			comes(t, chain(n), rest+link(0), rest+link(n), n+1+x.rest, n)
		}
		for n := x.most - x.rest; n < x.most-x.rest+4; n++ {
			refuses(t, chain(n), []rune(link(0)+rest), fault(api.ErrSteps, 0))
			refuses(t, chain(n), []rune(rest+link(0)), fault(api.ErrSteps, 0))
		}
	}
	// The last step may be one that puts nothing in Source's place.
	comes(t, append(chain(47), plain(link(47), "")), link(0), "", 48, 48)
	refuses(t, append(chain(48), plain(link(48), "")), []rune(link(0)), fault(api.ErrSteps, 0))
	// Runes that came of others give no more steps, and those that went take none away.
	l := append(chain(23), cursor(plain("_", link(0)+link(0)), 0))
	refuses(t, l, []rune("_"), fault(api.ErrSteps, 0))
	comes(t, append(chain(22), l[23]), "_", link(22)+link(22), 47, 45)
	comes(t, append(chain(54), plain("_", "")), "_"+link(0), link(54), 56, 55)
	refuses(t, append(chain(55), plain("_", "")), []rune("_"+link(0)), fault(api.ErrSteps, 0))
}

func TestRunStepsOfTheLongest(t *testing.T) {
	text := strings.Repeat(link(0), 1000) + letters(2999)
	comes(t, chain(28), text+"a", strings.Repeat(link(28), 1000)+letters(3000), 32000, 28000)
	comes(t, append(chain(28), cursor(plain("_", link(0)), 0)), text+"_", strings.Repeat(link(28), 1000)+letters(2999)+link(28), 32029, 28029)
	more := append(chain(28), cursor(plain("_", link(0)+link(0)), 0))
	refuses(t, more, []rune(text+"_"), fault(api.ErrMuch, 0))
	refuses(t, chain(29), []rune(text+"a"), fault(api.ErrSteps, 0))
}

// TestRunEnds: what would never end ends, too.
func TestRunEnds(t *testing.T) {
	stays := rules(cursor(plain("a", "a"), 0))
	turns := rules(cursor(plain("a", "b"), 0), cursor(plain("b", "a"), 0))
	for _, s := range []string{"a", "ba", letters(100), letters(4000)} {
		refuses(t, stays, []rune(s), fault(api.ErrSteps, 0))
		refuses(t, turns, []rune(s), fault(api.ErrSteps, 0))
	}
	comes(t, stays, "bbb", "bbb", 3, 0)
	comes(t, stays, "", "", 0, 0)
}

func TestRunMuch(t *testing.T) {
	double := rules(plain("a", "aa"))
	comes(t, double, letters(2000), letters(4000), 2000, 2000)
	refuses(t, double, []rune(letters(2001)), fault(api.ErrMuch, 0))
	comes(t, rules(plain("a", letters(20))), letters(200), letters(4000), 200, 200)
	refuses(t, rules(plain("a", letters(20))), []rune(letters(201)), fault(api.ErrMuch, 0))
	// It is too much at each step, not only in the end.
	comes(t, rules(plain("b", ""), plain("c", "xx")), "bc"+letters(3998), "xx"+letters(3998), 4000, 2)
	refuses(t, rules(plain("b", ""), plain("c", "xx")), []rune("cb"+letters(3998)), fault(api.ErrMuch, 0))
	comes(t, rules(plain("aa", "xy")), letters(4000), strings.Repeat("xy", 2000), 2000, 2000)
	comes(t, nil, letters(4000), letters(4000), 4000, 0)
	// Where a text grows by one each step steps end first, if it has 440 runes, and just then it is full; room ends first, if it has more.
	grows := rules(cursor(plain("a", "aa"), 0))
	refuses(t, grows, []rune(letters(440)), fault(api.ErrSteps, 0))
	refuses(t, grows, []rune(letters(439)), fault(api.ErrSteps, 0))
	refuses(t, grows, []rune(letters(441)), fault(api.ErrMuch, 0))
}

func TestRunRefuses(t *testing.T) {
	for _, x := range wrongs {
		if x.err == api.OK {
			continue
		}
		// Rules are told of ahead of texts, whether they would match or not.
		for _, text := range [][]rune{nil, []rune("bbb"), {-1}, []rune(letters(4001))} {
			refuses(t, rules(plain("q", ""), x.r), text, fault(x.err, 1))
			refuses(t, rules(x.r, plain("q", "")), text, fault(x.err, 0))
			refuses(t, rules(plain("q", ""), cursor(plain("b", "b"), 0), x.r), text, fault(x.err, 2))
			refuses(t, append(many(200), x.r), text, fault(api.ErrMany, 0))
		}
	}
	loop := rules(cursor(plain("b", "b"), 0))
	for _, l := range [][]api.Rule{nil, many(1), many(200), loop} {
		refuses(t, l, []rune(letters(4001)), fault(api.ErrMuch, 0))
		refuses(t, l, append([]rune(letters(4000)), -1), fault(api.ErrMuch, 0))
		for _, bad := range []rune{math.MinInt32, -1, 55296, 57343, api.MaxRune + 1, math.MaxInt32} {
			refuses(t, l, []rune{bad}, fault(api.ErrRange, 0))
			refuses(t, l, []rune{'b', bad}, fault(api.ErrRange, 0))
			refuses(t, l, append([]rune(letters(3999)), bad), fault(api.ErrRange, 0))
		}
	}
	comes(t, many(200), "abc", "ayc", 3, 1)
	comes(t, append(many(199), plain("a", "x")), "aa", "xx", 2, 2)
	comes(t, nil, "\x00\ud7ff\ue000\U0010ffff", "\x00\ud7ff\ue000\U0010ffff", 4, 0)
}

// texts are all of a and b, up to that many runes.
func texts(most int) []string {
	l := []string{""}
	for from := 0; len(l[from]) < most; from++ {
		l = append(l, l[from]+"a", l[from]+"b")
	}
	return l
}

// compare holds the rules against the oracle, over a text and at all its places; it tells what comes of them.
func compare(t *testing.T, l []api.Rule, o oracle, text string) api.Errno {
	t.Helper()
	want, steps, put, err := o.run(text)
	if err != api.OK {
		refuses(t, l, []rune(text), fault(err, 0))
	} else {
		comes(t, l, text, want, steps, put)
	}
	for at := range len([]rune(text)) + 1 {
		ahead, behind := split(text, at)
		k, _ := o.which(ahead, behind)
		is(t, l, text, at, k)
	}
	return err
}

// small are rules of few runes of all kinds.
func small() []api.Rule {
	var l []api.Rule
	for _, source := range []string{"a", "b", "ab", "bb"} {
		for _, target := range []string{"", "a", "bb", "aba"} {
			for at := range len(target) + 1 {
				r := cursor(plain(source, target), at)
				l = append(l, r, starting(r), ending(r))
				r.Before = each("b")
				l = append(l, r)
				r.Before, r.After = nil, list(every)
				l = append(l, r)
			}
		}
	}
	return l
}

// TestAnotherWay holds all pairs of small rules against oracle_test.go, over all short texts of two letters.
func TestAnotherWay(t *testing.T) {
	n := map[api.Errno]int{}
	some, all := small(), texts(3)
	for i, r := range some {
		for j, s := range some {
			// Not all pairs with all texts, lest it take long.
			l := rules(r, s)
			o := newOracle(l)
			for k, text := range all {
				if (i+j+k)%3 == 0 {
					n[compare(t, l, o, text)]++
				}
			}
		}
	}
	if n[api.OK] < 10000 || n[api.ErrSteps] < 1000 {
		t.Errorf("of each kind: %v", n)
	}
}

// TestAnotherWayLong does so with more rules, of more letters, over longer texts.
func TestAnotherWayLong(t *testing.T) {
	seed := 1
	next := func(below int) int {
		seed = (seed*1103515245 + 12345) & (1<<31 - 1)
		return (seed >> 8) % below
	}
	alphabet := []rune{0, 'a', 'b', 0xe9, 55295, 57344, api.MaxRune}
	word := func(least, most int) []rune {
		var l []rune
		for range least + next(most-least+1) {
			l = append(l, alphabet[next(len(alphabet))])
		}
		return l
	}
	around := func(l []rune) [][]api.Span {
		var out [][]api.Span
		for _, r := range l {
			out = append(out, set(span(max(0, r-rune(next(3))), min(api.MaxRune, r+rune(next(3))))))
		}
		return out
	}
	n := map[api.Errno]int{}
	for range 1500 {
		var l []api.Rule
		for range next(9) {
			r := api.Rule{Start: next(9) == 0, End: next(9) == 0, Before: around(word(0, next(3))), Source: around(word(1, 2)), After: around(word(0, next(3))), Target: word(0, 4)}
			r.Cursor = len(r.Target)
			if next(2) == 0 {
				r.Cursor = next(len(r.Target) + 1)
			}
			l = append(l, r)
		}
		n[compare(t, l, newOracle(l), string(word(0, 60)))]++
	}
	if n[api.OK] < 500 || n[api.ErrSteps] < 50 {
		t.Errorf("of each kind: %v", n)
	}
}

// TestStepByStep: Run is Which and match.Put, again and again.
func TestStepByStep(t *testing.T) {
	some := small()
	for i := range some {
		l := rules(some[i], some[(i*7+3)%len(some)], some[(i*11+5)%len(some)])
		for _, s := range texts(4) {
			text, at, steps, put := []rune(s), 0, 0, 0
			for at < len(text) && steps < 8*len(s)+40 {
				steps++
				k, _ := Which(l, text, at)
				if k < 0 {
					at++
					continue
				}
				put++
				text, at, _, _ = match.Put(l[k], text, at)
			}
			if at < len(text) {
				refuses(t, l, []rune(s), fault(api.ErrSteps, 0))
			} else {
				comes(t, l, s, string(text), steps, put)
			}
		}
	}
}

// TestWhoGoesOnEndsSoon: where the cursor always comes behind Target there are no more steps than runes.
func TestWhoGoesOnEndsSoon(t *testing.T) {
	for i, r := range small() {
		for j, s := range small() {
			if r.Cursor < len(r.Target) || s.Cursor < len(s.Target) || (i+j)%2 > 0 {
				continue
			}
			for _, text := range texts(4) {
				got, f := Run(rules(r, s), []rune(text))
				if f != (api.Fault{}) || got.Steps > len(text) || got.Put > got.Steps {
					t.Errorf("Run(%v, %v, %q): %v, %v", r, s, text, got, f)
				}
			}
		}
	}
}

// What later layers take

func TestMost(t *testing.T) {
	for n, want := range map[int]int{0: 40, 1: 48, 5: 80, 4000: 32040} {
		if got := Most(n); got != want {
			t.Errorf("Most(%d): %d, not %d", n, got, want)
		}
	}
}

func TestStep(t *testing.T) {
	l := rules(cursor(plain("a", "xy"), 1), plain("b", ""))
	s := State{Text: []rune("cab")}
	for _, want := range []struct {
		rule int
		text string
		at   int
	}{{-1, "cab", 1}, {0, "cxyb", 2}, {-1, "cxyb", 3}, {1, "cxy", 3}} {
		k, err := s.Step(l)
		if k != want.rule || err != api.OK || string(s.Text) != want.text || s.At != want.at {
			t.Errorf("%d, %d: %q at %d, not %v", k, err, string(s.Text), s.At, want)
		}
	}
	s = State{Text: []rune("ba" + letters(3998)), At: 1}
	if k, err := s.Step(rules(l[1], l[0])); k != 0 || err != api.ErrMuch || len(s.Text) != 4000 || s.At != 1 {
		t.Errorf("%d, %d: %d runes, at %d", k, err, len(s.Text), s.At)
	}
}

// Z2

// roomy is rules and a text whose lists all have spare room, and there something that is wrong, or would match.
func roomy() ([]api.Rule, []rune) {
	spans := func(r rune) []api.Span { return set(span(r, r), span(-9, -10))[:1] }
	sets := func(l ...[]api.Span) [][]api.Span { return append(l, set(span(5, 4)))[:len(l)] }
	r := api.Rule{Before: sets(spans('a')), Source: sets(spans('b')), After: sets(spans('c')), Target: []rune{'x', 'y', -1}[:2], Cursor: 2}
	s := api.Rule{Source: sets(spans('c'), spans('d')), Target: []rune{'z', -1}[:1]}
	return rules(r, s, api.Rule{})[:2], []rune{'a', 'b', 'c', 'd', 'b', -1, -2, -3}[:5]
}

// whole is all that rules and a text have, spare room and all.
func whole(rules []api.Rule, text []rune) []any {
	out := []any{slices.Clone(text[:cap(text)])}
	for _, r := range rules[:cap(rules)] {
		out = append(out, slices.Clone(r.Target[:cap(r.Target)]), r.Cursor, r.Start, r.End)
		for _, l := range [][][]api.Span{r.Before, r.Source, r.After} {
			for _, s := range l[:cap(l)] {
				out = append(out, slices.Clone(s[:cap(s)]))
			}
		}
	}
	return out
}

func TestWhatIsHandedInIsOnlyRead(t *testing.T) {
	l, text := roomy()
	want := whole(l, text)
	if f := Wrong(l); f != (api.Fault{}) {
		t.Errorf("Wrong: %v", f)
	}
	for at, k := range []int{-1, 0, 1, -1, -1, -1} {
		if got, f := Which(l, text, at); got != k || f != (api.Fault{}) {
			t.Errorf("Which at %d: %d, %v, not %d", at, got, f, k)
		}
	}
	for range 2 {
		got, f := Run(l, text)
		if string(got.Text) != "axyzb" || got.Steps != 5 || got.Put != 2 || f != (api.Fault{}) {
			t.Errorf("Run: %q, %d, %d, %v", string(got.Text), got.Steps, got.Put, f)
		}
		if !reflect.DeepEqual(whole(l, text), want) {
			t.Errorf("%v, not %v", whole(l, text), want)
		}
		for i := range got.Text[:cap(got.Text)] {
			got.Text[:cap(got.Text)][i] = -7
		}
		if !reflect.DeepEqual(whole(l, text), want) {
			t.Errorf("the answer shares memory: %v, not %v", whole(l, text), want)
		}
	}
	got, _ := Run(l, text)
	clear(text[:cap(text)])
	clear(l[0].Target[:cap(l[0].Target)])
	clear(l[1].Target[:cap(l[1].Target)])
	if string(got.Text) != "axyzb" {
		t.Errorf("the answer has become %q", string(got.Text))
	}
}

// A text over which no rule matches is new memory, too.
func TestWhatStaysIsNew(t *testing.T) {
	text := append(make([]rune, 0, 9), 'a', 'b')
	for _, l := range [][]api.Rule{nil, rules(plain("c", "x")), rules(plain("b", "x"))} {
		got, _ := Run(l, text)
		clear(got.Text[:cap(got.Text)])
		if !slices.Equal(text[:9], []rune{'a', 'b', 0, 0, 0, 0, 0, 0, 0}) {
			t.Errorf("the text has become %v", text[:9])
		}
	}
}

// What stands in the text's spare room is not there.
func TestSpareRoomIsNotLookedAt(t *testing.T) {
	text := []rune("abc")
	for n := range 3 {
		got, f := Run(rules(plain("abc", "x"), rule("", "a", "bc", "x")), text[:n])
		if !slices.Equal(got.Text, text[:n]) || got.Steps != n || got.Put != 0 || f != (api.Fault{}) {
			t.Errorf("%v, %v", got, f)
		}
	}
	got, f := Run(rules(ending(plain("a", "xyz"))), text[:1])
	if string(got.Text) != "xyz" || f != (api.Fault{}) || string(text) != "abc" {
		t.Errorf("%v, %v; the text has become %q", got, f, string(text))
	}
}

// Z3

func TestNilAndNoEntries(t *testing.T) {
	r := api.Rule{Before: list(), Source: each("a"), After: list(), Target: []rune{}}
	comes(t, rules(r), "aba", "b", 3, 2)
	for _, l := range [][]api.Rule{nil, {}, rules(r)} {
		if f := Wrong(l); f != (api.Fault{}) {
			t.Errorf("Wrong(%v): %v", l, f)
		}
		for _, text := range [][]rune{nil, {}} {
			got, f := Run(l, text)
			if len(got.Text) != 0 || got.Steps != 0 || got.Put != 0 || f != (api.Fault{}) {
				t.Errorf("Run(%v, %v): %v, %v", l, text, got, f)
			}
			if k, f := Which(l, text, 0); k != -1 || f != (api.Fault{}) {
				t.Errorf("Which(%v, %v, 0): %d, %v", l, text, k, f)
			}
			isNot(t, l, text, 1, fault(api.ErrRange, 0))
		}
	}
}
