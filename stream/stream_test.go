package stream

import (
	"math"
	"reflect"
	"slices"
	"strings"
	"testing"

	"scriptshift/api"
	"scriptshift/run"
)

func span(low, high rune) api.Span { return api.Span{Low: low, High: high} }

func set(l ...api.Span) []api.Span { return l }

// each is a set of its own for each rune.
func each(s string) [][]api.Span {
	var l [][]api.Span
	for _, r := range s {
		l = append(l, set(span(r, r)))
	}
	return l
}

func list(l ...[]api.Span) [][]api.Span { return l }

// rule has its cursor behind its target.
func rule(before, source, after, target string) api.Rule {
	t := []rune(target)
	return api.Rule{Before: each(before), Source: each(source), After: each(after), Target: t, Cursor: len(t)}
}

func plain(source, target string) api.Rule { return rule("", source, "", target) }

func starting(r api.Rule) api.Rule {
	r.Start = true
	return r
}

func ending(r api.Rule) api.Rule {
	r.End = true
	return r
}

func cursor(r api.Rule, at int) api.Rule {
	r.Cursor = at
	return r
}

func rules(l ...api.Rule) []api.Rule { return l }

func letters(n int) string { return strings.Repeat("a", n) }

func fault(err api.Errno, at int) api.Fault { return api.Fault{Err: err, At: at} }

var every = set(span(0, api.MaxRune))

// pieces are lists of runes, one for each text.
func pieces(l ...string) [][]rune {
	out := make([][]rune, len(l))
	for k, s := range l {
		out[k] = []rune(s)
	}
	return out
}

// same is whether two answers of Feed are, nil or not.
func same(a, b [][]rune) bool { return slices.EqualFunc(a, b, slices.Equal) }

// brief is what is told of lists, lest it become too long.
func brief(l [][]rune) []string {
	var out []string
	for _, x := range l[:min(8, len(l))] {
		out = append(out, string(x[:min(30, len(x))]))
	}
	return out
}

// tells is that Feed tells these, where nothing is wrong.
func tells(t *testing.T, l []api.Rule, chunks [][]rune, want ...string) {
	t.Helper()
	if got, f := Feed(l, chunks); !same(got, pieces(want...)) || f != (api.Fault{}) {
		t.Errorf("Feed(%v, %q): %q, %v, not %.30q", l[:min(3, len(l))], brief(chunks), brief(got), f, want)
	}
}

// waits is that Wait tells that, where nothing is wrong.
func waits(t *testing.T, l []api.Rule, chunks [][]rune, want int) {
	t.Helper()
	if got, f := Wait(l, chunks); got != want || f != (api.Fault{}) {
		t.Errorf("Wait(%v, %q): %d, %v, not %d", l[:min(3, len(l))], brief(chunks), got, f, want)
	}
}

// refusesInTheEnd is that Feed tells that error, behind the last piece, and Wait doesn't.
func refusesInTheEnd(t *testing.T, l []api.Rule, chunks [][]rune, err api.Errno, wait int) {
	t.Helper()
	if got, f := Feed(l, chunks); len(got) != 0 || f != fault(err, len(chunks)) {
		t.Errorf("Feed(%v, %q): %d lists, %v, not none, %d", l[:min(3, len(l))], brief(chunks), len(got), f, err)
	}
	waits(t, l, chunks, wait)
}

// refuses is that Feed and Wait tell that fault, and zero values beside it.
func refuses(t *testing.T, l []api.Rule, chunks [][]rune, want api.Fault) {
	t.Helper()
	if got, f := Feed(l, chunks); len(got) != 0 || f != want {
		t.Errorf("Feed(%d rules, %q): %d lists, %v, not none, %v", len(l), brief(chunks), len(got), f, want)
	}
	if got, f := Wait(l, chunks); got != 0 || f != want {
		t.Errorf("Wait(%d rules, %q): %d, %v, not 0, %v", len(l), brief(chunks), got, f, want)
	}
}

// L1

func TestFeed(t *testing.T) {
	l := rules(plain("ab", "x"), plain("a", "y"))
	// The document's example 12: whether a is the first of ab is not known yet.
	tells(t, l[:1], pieces("a"), "", "a")
	tells(t, l[:1], pieces("a", "b"), "", "", "x")
	tells(t, l[:1], pieces("a", "b", "c"), "", "", "x", "c")
	tells(t, l, pieces("aba"), "x", "y")
	tells(t, l, pieces("a", "b", "a"), "", "", "x", "y")
	tells(t, l, pieces("aab", "aa"), "y", "x", "yy")
	tells(t, l, pieces("zz"), "", "zz")
	tells(t, l, pieces("zzz"), "z", "zz")
	// One list for each piece, and one more.
	tells(t, l, nil, "")
	tells(t, l, pieces(""), "", "")
	tells(t, l, pieces("", "a", "", "", "b", ""), "", "", "", "", "", "", "x")
	tells(t, l, pieces("zzzz", "", ""), "zz", "", "", "zz")
	tells(t, rules(plain("ä", "ae"), plain("ü", "ue")), pieces("g", "rü", "n, ", "lärm"), "", "gr", "uen,", " laer", "m")
	// What goes leaves nothing to be told.
	tells(t, rules(plain("a", "")), pieces("aaa", "a", "ba"), "", "", "b", "")
	tells(t, rules(plain("a", "xyz")), pieces("a", "a", "a"), "", "xyz", "xyz", "xyz")
	// At the edges of what a rune may be.
	tells(t, nil, pieces("\x00\ud7ff", "\ue000\U0010ffff"), "\x00\ud7ff", "\ue000\U0010ffff", "")
	wide := rules(api.Rule{Source: list(every), Target: []rune("\U0010ffff"), Cursor: 1})
	tells(t, wide, pieces("\x00\ud7ff", "\ue000\U0010ffff"), "\U0010ffff", "\U0010ffff\U0010ffff", "\U0010ffff")
}

// TestHowFarRulesLook: as many runes wait as a rule may look at, whether it would match or not.
func TestHowFarRulesLook(t *testing.T) {
	const text = "zzzzzzzz"
	for ahead, l := range [][]api.Rule{
		nil,
		{plain("a", "")},
		{plain("a", ""), plain("ab", "")},
		// Before counts for nothing; Source and After of one rule count together.
		{rule("aaaa", "a", "bc", ""), plain("ab", "xyz")},
		{rule("", "ab", "c", ""), rule("", "a", "bcd", ""), rule("aaaaa", "a", "", "")},
		{rule("", "abc", "de", ""), plain("abcd", ""), starting(plain("a", ""))},
		{plain("a", ""), ending(rule("a", "abcdef", "", "aaaaaaa"))},
		{{Source: make([][]api.Span, 7)}},
	} {
		for n := range len(text) + 1 {
			told := max(0, n-ahead)
			tells(t, l, pieces(text[:n]), text[:told], text[told:n])
			waits(t, l, pieces(text[:n]), n-told)
			tells(t, l, pieces(text[:n], text[n:]), text[:told], text[told:len(text)-ahead], text[len(text)-ahead:])
			waits(t, l, pieces(text[:n], text[n:]), ahead)
		}
	}
	// A rule of the most sets there may be.
	far := rules(plain("z", "y"), rule(letters(20), letters(20), letters(20), ""))
	ys := func(n int) string { return strings.Repeat("y", n) }
	zs := func(n int) string { return strings.Repeat("z", n) }
	tells(t, far, pieces(zs(40)), "", ys(40))
	tells(t, far, pieces(zs(41)), ys(1), ys(40))
	waits(t, far, pieces(zs(39)), 39)
	waits(t, far, pieces(zs(40)), 40)
	waits(t, far, pieces(zs(60)), 40)
}

// TestWhatRulesLookAt: what came in other pieces is there, told or not.
func TestWhatRulesLookAt(t *testing.T) {
	// Before looks at what was told, as it is by then.
	tells(t, rules(rule("x", "a", "", "x")), pieces("x", "a", "a", "a"), "", "x", "x", "x", "x")
	tells(t, rules(rule("a", "a", "", "b")), pieces("a", "a", "a", "a"), "", "a", "b", "a", "b")
	tells(t, rules(rule("abc", "d", "", "!")), pieces("ab", "", "c", "d"), "a", "", "b", "c", "!")
	// After waits.
	tells(t, rules(rule("", "a", "b", "x")), pieces("a", "ba", "cab"), "", "x", "bac", "xb")
	tells(t, rules(rule("", "a", "bc", "x")), pieces("a", "b", "c", "ab"), "", "", "", "xb", "cab")
	// Start is the whole text's beginning, not a piece's.
	tells(t, rules(starting(plain("a", "x"))), pieces("", "a", "a", "a"), "", "", "x", "a", "a")
	tells(t, rules(starting(plain("a", ""))), pieces("a", "a", "ba"), "", "", "b", "a")
	tells(t, rules(starting(rule("x", "a", "", "y"))), pieces("x", "ax", "a"), "", "xy", "x", "a")
	// End is the whole text's end, not a piece's.
	tells(t, rules(ending(plain("a", "x"))), pieces("a", "a", "a"), "", "a", "a", "x")
	tells(t, rules(ending(plain("a", "x"))), pieces("aa", "", ""), "a", "", "", "x")
	tells(t, rules(ending(rule("", "a", "b", "c"))), pieces("ab", "ab"), "", "ab", "cb")
	tells(t, rules(ending(plain("b", "x")), rule("", "a", "b", "y")), pieces("ab", "ab"), "", "yb", "yx")
	tells(t, rules(starting(ending(plain("a", "x")))), pieces("a", ""), "", "", "x")
	tells(t, rules(starting(ending(plain("a", "x")))), pieces("a", "a"), "", "a", "a")
}

func TestCursor(t *testing.T) {
	// What came, and the cursor ahead of it, is looked at again, and not told yet.
	tells(t, rules(cursor(plain("bb", "b"), 0)), pieces("bbbb", "", "b"), "", "", "", "b")
	tells(t, rules(cursor(plain("bb", "b"), 0)), pieces("bbb", "bab", "b"), "", "b", "a", "b")
	l := rules(plain("a", "bc"), plain("b", "x"), plain("c", "y"))
	tells(t, l, pieces("a", "a"), "", "bc", "bc")
	l[0].Cursor = 1
	tells(t, l, pieces("a", "a"), "", "by", "by")
	l[0].Cursor = 0
	tells(t, l, pieces("a", "a"), "", "xy", "xy")
	// What a rule put waits as what came does.
	tells(t, rules(cursor(plain("a", "bcd"), 1), plain("dz", "!")), pieces("a", "z", "z"), "", "", "bc!", "z")
	waits(t, rules(cursor(plain("a", "bcd"), 1), plain("dz", "!")), pieces("aaa"), 2)
	waits(t, rules(cursor(plain("a", "bcd"), 1), plain("ez", "!")), pieces("aa", ""), 2)
	waits(t, rules(cursor(plain("a", "bcdef"), 0), plain("xyz", "!")), pieces("azz"), 3)
	waits(t, rules(cursor(plain("a", "bcdef"), 0), plain("xyz", "!")), pieces("azzz"), 3)
	tells(t, rules(cursor(plain("a", "bcdef"), 0), plain("xyz", "!")), pieces("azzz"), "bcdef", "zzz")
}

// link is the n-th letter of a chain.
func link(n int) string { return string(rune(1000 + n)) }

// chain is n rules, each of which makes the next letter of a chain, the cursor ahead of it: for the first letter they take n steps, and one more goes on.
func chain(n int) []api.Rule {
	var l []api.Rule
	for k := range n {
		l = append(l, cursor(plain(link(k), link(k+1)), 0))
	}
	return l
}

func TestSteps(t *testing.T) {
	// One rune alone waits until the end, and has 48 steps then.
	tells(t, chain(47), pieces(link(0)), "", link(47))
	refusesInTheEnd(t, chain(48), pieces(link(0)), api.ErrSteps, 1)
	tells(t, chain(47), pieces("", link(0), ""), "", "", "", link(47))
	refusesInTheEnd(t, chain(48), pieces("", link(0), ""), api.ErrSteps, 1)
	// Two have 56, of which the second takes one.
	tells(t, chain(54), pieces(link(0)+"a"), link(54), "a")
	tells(t, chain(55), pieces(link(0)+"a", "a"), link(55), "a", "a")
	refusesInTheEnd(t, chain(55), pieces(link(0)+"a"), api.ErrSteps, 1)
	refusesInTheEnd(t, chain(56), pieces(link(0)+"a"), api.ErrSteps, 2)
	// Where steps are spent there are more when the next piece comes, and one without runes gives none.
	tells(t, chain(56), pieces(link(0)+"a", "a"), "", link(56)+"a", "a")
	tells(t, chain(56), pieces(link(0)+"a", "", "a"), "", "", link(56)+"a", "a")
	waits(t, chain(56), pieces(link(0)+"a"), 2)
	waits(t, chain(56), pieces(link(0)+"a", ""), 2)
	waits(t, chain(56), pieces(link(0)+"a", "a"), 1)
	tells(t, chain(100), pieces(link(0), "a", "aaaa", "aaa"), "", "", "", link(100)+"aaaaaaa", "a")
	waits(t, chain(100), pieces(link(0), "a", "aaaa"), 6)
	// All that has come counts, and all steps that were taken do, those of pieces that are told, too.
	tells(t, chain(61), pieces("aa", link(0)), "a", "a", link(61))
	refusesInTheEnd(t, chain(62), pieces("aa", link(0)), api.ErrSteps, 1)
	tells(t, chain(31), pieces(link(0)+link(0)+"a", "a"), link(31)+link(31), "a", "a")
	tells(t, chain(32), pieces(link(0)+link(0)+"a", "a"), link(32), link(32)+"a", "a")
	tells(t, chain(33), pieces(link(0)+link(0), "aa"), link(33), link(33)+"a", "a")
	refusesInTheEnd(t, chain(31), pieces(link(0)+link(0)+"a"), api.ErrSteps, 1)
	refusesInTheEnd(t, chain(32), pieces(link(0)+link(0)+"a"), api.ErrSteps, 2)
	// Runes that came of others give no more steps, and those that went take none away.
	l := append(chain(22), cursor(plain("_", link(0)+link(0)), 0))
	tells(t, l, pieces("_"), "", link(22)+link(22))
	refusesInTheEnd(t, append(chain(23), l[22]), pieces("_"), api.ErrSteps, 1)
	tells(t, append(chain(54), plain("_", "")), pieces("_", link(0)), "", "", link(54))
	refusesInTheEnd(t, append(chain(55), plain("_", "")), pieces("_", link(0)), api.ErrSteps, 1)
}

// TestEnds: what would never end ends, too.
func TestEnds(t *testing.T) {
	stays := rules(cursor(plain("a", "a"), 0))
	turns := rules(cursor(plain("a", "b"), 0), cursor(plain("b", "a"), 0))
	for _, l := range [][]api.Rule{stays, turns} {
		for _, n := range []int{1, 2, 100, 4000} {
			refusesInTheEnd(t, l, pieces(letters(n)), api.ErrSteps, n)
			refusesInTheEnd(t, l, pieces("", letters(n-1), "", "a"), api.ErrSteps, n)
		}
	}
	refusesInTheEnd(t, stays, pieces("bba", "b"), api.ErrSteps, 2)
	tells(t, stays, pieces("bbb", "b"), "bb", "b", "b")
	// Runes are looked at by then that the steps are spent on, and others are not told any more.
	refusesInTheEnd(t, stays, pieces("ab", letters(3998)), api.ErrSteps, 4000)
}

func TestMuch(t *testing.T) {
	// More have come than there may be, however few are left of them.
	gone := rules(plain("a", ""))
	tells(t, gone, pieces(letters(4000)), "", "")
	tells(t, gone, pieces(letters(3999), "a", ""), "", "", "", "")
	refuses(t, gone, pieces(letters(4001)), fault(api.ErrMuch, 0))
	refuses(t, gone, pieces(letters(4000), "a"), fault(api.ErrMuch, 1))
	refuses(t, gone, pieces(letters(2000), "", letters(2000), "", "a"), fault(api.ErrMuch, 4))
	refuses(t, nil, pieces(letters(1), letters(4000)), fault(api.ErrMuch, 1))
	refuses(t, nil, pieces(letters(4001), "a"), fault(api.ErrMuch, 0))
	tells(t, nil, pieces(letters(1), letters(3999)), "a", letters(3999), "")
	// The text would have more, however few have come.
	double := rules(plain("a", "aa"))
	tells(t, double, pieces(letters(2000)), letters(3998), "aa")
	tells(t, double, pieces(letters(1000), letters(999), "a"), letters(1998), letters(1998), "aa", "aa")
	tells(t, double, pieces(letters(1900), strings.Repeat("b", 200)), letters(3798), "aa"+strings.Repeat("b", 199), "b")
	// Of 1900 runes come 3799, for one waits; 201 more have room, and then that one has not.
	refuses(t, double, pieces(letters(1900), strings.Repeat("b", 201)), fault(api.ErrMuch, 1))
	tells(t, rules(double[0], plain("aa", "c")), pieces(letters(1000), strings.Repeat("b", 1001)), letters(1996), letters(4)+strings.Repeat("b", 999), "bb")
	tells(t, append(double, plain("b", "")), pieces(letters(1900), strings.Repeat("b", 200)), letters(3798), "aa", "")
	refuses(t, rules(plain("a", letters(20)), plain("b", "")), pieces(letters(200), strings.Repeat("b", 201), "b"), fault(api.ErrMuch, 1))
	tells(t, rules(plain("a", letters(20))), pieces(letters(200)), letters(3980), letters(20))
	refuses(t, rules(plain("a", letters(20))), pieces(letters(200), "b"), fault(api.ErrMuch, 1))
	refuses(t, rules(plain("a", letters(20)), plain("b", "")), pieces(letters(199)+"b", strings.Repeat("b", 20)), fault(api.ErrMuch, 1))
	tells(t, rules(plain("a", letters(20)), plain("b", "")), pieces(letters(199)+"b", strings.Repeat("b", 19)), letters(3980), "", "")
}

func TestMuchInAStep(t *testing.T) {
	double := rules(plain("a", "aa"))
	// Of the piece that has just come, ..
	refuses(t, double, pieces(letters(2001)), fault(api.ErrMuch, 0))
	refuses(t, double, pieces("", letters(2002), "a"), fault(api.ErrMuch, 1))
	refuses(t, double, pieces(letters(1500), letters(501)), fault(api.ErrMuch, 1))
	refuses(t, double, pieces(letters(1500), letters(400), "", letters(200), "a"), fault(api.ErrMuch, 3))
	// .. or behind the last one.
	far := append(double, plain("bbb", ""))
	refusesInTheEnd(t, far, pieces(letters(2001)), api.ErrMuch, 3)
	refusesInTheEnd(t, far, pieces(letters(2000), "a"), api.ErrMuch, 3)
	refusesInTheEnd(t, far, pieces(letters(1000), "", letters(1001), ""), api.ErrMuch, 3)
	refuses(t, far, pieces(letters(2001), "a"), fault(api.ErrMuch, 1))
	refuses(t, far, pieces(letters(2002), "a"), fault(api.ErrMuch, 0))
	tells(t, far, pieces(letters(2000)), letters(3994), letters(6))
	// What goes soon enough makes room, for what has not come yet takes none.
	l := rules(plain("c", "xxx"), plain("b", ""))
	tells(t, l, pieces("cz", strings.Repeat("b", 3996), "z"), "xxx", "z", "", "z")
	refuses(t, l, pieces("cz"+strings.Repeat("b", 3998)), fault(api.ErrMuch, 0))
	// Where a text grows by one each step steps end first, if 440 runes have come, and just then it is full; room ends first, if there are more.
	grows := rules(cursor(plain("a", "aa"), 0))
	refusesInTheEnd(t, grows, pieces(letters(440)), api.ErrSteps, 4000)
	refusesInTheEnd(t, grows, pieces(letters(439)), api.ErrSteps, 3991)
	refuses(t, grows, pieces(letters(441)), fault(api.ErrMuch, 0))
	refuses(t, grows, pieces(letters(440), "a"), fault(api.ErrMuch, 1))
	refusesInTheEnd(t, grows, pieces(letters(440), ""), api.ErrSteps, 4000)
}

// wrongs are rules with which something is wrong.
var wrongs = []struct {
	r   api.Rule
	err api.Errno
}{
	{api.Rule{}, api.ErrNone},
	{rule("a", "", "b", "c"), api.ErrNone},
	{plain(letters(21), ""), api.ErrMany},
	{rule(letters(21), "a", "", ""), api.ErrMany},
	{rule("", "a", letters(21), ""), api.ErrMany},
	{plain("a", letters(21)), api.ErrMany},
	{cursor(plain("a", "xy"), 3), api.ErrRange},
	{cursor(plain("a", "xy"), -1), api.ErrRange},
	{cursor(plain("a", "xy"), math.MaxInt), api.ErrRange},
	{api.Rule{Source: each("a"), Target: []rune{55296}, Cursor: 1}, api.ErrRange},
	{api.Rule{Source: list(set(span(5, 4)))}, api.ErrRange},
	{api.Rule{Source: list(set(span(math.MinInt32, math.MaxInt32)))}, api.ErrRange},
	{api.Rule{Source: list(set(span(1, 2), span(3, 4)))}, api.ErrForm},
	{api.Rule{Before: list(set(span(-1, 4))), Source: each("a")}, api.ErrRange},
	{api.Rule{Source: each("a"), After: list(set(span(5, 6), span(1, 2)))}, api.ErrForm},
}

// many are n rules that are right.
func many(n int) []api.Rule {
	l := make([]api.Rule, n)
	for k := range l {
		l[k] = plain("b", "y")
	}
	return l
}

// badPieces are pieces with which something is wrong.
var badPieces = []struct {
	piece []rune
	err   api.Errno
}{
	{[]rune(letters(4001)), api.ErrMuch},
	{append([]rune(letters(4000)), -1), api.ErrMuch},
	{append([]rune(letters(3999)), -1), api.ErrRange},
	{[]rune{math.MinInt32}, api.ErrRange},
	{[]rune{-1}, api.ErrRange},
	{[]rune{'b', 55296}, api.ErrRange},
	{[]rune{57343, 'b'}, api.ErrRange},
	{[]rune{'b', api.MaxRune + 1, 'b'}, api.ErrRange},
	{[]rune{math.MaxInt32}, api.ErrRange},
}

func TestWhatIsWrongWithRulesIsToldFirst(t *testing.T) {
	all := [][][]rune{nil, pieces("bbb"), make([][]rune, 201)}
	for _, x := range badPieces {
		all = append(all, [][]rune{x.piece})
	}
	for _, chunks := range all {
		for _, x := range wrongs {
			refuses(t, rules(x.r), chunks, fault(x.err, 0))
			refuses(t, rules(plain("q", ""), cursor(plain("b", "b"), 0), x.r, api.Rule{}), chunks, fault(x.err, 2))
			refuses(t, append(many(200), x.r), chunks, fault(api.ErrMany, 0))
		}
		refuses(t, many(201), chunks, fault(api.ErrMany, 0))
		refuses(t, make([]api.Rule, 1000), chunks, fault(api.ErrMany, 0))
	}
	tells(t, many(200), pieces("ab", "b"), "a", "y", "y")
}

func TestTooManyPieces(t *testing.T) {
	for _, l := range [][]api.Rule{nil, many(1), many(200)} {
		for _, n := range []int{201, 202, 1000} {
			refuses(t, l, make([][]rune, n), fault(api.ErrMany, 0))
			// What is wrong with pieces is not told then.
			chunks := slices.Repeat(pieces("a"), n)
			refuses(t, l, chunks, fault(api.ErrMany, 0))
			for _, x := range badPieces {
				chunks[0] = x.piece
				refuses(t, l, chunks, fault(api.ErrMany, 0))
			}
		}
		tells(t, l, make([][]rune, 200), make([]string, 201)...)
	}
	tells(t, nil, slices.Repeat(pieces("a"), 200), append(slices.Repeat([]string{"a"}, 200), "")...)
	tells(t, nil, slices.Repeat(pieces(letters(20)), 200), append(slices.Repeat([]string{letters(20)}, 200), "")...)
	chunks := slices.Repeat(pieces(letters(20)), 200)
	chunks[199] = []rune(letters(21))
	refuses(t, nil, chunks, fault(api.ErrMuch, 199))
	chunks[199] = []rune{'a', 55296}
	refuses(t, nil, chunks, fault(api.ErrRange, 199))
}

func TestWhatIsWrongWithPieces(t *testing.T) {
	loop := rules(cursor(plain("b", "b"), 0))
	for _, l := range [][]api.Rule{nil, {}, many(1), many(200), loop} {
		for _, x := range badPieces {
			refuses(t, l, [][]rune{x.piece}, fault(x.err, 0))
			refuses(t, l, [][]rune{nil, nil, x.piece}, fault(x.err, 2))
			// The first piece with a fault is the one that is told, whatever is wrong with it.
			refuses(t, l, [][]rune{x.piece, {-1}}, fault(x.err, 0))
			refuses(t, l, [][]rune{nil, x.piece, make([]rune, 4001)}, fault(x.err, 1))
			// One rune more has come ahead of it: too much, if there are more than 4000 now.
			err := x.err
			if len(x.piece) == 4000 {
				err = api.ErrMuch
			}
			refuses(t, l, [][]rune{{'b'}, x.piece, {-1}}, fault(err, 1))
			refuses(t, l, [][]rune{[]rune(letters(4000)), x.piece}, fault(api.ErrMuch, 1))
		}
	}
	// Steps are taken ahead of what is wrong with the next piece, ..
	double := rules(plain("a", "aa"))
	for _, x := range badPieces {
		refuses(t, double, [][]rune{[]rune(letters(2001)), x.piece}, fault(api.ErrMuch, 0))
		// Of 1998 runes come 3995, for one waits.
		err := x.err
		if len(x.piece) > 5 {
			err = api.ErrMuch
		}
		refuses(t, double, [][]rune{nil, []rune(letters(1998)), x.piece}, fault(err, 2))
	}
	// .. and what is wrong with a piece is told ahead of steps that it would bring about.
	refuses(t, double, [][]rune{append([]rune(letters(2001)), -1)}, fault(api.ErrRange, 0))
	// That no step is left is no fault as long as pieces come.
	refuses(t, loop, [][]rune{[]rune("bbb"), []rune("bbb"), {-1}}, fault(api.ErrRange, 2))
}

// L2

func TestWait(t *testing.T) {
	l := rules(plain("ab", "x"), plain("a", "y"))
	// The document's example 12.
	waits(t, l[:1], pieces("a"), 1)
	waits(t, l, nil, 0)
	waits(t, l, pieces(""), 0)
	waits(t, l, pieces("", "a", ""), 1)
	waits(t, l, pieces("ab"), 2)
	waits(t, l, pieces("a", "b"), 2)
	// Of abc c is left, for ab is played by then.
	waits(t, l, pieces("abc"), 1)
	waits(t, l, pieces("a", "b", "c"), 1)
	waits(t, l, pieces("aaa"), 2)
	waits(t, nil, pieces("abc", "d"), 0)
	waits(t, nil, nil, 0)
	waits(t, nil, pieces(letters(4000)), 0)
	waits(t, rules(plain("a", "")), pieces("aaa"), 1)
	// What a rule put behind the cursor waits, too.
	waits(t, rules(cursor(plain("aa", "bcdef"), 4)), pieces("aaz"), 2)
	waits(t, rules(cursor(plain("ab", "bcdef"), 0), plain("xxxxxxxxx", "")), pieces("abbbbbbbb"), 9)
	waits(t, rules(cursor(plain("ab", "bcdef"), 5), plain("xxxxxxxxx", "")), pieces("abbbbbbbbb"), 8)
	// How many wait is of the pieces alone: what the last step would do doesn't count.
	waits(t, rules(plain("a", "xyz")), pieces("a"), 1)
	waits(t, rules(ending(plain("a", ""))), pieces("aa"), 1)
}

// What comes of it

// texts are all of a and b, up to that many runes.
func texts(most int) []string {
	l := []string{""}
	for from := 0; len(l[from]) < most; from++ {
		l = append(l, l[from]+"a", l[from]+"b")
	}
	return l
}

// cuts are all ways to cut a text in pieces with something in each, and a few with nothing in one.
func cuts(text string) [][][]rune {
	out := [][][]rune{pieces("", text), pieces(text, "", "")}
	for bits := range 1 << max(0, len(text)-1) {
		var l [][]rune
		from := 0
		for k := range text {
			if k+1 == len(text) || bits>>k&1 == 1 {
				l = append(l, []rune(text[from:k+1]))
				from = k + 1
			}
		}
		out = append(out, l)
	}
	return out
}

// small are rules of few runes of all kinds.
func small() []api.Rule {
	var l []api.Rule
	for _, source := range []string{"a", "b", "ab", "bb"} {
		for _, target := range []string{"", "a", "bb", "aba"} {
			for at := range len(target) + 1 {
				r := cursor(plain(source, target), at)
				l = append(l, r, starting(r), ending(r))
				r.Before = each("b")
				l = append(l, r)
				r.Before, r.After = nil, list(every)
				l = append(l, r)
			}
		}
	}
	return l
}

// compare holds Feed and Wait against the oracle; it tells what comes of it.
func compare(t *testing.T, l []api.Rule, chunks [][]rune) api.Fault {
	t.Helper()
	want := anotherWay(l, chunks)
	told, f := Feed(l, chunks)
	n, g := Wait(l, chunks)
	if !same(told, want.told) || f != want.fed || n != want.wait || g != want.waited {
		t.Errorf("%v, %q: %q, %v, %d, %v, not %q, %v, %d, %v", l, brief(chunks), brief(told), f, n, g, brief(want.told), want.fed, want.wait, want.waited)
	}
	return f
}

// atOnce holds Feed against run.Run over all pieces at once: where that makes something so does Feed, and the same; where steps don't suffice there they don't here.
func atOnce(t *testing.T, l []api.Rule, chunks [][]rune) {
	t.Helper()
	told, f := Feed(l, chunks)
	out, g := run.Run(l, slices.Concat(chunks...))
	switch {
	case g.Err == api.OK && (f != api.Fault{} || !slices.Equal(slices.Concat(told...), out.Text) || len(told) != len(chunks)+1):
		t.Errorf("%v, %q: %q, %v, not %.30q", l, brief(chunks), brief(told), f, string(out.Text))
	case g.Err == api.ErrSteps && f != fault(api.ErrSteps, len(chunks)):
		t.Errorf("%v, %q: %v, not %d", l, brief(chunks), f, g.Err)
	}
}

// stays is that what was told of the first pieces is told of them, whatever comes behind.
func stays(t *testing.T, l []api.Rule, chunks [][]rune) {
	t.Helper()
	all, f := Feed(l, chunks)
	for n := range chunks {
		some, g := Feed(l, chunks[:n])
		if f.Err == api.OK && g.Err == api.OK && !same(some[:n], all[:n]) {
			t.Errorf("%v, %q: %q of %d pieces, %q of all", l, brief(chunks), brief(some), n, brief(all))
		}
	}
}

// TestAnotherWay holds pairs of small rules against oracle_test.go, over all short texts of two letters, cut in all ways.
func TestAnotherWay(t *testing.T) {
	n := map[api.Errno]int{}
	some := small()
	var all [][][]rune
	for _, text := range texts(5) {
		all = append(all, cuts(text)...)
	}
	for i, r := range some {
		for j, s := range some {
			// Not all pairs with all pieces, lest it take long.
			for k := (i*31 + j*17) % 409; k < len(all); k += 409 {
				l := rules(r, s)
				n[compare(t, l, all[k]).Err]++
				atOnce(t, l, all[k])
				stays(t, l, all[k])
			}
		}
	}
	if n[api.OK] < 10000 || n[api.ErrSteps] < 1000 {
		t.Errorf("of each kind: %v", n)
	}
}

// TestAnotherWayLong does so with more rules, of more letters, over longer texts in more pieces, of which some are wrong.
func TestAnotherWayLong(t *testing.T) {
	seed := 1
	next := func(below int) int {
		seed = (seed*1103515245 + 12345) & (1<<31 - 1)
		return (seed >> 8) % below
	}
	alphabet := []rune{0, 'a', 'b', 0xe9, 55295, 57344, api.MaxRune}
	word := func(least, most int) []rune {
		var l []rune
		for range least + next(most-least+1) {
			l = append(l, alphabet[next(len(alphabet))])
		}
		return l
	}
	around := func(l []rune) [][]api.Span {
		var out [][]api.Span
		for _, r := range l {
			out = append(out, set(span(max(0, r-rune(next(3))), min(api.MaxRune, r+rune(next(3))))))
		}
		return out
	}
	n := map[api.Fault]int{}
	for round := range 3000 {
		var l []api.Rule
		for range next(9) {
			r := api.Rule{Start: next(9) == 0, End: next(9) == 0, Before: around(word(0, next(3))), Source: around(word(1, 2)), After: around(word(0, next(3))), Target: word(0, 4)}
			r.Cursor = len(r.Target)
			if next(3) == 0 {
				r.Cursor = next(len(r.Target) + 1)
			}
			l = append(l, r)
		}
		most := 6
		if round%10 == 0 {
			most = 1200
		}
		var chunks [][]rune
		for range next(9) {
			chunks = append(chunks, word(0, most))
		}
		if len(chunks) > 0 && round%15 == 0 {
			k := next(len(chunks))
			chunks[k] = append(chunks[k], 55296)
		}
		f := compare(t, l, chunks)
		atOnce(t, l, chunks)
		stays(t, l, chunks)
		switch {
		case f.Err == api.OK || f.At == len(chunks):
			n[fault(f.Err, -1)]++
		default:
			n[fault(f.Err, 0)]++
		}
	}
	if n[fault(api.OK, -1)] < 1000 || n[fault(api.ErrSteps, -1)] < 50 || n[fault(api.ErrMuch, 0)] < 50 || n[fault(api.ErrRange, 0)] < 50 || n[fault(api.ErrSteps, 0)] > 0 {
		t.Errorf("of each kind: %v", n)
	}
}

// TestMoreThanAtOnce: where a text, all at once, would be too long, piece by piece it may not be.
func TestMoreThanAtOnce(t *testing.T) {
	l := rules(plain("c", "xxx"), plain("b", ""))
	chunks := pieces("cz", strings.Repeat("b", 3996), "zz")
	if _, f := run.Run(l, slices.Concat(chunks...)); f != fault(api.ErrMuch, 0) {
		t.Errorf("Run: %v", f)
	}
	tells(t, l, chunks, "xxx", "z", "z", "z")
}

// Z2

// roomy is rules and pieces whose lists all have spare room, and there something that is wrong, or would match.
func roomy() ([]api.Rule, [][]rune) {
	spans := func(r rune) []api.Span { return set(span(r, r), span(-9, -10))[:1] }
	sets := func(l ...[]api.Span) [][]api.Span { return append(l, set(span(5, 4)))[:len(l)] }
	r := api.Rule{Before: sets(spans('a')), Source: sets(spans('b')), After: sets(spans('c')), Target: []rune{'x', 'y', -1}[:2], Cursor: 2}
	s := api.Rule{Source: sets(spans('c'), spans('d')), Target: []rune{'z', -1}[:1]}
	chunks := [][]rune{[]rune{'a', 'b', 'b', -1}[:2], []rune{'c', 'd', 'd', -2}[:2], []rune{'b', -3}[:1], {-4}, {-5}}[:3]
	return rules(r, s, api.Rule{})[:2], chunks
}

// whole is all that rules and pieces have, spare room and all.
func whole(rules []api.Rule, chunks [][]rune) []any {
	var out []any
	for _, piece := range chunks[:cap(chunks)] {
		out = append(out, len(piece), slices.Clone(piece[:cap(piece)]))
	}
	for _, r := range rules[:cap(rules)] {
		out = append(out, slices.Clone(r.Target[:cap(r.Target)]), r.Cursor, r.Start, r.End)
		for _, l := range [][][]api.Span{r.Before, r.Source, r.After} {
			for _, s := range l[:cap(l)] {
				out = append(out, slices.Clone(s[:cap(s)]))
			}
		}
	}
	return out
}

// spoil changes all that lists of runes have, spare room and all.
func spoil(l [][]rune) {
	for _, x := range l {
		for k := range x[:cap(x)] {
			x[:cap(x)][k] = -7
		}
	}
	clear(l[:cap(l)])
}

func TestWhatIsHandedInIsOnlyRead(t *testing.T) {
	l, chunks := roomy()
	want := whole(l, chunks)
	told := pieces("", "axy", "", "zb")
	for range 2 {
		got, f := Feed(l, chunks)
		if !same(got, told) || f != (api.Fault{}) {
			t.Errorf("Feed: %q, %v", brief(got), f)
		}
		waits(t, l, chunks, 2)
		if !reflect.DeepEqual(whole(l, chunks), want) {
			t.Errorf("%v, not %v", whole(l, chunks), want)
		}
		spoil(got)
		if !reflect.DeepEqual(whole(l, chunks), want) {
			t.Errorf("the answer shares memory: %v, not %v", whole(l, chunks), want)
		}
	}
	got, _ := Feed(l, chunks)
	spoil(chunks[:cap(chunks)])
	clear(l[0].Target[:cap(l[0].Target)])
	clear(l[1].Target[:cap(l[1].Target)])
	clear(l[:cap(l)])
	if !same(got, told) {
		t.Errorf("the answer has become %q", brief(got))
	}
}

// No two lists of an answer share memory, where rules match or don't.
func TestListsOfAnAnswerAreTheirOwn(t *testing.T) {
	chunks := pieces("abcd", "abcd", "", "abcd")
	for _, l := range [][]api.Rule{nil, rules(plain("c", "x")), rules(plain("ab", "")), rules(plain("a", "xyz"))} {
		want, _ := Feed(l, chunks)
		for k := range want {
			got, _ := Feed(l, chunks)
			x := append(got[k], -7)
			for i := range x[:cap(x)] {
				x[:cap(x)][i] = -7
			}
			for i := range got[k] {
				got[k][i] = -7
			}
			got[k] = want[k]
			if !same(got, want) {
				t.Errorf("%v: with list %d others have changed: %q, not %q", l, k, brief(got), brief(want))
			}
		}
	}
}

// What stands in a piece's spare room is not there.
func TestSpareRoomIsNotLookedAt(t *testing.T) {
	text := []rune("abc")
	l := rules(plain("abc", "x"), rule("", "a", "bc", "x"))
	for n := range 3 {
		tells(t, l, [][]rune{text[:n], text[:0]}, "", "", string(text[:n]))
	}
	tells(t, l, [][]rune{text[:1], text[1:2], text[1:1]}, "", "", "", "ab")
	tells(t, l, [][]rune{text[:1], text[1:2], text[2:]}, "", "", "", "x")
	tells(t, rules(plain("a", "xyz")), [][]rune{text[:1], text[:1]}, "", "xyz", "xyz")
	if string(text) != "abc" {
		t.Errorf("the text has become %q", string(text))
	}
}

// Z3

func TestNilAndNoEntries(t *testing.T) {
	r := api.Rule{Before: list(), Source: each("a"), After: list(), Target: []rune{}}
	tells(t, rules(r), pieces("ab", "a"), "", "b", "")
	for _, l := range [][]api.Rule{nil, {}, rules(r)} {
		for _, chunks := range [][][]rune{nil, {}} {
			tells(t, l, chunks, "")
			waits(t, l, chunks, 0)
		}
		tells(t, l, [][]rune{nil, {}, nil}, "", "", "", "")
		waits(t, l, [][]rune{{}, nil, {}}, 0)
	}
}
