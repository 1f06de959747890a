package match

import (
	"math"
	"reflect"
	"slices"
	"strings"
	"testing"

	"scriptshift/api"
	"scriptshift/gap"
)

func span(low, high rune) api.Span { return api.Span{Low: low, High: high} }

func set(l ...api.Span) []api.Span { return l }

// each is a set of its own for each rune.
func each(s string) [][]api.Span {
	var l [][]api.Span
	for _, r := range s {
		l = append(l, set(span(r, r)))
	}
	return l
}

func list(l ...[]api.Span) [][]api.Span { return l }

// rule has its cursor behind its target.
func rule(before, source, after, target string) api.Rule {
	t := []rune(target)
	return api.Rule{Before: each(before), Source: each(source), After: each(after), Target: t, Cursor: len(t)}
}

func starting(r api.Rule) api.Rule {
	r.Start = true
	return r
}

func ending(r api.Rule) api.Rule {
	r.End = true
	return r
}

func cursor(r api.Rule, at int) api.Rule {
	r.Cursor = at
	return r
}

func letters(n int) string { return strings.Repeat("a", n) }

// dots is a set of n spans.
func dots(n int) []api.Span {
	var l []api.Span
	for k := range n {
		l = append(l, span(rune(2*k), rune(2*k)))
	}
	return l
}

var every = set(span(0, api.MaxRune))

// holds is that the rule matches there, and what comes of it.
func holds(t *testing.T, r api.Rule, text string, at int, want string, cursor int) {
	t.Helper()
	if ok, err := Matches(r, []rune(text), at); !ok || err != api.OK {
		t.Errorf("Matches(%v, %q, %d): %v, %d, not true", r, text, at, ok, err)
	}
	got, c, ok, err := Put(r, []rune(text), at)
	if string(got) != want || c != cursor || !ok || err != api.OK {
		t.Errorf("Put(%v, %q, %d): %q, %d, %v, %d, not %q, %d", r, text, at, string(got), c, ok, err, want, cursor)
	}
}

// fails is that the rule doesn't match there, and nothing is wrong.
func fails(t *testing.T, r api.Rule, text string, at int) {
	t.Helper()
	refuses(t, r, []rune(text), at, api.OK)
}

// refuses is that both calls tell that error, and zero values beside it.
func refuses(t *testing.T, r api.Rule, text []rune, at int, want api.Errno) {
	t.Helper()
	if ok, err := Matches(r, text, at); ok || err != want {
		t.Errorf("Matches(%v, %d runes, %d): %v, %d, not false, %d", r, len(text), at, ok, err, want)
	}
	l, c, ok, err := Put(r, text, at)
	if len(l) != 0 || c != 0 || ok || err != want {
		t.Errorf("Put(%v, %d runes, %d): %v, %d, %v, %d, not zero values and %d", r, len(text), at, l, c, ok, err, want)
	}
}

// G1

func TestWrong(t *testing.T) {
	tests := []struct {
		r   api.Rule
		err api.Errno
	}{
		{rule("", "a", "", ""), api.OK},
		{rule("ab", "cd", "ef", "gh"), api.OK},
		{starting(ending(rule("", "a", "", "x"))), api.OK},
		{rule(letters(20), letters(20), letters(20), letters(20)), api.OK},
		{cursor(rule("", "a", "", "xy"), 0), api.OK},
		{cursor(rule("", "a", "", "xy"), 1), api.OK},
		{api.Rule{Source: list(nil)}, api.OK},
		{api.Rule{Before: list(nil, every), Source: list(dots(200), nil), After: list(set(span(55296, 57343)))}, api.OK},
		{api.Rule{Source: list(every), Target: []rune{0, 55295, 57344, api.MaxRune}, Cursor: 4}, api.OK},
		{rule(letters(21), "a", "", ""), api.ErrMany},
		{rule("", letters(21), "", ""), api.ErrMany},
		{rule("", "a", letters(21), ""), api.ErrMany},
		{rule("", "a", "", letters(21)), api.ErrMany},
		{api.Rule{}, api.ErrNone},
		{rule("a", "", "b", "c"), api.ErrNone},
		{starting(rule("", "", "", "")), api.ErrNone},
		{cursor(rule("", "a", "", "xy"), -1), api.ErrRange},
		{cursor(rule("", "a", "", "xy"), 3), api.ErrRange},
		{cursor(rule("", "a", "", ""), 1), api.ErrRange},
		{cursor(rule("", "a", "", "xy"), math.MinInt), api.ErrRange},
		{cursor(rule("", "a", "", "xy"), math.MaxInt), api.ErrRange},
		// How many sets Source has is nothing to the cursor.
		{cursor(rule("", "abc", "", "x"), 2), api.ErrRange},
		{cursor(rule("", "a", "", "xyz"), 3), api.OK},
	}
	for _, x := range tests {
		if got := Wrong(x.r); got != x.err {
			t.Errorf("Wrong(%v): %d, not %d", x.r, got, x.err)
		}
	}
}

// notRight are runes of which no text is made.
var notRight = []rune{math.MinInt32, -1, 55296, 56000, 57343, api.MaxRune + 1, math.MaxInt32}

func TestWrongTargets(t *testing.T) {
	for _, bad := range notRight {
		for k := range 3 {
			r := rule("", "a", "", "xyz")
			r.Target[k] = bad
			if got := Wrong(r); got != api.ErrRange {
				t.Errorf("Wrong(%v): %d", r, got)
			}
		}
	}
}

func TestWrongSets(t *testing.T) {
	tests := []struct {
		s   []api.Span
		err api.Errno
	}{
		{dots(201), api.ErrMany},
		{set(span(5, 4)), api.ErrRange},
		{set(span(-1, 4)), api.ErrRange},
		{set(span(5, api.MaxRune+1)), api.ErrRange},
		{set(span(1, 2), span(3, 4)), api.ErrForm},
		{set(span(5, 6), span(1, 2)), api.ErrForm},
	}
	for _, x := range tests {
		for k := range 3 {
			for n := range 4 {
				r := rule("abc", "abc", "abc", "")
				l := []*[][]api.Span{&r.Before, &r.Source, &r.After}[k]
				*l = slices.Insert(*l, n, x.s)
				if got := Wrong(r); got != x.err {
					t.Errorf("Wrong(%v): %d, not %d", r, got, x.err)
				}
				refuses(t, r, []rune("abcabcabc"), 3, x.err)
			}
		}
	}
}

// faults are what may be wrong with a rule, in the order in which it is told.
var faults = []struct {
	err   api.Errno
	spoil func(r *api.Rule)
}{
	{api.ErrMany, func(r *api.Rule) { r.Before = append(each(letters(21)), r.Before...) }},
	{api.ErrForm, func(r *api.Rule) { r.Before = append(r.Before, set(span(1, 2), span(3, 4))) }},
	{api.ErrRange, func(r *api.Rule) { r.Before = append(r.Before, set(span(2, 1))) }},
	{api.ErrMany, func(r *api.Rule) { r.Source = append(each(letters(21)), r.Source...) }},
	{api.ErrForm, func(r *api.Rule) { r.Source = append(r.Source, set(span(1, 2), span(3, 4))) }},
	{api.ErrRange, func(r *api.Rule) { r.Source = append(r.Source, set(span(2, 1))) }},
	{api.ErrMany, func(r *api.Rule) { r.After = append(each(letters(21)), r.After...) }},
	{api.ErrForm, func(r *api.Rule) { r.After = append(r.After, set(span(1, 2), span(3, 4))) }},
	{api.ErrRange, func(r *api.Rule) { r.After = append(r.After, set(span(2, 1))) }},
	// With a Source that was spoilt already nothing is missing.
	{api.ErrNone, func(r *api.Rule) { r.Source = r.Source[min(1, len(r.Source)):] }},
	{api.ErrMany, func(r *api.Rule) { r.Target = append(r.Target, []rune(letters(20))...) }},
	{api.ErrRange, func(r *api.Rule) { r.Target[0] = 55296 }},
	{api.ErrRange, func(r *api.Rule) { r.Cursor = -1 }},
}

func TestWrongTellsTheFirst(t *testing.T) {
	for i, x := range faults {
		for _, y := range faults[i:] {
			r := rule("b", "a", "c", "xy")
			x.spoil(&r)
			y.spoil(&r)
			if got := Wrong(r); got != x.err {
				t.Errorf("Wrong(%v): %d, not %d", r, got, x.err)
			}
		}
	}
}

func TestText(t *testing.T) {
	tests := []struct {
		l   []rune
		err api.Errno
	}{
		{nil, api.OK},
		{[]rune{}, api.OK},
		{[]rune("grün"), api.OK},
		{[]rune{0, 55295, 57344, api.Bad, api.MaxRune}, api.OK},
		{[]rune(letters(4000)), api.OK},
		{[]rune(letters(4001)), api.ErrMuch},
		{append([]rune(letters(4000)), -1), api.ErrMuch},
		{append([]rune(letters(3999)), -1), api.ErrRange},
	}
	for _, x := range tests {
		if got := Text(x.l); got != x.err {
			t.Errorf("Text of %d runes: %d, not %d", len(x.l), got, x.err)
		}
	}
	for _, bad := range notRight {
		for k := range 3 {
			l := []rune("abc")
			l[k] = bad
			if got := Text(l); got != api.ErrRange {
				t.Errorf("Text(%v): %d", l, got)
			}
		}
	}
}

// G2

func TestPut(t *testing.T) {
	holds(t, rule("", "a", "", "x"), "a", 0, "x", 1)
	holds(t, rule("", "a", "", "x"), "bab", 1, "bxb", 2)
	holds(t, rule("", "ab", "", "xyz"), "aabb", 1, "axyzb", 4)
	holds(t, rule("", "abc", "", "x"), "abc", 0, "x", 1)
	holds(t, rule("", "a", "", ""), "a", 0, "", 0)
	holds(t, rule("", "b", "", ""), "abc", 1, "ac", 1)
	// The cursor is told of the target, wherever that comes.
	for k := range 4 {
		holds(t, cursor(rule("", "a", "", "xyz"), k), "bbabb", 2, "bbxyzbb", 2+k)
	}
	// What stands around stays.
	holds(t, rule("a", "b", "c", "xy"), "abc", 1, "axyc", 3)
	holds(t, rule("ab", "c", "de", ""), "abcde", 2, "abde", 2)
	holds(t, rule("", "ü", "", "ue"), "grün", 2, "gruen", 4)
}

func TestMatchesAround(t *testing.T) {
	// The document's example 7.
	r := rule("a", "b", "", "x")
	fails(t, r, "b", 0)
	fails(t, r, "bab", 0)
	fails(t, r, "bb", 1)
	holds(t, r, "ab", 1, "ax", 2)
	// The sets of Before are those of the runes just ahead, in the order of the text.
	r = rule("ab", "c", "", "x")
	holds(t, r, "abc", 2, "abx", 3)
	fails(t, r, "bac", 2)
	fails(t, r, "bc", 1)
	fails(t, r, "abbc", 3)
	// Those of After are behind Source's.
	r = rule("", "ab", "cd", "x")
	holds(t, r, "abcd", 0, "xcd", 1)
	fails(t, r, "abdc", 0)
	fails(t, r, "abc", 0)
	fails(t, r, "ab", 0)
	fails(t, r, "cdab", 0)
	// Source itself is wanted whole, from the place on.
	r = rule("", "ab", "", "x")
	fails(t, r, "a", 0)
	fails(t, r, "aab", 0)
	fails(t, r, "ab", 1)
	fails(t, r, "ab", 2)
	fails(t, r, "", 0)
	// Nobody matches where nothing stands.
	fails(t, api.Rule{Source: list(every)}, "ab", 2)
	fails(t, api.Rule{Source: list(every, every)}, "ab", 1)
	fails(t, api.Rule{Before: list(every), Source: list(every)}, "ab", 0)
	fails(t, api.Rule{Source: list(every), After: list(every)}, "ab", 1)
}

func TestMatchesStartAndEnd(t *testing.T) {
	r := starting(rule("", "a", "", "x"))
	holds(t, r, "aa", 0, "xa", 1)
	fails(t, r, "aa", 1)
	r = starting(rule("b", "a", "", "x"))
	holds(t, r, "ba", 1, "bx", 2)
	fails(t, r, "bba", 2)
	fails(t, r, "a", 0)
	r = ending(rule("", "a", "", "x"))
	holds(t, r, "aa", 1, "ax", 2)
	fails(t, r, "aa", 0)
	r = ending(rule("", "a", "b", "x"))
	holds(t, r, "ab", 0, "xb", 1)
	fails(t, r, "abb", 0)
	fails(t, r, "a", 0)
	r = starting(ending(rule("a", "b", "c", "x")))
	holds(t, r, "abc", 1, "axc", 2)
	fails(t, r, "aabc", 2)
	fails(t, r, "abcc", 1)
}

func TestMatchesSets(t *testing.T) {
	r := api.Rule{Source: list(set(span('a', 'c'), span('x', 'z'))), Target: []rune("-"), Cursor: 1}
	for _, s := range []string{"a", "b", "c", "x", "z"} {
		holds(t, r, s, 0, "-", 1)
	}
	for _, s := range []string{"`", "d", "w", "{", "\x00", "\U0010ffff"} {
		fails(t, r, s, 0)
	}
	for _, s := range []string{"\x00", "\ud7ff", "\ue000", "\U0010ffff"} {
		holds(t, api.Rule{Source: list(every)}, s, 0, "", 0)
		fails(t, api.Rule{Source: list(nil)}, s, 0)
		fails(t, api.Rule{Source: list(set(span(55296, 57343)))}, s, 0)
	}
	fails(t, api.Rule{Before: list(nil), Source: list(every)}, "ab", 1)
	fails(t, api.Rule{Source: list(every), After: list(nil)}, "ab", 0)
}

func TestMatchesTheLongest(t *testing.T) {
	r := rule(letters(20), letters(20), letters(20), strings.Repeat("x", 20))
	holds(t, r, letters(60), 20, letters(20)+strings.Repeat("x", 20)+letters(20), 40)
	holds(t, starting(ending(r)), letters(60), 20, letters(20)+strings.Repeat("x", 20)+letters(20), 40)
	fails(t, r, letters(60), 19)
	fails(t, r, letters(60), 21)
	fails(t, r, letters(59), 20)
	for k := range 60 {
		text := []rune(letters(60))
		text[k] = 'b'
		fails(t, r, string(text), 20)
	}
}

func TestRefusals(t *testing.T) {
	right, wrong := rule("", "a", "", "x"), cursor(rule("", "a", "", "x"), 2)
	text, long, odd := []rune("ab"), []rune(letters(4001)), []rune{'a', -1}
	for _, at := range []int{math.MinInt, -1, 3, math.MaxInt} {
		refuses(t, right, text, at, api.ErrRange)
		// Rules ahead of texts, texts ahead of places.
		refuses(t, api.Rule{}, text, at, api.ErrNone)
		refuses(t, right, long, at, api.ErrMuch)
	}
	refuses(t, right, nil, 1, api.ErrRange)
	refuses(t, right, nil, 0, api.OK)
	refuses(t, right, odd, 0, api.ErrRange)
	refuses(t, right, odd, 1, api.ErrRange)
	refuses(t, right, long, 0, api.ErrMuch)
	refuses(t, right, long, 4001, api.ErrMuch)
	refuses(t, wrong, text, 0, api.ErrRange)
	refuses(t, wrong, long, 0, api.ErrRange)
	refuses(t, api.Rule{}, long, 0, api.ErrNone)
	refuses(t, api.Rule{}, odd, 0, api.ErrNone)
	refuses(t, rule("", letters(21), "", ""), odd, 0, api.ErrMany)
	for _, x := range faults {
		r := rule("b", "a", "c", "xy")
		x.spoil(&r)
		refuses(t, r, []rune("bac"), 1, x.err)
	}
}

func TestPutMuch(t *testing.T) {
	full := letters(4000)
	much := func(r api.Rule, text string, at int) {
		t.Helper()
		if ok, err := Matches(r, []rune(text), at); !ok || err != api.OK {
			t.Errorf("Matches(%v, .., %d): %v, %d", r, at, ok, err)
		}
		l, c, ok, err := Put(r, []rune(text), at)
		if len(l) != 0 || c != 0 || ok || err != api.ErrMuch {
			t.Errorf("Put(%v, .., %d): %d runes, %d, %v, %d, not none and ErrMuch", r, at, len(l), c, ok, err)
		}
	}
	much(rule("", "a", "", "xy"), full, 5)
	much(rule("", "a", "", "xy"), full, 3999)
	much(rule("", "aa", "a", "xyz"), full, 0)
	much(rule("", "a", "", letters(20)), full[:3982], 7)
	holds(t, rule("", "a", "", letters(20)), full[:3981], 7, full, 27)
	holds(t, rule("", "a", "", "x"), full, 3999, full[:3999]+"x", 4000)
	holds(t, rule("", "aa", "", "xy"), full, 0, "xy"+full[2:], 2)
	holds(t, rule("", "a", "", ""), full, 4, full[1:], 4)
	holds(t, rule("", "a", "", "xy"), full[1:], 0, "xy"+full[2:], 2)
	// What doesn't match isn't too much.
	fails(t, rule("", "b", "", "xy"), full, 5)
	fails(t, rule("", "a", "", "xy"), full, 4000)
}

// texts are all of a and b, up to that many runes.
func texts(most int) [][]rune {
	l := [][]rune{nil}
	for from := 0; len(l[from]) < most; from++ {
		l = append(l, append(slices.Clone(l[from]), 'a'), append(slices.Clone(l[from]), 'b'))
	}
	return l
}

// patterns are all lists of the sets of a, of b, and of all, from least to most long.
func patterns(least, most int) [][][]api.Span {
	kinds := list(set(span('a', 'a')), set(span('b', 'b')), every)
	all := [][][]api.Span{nil}
	for from := 0; len(all[from]) < most; from++ {
		for _, s := range kinds {
			all = append(all, append(slices.Clone(all[from]), s))
		}
	}
	return slices.DeleteFunc(all, func(l [][]api.Span) bool { return len(l) < least })
}

// compare holds a rule against the oracle, at all places of a text, and tells at how many it matches.
func compare(t *testing.T, o oracle, text []rune) int {
	t.Helper()
	n := 0
	for at := range len(text) + 1 {
		want, cursor, ok := o.put(text, at)
		if !ok {
			fails(t, o.rule, string(text), at)
			continue
		}
		n++
		holds(t, o.rule, string(text), at, want, cursor)
	}
	return n
}

// TestAnotherWay holds all short rules against oracle_test.go, over all short texts of two letters.
func TestAnotherWay(t *testing.T) {
	all, n := texts(4), 0
	for _, source := range patterns(1, 2) {
		for _, before := range patterns(0, 2) {
			for _, after := range patterns(0, 2) {
				for k := range 4 {
					o := newOracle(api.Rule{Start: k&1 > 0, End: k&2 > 0, Before: before, Source: source, After: after, Target: []rune("xyz")[:k], Cursor: k / 2})
					for _, text := range all {
						n += compare(t, o, text)
					}
				}
			}
		}
	}
	if n < 10000 {
		t.Errorf("only %d matches", n)
	}
}

// TestAnotherWayLong does so with longer rules, whose sets are made of the text that they are tried on, but for one of them at times.
func TestAnotherWayLong(t *testing.T) {
	seed := 1
	next := func(below int) int {
		seed = (seed*1103515245 + 12345) & (1<<31 - 1)
		return (seed >> 8) % below
	}
	alphabet := []rune{0, 'a', 'b', 'c', 0xe9, 55295, 57344, api.MaxRune}
	around := func(r rune) []api.Span {
		return set(span(max(0, r-rune(next(3))), min(api.MaxRune, r+rune(next(3)))))
	}
	matched := 0
	for range 3000 {
		var text []rune
		for range 1 + next(70) {
			text = append(text, alphabet[next(len(alphabet))])
		}
		var all [][]api.Span
		from := next(len(text))
		for _, r := range text[from:min(len(text), from+1+next(60))] {
			all = append(all, around(r))
		}
		if next(3) == 0 {
			all[next(len(all))] = around(alphabet[next(len(alphabet))])
		}
		source := min(len(all)-1, next(21))
		after := min(len(all), source+1+next(20))
		r := api.Rule{Start: next(4) == 0, End: next(4) == 0, Before: all[:source], Source: all[source:after], After: all[after:min(len(all), after+20)], Target: text[:min(len(text), next(21))]}
		r.Cursor = next(len(r.Target) + 1)
		matched += min(1, compare(t, newOracle(r), text))
	}
	if matched < 1000 || matched > 2900 {
		t.Errorf("%d of 3000 match somewhere", matched)
	}
}

// TestMatchesAnywhere: what matches does so whatever else stands around, unless it looks for the ends.
func TestMatchesAnywhere(t *testing.T) {
	r := api.Rule{Before: each("a"), Source: list(every), After: each("b"), Target: []rune("xy"), Cursor: 1}
	for _, text := range texts(5) {
		for at := range len(text) + 1 {
			got, c, ok, _ := Put(r, text, at)
			if !ok {
				continue
			}
			for _, more := range []string{"", "a", "zz"} {
				holds(t, r, more+string(text)+more, len(more)+at, more+string(got)+more, len(more)+c)
				if len(more) > 0 {
					fails(t, starting(r), more+string(text), len(more)+at)
					fails(t, ending(r), string(text)+more, at)
				}
			}
		}
	}
}

// Views

// TestHere: a list and a text with a gap, wherever that is, are matched alike.
func TestHere(t *testing.T) {
	rules := []api.Rule{rule("", "a", "", ""), rule("a", "b", "", ""), rule("b", "ab", "a", ""), starting(rule("a", "b", "", "")), ending(rule("", "b", "a", "")), starting(ending(rule("a", "a", "b", "")))}
	n := 0
	for _, text := range texts(5) {
		x, _ := gap.New(text...)
		for from := range len(text) + 1 {
			x.Move(from)
			for at := range len(text) + 1 {
				for _, r := range rules {
					want, _ := Matches(r, text, at)
					for _, v := range []View{List(text), x} {
						if got := Here(r, v, at); got != want {
							t.Errorf("Here(%v, %v, %d): %v", r, v, at, got)
						}
					}
					if want {
						n++
					}
				}
			}
		}
	}
	if n < 100 {
		t.Errorf("only %d matches", n)
	}
}

func TestHereNowhere(t *testing.T) {
	for _, at := range []int{math.MinInt, math.MinInt + 1, -1, 3, math.MaxInt - 1, math.MaxInt} {
		for _, r := range []api.Rule{{}, {Source: list(every)}, {Before: list(every), Source: list(every), After: list(every)}} {
			if Here(r, List("ab"), at) {
				t.Errorf("Here(%v, .., %d)", r, at)
			}
		}
	}
}

func TestList(t *testing.T) {
	l := List("ab")
	if l.Len() != 2 || l.At(0) != 'a' || l.At(1) != 'b' || List(nil).Len() != 0 {
		t.Errorf("%d runes: %d, %d", l.Len(), l.At(0), l.At(1))
	}
	for _, at := range []int{math.MinInt, -1, 2, math.MaxInt} {
		if l.At(at) >= 0 || List(nil).At(at) >= 0 {
			t.Errorf("%d stands at %d", l.At(at), at)
		}
	}
}

// Z2

// roomy is a rule and a text whose lists all have spare room, and there something that is wrong, or would match.
func roomy() (api.Rule, []rune) {
	spans := func(r rune) []api.Span { return set(span(r, r), span(-9, -10))[:1] }
	sets := func(l ...[]api.Span) [][]api.Span { return append(l, set(span(5, 4)))[:len(l)] }
	r := api.Rule{Before: sets(spans('a')), Source: sets(spans('b'), spans('c')), After: sets(spans('d')), Target: []rune{'x', 'y', -1}[:2], Cursor: 1}
	return r, []rune{'a', 'b', 'c', 'd', -1, -2}[:4]
}

// whole is all that a rule and a text have, spare room and all.
func whole(r api.Rule, text []rune) []any {
	out := []any{slices.Clone(text[:cap(text)]), slices.Clone(r.Target[:cap(r.Target)])}
	for _, l := range [][][]api.Span{r.Before, r.Source, r.After} {
		for _, s := range l[:cap(l)] {
			out = append(out, slices.Clone(s[:cap(s)]))
		}
	}
	return out
}

func TestWhatIsHandedInIsOnlyRead(t *testing.T) {
	r, text := roomy()
	want := whole(r, text)
	if err := Wrong(r); err != api.OK {
		t.Errorf("Wrong: %d", err)
	}
	if err := Text(text); err != api.OK {
		t.Errorf("Text: %d", err)
	}
	if ok, err := Matches(r, text, 1); !ok || err != api.OK {
		t.Errorf("Matches: %v, %d", ok, err)
	}
	for range 2 {
		got, c, ok, err := Put(r, text, 1)
		if string(got) != "axyd" || c != 2 || !ok || err != api.OK {
			t.Errorf("Put: %q, %d, %v, %d", string(got), c, ok, err)
		}
		if !reflect.DeepEqual(whole(r, text), want) {
			t.Errorf("%v, not %v", whole(r, text), want)
		}
		for i := range got[:cap(got)] {
			got[:cap(got)][i] = -7
		}
		if !reflect.DeepEqual(whole(r, text), want) {
			t.Errorf("the answer shares memory: %v, not %v", whole(r, text), want)
		}
	}
	got, _, _, _ := Put(r, text, 1)
	clear(text[:cap(text)])
	clear(r.Target[:cap(r.Target)])
	if string(got) != "axyd" {
		t.Errorf("the answer has become %q", string(got))
	}
}

// What stands in the text's spare room is not there.
func TestSpareRoomIsNotLookedAt(t *testing.T) {
	text := []rune("abc")
	for n := range 3 {
		refuses(t, rule("", "abc", "", "x"), text[:n], 0, api.OK)
		refuses(t, rule("", "a", "bc", "x"), text[:n], 0, api.OK)
	}
	l, c, ok, err := Put(ending(rule("", "a", "", "")), text[:1], 0)
	if len(l) != 0 || c != 0 || !ok || err != api.OK {
		t.Errorf("%v, %d, %v, %d", l, c, ok, err)
	}
	if string(text) != "abc" {
		t.Errorf("the text has become %q", string(text))
	}
}

// Z3

func TestNilAndNoEntries(t *testing.T) {
	r := api.Rule{Before: list(), Source: each("a"), After: list(), Target: []rune{}}
	holds(t, r, "a", 0, "", 0)
	refuses(t, r, []rune{}, 0, api.OK)
	refuses(t, r, nil, 0, api.OK)
	refuses(t, r, []rune{}, 1, api.ErrRange)
	for _, s := range [][]api.Span{nil, {}} {
		fails(t, api.Rule{Source: list(s)}, "a", 0)
	}
	for _, l := range [][][]api.Span{nil, {}} {
		if err := Wrong(api.Rule{Source: l}); err != api.ErrNone {
			t.Errorf("%d", err)
		}
	}
}
