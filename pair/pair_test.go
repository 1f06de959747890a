package pair

import (
	"math"
	"reflect"
	"slices"
	"strings"
	"testing"

	"scriptshift/api"
	"scriptshift/resolve"
	"scriptshift/rulesyn"
	"scriptshift/run"
)

func span(low, high rune) api.Span { return api.Span{Low: low, High: high} }

func set(l ...api.Span) []api.Span { return l }

func list(l ...[]api.Span) [][]api.Span { return l }

// singles is a set of its own for each rune.
func singles(s string) [][]api.Span {
	var l [][]api.Span
	for _, r := range s {
		l = append(l, set(span(r, r)))
	}
	return l
}

// rule has its cursor behind its target.
func rule(before, source, after, target string) api.Rule {
	t := []rune(target)
	return api.Rule{Before: singles(before), Source: singles(source), After: singles(after), Target: t, Cursor: len(t)}
}

// of has those sets, and its cursor behind its target.
func of(target string, l ...[]api.Span) api.Rule {
	t := []rune(target)
	return api.Rule{Source: l, Target: t, Cursor: len(t)}
}

// to are rules: source, target, source, target.
func to(s ...string) []api.Rule {
	var l []api.Rule
	for k := 0; k+1 < len(s); k += 2 {
		l = append(l, rule("", s[k], "", s[k+1]))
	}
	return l
}

func starting(r api.Rule) api.Rule {
	r.Start = true
	return r
}

func ending(r api.Rule) api.Rule {
	r.End = true
	return r
}

func cursor(r api.Rule, at int) api.Rule {
	r.Cursor = at
	return r
}

// letters is a domain: those of a text, which rise.
func letters(s string) []api.Span {
	var l []api.Span
	for _, r := range s {
		if n := len(l); n > 0 && l[n-1].High == r-1 {
			l[n-1].High = r
			continue
		}
		l = append(l, span(r, r))
	}
	return l
}

// tells is that Sure tells that, where nothing is wrong; what it calls sure is undone indeed.
func tells(t *testing.T, want bool, forth, back []api.Rule, domain []api.Span) {
	t.Helper()
	got, err := Sure(forth, back, domain)
	if got != want || err != api.OK {
		t.Errorf("Sure(%v, %v, %v): %v, %d, not %v", brief(forth), brief(back), domain, got, err, want)
	}
	if got {
		undone(t, forth, back, domain)
	}
}

// refuses is that Sure tells that error, and false beside it.
func refuses(t *testing.T, forth, back []api.Rule, domain []api.Span, want api.Errno) {
	t.Helper()
	if got, err := Sure(forth, back, domain); got || err != want {
		t.Errorf("Sure(%v, %v, %v): %v, %d, not false, %d", brief(forth), brief(back), domain[:min(3, len(domain))], got, err, want)
	}
}

// brief is what is told of rules, lest it become too long.
func brief(l []api.Rule) []api.Rule { return l[:min(5, len(l))] }

// undone is that of what comes by forth comes the text again by back, for all short texts of the domain's first runes, so that no two come to the same.
func undone(t *testing.T, forth, back []api.Rule, domain []api.Span) {
	t.Helper()
	seen := map[string]string{}
	for _, text := range texts(rights(domain), 4) {
		there, f := run.Run(forth, text)
		if f != (api.Fault{}) {
			t.Errorf("forth of %q: %v", string(text), f)
		}
		again, f := run.Run(back, there.Text)
		if f != (api.Fault{}) || !slices.Equal(again.Text, text) {
			t.Errorf("%q becomes %q, and that %q, %v", string(text), string(there.Text), string(again.Text), f)
		}
		if other, ok := seen[string(there.Text)]; ok {
			t.Errorf("%q and %q both become %q", other, string(text), string(there.Text))
		}
		seen[string(there.Text)] = string(text)
	}
}

// rights are the first four right runes of a domain.
func rights(domain []api.Span) []rune {
	var l []rune
	for _, s := range domain {
		for r := s.Low; r <= s.High && len(l) < 4; r++ {
			if r < 55296 || r > 57343 {
				l = append(l, r)
			}
		}
	}
	return l
}

// texts are all of those runes, of at most n.
func texts(l []rune, n int) [][]rune {
	out := [][]rune{nil}
	if n == 0 {
		return out
	}
	for _, rest := range texts(l, n-1) {
		for _, r := range l {
			out = append(out, append([]rune{r}, rest...))
		}
	}
	return out
}

func TestUndone(t *testing.T) {
	// The document's example 14.
	tells(t, true, to("a", "b"), to("b", "a"), letters("a"))
	tells(t, false, to("a", "b"), to("b", "a"), letters("ab"))
	tells(t, true, to("a", "b"), to("b", "a"), letters("acdz"))
	tells(t, true, to("a", "b", "b", "a"), to("a", "b", "b", "a"), letters("ab"))
	tells(t, true, to("a", "b", "b", "c", "c", "a"), to("b", "a", "c", "b", "a", "c"), letters("abc"))
	tells(t, false, to("a", "b", "b", "c", "c", "a"), to("b", "a", "c", "b", "a", "b"), letters("abc"))
	tells(t, true, to("ü", "ue", "ö", "oe"), to("ue", "ü", "oe", "ö"), letters("göü"))
	// u ahead of e becomes what ü does.
	tells(t, false, to("ü", "ue"), to("ue", "ü"), letters("euü"))
	tells(t, true, to("ü", "ue"), to("ue", "ü"), letters("uü"))
	tells(t, false, to("a", "x", "b", "x"), to("x", "a"), letters("ab"))
	tells(t, false, to("a", "b"), nil, letters("a"))
	tells(t, true, to("a", "b"), nil, letters("b"))
	tells(t, true, nil, nil, letters("abc"))
	tells(t, false, nil, to("b", "a"), letters("abc"))
	tells(t, true, nil, to("b", "a"), letters("ac"))
}

func TestFilesForthAndBack(t *testing.T) {
	for _, x := range []struct {
		file   string
		domain string
		want   bool
	}{
		{"a <> b ;", "a", true},
		{"a <> b ;", "ab", false},
		{"a <> b ; b <> a ;", "ab", true},
		{"ш <> sh ; с <> s ; х <> h ;", "сш", true},
		{"ш <> sh ; с <> s ; х <> h ;", "схш", false},
		{"с <> s ; ш <> sh ;", "сш", false},
		{"a > b ; c < b ;", "a", false},
		{"a { b > c ; b < c ;", "b", false},
		{"a <> x | y ;", "a", false},
	} {
		l, f := rulesyn.Read(x.file)
		if f != (api.Fault{}) {
			t.Fatalf("%s: %v", x.file, f)
		}
		forth, f := resolve.Forth(l)
		if f != (api.Fault{}) {
			t.Fatalf("%s: %v", x.file, f)
		}
		back, f := resolve.Back(l)
		if f != (api.Fault{}) {
			t.Fatalf("%s: %v", x.file, f)
		}
		tells(t, x.want, forth.Passes[0].Rules, back.Passes[0].Rules, letters(x.domain))
	}
}

// TestCursors: rules whose cursor doesn't go behind Target are not sure, whichever they are.
func TestCursors(t *testing.T) {
	here, there := rule("", "a", "", "bc"), rule("", "bc", "", "a")
	other := rule("", "y", "", "zz")
	domain := letters("a")
	tells(t, true, []api.Rule{here}, []api.Rule{there}, domain)
	for at := range 2 {
		tells(t, false, []api.Rule{cursor(here, at)}, []api.Rule{there}, domain)
		tells(t, false, []api.Rule{here, cursor(other, at)}, []api.Rule{there}, domain)
		tells(t, false, []api.Rule{here}, []api.Rule{there, cursor(other, at)}, domain)
		tells(t, false, nil, []api.Rule{cursor(other, at)}, nil)
		tells(t, false, []api.Rule{cursor(other, at)}, nil, nil)
	}
	tells(t, false, []api.Rule{here}, []api.Rule{cursor(there, 0)}, domain)
	tells(t, true, []api.Rule{here, other}, []api.Rule{there, other}, domain)
}

// TestAround: no rule looks at what stands around, be it one that never matches.
func TestAround(t *testing.T) {
	here, there := to("a", "b"), to("b", "a")
	domain := letters("a")
	never := rule("", "z", "", "z")
	tells(t, true, append(here, never), append(there, never), domain)
	for _, r := range []api.Rule{
		starting(never), ending(never), rule("y", "z", "", "z"), rule("", "z", "y", "z"),
		around(list(nil), nil), around(nil, list(nil)),
	} {
		tells(t, false, append(to("a", "b"), r), there, domain)
		tells(t, false, append([]api.Rule{r}, here...), there, domain)
		tells(t, false, here, append(to("b", "a"), r), domain)
		tells(t, false, here, append([]api.Rule{r}, there...), domain)
		tells(t, false, []api.Rule{r}, nil, nil)
		tells(t, false, nil, []api.Rule{r}, nil)
	}
	// Lists without entries are none.
	r := never
	r.Before, r.After = [][]api.Span{}, [][]api.Span{}
	tells(t, true, append(here, r), append(there, r), domain)
}

// around is a rule for z, with what stands around it.
func around(before, after [][]api.Span) api.Rule {
	r := of("z", letters("z"))
	r.Before, r.After = before, after
	return r
}

// TestLongSources: of forth, a rule with two sets or more is one that can't match.
func TestLongSources(t *testing.T) {
	ab := letters("ab")
	tells(t, false, to("ab", "x"), to("x", "z"), ab)
	tells(t, false, to("ab", "ab"), nil, ab)
	tells(t, false, to("aa", "aa"), nil, ab)
	tells(t, true, to("ax", "x"), nil, ab)
	tells(t, true, to("xa", "x"), nil, ab)
	tells(t, true, to("axb", "x"), nil, ab)
	tells(t, true, to("xy", "x"), nil, ab)
	tells(t, false, to("xy", "x", "ba", "x"), nil, ab)
	// Whether one ahead masks it makes no difference.
	tells(t, false, to("a", "x", "ab", "y"), to("x", "a"), ab)
	// One number of the domain is enough for a set.
	wide := set(span(0, api.MaxRune))
	tells(t, false, []api.Rule{of("ab", wide, wide)}, nil, ab)
	tells(t, false, []api.Rule{of("ab", set(span('b', 'z')), set(span(0, 'a')))}, nil, ab)
	tells(t, true, []api.Rule{of("ab", set(span('c', 'z')), set(span(0, 'a')))}, nil, ab)
	tells(t, true, []api.Rule{of("ab", set(span('b', 'z')), set(span(0, 'a'-1)))}, nil, ab)
	tells(t, true, []api.Rule{of("ab", set(span(0, 'a'-1), span('c', api.MaxRune)), wide)}, nil, ab)
	// A set that has none has none of domain's.
	tells(t, true, []api.Rule{of("ab", wide, nil)}, nil, ab)
	tells(t, true, []api.Rule{of("ab", nil, wide)}, nil, ab)
	// Such a rule is no one's image, though its sets have the number.
	tells(t, true, []api.Rule{of("x", wide, nil), of("y", letters("a"))}, to("y", "a"), letters("a"))
	// Gaps of the domain are not of it.
	tells(t, true, to("bb", "x"), nil, letters("ac"))
	tells(t, false, to("ac", "x"), nil, letters("ac"))
	tells(t, true, to(strings.Repeat("a", 19)+"x", "y"), nil, ab)
	tells(t, false, to(strings.Repeat("ab", 10), "y"), nil, ab)
}

// TestImages: the first rule of one set that has the number tells its image.
func TestImages(t *testing.T) {
	a := letters("a")
	tells(t, true, to("a", "x", "a", "y"), to("x", "a"), a)
	tells(t, false, to("a", "x", "a", "y"), to("y", "a"), a)
	tells(t, true, append(to("b", "y"), of("x", set(span('a', 'c')))), to("x", "a"), a)
	tells(t, true, append(to("b", "y"), of("x", set(span('a', 'c')))), to("x", "a", "y", "b"), letters("ab"))
	tells(t, false, append([]api.Rule{of("x", set(span('a', 'c')))}, to("b", "y")...), to("x", "a", "y", "b"), letters("ab"))
	// A number that is its own Target is as it was.
	tells(t, true, []api.Rule{of("z", set(span(0, api.MaxRune)))}, nil, letters("z"))
	tells(t, false, []api.Rule{of("z", set(span(0, api.MaxRune)))}, nil, letters("yz"))
	tells(t, true, to("a", "a"), to("a", "a"), a)
	tells(t, false, to("a", "a"), to("a", "b"), a)
	// No image is empty, be it of the last number.
	tells(t, false, to("a", ""), nil, a)
	tells(t, false, to("c", ""), nil, letters("abc"))
	tells(t, true, to("d", ""), nil, letters("abc"))
	tells(t, true, to("a", "x", "a", ""), to("x", "a"), a)
	tells(t, false, to("c", ""), to("c", "c"), letters("abc"))
}

// TestTwoImages: together they are at least as long as what a rule looks at.
func TestTwoImages(t *testing.T) {
	a, ab := letters("a"), letters("ab")
	tells(t, false, to("a", "P"), to("PPP", "x", "P", "a"), a)
	tells(t, false, to("a", "P"), to("P", "a", "PPP", "x"), a)
	tells(t, false, to("a", "P"), to("zzz", "x", "P", "a"), a)
	tells(t, true, to("a", "P"), to("zz", "x", "P", "a"), a)
	tells(t, false, to("a", "PQ"), to("zzzzz", "x", "PQ", "a"), a)
	tells(t, true, to("a", "PQ"), to("zzzz", "x", "PQ", "a"), a)
	// The shortest one may stand twice, beside however long a one.
	back := to("PQRS", "a", "T", "b")
	tells(t, false, to("a", "PQRS", "b", "T"), back, ab)
	tells(t, true, to("a", "PQRS", "b", "TT"), to("PQRS", "a", "TT", "b"), ab)
	tells(t, false, to("a", "PQ", "b", "T"), to("PQ", "a", "T", "b", "zzz", "z"), ab)
	tells(t, true, to("a", "PQ", "b", "T"), to("PQ", "a", "T", "b", "zz", "z"), ab)
	// A number that no rule has is as long as one.
	tells(t, false, to("a", "PQ"), to("PQ", "a", "zzz", "z"), ab)
	tells(t, true, nil, to("zz", "z"), ab)
	tells(t, false, nil, to("zzz", "z"), ab)
	tells(t, false, nil, []api.Rule{of("z", nil, nil, nil)}, ab)
	// Where there are none nothing is too long.
	tells(t, true, to("a", "P"), to("PPP", "x", "P", "a"), nil)
	long := strings.Repeat("x", 20)
	tells(t, true, to("a", long), to(long, "a"), a)
	tells(t, true, to("a", long, "b", long[:19]+"y"), to(long, "a", long[:19]+"y", "b"), ab)
	tells(t, false, to("a", long, "b", "yyyyyyyyy"), to(long, "a", "yyyyyyyyy", "b"), ab)
	tells(t, true, to("a", long, "b", "yyyyyyyyyy"), to(long, "a", "yyyyyyyyyy", "b"), ab)
}

// TestFirstThatMatches: of back, the first one counts, alone and with each image behind.
func TestFirstThatMatches(t *testing.T) {
	a, ab := letters("a"), letters("ab")
	// Alone: what matches is too short, another one, or none.
	tells(t, true, to("a", "PQ"), to("PQ", "a"), a)
	tells(t, false, to("a", "PQ"), to("P", "a"), a)
	tells(t, false, to("a", "PQ"), to("P", "a", "PQ", "a"), a)
	tells(t, true, to("a", "PQ"), to("PQ", "a", "P", "z"), a)
	tells(t, false, to("a", "PQ"), to("PQ", "b"), a)
	tells(t, false, to("a", "PQ"), to("PQ", "aa"), a)
	tells(t, false, to("a", "PQ"), to("PQ", ""), a)
	tells(t, false, to("a", "PQ"), to("QP", "a"), a)
	tells(t, false, to("a", "PQ"), to("Q", "a"), a)
	// None matches, and the image is one rune, but another one; or begins with the number.
	tells(t, false, to("a", "b"), nil, a)
	tells(t, false, to("a", "ab"), nil, a)
	tells(t, false, to("a", "aa"), nil, a)
	// With each behind, in whichever order, and with itself.
	tells(t, true, to("a", "PQ", "b", "P"), to("PQ", "a", "P", "b"), ab)
	tells(t, false, to("a", "PQ", "b", "P"), to("P", "b", "PQ", "a"), ab)
	tells(t, false, to("a", "PQ", "b", "P", "c", "Q"), to("PQ", "a", "P", "b", "Q", "c"), letters("abc"))
	tells(t, false, to("a", "Q", "b", "P"), to("PQ", "z", "P", "b", "Q", "a"), ab)
	tells(t, false, to("a", "P", "b", "Q"), to("PQ", "z", "P", "a", "Q", "b"), ab)
	tells(t, true, to("a", "P", "b", "Q"), to("P", "a", "Q", "b", "PQ", "z"), ab)
	tells(t, false, to("a", "P"), to("PP", "z", "P", "a"), a)
	tells(t, true, to("a", "P"), to("P", "a", "PP", "z"), a)
	tells(t, false, nil, to("aa", "a"), a)
	tells(t, false, nil, to("ba", "ba"), ab)
	tells(t, true, nil, to("bc", "d"), ab)
	// What matches with one behind must be as long as the image, be its Target right.
	tells(t, false, to("a", "P"), to("PP", "a", "P", "a"), a)
	tells(t, false, to("a", "PQ"), to("PQP", "a", "PQ", "a"), a)
	// None of the domain's images follows with a third letter.
	tells(t, true, to("a", "PQ"), to("PQR", "z", "PQ", "a"), a)
	tells(t, true, to("a", "PQ"), to("PQPR", "z", "PQ", "a"), a)
	// Back may have the letters of the domain, too.
	tells(t, true, to("a", "b", "b", "bb"), to("x", "y", "bb", "b", "b", "a"), letters("b"))
	tells(t, false, to("a", "b", "b", "bb"), to("bb", "b", "b", "a"), ab)
	// Sets, and not letters alone.
	vowel := set(span('A', 'B'))
	tells(t, true, to("a", "A"), []api.Rule{of("a", vowel)}, a)
	tells(t, false, to("a", "A", "b", "B"), []api.Rule{of("a", vowel), of("b", vowel)}, ab)
	tells(t, true, to("a", "A", "b", "B"), []api.Rule{of("z", nil), of("a", letters("A")), of("b", vowel)}, ab)
}

func TestDomainWithoutNumbers(t *testing.T) {
	for _, domain := range [][]api.Span{nil, {}} {
		tells(t, true, nil, nil, domain)
		tells(t, true, []api.Rule{}, []api.Rule{}, domain)
		tells(t, true, to("a", "", "ab", "x"), to("abc", "x"), domain)
		tells(t, false, []api.Rule{cursor(rule("", "a", "", "b"), 0)}, nil, domain)
		tells(t, false, nil, []api.Rule{starting(rule("", "a", "", "b"))}, domain)
	}
}

// TestNumbersThatAreNoRunes: a domain has numbers, right runes or not.
func TestNumbersThatAreNoRunes(t *testing.T) {
	spoilt := set(span(55295, 55297))
	tells(t, true, nil, nil, spoilt)
	tells(t, true, nil, nil, set(span(0, 0), span(api.MaxRune, api.MaxRune)))
	tells(t, true, []api.Rule{of("x", set(span(55296, 55296)))}, nil, letters("a"))
	// They are matched as others are, and nothing can make them again.
	tells(t, false, []api.Rule{of("x", set(span(55296, 55296)))}, to("x", "a"), spoilt)
	tells(t, false, nil, []api.Rule{of("x", set(span(55297, 55297)))}, spoilt)
	tells(t, false, nil, []api.Rule{of("x", set(span(55297, 55297)), set(span(55295, 55295)))}, spoilt)
	tells(t, true, nil, []api.Rule{of("x", set(span(55298, 55298)))}, spoilt)
	tells(t, false, []api.Rule{of("x", spoilt, spoilt)}, nil, spoilt)
}

// wrongs are rules with which something is wrong.
var wrongs = []struct {
	l   []api.Rule
	err api.Errno
}{
	{[]api.Rule{{}}, api.ErrNone},
	{[]api.Rule{rule("a", "", "b", "c")}, api.ErrNone},
	{append(to("a", "b"), api.Rule{}), api.ErrNone},
	{to(strings.Repeat("a", 21), ""), api.ErrMany},
	{to("a", strings.Repeat("a", 21)), api.ErrMany},
	{[]api.Rule{rule(strings.Repeat("a", 21), "a", "", "")}, api.ErrMany},
	{[]api.Rule{rule("", "a", strings.Repeat("a", 21), "")}, api.ErrMany},
	{slices.Repeat(to("a", "b"), 201), api.ErrMany},
	{make([]api.Rule, 201), api.ErrMany},
	{[]api.Rule{cursor(rule("", "a", "", "b"), 2)}, api.ErrRange},
	{[]api.Rule{cursor(rule("", "a", "", "b"), -1)}, api.ErrRange},
	{[]api.Rule{cursor(rule("", "a", "", "b"), math.MaxInt)}, api.ErrRange},
	{[]api.Rule{{Source: singles("a"), Target: []rune{55296}, Cursor: 1}}, api.ErrRange},
	{append(to("a", "b", "a", "b"), of("x", set(span(5, 1)))), api.ErrRange},
	{[]api.Rule{of("x", set(span(1, 2), span(3, 4)))}, api.ErrForm},
}

// wrongDomains are no sets, or too great.
var wrongDomains = []struct {
	s   []api.Span
	err api.Errno
}{
	{set(span('b', 'a')), api.ErrRange},
	{set(span(-1, 1)), api.ErrRange},
	{set(span(math.MinInt32, math.MaxInt32)), api.ErrRange},
	{set(span(0, api.MaxRune+1)), api.ErrRange},
	{set(span(1, 2), span(3, 4)), api.ErrForm},
	{set(span(5, 6), span(1, 2)), api.ErrForm},
	{set(span(1, 1), span(1, 1)), api.ErrForm},
	{make([]api.Span, 201), api.ErrMany},
	{set(span(1, 41)), api.ErrMuch},
	{set(span(0, api.MaxRune)), api.ErrMuch},
	{set(span(1, 40), span(50, 50)), api.ErrMuch},
	{every(41), api.ErrMuch},
	{every(200), api.ErrMuch},
}

// every has each second number, n of them.
func every(n int) []api.Span {
	l := make([]api.Span, n)
	for k := range l {
		l[k] = span(rune(2*k), rune(2*k))
	}
	return l
}

func TestWrongInputs(t *testing.T) {
	right := to("a", "b")
	for _, x := range wrongs {
		refuses(t, x.l, nil, letters("a"), x.err)
		refuses(t, nil, x.l, letters("a"), x.err)
		refuses(t, right, x.l, nil, x.err)
		// Rules that are not sure are no error, so that it is told all the same.
		refuses(t, []api.Rule{cursor(right[0], 0)}, x.l, letters("a"), x.err)
	}
	for _, x := range wrongDomains {
		refuses(t, nil, nil, x.s, x.err)
		refuses(t, right, right, x.s, x.err)
		refuses(t, []api.Rule{cursor(right[0], 0)}, []api.Rule{starting(right[0])}, x.s, x.err)
	}
}

// TestWhatIsToldFirst: forth, back, domain.
func TestWhatIsToldFirst(t *testing.T) {
	for _, x := range wrongs {
		for _, y := range wrongs {
			refuses(t, x.l, y.l, letters("a"), x.err)
			for _, z := range wrongDomains {
				refuses(t, x.l, y.l, z.s, x.err)
			}
		}
		for _, z := range wrongDomains {
			refuses(t, nil, x.l, z.s, x.err)
		}
	}
	// What is wrong with a domain is told ahead of how much it has.
	refuses(t, nil, nil, set(span(1, 100), span(101, 102)), api.ErrForm)
	refuses(t, nil, nil, set(span(1, 100), span(105, 104)), api.ErrRange)
}

func TestMost(t *testing.T) {
	tells(t, true, nil, nil, set(span(1, 40)))
	tells(t, true, nil, nil, set(span(api.MaxRune-39, api.MaxRune)))
	tells(t, true, nil, nil, every(40))
	// 200 rules, and the last one counts.
	fill := slices.Repeat(to("z", "z"), 199)
	here, there := append(slices.Clone(fill), to("a", "b")...), append(slices.Clone(fill), to("b", "a")...)
	tells(t, true, here, there, letters("a"))
	tells(t, false, here, fill, letters("a"))
	tells(t, false, fill, there, letters("ab"))
	// The last of 40 numbers, and the last pair of them.
	domain := set(span(1, 40))
	tells(t, false, []api.Rule{of("", set(span(40, 40)))}, nil, domain)
	tells(t, false, nil, []api.Rule{of("x", set(span(40, 40)), set(span(40, 40)))}, domain)
	tells(t, false, nil, []api.Rule{of("x", set(span(40, 40)), set(span(1, 1)))}, domain)
	tells(t, false, nil, []api.Rule{of("x", set(span(1, 1)), set(span(40, 40)))}, domain)
	tells(t, true, nil, []api.Rule{of("x", set(span(40, 40)), set(span(41, 41)))}, domain)
}

// TestGreat: as much of everything as there may be.
func TestGreat(t *testing.T) {
	domain := set(span(1, 40))
	var forth, back []api.Rule
	for r := rune(1); r <= 40; r++ {
		image := append(slices.Repeat([]rune{'x'}, 19), 1000+r)
		forth = append(forth, api.Rule{Source: list(set(span(r, r))), Target: image, Cursor: 20})
		source := list(slices.Repeat([][]api.Span{every(200)}, 19)...)
		back = append(back, api.Rule{Source: append(source, set(span(1000+r, 1000+r))), Target: []rune{r}, Cursor: 1})
	}
	never := slices.Repeat(list(every(200)), 20)
	never[19] = set(span(999, 999))
	back = append(slices.Repeat([]api.Rule{{Source: never}}, 160), back...)
	tells(t, true, forth, back, domain)
}

// TestNothingIsTouched: neither what is handed in, nor the spare room behind it.
func TestNothingIsTouched(t *testing.T) {
	inputs := func() ([]api.Rule, []api.Rule, []api.Span) {
		forth := roomy(to("a", "PQ", "b", "P", "xy", "z"))
		back := roomy(to("PQ", "a", "P", "b"))
		for _, l := range [][]api.Rule{forth, back} {
			for k := range l {
				l[k].Source, l[k].Target = roomy(l[k].Source), roomy(l[k].Target)
				for i := range l[k].Source {
					l[k].Source[i] = roomy(l[k].Source[i])
				}
			}
		}
		return forth, back, roomy(letters("ab"))
	}
	forth, back, domain := inputs()
	tells(t, true, forth, back, domain)
	wantForth, wantBack, wantDomain := inputs()
	for _, x := range [][2][]api.Rule{{forth, wantForth}, {back, wantBack}} {
		if !reflect.DeepEqual(x[0][:cap(x[0])], x[1][:cap(x[1])]) {
			t.Errorf("%v became %v", x[1], x[0])
		}
		for k := range x[0] {
			a, b := x[0][k], x[1][k]
			if !slices.Equal(a.Target[:cap(a.Target)], b.Target[:cap(b.Target)]) || !reflect.DeepEqual(a.Source[:cap(a.Source)], b.Source[:cap(b.Source)]) {
				t.Errorf("%v became %v", b, a)
			}
		}
	}
	if !slices.Equal(domain[:cap(domain)], wantDomain[:cap(wantDomain)]) {
		t.Errorf("the domain became %v", domain)
	}
	// Spare room is not looked at.
	if got, err := Sure(to("a", "b", "ab", "x")[:1], to("b", "a", "b", "z")[:1], letters("ac")[:1]); !got || err != api.OK {
		t.Errorf("with more behind: %v, %d", got, err)
	}
}

// roomy is the list with room behind it.
func roomy[T any](l []T) []T {
	out := make([]T, len(l), len(l)+3)
	copy(out, l)
	return out
}

// dice is a row of numbers that is always the same.
type dice uint32

func (d *dice) of(n int) int {
	*d = *d*1664525 + 1013904223
	return int(*d>>8) % n
}

// some is a text of those letters, of at least low and at most high.
func (d *dice) some(letters string, low, high int) string {
	l := []rune(letters)
	var out []rune
	for range low + d.of(high-low+1) {
		out = append(out, l[d.of(len(l))])
	}
	return string(out)
}

// sets are some of those letters, in each place.
func (d *dice) sets(letters string, n int) [][]api.Span {
	var out [][]api.Span
	for range n {
		var s []api.Span
		for _, r := range letters {
			if d.of(3) == 0 && (len(s) == 0 || s[len(s)-1].High < r-1) {
				s = append(s, span(r, r+rune(d.of(2))))
			}
		}
		out = append(out, s)
	}
	return out
}

// pairs are rules forth and back: mostly ones that undo each other, with some that may spoil it.
func (d *dice) pairs() ([]api.Rule, []api.Rule) {
	var forth, back []api.Rule
	for _, r := range "abcd" {
		if d.of(3) == 0 {
			continue
		}
		image := d.some("PQRSTUab", 1, 2)
		if d.of(30) == 0 {
			image = ""
		}
		forth = append(forth, rule("", string(r), "", image))
		if image != "" && d.of(12) > 0 {
			back = append(back, rule("", image, "", string(r)))
		}
	}
	slices.SortStableFunc(back, func(a, b api.Rule) int { return len(b.Source) - len(a.Source) })
	for d.of(3) == 0 {
		forth = slices.Insert(forth, d.of(len(forth)+1), of(d.some("PQab", 0, 2), d.sets("acegi", 1+d.of(3))...))
	}
	for d.of(3) == 0 {
		back = slices.Insert(back, d.of(len(back)+1), of(d.some("PQab", 0, 2), d.sets("PRTVa", 1+d.of(3))...))
	}
	d.spoil(forth)
	d.spoil(back)
	return forth, back
}

// spoil makes one of the rules look around, or stay, now and then.
func (d *dice) spoil(l []api.Rule) {
	if len(l) == 0 {
		return
	}
	r := &l[d.of(len(l))]
	switch d.of(60) {
	case 0:
		r.Start = true
	case 1:
		r.End = true
	case 2:
		r.Before = singles("a")
	case 3:
		r.After = singles("P")
	case 4:
		r.Cursor = 0
	}
}

// TestSecondWay holds Sure against what expressions over strings tell, and what is sure against what comes of texts.
func TestSecondWay(t *testing.T) {
	var d dice = 14
	domains := []string{"", "a", "ab", "bc", "abc", "abcd", "ad", "PQab", "Rac", "Tbd"}
	count := map[bool]int{}
	for range 20000 {
		forth, back := d.pairs()
		domain := domains[d.of(len(domains))]
		want := oracleSure(forth, back, []rune(domain))
		tells(t, want, forth, back, letters(domain))
		count[want]++
	}
	if count[true] < 3000 || count[false] < 3000 {
		t.Errorf("too few of one kind: %v", count)
	}
}
