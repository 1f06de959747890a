package words

import (
	"math"
	"reflect"
	"slices"
	"strings"
	"testing"
	"unicode/utf8"

	"scriptshift/api"
	"scriptshift/chain"
	"scriptshift/sets"
)

func span(low, high rune) api.Span { return api.Span{Low: low, High: high} }

func set(l ...api.Span) []api.Span { return l }

// singles is a set of its own for each rune.
func singles(s string) [][]api.Span {
	var l [][]api.Span
	for _, r := range s {
		l = append(l, set(span(r, r)))
	}
	return l
}

// rule has its cursor behind its target.
func rule(before, source, after, target string) api.Rule {
	t := []rune(target)
	return api.Rule{Before: singles(before), Source: singles(source), After: singles(after), Target: t, Cursor: len(t)}
}

func plain(source, target string) api.Rule { return rule("", source, "", target) }

func starting(r api.Rule) api.Rule {
	r.Start = true
	return r
}

func ending(r api.Rule) api.Rule {
	r.End = true
	return r
}

func cursor(r api.Rule, at int) api.Rule {
	r.Cursor = at
	return r
}

// by is the pass of that name.
func by(name string) api.Pass { return api.Pass{Name: name} }

// of is the pass of those rules.
func of(l ...api.Rule) api.Pass { return api.Pass{Rules: l} }

// script is one for all runes.
func script(l ...api.Pass) api.Script { return api.Script{Passes: l} }

// only is one for runes of that set alone.
func only(s []api.Span, l ...api.Pass) api.Script {
	return api.Script{Some: true, Only: s, Passes: l}
}

func fault(err api.Errno, at int) api.Fault { return api.Fault{Err: err, At: at} }

func in(from, to int) api.Word { return api.Word{From: from, To: to, In: true} }

func not(from, to int) api.Word { return api.Word{From: from, To: to} }

var (
	every = set(span(0, api.MaxRune))
	small = set(span('a', 'z'))
	latin = set(span('A', 'Z'), span('a', 'z'), span(192, 300))
)

// edges are right runes beside those that are not.
const edges = "\x00\ud7ff\ue000\ufffd\U0010ffff"

// splits is that Split tells those, where nothing is wrong.
func splits(t *testing.T, letters []api.Span, text string, want ...api.Word) {
	t.Helper()
	if got, err := Split(letters, []rune(text)); !slices.Equal(got, want) || err != api.OK {
		t.Errorf("Split(%v, %.60q): %v, %v, not %v", letters, text, got[:min(20, len(got))], err, want[:min(20, len(want))])
	}
}

// titles is that Title tells that, where nothing is wrong.
func titles(t *testing.T, letters []api.Span, text, want string) {
	t.Helper()
	if got, err := Title(letters, []rune(text)); string(got) != want || err != api.OK {
		t.Errorf("Title(%v, %.60q): %.60q, %v, not %.60q", letters, text, string(got), err, want)
	}
}

// comes is that Each tells that, where nothing is wrong.
func comes(t *testing.T, letters []api.Span, s api.Script, text, want string) {
	t.Helper()
	if got, f := Each(letters, s, []rune(text)); string(got) != want || f != (api.Fault{}) {
		t.Errorf("Each(%v, %v, %.60q): %.60q, %v, not %.60q", letters, s, text, string(got), f, want)
	}
}

// halts is that Each tells that fault, and nothing beside it.
func halts(t *testing.T, letters []api.Span, s api.Script, text []rune, want api.Fault) {
	t.Helper()
	if got, f := Each(letters, s, text); len(got) != 0 || f != want {
		t.Errorf("Each(%d spans, %d passes, %d runes): %d runes, %v, not none, %v", len(letters), len(s.Passes), len(text), len(got), f, want)
	}
}

// refuses is that all calls tell that error, and nothing beside it, whatever the script is, if that is right.
func refuses(t *testing.T, letters []api.Span, text []rune, want api.Errno) {
	t.Helper()
	if got, err := Split(letters, text); len(got) != 0 || err != want {
		t.Errorf("Split(%d spans, %d runes): %d words, %v, not none, %v", len(letters), len(text), len(got), err, want)
	}
	if got, err := Title(letters, text); len(got) != 0 || err != want {
		t.Errorf("Title(%d spans, %d runes): %d runes, %v, not none, %v", len(letters), len(text), len(got), err, want)
	}
	for _, s := range rightScripts() {
		halts(t, letters, s, text, fault(want, 0))
	}
}

// loop are rules that never end where there is a b.
var loop = of(cursor(plain("b", "b"), 0))

// crowded are rules with which nothing is wrong, but which have one head too many: every third rune makes two, and what is ahead of them all makes one.
func crowded() api.Pass {
	var l []api.Rule
	for k := range rune(200) {
		l = append(l, plain(string(1+3*k), "!"))
	}
	return of(l...)
}

// rightScripts are some with which nothing is wrong, though some of them would not end, or make too much.
func rightScripts() []api.Script {
	return []api.Script{
		{}, script(by("upper")), script(by("null"), loop), script(by("remove"), by("lower")), script(crowded()),
		script(of(plain("a", "bb"))), only(nil, by("remove")), only(small, loop), only(every, loop),
	}
}

// Q1, Split

func TestSplit(t *testing.T) {
	// The document's example 17.
	splits(t, small, "ab c", in(0, 2), not(2, 3), in(3, 4))
	splits(t, small, "")
	splits(t, small, "a", in(0, 1))
	splits(t, small, "A", not(0, 1))
	splits(t, small, "abc", in(0, 3))
	splits(t, small, " - ", not(0, 3))
	splits(t, small, "  ab--cd  ", not(0, 2), in(2, 4), not(4, 6), in(6, 8), not(8, 10))
	splits(t, small, "aXbYc", in(0, 1), not(1, 2), in(2, 3), not(3, 4), in(4, 5))
	splits(t, latin, "über ÄRGER!", in(0, 4), not(4, 5), in(5, 10), not(10, 11))
	// Runes of two spans are one piece, and so are those of no span.
	splits(t, set(span('a', 'b'), span('y', 'z')), "aybzcmx", in(0, 4), not(4, 7))
	splits(t, nil, "ab c", not(0, 4))
	splits(t, every, "ab c", in(0, 4))
	splits(t, nil, "")
	splits(t, every, "")
	splits(t, every, edges, in(0, 5))
	splits(t, nil, edges, not(0, 5))
	splits(t, set(span(0, 0), span(api.MaxRune, api.MaxRune)), edges, in(0, 1), not(1, 4), in(4, 5))
	// A set may have numbers that are no right runes.
	splits(t, set(span(55296, 57343)), edges, not(0, 5))
	splits(t, set(span(55295, 57344)), edges, not(0, 1), in(1, 3), not(3, 5))
	// At the edges of a span.
	splits(t, small, "`az{", not(0, 1), in(1, 3), not(3, 4))
}

func TestSplitOfTheLongest(t *testing.T) {
	splits(t, small, strings.Repeat("a", 4000), in(0, 4000))
	splits(t, small, strings.Repeat("A", 4000), not(0, 4000))
	var want []api.Word
	for k := range 2000 {
		want = append(want, in(2*k, 2*k+1), not(2*k+1, 2*k+2))
	}
	splits(t, small, strings.Repeat("a ", 2000), want...)
	most := make([]api.Span, 200)
	for k := range most {
		most[k] = span(rune(2*k), rune(2*k))
	}
	splits(t, most, "\x00bacde\u018e\u018f\u0190", in(0, 2), not(2, 4), in(4, 5), not(5, 6), in(6, 7), not(7, 9))
}

// wrongLetters are no sets.
var wrongLetters = []struct {
	s   []api.Span
	err api.Errno
}{
	{set(span(5, 1)), api.ErrRange},
	{set(span(-1, 1)), api.ErrRange},
	{set(span(math.MinInt32, math.MaxInt32)), api.ErrRange},
	{set(span(0, api.MaxRune+1)), api.ErrRange},
	{set(span('a', 'b'), span('c', 'd')), api.ErrForm},
	{set(span('a', 'b'), span('b', 'd')), api.ErrForm},
	{set(span('c', 'd'), span('a', 'a')), api.ErrForm},
	{set(span('a', 'b'), span('c', 'd'), span(9, 8)), api.ErrForm},
	{set(span('a', 'b'), span(9, 8), span('c', 'd')), api.ErrRange},
	{make([]api.Span, 201), api.ErrMany},
	{slices.Repeat(set(span(5, 1)), 201), api.ErrMany},
}

// wrongTexts are texts with which something is wrong.
var wrongTexts = []struct {
	text []rune
	err  api.Errno
}{
	{[]rune(strings.Repeat("a", 4001)), api.ErrMuch},
	{make([]rune, 4001), api.ErrMuch},
	{make([]rune, 9000), api.ErrMuch},
	{append(make([]rune, 4000), -1), api.ErrMuch},
	{append(make([]rune, 3999), -1), api.ErrRange},
	{[]rune{-1}, api.ErrRange},
	{[]rune{math.MinInt32, 'a'}, api.ErrRange},
	{[]rune{'a', 55296}, api.ErrRange},
	{[]rune{'a', ' ', 57343, ' '}, api.ErrRange},
	{[]rune{api.MaxRune + 1}, api.ErrRange},
	{[]rune{'b', math.MaxInt32}, api.ErrRange},
}

func TestWrongLettersAreToldFirst(t *testing.T) {
	for _, x := range wrongLetters {
		for _, text := range []string{"", "a", "ab cd", edges} {
			refuses(t, x.s, []rune(text), x.err)
		}
		for _, y := range wrongTexts {
			refuses(t, x.s, y.text, x.err)
		}
	}
}

func TestWrongTextsAreToldNext(t *testing.T) {
	for _, letters := range [][]api.Span{nil, {}, small, latin, every} {
		for _, y := range wrongTexts {
			refuses(t, letters, y.text, y.err)
		}
	}
}

// Q1, Title

func TestTitle(t *testing.T) {
	titles(t, small, "ab cd", "Ab Cd")
	titles(t, small, "", "")
	titles(t, small, "a", "A")
	titles(t, latin, "aBC", "Abc")
	titles(t, latin, "A", "A")
	titles(t, latin, "  AB-cd  éÈ1", "  Ab-Cd  Éè1")
	titles(t, latin, "über ÄRGER", "Über Ärger")
	// What is not In stays, great letters and small ones.
	titles(t, small, "AB-cd éÈ", "AB-Cd éÈ")
	titles(t, nil, "ab CD éÈ", "ab CD éÈ")
	titles(t, small, "aXbYc", "AXBYC")
	// Great letters alone: where one stands alone it is the first one.
	titles(t, set(span('A', 'Z')), "aBCdEfGHI", "aBcdEfGhi")
	// The first rune of a piece may be no letter: the others become small all the same.
	titles(t, every, "ab CD", "Ab cd")
	titles(t, every, " aB CD", " ab cd")
	titles(t, every, "1ABC", "1abc")
	titles(t, set(span('\'', '\''), span('A', 'Z'), span('a', 'z')), "'TIS o'CLOCK", "'tis O'clock")
	// Letters that chapter 13 doesn't know stay.
	titles(t, every, "ßSS", "ßss")
	titles(t, every, "ÿŸĀā", "ÿŸĀā")
	titles(t, every, "aßÿςŸ", "AßÿςŸ")
	titles(t, every, "ωΩςяЯџЏ", "Ωωςяяџџ")
	titles(t, every, edges, edges)
	titles(t, every, strings.Repeat("a", 4000), "A"+strings.Repeat("a", 3999))
	titles(t, small, strings.Repeat("a ", 2000), strings.Repeat("A ", 2000))
	titles(t, latin, strings.Repeat("aBC ", 1000), strings.Repeat("Abc ", 1000))
}

// TestTitleOfAllLetters: of all runes of which chapter 13 tells another one, in the first place and in the others.
func TestTitleOfAllLetters(t *testing.T) {
	for r := range rune(1300) {
		want := []rune{chain.Upper(r), chain.Lower(r), chain.Lower(r)}
		titles(t, every, string([]rune{r, r, r}), string(want))
		titles(t, set(span(r, r)), string([]rune{r, r, r}), string(want))
	}
}

// Q1, Each

func TestEach(t *testing.T) {
	up, two := script(by("upper")), script(of(plain("a", "bb")))
	comes(t, small, up, "ab cd", "AB CD")
	comes(t, small, two, "ab ca", "bbb cbb")
	comes(t, small, up, "  AB-cd  éÈ1", "  AB-CD  éÈ1")
	comes(t, latin, up, "  AB-cd  éÈ1", "  AB-CD  ÉÈ1")
	comes(t, small, script(by("remove")), "ab-cd ef!", "- !")
	comes(t, every, script(by("remove")), "ab-cd ef!", "")
	comes(t, small, script(by("null")), "ab-cd", "ab-cd")
	comes(t, small, script(by("lower"), by("upper")), "ab-Cd", "AB-CD")
	comes(t, small, script(by("upper"), by("lower")), "ab-Cd", "ab-Cd")
	// What is not In stays, whatever the script says of it.
	comes(t, small, script(of(plain(" ", "_"), plain("-", ""), plain("a", "x"))), "a -a", "x -x")
	comes(t, every, script(of(plain(" ", "_"), plain("-", ""), plain("a", "x"))), "a -a", "x_x")
	for _, s := range rightScripts() {
		comes(t, small, s, "", "")
		comes(t, small, s, "A 1-é", "A 1-é")
		comes(t, nil, s, "ab c", "ab c")
		comes(t, nil, s, edges, edges)
	}
	comes(t, every, script(by("null")), edges, edges)
	comes(t, every, script(), edges, edges)
}

// TestEachWordIsATextOfItsOwn: what begins and ends is the word, and nothing looks across its ends.
func TestEachWordIsATextOfItsOwn(t *testing.T) {
	comes(t, small, script(of(starting(plain("a", "x")))), "aa aa", "xa xa")
	comes(t, small, script(of(ending(plain("a", "x")))), "aa aa", "ax ax")
	comes(t, small, script(of(starting(ending(plain("a", "x"))))), "a aa a", "x aa x")
	comes(t, small, script(of(rule(" ", "a", "", "x"), rule("", "a", " ", "y"), plain("a b", "z"))), "a a b", "a a b")
	comes(t, every, script(of(rule(" ", "a", "", "x"), rule("", "a", " ", "y"), plain("a b", "z"))), "a a b", "y x b")
	// What came of one word is not there for the next one, though nothing stands between them in the end.
	comes(t, small, script(of(plain("ab", "")), of(plain("cc", "!"))), "abc cab cabc", "c c !")
	// All passes play over a word, though its runes may have become others.
	comes(t, small, script(by("upper"), of(plain("AB", "-")), of(plain("-", "xy"))), "ab-cab", "xy-Cxy")
}

// TestEachOnly: the script's own set parts words, and runes must be in both sets.
func TestEachOnly(t *testing.T) {
	ab := set(span('a', 'b'))
	comes(t, small, only(ab, by("upper")), "abc AB bcd", "ABc AB Bcd")
	comes(t, small, only(set(span(' ', 'b')), by("remove")), "ab c-ab", " c-")
	comes(t, small, only(nil, by("remove")), "ab c", "ab c")
	comes(t, small, only(every, by("remove")), "ab c", " ")
	comes(t, ab, only(small, by("upper")), "abcab", "ABcAB")
	comes(t, small, only(ab, of(starting(plain("a", "x")), ending(plain("b", "y")))), "aabbcab ab", "xabycxy xy")
	// Without Some it means nothing.
	s := only(ab, by("upper"))
	s.Some = false
	comes(t, small, s, "abc", "ABC")
}

// wrongScripts are scripts with which something is wrong.
var wrongScripts = []struct {
	s api.Script
	f api.Fault
}{
	{script(by("foo")), fault(api.ErrName, 0)},
	{script(by("null"), by("Upper")), fault(api.ErrName, 1)},
	{script(by("null"), loop, of(plain("a", "b"), api.Rule{})), fault(api.ErrNone, 2)},
	{script(of(cursor(plain("a", "b"), 2))), fault(api.ErrRange, 0)},
	{script(by("null"), api.Pass{Name: "upper", Rules: []api.Rule{{}}}), fault(api.ErrFit, 1)},
	{script(by("null"), of(make([]api.Rule, 201)...)), fault(api.ErrMany, 1)},
	{script(make([]api.Pass, 61)...), fault(api.ErrMany, 0)},
	{only(set(span(5, 1))), fault(api.ErrRange, 0)},
	{only(set(span(1, 2), span(3, 4)), by("null"), by("foo")), fault(api.ErrForm, 0)},
	{only(make([]api.Span, 201)), fault(api.ErrMany, 0)},
}

// TestWrongScriptsAreToldFirst: even where there is no word, and whatever else is wrong.
func TestWrongScriptsAreToldFirst(t *testing.T) {
	for _, x := range wrongScripts {
		for _, letters := range [][]api.Span{nil, small, every} {
			for _, text := range []string{"", "a", " ", "ab cd"} {
				halts(t, letters, x.s, []rune(text), x.f)
			}
		}
		for _, y := range wrongLetters {
			halts(t, y.s, x.s, []rune("ab"), x.f)
			halts(t, y.s, x.s, []rune{-1}, x.f)
		}
		for _, y := range wrongTexts {
			halts(t, small, x.s, y.text, x.f)
		}
	}
	comes(t, small, script(make([]api.Pass, 60)...), "ab c", "ab c")
}

// TestFaultsOfWords: the first word that has one, and of that the first pass.
func TestFaultsOfWords(t *testing.T) {
	null, a, b := by("null"), of(cursor(plain("a", "a"), 0)), loop
	halts(t, small, script(loop), []rune("b"), fault(api.ErrSteps, 0))
	halts(t, small, script(null, null, loop), []rune("a c ab c"), fault(api.ErrSteps, 2))
	halts(t, small, script(a, null, b), []rune("b a"), fault(api.ErrSteps, 2))
	halts(t, small, script(a, null, b), []rune("a b"), fault(api.ErrSteps, 0))
	halts(t, small, script(a, null, b), []rune("ba"), fault(api.ErrSteps, 0))
	comes(t, small, script(a, null, b), "c A B c", "c A B c")
	comes(t, set(span('c', 'c')), script(a, null, b), "abcab", "abcab")
	// Too many heads are a fault of playing: where there is no word none is told.
	halts(t, small, script(null, crowded()), []rune("- c"), fault(api.ErrMany, 1))
	halts(t, small, script(loop, crowded()), []rune("c b"), fault(api.ErrMany, 1))
	halts(t, small, script(loop, crowded()), []rune("b c"), fault(api.ErrSteps, 0))
	comes(t, small, script(null, crowded()), "- C", "- C")
}

// TestStepsAreThoseOfAWord: 8 for each of its runes, and 40; what stands around gives none.
func TestStepsAreThoseOfAWord(t *testing.T) {
	var l []api.Rule
	for k := range rune(48) {
		l = append(l, cursor(plain(string(1000+k), string(1001+k)), 0))
	}
	letters := set(span('a', 'z'), span(1000, 1048))
	short, long := script(of(l[:47]...)), script(of(l...))
	comes(t, letters, short, strings.Repeat("\u03e8 ", 20), strings.Repeat("\u0417 ", 20))
	halts(t, letters, long, []rune("\u03e8"+strings.Repeat(" ", 100)), fault(api.ErrSteps, 0))
	comes(t, letters, long, "\u03e8a", "\u0418a")
}

func TestMuch(t *testing.T) {
	two := script(by("null"), of(plain("a", "bb")), by("null"))
	comes(t, small, two, strings.Repeat("a ", 1333)+"c", strings.Repeat("bb ", 1333)+"c")
	// All words together are too long, though none of them is: at how many passes there are.
	halts(t, small, two, []rune(strings.Repeat("a ", 1333)+"a"), fault(api.ErrMuch, 3))
	halts(t, small, two, []rune(strings.Repeat("a ", 2000)), fault(api.ErrMuch, 3))
	halts(t, small, two, []rune("a"+strings.Repeat(" ", 3999)), fault(api.ErrMuch, 3))
	comes(t, small, two, "a"+strings.Repeat(" ", 3998), "bb"+strings.Repeat(" ", 3998))
	// One word alone is too long: at the pass that made it so.
	halts(t, small, two, []rune(strings.Repeat("a", 2001)), fault(api.ErrMuch, 1))
	comes(t, small, two, strings.Repeat("a", 2000), strings.Repeat("b", 4000))
	halts(t, small, two, []rune(strings.Repeat("a", 2000)+" "), fault(api.ErrMuch, 3))
	// All words together are told in the end: ahead of that they may be too long.
	comes(t, small, script(of(plain("a", "bb")), by("remove")), strings.Repeat("a ", 2000), strings.Repeat(" ", 2000))
	comes(t, small, script(of(plain("b", ""), plain("a", strings.Repeat("x", 20)))), strings.Repeat("a ", 100)+strings.Repeat("b", 3800), strings.Repeat(strings.Repeat("x", 20)+" ", 100))
	comes(t, small, script(), strings.Repeat("a ", 2000), strings.Repeat("a ", 2000))
}

// TestMuchIsToldLast: a fault of any word is told ahead of too much in all; but too much of one word is its fault.
func TestMuchIsToldLast(t *testing.T) {
	grow := of(plain("a", "xx"))
	halts(t, small, script(grow, loop), []rune(strings.Repeat("a ", 1999)+"b"), fault(api.ErrSteps, 1))
	halts(t, small, script(grow, loop), []rune(strings.Repeat("a ", 2000)), fault(api.ErrMuch, 2))
	// The script's own set parts the first word into pieces, none of which is too long.
	s := only(set(span('a', 'b')), grow, loop)
	halts(t, small, s, []rune(strings.Repeat("ac", 1400)+" b"), fault(api.ErrMuch, 2))
	halts(t, small, s, []rune("b "+strings.Repeat("ac", 1400)), fault(api.ErrSteps, 1))
	halts(t, small, s, []rune(strings.Repeat("ac", 1300)+" b"), fault(api.ErrSteps, 1))
	halts(t, small, script(by("null")), make([]rune, 4001), fault(api.ErrMuch, 0))
}

// dice tells numbers below others, always the same ones.
func dice() func(below int) int {
	seed := 1
	return func(below int) int {
		seed = (seed*1103515245 + 12345) & (1<<31 - 1)
		return (seed >> 8) % below
	}
}

// drawn is a text of up to so many of these runes.
func drawn(next func(below int) int, from string, least, most int) string {
	l := []rune(from)
	var out strings.Builder
	for range least + next(most-least+1) {
		out.WriteRune(l[next(len(l))])
	}
	return out.String()
}

// setOf is the set of a text's runes.
func setOf(text string) []api.Span {
	var l []api.Span
	for _, r := range text {
		l = append(l, span(r, r))
	}
	s, _ := sets.Of(l)
	return s
}

const alphabet = "\x00 -ABabcÉéΩωЖж\ud7ff\ue000\ufffd\U0010ffff"

// whole is that words, one behind the other, are the whole text, and that no two beside each other are of one kind.
func whole(t *testing.T, letters []api.Span, text []rune) {
	t.Helper()
	l, err := Split(letters, text)
	if err != api.OK {
		t.Fatalf("Split(%v, %q): %v", letters, string(text), err)
	}
	at := 0
	for k, w := range l {
		if w.From != at || w.To <= at || w.To > len(text) || k > 0 && w.In == l[k-1].In {
			t.Fatalf("Split(%v, %q): %v", letters, string(text), l)
		}
		for _, r := range text[w.From:w.To] {
			if sets.Has(letters, r) != w.In {
				t.Fatalf("Split(%v, %q): %v", letters, string(text), l)
			}
		}
		at = w.To
	}
	if at != len(text) {
		t.Errorf("Split(%v, %q): %v", letters, string(text), l)
	}
}

// TestAnotherWay holds all against oracle_test.go.
func TestAnotherWay(t *testing.T) {
	next := dice()
	for range 3000 {
		letters, text := setOf(drawn(next, alphabet, 0, 12)), drawn(next, alphabet, 0, 30)
		splits(t, letters, text, splitAnotherWay(letters, text)...)
		titles(t, letters, text, titleAnotherWay(letters, text))
		whole(t, letters, []rune(text))
		var l []api.Rule
		var swaps []string
		for range next(5) {
			source, target := drawn(next, alphabet, 1, 3), drawn(next, alphabet, 0, 3)
			l, swaps = append(l, plain(source, target)), append(swaps, source, target)
		}
		comes(t, letters, script(of(l...)), text, eachAnotherWay(letters, "", swaps, text))
		some := drawn(next, alphabet, 1, 12)
		comes(t, letters, only(setOf(some), of(l...)), text, eachAnotherWay(letters, some, swaps, text))
	}
}

// TestAnotherWayLong does so with longer texts, that may become too long.
func TestAnotherWayLong(t *testing.T) {
	next := dice()
	short, long := 0, 0
	for range 60 {
		letters, text := setOf(drawn(next, alphabet, 0, 12)), drawn(next, alphabet, 2500, 3500)
		swaps := []string{"a", drawn(next, alphabet, 5, 9), "b", drawn(next, alphabet, 0, 5), "é", "", "ω", drawn(next, alphabet, 0, 9)}
		s := script(by("null"), of(plain(swaps[0], swaps[1]), plain(swaps[2], swaps[3]), plain(swaps[4], swaps[5]), plain(swaps[6], swaps[7])))
		want := eachAnotherWay(letters, "", swaps, text)
		if utf8.RuneCountInString(want) <= 4000 {
			comes(t, letters, s, text, want)
			short++
			continue
		}
		// Words are short here, so that none is too long by itself.
		halts(t, letters, s, []rune(text), fault(api.ErrMuch, 2))
		long++
	}
	if short < 10 || long < 10 {
		t.Errorf("%d short ones, and %d long ones", short, long)
	}
}

const few = "ab cé-A"

// rules are some of all kinds, of few letters.
func rules(next func(below int) int) []api.Rule {
	var l []api.Rule
	for range next(12) {
		r := rule(drawn(next, few, 0, next(2)), drawn(next, few, 1, 1+next(2)), drawn(next, few, 0, next(2)), drawn(next, few, 0, 4))
		r.Start, r.End = next(9) == 0, next(9) == 0
		if next(2) == 0 {
			r.Cursor = next(len(r.Target) + 1)
		}
		l = append(l, r)
	}
	return l
}

// TestWordByWordIsGo: words are what a script parts a text into whose set is letters, and what its own set has of them.
func TestWordByWordIsGo(t *testing.T) {
	next := dice()
	n := map[api.Errno]int{}
	for range 3000 {
		var s api.Script
		for range next(4) {
			p := of(rules(next)...)
			if next(3) == 0 {
				p = by([]string{"upper", "lower", "null", "remove"}[next(4)])
			}
			s.Passes = append(s.Passes, p)
		}
		letters, text := setOf(drawn(next, few, 2, 9)), []rune(drawn(next, few, 0, 40))
		parted := only(letters, s.Passes...)
		if next(2) == 0 {
			s.Some, s.Only = true, setOf(drawn(next, few, 4, 20))
			parted.Only, _ = sets.Meet(letters, s.Only)
		}
		want, f := chain.Go(parted, text)
		if got, g := Each(letters, s, text); !slices.Equal(got, want) || f != g {
			t.Errorf("Each(%v, %v, %q): %q, %v, not %q, %v", letters, s, string(text), string(got), g, string(want), f)
		}
		n[f.Err]++
	}
	if n[api.OK] < 1500 || n[api.ErrSteps] < 50 {
		t.Errorf("of each kind: %v", n)
	}
}

// TestTitleIsEachTwice: all letters become small, and then each word's first one great.
func TestTitleIsEachTwice(t *testing.T) {
	next := dice()
	for range 500 {
		text := drawn(next, "abcABC .", 0, 30)
		lowered, f := Each(latin, script(by("lower")), []rune(text))
		if f != (api.Fault{}) {
			t.Fatalf("%v", f)
		}
		great := script(of(starting(plain("a", "A")), starting(plain("b", "B")), starting(plain("c", "C"))))
		want, f := Each(latin, great, lowered)
		if f != (api.Fault{}) {
			t.Fatalf("%v", f)
		}
		titles(t, latin, text, string(want))
	}
}

// Z2

// spoil changes all that a list has, spare room and all.
func spoil[T any](l []T, by T) {
	for k := range l[:cap(l)] {
		l[:cap(l)][k] = by
	}
}

// roomy are letters, a script and a text whose lists all have spare room, and there something that is wrong, or would matter.
func roomy() ([]api.Span, api.Script, []rune) {
	letters := set(span('a', 'd'), span(-9, -10))[:1]
	source := [][]api.Span{set(span('a', 'a'), span(-9, -10))[:1], set(span(5, 4))}[:1]
	rules := []api.Rule{{Source: source, Target: []rune{'x', 'y', -1}[:2], Cursor: 2}, {}}[:1]
	passes := []api.Pass{by("null"), {Rules: rules}, by("foo")}[:2]
	return letters, api.Script{Some: true, Only: set(span('a', 'c'), span(5, 4))[:1], Passes: passes}, []rune{'a', 'd', 'B', ' ', 'b', 'a', 'a', -1}[:6]
}

// seen is all that they have, spare room and all.
func seen(letters []api.Span, s api.Script, text []rune) []any {
	passes := s.Passes[:cap(s.Passes)]
	rules := passes[1].Rules[:2]
	source, target := rules[0].Source[:2], rules[0].Target[:3]
	return []any{
		slices.Clone(letters[:cap(letters)]), slices.Clone(s.Only[:cap(s.Only)]), slices.Clone(text[:cap(text)]),
		passes[0].Name, passes[2].Name, len(rules[1].Source), slices.Clone(source[0][:2]), slices.Clone(source[1]), slices.Clone(target),
	}
}

func TestWhatIsHandedInIsOnlyRead(t *testing.T) {
	letters, s, text := roomy()
	want := seen(letters, s, text)
	for range 2 {
		l, err := Split(letters, text)
		if !slices.Equal(l, []api.Word{in(0, 2), not(2, 4), in(4, 6)}) || err != api.OK {
			t.Errorf("Split: %v, %v", l, err)
		}
		title, err := Title(letters, text)
		if string(title) != "AdB Ba" || err != api.OK {
			t.Errorf("Title: %q, %v", string(title), err)
		}
		each, f := Each(letters, s, text)
		if string(each) != "xydB bxy" || f != (api.Fault{}) {
			t.Errorf("Each: %q, %v", string(each), f)
		}
		spoil(l, api.Word{From: 9})
		spoil(title, -7)
		spoil(each, -7)
		if got := seen(letters, s, text); !reflect.DeepEqual(got, want) {
			t.Errorf("%v, not %v", got, want)
		}
	}
}

func TestWhatIsAnsweredStays(t *testing.T) {
	letters, s, text := roomy()
	l, _ := Split(letters, text)
	title, _ := Title(letters, text)
	each, _ := Each(letters, s, text)
	spoil(s.Passes[1].Rules[0].Target, -7)
	spoil(s.Passes, api.Pass{})
	spoil(s.Only, api.Span{})
	spoil(letters, api.Span{})
	spoil(text, -7)
	if !slices.Equal(l, []api.Word{in(0, 2), not(2, 4), in(4, 6)}) || string(title) != "AdB Ba" || string(each) != "xydB bxy" {
		t.Errorf("%v, %q, %q", l, string(title), string(each))
	}
}

// A text that stays as it is is new memory, too.
func TestWhatStaysIsNew(t *testing.T) {
	for _, letters := range [][]api.Span{nil, small, every} {
		for _, s := range []api.Script{script(), script(by("null")), only(nil, by("upper"))} {
			text := append(make([]rune, 0, 9), 'A', '1', ' ')
			each, _ := Each(letters, s, text)
			title, _ := Title(letters, text)
			if string(each) != "A1 " || string(title) != "A1 " {
				t.Errorf("%v, %v: %q, %q", letters, s, string(each), string(title))
			}
			spoil(each, -7)
			spoil(title, -7)
			if !slices.Equal(text[:9], []rune{'A', '1', ' ', 0, 0, 0, 0, 0, 0}) {
				t.Errorf("%v, %v: the text has become %v", letters, s, text[:9])
			}
		}
	}
}

// Z3

func TestNilAndNoEntries(t *testing.T) {
	for _, letters := range [][]api.Span{nil, {}} {
		splits(t, letters, "ab", not(0, 2))
		titles(t, letters, "ab", "ab")
		for _, s := range []api.Script{{}, {Passes: []api.Pass{}}, {Some: true, Only: []api.Span{}, Passes: []api.Pass{{Rules: []api.Rule{}}}}} {
			comes(t, letters, s, "ab", "ab")
			comes(t, small, s, "ab", "ab")
		}
	}
	for _, text := range [][]rune{nil, {}} {
		for _, letters := range [][]api.Span{nil, {}, small, every} {
			refuses(t, letters, text, api.OK)
		}
	}
}
