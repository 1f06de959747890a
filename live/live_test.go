package live

import (
	"math"
	"reflect"
	"slices"
	"strings"
	"testing"

	"scriptshift/api"
	"scriptshift/chain"
	"scriptshift/shelf"
)

func span(low, high rune) api.Span { return api.Span{Low: low, High: high} }

func set(l ...api.Span) []api.Span { return l }

// each is a set of its own for each rune.
func each(s string) [][]api.Span {
	var l [][]api.Span
	for _, r := range s {
		l = append(l, set(span(r, r)))
	}
	return l
}

// rule has its cursor behind its target.
func rule(before, source, after, target string) api.Rule {
	t := []rune(target)
	return api.Rule{Before: each(before), Source: each(source), After: each(after), Target: t, Cursor: len(t)}
}

func plain(source, target string) api.Rule { return rule("", source, "", target) }

func starting(r api.Rule) api.Rule {
	r.Start = true
	return r
}

func ending(r api.Rule) api.Rule {
	r.End = true
	return r
}

func cursor(r api.Rule, at int) api.Rule {
	r.Cursor = at
	return r
}

// by is the pass of that name.
func by(name string) api.Pass { return api.Pass{Name: name} }

// of is the pass of those rules.
func of(l ...api.Rule) api.Pass { return api.Pass{Rules: l} }

// script is one for all runes.
func script(l ...api.Pass) api.Script { return api.Script{Passes: l} }

// only is one for runes of that set alone.
func only(s []api.Span, l ...api.Pass) api.Script {
	return api.Script{Some: true, Only: s, Passes: l}
}

func fault(err api.Errno, at int) api.Fault { return api.Fault{Err: err, At: at} }

func typed(r rune) api.Key { return api.Key{Kind: api.KeyRune, Rune: r} }

var (
	back = api.Key{Kind: api.KeyBack}
	all  = api.Key{Kind: api.KeyClear}
)

// keys has a key for each rune: `<` takes back, `!` clears, others are typed.
func keys(s string) []api.Key {
	var l []api.Key
	for _, r := range s {
		switch r {
		case '<':
			l = append(l, back)
		case '!':
			l = append(l, all)
		default:
			l = append(l, typed(r))
		}
	}
	return l
}

func with(s string, l ...api.Key) []api.Key { return append(keys(s), l...) }

// types is that Typed tells that, where nothing is wrong.
func types(t *testing.T, l []api.Key, want string) {
	t.Helper()
	if got, f := Typed(l); string(got) != want || f != (api.Fault{}) {
		t.Errorf("Typed(%v): %.60q, %v, not %.60q", l[:min(20, len(l))], string(got), f, want)
	}
}

func strs(l [][]rune) []string {
	var out []string
	for _, x := range l {
		out = append(out, string(x))
	}
	return out
}

// shows is that Show tells that, where nothing is wrong.
func shows(t *testing.T, s api.Script, l []api.Key, want ...string) {
	t.Helper()
	if got, f := Show(s, l); !slices.Equal(strs(got), want) || f != (api.Fault{}) {
		t.Errorf("Show(%v, %v): %q, %v, not %q", s, l[:min(20, len(l))], strs(got), f, want)
	}
}

// hides is that Show tells that fault, and nothing beside it.
func hides(t *testing.T, s api.Script, l []api.Key, want api.Fault) {
	t.Helper()
	if got, f := Show(s, l); len(got) != 0 || f != want {
		t.Errorf("Show(%d passes, %v): %d texts, %v, not none, %v", len(s.Passes), l[:min(20, len(l))], len(got), f, want)
	}
}

// right are scripts with which nothing is wrong.
func right() []api.Script {
	return []api.Script{{}, script(of(), by("upper")), script(by("null"), by("remove")), only(set(span('a', 'z')), of(plain("a", "b"))), only(nil, by("upper"))}
}

// refuses is that Typed tells that fault, and nothing beside it, and that Show does, with all scripts that are right.
func refuses(t *testing.T, l []api.Key, want api.Fault) {
	t.Helper()
	if got, f := Typed(l); len(got) != 0 || f != want {
		t.Errorf("Typed(%v): %.60q, %v, not nothing, %v", l[:min(20, len(l))], string(got), f, want)
	}
	for _, s := range right() {
		hides(t, s, l, want)
	}
}

var (
	// sh is no more than that: s and h together become ш, s alone с.
	sh = script(of(plain("sh", "ш"), plain("s", "с")))
	// loop never ends where there is a b.
	loop = script(of(cursor(plain("b", "b"), 0)))
)

// U1: Typed

func TestTyped(t *testing.T) {
	// The document's example 21.
	types(t, keys("ab<"), "a")
	types(t, nil, "")
	types(t, keys("a"), "a")
	types(t, keys("abc"), "abc")
	types(t, keys("aab"), "aab")
	types(t, keys("ab<c"), "ac")
	types(t, keys("ab<<c"), "c")
	types(t, keys("ab<<"), "")
	types(t, keys("a<b<c<"), "")
	types(t, keys("abcd<<ef<"), "abe")
	types(t, keys("ab!"), "")
	types(t, keys("ab!c"), "c")
	types(t, keys("ab!cd<"), "c")
	types(t, keys("ab<!cd!ef"), "ef")
	// Where nothing is there, all of it may go.
	types(t, keys("!"), "")
	types(t, keys("!!a"), "a")
	types(t, keys("a<!b"), "b")
}

// A rune goes, be it long or short, a mark or a letter, and nothing that was typed is a key that takes back.
func TestRunes(t *testing.T) {
	types(t, with("é", typed('\u0301'), back), "é")
	types(t, with("e", typed('\u0301'), back), "e")
	types(t, with("", typed('\U0001f600'), typed('<'), typed('!'), back), "\U0001f600<")
	types(t, with("a", typed('\b'), typed(0x7f), typed('\n'), typed(0)), "a\b\x7f\n\x00")
	types(t, with("", typed(0), typed(0xd7ff), typed(0xe000), typed(0xfffd), typed(api.MaxRune)), "\x00\ud7ff\ue000\ufffd\U0010ffff")
	for r := rune(0); r <= api.MaxRune; r++ {
		l := with("a", typed(r))
		if r >= 0xd800 && r <= 0xdfff {
			if got, f := Typed(l); len(got) != 0 || f != fault(api.ErrRange, 1) {
				t.Errorf("%d: %v, %v", r, got, f)
			}
			continue
		}
		if got, f := Typed(l); !slices.Equal(got, []rune{'a', r}) || f != (api.Fault{}) {
			t.Errorf("%d: %v, %v", r, got, f)
		}
	}
}

func TestWrongRunes(t *testing.T) {
	for _, r := range []rune{-1, 0xd800, 0xdc00, 0xdfff, api.MaxRune + 1, math.MinInt32, math.MaxInt32} {
		refuses(t, []api.Key{typed(r)}, fault(api.ErrRange, 0))
		refuses(t, with("ab", typed(r)), fault(api.ErrRange, 2))
		refuses(t, with("ab!<", typed(r)), fault(api.ErrNone, 3))
		// That it goes again is too late.
		refuses(t, with("ab", typed(r), back), fault(api.ErrRange, 2))
		refuses(t, with("a", typed(r), all), fault(api.ErrRange, 1))
	}
}

func TestNothingToTakeBack(t *testing.T) {
	refuses(t, keys("<"), fault(api.ErrNone, 0))
	refuses(t, keys("<a"), fault(api.ErrNone, 0))
	refuses(t, keys("a<<"), fault(api.ErrNone, 2))
	refuses(t, keys("a<<b"), fault(api.ErrNone, 2))
	refuses(t, keys("ab<<<"), fault(api.ErrNone, 4))
	refuses(t, keys("ab!<"), fault(api.ErrNone, 3))
	refuses(t, keys("!<"), fault(api.ErrNone, 1))
	refuses(t, keys("abc!d<<"), fault(api.ErrNone, 6))
}

// kinds are none.
var kinds = []int{0, 4, 5, -1, -2, -3, 255, 257, 258, 259, 1 << 32, 1<<32 + 1, 1<<32 + 2, 1<<32 + 3, math.MinInt, math.MaxInt}

func TestWrongKinds(t *testing.T) {
	for _, k := range kinds {
		// Of a kind that is none no rune is wrong.
		for _, r := range []rune{0, 'a', -1, 0xd800} {
			x := api.Key{Kind: k, Rune: r}
			refuses(t, []api.Key{x}, fault(api.ErrKind, 0))
			refuses(t, with("ab", x), fault(api.ErrKind, 2))
			refuses(t, append(with("a<b!", x), keys("<")...), fault(api.ErrKind, 4))
		}
	}
}

// Z5: other kinds have no rune, so none is wrong with them.
func TestOtherKindsHaveNoRune(t *testing.T) {
	for _, r := range []rune{'a', 'x', -1, 0xd800, api.MaxRune + 1, math.MinInt32, math.MaxInt32} {
		b, c := api.Key{Kind: api.KeyBack, Rune: r}, api.Key{Kind: api.KeyClear, Rune: r}
		types(t, with("aab", b), "aa")
		types(t, with("aab", c), "")
		types(t, with("aab", c, typed('d'), b, c), "")
		refuses(t, with("a", c, b), fault(api.ErrNone, 2))
		shows(t, sh, with("sh", b, c), "с", "ш", "с", "")
	}
}

func TestTheFirstKeyThatIsWrong(t *testing.T) {
	refuses(t, with("a", typed(-1), back, back, back, api.Key{}), fault(api.ErrRange, 1))
	refuses(t, with("a<<", typed(-1), api.Key{}), fault(api.ErrNone, 2))
	refuses(t, with("a", api.Key{}, typed(-1), back, back), fault(api.ErrKind, 1))
	refuses(t, with(strings.Repeat("a", 499), api.Key{}), fault(api.ErrKind, 499))
	refuses(t, with(strings.Repeat("a", 499), typed(-1)), fault(api.ErrRange, 499))
	refuses(t, with(strings.Repeat("a", 249)+strings.Repeat("<", 250), typed(-1)), fault(api.ErrNone, 498))
}

func TestManyKeys(t *testing.T) {
	types(t, keys(strings.Repeat("a", 500)), strings.Repeat("a", 500))
	types(t, keys(strings.Repeat("a", 250)+strings.Repeat("<", 250)), "")
	types(t, keys(strings.Repeat("ab<", 166)), strings.Repeat("a", 166))
	types(t, keys(strings.Repeat("!", 500)), "")
	for _, l := range [][]api.Key{
		keys(strings.Repeat("a", 501)),
		keys(strings.Repeat("!", 501)),
		keys(strings.Repeat("a<", 300)),
		keys("<" + strings.Repeat("a", 500)),
		with("a", make([]api.Key, 500)...),
		make([]api.Key, 501),
		make([]api.Key, 70000),
	} {
		refuses(t, l, fault(api.ErrMany, 0))
	}
}

// U1: Show

func TestShow(t *testing.T) {
	shows(t, script(), keys("ab<"), "a", "ab", "a")
	shows(t, sh, keys("sshh"), "с", "сс", "сш", "сшh")
	shows(t, sh, keys("ash<<sh"), "a", "aс", "aш", "aс", "a", "aс", "aш")
	shows(t, sh, keys("sh!h"), "с", "ш", "", "h")
	shows(t, sh, keys("!!s<!"), "", "", "с", "", "")
	shows(t, script(of(plain("ab", "x")), by("upper")), keys("aabb<b"), "A", "AA", "AX", "AXB", "AX", "AXB")
	shows(t, script(of(starting(plain("a", "x")), ending(plain("a", "z")), plain("a", "y"))), keys("aaa<!a"), "x", "xz", "xyz", "xz", "", "x")
	shows(t, script(of(starting(ending(plain("ab", "!")))), by("upper")), keys("abc<<"), "A", "!", "ABC", "!", "A")
	shows(t, script(by("remove")), keys("ab"), "", "")
	shows(t, script(of(plain("a", ""))), keys("aba"), "", "b", "b")
	shows(t, script(of(plain("a", "bcd"))), keys("aa<"), "bcd", "bcdbcd", "bcd")
	shows(t, sh, nil)
}

// What is taken back was typed, not made: of what a rule made one rune alone never goes.
func TestWhatIsTypedGoesNotWhatCame(t *testing.T) {
	shows(t, script(of(plain("ü", "ue"))), keys("ü<"), "ue", "")
	shows(t, script(of(plain("abc", "x"))), keys("abc<<<"), "a", "ab", "x", "ab", "a", "")
	// Nor does a rule play over what it made at an earlier key.
	shows(t, script(of(plain("a", "b"), plain("b", "c"))), keys("aab"), "b", "bb", "bbc")
	shows(t, script(of(plain("a", "aa"))), keys("aaa"), "aa", "aaaa", "aaaaaa")
}

func TestShowOnly(t *testing.T) {
	letters := set(span('a', 'z'))
	s := only(letters, of(starting(plain("t", "T")), ending(plain("s", "z")), plain("th", "d")))
	shows(t, s, keys("ts-th s"), "T", "Tz", "Tz-", "Tz-T", "Tz-Th", "Tz-Th ", "Tz-Th z")
	shows(t, only(nil, by("remove")), keys("ab<"), "a", "ab", "a")
	shows(t, only(set(span('b', 'b')), by("remove")), keys("abab<"), "a", "a", "aa", "aa", "aa")
}

func TestShelf(t *testing.T) {
	s, err := shelf.Script("german", false)
	if err != api.OK {
		t.Fatal(err)
	}
	shows(t, s, keys("grün<<u!ß"), "g", "gr", "grue", "gruen", "grue", "gr", "gru", "", "ss")
	s, err = shelf.Script("sigma", false)
	if err != api.OK {
		t.Fatal(err)
	}
	shows(t, s, keys("οσο<"), "ο", "ος", "οσο", "ος")
}

// U1: what is told first

// crowded are rules with which nothing is wrong, but which have one head too many.
func crowded() []api.Rule {
	var l []api.Rule
	for k := range rune(200) {
		l = append(l, plain(string(1+3*k), "!"))
	}
	return l
}

func TestWrongScriptsAreToldFirst(t *testing.T) {
	lists := [][]api.Key{nil, {}, keys("ab<"), keys("<"), {typed(-1)}, {{}}, make([]api.Key, 501)}
	for _, x := range []struct {
		s    api.Script
		want api.Fault
	}{
		{script(by("foo")), fault(api.ErrName, 0)},
		{script(by("null"), by("foo")), fault(api.ErrName, 1)},
		{script(of(), of(), api.Pass{Name: "upper", Rules: []api.Rule{plain("a", "b")}}), fault(api.ErrFit, 2)},
		{script(of(api.Rule{})), fault(api.ErrNone, 0)},
		{script(by("lower"), of(plain("a", "b"), cursor(plain("a", "b"), 2))), fault(api.ErrRange, 1)},
		{script(of(make([]api.Rule, 201)...)), fault(api.ErrMany, 0)},
		{script(make([]api.Pass, 61)...), fault(api.ErrMany, 0)},
		{only(set(span(5, 4)), by("foo")), fault(api.ErrRange, 0)},
		{only(set(span(1, 2), span(3, 4)), by("null")), fault(api.ErrForm, 0)},
		{only(make([]api.Span, 201)), fault(api.ErrMany, 0)},
	} {
		if f := chain.Wrong(x.s); f != x.want {
			t.Errorf("Wrong: %v, not %v", f, x.want)
		}
		for _, l := range lists {
			hides(t, x.s, l, x.want)
		}
	}
	// Only means nothing without Some.
	shows(t, api.Script{Only: set(span(5, 4)), Passes: []api.Pass{by("upper")}}, keys("a"), "A")
}

func TestKeysAreToldAheadOfWhatComes(t *testing.T) {
	for _, s := range []api.Script{loop, script(of(crowded()...))} {
		hides(t, s, keys("b<<"), fault(api.ErrNone, 2))
		hides(t, s, with("b", typed(-1)), fault(api.ErrRange, 1))
		hides(t, s, with("b", api.Key{}), fault(api.ErrKind, 1))
		hides(t, s, keys("b"+strings.Repeat("!", 500)), fault(api.ErrMany, 0))
	}
}

func TestTheFirstErrorIsToldAtItsKey(t *testing.T) {
	hides(t, loop, keys("b"), fault(api.ErrSteps, 0))
	hides(t, loop, keys("aab"), fault(api.ErrSteps, 2))
	hides(t, loop, keys("aabb"), fault(api.ErrSteps, 2))
	hides(t, loop, keys("acb<"), fault(api.ErrSteps, 2))
	hides(t, loop, keys("a<c!b!"), fault(api.ErrSteps, 4))
	shows(t, loop, keys("ac<"), "a", "ac", "a")
	// At the key, whichever pass it is.
	hides(t, script(by("null"), by("lower"), of(), loop.Passes[0]), keys("caB"), fault(api.ErrSteps, 2))
	// A first pass may make too much of what a second one would never end with.
	hides(t, script(of(plain("a", strings.Repeat("x", 20))), of(cursor(plain("c", "c"), 0))), keys(strings.Repeat("a", 201)+"c"), fault(api.ErrMuch, 200))
	hides(t, script(of(plain("a", strings.Repeat("x", 20))), of(cursor(plain("c", "c"), 0))), keys(strings.Repeat("a", 199)+"c"), fault(api.ErrSteps, 199))
}

// Rules that have a head too many play over nothing, but over something they don't.
func TestTooManyHeads(t *testing.T) {
	s := script(of(crowded()...))
	shows(t, s, keys("!!"), "", "")
	hides(t, s, keys("!!a<"), fault(api.ErrMany, 2))
	shows(t, script(by("remove"), s.Passes[0]), keys("!"), "")
	hides(t, only(set(span('a', 'b')), s.Passes[0]), keys("xyzb"), fault(api.ErrMany, 3))
	shows(t, only(set(span('a', 'b')), s.Passes[0]), keys("xy<"), "x", "xy", "x")
}

func TestMuch(t *testing.T) {
	s := script(of(plain("a", strings.Repeat("x", 20))))
	got, f := Show(s, keys(strings.Repeat("a", 200)+strings.Repeat("<", 200)))
	if len(got) != 400 || f != (api.Fault{}) {
		t.Fatalf("%d texts, %v", len(got), f)
	}
	for k, x := range got {
		n := min(k+1, 399-k)
		if string(x) != strings.Repeat("x", 20*n) {
			t.Errorf("at %d: %d runes, not %d", k, len(x), 20*n)
		}
	}
	hides(t, s, keys(strings.Repeat("a", 201)), fault(api.ErrMuch, 200))
	hides(t, s, keys(strings.Repeat("a", 200)+"<ab"), fault(api.ErrMuch, 202))
	// Piece by piece it is too much only where all of it is put together.
	hides(t, only(set(span('a', 'a')), s.Passes[0]), keys(strings.Repeat("a-", 250)), fault(api.ErrMuch, 380))
}

func TestManyKeysAreShown(t *testing.T) {
	for _, l := range []string{strings.Repeat("s", 500), strings.Repeat("sh", 250), strings.Repeat("sh<", 166), strings.Repeat("shs!", 125), strings.Repeat("a", 250) + strings.Repeat("<", 250)} {
		got, f := Show(sh, keys(l))
		want, g := showAnotherWay(swaps("sh", "ш", "s", "с"), keys(l))
		if !slices.Equal(strs(got), want) || f != g || f != (api.Fault{}) {
			t.Errorf("%.10q..: %d texts, %v, not %d, %v", l, len(got), f, len(want), g)
		}
	}
}

// TestLongScripts has as many rules in as many passes as may be, and a great many pieces, at each of the keys.
func TestLongScripts(t *testing.T) {
	var s api.Script
	for range api.MaxPasses {
		s.Passes = append(s.Passes, of(crowded()[1:]...))
	}
	s.Some, s.Only = true, set(span('a', 'a'))
	l := keys(strings.Repeat("ab", 250))
	got, f := Show(s, l)
	if len(got) != 500 || f != (api.Fault{}) {
		t.Fatalf("%d texts, %v", len(got), f)
	}
	if want, f := chain.Go(s, []rune(strings.Repeat("ab", 250))); !slices.Equal(got[499], want) || f != (api.Fault{}) {
		t.Errorf("%q, not %q, %v", string(got[499]), string(want), f)
	}
}

// Another way

// lists goes over all lists of up to that many keys out of those.
func lists(most int, out []api.Key, seen func(l []api.Key)) {
	var grow func(l []api.Key)
	grow = func(l []api.Key) {
		seen(l)
		if len(l) == most {
			return
		}
		for _, k := range out {
			grow(append(l[:len(l):len(l)], k))
		}
	}
	grow(nil)
}

func TestTypedInAnotherWay(t *testing.T) {
	n := map[api.Errno]int{}
	lists(6, []api.Key{typed('a'), typed('é'), typed(0xd800), back, all, {Kind: 4, Rune: 'x'}}, func(l []api.Key) {
		want, f := "", wrongAnotherWay(l)
		if f.Err == api.OK {
			want = typedAnotherWay(l)
		}
		n[f.Err]++
		if got, g := Typed(l); string(got) != want || f != g {
			t.Errorf("%v: %q, %v, not %q, %v", l, string(got), g, want, f)
		}
	})
	for _, err := range []api.Errno{api.OK, api.ErrKind, api.ErrNone, api.ErrRange} {
		if n[err] < 500 {
			t.Errorf("of each kind: %v", n)
		}
	}
}

func TestShowInAnotherWay(t *testing.T) {
	out := []api.Key{typed('a'), typed('b'), back, all, typed(-1)}
	for _, x := range []struct {
		s api.Script
		m maker
	}{
		{script(), swaps()},
		{script(of(plain("ab", "x"))), swaps("ab", "x")},
		{script(of(plain("aa", "b"), plain("b", "aa"))), swaps("aa", "b", "b", "aa")},
		{script(of(plain("bab", "xyz"), plain("a", "")), by("upper")), swaps("bab", "xyz", "a", "").upper()},
		{script(of(cursor(plain("bb", "bb"), 0))), endless("bb")},
		{script(by("lower"), by("null"), of(cursor(plain("aba", ""), 0), cursor(plain("bab", "bab"), 0))), func(text string) (string, bool) {
			made := strings.ReplaceAll(text, "aba", "")
			return made, !strings.Contains(made, "bab")
		}},
	} {
		lists(5, out, func(l []api.Key) {
			got, f := Show(x.s, l)
			want, g := showAnotherWay(x.m, l)
			if !slices.Equal(strs(got), want) || f != g {
				t.Errorf("%v, %v: %q, %v, not %q, %v", x.s, l, strs(got), f, want, g)
			}
		})
	}
}

// dice tells numbers that look mixed up, the same ones each time.
func dice() func(n int) int {
	x := uint32(1)
	return func(n int) int {
		x = x*1664525 + 1013904223
		return int(x>>8) % n
	}
}

// TestShowIsGoKeyByKey holds Show of scripts that stand ready against Go of what Typed tells of the keys so far.
func TestShowIsGoKeyByKey(t *testing.T) {
	next := dice()
	out := []rune("aeiouszhtdAEO'-. \"üßшхαθσ")
	for _, name := range shelf.Names() {
		for _, way := range []bool{false, true} {
			s, err := shelf.Script(name, way)
			if err != api.OK {
				t.Fatal(name, err)
			}
			var l []api.Key
			for n := 0; len(l) < 120; {
				switch x := next(12); {
				case x == 0 && next(5) == 0:
					l, n = append(l, all), 0
				case x < 4 && n > 0:
					l, n = append(l, back), n-1
				default:
					l, n = append(l, typed(out[next(len(out))])), n+1
				}
			}
			got, f := Show(s, l)
			if len(got) != len(l) || f != (api.Fault{}) {
				t.Fatalf("%s, %v: %d texts, %v", name, way, len(got), f)
			}
			for k := range l {
				there, _ := Typed(l[:k+1])
				if want, _ := chain.Go(s, there); !slices.Equal(got[k], want) {
					t.Errorf("%s, %v, at %d: %q, not %q", name, way, k, string(got[k]), string(want))
				}
			}
		}
	}
}

// What was typed is taken back: with one more rune and one back all is as it was.
func TestTakenBack(t *testing.T) {
	lists(5, []api.Key{typed('s'), typed('h'), back, all}, func(l []api.Key) {
		was, f := Typed(l)
		if f.Err != api.OK {
			return
		}
		types(t, append(l[:len(l):len(l)], typed('h'), back), string(was))
		shown, _ := Show(sh, append(l[:len(l):len(l)], typed('h'), back))
		if len(l) > 0 && string(shown[len(l)+1]) != string(shown[len(l)-1]) {
			t.Errorf("%v: %q", l, strs(shown))
		}
	})
}

// Z2

// roomy is keys with spare room, and there one that is wrong.
func roomy() []api.Key { return with("sh<h", typed(-1), api.Key{}, back)[:4] }

// spoil changes all that a list has, spare room and all.
func spoil(l []rune) {
	for k := range l[:cap(l)] {
		l[:cap(l)][k] = -7
	}
}

func TestKeysAreOnlyRead(t *testing.T) {
	l := roomy()
	was := slices.Clone(l[:cap(l)])
	for range 2 {
		got, f := Typed(l)
		if string(got) != "sh" || f != (api.Fault{}) {
			t.Errorf("Typed: %q, %v", string(got), f)
		}
		spoil(got)
		shown, f := Show(sh, l)
		if !slices.Equal(strs(shown), []string{"с", "ш", "с", "ш"}) || f != (api.Fault{}) {
			t.Errorf("Show: %q, %v", strs(shown), f)
		}
		for _, x := range shown {
			spoil(x)
		}
		clear(shown[:cap(shown)])
		if !slices.Equal(l[:cap(l)], was) {
			t.Errorf("%v, not %v", l[:cap(l)], was)
		}
	}
	got, _ := Typed(l)
	shown, _ := Show(sh, l)
	clear(l[:cap(l)])
	if string(got) != "sh" || !slices.Equal(strs(shown), []string{"с", "ш", "с", "ш"}) {
		t.Errorf("the answers have become %q and %q", string(got), strs(shown))
	}
}

func TestScriptsAreOnlyRead(t *testing.T) {
	made := func() api.Script {
		target := []rune{'X', 'y', -1, -1}[:2]
		r := api.Rule{Before: each("aq")[:1], Source: each("bq")[:1], After: each("q")[:0], Target: target, Cursor: 2}
		return api.Script{Some: true, Only: set(span('a', 'd'), span(-9, -10))[:1], Passes: []api.Pass{by("null"), {Rules: []api.Rule{r, {}}[:1]}, by("lower"), by("foo")}[:3]}
	}
	whole := func(s api.Script) []any {
		p := s.Passes[:cap(s.Passes)]
		l := p[1].Rules[:cap(p[1].Rules)]
		return []any{s.Some, s.Only[:cap(s.Only)], p, l, l[0].Before[:cap(l[0].Before)], l[0].Source[:cap(l[0].Source)], l[0].After[:cap(l[0].After)], l[0].Target[:cap(l[0].Target)]}
	}
	s := made()
	shown, f := Show(s, keys("abe<!b"))
	want := []string{"a", "axy", "axye", "axy", "", "b"}
	if !slices.Equal(strs(shown), want) || f != (api.Fault{}) {
		t.Errorf("%q, %v", strs(shown), f)
	}
	if !reflect.DeepEqual(whole(s), whole(made())) {
		t.Errorf("%v, not %v", whole(s), whole(made()))
	}
	r := s.Passes[1].Rules[0]
	spoil(r.Target)
	clear(r.Source)
	clear(r.Before)
	clear(s.Passes[1].Rules)
	clear(s.Passes)
	clear(s.Only)
	if !slices.Equal(strs(shown), want) {
		t.Errorf("the answer has become %q", strs(shown))
	}
	for _, x := range shown {
		spoil(x)
	}
	if again, f := Show(made(), keys("abe<!b")); !slices.Equal(strs(again), want) || f != (api.Fault{}) {
		t.Errorf("%q, %v", strs(again), f)
	}
}

// No two lists of an answer share memory, their spare room neither, though each text is near the one ahead.
func TestListsShareNothing(t *testing.T) {
	for _, s := range []api.Script{script(), script(by("null")), script(by("lower")), script(of()), only(nil), only(set(span('a', 'b'))), only(set(span('a', 'z')), by("null"), of())} {
		l := keys("abcdefgh<<<<x!yz")
		got, f := Show(s, l)
		if len(got) != len(l) || f != (api.Fault{}) {
			t.Fatalf("%d texts, %v", len(got), f)
		}
		want := strs(got)
		for k := range got {
			spoil(got[k])
			for i := k + 1; i < len(got); i++ {
				if string(got[i]) != want[i] {
					t.Errorf("%v: by a change at %d what is at %d has become %q", s, k, i, string(got[i]))
				}
			}
		}
		for k := len(got) - 1; k >= 0; k-- {
			for i := range got[k][:cap(got[k])] {
				got[k][:cap(got[k])][i] = rune(k)
			}
		}
		for k := range got {
			for _, r := range got[k][:cap(got[k])] {
				if r != rune(k) {
					t.Errorf("%v: %d and %d share memory", s, k, r)
				}
			}
		}
	}
}

// Z3

func TestNilAndNoEntries(t *testing.T) {
	for _, l := range [][]api.Key{nil, {}} {
		types(t, l, "")
		for _, s := range append(right(), api.Script{Some: true, Only: []api.Span{}, Passes: []api.Pass{}}, loop, script(of(crowded()...))) {
			shows(t, s, l)
		}
	}
	shows(t, api.Script{Only: []api.Span{}, Passes: []api.Pass{{Rules: []api.Rule{}}}}, keys("a!"), "a", "")
	shows(t, script(of(api.Rule{Before: [][]api.Span{}, Source: each("a"), After: [][]api.Span{}, Target: []rune{}})), keys("ab"), "", "b")
}
