package order

import (
	"math"
	"slices"
	"strings"
	"testing"

	"scriptshift/api"
	"scriptshift/chain"
	"scriptshift/norm"
)

// has is that text has these rows.
func has(t *testing.T, text string, letters, marks, great []int) {
	t.Helper()
	x, y, z, err := Key([]rune(text))
	if err != api.OK || !slices.Equal(x, letters) || !slices.Equal(y, marks) || !slices.Equal(z, great) {
		t.Errorf("Key(%+.60q): %v, %v, %v, %v, not %v, %v, %v", text, x, y, z, err, letters, marks, great)
	}
}

// ranks is that texts stand in this order: each one is less than those behind it, and alike with itself.
func ranks(t *testing.T, texts ...string) {
	t.Helper()
	for i, a := range texts {
		for k, b := range texts {
			want := 0
			if i < k {
				want = -1
			}
			if i > k {
				want = 1
			}
			if got, err := Compare([]rune(a), []rune(b)); got != want || err != api.OK {
				t.Errorf("Compare(%+.60q, %+.60q): %d, %v, not %d", a, b, got, err, want)
			}
		}
	}
}

func alike(t *testing.T, texts ...string) {
	t.Helper()
	for _, a := range texts {
		for _, b := range texts {
			if got, err := Compare([]rune(a), []rune(b)); got != 0 || err != api.OK {
				t.Errorf("Compare(%+.60q, %+.60q): %d, %v", a, b, got, err)
			}
		}
	}
}

func runes(texts ...string) [][]rune {
	var l [][]rune
	for _, s := range texts {
		l = append(l, []rune(s))
	}
	return l
}

// sorts is that these texts' places stand in this order.
func sorts(t *testing.T, texts []string, want ...int) {
	t.Helper()
	if got, f := Sort(runes(texts...)); !slices.Equal(got, want) || f != (api.Fault{}) {
		t.Errorf("Sort(%+.200q): %v, %v, not %v", texts, got, f, want)
	}
}

// refuses is that all calls tell of a text that error, and nothing beside it.
func refuses(t *testing.T, text []rune, want api.Errno) {
	t.Helper()
	if x, y, z, err := Key(text); len(x)+len(y)+len(z) != 0 || err != want {
		t.Errorf("Key of %d runes: %d, %d and %d numbers, %v, not %v", len(text), len(x), len(y), len(z), err, want)
	}
	for _, other := range [][]rune{nil, []rune("é"), text} {
		for _, pair := range [][2][]rune{{text, other}, {other, text}} {
			if got, err := Compare(pair[0], pair[1]); got != 0 || err != want {
				t.Errorf("Compare of %d and %d runes: %d, %v, not %v", len(pair[0]), len(pair[1]), got, err, want)
			}
		}
	}
	for k := range 4 {
		l := slices.Insert(runes("b", "a", "é"), k, text)
		if got, f := Sort(append(l, text)); len(got) != 0 || f != (api.Fault{Err: want, At: k}) {
			t.Errorf("Sort with %d runes at %d: %v, %v, not %v", len(text), k, got, f, want)
		}
	}
}

// agrees is that Key tells what the second way tells.
func agrees(t *testing.T, s string) {
	t.Helper()
	w, e := written(s)
	if x, y, z, err := Key([]rune(s)); err != e || e == api.OK && rows(x, y, z) != w {
		t.Fatalf("Key(%+.60q): %v, %v, %v, %v, not %q, %v", s, x, y, z, err, w, e)
	}
}

// each hands all texts of at most n of these runes to see.
func each(alphabet string, n int, see func(s string)) {
	var grow func(s string, n int)
	grow = func(s string, n int) {
		see(s)
		if n == 0 {
			return
		}
		for _, r := range alphabet {
			grow(s+string(r), n-1)
		}
	}
	grow("", n)
}

func short(alphabet string, n int) []string {
	var l []string
	each(alphabet, n, func(s string) { l = append(l, s) })
	return l
}

// S1, Key

func TestKey(t *testing.T) {
	has(t, "", nil, nil, nil)
	has(t, "a", []int{97}, []int{0}, []int{0})
	has(t, "A", []int{97}, []int{0}, []int{1})
	has(t, "á", []int{97}, []int{0, 769}, []int{0})
	has(t, "Á", []int{97}, []int{0, 769}, []int{1})
	has(t, "e\u0301\u0300b", []int{101, 98}, []int{0, 769, 768, 0}, []int{0, 0})
	has(t, "Été", []int{101, 116, 101}, []int{0, 769, 0, 0, 769}, []int{1, 0, 0})
	has(t, "Ab C", []int{97, 98, 32, 99}, []int{0, 0, 0, 0}, []int{1, 0, 0, 1})
	has(t, "ậ", []int{97}, []int{0, 803, 770}, []int{0})
	has(t, "Ω1я", []int{969, 49, 1103}, []int{0, 0, 0}, []int{1, 0, 0})
	has(t, "Џ", []int{1119}, []int{0}, []int{1})
	// Marks in the order of their classes, those of one class as they stood.
	has(t, "a\u0302\u0323\u0328\u0301\u0327", []int{97}, []int{0, 808, 807, 803, 770, 769}, []int{0})
	has(t, "Ç\u0301", []int{99}, []int{0, 807, 769}, []int{1})
	// Marks ahead of the first letter, and marks alone.
	has(t, "\u0301\u0327a", []int{97}, []int{807, 769, 0}, []int{0})
	has(t, "\u0301\u0301", nil, []int{769, 769}, nil)
	// What has no small or great letter, and what the document doesn't know as a mark.
	has(t, "ßÿ×÷ςΪ\u0304\u03a2", []int{223, 121, 215, 247, 962, 938, 772, 930}, []int{0, 0, 776, 0, 0, 0, 0, 0, 0}, make([]int, 8))
	has(t, "Ő", []int{336}, []int{0}, []int{0})
	has(t, "ÆÐØÞ", []int{230, 240, 248, 254}, []int{0, 0, 0, 0}, []int{1, 1, 1, 1})
	has(t, "\x00\U0010ffff", []int{0, 1114111}, []int{0, 0}, []int{0, 0})
}

func TestKeyOfAllRunes(t *testing.T) {
	for r := range rune(70000) {
		if r < 0xd800 || r > 0xdfff {
			agrees(t, string(r))
		}
	}
}

func TestKeyOfShortTexts(t *testing.T) {
	each("aAáÁậzя\u0301\u0327\u0323 ", 4, func(s string) { agrees(t, s) })
	each("aÂ\u0302\u0323\u0328", 6, func(s string) { agrees(t, s) })
}

// TestKeyTellsWhatApartTells: rows are read off what the layers above tell, and a letter has one entry in each of letters and great.
func TestKeyTellsWhatApartTells(t *testing.T) {
	for _, s := range []string{"Ärger im Süden", "\u0301Ậ\u0327\u0301b", "ЖЏж", "ΩΣς", greatOnes, smallOnes} {
		parted, _ := norm.Apart([]rune(s))
		letters, marks, great, err := Key([]rune(s))
		if err != api.OK || len(marks) != len(parted) || len(letters) != len(great) {
			t.Fatalf("Key(%q): %d, %d and %d numbers, %v", s, len(letters), len(marks), len(great), err)
		}
		at := 0
		for k, r := range parted {
			if norm.Class(r) != 0 {
				if marks[k] != int(r) {
					t.Errorf("Key(%q): %d among the marks, not %d", s, marks[k], r)
				}
				continue
			}
			small := chain.Lower(r)
			if marks[k] != 0 || letters[at] != int(small) || (great[at] == 1) != (small != r) {
				t.Errorf("Key(%q): %d, %d, %d of %q", s, letters[at], marks[k], great[at], r)
			}
			at++
		}
	}
}

// S1, Compare

func TestCompare(t *testing.T) {
	// The document's example 19.
	ranks(t, "É", "f")
	ranks(t, "", "a", "A", "á", "Á", "ab", "aB", "Ab", "AB", "âb", "b", "B")
	// By letters, whatever marks stand on them, and however great they are.
	ranks(t, "e", "E", "é", "É", "ea", "f", "F")
	ranks(t, "1", "a", "ä b", "Z", "Ω", "я")
	ranks(t, "zz", "Zza", "zzá", "zzb")
	// By marks, ahead of great ones: those of the first letter that has others.
	ranks(t, "ab", "Ab", "AB", "ab\u0301", "Ab\u0301", "áb", "ÁB", "áb\u0301")
	ranks(t, "e", "è", "é", "ê", "ẹ", "ẹ\u0302", "ę")
	ranks(t, "é", "é\u0300", "é\u0301", "é\u0302", "ę\u0301")
	ranks(t, "e\u0300\u0301", "e\u0301\u0300")
	// Marks ahead of the first letter.
	ranks(t, "", "\u0301", "\u0301\u0300", "\u0302", "a", "\u0301a", "\u0301A", "\u0302a")
	// By great ones: of the first letter that has another size.
	ranks(t, "abc", "abC", "aBc", "aBC", "Abc", "AbC", "ABc", "ABC")
	// Which number is more is a matter of numbers, not of digits.
	ranks(t, "\t", "z", "ø", "я", "\U0001f600", "\U0010ffff")
}

func TestAlike(t *testing.T) {
	alike(t, "é", "e\u0301")
	alike(t, "ậ", "a\u0302\u0323", "a\u0323\u0302", "â\u0323", "ạ\u0302")
	alike(t, "É\u0327x", "E\u0301\u0327x", "E\u0327\u0301x")
	alike(t, "", "")
}

// TestCompareAnotherWay: of all pairs of short texts comes what the second way tells.
func TestCompareAnotherWay(t *testing.T) {
	for _, l := range [][]string{short("aÁá\u0301b", 3), short("aâẠ\u0323\u0327", 3), short("éEfЯ ", 3)} {
		keys := make([]string, len(l))
		for k, s := range l {
			keys[k], _ = written(s)
		}
		for i, a := range l {
			for k, b := range l {
				if got, err := Compare([]rune(a), []rune(b)); err != api.OK || got != strings.Compare(keys[i], keys[k]) {
					t.Fatalf("Compare(%+q, %+q): %d, %v", a, b, got, err)
				}
			}
		}
	}
}

// TestWhoIsAlikeIsTheSame: two texts are alike just where, put together, they are the same.
func TestWhoIsAlikeIsTheSame(t *testing.T) {
	l := short("aâạA\u0302\u0323", 3)
	var joined []string
	for _, s := range l {
		x, _ := norm.Together([]rune(s))
		joined = append(joined, string(x))
	}
	for i, a := range l {
		for k, b := range l {
			got, err := Compare([]rune(a), []rune(b))
			if err != api.OK || (got == 0) != (joined[i] == joined[k]) {
				t.Fatalf("Compare(%+q, %+q): %d, %v; put together %+q, %+q", a, b, got, err, joined[i], joined[k])
			}
		}
	}
}

func TestLongTexts(t *testing.T) {
	long := strings.Repeat("a", 3999)
	ranks(t, long, long+"a", long+"A", long+"b", "b")
	ranks(t, strings.Repeat("é", 1999)+"e", strings.Repeat("é", 2000))
	ranks(t, strings.Repeat("a", 4000), "A"+strings.Repeat("a", 3999), strings.Repeat("A", 4000), "aé"+strings.Repeat("a", 3997))
	for seed := range 20 {
		var a strings.Builder
		for k := range 1300 {
			a.WriteRune([]rune("aAéÉậя\u0301\u0327 z")[(seed*k+k*k*7+k/3)%10])
		}
		agrees(t, a.String())
		for _, b := range []string{a.String() + "a", a.String() + "\u0301", strings.ToLower(a.String()), strings.ToUpper(a.String())} {
			want, e := compared(a.String(), b)
			if got, err := Compare([]rune(a.String()), []rune(b)); got != want || err != e {
				t.Errorf("Compare, seed %d: %d, %v, not %d, %v", seed, got, err, want, e)
			}
		}
	}
}

// S1, Sort

func TestSort(t *testing.T) {
	sorts(t, nil)
	sorts(t, []string{""}, 0)
	sorts(t, []string{"f", "É", "e"}, 2, 1, 0)
	sorts(t, []string{"b", "Á", "á", "A", "a", ""}, 5, 4, 3, 2, 1, 0)
	sorts(t, []string{"a", "b", "c"}, 0, 1, 2)
	sorts(t, []string{"zz", "я", "Я", "Ω", "ω", "1", "B", "aB"}, 5, 7, 6, 0, 4, 3, 1, 2)
	// Those that are alike as they stood.
	sorts(t, []string{"b", "é", "e\u0301", "a", "é", "e"}, 3, 0, 5, 1, 2, 4)
	sorts(t, []string{"ậ", "a\u0302\u0323", "a", "â\u0323", "a"}, 2, 4, 0, 1, 3)
}

// TestSortKeepsPlaces: of a hundred texts of two kinds, as they stood.
func TestSortKeepsPlaces(t *testing.T) {
	for _, kinds := range [][]string{{"é", "e\u0301"}, {"b", "a"}, {"b", "é", "a", "e\u0301", "B"}} {
		var texts []string
		for k := range 100 {
			texts = append(texts, kinds[k*k*7%11%len(kinds)])
		}
		want, _ := sorted(texts)
		sorts(t, texts, want...)
	}
	sorts(t, make([]string, 100), places(100)...)
	sorts(t, slices.Repeat([]string{"é", "e\u0301"}, 50), places(100)...)
}

func places(n int) []int {
	var l []int
	for k := range n {
		l = append(l, k)
	}
	return l
}

func TestSortAnotherWay(t *testing.T) {
	for _, l := range [][]string{short("aÁá\u0301b", 3), short("aâẠ\u0323\u0327", 3), short("éEfЯ ", 3)} {
		for n := range 60 {
			var texts []string
			for k := range 100 - n {
				texts = append(texts, l[(k*k*31+k*(n+7)+n*n)%len(l)])
			}
			want, _ := sorted(texts)
			sorts(t, texts, want...)
		}
	}
}

// Wrong inputs

func TestWrongTexts(t *testing.T) {
	for _, bad := range []rune{math.MinInt32, -1, 55296, 56000, 57343, api.MaxRune + 1, math.MaxInt32} {
		for k := range 4 {
			refuses(t, slices.Insert([]rune("aé\u0301"), k, bad), api.ErrRange)
		}
		// What is wrong with the text comes ahead of how long it becomes.
		refuses(t, append([]rune(strings.Repeat("ậ", 3999)), bad), api.ErrRange)
		refuses(t, append([]rune(strings.Repeat("ậ", 4000)), bad), api.ErrMuch)
	}
	refuses(t, make([]rune, 4001), api.ErrMuch)
	refuses(t, make([]rune, 100000), api.ErrMuch)
	// Too long only when it is taken apart.
	refuses(t, []rune(strings.Repeat("é", 2001)), api.ErrMuch)
	refuses(t, []rune(strings.Repeat("a", 3999)+"é"), api.ErrMuch)
}

// TestFirstErrorIsTold: where both texts have one, a's; in Sort, that of the first text that has one.
func TestFirstErrorIsTold(t *testing.T) {
	wild, long := []rune{-1}, make([]rune, 4001)
	if got, err := Compare(wild, long); got != 0 || err != api.ErrRange {
		t.Errorf("%d, %v", got, err)
	}
	if got, err := Compare(long, wild); got != 0 || err != api.ErrMuch {
		t.Errorf("%d, %v", got, err)
	}
	if got, f := Sort([][]rune{nil, wild, long}); len(got) != 0 || f != (api.Fault{Err: api.ErrRange, At: 1}) {
		t.Errorf("%v, %v", got, f)
	}
	if got, f := Sort([][]rune{nil, nil, long, wild}); len(got) != 0 || f != (api.Fault{Err: api.ErrMuch, At: 2}) {
		t.Errorf("%v, %v", got, f)
	}
}

func TestMany(t *testing.T) {
	wild := []rune{-1}
	for _, n := range []int{101, 102, 5000} {
		l := make([][]rune, n)
		// Ahead of what is wrong with the texts.
		for _, first := range [][]rune{nil, wild, make([]rune, 4001)} {
			l[0] = first
			if got, f := Sort(l); len(got) != 0 || f != (api.Fault{Err: api.ErrMany}) {
				t.Errorf("%d texts: %v, %v", n, got, f)
			}
		}
	}
	l := make([][]rune, 100)
	l[99] = wild
	if got, f := Sort(l); len(got) != 0 || f != (api.Fault{Err: api.ErrRange, At: 99}) {
		t.Errorf("%v, %v", got, f)
	}
	l[99] = nil
	if got, f := Sort(l); !slices.Equal(got, places(100)) || f != (api.Fault{}) {
		t.Errorf("%v, %v", got, f)
	}
}

// Z2

func TestWhatIsHandedInIsOnlyRead(t *testing.T) {
	a := append([]rune("e\u0302\u0323é\u0327B"), 0x301, -1, 'é')
	b := append([]rune("ệE"), -1, -1)
	spare := []rune{-1}
	l := [][]rune{a[:6], b[:2], a[:0], spare, nil}
	keptA, keptB := slices.Clone(a), slices.Clone(b)
	for range 2 {
		if got, f := Sort(l[:3]); !slices.Equal(got, []int{2, 1, 0}) || f != (api.Fault{}) {
			t.Errorf("%v, %v", got, f)
		}
		if got, err := Compare(a[:6], b[:2]); got != 1 || err != api.OK {
			t.Errorf("%d, %v", got, err)
		}
		has(t, string(a[:6]), []int{101, 101, 98}, []int{0, 803, 770, 0, 807, 769, 0}, []int{0, 0, 1})
		if !slices.Equal(a, keptA) || !slices.Equal(b, keptB) || spare[0] != -1 || l[4] != nil {
			t.Fatalf("what was handed in is %v, %v", a, b)
		}
		if len(l[0]) != 6 || len(l[1]) != 2 || len(l[2]) != 0 || len(l[3]) != 1 || &l[0][0] != &a[0] || &l[1][0] != &b[0] {
			t.Fatalf("the list is %v", l)
		}
	}
}

// TestAnswersAreNewMemory: what one row is changed into, its spare room too, touches neither the text, nor another row, nor what is answered next.
func TestAnswersAreNewMemory(t *testing.T) {
	text := []rune("Éa\u0327")
	kept := slices.Clone(text)
	want := [][]int{{101, 97}, {0, 769, 0, 807}, {1, 0}}
	for k := range want {
		x, y, z, _ := Key(text)
		got := [][]int{x, y, z}
		for i := range got[k][:cap(got[k])] {
			got[k][:cap(got[k])][i] = -7
		}
		for i := range want {
			if i != k && !slices.Equal(got[i], want[i]) {
				t.Errorf("row %d has become %v", i, got[i])
			}
		}
		has(t, string(text), want[0], want[1], want[2])
	}
	x, y, z, _ := Key(text)
	clear(text)
	if !slices.Equal(x, want[0]) || !slices.Equal(y, want[1]) || !slices.Equal(z, want[2]) {
		t.Errorf("rows have become %v, %v, %v", x, y, z)
	}
	copy(text, kept)
	l := [][]rune{text, nil, text}
	got, _ := Sort(l)
	for i := range got[:cap(got)] {
		got[:cap(got)][i] = 1
	}
	if again, f := Sort(l); !slices.Equal(again, []int{1, 0, 2}) || f != (api.Fault{}) {
		t.Errorf("%v, %v", again, f)
	}
}

// Z3

func TestNilAndNoEntries(t *testing.T) {
	empty := [][]rune{nil, {}, []rune("abc")[:0]}
	for _, a := range empty {
		if x, y, z, err := Key(a); len(x)+len(y)+len(z) != 0 || err != api.OK {
			t.Errorf("Key(%#v): %v, %v, %v, %v", a, x, y, z, err)
		}
		for _, b := range empty {
			if got, err := Compare(a, b); got != 0 || err != api.OK {
				t.Errorf("Compare(%#v, %#v): %d, %v", a, b, got, err)
			}
		}
	}
	if got, f := Sort(empty); !slices.Equal(got, []int{0, 1, 2}) || f != (api.Fault{}) {
		t.Errorf("%v, %v", got, f)
	}
	for _, l := range [][][]rune{nil, {}, empty[:0]} {
		if got, f := Sort(l); len(got) != 0 || f != (api.Fault{}) {
			t.Errorf("Sort(%#v): %v, %v", l, got, f)
		}
	}
}
