package norm

import (
	"math"
	"slices"
	"strings"
	"testing"

	"scriptshift/api"
)

// call is one of Apart, Together and Bare.
type call struct {
	name string
	play func(text []rune) ([]rune, api.Errno)
	want func(s string) (string, api.Errno)
}

var calls = []call{{"Apart", Apart, apart}, {"Together", Together, together}, {"Bare", Bare, bare}}

// tells is what the three calls tell, where nothing is wrong.
func tells(t *testing.T, text, parted, joined, bared string) {
	t.Helper()
	for k, s := range []string{parted, joined, bared} {
		if got, err := calls[k].play([]rune(text)); string(got) != s || err != api.OK {
			t.Errorf("%s(%+.60q): %+.60q, %v, not %+.60q", calls[k].name, text, string(got), err, s)
		}
	}
}

// refuses is that the three calls tell that error, and nothing beside it.
func refuses(t *testing.T, text []rune, want api.Errno) {
	t.Helper()
	for _, c := range calls {
		if got, err := c.play(text); len(got) != 0 || err != want {
			t.Errorf("%s of %d runes: %d runes, %v, not none, %v", c.name, len(text), len(got), err, want)
		}
	}
}

// agrees is that the three calls tell what the second way tells.
func agrees(t *testing.T, text string) {
	t.Helper()
	for _, c := range calls {
		s, e := c.want(text)
		if got, err := c.play([]rune(text)); string(got) != s || err != e {
			t.Fatalf("%s(%+q): %+q, %v, not %+q, %v", c.name, text, string(got), err, s, e)
		}
	}
}

// each hands all texts of at most n of these runes to see.
func each(alphabet string, n int, see func(s string)) {
	var grow func(s string, n int)
	grow = func(s string, n int) {
		see(s)
		if n == 0 {
			return
		}
		for _, r := range alphabet {
			grow(s+string(r), n-1)
		}
	}
	grow("", n)
}

// all is each letter of Pairs once, and some others.
func all() string {
	var s strings.Builder
	seen := map[rune]bool{}
	for _, p := range want {
		for _, r := range []rune{p.Base, p.Whole} {
			if !seen[r] {
				s.WriteRune(r)
			}
			seen[r] = true
		}
	}
	return s.String() + "x \u0304\x00\U0010ffff"
}

// R1

func TestClass(t *testing.T) {
	for r := rune(-300); r <= 70000; r++ {
		if got := Class(r); got != class(r) {
			t.Errorf("Class(%d): %d", r, got)
		}
	}
	for _, r := range []rune{math.MinInt32, 55296, 57343, api.MaxRune, api.MaxRune + 1, math.MaxInt32} {
		if got := Class(r); got != 0 {
			t.Errorf("Class(%d): %d", r, got)
		}
	}
	// Numbers that are such a mark's, but for bits that a smaller kind of number would not have.
	for _, r := range []rune{768, 803, 807} {
		for _, more := range []rune{1 << 16, 1 << 24, math.MinInt32} {
			if got := Class(r + more); got != 0 {
				t.Errorf("Class(%d): %d", r+more, got)
			}
		}
	}
}

func TestPairs(t *testing.T) {
	if got := Pairs(); !slices.Equal(got, want) {
		t.Errorf("%v, not %v", got, want)
	}
}

// TestPairsAreLettersWithMarks: no letter is a mark, no two pairs make one whole, and none makes two.
func TestPairsAreLettersWithMarks(t *testing.T) {
	made, with := map[rune]bool{}, map[[2]rune]bool{}
	for _, p := range Pairs() {
		if Class(p.Base) != 0 || Class(p.Mark) == 0 || Class(p.Whole) != 0 {
			t.Errorf("%v: classes %d, %d, %d", p, Class(p.Base), Class(p.Mark), Class(p.Whole))
		}
		if made[p.Whole] || with[[2]rune{p.Base, p.Mark}] {
			t.Errorf("%v comes twice", p)
		}
		made[p.Whole], with[[2]rune{p.Base, p.Mark}] = true, true
	}
}

func TestPairsAreNewMemory(t *testing.T) {
	got := Pairs()
	got = got[:cap(got)]
	clear(got)
	if got := Pairs(); !slices.Equal(got, want) {
		t.Errorf("%v", got)
	}
	tells(t, "é", "e\u0301", "é", "e")
}

// R2

func TestApartAndTogether(t *testing.T) {
	// The document's example 18.
	tells(t, "é", "e\u0301", "é", "e")
	tells(t, "", "", "", "")
	tells(t, "abc", "abc", "abc", "abc")
	tells(t, "éàÇ", "e\u0301a\u0300C\u0327", "éàÇ", "eaC")
	tells(t, "e\u0301", "e\u0301", "é", "e")
	tells(t, "über Ärger", "u\u0308ber A\u0308rger", "über Ärger", "uber Arger")
	// A whole may be made of a whole.
	tells(t, "ậ", "a\u0323\u0302", "ậ", "a")
	tells(t, "ệộ", "e\u0323\u0302o\u0323\u0302", "ệộ", "eo")
	tells(t, "ạ\u0302", "a\u0323\u0302", "ậ", "a")
	tells(t, "â\u0323", "a\u0323\u0302", "ậ", "a")
	// There are no great ones of these.
	tells(t, "Ạ\u0302", "A\u0323\u0302", "Ạ\u0302", "A")
	tells(t, "Â\u0323", "A\u0323\u0302", "Ạ\u0302", "A")
	// A mark stays that makes nothing with the letter, or with what that is by now.
	tells(t, "b\u0301", "b\u0301", "b\u0301", "b")
	tells(t, "é\u0300", "e\u0301\u0300", "é\u0300", "e")
	tells(t, "e\u0301\u0301", "e\u0301\u0301", "é\u0301", "e")
	tells(t, "N\u0301", "N\u0301", "N\u0301", "N")
	// Other letters, and marks that the document doesn't know, are letters.
	tells(t, "ő\u0304\u0301ş", "ő\u0304\u0301s\u0327", "ő\u0304\u0301ş", "ő\u0304s")
	tells(t, "e\u0304\u0301", "e\u0304\u0301", "e\u0304\u0301", "e\u0304")
	tells(t, "\x00\ud7ff\ue000\ufffd\U0010ffff", "\x00\ud7ff\ue000\ufffd\U0010ffff", "\x00\ud7ff\ue000\ufffd\U0010ffff", "\x00\ud7ff\ue000\ufffd\U0010ffff")
}

func TestMarksInOrder(t *testing.T) {
	tells(t, "a\u0302\u0323", "a\u0323\u0302", "ậ", "a")
	tells(t, "x\u0301\u0327\u0323", "x\u0327\u0323\u0301", "x\u0327\u0323\u0301", "x")
	tells(t, "x\u0302\u0323\u0328", "x\u0328\u0323\u0302", "x\u0328\u0323\u0302", "x")
	// Those of one class as they stood, whichever number is less.
	tells(t, "x\u0301\u0300\u030c", "x\u0301\u0300\u030c", "x\u0301\u0300\u030c", "x")
	tells(t, "x\u0301\u0328\u0300\u0327", "x\u0328\u0327\u0301\u0300", "x\u0328\u0327\u0301\u0300", "x")
	for _, n := range []int{2, 3, 10, 300} {
		sorted := strings.Repeat("\u0328\u0327", n) + strings.Repeat("\u0323", n) + strings.Repeat("\u030c\u0301\u0300", n)
		tells(t, "x"+strings.Repeat("\u030c\u0328\u0301\u0323\u0327\u0300", n)+"y", "x"+sorted+"y", "x"+sorted+"y", "xy")
	}
	// What comes of a whole stands with the marks behind it.
	tells(t, "é\u0327", "e\u0327\u0301", "é\u0327", "e")
	tells(t, "é\u0300\u0327", "e\u0327\u0301\u0300", "é\u0327\u0300", "e")
	tells(t, "c\u0301\u0327", "c\u0327\u0301", "ç\u0301", "c")
	// A letter parts marks, and what stands ahead of it doesn't go behind it.
	tells(t, "x\u0301y\u0327", "x\u0301y\u0327", "x\u0301y\u0327", "xy")
	tells(t, "x\u0301\u0304\u0327", "x\u0301\u0304\u0327", "x\u0301\u0304\u0327", "x\u0304")
	tells(t, "ab\u0301", "ab\u0301", "ab\u0301", "ab")
	tells(t, "a \u0301", "a \u0301", "a \u0301", "a ")
	// Marks ahead of the first letter stay, in their order.
	tells(t, "\u0301e", "\u0301e", "\u0301e", "e")
	tells(t, "\u0301\u0327a", "\u0327\u0301a", "\u0327\u0301a", "a")
	tells(t, "\u0302\u0327\u0323", "\u0327\u0323\u0302", "\u0327\u0323\u0302", "")
	tells(t, "\u0301\u0300e\u0301", "\u0301\u0300e\u0301", "\u0301\u0300é", "e")
}

// TestMarksThatStayBar: a mark that stayed keeps those of its class from the letter, not those of greater ones; one that went keeps none.
func TestMarksThatStayBar(t *testing.T) {
	tells(t, "e\u030c\u0301", "e\u030c\u0301", "e\u030c\u0301", "e")
	tells(t, "s\u0328\u0327", "s\u0328\u0327", "s\u0328\u0327", "s")
	tells(t, "a\u0327\u0328", "a\u0327\u0328", "a\u0327\u0328", "a")
	tells(t, "e\u0327\u0301", "e\u0327\u0301", "é\u0327", "e")
	tells(t, "s\u0323\u030c", "s\u0323\u030c", "š\u0323", "s")
	tells(t, "s\u0328\u0327\u030c", "s\u0328\u0327\u030c", "š\u0328\u0327", "s")
	tells(t, "a\u0327\u0323\u0302", "a\u0327\u0323\u0302", "ậ\u0327", "a")
	tells(t, "ậ\u0328", "a\u0328\u0323\u0302", "ą\u0323\u0302", "a")
	tells(t, "e\u0328\u0301", "e\u0328\u0301", "ę\u0301", "e")
	tells(t, "y\u030c\u0308", "y\u030c\u0308", "y\u030c\u0308", "y")
	// What stayed behind one letter is nothing to the next one.
	tells(t, "b\u0301e\u0301", "b\u0301e\u0301", "b\u0301é", "be")
	tells(t, "\u0301e\u0301", "\u0301e\u0301", "\u0301é", "e")
	tells(t, "e\u030ce\u0301", "e\u030ce\u0301", "e\u030cé", "ee")
	tells(t, "s\u030cz\u030c\u0327", "s\u030cz\u0327\u030c", "šž\u0327", "sz")
}

func TestAllPairs(t *testing.T) {
	for _, p := range want {
		for _, around := range []string{"", "x", "é", "e"} {
			written, whole := around+string([]rune{p.Base, p.Mark})+around, around+string(p.Whole)+around
			for _, s := range []string{written, whole} {
				agrees(t, s)
				if got, err := Together([]rune(s)); err != api.OK || string(got) != strings.ReplaceAll(whole, "e\u0301", "é") {
					t.Errorf("Together(%+q): %+q, %v", s, string(got), err)
				}
			}
		}
	}
}

// TestAllLettersWithMarks: of each letter, with all marks, up to three, in each order.
func TestAllLettersWithMarks(t *testing.T) {
	letters := all()
	each(low+mid+high, 2, func(marks string) {
		for _, r := range letters {
			agrees(t, string(r)+marks)
		}
	})
	each(low+mid+high, 3, func(marks string) {
		for _, r := range "aEcsxạậâ\u0304" {
			agrees(t, string(r)+marks)
		}
	})
}

func TestAllShortTexts(t *testing.T) {
	each("aesx\u0301\u0302\u0323\u0327\u0328", 4, func(s string) { agrees(t, s) })
	each("aâạậą\u0304\u0301\u0302\u0323\u0327\u0328", 3, func(s string) { agrees(t, s) })
	each("a\u0302\u0323\u0328", 6, func(s string) { agrees(t, s) })
}

func TestLongTexts(t *testing.T) {
	letters := []rune(all() + strings.Repeat(low+mid+high, 20))
	for seed := range 40 {
		var s []rune
		for k := range 1200 {
			s = append(s, letters[(seed*131+k*k*7+k*(seed+3))%len(letters)])
		}
		agrees(t, string(s))
	}
	agrees(t, "a"+strings.Repeat("\u0302\u0323\u0328\u0301\u0327", 30))
}

// TestTurnedRound: what is taken apart and put together are each other turned round, and stay then; what is alike is the same.
func TestTurnedRound(t *testing.T) {
	must := func(l []rune, err api.Errno) []rune {
		t.Helper()
		if err != api.OK {
			t.Fatalf("error %v", err)
		}
		return l
	}
	alike := map[string]string{}
	each("aeạậâés\u0301\u0302\u0323\u0327", 4, func(s string) {
		parted, joined := must(Apart([]rune(s))), must(Together([]rune(s)))
		if again := must(Apart(parted)); !slices.Equal(again, parted) {
			t.Errorf("Apart twice of %+q: %+q", s, string(again))
		}
		if again := must(Apart(joined)); !slices.Equal(again, parted) {
			t.Errorf("Apart of Together of %+q: %+q", s, string(again))
		}
		if again := must(Together(parted)); !slices.Equal(again, joined) {
			t.Errorf("Together of Apart of %+q: %+q", s, string(again))
		}
		if other, ok := alike[string(parted)]; ok && other != string(joined) {
			t.Errorf("%+q: %+q, and %+q", s, string(joined), other)
		}
		alike[string(parted)] = string(joined)
	})
}

// TestMuch: what counts is what comes of the text taken apart, even where that is put together again, or bared.
func TestMuch(t *testing.T) {
	tells(t, strings.Repeat("a", 4000), strings.Repeat("a", 4000), strings.Repeat("a", 4000), strings.Repeat("a", 4000))
	tells(t, strings.Repeat("é", 2000), strings.Repeat("e\u0301", 2000), strings.Repeat("é", 2000), strings.Repeat("e", 2000))
	tells(t, strings.Repeat("e\u0301", 2000), strings.Repeat("e\u0301", 2000), strings.Repeat("é", 2000), strings.Repeat("e", 2000))
	tells(t, strings.Repeat("ậ", 1333)+"x", strings.Repeat("a\u0323\u0302", 1333)+"x", strings.Repeat("ậ", 1333)+"x", strings.Repeat("a", 1333)+"x")
	tells(t, strings.Repeat("a", 3998)+"é", strings.Repeat("a", 3998)+"e\u0301", strings.Repeat("a", 3998)+"é", strings.Repeat("a", 3998)+"e")
	tells(t, strings.Repeat("\u0301", 4000), strings.Repeat("\u0301", 4000), strings.Repeat("\u0301", 4000), "")
	tells(t, "e"+strings.Repeat("\u0301", 3999), "e"+strings.Repeat("\u0301", 3999), "é"+strings.Repeat("\u0301", 3998), "e")
	tells(t, strings.Repeat("\u0301\u0327", 2000), strings.Repeat("\u0327", 2000)+strings.Repeat("\u0301", 2000), strings.Repeat("\u0327", 2000)+strings.Repeat("\u0301", 2000), "")
	for _, s := range []string{
		strings.Repeat("é", 2001), strings.Repeat("ậ", 1333) + "é", strings.Repeat("ậ", 1334), strings.Repeat("ậ", 4000),
		strings.Repeat("a", 3999) + "é", "é" + strings.Repeat("a", 3999), strings.Repeat("a", 3998) + "ậ", strings.Repeat("a", 4001),
	} {
		refuses(t, []rune(s), api.ErrMuch)
	}
}

func TestWrongTexts(t *testing.T) {
	for _, bad := range []rune{math.MinInt32, -1, 55296, 56000, 57343, api.MaxRune + 1, math.MaxInt32} {
		for k := range 4 {
			refuses(t, slices.Insert([]rune("aé\u0301"), k, bad), api.ErrRange)
		}
		// What is wrong with the text comes ahead of how long it becomes.
		refuses(t, append([]rune(strings.Repeat("ậ", 3999)), bad), api.ErrRange)
		refuses(t, append([]rune(strings.Repeat("ậ", 4000)), bad), api.ErrMuch)
	}
	refuses(t, make([]rune, 4001), api.ErrMuch)
	refuses(t, make([]rune, 100000), api.ErrMuch)
}

// Z2

func TestWhatIsHandedInIsOnlyRead(t *testing.T) {
	for _, s := range []string{"", "abc", "éậ", "\u0301\u0327a\u0302\u0323x", "e\u0301b", "a\u0327\u0302"} {
		for _, c := range calls {
			room := append([]rune(s), 0x301, -1, 'é')
			kept := slices.Clone(room)
			n := len(room) - 3
			answer, _ := c.want(s)
			got, err := c.play(room[:n])
			if string(got) != answer || err != api.OK || !slices.Equal(room, kept) {
				t.Errorf("%s(%+q): %+q, %v; what was handed in is %v, not %v", c.name, s, string(got), err, room, kept)
			}
			clear(room)
			if string(got) != answer {
				t.Errorf("%s(%+q) has become %+q", c.name, s, string(got))
			}
			copy(room, kept)
			for i := range got[:cap(got)] {
				got[:cap(got)][i] = 'z'
			}
			if !slices.Equal(room, kept) {
				t.Errorf("%s(%+q) shares memory: %v, not %v", c.name, s, room, kept)
			}
		}
	}
}

// Z3

func TestNilAndNoEntries(t *testing.T) {
	for _, c := range calls {
		for _, l := range [][]rune{nil, {}, []rune("abc")[:0]} {
			if got, err := c.play(l); len(got) != 0 || err != api.OK {
				t.Errorf("%s(%#v): %v, %v", c.name, l, got, err)
			}
		}
	}
}
