package runes

import (
	"math"
	"slices"
	"strings"
	"testing"

	"scriptshift/api"
)

// The edges: of what is right, and of what takes one, two, three and four bytes.
var rightEdges = []rune{0, 1, 127, 128, 2047, 2048, 55294, 55295, 57344, 57345, 65532, 65533, 65534, 65535, 65536, 1114110, 1114111}
var wrongEdges = []rune{math.MinInt32, -1114111, -1, 55296, 55297, 57342, 57343, 1114112, math.MaxInt32}

// written is the UTF-8 of a right rune, by arithmetic, so that nothing of what is tested is leant on.
func written(r rune) string {
	n := int(r)
	switch {
	case n < 1<<7:
		return string([]byte{byte(n)})
	case n < 1<<11:
		return string([]byte{byte(0xc0 + n>>6), byte(0x80 + n&63)})
	case n < 1<<16:
		return string([]byte{byte(0xe0 + n>>12), byte(0x80 + n>>6&63), byte(0x80 + n&63)})
	}
	return string([]byte{byte(0xf0 + n>>18), byte(0x80 + n>>12&63), byte(0x80 + n>>6&63), byte(0x80 + n&63)})
}

// begins is the rune that begins s, and its bytes; by trying: the number that the bytes spell must be written with just them.
func begins(s string) (rune, int, bool) {
	for size := 1; size <= 4 && size <= len(s); size++ {
		first := []int{0, 0, 0xc0, 0xe0, 0xf0}[size]
		n := int(s[0]) - first
		for _, b := range []byte(s[1:size]) {
			n = n<<6 + int(b&63)
		}
		right := n >= 0 && n <= 1114111 && !(n >= 55296 && n <= 57343)
		if right && written(rune(n)) == s[:size] {
			return rune(n), size, true
		}
	}
	return 65533, 1, false
}

func wanted(s string) (l []rune, places []int, spoilt int) {
	at := 0
	for at < len(s) {
		r, size, ok := begins(s[at:])
		if !ok {
			spoilt++
		}
		l, places = append(l, r), append(places, at)
		at += size
	}
	return l, append(places, at), spoilt
}

func holds(t *testing.T, s string) {
	t.Helper()
	l, places, spoilt := wanted(s)
	if got := Decode(s); !slices.Equal(got, l) {
		t.Fatalf("Decode(%q): %v, not %v", s, got, l)
	}
	if got := Places(s); !slices.Equal(got, places) {
		t.Fatalf("Places(%q): %v, not %v", s, got, places)
	}
	if got := Spoilt(s); got != spoilt {
		t.Fatalf("Spoilt(%q): %d, not %d", s, got, spoilt)
	}
}

func TestRightAtEdges(t *testing.T) {
	for _, r := range rightEdges {
		if !Right(r) {
			t.Errorf("%d is right", r)
		}
	}
	for _, r := range wrongEdges {
		if Right(r) {
			t.Errorf("%d is not right", r)
		}
	}
}

func TestRightEverywhere(t *testing.T) {
	n := 0
	for r := rune(-100); r < 1114112+100; r++ {
		if Right(r) {
			n++
		}
	}
	if n != 1114112-2048 {
		t.Errorf("%d are right", n)
	}
}

func TestWrittenOut(t *testing.T) {
	tests := []struct {
		s      string
		l      []rune
		places []int
		spoilt int
	}{
		{"", nil, []int{0}, 0},
		{"\x00", []rune{0}, []int{0, 1}, 0},
		{"abc", []rune{97, 98, 99}, []int{0, 1, 2, 3}, 0},
		{"grün", []rune{103, 114, 252, 110}, []int{0, 1, 2, 4, 5}, 0},
		{"日本🙂", []rune{26085, 26412, 128578}, []int{0, 3, 6, 10}, 0},
		{"\xff", []rune{65533}, []int{0, 1}, 1},
		{"a\xffb", []rune{97, 65533, 98}, []int{0, 1, 2, 3}, 1},
		{"\xef\xbf\xbd", []rune{65533}, []int{0, 3}, 0},
		{"\xef\xbf\xbd\xef\xbf", []rune{65533, 65533, 65533}, []int{0, 3, 4, 5}, 2},
		{"\xff\xef\xbf\xbd", []rune{65533, 65533}, []int{0, 1, 4}, 1},
		{"\xc0\xaf", []rune{65533, 65533}, []int{0, 1, 2}, 2},
		{"\xe0\x9f\xbf", []rune{65533, 65533, 65533}, []int{0, 1, 2, 3}, 3},
		{"\xf0\x8f\xbf\xbf", []rune{65533, 65533, 65533, 65533}, []int{0, 1, 2, 3, 4}, 4},
		{"\xed\x9f\xbf", []rune{55295}, []int{0, 3}, 0},
		{"\xed\xa0\x80", []rune{65533, 65533, 65533}, []int{0, 1, 2, 3}, 3},
		{"\xed\xbf\xbf", []rune{65533, 65533, 65533}, []int{0, 1, 2, 3}, 3},
		{"\xee\x80\x80", []rune{57344}, []int{0, 3}, 0},
		{"\xf4\x8f\xbf\xbf", []rune{1114111}, []int{0, 4}, 0},
		{"\xf4\x90\x80\x80", []rune{65533, 65533, 65533, 65533}, []int{0, 1, 2, 3, 4}, 4},
		{"\xe6\x97é", []rune{65533, 65533, 233}, []int{0, 1, 2, 4}, 2},
		{"é\x80", []rune{233, 65533}, []int{0, 2, 3}, 1},
	}
	for _, x := range tests {
		if got := Decode(x.s); !slices.Equal(got, x.l) {
			t.Errorf("Decode(%q): %v, not %v", x.s, got, x.l)
		}
		if got := Places(x.s); !slices.Equal(got, x.places) {
			t.Errorf("Places(%q): %v, not %v", x.s, got, x.places)
		}
		if got := Spoilt(x.s); got != x.spoilt {
			t.Errorf("Spoilt(%q): %d, not %d", x.s, got, x.spoilt)
		}
	}
}

func TestAllBytesAtEdges(t *testing.T) {
	edges := "\x00a\x7f\x80\x8f\x90\x9f\xa0\xbd\xbf\xc0\xc1\xc2\xdf\xe0\xe1\xec\xed\xee\xef\xf0\xf1\xf3\xf4\xf5\xf8\xff"
	texts := []string{""}
	for range 4 {
		var longer []string
		for _, s := range texts {
			holds(t, s)
			for i := range len(edges) {
				longer = append(longer, s+edges[i:i+1])
			}
		}
		texts = longer
	}
	for _, s := range texts {
		holds(t, s)
		holds(t, "é"+s+"\xbf")
	}
}

func TestAllTextsOfTwoBytes(t *testing.T) {
	for a := range 256 {
		for b := range 256 {
			holds(t, string([]byte{byte(a), byte(b)}))
		}
	}
}

func TestEncodeThenDecode(t *testing.T) {
	for r := rune(0); r <= 1114111; r++ {
		if r >= 55296 && r <= 57343 {
			continue
		}
		s, err := Encode([]rune{r})
		if err != api.OK || s != written(r) {
			t.Fatalf("Encode of %d: %q, %d", r, s, err)
		}
		if got := Decode(s); len(got) != 1 || got[0] != r || Spoilt(s) != 0 {
			t.Fatalf("Decode of Encode of %d: %v, spoilt %d", r, got, Spoilt(s))
		}
	}
}

func TestEncodeOfMany(t *testing.T) {
	var want strings.Builder
	for _, r := range rightEdges {
		want.WriteString(written(r))
	}
	s, err := Encode(rightEdges)
	if err != api.OK || s != want.String() {
		t.Errorf("%q, %d", s, err)
	}
	if got := Decode(s); !slices.Equal(got, rightEdges) {
		t.Errorf("Decode: %v", got)
	}
	for _, l := range [][]rune{nil, {}} {
		if s, err := Encode(l); s != "" || err != api.OK {
			t.Errorf("of none: %q, %d", s, err)
		}
	}
}

func TestEncodeOfWrongRunes(t *testing.T) {
	for _, r := range wrongEdges {
		for _, l := range [][]rune{{r}, {r, 'a'}, {'a', r}, {'a', r, 'b'}, {r, r}} {
			if s, err := Encode(l); s != "" || err != api.ErrRange {
				t.Errorf("Encode(%v): %q, %d", l, s, err)
			}
		}
	}
}

func TestWhatIsHandedInIsOnlyRead(t *testing.T) {
	room := []rune{'a', 233, 'b', -1, -1}
	s, err := Encode(room[:3])
	if err != api.OK || s != "aéb" {
		t.Errorf("spare room was looked at: %q, %d", s, err)
	}
	if !slices.Equal(room, []rune{'a', 233, 'b', -1, -1}) {
		t.Errorf("changed: %v", room)
	}
	clear(room)
	if s != "aéb" {
		t.Errorf("kept: %q", s)
	}
}

func TestAnswersAreNew(t *testing.T) {
	l, places := Decode("aé"), Places("aé")
	clear(l[:cap(l)])
	clear(places[:cap(places)])
	if got := Decode("aé"); !slices.Equal(got, []rune{'a', 233}) {
		t.Errorf("Decode: %v", got)
	}
	if got := Places("aé"); !slices.Equal(got, []int{0, 1, 3}) {
		t.Errorf("Places: %v", got)
	}
}
