package gap

import (
	"math"
	"slices"
	"strings"
	"testing"

	"scriptshift/api"
)

func move(n int) api.Edit { return api.Edit{Kind: api.EdMove, N: n} }

func put(s string) api.Edit { return api.Edit{Kind: api.EdPut, Runes: []rune(s)} }

func del(n int) api.Edit { return api.Edit{Kind: api.EdDel, N: n} }

func back(n int) api.Edit { return api.Edit{Kind: api.EdBack, N: n} }

func fault(err api.Errno, at int) api.Fault { return api.Fault{Err: err, At: at} }

func holds(t *testing.T, text []rune, l []api.Edit, want []rune, cursor int) {
	t.Helper()
	got, at, f := Play(text, l)
	if f != (api.Fault{}) || !slices.Equal(got, want) || at != cursor {
		t.Fatalf("of %v by %v: %v, %d, %v, not %v, %d", text, l, got, at, f, want, cursor)
	}
}

func refuses(t *testing.T, text []rune, l []api.Edit, want api.Fault) {
	t.Helper()
	got, at, f := Play(text, l)
	if f != want || got != nil || at != 0 {
		t.Fatalf("of %d runes by %v: %v, %d, %v, not none and %v", len(text), l, got, at, f, want)
	}
}

func TestPlay(t *testing.T) {
	tests := []struct {
		text   string
		l      []api.Edit
		want   string
		cursor int
	}{
		{"", nil, "", 0},
		{"abc", nil, "abc", 0},
		{"abc", []api.Edit{move(2)}, "abc", 2},
		{"abc", []api.Edit{move(3)}, "abc", 3},
		{"abc", []api.Edit{move(3), move(0)}, "abc", 0},
		{"", []api.Edit{move(0)}, "", 0},
		{"abc", []api.Edit{put("xy")}, "xyabc", 2},
		{"abc", []api.Edit{move(2), put("xy")}, "abxyc", 4},
		{"abc", []api.Edit{move(3), put("xy")}, "abcxy", 5},
		{"abc", []api.Edit{move(1), put(""), put("é")}, "aébc", 2},
		{"", []api.Edit{put("a"), put("b"), put("c")}, "abc", 3},
		{"abc", []api.Edit{del(0)}, "abc", 0},
		{"abc", []api.Edit{del(3)}, "", 0},
		{"abc", []api.Edit{move(1), del(1)}, "ac", 1},
		{"abc", []api.Edit{move(3), del(0)}, "abc", 3},
		{"abc", []api.Edit{back(0)}, "abc", 0},
		{"abc", []api.Edit{move(3), back(3)}, "", 0},
		{"abc", []api.Edit{move(2), back(1)}, "ac", 1},
		{"abc", []api.Edit{move(2), put("xyz"), back(1), del(1)}, "abxy", 4},
		{"abc", []api.Edit{move(1), del(2), put("z"), move(0), put("y"), back(1)}, "az", 0},
	}
	for _, x := range tests {
		holds(t, []rune(x.text), x.l, []rune(x.want), x.cursor)
	}
}

func TestPlayWrong(t *testing.T) {
	tests := []struct {
		text string
		l    []api.Edit
		want api.Fault
	}{
		{"abc", []api.Edit{{}}, fault(api.ErrKind, 0)},
		{"abc", []api.Edit{move(1), {Kind: 5}}, fault(api.ErrKind, 1)},
		{"abc", []api.Edit{{Kind: -1, N: -1}}, fault(api.ErrKind, 0)},
		{"abc", []api.Edit{{Kind: math.MinInt}}, fault(api.ErrKind, 0)},
		{"abc", []api.Edit{{Kind: math.MaxInt}}, fault(api.ErrKind, 0)},
		{"abc", []api.Edit{move(-1)}, fault(api.ErrRange, 0)},
		{"abc", []api.Edit{move(4)}, fault(api.ErrRange, 0)},
		{"abc", []api.Edit{put("x"), move(4), move(5)}, fault(api.ErrRange, 2)},
		{"abc", []api.Edit{del(1), move(3)}, fault(api.ErrRange, 1)},
		{"", []api.Edit{move(1)}, fault(api.ErrRange, 0)},
		{"abc", []api.Edit{move(math.MinInt)}, fault(api.ErrRange, 0)},
		{"abc", []api.Edit{move(2), move(math.MaxInt)}, fault(api.ErrRange, 1)},
		{"abc", []api.Edit{del(-1)}, fault(api.ErrRange, 0)},
		{"abc", []api.Edit{del(4)}, fault(api.ErrRange, 0)},
		{"abc", []api.Edit{move(2), del(2)}, fault(api.ErrRange, 1)},
		{"abc", []api.Edit{put("xy"), del(4)}, fault(api.ErrRange, 1)},
		{"abc", []api.Edit{move(2), del(math.MinInt)}, fault(api.ErrRange, 1)},
		{"abc", []api.Edit{move(2), del(math.MaxInt)}, fault(api.ErrRange, 1)},
		{"abc", []api.Edit{back(1)}, fault(api.ErrRange, 0)},
		{"abc", []api.Edit{move(2), back(-1)}, fault(api.ErrRange, 1)},
		{"abc", []api.Edit{move(2), back(3)}, fault(api.ErrRange, 1)},
		{"abc", []api.Edit{move(2), back(math.MinInt)}, fault(api.ErrRange, 1)},
		{"abc", []api.Edit{move(2), back(math.MaxInt)}, fault(api.ErrRange, 1)},
		{"abc", []api.Edit{move(9), {Kind: 9}}, fault(api.ErrRange, 0)},
	}
	for _, x := range tests {
		refuses(t, []rune(x.text), x.l, x.want)
	}
}

func TestPlayMuch(t *testing.T) {
	full := []rune(strings.Repeat("a", 4000))
	more := []rune(strings.Repeat("a", 4001))
	holds(t, full, nil, full, 0)
	holds(t, nil, []api.Edit{put(string(full))}, full, 4000)
	holds(t, full, []api.Edit{move(4000), put("")}, full, 4000)
	holds(t, full[:3997], []api.Edit{move(3997), put("aaa")}, full, 4000)
	holds(t, full, []api.Edit{del(1), put("a")}, full, 1)
	holds(t, full, []api.Edit{move(2), back(2), put("aa")}, full, 2)
	refuses(t, more, nil, fault(api.ErrMuch, 0))
	refuses(t, more, []api.Edit{{}}, fault(api.ErrMuch, 0))
	refuses(t, nil, []api.Edit{put(string(more))}, fault(api.ErrMuch, 0))
	refuses(t, full, []api.Edit{move(7), put("x")}, fault(api.ErrMuch, 1))
	refuses(t, full[:3997], []api.Edit{move(2), put("x"), put("xyz")}, fault(api.ErrMuch, 2))
	refuses(t, full, []api.Edit{put(""), {Kind: 5}, put("x")}, fault(api.ErrKind, 1))
}

// Fields that a kind has not mean nothing, and runes may be any numbers.
func TestPlayWhatever(t *testing.T) {
	odd := []rune{math.MinInt32, -1, 0, 55296, 57343, 1114112, math.MaxInt32}
	holds(t, odd, nil, odd, 0)
	holds(t, nil, []api.Edit{{Kind: api.EdPut, N: -7, Runes: odd}}, odd, len(odd))
	spare := make([]rune, 5000)
	holds(t, []rune{1, 2}, []api.Edit{
		{Kind: api.EdMove, N: 2, Runes: spare},
		{Kind: api.EdBack, N: 1, Runes: spare},
		{Kind: api.EdMove, N: 0, Runes: spare},
		{Kind: api.EdDel, N: 1, Runes: spare},
	}, nil, 0)
}

// plain plays one edit by making the whole text anew.
func plain(text []rune, at int, e api.Edit) ([]rune, int, api.Errno) {
	ahead, behind := text[:at], text[at:]
	within := func(most int) bool { return e.N >= 0 && e.N <= most }
	switch {
	case e.Kind == api.EdPut:
		return slices.Concat(ahead, e.Runes, behind), at + len(e.Runes), api.OK
	case e.Kind == api.EdMove && within(len(text)):
		return text, e.N, api.OK
	case e.Kind == api.EdDel && within(len(behind)):
		return slices.Concat(ahead, behind[e.N:]), at, api.OK
	case e.Kind == api.EdBack && within(at):
		return slices.Concat(ahead[:at-e.N], behind), at - e.N, api.OK
	}
	return nil, 0, api.ErrRange
}

func follow(t *testing.T, text []rune, l []api.Edit) {
	t.Helper()
	now, at := text, 0
	for k, e := range l {
		var err api.Errno
		if now, at, err = plain(now, at, e); err != api.OK {
			refuses(t, text, l, fault(err, k))
			return
		}
	}
	holds(t, text, l, now, at)
}

// All lists of up to four edits out of these, over texts of up to three runes.
func TestPlayAll(t *testing.T) {
	some := []api.Edit{put("x"), put("vwyz")}
	for n := range 4 {
		some = append(some, move(n), del(n), back(n))
	}
	var grow func(text []rune, l []api.Edit, more int)
	grow = func(text []rune, l []api.Edit, more int) {
		follow(t, text, l)
		if more == 0 {
			return
		}
		for _, e := range some {
			grow(text, append(slices.Clone(l), e), more-1)
		}
	}
	for n := range 4 {
		grow([]rune{'a', 'b', 'c'}[:n], nil, 4)
	}
}

// Long lists of edits, with a text that grows and shrinks by turns, so that its gap is at times narrow and at times wide.
func TestPlayLong(t *testing.T) {
	var l []api.Edit
	long := 0
	for k := range 600 {
		n := k * k % 11
		l = append(l, move(k*37%(long+1)), put(strings.Repeat(string(rune('a'+k%26)), n)))
		long += n
		if gone := k % 7 * (k / 100 % 2); gone <= long {
			l = append(l, move(gone), back(gone))
			long -= gone
		}
		if k%25 == 0 {
			follow(t, []rune{'.', '!'}, l)
		}
	}
	follow(t, []rune{'.', '!'}, l)
}

func TestPlayReadsOnly(t *testing.T) {
	roomy := func() []rune { return []rune{'a', 'b', 'c', 'd', 'e'}[:2] }
	text, runes := roomy(), roomy()
	l := []api.Edit{move(1), {Kind: api.EdPut, Runes: runes}, move(0), del(1), {Kind: 77}}
	got, at, f := Play(text, l[:4])
	if string(got) != "abb" || at != 0 || f != (api.Fault{}) {
		t.Fatalf("%s, %d, %v", string(got), at, f)
	}
	if !slices.Equal(text[:5], roomy()[:5]) || !slices.Equal(runes[:5], roomy()[:5]) || l[0].N != 1 || l[4].Kind != 77 {
		t.Errorf("the arguments have become %v, %v, %v", text[:5], runes[:5], l)
	}
	for i := range got[:cap(got)] {
		got[:cap(got)][i] = 'z'
	}
	if !slices.Equal(text[:5], roomy()[:5]) || !slices.Equal(runes[:5], roomy()[:5]) {
		t.Errorf("the answer shares memory with the arguments: %v, %v", text[:5], runes[:5])
	}
	alone, _, _ := Play(text, nil)
	alone[0] = 'z'
	if text[0] != 'a' {
		t.Error("an answer without edits is the text itself")
	}
}

func TestText(t *testing.T) {
	x, err := New('a', 'b', 'c', 'd')
	if err != api.OK || x.Len() != 4 || x.Cursor() != 0 {
		t.Fatalf("%d runes, the cursor at %d, %d", x.Len(), x.Cursor(), err)
	}
	for at := range 5 {
		if x.Move(at) != api.OK || x.Cursor() != at || x.Len() != 4 {
			t.Fatalf("the cursor is at %d, not %d, of %d runes", x.Cursor(), at, x.Len())
		}
		for i, r := range "abcd" {
			if x.At(i) != r {
				t.Errorf("with the cursor at %d, %c stands at %d, not %c", at, x.At(i), i, r)
			}
		}
		for _, i := range []int{math.MinInt, -1, 4, math.MaxInt} {
			if x.At(i) >= 0 {
				t.Errorf("with the cursor at %d, %c stands at %d", at, x.At(i), i)
			}
		}
	}
	if x, err := New(make([]rune, 4001)...); x != nil || err != api.ErrMuch {
		t.Errorf("of too many runes: %v, %d", x, err)
	}
}

// A call that is refused leaves the text as it was.
func TestTextRefused(t *testing.T) {
	x, _ := New('a', 'b', 'c')
	x.Move(1)
	if x.Move(4) != api.ErrRange || x.Move(-1) != api.ErrRange || x.Del(3) != api.ErrRange || x.Back(2) != api.ErrRange || x.Put(make([]rune, 3998)...) != api.ErrMuch {
		t.Error("something is not refused")
	}
	if string(x.Runes()) != "abc" || x.Cursor() != 1 {
		t.Errorf("left: %s, %d", string(x.Runes()), x.Cursor())
	}
}

func TestTextZero(t *testing.T) {
	var x Text
	if x.Len() != 0 || x.Cursor() != 0 || len(x.Runes()) != 0 || x.At(0) >= 0 || x.Del(0) != api.OK || x.Back(0) != api.OK || x.Move(0) != api.OK {
		t.Error("the zero value is not the text without runes")
	}
	if x.Put('a') != api.OK || string(x.Runes()) != "a" {
		t.Errorf("of a put into it: %s", string(x.Runes()))
	}
}
