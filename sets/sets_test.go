package sets

import (
	"fmt"
	"math"
	"slices"
	"testing"

	"scriptshift/api"
)

const top = 1114111

// span and one spare the tests the fields' names.
func span(low, high rune) api.Span { return api.Span{Low: low, High: high} }

func one(r rune) api.Span { return span(r, r) }

// dots is a set of n single numbers: 0, gap, 2*gap and so on.
func dots(n int, gap rune) []api.Span {
	var l []api.Span
	for k := range n {
		l = append(l, one(rune(k)*gap))
	}
	return l
}

// cells are all numbers, in pieces: single ones at both ends and around halves of pairs, and all else between.
var cells = []api.Span{one(0), one(1), one(2), span(3, 55294), one(55295), span(55296, 57343), span(57344, top-2), one(top - 1), one(top)}

// made is the set of the cells whose bits are in mask: the form that a set must have, worked out from nothing but the cells.
func made(mask int) []api.Span {
	var l []api.Span
	for i := 0; i < len(cells); i++ {
		if mask>>i&1 == 0 {
			continue
		}
		first := i
		for mask>>(i+1)&1 == 1 && i+1 < len(cells) {
			i++
		}
		l = append(l, span(cells[first].Low, cells[i].High))
	}
	return l
}

const masks = 1 << 9

func allMade() [][]api.Span {
	var l [][]api.Span
	for m := range masks {
		l = append(l, made(m))
	}
	return l
}

func answers(t *testing.T, what string, got []api.Span, err api.Errno, want []api.Span) {
	t.Helper()
	if err != api.OK || !slices.Equal(got, want) {
		t.Fatalf("%s: %v, %d, not %v", what, got, err, want)
	}
}

func refuses(t *testing.T, what string, got []api.Span, err, want api.Errno) {
	t.Helper()
	if err != want || got != nil {
		t.Errorf("%s: %v, %d, not none and %d", what, got, err, want)
	}
}

func TestWrong(t *testing.T) {
	tests := []struct {
		s   []api.Span
		err api.Errno
	}{
		{nil, api.OK},
		{[]api.Span{}, api.OK},
		{[]api.Span{span(0, top)}, api.OK},
		{[]api.Span{one(0), one(2), one(top)}, api.OK},
		{[]api.Span{span(55296, 57343)}, api.OK},
		{[]api.Span{span('a', 'c'), span('e', 'g')}, api.OK},
		{dots(200, 2), api.OK},
		{dots(201, 2), api.ErrMany},
		{append(dots(200, 2), span(-1, -2)), api.ErrMany},
		{append([]api.Span{span(5, 4)}, dots(200, 2)...), api.ErrMany},
		{[]api.Span{span(-1, 4)}, api.ErrRange},
		{[]api.Span{span(math.MinInt32, math.MinInt32)}, api.ErrRange},
		{[]api.Span{span(5, top+1)}, api.ErrRange},
		{[]api.Span{span(0, math.MaxInt32)}, api.ErrRange},
		{[]api.Span{span(top+1, top+1)}, api.ErrRange},
		{[]api.Span{span(5, 4)}, api.ErrRange},
		{[]api.Span{span(1, 2), span(3, 4)}, api.ErrForm},
		{[]api.Span{span(1, 2), span(2, 4)}, api.ErrForm},
		{[]api.Span{span(1, 5), span(2, 3)}, api.ErrForm},
		{[]api.Span{span(5, 6), span(1, 2)}, api.ErrForm},
		{[]api.Span{span(1, 2), span(1, 2)}, api.ErrForm},
		{[]api.Span{span(0, top), one(0)}, api.ErrForm},
		{append(dots(199, 2), one(397)), api.ErrForm},
		{append(dots(199, 2), span(500, 499)), api.ErrRange},
		// Span by span: of one span the range is told first, of two the first one.
		{[]api.Span{span(5, 6), span(-1, 2)}, api.ErrRange},
		{[]api.Span{span(5, 6), span(7, 6)}, api.ErrRange},
		{[]api.Span{span(5, 6), span(7, 8), span(-1, 2)}, api.ErrForm},
		{[]api.Span{span(-1, 2), span(5, 6), span(7, 8)}, api.ErrRange},
		{[]api.Span{span(5, math.MaxInt32), span(math.MinInt32, 6)}, api.ErrRange},
	}
	for _, x := range tests {
		if got := Wrong(x.s); got != x.err {
			t.Errorf("Wrong(%v): %d, not %d", x.s, got, x.err)
		}
	}
	for _, s := range allMade() {
		if got := Wrong(s); got != api.OK {
			t.Errorf("Wrong(%v): %d", s, got)
		}
	}
}

// wrongSets are sets with something wrong, and what.
var wrongSets = []struct {
	s   []api.Span
	err api.Errno
}{
	{dots(201, 2), api.ErrMany},
	{[]api.Span{span(5, 4)}, api.ErrRange},
	{[]api.Span{span(1, 2), span(3, 4)}, api.ErrForm},
}

func TestWrongSetsAreToldByAllCalls(t *testing.T) {
	two := []struct {
		name string
		call func(a, b []api.Span) ([]api.Span, api.Errno)
	}{{"Union", Union}, {"Meet", Meet}, {"Minus", Minus}}
	right := []api.Span{span('a', 'c')}
	for _, x := range wrongSets {
		l, err := Not(x.s)
		refuses(t, "Not", l, err, x.err)
		if n, err := Count(x.s); n != 0 || err != x.err {
			t.Errorf("Count: %d, %d, not 0 and %d", n, err, x.err)
		}
		for _, k := range []int{-1, 0, 1, 1000} {
			if r, err := Nth(x.s, k); r != 0 || err != x.err {
				t.Errorf("Nth(.., %d): %d, %d, not 0 and %d", k, r, err, x.err)
			}
		}
		for _, f := range two {
			l, err := f.call(x.s, right)
			refuses(t, f.name+" of a wrong one and a right one", l, err, x.err)
			l, err = f.call(right, x.s)
			refuses(t, f.name+" of a right one and a wrong one", l, err, x.err)
			l, err = f.call(nil, x.s)
			refuses(t, f.name+" of none and a wrong one", l, err, x.err)
			for _, y := range wrongSets {
				l, err = f.call(x.s, y.s)
				refuses(t, f.name+" of two wrong ones", l, err, x.err)
			}
		}
	}
}

func TestHasAndSubOfWrongSetsDoNotPanic(t *testing.T) {
	ends := []rune{math.MinInt32, -1, 0, 1, 2, top, top + 1, math.MaxInt32}
	var spans []api.Span
	for _, low := range ends {
		for _, high := range ends {
			spans = append(spans, span(low, high))
		}
	}
	for _, x := range spans {
		for _, y := range spans {
			s := []api.Span{x, y}
			for _, r := range ends {
				Has(s, r)
			}
			Sub(s, []api.Span{y, x, y})
			Sub(nil, s)
			Sub(s, nil)
		}
	}
}

func TestOf(t *testing.T) {
	tests := []struct{ l, want []api.Span }{
		{nil, nil},
		{[]api.Span{}, nil},
		{[]api.Span{span('a', 'c'), span('d', 'e')}, []api.Span{span('a', 'e')}},
		{[]api.Span{span('a', 'c'), span('e', 'e')}, []api.Span{span('a', 'c'), one('e')}},
		{[]api.Span{span('x', 'z'), span('a', 'c'), span('d', 'e'), span('b', 'c')}, []api.Span{span('a', 'e'), span('x', 'z')}},
		{[]api.Span{span(0, 9), span(2, 3), span(8, 12)}, []api.Span{span(0, 12)}},
		{[]api.Span{one(top), span(0, top), one(0)}, []api.Span{span(0, top)}},
		{[]api.Span{span(55296, 57343), span(57344, 57344), one(55295)}, []api.Span{span(55295, 57344)}},
	}
	for _, x := range tests {
		got, err := Of(x.l)
		answers(t, fmt.Sprint("Of ", x.l), got, err, x.want)
	}
	for m, s := range allMade() {
		got, err := Of(s)
		answers(t, "Of a set", got, err, s)
		var pieces []api.Span
		for i, c := range cells {
			if m>>i&1 == 1 {
				pieces = slices.Insert(pieces, len(pieces)/2, c)
			}
		}
		got, err = Of(append(pieces, pieces...))
		answers(t, fmt.Sprint("Of ", pieces, " twice"), got, err, s)
	}
}

func TestOfAllShortLists(t *testing.T) {
	var spans []api.Span
	for low := range rune(7) {
		for high := low; high < 7; high++ {
			spans = append(spans, span(low, high))
		}
	}
	for _, x := range spans {
		for _, y := range spans {
			for _, z := range spans {
				l := []api.Span{x, y, z}
				var has [8]bool
				for _, p := range l {
					for r := p.Low; r <= p.High; r++ {
						has[r] = true
					}
				}
				var want []api.Span
				for r := range rune(7) {
					if has[r] && (r == 0 || !has[r-1]) {
						want = append(want, one(r))
					}
					if has[r] {
						want[len(want)-1].High = r
					}
				}
				got, err := Of(l)
				answers(t, fmt.Sprint("Of ", l), got, err, want)
			}
		}
	}
}

func TestOfWrongSpans(t *testing.T) {
	for _, x := range []api.Span{span(-1, 4), span(math.MinInt32, 0), span(5, top+1), span(0, math.MaxInt32), span(5, 4), span(top+1, top+1)} {
		for _, l := range [][]api.Span{{x}, {one(7), x}, {x, one(7)}, append(dots(201, 2), x), append([]api.Span{x}, dots(201, 2)...)} {
			got, err := Of(l)
			refuses(t, fmt.Sprint("Of a list with ", x), got, err, api.ErrRange)
		}
	}
}

func TestOfMany(t *testing.T) {
	got, err := Of(dots(200, 2))
	answers(t, "Of 200", got, err, dots(200, 2))
	got, err = Of(dots(201, 2))
	refuses(t, "Of 201", got, err, api.ErrMany)
	// What counts is the spans of the set, not those of the list.
	got, err = Of(dots(5000, 1))
	answers(t, "Of 5000 that are one", got, err, []api.Span{span(0, 4999)})
	got, err = Of(append(dots(201, 2), one(1)))
	answers(t, "Of 201 of which two are joined", got, err, append([]api.Span{span(0, 2)}, dots(201, 2)[2:]...))
}

func TestAlgebra(t *testing.T) {
	all := allMade()
	for m, a := range all {
		got, err := Not(a)
		answers(t, fmt.Sprint("Not ", a), got, err, all[masks-1-m])
		for n, b := range all {
			got, err = Union(a, b)
			answers(t, fmt.Sprint("Union ", a, b), got, err, all[m|n])
			got, err = Meet(a, b)
			answers(t, fmt.Sprint("Meet ", a, b), got, err, all[m&n])
			got, err = Minus(a, b)
			answers(t, fmt.Sprint("Minus ", a, b), got, err, all[m&^n])
			if Sub(a, b) != (m&^n == 0) {
				t.Fatalf("Sub(%v, %v): %v", a, b, Sub(a, b))
			}
		}
	}
}

func TestHas(t *testing.T) {
	for m, s := range allMade() {
		for i, c := range cells {
			in := m>>i&1 == 1
			for _, r := range []rune{c.Low, (c.Low + c.High) / 2, c.High} {
				if Has(s, r) != in {
					t.Fatalf("Has(%v, %d): %v", s, r, !in)
				}
			}
		}
		for _, r := range []rune{-1, math.MinInt32, top + 1, math.MaxInt32} {
			if Has(s, r) {
				t.Fatalf("Has(%v, %d)", s, r)
			}
		}
	}
	s := dots(200, 3)
	for r := rune(-3); r < 610; r++ {
		if want := r >= 0 && r < 600 && r%3 == 0; Has(s, r) != want {
			t.Errorf("Has(200 dots, %d): %v", r, !want)
		}
	}
}

func TestSub(t *testing.T) {
	tests := []struct {
		a, b []api.Span
		want bool
	}{
		{nil, nil, true},
		{[]api.Span{}, nil, true},
		{nil, []api.Span{one(5)}, true},
		{[]api.Span{one(5)}, nil, false},
		{[]api.Span{span('b', 'c')}, []api.Span{span('a', 'c')}, true},
		{[]api.Span{span('b', 'd')}, []api.Span{span('a', 'c')}, false},
		{[]api.Span{span('a', 'c')}, []api.Span{span('b', 'd')}, false},
		{[]api.Span{span('a', 'e')}, []api.Span{span('a', 'b'), span('d', 'e')}, false},
		{[]api.Span{one('a'), one('e')}, []api.Span{span('a', 'b'), span('d', 'e')}, true},
		{dots(200, 4), dots(200, 2), false},
		{dots(100, 4), dots(200, 2), true},
		{dots(200, 2), dots(200, 2), true},
		{dots(200, 2), dots(199, 2), false},
		{dots(200, 2), []api.Span{span(0, top)}, true},
	}
	for _, x := range tests {
		if Sub(x.a, x.b) != x.want {
			t.Errorf("Sub(%v, %v): %v", x.a, x.b, !x.want)
		}
	}
}

func TestTooManySpansCome(t *testing.T) {
	even, odd := dots(200, 4), []api.Span{}
	for k := range rune(200) {
		odd = append(odd, one(4*k+2))
	}
	all := []api.Span{span(0, top)}

	got, err := Union(even, odd)
	refuses(t, "Union with 400 spans", got, err, api.ErrMany)
	got, err = Union(even, odd[199:])
	refuses(t, "Union with 201 spans", got, err, api.ErrMany)
	got, err = Union(even[:100], odd[100:])
	if err != api.OK || len(got) != 200 {
		t.Errorf("Union with 200 spans: %d spans, %d", len(got), err)
	}

	got, err = Not(odd)
	refuses(t, "Not with 201 spans", got, err, api.ErrMany)
	got, err = Not(even)
	if err != api.OK || len(got) != 200 || got[0] != span(1, 3) || got[199] != span(797, top) {
		t.Errorf("Not with 200 spans: %d spans, %d", len(got), err)
	}

	got, err = Minus(all, odd)
	refuses(t, "Minus with 201 spans", got, err, api.ErrMany)
	got, err = Minus(all, odd[1:])
	if err != api.OK || len(got) != 200 {
		t.Errorf("Minus with 200 spans: %d spans, %d", len(got), err)
	}

	// Each wide span of one set is cut in two by the other one.
	wide, holes := []api.Span{}, []api.Span{}
	for k := range rune(200) {
		wide = append(wide, span(10*k, 10*k+6))
		holes = append(holes, span(10*k+4, 10*k+12))
	}
	got, err = Meet(wide, holes)
	refuses(t, "Meet with 399 spans", got, err, api.ErrMany)
	got, err = Meet(wide, holes[:101])
	refuses(t, "Meet with 202 spans", got, err, api.ErrMany)
	got, err = Meet(wide, holes[:100])
	if err != api.OK || len(got) != 200 || got[0] != span(4, 6) || got[1] != span(10, 12) {
		t.Errorf("Meet with 200 spans: %d spans, %d", len(got), err)
	}
}

func TestCountAndNth(t *testing.T) {
	for _, s := range append(allMade(), dots(200, 3), []api.Span{span('a', 'c'), span('x', 'z')}) {
		want := 0
		for _, x := range s {
			low, high := want, want+int(x.High-x.Low)
			for _, k := range []int{low, (low + high) / 2, high} {
				if r, err := Nth(s, k); err != api.OK || r != x.Low+rune(k-low) {
					t.Fatalf("Nth(%v, %d): %d, %d", s, k, r, err)
				}
			}
			want = high + 1
		}
		if n, err := Count(s); err != api.OK || n != want {
			t.Fatalf("Count(%v): %d, %d, not %d", s, n, err, want)
		}
		for _, k := range []int{want, want + 1, math.MaxInt} {
			if r, err := Nth(s, k); r != 0 || err != api.ErrNone {
				t.Fatalf("Nth(%v, %d): %d, %d", s, k, r, err)
			}
		}
		for _, k := range []int{-1, -2, math.MinInt} {
			if r, err := Nth(s, k); r != 0 || err != api.ErrRange {
				t.Fatalf("Nth(%v, %d): %d, %d", s, k, r, err)
			}
		}
	}
	if n, err := Count([]api.Span{span(0, top)}); n != 1114112 || err != api.OK {
		t.Errorf("Count of all: %d, %d", n, err)
	}
}

// withRoom is l, with spare room behind it that would be seen in an answer.
func withRoom(l []api.Span) []api.Span {
	return append(slices.Clone(l), one(9999), span(-7, -8))[:len(l)]
}

func TestWhatIsHandedInIsOnlyRead(t *testing.T) {
	a := []api.Span{span('a', 'c'), span('x', 'z')}
	b := []api.Span{span('b', 'y')}
	mixed := []api.Span{span('x', 'z'), span('a', 'c'), span('b', 'd')}
	calls := []struct {
		name string
		call func(a, b, mixed []api.Span) ([]api.Span, api.Errno)
		want []api.Span
	}{
		{"Of", func(_, _, mixed []api.Span) ([]api.Span, api.Errno) { return Of(mixed) }, []api.Span{span('a', 'd'), span('x', 'z')}},
		{"Of a set", func(a, _, _ []api.Span) ([]api.Span, api.Errno) { return Of(a) }, a},
		{"Not", func(a, _, _ []api.Span) ([]api.Span, api.Errno) { return Not(a) }, []api.Span{span(0, 'a'-1), span('d', 'w'), span('z'+1, top)}},
		{"Union", func(a, b, _ []api.Span) ([]api.Span, api.Errno) { return Union(a, b) }, []api.Span{span('a', 'z')}},
		{"Union with none", func(a, _, _ []api.Span) ([]api.Span, api.Errno) { return Union(a, nil) }, a},
		{"Meet", func(a, b, _ []api.Span) ([]api.Span, api.Errno) { return Meet(a, b) }, []api.Span{span('b', 'c'), span('x', 'y')}},
		{"Meet with itself", func(a, _, _ []api.Span) ([]api.Span, api.Errno) { return Meet(a, a) }, a},
		{"Minus", func(a, b, _ []api.Span) ([]api.Span, api.Errno) { return Minus(a, b) }, []api.Span{one('a'), one('z')}},
		{"Minus none", func(a, _, _ []api.Span) ([]api.Span, api.Errno) { return Minus(a, nil) }, a},
	}
	for _, x := range calls {
		inA, inB, inMixed := withRoom(a), withRoom(b), withRoom(mixed)
		got, err := x.call(inA, inB, inMixed)
		answers(t, x.name, got, err, x.want)
		for _, p := range [][2][]api.Span{{inA, a}, {inB, b}, {inMixed, mixed}} {
			n := len(p[1])
			if !slices.Equal(p[0], p[1]) || p[0][:n+1][n] != one(9999) || p[0][:n+2][n+1] != span(-7, -8) {
				t.Errorf("%s changed what was handed in: %v", x.name, p[0][:n+2])
			}
			clear(p[0][:n+2])
		}
		answers(t, x.name+" once what was handed in is changed", got, err, x.want)
		got = got[:cap(got)]
		for i := range got {
			got[i] = one(1)
		}
		for _, p := range [][]api.Span{inA, inB, inMixed} {
			if slices.Contains(p[:cap(p)], one(1)) {
				t.Errorf("%s answers memory that was handed in", x.name)
			}
		}
	}
}

func TestAskingOnlyReads(t *testing.T) {
	s := []api.Span{span('a', 'c'), span('x', 'z')}
	in := withRoom(s)
	if Wrong(in) != api.OK || Has(in, 9999) || !Sub(in, in) || Sub([]api.Span{one(9999)}, in) {
		t.Error("spare room was looked at")
	}
	if n, err := Count(in); n != 6 || err != api.OK {
		t.Errorf("Count: %d, %d", n, err)
	}
	if r, err := Nth(in, 6); r != 0 || err != api.ErrNone {
		t.Errorf("Nth: %d, %d", r, err)
	}
	if !slices.Equal(in[:4], []api.Span{s[0], s[1], one(9999), span(-7, -8)}) {
		t.Errorf("changed: %v", in[:4])
	}
}
