package stream

import (
	"slices"

	"scriptshift/api"
)

// What follows tells of pieces in another way: all pieces are one text from the beginning on, which rules play over as if it had come at once and might be of any length, and of each piece is reckoned how far they had come by then. It leans on nothing of the program but api.

type oracle struct {
	rules      []api.Rule
	done, rest []rune // ahead of the cursor, and behind it
	unseen     int    // how many runes at the end have not come yet
	came       int
	steps      int
}

func newOracle(l []api.Rule, chunks [][]rune) *oracle {
	all := slices.Concat(chunks...)
	return &oracle{rules: l, rest: all, unseen: len(all)}
}

func within(r rune, s []api.Span) bool {
	for _, x := range s {
		if x.Low <= r && r <= x.High {
			return true
		}
	}
	return false
}

// begins is whether the sets have the list's first runes.
func begins(l []rune, sets [][]api.Span) bool {
	if len(sets) > len(l) {
		return false
	}
	for k, s := range sets {
		if !within(l[k], s) {
			return false
		}
	}
	return true
}

func (o *oracle) matches(r api.Rule) bool {
	before, n := len(o.done)-len(r.Before), len(r.Source)+len(r.After)
	return before >= 0 && begins(o.done[before:], r.Before) && begins(o.rest, slices.Concat(r.Source, r.After)) &&
		(!r.Start || before == 0) && (!r.End || n == len(o.rest))
}

func (o *oracle) goOn(n int) {
	o.done, o.rest = append(o.done, o.rest[:n]...), o.rest[n:]
}

// step tells whether the text, as far as it has come, has not become too long.
func (o *oracle) step() bool {
	o.steps++
	for _, r := range o.rules {
		if o.matches(r) {
			o.rest = slices.Concat(r.Target, o.rest[len(r.Source):])
			o.goOn(r.Cursor)
			return len(o.done)+len(o.rest)-o.unseen <= 4000
		}
	}
	o.goOn(1)
	return true
}

// reach is how many runes the rules may look at from the cursor on.
func (o *oracle) reach() int {
	n := 0
	for _, r := range o.rules {
		n = max(n, len(r.Source)+len(r.After))
	}
	return n
}

// take is what is wrong with a piece, or with the steps that are taken when it has come.
func (o *oracle) take(piece []rune) api.Errno {
	o.unseen -= len(piece)
	o.came += len(piece)
	if o.came > 4000 || len(o.done)+len(o.rest)-o.unseen > 4000 {
		return api.ErrMuch
	}
	for _, r := range piece {
		if r < 0 || r > 1114111 || r >= 55296 && r <= 57343 {
			return api.ErrRange
		}
	}
	for o.steps < 8*o.came+40 && len(o.rest)-o.unseen > o.reach() {
		if !o.step() {
			return api.ErrMuch
		}
	}
	return api.OK
}

func (o *oracle) finish() api.Errno {
	for len(o.rest) > 0 {
		if o.steps == 8*o.came+40 {
			return api.ErrSteps
		}
		if !o.step() {
			return api.ErrMuch
		}
	}
	return api.OK
}

// answer is what Feed tells, and what Wait tells.
type answer struct {
	told   [][]rune
	fed    api.Fault
	wait   int
	waited api.Fault
}

func anotherWay(l []api.Rule, chunks [][]rune) answer {
	o := newOracle(l, chunks)
	var ends []int
	for k, piece := range chunks {
		if err := o.take(piece); err != api.OK {
			f := api.Fault{Err: err, At: k}
			return answer{fed: f, waited: f}
		}
		ends = append(ends, len(o.done))
	}
	out := answer{wait: len(o.rest)}
	if err := o.finish(); err != api.OK {
		out.fed = api.Fault{Err: err, At: len(chunks)}
		return out
	}
	from := 0
	for _, to := range append(ends, len(o.done)) {
		out.told = append(out.told, o.done[from:to])
		from = to
	}
	return out
}
