package run

import (
	"slices"

	"scriptshift/api"
	"scriptshift/match"
)

// Most is how many steps are taken at most over a text of n runes: rules whose cursor doesn't go on might never end.
func Most(n int) int {
	return 8*n + 40
}

// State is a text that rules play over, and where the cursor is. The text is the State's own, for each step changes it on the spot.
type State struct {
	Text []rune
	At   int
}

// Step takes a step by rules that were checked: the number of the rule that matched, below 0, if none did; ErrMuch, if there were more than MaxText runes then (and nothing is changed). It is for a cursor that is not at the text's end.
func (s *State) Step(l []api.Rule) (int, api.Errno) {
	k := first(l, match.List(s.Text), s.At)
	if k < 0 {
		s.At++
		return k, api.OK
	}
	if err := s.put(l[k]); err != api.OK {
		return 0, err
	}
	return k, api.OK
}

// put does as match.Put, but for what was checked already.
func (s *State) put(r api.Rule) api.Errno {
	if len(s.Text)-len(r.Source)+len(r.Target) > api.MaxText {
		return api.ErrMuch
	}
	s.Text = slices.Replace(s.Text, s.At, s.At+len(r.Source), r.Target...)
	s.At += r.Cursor
	return api.OK
}

// first is the number of the first rule that matches there; -1, if none does.
func first(l []api.Rule, v match.View, at int) int {
	return slices.IndexFunc(l, func(r api.Rule) bool { return match.Here(r, v, at) })
}
