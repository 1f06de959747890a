package stream

import (
	"slices"

	"scriptshift/api"
	"scriptshift/match"
	"scriptshift/run"
)

// flow is a text that comes piece by piece, and rules that play over what has come. The cursor never goes back, so that what is ahead of it stays, and is told.
type flow struct {
	run.State
	rules []api.Rule
	ahead int // how many runes from the cursor on a rule looks at, at most
	came  int // how many runes have come
	steps int
	told  [][]rune
	upTo  int // how many of the text's runes were told
}

// take has a piece come behind the text. No step is taken as long as what may still come could have a say in it, or the text's end could.
func (s *flow) take(piece []rune) api.Errno {
	if max(s.came, len(s.Text))+len(piece) > api.MaxText {
		return api.ErrMuch
	}
	if err := match.Text(piece); err != api.OK {
		return err
	}
	s.came += len(piece)
	s.Text = append(s.Text, piece...)
	for s.At+s.ahead < len(s.Text) && !s.spent() {
		if err := s.step(); err != api.OK {
			return err
		}
	}
	s.tell()
	return api.OK
}

// finish takes the steps that waited, when no more pieces come.
func (s *flow) finish() api.Errno {
	for s.At < len(s.Text) {
		if s.spent() {
			return api.ErrSteps
		}
		if err := s.step(); err != api.OK {
			return err
		}
	}
	s.tell()
	return api.OK
}

// spent is whether no step is left; each rune that comes gives more of them.
func (s *flow) spent() bool {
	return s.steps >= run.Most(s.came)
}

func (s *flow) step() api.Errno {
	s.steps++
	_, err := s.Step(s.rules)
	return err
}

// tell keeps a copy, lest what is told share memory with the text, and so with what is told next.
func (s *flow) tell() {
	s.told = append(s.told, slices.Clone(s.Text[s.upTo:s.At]))
	s.upTo = s.At
}
