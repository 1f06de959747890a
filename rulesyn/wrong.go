package rulesyn

import (
	"scriptshift/api"
	"scriptshift/runes"
	"scriptshift/sets"
)

func wrongPart(p api.Part) api.Errno {
	switch p.Kind {
	case api.PaVar:
		if !Named(p.Name) {
			return api.ErrName
		}
		return sets.Wrong(p.Set)
	case api.PaFilter:
		return sets.Wrong(p.Set)
	case api.PaPass:
		if !passes(p.Name) {
			return api.ErrName
		}
		return api.OK
	case api.PaRule:
		return wrongRule(p)
	}
	return api.ErrKind
}

// passes is whether that is the name of a pass that is there already.
func passes(name string) bool {
	switch name {
	case "lower", "null", "remove", "upper":
		return true
	}
	return false
}

func wrongRule(p api.Part) api.Errno {
	if p.Dir != api.DirForth && p.Dir != api.DirBack && p.Dir != api.DirBoth {
		return api.ErrKind
	}
	if err := wrongSide(p.Left, p.Dir != api.DirBack); err != api.OK {
		return err
	}
	if err := wrongSide(p.Right, p.Dir != api.DirForth); err != api.OK {
		return err
	}
	if !fits(p) {
		return api.ErrFit
	}
	return api.OK
}

// wrongSide is what is wrong with a side alone; from is whether the rule goes from it, so that it needs a Source.
func wrongSide(s api.Side, from bool) api.Errno {
	if err := wrongItems(s.Before); err != api.OK {
		return err
	}
	if err := wrongItems(s.Source); err != api.OK {
		return err
	}
	if err := wrongItems(s.After); err != api.OK {
		return err
	}
	if s.Cursor < -1 || s.Cursor > len(s.Source) {
		return api.ErrRange
	}
	if from && len(s.Source) == 0 {
		return api.ErrNone
	}
	return api.OK
}

func wrongItems(l []api.Item) api.Errno {
	if len(l) > api.MaxItems {
		return api.ErrMany
	}
	for _, x := range l {
		if err := wrongItem(x); err != api.OK {
			return err
		}
	}
	return api.OK
}

func wrongItem(x api.Item) api.Errno {
	switch x.Kind {
	case api.ItRune:
		if !runes.Right(x.Rune) {
			return api.ErrRange
		}
		return api.OK
	case api.ItSet:
		return sets.Wrong(x.Set)
	case api.ItVar:
		if !Named(x.Name) {
			return api.ErrName
		}
		return api.OK
	}
	return api.ErrKind
}

// fits is whether each side is what the rule's direction makes of it.
func fits(p api.Part) bool {
	switch p.Dir {
	case api.DirForth:
		return gives(p.Right) && !surrounded(p.Right) && p.Left.Cursor < 0
	case api.DirBack:
		return gives(p.Left) && !surrounded(p.Left) && p.Right.Cursor < 0
	}
	return gives(p.Left) && gives(p.Right)
}

// gives is whether it is told which runes come where the rule goes to that side.
func gives(s api.Side) bool {
	for _, x := range s.Source {
		if x.Kind != api.ItRune {
			return false
		}
	}
	return true
}

// surrounded is whether it is told what stands around the side's Source.
func surrounded(s api.Side) bool {
	return s.Start || s.End || len(s.Before) > 0 || len(s.After) > 0
}
