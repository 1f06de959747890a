package match

import (
	"scriptshift/api"
	"scriptshift/sets"
)

// none stands where a text has no rune.
const none rune = -1

// View is what is asked of a text, in whatever it is kept: how many runes it has, and which one stands at a place (below 0, if none does). A List is one, and so is a text with a gap (*gap.Text).
type View interface {
	Len() int
	At(at int) rune
}

// List is a text that is kept in a list.
type List []rune

// Len is how many runes there are.
func (l List) Len() int {
	return len(l)
}

// At is the rune at that place; below 0, if there is none.
func (l List) At(at int) rune {
	if at < 0 || at >= len(l) {
		return none
	}
	return l[at]
}

// Here is whether r matches at that place of v. Nothing is checked ahead of it, for whoever plays many rules has checked them, and the text, once and for all.
func Here(r api.Rule, v View, at int) bool {
	ahead := at - len(r.Before)
	behind := v.Len() - at - len(r.Source) - len(r.After)
	if ahead < 0 || behind < 0 || r.Start && ahead > 0 || r.End && behind > 0 {
		return false
	}
	next := along(v, ahead)
	return next(r.Before) && next(r.Source) && next(r.After)
}

// along tells of lists of sets, each where the one ahead of it ended, whether they have the runes there, one by one.
func along(v View, at int) func(l [][]api.Span) bool {
	return func(l [][]api.Span) bool {
		for _, s := range l {
			if !sets.Has(s, v.At(at)) {
				return false
			}
			at++
		}
		return true
	}
}
