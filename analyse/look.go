package analyse

import (
	"scriptshift/api"
	"scriptshift/sets"
)

// look is what a rule asks of a text on one side of the cursor: how many runes must be there, whether the text must end behind them, and the set that the k-th of them must be in, counted from the cursor on. So both sides of rules are held against each other alike.
type look struct {
	n    int
	ends bool
	set  func(k int) []api.Span
}

// backward is what r asks of what stands ahead of the cursor, the nearest rune first.
func backward(r api.Rule) look {
	last := len(r.Before) - 1
	return look{len(r.Before), r.Start, func(k int) []api.Span { return r.Before[last-k] }}
}

// forward is what r asks of what stands behind the cursor. It doesn't matter which of it is Source: both must be there.
func forward(r api.Rule) look {
	source := len(r.Source)
	return look{source + len(r.After), r.End, func(k int) []api.Span {
		if k < source {
			return r.Source[k]
		}
		return r.After[k-source]
	}}
}

// masks is whether a is found wherever b is, as far as their sets tell one by one: that b may never be found isn't asked.
func masks(a, b api.Rule) bool {
	return backward(a).covers(backward(b)) && forward(a).covers(forward(b))
}

// covers is whether l asks for nothing that other doesn't.
func (l look) covers(other look) bool {
	if l.n > other.n || l.ends && (!other.ends || l.n < other.n) {
		return false
	}
	for k := range l.n {
		if !sets.Sub(other.set(k), l.set(k)) {
			return false
		}
	}
	return true
}
