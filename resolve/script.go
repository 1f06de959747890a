package resolve

import (
	"slices"

	"scriptshift/api"
)

// script is what becomes of parts that are not wrong, forth.
func script(l []api.Part, vars map[string][]api.Span) api.Script {
	var s api.Script
	set := lookup(vars)
	for _, p := range l {
		switch p.Kind {
		case api.PaFilter:
			s.Some, s.Only = true, slices.Clone(p.Set)
		case api.PaPass:
			s.Passes = append(s.Passes, api.Pass{Name: p.Name})
		case api.PaRule:
			if p.Dir != api.DirBack {
				s.Passes = put(s.Passes, rule(p.Left, p.Right, set))
			}
		}
	}
	return s
}

// lookup tells the set that an item stands for. It is new each time, since no two lists of an answer share anything.
func lookup(vars map[string][]api.Span) func(x api.Item) []api.Span {
	return func(x api.Item) []api.Span {
		switch x.Kind {
		case api.ItSet:
			return slices.Clone(x.Set)
		case api.ItVar:
			return slices.Clone(vars[x.Name])
		}
		return []api.Span{{Low: x.Rune, High: x.Rune}}
	}
}

// put puts a rule to the last pass, if that is one of rules, else to a new one behind it: so there is no pass of rules without any.
func put(l []api.Pass, r api.Rule) []api.Pass {
	if len(l) == 0 || l[len(l)-1].Name != "" {
		l = append(l, api.Pass{})
	}
	last := len(l) - 1
	l[last].Rules = append(l[last].Rules, r)
	return l
}

func rule(from, to api.Side, set func(api.Item) []api.Span) api.Rule {
	r := api.Rule{
		Start:  from.Start,
		End:    from.End,
		Before: each(from.Before, set),
		Source: each(from.Source, set),
		After:  each(from.After, set),
		Target: each(to.Source, func(x api.Item) rune { return x.Rune }),
		Cursor: to.Cursor,
	}
	if r.Cursor < 0 {
		r.Cursor = len(r.Target)
	}
	return r
}

// each is what f makes of each item.
func each[T any](l []api.Item, f func(api.Item) T) []T {
	var out []T
	for _, x := range l {
		out = append(out, f(x))
	}
	return out
}
