package resolve

import (
	"slices"

	"scriptshift/api"
	"scriptshift/rulesyn"
)

// variables is the sets of all variables, unless a part is wrong, by itself or beside those ahead of it. The sets are those of l, and not for answers.
func variables(l []api.Part) (map[string][]api.Span, api.Fault) {
	if f := rulesyn.Wrong(l); f.Err != api.OK {
		return nil, f
	}
	vars := map[string][]api.Span{}
	next := order(vars)
	for i, p := range l {
		if err := next(p); err != api.OK {
			return nil, api.Fault{Err: err, At: i}
		}
	}
	return vars, api.Fault{}
}

// order tells of part after part what is wrong with it beside those ahead of it, and puts variables to vars.
func order(vars map[string][]api.Span) func(p api.Part) api.Errno {
	filtered := false
	unknown := func(x api.Item) bool {
		_, ok := vars[x.Name]
		return x.Kind == api.ItVar && !ok
	}
	return func(p api.Part) api.Errno {
		switch p.Kind {
		case api.PaVar:
			if _, ok := vars[p.Name]; ok {
				return api.ErrName
			}
			vars[p.Name] = p.Set
		case api.PaFilter:
			if filtered {
				return api.ErrMany
			}
			filtered = true
		case api.PaRule:
			if hasItem(p.Left, unknown) || hasItem(p.Right, unknown) {
				return api.ErrName
			}
		}
		return api.OK
	}
}

func hasItem(s api.Side, is func(api.Item) bool) bool {
	return slices.ContainsFunc(s.Before, is) || slices.ContainsFunc(s.Source, is) || slices.ContainsFunc(s.After, is)
}
