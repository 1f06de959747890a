package resolve

import (
	"slices"

	"scriptshift/api"
	"scriptshift/rulesyn"
)

// What follows resolves files in another way: it looks for each thing in the whole file, and goes through that from its end for the way back. It leans on the face of rulesyn and on nothing of this package.

func oracleFault(l []api.Part) api.Fault {
	if f := rulesyn.Wrong(l); f.Err != api.OK {
		return f
	}
	for i, p := range l {
		switch p.Kind {
		case api.PaVar:
			if oracleVar(l[:i], p.Name) >= 0 {
				return api.Fault{Err: api.ErrName, At: i}
			}
		case api.PaFilter:
			if oracleFilter(l[:i]) >= 0 {
				return api.Fault{Err: api.ErrMany, At: i}
			}
		case api.PaRule:
			all := slices.Concat(p.Left.Before, p.Left.Source, p.Left.After, p.Right.Before, p.Right.Source, p.Right.After)
			for _, x := range all {
				if x.Kind == api.ItVar && oracleVar(l[:i], x.Name) < 0 {
					return api.Fault{Err: api.ErrName, At: i}
				}
			}
		}
	}
	return api.Fault{}
}

func oracleVar(l []api.Part, name string) int {
	return slices.IndexFunc(l, func(p api.Part) bool { return p.Kind == api.PaVar && p.Name == name })
}

func oracleFilter(l []api.Part) int {
	return slices.IndexFunc(l, func(p api.Part) bool { return p.Kind == api.PaFilter })
}

// oracleScript is the script of l: where each pass begins and ends is looked for first.
func oracleScript(l []api.Part, back bool) (api.Script, api.Fault) {
	if f := oracleFault(l); f.Err != api.OK {
		return api.Script{}, f
	}
	var s api.Script
	if i := oracleFilter(l); i >= 0 {
		s.Some, s.Only = true, l[i].Set
	}
	var cuts []int
	for i, p := range l {
		if p.Kind == api.PaPass {
			cuts = append(cuts, i)
		}
	}
	cuts = append(cuts, len(l))
	begin := 0
	var rows [][]api.Pass
	for _, cut := range cuts {
		var row []api.Pass
		if rules := oracleRules(l, begin, cut, back); len(rules) > 0 {
			row = append(row, api.Pass{Rules: rules})
		}
		if cut < len(l) {
			row = append(row, api.Pass{Name: oracleName(l[cut].Name, back)})
		}
		rows = append(rows, row)
		begin = cut + 1
	}
	for i := range rows {
		if !back {
			s.Passes = append(s.Passes, rows[i]...)
			continue
		}
		row := rows[len(rows)-1-i]
		for k := len(row) - 1; k >= 0; k-- {
			s.Passes = append(s.Passes, row[k])
		}
	}
	return s, api.Fault{}
}

func oracleName(name string, back bool) string {
	if !back {
		return name
	}
	return map[string]string{"upper": "lower", "lower": "upper", "null": "null", "remove": "null"}[name]
}

func oracleRules(l []api.Part, begin, end int, back bool) []api.Rule {
	var out []api.Rule
	for _, p := range l[begin:end] {
		switch {
		case p.Kind != api.PaRule:
		case !back && (p.Dir == api.DirForth || p.Dir == api.DirBoth):
			out = append(out, oracleRule(l, p.Left, p.Right))
		case back && (p.Dir == api.DirBack || p.Dir == api.DirBoth):
			out = append(out, oracleRule(l, p.Right, p.Left))
		}
	}
	return out
}

func oracleRule(l []api.Part, from, to api.Side) api.Rule {
	sets := func(items []api.Item) [][]api.Span {
		out := make([][]api.Span, len(items))
		for i, x := range items {
			switch x.Kind {
			case api.ItRune:
				out[i] = []api.Span{{Low: x.Rune, High: x.Rune}}
			case api.ItSet:
				out[i] = x.Set
			case api.ItVar:
				out[i] = l[oracleVar(l, x.Name)].Set
			}
		}
		return out
	}
	r := api.Rule{Start: from.Start, End: from.End, Before: sets(from.Before), Source: sets(from.Source), After: sets(from.After), Cursor: len(to.Source)}
	for _, x := range to.Source {
		r.Target = append(r.Target, x.Rune)
	}
	if to.Cursor >= 0 {
		r.Cursor = to.Cursor
	}
	return r
}
