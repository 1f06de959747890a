package chain

import (
	"scriptshift/api"
	"scriptshift/vm"
)

// pass is what comes of a text. It may be that text itself, for no pass changes what it is given.
type pass func(text []rune) ([]rune, api.Errno)

// passes are those of a script that was checked, in order.
func passes(l []api.Pass) []pass {
	out := make([]pass, len(l))
	for k, p := range l {
		out[k] = ready(p)
	}
	return out
}

func ready(p api.Pass) pass {
	if p.Name == "" {
		return rules(p.Rules)
	}
	return named(p.Name)
}

// named is the pass that is there already by that name; nil, if there is none.
func named(name string) pass {
	switch name {
	case "lower":
		return each(Lower)
	case "null":
		return func(text []rune) ([]rune, api.Errno) { return text, api.OK }
	case "remove":
		return func([]rune) ([]rune, api.Errno) { return nil, api.OK }
	case "upper":
		return each(Upper)
	}
	return nil
}

// each is the pass that changes rune by rune.
func each(change func(r rune) rune) pass {
	return func(text []rune) ([]rune, api.Errno) {
		out := make([]rune, len(text))
		for k, r := range text {
			out[k] = change(r)
		}
		return out, api.OK
	}
}

func rules(l []api.Rule) pass {
	play := vm.Ready(l)
	return func(text []rune) ([]rune, api.Errno) {
		out, f := play(text)
		return out.Text, f.Err
	}
}
