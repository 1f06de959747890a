package live

import (
	"strings"
	"unicode/utf8"

	"scriptshift/api"
)

// What follows tells the same in another way: what is there is read off the keys from their end on, where a key that takes back leaves out one that is still to come; and scripts are what the library makes of texts. It leans on nothing of the program but api, and is for keys that are not too many.

// typedAnotherWay is for keys with which nothing is wrong.
func typedAnotherWay(l []api.Key) string {
	out, gone := "", 0
	for k := len(l) - 1; k >= 0 && l[k].Kind != 3; k-- {
		switch {
		case l[k].Kind == 2:
			gone++
		case gone > 0:
			gone--
		default:
			out = string(l[k].Rune) + out
		}
	}
	return out
}

// wrongAnotherWay asks of each key whether it is wrong where nothing is wrong with those ahead of it.
func wrongAnotherWay(l []api.Key) api.Fault {
	for k, x := range l {
		switch {
		case x.Kind < 1 || x.Kind > 3:
			return api.Fault{Err: api.ErrKind, At: k}
		case x.Kind == 1 && !utf8.ValidRune(x.Rune):
			return api.Fault{Err: api.ErrRange, At: k}
		case x.Kind == 2 && typedAnotherWay(l[:k]) == "":
			return api.Fault{Err: api.ErrNone, At: k}
		}
	}
	return api.Fault{}
}

// maker is what comes of a text by a script; false, if it never ends.
type maker func(text string) (string, bool)

func swaps(l ...string) maker {
	swap := strings.NewReplacer(l...)
	return func(text string) (string, bool) { return swap.Replace(text), true }
}

func (m maker) upper() maker {
	return func(text string) (string, bool) {
		made, ok := m(text)
		return strings.ToUpper(made), ok
	}
}

func endless(at string) maker {
	return func(text string) (string, bool) { return text, !strings.Contains(text, at) }
}

// showAnotherWay tells of each key what is made of all keys up to it, as if these were all.
func showAnotherWay(m maker, l []api.Key) ([]string, api.Fault) {
	if f := wrongAnotherWay(l); f.Err != api.OK {
		return nil, f
	}
	var out []string
	for k := range l {
		made, ok := m(typedAnotherWay(l[:k+1]))
		if !ok {
			return nil, api.Fault{Err: api.ErrSteps, At: k}
		}
		out = append(out, made)
	}
	return out, api.Fault{}
}
