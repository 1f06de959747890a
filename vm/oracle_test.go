package vm

import "scriptshift/api"

// What follows plays rules in another way: a text is two lists of runes, the one ahead of the cursor turned round, so that the cursor is between their ends; all rules are tried, and a text's beginning and end are runes that no set has. It leans on nothing of the program but api.

const edge rune = -5

type oracle struct {
	ahead, behind []rune // each with what is next to the cursor last
	shots         []api.Shot
	put           int
}

func newOracle(text []rune) *oracle {
	o := &oracle{ahead: []rune{edge}, behind: []rune{edge}}
	for k := len(text) - 1; k >= 0; k-- {
		o.behind = append(o.behind, text[k])
	}
	return o
}

// nth is the rune that is n runes off the list's end; edge, if there is none.
func nth(l []rune, n int) rune {
	if n >= len(l) {
		return edge
	}
	return l[len(l)-1-n]
}

func within(r rune, s []api.Span) bool {
	for _, x := range s {
		if x.Low <= r && r <= x.High {
			return true
		}
	}
	return false
}

func (o *oracle) matches(r api.Rule) bool {
	for k := range r.Before {
		if !within(nth(o.ahead, k), r.Before[len(r.Before)-1-k]) {
			return false
		}
	}
	n := 0
	for _, l := range [][][]api.Span{r.Source, r.After} {
		for _, s := range l {
			if !within(nth(o.behind, n), s) {
				return false
			}
			n++
		}
	}
	return (!r.Start || nth(o.ahead, len(r.Before)) == edge) && (!r.End || nth(o.behind, n) == edge)
}

func (o *oracle) which(l []api.Rule) int {
	for k, r := range l {
		if o.matches(r) {
			return k
		}
	}
	return -1
}

// goOn has the cursor go on by n runes.
func (o *oracle) goOn(n int) {
	for range n {
		last := len(o.behind) - 1
		o.ahead, o.behind = append(o.ahead, o.behind[last]), o.behind[:last]
	}
}

func (o *oracle) replace(r api.Rule) {
	o.put++
	o.behind = o.behind[:len(o.behind)-len(r.Source)]
	for k := len(r.Target) - 1; k >= 0; k-- {
		o.behind = append(o.behind, r.Target[k])
	}
	o.goOn(r.Cursor)
}

func (o *oracle) play(l []api.Rule) api.Errno {
	most := 8*(len(o.behind)-1) + 40
	for nth(o.behind, 0) != edge {
		if len(o.shots) == most {
			return api.ErrSteps
		}
		k := o.which(l)
		o.shots = append(o.shots, api.Shot{At: len(o.ahead) - 1, Rule: k})
		if k < 0 {
			o.goOn(1)
		} else {
			o.replace(l[k])
		}
		if len(o.ahead)+len(o.behind)-2 > 4000 {
			return api.ErrMuch
		}
	}
	return api.OK
}
