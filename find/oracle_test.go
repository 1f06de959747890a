package find

import "scriptshift/api"

// What follows finds the same in another way: it grows what came rune by rune and keeps the pieces beside it, and then asks all places from which to which something may be found, one after the other, whether of some pieces from there to there just the pattern came. It leans on nothing of the program but api, and is for rules and texts that are right, and rules that are sure.

type piece struct {
	from, to int
	came     string
}

func within(r rune, s []api.Span) bool {
	for _, x := range s {
		if x.Low <= r && r <= x.High {
			return true
		}
	}
	return false
}

func all(sets [][]api.Span, l []rune) bool {
	for k, s := range sets {
		if !within(l[k], s) {
			return false
		}
	}
	return true
}

// plays is whether the rule matches where that came, and that is still to come.
func plays(r api.Rule, came, rest []rune) bool {
	ahead, behind := len(came)-len(r.Before), len(rest)-len(r.Source)-len(r.After)
	if ahead < 0 || behind < 0 || r.Start && ahead > 0 || r.End && behind > 0 {
		return false
	}
	return all(r.Before, came[ahead:]) && all(r.Source, rest) && all(r.After, rest[len(r.Source):])
}

func cut(l []api.Rule, text string) []piece {
	var out []piece
	var came []rune
	rest, from := []rune(text), 0
	for len(rest) > 0 {
		n, made := 1, rest[:1]
		for _, r := range l {
			if plays(r, came, rest) {
				n, made = len(r.Source), r.Target
				break
			}
		}
		out = append(out, piece{from, from + n, string(made)})
		came = append(came, made...)
		rest, from = rest[n:], from+n
	}
	return out
}

// whole is what came of those pieces.
func whole(l []piece) string {
	s := ""
	for _, p := range l {
		s += p.came
	}
	return s
}

func looked(l []piece, pattern string, places int) []api.Hit {
	var out []api.Hit
	for from := range places + 1 {
		for to := range places + 1 {
			for i, p := range l {
				for k := i; k < len(l); k++ {
					if p.from == from && l[k].to == to && whole(l[i:k+1]) == pattern {
						out = append(out, api.Hit{From: from, To: to})
					}
				}
			}
		}
	}
	return out
}
