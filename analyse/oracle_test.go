package analyse

import "scriptshift/api"

// What follows tells the same in another way: sets of the numbers from 0 to 63 are the bits of one number, and lists are turned and cut, as the chapter's words go. It leans on nothing of the program but api.

func bits(s []api.Span) uint64 {
	var out uint64
	for _, x := range s {
		for r := x.Low; r <= x.High; r++ {
			out |= 1 << r
		}
	}
	return out
}

func allBits(l ...[][]api.Span) []uint64 {
	var out []uint64
	for _, x := range l {
		for _, s := range x {
			out = append(out, bits(s))
		}
	}
	return out
}

// oneByOne is whether each of b is within that of a in its place.
func oneByOne(b, a []uint64) bool {
	for k := range a {
		if b[k]|a[k] != a[k] {
			return false
		}
	}
	return true
}

func oracleMasks(a, b api.Rule) bool {
	beforeA, beforeB := allBits(a.Before), allBits(b.Before)
	restA, restB := allBits(a.Source, a.After), allBits(b.Source, b.After)
	if len(beforeB) < len(beforeA) || len(restB) < len(restA) {
		return false
	}
	if a.Start && !(b.Start && len(beforeA) == len(beforeB)) || a.End && !(b.End && len(restA) == len(restB)) {
		return false
	}
	return oneByOne(beforeB[len(beforeB)-len(beforeA):], beforeA) && oneByOne(restB[:len(restA)], restA)
}

func oracleMasked(l []api.Rule) []int {
	var out []int
	for j := range l {
		for i := range j {
			if oracleMasks(l[i], l[j]) {
				out = append(out, j)
				break
			}
		}
	}
	return out
}

func oracleFirsts(l []api.Rule) uint64 {
	var out uint64
	for _, r := range l {
		out |= bits(r.Source[0])
	}
	return out
}

func oracleSteady(l []api.Rule) bool {
	out := true
	for _, r := range l {
		out = out && r.Cursor == len(r.Target) && len(r.Source) == 1 && len(r.After) == 0 && !r.End
		for _, x := range r.Target {
			out = out && oracleFirsts(l)>>x&1 == 0
		}
	}
	return out
}
