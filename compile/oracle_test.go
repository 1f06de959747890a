package compile

import "scriptshift/api"

// What follows tells the same in another way: number by number, with the rules that begin there as the bits of one number. It leans on nothing of the program but api, and has room for 64 rules.

func oracleBits(l []api.Rule) []uint64 {
	out := make([]uint64, api.MaxRune+1)
	for k, r := range l {
		for _, x := range r.Source[0] {
			for n := x.Low; n <= x.High; n++ {
				out[n] |= 1 << k
			}
		}
	}
	return out
}

func oracleRules(bits uint64) []int {
	var out []int
	for k := range 64 {
		if bits>>k&1 == 1 {
			out = append(out, k)
		}
	}
	return out
}

func oracleHeads(bits []uint64) []api.Head {
	var out []api.Head
	for n, b := range bits {
		if n == 0 || bits[n-1] != b {
			out = append(out, api.Head{Low: rune(n), Rules: oracleRules(b)})
		}
		out[len(out)-1].High = rune(n)
	}
	return out
}
