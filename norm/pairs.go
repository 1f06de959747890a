package norm

import (
	"scriptshift/api"
	"scriptshift/runes"
)

// row is a mark, and letters without it and with it, at the same places.
type row struct {
	mark          rune
	without, with string
}

// rows are in the order in which Pairs tells them.
func rows() []row {
	return []row{
		{768, "AEIOUaeiou", "ÀÈÌÒÙàèìòù"},
		{769, "AEIOUYaeiouy", "ÁÉÍÓÚÝáéíóúý"},
		{770, "AEIOUaeiou", "ÂÊÎÔÛâêîôû"},
		{771, "ANOano", "ÃÑÕãñõ"},
		{776, "AEIOUaeiouy", "ÄËÏÖÜäëïöüÿ"},
		{778, "Aa", "Åå"},
		{780, "CSZcsz", "ČŠŽčšž"},
		{807, "CScs", "ÇŞçş"},
		{808, "AEae", "ĄĘąę"},
		{803, "AEOaeo", "ẠẸỌạẹọ"},
		{770, "ạẹọ", "ậệộ"},
	}
}

func Pairs() []api.Pair {
	var out []api.Pair
	for _, x := range rows() {
		with := runes.Decode(x.with)
		for k, base := range runes.Decode(x.without) {
			out = append(out, api.Pair{Base: base, Mark: x.mark, Whole: with[k]})
		}
	}
	return out
}

// parting tells what puts a rune behind a list, taken apart.
func parting() func(out []rune, r rune) []rune {
	pairs := map[rune]api.Pair{}
	for _, p := range Pairs() {
		pairs[p.Whole] = p
	}
	var parted func(out []rune, r rune) []rune
	parted = func(out []rune, r rune) []rune {
		p, ok := pairs[r]
		if !ok {
			return append(out, r)
		}
		// A Base may be a Whole, too.
		return append(parted(out, p.Base), p.Mark)
	}
	return parted
}

// joining tells what makes of a letter, and the marks behind it in order, that letter with the marks that go on it, and those that stay.
func joining() func(letter rune, marks []rune) []rune {
	wholes := map[[2]rune]rune{}
	for _, p := range Pairs() {
		wholes[[2]rune{p.Base, p.Mark}] = p.Whole
	}
	return func(letter rune, marks []rune) []rune {
		out, last := []rune{letter}, 0
		for _, m := range marks {
			whole, ok := wholes[[2]rune{out[0], m}]
			if ok && Class(m) > last {
				out[0] = whole
				continue
			}
			out, last = append(out, m), Class(m)
		}
		return out
	}
}
