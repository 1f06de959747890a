package pair

import (
	"fmt"
	"regexp"
	"strings"

	"scriptshift/api"
)

// What follows tells the same in another way: rules are alternatives of one expression, and which of them is taken tells which rule matches. It leans on nothing of the program but api, and is for right runes alone.

// expression is one that matches what those sets have, one by one.
func expression(source [][]api.Span) string {
	var b strings.Builder
	for _, s := range source {
		if len(s) == 0 {
			b.WriteString(`[^\x{0}-\x{10ffff}]`)
			continue
		}
		b.WriteString("[")
		for _, x := range s {
			fmt.Fprintf(&b, `\x{%x}-\x{%x}`, x.Low, x.High)
		}
		b.WriteString("]")
	}
	return b.String()
}

// chosen tells of a text which of those expressions is the first that matches at its beginning; -1, if none does.
func chosen(l []string) func(text string) int {
	e := regexp.MustCompile(`^(?:(` + strings.Join(l, ")|(") + `))`)
	return func(text string) int {
		m := e.FindStringSubmatchIndex(text)
		for k := range l {
			if m != nil && m[2*k+2] >= 0 {
				return k
			}
		}
		return -1
	}
}

func oracleSure(forth, back []api.Rule, domain []rune) bool {
	for _, l := range [][]api.Rule{forth, back} {
		for _, r := range l {
			if r.Start || r.End || len(r.Before)+len(r.After) != 0 || r.Cursor < len(r.Target) {
				return false
			}
		}
	}
	for _, r := range forth {
		if len(r.Source) > 1 && oracleMeets(r.Source, domain) {
			return false
		}
	}
	images := oracleImages(forth, domain)
	for _, a := range images {
		for _, b := range images {
			for _, r := range back {
				if len([]rune(a))+len([]rune(b)) < len(r.Source) {
					return false
				}
			}
		}
	}
	return oracleBack(back, images, domain)
}

// oracleMeets is whether a text of the domain's runes has what those sets ask for.
func oracleMeets(source [][]api.Span, domain []rune) bool {
	e := regexp.MustCompile("^" + expression(source) + "$")
	for _, text := range oracleTexts(domain, len(source)) {
		if e.MatchString(text) {
			return true
		}
	}
	return false
}

// oracleTexts are all texts of n of those runes.
func oracleTexts(l []rune, n int) []string {
	out := []string{""}
	for range n {
		var longer []string
		for _, text := range out {
			for _, r := range l {
				longer = append(longer, text+string(r))
			}
		}
		out = longer
	}
	return out
}

func oracleImages(forth []api.Rule, domain []rune) []string {
	var targets, from []string
	for _, r := range forth {
		if len(r.Source) == 1 {
			targets, from = append(targets, string(r.Target)), append(from, expression(r.Source))
		}
	}
	var out []string
	for _, r := range domain {
		image := string(r)
		if len(from) > 0 {
			if k := chosen(from)(image); k >= 0 {
				image = targets[k]
			}
		}
		out = append(out, image)
	}
	return out
}

func oracleBack(back []api.Rule, images []string, domain []rune) bool {
	which := func(string) int { return -1 }
	if len(back) > 0 {
		var l []string
		for _, r := range back {
			l = append(l, expression(r.Source))
		}
		which = chosen(l)
	}
	for n, image := range images {
		if image == "" {
			return false
		}
		for _, behind := range append([]string{""}, images...) {
			k := which(image + behind)
			if k < 0 && image == string(domain[n]) {
				continue
			}
			if k < 0 || len(back[k].Source) != len([]rune(image)) || string(back[k].Target) != string(domain[n]) {
				return false
			}
		}
	}
	return true
}
