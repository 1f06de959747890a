package match

import (
	"fmt"
	"regexp"
	"strings"

	"scriptshift/api"
)

// What follows matches in another way: a rule becomes two expressions, one for what stands ahead of a place, one for what stands behind it. It leans on nothing of the program but api.

type oracle struct {
	ahead, behind *regexp.Regexp
	rule          api.Rule
}

func newOracle(r api.Rule) oracle {
	ahead, behind := classes(r.Before)+`\z`, `\A(`+classes(r.Source)+`)`+classes(r.After)
	if r.Start {
		ahead = `\A` + ahead
	}
	if r.End {
		behind += `\z`
	}
	return oracle{regexp.MustCompile(ahead), regexp.MustCompile(behind), r}
}

func classes(l [][]api.Span) string {
	var out strings.Builder
	for _, s := range l {
		if len(s) == 0 {
			out.WriteString(`[^\x{0}-\x{10ffff}]`)
			continue
		}
		out.WriteByte('[')
		for _, x := range s {
			fmt.Fprintf(&out, `\x{%x}-\x{%x}`, x.Low, x.High)
		}
		out.WriteByte(']')
	}
	return out.String()
}

// put is the text that comes, and the cursor; false, if the rule doesn't match.
func (o oracle) put(text []rune, at int) (string, int, bool) {
	ahead, behind := string(text[:at]), string(text[at:])
	found := o.behind.FindStringSubmatch(behind)
	if found == nil || !o.ahead.MatchString(ahead) {
		return "", 0, false
	}
	return ahead + string(o.rule.Target) + strings.TrimPrefix(behind, found[1]), at + o.rule.Cursor, true
}
