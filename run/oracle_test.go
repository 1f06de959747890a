package run

import (
	"fmt"
	"regexp"
	"strings"

	"scriptshift/api"
)

// What follows plays rules in another way: a rule becomes two expressions, one for what stands ahead of the cursor, one for what stands behind it, and a text is these two, as strings. It leans on nothing of the program but api.

type oracle []struct {
	ahead, behind *regexp.Regexp
	target        string
	cursor        int
}

func newOracle(l []api.Rule) oracle {
	o := make(oracle, len(l))
	for k, r := range l {
		ahead, behind := classes(r.Before)+`\z`, `\A(`+classes(r.Source)+`)`+classes(r.After)
		if r.Start {
			ahead = `\A` + ahead
		}
		if r.End {
			behind += `\z`
		}
		o[k].ahead, o[k].behind = regexp.MustCompile(ahead), regexp.MustCompile(behind)
		o[k].target, o[k].cursor = string(r.Target), r.Cursor
	}
	return o
}

func classes(l [][]api.Span) string {
	var out strings.Builder
	for _, s := range l {
		if len(s) == 0 {
			out.WriteString(`[^\x{0}-\x{10ffff}]`)
			continue
		}
		out.WriteByte('[')
		for _, x := range s {
			fmt.Fprintf(&out, `\x{%x}-\x{%x}`, x.Low, x.High)
		}
		out.WriteByte(']')
	}
	return out.String()
}

// which is the first rule that matches between the two, and its source there.
func (o oracle) which(ahead, behind string) (int, string) {
	for k, x := range o {
		if found := x.behind.FindStringSubmatch(behind); found != nil && x.ahead.MatchString(ahead) {
			return k, found[1]
		}
	}
	return -1, ""
}

// split is a text ahead of its n-th rune, and from there on.
func split(s string, n int) (string, string) {
	l := []rune(s)
	return string(l[:n]), string(l[n:])
}

func (o oracle) run(text string) (string, int, int, api.Errno) {
	ahead, behind, put := "", text, 0
	for steps := 0; ; steps++ {
		if behind == "" {
			return ahead, steps, put, api.OK
		}
		if steps == 8*len([]rune(text))+40 {
			return "", 0, 0, api.ErrSteps
		}
		k, source := o.which(ahead, behind)
		target, cursor := "", 1
		if k >= 0 {
			target, cursor = o[k].target, o[k].cursor
			behind = strings.TrimPrefix(behind, source)
			put++
		}
		come, stay := split(target+behind, cursor)
		ahead, behind = ahead+come, stay
		if len([]rune(ahead+behind)) > 4000 {
			return "", 0, 0, api.ErrMuch
		}
	}
}
