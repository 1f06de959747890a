package chain

import (
	"fmt"
	"regexp"
	"strings"
	"unicode/utf8"

	"scriptshift/api"
)

// What follows plays scripts in another way: texts are strings, pieces are what an expression finds in them, rules are expressions, too, and letters stand beside each other in two lists. It leans on nothing of the program but api.

const (
	smallLetters = "abcdefghijklmnopqrstuvwxyzàáâãäåæçèéêëìíîïðñòóôõöøùúûüýþαβγδεζηθικλμνξοπρστυφχψωабвгдежзийклмнопрстуфхцчшщъыьэюяѐёђѓєѕіїјљњћќѝўџ"
	greatLetters = "ABCDEFGHIJKLMNOPQRSTUVWXYZÀÁÂÃÄÅÆÇÈÉÊËÌÍÎÏÐÑÒÓÔÕÖØÙÚÛÜÝÞΑΒΓΔΕΖΗΘΙΚΛΜΝΞΟΠΡΣΤΥΦΧΨΩАБВГДЕЖЗИЙКЛМНОПРСТУФХЦЧШЩЪЫЬЭЮЯЀЁЂЃЄЅІЇЈЉЊЋЌЍЎЏ"
)

// letterFor has, for each letter of one list, the one at the same place of the other.
func letterFor(from, to string) map[rune]rune {
	out := map[rune]rune{}
	l := []rune(to)
	for k, r := range []rune(from) {
		out[r] = l[k]
	}
	return out
}

// class is an expression for one rune of a set.
func class(s []api.Span) string {
	if len(s) == 0 {
		return `[^\x{0}-\x{10ffff}]`
	}
	var out strings.Builder
	for _, x := range s {
		fmt.Fprintf(&out, `\x{%x}-\x{%x}`, x.Low, x.High)
	}
	return `[` + out.String() + `]`
}

func classes(l [][]api.Span) string {
	var out strings.Builder
	for _, s := range l {
		out.WriteString(class(s))
	}
	return out.String()
}

// player plays a pass over a text.
type player func(text string) (string, api.Errno)

func players(l []api.Pass) []player {
	small, great := letterFor(greatLetters, smallLetters), letterFor(smallLetters, greatLetters)
	turned := func(m map[rune]rune) player {
		return func(text string) (string, api.Errno) {
			return strings.Map(func(r rune) rune {
				if other, ok := m[r]; ok {
					return other
				}
				return r
			}, text), api.OK
		}
	}
	var out []player
	for _, p := range l {
		switch p.Name {
		case "lower":
			out = append(out, turned(small))
		case "upper":
			out = append(out, turned(great))
		case "remove":
			out = append(out, func(string) (string, api.Errno) { return "", api.OK })
		case "null":
			out = append(out, func(text string) (string, api.Errno) { return text, api.OK })
		default:
			out = append(out, newExpressions(p.Rules).play)
		}
	}
	return out
}

// expressions are rules: one for what is ahead of the cursor, one for what is behind it.
type expressions struct {
	rules []struct {
		ahead, behind *regexp.Regexp
		target        string
		cursor        int
	}
	heads int
}

func newExpressions(l []api.Rule) *expressions {
	e := &expressions{heads: heads(l)}
	for _, r := range l {
		ahead, behind := classes(r.Before)+`\z`, `\A(`+classes(r.Source)+`)`+classes(r.After)
		if r.Start {
			ahead = `\A` + ahead
		}
		if r.End {
			behind += `\z`
		}
		e.rules = append(e.rules, struct {
			ahead, behind *regexp.Regexp
			target        string
			cursor        int
		}{regexp.MustCompile(ahead), regexp.MustCompile(behind), string(r.Target), r.Cursor})
	}
	return e
}

// heads is in how many stretches all numbers are, within each of which the same rules may begin.
func heads(l []api.Rule) int {
	begin := func(at rune) string {
		var out strings.Builder
		for k, r := range l {
			for _, x := range r.Source[0] {
				if x.Low <= at && at <= x.High {
					fmt.Fprint(&out, k, " ")
				}
			}
		}
		return out.String()
	}
	edges := map[rune]bool{}
	for _, r := range l {
		for _, x := range r.Source[0] {
			edges[x.Low], edges[x.High+1] = true, true
		}
	}
	n := 1
	for at := range edges {
		if at > 0 && at <= 1114111 && begin(at) != begin(at-1) {
			n++
		}
	}
	return n
}

func (e *expressions) play(text string) (string, api.Errno) {
	if e.heads > 400 {
		return "", api.ErrMany
	}
	ahead, behind := "", text
	most := 8*utf8.RuneCountInString(text) + 40
	for steps := 0; behind != ""; steps++ {
		if steps == most {
			return "", api.ErrSteps
		}
		target, cursor := "", 1
		for _, r := range e.rules {
			if found := r.behind.FindStringSubmatch(behind); found != nil && r.ahead.MatchString(ahead) {
				target, cursor = r.target, r.cursor
				behind = strings.TrimPrefix(behind, found[1])
				break
			}
		}
		behind = target + behind
		for range cursor {
			_, n := utf8.DecodeRuneInString(behind)
			ahead, behind = ahead+behind[:n], behind[n:]
		}
		if utf8.RuneCountInString(ahead)+utf8.RuneCountInString(behind) > 4000 {
			return "", api.ErrMuch
		}
	}
	return ahead, api.OK
}

// anotherWay is what Go tells of a script and a text with which nothing is wrong.
func anotherWay(s api.Script, text string) (string, api.Fault) {
	only := []api.Span{{Low: 0, High: 1114111}}
	if s.Some {
		only = s.Only
	}
	l := players(s.Passes)
	var f api.Fault
	out := regexp.MustCompile(class(only)+`+`).ReplaceAllStringFunc(text, func(piece string) string {
		for k, play := range l {
			if f.Err == api.OK {
				piece, f.Err = play(piece)
				f.At = k
			}
		}
		return piece
	})
	switch {
	case f.Err != api.OK:
		return "", f
	case utf8.RuneCountInString(out) > 4000:
		return "", api.Fault{Err: api.ErrMuch, At: len(l)}
	}
	return out, api.Fault{}
}
