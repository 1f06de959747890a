package words

import (
	"fmt"
	"regexp"
	"strings"
	"unicode/utf8"

	"scriptshift/api"
)

// What follows cuts texts in another way: they are strings, and pieces are what an expression finds in them; great letters and small ones are the library's, and so is what puts texts in the place of others. It leans on nothing of the program but api.

// class is an expression for one rune that is in a set, and one for one that is not.
func class(s []api.Span) (in, not string) {
	var l strings.Builder
	for _, x := range s {
		fmt.Fprintf(&l, `\x{%x}-\x{%x}`, x.Low, x.High)
	}
	if l.Len() == 0 {
		return `[^\x{0}-\x{10ffff}]`, `[\x{0}-\x{10ffff}]`
	}
	return `[` + l.String() + `]`, `[^` + l.String() + `]`
}

// cut is a text's pieces, each with whether it is in the set.
func cut(letters []api.Span, text string) (pieces []string, in []bool) {
	yes, no := class(letters)
	for _, found := range regexp.MustCompile(`(`+yes+`+)|`+no+`+`).FindAllStringSubmatch(text, -1) {
		pieces = append(pieces, found[0])
		in = append(in, found[1] != "")
	}
	return pieces, in
}

func splitAnotherWay(letters []api.Span, text string) []api.Word {
	var out []api.Word
	from := 0
	pieces, in := cut(letters, text)
	for k, p := range pieces {
		to := from + utf8.RuneCountInString(p)
		out = append(out, api.Word{From: from, To: to, In: in[k]})
		from = to
	}
	return out
}

// titleAnotherWay is for letters of which the library thinks as the document does.
func titleAnotherWay(letters []api.Span, text string) string {
	pieces, in := cut(letters, text)
	for k, p := range pieces {
		if in[k] {
			_, n := utf8.DecodeRuneInString(p)
			pieces[k] = strings.ToUpper(p[:n]) + strings.ToLower(p[n:])
		}
	}
	return strings.Join(pieces, "")
}

// eachAnotherWay puts, in what is in the set, texts in the place of others: the first one that is found, from the left on. Where only is not empty its runes alone are touched.
func eachAnotherWay(letters []api.Span, only string, swaps []string, text string) string {
	pieces, in := cut(letters, text)
	swap := strings.NewReplacer(swaps...)
	for k, p := range pieces {
		if in[k] {
			pieces[k] = within(only, swap, p)
		}
	}
	return strings.Join(pieces, "")
}

func within(only string, swap *strings.Replacer, piece string) string {
	if only == "" {
		return swap.Replace(piece)
	}
	var out, held strings.Builder
	flush := func() {
		out.WriteString(swap.Replace(held.String()))
		held.Reset()
	}
	for _, r := range piece {
		if strings.ContainsRune(only, r) {
			held.WriteRune(r)
			continue
		}
		flush()
		out.WriteRune(r)
	}
	flush()
	return out.String()
}
