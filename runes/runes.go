// Package runes has texts as lists of runes: see doc/01-runes.md.
package runes

import (
	"strings"

	"scriptshift/api"
)

// UTF-16 takes these numbers for halves of pairs, so no letter has them.
const (
	firstHalf = 55296
	lastHalf  = 57343
)

// badWritten is the UTF-8 of api.Bad.
const badWritten = "\xef\xbf\xbd"

func Right(r rune) bool {
	return r >= 0 && r <= api.MaxRune && (r < firstHalf || r > lastHalf)
}

func Decode(s string) []rune {
	var l []rune
	for _, r := range s {
		l = append(l, r)
	}
	return l
}

func Encode(l []rune) (string, api.Errno) {
	// The conversion alone would write Bad for a rune that is not right, and say nothing.
	for _, r := range l {
		if !Right(r) {
			return "", api.ErrRange
		}
	}
	return string(l), api.OK
}

func Places(s string) []int {
	var l []int
	for at := range s {
		l = append(l, at)
	}
	return append(l, len(s))
}

func Spoilt(s string) int {
	n := 0
	for at, r := range s {
		// A text may have Bad itself: only its bytes tell that from a byte where no rune begins.
		if r == api.Bad && !strings.HasPrefix(s[at:], badWritten) {
			n++
		}
	}
	return n
}
