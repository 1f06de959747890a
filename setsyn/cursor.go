package setsyn

import (
	"strconv"
	"strings"

	"scriptshift/api"
)

const (
	blankRunes   = " \t\n"
	specialRunes = blankRunes + "[]&-^\\:$(){}<>|;#'\"=,"
	hexDigits    = "0123456789abcdefABCDEF"
	maxDigits    = 6
)

// end stands behind the last rune of a text: a text's own runes are never below 0.
const end rune = -1

// cursor is a place in a text. Its methods throw an api.Fault where the text can't go on.
type cursor struct {
	text []rune
	at   int
}

func fail(err api.Errno, at int) {
	panic(api.Fault{Err: err, At: at})
}

// ahead is the rune that stands n places behind the cursor's own one.
func (c *cursor) ahead(n int) rune {
	if n >= len(c.text)-c.at {
		return end
	}
	return c.text[c.at+n]
}

func (c *cursor) is(r rune) bool {
	return c.ahead(0) == r
}

// among is whether what stands at the cursor is one of those runes.
func (c *cursor) among(those string) bool {
	return strings.ContainsRune(those, c.ahead(0))
}

func (c *cursor) take() rune {
	r := c.ahead(0)
	c.at++
	return r
}

// skip goes on behind r, and tells whether it stood there.
func (c *cursor) skip(r rune) bool {
	if !c.is(r) {
		return false
	}
	c.at++
	return true
}

func (c *cursor) need(r rune) {
	if !c.skip(r) {
		fail(api.ErrForm, c.at)
	}
}

func (c *cursor) blanks() {
	for c.among(blankRunes) {
		c.at++
	}
}

// ordinary is whether a rune stands at the cursor that is not special.
func (c *cursor) ordinary() bool {
	return !c.is(end) && !c.among(specialRunes)
}

func (c *cursor) character() rune {
	if c.skip('\\') {
		return c.escaped()
	}
	if !c.ordinary() {
		fail(api.ErrForm, c.at)
	}
	return c.take()
}

// escaped is the character whose `\` has been read.
func (c *cursor) escaped() rune {
	switch {
	case c.is('u'):
		return c.numbered()
	case c.skip('n'):
		return '\n'
	case c.skip('t'):
		return '\t'
	case c.is(end) || alphanumeric(c.ahead(0)):
		fail(api.ErrForm, c.at)
	}
	return c.take()
}

// numbered is the character that is told by its number; the cursor is at `u`.
func (c *cursor) numbered() rune {
	begin := c.at
	c.need('u')
	c.need('{')
	first := c.at
	for c.among(hexDigits) {
		c.at++
	}
	digits := string(c.text[first:c.at])
	if len(digits) < 1 || len(digits) > maxDigits {
		fail(api.ErrForm, first)
	}
	c.need('}')
	// It can't fail: there are few enough digits, and nothing else.
	n, _ := strconv.ParseInt(digits, 16, 32)
	if n > api.MaxRune {
		fail(api.ErrRange, begin)
	}
	return rune(n)
}
