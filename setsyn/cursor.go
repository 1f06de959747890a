package setsyn

import (
	"strconv"
	"strings"

	"scriptshift/api"
)

const (
	blankRunes   = " \t\n"
	specialRunes = blankRunes + "[]&-^\\:$(){}<>|;#'\"=,"
	hexDigits    = "0123456789abcdefABCDEF"
	maxDigits    = 6
)

// end stands behind the last rune of a text: a text's own runes are never below 0.
const end rune = -1

// Cursor is a place in a text, for whoever reads something of it, sets alone or more. Where the text can't go on its methods throw an api.Fault, which the reader's edge recovers.
type Cursor struct {
	Text []rune
	At   int
}

// Fail throws what is wrong, and where.
func (c *Cursor) Fail(err api.Errno, at int) {
	panic(api.Fault{Err: err, At: at})
}

// Ahead is the rune that stands n places behind the cursor's own one; below 0, if there is none.
func (c *Cursor) Ahead(n int) rune {
	if n >= len(c.Text)-c.At {
		return end
	}
	return c.Text[c.At+n]
}

// Done is whether nothing stands at the cursor: it is behind the text's last rune.
func (c *Cursor) Done() bool {
	return c.Ahead(0) == end
}

// Is is whether r stands at the cursor.
func (c *Cursor) Is(r rune) bool {
	return c.Ahead(0) == r
}

// Among is whether what stands at the cursor is one of those runes.
func (c *Cursor) Among(those string) bool {
	return strings.ContainsRune(those, c.Ahead(0))
}

// Take goes on behind the rune at the cursor, and answers it.
func (c *Cursor) Take() rune {
	r := c.Ahead(0)
	c.At++
	return r
}

// Skip goes on behind r, and tells whether it stood there.
func (c *Cursor) Skip(r rune) bool {
	if !c.Is(r) {
		return false
	}
	c.At++
	return true
}

// Need goes on behind r, which must stand there.
func (c *Cursor) Need(r rune) {
	if !c.Skip(r) {
		c.Fail(api.ErrForm, c.At)
	}
}

// Blanks goes on behind all blanks.
func (c *Cursor) Blanks() {
	for c.Among(blankRunes) {
		c.At++
	}
}

// Ordinary is whether a rune stands at the cursor that is not special.
func (c *Cursor) Ordinary() bool {
	return !c.Done() && !c.Among(specialRunes)
}

// Character reads a character, whether its rune is right or not.
func (c *Cursor) Character() rune {
	if c.Skip('\\') {
		return c.escaped()
	}
	if !c.Ordinary() {
		c.Fail(api.ErrForm, c.At)
	}
	return c.Take()
}

// escaped is the character whose `\` has been read.
func (c *Cursor) escaped() rune {
	switch {
	case c.Is('u'):
		return c.numbered()
	case c.Skip('n'):
		return '\n'
	case c.Skip('t'):
		return '\t'
	case c.Done() || alphanumeric(c.Ahead(0)):
		c.Fail(api.ErrForm, c.At)
	}
	return c.Take()
}

// numbered is the character that is told by its number; the cursor is at `u`.
func (c *Cursor) numbered() rune {
	begin := c.At
	c.Need('u')
	c.Need('{')
	first := c.At
	for c.Among(hexDigits) {
		c.At++
	}
	digits := string(c.Text[first:c.At])
	if len(digits) < 1 || len(digits) > maxDigits {
		c.Fail(api.ErrForm, first)
	}
	c.Need('}')
	// It can't fail: there are few enough digits, and nothing else.
	n, _ := strconv.ParseInt(digits, 16, 32)
	if n > api.MaxRune {
		c.Fail(api.ErrRange, begin)
	}
	return rune(n)
}
