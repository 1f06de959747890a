package setsyn

import (
	"scriptshift/api"
	"scriptshift/sets"
)

// classes are made anew each time, so that nothing of them is kept from call to call.
func classes() map[string][]api.Span {
	return map[string][]api.Span{
		"digit":    {{Low: '0', High: '9'}},
		"lower":    {{Low: 'a', High: 'z'}, {Low: 223, High: 246}, {Low: 248, High: 255}},
		"upper":    {{Low: 'A', High: 'Z'}, {Low: 192, High: 214}, {Low: 216, High: 222}},
		"letter":   {{Low: 'A', High: 'Z'}, {Low: 'a', High: 'z'}, {Low: 192, High: 214}, {Low: 216, High: 246}, {Low: 248, High: 255}},
		"vowel":    {one('A'), one('E'), one('I'), one('O'), one('U'), one('a'), one('e'), one('i'), one('o'), one('u')},
		"greek":    {{Low: 880, High: 1023}},
		"cyrillic": {{Low: 1024, High: 1279}},
		"space":    {{Low: '\t', High: '\n'}, one(' ')},
		"any":      {{Low: 0, High: api.MaxRune}},
	}
}

func one(r rune) api.Span {
	return api.Span{Low: r, High: r}
}

// whole is the set that is all of the text, but for blanks around it.
func (c *cursor) whole() []api.Span {
	c.blanks()
	s := c.set(1)
	c.blanks()
	if !c.is(end) {
		fail(api.ErrForm, c.at)
	}
	return s
}

// set reads a set that is so deep.
func (c *cursor) set(deep int) []api.Span {
	begin := c.at
	c.need('[')
	if deep > api.MaxNest {
		fail(api.ErrMuch, begin)
	}
	not := c.skip('^')
	var s []api.Span
	c.blanks()
	for !c.skip(']') {
		s = c.part(s, deep)
		c.blanks()
	}
	if not {
		s = c.made(sets.Not(s))
	}
	return s
}

// part is what becomes of s by the next part.
func (c *cursor) part(s []api.Span, deep int) []api.Span {
	switch {
	case c.skip('&'):
		c.blanks()
		return c.made(sets.Meet(s, c.set(deep+1)))
	case c.skip('-'):
		c.blanks()
		return c.made(sets.Minus(s, c.set(deep+1)))
	case c.is('[') && c.ahead(1) == ':':
		return c.made(sets.Union(s, c.class()))
	case c.is('['):
		return c.made(sets.Union(s, c.set(deep+1)))
	}
	return c.made(sets.Union(s, []api.Span{c.span()}))
}

// made is s, unless it could not be made of the part that ends here.
func (c *cursor) made(s []api.Span, err api.Errno) []api.Span {
	if err != api.OK {
		fail(err, c.at)
	}
	return s
}

func (c *cursor) class() []api.Span {
	c.need('[')
	c.need(':')
	begin := c.at
	for c.ordinary() {
		c.at++
	}
	s, ok := classes()[string(c.text[begin:c.at])]
	if !ok {
		fail(api.ErrName, begin)
	}
	c.need(':')
	c.need(']')
	return s
}

// span is one character, or two with `-` between.
func (c *cursor) span() api.Span {
	low := c.character()
	// A `-` with `[` at once behind it takes a set away, and is no part of this one.
	if !c.is('-') || c.ahead(1) == '[' {
		return one(low)
	}
	c.need('-')
	begin := c.at
	high := c.character()
	if high < low {
		fail(api.ErrRange, begin)
	}
	return api.Span{Low: low, High: high}
}
