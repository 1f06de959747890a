package setsyn

import (
	"scriptshift/api"
	"scriptshift/sets"
)

// classes are made anew each time, so that nothing of them is kept from call to call.
func classes() map[string][]api.Span {
	return map[string][]api.Span{
		"digit":    {{Low: '0', High: '9'}},
		"lower":    {{Low: 'a', High: 'z'}, {Low: 223, High: 246}, {Low: 248, High: 255}},
		"upper":    {{Low: 'A', High: 'Z'}, {Low: 192, High: 214}, {Low: 216, High: 222}},
		"letter":   {{Low: 'A', High: 'Z'}, {Low: 'a', High: 'z'}, {Low: 192, High: 214}, {Low: 216, High: 246}, {Low: 248, High: 255}},
		"vowel":    {one('A'), one('E'), one('I'), one('O'), one('U'), one('a'), one('e'), one('i'), one('o'), one('u')},
		"greek":    {{Low: 880, High: 1023}},
		"cyrillic": {{Low: 1024, High: 1279}},
		"space":    {{Low: '\t', High: '\n'}, one(' ')},
		"any":      {{Low: 0, High: api.MaxRune}},
	}
}

func one(r rune) api.Span {
	return api.Span{Low: r, High: r}
}

// whole is the set that is all of the text, but for blanks around it.
func (c *Cursor) whole() []api.Span {
	c.Blanks()
	s := c.Set()
	c.Blanks()
	if !c.Done() {
		c.Fail(api.ErrForm, c.At)
	}
	return s
}

// Set reads a set.
func (c *Cursor) Set() []api.Span {
	return c.set(1)
}

// set reads a set that is so deep.
func (c *Cursor) set(deep int) []api.Span {
	begin := c.At
	c.Need('[')
	if deep > api.MaxNest {
		c.Fail(api.ErrMuch, begin)
	}
	not := c.Skip('^')
	var s []api.Span
	c.Blanks()
	for !c.Skip(']') {
		s = c.part(s, deep)
		c.Blanks()
	}
	if not {
		s = c.made(sets.Not(s))
	}
	return s
}

// part is what becomes of s by the next part.
func (c *Cursor) part(s []api.Span, deep int) []api.Span {
	switch {
	case c.Skip('&'):
		c.Blanks()
		return c.made(sets.Meet(s, c.set(deep+1)))
	case c.Skip('-'):
		c.Blanks()
		return c.made(sets.Minus(s, c.set(deep+1)))
	case c.Is('[') && c.Ahead(1) == ':':
		return c.made(sets.Union(s, c.class()))
	case c.Is('['):
		return c.made(sets.Union(s, c.set(deep+1)))
	}
	return c.made(sets.Union(s, []api.Span{c.span()}))
}

// made is s, unless it could not be made of the part that ends here.
func (c *Cursor) made(s []api.Span, err api.Errno) []api.Span {
	if err != api.OK {
		c.Fail(err, c.At)
	}
	return s
}

func (c *Cursor) class() []api.Span {
	c.Need('[')
	c.Need(':')
	begin := c.At
	for c.Ordinary() {
		c.At++
	}
	s, ok := classes()[string(c.Text[begin:c.At])]
	if !ok {
		c.Fail(api.ErrName, begin)
	}
	c.Need(':')
	c.Need(']')
	return s
}

// span is one character, or two with `-` between.
func (c *Cursor) span() api.Span {
	low := c.Character()
	// A `-` with `[` at once behind it takes a set away, and is no part of this one.
	if !c.Is('-') || c.Ahead(1) == '[' {
		return one(low)
	}
	c.Need('-')
	begin := c.At
	high := c.Character()
	if high < low {
		c.Fail(api.ErrRange, begin)
	}
	return api.Span{Low: low, High: high}
}
