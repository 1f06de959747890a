package rulesyn

import (
	"regexp"
	"slices"
	"strconv"

	"scriptshift/api"
	"scriptshift/setsyn"
)

// What follows reads files in another way: rune by rune, by the state in which it is, without a stack. It leans on the faces of setsyn and on nothing of this package.

const special = " \t\n[]&-^\\:$(){}<>|;#'\"=,"

var (
	nothing  = regexp.MustCompile(`^(?:[ \t\n]|#[^\n]*)*`)
	nameHere = regexp.MustCompile(`^[a-z_][a-z_0-9]*`)
	hexHere  = regexp.MustCompile(`^[0-9a-fA-F]*`)
)

type oracle struct {
	text []rune
	at   int
	list []api.Part
	f    api.Fault
}

func (o *oracle) rest() string { return string(o.text[min(o.at, len(o.text)):]) }

func (o *oracle) fail(err api.Errno, at int) bool {
	o.f = api.Fault{Err: err, At: at}
	return false
}

// match goes on behind what the expression matches, all of it ASCII but for remarks.
func (o *oracle) match(x *regexp.Regexp) string {
	s := x.FindString(o.rest())
	o.at += len([]rune(s))
	return s
}

func (o *oracle) here() rune {
	if o.at >= len(o.text) {
		return -1
	}
	return o.text[o.at]
}

func oracleRead(text string) ([]api.Part, api.Fault) {
	o := &oracle{text: []rune(text)}
	if len(o.text) > 16000 {
		return nil, api.Fault{Err: api.ErrMuch}
	}
	for o.match(nothing); o.at < len(o.text); o.match(nothing) {
		if len(o.list) >= 200 {
			return nil, api.Fault{Err: api.ErrMany, At: o.at}
		}
		begin := o.at
		if !o.part() {
			return nil, o.f
		}
		o.match(nothing)
		if o.here() != ';' {
			return nil, api.Fault{Err: api.ErrForm, At: o.at}
		}
		o.at++
		if p := o.list[len(o.list)-1]; p.Kind == api.PaRule && oracleWrong(p) != api.OK {
			return nil, api.Fault{Err: oracleWrong(p), At: begin}
		}
	}
	return o.list, api.Fault{}
}

func (o *oracle) part() bool {
	begin := o.at
	if o.here() == ':' {
		o.at++
		if o.here() != ':' {
			return o.fail(api.ErrForm, o.at)
		}
		o.at++
		o.match(nothing)
		return o.colons()
	}
	if o.here() == '$' {
		o.at++
		name := o.match(nameHere)
		o.match(nothing)
		if name != "" && o.here() == '=' {
			if len(name) > 20 {
				return o.fail(api.ErrName, begin+1)
			}
			o.at++
			o.match(nothing)
			s, ok := o.set()
			o.list = append(o.list, api.Part{Kind: api.PaVar, Name: name, Set: s})
			return ok
		}
		o.at = begin
	}
	return o.rule()
}

func (o *oracle) colons() bool {
	if o.here() == '[' {
		s, ok := o.set()
		o.list = append(o.list, api.Part{Kind: api.PaFilter, Set: s})
		return ok
	}
	begin := o.at
	name := o.match(nameHere)
	if !slices.Contains([]string{"lower", "null", "remove", "upper"}, name) {
		return o.fail(api.ErrName, begin)
	}
	o.list = append(o.list, api.Part{Kind: api.PaPass, Name: name})
	return true
}

// set is the shortest text at the cursor that is a set.
func (o *oracle) set() ([]api.Span, bool) {
	for j := o.at + 1; j <= len(o.text); j++ {
		if o.text[j-1] != ']' || o.here() != '[' {
			continue
		}
		if s, f := setsyn.Read(string(o.text[o.at:j])); f.Err == api.OK {
			o.at = j
			return s, true
		}
	}
	_, f := setsyn.Read(string(o.text[o.at:]))
	return nil, o.fail(f.Err, o.at+f.At)
}

// word is the items of the word at the cursor; ok is whether there is one, and good whether it is well.
func (o *oracle) word() (l []api.Item, ok, good bool) {
	begin := o.at
	switch c := o.here(); {
	case c == '[':
		s, good := o.set()
		return []api.Item{{Kind: api.ItSet, Set: s}}, true, good
	case c == '$':
		o.at++
		name := o.match(nameHere)
		if name == "" {
			o.at = begin
			return nil, false, true
		}
		if len(name) > 20 {
			return nil, true, o.fail(api.ErrName, begin+1)
		}
		return []api.Item{{Kind: api.ItVar, Name: name}}, true, true
	case c == '\'':
		n := slices.Index(o.text[o.at+1:], '\'')
		if n < 0 {
			return nil, true, o.fail(api.ErrForm, len(o.text))
		}
		for _, r := range o.text[o.at+1 : o.at+1+n] {
			l = append(l, api.Item{Kind: api.ItRune, Rune: r})
		}
		o.at += n + 2
		return l, true, true
	case c == '\\':
		r, good := o.escaped()
		return []api.Item{{Kind: api.ItRune, Rune: r}}, true, good
	case c < 0 || slices.Contains([]rune(special), c):
		return nil, false, true
	default:
		o.at++
		return []api.Item{{Kind: api.ItRune, Rune: c}}, true, true
	}
}

func (o *oracle) escaped() (rune, bool) {
	begin := o.at
	o.at++
	c := o.here()
	o.at++
	switch {
	case c == 'n':
		return '\n', true
	case c == 't':
		return '\t', true
	case c == 'u':
		return o.numbered(begin)
	case c < 0 || c < 128 && regexp.MustCompile(`[0-9A-Za-z]`).MatchString(string(c)):
		return 0, o.fail(api.ErrForm, begin+1)
	}
	return c, true
}

func (o *oracle) numbered(begin int) (rune, bool) {
	if o.here() != '{' {
		return 0, o.fail(api.ErrForm, begin+2)
	}
	o.at++
	digits := o.match(hexHere)
	if len(digits) < 1 || len(digits) > 6 {
		return 0, o.fail(api.ErrForm, begin+3)
	}
	if o.here() != '}' {
		return 0, o.fail(api.ErrForm, o.at)
	}
	o.at++
	n, _ := strconv.ParseUint(digits, 16, 64)
	switch {
	case n > 1114111:
		return 0, o.fail(api.ErrRange, begin+1)
	case n >= 55296 && n <= 57343:
		return 0, o.fail(api.ErrRange, begin)
	}
	return rune(n), true
}

// States of a side.
const (
	fresh  = iota // nothing has come
	first         // items have come, and no brace
	caret         // behind `^`
	middle        // behind `{`
	last          // behind `}`
	closed        // behind `$`
)

func (o *oracle) rule() bool {
	p := api.Part{Kind: api.PaRule}
	side := &p.Left
	state, cursor, from := fresh, -1, o.at
	var l []api.Item
	for ; ; o.match(nothing) {
		if state == fresh {
			o.match(nothing)
			from = o.at
		}
		at := o.at
		if state != closed {
			next, ok, good := o.word()
			if !good {
				return false
			}
			if ok {
				l = append(l, next...)
				if len(l) > 20 {
					return o.fail(api.ErrMany, at)
				}
				if state == fresh {
					state = first
				}
				continue
			}
			if o.here() == '|' {
				if cursor >= 0 {
					return o.fail(api.ErrMany, at)
				}
				if state == fresh {
					state = first
				}
				cursor = len(l)
				o.at++
				continue
			}
		}
		c := o.here()
		switch {
		case cursor >= 0 && (state == caret || state == last || c == '{' && state == first):
			return o.fail(api.ErrFit, from)
		case c == '^' && state == fresh:
			side.Start = true
			state, from = caret, at+1
			o.at++
		case c == '{' && (state == fresh || state == first || state == caret):
			side.Before = l
			l = nil
			state = middle
			o.at++
		case state == caret:
			return o.fail(api.ErrForm, at)
		case c == '}' && (state == fresh || state == first || state == middle):
			side.Source, side.Cursor = l, cursor
			l, cursor = nil, -1
			state, from = last, at+1
			o.at++
		case c == '$' && state == last:
			side.End = true
			side.After = l
			l = nil
			state = closed
			o.at++
		default:
			switch state {
			case last:
				side.After = l
			case fresh, first, middle:
				side.Source, side.Cursor = l, cursor
			}
			if side == &p.Right {
				o.list = append(o.list, p)
				return true
			}
			switch {
			case c == '>':
				p.Dir = api.DirForth
			case c == '<' && o.at+1 < len(o.text) && o.text[o.at+1] == '>':
				p.Dir = api.DirBoth
				o.at++
			case c == '<':
				p.Dir = api.DirBack
			default:
				return o.fail(api.ErrForm, at)
			}
			o.at++
			side = &p.Right
			l, cursor, state = nil, -1, fresh
		}
	}
}

// oracleWrong is what is wrong with a rule: all that may be wrong is listed in its order, and the first one that is so is taken.
func oracleWrong(p api.Part) api.Errno {
	type check struct {
		bad bool
		err api.Errno
	}
	var l []check
	l = append(l, check{p.Dir < 1 || p.Dir > 3, api.ErrKind})
	for n, s := range []api.Side{p.Left, p.Right} {
		for _, items := range [][]api.Item{s.Before, s.Source, s.After} {
			l = append(l, check{len(items) > 20, api.ErrMany})
			for _, x := range items {
				right := x.Rune >= 0 && x.Rune <= 1114111 && (x.Rune < 55296 || x.Rune > 57343)
				_, err := setsyn.Print(x.Set)
				l = append(l,
					check{x.Kind == api.ItRune && !right, api.ErrRange},
					check{x.Kind == api.ItSet && err != api.OK, err},
					check{x.Kind == api.ItVar && (len(x.Name) > 20 || !regexp.MustCompile(`^[a-z_][a-z_0-9]*$`).MatchString(x.Name)), api.ErrName},
					check{x.Kind < 1 || x.Kind > 3, api.ErrKind})
			}
		}
		goesTo := []int{api.DirBack, api.DirForth}[n]
		l = append(l,
			check{s.Cursor < -1 || s.Cursor > len(s.Source), api.ErrRange},
			check{len(s.Source) == 0 && p.Dir != goesTo, api.ErrNone})
	}
	fixed := func(s api.Side) bool {
		return !slices.ContainsFunc(s.Source, func(x api.Item) bool { return x.Kind != api.ItRune })
	}
	plain := func(s api.Side) bool { return !s.Start && !s.End && len(s.Before)+len(s.After) == 0 }
	l = append(l,
		check{p.Dir != api.DirBack && !fixed(p.Right), api.ErrFit},
		check{p.Dir != api.DirForth && !fixed(p.Left), api.ErrFit},
		check{p.Dir == api.DirForth && (!plain(p.Right) || p.Left.Cursor >= 0), api.ErrFit},
		check{p.Dir == api.DirBack && (!plain(p.Left) || p.Right.Cursor >= 0), api.ErrFit})
	for _, x := range l {
		if x.bad {
			return x.err
		}
	}
	return api.OK
}
