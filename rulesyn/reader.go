package rulesyn

import (
	"scriptshift/api"
	"scriptshift/runes"
	"scriptshift/setsyn"
)

// reader is a cursor that reads files, too.
type reader struct {
	setsyn.Cursor
}

// items are what stands in one place of a side: where that begins, and the cursor among them, below 0, if there is none.
type items struct {
	begin  int
	list   []api.Item
	cursor int
}

func (r *reader) parts() []api.Part {
	var l []api.Part
	r.between()
	for !r.Done() {
		if len(l) == api.MaxParts {
			r.Fail(api.ErrMany, r.At)
		}
		l = append(l, r.ended())
		r.between()
	}
	return l
}

// ended is a part with its `;` behind. What is wrong with it as a whole is told when all of it is there.
func (r *reader) ended() api.Part {
	begin := r.At
	p := r.part()
	r.between()
	r.Need(';')
	if err := wrongPart(p); err != api.OK {
		r.Fail(err, begin)
	}
	return p
}

// between goes on behind all that makes nothing between words.
func (r *reader) between() {
	r.Blanks()
	for r.Skip('#') {
		for !r.Done() && !r.Is('\n') {
			r.At++
		}
		r.Blanks()
	}
}

func (r *reader) part() api.Part {
	if r.Skip(':') {
		r.Need(':')
		r.between()
		return r.whole()
	}
	if name, ok := r.assigned(); ok {
		r.between()
		return api.Part{Kind: api.PaVar, Name: name, Set: r.Set()}
	}
	return r.rule()
}

// whole is the part that tells something of all the text; its `::` has been read.
func (r *reader) whole() api.Part {
	if r.Is('[') {
		return api.Part{Kind: api.PaFilter, Set: r.Set()}
	}
	begin := r.At
	name := r.word()
	if !passes(name) {
		r.Fail(api.ErrName, begin)
	}
	return api.Part{Kind: api.PaPass, Name: name}
}

// word is letters and digits, as many as follow; none, if no letter comes first.
func (r *reader) word() string {
	begin := r.At
	if letter(r.Ahead(0)) {
		for letter(r.Ahead(0)) || digit(r.Ahead(0)) {
			r.At++
		}
	}
	return string(r.Text[begin:r.At])
}

// assigned is the variable whose `$`, name and `=` stand at the cursor. Else the cursor stays where it is, since a rule may begin with a variable, too.
func (r *reader) assigned() (string, bool) {
	begin := r.At
	if r.variableNext() {
		name := r.variable()
		r.between()
		if r.Skip('=') {
			return name, true
		}
	}
	r.At = begin
	return "", false
}

func (r *reader) variableNext() bool {
	return r.Is('$') && letter(r.Ahead(1))
}

func (r *reader) variable() string {
	r.Need('$')
	begin := r.At
	name := r.word()
	if !Named(name) {
		r.Fail(api.ErrName, begin)
	}
	return name
}

func (r *reader) rule() api.Part {
	p := api.Part{Kind: api.PaRule}
	p.Left = r.side()
	p.Dir = r.direction()
	p.Right = r.side()
	return p
}

func (r *reader) direction() int {
	r.between()
	if r.Skip('>') {
		return api.DirForth
	}
	r.Need('<')
	if r.Skip('>') {
		return api.DirBoth
	}
	return api.DirBack
}

func (r *reader) side() api.Side {
	var s api.Side
	r.between()
	s.Start = r.Skip('^')
	first := r.items()
	if s.Start || r.Is('{') {
		s.Before = r.uncut(first)
		r.Need('{')
		first = r.items()
	}
	s.Source, s.Cursor = first.list, first.cursor
	if r.Skip('}') {
		s.After = r.uncut(r.items())
		s.End = r.Skip('$')
	}
	return s
}

// uncut is the items of a place where no cursor may stand.
func (r *reader) uncut(x items) []api.Item {
	if x.cursor >= 0 {
		r.Fail(api.ErrFit, x.begin)
	}
	return x.list
}

// items reads as many items as come, and what makes nothing behind them.
func (r *reader) items() items {
	x := items{begin: r.At, cursor: -1}
	for r.between(); ; r.between() {
		begin := r.At
		if r.Skip('|') {
			if x.cursor >= 0 {
				r.Fail(api.ErrMany, begin)
			}
			x.cursor = len(x.list)
			continue
		}
		next, ok := r.item()
		if !ok {
			return x
		}
		x.list = append(x.list, next...)
		if len(x.list) > api.MaxItems {
			r.Fail(api.ErrMany, begin)
		}
	}
}

// item is the items of the word at the cursor: one, or those of a quoted text; false, if there is no such word.
func (r *reader) item() ([]api.Item, bool) {
	switch {
	case r.Is('['):
		return []api.Item{{Kind: api.ItSet, Set: r.Set()}}, true
	case r.variableNext():
		return []api.Item{{Kind: api.ItVar, Name: r.variable()}}, true
	case r.Skip('\''):
		return r.quoted(), true
	case r.Is('\\') || r.Ordinary():
		return []api.Item{r.single()}, true
	}
	return nil, false
}

// quoted is the items of a quoted text; its first `'` has been read.
func (r *reader) quoted() []api.Item {
	var l []api.Item
	for !r.Done() && !r.Is('\'') {
		l = append(l, api.Item{Kind: api.ItRune, Rune: r.Take()})
	}
	r.Need('\'')
	return l
}

func (r *reader) single() api.Item {
	begin := r.At
	c := r.Character()
	if !runes.Right(c) {
		r.Fail(api.ErrRange, begin)
	}
	return api.Item{Kind: api.ItRune, Rune: c}
}
