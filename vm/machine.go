package vm

import (
	"slices"

	"scriptshift/api"
	"scriptshift/compile"
	"scriptshift/gap"
	"scriptshift/match"
	"scriptshift/run"
)

// none stands where no rule matched.
const none = -1

// program is rules that play over any text. It keeps apart two faults that Compile tells of them, for what is wrong with a text is told between these.
type program struct {
	rules []api.Rule
	heads []api.Head
	wrong api.Fault
	many  api.Fault
}

// machine is a text with a gap, and rules that play over it: the text's cursor is theirs, so that what a rule puts in a place moves no other rune.
type machine struct {
	*gap.Text
	program
}

func compiled(l []api.Rule) program {
	p := program{rules: l, wrong: run.Wrong(l)}
	if p.wrong.Err == api.OK {
		p.heads, p.many = compile.Compile(l)
	}
	return p
}

// on is a machine ahead of its first step over that text.
func (p program) on(text []rune) (*machine, api.Fault) {
	if p.wrong.Err != api.OK {
		return nil, p.wrong
	}
	if err := match.Text(text); err != api.OK {
		return nil, api.Fault{Err: err}
	}
	if p.many.Err != api.OK {
		return nil, p.many
	}
	t, err := gap.New(text...)
	if err != api.OK {
		return nil, api.Fault{Err: err}
	}
	return &machine{Text: t, program: p}, api.Fault{}
}

// play takes steps until the cursor is at the end, and tells each of them.
func (m *machine) play(told func(s api.Shot)) api.Errno {
	for left := run.Most(m.Len()); m.Cursor() < m.Len(); left-- {
		if left == 0 {
			return api.ErrSteps
		}
		s := api.Shot{At: m.Cursor(), Rule: m.first()}
		if err := m.step(s.Rule); err != api.OK {
			return err
		}
		told(s)
	}
	return api.OK
}

// first is the first rule that matches at the cursor; none, if none does. No other rules are tried than those that may begin with the rune there.
func (m *machine) first() int {
	at := m.Cursor()
	may := compile.Find(m.heads, m.At(at))
	k := slices.IndexFunc(may, func(k int) bool { return match.Here(m.rules[k], m, at) })
	if k < 0 {
		return none
	}
	return may[k]
}

// step goes on by one, if there is no rule, else by what that one says.
func (m *machine) step(rule int) api.Errno {
	if rule == none {
		return m.Move(m.Cursor() + 1)
	}
	return m.replace(m.rules[rule])
}

// replace has the source go first, for only then is it known whether there is room for the target; if there is none the machine plays no further, and nobody asks for its text.
func (m *machine) replace(r api.Rule) api.Errno {
	at := m.Cursor()
	if err := m.Del(len(r.Source)); err != api.OK {
		return err
	}
	if err := m.Put(r.Target...); err != api.OK {
		return err
	}
	return m.Move(at + r.Cursor)
}
