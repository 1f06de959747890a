package gap

import (
	"slices"

	"scriptshift/api"
)

// none stands where a text has no rune.
const none rune = -1

// Text is runes and a cursor, with a gap there: what comes or goes at the cursor moves no other rune. Its zero value has no runes.
type Text struct {
	room []rune // the runes ahead of the gap, the gap, the runes behind it
	from int    // where the gap begins: the cursor
	to   int    // where the runes behind it begin
}

// New is a text of those runes, the cursor ahead of them all; ErrMuch, if there are more than MaxText.
func New(l ...rune) (*Text, api.Errno) {
	t := &Text{}
	if err := t.Put(l...); err != api.OK {
		return nil, err
	}
	return t, t.Move(0)
}

// Len is how many runes there are.
func (t *Text) Len() int {
	return t.from + t.behind()
}

func (t *Text) behind() int {
	return len(t.room) - t.to
}

// At is the rune at that place; below 0, if there is none.
func (t *Text) At(at int) rune {
	switch {
	case at < 0 || at >= t.Len():
		return none
	case at < t.from:
		return t.room[at]
	}
	return t.room[t.to+at-t.from]
}

// Cursor is how many runes are ahead of the cursor.
func (t *Text) Cursor() int {
	return t.from
}

// Runes are those of the text, as a list of the caller's own.
func (t *Text) Runes() []rune {
	return slices.Concat(t.room[:t.from], t.room[t.to:])
}

// Move has the cursor go to that place; ErrRange, if there is none such.
func (t *Text) Move(at int) api.Errno {
	if at < 0 || at > t.Len() {
		return api.ErrRange
	}
	if at < t.from {
		t.to -= t.from - at
		copy(t.room[t.to:], t.room[at:t.from])
	} else {
		t.to += copy(t.room[t.from:at], t.room[t.to:])
	}
	t.from = at
	return api.OK
}

// Put has those runes come at the cursor, which is behind them then; ErrMuch, if there were more than MaxText.
func (t *Text) Put(l ...rune) api.Errno {
	if len(l) > api.MaxText-t.Len() {
		return api.ErrMuch
	}
	t.widen(len(l))
	t.from += copy(t.room[t.from:t.to], l)
	return api.OK
}

// widen makes the gap wide enough for n runes; much wider than that, lest runes that come one by one move all others each time.
func (t *Text) widen(n int) {
	if n <= t.to-t.from {
		return
	}
	room := make([]rune, 2*(t.Len()+n))
	copy(room, t.room[:t.from])
	to := len(room) - t.behind()
	copy(room[to:], t.room[t.to:])
	t.room, t.to = room, to
}

// Del has the n runes behind the cursor go; ErrRange, if there are not so many.
func (t *Text) Del(n int) api.Errno {
	if n < 0 || n > t.behind() {
		return api.ErrRange
	}
	t.to += n
	return api.OK
}

// Back has the n runes ahead of the cursor go; ErrRange, if there are not so many.
func (t *Text) Back(n int) api.Errno {
	if n < 0 || n > t.from {
		return api.ErrRange
	}
	t.from -= n
	return api.OK
}
