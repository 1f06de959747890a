package align

import (
	"slices"

	"scriptshift/api"
)

// What follows tells the same in another way: each rune has with it of which place of the text it is, or at which step it came; when all steps have been taken, these marks tell what came of what. It leans on nothing of the program but api, and is for rules that are right and sure.

// none is where a marked rune is of no place, or came at no step.
const none = -1

type marked struct {
	r     rune
	place int // of the text
	step  int // at which it came, or was gone over
}

type taken struct {
	rule   int
	places []int // the places of the text that the step was about
}

type oracle struct {
	text  []marked
	at    int
	steps []taken
}

func newOracle(text []rune) *oracle {
	o := &oracle{}
	for k, r := range text {
		o.text = append(o.text, marked{r, k, none})
	}
	return o
}

func within(r rune, s []api.Span) bool {
	for _, x := range s {
		if x.Low <= r && r <= x.High {
			return true
		}
	}
	return false
}

func (o *oracle) matches(r api.Rule) bool {
	begin := o.at - len(r.Before)
	var all [][]api.Span
	for _, l := range [][][]api.Span{r.Before, r.Source, r.After} {
		all = append(all, l...)
	}
	if begin < 0 || begin+len(all) > len(o.text) {
		return false
	}
	for k, s := range all {
		if !within(o.text[begin+k].r, s) {
			return false
		}
	}
	return (!r.Start || begin == 0) && (!r.End || begin+len(all) == len(o.text))
}

func (o *oracle) which(l []api.Rule) int {
	for k, r := range l {
		if o.matches(r) {
			return k
		}
	}
	return none
}

// step has the runes that it is about go, and those that came of them come, marked by its number.
func (o *oracle) step(l []api.Rule) {
	k, n := o.which(l), len(o.steps)
	about, came, cursor := 1, []marked{{o.text[o.at].r, none, n}}, 1
	if k >= 0 {
		about, came, cursor = len(l[k].Source), nil, l[k].Cursor
		for _, r := range l[k].Target {
			came = append(came, marked{r, none, n})
		}
	}
	var places []int
	for _, m := range o.text[o.at : o.at+about] {
		places = append(places, m.place)
	}
	o.steps = append(o.steps, taken{k, places})
	o.text = slices.Replace(o.text, o.at, o.at+about, came...)
	o.at += cursor
}

func (o *oracle) play(l []api.Rule) api.Errno {
	for o.at < len(o.text) {
		o.step(l)
		if len(o.text) > 4000 {
			return api.ErrMuch
		}
	}
	return api.OK
}

// links are read off the marks; where nothing came of a step its piece is where that of the step ahead of it ends.
func (o *oracle) links() []api.Link {
	where := map[int][]int{}
	for k, m := range o.text {
		where[m.step] = append(where[m.step], k)
	}
	var out []api.Link
	end := 0
	for n, s := range o.steps {
		begin := end
		if l := where[n]; len(l) > 0 {
			begin, end = l[0], l[len(l)-1]+1
		}
		out = append(out, api.Link{From: s.places[0], To: s.places[len(s.places)-1] + 1, Begin: begin, End: end, Rule: s.rule})
	}
	return out
}

func (o *oracle) came() string {
	var out []rune
	for _, m := range o.text {
		out = append(out, m.r)
	}
	return string(out)
}
