package pair

import (
	"slices"

	"scriptshift/analyse"
	"scriptshift/api"
	"scriptshift/match"
	"scriptshift/sets"
)

// image is a number, and what rules make of it.
type image struct {
	of   rune
	made []rune
}

// images are those of all numbers of the domain, in order.
func images(forth []api.Rule, domain []rune) []image {
	out := make([]image, len(domain))
	for k, r := range domain {
		out[k] = image{of: r, made: made(forth, r)}
	}
	return out
}

func made(forth []api.Rule, r rune) []rune {
	k := slices.IndexFunc(forth, func(x api.Rule) bool { return len(x.Source) == 1 && sets.Has(x.Source[0], r) })
	if k < 0 {
		return []rune{r}
	}
	return forth[k].Target
}

// longEnough is whether no image is empty, and whether of all that stands behind an image a rule sees no more than the next one. The shortest image may stand twice, one behind the other.
func longEnough(l []image, back []api.Rule) bool {
	_, most := analyse.Reach(back)
	return !slices.ContainsFunc(l, func(m image) bool {
		return len(m.made) == 0 || 2*len(m.made) < most
	})
}

// allComeBack is whether the rules make of each image its number, and that alone, at a text's end and ahead of each image.
func allComeBack(l []image, back []api.Rule) bool {
	return !slices.ContainsFunc(l, func(m image) bool {
		lost := func(next image) bool { return !m.comesBack(back, next.made) }
		return lost(image{}) || slices.ContainsFunc(l, lost)
	})
}

// comesBack is whether of the image, with that behind it, comes its number, and nothing of what stands behind is used up for it.
func (m image) comesBack(back []api.Rule, behind []rune) bool {
	text := match.List(slices.Concat(m.made, behind))
	number := []rune{m.of}
	k := slices.IndexFunc(back, func(r api.Rule) bool { return match.Here(r, text, 0) })
	if k < 0 {
		return slices.Equal(m.made, number)
	}
	return len(back[k].Source) == len(m.made) && slices.Equal(back[k].Target, number)
}
