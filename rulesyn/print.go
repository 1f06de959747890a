package rulesyn

import (
	"scriptshift/api"
	"scriptshift/setsyn"
)

// tellPart hands the words of a part that is not wrong to word, one by one.
func tellPart(p api.Part, word func(string)) {
	switch p.Kind {
	case api.PaVar:
		word("$" + p.Name)
		word("=")
		word(setText(p.Set))
	case api.PaFilter:
		word("::")
		word(setText(p.Set))
	case api.PaPass:
		word("::")
		word(p.Name)
	case api.PaRule:
		tellSide(p.Left, word)
		word(arrow(p.Dir))
		tellSide(p.Right, word)
	}
}

func arrow(dir int) string {
	switch dir {
	case api.DirForth:
		return ">"
	case api.DirBack:
		return "<"
	}
	return "<>"
}

func tellSide(s api.Side, word func(string)) {
	if s.Start {
		word("^")
	}
	tellItems(s.Before, -1, word)
	if s.Start || len(s.Before) > 0 {
		word("{")
	}
	tellItems(s.Source, s.Cursor, word)
	if s.End || len(s.After) > 0 {
		word("}")
	}
	tellItems(s.After, -1, word)
	if s.End {
		word("$")
	}
}

// tellItems tells items, and the cursor ahead of that one, or behind them all.
func tellItems(l []api.Item, cursor int, word func(string)) {
	for i, x := range l {
		if i == cursor {
			word("|")
		}
		word(itemText(x))
	}
	if cursor == len(l) {
		word("|")
	}
}

func itemText(x api.Item) string {
	switch x.Kind {
	case api.ItSet:
		return setText(x.Set)
	case api.ItVar:
		return "$" + x.Name
	}
	return setsyn.Quote(x.Rune)
}

func setText(s []api.Span) string {
	// It can't fail: whoever calls has asked before what is wrong with s.
	text, _ := setsyn.Print(s)
	return text
}
