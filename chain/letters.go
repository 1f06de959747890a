package chain

func Upper(r rune) rune {
	return r - less(r)
}

// Lower asks what Upper does, so that each is the other one turned round.
func Lower(r rune) rune {
	for _, by := range [...]rune{32, 80} {
		if less(r+by) == by {
			return r + by
		}
	}
	return r
}

// less is by how much the great letter is less than r, if r is a small one that has one; else 0.
func less(r rune) rune {
	switch {
	case within(r, 97, 122), within(r, 224, 246), within(r, 248, 254):
		return 32
	case within(r, 945, 961), within(r, 963, 969), within(r, 1072, 1103):
		return 32
	case within(r, 1104, 1119):
		return 80
	}
	return 0
}

func within(r, low, high rune) bool {
	return low <= r && r <= high
}
