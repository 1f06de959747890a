package norm

import (
	"regexp"
	"strings"
	"unicode/utf8"

	"scriptshift/api"
)

// What follows works with strings: what is put together is replaced by what it is made of, marks change places, and go, by expressions. It leans on nothing of the program but api.

// numbers are Base, Mark and Whole, in the order of the document's table.
var numbers = [][3]rune{
	{65, 768, 192}, {69, 768, 200}, {73, 768, 204}, {79, 768, 210}, {85, 768, 217},
	{97, 768, 224}, {101, 768, 232}, {105, 768, 236}, {111, 768, 242}, {117, 768, 249},
	{65, 769, 193}, {69, 769, 201}, {73, 769, 205}, {79, 769, 211}, {85, 769, 218}, {89, 769, 221},
	{97, 769, 225}, {101, 769, 233}, {105, 769, 237}, {111, 769, 243}, {117, 769, 250}, {121, 769, 253},
	{65, 770, 194}, {69, 770, 202}, {73, 770, 206}, {79, 770, 212}, {85, 770, 219},
	{97, 770, 226}, {101, 770, 234}, {105, 770, 238}, {111, 770, 244}, {117, 770, 251},
	{65, 771, 195}, {78, 771, 209}, {79, 771, 213}, {97, 771, 227}, {110, 771, 241}, {111, 771, 245},
	{65, 776, 196}, {69, 776, 203}, {73, 776, 207}, {79, 776, 214}, {85, 776, 220},
	{97, 776, 228}, {101, 776, 235}, {105, 776, 239}, {111, 776, 246}, {117, 776, 252}, {121, 776, 255},
	{65, 778, 197}, {97, 778, 229},
	{67, 780, 268}, {83, 780, 352}, {90, 780, 381}, {99, 780, 269}, {115, 780, 353}, {122, 780, 382},
	{67, 807, 199}, {83, 807, 350}, {99, 807, 231}, {115, 807, 351},
	{65, 808, 260}, {69, 808, 280}, {97, 808, 261}, {101, 808, 281},
	{65, 803, 7840}, {69, 803, 7864}, {79, 803, 7884}, {97, 803, 7841}, {101, 803, 7865}, {111, 803, 7885},
	{7841, 770, 7853}, {7865, 770, 7879}, {7885, 770, 7897},
}

// want is what Pairs must tell.
var want = newWant()

func newWant() []api.Pair {
	var l []api.Pair
	for _, x := range numbers {
		l = append(l, api.Pair{Base: x[0], Mark: x[1], Whole: x[2]})
	}
	return l
}

const (
	low  = "\u0327\u0328"
	mid  = "\u0323"
	high = "\u0300\u0301\u0302\u0303\u0308\u030a\u030c"
)

// class is that of r, by where it is written above.
func class(r rune) int {
	switch {
	case strings.ContainsRune(low, r):
		return 202
	case strings.ContainsRune(mid, r):
		return 220
	case strings.ContainsRune(high, r):
		return 230
	}
	return 0
}

var (
	letter = "[^" + low + mid + high + "]"
	// swapped are two marks that stand the wrong way round.
	swapped = regexp.MustCompile("([" + mid + high + "])([" + low + "])|([" + high + "])([" + mid + "])")
	// reach is, class by class, a letter and the first mark of that class behind it.
	reach = []*regexp.Regexp{
		regexp.MustCompile(letter + "[" + low + "]"),
		regexp.MustCompile(letter + "[" + low + "]*[" + mid + "]"),
		regexp.MustCompile(letter + "[" + low + mid + "]*[" + high + "]"),
	}
	anyMark = regexp.MustCompile("[" + low + mid + high + "]")
	taken   = newTaken()
	put     = newPut()
)

// newTaken replaces wholes by letters that are none, and marks.
func newTaken() *strings.Replacer {
	var l []string
	for _, p := range want {
		base := strings.NewReplacer("ạ", "a\u0323", "ẹ", "e\u0323", "ọ", "o\u0323").Replace(string(p.Base))
		l = append(l, string(p.Whole), base+string(p.Mark))
	}
	return strings.NewReplacer(l...)
}

// newPut has the wholes by how Base and Mark are written.
func newPut() map[string]string {
	l := map[string]string{}
	for _, p := range want {
		l[string([]rune{p.Base, p.Mark})] = string(p.Whole)
	}
	return l
}

// until plays f over s until that stays.
func until(s string, f func(s string) string) string {
	for {
		next := f(s)
		if next == s {
			return s
		}
		s = next
	}
}

// apart is what Apart must tell of a text with which nothing is wrong.
func apart(s string) (string, api.Errno) {
	s = taken.Replace(s)
	if utf8.RuneCountInString(s) > 4000 {
		return "", api.ErrMuch
	}
	return until(s, func(s string) string { return swapped.ReplaceAllString(s, "$2$1$4$3") }), api.OK
}

// together is what Together must tell of a text with which nothing is wrong.
func together(s string) (string, api.Errno) {
	s, err := apart(s)
	for _, x := range reach {
		s = until(s, func(s string) string { return x.ReplaceAllStringFunc(s, joinedEnds) })
	}
	return s, err
}

// joinedEnds is s with its last rune put on its first one, if that goes.
func joinedEnds(s string) string {
	_, first := utf8.DecodeRuneInString(s)
	_, last := utf8.DecodeLastRuneInString(s)
	between := s[first : len(s)-last]
	if whole := put[s[:first]+s[len(s)-last:]]; whole != "" {
		return whole + between
	}
	return s
}

// bare is what Bare must tell of a text with which nothing is wrong.
func bare(s string) (string, api.Errno) {
	s, err := apart(s)
	return anyMark.ReplaceAllString(s, ""), err
}
