package order

import (
	"fmt"
	"regexp"
	"slices"
	"strconv"
	"strings"
	"unicode/utf8"

	"scriptshift/api"
)

// What follows works with strings: letters are replaced by smaller ones and marks, each text is written as one string of digits and blanks, and these strings are held against each other, and sorted, by the library. It leans on nothing of the program but api.

const (
	low  = "\u0327\u0328"
	mid  = "\u0323"
	high = "\u0300\u0301\u0302\u0303\u0308\u030a\u030c"
)

// lettersWith are, mark by mark, letters without it, and with it.
var lettersWith = [][3]string{
	{"\u0300", "AEIOUaeiou", "ÀÈÌÒÙàèìòù"},
	{"\u0301", "AEIOUYaeiouy", "ÁÉÍÓÚÝáéíóúý"},
	{"\u0302", "AEIOUaeiou", "ÂÊÎÔÛâêîôû"},
	{"\u0303", "ANOano", "ÃÑÕãñõ"},
	{"\u0308", "AEIOUaeiouy", "ÄËÏÖÜäëïöüÿ"},
	{"\u030a", "Aa", "Åå"},
	{"\u030c", "CSZcsz", "ČŠŽčšž"},
	{"\u0327", "CScs", "ÇŞçş"},
	{"\u0328", "AEae", "ĄĘąę"},
	{"\u0323", "AEOaeo", "ẠẸỌạẹọ"},
	{"\u0323\u0302", "aeo", "ậệộ"},
}

// smallFor are great letters, and the small ones.
const (
	greatOnes = "ABCDEFGHIJKLMNOPQRSTUVWXYZ" + "ÀÁÂÃÄÅÆÇÈÉÊËÌÍÎÏÐÑÒÓÔÕÖØÙÚÛÜÝÞ" + "ΑΒΓΔΕΖΗΘΙΚΛΜΝΞΟΠΡΣΤΥΦΧΨΩ" + "АБВГДЕЖЗИЙКЛМНОПРСТУФХЦЧШЩЪЫЬЭЮЯ" + "ЀЁЂЃЄЅІЇЈЉЊЋЌЍЎЏ"
	smallOnes = "abcdefghijklmnopqrstuvwxyz" + "àáâãäåæçèéêëìíîïðñòóôõöøùúûüýþ" + "αβγδεζηθικλμνξοπρστυφχψω" + "абвгдежзийклмнопрстуфхцчшщъыьэюя" + "ѐёђѓєѕіїјљњћќѝўџ"
)

var (
	takenApart = newTakenApart()
	madeSmall  = newMadeSmall()
	someMarks  = regexp.MustCompile("[" + low + mid + high + "]+")
	noLow      = regexp.MustCompile("[^" + low + "]")
	noMid      = regexp.MustCompile("[^" + mid + "]")
	noHigh     = regexp.MustCompile("[^" + high + "]")
)

func newTakenApart() *strings.Replacer {
	var l []string
	for _, row := range lettersWith {
		with := []rune(row[2])
		for k, r := range []rune(row[1]) {
			l = append(l, string(with[k]), string(r)+row[0])
		}
	}
	return strings.NewReplacer(l...)
}

func newMadeSmall() *strings.Replacer {
	var l []string
	small := []rune(smallOnes)
	for k, r := range []rune(greatOnes) {
		l = append(l, string(r), string(small[k]))
	}
	return strings.NewReplacer(l...)
}

// apart is s without letters that are put together, and with its marks in order.
func apart(s string) string {
	return someMarks.ReplaceAllStringFunc(takenApart.Replace(s), func(m string) string {
		return noLow.ReplaceAllString(m, "") + noMid.ReplaceAllString(m, "") + noHigh.ReplaceAllString(m, "")
	})
}

// written is the three rows of s as a string: in each row seven digits a number; a row ends with a blank, which is less than any digit.
func written(s string) (string, api.Errno) {
	parted := apart(s)
	if utf8.RuneCountInString(parted) > 4000 {
		return "", api.ErrMuch
	}
	var letters, marks, great strings.Builder
	for _, r := range parted {
		if someMarks.MatchString(string(r)) {
			fmt.Fprintf(&marks, "%07d", r)
			continue
		}
		small := madeSmall.Replace(string(r))
		n, _ := utf8.DecodeRuneInString(small)
		fmt.Fprintf(&letters, "%07d", n)
		marks.WriteString("0000000")
		if small == string(r) {
			great.WriteString("0000000")
		} else {
			great.WriteString("0000001")
		}
	}
	return letters.String() + " " + marks.String() + " " + great.String() + " ", api.OK
}

// rows is what Key tells, written likewise.
func rows(l ...[]int) string {
	var s strings.Builder
	for _, row := range l {
		for _, n := range row {
			fmt.Fprintf(&s, "%07d", n)
		}
		s.WriteString(" ")
	}
	return s.String()
}

// compared is what Compare must tell of two texts with which nothing is wrong.
func compared(a, b string) (int, api.Errno) {
	x, err := written(a)
	if err != api.OK {
		return 0, err
	}
	y, err := written(b)
	if err != api.OK {
		return 0, err
	}
	return strings.Compare(x, y), api.OK
}

// sorted is what Sort must tell of up to a hundred texts with which nothing is wrong.
func sorted(l []string) ([]int, api.Fault) {
	var all []string
	for k, s := range l {
		w, err := written(s)
		if err != api.OK {
			return nil, api.Fault{Err: err, At: k}
		}
		all = append(all, fmt.Sprintf("%s%02d", w, k))
	}
	slices.Sort(all)
	var places []int
	for _, w := range all {
		n, _ := strconv.Atoi(w[len(w)-2:])
		places = append(places, n)
	}
	return places, api.Fault{}
}
