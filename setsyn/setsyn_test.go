package setsyn

import (
	"fmt"
	"math"
	"slices"
	"strings"
	"testing"

	"scriptshift/api"
	"scriptshift/runes"
	"scriptshift/sets"
)

const top = 1114111

// every is all special runes, written out, so that nothing of what is tested is leant on.
const every = " \t\n[]&-^\\:$(){}<>|;#'\"=,"

func span(low, high rune) api.Span { return api.Span{Low: low, High: high} }

func only(l ...rune) []api.Span {
	var s []api.Span
	for _, r := range l {
		s = append(s, span(r, r))
	}
	return s
}

func reads(t *testing.T, text string, want ...api.Span) {
	t.Helper()
	s, f := Read(text)
	if f != (api.Fault{}) || !slices.Equal(s, want) {
		t.Errorf("Read(%q): %v, %v, not %v", text, s, f, want)
	}
}

func faults(t *testing.T, text string, err api.Errno, at int) {
	t.Helper()
	s, f := Read(text)
	if f != (api.Fault{Err: err, At: at}) || len(s) != 0 {
		t.Errorf("Read(%q): %v, %v, not {%d %d}", text, s, f, err, at)
	}
}

func isAlphanumeric(r rune) bool {
	return strings.ContainsRune("0123456789ABCDEFGHIJKLMNOPQRSTUVWXYZabcdefghijklmnopqrstuvwxyz", r)
}

// C1

func TestOrdinaryRunesAreThemselves(t *testing.T) {
	for r := rune(0); r <= top; r++ {
		if !runes.Right(r) || r > 3000 && r < top-3000 && r%97 != 0 {
			continue
		}
		text := "[" + string(r) + "]"
		if !strings.ContainsRune(every, r) {
			reads(t, text, span(r, r))
			continue
		}
		switch r {
		case ' ', '\t', '\n', ']', '^', '[', '&', '-', '\\':
		default:
			faults(t, text, api.ErrForm, 1)
		}
	}
	reads(t, "[\r\v\u00a0]", only(11, 13, 160)...)
	reads(t, "[\xff\xc3]", only(65533)...)
	reads(t, "[\xef\xbf\xbd]", only(65533)...)
}

func TestSpecialRunesThatBeginNoPart(t *testing.T) {
	for _, r := range ":$(){}<>|;#'\"=,^" {
		faults(t, "[a"+string(r)+"b]", api.ErrForm, 2)
		faults(t, "[a-"+string(r)+"]", api.ErrForm, 3)
		faults(t, "[[a] "+string(r)+"]", api.ErrForm, 5)
	}
}

func TestEscapedRunes(t *testing.T) {
	for r := rune(0); r <= 400; r++ {
		text := "[\\" + string(r) + "]"
		switch {
		case r == 'n':
			reads(t, text, only(10)...)
		case r == 't':
			reads(t, text, only(9)...)
		case r == 'u':
			faults(t, text, api.ErrForm, 3)
		case isAlphanumeric(r):
			faults(t, text, api.ErrForm, 2)
		default:
			reads(t, text, span(r, r))
			reads(t, "[\\"+string(r)+"-\\"+string(r)+"]", span(r, r))
		}
	}
	reads(t, `[\日\🙂]`, only(26085, 128578)...)
	reads(t, "[\\\xff]", only(65533)...)
	reads(t, `[\\]`, only('\\')...)
	reads(t, `[\]\[]`, only('[', ']')...)
	reads(t, `[\^a]`, only('^', 'a')...)
	faults(t, `[\`, api.ErrForm, 2)
	faults(t, `[a-\`, api.ErrForm, 4)
	faults(t, `[a-\b]`, api.ErrForm, 4)
	faults(t, `[\]`, api.ErrForm, 3)
	faults(t, `[\U{41}]`, api.ErrForm, 2)
}

func TestNumberedRunes(t *testing.T) {
	for n := range rune(top + 1) {
		if n > 300 && n < top-300 && n%997 != 0 && !(n > 55200 && n < 57400) {
			continue
		}
		reads(t, fmt.Sprintf(`[\u{%x}]`, n), span(n, n))
		reads(t, fmt.Sprintf(`[\u{%06X}]`, n), span(n, n))
	}
	reads(t, `[\u{0}\u{00}\u{000000}]`, only(0)...)
	reads(t, `[\u{aB}\u{Ac}]`, span(171, 172))
	reads(t, `[\u{2d}\u{5b}\u{5d}]`, only('-', '[', ']')...)
}

func TestNumbersThatAreWrong(t *testing.T) {
	faults(t, `[\u`, api.ErrForm, 3)
	faults(t, `[\u]`, api.ErrForm, 3)
	faults(t, `[\u41]`, api.ErrForm, 3)
	faults(t, `[\u {41}]`, api.ErrForm, 3)
	// Not one to six digits: at the first rune behind `{`, however many there are.
	faults(t, `[\u{`, api.ErrForm, 4)
	faults(t, `[\u{}]`, api.ErrForm, 4)
	faults(t, `[\u{g}]`, api.ErrForm, 4)
	faults(t, `[\u{ 41}]`, api.ErrForm, 4)
	faults(t, `[\u{-1}]`, api.ErrForm, 4)
	faults(t, `[\u{+1}]`, api.ErrForm, 4)
	faults(t, `[\u{0000041}]`, api.ErrForm, 4)
	faults(t, `[\u{1234567`, api.ErrForm, 4)
	faults(t, `[\u{`+strings.Repeat("f", 3000)+`}]`, api.ErrForm, 4)
	// Digits enough, and then something else: there.
	faults(t, `[\u{41`, api.ErrForm, 6)
	faults(t, `[\u{41]`, api.ErrForm, 6)
	faults(t, `[\u{4g}]`, api.ErrForm, 5)
	faults(t, `[\u{4_1}]`, api.ErrForm, 5)
	faults(t, `[\u{41 }]`, api.ErrForm, 6)
	faults(t, `[\u{123456]`, api.ErrForm, 10)
	faults(t, `[\u{0x41}]`, api.ErrForm, 5)
	// Too great a number is told at `u`, but is met at `}` alone.
	faults(t, `[\u{110000}]`, api.ErrRange, 2)
	faults(t, `[\u{ffffff}]`, api.ErrRange, 2)
	faults(t, `[ab\u{110000},`, api.ErrRange, 4)
	faults(t, `[a-\u{110000}]`, api.ErrRange, 4)
	faults(t, `[\u{110000]`, api.ErrForm, 10)
	faults(t, `[\u{110000`, api.ErrForm, 10)
}

// C2

func TestParts(t *testing.T) {
	reads(t, "[]")
	reads(t, "[ \t\n]")
	reads(t, "[a]", only('a')...)
	reads(t, "[aa]", only('a')...)
	reads(t, "[ca]", only('a', 'c')...)
	reads(t, "[abc]", span('a', 'c'))
	reads(t, "[ a b\tc\n]", span('a', 'c'))
	reads(t, "[a-c]", span('a', 'c'))
	reads(t, "[a-a]", only('a')...)
	reads(t, "[a-cx-z]", span('a', 'c'), span('x', 'z'))
	reads(t, `[\--\-]`, only('-')...)
	reads(t, `[\n-\u{20}]`, span(10, 32))
	reads(t, "[é-ü日]", span(233, 252), span(26085, 26085))
	reads(t, `[\u{0}-\u{10ffff}]`, span(0, top))
	reads(t, "[^]", span(0, top))
	reads(t, "[^ ]", span(0, top))
	reads(t, "[^a-c]", span(0, 'a'-1), span('d', top))
	reads(t, `[^\u{0}-\u{10ffff}]`)
	reads(t, "[^[^a]]", only('a')...)
	reads(t, "[[a-c][x]]", span('a', 'c'), span('x', 'x'))
	reads(t, "[[[]]]")
	reads(t, "[a[b[c]]]", span('a', 'c'))
	reads(t, "[a-z&[b-d]]", span('b', 'd'))
	reads(t, "[a-z & \t\n [b-d]]", span('b', 'd'))
	reads(t, "[a-z-[b-y]]", only('a', 'z')...)
	reads(t, "[a-z - [b-y]]", only('a', 'z')...)
	reads(t, "[a-z- [b-y]]", only('a', 'z')...)
	reads(t, "[a-[a]]")
	reads(t, "[a-[b]]", only('a')...)
	reads(t, "[&[a]]")
	reads(t, "[-[a]]")
	reads(t, "[^-[a]]", span(0, top))
	reads(t, "[&[a]b]", only('b')...)
}

func TestPartsAreTakenOneByOne(t *testing.T) {
	reads(t, "[a-z - [b-y] & [a]]", only('a')...)
	reads(t, "[a-c-[b]b]", span('a', 'c'))
	reads(t, "[a-c b-[b]]", only('a', 'c')...)
	reads(t, "[a&[b]c]", only('c')...)
	reads(t, "[a-c&[b]-[b]b-d]", span('b', 'd'))
	reads(t, "[a-e-[b-d-[c]]]", only('a', 'c', 'e')...)
	// `^` is taken in the end, wherever the parts have led.
	reads(t, "[^a-c&[b]]", span(0, 'a'), span('c', top))
	reads(t, "[a-c&[^b]]", only('a', 'c')...)
	reads(t, "[a-c-[^b]]", only('b')...)
}

func TestClasses(t *testing.T) {
	wanted := map[string][]api.Span{
		"digit":    {span(48, 57)},
		"lower":    {span(97, 122), span(223, 246), span(248, 255)},
		"upper":    {span(65, 90), span(192, 214), span(216, 222)},
		"letter":   {span(65, 90), span(97, 122), span(192, 214), span(216, 246), span(248, 255)},
		"vowel":    only(65, 69, 73, 79, 85, 97, 101, 105, 111, 117),
		"greek":    {span(880, 1023)},
		"cyrillic": {span(1024, 1279)},
		"space":    {span(9, 10), span(32, 32)},
		"any":      {span(0, 1114111)},
	}
	for name, s := range wanted {
		reads(t, "[[:"+name+":]]", s...)
		reads(t, "[ [:"+name+":]\t[:"+name+":] ]", s...)
		reads(t, "[[[:"+name+":]]]", s...)
		reads(t, "[[:any:]&[[:"+name+":]]]", s...)
		reads(t, "[[:"+name+":]-[[:"+name+":]]]")
		not, err := sets.Not(s)
		if err != api.OK {
			t.Fatal(err)
		}
		reads(t, "[^[:"+name+":]]", not...)
		for k := range len(name) {
			faults(t, "[[:"+name[:k]+":]]", api.ErrName, 3)
		}
		faults(t, "[[:"+name+"s:]]", api.ErrName, 3)
		faults(t, "[[:"+strings.ToUpper(name)+":]]", api.ErrName, 3)
		faults(t, "[[:"+name, api.ErrForm, 3+len(name))
		faults(t, "[[:"+name+"]]", api.ErrForm, 3+len(name))
		faults(t, "[[:"+name+" :]]", api.ErrForm, 3+len(name))
		faults(t, "[[:"+name+":", api.ErrForm, 4+len(name))
		faults(t, "[[:"+name+": ]]", api.ErrForm, 4+len(name))
		faults(t, "[[:"+name+":]", api.ErrForm, 5+len(name))
	}
	reads(t, "[x[:digit:]y]", span('0', '9'), span('x', 'y'))
}

func TestNamesOfNoClass(t *testing.T) {
	faults(t, "[[:foo:]]", api.ErrName, 3)
	faults(t, "[é [:日\xff:]]", api.ErrName, 5)
	faults(t, "[[::]]", api.ErrName, 3)
	// The name is met ahead of what is missing behind it.
	faults(t, "[[:foo]]", api.ErrName, 3)
	faults(t, "[[:foo", api.ErrName, 3)
	faults(t, "[[: digit:]]", api.ErrName, 3)
	faults(t, "[a[:\\d:]]", api.ErrName, 4)
}

func TestClassesAreNoSets(t *testing.T) {
	faults(t, "[:digit:]", api.ErrForm, 1)
	faults(t, "[a&[:digit:]]", api.ErrForm, 4)
	faults(t, "[a - [:digit:]]", api.ErrForm, 6)
	faults(t, "[a-[:digit:]]", api.ErrForm, 4)
	faults(t, "[ [ :digit:]]", api.ErrForm, 4)
}

// tree is a set's text, and what it has of the runes of a small world: told by bits.
type tree struct {
	text string
	has  int
}

var world = []rune{'`', 'a', 'b', 'c', 'd'}

const whole = 1<<5 - 1

// leaves are parts without sets in them.
var leaves = []tree{{"a", 2}, {"b-c", 12}, {`\u{60}-b`, 7}, {"d ", 16}}

// grown is all sets of up to three parts (the third one of a few), with inner ones among them.
func grown(inner []tree) []tree {
	type part struct {
		text string
		step func(has int) int
	}
	var parts []part
	for _, x := range leaves {
		parts = append(parts, part{x.text, func(has int) int { return has | x.has }})
	}
	for i, x := range inner {
		parts = append(parts,
			part{x.text, func(has int) int { return has | x.has }},
			part{"&" + strings.Repeat(" ", i%3) + x.text, func(has int) int { return has & x.has }},
			part{" -" + strings.Repeat("\n", i%2) + x.text, func(has int) int { return has &^ x.has }})
	}
	var out []tree
	put := func(l ...part) {
		has, text := 0, ""
		for _, p := range l {
			has, text = p.step(has), text+p.text
		}
		out = append(out, tree{"[" + text + "]", has}, tree{"[^" + text + "]", whole &^ has})
	}
	put()
	for _, p := range parts {
		put(p)
		for _, q := range parts {
			put(p, q)
			for _, r := range parts[:min(len(parts), 12)] {
				put(p, q, r)
			}
		}
	}
	return out
}

func TestSetsAreWhatTheirPartsMake(t *testing.T) {
	one := grown(nil)
	two := grown([]tree{one[0], one[1], one[5], one[40], one[61]})
	three := grown([]tree{two[9], two[100], two[777], two[1500], two[len(two)-1]})
	for _, l := range [][]tree{one, two, three} {
		for _, x := range l {
			s, f := Read(x.text)
			if f.Err != api.OK || sets.Wrong(s) != api.OK {
				t.Fatalf("Read(%q): %v, %v", x.text, s, f)
			}
			for i, r := range world {
				if sets.Has(s, r) != (x.has>>i&1 == 1) {
					t.Fatalf("Read(%q): %v, of which %c is wrong", x.text, s, r)
				}
			}
		}
	}
}

// C3

func TestWhereItCannotGoOn(t *testing.T) {
	tests := []struct {
		text string
		at   int
	}{
		{"", 0}, {" \n", 2}, {"a", 0}, {" a", 1}, {"]", 0}, {"^[a]", 0}, {"[", 1}, {"[^", 2}, {"[a", 2}, {"[a ", 3},
		{"[a] x", 4}, {"[a]]", 3}, {"[a][b]", 3}, {"[a]\r", 3}, {"[a] # b", 4}, {"[a]-[b]", 3}, {"[a]\xff", 3}, {"\xff[a]", 0},
		{"[ ^a]", 2}, {"[^^a]", 2}, {"[a^]", 2}, {"[^a^]", 3},
		{"[a-]", 3}, {"[a-", 3}, {"[a--]", 3}, {"[a-&[b]]", 3}, {"[a-:]", 3}, {"[a-b-]", 5}, {"[a-b-c]", 5}, {"[a-b--[c]]", 5},
		{"[-]", 2}, {"[-a]", 2}, {"[--[a]]", 2}, {"[- a]", 3}, {"[ - ", 4}, {"[a -b]", 4}, {"[a - b]", 5}, {"[[a]-b]", 5},
		// Behind a character and a `-` a second character comes at once, if no `[` does.
		{"[a- b]", 3}, {"[a- [b]]", 3}, {"[a- ", 3},
		{"[&]", 2}, {"[a&b]", 3}, {"[a& b]", 4}, {"[a&&[b]]", 3}, {"[a&", 3}, {"[a& ", 4}, {"[a&^[b]]", 3}, {"[&-[b]]", 2},
		{"[a-[b]", 6}, {"[a-[", 4}, {"[a-[b", 5}, {"[[a]", 4}, {"[[a]] ]", 6}, {"[[]", 3},
		{"[é,日]", 2}, {"[日\xff\xfe:]", 4}, {"[a:]", 2}, {"[a,b]", 2},
	}
	for _, x := range tests {
		faults(t, x.text, api.ErrForm, x.at)
	}
}

func TestBlanksAroundASet(t *testing.T) {
	reads(t, " [a] ", only('a')...)
	reads(t, "\t\n [a]\n\n\t ", only('a')...)
	faults(t, "\r[a]", api.ErrForm, 0)
	faults(t, "\u00a0[a]", api.ErrForm, 0)
	faults(t, "[a]\v", api.ErrForm, 3)
}

func TestSecondIsLessThanFirst(t *testing.T) {
	faults(t, "[c-a]", api.ErrRange, 3)
	faults(t, "[ab c-b,", api.ErrRange, 6)
	faults(t, `[a-\u{60}]`, api.ErrRange, 3)
	faults(t, `[a-\-]`, api.ErrRange, 3)
	faults(t, `[\u{10ffff}-é`, api.ErrRange, 12)
	faults(t, "[[b-a]]", api.ErrRange, 4)
}

func TestTooLongATextIsToldFirst(t *testing.T) {
	reads(t, "["+strings.Repeat("a", 3998)+"]", only('a')...)
	faults(t, "["+strings.Repeat("a", 3999)+"]", api.ErrMuch, 0)
	faults(t, strings.Repeat(",", 4000), api.ErrForm, 0)
	faults(t, strings.Repeat(",", 4001), api.ErrMuch, 0)
	faults(t, strings.Repeat("[", 5000), api.ErrMuch, 0)
	// It is runes that count, not bytes; a byte where none begins is one.
	reads(t, "["+strings.Repeat("日", 3998)+"]", only(26085)...)
	faults(t, "["+strings.Repeat("日", 3999)+"]", api.ErrMuch, 0)
	reads(t, "["+strings.Repeat("\xff", 3998)+"]", only(65533)...)
	faults(t, "["+strings.Repeat("\xff", 3999)+"]", api.ErrMuch, 0)
	reads(t, strings.Repeat(" ", 3998)+"[]")
	faults(t, "[]"+strings.Repeat(" ", 3999), api.ErrMuch, 0)
}

func TestHowDeepSetsMayBe(t *testing.T) {
	deep := func(n int, inner string) string {
		return strings.Repeat("[", n) + inner + strings.Repeat("]", n)
	}
	reads(t, deep(20, "a"), only('a')...)
	reads(t, deep(20, ""))
	reads(t, deep(20, "[:digit:]"), span('0', '9'))
	reads(t, deep(19, "[a][b]-[a]"), only('b')...)
	faults(t, deep(21, "a"), api.ErrMuch, 20)
	faults(t, deep(20, "a[b]"), api.ErrMuch, 21)
	faults(t, deep(20, "a& [b]"), api.ErrMuch, 23)
	faults(t, deep(20, "a-[b]"), api.ErrMuch, 22)
	faults(t, deep(20, "-[:digit:]"), api.ErrMuch, 21)
	faults(t, deep(20, "a-b,[c]"), api.ErrForm, 23)
	faults(t, deep(20, "a&b"), api.ErrForm, 22)
	faults(t, " "+strings.Repeat("[", 21), api.ErrMuch, 21)
	faults(t, " "+strings.Repeat("[", 20), api.ErrForm, 21)
	faults(t, strings.Repeat("[", 3000), api.ErrMuch, 20)
	// How many sets there are in all does not count.
	reads(t, "["+strings.Repeat("[[a]]", 700)+"]", only('a')...)
}

// dots writes n runes, each two more than the one ahead, and each with two blanks behind it.
func dots(n int, first rune) string {
	var out strings.Builder
	for k := range n {
		out.WriteRune(first + 2*rune(k))
		out.WriteString("  ")
	}
	return out.String()
}

func TestTooManySpans(t *testing.T) {
	s, f := Read("[" + dots(200, 1000) + "]")
	if f.Err != api.OK || len(s) != 200 || s[0] != span(1000, 1000) || s[199] != span(1398, 1398) {
		t.Errorf("200 spans: %d, %v", len(s), f)
	}
	// Behind the part, not behind the blanks; what follows would have made it one span less, or is no part.
	faults(t, "["+dots(201, 1000)+"]", api.ErrMany, 1+3*200+1)
	faults(t, "["+dots(201, 1000)+string(rune(1001))+"]", api.ErrMany, 602)
	faults(t, "["+dots(200, 1000)+"a,", api.ErrMany, 602)
	faults(t, "["+dots(200, 1000)+"a-b,", api.ErrMany, 604)
	faults(t, "["+dots(200, 1000)+"a-,", api.ErrForm, 603)
	faults(t, "["+dots(200, 1000)+"a-[a]", api.ErrMany, 602)
	faults(t, "["+dots(200, 1000)+`\u{61}`, api.ErrMany, 607)
	faults(t, "["+dots(200, 1000)+"[:digit:] ]", api.ErrMany, 610)
	faults(t, "["+dots(200, 1000)+"[a ] ]", api.ErrMany, 605)
	s, f = Read("[" + dots(200, 1000) + string(rune(1001)) + "a]")
	if f.Err != api.OK || len(s) != 200 {
		t.Errorf("200 spans, of which two are joined, and one more: %d, %v", len(s), f)
	}
}

func TestTooManySpansOfSets(t *testing.T) {
	many := "[" + dots(200, 1000) + "]"
	// All but 200 runes are 201 spans, if the first rune isn't among them.
	faults(t, "[^"+dots(200, 1000)+"]", api.ErrMany, 603)
	faults(t, " [^"+dots(200, 1000)+"],", api.ErrMany, 604)
	faults(t, "[[^"+dots(200, 1000)+"]", api.ErrMany, 604)
	s, f := Read(`[^\u{0}` + dots(199, 1000) + "]")
	if f.Err != api.OK || len(s) != 200 {
		t.Errorf("200 spans: %d, %v", len(s), f)
	}
	faults(t, "[[:any:]-"+many+" ]", api.ErrMany, 9+602)
	faults(t, "[a"+many, api.ErrMany, 2+602)
	// Each wide span is met by two others, which lie across its edges.
	wide, across := "", ""
	for k := range rune(150) {
		wide += string(1000+10*k) + "-" + string(1006+10*k)
		across += string(1004+10*k) + "-" + string(1012+10*k)
	}
	faults(t, "["+wide+"&["+across+"] a]", api.ErrMany, 1+450+1+452)
}

// whatComes is all that a caller sees of a text.
func whatComes(text string) string {
	s, f := Read(text)
	return fmt.Sprint(s, f)
}

func TestAllShortTexts(t *testing.T) {
	letters := []string{"[", "]", "^", "&", "-", " ", "a", "b", ":", `\`}
	texts := []string{""}
	for range 5 {
		var longer []string
		for _, x := range texts {
			for _, l := range letters {
				longer = append(longer, x+l)
			}
		}
		texts = longer
		for _, x := range texts {
			s, f := Read(x)
			if f.Err == api.OK && (f.At != 0 || sets.Wrong(s) != api.OK) || f.Err != api.OK && len(s) > 0 {
				t.Fatalf("Read(%q): %v, %v", x, s, f)
			}
			if f.At < 0 || f.At > len(x) {
				t.Fatalf("Read(%q): %v", x, f)
			}
			// Nothing behind the place where it can't go on is looked at.
			if f.Err == api.ErrForm && f.At < len(x) && whatComes(x[:f.At+1]+",[") != whatComes(x) {
				t.Fatalf("Read(%q): %v, but with another end %s", x, f, whatComes(x[:f.At+1]+",["))
			}
			// Where something is missing, there is a way to go on.
			if f.Err == api.ErrForm && f.At == len(x) && !goesOn(x) {
				t.Fatalf("Read(%q): %v, but it can't go on", x, f)
			}
		}
	}
}

// goesOn is whether something may stand behind text, so that the fault is another one, or none.
func goesOn(text string) bool {
	for _, next := range []string{"[", "]", "é", "!"} {
		if _, f := Read(text + next); f != (api.Fault{Err: api.ErrForm, At: len(text)}) {
			return true
		}
	}
	return false
}

func TestAnswersHangOnTheTextAlone(t *testing.T) {
	const text = "[[:letter:]-[[:vowel:]] 0-9]"
	want := whatComes(text)
	s, _ := Read(text)
	s = s[:cap(s)]
	for i := range s {
		s[i] = span(-5, -6)
	}
	Read("[[:letter:]")
	if got := whatComes(text); got != want {
		t.Errorf("%s, and then %s", want, got)
	}
}

// C4

func TestQuote(t *testing.T) {
	for r := rune(0); r <= top+10; r++ {
		right := r <= top && !(r >= 55296 && r <= 57343)
		want := fmt.Sprintf(`\u{%x}`, r)
		if isAlphanumeric(r) || right && r > 126 {
			want = string(r)
		}
		if got := Quote(r); got != want {
			t.Fatalf("Quote(%d): %q, not %q", r, got, want)
		}
	}
	if got := Quote(math.MaxInt32); got != `\u{7fffffff}` {
		t.Errorf("of the greatest number: %q", got)
	}
	// Of these nothing is promised, but that they answer.
	for _, r := range []rune{-1, -1114111, math.MinInt32} {
		Quote(r)
	}
}

func TestQuoteIsRead(t *testing.T) {
	for r := rune(0); r <= top; r++ {
		s, f := Read("[" + Quote(r) + "]")
		if f != (api.Fault{}) || len(s) != 1 || s[0] != span(r, r) {
			t.Fatalf("Quote(%d): %q, read as %v, %v", r, Quote(r), s, f)
		}
	}
}

func TestPrint(t *testing.T) {
	tests := []struct {
		s    []api.Span
		want string
	}{
		{nil, "[]"},
		{[]api.Span{}, "[]"},
		{only('a'), "[a]"},
		{[]api.Span{span('a', 'b')}, "[a-b]"},
		{[]api.Span{span('a', 'c'), span('x', 'x')}, "[a-cx]"},
		{only('-', '[', ']'), `[\u{2d}\u{5b}\u{5d}]`},
		{[]api.Span{span(0, top)}, "[\\u{0}-\U0010ffff]"},
		{[]api.Span{span('~', 127)}, "[\\u{7e}-\x7f]"},
		{[]api.Span{span(55295, 55296), span(57343, 57344)}, "[\ud7ff-\\u{d800}\\u{dfff}-\ue000]"},
		{[]api.Span{span('0', '9'), span(233, 252), span(26085, 26085)}, "[0-9é-ü日]"},
	}
	for _, x := range tests {
		if got, err := Print(x.s); got != x.want || err != api.OK {
			t.Errorf("Print(%v): %q, %d, not %q", x.s, got, err, x.want)
		}
	}
}

func TestPrintOfWrongSets(t *testing.T) {
	many := make([]api.Span, 201)
	for k := range many {
		many[k] = span(2*rune(k), 2*rune(k))
	}
	if got, err := Print(many[:200]); err != api.OK || got == "" {
		t.Errorf("of 200 spans: %q, %d", got, err)
	}
	tests := []struct {
		s   []api.Span
		err api.Errno
	}{
		{many, api.ErrMany},
		{[]api.Span{span(5, 1)}, api.ErrRange},
		{[]api.Span{span(-1, 1)}, api.ErrRange},
		{[]api.Span{span('a', top+1)}, api.ErrRange},
		{[]api.Span{span('a', 'b'), span('c', 'd')}, api.ErrForm},
		{[]api.Span{span('c', 'd'), span('a', 'a')}, api.ErrForm},
	}
	for _, x := range tests {
		if got, err := Print(x.s); got != "" || err != x.err {
			t.Errorf("Print(%v): %q, %d, not %d", x.s, got, err, x.err)
		}
	}
}

func TestWhatIsPrintedIsRead(t *testing.T) {
	ends := []rune{0, 9, 32, '-', '0', 'Z', '[', ']', '^', 'a', '~', 127, 128, 233, 55295, 55297, 57342, 57344, 65533, 65536, top}
	again := func(s []api.Span) {
		text, err := Print(s)
		if err != api.OK {
			t.Fatalf("Print(%v): %d", s, err)
		}
		reads(t, text, s...)
	}
	for i, low := range ends {
		for j, high := range ends[i:] {
			again([]api.Span{span(low, high)})
			for _, more := range ends[i+j+1:] {
				if more > high+1 {
					again([]api.Span{span(low, high), span(more, top)})
				}
			}
		}
	}
	// The longest text that can be printed is no longer than what is read.
	var long []api.Span
	for k := range rune(200) {
		long = append(long, span(55296+3*k, 55297+3*k))
	}
	again(long)
}

func TestPrintOnlyReads(t *testing.T) {
	room := []api.Span{span('a', 'c'), span('x', 'x'), span(-1, -2)}
	text, err := Print(room[:2])
	if text != "[a-cx]" || err != api.OK {
		t.Errorf("spare room was looked at: %q, %d", text, err)
	}
	if !slices.Equal(room, []api.Span{span('a', 'c'), span('x', 'x'), span(-1, -2)}) {
		t.Errorf("changed: %v", room)
	}
	clear(room)
	if text != "[a-cx]" {
		t.Errorf("kept: %q", text)
	}
}
