package shelf

import (
	"regexp"
	"slices"
	"strings"

	"scriptshift/api"
)

// What follows has the shelf a second time: the rules of each file as they were made by hand, and what comes of texts by the library's replacers and regular expressions. It leans on nothing of the program but api.

// A replacer, too, takes at each place the first one that fits, and goes on behind what it put.
var (
	letterPairs = map[string][]string{
		"arrows":   {"->", "→", "<-", "←"},
		"caesar":   strings.Fields("a b b c c d d e e f f g g h h i i j j k k l l m m n n o o p p q q r r s s t t u u v v w w x x y y z z a"),
		"cyrillic": strings.Fields("ж zh х kh а a б b в v г g д d е e з z и i й j к k л l м m н n о o п p р r с s т t у u ф f"),
		"dashes":   {"---", "—", "--", "–"},
		"german":   strings.Fields("ä ae ö oe ü ue ß ss Ä Ae Ö Oe Ü Ue"),
		"greek":    strings.Fields("ξ x θ th α a β b γ g δ d ε e ζ z η ē ι i κ k λ l μ m ν n ο o π p ρ r σ s τ t υ u φ f χ ch ψ ŝ ω ō"),
		"leet":     strings.Fields("a 4 e 3 i 1 o 0 s 5 t 7"),
		"morse":    morsePairs(),
		"points":   {"...", "…"},
		"rovar":    rovarPairs(),
		"telex":    strings.Fields("aw ă aa â ee ê oo ô ow ơ uw ư dd đ"),
	}
	bothWays = []string{"caesar", "cyrillic", "greek", "morse"}
)

func morsePairs() []string {
	var l []string
	for k, s := range strings.Fields(".- -... -.-. -.. . ..-. --. .... .. .--- -.- .-.. -- -. --- .--. --.- .-. ... - ..- ...- .-- -..- -.-- --..") {
		l = append(l, string(rune('a'+k)), s+" ")
	}
	return l
}

func rovarPairs() []string {
	var l []string
	for r := 'a'; r <= 'z'; r++ {
		if !strings.ContainsRune("aeiouy", r) {
			l = append(l, string(r), string(r)+"o"+string(r))
		}
	}
	return l
}

// turnedRound has each pair the other way round.
func turnedRound(l []string) []string {
	var out []string
	for k := 0; k < len(l); k += 2 {
		out = append(out, l[k+1], l[k])
	}
	return out
}

// runeSets is the set of each rune.
func runeSets(s string) [][]api.Span {
	var l [][]api.Span
	for _, r := range s {
		l = append(l, []api.Span{{Low: r, High: r}})
	}
	return l
}

// plain is a rule without anything around it, its cursor behind what it puts.
func plain(from, to string) api.Rule {
	l := []rune(to)
	return api.Rule{Source: runeSets(from), Target: l, Cursor: len(l)}
}

func ruleOf(before, from string, after [][]api.Span, to string) api.Rule {
	r := plain(from, to)
	r.Before, r.After = runeSets(before), after
	return r
}

func atStart(r api.Rule) api.Rule {
	r.Start = true
	return r
}

func atEnd(r api.Rule) api.Rule {
	r.End = true
	return r
}

func staying(r api.Rule) api.Rule {
	r.Cursor = 0
	return r
}

func rulesOf(pairs []string) []api.Rule {
	var l []api.Rule
	for k := 0; k < len(pairs); k += 2 {
		l = append(l, plain(pairs[k], pairs[k+1]))
	}
	return l
}

// rulesAround are those of files that look around, or whose cursor stays.
func rulesAround(name string) []api.Rule {
	switch name {
	case "blanks":
		return []api.Rule{ruleOf(" ", " ", nil, "")}
	case "dots":
		signs := []api.Span{{Low: '!', High: '!'}, {Low: ',', High: ','}, {Low: '.', High: '.'}, {Low: ':', High: ';'}, {Low: '?', High: '?'}}
		return []api.Rule{ruleOf("", " ", [][]api.Span{signs}, "")}
	case "edges":
		return []api.Rule{atStart(plain(" ", "")), atEnd(plain(" ", ""))}
	case "quotes":
		return []api.Rule{atStart(plain(`"`, "“")), ruleOf(" ", `"`, nil, "“"), plain(`"`, "”")}
	case "sigma":
		others := []api.Span{{Low: 0, High: 879}, {Low: 1024, High: api.MaxRune}}
		return []api.Rule{ruleOf("", "σ", [][]api.Span{others}, "ς"), atEnd(plain("σ", "ς"))}
	case "squeeze":
		return []api.Rule{staying(plain("bb", "b")), staying(plain("cc", "c")), staying(plain("dd", "d"))}
	}
	var letters []api.Span
	for _, r := range "AEIOUaeiou" {
		letters = append(letters, api.Span{Low: r, High: r})
	}
	return []api.Rule{{Source: [][]api.Span{letters}}}
}

func isBoth(name string) bool { return slices.Contains(bothWays, name) }

// scriptOf is the script of that file, as it must be.
func scriptOf(name string, back bool) api.Script {
	pairs := letterPairs[name]
	switch {
	case name == "leet" && back:
		return api.Script{Passes: []api.Pass{{Name: "upper"}}}
	case name == "leet":
		return api.Script{Passes: []api.Pass{{Name: "lower"}, {Rules: rulesOf(pairs)}}}
	case back && isBoth(name):
		return api.Script{Passes: []api.Pass{{Rules: rulesOf(turnedRound(pairs))}}}
	case back:
		return api.Script{}
	case pairs == nil:
		return api.Script{Passes: []api.Pass{{Rules: rulesAround(name)}}}
	}
	return api.Script{Passes: []api.Pass{{Rules: rulesOf(pairs)}}}
}

const (
	smallLetters = "abcdefghijklmnopqrstuvwxyzàáâãäåæçèéêëìíîïðñòóôõöøùúûüýþαβγδεζηθικλμνξοπρστυφχψωабвгдежзийклмнопрстуфхцчшщъыьэюяѐёђѓєѕіїјљњћќѝўџ"
	greatLetters = "ABCDEFGHIJKLMNOPQRSTUVWXYZÀÁÂÃÄÅÆÇÈÉÊËÌÍÎÏÐÑÒÓÔÕÖØÙÚÛÜÝÞΑΒΓΔΕΖΗΘΙΚΛΜΝΞΟΠΡΣΤΥΦΧΨΩАБВГДЕЖЗИЙКЛМНОПРСТУФХЦЧШЩЪЫЬЭЮЯЀЁЂЃЄЅІЇЈЉЊЋЌЍЎЏ"
)

// casePairs are letters with those of the other kind.
func casePairs(from, to string) []string {
	var l []string
	others := []rune(to)
	for k, r := range []rune(from) {
		l = append(l, string(r), string(others[k]))
	}
	return l
}

func replaced(pairs []string, s string) string { return strings.NewReplacer(pairs...).Replace(s) }

func exchanged(pattern, s, by string) string {
	return regexp.MustCompile(pattern).ReplaceAllString(s, by)
}

// comesOf is what must come of a text that is not too long, by that file.
func comesOf(name string, back bool, text string) string {
	// There and back, each byte that is no rune becomes a Bad.
	s := string([]rune(text))
	switch {
	case name == "leet" && back:
		return replaced(casePairs(smallLetters, greatLetters), s)
	case back && isBoth(name):
		return replaced(turnedRound(letterPairs[name]), s)
	case back:
		return s
	case name == "leet":
		return replaced(letterPairs[name], replaced(casePairs(greatLetters, smallLetters), s))
	case letterPairs[name] != nil:
		return replaced(letterPairs[name], s)
	}
	return comesAround(name, s)
}

func comesAround(name, s string) string {
	switch name {
	case "blanks":
		return exchanged(` +`, s, " ")
	case "dots":
		return exchanged(` ([.!?,;:])`, s, "$1")
	case "edges":
		// At the end one alone goes: those ahead of it aren't at the end when the cursor is there.
		return strings.TrimSuffix(strings.TrimLeft(s, " "), " ")
	case "quotes":
		return exchanged(`"`, exchanged(`(^| )"`, s, "${1}“"), "”")
	case "sigma":
		return exchanged(`σ([^\x{370}-\x{3ff}]|\z)`, s, "ς$1")
	case "squeeze":
		return exchanged(`d+`, exchanged(`c+`, exchanged(`b+`, s, "b"), "c"), "d")
	}
	return exchanged(`[AEIOUaeiou]`, s, "")
}
