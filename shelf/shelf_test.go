package shelf

import (
	"crypto/sha256"
	"encoding/hex"
	"reflect"
	"slices"
	"strings"
	"testing"

	"scriptshift/api"
	"scriptshift/chain"
	"scriptshift/pair"
	"scriptshift/resolve"
	"scriptshift/rulesyn"
	"scriptshift/runes"
)

// P1

// onTheShelf are the files of the document: their names, how many bytes they have, and the SHA-256 of these.
var onTheShelf = []struct {
	name  string
	bytes int
	sum   string
}{
	{"arrows", 26, "2869ee890961a92e98c7140a1c1cd892792893da308be9cbd94c765da310bfdb"},
	{"blanks", 48, "ec30a39c40f2a3c7d7b2e32f1068e653a5981981b749015bc0f6a5d5e1a18b6e"},
	{"caesar", 234, "18dba0bbdf21c1a4fb68022dc879f2bb974c8d8c37d5f35daf9e79f6af7c548c"},
	{"cyrillic", 222, "bd4dbfcf857a7f4ea69ce4d3b10da10036d231d72a4b9e61163cb7ef01fcda7a"},
	{"dashes", 27, "8bb2ac76f9c862bde0fd19aa0f2282dd65ffe20814a98aab11c7164f96f9dcab"},
	{"dots", 49, "2875f61ab6cf9718dce6933fe377cbfb98788c37eebef5b23b2f7fd41f4ce253"},
	{"edges", 49, "ece0b6ee87db8a7bcef09031631f40c3ac9d0837316523724a33bebdad40e5d5"},
	{"german", 70, "138eeda09d31966af41232666776d5f1b0d79bdcd2c5a01c64b4b013f4b6114c"},
	{"greek", 245, "1a01e082c623be887739e016b7e97ec42025a64d425622c8a0d6d236f86c625b"},
	{"leet", 59, "f5ed92069d11d1fa6f5e2bf34d2ec45636bc9c9af3d23f8e0026375406a0c905"},
	{"morse", 368, "2e434088b8ff660c51a674699319129030ff6e637686a2ed2c61503381f726f8"},
	{"points", 14, "afb47be20a647d8244a05ed94c01436dff51ccf46739b1c3bffc27c7404a7f8d"},
	{"quotes", 46, "3456c18495d619506c2d901a478f0657d351300caa5983a98d03cd3e09aca7de"},
	{"rovar", 200, "ad9727b53178e8c1dba09c5a3c744f7d8190fd765fd56cb2c0dad87ffdbf133a"},
	{"sigma", 40, "32247de07242a3484485fc554ba810af29ad91c32fdc91c91679dc304c7b509f"},
	{"squeeze", 80, "8da688b50d1af4f8e94a5196cde37fc769280938fe2e26a0a88c880472cdb2c0"},
	{"telex", 70, "7d8e2c0ba22d9032d1260780a93b4f650d3a0636d76d2bb0c15fcbe0fb8c2289"},
	{"vowels", 16, "2f897605204801783da227343305a6ad9e9d28375d04421d79fb8cb930e40917"},
}

// nobodies are names that no file has.
var nobodies = []string{
	"", " ", "nobody", "arrow", "arrowss", "Arrows", "ARROWS", " arrows", "arrows ", "arrows\n", "arrows\x00", "\x00", "\xff", "vowel", "vowelss",
	"arrows blanks", "arrowsblanks", "upper", "lower", "null", "remove", "ɡerman", strings.Repeat("arrows", 1000),
}

var ways = []bool{false, true}

func TestNames(t *testing.T) {
	var want []string
	for _, x := range onTheShelf {
		want = append(want, x.name)
	}
	for range 2 {
		got := Names()
		if !slices.Equal(got, want) {
			t.Errorf("%q, not %q", got, want)
		}
		// What is answered is the caller's.
		clear(got[:cap(got)])
	}
	if !slices.IsSorted(want) || len(want) != 18 {
		t.Errorf("%q", want)
	}
}

func TestText(t *testing.T) {
	for _, x := range onTheShelf {
		got, err := Text(x.name)
		sum := sha256.Sum256([]byte(got))
		if err != api.OK || len(got) != x.bytes || hex.EncodeToString(sum[:]) != x.sum {
			t.Errorf("%s: %d bytes, %v: %q", x.name, len(got), err, got)
		}
		if !strings.HasSuffix(got, "\n") || strings.HasPrefix(got, "\n") || strings.Contains(got, "\n\n") || strings.ContainsAny(got, "\r\t") {
			t.Errorf("%s: lines of %q", x.name, got)
		}
	}
	for name, want := range map[string]string{
		"arrows":  "'->' > → ;\n'<-' > ← ;\n",
		"blanks":  "# one blank where there were more\n' ' { ' ' > ;\n",
		"dots":    "# no blank ahead of a sign\n' ' } [.!?\\,\\;\\:] > ;\n",
		"edges":   "# no blank at either end\n^ { ' ' > ;\n' ' } $ > ;\n",
		"leet":    ":: lower ;\na > 4 ;\ne > 3 ;\ni > 1 ;\no > 0 ;\ns > 5 ;\nt > 7 ;\n",
		"quotes":  "^ { '\"' > “ ;\n' ' { '\"' > “ ;\n'\"' > ” ;\n",
		"sigma":   "σ } [^ [:greek:]] > ς ;\nσ } $ > ς ;\n",
		"squeeze": "# of runs of the same consonant one is left\nb b > | b ;\nc c > | c ;\nd d > | d ;\n",
		"vowels":  "[[:vowel:]] > ;\n",
	} {
		if got, err := Text(name); got != want || err != api.OK {
			t.Errorf("%s: %q, %v, not %q", name, got, err, want)
		}
	}
}

func TestNobody(t *testing.T) {
	for _, name := range nobodies {
		if got, err := Text(name); got != "" || err != api.ErrName {
			t.Errorf("Text(%.20q): %q, %v", name, got, err)
		}
		for _, back := range ways {
			if got, err := Script(name, back); !reflect.DeepEqual(got, api.Script{}) || err != api.ErrName {
				t.Errorf("Script(%.20q, %v): %v, %v", name, back, got, err)
			}
			// The name is told ahead of whatever is wrong with the text.
			for _, text := range []string{"", "a", "\xff", strings.Repeat("a", 4001)} {
				if got, err := Turn(name, back, text); got != "" || err != api.ErrName {
					t.Errorf("Turn(%.20q, %v, %.20q): %q, %v", name, back, text, got, err)
				}
			}
		}
	}
}

// same is whether the scripts are the same, nil and no entries being one.
func same(a, b api.Script) bool {
	lists := func(a, b [][]api.Span) bool { return slices.EqualFunc(a, b, slices.Equal[[]api.Span]) }
	rules := func(a, b api.Rule) bool {
		return a.Start == b.Start && a.End == b.End && a.Cursor == b.Cursor && lists(a.Before, b.Before) && lists(a.Source, b.Source) && lists(a.After, b.After) && slices.Equal(a.Target, b.Target)
	}
	passes := func(a, b api.Pass) bool {
		return a.Name == b.Name && slices.EqualFunc(a.Rules, b.Rules, rules)
	}
	return a.Some == b.Some && slices.Equal(a.Only, b.Only) && slices.EqualFunc(a.Passes, b.Passes, passes)
}

func TestScript(t *testing.T) {
	for _, x := range onTheShelf {
		for _, back := range ways {
			got, err := Script(x.name, back)
			if want := scriptOf(x.name, back); !same(got, want) || err != api.OK {
				t.Errorf("Script(%q, %v): %v, %v, not %v", x.name, back, got, err, want)
			}
			if f := chain.Wrong(got); f != (api.Fault{}) {
				t.Errorf("Script(%q, %v): %v", x.name, back, f)
			}
		}
	}
}

// TestFilesAreRight: Script has no error for what would be wrong with a file.
func TestFilesAreRight(t *testing.T) {
	for _, x := range onTheShelf {
		text, _ := Text(x.name)
		l, f := rulesyn.Read(text)
		if f != (api.Fault{}) || len(l) == 0 {
			t.Errorf("Read of %s: %v, %v", x.name, l, f)
		}
		forth, f := resolve.Forth(l)
		if got, _ := Script(x.name, false); !same(got, forth) || f != (api.Fault{}) {
			t.Errorf("Forth of %s: %v, %v, not %v", x.name, forth, f, got)
		}
		back, f := resolve.Back(l)
		if got, _ := Script(x.name, true); !same(got, back) || f != (api.Fault{}) {
			t.Errorf("Back of %s: %v, %v, not %v", x.name, back, f, got)
		}
	}
}

func turns(t *testing.T, name string, back bool, text, want string) {
	t.Helper()
	if got, err := Turn(name, back, text); got != want || err != api.OK {
		t.Errorf("Turn(%q, %v, %.60q): %.60q, %v, not %.60q", name, back, text, got, err, want)
	}
}

func refuses(t *testing.T, name string, back bool, text string, want api.Errno) {
	t.Helper()
	if got, err := Turn(name, back, text); got != "" || err != want {
		t.Errorf("Turn(%q, %v, %.60q): %.60q, %v, not %v", name, back, text, got, err, want)
	}
}

func TestTurn(t *testing.T) {
	// The document's example 16.
	turns(t, "german", false, "grün", "gruen")
	for _, x := range []struct{ name, text, want string }{
		{"arrows", "a->b<-c", "a→b←c"},
		{"arrows", "<->-<", "←>-<"},
		{"blanks", "a   b c  ", "a b c "},
		{"blanks", "    ", " "},
		{"caesar", "abyz Az", "bcza Aa"},
		{"cyrillic", "жзхк ЖЫ", "zhzkhk ЖЫ"},
		{"dashes", "- -- --- ---- ----- ------", "- – — —- —– ——"},
		{"dots", "a , b  ; c : d . . ! ?", "a, b ; c: d..!?"},
		{"dots", " . ", ". "},
		{"edges", "   a b   ", "a b  "},
		{"edges", "   ", ""},
		{"edges", "a", "a"},
		{"german", "ÄÖÜäöüß ẞ", "AeOeUeaeoeuess ẞ"},
		{"greek", "ψωηχθξ ςΑ", "ŝōēchthx ςΑ"},
		{"leet", "ToAsT ÄΩ", "70457 äω"},
		{"morse", "sos x", "... --- ...  -..- "},
		{"points", "..... ...... ..", "….. …… .."},
		{"quotes", `"a" "b"" c"d`, "“a” “b”” c”d"},
		{"quotes", "\n\"", "\n”"},
		{"rovar", "bay", "bobay"},
		{"sigma", "σσ σa σ\nσΩ σ", "σς ςa ς\nσΩ ς"},
		{"squeeze", "bbbbcccdd ddcbb aa", "bcd dcb aa"},
		{"telex", "aaa awa ooow dduw AA", "âa ăa ôơ đư AA"},
		{"vowels", "Aeiou yÄE b", " yÄ b"},
	} {
		turns(t, x.name, false, x.text, x.want)
	}
	for _, x := range []struct{ name, text, want string }{
		{"caesar", "abza A", "zayz A"},
		{"cyrillic", "zhzkhkh zk h", "жзхх зк h"},
		{"greek", "tht ch c x ŝōē", "θτ χ c ξ ψωη"},
		{"leet", "7 toast äßÿς", "7 TOAST Äßÿς"},
		{"morse", ".- -... ...", "ab..."},
		{"morse", "... --- ... ", "sos"},
		{"german", "gruen", "gruen"},
		{"edges", " a ", " a "},
		{"vowels", "b", "b"},
		{"quotes", "“a”", "“a”"},
	} {
		turns(t, x.name, true, x.text, x.want)
	}
}

// TestNothingAndSpoiltTexts: bytes that are no rune become Bad, one by one, by each script.
func TestNothingAndSpoiltTexts(t *testing.T) {
	for _, x := range onTheShelf {
		for _, back := range ways {
			turns(t, x.name, back, "", "")
			turns(t, x.name, back, "\xff", "�")
			turns(t, x.name, back, "\xed\xa0\x80\xc0\x80\xf4\x90\x80\x80\xe2\x82", strings.Repeat("�", 11))
			turns(t, x.name, back, "\x00�\ue000\U0010ffff", "\x00�\ue000\U0010ffff")
		}
	}
	turns(t, "german", false, "\xc3ü\xc3", "�ue�")
}

// TestMuch: a text is too long by its runes, not by its bytes; and so is what comes of it, while it plays.
func TestMuch(t *testing.T) {
	for _, x := range onTheShelf {
		for _, back := range ways {
			for _, s := range []string{"1", "\U00010000", "\xff", "π"[:1]} {
				refuses(t, x.name, back, strings.Repeat(s, 4001), api.ErrMuch)
				turns(t, x.name, back, strings.Repeat(s, 4000), strings.Repeat(string([]rune(s)), 4000))
			}
			refuses(t, x.name, back, strings.Repeat(" ", 100000), api.ErrMuch)
		}
	}
	turns(t, "german", false, strings.Repeat("ä", 2000), strings.Repeat("ae", 2000))
	refuses(t, "german", false, strings.Repeat("ä", 2001), api.ErrMuch)
	turns(t, "german", true, strings.Repeat("ä", 2001), strings.Repeat("ä", 2001))
	turns(t, "morse", false, strings.Repeat("j", 800), strings.Repeat(".--- ", 800))
	refuses(t, "morse", false, strings.Repeat("j", 800)+"1", api.ErrMuch)
	turns(t, "morse", true, strings.Repeat(".--- ", 800), strings.Repeat("j", 800))
	turns(t, "blanks", false, strings.Repeat(" ", 4000), " ")
	turns(t, "edges", false, strings.Repeat(" ", 4000), "")
	turns(t, "squeeze", false, strings.Repeat("b", 4000), "b")
	turns(t, "vowels", false, strings.Repeat("a", 4000), "")
}

// agrees holds Turn against oracle_test.go, and against what the document says it is made of.
func agrees(t *testing.T, name string, back bool, text string) {
	t.Helper()
	want := comesOf(name, back, text)
	turns(t, name, back, text, want)
	s, _ := Script(name, back)
	l, f := chain.Go(s, runes.Decode(text))
	if got, err := runes.Encode(l); got != want || f != (api.Fault{}) || err != api.OK {
		t.Errorf("Go of %q, %v, %.60q: %.60q, %v, %v, not %.60q", name, back, text, got, f, err, want)
	}
}

// texts are all of these words, up to that many of them.
func texts(most int, words ...string) []string {
	all := []string{""}
	last := all
	for range most {
		var next []string
		for _, s := range last {
			for _, w := range words {
				next = append(next, s+w)
			}
		}
		all, last = append(all, next...), next
	}
	return all
}

// TestAnotherWay goes through all short texts of a few letters that the file is about.
func TestAnotherWay(t *testing.T) {
	few := map[string][]string{
		"arrows": {"-", "<", ">", "a"}, "blanks": {" ", "a", "\n"}, "caesar": {"a", "y", "z", "A"}, "cyrillic": {"ж", "з", "z", "k", "h"},
		"dashes": {"-", "a", "–"}, "dots": {" ", ".", ";", "a"}, "edges": {" ", "a", "\t"}, "german": {"ä", "ß", "s", "e"},
		"greek": {"ς", "ξ", "t", "c", "h"}, "leet": {"A", "a", "4", "É"}, "morse": {".", "-", " ", "e"}, "points": {".", "…", "a"},
		"quotes": {`"`, " ", "a", "“"}, "rovar": {"b", "o", "z", "y"}, "sigma": {"σ", "ς", "a", "Ͽ", "Ѐ"}, "squeeze": {"b", "c", "d", "a"},
		"telex": {"a", "w", "o", "d"}, "vowels": {"a", "U", "b", "Ä"},
	}
	for _, x := range onTheShelf {
		for _, text := range texts(4, few[x.name]...) {
			for _, back := range ways {
				agrees(t, x.name, back, text)
			}
		}
	}
}

// TestAnotherWayLong takes longer texts, of all letters that any file is about, each of each file.
func TestAnotherWayLong(t *testing.T) {
	seed := 1
	next := func(below int) int {
		seed = (seed*1103515245 + 12345) & (1<<31 - 1)
		return (seed >> 8) % below
	}
	words := []string{"\xff", "\xce", "\x00", "\n", "  ", ". ", "-- ", `"`, "€", "\U0001f600", "Ͽ", "ͯ", "Ѐ"}
	for _, x := range onTheShelf {
		text, _ := Text(x.name)
		for _, r := range text {
			words = append(words, string(r))
		}
	}
	words = append(words, morsePairs()...)
	words = append(words, casePairs(smallLetters, greatLetters)...)
	for range 100 {
		var b strings.Builder
		for range next(120) {
			b.WriteString(words[next(len(words))])
		}
		for _, x := range onTheShelf {
			for _, back := range ways {
				agrees(t, x.name, back, b.String())
			}
		}
	}
}

// lettersOf are those that a file's rules begin with forth, and the set of them.
func lettersOf(name string) ([]string, []api.Span) {
	var letters []string
	for k := 0; k < len(letterPairs[name]); k += 2 {
		letters = append(letters, letterPairs[name][k])
	}
	slices.Sort(letters)
	var set []api.Span
	for _, s := range letters {
		if r := []rune(s)[0]; len(set) > 0 && set[len(set)-1].High == r-1 {
			set[len(set)-1].High = r
		} else {
			set = append(set, api.Span{Low: r, High: r})
		}
	}
	return letters, set
}

// TestForthAndBack: of what comes forth of a file's letters comes back what there was.
func TestForthAndBack(t *testing.T) {
	for _, name := range bothWays {
		letters, domain := lettersOf(name)
		forth, _ := Script(name, false)
		back, _ := Script(name, true)
		// It is sure ahead; but of morse, whose longest letters are longer than two of its shortest ones.
		if sure, err := pair.Sure(forth.Passes[0].Rules, back.Passes[0].Rules, domain); sure != (name != "morse") || err != api.OK {
			t.Errorf("%s: %v, %v", name, sure, err)
		}
		for _, text := range texts(2, letters...) {
			made, _ := Turn(name, false, text)
			turns(t, name, true, made, text)
		}
	}
}

// Z2

// scribble writes over all lists of a script, and over their spare room.
func scribble(s api.Script) {
	over := func(l [][]api.Span) {
		for _, x := range l {
			clear(x[:cap(x)])
		}
		clear(l[:cap(l)])
	}
	for _, p := range s.Passes {
		for _, r := range p.Rules {
			over(r.Before)
			over(r.Source)
			over(r.After)
			clear(r.Target[:cap(r.Target)])
		}
		clear(p.Rules[:cap(p.Rules)])
	}
	clear(s.Passes[:cap(s.Passes)])
}

func TestScriptsAreTheCallers(t *testing.T) {
	for _, x := range onTheShelf {
		for _, back := range ways {
			first, _ := Script(x.name, back)
			second, _ := Script(x.name, back)
			scribble(first)
			if want := scriptOf(x.name, back); !same(second, want) {
				t.Errorf("Script(%q, %v) has become %v", x.name, back, second)
			}
			third, err := Script(x.name, back)
			if want := scriptOf(x.name, back); !same(third, want) || err != api.OK {
				t.Errorf("Script(%q, %v): %v, %v, not %v", x.name, back, third, err, want)
			}
		}
	}
}

// TestListsShareNothing: whoever puts something to one list of a script changes no other one.
func TestListsShareNothing(t *testing.T) {
	mark := api.Span{Low: -7, High: -7}
	for _, x := range onTheShelf {
		for _, back := range ways {
			s, _ := Script(x.name, back)
			for _, p := range s.Passes {
				_ = append(p.Rules, api.Rule{Cursor: -7})
				for _, r := range p.Rules {
					_ = append(r.Target, -7)
					for _, l := range [][][]api.Span{r.Before, r.Source, r.After} {
						_ = append(l, []api.Span{mark})
						for _, set := range l {
							_ = append(set, mark)
						}
					}
				}
			}
			if want := scriptOf(x.name, back); !same(s, want) {
				t.Errorf("Script(%q, %v) has become %v", x.name, back, s)
			}
		}
	}
}
