package shelf

// file is the text of a script that stands ready, and its name.
type file struct{ name, text string }

// files are all of them. Their names rise, for they are told in this order.
func files() []file {
	return []file{
		{"arrows", arrows},
		{"blanks", blanks},
		{"caesar", caesar},
		{"cyrillic", cyrillic},
		{"dashes", dashes},
		{"dots", dots},
		{"edges", edges},
		{"german", german},
		{"greek", greek},
		{"leet", leet},
		{"morse", morse},
		{"points", points},
		{"quotes", quotes},
		{"rovar", rovar},
		{"sigma", sigma},
		{"squeeze", squeeze},
		{"telex", telex},
		{"vowels", vowels},
	}
}

const arrows = `'->' > → ;
'<-' > ← ;
`

const blanks = `# one blank where there were more
' ' { ' ' > ;
`

const caesar = `a <> b ;
b <> c ;
c <> d ;
d <> e ;
e <> f ;
f <> g ;
g <> h ;
h <> i ;
i <> j ;
j <> k ;
k <> l ;
l <> m ;
m <> n ;
n <> o ;
o <> p ;
p <> q ;
q <> r ;
r <> s ;
s <> t ;
t <> u ;
u <> v ;
v <> w ;
w <> x ;
x <> y ;
y <> z ;
z <> a ;
`

const cyrillic = `ж <> zh ;
х <> kh ;
а <> a ;
б <> b ;
в <> v ;
г <> g ;
д <> d ;
е <> e ;
з <> z ;
и <> i ;
й <> j ;
к <> k ;
л <> l ;
м <> m ;
н <> n ;
о <> o ;
п <> p ;
р <> r ;
с <> s ;
т <> t ;
у <> u ;
ф <> f ;
`

const dashes = `'---' > — ;
'--' > – ;
`

const dots = `# no blank ahead of a sign
' ' } [.!?\,\;\:] > ;
`

const edges = `# no blank at either end
^ { ' ' > ;
' ' } $ > ;
`

const german = `ä > ae ;
ö > oe ;
ü > ue ;
ß > ss ;
Ä > Ae ;
Ö > Oe ;
Ü > Ue ;
`

const greek = `ξ <> x ;
θ <> th ;
α <> a ;
β <> b ;
γ <> g ;
δ <> d ;
ε <> e ;
ζ <> z ;
η <> ē ;
ι <> i ;
κ <> k ;
λ <> l ;
μ <> m ;
ν <> n ;
ο <> o ;
π <> p ;
ρ <> r ;
σ <> s ;
τ <> t ;
υ <> u ;
φ <> f ;
χ <> ch ;
ψ <> ŝ ;
ω <> ō ;
`

const leet = `:: lower ;
a > 4 ;
e > 3 ;
i > 1 ;
o > 0 ;
s > 5 ;
t > 7 ;
`

const morse = `a <> '.- ' ;
b <> '-... ' ;
c <> '-.-. ' ;
d <> '-.. ' ;
e <> '. ' ;
f <> '..-. ' ;
g <> '--. ' ;
h <> '.... ' ;
i <> '.. ' ;
j <> '.--- ' ;
k <> '-.- ' ;
l <> '.-.. ' ;
m <> '-- ' ;
n <> '-. ' ;
o <> '--- ' ;
p <> '.--. ' ;
q <> '--.- ' ;
r <> '.-. ' ;
s <> '... ' ;
t <> '- ' ;
u <> '..- ' ;
v <> '...- ' ;
w <> '.-- ' ;
x <> '-..- ' ;
y <> '-.-- ' ;
z <> '--.. ' ;
`

const points = `'...' > … ;
`

const quotes = `^ { '"' > “ ;
' ' { '"' > “ ;
'"' > ” ;
`

const rovar = `b > bob ;
c > coc ;
d > dod ;
f > fof ;
g > gog ;
h > hoh ;
j > joj ;
k > kok ;
l > lol ;
m > mom ;
n > non ;
p > pop ;
q > qoq ;
r > ror ;
s > sos ;
t > tot ;
v > vov ;
w > wow ;
x > xox ;
z > zoz ;
`

const sigma = `σ } [^ [:greek:]] > ς ;
σ } $ > ς ;
`

const squeeze = `# of runs of the same consonant one is left
b b > | b ;
c c > | c ;
d d > | d ;
`

const telex = `aw > ă ;
aa > â ;
ee > ê ;
oo > ô ;
ow > ơ ;
uw > ư ;
dd > đ ;
`

const vowels = `[[:vowel:]] > ;
`
