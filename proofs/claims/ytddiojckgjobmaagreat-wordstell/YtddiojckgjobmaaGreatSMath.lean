/-
 Sets of numbers as spans: the one form of a set, and what its operators make. No word here speaks of the program.
-/
namespace Go.Proofs.YtddiojckgjobmaaGreat.S
abbrev Sp:=Int×Int
def memb (l:List Sp) (r:Int):Bool:=l.any fun x=>decide (x.1<=r)&&decide (r<=x.2)
theorem za0 {l:List Sp}{r:Int}:memb l r=true↔∃x∈l,x.1<=r/\r<=x.2:=by
 simp[memb]
theorem zf7 (r:Int):memb [] r=false:=rfl
theorem zbb (x:Sp)(l:List Sp)(r:Int):memb (x::l) r=((decide (x.1<=r)&&decide (r<=x.2))||memb l r):=rfl
theorem zfo (l m:List Sp)(r:Int):memb (l++m) r=(memb l r||memb m r):=by simp[memb]
def Nf:Int->List Sp->Prop
 | _,[]=>True
 | b,x::l=>b<=x.1/\x.1<=x.2/\x.2<=1114111/\Nf (x.2+2) l
theorem Nf.mono {b b':Int}{l:List Sp}(h:Nf b l)(hb:b'<=b):Nf b' l:=by
 cases l with
 | nil=>trivial
 | cons x l=>exact⟨by have:=h.1;omega,h.2⟩
theorem Nf.low {b:Int}{l:List Sp}(h:Nf b l){r:Int}(hr:memb l r=true):b<=r/\r<=1114111:=by
 induction l generalizing b with
 | nil=>simp[memb] at hr
 | cons x l ih =>
  obtain⟨h1,h2,h3,h4⟩:=h;rw[zbb] at hr;simp only[Bool.or_eq_true,Bool.and_eq_true,decide_eq_true_eq] at hr;rcases hr with hr | hr
  ·omega
  ·have:=ih h4 hr;omega
theorem Nf.mem {b:Int}{l:List Sp}(h:Nf b l){x:Sp}(hx:x∈l):b<=x.1/\x.1<=x.2/\x.2<=1114111:=by
 induction l generalizing b with
 | nil=>simp at hx
 | cons y l ih =>
  obtain⟨h1,h2,h3,h4⟩:=h;rcases List.mem_cons.1 hx with rfl | hx
  ·exact⟨h1,h2,h3⟩
  ·have:=ih h4 hx;omega
theorem Nf.snoc {b:Int}{l:List Sp}{p x:Sp}(h:Nf b (l++ [p]))(hx:p.2+2<=x.1)(h1:x.1<=x.2)(h2:x.2<=1114111):Nf b (l++ [p]++ [x]):=by
 induction l generalizing b with
 | nil=>obtain⟨a,c,d,_⟩:=h;exact⟨a,c,d,hx,h1,h2,trivial⟩
 | cons y l ih=>obtain⟨a,c,d,e⟩:=h;exact⟨a,c,d,ih e⟩
theorem Nf.wide {b:Int}{l:List Sp}{p:Sp}{q:Int}(h:Nf b (l++ [p]))(h1:p.2<=q)(h2:q<=1114111):Nf b (l++ [(p.1,q)]):=by
 induction l generalizing b with
 | nil=>obtain⟨a,c,d,_⟩:=h;exact⟨a,by show p.1<=q;omega,h2,trivial⟩
 | cons y l ih=>obtain⟨a,c,d,e⟩:=h;exact⟨a,c,d,ih e⟩
theorem Nf.one {b:Int}{x:Sp}(h:b<=x.1)(h1:x.1<=x.2)(h2:x.2<=1114111):Nf b [x]:=⟨h,h1,h2,trivial⟩
theorem Nf.part {b:Int}{l m:List Sp}(h:Nf b (l++m)):Nf b l:=by
 induction l generalizing b with
 | nil=>trivial
 | cons y l ih=>obtain⟨a,c,d,e⟩:=h;exact⟨a,c,d,ih e⟩
theorem Nf.take {b:Int}{l:List Sp}(h:Nf b l)(n:Nat):Nf b (l.take n):=Nf.part (m:=l.drop n) (by rw[List.take_append_drop];exact h)
def joinF (s:List Sp) (x:Sp):List Sp :=
 match s.getLast? with
 | none=> [x]
 | some p=>if p.2+1<x.1 then s++ [x] else s.dropLast++ [(p.1,max p.2 x.2)]
def bad (x:Sp):Bool:=decide (x.1<0)||decide (1114111<x.2)||decide (x.2<x.1)
theorem bad_false {x:Sp}:bad x=false↔0<=x.1/\x.1<=x.2/\x.2<=1114111:=by
 simp[bad];omega
def wgo:Int->List Sp->Int
 | _,[]=>0
 | b,x::l=>if bad x=true then 3 else if x.1<b then 2 else wgo (x.2+2) l
theorem zjf {b:Int}{l:List Sp}(hb:0<=b):wgo b l=0↔Nf b l:=by
 induction l generalizing b with
 | nil=>simp[wgo,Nf]
 | cons x l ih =>
  simp only[wgo,Nf];cases hbad:bad x with
  | true =>
   have:¬(0<=x.1/\x.1<=x.2/\x.2<=1114111):=fun h=>by rw[bad_false.2 h] at hbad;cases hbad
   simp;intro h1 h2 h3;omega
  | false =>
   have hok:=bad_false.1 hbad
   by_cases hlt:x.1<b
   ·simp[hlt];omega
   ·simp[hlt];rw[ih (by omega)];exact⟨fun h=>⟨by omega,by omega,by omega,h⟩,fun h=>h.2.2.2⟩
def wrongE (l:List Sp):Int:=if 200<l.length then 5 else wgo 0 l
theorem zaw {l:List Sp}:wrongE l=0↔l.length<=200/\Nf 0 l:=by
 unfold wrongE
 by_cases h:200<l.length
 ·simp[h];omega
 ·rw[if_neg h,zjf (by omega)];exact⟨fun hh=>⟨by omega,hh⟩,fun hh=>hh.2⟩
def fewL (s:List Sp):List Sp:=if 200<s.length then [] else s
def fewE (s:List Sp):Int:=if 200<s.length then 5 else 0
def Is (P:Int->Bool) (s:List Sp):Prop:=Nf 0 s/\∀r,memb s r=P r
def inR (r:Int):Bool:=decide (0<=r)&&decide (r<=1114111)
theorem Nf.inR {s:List Sp}(h:Nf 0 s)(r:Int):memb s r=(S.inR r&&memb s r):=by
 cases hm:memb s r with
 | false=>simp
 | true=>have:=h.low hm;simp[S.inR];omega
open Classical in
noncomputable def nf (P:Int->Bool):List Sp:=if h:∃s,Is P s then Classical.choose h else []
noncomputable def resE (ea eb:Int) (P:Int->Bool):Int:=if ea≠0 then ea else if eb≠0 then eb else fewE (nf P)
noncomputable def resL (ea eb:Int) (P:Int->Bool):List Sp:=if ea≠0 then [] else if eb≠0 then [] else fewL (nf P)
def notP (a:List Sp) (r:Int):Bool:=inR r&& !memb a r
def orP (a b:List Sp) (r:Int):Bool:=inR r&&(memb a r||memb b r)
def andP (a b:List Sp) (r:Int):Bool:=inR r&&(memb a r&&memb b r)
def minP (a b:List Sp) (r:Int):Bool:=inR r&&(memb a r&& !memb b r)
theorem Nf.begins {b:Int}{s:List Sp}(h:Nf b s){x:Sp}(hx:x∈s):memb s x.1=true/\memb s (x.1 - 1)=false:=by
 induction s generalizing b with
 | nil=>simp at hx
 | cons y l ih =>
  obtain⟨h1,h2,h3,h4⟩:=h;rcases List.mem_cons.1 hx with rfl | hx
  ·refine⟨by rw[zbb];simp[h2],?_⟩;rw[zbb];cases hq:memb l (x.1 - 1) with
   | false=>simp;omega
   | true=>have:=(h4.low hq).1;omega
  ·have:=ih h4 hx;have hm:=h4.mem hx;refine⟨by rw[zbb,this.1];simp,?_⟩;rw[zbb,this.2];simp;omega
theorem starts {a:List Sp}{r:Int}(h1:memb a r=true)(h2:memb a (r - 1)=false):r∈a.map (·.1):=by
 rw[za0] at h1;obtain⟨x,hx,hl,hh⟩:=h1;refine List.mem_map.2 ⟨x,hx,?_⟩
 by_cases e:x.1=r
 ·exact e
 ·exfalso;have:memb a (r - 1)=true:=za0.2 ⟨x,hx,by omega,by omega⟩;rw[h2] at this;cases this
theorem stops {a:List Sp}{r:Int}(h1:memb a r=false)(h2:memb a (r - 1)=true):r∈a.map (fun x=>x.2+1):=by
 rw[za0] at h2;obtain⟨x,hx,hl,hh⟩:=h2;refine List.mem_map.2 ⟨x,hx,?_⟩
 by_cases e:x.2+1=r
 ·exact e
 ·exfalso;have:memb a r=true:=za0.2 ⟨x,hx,by omega,by omega⟩;rw[h1] at this;cases this
def Past (l:List Sp) (j:Nat) (r:Int):Prop:=∀i x,i<j->l[i]?=some x->x.2<r
theorem Past.step {l:List Sp}{j:Nat}{r:Int}{x:Sp}(h:Past l j r)(hx:l[j]?=some x)(hlt:x.2<r):Past l (j+1) r:=fun i y hi hy=>by
 by_cases e:i=j
 ·subst e;rw[hx] at hy;cases hy;exact hlt
 ·exact h i y (by omega) hy
theorem Past.mono {l:List Sp}{j:Nat}{r r':Int}(h:Past l j r)(hr:r<=r'):Past l j r':=fun i x hi hx=>by have:=h i x hi hx;omega
theorem Nf.rise {b:Int}{l:List Sp}(h:Nf b l){i j:Nat}{x y:Sp}(hij:i<j)(hx:l[i]?=some x)(hy:l[j]?=some y):x.2+2<=y.1:=by
 induction l generalizing b i j with
 | nil=>simp at hx
 | cons z l ih =>
  obtain⟨a,c,d,e⟩:=h;cases j with
  | zero=>omega
  | succ j =>
   have hy':l[j]?=some y:=by simpa using hy
   cases i with
   | zero =>
    have hz:z=x:=by simpa using hx
    subst hz;exact(e.mem (List.mem_of_getElem? hy')).1
   | succ i=>exact ih e (show i<j by omega) (by simpa using hx) hy'
theorem zkr {l:List Sp}{j:Nat}{r q:Int}{x:Sp}(h:Nf 0 l)(hp:Past l j r)(hx:l[j]?=some x)(h1:r<=q)(h2:q<x.1):memb l q=false:=by
 cases hm:memb l q with
 | false=>rfl
 | true =>
  obtain⟨y,hy,h3,h4⟩:=za0.1 hm;obtain⟨i,hi⟩:=List.getElem?_of_mem hy;rcases Nat.lt_trichotomy i j with hlt | rfl | hgt
  ·have:=hp i y hlt hi;omega
  ·rw[hx] at hi;cases hi;omega
  ·have:=h.rise hgt hx hi;have:=h.mem (List.mem_of_getElem? hx);omega
theorem zks {l:List Sp}{j:Nat}{r q:Int}(hj:l.length<=j)(hp:Past l j r)(h1:r<=q):memb l q=false:=by
 cases hm:memb l q with
 | false=>rfl
 | true =>
  obtain⟨y,hy,h3,h4⟩:=za0.1 hm;obtain⟨i,hi⟩:=List.getElem?_of_mem hy;have hlt:=(List.getElem?_eq_some_iff.1 hi).1;have:=hp i y (by omega) hi;omega
end Go.Proofs.YtddiojckgjobmaaGreat.S
