import Derived.Test.YthnmmmkeamcfkaaGreatDoorRStay
import Derived.Laws.Strings
namespace Go.Proofs.YthnmmmkeamcfkaaGreatDoor
namespace R
open S (Sp)
open T (Out see skipW cut)
def notNl (r:Int):Bool:= !decide (r=10)&& !decide (r= -1)
def notQuo (r:Int):Bool:= !decide (r=39)&& !decide (r= -1)
def wordy (r:Int):Bool:=letter r||digit r
def gapN:Nat->List Int->Nat->Nat
 | 0,_,p=>p
 | f+1,l,p=>if see l (skipW T.blank l p)=35 then gapN f l (skipW notNl l (skipW T.blank l p+1)) else skipW T.blank l p
def gap (l:List Int) (p:Nat):Nat:=gapN (l.length+1) l p
def wordEnd (l:List Int) (p:Nat):Nat:=if letter (see l p)=true then skipW wordy l p else p
def bytes (m:List Int):ByteArray:=⟨(m.map fun r=>UInt8.ofNat r.toNat).toArray⟩
def wordAt (l:List Int) (p:Nat):ByteArray:=bytes (cut l p (wordEnd l p))
def varAt (l:List Int) (p:Nat):Out ByteArray:=if named (wordAt l (p+1))=true then .ok (wordAt l (p+1)) (wordEnd l (p+1)) else .bad 7 (p+1)
def varNext (l:List Int) (p:Nat):Bool:=decide (see l p=36)&&letter (see l (p+1))
def runeI (r:Int):Item:=⟨1,r,[],⟨#[]⟩⟩
def setI (s:List Sp):Item:=⟨2,0,s,⟨#[]⟩⟩
def varI (n:ByteArray):Item:=⟨3,0,[],n⟩
noncomputable def item (l:List Int) (p:Nat):Out (Option (List Item)) :=
 if see l p=91 then
  match T.setN 20 l p with
  | .bad e q=> .bad e q
  | .ok s q=> .ok (some [setI s]) q
 else if varNext l p=true then
  match varAt l p with
  | .bad e q=> .bad e q
  | .ok n q=> .ok (some [varI n]) q
 else if see l p=39 then
  if see l (skipW notQuo l (p+1))=39 then .ok (some ((cut l (p+1) (skipW notQuo l (p+1))).map runeI)) (skipW notQuo l (p+1)+1)
  else .bad 2 (skipW notQuo l (p+1))
 else if see l p=92∨T.ordy (see l p)=true then
  match T.chr l p with
  | .bad e q=> .bad e q
  | .ok c q=>if M.right c=true then .ok (some [runeI c]) q else .bad 3 p
 else .ok none p
noncomputable def itemsN:Nat->List Int->List Item->Int->Nat->Out (List Item×Int)
 | 0,_,_,_,p=> .bad 0 p
 | f+1,l,xs,c,p =>
  if see l (gap l p)=124 then
   if 0<=c then .bad 5 (gap l p) else itemsN f l xs xs.length (gap l p+1)
  else
   match item l (gap l p) with
   | .bad e q=> .bad e q
   | .ok none q=> .ok (xs,c) q
   | .ok (some ys) q=>if 20<xs.length+ys.length then .bad 5 (gap l p) else itemsN f l (xs++ys) c q
noncomputable def items (l:List Int) (p:Nat):Out (List Item×Int):=itemsN (l.length+2) l [] (-1) p
noncomputable def sideTail (l:List Int) (s:Side) (p:Nat):Out Side :=
 if see l p=125 then
  match items l (p+1) with
  | .bad e q=> .bad e q
  | .ok (xs,c) q =>
   if 0<=c then .bad 8 (p+1)
   else if see l q=36 then .ok { s with after:=xs,fin:=true } (q+1)
   else .ok { s with after:=xs } q
 else .ok s p
noncomputable def side (l:List Int) (p0:Nat):Out Side :=
 let p:=gap l p0
 let st:=decide (see l p=94)
 let b:=if st=true then p+1 else p
 match items l b with
 | .bad e q=> .bad e q
 | .ok (xs,c) q =>
  if st=true∨see l q=123 then
   if 0<=c then .bad 8 b
   else if see l q≠123 then .bad 2 q
   else
    match items l (q+1) with
    | .bad e r=> .bad e r
    | .ok (ys,d) r=>sideTail l ⟨st,false,xs,ys,[],d⟩ r
  else sideTail l ⟨st,false,[],xs,[],c⟩ q
def dirAt (l:List Int) (p0:Nat):Out Int :=
 let p:=gap l p0
 if see l p=62 then .ok 1 (p+1)
 else if see l p≠60 then .bad 2 p
 else if see l (p+1)=62 then .ok 3 (p+2)
 else .ok 2 (p+1)
def noSide:Side:=⟨false,false,[],[],[],0⟩
noncomputable def rule (l:List Int) (p:Nat):Out Part :=
 match side l p with
 | .bad e q=> .bad e q
 | .ok a q =>
  match dirAt l q with
  | .bad e r=> .bad e r
  | .ok d r =>
   match side l r with
   | .bad e t=> .bad e t
   | .ok b t=> .ok ⟨2,⟨#[]⟩,[],d,a,b⟩ t
noncomputable def wholeAt (l:List Int) (p:Nat):Out Part :=
 if see l p=91 then
  match T.setN 20 l p with
  | .bad e q=> .bad e q
  | .ok s q=> .ok ⟨3,⟨#[]⟩,s,0,noSide,noSide⟩ q
 else if passes (wordAt l p)=true then .ok ⟨4,wordAt l p,[],0,noSide,noSide⟩ (wordEnd l p)
 else .bad 7 p
noncomputable def part (l:List Int) (p:Nat):Out Part :=
 if see l p=58 then
  if see l (p+1)≠58 then .bad 2 (p+1) else wholeAt l (gap l (p+2))
 else if varNext l p=true then
  match varAt l p with
  | .bad e q=> .bad e q
  | .ok n q =>
   if see l (gap l q)=61 then
    match T.setN 20 l (gap l (gap l q+1)) with
    | .bad e r=> .bad e r
    | .ok s r=> .ok ⟨1,n,s,0,noSide,noSide⟩ r
   else rule l p
 else rule l p
noncomputable def ended (l:List Int) (p:Nat):Out Part :=
 match part l p with
 | .bad e q=> .bad e q
 | .ok x q=>if see l (gap l q)≠59 then .bad 2 (gap l q) else if partE x≠0 then .bad (partE x) p else .ok x (gap l q+1)
noncomputable def partsN:Nat->List Int->List Part->Nat->Out (List Part)
 | 0,_,_,p=> .bad 0 p
 | f+1,l,xs,p =>
  if see l p= -1 then .ok xs p
  else if xs.length=200 then .bad 5 p
  else
   match ended l p with
   | .bad e q=> .bad e q
   | .ok x q=>partsN f l (xs++ [x]) (gap l q)
noncomputable def parts (l:List Int):Out (List Part):=partsN 202 l [] (gap l 0)
noncomputable def read (l:List Int):Out (List Part):=if 16000<l.length then .bad 4 0 else parts l
end R
namespace T
open S (Sp)
def hexR (n:Nat):List Int:=(hexL n).map fun b=>(b.toNat:Int)
def quoR (r:Int):List Int:=if plain r=true then [r] else [92,117,123]++hexR r.toNat++ [125]
def oneR (x:Sp):List Int:=quoR x.1++if x.1<x.2 then [45]++quoR x.2 else []
def innerR (s:List Sp):List Int:=s.flatMap oneR
def prtR (s:List Sp):List Int:= [91]++innerR s++ [93]
theorem zhj {l m r:List Int}{p:Nat}(h:l.drop p=m++r){i:Nat}(hi:i<m.length):see l (p+i)=see m i:=by
 unfold see
 have:l[p+i]?=m[i]?:=by
  rw[<- List.getElem?_drop,h,List.getElem?_append_left hi]
 rw[this]
theorem zii {l m r:List Int}{p:Nat}(h:l.drop p=m++r):l.drop (p+m.length)=r:=by
 rw[<- List.drop_drop,h,List.drop_left]
theorem zlu {l m r:List Int}{p:Nat}(h:l.drop p=m++r)(hp:p<=l.length):p+m.length+r.length=l.length:=by
 have:=congrArg List.length h;rw[List.length_drop,List.length_append] at this;omega
theorem zpx {l r:List Int}{p:Nat}{a:Int}(h:l.drop p=a::r):see l p=a:=by
 have:=zhj (m:= [a]) (r:=r) (p:=p) (l:=l) (by simpa using h) (i:=0) (by simp);simpa [see] using this
theorem zpw {l r:List Int}{p:Nat}{a:Int}(h:l.drop p=a::r):l.drop (p+1)=r:=by
 have:=zii (m:= [a]) (r:=r) (p:=p) (l:=l) (by simpa using h);simpa using this
theorem zvd {l r:List Int}{p:Nat}{a:Int}(h:l.drop p=a::r):p<l.length:=by
 apply Classical.byContradiction;intro hn;rw[List.drop_eq_nil_of_le (by omega)] at h;cases h
theorem zi4 (l:List Int)(r:Int):hexN (l++ [r])=16*hexN l+hexOne r:=by simp[hexN]
theorem zm9 {f:Int->Bool}{l m r:List Int}{p:Nat}(h:l.drop p=m++r)(hp:p<=l.length)(hm:∀x∈m,f x=true)(h0:f (-1)=false)(hr:f (see l (p+m.length))=false):skipW f l p=p+m.length:=by
 have hl:=zlu h hp;refine zci (by omega) (by omega) (fun i h1 h2=> ?_) hr h0;obtain⟨j,rfl⟩:∃j,i=p+j:=⟨i - p,by omega⟩;rw[zhj h (i:=j) (by omega)];have:=zev (l:=m) (p:=j) (by omega);exact hm _ (List.mem_of_getElem? this)
end T
namespace T
open S (Sp)
def bytesR (l:List Int):List UInt8:=l.flatMap M.enc
def rightL (l:List Int):Prop:=∀r∈l,M.right r=true
theorem zfq {r:Int}(h:M.right r=true):((r.toNat:Nat):Int)=r:=by
 unfold M.right at h;have:=of_decide_eq_true h;omega
theorem zly {l:List Int}(h:rightL l):M.rn ⟨(bytesR l).toArray⟩=l:=by
 have e:bytesR l=(l.map Int.toNat).flatMap fun r:Nat=>M.enc (r:Int):=by
  unfold bytesR
  induction l with
  | nil=>rfl
  | cons x l ih =>
   simp only[List.flatMap_cons,List.map_cons];rw[ih fun r hr=>h r (List.mem_cons_of_mem _ hr),zfq (h x List.mem_cons_self)]
 have hr:∀r∈l.map Int.toNat,M.right ((r:Nat):Int)=true:=fun r hr=>by
  obtain⟨x,hx,rfl⟩:=List.mem_map.1 hr;rw[zfq (h x hx)];exact h x hx
 have h1:=(M.zuu _ hr).1;rw[M.zwn];show (M.ru (bytesR l)).map (fun x=>((x.1:Nat):Int))=l;rw[e];have h2:=congrArg (List.map fun r:Nat=>(r:Int)) h1;rw[List.map_map] at h2;rw[show ((fun r:Nat=>(r:Int))∘fun x:Nat×Nat=>x.1)=(fun x:Nat×Nat=>((x.1:Nat):Int)) from rfl] at h2;rw[h2,List.map_map];clear h1 h2 hr e
 induction l with
 | nil=>rfl
 | cons x l ih =>
  rw[List.map_cons,ih fun r hr=>h r (List.mem_cons_of_mem _ hr)];congr 1;exact zfq (h x List.mem_cons_self)
theorem zka {r:Int}(h0:0<=r)(h:r<128):M.right r=true:=by unfold M.right;simp;omega
/-! what is read of texts put together -/
end T
namespace R
open S (Sp)
open T (Out see skipW cut zhj zii zlu zpx zpw zvd zm9 zgm)
/-! what is left of things by their kinds -/
def bareI (x:Item):Item:=if x.kind=1 then runeI x.rune else if x.kind=2 then setI x.set else if x.kind=3 then varI x.name else ⟨x.kind,0,[],⟨#[]⟩⟩
def bareS (s:Side):Side:=⟨s.start,s.fin,s.before.map bareI,s.source.map bareI,s.after.map bareI,s.cursor⟩
def bareP (p:Part):Part :=
 ⟨p.kind,if p.kind=1∨p.kind=4 then p.name else ⟨#[]⟩,if p.kind=1∨p.kind=3 then p.set else [],if p.kind=2 then p.dir else 0,if p.kind=2 then bareS p.left else noSide,if p.kind=2 then bareS p.right else noSide⟩
/-! the runes of what is written -/
def nameR (n:ByteArray):List Int:=n.data.toList.map fun b=>(b.toNat:Int)
def itemR (x:Item):List Int :=
 if x.kind=2 then T.prtR x.set
 else if x.kind=3 then 36::nameR x.name
 else T.quoR x.rune
def barR:List Int:= [124,32]
def itemsR:List Item->Int->List Int
 | [],c=>if c=0 then barR else []
 | x::l,c=>(if c=0 then barR else [])++(itemR x++ [32])++itemsR l (c - 1)
def sideR (s:Side):List Int :=
 (if s.start=true then [94,32] else [])++itemsR s.before (-1)++(if s.start=true∨0<s.before.length then [123,32] else []) ++
  itemsR s.source s.cursor++(if s.fin=true∨0<s.after.length then [125,32] else [])++itemsR s.after (-1)++(if s.fin=true then [36,32] else [])
def arrowR (d:Int):List Int:=if d=1 then [62] else if d=2 then [60] else [60,62]
def wordsR (p:Part):List Int :=
 if p.kind=1 then (36::nameR p.name)++ [32]++ [61,32]++(T.prtR p.set++ [32])
 else if p.kind=3 then [58,58,32]++(T.prtR p.set++ [32])
 else if p.kind=4 then [58,58,32]++(nameR p.name++ [32])
 else if p.kind=2 then sideR p.left++(arrowR p.dir++ [32])++sideR p.right
 else []
def partR (p:Part):List Int:=wordsR p++ [59,10]
def printR (l:List Part):List Int:=l.flatMap partR
theorem zkr {x:Item}(h:itemE x=0):(x.kind=1/\M.right x.rune=true)∨(x.kind=2/\S.wrongE x.set=0)∨(x.kind=3/\named x.name=true):=by
 unfold itemE at h
 by_cases h1:x.kind=1
 ·rw[if_pos h1] at h
  by_cases h2:M.right x.rune=true
  ·exact .inl ⟨h1,h2⟩
  ·rw[if_neg h2] at h;cases h
 ·rw[if_neg h1] at h
  by_cases h2:x.kind=2
  ·rw[if_pos h2] at h;exact .inr (.inl ⟨h2,h⟩)
  ·rw[if_neg h2] at h
   by_cases h3:x.kind=3
   ·rw[if_pos h3] at h
    by_cases h4:named x.name=true
    ·exact .inr (.inr ⟨h3,h4⟩)
    ·rw[if_neg h4] at h;cases h
   ·rw[if_neg h3] at h;cases h
theorem zfw {p:Part}(h:partE p=0):(p.kind=1/\named p.name=true/\S.wrongE p.set=0)∨(p.kind=3/\S.wrongE p.set=0)∨(p.kind=4/\passes p.name=true)∨(p.kind=2/\ruleE p=0):=by
 unfold partE at h
 by_cases h1:p.kind=1
 ·rw[if_pos h1] at h
  by_cases h2:named p.name=true
  ·rw[if_pos h2] at h;exact .inl ⟨h1,h2,h⟩
  ·rw[if_neg h2] at h;cases h
 ·rw[if_neg h1] at h
  by_cases h2:p.kind=3
  ·rw[if_pos h2] at h;exact .inr (.inl ⟨h2,h⟩)
  ·rw[if_neg h2] at h
   by_cases h3:p.kind=4
   ·rw[if_pos h3] at h
    by_cases h4:passes p.name=true
    ·exact .inr (.inr (.inl ⟨h3,h4⟩))
    ·rw[if_neg h4] at h;cases h
   ·rw[if_neg h3] at h
    by_cases h4:p.kind=2
    ·rw[if_pos h4] at h;exact .inr (.inr (.inr ⟨h4,h⟩))
    ·rw[if_neg h4] at h;cases h
/-! names -/
theorem zjt {r:Int}(h:wordy r=true):48<=r/\r<=122:=by
 unfold wordy letter digit at h;simp only[Bool.or_eq_true,Bool.and_eq_true,decide_eq_true_eq] at h;omega
theorem ziy {r:Int}(h:letter r=true):wordy r=true:=by unfold wordy;rw[h];rfl
/-! gaps -/
def bl (m:List Int):Prop:=∀x∈m,T.blank x=true
/-! items -/
def stops (a:Int) (r:List Int):Prop:=a=123∨a=125∨a=62∨a=60∨a=59∨(a=36/\∃r',r=32::r')
end R
