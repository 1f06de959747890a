/-
 Files of rules: what Read tells of any runes: plain functions.
-/
import Derived.Test.YtamfgmaipajodaaGreatDoorRStay
import Derived.Laws.Strings
import Derived.Test.YtamfgmaipajodaaGreatDoorRows
set_option maxHeartbeats 0
namespace Go.Proofs.YtamfgmaipajodaaGreatDoor.R
open S (Sp)
open T (Out see skipW cut)
def notNl (r:Int):Bool:= !decide (r=10)&& !decide (r= -1)
def notQuo (r:Int):Bool:= !decide (r=39)&& !decide (r= -1)
def wordy (r:Int):Bool:=letter r||digit r
def gapN:Nat->List Int->Nat->Nat
 | 0,_,p=>p
 | f+1,l,p=>if see l (skipW T.blank l p)=35 then gapN f l (skipW notNl l (skipW T.blank l p+1)) else skipW T.blank l p
def gap (l:List Int) (p:Nat):Nat:=gapN (l.length+1) l p
def wordEnd (l:List Int) (p:Nat):Nat:=if letter (see l p)=true then skipW wordy l p else p
def bytes (m:List Int):ByteArray:=⟨(m.map fun r=>UInt8.ofNat r.toNat).toArray⟩
def wordAt (l:List Int) (p:Nat):ByteArray:=bytes (cut l p (wordEnd l p))
def varAt (l:List Int) (p:Nat):Out ByteArray:=if named (wordAt l (p+1))=true then .ok (wordAt l (p+1)) (wordEnd l (p+1)) else .bad 7 (p+1)
def varNext (l:List Int) (p:Nat):Bool:=decide (see l p=36)&&letter (see l (p+1))
def runeI (r:Int):Item:=⟨1,r,[],⟨#[]⟩⟩
def setI (s:List Sp):Item:=⟨2,0,s,⟨#[]⟩⟩
def varI (n:ByteArray):Item:=⟨3,0,[],n⟩
noncomputable def item (l:List Int) (p:Nat):Out (Option (List Item)) :=
 if see l p=91 then
  match T.setN 20 l p with
  | .bad e q=> .bad e q
  | .ok s q=> .ok (some [setI s]) q
 else if varNext l p=true then
  match varAt l p with
  | .bad e q=> .bad e q
  | .ok n q=> .ok (some [varI n]) q
 else if see l p=39 then
  if see l (skipW notQuo l (p+1))=39 then .ok (some ((cut l (p+1) (skipW notQuo l (p+1))).map runeI)) (skipW notQuo l (p+1)+1)
  else .bad 2 (skipW notQuo l (p+1))
 else if see l p=92∨T.ordy (see l p)=true then
  match T.chr l p with
  | .bad e q=> .bad e q
  | .ok c q=>if M.right c=true then .ok (some [runeI c]) q else .bad 3 p
 else .ok none p
noncomputable def itemsN:Nat->List Int->List Item->Int->Nat->Out (List Item×Int)
 | 0,_,_,_,p=> .bad 0 p
 | f+1,l,xs,c,p =>
  if see l (gap l p)=124 then
   if 0<=c then .bad 5 (gap l p) else itemsN f l xs xs.length (gap l p+1)
  else
   match item l (gap l p) with
   | .bad e q=> .bad e q
   | .ok none q=> .ok (xs,c) q
   | .ok (some ys) q=>if 20<xs.length+ys.length then .bad 5 (gap l p) else itemsN f l (xs++ys) c q
noncomputable def items (l:List Int) (p:Nat):Out (List Item×Int):=itemsN (l.length+2) l [] (-1) p
noncomputable def sideTail (l:List Int) (s:Side) (p:Nat):Out Side :=
 if see l p=125 then
  match items l (p+1) with
  | .bad e q=> .bad e q
  | .ok (xs,c) q =>
   if 0<=c then .bad 8 (p+1)
   else if see l q=36 then .ok { s with after:=xs,fin:=true } (q+1)
   else .ok { s with after:=xs } q
 else .ok s p
noncomputable def side (l:List Int) (p0:Nat):Out Side :=
 let p:=gap l p0
 let st:=decide (see l p=94)
 let b:=if st=true then p+1 else p
 match items l b with
 | .bad e q=> .bad e q
 | .ok (xs,c) q =>
  if st=true∨see l q=123 then
   if 0<=c then .bad 8 b
   else if see l q≠123 then .bad 2 q
   else
    match items l (q+1) with
    | .bad e r=> .bad e r
    | .ok (ys,d) r=>sideTail l ⟨st,false,xs,ys,[],d⟩ r
  else sideTail l ⟨st,false,[],xs,[],c⟩ q
def dirAt (l:List Int) (p0:Nat):Out Int :=
 let p:=gap l p0
 if see l p=62 then .ok 1 (p+1)
 else if see l p≠60 then .bad 2 p
 else if see l (p+1)=62 then .ok 3 (p+2)
 else .ok 2 (p+1)
def noSide:Side:=⟨false,false,[],[],[],0⟩
noncomputable def rule (l:List Int) (p:Nat):Out Part :=
 match side l p with
 | .bad e q=> .bad e q
 | .ok a q =>
  match dirAt l q with
  | .bad e r=> .bad e r
  | .ok d r =>
   match side l r with
   | .bad e t=> .bad e t
   | .ok b t=> .ok ⟨2,⟨#[]⟩,[],d,a,b⟩ t
noncomputable def wholeAt (l:List Int) (p:Nat):Out Part :=
 if see l p=91 then
  match T.setN 20 l p with
  | .bad e q=> .bad e q
  | .ok s q=> .ok ⟨3,⟨#[]⟩,s,0,noSide,noSide⟩ q
 else if passes (wordAt l p)=true then .ok ⟨4,wordAt l p,[],0,noSide,noSide⟩ (wordEnd l p)
 else .bad 7 p
noncomputable def part (l:List Int) (p:Nat):Out Part :=
 if see l p=58 then
  if see l (p+1)≠58 then .bad 2 (p+1) else wholeAt l (gap l (p+2))
 else if varNext l p=true then
  match varAt l p with
  | .bad e q=> .bad e q
  | .ok n q =>
   if see l (gap l q)=61 then
    match T.setN 20 l (gap l (gap l q+1)) with
    | .bad e r=> .bad e r
    | .ok s r=> .ok ⟨1,n,s,0,noSide,noSide⟩ r
   else rule l p
 else rule l p
noncomputable def ended (l:List Int) (p:Nat):Out Part :=
 match part l p with
 | .bad e q=> .bad e q
 | .ok x q=>if see l (gap l q)≠59 then .bad 2 (gap l q) else if partE x≠0 then .bad (partE x) p else .ok x (gap l q+1)
noncomputable def partsN:Nat->List Int->List Part->Nat->Out (List Part)
 | 0,_,_,p=> .bad 0 p
 | f+1,l,xs,p =>
  if see l p= -1 then .ok xs p
  else if xs.length=200 then .bad 5 p
  else
   match ended l p with
   | .bad e q=> .bad e q
   | .ok x q=>partsN f l (xs++ [x]) (gap l q)
noncomputable def parts (l:List Int):Out (List Part):=partsN 202 l [] (gap l 0)
noncomputable def read (l:List Int):Out (List Part):=if 16000<l.length then .bad 4 0 else parts l
end Go.Proofs.YtamfgmaipajodaaGreatDoor.R
namespace Go.Proofs.YtamfgmaipajodaaGreatDoor.T
open S (Sp)
def hexR (n:Nat):List Int:=(hexL n).map fun b=>(b.toNat:Int)
def quoR (r:Int):List Int:=if plain r=true then [r] else [92,117,123]++hexR r.toNat++ [125]
def oneR (x:Sp):List Int:=quoR x.1++if x.1<x.2 then [45]++quoR x.2 else []
def innerR (s:List Sp):List Int:=s.flatMap oneR
def prtR (s:List Sp):List Int:= [91]++innerR s++ [93]
theorem zgm {l m r:List Int}{p:Nat}(h:l.drop p=m++r){i:Nat}(hi:i<m.length):see l (p+i)=see m i:=by
 unfold see
 have:l[p+i]?=m[i]?:=by
  rw[<- List.getElem?_drop,h,List.getElem?_append_left hi]
 rw[this]
theorem zhg {l m r:List Int}{p:Nat}(h:l.drop p=m++r):l.drop (p+m.length)=r:=by
 rw[<- List.drop_drop,h,List.drop_left]
theorem zkn {l m r:List Int}{p:Nat}(h:l.drop p=m++r)(hp:p<=l.length):p+m.length+r.length=l.length:=by
 have:=congrArg List.length h;rw[List.length_drop,List.length_append] at this;omega
theorem zoh {l r:List Int}{p:Nat}{a:Int}(h:l.drop p=a::r):see l p=a:=by
 have:=zgm (m:= [a]) (r:=r) (p:=p) (l:=l) (by simpa using h) (i:=0) (by simp);simpa [see] using this
theorem zog {l r:List Int}{p:Nat}{a:Int}(h:l.drop p=a::r):l.drop (p+1)=r:=by
 have:=zhg (m:= [a]) (r:=r) (p:=p) (l:=l) (by simpa using h);simpa using this
theorem ztu {l r:List Int}{p:Nat}{a:Int}(h:l.drop p=a::r):p<l.length:=by
 apply Classical.byContradiction;intro hn;rw[List.drop_eq_nil_of_le (by omega)] at h;cases h
theorem zh4 (l:List Int)(r:Int):hexN (l++ [r])=16*hexN l+hexOne r:=by simp[hexN]
theorem zl0 {f:Int->Bool}{l m r:List Int}{p:Nat}(h:l.drop p=m++r)(hp:p<=l.length)(hm:∀x∈m,f x=true)(h0:f (-1)=false)(hr:f (see l (p+m.length))=false):skipW f l p=p+m.length:=by
 have hl:=zkn h hp;refine zb9 (by omega) (by omega) (fun i h1 h2=> ?_) hr h0;obtain⟨j,rfl⟩:∃j,i=p+j:=⟨i - p,by omega⟩;rw[zgm h (i:=j) (by omega)];have:=zeb (l:=m) (p:=j) (by omega);exact hm _ (List.mem_of_getElem? this)
end Go.Proofs.YtamfgmaipajodaaGreatDoor.T
namespace Go.Proofs.YtamfgmaipajodaaGreatDoor.T
open S (Sp)
def bytesR (l:List Int):List UInt8:=l.flatMap M.enc
def rightL (l:List Int):Prop:=∀r∈l,M.right r=true
theorem zew {r:Int}(h:M.right r=true):((r.toNat:Nat):Int)=r:=by
 unfold M.right at h;have:=of_decide_eq_true h;omega
theorem zkp {l:List Int}(h:rightL l):M.rn ⟨(bytesR l).toArray⟩=l:=by
 have e:bytesR l=(l.map Int.toNat).flatMap fun r:Nat=>M.enc (r:Int):=by
  unfold bytesR
  induction l with
  | nil=>rfl
  | cons x l ih =>
   simp only[List.flatMap_cons,List.map_cons];rw[ih fun r hr=>h r (List.mem_cons_of_mem _ hr),zew (h x List.mem_cons_self)]
 have hr:∀r∈l.map Int.toNat,M.right ((r:Nat):Int)=true:=fun r hr=>by
  obtain⟨x,hx,rfl⟩:=List.mem_map.1 hr;rw[zew (h x hx)];exact h x hx
 have h1:=(M.zta _ hr).1;rw[M.zvj];show (M.ru (bytesR l)).map (fun x=>((x.1:Nat):Int))=l;rw[e];have h2:=congrArg (List.map fun r:Nat=>(r:Int)) h1;rw[List.map_map] at h2;rw[show ((fun r:Nat=>(r:Int))∘fun x:Nat×Nat=>x.1)=(fun x:Nat×Nat=>((x.1:Nat):Int)) from rfl] at h2;rw[h2,List.map_map];clear h1 h2 hr e
 induction l with
 | nil=>rfl
 | cons x l ih =>
  rw[List.map_cons,ih fun r hr=>h r (List.mem_cons_of_mem _ hr)];congr 1;exact zew (h x List.mem_cons_self)
theorem zi6 {r:Int}(h0:0<=r)(h:r<128):M.right r=true:=by unfold M.right;simp;omega
/-! what is read of texts put together -/
end Go.Proofs.YtamfgmaipajodaaGreatDoor.T
namespace Go.Proofs.YtamfgmaipajodaaGreatDoor.R
open S (Sp)
open T (Out see skipW cut zgm zhg zkn zoh zog ztu zl0 zfs)
/-! what is left of things by their kinds -/
def bareI (x:Item):Item:=if x.kind=1 then runeI x.rune else if x.kind=2 then setI x.set else if x.kind=3 then varI x.name else ⟨x.kind,0,[],⟨#[]⟩⟩
def bareS (s:Side):Side:=⟨s.start,s.fin,s.before.map bareI,s.source.map bareI,s.after.map bareI,s.cursor⟩
def bareP (p:Part):Part :=
 ⟨p.kind,if p.kind=1∨p.kind=4 then p.name else ⟨#[]⟩,if p.kind=1∨p.kind=3 then p.set else [],if p.kind=2 then p.dir else 0,if p.kind=2 then bareS p.left else noSide,if p.kind=2 then bareS p.right else noSide⟩
/-! the runes of what is written -/
def nameR (n:ByteArray):List Int:=n.data.toList.map fun b=>(b.toNat:Int)
def itemR (x:Item):List Int :=
 if x.kind=2 then T.prtR x.set
 else if x.kind=3 then 36::nameR x.name
 else T.quoR x.rune
def barR:List Int:= [124,32]
def itemsR:List Item->Int->List Int
 | [],c=>if c=0 then barR else []
 | x::l,c=>(if c=0 then barR else [])++(itemR x++ [32])++itemsR l (c - 1)
def sideR (s:Side):List Int :=
 (if s.start=true then [94,32] else [])++itemsR s.before (-1)++(if s.start=true∨0<s.before.length then [123,32] else []) ++
  itemsR s.source s.cursor++(if s.fin=true∨0<s.after.length then [125,32] else [])++itemsR s.after (-1)++(if s.fin=true then [36,32] else [])
def arrowR (d:Int):List Int:=if d=1 then [62] else if d=2 then [60] else [60,62]
def wordsR (p:Part):List Int :=
 if p.kind=1 then (36::nameR p.name)++ [32]++ [61,32]++(T.prtR p.set++ [32])
 else if p.kind=3 then [58,58,32]++(T.prtR p.set++ [32])
 else if p.kind=4 then [58,58,32]++(nameR p.name++ [32])
 else if p.kind=2 then sideR p.left++(arrowR p.dir++ [32])++sideR p.right
 else []
def partR (p:Part):List Int:=wordsR p++ [59,10]
def printR (l:List Part):List Int:=l.flatMap partR
theorem zjq {x:Item}(h:itemE x=0):(x.kind=1/\M.right x.rune=true)∨(x.kind=2/\S.wrongE x.set=0)∨(x.kind=3/\named x.name=true):=by
 unfold itemE at h
 by_cases h1:x.kind=1
 ·rw[if_pos h1] at h
  by_cases h2:M.right x.rune=true
  ·exact .inl ⟨h1,h2⟩
  ·rw[if_neg h2] at h;cases h
 ·rw[if_neg h1] at h
  by_cases h2:x.kind=2
  ·rw[if_pos h2] at h;exact .inr (.inl ⟨h2,h⟩)
  ·rw[if_neg h2] at h
   by_cases h3:x.kind=3
   ·rw[if_pos h3] at h
    by_cases h4:named x.name=true
    ·exact .inr (.inr ⟨h3,h4⟩)
    ·rw[if_neg h4] at h;cases h
   ·rw[if_neg h3] at h;cases h
theorem zjf {p:Part}(h:partE p=0):(p.kind=1/\named p.name=true/\S.wrongE p.set=0)∨(p.kind=3/\S.wrongE p.set=0)∨(p.kind=4/\passes p.name=true)∨(p.kind=2/\ruleE p=0):=by
 unfold partE at h
 by_cases h1:p.kind=1
 ·rw[if_pos h1] at h
  by_cases h2:named p.name=true
  ·rw[if_pos h2] at h;exact .inl ⟨h1,h2,h⟩
  ·rw[if_neg h2] at h;cases h
 ·rw[if_neg h1] at h
  by_cases h2:p.kind=3
  ·rw[if_pos h2] at h;exact .inr (.inl ⟨h2,h⟩)
  ·rw[if_neg h2] at h
   by_cases h3:p.kind=4
   ·rw[if_pos h3] at h
    by_cases h4:passes p.name=true
    ·exact .inr (.inr (.inl ⟨h3,h4⟩))
    ·rw[if_neg h4] at h;cases h
   ·rw[if_neg h3] at h
    by_cases h4:p.kind=2
    ·rw[if_pos h4] at h;exact .inr (.inr (.inr ⟨h4,h⟩))
    ·rw[if_neg h4] at h;cases h
/-! names -/
theorem zir {r:Int}(h:wordy r=true):48<=r/\r<=122:=by
 unfold wordy letter digit at h;simp only[Bool.or_eq_true,Bool.and_eq_true,decide_eq_true_eq] at h;omega
theorem zhz {r:Int}(h:letter r=true):wordy r=true:=by unfold wordy;rw[h];rfl
/-! gaps -/
def bl (m:List Int):Prop:=∀x∈m,T.blank x=true
/-! items -/
def stops (a:Int) (r:List Int):Prop:=a=123∨a=125∨a=62∨a=60∨a=59∨(a=36/\∃r',r=32::r')
end Go.Proofs.YtamfgmaipajodaaGreatDoor.R
namespace Go.Proofs.YtamfgmaipajodaaGreatDoor
open Go.RowKit
theorem za7 (r:Int)(w:World) :
  Calls Tryz.prog 209 #[.int .i32 r] w fun e w'=>e= .returned (.bool (R.letter r))/\w'=w:=by
 go_enter Tryz.func209,Tryz.ntmps209
 go_wp2
 all_goals go_ret
 all_goals refine⟨L.zak ?_,rfl⟩
 all_goals (unfold R.letter;rw[Bool.eq_iff_iff];simp;try omega)
theorem zds (r:Int)(w:World) :
  Calls Tryz.prog 210 #[.int .i32 r] w fun e w'=>e= .returned (.bool (R.digit r))/\w'=w:=by
 go_enter Tryz.func210,Tryz.ntmps210
 go_wp2
 all_goals go_ret
 all_goals refine⟨L.zak ?_,rfl⟩
 all_goals (unfold R.digit;rw[Bool.eq_iff_iff];simp;try omega)
theorem zu4 (L:List UInt8)(h:128<=M.bt L 0):128<=(M.d0 L).1:=by
 unfold M.d0 Lib.decodeN
 repeat' split
 all_goals simp only
 all_goals omega
theorem zp2 {l:List UInt8}{k:Nat}{b:UInt8}(hx:l[k]?=some b):R.goodFrom k (l.drop k)=(R.good k b&&R.goodFrom (k+1) (l.drop (k+1))):=by
 have hlt:=(qL.1 hx).1;rw[List.drop_eq_getElem_cons hlt];have:l[k]=b:=by rw[List.getElem?_eq_getElem hlt] at hx;exact Option.some.inj hx
 rw[this];rfl
theorem zuu {i:Nat}{b:UInt8}(h:128<=b.toNat):R.good i b=false:=by
 unfold R.good R.letter R.digit;rw[Bool.eq_false_iff];simp;omega
theorem zdl (s:ByteArray)(w:World) :
  Calls Tryz.prog 189 #[.string s] w fun e w'=>e= .returned (.bool (R.named s))/\Below w.heap.size w w':=by
 obtain⟨o,HO⟩:∃o,Hid (R.named s=o):=⟨_,rfl⟩;rw[HO.out];have HLn:Hid (s.data.toList.length=s.size):=by show _=_;simp
 go_enter Tryz.func189,Tryz.ntmps189
 go_wp2
 go_loopw [3] (fun _ wr=>∃pos:Nat,wr.heap[w.heap.size]?=some (.stringIter s pos)/\Hid (Below w.heap.size w wr)/\Hid (R.goodFrom 0 s.data.toList=R.goodFrom pos (s.data.toList.drop pos))) (fun _ wr=>s.size - wr.iterPos w.heap.size)
 case atStart=>exact⟨0,World.iter_heap w s 0,(qR _).alloc qN _,rfl⟩
 case round =>
  obtain⟨pos,hit,HB,HG⟩:=hrel;have hpos0:=iterPos_of hit
  by_cases hp:pos<s.size
  ·have hnx:∀ty,(Instr.next (.pointer (some ⟨w.heap.size,0,none⟩)) true ty).run Tryz.prog wr=_:=fun ty=>Lib.run_next_any_at wr w.heap.size s pos ty hit hp
   have hwd:=M.width_pos s pos hp;have hit2:=Lib.iterAt_heap wr w.heap.size s pos (pos+(Utf8.decode s pos).2) hit;have HB2:Hid (Below w.heap.size w (wr.iterAt w.heap.size s (pos+(Utf8.decode s pos).2))):=Lib.below_iterAt HB.out (k:=w.heap.size) qN s (pos+(Utf8.decode s pos).2);obtain⟨b,hb⟩:∃b,s.data.toList[pos]?=some b:=⟨s.data.toList[pos]'(by have:=HLn.out;omega),by rw[List.getElem?_eq_getElem]⟩;have hb0:M.bt (s.data.toList.drop pos) 0=b.toNat:=by simp[M.bt,hb]
   have hg:=zp2 hb;rw[<- HG.out] at hg;have HH:Hid _:=hg
   have HD:Hid ((b.toNat<128->Utf8.decode s pos=(b.toNat,1))/\(128<=b.toNat->128<=(Utf8.decode s pos).1)):=by
    refine⟨fun h=> ?_,fun h=> ?_⟩
    ·rw[M.zfe];unfold M.d0 Lib.decodeN;rw[hb0,if_pos h]
    ·rw[M.zfe];exact zu4 _ (by rw[hb0];exact h)
   clear hg hb hb0 hit;generalize hW:wr.iterAt w.heap.size s (pos+(Utf8.decode s pos).2)=W1 at hnx hit2 HB2;clear hW;obtain⟨⟨r,wd⟩,hrw⟩:∃x,x=Utf8.decode s pos:=⟨_,rfl⟩;rw[<- hrw] at hnx hwd hit2 HD;clear hrw;simp only at hnx hwd hit2
   by_cases h128:b.toNat<128
   ·have e1:=HD.out.1 h128;simp only[Prod.mk.injEq] at e1;obtain⟨rfl,rfl⟩:=e1;cases hl:R.letter (b.toNat:Int) with
    | true =>
     have HL:Hid (R.letter (b.toNat:Int)=true):=hl;clear hl
     go_wp2_with (go_at_call 209;refine(za7 _ _).mono ?_;rintro e w1 ⟨rfl,rfl⟩;rw[HL.out])
     go_roundw
     case rel=>exact⟨_,hit2,HB2,by show _=_;rw[HH.out];unfold R.good;rw[HL.out];simp⟩
     case measure=>rw[iterPos_of hit2,hpos0];omega
    | false =>
     have HL:Hid (R.letter (b.toNat:Int)=false):=hl;clear hl
     by_cases h0:pos=0
     ·subst h0
      go_wp2_with (go_at_call 209;refine(za7 _ _).mono ?_;rintro e w1 ⟨rfl,rfl⟩;rw[HL.out])
      go_ret;refine⟨L.zak ?_,HB2.out⟩
      rw[<- HO.out];unfold R.named;rw[HH.out];unfold R.good;rw[HL.out];simp
     ·cases hd:R.digit (b.toNat:Int) with
      | true =>
       have HDg:Hid (R.digit (b.toNat:Int)=true):=hd;clear hd
       go_wp2_with (first
        | (go_at_call 209;refine(za7 _ _).mono ?_;rintro e w1 ⟨rfl,rfl⟩;rw[HL.out])
        | (go_at_call 210;refine(zds _ _).mono ?_;rintro e w1 ⟨rfl,rfl⟩;rw[HDg.out]))
       go_roundw
       case rel=>exact⟨_,hit2,HB2,by show _=_;rw[HH.out];unfold R.good;rw[HL.out,HDg.out];simp[h0]⟩
       case measure=>rw[iterPos_of hit2,hpos0];omega
      | false =>
       have HDg:Hid (R.digit (b.toNat:Int)=false):=hd;clear hd
       go_wp2_with (first
        | (go_at_call 209;refine(za7 _ _).mono ?_;rintro e w1 ⟨rfl,rfl⟩;rw[HL.out])
        | (go_at_call 210;refine(zds _ _).mono ?_;rintro e w1 ⟨rfl,rfl⟩;rw[HDg.out]))
       go_ret;refine⟨L.zak ?_,HB2.out⟩
       rw[<- HO.out];unfold R.named;rw[HH.out];unfold R.good;rw[HL.out,HDg.out];simp
   ·have e1:=HD.out.2 (by omega);simp only at e1;have HL:Hid (R.letter (r:Int)=false):=by show _=_;unfold R.letter;rw[Bool.eq_false_iff];simp;omega
    have HDg:Hid (R.digit (r:Int)=false):=by show _=_;unfold R.digit;rw[Bool.eq_false_iff];simp;omega
    have HN:Hid (false=o):=by show _=_;rw[<- HO.out];unfold R.named;rw[HH.out,zuu (by omega)];simp
    by_cases h0:pos=0
    ·subst h0
     go_wp2_with (go_at_call 209;refine(za7 _ _).mono ?_;rintro e w1 ⟨rfl,rfl⟩;rw[HL.out])
     go_ret;exact⟨L.zak HN.out,HB2.out⟩
    ·go_wp2_with (first
      | (go_at_call 209;refine(za7 _ _).mono ?_;rintro e w1 ⟨rfl,rfl⟩;rw[HL.out])
      | (go_at_call 210;refine(zds _ _).mono ?_;rintro e w1 ⟨rfl,rfl⟩;rw[HDg.out]))
     go_ret;exact⟨L.zak HN.out,HB2.out⟩
  ·have hnx:∀ty,(Instr.next (.pointer (some ⟨w.heap.size,0,none⟩)) true ty).run Tryz.prog wr=_:=fun ty=>Lib.run_next_end_at wr w.heap.size s pos ty hit hp
   have HE:Hid (R.goodFrom 0 s.data.toList=true):=by
    show _=_;rw[HG.out,List.drop_eq_nil_of_le (by have:=HLn.out;omega)];rfl
   by_cases h0:s.size=0
   ·have hs:s=⟨#[]⟩:=by
     have:s.data=#[]:=Array.eq_empty_of_size_eq_zero h0;cases s;simp_all
    subst hs;go_wp2;go_ret;refine⟨L.zak ?_,HB.out⟩;rw[<- HO.out];rfl
   ·have hemp:s.toList.isEmpty=false:=by
     rw[<- decide_eq_emptyBytes];exact decide_eq_false (fun h=>h0 (by rw[h];rfl))
    go_wp2;go_ret
    refine⟨L.zak ?_,HB.out⟩;rw[<- HO.out];unfold R.named;rw[HE.out,Bool.eq_iff_iff];simp;omega
theorem zd1 (s:ByteArray)(w:World) :
  Calls Tryz.prog 190 #[.string s] w fun e w'=>e= .returned (.bool (R.passes s))/\w'=w:=by
 unfold R.passes
 go_enter Tryz.func190,Tryz.ntmps190
 go_wp2
 all_goals go_ret
 all_goals refine⟨L.zak ?_,rfl⟩
 all_goals simp_all
end Go.Proofs.YtamfgmaipajodaaGreatDoor
