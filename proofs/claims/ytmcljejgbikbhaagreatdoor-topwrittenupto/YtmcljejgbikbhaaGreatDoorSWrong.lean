/-
 Sets in texts, at the level of bytes; what is read of texts that are put together of what Print writes.
-/
import Derived.Test.YtmcljejgbikbhaaGreatDoorTBack
import Derived.Laws.Strings
import Derived.Test.YtmcljejgbikbhaaGreatDoorRows
import Derived.Test.YtmcljejgbikbhaaGreatDoorSLib
import Derived.Deep.QuietTactic
import Derived.BigQuiet
set_option maxHeartbeats 0
namespace Go.Proofs.YtmcljejgbikbhaaGreatDoor.T
open S (Sp)
def bytesR (l:List Int):List UInt8:=l.flatMap M.enc
theorem za5 (l m:List Int):bytesR (l++m)=bytesR l++bytesR m:=by simp[bytesR]
theorem zgh (r:Int)(l:List Int):bytesR (r::l)=M.enc r++bytesR l:=rfl
def rightL (l:List Int):Prop:=∀r∈l,M.right r=true
theorem zfs {r:Int}(h:M.right r=true):((r.toNat:Nat):Int)=r:=by
 unfold M.right at h;have:=of_decide_eq_true h;omega
theorem zhu {l:List Int}(h:rightL l):M.rn ⟨(bytesR l).toArray⟩=l:=by
 have e:bytesR l=(l.map Int.toNat).flatMap fun r:Nat=>M.enc (r:Int):=by
  unfold bytesR
  induction l with
  | nil=>rfl
  | cons x l ih =>
   simp only[List.flatMap_cons,List.map_cons];rw[ih fun r hr=>h r (List.mem_cons_of_mem _ hr),zfs (h x List.mem_cons_self)]
 have hr:∀r∈l.map Int.toNat,M.right ((r:Nat):Int)=true:=fun r hr=>by
  obtain⟨x,hx,rfl⟩:=List.mem_map.1 hr;rw[zfs (h x hx)];exact h x hx
 have h1:=(M.zuf _ hr).1;rw[M.zv1];show (M.ru (bytesR l)).map (fun x=>((x.1:Nat):Int))=l;rw[e];have h2:=congrArg (List.map fun r:Nat=>(r:Int)) h1;rw[List.map_map] at h2;rw[show ((fun r:Nat=>(r:Int))∘fun x:Nat×Nat=>x.1)=(fun x:Nat×Nat=>((x.1:Nat):Int)) from rfl] at h2;rw[h2,List.map_map];clear h1 h2 hr e
 induction l with
 | nil=>rfl
 | cons x l ih =>
  rw[List.map_cons,ih fun r hr=>h r (List.mem_cons_of_mem _ hr)];congr 1;exact zfs (h x List.mem_cons_self)
theorem zjl {b:UInt8}(h:b.toNat<128):M.enc (b.toNat:Int)= [b]:=by
 rw[M.zde b.toNat (by unfold M.right;simp;omega),if_pos h];simp
theorem zdi {r:Int}(h0:0<=r)(h:r<128):M.right r=true:=by unfold M.right;simp;omega
theorem zjn {d:Nat}(h:d<16):(dig d).toNat<128:=by
 have:∀d:Fin 16,(dig d.1).toNat<128:=by decide
 exact this ⟨d,h⟩
theorem zf6 (n:Nat):∀b∈hexL n,b.toNat<128:=by
 induction n using Nat.strongRecOn with
 | ind n ih =>
  intro b hb
  by_cases h:n<16
  ·rw[zb4 h,List.mem_singleton] at hb;subst hb;exact zjn h
  ·rw[zeb h,List.mem_append,List.mem_singleton] at hb;rcases hb with hb | hb
   ·exact ih _ (by omega) b hb
   ·subst hb;exact zjn (by omega)
theorem zog (n:Nat):bytesR (hexR n)=hexL n:=by
 unfold hexR;have h:=zf6 n;generalize hexL n=l at h
 induction l with
 | nil=>rfl
 | cons b l ih =>
  rw[List.map_cons,zgh,zjl (h b List.mem_cons_self),ih fun c hc=>h c (List.mem_cons_of_mem _ hc)];rfl
theorem zpv (n:Nat):rightL (hexR n):=fun r hr=>by
 unfold hexR at hr;obtain⟨b,hb,rfl⟩:=List.mem_map.1 hr;exact zdi (by omega) (by have:=zf6 n b hb;omega)
theorem zbd {l m:List Int}(h:rightL l)(h':rightL m):rightL (l++m):=fun r hr=>by
 rcases List.mem_append.1 hr with hr | hr
 ·exact h r hr
 ·exact h' r hr
theorem ziy {r:Int}(h:plain r=true):M.right r=true:=by
 unfold plain alnum at h;simp only[Bool.or_eq_true,Bool.and_eq_true,decide_eq_true_eq] at h;rcases h with h | h
 ·exact zdi (by omega) (by omega)
 ·exact h.1
theorem zcf (r:Int):bytesR (quoR r)=quo r/\rightL (quoR r):=by
 unfold quoR quo
 by_cases h:plain r=true
 ·rw[if_pos h,if_pos h];exact⟨by simp[bytesR],fun x hx=>by rw[List.mem_singleton] at hx;subst hx;exact ziy h⟩
 ·rw[if_neg h,if_neg h,za5,za5,zog];refine⟨?_,zbd (zbd (by unfold rightL;decide) (zpv _)) (by unfold rightL;decide)⟩;congr 1
theorem zi1 (x:Sp):bytesR (oneR x)=one x/\rightL (oneR x):=by
 unfold oneR one;rw[za5,(zcf x.1).1]
 by_cases h:x.1<x.2
 ·rw[if_pos h,if_pos h,za5,(zcf x.2).1];exact⟨by congr 1,zbd (zcf x.1).2 (zbd (by unfold rightL;decide) (zcf x.2).2)⟩
 ·rw[if_neg h,if_neg h];exact⟨rfl,zbd (zcf x.1).2 (fun r hr=>by cases hr)⟩
theorem zf3 (s:List Sp):bytesR (innerR s)=inner s/\rightL (innerR s):=by
 induction s with
 | nil=>exact⟨rfl,fun r hr=>by cases hr⟩
 | cons x s ih =>
  have e1:innerR (x::s)=oneR x++innerR s:=rfl;have e2:inner (x::s)=one x++inner s:=rfl;rw[e1,e2,za5,(zi1 x).1,ih.1];exact⟨rfl,zbd (zi1 x).2 ih.2⟩
theorem zp4 (s:List Sp):bytesR (prtR s)=prt s/\rightL (prtR s):=by
 unfold prtR prt;rw[za5,za5,(zf3 s).1];exact⟨by congr 1,zbd (zbd (by unfold rightL;decide) (zf3 s).2) (by unfold rightL;decide)⟩
/-! what is read of texts put together -/
theorem zcg (s:List Sp):∃a t,prtR s=91::a::t/\a≠58/\a≠94:=by
 obtain⟨b,u,hb,hfb⟩:=zdo (s:=s) (r:= []);have hn:=zh5 hfb;exact⟨b,u,by show 91::(innerR s++ [93])=_;rw[hb],hn.2.2.1,hn.2.1⟩
end Go.Proofs.YtmcljejgbikbhaaGreatDoor.T
namespace Go.Proofs.YtmcljejgbikbhaaGreatDoor.R
open S (Sp)
open T (Out see skipW cut ze9 zao zbz zai zal zc1 zb2 zce)
/-! what is left of things by their kinds -/
def bareI (x:Item):Item:=if x.kind=1 then runeI x.rune else if x.kind=2 then setI x.set else if x.kind=3 then varI x.name else ⟨x.kind,0,[],⟨#[]⟩⟩
def bareS (s:Side):Side:=⟨s.start,s.fin,s.before.map bareI,s.source.map bareI,s.after.map bareI,s.cursor⟩
def bareP (p:Part):Part :=
 ⟨p.kind,if p.kind=1∨p.kind=4 then p.name else ⟨#[]⟩,if p.kind=1∨p.kind=3 then p.set else [],if p.kind=2 then p.dir else 0,if p.kind=2 then bareS p.left else noSide,if p.kind=2 then bareS p.right else noSide⟩
/-! the runes of what is written -/
def nameR (n:ByteArray):List Int:=n.data.toList.map fun b=>(b.toNat:Int)
def itemR (x:Item):List Int :=
 if x.kind=2 then T.prtR x.set
 else if x.kind=3 then 36::nameR x.name
 else T.quoR x.rune
def barR:List Int:= [124,32]
def itemsR:List Item->Int->List Int
 | [],c=>if c=0 then barR else []
 | x::l,c=>(if c=0 then barR else [])++(itemR x++ [32])++itemsR l (c - 1)
def sideR (s:Side):List Int :=
 (if s.start=true then [94,32] else [])++itemsR s.before (-1)++(if s.start=true∨0<s.before.length then [123,32] else []) ++
  itemsR s.source s.cursor++(if s.fin=true∨0<s.after.length then [125,32] else [])++itemsR s.after (-1)++(if s.fin=true then [36,32] else [])
def arrowR (d:Int):List Int:=if d=1 then [62] else if d=2 then [60] else [60,62]
def wordsR (p:Part):List Int :=
 if p.kind=1 then (36::nameR p.name)++ [32]++ [61,32]++(T.prtR p.set++ [32])
 else if p.kind=3 then [58,58,32]++(T.prtR p.set++ [32])
 else if p.kind=4 then [58,58,32]++(nameR p.name++ [32])
 else if p.kind=2 then sideR p.left++(arrowR p.dir++ [32])++sideR p.right
 else []
def partR (p:Part):List Int:=wordsR p++ [59,10]
def printR (l:List Part):List Int:=l.flatMap partR
theorem zbp {x:Item}(h:itemE x=0):(x.kind=1/\M.right x.rune=true)∨(x.kind=2/\S.wrongE x.set=0)∨(x.kind=3/\named x.name=true):=by
 unfold itemE at h
 by_cases h1:x.kind=1
 ·rw[if_pos h1] at h
  by_cases h2:M.right x.rune=true
  ·exact .inl ⟨h1,h2⟩
  ·rw[if_neg h2] at h;cases h
 ·rw[if_neg h1] at h
  by_cases h2:x.kind=2
  ·rw[if_pos h2] at h;exact .inr (.inl ⟨h2,h⟩)
  ·rw[if_neg h2] at h
   by_cases h3:x.kind=3
   ·rw[if_pos h3] at h
    by_cases h4:named x.name=true
    ·exact .inr (.inr ⟨h3,h4⟩)
    ·rw[if_neg h4] at h;cases h
   ·rw[if_neg h3] at h;cases h
theorem zbn {p:Part}(h:partE p=0):(p.kind=1/\named p.name=true/\S.wrongE p.set=0)∨(p.kind=3/\S.wrongE p.set=0)∨(p.kind=4/\passes p.name=true)∨(p.kind=2/\ruleE p=0):=by
 unfold partE at h
 by_cases h1:p.kind=1
 ·rw[if_pos h1] at h
  by_cases h2:named p.name=true
  ·rw[if_pos h2] at h;exact .inl ⟨h1,h2,h⟩
  ·rw[if_neg h2] at h;cases h
 ·rw[if_neg h1] at h
  by_cases h2:p.kind=3
  ·rw[if_pos h2] at h;exact .inr (.inl ⟨h2,h⟩)
  ·rw[if_neg h2] at h
   by_cases h3:p.kind=4
   ·rw[if_pos h3] at h
    by_cases h4:passes p.name=true
    ·exact .inr (.inr (.inl ⟨h3,h4⟩))
    ·rw[if_neg h4] at h;cases h
   ·rw[if_neg h3] at h
    by_cases h4:p.kind=2
    ·rw[if_pos h4] at h;exact .inr (.inr (.inr ⟨h4,h⟩))
    ·rw[if_neg h4] at h;cases h
/-! names -/
theorem zjh:∀ {l:List UInt8} {i:Nat},goodFrom i l=true->∀b∈l,wordy (b.toNat:Int)=true:=by
 intro l
 induction l with
 | nil=>intro i _ b hb;cases hb
 | cons a l ih =>
  intro i h b hb;rw[goodFrom,Bool.and_eq_true] at h;rcases List.mem_cons.1 hb with rfl | hb
  ·have:=h.1;unfold good at this;unfold wordy;simp only[Bool.or_eq_true,Bool.and_eq_true] at this ⊢;rcases this with h1 | h1
   ·exact .inl h1
   ·exact .inr h1.2
  ·exact ih h.2 b hb
theorem zfc {r:Int}(h:wordy r=true):48<=r/\r<=122:=by
 unfold wordy letter digit at h;simp only[Bool.or_eq_true,Bool.and_eq_true,decide_eq_true_eq] at h;omega
theorem zdl {n:ByteArray}(h:named n=true):(∀r∈nameR n,wordy r=true)/\∃a t,nameR n=a::t/\letter a=true:=by
 unfold named at h;simp only[Bool.and_eq_true,decide_eq_true_eq] at h;obtain⟨⟨h1,h2⟩,_⟩:=h;have hall:=zjh h1;refine⟨fun r hr=> ?_,?_⟩
 ·obtain⟨b,hb,rfl⟩:=List.mem_map.1 hr;exact hall b hb
 ·unfold nameR;cases hc:n.data.toList with
  | nil =>
   have h0:n.data.toList.length=n.size:=by simp
   rw[hc] at h0;have h0':(0:Nat)=n.size:=h0;omega
  | cons a t =>
   rw[hc,goodFrom,Bool.and_eq_true] at h1;refine⟨_,_,rfl,?_⟩;have:=h1.1;unfold good at this;simpa using this
theorem zgg (n:ByteArray):bytes (nameR n)=n:=by
 unfold bytes nameR;rw[List.map_map]
 have:((fun r:Int=>UInt8.ofNat r.toNat)∘fun b:UInt8=>(b.toNat:Int))=id:=by
  funext b;simp
 rw[this,List.map_id]
theorem ze6 {r:Int}(h:letter r=true):wordy r=true:=by unfold wordy;rw[h];rfl
theorem nowordy32:wordy 32=false:=by decide
theorem nowordyEnd:wordy (-1)=false:=by decide
theorem zo0 {l rest m:List Int}{p:Nat}(h:l.drop p=m++32::rest)(hm:∀r∈m,wordy r=true)(hf:∃a t,m=a::t/\letter a=true):wordEnd l p=p+m.length/\wordAt l p=bytes m:=by
 obtain⟨a,t,rfl,ha⟩:=hf;have h1:=zai (a:=a) (r:=t++32::rest) (by simpa using h);have hlt:=zc1 (a:=a) (r:=t++32::rest) (by simpa using h);have h2:=zai (zao h)
 have e:wordEnd l p=p+(a::t).length:=by
  unfold wordEnd;rw[h1,if_pos ha];exact zb2 h (by omega) hm nowordyEnd (by rw[h2];exact nowordy32)
 refine⟨e,?_⟩;unfold wordAt cut;rw[e,h,Nat.add_sub_cancel_left,List.take_left]
theorem ze5 {n:ByteArray}(h:passes n=true):(∀r∈nameR n,wordy r=true)/\∃a t,nameR n=a::t/\letter a=true:=by
 unfold passes at h;have h:=of_decide_eq_true h
 have e:nameR n=n.toList.map fun b=>(b.toNat:Int):=by
  unfold nameR;rw[ByteArray.toList_eq]
 rw[e];rcases h with h | h | h | h <;> rw[h] <;> exact⟨by decide,_,_,rfl,by decide⟩
/-! gaps -/
def bl (m:List Int):Prop:=∀x∈m,T.blank x=true
theorem zhe:bl []:=fun x hx=>by cases hx
theorem bl32:bl [32]:=fun x hx=>by rw[List.mem_singleton] at hx;subst hx;decide
theorem bl10:bl [10]:=fun x hx=>by rw[List.mem_singleton] at hx;subst hx;decide
theorem zbm {l m r:List Int}{p:Nat}{a:Int}(h:l.drop p=m++a::r)(hm:bl m)(hb:T.blank a=false)(h35:a≠35):gap l p=p+m.length:=by
 have hp:p<=l.length:=by
  apply Classical.byContradiction;intro hn;rw[List.drop_eq_nil_of_le (by omega)] at h;cases m <;> cases h
 have hs:=zai (zao h);have hk:=zb2 h hp hm (by decide) (by rw[hs];exact hb);unfold gap gapN;rw[hk,hs,if_neg h35]
theorem zvk {l m:List Int}{p:Nat}(h:l.drop p=m)(hp:p<=l.length)(hm:bl m):gap l p=l.length:=by
 have h':l.drop p=m++ []:=by rw[h,List.append_nil]
 have hl:=zbz h' hp;have hse:see l (p+m.length)= -1:=T.zc0 (by simp at hl;omega);have hk:=zb2 h' hp hm (by decide) (by rw[hse];decide);unfold gap gapN;rw[hk,hse,if_neg (by decide)];simp at hl;omega
/-! items -/
theorem zke {r:Int}(h:M.right r=true):0<=r/\r<=1114111:=by
 unfold M.right at h;have:=of_decide_eq_true h;omega
theorem zck {x:Item}(h:itemE x=0):∃a t,itemR x=a::t/\(a=92∨T.plain a=true∨a=91∨a=36):=by
 rcases zbp h with ⟨h1,_⟩|⟨h1,_⟩|⟨h1,_⟩
 ·obtain⟨a,t,ha,hf⟩:=T.zc3 (r:=x.rune);refine⟨a,t,by unfold itemR;rw[if_neg (by omega),if_neg (by omega)];exact ha,?_⟩;rcases hf with hf | hf
  ·exact .inl hf
  ·exact .inr (.inl hf)
 ·obtain⟨a,t,ha,_⟩:=T.zcg x.set;exact⟨91,a::t,by unfold itemR;rw[if_pos h1];exact ha,by simp⟩
 ·exact⟨36,nameR x.name,by unfold itemR;rw[if_neg (by omega),if_pos h1],by simp⟩
theorem zea {a:Int}(h:a=92∨T.plain a=true∨a=91∨a=36):a≠124/\a≠35/\a≠61/\a≠58/\a≠94/\a≠123/\a≠125/\T.blank a=false:=by
 have hb:T.blank a=false↔¬(a=32∨a=9∨a=10):=by simp[T.blank,T.blanks]
 rw[hb];rcases h with rfl | h | rfl | rfl
 ·decide
 ·have:=T.zba h;omega
 ·decide
 ·decide
theorem zdh {l rest:List Int}{p:Nat}{n:ByteArray}(h:l.drop p=36::nameR n++32::rest)(hn:named n=true):varNext l p=true/\varAt l p= .ok n (p+1+(nameR n).length):=by
 obtain⟨hall,hf⟩:=zdl hn;have h36:=zai (a:=36) (r:=nameR n++32::rest) (by simpa using h);have t:=zal (a:=36) (r:=nameR n++32::rest) (by simpa using h);obtain⟨e1,e2⟩:=zo0 t hall hf;rw[zgg] at e2;obtain⟨a,u,ha,hl⟩:=hf;have h1:=zai (a:=a) (r:=u++32::rest) (by rw[t,ha];rfl);refine⟨?_,?_⟩
 ·unfold varNext;rw[h36,h1,hl];rfl
 ·unfold varAt;rw[e2,if_pos hn,e1]
theorem zqw {l rest:List Int}{p:Nat}{x:Item}(h:l.drop p=itemR x++32::rest)(hx:itemE x=0):item l p= .ok (some [bareI x]) (p+(itemR x).length):=by
 rcases zbp hx with ⟨h1,h2⟩|⟨h1,h2⟩|⟨h1,h2⟩
 ·have e:itemR x=T.quoR x.rune:=by unfold itemR;rw[if_neg (by omega),if_neg (by omega)]
  rw[e] at h ⊢;obtain⟨b0,b1⟩:=zke h2;have hc:=T.zib h b0 b1;obtain⟨a,t,ha,hf⟩:=T.zc3 (r:=x.rune);have hs:=zai (a:=a) (r:=t++32::rest) (by rw[h,ha];rfl)
  have hn:a≠91/\a≠36/\a≠39/\(a=92∨T.ordy a=true):=by
   rcases hf with rfl | hf
   ·decide
   ·have:=T.zba hf;exact⟨by omega,by omega,by omega,.inr (T.zg0 hf)⟩
  have hv:varNext l p=false:=by unfold varNext;rw[hs,decide_eq_false hn.2.1];rfl
  unfold item;rw[hs,if_neg hn.1,hv,if_neg (by simp),if_neg hn.2.2.1,if_pos hn.2.2.2,hc];simp only;rw[if_pos h2];unfold bareI;rw[if_pos h1]
 ·have e:itemR x=T.prtR x.set:=by unfold itemR;rw[if_pos h1]
  rw[e] at h ⊢;obtain⟨hl,hn⟩:=S.zax.1 h2;obtain⟨a,t,ha,_⟩:=T.zcg x.set;have hs:=zai (a:=91) (r:=a::t++32::rest) (by rw[h,ha];rfl);have hlt:=zc1 (a:=91) (r:=a::t++32::rest) (by rw[h,ha];rfl);have hlong:=T.zlx x.set;have hlen:=zbz h (by omega);have hsz:(T.prtR x.set).length=(T.innerR x.set).length+2:=by simp[T.prtR]
  have hset:=T.zpn (n:=19) h hn hl (by omega);unfold item;rw[hs,if_pos rfl,hset];unfold bareI;rw[if_neg (by omega),if_pos h1]
 ·have e:itemR x=36::nameR x.name:=by unfold itemR;rw[if_neg (by omega),if_pos h1]
  rw[e] at h ⊢;obtain⟨hv,ha⟩:=zdh h h2;have h36:=zai (a:=36) (r:=nameR x.name++32::rest) (by simpa using h);unfold item;rw[h36,if_neg (by decide),hv,if_pos rfl,ha];simp only;unfold bareI;rw[if_neg (by omega),if_neg (by omega),if_pos h1,List.length_cons];congr 1;omega
def stops (a:Int) (r:List Int):Prop:=a=123∨a=125∨a=62∨a=60∨a=59∨(a=36/\∃r',r=32::r')
theorem zd9 {l r:List Int}{p:Nat}{a:Int}(h:l.drop p=a::r)(hs:stops a r):item l p= .ok none p/\a≠124/\a≠35/\a≠61/\a≠58/\a≠94/\T.blank a=false:=by
 have h0:=zai h
 have hv:varNext l p=false:=by
  unfold varNext;rw[h0];rcases hs with rfl | rfl | rfl | rfl | rfl | ⟨rfl,r',rfl⟩
  ·rfl
  ·rfl
  ·rfl
  ·rfl
  ·rfl
  ·rw[zai (zal h)];rfl
 have hn:a≠91/\a≠39/\¬(a=92∨T.ordy a=true)/\a≠124/\a≠35/\a≠61/\a≠58/\a≠94/\T.blank a=false:=by
  rcases hs with rfl | rfl | rfl | rfl | rfl | ⟨rfl,_⟩ <;> decide
 refine⟨?_,hn.2.2.2⟩;unfold item;rw[h0,if_neg hn.1,hv,if_neg (by simp),if_neg hn.2.1,if_neg hn.2.2.1]
theorem zcx {ys:List Item}{k:Int}{a:Int}{r:List Int}(hy:∀x∈ys,itemE x=0)(hs:stops a r):∃b t,itemsR ys k++a::r=b::t/\b≠35/\b≠61/\b≠58/\b≠94/\T.blank b=false:=by
 have ha:=zd9 (l:=a::r) (p:=0) (a:=a) (r:=r) rfl hs;cases ys with
 | nil =>
  rw[itemsR]
  by_cases hk:k=0
  ·rw[if_pos hk];exact⟨124,_,rfl,by decide⟩
  ·rw[if_neg hk];exact⟨a,r,rfl,ha.2.2⟩
 | cons x ys =>
  rw[itemsR]
  by_cases hk:k=0
  ·rw[if_pos hk];exact⟨124,_,rfl,by decide⟩
  ·obtain⟨b,t,hb,hf⟩:=zck (hy x (by simp));have hn:=zea hf;rw[if_neg hk,hb];exact⟨b,_,rfl,hn.2.1,hn.2.2.1,hn.2.2.2.1,hn.2.2.2.2.1,hn.2.2.2.2.2.2.2⟩
theorem zte {l r:List Int}{a:Int}(hs:stops a r):∀(ys xs:List Item) (k c:Int) (f p:Nat) (bs:List Int),l.drop p=bs++(itemsR ys k++a::r)->bl bs->(∀x∈ys,itemE x=0)->xs.length+ys.length<=20->k<=ys.length->(0<=k->c<0)->2*ys.length+2<=f ->
  itemsN f l xs c p= .ok (xs++ys.map bareI,if 0<=k then xs.length+k else c) (p+bs.length+(itemsR ys k).length):=by
 intro ys
 induction ys with
 | nil =>
  intro xs k c f p bs h hb _ hl hk hc hf;obtain⟨f,rfl⟩:∃g,f=g+2:=⟨f - 2,by simp at hf;omega⟩;simp at hk
  by_cases hk0:k=0
  ·subst hk0;rw[itemsR,if_pos rfl] at h ⊢;have h1:l.drop p=bs++124::(32::a::r):=by rw[h];rfl
   have g1:=zbm h1 hb (by decide) (by decide);have n1:=zao h1;have s1:=zai n1;have t1:=zal n1;have hst:=fun q (hq:l.drop q=a::r)=>zd9 hq hs
   have hq:=hst (p+bs.length+1+1) (zal t1);have g2:=zbm (m:= [32]) (l:=l) (p:=p+bs.length+1) (by rw[t1];rfl) bl32 hq.2.2.2.2.2.2 hq.2.2.1;have s2:=zai (zal t1);rw[itemsN,g1,s1,if_pos rfl,if_neg (by have:=hc (by omega);omega),itemsN,g2];simp only[List.length_singleton];rw[s2,if_neg hq.2.1,hq.1];simp[barR]
  ·rw[itemsR,if_neg hk0] at h ⊢;have h1:l.drop p=bs++a::r:=by rw[h];rfl
   have n1:=zao h1;have hq:=zd9 n1 hs;have g1:=zbm h1 hb hq.2.2.2.2.2.2 hq.2.2.1;rw[itemsN,g1,zai n1,if_neg hq.2.1,hq.1];simp;omega
 | cons x ys ih =>
  intro xs k c f p bs h hb hy hl hk hc hf;obtain⟨f,rfl⟩:∃g,f=g+2:=⟨f - 2,by simp at hf;omega⟩;simp only[List.length_cons] at hl hk hf;obtain⟨b,t,hbt,hfi⟩:=zck (hy x (by simp));have hn:=zea hfi;have hx:=hy x (by simp)
  -- the item itself, and what follows
  have step:∀(f p:Nat) (bs:List Int) (k c:Int),l.drop p=bs++(itemR x++32::(itemsR ys k++a::r))->bl bs->k<=ys.length->(0<=k->c<0)->2*ys.length+2<=f ->
    itemsN (f+1) l xs c p= .ok (xs++(x::ys).map bareI,if 0<=k then xs.length+1+k else c) (p+bs.length+(itemR x).length+1+(itemsR ys k).length):=by
   intro f p bs k c h hb hk hc hf;have n1:=zao h;have hd:l.drop (p+bs.length)=b::(t++32::(itemsR ys k++a::r)):=by rw[n1,hbt];rfl
   have g1:=zbm (a:=b) (r:=t++32::(itemsR ys k++a::r)) (m:=bs) (l:=l) (p:=p) (by rw[h,hbt];rfl) hb hn.2.2.2.2.2.2.2 hn.2.1;have hi:=zqw n1 hx;have hnx:=zao n1;have:=ih (xs++ [bareI x]) k c f (p+bs.length+(itemR x).length) [32] (by rw[hnx];rfl) bl32 (fun y hy'=>hy y (List.mem_cons_of_mem _ hy')) (by simp;omega) hk hc (by omega);rw[itemsN,g1,zai hd,if_neg hn.1,hi];simp only;rw[if_neg (by simp;omega),this];simp
  by_cases hk0:k=0
  ·subst hk0;rw[itemsR,if_pos rfl] at h ⊢;have h1:l.drop p=bs++124::(32::(itemR x++32::(itemsR ys (0 - 1)++a::r))):=by rw[h];simp[barR]
   have g1:=zbm h1 hb (by decide) (by decide);have n1:=zao h1;have s1:=zai n1;have t1:=zal n1;have hst:=step f (p+bs.length+1) [32] (0 - 1) xs.length (by rw[t1];rfl) bl32 (by omega) (by omega) (by omega);rw[itemsN,g1,s1,if_pos rfl,if_neg (by have:=hc (by omega);omega),hst];rw[if_neg (by omega),if_pos (by omega)];simp[barR];omega
  ·rw[itemsR,if_neg hk0] at h ⊢;have h1:l.drop p=bs++(itemR x++32::(itemsR ys (k - 1)++a::r)):=by rw[h];simp
   have hst:=step (f+1) p bs (k - 1) c h1 hb (by omega) (fun h0=>hc (by omega)) (by omega);rw[hst]
   by_cases hk1:0<=k
   ·rw[if_pos (by omega),if_pos hk1];simp;refine⟨by omega,by omega⟩
   ·rw[if_neg (by omega),if_neg hk1];simp
    try omega
theorem zn2:∀(ys:List Item) (k:Int),(∀x∈ys,itemE x=0)->2*ys.length<=(itemsR ys k).length:=by
 intro ys
 induction ys with
 | nil=>intro k _;simp
 | cons x ys ih =>
  intro k h;have:=ih (k - 1) fun y hy=>h y (List.mem_cons_of_mem _ hy)
  obtain⟨a,t,ha,_⟩:=zck (h x (by simp));rw[itemsR,ha];simp only[List.length_append,List.length_cons,List.length_nil];omega
theorem zci {l r bs:List Int}{a:Int}(hs:stops a r){ys:List Item}{k:Int}{p:Nat}(h:l.drop p=bs++(itemsR ys k++a::r))(hb:bl bs)(hy:itemsE ys=0)(hk1: -1<=k)(hk:k<=ys.length) :
  ∃q,items l p= .ok (ys.map bareI,k) q/\l.drop q=a::r:=by
 obtain⟨h20,hall⟩:=zar.1 hy
 have hp:p<l.length:=by
  apply Classical.byContradiction;intro hn;rw[List.drop_eq_nil_of_le (by omega)] at h;have:=congrArg List.length h;simp at this
 have hlen:=zbz h (by omega);have hil:=zn2 ys k hall;simp only[List.length_append,List.length_cons] at hlen;have:=zte hs ys [] k (-1) (l.length+2) p bs h hb hall (by simpa using h20) hk (by omega) (by omega);refine⟨_,?_,zao (zao h)⟩;unfold items;rw[this];simp;intro h0;omega
end Go.Proofs.YtmcljejgbikbhaaGreatDoor.R
namespace Go.Proofs.YtmcljejgbikbhaaGreatDoor
open Go.RowKit
theorem zbf (r:Int)(w:World) :
  Calls Tryz.prog 175 #[.int .i32 r] w fun e w'=>e= .returned (.bool (R.letter r))/\w'=w:=by
 go_enter Tryz.func175,Tryz.ntmps175
 go_wp2
 all_goals go_ret
 all_goals refine⟨L.zam ?_,rfl⟩
 all_goals (unfold R.letter;rw[Bool.eq_iff_iff];simp;try omega)
theorem zee (r:Int)(w:World) :
  Calls Tryz.prog 176 #[.int .i32 r] w fun e w'=>e= .returned (.bool (R.digit r))/\w'=w:=by
 go_enter Tryz.func176,Tryz.ntmps176
 go_wp2
 all_goals go_ret
 all_goals refine⟨L.zam ?_,rfl⟩
 all_goals (unfold R.digit;rw[Bool.eq_iff_iff];simp;try omega)
theorem zvp (L:List UInt8)(h:128<=M.bt L 0):128<=(M.d0 L).1:=by
 unfold M.d0 Lib.decodeN
 repeat' split
 all_goals simp only
 all_goals omega
theorem zq4 {l:List UInt8}{k:Nat}{b:UInt8}(hx:l[k]?=some b):R.goodFrom k (l.drop k)=(R.good k b&&R.goodFrom (k+1) (l.drop (k+1))):=by
 have hlt:=(qL.1 hx).1;rw[List.drop_eq_getElem_cons hlt];have:l[k]=b:=by rw[List.getElem?_eq_getElem hlt] at hx;exact Option.some.inj hx
 rw[this];rfl
theorem zvj {i:Nat}{b:UInt8}(h:128<=b.toNat):R.good i b=false:=by
 unfold R.good R.letter R.digit;rw[Bool.eq_false_iff];simp;omega
theorem zd6 (s:ByteArray)(w:World) :
  Calls Tryz.prog 124 #[.string s] w fun e w'=>e= .returned (.bool (R.named s))/\Below w.heap.size w w':=by
 obtain⟨o,HO⟩:∃o,Hid (R.named s=o):=⟨_,rfl⟩;rw[HO.out];have HLn:Hid (s.data.toList.length=s.size):=by show _=_;simp
 go_enter Tryz.func124,Tryz.ntmps124
 go_wp2
 go_loopw [3] (fun _ wr=>∃pos:Nat,wr.heap[w.heap.size]?=some (.stringIter s pos)/\Hid (Below w.heap.size w wr)/\Hid (R.goodFrom 0 s.data.toList=R.goodFrom pos (s.data.toList.drop pos))) (fun _ wr=>s.size - wr.iterPos w.heap.size)
 case atStart=>exact⟨0,World.iter_heap w s 0,(qR _).alloc qN _,rfl⟩
 case round =>
  obtain⟨pos,hit,HB,HG⟩:=hrel;have hpos0:=iterPos_of hit
  by_cases hp:pos<s.size
  ·have hnx:∀ty,(Instr.next (.pointer (some ⟨w.heap.size,0,none⟩)) true ty).run Tryz.prog wr=_:=fun ty=>Lib.run_next_any_at wr w.heap.size s pos ty hit hp
   have hwd:=M.width_pos s pos hp;have hit2:=Lib.iterAt_heap wr w.heap.size s pos (pos+(Utf8.decode s pos).2) hit;have HB2:Hid (Below w.heap.size w (wr.iterAt w.heap.size s (pos+(Utf8.decode s pos).2))):=Lib.below_iterAt HB.out (k:=w.heap.size) qN s (pos+(Utf8.decode s pos).2);obtain⟨b,hb⟩:∃b,s.data.toList[pos]?=some b:=⟨s.data.toList[pos]'(by have:=HLn.out;omega),by rw[List.getElem?_eq_getElem]⟩;have hb0:M.bt (s.data.toList.drop pos) 0=b.toNat:=by simp[M.bt,hb]
   have hg:=zq4 hb;rw[<- HG.out] at hg;have HH:Hid _:=hg
   have HD:Hid ((b.toNat<128->Utf8.decode s pos=(b.toNat,1))/\(128<=b.toNat->128<=(Utf8.decode s pos).1)):=by
    refine⟨fun h=> ?_,fun h=> ?_⟩
    ·rw[M.zge];unfold M.d0 Lib.decodeN;rw[hb0,if_pos h]
    ·rw[M.zge];exact zvp _ (by rw[hb0];exact h)
   clear hg hb hb0 hit;generalize hW:wr.iterAt w.heap.size s (pos+(Utf8.decode s pos).2)=W1 at hnx hit2 HB2;clear hW;obtain⟨⟨r,wd⟩,hrw⟩:∃x,x=Utf8.decode s pos:=⟨_,rfl⟩;rw[<- hrw] at hnx hwd hit2 HD;clear hrw;simp only at hnx hwd hit2
   by_cases h128:b.toNat<128
   ·have e1:=HD.out.1 h128;simp only[Prod.mk.injEq] at e1;obtain⟨rfl,rfl⟩:=e1;cases hl:R.letter (b.toNat:Int) with
    | true =>
     have HL:Hid (R.letter (b.toNat:Int)=true):=hl;clear hl
     go_wp2_with (go_at_call 175;refine(zbf _ _).mono ?_;rintro e w1 ⟨rfl,rfl⟩;rw[HL.out])
     go_roundw
     case rel=>exact⟨_,hit2,HB2,by show _=_;rw[HH.out];unfold R.good;rw[HL.out];simp⟩
     case measure=>rw[iterPos_of hit2,hpos0];omega
    | false =>
     have HL:Hid (R.letter (b.toNat:Int)=false):=hl;clear hl
     by_cases h0:pos=0
     ·subst h0
      go_wp2_with (go_at_call 175;refine(zbf _ _).mono ?_;rintro e w1 ⟨rfl,rfl⟩;rw[HL.out])
      go_ret;refine⟨L.zam ?_,HB2.out⟩
      rw[<- HO.out];unfold R.named;rw[HH.out];unfold R.good;rw[HL.out];simp
     ·cases hd:R.digit (b.toNat:Int) with
      | true =>
       have HDg:Hid (R.digit (b.toNat:Int)=true):=hd;clear hd
       go_wp2_with (first
        | (go_at_call 175;refine(zbf _ _).mono ?_;rintro e w1 ⟨rfl,rfl⟩;rw[HL.out])
        | (go_at_call 176;refine(zee _ _).mono ?_;rintro e w1 ⟨rfl,rfl⟩;rw[HDg.out]))
       go_roundw
       case rel=>exact⟨_,hit2,HB2,by show _=_;rw[HH.out];unfold R.good;rw[HL.out,HDg.out];simp[h0]⟩
       case measure=>rw[iterPos_of hit2,hpos0];omega
      | false =>
       have HDg:Hid (R.digit (b.toNat:Int)=false):=hd;clear hd
       go_wp2_with (first
        | (go_at_call 175;refine(zbf _ _).mono ?_;rintro e w1 ⟨rfl,rfl⟩;rw[HL.out])
        | (go_at_call 176;refine(zee _ _).mono ?_;rintro e w1 ⟨rfl,rfl⟩;rw[HDg.out]))
       go_ret;refine⟨L.zam ?_,HB2.out⟩
       rw[<- HO.out];unfold R.named;rw[HH.out];unfold R.good;rw[HL.out,HDg.out];simp
   ·have e1:=HD.out.2 (by omega);simp only at e1;have HL:Hid (R.letter (r:Int)=false):=by show _=_;unfold R.letter;rw[Bool.eq_false_iff];simp;omega
    have HDg:Hid (R.digit (r:Int)=false):=by show _=_;unfold R.digit;rw[Bool.eq_false_iff];simp;omega
    have HN:Hid (false=o):=by show _=_;rw[<- HO.out];unfold R.named;rw[HH.out,zvj (by omega)];simp
    by_cases h0:pos=0
    ·subst h0
     go_wp2_with (go_at_call 175;refine(zbf _ _).mono ?_;rintro e w1 ⟨rfl,rfl⟩;rw[HL.out])
     go_ret;exact⟨L.zam HN.out,HB2.out⟩
    ·go_wp2_with (first
      | (go_at_call 175;refine(zbf _ _).mono ?_;rintro e w1 ⟨rfl,rfl⟩;rw[HL.out])
      | (go_at_call 176;refine(zee _ _).mono ?_;rintro e w1 ⟨rfl,rfl⟩;rw[HDg.out]))
     go_ret;exact⟨L.zam HN.out,HB2.out⟩
  ·have hnx:∀ty,(Instr.next (.pointer (some ⟨w.heap.size,0,none⟩)) true ty).run Tryz.prog wr=_:=fun ty=>Lib.run_next_end_at wr w.heap.size s pos ty hit hp
   have HE:Hid (R.goodFrom 0 s.data.toList=true):=by
    show _=_;rw[HG.out,List.drop_eq_nil_of_le (by have:=HLn.out;omega)];rfl
   by_cases h0:s.size=0
   ·have hs:s=⟨#[]⟩:=by
     have:s.data=#[]:=Array.eq_empty_of_size_eq_zero h0;cases s;simp_all
    subst hs;go_wp2;go_ret;refine⟨L.zam ?_,HB.out⟩;rw[<- HO.out];rfl
   ·have hemp:s.toList.isEmpty=false:=by
     rw[<- decide_eq_emptyBytes];exact decide_eq_false (fun h=>h0 (by rw[h];rfl))
    go_wp2;go_ret
    refine⟨L.zam ?_,HB.out⟩;rw[<- HO.out];unfold R.named;rw[HE.out,Bool.eq_iff_iff];simp;omega
theorem zep (s:ByteArray)(w:World) :
  Calls Tryz.prog 125 #[.string s] w fun e w'=>e= .returned (.bool (R.passes s))/\w'=w:=by
 unfold R.passes
 go_enter Tryz.func125,Tryz.ntmps125
 go_wp2
 all_goals go_ret
 all_goals refine⟨L.zam ?_,rfl⟩
 all_goals simp_all
end Go.Proofs.YtmcljejgbikbhaaGreatDoor
namespace Go.Proofs.YtmcljejgbikbhaaGreatDoor
open Go.RowKit
theorem zdj (w:World)(x:S.Sp) :
  Calls Tryz.prog 89 #[.agg #[.int .i32 x.1,.int .i32 x.2]] w fun e w'=>e= .returned (.bool (S.bad x))/\Below w.heap.size w w':=by
 obtain⟨x1,x2⟩:=x;unfold S.bad
 by_cases h1:x1<0
 ·go_enter Tryz.func89,Tryz.ntmps89
  go_wp2;go_ret
  exact⟨by simp[h1],(qR w).alloc qN _⟩
 ·by_cases h2:1114111<x2
  ·go_enter Tryz.func89,Tryz.ntmps89
   go_wp2;go_ret
   exact⟨by simp,(qR w).alloc qN _⟩
  ·by_cases h3:x2<x1
   ·go_enter Tryz.func89,Tryz.ntmps89
    go_wp2;go_ret
    exact⟨by simp,(qR w).alloc qN _⟩
   ·go_enter Tryz.func89,Tryz.ntmps89
    go_wp2;go_ret
    exact⟨by simp[h1,h2,h3],(qR w).alloc qN _⟩
theorem ze8 {l:List S.Sp}{k:Nat}{x:S.Sp}{b:Int}(hx:l[k]?=some x):S.wgo b (l.drop k)=if S.bad x=true then 3 else if x.1<b then 2 else S.wgo (x.2+2) (l.drop (k+1)):=by
 have hlt:=(qL.1 hx).1;rw[List.drop_eq_getElem_cons hlt];have:l[k]=x:=by rw[List.getElem?_eq_getElem hlt] at hx;exact Option.some.inj hx
 rw[this];rfl
theorem zbu (w:World)(v:Value)(l:List S.Sp)(R:S.Rd w v l)(hf:S.Fit l) :
  Calls Tryz.prog 60 #[v] w fun e w'=>e= .returned (.int .i64 (S.wrongE l))/\Below w.heap.size w w':=by
 obtain⟨ao,cap,rfl,hn,hc⟩:=R;unfold S.wrongE
 by_cases hbig:200<l.length
 ·rw[if_pos hbig]
  go_enter Tryz.func60,Tryz.ntmps60
  go_wp2;go_ret
  exact⟨rfl,qR w⟩
 ·rw[if_neg hbig]
  go_enter Tryz.func60,Tryz.ntmps60
  go_wp2
  go_loopw [10] (fun i wr=>∃k:Nat,k<=l.length/\i= .int .i64 k/\Hid (∃b,S.wgo 0 l=S.wgo b (l.drop k)/\(k=0->b=0)/\∀p,0<k->l[k-1]?=some p->b=p.2+2/\p.2<=1114111)/\Hid (Below w.heap.size w wr)) (fun i _=>l.length - (intOf i).toNat)
  case atStart=>exact⟨0,Nat.zero_le _,rfl,⟨0,by simp,fun _=>rfl,fun p h=>absurd h (Nat.lt_irrefl _)⟩,qR w⟩
  case round =>
   obtain⟨k,hk,rfl,HW,HB⟩:=hrel
   by_cases hlt:k<l.length
   ·obtain⟨b,off,rfl,hcell⟩:=hc (by intro h;subst h;simp at hlt);obtain⟨x,hx⟩:∃x,l[k]?=some x:=⟨l[k],by simp[hlt]⟩;have c0:=hcell k x hx;have hb:=L.block_lt c0.1;have cc:∀o,wr.cell? ⟨b,o,none⟩=w.cell? ⟨b,o,none⟩:=fun o=>HB.out.cell (p:=⟨b,o,none⟩) hb
    have c1:=c0.1;have c2:=c0.2;rw[<- cc] at c1 c2;have HX:Hid (l[k]?=some x):=hx;have fx:=hf.at hx;have hsz:=HB.out.size;obtain⟨x1,x2⟩:=x;simp only at c1 c2 fx;clear c0 hx;cases hbad:S.bad (x1,x2) with
    | true =>
     have HR:Hid (S.bad (x1,x2)=true):=hbad;clear hbad cc hcell hc
     go_wp2_with (go_at_call 89;go_must (refine(zdj _ (x1,x2)).mono ?_;rintro e w1 ⟨rfl,HB1⟩;rw[HR.out]))
     go_ret;obtain⟨bb,he,_⟩:=HW.out
     refine⟨?_,?_⟩
     ·rw[he,ze8 HX.out,HR.out];rfl
     ·exact(HB.out.alloc hsz _).trans (HB1.mono (by simp;omega))
    | false =>
     have HR:Hid (S.bad (x1,x2)=false):=hbad;have hok:=S.bad_false.1 hbad;simp only at hok;clear hbad;cases k with
     | zero =>
      clear cc hcell hc;simp only[Nat.zero_mul,Nat.add_zero] at c1 c2
      go_wp2_with (go_at_call 89;go_must (refine(zdj _ (x1,x2)).mono ?_;rintro e w1 ⟨rfl,HB1⟩;rw[HR.out]))
      obtain⟨⟨d1,d2⟩,_,hs1,hb1⟩:=S.boxed HB1;have HB2:Hid (Below w.heap.size w w1):=HB.out.trans (hb1.mono hsz);clear HB1 hb1
      go_quiet (fail)
      go_wp2
      go_roundw
      case rel =>
       obtain⟨bb,he,h0,_⟩:=HW.out;refine⟨1,by omega,by go_num,⟨x2+2,?_,fun h=>by omega,fun p _ hp=> ?_⟩,below_drewN HB2.out _⟩
       ·rw[he,ze8 HX.out,HR.out,h0 trivial,if_neg (by simp),if_neg (by simp;omega)]
       ·have h1:=HX.out;rw[hp] at h1;cases h1;exact⟨rfl,by omega⟩
      case measure=>simp[intOf];omega
     | succ m =>
      obtain⟨p,hp⟩:∃p,l[m]?=some p:=⟨l[m]'(by omega),by simp[show m<l.length by omega]⟩;have c3:=(hcell m p hp).2;rw[<- cc] at c3;have fp:=hf.at hp;have HP:Hid (l[m]?=some p):=hp;obtain⟨p1,p2⟩:=p;simp only at c3 fp;clear cc hcell hc hp
      go_wp2_with (go_at_call 89;go_must (refine(zdj _ (x1,x2)).mono ?_;rintro e w1 ⟨rfl,HB1⟩;rw[HR.out]))
      obtain⟨⟨d1,d2⟩,hold,hs1,hb1⟩:=S.boxed HB1
      replace c3:=hold _ _ _ c3
      have HB2:Hid (Below w.heap.size w w1):=HB.out.trans (hb1.mono hsz);obtain⟨bb,he,_,hpp⟩:=HW.out;obtain⟨rfl,hp2⟩:=hpp _ (Nat.succ_pos _) HP.out;simp only at hp2;have HE:Hid (S.wgo 0 l=S.wgo (p2+2) (l.drop (m+1))):=he;clear HB1 hb1 hold he hpp HW
      by_cases hlow:x1<p2+2
      ·go_quiet (fail)
       go_wp2;go_ret
       refine⟨?_,below_drewN HB2.out _⟩;rw[HE.out,ze8 HX.out,HR.out,if_neg (by simp),if_pos hlow];rfl
      ·go_quiet (fail)
       go_wp2
       go_roundw
       case rel =>
        refine⟨m+1+1,by omega,by go_num,⟨x2+2,?_,fun h=>by omega,fun p _ hp=> ?_⟩,below_drewN HB2.out _⟩
        ·rw[HE.out,ze8 HX.out,HR.out,if_neg (by simp),if_neg hlow]
        ·have h1:=HX.out;have hp:l[m+1]?=some p:=hp;rw[hp] at h1;cases h1;exact⟨rfl,by omega⟩
       case measure=>simp[intOf];omega
   ·go_wp2;go_ret
    refine⟨?_,HB.out⟩;obtain⟨b,he,_⟩:=HW.out;rw[he,List.drop_eq_nil_of_le (by omega)];rfl
end Go.Proofs.YtmcljejgbikbhaaGreatDoor
