/-
 Each property of numbers in range has its set; and what union, meeting, turning over and taking away make.
-/
import Derived.Test.YteagjpnbiceafaaGreatDoorSLib
import Derived.Test.YteagjpnbiceafaaGreatDoorMath
import Derived.Laws.Cover4
set_option maxHeartbeats 0
namespace Go.Proofs.YteagjpnbiceafaaGreatDoor.S
theorem zjj (P:Int->Bool)(n:Nat)(hn:n<=1114112):∃s,Nf 0 s/\(∀q,memb s q=(decide (0<=q)&&decide (q<n)&&P q)):=by
 induction n with
 | zero=>exact⟨[],trivial,fun q=>by
   have:(decide (0<=q)&&decide (q<((0:Nat):Int)))=false:=by simp
   rw[this,zcb];simp⟩
 | succ n ih =>
  obtain⟨s,h1,h2⟩:=ih (by omega)
  have ends:∀p∈s,p.1<=p.2/\p.2<n:=fun p hp=>by
   have h3:=h1.mem hp;have h4:memb s p.2=true:=za4.2 ⟨p,hp,by omega,by omega⟩;rw[h2] at h4;simp at h4;omega
  cases hP:P n with
  | true =>
   have hj:=zkh (x:=((n:Int),(n:Int))) h1 (by simp only;omega) (by simp only;omega) (by simp only;omega) fun p hp=>by
    have:=ends p (List.mem_of_getLast? hp);simp only;omega
   refine⟨_,hj.1,fun q=> ?_⟩;rw[hj.2,h2];simp only
   by_cases hq:q=n
   ·subst hq;simp[hP];omega
   ·have e1:(decide ((n:Int)<=q)&&decide (q<=(n:Int)))=false:=by simp;omega
    have e2:decide (q<(n:Int))=decide (q<((n+1:Nat):Int)):=by apply zd1;simp;omega
    rw[e1,e2,Bool.or_false]
  | false =>
   refine⟨s,h1,fun q=> ?_⟩;rw[h2]
   by_cases hq:q=n
   ·subst hq;simp[hP]
   ·have e2:decide (q<(n:Int))=decide (q<((n+1:Nat):Int)):=by apply zd1;simp;omega
    rw[e2]
theorem zor {P:Int->Bool}(h:∀q,P q=(inR q&&P q)):∃s,Is P s:=by
 obtain⟨s,h1,h2⟩:=zjj P 1114112 (by omega);refine⟨s,h1,fun q=> ?_⟩;rw[h2,h q]
 have:(decide (0<=q)&&decide (q<((1114112:Nat):Int)))=inR q:=by
  apply zd1;simp[inR];omega
 rw[this];cases inR q <;> simp
theorem ztn {P:Int->Bool}(h:∀q,P q=(inR q&&P q)):Nf 0 (nf P)/\memb (nf P)=P:=by
 have:=zta (zor h);exact⟨this.1,funext this.2⟩
theorem zn4 (a b:List Sp)(q:Int):orP a b q=(inR q&&orP a b q):=by unfold orP;cases inR q <;> simp
theorem zsz (a b:List Sp)(q:Int):andP a b q=(inR q&&andP a b q):=by unfold andP;cases inR q <;> simp
theorem zsi (a b:List Sp)(q:Int):minP a b q=(inR q&&minP a b q):=by unfold minP;cases inR q <;> simp
theorem zsg (a:List Sp)(q:Int):notP a q=(inR q&&notP a q):=by unfold notP;cases inR q <;> simp
noncomputable def U (a b:List Sp):List Sp:=nf (orP a b)
noncomputable def I (a b:List Sp):List Sp:=nf (andP a b)
noncomputable def D (a b:List Sp):List Sp:=nf (minP a b)
noncomputable def C (a:List Sp):List Sp:=nf (notP a)
theorem za9 {a:List Sp}(h:Nf 0 a)(hl:a.length<=200):wrongE a=0:=zav.2 ⟨hl,h⟩
theorem zr3 {P:Int->Bool}(h:(nf P).length<=200):resL 0 0 P=nf P:=by
 unfold resL fewL;simp;omega
theorem zr4 {P:Int->Bool}(h:(nf P).length<=200):resE 0 0 P=0:=by
 unfold resE fewE;simp;omega
def cnt (P:Int->Bool):Nat->Nat
 | 0=>0
 | n+1=>cnt P n+if P n=true then 1 else 0
def total:List Sp->Int
 | []=>0
 | x::l=>(x.2 - x.1+1)+total l
def nthF:List Sp->Int->Option Int
 | [],_=>none
 | x::l,k=>if k<x.2 - x.1+1 then some (x.1+k) else nthF l (k - (x.2 - x.1+1))
end Go.Proofs.YteagjpnbiceafaaGreatDoor.S
namespace Go.Proofs.YteagjpnbiceafaaGreatDoor.M
def bt (L:List UInt8) (k:Nat):Nat:=(L[k]?.getD 0).toNat
def d0 (L:List UInt8):Nat×Nat:=Lib.decodeN L.length (bt L 0) (bt L 1) (bt L 2) (bt L 3)
theorem zq9 (L:List UInt8)(k:Nat):bt L k<256:=(L[k]?.getD 0).toNat_lt
theorem get!_eq (s:ByteArray)(i:Nat):s.get! i=s.data.toList[i]?.getD 0:=by
 have h:s.get! i=s.data[i]! := rfl;rw[h,getElem!_def,Array.getElem?_toList];cases s.data[i]? <;> rfl
theorem ze2 (s:ByteArray)(i:Nat):Utf8.decode s i=d0 (s.data.toList.drop i):=by
 have hl:(s.data.toList.drop i).length=s.size - i:=by rw[List.length_drop,Array.length_toList];rfl
 rw[Lib.decode_at,d0,hl];simp only[bt,List.getElem?_drop,get!_eq,Nat.add_zero]
def rl:Nat->List UInt8->List (Nat×Nat)
 | 0,_=> []
 | n+1,L=>if L= [] then [] else d0 L::rl n (L.drop (d0 L).2)
theorem zj8 (n:Nat):rl n []= []:=by cases n <;> simp[rl]
theorem zgx (L:List UInt8)(h:L≠ []):1<=(d0 L).2/\(d0 L).2<=4/\(d0 L).2<=L.length:=by
 have hl:1<=L.length:=by cases L with
  | nil=>exact absurd rfl h
  | cons=>simp
 unfold d0 Lib.decodeN
 repeat' split
 all_goals simp only
 all_goals omega
theorem znm:∀(n m:Nat) (L:List UInt8),L.length<=n->L.length<=m->rl n L=rl m L
 | 0,m,L,hn,_=>by
  have:L= []:=List.eq_nil_of_length_eq_zero (by omega);subst this;rw[zj8,zj8]
 | n+1,0,L,_,hm=>by
  have:L= []:=List.eq_nil_of_length_eq_zero (by omega);subst this;rw[zj8,zj8]
 | n+1,m+1,L,hn,hm=>by
  by_cases h:L= []
  ·simp[rl,h]
  ·have hw:=zgx L h;have hd:(L.drop (d0 L).2).length=L.length - (d0 L).2:=List.length_drop;simp only[rl,h,if_false];rw[znm n m (L.drop (d0 L).2) (by omega) (by omega)]
def ru (L:List UInt8):List (Nat×Nat):=rl L.length L
theorem zs4:ru []= []:=rfl
theorem zgk (L:List UInt8)(h:L≠ []):ru L=d0 L::ru (L.drop (d0 L).2):=by
 have hw:=zgx L h;have hd:(L.drop (d0 L).2).length=L.length - (d0 L).2:=List.length_drop;unfold ru;obtain⟨n,hn⟩:∃n,L.length=n+1:=⟨L.length - 1,by omega⟩;rw[hn];simp only[rl,h,if_false];rw[znm n (L.drop (d0 L).2).length _ (by omega) (by omega)]
theorem zs5 {P:List UInt8->Prop}(h0:P [])(h1:∀L,L≠ []->P (L.drop (d0 L).2)->P L):∀L,P L:=by
 have:∀n (L:List UInt8),L.length<=n->P L:=by
  intro n
  induction n with
  | zero=>intro L hL;have:L= []:=List.eq_nil_of_length_eq_zero (by omega);subst this;exact h0
  | succ n ih =>
   intro L hL
   by_cases h:L= []
   ·subst h;exact h0
   ·have hw:=zgx L h;exact h1 L h (ih _ (by rw[List.length_drop];omega))
 exact fun L=>this L.length L qN
theorem zj5 (s:ByteArray):∀(b pos:Nat),s.size<=pos+b->(steps s b pos).map (fun x=>x.2)=(ru (s.data.toList.drop pos)).map (fun x=>x.1)
 | 0,pos,h=>by
  have hl:(s.data.toList.drop pos).length=s.size - pos:=by rw[List.length_drop,Array.length_toList];rfl
  have:s.data.toList.drop pos= []:=List.eq_nil_of_length_eq_zero (by omega);rw[this];rfl
 | b+1,pos,h=>by
  have hl:(s.data.toList.drop pos).length=s.size - pos:=by rw[List.length_drop,Array.length_toList];rfl
  by_cases hp:pos<s.size
  ·have hw:=width_pos s pos hp;have hne:s.data.toList.drop pos≠ []:=by intro e;rw[e] at hl;simp at hl;omega
   simp only[steps,hp,if_true,List.map_cons];rw[zj5 s b _ (by omega),zgk _ hne,ze2,List.drop_drop,List.map_cons]
  ·rw[zg5 s _ pos hp];have:s.data.toList.drop pos= []:=List.eq_nil_of_length_eq_zero (by omega);rw[this];rfl
theorem zs8 (s:ByteArray):rn s=(ru s.data.toList).map (fun x=>(x.1:Int)):=by
 have h:=zj5 s s.size 0 (by omega);rw[List.drop_zero] at h;have h2:=congrArg (List.map (fun n:Nat=>(n:Int))) h;rw[List.map_map,List.map_map] at h2;exact h2
def bad (x:Nat×Nat):Bool:=x.1==65533&&x.2==1
def sp (L:List UInt8):Nat:=((ru L).filter bad).length
theorem zrw (L:List UInt8)(h:L≠ []):sp L=(if bad (d0 L) then 1 else 0)+sp (L.drop (d0 L).2):=by
 unfold sp;rw[zgk L h,List.filter_cons];split <;> simp <;> omega
end Go.Proofs.YteagjpnbiceafaaGreatDoor.M
namespace Go.Proofs.YteagjpnbiceafaaGreatDoor.M
def enc (r:Int):List UInt8:=(Utf8.encode r).data.toList
theorem zem (r:Int):Utf8.valid r=right r:=by
 unfold Utf8.valid right;rw[Bool.eq_iff_iff];simp;omega
set_option maxRecDepth 100000 in
theorem zdl (r:Nat)(h:right (r:Int)=true):enc (r:Int) =
  if r<128 then [UInt8.ofNat r] else if r<2048 then [UInt8.ofNat (192+r / 64),UInt8.ofNat (128+r % 64)]
  else if r<65536 then [UInt8.ofNat (224+r / 4096),UInt8.ofNat (128+r / 64 % 64),UInt8.ofNat (128+r % 64)]
  else [UInt8.ofNat (240+r / 262144),UInt8.ofNat (128+r / 4096 % 64),UInt8.ofNat (128+r / 64 % 64),UInt8.ofNat (128+r % 64)]:=by
 unfold enc Utf8.encode;simp only[zem,h,if_true,Int.toNat_natCast]
 by_cases h1:r<128
 ·rw[if_pos h1,if_pos h1]
 ·by_cases h2:r<2048
  ·rw[if_neg h1,if_neg h1,if_pos h2,if_pos h2]
  ·by_cases h3:r<65536
   ·rw[if_neg h1,if_neg h1,if_neg h2,if_neg h2,if_pos h3,if_pos h3]
   ·rw[if_neg h1,if_neg h1,if_neg h2,if_neg h2,if_neg h3,if_neg h3]
theorem u8 (n:Nat)(h:n<256):(UInt8.ofNat n).toNat=n:=by simp;omega
theorem zd8 {r:Nat}(h:right (r:Int)=true):r<=1114111/\(r<55296∨57343<r):=by
 unfold right at h;simp at h;omega
theorem zti (r:Nat)(h:right (r:Int)=true)(M:List UInt8):d0 (enc r++M)=(r,(enc r).length):=by
 have hr:=zd8 h;rw[zdl r h]
 by_cases h1:r<128
 ·simp only[h1,if_true,List.cons_append,List.nil_append];simp only[d0,bt,List.getElem?_cons_zero,Option.getD_some,u8 r (by omega),Lib.decodeN,h1,if_true,List.length_cons,List.length_nil]
 ·by_cases h2:r<2048
  ·simp only[h1,h2,if_true,if_false,List.cons_append,List.nil_append];simp only[d0,bt,List.getElem?_cons_zero,List.getElem?_cons_succ,Option.getD_some,u8 (192+r / 64) (by omega),u8 (128+r % 64) (by omega),Lib.decodeN,List.length_cons,List.length_nil];rw[if_neg (by omega),if_pos (by omega),if_pos (by omega)];congr 1;omega
  ·by_cases h3:r<65536
   ·simp only[h1,h2,h3,if_true,if_false,List.cons_append,List.nil_append];simp only[d0,bt,List.getElem?_cons_zero,List.getElem?_cons_succ,Option.getD_some,u8 (224+r / 4096) (by omega),u8 (128+r / 64 % 64) (by omega),u8 (128+r % 64) (by omega),Lib.decodeN,List.length_cons,List.length_nil];rw[if_neg (by omega),if_neg (by omega),if_pos (by omega),if_pos (by omega)];congr 1;omega
   ·simp only[h1,h2,h3,if_false,List.cons_append,List.nil_append];simp only[d0,bt,List.getElem?_cons_zero,List.getElem?_cons_succ,Option.getD_some,u8 (240+r / 262144) (by omega),u8 (128+r / 4096 % 64) (by omega),u8 (128+r / 64 % 64) (by omega),u8 (128+r % 64) (by omega),Lib.decodeN,List.length_cons,List.length_nil];rw[if_neg (by omega),if_neg (by omega),if_neg (by omega),if_pos (by omega),if_pos (by omega)];congr 1;omega
theorem zsr (r:Nat)(h:right (r:Int)=true):1<=(enc r).length/\(128<=r->2<=(enc r).length):=by
 rw[zdl r h]
 repeat' split
 all_goals simp
 all_goals omega
theorem zre:∀l:List Nat,(∀r∈l,right (r:Int)=true)->(ru (l.flatMap fun r:Nat=>enc (r:Int))).map (fun x=>x.1)=l/\sp (l.flatMap fun r:Nat=>enc (r:Int))=0
 | [],_=>⟨rfl,rfl⟩
 | r::l,h=>by
  have hr:=h r (by simp);obtain⟨i1,i2⟩:=zre l (fun x hx=>h x (by simp[hx]));have hl:=zsr r hr;have hd:=zti r hr (l.flatMap fun r:Nat=>enc (r:Int))
  have hne:enc (r:Int)++(l.flatMap fun r:Nat=>enc (r:Int))≠ []:=by
   intro e;have:=congrArg List.length e;rw[List.length_append,List.length_nil] at this;omega
  rw[List.flatMap_cons];constructor
  ·rw[zgk _ hne,hd];simp[i1]
  ·rw[zrw _ hne,hd]
   have hb:bad (r,(enc (r:Int)).length)=false:=by
    unfold bad;simp;intro e;have:=hl.2 (by omega);omega
   rw[hb];simp[i2]
theorem zq0 (L:List UInt8):right ((d0 L).1:Int)=true:=by
 have h0:=zq9 L 0;have h1:=zq9 L 1;have h2:=zq9 L 2;have h3:=zq9 L 3;have e:∀n:Nat,(n<=1114111/\(n<55296∨57343<n))->right (n:Int)=true:=fun n hn=>by unfold right;simp;omega
 unfold d0 Lib.decodeN
 repeat' split
 all_goals apply e
 all_goals simp only
 all_goals omega
end Go.Proofs.YteagjpnbiceafaaGreatDoor.M
namespace Go.Proofs.YteagjpnbiceafaaGreatDoor.T
open S (Sp)
inductive Out (α:Type) where
 | ok (a:α) (p:Nat)
 | bad (e:Int) (p:Nat)
def see (l:List Int) (p:Nat):Int:=(l[p]?).getD (-1)
def blanks:List Int:= [32,9,10]
def specials:List Int:= [32,9,10,91,93,38,45,94,92,58,36,40,41,123,125,60,62,124,59,35,39,34,61,44]
def hexes:List Int:= [48,49,50,51,52,53,54,55,56,57,97,98,99,100,101,102,65,66,67,68,69,70]
def blank (r:Int):Bool:=decide (r∈blanks)
def hexd (r:Int):Bool:=decide (r∈hexes)
def ordy (r:Int):Bool:= !decide (r= -1)&& !decide (r∈specials)
def alnum (r:Int):Bool:=(decide (48<=r)&&decide (r<=57))||(decide (65<=r)&&decide (r<=90))||(decide (97<=r)&&decide (r<=122))
def skipW (f:Int->Bool) (l:List Int) (p:Nat):Nat:=p+((l.drop p).takeWhile f).length
theorem zd5 {l:List Int}{p:Nat}(h:p<l.length):l[p]?=some (see l p):=by
 unfold see;rw[List.getElem?_eq_getElem h];rfl
theorem zfj {l:List Int}{p:Nat}(h:l.length<=p):see l p= -1:=by
 unfold see;rw[List.getElem?_eq_none h];rfl
theorem zgh {l:List Int}{p:Nat}{r:Int}(h:l[p]?=some r):see l p=r:=by unfold see;rw[h];rfl
theorem zb8 {f:Int->Bool}{l:List Int}:∀ {p k:Nat},p<=k->k<=l.length->(∀i,p<=i->i<k->f (see l i)=true)->f (see l k)=false->f (-1)=false->skipW f l p=k:=by
 intro p k hp hk h1 h2 _;obtain⟨n,rfl⟩:∃n,k=p+n:=⟨k - p,by omega⟩;clear hp
 induction n generalizing p with
 | zero =>
  unfold skipW
  by_cases hlt:p<l.length
  ·have:l.drop p=see l p::l.drop (p+1):=by
    rw[List.drop_eq_getElem_cons hlt];congr 1;have:=zd5 hlt;rw[List.getElem?_eq_getElem hlt] at this;exact Option.some.inj this
   rw[this,List.takeWhile_cons,if_neg (by rw[show see l p=see l (p+0) from rfl,h2];simp)];rfl
  ·rw[List.drop_eq_nil_of_le (by omega)];rfl
 | succ n ih =>
  have hlt:p<l.length:=by omega
  have hd:l.drop p=see l p::l.drop (p+1):=by
   rw[List.drop_eq_getElem_cons hlt];congr 1;have:=zd5 hlt;rw[List.getElem?_eq_getElem hlt] at this;exact Option.some.inj this
  have hi:=ih (p:=p+1) (by omega) (fun i h3 h4=>h1 i (by omega) (by omega)) (by rw[show p+1+n=p+(n+1) by omega];exact h2);unfold skipW at hi ⊢;rw[hd,List.takeWhile_cons,if_pos (h1 p qN (by omega)),List.length_cons];omega
theorem zaz (f:Int->Bool)(l:List Int)(p:Nat):p<=skipW f l p:=by unfold skipW;omega
theorem zfg {f:Int->Bool}{l:List Int}{p:Nat}(h:p<=l.length)(h0:f (-1)=false)(h2:f (see l p)=false):skipW f l p=p :=
 zb8 qN h (fun i h1 h2=>by omega) h2 h0
def hexOne (r:Int):Int:=if r<=57 then r - 48 else if r<=70 then r - 55 else r - 87
def hexN (l:List Int):Int:=l.foldl (fun x r=>16*x+hexOne r) 0
def cut (l:List Int) (p q:Nat):List Int:=(l.drop p).take (q - p)
def num (l:List Int) (p:Nat):Out Int :=
 if see l (p+1)≠123 then .bad 2 (p+1)
 else if skipW hexd l (p+2) - (p+2)<1∨6<skipW hexd l (p+2) - (p+2) then .bad 2 (p+2)
 else if see l (skipW hexd l (p+2))≠125 then .bad 2 (skipW hexd l (p+2))
 else if 1114111<hexN (cut l (p+2) (skipW hexd l (p+2))) then .bad 3 p
 else .ok (hexN (cut l (p+2) (skipW hexd l (p+2)))) (skipW hexd l (p+2)+1)
def esc (l:List Int) (p:Nat):Out Int :=
 if see l p=117 then num l p
 else if see l p=110 then .ok 10 (p+1)
 else if see l p=116 then .ok 9 (p+1)
 else if see l p= -1∨alnum (see l p)=true then .bad 2 p
 else .ok (see l p) (p+1)
def chr (l:List Int) (p:Nat):Out Int :=
 if see l p=92 then esc l (p+1)
 else if ordy (see l p)=true then .ok (see l p) (p+1)
 else .bad 2 p
def span (l:List Int) (p:Nat):Out Sp :=
 match chr l p with
 | .bad e q=> .bad e q
 | .ok lo q =>
  if see l q≠45∨see l (q+1)=91 then .ok (lo,lo) q
  else match chr l (q+1) with
   | .bad e r=> .bad e r
   | .ok hi r=>if hi<lo then .bad 3 (q+1) else .ok (lo,hi) r
def classOf (n:List Int):Option (List Sp) :=
 if n= [100,105,103,105,116] then some [(48,57)]
 else if n= [108,111,119,101,114] then some [(97,122),(223,246),(248,255)]
 else if n= [117,112,112,101,114] then some [(65,90),(192,214),(216,222)]
 else if n= [108,101,116,116,101,114] then some [(65,90),(97,122),(192,214),(216,246),(248,255)]
 else if n= [118,111,119,101,108] then some [(65,65),(69,69),(73,73),(79,79),(85,85),(97,97),(101,101),(105,105),(111,111),(117,117)]
 else if n= [103,114,101,101,107] then some [(880,1023)]
 else if n= [99,121,114,105,108,108,105,99] then some [(1024,1279)]
 else if n= [115,112,97,99,101] then some [(9,10),(32,32)]
 else if n= [97,110,121] then some [(0,1114111)]
 else none
def cls (l:List Int) (p:Nat):Out (List Sp) :=
 match classOf (cut l (p+2) (skipW ordy l (p+2))) with
 | none=> .bad 7 (p+2)
 | some s =>
  if see l (skipW ordy l (p+2))≠58 then .bad 2 (skipW ordy l (p+2))
  else if see l (skipW ordy l (p+2)+1)≠93 then .bad 2 (skipW ordy l (p+2)+1)
  else .ok s (skipW ordy l (p+2)+2)
noncomputable def made (P:Int->Bool) (p:Nat):Out (List Sp):=if 200<(S.nf P).length then .bad 5 p else .ok (S.nf P) p
noncomputable def part (sub:Nat->Out (List Sp)) (l:List Int) (s:List Sp) (p:Nat):Out (List Sp) :=
 if see l p=38 then
  match sub (skipW blank l (p+1)) with
  | .bad e q=> .bad e q
  | .ok t q=>made (S.andP s t) q
 else if see l p=45 then
  match sub (skipW blank l (p+1)) with
  | .bad e q=> .bad e q
  | .ok t q=>made (S.minP s t) q
 else if see l p=91/\see l (p+1)=58 then
  match cls l p with
  | .bad e q=> .bad e q
  | .ok t q=>made (S.orP s t) q
 else if see l p=91 then
  match sub p with
  | .bad e q=> .bad e q
  | .ok t q=>made (S.orP s t) q
 else
  match span l p with
  | .bad e q=> .bad e q
  | .ok x q=>made (S.orP s [x]) q
noncomputable def loop:Nat->(Nat->Out (List Sp))->List Int->List Sp->Nat->Out (List Sp)
 | 0,_,_,_,p=> .bad 0 p
 | f+1,sub,l,s,p =>
  if see l p=93 then .ok s (p+1)
  else match part sub l s p with
   | .bad e q=> .bad e q
   | .ok t q=>loop f sub l t (skipW blank l q)
noncomputable def setN:Nat->List Int->Nat->Out (List Sp)
 | 0,l,p=>if see l p≠91 then .bad 2 p else .bad 4 p
 | n+1,l,p =>
  if see l p≠91 then .bad 2 p
  else if see l (p+1)=94 then
   match loop (l.length+1) (setN n l) l [] (skipW blank l (p+2)) with
   | .bad e q=> .bad e q
   | .ok s q=>made (S.notP s) q
  else loop (l.length+1) (setN n l) l [] (skipW blank l (p+1))
noncomputable def whole (l:List Int):Out (List Sp) :=
 match setN 20 l (skipW blank l 0) with
 | .bad e q=> .bad e q
 | .ok s q=>if see l (skipW blank l q)= -1 then .ok s q else .bad 2 (skipW blank l q)
noncomputable def read (l:List Int):Out (List Sp):=if 4000<l.length then .bad 4 0 else whole l
def dig (d:Nat):UInt8:=if d<10 then UInt8.ofNat (48+d) else UInt8.ofNat (87+d)
def hexL (n:Nat):List UInt8:=if n<16 then [dig n] else hexL (n / 16)++ [dig (n % 16)]
termination_by n
decreasing_by omega
def plain (r:Int):Bool:=alnum r||(M.right r&&decide (126<r))
def quo (r:Int):List UInt8:=if plain r=true then M.enc r else [92,117,123]++hexL r.toNat++ [125]
def one (x:Sp):List UInt8:=quo x.1++if x.1<x.2 then [45]++quo x.2 else []
def inner (s:List Sp):List UInt8:=s.flatMap one
def prt (s:List Sp):List UInt8:= [91]++inner s++ [93]
end Go.Proofs.YteagjpnbiceafaaGreatDoor.T
