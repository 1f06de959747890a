import Derived.Test.YthnmmmkeamcfkaaGreatDoorMath
import Derived.Laws.Cover4
set_option maxHeartbeats 0
namespace Go.Proofs.YthnmmmkeamcfkaaGreatDoor
namespace M
def bt (L:List UInt8) (k:Nat):Nat:=(L[k]?.getD 0).toNat
def d0 (L:List UInt8):Nat×Nat:=Lib.decodeN L.length (bt L 0) (bt L 1) (bt L 2) (bt L 3)
theorem zvc (L:List UInt8)(k:Nat):bt L k<256:=(L[k]?.getD 0).toNat_lt
theorem get!_eq (s:ByteArray)(i:Nat):s.get! i=s.data.toList[i]?.getD 0:=by
 have h:s.get! i=s.data[i]! := rfl;rw[h,getElem!_def,Array.getElem?_toList];cases s.data[i]? <;> rfl
theorem zfz (s:ByteArray)(i:Nat):Utf8.decode s i=d0 (s.data.toList.drop i):=by
 have hl:(s.data.toList.drop i).length=s.size - i:=by rw[List.length_drop,Array.length_toList];rfl
 rw[Lib.decode_at,d0,hl];simp only[bt,List.getElem?_drop,get!_eq,Nat.add_zero]
def rl:Nat->List UInt8->List (Nat×Nat)
 | 0,_=> []
 | n+1,L=>if L= [] then [] else d0 L::rl n (L.drop (d0 L).2)
theorem zlo (n:Nat):rl n []= []:=by cases n <;> simp[rl]
theorem zh1 (L:List UInt8)(h:L≠ []):1<=(d0 L).2/\(d0 L).2<=4/\(d0 L).2<=L.length:=by
 have hl:1<=L.length:=by cases L with
  | nil=>exact absurd rfl h
  | cons=>simp
 unfold d0 Lib.decodeN
 repeat' split
 all_goals simp only
 all_goals omega
theorem zqb:∀(n m:Nat) (L:List UInt8),L.length<=n->L.length<=m->rl n L=rl m L
 | 0,m,L,hn,_=>by
  have:L= []:=List.eq_nil_of_length_eq_zero (by omega);subst this;rw[zlo,zlo]
 | n+1,0,L,_,hm=>by
  have:L= []:=List.eq_nil_of_length_eq_zero (by omega);subst this;rw[zlo,zlo]
 | n+1,m+1,L,hn,hm=>by
  by_cases h:L= []
  ·simp[rl,h]
  ·have hw:=zh1 L h;have hd:(L.drop (d0 L).2).length=L.length - (d0 L).2:=List.length_drop;simp only[rl,h,if_false];rw[zqb n m (L.drop (d0 L).2) (by omega) (by omega)]
def ru (L:List UInt8):List (Nat×Nat):=rl L.length L
theorem zxh:ru []= []:=rfl
theorem zhf (L:List UInt8)(h:L≠ []):ru L=d0 L::ru (L.drop (d0 L).2):=by
 have hw:=zh1 L h;have hd:(L.drop (d0 L).2).length=L.length - (d0 L).2:=List.length_drop;unfold ru;obtain⟨n,hn⟩:∃n,L.length=n+1:=⟨L.length - 1,by omega⟩;rw[hn];simp only[rl,h,if_false];rw[zqb n (L.drop (d0 L).2).length _ (by omega) (by omega)]
theorem zxi {P:List UInt8->Prop}(h0:P [])(h1:∀L,L≠ []->P (L.drop (d0 L).2)->P L):∀L,P L:=by
 have:∀n (L:List UInt8),L.length<=n->P L:=by
  intro n
  induction n with
  | zero=>intro L hL;have:L= []:=List.eq_nil_of_length_eq_zero (by omega);subst this;exact h0
  | succ n ih =>
   intro L hL
   by_cases h:L= []
   ·subst h;exact h0
   ·have hw:=zh1 L h;exact h1 L h (ih _ (by rw[List.length_drop];omega))
 exact fun L=>this L.length L qN
theorem zlj (s:ByteArray):∀(b pos:Nat),s.size<=pos+b->(steps s b pos).map (fun x=>x.2)=(ru (s.data.toList.drop pos)).map (fun x=>x.1)
 | 0,pos,h=>by
  have hl:(s.data.toList.drop pos).length=s.size - pos:=by rw[List.length_drop,Array.length_toList];rfl
  have:s.data.toList.drop pos= []:=List.eq_nil_of_length_eq_zero (by omega);rw[this];rfl
 | b+1,pos,h=>by
  have hl:(s.data.toList.drop pos).length=s.size - pos:=by rw[List.length_drop,Array.length_toList];rfl
  by_cases hp:pos<s.size
  ·have hw:=width_pos s pos hp;have hne:s.data.toList.drop pos≠ []:=by intro e;rw[e] at hl;simp at hl;omega
   simp only[steps,hp,if_true,List.map_cons];rw[zlj s b _ (by omega),zhf _ hne,zfz,List.drop_drop,List.map_cons]
  ·rw[zie s _ pos hp];have:s.data.toList.drop pos= []:=List.eq_nil_of_length_eq_zero (by omega);rw[this];rfl
theorem zxl (s:ByteArray):rn s=(ru s.data.toList).map (fun x=>(x.1:Int)):=by
 have h:=zlj s s.size 0 (by omega);rw[List.drop_zero] at h;have h2:=congrArg (List.map (fun n:Nat=>(n:Int))) h;rw[List.map_map,List.map_map] at h2;exact h2
def bad (x:Nat×Nat):Bool:=x.1==65533&&x.2==1
def sp (L:List UInt8):Nat:=((ru L).filter bad).length
theorem zv5 (L:List UInt8)(h:L≠ []):sp L=(if bad (d0 L) then 1 else 0)+sp (L.drop (d0 L).2):=by
 unfold sp;rw[zhf L h,List.filter_cons];split <;> simp <;> omega
end M
namespace M
def enc (r:Int):List UInt8:=(Utf8.encode r).data.toList
theorem zfe (r:Int):Utf8.valid r=right r:=by
 unfold Utf8.valid right;rw[Bool.eq_iff_iff];simp;omega
set_option maxRecDepth 100000 in
theorem zer (r:Nat)(h:right (r:Int)=true):enc (r:Int) =
  if r<128 then [UInt8.ofNat r] else if r<2048 then [UInt8.ofNat (192+r / 64),UInt8.ofNat (128+r % 64)]
  else if r<65536 then [UInt8.ofNat (224+r / 4096),UInt8.ofNat (128+r / 64 % 64),UInt8.ofNat (128+r % 64)]
  else [UInt8.ofNat (240+r / 262144),UInt8.ofNat (128+r / 4096 % 64),UInt8.ofNat (128+r / 64 % 64),UInt8.ofNat (128+r % 64)]:=by
 unfold enc Utf8.encode;simp only[zfe,h,if_true,Int.toNat_natCast]
 by_cases h1:r<128
 ·rw[if_pos h1,if_pos h1]
 ·by_cases h2:r<2048
  ·rw[if_neg h1,if_neg h1,if_pos h2,if_pos h2]
  ·by_cases h3:r<65536
   ·rw[if_neg h1,if_neg h1,if_neg h2,if_neg h2,if_pos h3,if_pos h3]
   ·rw[if_neg h1,if_neg h1,if_neg h2,if_neg h2,if_neg h3,if_neg h3]
theorem u8 (n:Nat)(h:n<256):(UInt8.ofNat n).toNat=n:=by simp;omega
theorem zlp {r:Nat}(h:right (r:Int)=true):r<=1114111/\(r<55296∨57343<r):=by
 unfold right at h;simp at h;omega
theorem zxv (r:Nat)(h:right (r:Int)=true)(M:List UInt8):d0 (enc r++M)=(r,(enc r).length):=by
 have hr:=zlp h;rw[zer r h]
 by_cases h1:r<128
 ·simp only[h1,if_true,List.cons_append,List.nil_append];simp only[d0,bt,List.getElem?_cons_zero,Option.getD_some,u8 r (by omega),Lib.decodeN,h1,if_true,List.length_cons,List.length_nil]
 ·by_cases h2:r<2048
  ·simp only[h1,h2,if_true,if_false,List.cons_append,List.nil_append];simp only[d0,bt,List.getElem?_cons_zero,List.getElem?_cons_succ,Option.getD_some,u8 (192+r / 64) (by omega),u8 (128+r % 64) (by omega),Lib.decodeN,List.length_cons,List.length_nil];rw[if_neg (by omega),if_pos (by omega),if_pos (by omega)];congr 1;omega
  ·by_cases h3:r<65536
   ·simp only[h1,h2,h3,if_true,if_false,List.cons_append,List.nil_append];simp only[d0,bt,List.getElem?_cons_zero,List.getElem?_cons_succ,Option.getD_some,u8 (224+r / 4096) (by omega),u8 (128+r / 64 % 64) (by omega),u8 (128+r % 64) (by omega),Lib.decodeN,List.length_cons,List.length_nil];rw[if_neg (by omega),if_neg (by omega),if_pos (by omega),if_pos (by omega)];congr 1;omega
   ·simp only[h1,h2,h3,if_false,List.cons_append,List.nil_append];simp only[d0,bt,List.getElem?_cons_zero,List.getElem?_cons_succ,Option.getD_some,u8 (240+r / 262144) (by omega),u8 (128+r / 4096 % 64) (by omega),u8 (128+r / 64 % 64) (by omega),u8 (128+r % 64) (by omega),Lib.decodeN,List.length_cons,List.length_nil];rw[if_neg (by omega),if_neg (by omega),if_neg (by omega),if_pos (by omega),if_pos (by omega)];congr 1;omega
theorem zw6 (r:Nat)(h:right (r:Int)=true):1<=(enc r).length/\(128<=r->2<=(enc r).length):=by
 rw[zer r h]
 repeat' split
 all_goals simp
 all_goals omega
theorem zvi:∀l:List Nat,(∀r∈l,right (r:Int)=true)->(ru (l.flatMap fun r:Nat=>enc (r:Int))).map (fun x=>x.1)=l/\sp (l.flatMap fun r:Nat=>enc (r:Int))=0
 | [],_=>⟨rfl,rfl⟩
 | r::l,h=>by
  have hr:=h r (by simp);obtain⟨i1,i2⟩:=zvi l (fun x hx=>h x (by simp[hx]));have hl:=zw6 r hr;have hd:=zxv r hr (l.flatMap fun r:Nat=>enc (r:Int))
  have hne:enc (r:Int)++(l.flatMap fun r:Nat=>enc (r:Int))≠ []:=by
   intro e;have:=congrArg List.length e;rw[List.length_append,List.length_nil] at this;omega
  rw[List.flatMap_cons];constructor
  ·rw[zhf _ hne,hd];simp[i1]
  ·rw[zv5 _ hne,hd]
   have hb:bad (r,(enc (r:Int)).length)=false:=by
    unfold bad;simp;intro e;have:=hl.2 (by omega);omega
   rw[hb];simp[i2]
theorem zu1 (L:List UInt8):right ((d0 L).1:Int)=true:=by
 have h0:=zvc L 0;have h1:=zvc L 1;have h2:=zvc L 2;have h3:=zvc L 3;have e:∀n:Nat,(n<=1114111/\(n<55296∨57343<n))->right (n:Int)=true:=fun n hn=>by unfold right;simp;omega
 unfold d0 Lib.decodeN
 repeat' split
 all_goals apply e
 all_goals simp only
 all_goals omega
end M
namespace T
open S (Sp)
inductive Out (α:Type) where
 | ok (a:α) (p:Nat)
 | bad (e:Int) (p:Nat)
def see (l:List Int) (p:Nat):Int:=(l[p]?).getD (-1)
def blanks:List Int:= [32,9,10]
def specials:List Int:= [32,9,10,91,93,38,45,94,92,58,36,40,41,123,125,60,62,124,59,35,39,34,61,44]
def hexes:List Int:= [48,49,50,51,52,53,54,55,56,57,97,98,99,100,101,102,65,66,67,68,69,70]
def blank (r:Int):Bool:=decide (r∈blanks)
def hexd (r:Int):Bool:=decide (r∈hexes)
def ordy (r:Int):Bool:= !decide (r= -1)&& !decide (r∈specials)
def alnum (r:Int):Bool:=(decide (48<=r)&&decide (r<=57))||(decide (65<=r)&&decide (r<=90))||(decide (97<=r)&&decide (r<=122))
def skipW (f:Int->Bool) (l:List Int) (p:Nat):Nat:=p+((l.drop p).takeWhile f).length
theorem zeq {l:List Int}{p:Nat}(h:p<l.length):l[p]?=some (see l p):=by
 unfold see;rw[List.getElem?_eq_getElem h];rfl
theorem zgh {l:List Int}{p:Nat}(h:l.length<=p):see l p= -1:=by
 unfold see;rw[List.getElem?_eq_none h];rfl
theorem zhc {l:List Int}{p:Nat}{r:Int}(h:l[p]?=some r):see l p=r:=by unfold see;rw[h];rfl
theorem zci {f:Int->Bool}{l:List Int}:∀ {p k:Nat},p<=k->k<=l.length->(∀i,p<=i->i<k->f (see l i)=true)->f (see l k)=false->f (-1)=false->skipW f l p=k:=by
 intro p k hp hk h1 h2 _;obtain⟨n,rfl⟩:∃n,k=p+n:=⟨k - p,by omega⟩;clear hp
 induction n generalizing p with
 | zero =>
  unfold skipW
  by_cases hlt:p<l.length
  ·have:l.drop p=see l p::l.drop (p+1):=by
    rw[List.drop_eq_getElem_cons hlt];congr 1;have:=zeq hlt;rw[List.getElem?_eq_getElem hlt] at this;exact Option.some.inj this
   rw[this,List.takeWhile_cons,if_neg (by rw[show see l p=see l (p+0) from rfl,h2];simp)];rfl
  ·rw[List.drop_eq_nil_of_le (by omega)];rfl
 | succ n ih =>
  have hlt:p<l.length:=by omega
  have hd:l.drop p=see l p::l.drop (p+1):=by
   rw[List.drop_eq_getElem_cons hlt];congr 1;have:=zeq hlt;rw[List.getElem?_eq_getElem hlt] at this;exact Option.some.inj this
  have hi:=ih (p:=p+1) (by omega) (fun i h3 h4=>h1 i (by omega) (by omega)) (by rw[show p+1+n=p+(n+1) by omega];exact h2);unfold skipW at hi ⊢;rw[hd,List.takeWhile_cons,if_pos (h1 p qN (by omega)),List.length_cons];omega
theorem za0 (f:Int->Bool)(l:List Int)(p:Nat):p<=skipW f l p:=by unfold skipW;omega
theorem zgf {f:Int->Bool}{l:List Int}{p:Nat}(h:p<=l.length)(h0:f (-1)=false)(h2:f (see l p)=false):skipW f l p=p :=
 zci qN h (fun i h1 h2=>by omega) h2 h0
def hexOne (r:Int):Int:=if r<=57 then r - 48 else if r<=70 then r - 55 else r - 87
def hexN (l:List Int):Int:=l.foldl (fun x r=>16*x+hexOne r) 0
def cut (l:List Int) (p q:Nat):List Int:=(l.drop p).take (q - p)
def num (l:List Int) (p:Nat):Out Int :=
 if see l (p+1)≠123 then .bad 2 (p+1)
 else if skipW hexd l (p+2) - (p+2)<1∨6<skipW hexd l (p+2) - (p+2) then .bad 2 (p+2)
 else if see l (skipW hexd l (p+2))≠125 then .bad 2 (skipW hexd l (p+2))
 else if 1114111<hexN (cut l (p+2) (skipW hexd l (p+2))) then .bad 3 p
 else .ok (hexN (cut l (p+2) (skipW hexd l (p+2)))) (skipW hexd l (p+2)+1)
def esc (l:List Int) (p:Nat):Out Int :=
 if see l p=117 then num l p
 else if see l p=110 then .ok 10 (p+1)
 else if see l p=116 then .ok 9 (p+1)
 else if see l p= -1∨alnum (see l p)=true then .bad 2 p
 else .ok (see l p) (p+1)
def chr (l:List Int) (p:Nat):Out Int :=
 if see l p=92 then esc l (p+1)
 else if ordy (see l p)=true then .ok (see l p) (p+1)
 else .bad 2 p
def span (l:List Int) (p:Nat):Out Sp :=
 match chr l p with
 | .bad e q=> .bad e q
 | .ok lo q =>
  if see l q≠45∨see l (q+1)=91 then .ok (lo,lo) q
  else match chr l (q+1) with
   | .bad e r=> .bad e r
   | .ok hi r=>if hi<lo then .bad 3 (q+1) else .ok (lo,hi) r
def classOf (n:List Int):Option (List Sp) :=
 if n= [100,105,103,105,116] then some [(48,57)]
 else if n= [108,111,119,101,114] then some [(97,122),(223,246),(248,255)]
 else if n= [117,112,112,101,114] then some [(65,90),(192,214),(216,222)]
 else if n= [108,101,116,116,101,114] then some [(65,90),(97,122),(192,214),(216,246),(248,255)]
 else if n= [118,111,119,101,108] then some [(65,65),(69,69),(73,73),(79,79),(85,85),(97,97),(101,101),(105,105),(111,111),(117,117)]
 else if n= [103,114,101,101,107] then some [(880,1023)]
 else if n= [99,121,114,105,108,108,105,99] then some [(1024,1279)]
 else if n= [115,112,97,99,101] then some [(9,10),(32,32)]
 else if n= [97,110,121] then some [(0,1114111)]
 else none
def cls (l:List Int) (p:Nat):Out (List Sp) :=
 match classOf (cut l (p+2) (skipW ordy l (p+2))) with
 | none=> .bad 7 (p+2)
 | some s =>
  if see l (skipW ordy l (p+2))≠58 then .bad 2 (skipW ordy l (p+2))
  else if see l (skipW ordy l (p+2)+1)≠93 then .bad 2 (skipW ordy l (p+2)+1)
  else .ok s (skipW ordy l (p+2)+2)
noncomputable def made (P:Int->Bool) (p:Nat):Out (List Sp):=if 200<(S.nf P).length then .bad 5 p else .ok (S.nf P) p
noncomputable def part (sub:Nat->Out (List Sp)) (l:List Int) (s:List Sp) (p:Nat):Out (List Sp) :=
 if see l p=38 then
  match sub (skipW blank l (p+1)) with
  | .bad e q=> .bad e q
  | .ok t q=>made (S.andP s t) q
 else if see l p=45 then
  match sub (skipW blank l (p+1)) with
  | .bad e q=> .bad e q
  | .ok t q=>made (S.minP s t) q
 else if see l p=91/\see l (p+1)=58 then
  match cls l p with
  | .bad e q=> .bad e q
  | .ok t q=>made (S.orP s t) q
 else if see l p=91 then
  match sub p with
  | .bad e q=> .bad e q
  | .ok t q=>made (S.orP s t) q
 else
  match span l p with
  | .bad e q=> .bad e q
  | .ok x q=>made (S.orP s [x]) q
noncomputable def loop:Nat->(Nat->Out (List Sp))->List Int->List Sp->Nat->Out (List Sp)
 | 0,_,_,_,p=> .bad 0 p
 | f+1,sub,l,s,p =>
  if see l p=93 then .ok s (p+1)
  else match part sub l s p with
   | .bad e q=> .bad e q
   | .ok t q=>loop f sub l t (skipW blank l q)
noncomputable def setN:Nat->List Int->Nat->Out (List Sp)
 | 0,l,p=>if see l p≠91 then .bad 2 p else .bad 4 p
 | n+1,l,p =>
  if see l p≠91 then .bad 2 p
  else if see l (p+1)=94 then
   match loop (l.length+1) (setN n l) l [] (skipW blank l (p+2)) with
   | .bad e q=> .bad e q
   | .ok s q=>made (S.notP s) q
  else loop (l.length+1) (setN n l) l [] (skipW blank l (p+1))
noncomputable def whole (l:List Int):Out (List Sp) :=
 match setN 20 l (skipW blank l 0) with
 | .bad e q=> .bad e q
 | .ok s q=>if see l (skipW blank l q)= -1 then .ok s q else .bad 2 (skipW blank l q)
noncomputable def read (l:List Int):Out (List Sp):=if 4000<l.length then .bad 4 0 else whole l
def dig (d:Nat):UInt8:=if d<10 then UInt8.ofNat (48+d) else UInt8.ofNat (87+d)
def hexL (n:Nat):List UInt8:=if n<16 then [dig n] else hexL (n / 16)++ [dig (n % 16)]
termination_by n
decreasing_by omega
def plain (r:Int):Bool:=alnum r||(M.right r&&decide (126<r))
def quo (r:Int):List UInt8:=if plain r=true then M.enc r else [92,117,123]++hexL r.toNat++ [125]
def one (x:Sp):List UInt8:=quo x.1++if x.1<x.2 then [45]++quo x.2 else []
def inner (s:List Sp):List UInt8:=s.flatMap one
def prt (s:List Sp):List UInt8:= [91]++inner s++ [93]
end T
namespace R
open S (Sp)
structure Item where
 kind:Int
 rune:Int
 set:List Sp
 name:ByteArray
structure Side where
 start:Bool
 fin:Bool
 before:List Item
 source:List Item
 after:List Item
 cursor:Int
structure Part where
 kind:Int
 name:ByteArray
 set:List Sp
 dir:Int
 left:Side
 right:Side
def letter (r:Int):Bool:=(decide (97<=r)&&decide (r<=122))||decide (r=95)
def digit (r:Int):Bool:=decide (48<=r)&&decide (r<=57)
def good (i:Nat) (b:UInt8):Bool:=letter b.toNat||(decide (i≠0)&&digit b.toNat)
def goodFrom:Nat->List UInt8->Bool
 | _,[]=>true
 | i,b::l=>good i b&&goodFrom (i+1) l
def named (s:ByteArray):Bool:=goodFrom 0 s.data.toList&&decide (0<s.size)&&decide (s.size<=20)
def passes (s:ByteArray):Bool:=decide (s.toList= [108,111,119,101,114]∨s.toList= [110,117,108,108]∨s.toList= [114,101,109,111,118,101]∨s.toList= [117,112,112,101,114])
def itemE (x:Item):Int :=
 if x.kind=1 then (if M.right x.rune=true then 0 else 3)
 else if x.kind=2 then S.wrongE x.set
 else if x.kind=3 then (if named x.name=true then 0 else 7)
 else 1
def firstE:List Int->Int
 | []=>0
 | e::l=>if e=0 then firstE l else e
def itemsE (l:List Item):Int:=if 20<l.length then 5 else firstE (l.map itemE)
def sideE (s:Side) (must:Bool):Int :=
 if itemsE s.before≠0 then itemsE s.before
 else if itemsE s.source≠0 then itemsE s.source
 else if itemsE s.after≠0 then itemsE s.after
 else if s.cursor< -1∨(s.source.length:Int)<s.cursor then 3
 else if must=true/\s.source.length=0 then 6
 else 0
def gives (s:Side):Bool:=s.source.all fun x=>decide (x.kind=1)
def around (s:Side):Bool:=s.start||s.fin||decide (0<s.before.length)||decide (0<s.after.length)
def fits (p:Part):Bool :=
 if p.dir=1 then gives p.right&& !around p.right&&decide (p.left.cursor<0)
 else if p.dir=2 then gives p.left&& !around p.left&&decide (p.right.cursor<0)
 else gives p.left&&gives p.right
def ruleE (p:Part):Int :=
 if p.dir≠1/\p.dir≠2/\p.dir≠3 then 1
 else if sideE p.left (decide (p.dir≠2))≠0 then sideE p.left (decide (p.dir≠2))
 else if sideE p.right (decide (p.dir≠1))≠0 then sideE p.right (decide (p.dir≠1))
 else if fits p=true then 0 else 8
def partE (p:Part):Int :=
 if p.kind=1 then (if named p.name=true then S.wrongE p.set else 7)
 else if p.kind=3 then S.wrongE p.set
 else if p.kind=4 then (if passes p.name=true then 0 else 7)
 else if p.kind=2 then ruleE p
 else 1
def firstW:Nat->List Part->Int×Nat
 | _,[]=>(0,0)
 | i,p::l=>if partE p=0 then firstW (i+1) l else (partE p,i)
def wrong (l:List Part):Int×Nat:=if 200<l.length then (5,0) else firstW 0 l
def setB (s:List Sp):List UInt8:=if S.wrongE s=0 then T.prt s else []
def itemB (x:Item):List UInt8 :=
 if x.kind=2 then setB x.set
 else if x.kind=3 then 36::x.name.data.toList
 else T.quo x.rune
def bar:List UInt8:= [124,32]
def itemsB:List Item->Int->List UInt8
 | [],c=>if c=0 then bar else []
 | x::l,c=>(if c=0 then bar else [])++(itemB x++ [32])++itemsB l (c - 1)
def sideB (s:Side):List UInt8 :=
 (if s.start=true then [94,32] else [])++itemsB s.before (-1)++(if s.start=true∨0<s.before.length then [123,32] else []) ++
  itemsB s.source s.cursor++(if s.fin=true∨0<s.after.length then [125,32] else [])++itemsB s.after (-1)++(if s.fin=true then [36,32] else [])
def arrowB (d:Int):List UInt8:=if d=1 then [62] else if d=2 then [60] else [60,62]
def wordsB (p:Part):List UInt8 :=
 if p.kind=1 then (36::p.name.data.toList)++ [32]++ [61,32]++(setB p.set++ [32])
 else if p.kind=3 then [58,58,32]++(setB p.set++ [32])
 else if p.kind=4 then [58,58,32]++(p.name.data.toList++ [32])
 else if p.kind=2 then sideB p.left++(arrowB p.dir++ [32])++sideB p.right
 else []
def partB (p:Part):List UInt8:=wordsB p++ [59,10]
def printB (l:List Part):List UInt8:=l.flatMap partB
theorem zdk {l:List Int}:firstE l=0↔∀e∈l,e=0:=by
 induction l with
 | nil=>simp[firstE]
 | cons e l ih =>
  rw[firstE]
  by_cases h:e=0
  ·simp[h,ih]
  ·simp[h]
theorem zbw {l:List Item}:itemsE l=0↔l.length<=20/\∀x∈l,itemE x=0:=by
 unfold itemsE
 by_cases h:20<l.length
 ·rw[if_pos h];constructor
  ·intro h;cases h
  ·intro h;omega
 ·rw[if_neg h,zdk];constructor
  ·intro h';exact⟨by omega,fun x hx=>h' _ (List.mem_map.2 ⟨x,hx,rfl⟩)⟩
  ·rintro ⟨_,h'⟩ e he;obtain⟨x,hx,rfl⟩:=List.mem_map.1 he;exact h' x hx
theorem zkm {l:List Item}{k:Nat}{x:Item}(hx:l[k]?=some x):firstE ((l.drop k).map itemE)=if itemE x=0 then firstE ((l.drop (k+1)).map itemE) else itemE x:=by
 have hlt:=(qL.1 hx).1;rw[List.drop_eq_getElem_cons hlt];have:l[k]=x:=by rw[List.getElem?_eq_getElem hlt] at hx;exact Option.some.inj hx
 rw[this];rfl
theorem zkw {l:List Part}{k:Nat}{x:Part}(hx:l[k]?=some x):firstW k (l.drop k)=if partE x=0 then firstW (k+1) (l.drop (k+1)) else (partE x,k):=by
 have hlt:=(qL.1 hx).1;rw[List.drop_eq_getElem_cons hlt];have:l[k]=x:=by rw[List.getElem?_eq_getElem hlt] at hx;exact Option.some.inj hx
 rw[this];rfl
theorem zkv {l:List Part}:∀ {i:Nat},(firstW i l).1=0->(∀p∈l,partE p=0)/\firstW i l=(0,0):=by
 induction l with
 | nil=>intro i _;exact⟨by simp,rfl⟩
 | cons p l ih =>
  intro i h;rw[firstW] at h ⊢
  by_cases hp:partE p=0
  ·rw[if_pos hp] at h ⊢;have:=ih h;exact⟨fun q hq=>by rcases List.mem_cons.1 hq with rfl | hq;exact hp;exact this.1 q hq,this.2⟩
  ·rw[if_neg hp] at h;exact absurd h hp
theorem zf8 {l:List Part}(h:(wrong l).1=0):l.length<=200/\(∀p∈l,partE p=0)/\wrong l=(0,0):=by
 unfold wrong at h ⊢
 by_cases hb:200<l.length
 ·rw[if_pos hb] at h;cases h
 ·rw[if_neg hb] at h ⊢;have:=zkv h;exact⟨by omega,this.1,this.2⟩
theorem zct {s:Side}{m:Bool}(h:sideE s m=0):itemsE s.before=0/\itemsE s.source=0/\itemsE s.after=0/\ -1<=s.cursor/\s.cursor<=s.source.length:=by
 unfold sideE at h
 by_cases h1:itemsE s.before=0
 ·rw[if_neg (by simp[h1])] at h
  by_cases h2:itemsE s.source=0
  ·rw[if_neg (by simp[h2])] at h
   by_cases h3:itemsE s.after=0
   ·rw[if_neg (by simp[h3])] at h
    by_cases h4:s.cursor< -1∨(s.source.length:Int)<s.cursor
    ·rw[if_pos h4] at h;cases h
    ·exact⟨h1,h2,h3,by omega,by omega⟩
   ·rw[if_pos h3] at h;exact absurd h h3
  ·rw[if_pos h2] at h;exact absurd h h2
 ·rw[if_pos h1] at h;exact absurd h h1
theorem zau {p:Part}(h:ruleE p=0):(p.dir=1∨p.dir=2∨p.dir=3)/\sideE p.left (decide (p.dir≠2))=0/\sideE p.right (decide (p.dir≠1))=0/\fits p=true:=by
 unfold ruleE at h
 by_cases h1:p.dir≠1/\p.dir≠2/\p.dir≠3
 ·rw[if_pos h1] at h;cases h
 ·rw[if_neg h1] at h
  by_cases h2:sideE p.left (decide (p.dir≠2))=0
  ·rw[if_neg (by rw[h2];simp)] at h
   by_cases h3:sideE p.right (decide (p.dir≠1))=0
   ·rw[if_neg (by rw[h3];simp)] at h
    by_cases h4:fits p=true
    ·exact⟨by omega,h2,h3,h4⟩
    ·rw[if_neg h4] at h;cases h
   ·rw[if_pos h3] at h;exact absurd h h3
  ·rw[if_pos h2] at h;exact absurd h h2
end R
namespace R
open Go.RowKit
def I64 (n:Int):Prop:= -9223372036854775808<=n/\n<=9223372036854775807
def Its (w:World) (v:Value) (l:List Item):Prop :=
 ∃ao cap,v= .slice ao l.length cap/\(l≠ []->∃b off,ao=some ⟨b,off,none⟩/\∀j x,l[j]?=some x ->
  w.cell? ⟨b,off+j*4,none⟩=some (.int .i64 x.kind)/\w.cell? ⟨b,off+j*4+1,none⟩=some (.int .i32 x.rune)/\w.cell? ⟨b,off+j*4+3,none⟩=some (.string x.name) /\
  (∃so sc,w.cell? ⟨b,off+j*4+2,none⟩=some (.slice so x.set.length sc)/\S.Rd w (.slice so x.set.length sc) x.set)/\S.Fit x.set/\x.name.size<=140737488355328)
def SdIs (w:World) (v:Value) (s:Side):Prop :=
 ∃bo bc so sc ao ac,v= .agg #[.bool s.start,.bool s.fin,.slice bo s.before.length bc,.slice so s.source.length sc,.slice ao s.after.length ac,.int .i64 s.cursor] /\
  Its w (.slice bo s.before.length bc) s.before/\Its w (.slice so s.source.length sc) s.source/\Its w (.slice ao s.after.length ac) s.after/\I64 s.cursor
def PtIs (w:World) (v:Value) (p:Part):Prop :=
 ∃so sc v4 v5 v6 v7 v8 v9 v10 v11 v12 v13 v14 v15,v= .agg #[.int .i64 p.kind,.string p.name,.slice so p.set.length sc,.int .i64 p.dir,v4,v5,v6,v7,v8,v9,v10,v11,v12,v13,v14,v15] /\
  S.Rd w (.slice so p.set.length sc) p.set/\S.Fit p.set/\SdIs w (.agg #[v4,v5,v6,v7,v8,v9]) p.left/\SdIs w (.agg #[v10,v11,v12,v13,v14,v15]) p.right/\p.name.size<=140737488355328/\I64 p.dir
def Pts (w:World) (v:Value) (l:List Part):Prop :=
 ∃ao cap,v= .slice ao l.length cap/\(l≠ []->∃b off,ao=some ⟨b,off,none⟩/\∀j p,l[j]?=some p ->
  ∃so sc lbo lbc lso lsc lao lac rbo rbc rso rsc rao rac,
   w.cell? ⟨b,off+j*16,none⟩=some (.int .i64 p.kind) /\
   w.cell? ⟨b,off+j*16+1,none⟩=some (.string p.name) /\
   w.cell? ⟨b,off+j*16+2,none⟩=some (.slice so p.set.length sc) /\
   w.cell? ⟨b,off+j*16+3,none⟩=some (.int .i64 p.dir) /\
   w.cell? ⟨b,off+j*16+4,none⟩=some (.bool p.left.start) /\
   w.cell? ⟨b,off+j*16+5,none⟩=some (.bool p.left.fin) /\
   w.cell? ⟨b,off+j*16+6,none⟩=some (.slice lbo p.left.before.length lbc) /\
   w.cell? ⟨b,off+j*16+7,none⟩=some (.slice lso p.left.source.length lsc) /\
   w.cell? ⟨b,off+j*16+8,none⟩=some (.slice lao p.left.after.length lac) /\
   w.cell? ⟨b,off+j*16+9,none⟩=some (.int .i64 p.left.cursor) /\
   w.cell? ⟨b,off+j*16+10,none⟩=some (.bool p.right.start) /\
   w.cell? ⟨b,off+j*16+11,none⟩=some (.bool p.right.fin) /\
   w.cell? ⟨b,off+j*16+12,none⟩=some (.slice rbo p.right.before.length rbc) /\
   w.cell? ⟨b,off+j*16+13,none⟩=some (.slice rso p.right.source.length rsc) /\
   w.cell? ⟨b,off+j*16+14,none⟩=some (.slice rao p.right.after.length rac) /\
   w.cell? ⟨b,off+j*16+15,none⟩=some (.int .i64 p.right.cursor) /\
   PtIs w (.agg #[.int .i64 p.kind,.string p.name,.slice so p.set.length sc,.int .i64 p.dir,.bool p.left.start,.bool p.left.fin,.slice lbo p.left.before.length lbc,.slice lso p.left.source.length lsc,.slice lao p.left.after.length lac,.int .i64 p.left.cursor,.bool p.right.start,.bool p.right.fin,.slice rbo p.right.before.length rbc,.slice rso p.right.source.length rsc,.slice rao p.right.after.length rac,.int .i64 p.right.cursor]) p)
theorem Its.nil (w:World):Its w (.slice none 0 0) []:=⟨none,0,rfl,fun h=>absurd rfl h⟩
theorem Its.len {w:World}{v:Value}{l:List Item}(h:Its w v l):∃ao cap,v= .slice ao l.length cap:=by
 obtain⟨ao,cap,rfl,_⟩:=h;exact⟨ao,cap,rfl⟩
theorem Pts.len {w:World}{v:Value}{l:List Part}(h:Pts w v l):∃ao cap,v= .slice ao l.length cap:=by
 obtain⟨ao,cap,rfl,_⟩:=h;exact⟨ao,cap,rfl⟩
def Keeps (w w':World):Prop:=∀b o u,w.cell? ⟨b,o,none⟩=some u->w'.cell? ⟨b,o,none⟩=some u
theorem Keeps.of_below {w w':World}{B:Nat}(hb:Below B w w')(hB:w.heap.size<=B):Keeps w w':=fun b o u hu=>by
 have:=L.block_lt hu;rw[hb.cell (p:=⟨b,o,none⟩) (by show b<B;omega)];exact hu
theorem Keeps.trans {w w1 w2:World}(h:Keeps w w1)(h':Keeps w1 w2):Keeps w w2:=fun b o u hu=>h' b o u (h b o u hu)
theorem zcu {w w':World}{v:Value}{l:List S.Sp}(h:S.Rd w v l)(k:Keeps w w'):S.Rd w' v l:=h.cells fun b o u hu _=>k b o u hu
theorem Its.keeps {w w':World}{v:Value}{l:List Item}(h:Its w v l)(k:Keeps w w'):Its w' v l:=by
 obtain⟨ao,cap,rfl,h⟩:=h;refine⟨ao,cap,rfl,fun hz=> ?_⟩;obtain⟨b,off,rfl,hc⟩:=h hz;refine⟨b,off,rfl,fun j x hj=> ?_⟩;obtain⟨h1,h2,h3,⟨so,sc,h4,h5⟩,h6⟩:=hc j x hj;exact⟨k _ _ _ h1,k _ _ _ h2,k _ _ _ h3,⟨so,sc,k _ _ _ h4,zcu h5 k⟩,h6⟩
theorem SdIs.keeps {w w':World}{v:Value}{s:Side}(h:SdIs w v s)(k:Keeps w w'):SdIs w' v s:=by
 obtain⟨bo,bc,so,sc,ao,ac,rfl,h1,h2,h3,h4⟩:=h;exact⟨bo,bc,so,sc,ao,ac,rfl,h1.keeps k,h2.keeps k,h3.keeps k,h4⟩
theorem PtIs.keeps {w w':World}{v:Value}{p:Part}(h:PtIs w v p)(k:Keeps w w'):PtIs w' v p:=by
 obtain⟨so,sc,v4,v5,v6,v7,v8,v9,v10,v11,v12,v13,v14,v15,rfl,h1,h2,h3,h4,h5⟩:=h;exact⟨so,sc,v4,v5,v6,v7,v8,v9,v10,v11,v12,v13,v14,v15,rfl,zcu h1 k,h2,h3.keeps k,h4.keeps k,h5⟩
theorem Pts.keeps {w w':World}{v:Value}{l:List Part}(h:Pts w v l)(k:Keeps w w'):Pts w' v l:=by
 obtain⟨ao,cap,rfl,h⟩:=h;refine⟨ao,cap,rfl,fun hz=> ?_⟩;obtain⟨b,off,rfl,hc⟩:=h hz;refine⟨b,off,rfl,fun j p hj=> ?_⟩;obtain⟨so,sc,lbo,lbc,lso,lsc,lao,lac,rbo,rbc,rso,rsc,rao,rac,c0,c1,c2,c3,c4,c5,c6,c7,c8,c9,c10,c11,c12,c13,c14,c15,hp⟩:=hc j p hj;exact⟨so,sc,lbo,lbc,lso,lsc,lao,lac,rbo,rbc,rso,rsc,rao,rac,k _ _ _ c0,k _ _ _ c1,k _ _ _ c2,k _ _ _ c3,k _ _ _ c4,k _ _ _ c5,k _ _ _ c6,k _ _ _ c7,k _ _ _ c8,k _ _ _ c9,k _ _ _ c10,k _ _ _ c11,k _ _ _ c12,k _ _ _ c13,k _ _ _ c14,k _ _ _ c15,hp.keeps k⟩
theorem Its.below {w w':World}{v:Value}{l:List Item}(h:Its w v l)(hb:Below w.heap.size w w'):Its w' v l:=h.keeps (Keeps.of_below hb qN)
theorem SdIs.below {w w':World}{v:Value}{s:Side}(h:SdIs w v s)(hb:Below w.heap.size w w'):SdIs w' v s:=h.keeps (Keeps.of_below hb qN)
theorem PtIs.below {w w':World}{v:Value}{p:Part}(h:PtIs w v p)(hb:Below w.heap.size w w'):PtIs w' v p:=h.keeps (Keeps.of_below hb qN)
theorem Pts.below {w w':World}{v:Value}{l:List Part}(h:Pts w v l)(hb:Below w.heap.size w w'):Pts w' v l:=h.keeps (Keeps.of_below hb qN)
theorem Keeps.alloc (w:World)(o:Obj):Keeps w (w.alloc o):=Keeps.of_below ((qR w).alloc qN o) qN
theorem PtIs.open {w:World}{v:Value}{p:Part}(h:PtIs w v p):∃so sc lbo lbc lso lsc lao lac rbo rbc rso rsc rao rac,
  v= .agg #[.int .i64 p.kind,.string p.name,.slice so p.set.length sc,.int .i64 p.dir,.bool p.left.start,.bool p.left.fin,.slice lbo p.left.before.length lbc,.slice lso p.left.source.length lsc,.slice lao p.left.after.length lac,.int .i64 p.left.cursor,
   .bool p.right.start,.bool p.right.fin,.slice rbo p.right.before.length rbc,.slice rso p.right.source.length rsc,.slice rao p.right.after.length rac,.int .i64 p.right.cursor] /\
  S.Rd w (.slice so p.set.length sc) p.set/\S.Fit p.set /\
  SdIs w (.agg #[.bool p.left.start,.bool p.left.fin,.slice lbo p.left.before.length lbc,.slice lso p.left.source.length lsc,.slice lao p.left.after.length lac,.int .i64 p.left.cursor]) p.left /\
  SdIs w (.agg #[.bool p.right.start,.bool p.right.fin,.slice rbo p.right.before.length rbc,.slice rso p.right.source.length rsc,.slice rao p.right.after.length rac,.int .i64 p.right.cursor]) p.right /\
  p.name.size<=140737488355328/\I64 p.dir:=by
 obtain⟨so,sc,v4,v5,v6,v7,v8,v9,v10,v11,v12,v13,v14,v15,rfl,h1,h2,h3,h4,h5,h6⟩:=h;have k3:=h3;have k4:=h4;obtain⟨lbo,lbc,lso,lsc,lao,lac,he,_⟩:=k3;obtain⟨rbo,rbc,rso,rsc,rao,rac,hf,_⟩:=k4;simp only[Value.agg.injEq,Array.mk.injEq,List.cons.injEq,and_true] at he hf;obtain⟨rfl,rfl,rfl,rfl,rfl,rfl⟩:=he;obtain⟨rfl,rfl,rfl,rfl,rfl,rfl⟩:=hf;exact⟨so,sc,lbo,lbc,lso,lsc,lao,lac,rbo,rbc,rso,rsc,rao,rac,rfl,h1,h2,h3,h4,h5,h6⟩
end R
