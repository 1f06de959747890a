import Derived.Test.YtcadaallpiekiaaGreatDoorShText
import Derived.Laws.Cover4
set_option maxHeartbeats 0
namespace Go.Proofs.YtcadaallpiekiaaGreatDoor
open Go.Proofs.Tryz
section
open Go.RowKit
set_option maxRecDepth 40000
set_option linter.unusedSimpArgs false
set_option linter.unusedVariables false
theorem zgi (name:ByteArray)(w:World):Calls prog 5 #[.string name] w fun e w'=>e=.returned (.tuple #[.string (Sh.textF name).1,.int .i64 (Sh.textF name).2])/\Bl w w':=by
 obtain⟨X,hX⟩:=qE (w.alloc (.cells #[.string name] 9));have k1:=K.zau (w:=w) (qR (w.alloc (.cells #[.string name] 9)));rw[<- hX] at k1;have HX:Hid (X.heap[w.heap.size]?=some (.cells #[.string name] 9)/\Bl w X/\w.heap.size+1<=X.heap.size):=k1;have HF:Hid (Calls prog 22 #[] X fun e w'=>∃v,e=.returned v/\Sh.Fs w' v Sh.row/\Bl X w'):=zfg X
 have HI:Hid (∀Y v,Bl X Y->Sh.Fs Y v Sh.row->Calls prog 23 #[v,.func (.func 24) #[] #[.pointer (some ⟨w.heap.size,0,none⟩)]] Y fun e w'=>∃i:Int,e=.returned (.int .i64 i)/\((i= -1/\Sh.row.find? (fun x=>x.1.toList==name.toList)=none)∨∃(j:Nat) (x:ByteArray×ByteArray),i=j/\Sh.row[j]?=some x/\Sh.row.find? (fun x=>x.1.toList==name.toList)=some x)/\Bl Y w'):=fun Y v hY hv =>
  zj4 Y v Sh.row hv 24 _ (fun x=>x.1.toList==name.toList) (fun _ _=>rfl) fun W x hW=>zj3 W w.heap.size name x.1 x.2 (K.zae (K.zae HX.out.1 hY) hW)
 have HO:Hid ((Sh.row.find? (fun x=>x.1.toList==name.toList)=none->Sh.textF name=(⟨#[]⟩,7))/\∀x,Sh.row.find? (fun x=>x.1.toList==name.toList)=some x->Sh.textF name=(x.2,0)):=Sh.zrm name;generalize Sh.textF name=tf at HO ⊢;generalize Sh.row=rw0 at HF HI HO;clear k1
 go_enter func5,ntmps5
 go_wp2_with fail
 rw[<- hX];refine HF.out.mono ?_;clear hX HF;rintro e w1 ⟨v1,rfl,hv1,b1⟩;have hI:=HI.out w1 v1 b1 hv1;have HB1:Hid (Bl w w1):=HX.out.2.1.trans (b1.mono (by have:=HX.out.2.2;omega));have HV:Hid (Sh.Fs w1 v1 rw0):=hv1;obtain⟨fb,rfl,hln,_⟩:=hv1;clear HI b1
 go_wp2_with fail
 refine hI.mono ?_;clear hI;rintro e w2 ⟨i,rfl,hi,b2⟩;have HB2:Hid (Bl w w2):=HB1.out.trans (b2.mono HB1.out.size);obtain⟨fb',e',_,hc⟩:=HV.out.below b2;cases e';rcases hi with ⟨rfl,hf⟩|⟨j,x,rfl,hj,hf⟩
 ·have h:=HO.out.1 hf;subst h;clear hc b2 HV HO hf;go_wp2;refine bodyPost_ret (v:=.tuple #[.string ⟨#[]⟩,.int .i64 7]) (by simp[results,results5,go_sem, *]) rfl ?_;exact⟨rfl,HB2.out⟩
 ·have h:=HO.out.2 _ hf;subst h;obtain⟨c0,c1⟩:=hc j x hj;have hlt:=(qL.1 hj).1;obtain⟨xn,xt⟩:=x;simp only at c0 c1 ⊢;clear hc b2 HV HO hf hj;go_wp2;refine bodyPost_ret (v:=.tuple #[.string xt,.int .i64 0]) (by simp[results,results5,go_sem, *]) rfl ?_;exact⟨rfl,HB2.out⟩
end
namespace S
theorem zk4 (P:Int->Bool)(n:Nat)(hn:n<=1114112):∃s,Nf 0 s/\(∀q,memb s q=(decide (0<=q)&&decide (q<n)&&P q)):=by
 induction n with
 | zero=>exact⟨[],trivial,fun q=>by
   have:(decide (0<=q)&&decide (q<((0:Nat):Int)))=false:=by simp
   rw[this,zbt];simp⟩
 | succ n ih =>
  obtain⟨s,h1,h2⟩:=ih (by omega)
  have ends:∀p∈s,p.1<=p.2/\p.2<n:=fun p hp=>by
   have h3:=h1.mem hp;have h4:memb s p.2=true:=za9.2 ⟨p,hp,by omega,by omega⟩;rw[h2] at h4;simp at h4;omega
  cases hP:P n with
  | true =>
   have hj:=zl2 (x:=((n:Int),(n:Int))) h1 (by simp only;omega) (by simp only;omega) (by simp only;omega) fun p hp=>by
    have:=ends p (List.mem_of_getLast? hp);simp only;omega
   refine⟨_,hj.1,fun q=> ?_⟩;rw[hj.2,h2];simp only
   by_cases hq:q=n
   ·subst hq;simp[hP];omega
   ·have e1:(decide ((n:Int)<=q)&&decide (q<=(n:Int)))=false:=by simp;omega
    have e2:decide (q<(n:Int))=decide (q<((n+1:Nat):Int)):=by apply zes;simp;omega
    rw[e1,e2,Bool.or_false]
  | false =>
   refine⟨s,h1,fun q=> ?_⟩;rw[h2]
   by_cases hq:q=n
   ·subst hq;simp[hP]
   ·have e2:decide (q<(n:Int))=decide (q<((n+1:Nat):Int)):=by apply zes;simp;omega
    rw[e2]
theorem zql {P:Int->Bool}(h:∀q,P q=(inR q&&P q)):∃s,Is P s:=by
 obtain⟨s,h1,h2⟩:=zk4 P 1114112 (by omega);refine⟨s,h1,fun q=> ?_⟩;rw[h2,h q]
 have:(decide (0<=q)&&decide (q<((1114112:Nat):Int)))=inR q:=by
  apply zes;simp[inR];omega
 rw[this];cases inR q <;> simp
theorem zvp {P:Int->Bool}(h:∀q,P q=(inR q&&P q)):Nf 0 (nf P)/\memb (nf P)=P:=by
 have:=zvb (zql h);exact⟨this.1,funext this.2⟩
theorem zpv (a b:List Sp)(q:Int):orP a b q=(inR q&&orP a b q):=by unfold orP;cases inR q <;> simp
theorem zu1 (a b:List Sp)(q:Int):andP a b q=(inR q&&andP a b q):=by unfold andP;cases inR q <;> simp
theorem zuj (a b:List Sp)(q:Int):minP a b q=(inR q&&minP a b q):=by unfold minP;cases inR q <;> simp
theorem zuh (a:List Sp)(q:Int):notP a q=(inR q&&notP a q):=by unfold notP;cases inR q <;> simp
noncomputable def U (a b:List Sp):List Sp:=nf (orP a b)
noncomputable def I (a b:List Sp):List Sp:=nf (andP a b)
noncomputable def D (a b:List Sp):List Sp:=nf (minP a b)
noncomputable def C (a:List Sp):List Sp:=nf (notP a)
theorem zbf {a:List Sp}(h:Nf 0 a)(hl:a.length<=200):wrongE a=0:=zan.2 ⟨hl,h⟩
theorem zt1 {P:Int->Bool}(h:(nf P).length<=200):resL 0 0 P=nf P:=by
 unfold resL fewL;simp;omega
theorem zt2 {P:Int->Bool}(h:(nf P).length<=200):resE 0 0 P=0:=by
 unfold resE fewE;simp;omega
def cnt (P:Int->Bool):Nat->Nat
 | 0=>0
 | n+1=>cnt P n+if P n=true then 1 else 0
def total:List Sp->Int
 | []=>0
 | x::l=>(x.2-x.1+1)+total l
def nthF:List Sp->Int->Option Int
 | [],_=>none
 | x::l,k=>if k<x.2-x.1+1 then some (x.1+k) else nthF l (k-(x.2-x.1+1))
end S
namespace M
def bt (L:List UInt8) (k:Nat):Nat:=(L[k]?.getD 0).toNat
def d0 (L:List UInt8):Nat×Nat:=Lib.decodeN L.length (bt L 0) (bt L 1) (bt L 2) (bt L 3)
theorem zs9 (L:List UInt8)(k:Nat):bt L k<256:=(L[k]?.getD 0).toNat_lt
theorem get!_eq (s:ByteArray)(i:Nat):s.get! i=s.data.toList[i]?.getD 0:=by
 have h:s.get! i=s.data[i]! := rfl;rw[h,getElem!_def,Array.getElem?_toList];cases s.data[i]? <;> rfl
theorem zf2 (s:ByteArray)(i:Nat):Utf8.decode s i=d0 (s.data.toList.drop i):=by
 have hl:(s.data.toList.drop i).length=s.size-i:=by rw[List.length_drop,Array.length_toList];rfl
 rw[Lib.decode_at,d0,hl];simp only[bt,List.getElem?_drop,get!_eq,Nat.add_zero]
def rl:Nat->List UInt8->List (Nat×Nat)
 | 0,_=> []
 | n+1,L=>if L= [] then [] else d0 L::rl n (L.drop (d0 L).2)
theorem zlt (n:Nat):rl n []= []:=by cases n <;> simp[rl]
theorem zhz (L:List UInt8)(h:L≠ []):1<=(d0 L).2/\(d0 L).2<=4/\(d0 L).2<=L.length:=by
 have hl:1<=L.length:=by cases L with
  | nil=>exact absurd rfl h
  | cons=>simp
 unfold d0 Lib.decodeN
 repeat' split
 all_goals simp only
 all_goals omega
theorem zo9:∀(n m:Nat) (L:List UInt8),L.length<=n->L.length<=m->rl n L=rl m L
 | 0,m,L,hn,_=>by
  have:L= []:=List.eq_nil_of_length_eq_zero (by omega);subst this;rw[zlt,zlt]
 | n+1,0,L,_,hm=>by
  have:L= []:=List.eq_nil_of_length_eq_zero (by omega);subst this;rw[zlt,zlt]
 | n+1,m+1,L,hn,hm=>by
  by_cases h:L= []
  ·simp[rl,h]
  ·have hw:=zhz L h;have hd:(L.drop (d0 L).2).length=L.length-(d0 L).2:=List.length_drop;simp only[rl,h,if_false];rw[zo9 n m (L.drop (d0 L).2) (by omega) (by omega)]
def ru (L:List UInt8):List (Nat×Nat):=rl L.length L
theorem zu4:ru []= []:=rfl
theorem zhn (L:List UInt8)(h:L≠ []):ru L=d0 L::ru (L.drop (d0 L).2):=by
 have hw:=zhz L h;have hd:(L.drop (d0 L).2).length=L.length-(d0 L).2:=List.length_drop;unfold ru;obtain⟨n,hn⟩:∃n,L.length=n+1:=⟨L.length-1,by omega⟩;rw[hn];simp only[rl,h,if_false];rw[zo9 n (L.drop (d0 L).2).length _ (by omega) (by omega)]
theorem zu5 {P:List UInt8->Prop}(h0:P [])(h1:∀L,L≠ []->P (L.drop (d0 L).2)->P L):∀L,P L:=by
 have:∀n (L:List UInt8),L.length<=n->P L:=by
  intro n
  induction n with
  | zero=>intro L hL;have:L= []:=List.eq_nil_of_length_eq_zero (by omega);subst this;exact h0
  | succ n ih =>
   intro L hL
   by_cases h:L= []
   ·subst h;exact h0
   ·have hw:=zhz L h;exact h1 L h (ih _ (by rw[List.length_drop];omega))
 exact fun L=>this L.length L qN
theorem zlq (s:ByteArray):∀(b pos:Nat),s.size<=pos+b->(steps s b pos).map (fun x=>x.2)=(ru (s.data.toList.drop pos)).map (fun x=>x.1)
 | 0,pos,h=>by
  have hl:(s.data.toList.drop pos).length=s.size-pos:=by rw[List.length_drop,Array.length_toList];rfl
  have:s.data.toList.drop pos= []:=List.eq_nil_of_length_eq_zero (by omega);rw[this];rfl
 | b+1,pos,h=>by
  have hl:(s.data.toList.drop pos).length=s.size-pos:=by rw[List.length_drop,Array.length_toList];rfl
  by_cases hp:pos<s.size
  ·have hw:=width_pos s pos hp;have hne:s.data.toList.drop pos≠ []:=by intro e;rw[e] at hl;simp at hl;omega
   simp only[steps,hp,if_true,List.map_cons];rw[zlq s b _ (by omega),zhn _ hne,zf2,List.drop_drop,List.map_cons]
  ·rw[zib s _ pos hp];have:s.data.toList.drop pos= []:=List.eq_nil_of_length_eq_zero (by omega);rw[this];rfl
theorem zu8 (s:ByteArray):rn s=(ru s.data.toList).map (fun x=>(x.1:Int)):=by
 have h:=zlq s s.size 0 (by omega);rw[List.drop_zero] at h;have h2:=congrArg (List.map (fun n:Nat=>(n:Int))) h;rw[List.map_map,List.map_map] at h2;exact h2
def bad (x:Nat×Nat):Bool:=x.1==65533&&x.2==1
def sp (L:List UInt8):Nat:=((ru L).filter bad).length
theorem ztu (L:List UInt8)(h:L≠ []):sp L=(if bad (d0 L) then 1 else 0)+sp (L.drop (d0 L).2):=by
 unfold sp;rw[zhn L h,List.filter_cons];split <;> simp <;> omega
end M
namespace M
def enc (r:Int):List UInt8:=(Utf8.encode r).data.toList
theorem zfj (r:Int):Utf8.valid r=right r:=by
 unfold Utf8.valid right;rw[Bool.eq_iff_iff];simp;omega
set_option maxRecDepth 100000 in
theorem zey (r:Nat)(h:right (r:Int)=true):enc (r:Int) =
  if r<128 then [UInt8.ofNat r] else if r<2048 then [UInt8.ofNat (192+r / 64),UInt8.ofNat (128+r % 64)]
  else if r<65536 then [UInt8.ofNat (224+r / 4096),UInt8.ofNat (128+r / 64 % 64),UInt8.ofNat (128+r % 64)]
  else [UInt8.ofNat (240+r / 262144),UInt8.ofNat (128+r / 4096 % 64),UInt8.ofNat (128+r / 64 % 64),UInt8.ofNat (128+r % 64)]:=by
 unfold enc Utf8.encode;simp only[zfj,h,if_true,Int.toNat_natCast]
 by_cases h1:r<128
 ·rw[if_pos h1,if_pos h1]
 ·by_cases h2:r<2048
  ·rw[if_neg h1,if_neg h1,if_pos h2,if_pos h2]
  ·by_cases h3:r<65536
   ·rw[if_neg h1,if_neg h1,if_neg h2,if_neg h2,if_pos h3,if_pos h3]
   ·rw[if_neg h1,if_neg h1,if_neg h2,if_neg h2,if_neg h3,if_neg h3]
theorem u8 (n:Nat)(h:n<256):(UInt8.ofNat n).toNat=n:=by simp;omega
theorem zlu {r:Nat}(h:right (r:Int)=true):r<=1114111/\(r<55296∨57343<r):=by
 unfold right at h;simp at h;omega
theorem zvg (r:Nat)(h:right (r:Int)=true)(M:List UInt8):d0 (enc r++M)=(r,(enc r).length):=by
 have hr:=zlu h;rw[zey r h]
 by_cases h1:r<128
 ·simp only[h1,if_true,List.cons_append,List.nil_append];simp only[d0,bt,List.getElem?_cons_zero,Option.getD_some,u8 r (by omega),Lib.decodeN,h1,if_true,List.length_cons,List.length_nil]
 ·by_cases h2:r<2048
  ·simp only[h1,h2,if_true,if_false,List.cons_append,List.nil_append];simp only[d0,bt,List.getElem?_cons_zero,List.getElem?_cons_succ,Option.getD_some,u8 (192+r / 64) (by omega),u8 (128+r % 64) (by omega),Lib.decodeN,List.length_cons,List.length_nil];rw[if_neg (by omega),if_pos (by omega),if_pos (by omega)];congr 1;omega
  ·by_cases h3:r<65536
   ·simp only[h1,h2,h3,if_true,if_false,List.cons_append,List.nil_append];simp only[d0,bt,List.getElem?_cons_zero,List.getElem?_cons_succ,Option.getD_some,u8 (224+r / 4096) (by omega),u8 (128+r / 64 % 64) (by omega),u8 (128+r % 64) (by omega),Lib.decodeN,List.length_cons,List.length_nil];rw[if_neg (by omega),if_neg (by omega),if_pos (by omega),if_pos (by omega)];congr 1;omega
   ·simp only[h1,h2,h3,if_false,List.cons_append,List.nil_append];simp only[d0,bt,List.getElem?_cons_zero,List.getElem?_cons_succ,Option.getD_some,u8 (240+r / 262144) (by omega),u8 (128+r / 4096 % 64) (by omega),u8 (128+r / 64 % 64) (by omega),u8 (128+r % 64) (by omega),Lib.decodeN,List.length_cons,List.length_nil];rw[if_neg (by omega),if_neg (by omega),if_neg (by omega),if_pos (by omega),if_pos (by omega)];congr 1;omega
theorem zur (r:Nat)(h:right (r:Int)=true):1<=(enc r).length/\(128<=r->2<=(enc r).length):=by
 rw[zey r h]
 repeat' split
 all_goals simp
 all_goals omega
theorem ztf:∀l:List Nat,(∀r∈l,right (r:Int)=true)->(ru (l.flatMap fun r:Nat=>enc (r:Int))).map (fun x=>x.1)=l/\sp (l.flatMap fun r:Nat=>enc (r:Int))=0
 | [],_=>⟨rfl,rfl⟩
 | r::l,h=>by
  have hr:=h r (by simp);obtain⟨i1,i2⟩:=ztf l (fun x hx=>h x (by simp[hx]));have hl:=zur r hr;have hd:=zvg r hr (l.flatMap fun r:Nat=>enc (r:Int))
  have hne:enc (r:Int)++(l.flatMap fun r:Nat=>enc (r:Int))≠ []:=by
   intro e;have:=congrArg List.length e;rw[List.length_append,List.length_nil] at this;omega
  rw[List.flatMap_cons];constructor
  ·rw[zhn _ hne,hd];simp[i1]
  ·rw[ztu _ hne,hd]
   have hb:bad (r,(enc (r:Int)).length)=false:=by
    unfold bad;simp;intro e;have:=hl.2 (by omega);omega
   rw[hb];simp[i2]
theorem zs3 (L:List UInt8):right ((d0 L).1:Int)=true:=by
 have h0:=zs9 L 0;have h1:=zs9 L 1;have h2:=zs9 L 2;have h3:=zs9 L 3;have e:∀n:Nat,(n<=1114111/\(n<55296∨57343<n))->right (n:Int)=true:=fun n hn=>by unfold right;simp;omega
 unfold d0 Lib.decodeN
 repeat' split
 all_goals apply e
 all_goals simp only
 all_goals omega
end M
namespace T
open S (Sp)
inductive Out (α:Type) where
 | ok (a:α) (p:Nat)
 | bad (e:Int) (p:Nat)
def see (l:List Int) (p:Nat):Int:=(l[p]?).getD (-1)
def blanks:List Int:= [32,9,10]
def specials:List Int:= [32,9,10,91,93,38,45,94,92,58,36,40,41,123,125,60,62,124,59,35,39,34,61,44]
def hexes:List Int:= [48,49,50,51,52,53,54,55,56,57,97,98,99,100,101,102,65,66,67,68,69,70]
def blank (r:Int):Bool:=decide (r∈blanks)
def hexd (r:Int):Bool:=decide (r∈hexes)
def ordy (r:Int):Bool:= !decide (r= -1)&& !decide (r∈specials)
def alnum (r:Int):Bool:=(decide (48<=r)&&decide (r<=57))||(decide (65<=r)&&decide (r<=90))||(decide (97<=r)&&decide (r<=122))
def skipW (f:Int->Bool) (l:List Int) (p:Nat):Nat:=p+((l.drop p).takeWhile f).length
theorem zew {l:List Int}{p:Nat}(h:p<l.length):l[p]?=some (see l p):=by
 unfold see;rw[List.getElem?_eq_getElem h];rfl
theorem zgj {l:List Int}{p:Nat}(h:l.length<=p):see l p= -1:=by
 unfold see;rw[List.getElem?_eq_none h];rfl
theorem zhk {l:List Int}{p:Nat}{r:Int}(h:l[p]?=some r):see l p=r:=by unfold see;rw[h];rfl
theorem zcl {f:Int->Bool}{l:List Int}:∀ {p k:Nat},p<=k->k<=l.length->(∀i,p<=i->i<k->f (see l i)=true)->f (see l k)=false->f (-1)=false->skipW f l p=k:=by
 intro p k hp hk h1 h2 _;obtain⟨n,rfl⟩:∃n,k=p+n:=⟨k-p,by omega⟩;clear hp
 induction n generalizing p with
 | zero =>
  unfold skipW
  by_cases hlt:p<l.length
  ·have:l.drop p=see l p::l.drop (p+1):=by
    rw[List.drop_eq_getElem_cons hlt];congr 1;have:=zew hlt;rw[List.getElem?_eq_getElem hlt] at this;exact Option.some.inj this
   rw[this,List.takeWhile_cons,if_neg (by rw[show see l p=see l (p+0) from rfl,h2];simp)];rfl
  ·rw[List.drop_eq_nil_of_le (by omega)];rfl
 | succ n ih =>
  have hlt:p<l.length:=by omega
  have hd:l.drop p=see l p::l.drop (p+1):=by
   rw[List.drop_eq_getElem_cons hlt];congr 1;have:=zew hlt;rw[List.getElem?_eq_getElem hlt] at this;exact Option.some.inj this
  have hi:=ih (p:=p+1) (by omega) (fun i h3 h4=>h1 i (by omega) (by omega)) (by rw[show p+1+n=p+(n+1) by omega];exact h2);unfold skipW at hi ⊢;rw[hd,List.takeWhile_cons,if_pos (h1 p qN (by omega)),List.length_cons];omega
theorem za1 (f:Int->Bool)(l:List Int)(p:Nat):p<=skipW f l p:=by unfold skipW;omega
theorem zgg {f:Int->Bool}{l:List Int}{p:Nat}(h:p<=l.length)(h0:f (-1)=false)(h2:f (see l p)=false):skipW f l p=p :=
 zcl qN h (fun i h1 h2=>by omega) h2 h0
def hexOne (r:Int):Int:=if r<=57 then r-48 else if r<=70 then r-55 else r-87
def hexN (l:List Int):Int:=l.foldl (fun x r=>16*x+hexOne r) 0
def cut (l:List Int) (p q:Nat):List Int:=(l.drop p).take (q-p)
def num (l:List Int) (p:Nat):Out Int :=
 if see l (p+1)≠123 then .bad 2 (p+1)
 else if skipW hexd l (p+2)-(p+2)<1∨6<skipW hexd l (p+2)-(p+2) then .bad 2 (p+2)
 else if see l (skipW hexd l (p+2))≠125 then .bad 2 (skipW hexd l (p+2))
 else if 1114111<hexN (cut l (p+2) (skipW hexd l (p+2))) then .bad 3 p
 else .ok (hexN (cut l (p+2) (skipW hexd l (p+2)))) (skipW hexd l (p+2)+1)
def esc (l:List Int) (p:Nat):Out Int :=
 if see l p=117 then num l p
 else if see l p=110 then .ok 10 (p+1)
 else if see l p=116 then .ok 9 (p+1)
 else if see l p= -1∨alnum (see l p)=true then .bad 2 p
 else .ok (see l p) (p+1)
def chr (l:List Int) (p:Nat):Out Int :=
 if see l p=92 then esc l (p+1)
 else if ordy (see l p)=true then .ok (see l p) (p+1)
 else .bad 2 p
def span (l:List Int) (p:Nat):Out Sp :=
 match chr l p with
 | .bad e q=> .bad e q
 | .ok lo q =>
  if see l q≠45∨see l (q+1)=91 then .ok (lo,lo) q
  else match chr l (q+1) with
   | .bad e r=> .bad e r
   | .ok hi r=>if hi<lo then .bad 3 (q+1) else .ok (lo,hi) r
def classOf (n:List Int):Option (List Sp) :=
 if n= [100,105,103,105,116] then some [(48,57)]
 else if n= [108,111,119,101,114] then some [(97,122),(223,246),(248,255)]
 else if n= [117,112,112,101,114] then some [(65,90),(192,214),(216,222)]
 else if n= [108,101,116,116,101,114] then some [(65,90),(97,122),(192,214),(216,246),(248,255)]
 else if n= [118,111,119,101,108] then some [(65,65),(69,69),(73,73),(79,79),(85,85),(97,97),(101,101),(105,105),(111,111),(117,117)]
 else if n= [103,114,101,101,107] then some [(880,1023)]
 else if n= [99,121,114,105,108,108,105,99] then some [(1024,1279)]
 else if n= [115,112,97,99,101] then some [(9,10),(32,32)]
 else if n= [97,110,121] then some [(0,1114111)]
 else none
def cls (l:List Int) (p:Nat):Out (List Sp) :=
 match classOf (cut l (p+2) (skipW ordy l (p+2))) with
 | none=> .bad 7 (p+2)
 | some s =>
  if see l (skipW ordy l (p+2))≠58 then .bad 2 (skipW ordy l (p+2))
  else if see l (skipW ordy l (p+2)+1)≠93 then .bad 2 (skipW ordy l (p+2)+1)
  else .ok s (skipW ordy l (p+2)+2)
noncomputable def made (P:Int->Bool) (p:Nat):Out (List Sp):=if 200<(S.nf P).length then .bad 5 p else .ok (S.nf P) p
noncomputable def part (sub:Nat->Out (List Sp)) (l:List Int) (s:List Sp) (p:Nat):Out (List Sp) :=
 if see l p=38 then
  match sub (skipW blank l (p+1)) with
  | .bad e q=> .bad e q
  | .ok t q=>made (S.andP s t) q
 else if see l p=45 then
  match sub (skipW blank l (p+1)) with
  | .bad e q=> .bad e q
  | .ok t q=>made (S.minP s t) q
 else if see l p=91/\see l (p+1)=58 then
  match cls l p with
  | .bad e q=> .bad e q
  | .ok t q=>made (S.orP s t) q
 else if see l p=91 then
  match sub p with
  | .bad e q=> .bad e q
  | .ok t q=>made (S.orP s t) q
 else
  match span l p with
  | .bad e q=> .bad e q
  | .ok x q=>made (S.orP s [x]) q
noncomputable def loop:Nat->(Nat->Out (List Sp))->List Int->List Sp->Nat->Out (List Sp)
 | 0,_,_,_,p=> .bad 0 p
 | f+1,sub,l,s,p =>
  if see l p=93 then .ok s (p+1)
  else match part sub l s p with
   | .bad e q=> .bad e q
   | .ok t q=>loop f sub l t (skipW blank l q)
noncomputable def setN:Nat->List Int->Nat->Out (List Sp)
 | 0,l,p=>if see l p≠91 then .bad 2 p else .bad 4 p
 | n+1,l,p =>
  if see l p≠91 then .bad 2 p
  else if see l (p+1)=94 then
   match loop (l.length+1) (setN n l) l [] (skipW blank l (p+2)) with
   | .bad e q=> .bad e q
   | .ok s q=>made (S.notP s) q
  else loop (l.length+1) (setN n l) l [] (skipW blank l (p+1))
noncomputable def whole (l:List Int):Out (List Sp) :=
 match setN 20 l (skipW blank l 0) with
 | .bad e q=> .bad e q
 | .ok s q=>if see l (skipW blank l q)= -1 then .ok s q else .bad 2 (skipW blank l q)
noncomputable def read (l:List Int):Out (List Sp):=if 4000<l.length then .bad 4 0 else whole l
def dig (d:Nat):UInt8:=if d<10 then UInt8.ofNat (48+d) else UInt8.ofNat (87+d)
def hexL (n:Nat):List UInt8:=if n<16 then [dig n] else hexL (n / 16)++ [dig (n % 16)]
termination_by n
decreasing_by omega
def plain (r:Int):Bool:=alnum r||(M.right r&&decide (126<r))
def quo (r:Int):List UInt8:=if plain r=true then M.enc r else [92,117,123]++hexL r.toNat++ [125]
def one (x:Sp):List UInt8:=quo x.1++if x.1<x.2 then [45]++quo x.2 else []
def inner (s:List Sp):List UInt8:=s.flatMap one
def prt (s:List Sp):List UInt8:= [91]++inner s++ [93]
end T
