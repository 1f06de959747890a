import Derived.Test.YthnmmmkeamcfkaaGreatDoorSMath
import Derived.Laws.RangeAny
import Derived.Lib.DecodeN
import Derived.Laws.Cover4
set_option maxHeartbeats 0
namespace Go.Proofs.YthnmmmkeamcfkaaGreatDoor
namespace S
theorem zk3 (P:Int->Bool)(n:Nat)(hn:n<=1114112):∃s,Nf 0 s/\(∀q,memb s q=(decide (0<=q)&&decide (q<n)&&P q)):=by
 induction n with
 | zero=>exact⟨[],trivial,fun q=>by
   have:(decide (0<=q)&&decide (q<((0:Nat):Int)))=false:=by simp
   rw[this,zb4];simp⟩
 | succ n ih =>
  obtain⟨s,h1,h2⟩:=ih (by omega)
  have ends:∀p∈s,p.1<=p.2/\p.2<n:=fun p hp=>by
   have h3:=h1.mem hp;have h4:memb s p.2=true:=za8.2 ⟨p,hp,by omega,by omega⟩;rw[h2] at h4;simp at h4;omega
  cases hP:P n with
  | true =>
   have hj:=zma (x:=((n:Int),(n:Int))) h1 (by simp only;omega) (by simp only;omega) (by simp only;omega) fun p hp=>by
    have:=ends p (List.mem_of_getLast? hp);simp only;omega
   refine⟨_,hj.1,fun q=> ?_⟩;rw[hj.2,h2];simp only
   by_cases hq:q=n
   ·subst hq;simp[hP];omega
   ·have e1:(decide ((n:Int)<=q)&&decide (q<=(n:Int)))=false:=by simp;omega
    have e2:decide (q<(n:Int))=decide (q<((n+1:Nat):Int)):=by apply zeo;simp;omega
    rw[e1,e2,Bool.or_false]
  | false =>
   refine⟨s,h1,fun q=> ?_⟩;rw[h2]
   by_cases hq:q=n
   ·subst hq;simp[hP]
   ·have e2:decide (q<(n:Int))=decide (q<((n+1:Nat):Int)):=by apply zeo;simp;omega
    rw[e2]
theorem zrn {P:Int->Bool}(h:∀q,P q=(inR q&&P q)):∃s,Is P s:=by
 obtain⟨s,h1,h2⟩:=zk3 P 1114112 (by omega);refine⟨s,h1,fun q=> ?_⟩;rw[h2,h q]
 have:(decide (0<=q)&&decide (q<((1114112:Nat):Int)))=inR q:=by
  apply zeo;simp[inR];omega
 rw[this];cases inR q <;> simp
theorem zw4 {P:Int->Bool}(h:∀q,P q=(inR q&&P q)):Nf 0 (nf P)/\memb (nf P)=P:=by
 have:=zwr (zrn h);exact⟨this.1,funext this.2⟩
theorem zqu (a b:List Sp)(q:Int):orP a b q=(inR q&&orP a b q):=by unfold orP;cases inR q <;> simp
theorem zwf (a b:List Sp)(q:Int):andP a b q=(inR q&&andP a b q):=by unfold andP;cases inR q <;> simp
theorem zvw (a b:List Sp)(q:Int):minP a b q=(inR q&&minP a b q):=by unfold minP;cases inR q <;> simp
theorem zvv (a:List Sp)(q:Int):notP a q=(inR q&&notP a q):=by unfold notP;cases inR q <;> simp
noncomputable def U (a b:List Sp):List Sp:=nf (orP a b)
noncomputable def I (a b:List Sp):List Sp:=nf (andP a b)
noncomputable def D (a b:List Sp):List Sp:=nf (minP a b)
noncomputable def C (a:List Sp):List Sp:=nf (notP a)
theorem zbe {a:List Sp}(h:Nf 0 a)(hl:a.length<=200):wrongE a=0:=zat.2 ⟨hl,h⟩
theorem zvj {P:Int->Bool}(h:(nf P).length<=200):resL 0 0 P=nf P:=by
 unfold resL fewL;simp;omega
theorem zvk {P:Int->Bool}(h:(nf P).length<=200):resE 0 0 P=0:=by
 unfold resE fewE;simp;omega
def cnt (P:Int->Bool):Nat->Nat
 | 0=>0
 | n+1=>cnt P n+if P n=true then 1 else 0
theorem zrw {P Q:Int->Bool}{n:Nat}(h:∀q:Int,0<=q->q<(n:Int)->P q=Q q):cnt P n=cnt Q n:=by
 induction n with
 | zero=>rfl
 | succ n ih=>rw[cnt,cnt,ih fun q h1 h2=>h q h1 (by omega),h n (by omega) (by omega)]
theorem zv8 (P Q:Int->Bool)(n:Nat):cnt (fun q=>P q||Q q) n+cnt (fun q=>P q&&Q q) n=cnt P n+cnt Q n:=by
 induction n with
 | zero=>rfl
 | succ n ih=>simp only[cnt];by_cases hP:P n=true <;> by_cases hQ:Q n=true <;> simp[hP,hQ] <;> omega
theorem zwz (P:Int->Bool)(n:Nat):cnt P n<=n:=by
 induction n with
 | zero=>exact qN
 | succ n ih=>simp only[cnt];by_cases hP:P n=true <;> simp[hP] <;> omega
theorem zug (lo hi:Int)(n:Nat)(h0:0<=lo)(h1:lo<=hi+1):(cnt (fun q=>decide (lo<=q)&&decide (q<=hi)) n:Int)=(if (n:Int)<=lo then 0 else if (n:Int)<=hi+1 then (n:Int) - lo else hi - lo+1):=by
 induction n with
 | zero=>simp[cnt,h0]
 | succ n ih =>
  simp only[cnt];rw[Int.natCast_add,ih]
  by_cases c1:lo<=(n:Int)
  ·by_cases c2:(n:Int)<=hi
   ·simp[c1,c2];split <;> split <;> (try split) <;> (try split) <;> omega
   ·simp[c1,c2];split <;> split <;> (try split) <;> (try split) <;> omega
  ·simp[c1];split <;> split <;> (try split) <;> (try split) <;> omega
def total:List Sp->Int
 | []=>0
 | x::l=>(x.2 - x.1+1)+total l
theorem zje (P Q:Int->Bool)(n:Nat)(h:∀q,(P q&&Q q)=false):cnt (fun q=>P q||Q q) n=cnt P n+cnt Q n:=by
 have:=zv8 P Q n
 have e:cnt (fun q=>P q&&Q q) n=0:=by
  have h1:cnt (fun q=>P q&&Q q) n=cnt (fun _=>false) n:=zrw fun q _ _=>h q
  rw[h1];clear this h1
  induction n with
  | zero=>rfl
  | succ n ih=>simp only[cnt];simp[ih]
 omega
theorem zpi {b:Int}{l:List Sp}(h:Nf b l)(hb:0<=b):total l=cnt (memb l) 1114112:=by
 induction l generalizing b with
 | nil =>
  have:cnt (memb []) 1114112=0:=by
   have h1:∀n,cnt (memb []) n=0:=fun n=>by
    induction n with
    | zero=>rfl
    | succ n ih=>simp only[cnt,ih,zb4];rfl
   exact h1 _
  rw[this];rfl
 | cons x l ih =>
  obtain⟨h1,h2,h3,h4⟩:=h
  have e:cnt (memb (x::l)) 1114112=cnt (fun q=>decide (x.1<=q)&&decide (q<=x.2)) 1114112+cnt (memb l) 1114112:=by
   rw[<- zje]
   ·rfl
   ·intro q;cases hm:memb l q with
    | false=>simp
    | true=>have:=(h4.low hm).1;simp;omega
  rw[total,e,ih h4 (by omega),Int.natCast_add,zug x.1 x.2 1114112 (by omega) (by omega)];rw[if_neg (by omega)];split <;> omega
def nthF:List Sp->Int->Option Int
 | [],_=>none
 | x::l,k=>if k<x.2 - x.1+1 then some (x.1+k) else nthF l (k - (x.2 - x.1+1))
end S
namespace M
theorem width_pos (s:ByteArray)(pos:Nat)(h:pos<s.size):1<=(Utf8.decode s pos).2:=by
 by_cases ha:(s[pos]'h).toNat<128
 ·rw[decode_ascii s pos h ha];exact qN
 ·exact(decode_high s pos h (by omega)).2
def steps (s:ByteArray):Nat->Nat->List (Nat×Nat)
 | 0,_=> []
 | b+1,pos=>if pos<s.size then (pos,(Utf8.decode s pos).1)::steps s b (pos+(Utf8.decode s pos).2) else []
theorem zih (s:ByteArray)(b pos:Nat)(h:¬pos<s.size):steps s b pos= []:=by
 cases b with
 | zero=>rfl
 | succ b=>simp[steps,h]
def all (s:ByteArray):List (Nat×Nat):=steps s s.size 0
def rn (s:ByteArray):List Int:=(all s).map fun x=>(x.2:Int)
def pl (s:ByteArray):List Int:=(all s).map (fun x=>(x.1:Int))++ [(s.size:Int)]
theorem zeu (s:ByteArray):∀(b pos:Nat),(steps s b pos).length<=b
 | 0,_=>by simp[steps]
 | b+1,pos=>by
  unfold steps;split
  ·have:=zeu s b (pos+(Utf8.decode s pos).2);simp only[List.length_cons];omega
  ·simp
theorem zp5 (s:ByteArray):(rn s).length<=s.size:=by simpa [rn,all] using zeu s s.size 0
def plFrom (s:ByteArray) (b pos:Nat):List Int:=(steps s b pos).map (fun x=>(x.1:Int))++ [(s.size:Int)]
def right (r:Int):Bool:=decide (0<=r/\r<=1114111/\(r<55296∨57343<r))
def pre (s p:ByteArray):Bool:=decide (p.size<=s.size)&&((s.extract 0 p.size).data.toList==p.data.toList)
end M
namespace M
def bt (L:List UInt8) (k:Nat):Nat:=(L[k]?.getD 0).toNat
def d0 (L:List UInt8):Nat×Nat:=Lib.decodeN L.length (bt L 0) (bt L 1) (bt L 2) (bt L 3)
theorem zul (L:List UInt8)(k:Nat):bt L k<256:=(L[k]?.getD 0).toNat_lt
theorem get!_eq (s:ByteArray)(i:Nat):s.get! i=s.data.toList[i]?.getD 0:=by
 have h:s.get! i=s.data[i]! := rfl;rw[h,getElem!_def,Array.getElem?_toList];cases s.data[i]? <;> rfl
theorem zgb (s:ByteArray)(i:Nat):Utf8.decode s i=d0 (s.data.toList.drop i):=by
 have hl:(s.data.toList.drop i).length=s.size - i:=by rw[List.length_drop,Array.length_toList];rfl
 rw[Lib.decode_at,d0,hl];simp only[bt,List.getElem?_drop,get!_eq,Nat.add_zero]
def rl:Nat->List UInt8->List (Nat×Nat)
 | 0,_=> []
 | n+1,L=>if L= [] then [] else d0 L::rl n (L.drop (d0 L).2)
theorem zlz (n:Nat):rl n []= []:=by cases n <;> simp[rl]
theorem zh4 (L:List UInt8)(h:L≠ []):1<=(d0 L).2/\(d0 L).2<=4/\(d0 L).2<=L.length:=by
 have hl:1<=L.length:=by cases L with
  | nil=>exact absurd rfl h
  | cons=>simp
 unfold d0 Lib.decodeN
 repeat' split
 all_goals simp only
 all_goals omega
theorem zp7:∀(n m:Nat) (L:List UInt8),L.length<=n->L.length<=m->rl n L=rl m L
 | 0,m,L,hn,_=>by
  have:L= []:=List.eq_nil_of_length_eq_zero (by omega);subst this;rw[zlz,zlz]
 | n+1,0,L,_,hm=>by
  have:L= []:=List.eq_nil_of_length_eq_zero (by omega);subst this;rw[zlz,zlz]
 | n+1,m+1,L,hn,hm=>by
  by_cases h:L= []
  ·simp[rl,h]
  ·have hw:=zh4 L h;have hd:(L.drop (d0 L).2).length=L.length - (d0 L).2:=List.length_drop;simp only[rl,h,if_false];rw[zp7 n m (L.drop (d0 L).2) (by omega) (by omega)]
def ru (L:List UInt8):List (Nat×Nat):=rl L.length L
theorem zwi:ru []= []:=rfl
theorem zhp (L:List UInt8)(h:L≠ []):ru L=d0 L::ru (L.drop (d0 L).2):=by
 have hw:=zh4 L h;have hd:(L.drop (d0 L).2).length=L.length - (d0 L).2:=List.length_drop;unfold ru;obtain⟨n,hn⟩:∃n,L.length=n+1:=⟨L.length - 1,by omega⟩;rw[hn];simp only[rl,h,if_false];rw[zp7 n (L.drop (d0 L).2).length _ (by omega) (by omega)]
theorem zwj {P:List UInt8->Prop}(h0:P [])(h1:∀L,L≠ []->P (L.drop (d0 L).2)->P L):∀L,P L:=by
 have:∀n (L:List UInt8),L.length<=n->P L:=by
  intro n
  induction n with
  | zero=>intro L hL;have:L= []:=List.eq_nil_of_length_eq_zero (by omega);subst this;exact h0
  | succ n ih =>
   intro L hL
   by_cases h:L= []
   ·subst h;exact h0
   ·have hw:=zh4 L h;exact h1 L h (ih _ (by rw[List.length_drop];omega))
 exact fun L=>this L.length L qN
theorem zlt (s:ByteArray):∀(b pos:Nat),s.size<=pos+b->(steps s b pos).map (fun x=>x.2)=(ru (s.data.toList.drop pos)).map (fun x=>x.1)
 | 0,pos,h=>by
  have hl:(s.data.toList.drop pos).length=s.size - pos:=by rw[List.length_drop,Array.length_toList];rfl
  have:s.data.toList.drop pos= []:=List.eq_nil_of_length_eq_zero (by omega);rw[this];rfl
 | b+1,pos,h=>by
  have hl:(s.data.toList.drop pos).length=s.size - pos:=by rw[List.length_drop,Array.length_toList];rfl
  by_cases hp:pos<s.size
  ·have hw:=width_pos s pos hp;have hne:s.data.toList.drop pos≠ []:=by intro e;rw[e] at hl;simp at hl;omega
   simp only[steps,hp,if_true,List.map_cons];rw[zlt s b _ (by omega),zhp _ hne,zgb,List.drop_drop,List.map_cons]
  ·rw[zih s _ pos hp];have:s.data.toList.drop pos= []:=List.eq_nil_of_length_eq_zero (by omega);rw[this];rfl
theorem zwn (s:ByteArray):rn s=(ru s.data.toList).map (fun x=>(x.1:Int)):=by
 have h:=zlt s s.size 0 (by omega);rw[List.drop_zero] at h;have h2:=congrArg (List.map (fun n:Nat=>(n:Int))) h;rw[List.map_map,List.map_map] at h2;exact h2
def bad (x:Nat×Nat):Bool:=x.1==65533&&x.2==1
def sp (L:List UInt8):Nat:=((ru L).filter bad).length
theorem zvc (L:List UInt8)(h:L≠ []):sp L=(if bad (d0 L) then 1 else 0)+sp (L.drop (d0 L).2):=by
 unfold sp;rw[zhp L h,List.filter_cons];split <;> simp <;> omega
end M
namespace M
def enc (r:Int):List UInt8:=(Utf8.encode r).data.toList
theorem zfp (r:Int):Utf8.valid r=right r:=by
 unfold Utf8.valid right;rw[Bool.eq_iff_iff];simp;omega
set_option maxRecDepth 100000 in
theorem ze0 (r:Nat)(h:right (r:Int)=true):enc (r:Int) =
  if r<128 then [UInt8.ofNat r] else if r<2048 then [UInt8.ofNat (192+r / 64),UInt8.ofNat (128+r % 64)]
  else if r<65536 then [UInt8.ofNat (224+r / 4096),UInt8.ofNat (128+r / 64 % 64),UInt8.ofNat (128+r % 64)]
  else [UInt8.ofNat (240+r / 262144),UInt8.ofNat (128+r / 4096 % 64),UInt8.ofNat (128+r / 64 % 64),UInt8.ofNat (128+r % 64)]:=by
 unfold enc Utf8.encode;simp only[zfp,h,if_true,Int.toNat_natCast]
 by_cases h1:r<128
 ·rw[if_pos h1,if_pos h1]
 ·by_cases h2:r<2048
  ·rw[if_neg h1,if_neg h1,if_pos h2,if_pos h2]
  ·by_cases h3:r<65536
   ·rw[if_neg h1,if_neg h1,if_neg h2,if_neg h2,if_pos h3,if_pos h3]
   ·rw[if_neg h1,if_neg h1,if_neg h2,if_neg h2,if_neg h3,if_neg h3]
theorem u8 (n:Nat)(h:n<256):(UInt8.ofNat n).toNat=n:=by simp;omega
theorem zl0 {r:Nat}(h:right (r:Int)=true):r<=1114111/\(r<55296∨57343<r):=by
 unfold right at h;simp at h;omega
theorem zwx (r:Nat)(h:right (r:Int)=true)(M:List UInt8):d0 (enc r++M)=(r,(enc r).length):=by
 have hr:=zl0 h;rw[ze0 r h]
 by_cases h1:r<128
 ·simp only[h1,if_true,List.cons_append,List.nil_append];simp only[d0,bt,List.getElem?_cons_zero,Option.getD_some,u8 r (by omega),Lib.decodeN,h1,if_true,List.length_cons,List.length_nil]
 ·by_cases h2:r<2048
  ·simp only[h1,h2,if_true,if_false,List.cons_append,List.nil_append];simp only[d0,bt,List.getElem?_cons_zero,List.getElem?_cons_succ,Option.getD_some,u8 (192+r / 64) (by omega),u8 (128+r % 64) (by omega),Lib.decodeN,List.length_cons,List.length_nil];rw[if_neg (by omega),if_pos (by omega),if_pos (by omega)];congr 1;omega
  ·by_cases h3:r<65536
   ·simp only[h1,h2,h3,if_true,if_false,List.cons_append,List.nil_append];simp only[d0,bt,List.getElem?_cons_zero,List.getElem?_cons_succ,Option.getD_some,u8 (224+r / 4096) (by omega),u8 (128+r / 64 % 64) (by omega),u8 (128+r % 64) (by omega),Lib.decodeN,List.length_cons,List.length_nil];rw[if_neg (by omega),if_neg (by omega),if_pos (by omega),if_pos (by omega)];congr 1;omega
   ·simp only[h1,h2,h3,if_false,List.cons_append,List.nil_append];simp only[d0,bt,List.getElem?_cons_zero,List.getElem?_cons_succ,Option.getD_some,u8 (240+r / 262144) (by omega),u8 (128+r / 4096 % 64) (by omega),u8 (128+r / 64 % 64) (by omega),u8 (128+r % 64) (by omega),Lib.decodeN,List.length_cons,List.length_nil];rw[if_neg (by omega),if_neg (by omega),if_neg (by omega),if_pos (by omega),if_pos (by omega)];congr 1;omega
theorem zv5 (r:Nat)(h:right (r:Int)=true):1<=(enc r).length/\(128<=r->2<=(enc r).length):=by
 rw[ze0 r h]
 repeat' split
 all_goals simp
 all_goals omega
theorem zuu:∀l:List Nat,(∀r∈l,right (r:Int)=true)->(ru (l.flatMap fun r:Nat=>enc (r:Int))).map (fun x=>x.1)=l/\sp (l.flatMap fun r:Nat=>enc (r:Int))=0
 | [],_=>⟨rfl,rfl⟩
 | r::l,h=>by
  have hr:=h r (by simp);obtain⟨i1,i2⟩:=zuu l (fun x hx=>h x (by simp[hx]));have hl:=zv5 r hr;have hd:=zwx r hr (l.flatMap fun r:Nat=>enc (r:Int))
  have hne:enc (r:Int)++(l.flatMap fun r:Nat=>enc (r:Int))≠ []:=by
   intro e;have:=congrArg List.length e;rw[List.length_append,List.length_nil] at this;omega
  rw[List.flatMap_cons];constructor
  ·rw[zhp _ hne,hd];simp[i1]
  ·rw[zvc _ hne,hd]
   have hb:bad (r,(enc (r:Int)).length)=false:=by
    unfold bad;simp;intro e;have:=hl.2 (by omega);omega
   rw[hb];simp[i2]
theorem zua (L:List UInt8):right ((d0 L).1:Int)=true:=by
 have h0:=zul L 0;have h1:=zul L 1;have h2:=zul L 2;have h3:=zul L 3;have e:∀n:Nat,(n<=1114111/\(n<55296∨57343<n))->right (n:Int)=true:=fun n hn=>by unfold right;simp;omega
 unfold d0 Lib.decodeN
 repeat' split
 all_goals apply e
 all_goals simp only
 all_goals omega
end M
