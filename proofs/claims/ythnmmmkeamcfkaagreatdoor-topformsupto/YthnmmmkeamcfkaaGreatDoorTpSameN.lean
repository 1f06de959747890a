import Derived.Test.YthnmmmkeamcfkaaGreatDoorOdIns
import Derived.Test.YthnmmmkeamcfkaaGreatDoorOdApp
set_option maxHeartbeats 0
set_option linter.unusedSimpArgs false
set_option linter.unusedVariables false
namespace Go.Proofs.YthnmmmkeamcfkaaGreatDoor
open Go.Proofs.Tryz
namespace Od
def insB (c:Int->Int):List Int->Int->List Int
 | [],x=> [x]
 | y::r,x=>if c x<c y then y::insB c r x else x::y::r
def insO (c:Int->Int) (out:List Int) (x:Int):List Int:=(insB c out.reverse x).reverse
theorem zgv (c:Int->Int)(x:Int):∀r:List Int,∃B A,r=B++A/\insB c r x=B++x::A/\(∀y∈B,c x<c y)/\(A= []∨∃z A0,A=z::A0/\¬c x<c z)
 | []=>⟨[],[],rfl,rfl,fun y hy=>(by (cases hy)),.inl rfl⟩
 | y::r=>by
  by_cases h:c x<c y
  ·obtain⟨B,A,h1,h2,h3,h4⟩:=zgv c x r;refine⟨y::B,A,by rw[h1];rfl,by rw[insB,if_pos h,h2];rfl,fun z hz=> ?_,h4⟩;rcases List.mem_cons.1 hz with rfl | hz
   ·exact h
   ·exact h3 z hz
  ·exact⟨[],y::r,rfl,by rw[insB,if_neg h];rfl,fun y hy=>by (cases hy),.inr ⟨y,r,rfl,h⟩⟩
theorem zgu (c:Int->Int)(out:List Int)(x:Int):∃A B,out=A++B/\insO c out x=A++x::B/\(∀y∈B,c x<c y)/\(A= []∨∃A0 z,A=A0++ [z]/\¬c x<c z):=by
 obtain⟨B,A,h1,h2,h3,h4⟩:=zgv c x out.reverse;refine⟨A.reverse,B.reverse,?_,?_,fun y hy=>h3 y (List.mem_reverse.1 hy),?_⟩
 ·have:=congrArg List.reverse h1;simpa using this
 ·unfold insO;rw[h2];simp
 ·rcases h4 with rfl | ⟨z,A0,rfl,h⟩
  ·exact .inl rfl
  ·exact .inr ⟨A0.reverse,z,by simp,h⟩
theorem zuq (c:Int->Int)(out:List Int)(x:Int):(insO c out x).length=out.length+1:=by
 obtain⟨A,B,rfl,e,_⟩:=zgu c out x;rw[e];simp;omega
theorem zrq [Ck] {out:List Int}{x:Int}(h:Srt out):Srt (insO cls out x)/\Eqv (out++ [x]) (insO cls out x):=by
 obtain⟨A,B,rfl,e,h3,h4⟩:=zgu cls out x;rw[e];refine⟨zc9 h (fun u hu=> ?_) h3,zda h3⟩;rcases h4 with rfl | ⟨A0,z,rfl,h5⟩
 ·cases hu
 ·rcases List.mem_append.1 hu with h6 | h6
  ·have:=h.parts.1.ahead h6;omega
  ·simp at h6;subst h6;omega
def sortC (c:Int->Int) (n:Nat):List Int:=(places n).foldl (insO c) []
theorem zgd (c:Int->Int)(n:Nat):sortC c (n+1)=insO c (sortC c n) n:=by unfold sortC;rw[zdb,List.foldl_append];rfl
theorem ze9 (c:Int->Int):∀n,(sortC c n).length=n
 | 0=>rfl
 | n+1=>by rw[zgd,zuq,ze9 c n]
theorem zge [Ck]:∀n,Srt (sortC cls n)/\Eqv (places n) (sortC cls n)
 | 0=>⟨Srt.nil,Eqv.refl _⟩
 | n+1=>by
  obtain⟨h1,h2⟩:=zge n;obtain⟨h3,h4⟩:=zrq (x:=(n:Int)) h1;rw[zgd];refine⟨h3,?_⟩;rw[zdb];exact(h2.app (Eqv.refl _)).trans h4
def sortF (ks:List K3):List Int:=sortC (ckOf ks 0).cls ks.length
theorem zpw {ks:List K3}{kb:Nat}{S:List Int}(h1:@Srt (ckOf ks kb) S)(h2:@Eqv (ckOf ks kb) (places ks.length) S):S=sortF ks:=by
 letI:Ck:=ckOf ks kb
 obtain⟨h3,h4⟩:=zge (ks.length);exact uniq h1 h3 (h2.symm.trans h4)
def outS (l:List (List Int)):List Int:=if (wrongS l).1=0 then sortF (keysL l) else []
theorem zi2 (l:List (List Int)):(keysL l).length=l.length:=by simp[keysL]
theorem ztz (l:List (List Int))(h:l.length<=100∨(wrongS l).1≠0):(outS l).length<=100:=by
 unfold outS;split
 ·rename_i h0
  rcases h with h | h
  ·unfold sortF;rw[ze9,zi2];exact h
  ·exact absurd h0 h
 ·simp
end Od
namespace Nm
def jw (a b:Int):Int:=match join tab a b with | some p=>p.2.2 | none=> -1
def js (s:Int×List Int×Int) (m:Int):Int×List Int×Int:=if 0<=jw s.1 m/\s.2.2<cls m then (jw s.1 m,s.2.1,s.2.2) else (s.1,s.2.1++ [m],cls m)
def jn (h:Int) (ms:List Int):List Int:=(ms.foldl js (h,[],0)).1::(ms.foldl js (h,[],0)).2.1
theorem zhu {a b:Int}{p:Pr}(h:join tab a b=some p):jw a b=p.2.2/\0<=p.2.2/\p.2.2<=1114111:=by
 have:=zid p (List.mem_of_find?_eq_some h);exact⟨by unfold jw;rw[h],this.2.2.2.2⟩
theorem zhv {a b:Int}(h:join tab a b=none):jw a b= -1:=by unfold jw;rw[h]
theorem zx4 (a b:Int): -1<=jw a b/\jw a b<=1114111:=by
 cases h:join tab a b with
 | none=>rw[zhv h];omega
 | some p=>obtain⟨h1,h2,h3⟩:=zhu h;rw[h1];omega
theorem zxq (s:Int×List Int×Int)(m:Int):(js s m).2.1.length<=s.2.1.length+1:=by
 unfold js;split <;> simp
theorem zx5 {s:Int×List Int×Int}(m:Int)(h:0<=s.1/\s.1<=1114111):0<=(js s m).1/\(js s m).1<=1114111:=by
 unfold js;split
 ·rename_i h1;have:=zx4 s.1 m;exact⟨h1.1,this.2⟩
 ·exact h
theorem zrk:∀(ms:List Int) (s:Int×List Int×Int),(ms.foldl js s).2.1.length<=s.2.1.length+ms.length
 | [],s=>by simp
 | m::ms,s=>by
  rw[List.foldl_cons];have:=zrk ms (js s m);have:=zxq s m;simp only[List.length_cons];omega
theorem zxr:∀(ms:List Int) (s:Int×List Int×Int),(0<=s.1/\s.1<=1114111)->0<=(ms.foldl js s).1/\(ms.foldl js s).1<=1114111
 | [],s,h=>h
 | m::ms,s,h=>zxr ms (js s m) (zx5 m h)
theorem zvl (h:Int)(ms:List Int):(jn h ms).length<=ms.length+1:=by
 unfold jn;have:=zrk ms (h,[],0);simp only[List.length_cons,List.length_nil] at this ⊢;omega
def togN:Nat->List Int->List Int
 | 0,_=> []
 | _+1,[]=> []
 | n+1,h::t=>if isM h then h::togN n t else jn h (t.takeWhile isM)++togN n (t.dropWhile isM)
theorem zhz (t:List Int):(t.dropWhile isM).length<=t.length:=by
 have h:=congrArg List.length (List.takeWhile_append_dropWhile (p:=isM) (l:=t));rw[List.length_append] at h;omega
theorem zjz:∀(n m:Nat) (l:List Int),l.length<=n->l.length<=m->togN n l=togN m l
 | 0,0,l,_,_=>rfl
 | 0,m+1,l,h,_=>by
  have:l= []:=List.eq_nil_of_length_eq_zero (by omega);subst this;rfl
 | n+1,0,l,_,h=>by
  have:l= []:=List.eq_nil_of_length_eq_zero (by omega);subst this;rfl
 | n+1,m+1,[],_,_=>rfl
 | n+1,m+1,x::t,h1,h2=>by
  simp only[List.length_cons] at h1 h2;have:=zhz t;rw[togN,togN,zjz n m t (by omega) (by omega),zjz n m (t.dropWhile isM) (by omega) (by omega)]
def tog (l:List Int):List Int:=togN l.length l
theorem zpn:tog []= []:=rfl
theorem zs6 {h:Int}(t:List Int)(hm:isM h=true):tog (h::t)=h::tog t:=by
 unfold tog;rw[List.length_cons,togN,if_pos hm]
theorem zgb {h:Int}(t:List Int)(hm:isM h=false):tog (h::t)=jn h (t.takeWhile isM)++tog (t.dropWhile isM):=by
 unfold tog;rw[List.length_cons,togN,if_neg (by simp[hm]),zjz t.length (t.dropWhile isM).length _ (zhz t) qN]
theorem ze2:∀(M R:List Int),(∀r∈M,isM r=true)->tog (M++R)=M++tog R
 | [],R,_=>rfl
 | m::M,R,h=>by
  rw[List.cons_append,zs6 _ (h m List.mem_cons_self),ze2 M R fun r hr=>h r (List.mem_cons_of_mem _ hr),List.cons_append]
theorem zs7 (l:List Int):tog l=l.take (lead l)++tog (l.drop (lead l)):=by
 rw[zfp,zca];have:=ze2 (l.takeWhile isM) (l.dropWhile isM) (zb5 l);rw[List.takeWhile_append_dropWhile] at this;exact this
theorem zs5 {h:Int}(t:List Int)(hm:isM h=false):tog (h::t)=jn h (t.take (lead t))++tog (t.drop (lead t)):=by
 rw[zgb t hm,zfp,zca]
theorem zcx (l:List Int):l.drop (lead l)= []∨∃h t,l.drop (lead l)=h::t/\isM h=false:=by
 rw[zca];cases h:l.dropWhile isM with
 | nil=>exact .inl rfl
 | cons x t =>
  refine .inr ⟨x,t,rfl,?_⟩;have:=List.head?_dropWhile_not isM l;rw[h] at this;simpa using this
theorem zg7:∀(n:Nat) (l:List Int),(togN n l).length<=l.length
 | 0,l=>by simp[togN]
 | n+1,[]=>by simp[togN]
 | n+1,x::t=>by
  rw[togN];split
  ·have:=zg7 n t;simp only[List.length_cons];omega
  ·have h1:=zg7 n (t.dropWhile isM);have h2:=zvl x (t.takeWhile isM);have h3:=congrArg List.length (List.takeWhile_append_dropWhile (p:=isM) (l:=t));rw[List.length_append] at h3 ⊢;simp only[List.length_cons];omega
theorem zjy (l:List Int):(tog l).length<=l.length:=zg7 _ _
theorem zl4:∀(r:List Int) (x y:Int),y∈insV r x->y=x∨y∈r
 | [],x,y,h=>by simp[insV] at h;exact .inl h
 | z::r,x,y,h=>by
  rw[insV] at h;split at h
  ·rcases List.mem_cons.1 h with rfl | h
   ·exact .inr List.mem_cons_self
   ·exact(zl4 r x y h).imp id (List.mem_cons_of_mem _)
  ·rcases List.mem_cons.1 h with rfl | h
   ·exact .inl rfl
   ·exact .inr h
theorem zun {out:List Int}{x y:Int}(h:y∈insR out x):y=x∨y∈out:=by
 unfold insR at h;rw[List.mem_reverse] at h;exact(zl4 _ _ _ h).imp id List.mem_reverse.1
theorem zev:∀(M out:List Int) (y:Int),y∈M.foldl insR out->y∈M∨y∈out
 | [],out,y,h=> .inr h
 | m::M,out,y,h=>by
  rcases zev M _ y h with h | h
  ·exact .inl (List.mem_cons_of_mem _ h)
  ·rcases zun h with rfl | h
   ·exact .inl List.mem_cons_self
   ·exact .inr h
theorem zrx:∀(n:Nat) (r:Int),(0<=r/\r<=1114111)->∀y∈full n r,0<=y/\y<=1114111
 | 0,r,h,y,hy=>by simp[full] at hy;omega
 | n+1,r,h,y,hy=>by
  rw[full] at hy;cases hl:look tab r with
  | none=>rw[hl] at hy;simp at hy;omega
  | some p =>
   rw[hl] at hy;have hb:=zid p (zcm hl).1;rcases List.mem_append.1 hy with hy | hy
   ·exact zrx n p.1 ⟨hb.1,hb.2.1⟩ y hy
   ·simp at hy;omega
theorem zml (l:List Int):∀y∈(apartF l).1,0<=y/\y<=1114111:=by
 intro y hy;unfold apartF at hy;split at hy
 ·simp at hy
 ·rename_i h0
  split at hy
  ·simp at hy
  ·rcases zev _ _ y hy with h | h
   ·obtain⟨r,hr,hy⟩:=List.mem_flatMap.1 h;exact zrx 2 r ((zpr (by simpa using h0)).2 r hr) y hy
   ·simp at h
def togF (l:List Int):List Int×Int:=if (apartF l).2≠0 then ([],(apartF l).2) else (tog (apartF l).1,0)
end Nm
namespace Nm
def gv:List Int->Prop
 | y::z::r=>¬(0<cls y/\cls y<cls z)/\gv (z::r)
 | _=>True
theorem zhx {y:Int}{r:List Int}(h:gv (y::r)):gv r:=by
 cases r with
 | nil=>trivial
 | cons z r=>exact h.2
theorem zkr:∀(P:List Int) {S:List Int},gv (P++S)->gv S
 | [],S,h=>h
 | x::P,S,h=>zkr P (zhx h)
theorem zro:∀ {r:List Int} (x:Int),gv r->gv (insV r x)
 | [],x,_=>trivial
 | [y],x,h=>by
  show gv (if 0<cls x/\cls x<cls y then y::insV [] x else x::y:: []);split
  ·rename_i c;exact⟨fun h'=>by omega,trivial⟩
  ·rename_i c;exact⟨c,trivial⟩
 | y::z::r,x,h=>by
  have ih:=zro x (zhx h);show gv (if 0<cls x/\cls x<cls y then y::insV (z::r) x else x::y::z::r);split
  ·rename_i c
   have e:insV (z::r) x=if 0<cls x/\cls x<cls z then z::insV r x else x::z::r:=rfl
   rw[e] at ih ⊢;split
   ·rename_i c2
    rw[if_pos c2] at ih;exact⟨h.1,ih⟩
   ·rename_i c2
    rw[if_neg c2] at ih;exact⟨fun h'=>by omega,ih⟩
  ·rename_i c;exact⟨c,h⟩
theorem zr1:∀(M out:List Int),gv out.reverse->gv (M.foldl insR out).reverse
 | [],out,h=>h
 | x::M,out,h=>zr1 M (insR out x) (by unfold insR;rw[List.reverse_reverse];exact zro x h)
theorem zw1:∀r:List Int,gv r->r.reverse.foldl insR []=r.reverse
 | [],_=>rfl
 | y::r,h=>by
  rw[List.reverse_cons,List.foldl_append,zw1 r (zhx h)];show insR r.reverse y=_;unfold insR;rw[List.reverse_reverse]
  have e:insV r y=y::r:=by
   cases r with
   | nil=>rfl
   | cons z r =>
    show (if 0<cls y/\cls y<cls z then z::insV r y else y::z::r)=_;rw[if_neg h.1]
  rw[e,List.reverse_cons]
theorem zvm:∀r:List Int,gv r->(∀x∈r,isM x=true)->Srt r.reverse
 | [],_,_=>Srt.nil
 | y::r,h,hm=>by
  have ih:=zvm r (zhx h) fun x hx=>hm x (List.mem_cons_of_mem _ hx)
  rw[List.reverse_cons];refine Srt.app ih (Srt.one y) fun u hu v hv=> ?_
  simp only[List.mem_singleton] at hv;subst hv;cases r with
  | nil=>simp at hu
  | cons z r =>
   have hv0:=zko.1 (hm v List.mem_cons_self);have hz:cls z<=cls v:=by have:=h.1;omega
   rw[List.reverse_cons] at ih hu;rcases List.mem_append.1 hu with hu | hu
   ·exact Int.le_trans (ih.ahead hu) hz
   ·simp at hu;subst hu;exact hz
def bs (l:List Int):Prop:=∀x∈l,look tab x=none
theorem ztd:∀p∈tab,look tab p.2.1=none:=by decide +kernel
theorem zte:∀p∈tab,look tab p.2.2=some p:=by decide +kernel
theorem zv1:∀p∈tab,full 1 p.1=fl p.1:=by decide +kernel
theorem zic:∀p∈tab,M.right p.1=true/\M.right p.2.1=true/\M.right p.2.2=true:=by decide +kernel
theorem zja:∀(n:Nat) (r:Int),deep n r->∀x∈full n r,look tab x=none
 | 0,r,h,x,hx=>by simp[full] at hx;subst hx;exact h
 | n+1,r,h,x,hx=>by
  rw[full] at hx;cases hl:look tab r with
  | none=>rw[hl] at hx;simp at hx;subst hx;exact hl
  | some p =>
   rw[hl] at hx;rcases List.mem_append.1 hx with hx | hx
   ·exact zja n p.1 (h p hl) x hx
   ·simp at hx;subst hx;exact ztd p (zcm hl).1
theorem zgx:∀(n:Nat) (r:Int),M.right r=true->∀x∈full n r,M.right x=true
 | 0,r,h,x,hx=>by simp[full] at hx;subst hx;exact h
 | n+1,r,h,x,hx=>by
  rw[full] at hx;cases hl:look tab r with
  | none=>rw[hl] at hx;simp at hx;subst hx;exact h
  | some p =>
   rw[hl] at hx;have hp:=zic p (zcm hl).1;rcases List.mem_append.1 hx with hx | hx
   ·exact zgx n p.1 hp.1 x hx
   ·simp at hx;subst hx;exact hp.2.1
theorem zr2 {x:Int}(h:look tab x=none):fl x= [x]:=by
 show full 2 x=_;rw[full,h]
theorem zd4:∀ {l:List Int},bs l->l.flatMap fl=l
 | [],_=>rfl
 | x::l,h=>by
  rw[List.flatMap_cons,zr2 (h x List.mem_cons_self),zd4 fun y hy=>h y (List.mem_cons_of_mem _ hy)];rfl
def Nf (a:List Int):Prop:=bs a/\gv a.reverse/\a.length<=4000/\∀r∈a,M.right r=true
theorem zm2 {l:List Int}(h:K.textE l=0):∀r∈l,M.right r=true:=by
 unfold K.textE at h;split at h
 ·cases h
 ·split at h
  ·rename_i h2;exact fun r hr=>List.all_eq_true.1 h2 r hr
  ·cases h
theorem zps {l:List Int}(h1:l.length<=4000)(h2:∀r∈l,M.right r=true):K.textE l=0:=by
 unfold K.textE;rw[if_neg (by omega),if_pos (show K.allR l=true from List.all_eq_true.2 h2)]
theorem zvd {l:List Int}(h:(apartF l).2=0):Nf (apartF l).1:=by
 have hn:=zcf l;unfold apartF at h hn ⊢
 by_cases h0:K.textE l=0
 ·rw[if_neg (by rw[h0];simp)] at h hn ⊢;have hr:=zm2 h0
  by_cases hm:4000<(l.flatMap fl).length
  ·rw[if_pos hm] at h;cases h
  ·rw[if_neg hm] at h hn ⊢;refine⟨fun x hx=> ?_,zr1 _ [] trivial,hn,fun x hx=> ?_⟩
   ·rcases zev _ _ x hx with hx | hx
    ·obtain⟨r,_,hx⟩:=List.mem_flatMap.1 hx;exact zja 2 r (zmd r) x hx
    ·cases hx
   ·rcases zev _ _ x hx with hx | hx
    ·obtain⟨r,hr',hx⟩:=List.mem_flatMap.1 hx;exact zgx 2 r (hr r hr') x hx
    ·cases hx
 ·rw[if_pos h0] at h;exact absurd h h0
theorem zld {a:List Int}(h:Nf a):apartF a=(a,0):=by
 obtain⟨h1,h2,h3,h4⟩:=h;unfold apartF;rw[if_neg (by rw[zps h3 h4];simp),zd4 h1,if_neg (by omega)];have:=zw1 a.reverse h2;rw[List.reverse_reverse] at this;rw[this]
/-! a letter and its marks, joined, and taken apart again -/
theorem zrj {h:Int}(hh:look tab h=none):∀(M P:List Int) (s:Int×List Int×Int) (J:List Int),Srt (P++M)->fl s.1=h::J->Eqv P (J++s.2.1)->(∀u∈s.2.1,u∈P/\cls u<=s.2.2)->∃J',fl (M.foldl js s).1=h::J'/\Eqv (P++M) (J'++(M.foldl js s).2.1)/\∀u∈(M.foldl js s).2.1,u∈P++M
 | [],P,s,J,_,h1,h2,h3=>⟨J,h1,by rw[List.append_nil];exact h2,fun u hu=>by rw[List.append_nil];exact(h3 u hu).1⟩
 | m::M,P,s,J,hs,h1,h2,h3=>by
  rw[List.foldl_cons];have e:P++m::M=P++ [m]++M:=by simp
  rw[e] at hs ⊢;have hle:∀u∈P,cls u<=cls m:=fun u hu=>(hs.parts.1).ahead (b:= []) hu
  by_cases hc:0<=jw s.1 m/\s.2.2<cls m
  ·have e2:js s m=(jw s.1 m,s.2.1,s.2.2):=by unfold js;rw[if_pos hc]
   obtain⟨p,hp⟩:∃p,join tab s.1 m=some p:=by
    cases hj:join tab s.1 m with
    | none=>rw[zhv hj] at hc;omega
    | some p=>exact⟨p,rfl⟩
   have hpm:=List.mem_of_find?_eq_some hp;have hpe:=List.find?_some hp;simp at hpe
   have hfl:fl (jw s.1 m)=h::(J++ [m]):=by
    rw[(zhu hp).1];show full 2 p.2.2=_;rw[full,zte p hpm];show full 1 p.1++ [p.2.1]=_;rw[zv1 p hpm,hpe.1,hpe.2,h1];rfl
   rw[e2];refine zrj hh M (P++ [m]) _ (J++ [m]) hs hfl ?_ fun u hu=>⟨List.mem_append_left _ (h3 u hu).1,(h3 u hu).2⟩
   have hr:Eqv ([m]++s.2.1) (s.2.1++ [m]):=Eqv.rot fun x hx y hy=>by
    simp at hx;subst hx;have:=(h3 y hy).2;omega
   have h4:=(h2.app (Eqv.refl [m])).trans (by rw[List.append_assoc];exact(Eqv.refl J).app hr.symm);rw[List.append_assoc];exact h4
  ·have e2:js s m=(s.1,s.2.1++ [m],cls m):=by unfold js;rw[if_neg hc]
   rw[e2];refine zrj hh M (P++ [m]) _ J hs h1 ?_ fun u hu=> ?_
   ·show Eqv _ (J++(s.2.1++ [m]));rw[<- List.append_assoc];exact h2.app (Eqv.refl [m])
   ·rcases List.mem_append.1 hu with hu | hu
    ·exact⟨List.mem_append_left _ (h3 u hu).1,hle u (h3 u hu).1⟩
    ·simp at hu;subst hu;exact⟨by simp,Int.le_refl _⟩
theorem zuj {h:Int}{M X:List Int}(hh:look tab h=none)(hc:cls h=0)(hb:bs M)(hm:∀x∈M,isM x=true)(hs:Srt M):((jn h M).flatMap fl).foldl insR X=X++h::M:=by
 obtain⟨J,h1,h2,h3⟩:=zrj hh M [] (h,[],0) [] (by simpa using hs) (zr2 hh) (Eqv.refl _) (fun u hu=>by cases hu);unfold jn;rw[List.flatMap_cons,h1,zd4 (fun x hx=>hb x (by simpa using h3 x hx)),List.cons_append,List.foldl_cons,zi5 hc,zl7 (.inr ⟨X,h,rfl,hc⟩)];rw[List.nil_append] at h2;rw[<- zlk (M:=J++(M.foldl js (h,[],0)).2.1) (S:=M) (fun x hx=>hm x (h2.symm.mem hx)) hs h2.symm];simp
theorem zib:∀(n:Nat) (a X:List Int),a.length<=n->bs a->gv a.reverse->(a= []∨∃h t,a=h::t/\isM h=false)->((tog a).flatMap fl).foldl insR X=X++a
 | n,[],X,_,_,_,_=>by rw[zpn];simp
 | 0,h::t,X,hl,_,_,_=>by simp at hl
 | n+1,h::t,X,hl,hb,hg,hf=>by
  have hm:isM h=false:=by
   rcases hf with hf | ⟨_,_,e,hf⟩
   ·cases hf
   ·cases e;exact hf
  have hc:cls h=0:=by
   have:=zh4 h
   by_cases h0:0<cls h
   ·rw[zko.2 h0] at hm;cases hm
   ·omega
  have hsp:=List.takeWhile_append_dropWhile (p:=isM) (l:=t);have hb2:=fun x hx=>hb x (List.mem_cons_of_mem _ hx)
  have hg2:gv ((t.dropWhile isM).reverse++(t.takeWhile isM).reverse++ [h]):=by
   have:(h::t).reverse=(t.dropWhile isM).reverse++(t.takeWhile isM).reverse++ [h]:=by
    rw[List.reverse_cons,<- List.reverse_append,hsp]
   rw[<- this];exact hg
  have hg3:gv (t.takeWhile isM).reverse:=by
   have:∀(A B:List Int),gv (A++B)->gv A:=by
    intro A
    induction A with
    | nil=>intro B _;trivial
    | cons x A ih =>
     intro B hAB;cases A with
     | nil=>trivial
     | cons y A=>exact⟨hAB.1,ih B hAB.2⟩
   exact this _ [h] (zkr _ (by rw[<- List.append_assoc];exact hg2))
  have hg4:gv (t.dropWhile isM).reverse:=by
   have:∀(A B:List Int),gv (A++B)->gv A:=by
    intro A
    induction A with
    | nil=>intro B _;trivial
    | cons x A ih =>
     intro B hAB;cases A with
     | nil=>trivial
     | cons y A=>exact⟨hAB.1,ih B hAB.2⟩
   exact this _ _ (this _ _ hg2)
  have hs:Srt (t.takeWhile isM):=by
   have:=zvm _ hg3 fun x hx=>zb5 t x (List.mem_reverse.1 hx)
   rwa [List.reverse_reverse] at this
  have hf2:t.dropWhile isM= []∨∃h' t',t.dropWhile isM=h'::t'/\isM h'=false:=by
   have:=zcx t;rw[zca] at this;exact this
  have hdl:=zhz t
  rw[zgb t hm,List.flatMap_append,List.foldl_append,zuj (hb h List.mem_cons_self) hc (fun x hx=>hb2 x (by rw[<- hsp];exact List.mem_append_left _ hx)) (zb5 t) hs,
   zib n (t.dropWhile isM) _ (by simp at hl;omega) (fun x hx=>hb2 x (by rw[<- hsp];exact List.mem_append_right _ hx)) hg4 hf2]
  rw[List.append_assoc,List.cons_append,hsp]
theorem zuf (s:Int×List Int×Int)(m:Int)(h:M.right s.1=true)(hl:∀u∈s.2.1,M.right u=true)(hm:M.right m=true):M.right (js s m).1=true/\∀u∈(js s m).2.1,M.right u=true:=by
 unfold js;split
 ·rename_i hc
  refine⟨?_,hl⟩;cases hj:join tab s.1 m with
  | none=>rw[zhv hj] at hc;omega
  | some p=>show M.right (jw s.1 m)=true;rw[(zhu hj).1];exact(zic p (List.mem_of_find?_eq_some hj)).2.2
 ·exact⟨h,fun u hu=>by
   rcases List.mem_append.1 hu with hu | hu
   ·exact hl u hu
   ·simp at hu;subst hu;exact hm⟩
theorem zl2:∀(Ms:List Int) (s:Int×List Int×Int),M.right s.1=true->(∀u∈s.2.1,M.right u=true)->(∀u∈Ms,M.right u=true)->M.right (Ms.foldl js s).1=true/\∀u∈(Ms.foldl js s).2.1,M.right u=true
 | [],s,h,hl,_=>⟨h,hl⟩
 | m::Ms,s,h,hl,hm=>by
  obtain⟨a,b⟩:=zuf s m h hl (hm m List.mem_cons_self);exact zl2 Ms _ a b fun u hu=>hm u (List.mem_cons_of_mem _ hu)
theorem zea:∀(n:Nat) (l:List Int),(∀u∈l,M.right u=true)->∀u∈togN n l,M.right u=true
 | 0,l,_,u,hu=>by simp[togN] at hu
 | n+1,[],_,u,hu=>by simp[togN] at hu
 | n+1,h::t,hr,u,hu=>by
  have hsp:=List.takeWhile_append_dropWhile (p:=isM) (l:=t);have ht:=fun u hu=>hr u (List.mem_cons_of_mem _ hu)
  rw[togN] at hu;split at hu
  ·rcases List.mem_cons.1 hu with rfl | hu
   ·exact hr _ List.mem_cons_self
   ·exact zea n t ht u hu
  ·rcases List.mem_append.1 hu with hu | hu
   ·obtain⟨a,b⟩:=zl2 (t.takeWhile isM) (h,[],0) (hr h List.mem_cons_self) (fun u hu=>by cases hu) (fun u hu=>ht u (by rw[<- hsp];exact List.mem_append_left _ hu));unfold jn at hu;rcases List.mem_cons.1 hu with rfl | hu
    ·exact a
    ·exact b u hu
   ·exact zea n _ (fun u hu=>ht u (by rw[<- hsp];exact List.mem_append_right _ hu)) u hu
theorem zsm {a:List Int}(h:Nf a):apartF (tog a)=(a,0):=by
 obtain⟨h1,h2,h3,h4⟩:=h;have hsp:a.takeWhile isM++a.dropWhile isM=a:=List.takeWhile_append_dropWhile
 have hfold:((tog a).flatMap fl).foldl insR []=a:=by
  have e:=ze2 (a.takeWhile isM) (a.dropWhile isM) (zb5 a);rw[hsp] at e;have hrev:a.reverse=(a.dropWhile isM).reverse++(a.takeWhile isM).reverse:=by rw[<- List.reverse_append,hsp]
  have hg1:=zkr _ (by rw[<- hrev];exact h2)
  have hg2:gv (a.dropWhile isM).reverse:=by
   have hh:∀(A B:List Int),gv (A++B)->gv A:=by
    intro A
    induction A with
    | nil=>intro B _;trivial
    | cons x A ih =>
     intro B hAB;cases A with
     | nil=>trivial
     | cons y A=>exact⟨hAB.1,ih B hAB.2⟩
   exact hh _ _ (by rw[<- hrev];exact h2)
  have hb1:bs (a.takeWhile isM):=fun x hx=>h1 x (by rw[<- hsp];exact List.mem_append_left _ hx)
  have hb2:bs (a.dropWhile isM):=fun x hx=>h1 x (by rw[<- hsp];exact List.mem_append_right _ hx)
  have hf:=zcx a;rw[zca] at hf;rw[e,List.flatMap_append,zd4 hb1,List.foldl_append];have hi:=zw1 _ hg1;rw[List.reverse_reverse] at hi;rw[hi,zib _ _ _ qN hb2 hg2 hf,hsp]
 have hlen:=zew ((tog a).flatMap fl) [];rw[hfold] at hlen;simp only[List.length_nil,Nat.zero_add] at hlen;unfold apartF;rw[if_neg (by rw[zps (Nat.le_trans (zjy a) h3) (zea _ a h4)];simp),if_neg (by omega),hfold]
theorem zri {l:List Int}(h:(apartF l).2=0):Od.keyF (apartF l).1=Od.keyF l/\Od.keyF (tog (apartF l).1)=Od.keyF l:=by
 have hn:=zvd h;unfold Od.keyF;rw[zld hn,zsm hn,h];simp
end Nm
section
open Go.RowKit
set_option maxRecDepth 20000
namespace Od
theorem zsl:∀(l l':List (List Int)) (k:Nat),l.map keyF=l'.map keyF->badN k l=badN k l'
 | [],[],_,_=>rfl
 | [],_::_,_,h=>by simp at h
 | _::_,[],_,h=>by simp at h
 | a::l,b::l',k,h=>by
  simp only[List.map_cons,List.cons.injEq] at h;rw[badN,badN,h.1,zsl l l' (k+1) h.2]
theorem zl0 {l l':List (List Int)}(h:l.map keyF=l'.map keyF):wrongS l=wrongS l'/\outS l=outS l':=by
 have hl:l.length=l'.length:=by have:=congrArg List.length h;simpa using this
 have hw:wrongS l=wrongS l':=by unfold wrongS;rw[hl,zsl l l' 0 h]
 refine⟨hw,?_⟩
 have hk:keysL l=keysL l':=by
  have e:∀m:List (List Int),keysL m=(m.map keyF).map (·.1):=fun m=>by unfold keysL;rw[List.map_map];rfl
  rw[e,e,h]
 unfold outS;rw[hw,hk]
end Od
namespace Tp
theorem push1 {w:World}{F:Nat}{v:Value}{ts:List (List Int)}(h:Ws.Own F w v ts)(hF:F<=w.heap.size)(hl:ts.length<=1099511627776)(t:List Int)(r:Value)(hr:w.ownsRow F 21 1 r t.length (K.ints t)) :
  ∃ao c w',(∀ty,(Builtin.append_ #[34,34] ty #[v,.slice (some ⟨w.heap.size,0,none⟩) 1 1]).run prog (w.alloc (.cells #[r] 33))= .ok (.slice ao (ts.length+1) c) w')/\Ws.Own F w' (.slice ao (ts.length+1) c) (ts++ [t])/\Below F w w'/\w.heap.size<=w'.heap.size/\(∀(u:Value) (us:List (List Int)),Ws.Own F w u us->Od.Apt v u->Ws.Own F w' u us/\Od.Apt (.slice ao (ts.length+1) c) u)/\(∀(u:Value) (n:Nat) (xs:List Value),w.ownsRow F 21 1 u n xs->w'.ownsRow F 21 1 u n xs):=by
 obtain⟨ps,h1,h2,h3⟩:=h;obtain⟨ao,cap,w',run,own',kp,sz,be,nw⟩:=Od.app (sl:=34) underlying34 Tryz.infoTxt rfl (by decide) (by decide) h2 hF hl [r] rfl (fun u hu=>by simp at hu;subst hu;exact Ws.one_cell hr);have ki:∀(u:Value) (n:Nat) (xs:List Value),w.ownsRow F 21 1 u n xs->w'.ownsRow F 21 1 u n xs:=fun u n xs hu=>Al.held hu fun q hq hlt=>kp q hlt fun e=>Ws.zwm h2 hu (by decide) q e hq
 refine⟨ao,cap,w',run,⟨ps++ [(t,r)],by simp[h1],?_,fun p hp=> ?_⟩,be,sz,fun u us hu ha=> ?_,ki⟩
 ·rw[List.map_append,List.length_append];exact own'
 ·rcases List.mem_append.1 hp with hp | hp
  ·exact ki _ _ _ (h3 p hp)
  ·simp at hp;subst hp;exact ki _ _ _ hr
 ·obtain⟨qs,g1,g2,g3⟩:=hu;refine⟨⟨qs,g1,Al.held g2 fun q hq hlt=>kp q hlt fun e=>ha q e hq,fun p hp=>ki _ _ _ (g3 p hp)⟩,fun q a1 a2=> ?_⟩;rcases nw with e | ⟨p,e,hp⟩
  ·exact ha q (e.symm.trans a1) a2
  ·rw[e] at a1;have:=(g2.lt q a2).2;have:=Option.some.inj a1;omega
structure Tr (w:World) (F:Nat) (a b c:Value) (A B C:List (List Int)):Prop where
 o1:Ws.Own F w a A
 o2:Ws.Own F w b B
 o3:Ws.Own F w c C
 a12:Od.Apt a b
 a13:Od.Apt a c
 a23:Od.Apt b c
theorem own_below {F:Nat}{w w':World}{v:Value}{ts:List (List Int)}(h:Ws.Own F w v ts)(hb:Below w.heap.size w w'):Ws.Own F w' v ts:=h.kept fun g _ hg=>hb.block g hg
theorem Tr.below {w w':World}{F:Nat}{a b c:Value}{A B C:List (List Int)}(h:Tr w F a b c A B C)(hb:Below w.heap.size w w'):Tr w' F a b c A B C :=
 ⟨own_below h.o1 hb,own_below h.o2 hb,own_below h.o3 hb,h.a12,h.a13,h.a23⟩
theorem Tr.nil (w:World)(F:Nat):Tr w F (.slice none 0 0) (.slice none 0 0) (.slice none 0 0) [] [] [] :=
 ⟨Ws.Own.nil _ _,Ws.Own.nil _ _,Ws.Own.nil _ _,Od.zen _,Od.zen _,Od.zen _⟩
theorem push3 {w:World}{F:Nat}{a b c:Value}{A B C:List (List Int)}(h:Tr w F a b c A B C)(hF:F<=w.heap.size)(hA:A.length<=1099511627776)(hB:B.length<=1099511627776)(hC:C.length<=1099511627776)
  {x y z:Value} {t u v:List Int} (hx:w.ownsRow F 21 1 x t.length (K.ints t)) (hy:w.ownsRow F 21 1 y u.length (K.ints u)) (hz:w.ownsRow F 21 1 z v.length (K.ints v)) :
  ∃a1 a2 w1 b1 b2 w2 c1 c2 w3,(∀ty,(Builtin.append_ #[34,34] ty #[a,.slice (some ⟨w.heap.size,0,none⟩) 1 1]).run prog (w.alloc (.cells #[x] 33))= .ok (.slice a1 (A.length+1) a2) w1)/\(∀ty,(Builtin.append_ #[34,34] ty #[b,.slice (some ⟨w1.heap.size,0,none⟩) 1 1]).run prog (w1.alloc (.cells #[y] 33))= .ok (.slice b1 (B.length+1) b2) w2)/\(∀ty,(Builtin.append_ #[34,34] ty #[c,.slice (some ⟨w2.heap.size,0,none⟩) 1 1]).run prog (w2.alloc (.cells #[z] 33))= .ok (.slice c1 (C.length+1) c2) w3) /\
   Tr w3 F (.slice a1 (A.length+1) a2) (.slice b1 (B.length+1) b2) (.slice c1 (C.length+1) c2) (A++ [t]) (B++ [u]) (C++ [v])/\Below F w w3:=by
 obtain⟨a1,a2,w1,r1,p1,e1,s1,k1,i1⟩:=push1 h.o1 hF hA t x hx;obtain⟨q2,d12⟩:=k1 b B h.o2 h.a12;obtain⟨q3,d13⟩:=k1 c C h.o3 h.a13;obtain⟨b1,b2,w2,r2,p2,e2,s2,k2,i2⟩:=push1 q2 (Nat.le_trans hF s1) hB u y (i1 _ _ _ hy);obtain⟨q1,d21⟩:=k2 _ _ p1 d12.symm;obtain⟨q3,d23⟩:=k2 c C q3 h.a23;obtain⟨c1,c2,w3,r3,p3,e3,s3,k3,i3⟩:=push1 q3 (Nat.le_trans hF (Nat.le_trans s1 s2)) hC v z (i2 _ _ _ (i1 _ _ _ hz));obtain⟨q1,d31⟩:=k3 _ _ q1 d13.symm;obtain⟨q2,d32⟩:=k3 _ _ p2 d23.symm;exact⟨a1,a2,w1,b1,b2,w2,c1,c2,w3,r1,r2,r3,⟨q1,q2,p3,d21.symm,d31.symm,d32.symm⟩,e1.trans (e2.trans e3)⟩
structure Al (T A B:List (List Int)):Prop where
 k1:A.map Od.keyF=T.map Od.keyF
 k2:B.map Od.keyF=T.map Od.keyF
theorem Al.push {T A B:List (List Int)}(h:Al T A B){t:List Int}(h0:(Nm.apartF t).2=0):Al (T++ [t]) (A++ [(Nm.apartF t).1]) (B++ [(Nm.togF t).1]):=by
 obtain⟨e1,e2⟩:=Nm.zri h0;have e3:(Nm.togF t).1=Nm.tog (Nm.apartF t).1:=by unfold Nm.togF;rw[if_neg (by rw[h0];simp)]
 exact⟨by rw[List.map_append,List.map_append,h.k1];simp[e1],by rw[List.map_append,List.map_append,h.k2,e3];simp[e2]⟩
theorem zs4 {t:List Int}:(Nm.togF t).2=(Nm.apartF t).2:=by
 unfold Nm.togF;split
 ·rfl
 ·rename_i h;simpa using (Classical.not_not.1 h).symm
end Tp
end
section
open Go.RowKit
theorem Tp.zg8 {a b:List Int}{k:Nat}{x y:Int}(h:a.take k=b.take k)(hx:a[k]?=some x)(hy:b[k]?=some y)(e:x=y):a.take (k+1)=b.take (k+1):=by
 rw[List.take_add_one,List.take_add_one,h,hx,hy,e]
theorem zgc (w:World)(va vb:Value)(za zb:List Int)(ha:L.Rd w va .i64 za)(hb:L.Rd w vb .i64 zb)(hla:za.length<=4611686018427387903)(hlb:zb.length<=4611686018427387903) :
  Calls prog 22 #[va,vb] w fun e w'=>e= .returned (.bool (decide (za=zb)))/\Below w.heap.size w w':=by
 obtain⟨ao,ca,rfl,_,ha⟩:=ha;obtain⟨bo,cb,rfl,_,hb⟩:=hb
 by_cases hl:za.length=zb.length
 ·go_enter func22,ntmps22
  go_wp2
  go_loopw [13] (fun i wr=>∃k n:Nat,k<=za.length/\i= .int .i64 k/\za.take k=zb.take k/\wr=w.drewN n) (fun i _=>za.length - (intOf i).toNat)
  case atStart=>exact⟨0,0,Nat.zero_le _,rfl,by simp,rfl⟩
  case round =>
   obtain⟨k,n,hk,rfl,ht,rfl⟩:=hrel
   by_cases hlt:k<za.length
   ·obtain⟨b1,o1,rfl,hc1⟩:=ha (by intro h;subst h;simp at hlt);obtain⟨b2,o2,rfl,hc2⟩:=hb (by intro h;subst h;simp at hl;rw[hl] at hlt;simp at hlt);obtain⟨x,hx⟩:∃x,za[k]?=some x:=⟨za[k],by simp[hlt]⟩;obtain⟨y,hy⟩:∃y,zb[k]?=some y:=⟨zb[k]'(by omega),by simp[show k<zb.length by omega]⟩;have c1:=hc1 k x hx;have c2:=hc2 k y hy;clear hc1 hc2 ha hb;have HX:Hid (za[k]?=some x/\zb[k]?=some y/\za.take k=zb.take k):=⟨hx,hy,ht⟩;clear hx hy ht
    by_cases hxy:x=y
    ·go_wp2
     go_quiet (fail)
     go_wp2
     go_roundw
     case rel=>exact⟨k+1,_,by omega,by go_num,Tp.zg8 HX.out.2.2 HX.out.1 HX.out.2.1 hxy,rfl⟩
     case measure=>simp[intOf];omega
    ·go_wp2
     go_quiet (fail)
     go_wp2;go_ret
     refine⟨L.zak ?_,below_drewN (below_drewN (qR _) _) _⟩
     have:za≠zb:=by
      intro e;rw[e] at HX;have h1:=HX.out.1;rw[HX.out.2.1] at h1;exact hxy (Option.some.inj h1).symm
     simp[this]
   ·go_wp2;go_ret
    refine⟨L.zak ?_,below_drewN (qR _) _⟩;rw[List.take_of_length_le (by omega),List.take_of_length_le (by omega)] at ht;simp[ht]
 ·go_enter func22,ntmps22
  go_wp2;go_ret
  refine⟨L.zak ?_,qR _⟩;have:za≠zb:=by intro e;exact hl (by rw[e])
  simp[this]
