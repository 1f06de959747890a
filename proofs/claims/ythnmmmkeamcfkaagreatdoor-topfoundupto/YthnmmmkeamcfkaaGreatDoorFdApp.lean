import Derived.Test.YthnmmmkeamcfkaaGreatDoorAlWhole
set_option maxHeartbeats 0
set_option maxRecDepth 20000
set_option linter.unusedSimpArgs false
set_option linter.unusedVariables false
namespace Go.Proofs.YthnmmmkeamcfkaaGreatDoor
open Go.Proofs.Tryz
section
open Go.RowKit Go.Lib
theorem Al.zb1 (xo:Option Addr)(N xc i j:Nat)(h:i<=j)(hj:j<=xc)(w':World):(Instr.slice 33 (.slice xo N xc) (some (.int .i64 (i:Int))) (some (.int .i64 (j:Int))) none).run prog w'= .ok (.slice (if xc=i then xo else Option.map (fun x=>x.add i) xo) (j - i) (xc - i)) w':=by
 have a1:(i:Int)<=j:=by omega
 have a2:(j:Int)<=xc:=by omega
 have a0:(0:Int)<=i:=by omega
 have a3:(0:Int)<=j:=by omega
 go_simp
theorem Al.zva {w:World}{xo:Option Addr}{xc:Nat}{t:List Int}(h:L.Rd w (.slice xo t.length xc) .i32 t){a b:Nat}(hab:a<=b)(hb:b<=t.length)(hxc:t.length<=xc):L.Rd w (.slice (if xc=a then xo else Option.map (fun p=>p.add a) xo) (b - a) (xc - a)) .i32 ((t.drop a).take (b - a)):=by
 have h1:=K.zhd h hb;have e:(t.take b).length=b:=by rw[List.length_take];omega
 have h2:=K.zfi (t:=t.take b) (xo:=xo) (xc:=xc) (w:=w) (by rw[e];exact h1) (d:=a) (by omega) (by omega);rw[e,List.drop_take] at h2;exact h2
theorem Al.ztg {l:List K.Rule}{t:List Int}{o:List J.Hd×Int×Int}(h:(Al.ans l t o).2.1=0):o.2.1=0/\(K.play l (8*t.length+40) [] t 0 0).1=0/\K.sureB l=true/\Al.ans l t o=(Al.links l 0 (Al.shots l (8*t.length+40) [] t),0,0):=by
 unfold Al.ans at h ⊢
 by_cases h1:o.2.1≠0
 ·rw[if_pos h1] at h;exact absurd h h1
 ·rw[if_neg h1] at h ⊢
  by_cases h2:(K.play l (8*t.length+40) [] t 0 0).1≠0
  ·rw[if_pos h2] at h;exact absurd h h2
  ·rw[if_neg h2] at h ⊢
   by_cases h3:K.sureB l=true
   ·rw[if_pos h3] at h ⊢;exact⟨by simpa using h1,by simpa using h2,h3,rfl⟩
   ·rw[if_neg h3] at h;exact absurd (show (8:Int)=0 from h) (by decide)
end
section
open Go.RowKit Go.Lib
namespace Fd
def At (w:World) (p:Option Addr) (X:List Al.Lk):Prop:=0<X.length->∃g,p=some ⟨g,0,none⟩/\g<w.heap.size/\∀j u,(Al.lcells X)[j]?=some u->w.cell? ⟨g,j,none⟩=some u
theorem At.below {w w':World}{p:Option Addr}{X:List Al.Lk}(h:At w p X)(hb:Below w.heap.size w w'):At w' p X:=fun h0=>by
 obtain⟨g,rfl,hg,hc⟩:=h h0;exact⟨g,rfl,by have:=hb.size;omega,fun j u hu=>(hb.cell (p:=⟨g,_,none⟩) hg).trans (hc j u hu)⟩
theorem zml {f:Al.Lk->List Int}{ls:List Al.Lk}{k:Nat}:((ls.take k).flatMap f).length<=(ls.flatMap f).length:=by
 conv=>rhs;rw[<- List.take_append_drop k ls,List.flatMap_append,List.length_append]
 omega
end Fd
theorem znh (w:World)(va:Option Addr)(vc:Nat)(l:List K.Rule)(R0:V.Rus w (.slice va l.length vc) l)(xo:Option Addr)(xc:Nat)(t:List Int)(D0:L.Rd w (.slice xo t.length xc) .i32 t)(hxc:t.length<=xc)(ht4:t.length<=4000)
  (p1:Option Addr) (pc1:Nat) (Lk:List Al.Lk) (hOw:Fd.At w p1 Lk) (hLl:Lk.length<=32040) (hl200:l.length<=200) (hFit:∀x∈Lk,Al.Fits l t x) (hpx:(Lk.flatMap (Al.cameOf l t)).length<=4000) :
  Calls prog 56 #[.slice va l.length vc,.slice xo t.length xc,.slice p1 Lk.length pc1] w fun e w'=>∃zo zc,e= .returned (.slice zo (Lk.flatMap (Al.cameOf l t)).length zc)/\L.Rd w' (.slice zo (Lk.flatMap (Al.cameOf l t)).length zc) .i32 (Lk.flatMap (Al.cameOf l t))/\(Lk.flatMap (Al.cameOf l t)).length<=zc/\Below w.heap.size w w':=by
 have HR3:=qH R0;have HD3:=qH D0;have HOw:=qH hOw;have HW2:=qH hFit
 have HPre:Hid (∀k,((Lk.take k).flatMap (Al.cameOf l t)).length<=4000):=fun k=>by
  have:=Fd.zml (f:=Al.cameOf l t) (ls:=Lk) (k:=k);omega
 clear R0 D0 hOw hFit hpx
 go_enter func56,ntmps56
 go_wp2
 go_loopw [7,12] (fun i7 i12 wr=>∃(k:Nat) (z:List Int) (zo:Option Addr) (zc:Nat),k<=Lk.length/\i12= .int .i64 k/\i7= .slice zo z.length zc/\z.length<=4000/\Hid (z=(Lk.take k).flatMap (Al.cameOf l t))/\Hid (wr.ownsRow w.heap.size 21 1 (.slice zo z.length zc) z.length (K.ints z)/\Below w.heap.size w wr)) (fun _ i12 _=>Lk.length - (RowKit.intOf i12).toNat)
 case atStart=>exact⟨0,[],none,0,Nat.zero_le _,rfl,rfl,by simp,by show _=_;simp,World.ownsRow_nil _ _ _ _,qR _⟩
 case round =>
  obtain⟨k,z,zo,zc,hk,rfl,rfl,hzl,HZ,HI⟩:=hrel
  by_cases hlt:k<Lk.length
  ·obtain⟨x,hx⟩:∃x,Lk[k]?=some x:=⟨Lk[k],by simp[hlt]⟩;obtain⟨g,rfl,hg,hc⟩:=HOw.out (by omega);obtain⟨a0,a1,a2,a3,a4⟩:=Al.zd1 hx;have c0:wr.cell? ⟨g,k*5,none⟩=_:=(HI.out.2.cell (p:=⟨g,_,none⟩) hg).trans (hc _ _ a0);have c1:wr.cell? ⟨g,k*5+1,none⟩=_:=(HI.out.2.cell (p:=⟨g,_,none⟩) hg).trans (hc _ _ a1);have c2:wr.cell? ⟨g,k*5+2,none⟩=_:=(HI.out.2.cell (p:=⟨g,_,none⟩) hg).trans (hc _ _ a2);have c3:wr.cell? ⟨g,k*5+3,none⟩=_:=(HI.out.2.cell (p:=⟨g,_,none⟩) hg).trans (hc _ _ a3);have c4:wr.cell? ⟨g,k*5+4,none⟩=_:=(HI.out.2.cell (p:=⟨g,_,none⟩) hg).trans (hc _ _ a4);obtain⟨e1,e2,e3,e4⟩:=HW2.out x (List.mem_of_getElem? hx)
   have hnx:(Lk.take (k+1)).flatMap (Al.cameOf l t)=z++Al.cameOf l t x:=by
    rw[List.take_add_one,hx,List.flatMap_append,<- HZ.out];simp
   have hln:=HPre.out (k+1);rw[hnx] at hln;obtain⟨q1,q2,q3,q4,q5⟩:=x;simp only at c0 c1 c2 c3 c4 e1 e2 e3 e4;obtain⟨X,hX⟩:∃X,X=wr.alloc (.cells #[.int .i64 q1,.int .i64 q2,.int .i64 q3,.int .i64 q4,.int .i64 q5] 188):=⟨_,rfl⟩;have hXb:Below wr.heap.size wr X:=by rw[hX];exact(qR wr).alloc qN _
   have ownX:X.ownsRow w.heap.size 21 1 (.slice zo z.length zc) z.length (K.ints z):=by rw[hX];exact HI.out.1.alloc _
   have hXs:w.heap.size<=X.heap.size:=by have:=HI.out.2.size;have:=hXb.size;omega
   obtain⟨ia,hia⟩:∃a:Nat,q1=a:=⟨q1.toNat,by omega⟩;obtain⟨ib,hib⟩:∃b:Nat,q2=b:=⟨q2.toNat,by omega⟩;subst hia hib;have u1:¬(ia:Int)<0:=by omega
   have u2:¬(t.length:Int)<ib:=by omega
   have u3:¬(ib:Int)<ia:=by omega
   rcases e4 with e4 | ⟨j,r,e4,hj⟩
   ·subst e4
    have hcm:Al.cameOf l t ⟨ia,ib,q3,q4,-1⟩=(t.drop ia).take (ib - ia):=by
     unfold Al.cameOf;rw[if_pos (show ((-1:Int))<0 by decide)];simp
    rw[hcm] at hnx hln;obtain⟨ap,hap⟩:∃ap,ap=(if xc=ia then xo else Option.map (fun x=>x.add ia) xo):=⟨_,rfl⟩;have hsl:∀w',(Instr.slice 33 (.slice xo t.length xc) (some (.int .i64 (ia:Int))) (some (.int .i64 (ib:Int))) none).run prog w'= .ok (.slice ap (ib - ia) (xc - ia)) w':=fun w'=>by rw[hap];exact Al.zb1 xo t.length xc ia ib (by omega) (by omega) w'
    have hrw:=Al.zva (HD3.out.below (HI.out.2.trans (hXb.mono HI.out.2.size)) qN) (a:=ia) (b:=ib) (by omega) (by omega) hxc;rw[<- hap] at hrw;have hlw:((t.drop ia).take (ib - ia)).length=ib - ia:=by rw[List.length_take,List.length_drop];omega
    obtain⟨v8,w8,run8,own8,gr8,_⟩:=K.zqu X w.heap.size _ z ownX (.slice ap (ib - ia) (xc - ia)) ((t.drop ia).take (ib - ia)) hrw (by rw[List.length_append] at hln;omega) hXs;obtain⟨zo8,zc8,rfl,_⟩:=Al.lies own8;rw[hX] at run8;have HN:Hid (z++(t.drop ia).take (ib - ia)=(Lk.take (k+1)).flatMap (Al.cameOf l t)/\w8.ownsRow w.heap.size 21 1 (.slice zo8 (z++(t.drop ia).take (ib - ia)).length zc8) (z++(t.drop ia).take (ib - ia)).length (K.ints (z++(t.drop ia).take (ib - ia)))/\Below w.heap.size w w8/\(z++(t.drop ia).take (ib - ia)).length<=4000):=⟨hnx.symm,own8,(HI.out.2.trans (hXb.mono HI.out.2.size)).grown gr8 (by omega) fun k' hk'=>(ownX.lt k' hk').1,hln⟩;generalize z++(t.drop ia).take (ib - ia)=z2 at *;clear hcm hnx hln hrw hlw hap ownX own8 gr8 hXb hx hc a0 a1 a2 a3 a4 hX
    go_wp2_with (at_builtin;refine Lib.wpList_append_run _ rfl _ _ _ _ rfl _ _ rfl rfl _ _ (run8 _) ?_;clear run8)
    go_roundw
    case rel=>exact⟨k+1,z2,zo8,zc8,by omega,by go_num,rfl,HN.out.2.2.2,HN.out.1,HN.out.2.1,HN.out.2.2.1⟩
    case measure=>simp[RowKit.intOf];omega
   ·subst e4;have hjl:=(qL.1 hj).1
    have hcm:Al.cameOf l t ⟨ia,ib,q3,q4,j⟩=r.target:=by
     unfold Al.cameOf Al.ruleAt;rw[if_neg (show ¬(j:Int)<0 by omega)];show ((l[(j:Int).toNat]?).getD K.noRule).target=_;rw[Int.toNat_natCast,hj];rfl
    rw[hcm] at hnx hln;obtain⟨ba,oa,bo,bc,so,sc,ao2,ac,tt,tc,hva,r0,r1,r2,r3,r4,r5,r6,hP⟩:=K.Rus.rule (HR3.out.below HI.out.2) hj;cases hva;have hba:=L.block_lt r0;have hnb:ba≠wr.heap.size:=by omega
    have hPt:L.Rd wr (.slice tt r.target.length tc) .i32 r.target:=by
     obtain⟨_,_,_,_,_,_,_,_,he,_,_,_,h5,_⟩:=hP;simp at he;obtain⟨_,_,_,⟨q1',q2'⟩⟩:=he;subst q1' q2';exact h5
    obtain⟨v8,w8,run8,own8,gr8,_⟩:=K.zqu X w.heap.size _ z ownX (.slice tt r.target.length tc) r.target (hPt.below hXb qN) (by rw[List.length_append] at hln;omega) hXs;obtain⟨zo8,zc8,rfl,_⟩:=Al.lies own8;rw[hX] at run8;have HN:Hid (z++r.target=(Lk.take (k+1)).flatMap (Al.cameOf l t)/\w8.ownsRow w.heap.size 21 1 (.slice zo8 (z++r.target).length zc8) (z++r.target).length (K.ints (z++r.target))/\Below w.heap.size w w8/\(z++r.target).length<=4000):=⟨hnx.symm,own8,(HI.out.2.trans (hXb.mono HI.out.2.size)).grown gr8 (by omega) fun k' hk'=>(ownX.lt k' hk').1,hln⟩;generalize z++r.target=z2 at *;have hj0:(0:Int)<=j:=by omega
    have hjl2:(j:Int)<l.length:=by omega
    have u0:¬((l.length:Nat):Int)<=j:=by omega
    have u4:¬(j:Int)<0:=by omega
    clear hcm hnx hln hPt hP ownX own8 gr8 hXb hx hc a0 a1 a2 a3 a4 hX hj
    go_wp2_with (at_builtin;refine Lib.wpList_append_run _ rfl _ _ _ _ rfl _ _ rfl rfl _ _ (run8 _) ?_;clear run8)
    go_roundw
    case rel=>exact⟨k+1,z2,zo8,zc8,by omega,by go_num,rfl,HN.out.2.2.2,HN.out.1,HN.out.2.1,HN.out.2.2.1⟩
    case measure=>simp[RowKit.intOf];omega
  ·have hke:k=Lk.length:=by omega
   have hz:=HZ.out;rw[hke,List.take_length] at hz;go_wp2;go_ret;obtain⟨ao,cap,h1,h2,_⟩:=K.zpl HI.out.1;cases h1;rw[<- hz];exact⟨zo,zc,rfl,L.Rd.za7 HI.out.1,h2,HI.out.2⟩
end
namespace Fd
open Al (Lk)
def Row (n:Int):Int->List Lk->Prop
 | b,[]=>b=n
 | b,x::xs=>x.beg=b/\b<=x.fin/\Row n x.fin xs
theorem zo1 {l:List K.Rule}(hS:K.sureB l=true):∀(left:Nat) (A Z:List Int) (fr s p:Int),(K.play l left A Z s p).1=0 ->
  Row ((K.play l left A Z s p).2.1.length:Int) A.length (Al.links l fr (Al.shots l left A Z)):=by
 intro left
 induction left with
 | zero =>
  intro A Z fr s p h0
  by_cases hz:Z.length=0
  ·rw[K.zbu hz,Al.zbn hz];rfl
  ·rw[K.zcz hz] at h0;exact absurd h0 (by decide)
 | succ n ih =>
  intro A Z fr s p h0
  by_cases hz:Z.length=0
  ·rw[K.zbu hz,Al.zbn hz];rfl
  ·rcases K.zbr (l:=l) (t:=A++Z) (k:=A.length) with hk | ⟨j,r,hr,hm,hk⟩
   ·obtain⟨g1,g2⟩:=Al.zum (fr:=fr) hz hk h0;rw[K.zc7 hz hk,g2];have i1:=ih (A++Z.take 1) (Z.drop 1) (fr+1) (s+1) p g1;have e:(((A++Z.take 1).length:Nat):Int)=(A.length:Int)+1:=by rw[List.length_append,List.length_take];omega
    rw[e] at i1;exact⟨rfl,by show (A.length:Int)<=(A.length:Int)+1;omega,i1⟩
   ·obtain⟨g1,_,g2⟩:=Al.zp9 (fr:=fr) hz hk hr hS h0;have i1:=ih (A++r.target) (Z.drop r.source.length) (fr+(r.source.length:Int)) (s+1) (p+1) g1
    have hpl:(K.play l (n+1) A Z s p).2.1=(K.play l n (A++r.target) (Z.drop r.source.length) (s+1) (p+1)).2.1:=by
     have hg:=List.all_eq_true.1 hS r (List.mem_of_getElem? hr);have hc:r.cursor.toNat=r.target.length:=by unfold K.goesB at hg;have:=of_decide_eq_true hg;omega
     have e1:(K.restOf r Z).take r.cursor.toNat=r.target:=by rw[hc];unfold K.restOf;exact List.take_left
     have e2:(K.restOf r Z).drop r.cursor.toNat=Z.drop r.source.length:=by rw[hc];unfold K.restOf;rw[List.drop_left]
     by_cases hmu:4000<A.length+(K.restOf r Z).length
     ·rw[K.zb2 hz hk hr hmu] at h0;exact absurd h0 (by decide)
     ·rw[K.zcl hz hk hr hmu,e1,e2]
    rw[hpl,g2];have e:(((A++r.target).length:Nat):Int)=(A.length:Int)+(r.target.length:Int):=by rw[List.length_append];omega
    rw[e] at i1;exact⟨rfl,by show (A.length:Int)<=(A.length:Int)+(r.target.length:Int);omega,i1⟩
theorem Row.low {n:Int}:∀ {X:List Lk} {b:Int},Row n b X->b<=n/\∀x∈X,b<=x.beg/\x.beg<=x.fin/\x.fin<=n:=by
 intro X
 induction X with
 | nil=>intro b h;have h':b=n:=h;exact⟨by omega,fun x hx=>by cases hx⟩
 | cons y X ih =>
  intro b h;obtain⟨h1,h2,h3⟩:=h;obtain⟨g1,g2⟩:=ih h3;refine⟨by omega,fun x hx=> ?_⟩;rcases List.mem_cons.1 hx with rfl | hx
  ·exact⟨by omega,by omega,g1⟩
  ·have:=g2 x hx;exact⟨by omega,by omega,by omega⟩
theorem Row.behind {n:Int}:∀ {X:List Lk} {b:Int} {k:Nat} {x:Lk},Row n b X->X[k]?=some x->Row n x.fin (X.drop (k+1)):=by
 intro X
 induction X with
 | nil=>intro b k x _ h;simp at h
 | cons y X ih =>
  intro b k x h hx;cases k with
  | zero=>simp at hx;subst hx;exact h.2.2
  | succ k=>exact ih h.2.2 (by simpa using hx)
theorem zr9 {X:List Lk}{i j:Nat}{y:Lk}(hy:X[j]?=some y)(h:i<=j):y∈X.drop i :=
 List.mem_of_getElem? (i:=j - i) (by rw[List.getElem?_drop,show i+(j - i)=j by omega];exact hy)
theorem Row.order {n b:Int}{X:List Lk}(h:Row n b X){i j:Nat}{x y:Lk}(hx:X[i]?=some x)(hy:X[j]?=some y)(hij:i<j):x.fin<=y.beg :=
 ((h.behind hx).low.2 y (zr9 hy (by omega))).1
theorem Row.at {n b:Int}{X:List Lk}(h:Row n b X){i:Nat}{x:Lk}(hx:X[i]?=some x):b<=x.beg/\x.beg<=x.fin/\x.fin<=n:=h.low.2 x (List.mem_of_getElem? hx)
theorem Row.begs {n b:Int}{X:List Lk}(h:Row n b X){i j:Nat}{x y:Lk}(hx:X[i]?=some x)(hy:X[j]?=some y)(hij:i<=j):x.beg<=y.beg/\x.fin<=y.fin:=by
 rcases Nat.lt_or_eq_of_le hij with h1 | h1
 ·have:=h.order hx hy h1;have:=h.at hx;have:=h.at hy;exact⟨by omega,by omega⟩
 ·subst h1;rw[hx] at hy;cases hy;exact⟨Int.le_refl _,Int.le_refl _⟩
theorem Row.last {n:Int}:∀ {X:List Lk} {b:Int},Row n b X->0<X.length->∃y,X[X.length - 1]?=some y/\y.fin=n:=by
 intro X
 induction X with
 | nil=>intro b _ h;simp at h
 | cons x X ih =>
  intro b h _
  by_cases hz:X.length=0
  ·have:X= []:=List.length_eq_zero_iff.1 hz;subst this;have h3:x.fin=n:=h.2.2;exact⟨x,rfl,h3⟩
  ·obtain⟨y,h1,h2⟩:=ih h.2.2 (by omega);refine⟨y,?_,h2⟩;rw[List.length_cons,show X.length+1 - 1=(X.length - 1)+1 by omega];exact h1
def hit (C p:List Int) (X:List Lk) (x:Lk):List (Int×Int) :=
 if (C.drop x.beg.toNat).take p.length=p then (X.filter fun y=>decide (y.fin=x.beg+p.length)).map fun y=>(x.fr,y.up) else []
def hitsF (C p:List Int) (X:List Lk):List (Int×Int):=X.flatMap (hit C p X)
def wrongF (p:List Int):Int:=if K.textE p=0 then (if p.length=0 then 6 else 0) else K.textE p
theorem zuo {C p:List Int}{b:Nat}(h:(C.drop b).take p.length=p)(hp:0<p.length):b+p.length<=C.length:=by
 have:=congrArg List.length h;rw[List.length_take,List.length_drop] at this;omega
theorem zne {X:List Lk}{E:Int}{a j:Nat}(h1:∀y∈X.take a,y.fin≠E)(h2:∀y∈(X.drop a).take j,y.fin=E)(h3:∀y∈X.drop (a+j),y.fin≠E):(X.filter fun y=>decide (y.fin=E))=(X.drop a).take j:=by
 have e:X=X.take a++((X.drop a).take j++X.drop (a+j)):=by
  rw[<- List.drop_drop,List.take_append_drop,List.take_append_drop]
 conv=>lhs;rw[e]
 rw[List.filter_append,List.filter_append,List.filter_eq_nil_iff.2 (fun y hy=>by simpa using h1 y hy),List.filter_eq_self.2 (fun y hy=>by simpa using h2 y hy),List.filter_eq_nil_iff.2 (fun y hy=>by simpa using h3 y hy)];simp
theorem zvg {C p:List Int}{n:Int}{X:List Lk}(h:Row n 0 X){x:Lk}(hq:(C.drop x.beg.toNat).take p.length=p){lb j:Nat}(h1:∀i y,i<lb->X[i]?=some y->y.fin<x.beg+p.length)(h2:∀y,X[lb]?=some y->x.beg+p.length<=y.fin)(h3:∀y∈(X.drop lb).take j,y.fin=x.beg+p.length)(h4:∀y,X[lb+j]?=some y->y.fin≠x.beg+p.length):hit C p X x=((X.drop lb).take j).map fun y=>(x.fr,y.up):=by
 unfold hit;rw[if_pos hq,zne (a:=lb) (j:=j) ?_ h3 ?_]
 ·intro y hy;obtain⟨i,hi⟩:=List.getElem?_of_mem hy;rw[List.getElem?_take] at hi;split at hi
  ·rename_i hlt
   have:=h1 i y hlt hi;omega
  ·cases hi
 ·intro y hy;obtain⟨i,hi⟩:=List.getElem?_of_mem hy;rw[List.getElem?_drop] at hi;have hlt:=(qL.1 hi).1;obtain⟨z,hz⟩:∃z,X[lb+j]?=some z:=⟨X[lb+j]'(by omega),by simp[show lb+j<X.length by omega]⟩;obtain⟨u,hu⟩:∃u,X[lb]?=some u:=⟨X[lb]'(by omega),by simp[show lb<X.length by omega]⟩;have g1:=h4 z hz;have g2:=h2 u hu;have g3:=h.begs hu hz (by omega);have g4:=h.begs hz hi (by omega);omega
theorem zuk {C p:List Int}{X:List Lk}{x:Lk}:(hit C p X x).length<=X.length:=by
 unfold hit;split
 ·rw[List.length_map];exact List.length_filter_le _ _
 ·exact Nat.zero_le _
theorem zsj {C p:List Int}{X:List Lk}:∀k:Nat,((X.take k).flatMap (hit C p X)).length<=k*X.length:=by
 intro k
 induction k with
 | zero=>simp
 | succ k ih =>
  cases hx:X[k]? with
  | none=>rw[List.take_add_one,hx];simp only[Option.toList_none,List.append_nil];rw[Nat.succ_mul];omega
  | some x =>
   rw[List.take_add_one,hx,List.flatMap_append,List.length_append,Nat.succ_mul];have:=zuk (C:=C) (p:=p) (X:=X) (x:=x);simp only[Option.toList_some,List.flatMap_cons,List.flatMap_nil,List.append_nil];omega
theorem zp5 {C p:List Int}{X:List Lk}{k:Nat}{x:Lk}(hx:X[k]?=some x):(X.take (k+1)).flatMap (hit C p X)=(X.take k).flatMap (hit C p X)++hit C p X x:=by
 rw[List.take_add_one,hx,List.flatMap_append];simp
def near (C p:List Int) (x y:Lk):Bool:=decide (y.fin - x.beg=(p.length:Int))&&decide ((C.drop x.beg.toNat).take (y.fin.toNat - x.beg.toNat)=p)
end Fd
section
open Go.RowKit Go.Shelf
theorem Tryz.infoHit:(prog.info? 71).map (fun i=>(i.zero,i.size,i.bytes))=some (some (.agg #[.int .i64 0,.int .i64 0]),2,16):=by kernel_rfl
namespace Fd
theorem app {w:World}{B n:Nat}{vo:Value}{xs:List Value}(own:w.ownsRow B 71 2 vo n xs)(hB:B<=w.heap.size)(hl:n<=1099511627776)(news:List Value)(hn:news.length=2)(h1:∀u∈news,u.oneCell'=true) :
  ∃ao' vc' w',(∀ty,(Builtin.append_ #[67,67] ty #[vo,.slice (some ⟨w.heap.size,0,none⟩) 1 1]).run prog (w.alloc (.cells news.toArray 71))= .ok (.slice ao' (n+1) vc') w')/\w'.ownsRow B 71 2 (.slice ao' (n+1) vc') (n+1) (xs++news)/\Below B w w'/\∀(b:Nat) (cs:Array Value),w.heap[b]?=some (Obj.cells cs 188)->w'.heap[b]?=some (Obj.cells cs 188):=by
 have hal:Below w.heap.size w (w.alloc (.cells news.toArray 71)):=(qR w).alloc qN _;have hnew:=heap_alloc_new w (.cells news.toArray 71);obtain⟨i0,hi,hz0,hz1,hz2⟩:=info_parts Tryz.infoHit
 have hcells:∀j u,news[j]?=some u->(w.alloc (.cells news.toArray 71)).cell? ((⟨w.heap.size,0,none⟩:Addr).add j)=some u:=fun j u hj=>by
  rw[L.addr_add,Nat.zero_add];exact K.zad hnew (by simpa using hj)
 obtain⟨v',w',run,own',gr,_⟩:=run_append_own (P:=prog) (w.alloc (.cells news.toArray 71)) B 67 67 71 i0 _ 2 16 underlying67 hi hz0 hz1 hz2 rfl (by decide) vo n xs (own.alloc _) ⟨w.heap.size,0,none⟩ 1 1 news (by rw[hn]) hcells h1 (by unfold maxLen;omega) (by omega) (by simp;omega)
 obtain⟨ao',vc',rfl⟩:∃ao cap,v'= .slice ao (n+1) cap:=by
  rcases own'.2 with ⟨hv,h0⟩|⟨g,cap,cur,hv,_⟩
  ·omega
  ·exact⟨_,cap,hv⟩
 refine⟨ao',vc',w',fun ty=>run,own',(hal.mono hB).grown gr (by simp;omega) fun k hk=>(own.lt k hk).1,fun b cs hb=> ?_⟩;have hlt:=lt_of_block hb;rw[gr.block b (by simp;omega) fun e=> ?_,hal.block b hlt]
 ·exact hb
 ·obtain⟨_,cs',q,h⟩:=Al.block own (q:=b) e.symm;rw[hb] at h;simp at h
theorem zun (xo:Option Addr)(g N xc i:Nat)(hx:xo=some ⟨g,0,none⟩)(h:i<N)(hc:N<=xc)(w':World):(Instr.slice 120 (.slice xo N xc) (some (.int .i64 (i:Int))) none none).run prog w'= .ok (.slice (some ⟨g,i*5,none⟩) (N - i) (xc - i)) w':=by
 subst hx;have a1:(i:Int)<=N:=by omega
 have a2:(N:Int)<=xc:=by omega
 have a0:(0:Int)<=i:=by omega
 have a3:¬xc=i:=by omega
 go_simp
theorem zp6 {C p:List Int}{X:List Al.Lk}{k:Nat}(hX:X.length<=32040)(hk:k<=X.length):((X.take k).flatMap (hit C p X)).length<=1026561600:=by
 have h1:=zsj (C:=C) (p:=p) (X:=X) k;have h2:k*X.length<=32040*32040:=Nat.mul_le_mul (by omega) hX;omega
end Fd
