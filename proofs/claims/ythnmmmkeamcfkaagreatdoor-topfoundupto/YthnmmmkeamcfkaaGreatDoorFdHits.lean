import Derived.Test.YthnmmmkeamcfkaaGreatDoorFdApp
set_option maxHeartbeats 0
set_option maxRecDepth 20000
set_option linter.unusedSimpArgs false
set_option linter.unusedVariables false
namespace Go.Proofs.YthnmmmkeamcfkaaGreatDoor
open Go.Proofs.Tryz
section
open Go.RowKit
theorem zh2 {a b:List Int}{k:Nat}{x y:Int}(h:a.take k=b.take k)(hx:a[k]?=some x)(hy:b[k]?=some y)(e:x=y):a.take (k+1)=b.take (k+1):=by
 rw[List.take_add_one,List.take_add_one,h,hx,hy,e]
end
section
open Go.RowKit
theorem zic (w:World)(va vb:Value)(za zb:List Int)(ha:L.Rd w va .i32 za)(hb:L.Rd w vb .i32 zb)(hla:za.length<=4611686018427387903)(hlb:zb.length<=4611686018427387903) :
  Calls prog 154 #[va,vb] w fun e w'=>e= .returned (.bool (decide (za=zb)))/\∃n,w'=w.drewN n:=by
 obtain⟨ao,ca,rfl,_,ha⟩:=ha;obtain⟨bo,cb,rfl,_,hb⟩:=hb
 by_cases hl:za.length=zb.length
 ·go_enter func154,ntmps154
  go_wp2
  go_loopw [13] (fun i wr=>∃k n:Nat,k<=za.length/\i= .int .i64 k/\za.take k=zb.take k/\wr=w.drewN n) (fun i _=>za.length - (intOf i).toNat)
  case atStart=>exact⟨0,0,Nat.zero_le _,rfl,by simp,rfl⟩
  case round =>
   obtain⟨k,n,hk,rfl,ht,rfl⟩:=hrel
   by_cases hlt:k<za.length
   ·obtain⟨b1,o1,rfl,hc1⟩:=ha (by intro h;subst h;simp at hlt);obtain⟨b2,o2,rfl,hc2⟩:=hb (by intro h;subst h;simp at hl;rw[hl] at hlt;simp at hlt);obtain⟨x,hx⟩:∃x,za[k]?=some x:=⟨za[k],by simp[hlt]⟩;obtain⟨y,hy⟩:∃y,zb[k]?=some y:=⟨zb[k]'(by omega),by simp[show k<zb.length by omega]⟩;have c1:=hc1 k x hx;have c2:=hc2 k y hy;clear hc1 hc2 ha hb;have HX:Hid (za[k]?=some x/\zb[k]?=some y/\za.take k=zb.take k):=⟨hx,hy,ht⟩;clear hx hy ht
    by_cases hxy:x=y
    ·go_wp2
     go_quiet (fail)
     go_wp2
     go_roundw
     case rel=>exact⟨k+1,_,by omega,by go_num,zh2 HX.out.2.2 HX.out.1 HX.out.2.1 hxy,rfl⟩
     case measure=>simp[intOf];omega
    ·go_wp2
     go_quiet (fail)
     go_wp2;go_ret
     refine⟨L.zaj ?_,⟨_,World.drewN_drewN _ _ _⟩⟩
     have:za≠zb:=by
      intro e;rw[e] at HX;have h1:=HX.out.1;rw[HX.out.2.1] at h1;exact hxy (Option.some.inj h1).symm
     simp[this]
   ·go_wp2;go_ret
    refine⟨L.zaj ?_,⟨_,rfl⟩⟩;rw[List.take_of_length_le (by omega),List.take_of_length_le (by omega)] at ht;simp[ht]
 ·go_enter func154,ntmps154
  go_wp2;go_ret
  refine⟨L.zaj ?_,⟨0,rfl⟩⟩;have:za≠zb:=by intro e;exact hl (by rw[e])
  simp[this]
theorem zjy (w:World)(va vb:Value)(za zb:List Int)(ha:L.Rd w va .i32 za)(hb:L.Rd w vb .i32 zb)(hla:za.length<=4611686018427387903)(hlb:zb.length<=4611686018427387903) :
  Calls prog 154 #[va,vb] w fun e w'=>e= .returned (.bool (decide (za=zb)))/\Below w.heap.size w w' :=
 (zic w va vb za zb ha hb hla hlb).mono fun _ _ ⟨h,n,hw⟩=>⟨h,by rw[hw];exact below_drewN (qR _) _⟩
end
section
open Go.RowKit
theorem zkh (w:World)(v:Value)(p:List Int)(R:L.Rd w v .i32 p)(hp:p.length<=140737488355328) :
  Calls prog 54 #[v] w fun e w'=>e= .returned (.int .i64 (Fd.wrongF p))/\Below w.heap.size w w':=by
 have H:=zd0 w v p R hp;obtain⟨ao,c,rfl,_⟩:=R;have HO:Hid (Fd.wrongF p=if K.textE p=0 then (if p.length=0 then 6 else 0) else K.textE p):=rfl;generalize K.textE p=e1 at *;generalize Fd.wrongF p=o at *
 go_enter func54,ntmps54
 go_wp2_with fail
 refine H.mono ?_;rintro e w1 ⟨rfl,b1⟩
 by_cases q:e1=0
 ·subst q
  by_cases q2:p.length=0
  ·have ho:=HO.out;rw[if_pos rfl,if_pos q2] at ho;subst ho;have u:(p.length:Int)=0:=by omega
   go_wp2;go_ret
   exact⟨rfl,b1⟩
  ·have ho:=HO.out;rw[if_pos rfl,if_neg q2] at ho;subst ho;have u:¬(p.length:Int)=0:=by omega
   go_wp2;go_ret
   exact⟨rfl,b1⟩
 ·have ho:=HO.out;rw[if_neg q] at ho;subst ho;go_wp2;go_ret;exact⟨rfl,b1⟩
theorem ziy (w:World)(ao:Option Addr)(c:Nat)(t:List Int)(R:L.Rd w (.slice ao t.length c) .i32 t)(hc:t.length<=c)(ht:t.length<=100000)(v:Value)(p:List Int)(Rp:L.Rd w v .i32 p)(hp:p.length<=140737488355328) :
  Calls prog 107 #[.slice ao t.length c,v] w fun e w'=>e= .returned (.bool (decide (t.take p.length=p)))/\Below w.heap.size w w':=by
 have hv:=Rp;obtain⟨bo,d,rfl,_⟩:=hv
 by_cases h:p.length<=t.length
 ·have u:(p.length:Int)<=t.length:=by omega
  have H:=zjy w (.slice ao p.length c) _ (t.take p.length) p (K.zhd R h) Rp (by rw[List.length_take];omega) (by omega);have hs:=K.za5 ao t.length c p.length (by omega);generalize decide (t.take p.length=p)=o at *;clear R Rp
  go_enter func107,ntmps107
  go_wp2_with fail
  refine H.mono ?_;rintro e w1 ⟨rfl,b1⟩;go_wp2;go_ret;exact⟨rfl,b1⟩
 ·have u:¬(p.length:Int)<=t.length:=by omega
  have hn:¬t.take p.length=p:=fun e=>h (by have:=congrArg List.length e;rw[List.length_take] at this;omega)
  rw[decide_eq_false hn];clear R Rp
  go_enter func107,ntmps107
  go_wp2;go_ret
  exact⟨rfl,qR _⟩
end
section
open Go.RowKit Go.Lib
theorem znf (w:World)(p1:Option Addr)(pc1:Nat)(X:List Al.Lk)(hOw:Fd.At w p1 X)(hX:X.length<=32040)(hpc:X.length<=pc1)(C:List Int)(hRow:Fd.Row C.length 0 X)(co:Option Addr)(cc:Nat)(RC:L.Rd w (.slice co C.length cc) .i32 C)(hcc:C.length<=cc)(hC4:C.length<=4000)
  (vp:Value) (p:List Int) (Rp:L.Rd w vp .i32 p) (hp0:0<p.length) (hp:p.length<=140737488355328) :
  Calls prog 55 #[.slice p1 X.length pc1,.slice co C.length cc,vp] w fun e w'=>∃v',e= .returned v'/\w'.ownsRow w.heap.size 71 2 v' (Fd.hitsF C p X).length (Al.scells (Fd.hitsF C p X))/\Below w.heap.size w w':=by
 have HOw:=qH hOw;have HRow:=qH hRow;have HC:=qH RC;have HP:=qH Rp;have HLe:Hid (∀k,k<=X.length->((X.take k).flatMap (Fd.hit C p X)).length<=1026561600):=fun k hk=>Fd.zp6 hX hk
 obtain⟨po,pc,rfl,_⟩:=Rp;clear hOw hRow RC
 go_enter func55,ntmps55
 go_wp2
 go_loopw [7,8,16] (fun i7 i8 i16 wr=>∃(k la:Nat) (xs:List (Int×Int)) (vo:Option Addr) (vc:Nat),k<=X.length/\la<=X.length/\i16= .int .i64 k/\i8= .int .i64 la/\i7= .slice vo xs.length vc/\Hid (xs=(X.take k).flatMap (Fd.hit C p X))/\Hid (∀i j y x,i<la->X[i]?=some y->k<=j->X[j]?=some x->y.fin<x.beg+p.length)/\Hid (wr.ownsRow w.heap.size 71 2 (.slice vo xs.length vc) xs.length (Al.scells xs)/\Below w.heap.size w wr)) (fun _ _ i16 _=>X.length - (RowKit.intOf i16).toNat)
 case atStart=>exact⟨0,0,[],none,0,Nat.zero_le _,Nat.zero_le _,rfl,rfl,rfl,rfl,(fun i j y x h=>absurd h (Nat.not_lt_zero _)),World.ownsRow_nil _ _ _ _,qR _⟩
 case round =>
  obtain⟨k,la,xs,vo,vc,hk,hla,rfl,rfl,rfl,HZ,HLa,HI⟩:=hrel
  by_cases hlt:k<X.length
  ·obtain⟨x,hx⟩:∃x,X[k]?=some x:=⟨X[k],by simp[hlt]⟩;obtain⟨g,rfl,hg,hc⟩:=HOw.out (by omega);have hcell:∀ {W:World} (_:Below w.heap.size w W) (j:Nat) (u:Value),(Al.lcells X)[j]?=some u->W.cell? ⟨g,j,none⟩=some u:=fun hb j u hu=>(hb.cell (p:=⟨g,_,none⟩) hg).trans (hc j u hu)
   have HCell:Hid (∀ {W:World} (_:Below w.heap.size w W) (j:Nat) (u:Value),(Al.lcells X)[j]?=some u->W.cell? ⟨g,j,none⟩=some u):=hcell;obtain⟨a0,a1,a2,a3,a4⟩:=Al.zd1 hx;have c0:=hcell HI.out.2 _ _ a0;have c1:=hcell HI.out.2 _ _ a1;have c2:=hcell HI.out.2 _ _ a2;have c3:=hcell HI.out.2 _ _ a3;have c4:=hcell HI.out.2 _ _ a4;obtain⟨z1,z2,z3⟩:=HRow.out.at hx;have hsn:=Fd.zp5 (C:=C) (p:=p) hx;rw[<- HZ.out] at hsn;have HX:=qH hx;have hHit:Fd.hit C p X x=if (C.drop x.beg.toNat).take p.length=p then (X.filter fun y=>decide (y.fin=x.beg+p.length)).map fun y=>(x.fr,y.up) else []:=rfl
   obtain⟨q1,q2,q3,q4,q5⟩:=x;simp only at c0 c1 c2 c3 c4 z1 z2 z3 hHit;obtain⟨ib,hib⟩:∃a:Nat,q3=a:=⟨q3.toNat,by omega⟩;subst hib;have hibC:ib<=C.length:=by omega
   rw[Int.toNat_natCast] at hHit;obtain⟨ap,hap⟩:∃ap,ap=(if cc=ib then co else Option.map (fun x=>x.add ib) co):=⟨_,rfl⟩;have hsl:∀w',(Instr.slice 33 (.slice co C.length cc) (some (.int .i64 (ib:Int))) none none).run prog w'= .ok (.slice ap (C.drop ib).length (cc - ib)) w':=fun w'=>by rw[hap,List.length_drop];exact K.zau co C.length cc ib hibC hcc w'
   obtain⟨W,hW⟩:∃W,W=wr.alloc (.cells #[.int .i64 q1,.int .i64 q2,.int .i64 ib,.int .i64 q4,.int .i64 q5] 188):=⟨_,rfl⟩;have hWb:Below wr.heap.size wr W:=by rw[hW];exact(qR wr).alloc qN _
   have hbW:=HI.out.2.trans (hWb.mono HI.out.2.size);have hbx:W.heap[wr.heap.size]?=some (.cells #[.int .i64 q1,.int .i64 q2,.int .i64 ib,.int .i64 q4,.int .i64 q5] 188):=by rw[hW];exact heap_alloc_new wr _
   have hrd:L.Rd W (.slice ap (C.drop ib).length (cc - ib)) .i32 (C.drop ib):=by
    have:=K.zfi (HC.out.below hbW qN) (d:=ib) hibC hcc;rw[<- hap] at this;rw[List.length_drop];exact this
   have HB:=qH <| ziy W ap _ (C.drop ib) hrd (by rw[List.length_drop];omega) (by rw[List.length_drop];omega) _ p (HP.out.below hbW qN) hp;have HW:Hid (Below w.heap.size w W/\W.heap[wr.heap.size]?=some (.cells #[.int .i64 q1,.int .i64 q2,.int .i64 ib,.int .i64 q4,.int .i64 q5] 188)/\wr.heap.size<W.heap.size/\W.ownsRow w.heap.size 71 2 (.slice vo xs.length vc) xs.length (Al.scells xs)):=⟨hbW,hbx,lt_of_block hbx,by rw[hW];exact HI.out.1.alloc _⟩;generalize (C.drop ib).length=cl at *;clear hc hcell hrd hbx hbW hWb hap a0 a1 a2 a3 a4 hx
   go_wp2_with fail
   try rw[<- hW]
   clear hW;refine HB.out.mono ?_;rintro e w2 ⟨rfl,b2⟩;have hB2:=HW.out.1.trans (b2.mono HW.out.1.size);have hx2:=K.zaf HW.out.2.1 b2;have y0:=K.zad (i:=0) hx2 rfl;have y2:=K.zad (i:=2) hx2 rfl;have own2:=L.zbh HW.out.2.2.2 b2 qN
   by_cases hq:(C.drop ib).take p.length=p
   ·have hin:=Fd.zuo hq hp0;obtain⟨yl,hyl,hyn⟩:=HRow.out.last (by omega);have HQ:=qH hq;have HTop:Hid (X[X.length - 1]?=some yl/\yl.fin=C.length):=⟨hyl,hyn⟩;have HLa2:Hid (∀i y,i<la->X[i]?=some y->y.fin<(ib:Int)+p.length):=fun i y h h'=>HLa.out i k y _ h h' qN HX.out
    rw[decide_eq_true hq];have HSn:=qH hsn;have HB2:Hid (Below w.heap.size w w2/\w2.heap[wr.heap.size]?=some (.cells #[.int .i64 q1,.int .i64 q2,.int .i64 ib,.int .i64 q4,.int .i64 q5] 188)/\w2.ownsRow w.heap.size 71 2 (.slice vo xs.length vc) xs.length (Al.scells xs)):=⟨hB2,hx2,own2⟩;have hxs:xs.length<=1026561600:=by have:=HLe.out k hk;rw[<- HZ.out] at this;exact this
    obtain⟨E,hE⟩:∃E:Nat,E=ib+p.length:=⟨_,rfl⟩;have hE2:(ib:Int)+p.length=(E:Int):=by omega
    have hEC:E<=C.length:=by omega
    have hwE:IntKind.i64.wrap ((ib:Int)+p.length)=(E:Int):=by rw[IntKind.wrap_i64];omega
    rw[hE2] at HLa2;have HE2:=qH hE2;clear hE hE2;clear hq hin hyl hyn hHit hsn b2 hB2 hx2 own2 HB HLa HI HW c0 c1 c2 c3 c4;generalize wr.heap.size=bx at *;go_wp2
    go_loop [8] (fun i8=>∃lb:Nat,lb<=X.length/\i8= .int .i64 lb/\Hid (∀i y,i<lb->X[i]?=some y->y.fin<(E:Int))) (fun i8=>X.length - (RowKit.intOf i8).toNat)
    case atStart=>exact⟨la,hla,rfl,HLa2⟩
    case round =>
     obtain⟨lb,hlb,rfl,HLb⟩:=hrel
     have hlx:lb<X.length:=by
      refine Decidable.byContradiction fun hn=> ?_
      have h1:=HLb.out (X.length - 1) yl (by omega) HTop.out.1;have h2:=HTop.out.2;omega
     obtain⟨y,hy⟩:∃y,X[lb]?=some y:=⟨X[lb],by simp[hlx]⟩;obtain⟨_,_,_,a3,_⟩:=Al.zd1 hy;have d3:=HCell.out HB2.out.1 _ _ a3;have HY:=qH hy;obtain⟨s1,s2,s3,s4,s5⟩:=y;simp only at d3;clear a3 hy
     by_cases hf:s4<(E:Int)
     ·go_wp2
      go_round
      case rel =>
       refine⟨lb+1,by omega,by go_num,fun i y h h'=> ?_⟩;rcases Nat.lt_or_eq_of_le (Nat.lt_succ_iff.1 h) with h2 | h2
       ·exact HLb.out i y h2 h'
       ·subst h2;rw[HY.out] at h';cases h';exact hf
      case measure=>simp[RowKit.intOf];omega
     ·have HGe:Hid (∀y,X[lb]?=some y->(E:Int)<=y.fin):=fun y h=>by rw[HY.out] at h;cases h;show (E:Int)<=s4;omega
      obtain⟨N,hN⟩:∃N,N=X.length - lb:=⟨_,rfl⟩;have hs:=Fd.zun (some ⟨g,0,none⟩) g X.length pc1 lb rfl hlx hpc;rw[<- hN] at hs;have hN1:N+lb<=X.length:=by omega
      have hN2:X.length<=N+lb:=by omega
      have HDone:Hid (∀(W:World) (j:Nat) (ys:List (Int×Int)),j<=N->ys=xs++((X.drop lb).take j).map (fun y=>(q1,y.up))->(∀y∈(X.drop lb).take j,y.fin=(E:Int))->(∀y,X[lb+j]?=some y->y.fin≠(E:Int))->ys=(X.take (k+1)).flatMap (Fd.hit C p X)):=fun W j ys _ h1 h2 h3=>by
       rw[HSn.out,Fd.zvg (x:=⟨q1,q2,ib,q4,q5⟩) (lb:=lb) (j:=j) HRow.out HQ.out]
       ·exact h1
       ·show ∀i y,i<lb->X[i]?=some y->y.fin<(ib:Int)+p.length;rw[HE2.out];exact HLb.out
       ·show ∀y,X[lb]?=some y->(ib:Int)+p.length<=y.fin;rw[HE2.out];exact HGe.out
       ·show ∀y∈(X.drop lb).take j,y.fin=(ib:Int)+p.length;rw[HE2.out];exact h2
       ·show ∀y,X[lb+j]?=some y->y.fin≠(ib:Int)+p.length;rw[HE2.out];exact h3
      have HNext:Hid (∀i j y x,i<lb->X[i]?=some y->k+1<=j->X[j]?=some x->y.fin<x.beg+p.length):=fun i j y x h1 h2 h3 h4=>by
       have g1:=HLb.out i y h1 h2;have g2:=(HRow.out.begs HX.out h4 (by omega)).1;simp only at g2;have g3:=HE2.out;omega
      clear hN;go_wp2
      go_loopw [7,45] (fun i7 i45 wi=>∃(j:Nat) (ys:List (Int×Int)) (vo2:Option Addr) (vc2:Nat),j<=N/\i45= .int .i64 j/\i7= .slice vo2 ys.length vc2/\ys.length<=1026561600+j/\Hid (ys=xs++((X.drop lb).take j).map (fun y=>(q1,y.up)))/\Hid (∀y∈(X.drop lb).take j,y.fin=(E:Int))/\Hid (wi.ownsRow w.heap.size 71 2 (.slice vo2 ys.length vc2) ys.length (Al.scells ys)/\Below w.heap.size w wi/\wi.heap[bx]?=some (.cells #[.int .i64 q1,.int .i64 q2,.int .i64 ib,.int .i64 q4,.int .i64 q5] 188))) (fun _ i45 _=>N - (RowKit.intOf i45).toNat)
      case atStart=>exact⟨0,xs,vo,vc,Nat.zero_le _,rfl,rfl,by omega,by show _=_;simp,(fun y hy=>by simp at hy),HB2.out.2.2,HB2.out.1,HB2.out.2.1⟩
      case round =>
       obtain⟨j,ys,vo2,vc2,hj,rfl,rfl,hyl,HYs,HAll,HI2⟩:=hrel;have hBw:=HI2.out.2.1
       by_cases hjN:j<N
       ·obtain⟨y,hy⟩:∃y,X[lb+j]?=some y:=⟨X[lb+j]'(by omega),by simp[show lb+j<X.length by omega]⟩;obtain⟨a0,a1,a2,a3,a4⟩:=Al.zd1 hy;rw[Nat.add_mul] at a0 a1 a2 a3 a4;have d0:=HCell.out hBw _ _ a0;have d1:=HCell.out hBw _ _ a1;have d2:=HCell.out hBw _ _ a2;have d3:=HCell.out hBw _ _ a3;have d4:=HCell.out hBw _ _ a4;have hx3:=HI2.out.2.2;have e0:=K.zad (i:=0) hx3 rfl;have HBw:=qH hBw;have HY2:=qH hy;obtain⟨s1',s2',s3',s4',s5'⟩:=y;simp only at d0 d1 d2 d3 d4
        by_cases hf2:s4'=(E:Int)
        ·subst hf2;obtain⟨W3,hW3⟩:∃W3,W3=wr.alloc (.cells #[.int .i64 s1',.int .i64 s2',.int .i64 s3',.int .i64 (E:Int),.int .i64 s5'] 188):=⟨_,rfl⟩;have hb3:Below wr.heap.size wr W3:=by rw[hW3];exact(qR wr).alloc qN _
         have own3:W3.ownsRow w.heap.size 71 2 (.slice vo2 ys.length vc2) ys.length (Al.scells ys):=by rw[hW3];exact HI2.out.1.alloc _
         have hB3:=hBw.trans (hb3.mono hBw.size);obtain⟨ao1,vc1,w4,run1,own4,be4,kp4⟩:=Fd.app own3 hB3.size (by omega) [.int .i64 q1,.int .i64 s2'] rfl (fun u hu=>by simp at hu;rcases hu with rfl | rfl <;> rfl)
         have HNx:Hid (ys++ [(q1,s2')]=xs++((X.drop lb).take (j+1)).map (fun y=>(q1,y.up))/\∀y∈(X.drop lb).take (j+1),y.fin=(E:Int)):=by
          have e:(X.drop lb).take (j+1)=(X.drop lb).take j++ [⟨s1',s2',s3',(E:Int),s5'⟩]:=by rw[List.take_add_one,List.getElem?_drop,HY2.out];rfl
          show _/\_;rw[e,List.map_append];refine⟨by rw[HYs.out,List.append_assoc];rfl,fun y hy=> ?_⟩;rcases List.mem_append.1 hy with h | h
          ·exact HAll.out y h
          ·simp at h;subst h;rfl
         have HL:Hid ((ys++ [(q1,s2')]).length=ys.length+1):=by show _=_;simp
         have HO4:Hid (w4.ownsRow w.heap.size 71 2 (.slice ao1 (ys.length+1) vc1) (ys.length+1) (Al.scells (ys++ [(q1,s2')]))/\Below w.heap.size w w4/\w4.heap[bx]?=some (.cells #[.int .i64 q1,.int .i64 q2,.int .i64 ib,.int .i64 q4,.int .i64 q5] 188)):=⟨by rw[Al.zds];exact own4,hB3.trans be4,kp4 _ _ (K.zaf hx3 hb3)⟩;rw[hW3,show (wr.alloc (.cells #[.int .i64 s1',.int .i64 s2',.int .i64 s3',.int .i64 (E:Int),.int .i64 s5'] 188)).heap.size=wr.heap.size+1 by simp] at run1;have e1:∀o,(wr.alloc o).cell? ⟨bx,0,none⟩=some (.int .i64 q1):=fun o=>K.zai e0 o
         clear hW3 hb3 own3 hB3 own4 be4 kp4 hy a0 a1 a2 a3 a4 hBw hx3 HDone
         go_wp2_with (at_builtin;refine Lib.wpList_append_run _ rfl _ _ _ _ rfl _ _ rfl rfl _ _ (run1 _) ?_;clear run1)
         go_roundw
         case rel=>exact⟨j+1,ys++ [(q1,s2')],ao1,vc1,by omega,by go_num,by rw[HL.out],by rw[HL.out];omega,HNx.out.1,HNx.out.2,by show _/\_;rw[HL.out];exact HO4.out⟩
         case measure=>simp[RowKit.intOf];omega
        ·have HFin:=qH <| HDone.out w j ys hj HYs.out HAll.out (fun y h=>by rw[HY2.out] at h;cases h;exact hf2);have HOwn:Hid (∀o,(wr.alloc o).ownsRow w.heap.size 71 2 (.slice vo2 ys.length vc2) ys.length (Al.scells ys)/\Below w.heap.size w (wr.alloc o)):=fun o=>⟨HI2.out.1.alloc _,hBw.alloc hBw.size o⟩
         clear hy a0 a1 a2 a3 a4 hBw hx3 HDone;go_wp2
         go_roundw
         case rel=>exact⟨k+1,lb,ys,vo2,vc2,by omega,hlb,by go_num,rfl,rfl,HFin.out,HNext.out,HOwn.out _⟩
         case measure=>simp[RowKit.intOf];omega
       ·have HFin:=qH <| HDone.out w j ys hj HYs.out HAll.out (fun y h=>by have:=(qL.1 h).1;omega);have HBw:=qH hBw;clear hBw HDone;go_wp2
        go_roundw
        case rel=>exact⟨k+1,lb,ys,vo2,vc2,by omega,hlb,by go_num,rfl,rfl,HFin.out,HNext.out,HI2.out.1,HBw.out⟩
        case measure=>simp[RowKit.intOf];omega
   ·rw[if_neg hq] at hHit;rw[hHit,List.append_nil] at hsn;rw[decide_eq_false hq];have HN:Hid (xs=(X.take (k+1)).flatMap (Fd.hit C p X)/\w2.ownsRow w.heap.size 71 2 (.slice vo xs.length vc) xs.length (Al.scells xs)/\Below w.heap.size w w2):=⟨hsn.symm,own2,hB2⟩;clear hHit hsn b2 hB2 hx2 own2 HB;go_wp2
    go_roundw
    case rel=>exact⟨k+1,la,xs,vo,vc,by omega,hla,by go_num,rfl,rfl,HN.out.1,(fun i j y x h1 h2 h3 h4=>HLa.out i j y x h1 h2 (by omega) h4),HN.out.2⟩
    case measure=>simp[RowKit.intOf];omega
  ·have hke:k=X.length:=by omega
   have hz:=HZ.out;rw[hke,List.take_length] at hz;go_wp2;go_ret;have:Fd.hitsF C p X=xs:=hz.symm;rw[this];exact⟨_,rfl,HI.out.1,HI.out.2⟩
