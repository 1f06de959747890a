/-
 Two rows of marks in order, made one: slices.symMergeCmpFunc.
-/
import Derived.Test.YtamfgmaipajodaaGreatDoorNmSym
import Derived.Deep.DeepCutAuto
set_option maxHeartbeats 0
namespace Go.Proofs.YtamfgmaipajodaaGreatDoor
open Go.RowKit Go.Sort Go.Shelf
set_option maxRecDepth 20000
set_option linter.unusedSimpArgs false
set_option linter.unusedVariables false
namespace Nm
def Mg (w0:World) (blk off n:Nat) (P A B Q:List Int) (w':World):Prop:=∃S',S'.length=A.length+B.length/\Srt S'/\Eqv (A++B) S'/\In w0 blk off n (P++S'++Q) w'
end Nm
theorem zmf (N:Nat)(w0 w:World)(blk off n cap a m b:Nat)(P A B Q:List Int)(h0:Nm.In w0 blk off n (P++(A++B)++Q) w)(ha:a=P.length)(hm:m=a+A.length)(hb:b=m+B.length)(hA2:2<=A.length)(hB2:2<=B.length)(hA:Nm.Srt A)(hB:Nm.Srt B)(hsz:n<1152921504606846976)(hN:A.length+B.length<=N+1)
  (ih:∀(X:World) (a m b:Nat) (P A B Q:List Int),Nm.In w0 blk off n (P++(A++B)++Q) X->a=P.length->m=a+A.length->b=m+B.length->1<=A.length->1<=B.length->A.length+B.length<=N->Nm.Srt A->Nm.Srt B->Calls Tryz.prog 182 #[.slice (some ⟨blk,off,none⟩) n cap,.int .i64 a,.int .i64 m,.int .i64 b,.func (.func 99) #[] #[]] X fun e w'=>e= .returned (.tuple #[])/\Nm.Mg w0 blk off n P A B Q w') :
  Calls Tryz.prog 182 #[.slice (some ⟨blk,off,none⟩) n cap,.int .i64 a,.int .i64 m,.int .i64 b,.func (.func 99) #[] #[]] w fun e w'=>e= .returned (.tuple #[])/\Nm.Mg w0 blk off n P A B Q w':=by
 have eg:∀args w,(callFunc 99 args).run Tryz.prog w= .ok (.enter 99 args) w:=enters_of Tryz.func99 (by kernel_rfl) rfl;have hlen:(P++(A++B)++Q).length=n:=h0.1;simp only[List.length_append] at hlen;have hbn:b<=n:=by omega
 have ham:a+2<=m:=by omega
 have hmb:m+2<=b:=by omega
 have e1:¬((m:Int) - (a:Int)=1):=by omega
 have e2:¬((b:Int) - (m:Int)=1):=by omega
 obtain⟨d,hd⟩:∃d:Nat,((a:Int)+(b:Int)) / 2=(d:Int):=⟨(a+b) / 2,by omega⟩;have hd1:2*d<=a+b:=by omega
 have hd2:a+b<=2*d+1:=by omega
 have HIh:Hid (∀(X:World) (a m b:Nat) (P A B Q:List Int),Nm.In w0 blk off n (P++(A++B)++Q) X->a=P.length->m=a+A.length->b=m+B.length->1<=A.length->1<=B.length->A.length+B.length<=N->Nm.Srt A->Nm.Srt B->Calls Tryz.prog 182 #[.slice (some ⟨blk,off,none⟩) n cap,.int .i64 a,.int .i64 m,.int .i64 b,.func (.func 99) #[] #[]] X fun e w'=>e= .returned (.tuple #[])/\Nm.Mg w0 blk off n P A B Q w'):=ih;have HL:Hid (a=P.length/\m=a+A.length/\b=m+B.length/\Nm.Srt A/\Nm.Srt B/\A.length+B.length<=N+1):=⟨ha,hm,hb,hA,hB,hN⟩;obtain⟨G,hG⟩:∃G:Nat->Int,∀t,G t=(P++(A++B)++Q).toArray[t]! := ⟨fun t=>(P++(A++B)++Q).toArray[t]!,fun _=>rfl⟩
 have HGA:Hid (∀(t k:Nat) (h:k<A.length),t=a+k->G t=A[k]):=fun t k h e0=>by
  have e:P++(A++B)++Q=P++A++(B++Q):=by simp
  rw[hG,e,Nm.ze4 P A (B++Q) (by omega) (by omega)];congr 1;omega
 have HGB:Hid (∀(t k:Nat) (h:k<B.length),t=m+k->G t=B[k]):=fun t k h e0=>by
  have e:P++(A++B)++Q=(P++A)++B++Q:=by simp
  rw[hG,e,Nm.ze4 (P++A) B Q (by simp;omega) (by simp;omega)];congr 1;simp;omega
 have HIn:Hid (Nm.In w0 blk off n (P++(A++B)++Q) w):=h0;have HG:Hid (∀t,G t=(P++(A++B)++Q).toArray[t]!):=hG
 obtain⟨s0,r0,hs0⟩:∃s0 r0:Nat,(d<m->s0+b=d+m/\r0=d)/\(¬d<m->s0=a/\r0=m):=by
  by_cases h:d<m
  ·exact⟨d+m - b,d,fun _=>⟨by omega,rfl⟩,fun h'=>absurd h h'⟩
  ·exact⟨a,m,fun h'=>absurd h' h,fun _=>⟨rfl,rfl⟩⟩
 have HS0:Hid ((d<m->s0+b=d+m/\r0=d)/\(¬d<m->s0=a/\r0=m)):=hs0
 have hq:a<=s0/\s0<=r0/\r0<=m/\d+m<=s0+b/\r0<=d/\(s0=a∨s0+b=d+m)/\(r0=m∨r0=d):=by
  by_cases h:d<m
  ·have:=hs0.1 h;omega
  ·have:=hs0.2 h;omega
 obtain⟨q1,q2,q3,q4,q5,q6,q7⟩:=hq;have HQ:Hid ((s0=a∨s0+b=d+m)/\(r0=m∨r0=d)):=⟨q6,q7⟩;clear h0 ha hm hb hA hB hG hN ih hA2 hB2 hs0 q6 q7
 go_enter Tryz.func182,Tryz.ntmps182
 go_upto_if 140 with fail
 go_cut [20,21] (fun v20 v21 wx=>wx=w/\v20= .int .i64 (s0:Int)/\v21= .int .i64 (r0:Int))
 case first=>as_aux_lemma =>
  by_cases h:d<m
  ·obtain⟨h1,h2⟩:=HS0.out.1 h;have e3:(d:Int)+(m:Int) - (b:Int)=(s0:Int):=by omega
   subst h2
   go_wp2_with fail
   go_meet
   case rel=>exact⟨rfl,rfl,rfl⟩
  ·obtain⟨h1,h2⟩:=HS0.out.2 h;subst h1 h2
   go_wp2_with fail
   go_meet
   case rel=>exact⟨rfl,rfl,rfl⟩
 case rest =>
  obtain⟨rfl,rfl,rfl⟩:=hcut;clear HS0;have hdm:d+m<=2*n:=by omega
  have hdm2:m<=r0+(b - m)+m:=by omega
  go_wp2
  go_loopw [20,21] (fun vi vj wr=>∃i j:Nat,vi= .int .i64 i/\vj= .int .i64 j/\s0<=i/\i<=j/\j<=r0/\Hid (Nm.In w0 blk off n (P++(A++B)++Q) wr)/\Hid ((s0<i->Nm.cls (G (i - 1))<=Nm.cls (G (d+m - i)))/\(j<r0->Nm.cls (G (d+m - 1 - j))<Nm.cls (G j)))) (fun vi vj _=>(RowKit.intOf vj).toNat - (RowKit.intOf vi).toNat)
  case atStart=>exact⟨s0,r0,rfl,rfl,qN,q2,qN,HIn.out,fun h=>absurd h (Nat.lt_irrefl _),fun h=>absurd h (Nat.lt_irrefl _)⟩
  case round =>
   obtain⟨i,j,rfl,rfl,hsi,hij,hjr,HI,HO⟩:=hrel
   by_cases hlt:i<j
   ·as_aux_lemma =>
    obtain⟨c,hc⟩:∃c:Nat,((i:Int)+(j:Int)) / 2=(c:Int):=⟨(i+j) / 2,by omega⟩;have hc1:i<=c:=by omega
    have hc2:c<j:=by omega
    obtain⟨k,hk⟩:∃k:Nat,(d:Int)+(m:Int) - 1 - (c:Int)=(k:Int):=⟨d+m - 1 - c,by omega⟩;have hcw:∀t,t<n->wr.cell? ⟨blk,off+t,none⟩=some (.int .i32 (G t)):=fun t ht=>by rw[HG.out];exact HI.out.cell t ht
    obtain⟨x,hx⟩:∃x,x=G k:=⟨_,rfl⟩;obtain⟨y,hy⟩:∃y,y=G c:=⟨_,rfl⟩;have ck:wr.cell? ⟨blk,off+k,none⟩=some (.int .i32 x):=by rw[hcw k (by omega),hx]
    have cc:wr.cell? ⟨blk,off+c,none⟩=some (.int .i32 y):=by rw[hcw c (by omega),hy]
    have hkn:k<n:=by omega
    have HY:Hid (x=G k/\y=G c/\k=d+m - 1 - c):=⟨hx,hy,by omega⟩;have HC:Hid (Nm.cmp x y<0↔Nm.cls x<Nm.cls y):=Nm.zic;clear hcw hx hy;go_wp2
    by_cases hxy:Nm.cmp x y<0
    ·go_quiet (first | (go_at_call 99;refine Calls.quiet_of_same (zbf _ _ _)))
     go_wp2
     go_roundw
     case rel=>exact⟨i,c,rfl,rfl,hsi,by omega,by omega,HI.out.drew _,HO.out.1,fun _=>by obtain⟨h1,h2,h3⟩:=HY.out;rw[<- h3,<- h1,<- h2];exact HC.out.1 hxy⟩
     case measure=>simp[RowKit.intOf];omega
    ·go_quiet (first | (go_at_call 99;refine Calls.quiet_of_same (zbf _ _ _)))
     go_wp2
     go_roundw
     case rel=>exact⟨c+1,j,by go_num,rfl,by omega,by omega,hjr,HI.out.drew _,fun _=>by obtain⟨h1,h2,h3⟩:=HY.out;rw[show d+m - (c+1)=k by omega,Nat.add_sub_cancel,<- h1,<- h2];exact Int.not_lt.1 fun h=>hxy (HC.out.2 h),HO.out.2⟩
     case measure=>simp[RowKit.intOf];omega
   ·have hje:j=i:=by omega
    subst hje;obtain⟨e,he⟩:∃e:Nat,(d:Int)+(m:Int) - (j:Int)=(e:Int):=⟨d+m - j,by omega⟩;have he1:m<=e:=by omega
    have he2:e<=b:=by omega
    have he3:e+j<=d+m:=by omega
    have he4:d+m<=e+j:=by omega
    have HF:Hid ((∀u∈A.take (j - a),∀v∈B.drop (e - m),Nm.cls u<=Nm.cls v)/\(∀u∈A.drop (j - a),∀v∈B.take (e - m),Nm.cls v<Nm.cls u)):=by
     obtain⟨g1,g2,g3,g4,g5,g6⟩:=HL.out
     as_aux_lemma =>
     refine⟨fun u hu v hv=> ?_,fun u hu v hv=> ?_⟩
     ·by_cases h:s0<j
      ·have h1:=HO.out.1 h;have hul:0<(A.take (j - a)).length:=List.length_pos_of_mem hu;have hvl:0<(B.drop (e - m)).length:=List.length_pos_of_mem hv;rw[List.length_take] at hul;rw[List.length_drop] at hvl;rw[HGA.out (j - 1) (j - a - 1) (by omega) (by omega),HGB.out (d+m - j) (e - m) (by omega) (by omega)] at h1;have k1:=Nm.zcv g4 (k:=j - a) (by omega) (fun _=>Int.le_refl (Nm.cls (A[j - a - 1]'(by omega)))) u hu;have k2:=Nm.zcw g5 (k:=e - m) (c:=Nm.cls (B[e - m]'(by omega))) (fun _=>Int.le_refl _) v hv;omega
      ·have hj:j=s0:=by omega
       rcases HQ.out.1 with h1 | h1
       ·rw[show j - a=0 by omega,List.take_zero] at hu;cases hu
       ·rw[List.drop_eq_nil_of_le (by omega)] at hv;cases hv
     ·by_cases h:j<r0
      ·have h1:=HO.out.2 h;have hul:0<(A.drop (j - a)).length:=List.length_pos_of_mem hu;have hvl:0<(B.take (e - m)).length:=List.length_pos_of_mem hv;rw[List.length_drop] at hul;rw[List.length_take] at hvl;rw[HGA.out j (j - a) (by omega) (by omega),HGB.out (d+m - 1 - j) (e - m - 1) (by omega) (by omega)] at h1;have k1:=Nm.zcv g5 (k:=e - m) (by omega) (fun _=>Int.le_refl (Nm.cls (B[e - m - 1]'(by omega)))) v hv;have k2:=Nm.zcw g4 (k:=j - a) (c:=Nm.cls (A[j - a]'(by omega))) (fun _=>Int.le_refl _) u hu;omega
      ·have hj:j=r0:=by omega
       rcases HQ.out.2 with h1 | h1
       ·rw[List.drop_eq_nil_of_le (by omega)] at hu;cases hu
       ·rw[show e - m=0 by omega,List.take_zero] at hv;cases hv
    obtain⟨A1,hA1⟩:∃A1,A1=A.take (j - a):=⟨_,rfl⟩;obtain⟨A2,hA2⟩:∃A2,A2=A.drop (j - a):=⟨_,rfl⟩;obtain⟨B1,hB1⟩:∃B1,B1=B.take (e - m):=⟨_,rfl⟩;obtain⟨B2,hB2⟩:∃B2,B2=B.drop (e - m):=⟨_,rfl⟩
    have HP:Hid (A=A1++A2/\B=B1++B2/\a+A1.length=j/\j+A2.length=m/\m+B1.length=e/\e+B2.length=b/\P.length=a):=by
     obtain⟨g1,g2,g3,g4,g5,g6⟩:=HL.out;refine⟨by rw[hA1,hA2,List.take_append_drop],by rw[hB1,hB2,List.take_append_drop],?_,?_,?_,?_,g1.symm⟩
     ·rw[hA1,List.length_take];omega
     ·rw[hA2,List.length_drop];omega
     ·rw[hB1,List.length_take];omega
     ·rw[hB2,List.length_drop];omega
    have HSr:Hid (Nm.Srt A1/\Nm.Srt A2/\Nm.Srt B1/\Nm.Srt B2):=by
     obtain⟨g1,g2,g3,g4,g5,g6⟩:=HL.out;rw[HP.out.1] at g4;rw[HP.out.2.1] at g5;exact⟨g4.parts.1,g4.parts.2.1,g5.parts.1,g5.parts.2.1⟩
    have HFin:Hid (∀S1 S2 X,Nm.Srt S1->Nm.Srt S2->Nm.Eqv (A1++B1) S1->Nm.Eqv (A2++B2) S2->S1.length=A1.length+B1.length->S2.length=A2.length+B2.length->Nm.In w0 blk off n (P++S1++S2++Q) X->Nm.Mg w0 blk off n P A B Q X):=fun S1 S2 X k1 k2 k3 k4 k5 k6 k7=>by
     rw[hA1,hB1] at k3;rw[hA2,hB2] at k4;have h:=Nm.four HL.out.2.2.2.1 HL.out.2.2.2.2.1 HF.out.1 HF.out.2 k1 k2 k3 k4;refine⟨S1++S2,?_,h.1,h.2,k7.of (by simp)⟩;have p1:=congrArg List.length HP.out.1;have p2:=congrArg List.length HP.out.2.1;rw[List.length_append] at p1 p2 ⊢;omega
    have HI2:Hid (Nm.In w0 blk off n (P++A1++A2++B1++(B2++Q)) wr):=by
     refine HI.out.of ?_;rw[HP.out.1,HP.out.2.1];simp
    have HN1:Hid (A1.length+B1.length<=N/\A2.length+B2.length<=N):=by
     obtain⟨p1,p2,p3,p4,p5,p6,p7⟩:=HP.out;have:=HL.out.2.2.2.2.2;have x1:=congrArg List.length p1;have x2:=congrArg List.length p2;rw[List.length_append] at x1 x2;exact⟨by omega,by omega⟩
    have HR:Hid (∀(X:World) (a m b:Nat) (P U V Q:List Int),Nm.In w0 blk off n (P++U++V++Q) X->a=P.length->m=P.length+U.length->b=P.length+U.length+V.length->0<U.length->0<V.length->Calls Tryz.prog 200 #[.slice (some ⟨blk,off,none⟩) n cap,.int .i64 a,.int .i64 m,.int .i64 b,.func (.func 99) #[] #[]] X fun e w'=>e= .returned (.tuple #[])/\Nm.In w0 blk off n (P++V++U++Q) w'):=fun X a m b P U V Q k1 k2 k3 k4 k5 k6=>zpd w0 X blk off n cap a m b _ P U V Q k1 k2 k3 k4 k5 k6 hsz
    have haj:a<=j:=by omega
    have hjm:j<=m:=by omega
    have hA1l:¬a<j->A1= []:=fun h=>List.eq_nil_of_length_eq_zero (by have:=HP.out;omega)
    have hA2l:¬j<m->A2= []:=fun h=>List.eq_nil_of_length_eq_zero (by have:=HP.out;omega)
    have hB1l:¬m<e->B1= []:=fun h=>List.eq_nil_of_length_eq_zero (by have:=HP.out;omega)
    have hB2l:¬e<b->B2= []:=fun h=>List.eq_nil_of_length_eq_zero (by have:=HP.out;omega)
    have HNil:Hid ((¬a<j->A1= [])/\(¬j<m->A2= [])/\(¬m<e->B1= [])/\(¬e<b->B2= [])):=⟨hA1l,hA2l,hB1l,hB2l⟩;clear HI HO HGA HGB HG HIn HF HQ hA1 hA2 hB1 hB2 hA1l hA2l hB1l hB2l;obtain⟨t1,ht1⟩:∃t1:Bool,t1=(decide (j<m)&&decide (m<e)):=⟨_,rfl⟩;obtain⟨t2,ht2⟩:∃t2:Bool,t2=(decide (a<j)&&decide (j<d)):=⟨_,rfl⟩;have HT1:Hid (t1=(decide (j<m)&&decide (m<e))):=ht1;have HT2:Hid (t2=(decide (a<j)&&decide (j<d))):=ht2;clear ht1 ht2
    go_upto_region 39 with fail
    go_cut [185] (fun v wx=>v= .bool t1/\Hid (Nm.In w0 blk off n (P++A1++A2++B1++(B2++Q)) wx))
    case first=>as_aux_lemma =>
     by_cases h1:j<m
     ·by_cases h2:m<e
      ·have h3:t1=true:=by rw[HT1.out];simp[h1,h2]
       subst h3
       go_wp2_with fail
       go_meet
       case rel=>exact⟨rfl,HI2⟩
      ·have h3:t1=false:=by rw[HT1.out];simp[h2]
       subst h3
       go_wp2_with fail
       go_meet
       case rel=>exact⟨rfl,HI2⟩
     ·have h3:t1=false:=by rw[HT1.out];simp[h1]
      subst h3
      go_wp2_with fail
      go_meet
      case rel=>exact⟨rfl,HI2⟩
    case rest =>
    obtain⟨hv,hX⟩:=hcut;subst hv;have HI2:Hid (Nm.In w0 blk off n (P++A1++A2++B1++(B2++Q)) wc):=hX;clear hX
    go_upto_if 185 with fail
    go_cut [] (fun wx=>Hid (Nm.In w0 blk off n (P++(A1++B1)++(A2++B2)++Q) wx))
    case first=>as_aux_lemma =>
     cases t1 with
     | true =>
      have h12:j<m/\m<e:=by have h:=HT1.out;simpa using h.symm
      have hC:=HR.out wc j m e (P++A1) A2 B1 (B2++Q) HI2.out (by have:=HP.out;simp;omega) (by have:=HP.out;simp;omega) (by have:=HP.out;simp;omega) (by have:=HP.out;omega) (by have:=HP.out;omega);clear HR HIh HFin HNil
      go_wp2_with fail
      refine hC.mono ?_;rintro x w1 ⟨rfl,h6⟩;have H6:Hid (Nm.In w0 blk off n (P++(A1++B1)++(A2++B2)++Q) w1):=by refine h6.of ?_;simp
      clear h6 hC
      go_wp2_with fail
      go_meet
      case rel=>exact H6
     | false =>
      have H6:Hid (Nm.In w0 blk off n (P++(A1++B1)++(A2++B2)++Q) wc):=by
       refine HI2.out.of ?_;have h:¬(j<m/\m<e):=by have h:=HT1.out;simpa using h.symm
       by_cases h1:j<m
       ·rw[HNil.out.2.2.1 fun h2=>h ⟨h1,h2⟩];simp
       ·rw[HNil.out.2.1 h1];simp
      clear HR HIh HFin HNil
      go_wp2_with fail
      go_meet
      case rel=>exact H6
    case rest =>
    have HI3:Hid (Nm.In w0 blk off n (P++(A1++B1)++(A2++B2)++Q) wc):=hcut;clear hcut HI2 HR HT1
    go_upto_region 41 with fail
    go_cut [199] (fun v wx=>v= .bool t2/\Hid (Nm.In w0 blk off n (P++(A1++B1)++(A2++B2)++Q) wx))
    case first=>as_aux_lemma =>
     by_cases h1:a<j
     ·by_cases h2:j<d
      ·have h3:t2=true:=by rw[HT2.out];simp[h1,h2]
       subst h3
       go_wp2_with fail
       go_meet
       case rel=>exact⟨rfl,HI3⟩
      ·have h3:t2=false:=by rw[HT2.out];simp[h2]
       subst h3
       go_wp2_with fail
       go_meet
       case rel=>exact⟨rfl,HI3⟩
     ·have h3:t2=false:=by rw[HT2.out];simp[h1]
      subst h3
      go_wp2_with fail
      go_meet
      case rel=>exact⟨rfl,HI3⟩
    case rest =>
    obtain⟨hv,hX⟩:=hcut;subst hv;have HI3:Hid (Nm.In w0 blk off n (P++(A1++B1)++(A2++B2)++Q) wc):=hX;clear hX
    go_upto_if 199 with fail
    go_cut [] (fun wx=>Hid (∃S1,S1.length=A1.length+B1.length/\Nm.Srt S1/\Nm.Eqv (A1++B1) S1/\Nm.In w0 blk off n (P++S1++(A2++B2)++Q) wx))
    case first=>as_aux_lemma =>
     cases t2 with
     | true =>
      have h12:a<j/\j<d:=by have h:=HT2.out;simpa using h.symm
      have hC:=HIh.out wc a j d P A1 B1 ((A2++B2)++Q) (HI3.out.of (by simp)) (by have:=HP.out;omega) (by have:=HP.out;omega) (by have:=HP.out;omega) (by have:=HP.out;omega) (by have:=HP.out;omega) HN1.out.1 HSr.out.1 HSr.out.2.2.1;clear HIh HFin HNil
      go_wp2_with fail
      refine hC.mono ?_;rintro x w1 ⟨rfl,S1,k1,k2,k3,k4⟩;have H6:Hid (∃S1,S1.length=A1.length+B1.length/\Nm.Srt S1/\Nm.Eqv (A1++B1) S1/\Nm.In w0 blk off n (P++S1++(A2++B2)++Q) w1):=⟨S1,k1,k2,k3,k4.of (by simp)⟩;clear k1 k2 k3 k4 hC
      go_wp2_with fail
      go_meet
      case rel=>exact H6
     | false =>
      have H6:Hid (∃S1,S1.length=A1.length+B1.length/\Nm.Srt S1/\Nm.Eqv (A1++B1) S1/\Nm.In w0 blk off n (P++S1++(A2++B2)++Q) wc):=by
       have h:¬(a<j/\j<d):=by have h:=HT2.out;simpa using h.symm
       refine⟨A1++B1,by simp,?_,Nm.Eqv.refl _,HI3.out⟩
       by_cases h1:a<j
       ·rw[HNil.out.2.2.1 (by omega),List.append_nil];exact HSr.out.1
       ·rw[HNil.out.1 h1,List.nil_append];exact HSr.out.2.2.1
      clear HIh HFin HNil
      go_wp2_with fail
      go_meet
      case rel=>exact H6
    case rest=>as_aux_lemma =>
    obtain⟨S1,k1,k2,k3,k4⟩:=hcut.out;have HI4:Hid (Nm.In w0 blk off n (P++S1++(A2++B2)++Q) wc):=k4;have HS1:Hid (S1.length=A1.length+B1.length/\Nm.Srt S1/\Nm.Eqv (A1++B1) S1):=⟨k1,k2,k3⟩;clear k1 k2 k3 k4 hcut HI3 HT2
    by_cases h1:d<e
    ·by_cases h2:e<b
     ·have hC:=HIh.out wc d e b (P++S1) A2 B2 Q (HI4.out.of (by simp)) (by have:=HP.out;have:=HS1.out.1;simp;omega) (by have:=HP.out;omega) (by have:=HP.out;omega) (by have:=HP.out;omega) (by have:=HP.out;omega) HN1.out.2 HSr.out.2.1 HSr.out.2.2.2;clear HIh HNil
      go_wp2_with fail
      refine hC.mono ?_;rintro x w1 ⟨rfl,S2,k1,k2,k3,k4⟩;have H6:Hid (Nm.Mg w0 blk off n P A B Q w1):=HFin.out S1 S2 w1 HS1.out.2.1 k2 HS1.out.2.2 k3 HS1.out.1 k1 k4;clear k1 k2 k3 k4 hC;go_wp2
      go_end0
      exact⟨rfl,H6.out⟩
     ·have H6:Hid (Nm.Mg w0 blk off n P A B Q wc):=HFin.out S1 (A2++B2) wc HS1.out.2.1 (by rw[HNil.out.2.2.2 h2,List.append_nil];exact HSr.out.2.1) HS1.out.2.2 (Nm.Eqv.refl _) HS1.out.1 (by simp) HI4.out;clear HIh HNil;go_wp2
      go_end0
      exact⟨rfl,H6.out⟩
    ·have H6:Hid (Nm.Mg w0 blk off n P A B Q wc):=HFin.out S1 (A2++B2) wc HS1.out.2.1 (by rw[HNil.out.2.1 (by omega),List.nil_append];exact HSr.out.2.2.2) HS1.out.2.2 (Nm.Eqv.refl _) HS1.out.1 (by simp) HI4.out;clear HIh HNil;go_wp2
     go_end0
     exact⟨rfl,H6.out⟩
theorem zhp (w0:World)(blk off n cap:Nat)(hsz:n<1152921504606846976):∀(N:Nat) (w:World) (a m b:Nat) (P A B Q:List Int),Nm.In w0 blk off n (P++(A++B)++Q) w->a=P.length->m=a+A.length->b=m+B.length->1<=A.length->1<=B.length->A.length+B.length<=N->Nm.Srt A->Nm.Srt B ->
  Calls Tryz.prog 182 #[.slice (some ⟨blk,off,none⟩) n cap,.int .i64 a,.int .i64 m,.int .i64 b,.func (.func 99) #[] #[]] w fun e w'=>e= .returned (.tuple #[])/\Nm.Mg w0 blk off n P A B Q w':=by
 intro N
 induction N with
 | zero=>intro w a m b P A B Q _ _ _ _ h1 _ h2;omega
 | succ N ih =>
  intro w a m b P A B Q h0 ha hm hb hA1 hB1 hN hA hB
  by_cases h1:A.length=1
  ·obtain⟨x,rfl⟩:=List.length_eq_one_iff.1 h1;refine(zmh w0 w blk off n cap a m b P B Q x h0 ha hm hb hB hsz).mono fun e w' ⟨e1,S',k1,k2,k3,k4⟩=>⟨e1,S',by rw[k1];simp;omega,k2,k3,k4⟩
  ·by_cases h2:B.length=1
   ·obtain⟨y,rfl⟩:=List.length_eq_one_iff.1 h2;exact zmg w0 w blk off n cap a m b P A Q y h0 ha hm hb (by omega) hA hsz
   ·exact zmf N w0 w blk off n cap a m b P A B Q h0 ha hm hb (by omega) (by omega) hA hB hsz hN ih
end Go.Proofs.YtamfgmaipajodaaGreatDoor
