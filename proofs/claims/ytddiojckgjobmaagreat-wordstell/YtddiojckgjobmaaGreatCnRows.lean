/-
 A pass over a piece: the document's answer.
-/
import Derived.Test.YtddiojckgjobmaaGreatSWrong
import Derived.Test.YtddiojckgjobmaaGreatCnPass
import Derived.Test.YtddiojckgjobmaaGreatQCheckR
import Derived.Test.YtddiojckgjobmaaGreatQRef
import Derived.Test.YtddiojckgjobmaaGreatJRef
import Derived.Test.YtddiojckgjobmaaGreatMRefT
import Derived.Test.YtddiojckgjobmaaGreatCnGo
set_option maxHeartbeats 0
set_option linter.unusedVariables false
namespace Go.Proofs.YtddiojckgjobmaaGreat
open Go.RowKit Go.Lib
set_option maxRecDepth 20000
set_option linter.unusedSimpArgs false
theorem zfk (pl:Cn.Pl)(hpl:Cn.PlOk pl)(w:World)(p:V.Pass)(ro:Option Addr)(rc:Nat)(R0:V.Rus w (.slice ro p.rules.length rc) p.rules)(hp:Cn.passE p=0)(vt:Value)(t:List Int)(Rt:L.Rd w vt .i32 t)(ht:Cn.Tx t) :
  Calls Tryz.prog 36 #[.agg #[.string p.name,.slice ro p.rules.length rc],vt] w fun e w'=>∃v',e= .returned (.tuple #[v',.int .i64 (Cn.passF pl p t).2])/\L.Rd w' v' .i32 (Cn.passF pl p t).1/\Below w.heap.size w w':=by
 have HRt:Hid (L.Rd w vt .i32 t):=Rt;have HTx:Hid (∀r∈t,0<=r/\r<=1114111):=ht.range;have hl4:=ht.1;obtain⟨xo,xc,rfl⟩:∃xo xc,vt= .slice xo t.length xc:=by obtain⟨a,c,h,_⟩:=Rt;exact⟨a,c,h⟩
 have hal:∀o,Below w.heap.size w (w.alloc o):=fun o=>(qR w).alloc qN o
 have HA:Hid (Below w.heap.size w (w.alloc (.cells #[.string p.name,.slice ro p.rules.length rc] 57))/\(w.alloc (.cells #[.string p.name,.slice ro p.rules.length rc] 57)).heap[w.heap.size]?=some (.cells #[.string p.name,.slice ro p.rules.length rc] 57)):=⟨hal _,heap_alloc_new w _⟩;unfold Cn.passF;cases h1:(p.name.toList== []) with
 | true =>
  have h1':=eq_of_beq h1;rw[if_pos h1'];have hru:(K.rulesF p.rules).1=0:=by unfold Cn.passE at hp;rwa [if_pos h1'] at hp
  have hte:K.textE t=0:=Cn.zdr.2 ht;have HC:Hid (∀X,Below w.heap.size w X->Calls Tryz.prog 49 #[.slice ro p.rules.length rc] X fun e w'=>∃(v':Value) (o:List J.Hd×Int×Int),J.Comp p.rules o/\e= .returned (.tuple #[v',.agg #[.int .i64 o.2.1,.int .i64 o.2.2]])/\J.Own X.heap.size w' v' o.1/\Below X.heap.size X w'):=fun X hX=>zek X _ p.rules (R0.below hX)
  have HT:Hid (∀X,Below w.heap.size w X->Calls Tryz.prog 15 #[.slice xo t.length xc] X fun e w'=>e= .returned (.int .i64 0)/\Below X.heap.size X w'):=fun X hX=>by rw[<- hte];exact zb4 X _ t (Rt.below hX qN) (by omega)
  have HR:Hid (∀X,Below w.heap.size w X->Calls Tryz.prog 50 #[.slice ro p.rules.length rc,.slice xo t.length xc] X fun e w'=>∃v',e= .returned (.tuple #[.agg #[v',.int .i64 (K.runF p.rules t).1.2.1,.int .i64 (K.runF p.rules t).1.2.2],.agg #[.int .i64 (K.runF p.rules t).2.1,.int .i64 (K.runF p.rules t).2.2]])/\L.Rd w' v' .i32 (K.runF p.rules t).1.1/\Below X.heap.size X w'):=fun X hX=>zii X _ p.rules (R0.below hX) _ t (Rt.below hX qN) (by omega)
  have HPl:Hid (∀o,J.Comp p.rules o->(¬o.2.1=0->pl p.rules t=([],o.2.1))/\(o.2.1=0->pl p.rules t=((K.runF p.rules t).1.1,(K.runF p.rules t).2.1))):=fun o ho=>Cn.zkm hpl hru hte ho
  obtain⟨⟨q,q1⟩,hq⟩:∃q,pl p.rules t=q:=⟨_,rfl⟩;rw[hq] at HPl ⊢;obtain⟨⟨⟨rt,rs,rp⟩,re,ra⟩,hrun⟩:∃o,K.runF p.rules t=o:=⟨_,rfl⟩;rw[hrun] at HPl HR;simp only at HPl HR ⊢;have hC:=HC.out _ HA.out.1;clear hq hrun hru hte R0 Rt ht hpl hp HC
  go_enter Tryz.func36,Tryz.ntmps36
  go_wp2_with fail
  refine hC.mono ?_;rintro e w1 ⟨v1,⟨hs,o1,o2⟩,hcomp,rfl,_,b1⟩;obtain⟨hv1,B1,s1⟩:=K.zao b1;have HB1:Hid (∀o,Below w.heap.size w (w1.alloc o)):=fun o=>B1.alloc B1.size o
  have hor:=HPl.out _ hcomp;simp only at hor;have k0:∀o,(w1.alloc o).cell? ⟨w.heap.size,0,none⟩=some (.string p.name):=fun o=>K.zac (K.zaa (i:=0) hv1 rfl) o
  have k1:∀o,(w1.alloc o).cell? ⟨w.heap.size,1,none⟩=some (.slice ro p.rules.length rc):=fun o=>K.zac (K.zaa (i:=1) hv1 rfl) o
  clear b1 hC hv1 B1 hcomp
  by_cases hz:o1=0
  ·subst hz;have hq:=hor.2 rfl;simp only[Prod.mk.injEq] at hq;obtain⟨rfl,rfl⟩:=hq;have HRo:Hid (∀o,Calls Tryz.prog 50 #[.slice ro p.rules.length rc,.slice xo t.length xc] (w1.alloc o) fun e w'=>∃v',e= .returned (.tuple #[.agg #[v',.int .i64 rs,.int .i64 rp],.agg #[.int .i64 q1,.int .i64 ra]])/\L.Rd w' v' .i32 q/\Below (w1.alloc o).heap.size (w1.alloc o) w'):=fun o=>HR.out _ (HB1.out o)
   clear hor HPl HR HT
   go_wp2_with fail
   refine(HRo.out _).mono ?_;rintro e w2 ⟨v2,rfl,d2,b2⟩;obtain⟨va,vc,rfl⟩:∃va vc,v2= .slice va q.length vc:=by obtain⟨a,c,h,_⟩:=d2;exact⟨a,c,h⟩
   have HD:Hid (L.Rd w2 (.slice va q.length vc) .i32 q/\Below w.heap.size w w2):=⟨d2,(HB1.out _).trans (b2.mono (HB1.out _).size)⟩;clear d2 b2 HRo k0 k1;go_wp2
   go_region
   go_wp2;refine bodyPost_ret (v:= .tuple #[.slice va q.length vc,.int .i64 q1]) (by simp[results,Tryz.results36,go_sem, *]) rfl ?_
   have hB:∀x y,Below w2.heap.size w2 ((w2.alloc x).alloc y).drew:=fun x y=>(((qR w2).alloc qN _).alloc (by simp) _).drew
   exact⟨_,rfl,HD.out.1.below (hB _ _) qN,HD.out.2.trans ((hB _ _).mono HD.out.2.size)⟩
  ·have hq:=hor.1 hz;simp only[Prod.mk.injEq] at hq;obtain⟨rfl,rfl⟩:=hq;have HTo:Hid (∀o,Calls Tryz.prog 15 #[.slice xo t.length xc] (w1.alloc o) fun e w'=>e= .returned (.int .i64 0)/\Below (w1.alloc o).heap.size (w1.alloc o) w'):=fun o=>HT.out _ (HB1.out o)
   clear hor HPl HR HT
   go_wp2_with fail
   refine(HTo.out _).mono ?_;rintro e w2 ⟨rfl,b2⟩;obtain⟨h9,B2,s2⟩:=K.zao b2;have HD:Hid (Below w.heap.size w w2):=(HB1.out _).trans (b2.mono (HB1.out _).size);obtain⟨y0,y1,_,_⟩:=K.box2 h9;clear b2 B2 HTo k0 k1;go_wp2
   go_region
   go_wp2;refine bodyPost_ret (v:= .tuple #[.slice none 0 0,.int .i64 q1]) (by simp[results,Tryz.results36,go_sem, *]) rfl ?_
   exact⟨_,rfl,⟨none,0,rfl,fun _=>rfl,fun h=>absurd rfl h⟩,HD.out.drew⟩
 | false =>
  have h1':¬p.name.toList= []:=by simpa using h1
  rw[if_neg h1'];clear hp R0 Rt;cases h2:(p.name.toList== [117,112,112,101,114]) with
  | true =>
   have h2':=eq_of_beq h2;rw[if_pos h2'];clear h1' h2';simp only
   go_enter Tryz.func36,Tryz.ntmps36
   go_wp2
   go_loopw [10,45] (fun i10 i wr=>∃(k:Nat) (o:List Int) (vo:Option Addr) (vc:Nat),k<=t.length/\i= .int .i64 k/\i10= .slice vo o.length vc/\Hid (o=(t.take k).map Cn.up/\wr.ownsRow (w.heap.size+1) 21 1 (.slice vo o.length vc) o.length (K.ints o)/\Below w.heap.size w wr/\wr.heap[w.heap.size]?=some (.cells #[.string p.name,.slice ro p.rules.length rc] 57))/\o.length<=4000) (fun _ i _=>t.length - (intOf i).toNat)
   case atStart=>exact⟨0,[],none,0,Nat.zero_le _,rfl,rfl,⟨by simp,World.ownsRow_nil _ _ _ _,HA.out.1,HA.out.2⟩,by simp⟩
   case round =>
    obtain⟨k,o,vo,vc,hk,rfl,rfl,HI,hol⟩:=hrel;have kn:wr.cell? ⟨w.heap.size,0,none⟩=some (.string p.name):=K.zaa (i:=0) HI.out.2.2.2 rfl
    by_cases hlt:k<t.length
    ·obtain⟨z,hz⟩:∃z,t[k]?=some z:=⟨t[k],by simp[hlt]⟩;obtain⟨ao',cap',e',_,hcs⟩:=HRt.out.below HI.out.2.2.1 qN;cases e';obtain⟨bt,off,rfl,hcell⟩:=hcs (by intro h;subst h;simp at hlt);have c0:=hcell k z hz;have hws:w.heap.size+1<=wr.heap.size:=lt_of_block HI.out.2.2.2;have run0:=Cn.app1 HI.out.2.1 hws (by omega) (Cn.up z);obtain⟨ao1,vc1,w1,run1,own1,kp1,sz1,be1⟩:=run0
     have hol2:o.length+1<=4000:=by
      have h1:=HI.out.1;have h2:o.length=k:=by rw[h1];simp;omega
      omega
     have HN:Hid (o++ [(Cn.up z)]=(t.take (k+1)).map Cn.up/\w1.ownsRow (w.heap.size+1) 21 1 (.slice ao1 (o.length+1) vc1) (o++ [(Cn.up z)]).length (K.ints (o++ [(Cn.up z)]))/\Below w.heap.size w w1/\w1.heap[w.heap.size]?=some (.cells #[.string p.name,.slice ro p.rules.length rc] 57)/\(o++ [(Cn.up z)]).length=o.length+1):=by
      refine⟨by rw[HI.out.1,List.take_add_one,hz];simp,own1,HI.out.2.2.1.trans (be1.mono (by omega)),?_,by simp⟩;rw[kp1 _ (by omega) (fun e=>by have:=(HI.out.2.1.lt _ e).1;omega)];exact HI.out.2.2.2
     have HC:Hid (Calls Tryz.prog 19 #[.int .i32 z] wr fun e w'=>e= .returned (.int .i32 (Cn.up z))/\w'=wr):=zgu z (by have:=HTx.out z (List.mem_of_getElem? hz);omega) (by have:=HTx.out z (List.mem_of_getElem? hz);omega) wr;clear hcs hcell hz own1 kp1 be1;generalize Cn.up z=y at HC run1 HN
     go_wp2_with (first | (go_at_call 19;refine HC.out.mono ?_;rintro e w' ⟨rfl,rfl⟩) | (at_builtin;refine Lib.wpList_append_run _ rfl _ _ _ _ rfl _ _ rfl rfl _ _ (run1 _) ?_;clear run1))
     go_roundw
     case rel=>exact⟨k+1,o++ [y],ao1,vc1,by omega,by go_num,by rw[HN.out.2.2.2.2],⟨HN.out.1,by rw[HN.out.2.2.2.2];have:=HN.out.2.1;rw[HN.out.2.2.2.2] at this;exact this,HN.out.2.2.1,HN.out.2.2.2.1⟩,by rw[HN.out.2.2.2.2];omega⟩
     case measure=>simp[intOf];omega
    ·go_wp2;refine bodyPost_ret (v:= .tuple #[.slice vo o.length vc,.int .i64 0]) (by simp[results,Tryz.results36,go_sem, *]) rfl ?_
     have hkl:k=t.length:=by omega
     obtain⟨h1,h2,h3,h4⟩:=HI.out;rw[hkl,List.take_length] at h1;refine⟨_,rfl,?_,h3⟩;rw[<- h1];exact L.Rd.zaq h2
  | false =>
   have h2':¬p.name.toList= [117,112,112,101,114]:=by simpa using h2
   rw[if_neg h2'];cases h3:(p.name.toList== [108,111,119,101,114]) with
   | true =>
    have h3':=eq_of_beq h3;rw[if_pos h3'];clear h1' h2' h3';simp only
    go_enter Tryz.func36,Tryz.ntmps36
    go_wp2
    go_loopw [10,45] (fun i10 i wr=>∃(k:Nat) (o:List Int) (vo:Option Addr) (vc:Nat),k<=t.length/\i= .int .i64 k/\i10= .slice vo o.length vc/\Hid (o=(t.take k).map Cn.low/\wr.ownsRow (w.heap.size+1) 21 1 (.slice vo o.length vc) o.length (K.ints o)/\Below w.heap.size w wr/\wr.heap[w.heap.size]?=some (.cells #[.string p.name,.slice ro p.rules.length rc] 57))/\o.length<=4000) (fun _ i _=>t.length - (intOf i).toNat)
    case atStart=>exact⟨0,[],none,0,Nat.zero_le _,rfl,rfl,⟨by simp,World.ownsRow_nil _ _ _ _,HA.out.1,HA.out.2⟩,by simp⟩
    case round =>
     obtain⟨k,o,vo,vc,hk,rfl,rfl,HI,hol⟩:=hrel;have kn:wr.cell? ⟨w.heap.size,0,none⟩=some (.string p.name):=K.zaa (i:=0) HI.out.2.2.2 rfl
     by_cases hlt:k<t.length
     ·obtain⟨z,hz⟩:∃z,t[k]?=some z:=⟨t[k],by simp[hlt]⟩;obtain⟨ao',cap',e',_,hcs⟩:=HRt.out.below HI.out.2.2.1 qN;cases e';obtain⟨bt,off,rfl,hcell⟩:=hcs (by intro h;subst h;simp at hlt);have c0:=hcell k z hz;have hws:w.heap.size+1<=wr.heap.size:=lt_of_block HI.out.2.2.2;have run0:=Cn.app1 HI.out.2.1 hws (by omega) (Cn.low z);obtain⟨ao1,vc1,w1,run1,own1,kp1,sz1,be1⟩:=run0
      have hol2:o.length+1<=4000:=by
       have h1:=HI.out.1;have h2:o.length=k:=by rw[h1];simp;omega
       omega
      have HN:Hid (o++ [(Cn.low z)]=(t.take (k+1)).map Cn.low/\w1.ownsRow (w.heap.size+1) 21 1 (.slice ao1 (o.length+1) vc1) (o++ [(Cn.low z)]).length (K.ints (o++ [(Cn.low z)]))/\Below w.heap.size w w1/\w1.heap[w.heap.size]?=some (.cells #[.string p.name,.slice ro p.rules.length rc] 57)/\(o++ [(Cn.low z)]).length=o.length+1):=by
       refine⟨by rw[HI.out.1,List.take_add_one,hz];simp,own1,HI.out.2.2.1.trans (be1.mono (by omega)),?_,by simp⟩;rw[kp1 _ (by omega) (fun e=>by have:=(HI.out.2.1.lt _ e).1;omega)];exact HI.out.2.2.2
      have HC:Hid (Calls Tryz.prog 20 #[.int .i32 z] wr fun e w'=>e= .returned (.int .i32 (Cn.low z))/\w'=wr):=zgw z (by have:=HTx.out z (List.mem_of_getElem? hz);omega) (by have:=HTx.out z (List.mem_of_getElem? hz);omega) wr;clear hcs hcell hz own1 kp1 be1;generalize Cn.low z=y at HC run1 HN
      go_wp2_with (first | (go_at_call 20;refine HC.out.mono ?_;rintro e w' ⟨rfl,rfl⟩) | (at_builtin;refine Lib.wpList_append_run _ rfl _ _ _ _ rfl _ _ rfl rfl _ _ (run1 _) ?_;clear run1))
      go_roundw
      case rel=>exact⟨k+1,o++ [y],ao1,vc1,by omega,by go_num,by rw[HN.out.2.2.2.2],⟨HN.out.1,by rw[HN.out.2.2.2.2];have:=HN.out.2.1;rw[HN.out.2.2.2.2] at this;exact this,HN.out.2.2.1,HN.out.2.2.2.1⟩,by rw[HN.out.2.2.2.2];omega⟩
      case measure=>simp[intOf];omega
     ·go_wp2;refine bodyPost_ret (v:= .tuple #[.slice vo o.length vc,.int .i64 0]) (by simp[results,Tryz.results36,go_sem, *]) rfl ?_
      have hkl:k=t.length:=by omega
      obtain⟨h1,h2,h3,h4⟩:=HI.out;rw[hkl,List.take_length] at h1;refine⟨_,rfl,?_,h3⟩;rw[<- h1];exact L.Rd.zaq h2
   | false =>
    have h3':¬p.name.toList= [108,111,119,101,114]:=by simpa using h3
    rw[if_neg h3'];cases h4:(p.name.toList== [110,117,108,108]) with
    | true =>
     have h4':=eq_of_beq h4;rw[if_pos h4'];clear h1' h2' h3' h4';simp only
     go_enter Tryz.func36,Tryz.ntmps36
     go_wp2
     go_loopw [10,45] (fun i10 i wr=>∃(k:Nat) (o:List Int) (vo:Option Addr) (vc:Nat),k<=t.length/\i= .int .i64 k/\i10= .slice vo o.length vc/\Hid (o=t.take k/\wr.ownsRow (w.heap.size+1) 21 1 (.slice vo o.length vc) o.length (K.ints o)/\Below w.heap.size w wr/\wr.heap[w.heap.size]?=some (.cells #[.string p.name,.slice ro p.rules.length rc] 57))/\o.length<=4000) (fun _ i _=>t.length - (intOf i).toNat)
     case atStart=>exact⟨0,[],none,0,Nat.zero_le _,rfl,rfl,⟨by simp,World.ownsRow_nil _ _ _ _,HA.out.1,HA.out.2⟩,by simp⟩
     case round =>
      obtain⟨k,o,vo,vc,hk,rfl,rfl,HI,hol⟩:=hrel;have kn:wr.cell? ⟨w.heap.size,0,none⟩=some (.string p.name):=K.zaa (i:=0) HI.out.2.2.2 rfl
      by_cases hlt:k<t.length
      ·obtain⟨z,hz⟩:∃z,t[k]?=some z:=⟨t[k],by simp[hlt]⟩;obtain⟨ao',cap',e',_,hcs⟩:=HRt.out.below HI.out.2.2.1 qN;cases e';obtain⟨bt,off,rfl,hcell⟩:=hcs (by intro h;subst h;simp at hlt);have c0:=hcell k z hz;have hws:w.heap.size+1<=wr.heap.size:=lt_of_block HI.out.2.2.2;have run0:=Cn.app1 HI.out.2.1 hws (by omega) z;obtain⟨ao1,vc1,w1,run1,own1,kp1,sz1,be1⟩:=run0
       have hol2:o.length+1<=4000:=by
        have h1:=HI.out.1;have h2:o.length=k:=by rw[h1];simp;omega
        omega
       have HN:Hid (o++ [z]=t.take (k+1)/\w1.ownsRow (w.heap.size+1) 21 1 (.slice ao1 (o.length+1) vc1) (o++ [z]).length (K.ints (o++ [z]))/\Below w.heap.size w w1/\w1.heap[w.heap.size]?=some (.cells #[.string p.name,.slice ro p.rules.length rc] 57)/\(o++ [z]).length=o.length+1):=by
        refine⟨by rw[HI.out.1,List.take_add_one,hz];simp,own1,HI.out.2.2.1.trans (be1.mono (by omega)),?_,by simp⟩;rw[kp1 _ (by omega) (fun e=>by have:=(HI.out.2.1.lt _ e).1;omega)];exact HI.out.2.2.2
       clear hcs hcell hz own1 kp1 be1
       go_wp2_with (at_builtin;refine Lib.wpList_append_run _ rfl _ _ _ _ rfl _ _ rfl rfl _ _ (run1 _) ?_;clear run1)
       go_roundw
       case rel=>exact⟨k+1,o++ [z],ao1,vc1,by omega,by go_num,by rw[HN.out.2.2.2.2],⟨HN.out.1,by rw[HN.out.2.2.2.2];have:=HN.out.2.1;rw[HN.out.2.2.2.2] at this;exact this,HN.out.2.2.1,HN.out.2.2.2.1⟩,by rw[HN.out.2.2.2.2];omega⟩
       case measure=>simp[intOf];omega
      ·go_wp2;refine bodyPost_ret (v:= .tuple #[.slice vo o.length vc,.int .i64 0]) (by simp[results,Tryz.results36,go_sem, *]) rfl ?_
       have hkl:k=t.length:=by omega
       obtain⟨h1,h2,h3,h4⟩:=HI.out;rw[hkl,List.take_length] at h1;refine⟨_,rfl,?_,h3⟩;rw[<- h1];exact L.Rd.zaq h2
    | false =>
     have h4':¬p.name.toList= [110,117,108,108]:=by simpa using h4
     rw[if_neg h4'];clear h1' h2' h3' h4';simp only
     go_enter Tryz.func36,Tryz.ntmps36
     go_wp2
     go_loopw [10,45] (fun i10 i wr=>∃k:Nat,k<=t.length/\i= .int .i64 k/\i10= .slice none 0 0/\Hid (Below w.heap.size w wr/\wr.heap[w.heap.size]?=some (.cells #[.string p.name,.slice ro p.rules.length rc] 57))) (fun _ i _=>t.length - (intOf i).toNat)
     case atStart=>exact⟨0,Nat.zero_le _,rfl,rfl,HA⟩
     case round =>
      obtain⟨k,hk,rfl,rfl,HI⟩:=hrel;have kn:wr.cell? ⟨w.heap.size,0,none⟩=some (.string p.name):=K.zaa (i:=0) HI.out.2 rfl
      by_cases hlt:k<t.length
      ·obtain⟨z,hz⟩:∃z,t[k]?=some z:=⟨t[k],by simp[hlt]⟩;obtain⟨ao',cap',e',_,hcs⟩:=HRt.out.below HI.out.1 qN;cases e';obtain⟨bt,off,rfl,hcell⟩:=hcs (by intro h;subst h;simp at hlt);have c0:=hcell k z hz;clear hcs hcell hz;go_wp2
       go_roundw
       case rel=>exact⟨k+1,by omega,by go_num,rfl,HI⟩
       case measure=>simp[intOf];omega
      ·go_wp2;refine bodyPost_ret (v:= .tuple #[.slice none 0 0,.int .i64 0]) (by simp[results,Tryz.results36,go_sem, *]) rfl ?_
       exact⟨_,rfl,⟨none,0,rfl,fun _=>rfl,fun h=>absurd rfl h⟩,HI.out.1⟩
end Go.Proofs.YtddiojckgjobmaaGreat
namespace Go.Proofs.YtddiojckgjobmaaGreat
open Go.RowKit
theorem Tryz.infoBool:(Tryz.prog.info? 4).map (fun i=>(i.zero,i.size,i.bytes))=some (some (.bool false),1,1):=by kernel_rfl
namespace Cn
structure Pcs (F:Nat) (w:World) (v:Value) (l:List (List Int×Value)):Prop where
 row:w.ownsRow F 26 1 v l.length (l.map (·.2))
 each:∀p∈l,w.ownsRow F 21 1 p.2 p.1.length (K.ints p.1)
 apart:l.Pairwise fun p q=>∀g,p.2.ownBlock=some g->q.2.ownBlock≠some g
theorem Pcs.nil (F:Nat)(w:World):Pcs F w (.slice none 0 0) []:=⟨World.ownsRow_nil _ _ _ _,fun p hp=>by (cases hp),List.Pairwise.nil⟩
theorem Pcs.kept {F:Nat}{w w':World}{v:Value}{l:List (List Int×Value)}(h:Pcs F w v l)(hk:∀g,F<=g->g<w.heap.size->w'.heap[g]?=w.heap[g]?):Pcs F w' v l :=
 ⟨Ws.kept1 h.row fun g hg=>hk g (h.row.lt g hg).1 (h.row.lt g hg).2,fun p hp=>Ws.kept1 (h.each p hp) fun g hg=>hk g ((h.each p hp).lt g hg).1 ((h.each p hp).lt g hg).2,h.apart⟩
theorem Pcs.len {F:Nat}{w:World}{v:Value}{l:List (List Int×Value)}(h:Pcs F w v l):∃ao cap,v= .slice ao l.length cap:=by
 rcases h.row.2 with ⟨hv,h0⟩|⟨g,cap,cur,hv,_⟩
 ·exact⟨none,0,by rw[hv,h0]⟩
 ·exact⟨_,cap,hv⟩
theorem zil (w:World)(F:Nat)(hF:F<=w.heap.size)(z:Int):(w.alloc (.cells #[.int .i32 z] 21)).ownsRow F 21 1 (.slice (some ⟨w.heap.size,0,none⟩) 1 1) [z].length (K.ints [z]) :=
 ⟨rfl,.inr ⟨w.heap.size,1,_,rfl,hF,heap_alloc_new w _,qN,by unfold maxLen;omega,rfl,rfl⟩⟩
theorem Pcs.push {F:Nat}{w:World}{v:Value}{l:List (List Int×Value)}(h:Pcs F w v l)(hF:F<=w.heap.size)(hl:l.length<=4000)(z:Int) :
  ∃ao cap w',(∀ty,(Builtin.append_ #[61,61] ty #[v,.slice (some ⟨w.heap.size+1,0,none⟩) 1 1]).run Tryz.prog ((w.alloc (.cells #[.int .i32 z] 21)).alloc (.cells #[.slice (some ⟨w.heap.size,0,none⟩) 1 1] 26))= .ok (.slice ao (l.length+1) cap) w') /\
   Pcs F w' (.slice ao (l.length+1) cap) (l++ [([z],.slice (some ⟨w.heap.size,0,none⟩) 1 1)])/\(∀(b:Nat) (c:Array Value) (ty:TypeId),w.heap[b]?=some (.cells c ty)->ty≠26->w'.heap[b]?=w.heap[b]?)/\Below F w w':=by
 have hal:Below w.heap.size w (w.alloc (.cells #[.int .i32 z] 21)):=(qR w).alloc qN _;obtain⟨w1,hw1⟩:∃w1,w1=w.alloc (.cells #[.int .i32 z] 21):=⟨_,rfl⟩;have hs1:w1.heap.size=w.heap.size+1:=by rw[hw1];simp
 have hone:=zil w F hF z;rw[<- hw1] at hone hal;have h1:=h.kept (w':=w1) fun g _ hg=>hal.block g hg
 obtain⟨v',w',run,own,gr,oth⟩:=Ws.zkl h1.row (by omega) (by omega) [z] (.slice (some ⟨w.heap.size,0,none⟩) 1 1) hone;have hle:(l++ [([z],Value.slice (some ⟨w.heap.size,0,none⟩) 1 1)]).length=l.length+1:=by simp
 rw[hle] at own
 obtain⟨ao,cap,rfl⟩:∃ao cap,v'= .slice ao (l.length+1) cap:=by
  rcases own.2 with ⟨hv,h0⟩|⟨g,cap,cur,hv,_⟩
  ·exact⟨none,0,by rw[hv,h0]⟩
  ·exact⟨_,cap,hv⟩
 refine⟨ao,cap,w',?_,⟨by rw[hle];exact own,fun p hp=> ?_,?_⟩,fun b c ty hb hty=> ?_,?_⟩
 ·rw[<- hw1,<- hs1];exact run
 ·rcases List.mem_append.1 hp with hp | hp
  ·exact oth _ _ _ (h1.each p hp)
  ·simp at hp;subst hp;exact oth _ _ _ hone
 ·refine List.pairwise_append.2 ⟨h.apart,List.pairwise_singleton _ _,fun p hp q hq g hg=> ?_⟩;simp at hq;subst hq;intro e;have e2:w.heap.size=g:=by simpa [Value.ownBlock] using e
  have:=((h.each p hp).lt g hg).2;omega
 ·have hb1:=K.zab hb hal;have hlt:b<w.heap.size:=lt_of_block hb;rw[gr.block b (by simp;omega) (fun e=>Ws.zdp h1.row hb1 hty b e.symm rfl)];show (w1.alloc _).heap[b]?=_;rw[((Below.refl w1.heap.size w1).alloc qN (.cells #[.slice (some ⟨w.heap.size,0,none⟩) 1 1] 26)).block b (by omega)];exact hal.block b hlt
 ·exact((hal.mono hF).alloc (by omega) _).grown gr (by simp;omega) fun g hg=>(h1.row.lt g hg).1
theorem Pcs.snoc {F:Nat}{w:World}{v:Value}{d:List (List Int×Value)}{x:List Int}{u:Value}(h:Pcs F w v (d++ [(x,u)]))(hF:F<=w.heap.size)(hl:x.length<=4000)(z:Int) :
  ∃g cap uo uc w1,v= .slice (some ⟨g,0,none⟩) (d.length+1) cap/\w.cell? ⟨g,d.length,none⟩=some u/\(∃ua ub,u= .slice ua x.length ub) /\
   (∀ty,(Builtin.append_ #[26,26] ty #[u,.slice (some ⟨w.heap.size,0,none⟩) 1 1]).run Tryz.prog (w.alloc (.cells #[.int .i32 z] 21))= .ok (.slice uo (x.length+1) uc) w1) /\
   w1.cell? ⟨g,d.length,none⟩=some u/\w1.frozen? ⟨g,d.length,none⟩=false /\
   Pcs F (w1.setCell ⟨g,d.length,none⟩ (.slice uo (x.length+1) uc)) v (d++ [(x++ [z],.slice uo (x.length+1) uc)])/\(∀(b:Nat) (c:Array Value) (ty:TypeId),w.heap[b]?=some (.cells c ty)->ty≠26->ty≠21->(w1.setCell ⟨g,d.length,none⟩ (.slice uo (x.length+1) uc)).heap[b]?=w.heap[b]?)/\Below F w (w1.setCell ⟨g,d.length,none⟩ (.slice uo (x.length+1) uc)):=by
 have hu:w.ownsRow F 21 1 u x.length (K.ints x):=h.each (x,u) (by simp);have hlen:(d++ [(x,u)]).length=d.length+1:=by simp
 have hrow:=h.row;rw[hlen] at hrow;rcases hrow.2 with ⟨_,h0⟩|⟨g,cap,cur,hv,hg,hx,hle,hmax,hsz,htk⟩
 ·omega
 rw[Nat.mul_one] at htk hsz
 obtain⟨ua,ub,rfl⟩:∃ua ub,u= .slice ua x.length ub:=by
  rcases hu.2 with ⟨hv,h0⟩|⟨g,cap,cur,hv,_⟩
  ·exact⟨none,0,by rw[hv,h0]⟩
  ·exact⟨_,_,hv⟩
 obtain⟨uo,uc,w1,run,own,kp,sz,be⟩:=Cn.app1 hu hF (by omega) z;have hgw:g<w.heap.size:=lt_of_block hx;have hgn:(Value.slice ua x.length ub).ownBlock≠some g:=fun e=>Ws.zdp hu hx (by decide) g e rfl
 have hx1:w1.heap[g]?=some (.cells cur 26 (0,0)):=(kp g hgw hgn).trans hx
 have hcd:cur[d.length]?=some (.slice ua x.length ub):=by
  have e:(cur.toList.take (d.length+1))[d.length]?=some (.slice ua x.length ub):=by rw[htk];simp
  rw[List.getElem?_take] at e;split at e
  ·simpa using e
  ·cases e
 have hdlt:d.length<cur.size:=(qA.1 hcd).1;have hset:=heap_setCell_same w1 g d.length _ _ (.slice uo (x.length+1) uc) hx1;have oth:∀k,k≠g->(w1.setCell ⟨g,d.length,none⟩ (.slice uo (x.length+1) uc)).heap[k]?=w1.heap[k]?:=fun k hk=>heap_setCell_other _ ⟨g,d.length,none⟩ k _ (by simpa using hk)
 have hxl:(x++ [z]).length=x.length+1:=by simp
 have hnew:∀gg,(Value.slice uo (x.length+1) uc).ownBlock=some gg->(Value.slice ua x.length ub).ownBlock=some gg∨w.heap.size<=gg:=by
  obtain⟨v'',w'',run2,own2,gr2,hbl⟩:=K.zb9 _ F (.slice ua x.length ub) x (hu.alloc (.cells #[.int .i32 z] 21)) (.slice (some ⟨w.heap.size,0,none⟩) 1 1) [z] (L.Rd.zaq (zil w F hF z)) (by simp;omega) (by simp;omega);have e:=(run2 26).symm.trans (run 26);simp only[Result.ok.injEq] at e;obtain⟨rfl,_⟩:=e;intro gg hgg;rcases hbl with hb | ⟨k,hk,hk2⟩
  ·exact .inl (hb▸hgg)
  ·rw[hk] at hgg;cases hgg;simp at hk2;exact .inr (by omega)
 refine⟨g,cap,uo,uc,w1,hv,K.zaa hx hcd,⟨ua,ub,rfl⟩,run,K.zaa hx1 hcd,frozen_of_row w1 g d.length _ _ hx1,⟨?_,fun p hp=> ?_,?_⟩,fun b c ty hb h1 h2=> ?_,be.setCell (p:=⟨g,d.length,none⟩) hg _⟩
 ·have hle2:(d++ [(x++ [z],Value.slice uo (x.length+1) uc)]).length=d.length+1:=by simp
  rw[hle2];refine⟨by simp,.inr ⟨g,cap,_,hv,hg,hset,hle,hmax,by simpa using hsz,?_⟩⟩
  have e1:(cur.toList.set d.length (Value.slice uo (x.length+1) uc)).take (d.length+1)=d.map (·.2)++ [Value.slice uo (x.length+1) uc]:=by
   rw[List.take_add_one,List.take_set_of_le qN,List.getElem?_set_self (by simpa using hdlt)]
   have:cur.toList.take d.length=d.map (·.2):=by
    have:=congrArg (List.take d.length) htk;rw[List.take_take,Nat.min_eq_left (by omega),List.map_append,List.take_left' (by simp)] at this;exact this
   rw[this];rfl
  rw[Nat.mul_one];simpa using e1
 ·rcases List.mem_append.1 hp with hp | hp
  ·have hpe:=h.each p (List.mem_append_left _ hp);have hap:=(List.pairwise_append.1 h.apart).2.2 p hp (x,.slice ua x.length ub) (by simp);refine Ws.kept1 hpe fun k hk=> ?_
   rw[oth k (Ws.zdp hpe hx (by decide) k hk)];exact kp k (hpe.lt k hk).2 (hap k hk)
  ·simp at hp;subst hp;refine Ws.kept1 (by rw[hxl] at own;simpa using own) fun k hk=>oth k fun e=> ?_
   subst e;rcases hnew _ hk with h1 | h1
   ·exact hgn h1
   ·omega
 ·obtain⟨a1,a2,a3⟩:=List.pairwise_append.1 h.apart;refine List.pairwise_append.2 ⟨a1,List.pairwise_singleton _ _,fun p hp q hq k hk e=> ?_⟩;simp at hq;subst hq;rcases hnew k e with h1 | h1
  ·exact a3 p hp (x,.slice ua x.length ub) (by simp) k hk h1
  ·have:=((h.each p (List.mem_append_left _ hp)).lt k hk).2;omega
 ·have hne:b≠g:=fun e=>by
   subst e;have:=hb.symm.trans hx;simp at this;exact h1 this.2
  rw[oth b hne];exact kp b (lt_of_block hb) fun e=>Ws.zdp hu hb h2 b e rfl
theorem zi2 {F:Nat}{w:World}{v:Value}{bs:List Bool}(h:w.ownsRow F 4 1 v bs.length (bs.map Value.bool))(hF:F<=w.heap.size)(hl:bs.length<=4000)(b:Bool) :
  ∃ao cap w',(∀ty,(Builtin.append_ #[62,62] ty #[v,.slice (some ⟨w.heap.size,0,none⟩) 1 1]).run Tryz.prog (w.alloc (.cells #[.bool b] 4))= .ok (.slice ao (bs.length+1) cap) w')/\w'.ownsRow F 4 1 (.slice ao (bs.length+1) cap) (bs.length+1) ((bs++ [b]).map Value.bool)/\(∀(k:Nat) (c:Array Value) (ty:TypeId),w.heap[k]?=some (.cells c ty)->ty≠4->w'.heap[k]?=w.heap[k]?)/\Below F w w':=by
 obtain⟨i0,hi,hz0,hz1,hz2⟩:=info_parts Tryz.infoBool;have hal:Below w.heap.size w (w.alloc (.cells #[.bool b] 4)):=(qR w).alloc qN _;have hnew:=heap_alloc_new w (.cells #[.bool b] 4)
 obtain⟨v',w',hrun,own,gr,_⟩:=run_append_own (P:=Tryz.prog) (w.alloc (.cells #[.bool b] 4)) F 62 0 4 i0 _ 1 1 Tryz.underlying62 hi hz0 hz1 hz2 rfl (by decide) v bs.length (bs.map Value.bool) (h.alloc _) ⟨w.heap.size,0,none⟩ 1 1 [.bool b] rfl
  (fun j u hj=>by
   rw[L.addr_add,Nat.zero_add]
   match j,hj with
   | 0,hj=>exact K.zaa hnew (by simpa using hj)
   | n+1,hj=>simp at hj)
  (fun u hu=>by simp at hu;subst hu;rfl) (by unfold maxLen;omega) (by omega) (by simp;omega)
 obtain⟨ao,cap,rfl⟩:∃ao cap,v'= .slice ao (bs.length+1) cap:=by
  rcases own.2 with ⟨hv,h0⟩|⟨g,cap,cur,hv,_⟩
  ·exact⟨none,0,by rw[hv,h0]⟩
  ·exact⟨_,cap,hv⟩
 refine⟨ao,cap,w',fun ty=>hrun,by simpa using own,fun k c ty hk hty=> ?_,(hal.mono hF).grown gr (by simp;omega) fun g hg=>(h.lt g hg).1⟩;have hlt:=lt_of_block hk;rw[gr.block k (by simp;omega) (fun e=>Ws.zdp h hk hty k e.symm rfl)];exact hal.block k hlt
end Cn
end Go.Proofs.YtddiojckgjobmaaGreat
