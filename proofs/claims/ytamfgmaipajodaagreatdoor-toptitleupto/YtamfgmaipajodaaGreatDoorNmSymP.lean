/-
 words.word: the piece that begins here.
-/
import Derived.Test.YtamfgmaipajodaaGreatDoorAlApp
import Derived.Test.YtamfgmaipajodaaGreatDoorXLib
import Derived.Test.YtamfgmaipajodaaGreatDoorYRus
import Derived.Test.YtamfgmaipajodaaGreatDoorTParse
import Derived.Test.YtamfgmaipajodaaGreatDoorCnMath
import Derived.Test.YtamfgmaipajodaaGreatDoorCnPass
import Derived.Test.YtamfgmaipajodaaGreatDoorQBoxes
import Derived.Test.YtamfgmaipajodaaGreatDoorVForth
import Derived.Test.YtamfgmaipajodaaGreatDoorRows
import Derived.Sort.WalkA
import Derived.Sort.WalkB12
import Derived.Test.YtamfgmaipajodaaGreatDoorNmIns
set_option maxHeartbeats 0
set_option maxRecDepth 20000
set_option linter.unusedSimpArgs false
set_option linter.unusedVariables false
namespace Go.Proofs.YtamfgmaipajodaaGreatDoor
open Go.RowKit Go.Lib
theorem Tryz.infoWord:(Tryz.prog.info? 111).map (fun i=>(i.zero,i.size,i.bytes))=some (some (.agg #[.int .i64 0,.int .i64 0,.bool false]),3,24):=by kernel_rfl
namespace Wd
theorem zvc {w:World}{xo:Option Addr}{xc:Nat}{t:List Int}(Rt:L.Rd w (.slice xo t.length xc) .i32 t){i:Nat}(hi:i<t.length):∃bk off,xo=some ⟨bk,off,none⟩/\bk<w.heap.size/\∀X,Below w.heap.size w X->∀j,j<t.length->X.cell? ⟨bk,off+j,none⟩=some (.int .i32 (t.getD j 0)):=by
 obtain⟨a,c,he,_,hc⟩:=Rt;cases he;obtain⟨bk,off,rfl,h⟩:=hc (by intro h;subst h;simp at hi)
 have hx:∀j,j<t.length->w.cell? ⟨bk,off+j,none⟩=some (.int .i32 (t.getD j 0)):=fun j hj=>by
  have:=h j t[j] (by simp[hj]);simpa [List.getD,hj] using this
 have hb:=L.block_lt (hx i hi);exact⟨bk,off,rfl,hb,fun X hX j hj=>(hX.cell (p:=⟨bk,_,none⟩) hb).trans (hx j hj)⟩
theorem box3 {w:World}{g:Nat}{a b c:Value}{ty:TypeId}(h:w.heap[g]?=some (.cells #[a,b,c] ty)):w.cell? ⟨g,0,none⟩=some a/\w.cell? ⟨g,1,none⟩=some b/\w.cell? ⟨g,2,none⟩=some c/\w.frozen? ⟨g,0,none⟩=false/\w.frozen? ⟨g,1,none⟩=false/\w.frozen? ⟨g,2,none⟩=false :=
 ⟨K.zah (i:=0) h rfl,K.zah (i:=1) h rfl,K.zah (i:=2) h rfl,frozen_of_row w g 0 _ _ h,frozen_of_row w g 1 _ _ h,frozen_of_row w g 2 _ _ h⟩
end Wd
theorem zlu (w:World)(v:Value)(A:List S.Sp)(R:S.Rd w v A)(N:S.Nf 0 A)(hl:A.length<=200)(xo:Option Addr)(xc:Nat)(t:List Int)(Rt:L.Rd w (.slice xo t.length xc) .i32 t)(ht:t.length<=4000)(k:Nat)(hk:k<t.length) :
  Calls Tryz.prog 93 #[v,.slice xo t.length xc,.int .i64 k] w fun e w'=>∃(tq:Nat) (b:Bool),e= .returned (.agg #[.int .i64 k,.int .i64 tq,.bool b])/\Wd.rest (S.memb A) t k=(k,tq,b)::Wd.rest (S.memb A) t tq/\k<tq/\tq<=t.length/\Below w.heap.size w w':=by
 have HH:Hid (∀X r,Below w.heap.size w X->Calls Tryz.prog 17 #[v,.int .i32 r] X fun e w'=>e= .returned (.bool (S.memb A r))/\Below X.heap.size X w'):=fun X r hX=>zg2 X v A r (R.below hX qN) N hl
 obtain⟨va,vc,rfl⟩:=R.len;obtain⟨bk,off,rfl,hbk,hcell⟩:=Wd.zvc Rt hk;have HC:Hid (∀X,Below w.heap.size w X->∀j,j<t.length->X.cell? ⟨bk,off+j,none⟩=some (.int .i32 (t.getD j 0))):=hcell;have hB0:Below w.heap.size w (w.alloc (.cells #[.int .i64 0,.int .i64 0,.bool false] 111)):=(qR w).alloc qN _;have hc0:=hcell _ hB0 k hk;have H0:=HH.out _ (t.getD k 0) hB0;have HR:Hid (Wd.rest (S.memb A) t k=Wd.go (S.memb A) k (k+1) (S.memb A (t.getD k 0)) (t.drop (k+1))):=if_pos hk;generalize t.getD k 0=x0 at *;clear hcell hB0 R N Rt
 go_enter Tryz.func93,Tryz.ntmps93
 go_wp2_with fail
 go_at_call 17
 refine H0.mono ?_;rintro e w1 ⟨rfl,b1⟩;obtain⟨hs1,B1,_⟩:=K.zbb b1;obtain⟨b,hb⟩:∃b,b=S.memb A x0:=⟨_,rfl⟩;rw[<- hb] at HR;rw[<- hb];have HS1:Hid (w1.heap[w.heap.size]?=some (.cells #[.int .i64 0,.int .i64 0,.bool false] 111)):=hs1;have HB1:Hid (Below w.heap.size w w1):=B1;clear b1 H0 hc0 hs1 B1 hb;go_wp2
 go_loopw [8] (fun v8 wr=>∃i:Nat,k<i/\i<=t.length/\v8= .int .i64 i/\Hid (Wd.rest (S.memb A) t k=Wd.go (S.memb A) k i b (t.drop i))/\Hid (wr.heap[w.heap.size]?=some (.cells #[.int .i64 0,.int .i64 0,.bool false] 111))/\Hid (Below w.heap.size w wr)) (fun v8 _=>t.length - (intOf v8).toNat)
 case atStart=>exact⟨k+1,by omega,by omega,by go_num,HR,HS1,HB1⟩
 case round =>
  obtain⟨i,hki,hit,rfl,HI,HS,HB⟩:=hrel;have fin:∀Y,Y.heap[w.heap.size]?=some (.cells #[.int .i64 0,.int .i64 0,.bool false] 111)->Below w.heap.size w Y->(i<t.length->S.memb A (t.getD i 0)≠b)->True:=fun _ _ _ _=>trivial
  clear fin
  by_cases hi:i<t.length
  ·have c1:=HC.out wr HB.out i hi;have H1:=HH.out wr (t.getD i 0) HB.out
   have HX:Hid (∀c,c=S.memb A (t.getD i 0)->if c=b then Wd.rest (S.memb A) t k=Wd.go (S.memb A) k (i+1) b (t.drop (i+1)) else Wd.rest (S.memb A) t k=(k,i,b)::Wd.rest (S.memb A) t i):=fun c hc=>by
    split
    ·rename_i h;rw[HI.out,Wd.go_step hi (by rw[<- hc,h])]
    ·rename_i h;rw[HI.out,Wd.go_cut hit fun _=>by rw[<- hc];exact h]
   generalize t.getD i 0=x1 at *
   go_wp2_with fail
   go_at_call 17
   refine H1.mono ?_;rintro e w2 ⟨rfl,b2⟩;have hX:=HX.out _ rfl;have HS2:Hid (w2.heap[w.heap.size]?=some (.cells #[.int .i64 0,.int .i64 0,.bool false] 111)):=K.zae HS.out b2;have HB2:Hid (Below w.heap.size w w2):=HB.out.trans (b2.mono HB.out.size);generalize S.memb A x1=c at *;clear b2 H1 c1 HX
   by_cases hcb:c=b
   ·subst hcb;rw[if_pos rfl] at hX;have HX:Hid (Wd.rest (S.memb A) t k=Wd.go (S.memb A) k (i+1) c (t.drop (i+1))):=hX;clear hX;go_wp2
    go_roundw
    case rel=>exact⟨i+1,by omega,by omega,by go_num,HX,HS2,HB2⟩
    case measure=>simp[intOf];omega
   ·rw[if_neg hcb] at hX;have HX:Hid (Wd.rest (S.memb A) t k=(k,i,b)::Wd.rest (S.memb A) t i):=hX;obtain⟨y0,y1,y2,f0,f1,f2⟩:=Wd.box3 HS2.out;clear hX;have hbb:c= !b:=by cases c <;> cases b <;> simp_all
    subst hbb;go_wp2;refine bodyPost_ret (v:= .agg #[.int .i64 k,.int .i64 i,.bool b]) (by simp[results,Tryz.results93,go_sem, *]) rfl ?_;exact⟨i,b,rfl,HX.out,hki,hit,((HB2.out.setCell (p:=⟨w.heap.size,0,none⟩) (by simp) _).setCell (p:=⟨w.heap.size,1,none⟩) (by simp) _).setCell (p:=⟨w.heap.size,2,none⟩) (by simp) _⟩
  ·have HX:Hid (Wd.rest (S.memb A) t k=(k,i,b)::Wd.rest (S.memb A) t i):=by show _=_;rw[HI.out,Wd.go_cut hit fun h=>absurd h hi]
   obtain⟨y0,y1,y2,f0,f1,f2⟩:=Wd.box3 HS.out;go_wp2;refine bodyPost_ret (v:= .agg #[.int .i64 k,.int .i64 i,.bool b]) (by simp[results,Tryz.results93,go_sem, *]) rfl ?_;exact⟨i,b,rfl,HX.out,hki,hit,((HB.out.setCell (p:=⟨w.heap.size,0,none⟩) (by simp) _).setCell (p:=⟨w.heap.size,1,none⟩) (by simp) _).setCell (p:=⟨w.heap.size,2,none⟩) (by simp) _⟩
end Go.Proofs.YtamfgmaipajodaaGreatDoor
namespace Go.Proofs.YtamfgmaipajodaaGreatDoor
open Go.RowKit Go.Lib
theorem zlv (w:World)(v:Value)(A:List S.Sp)(R:S.Rd w v A)(hf:S.Fit A)(xo:Option Addr)(xc:Nat)(t:List Int)(Rt:L.Rd w (.slice xo t.length xc) .i32 t)(ht:t.length<=140737488355328) :
  Calls Tryz.prog 47 #[v,.slice xo t.length xc] w fun e w'=>∃v',e= .returned (.tuple #[v',.int .i64 (Wd.splitE A t)])/\w'.ownsRow w.heap.size 111 3 v' (Wd.splitF A t).length (Wd.wcells (Wd.splitF A t))/\Below w.heap.size w w':=by
 have H1:=zbq w v A R hf;have H2:Hid (∀X,Below w.heap.size w X->Calls Tryz.prog 28 #[.slice xo t.length xc] X fun e w'=>e= .returned (.int .i64 (K.textE t))/\Below X.heap.size X w'):=fun X hX=>zdo X _ t (Rt.below hX qN) ht
 have HIn:Hid (S.Rd w v A/\L.Rd w (.slice xo t.length xc) .i32 t):=⟨R,Rt⟩;obtain⟨va,vc,rfl⟩:=R.len;obtain⟨a1,HA1⟩:∃z,Hid (S.wrongE A=z):=⟨_,rfl⟩;obtain⟨a2,HA2⟩:∃z,Hid (K.textE t=z):=⟨_,rfl⟩;rw[HA1.out] at H1;rw[HA2.out] at H2;clear R Rt
 go_enter Tryz.func47,Tryz.ntmps47
 go_wp2_with fail
 refine H1.mono ?_;rintro e w1 ⟨rfl,b1⟩;have H2':=H2.out _ b1;have HB1:Hid (Below w.heap.size w w1):=b1;clear H1 b1 H2
 by_cases q1:a1=0
 ·subst q1
  go_wp2_with fail
  refine H2'.mono ?_;rintro e w2 ⟨rfl,b2⟩;have HB2:Hid (Below w.heap.size w w2):=HB1.out.trans (b2.mono HB1.out.size);clear H2' b2 HB1
  by_cases q2:a2=0
  ·subst q2;have hA:=S.zas.1 HA1.out;have h4:=K.zfq HA2.out
   have HS:Hid (Wd.splitE A t=0/\Wd.splitF A t=Wd.rest (S.memb A) t 0):=by
    have e:Wd.splitE A t=0:=by unfold Wd.splitE;rw[if_pos HA1.out,HA2.out]
    exact⟨e,by unfold Wd.splitF;rw[if_pos e]⟩
   have HWd:Hid (∀X (k:Nat),Below w.heap.size w X->k<t.length->Calls Tryz.prog 93 #[.slice va A.length vc,.slice xo t.length xc,.int .i64 k] X fun e w'=>∃(tq:Nat) (b:Bool),e= .returned (.agg #[.int .i64 k,.int .i64 tq,.bool b])/\Wd.rest (S.memb A) t k=(k,tq,b)::Wd.rest (S.memb A) t tq/\k<tq/\tq<=t.length/\Below X.heap.size X w'):=fun X k hX hk=>zlu X _ A (HIn.out.1.below hX qN) hA.2 hA.1 xo xc t (HIn.out.2.below hX qN) h4 k hk
   clear hA;go_wp2
   go_loopw [8,9] (fun i8 i9 wr=>∃(k:Nat) (xs:List Wd.Wo) (vo:Option Addr) (vc':Nat),k<=t.length/\i9= .int .i64 k/\i8= .slice vo xs.length vc'/\Hid (Wd.rest (S.memb A) t 0=xs++Wd.rest (S.memb A) t k/\wr.ownsRow w.heap.size 111 3 (.slice vo xs.length vc') xs.length (Wd.wcells xs)/\Below w.heap.size w wr)) (fun _ i9 _=>t.length - (intOf i9).toNat)
   case atStart=>exact⟨0,[],none,0,Nat.zero_le _,rfl,rfl,rfl,World.ownsRow_nil _ _ _ _,HB2.out⟩
   case round =>
    obtain⟨k,xs,vo,vc',hk,rfl,rfl,HI⟩:=hrel
    have hxl:xs.length<=4000:=by
     have h1:=Wd.zks (S.memb A) t 0;rw[HI.out.1,List.length_append] at h1;omega
    by_cases hlt:k<t.length
    ·have HW:=HWd.out wr k HI.out.2.2 hlt;have hszr:=HI.out.2.2.size
     go_wp2_with fail
     go_at_call 93
     refine HW.mono ?_;rintro e w3 ⟨tq,b,rfl,hrest,hk1,hk2,b3⟩;have hs3:=b3.size;have own3:(w3.alloc (.cells #[.int .i64 k,.int .i64 tq,.bool b] 111)).ownsRow w.heap.size 111 3 (.slice vo xs.length vc') xs.length (Wd.wcells xs):=(L.zat HI.out.2.1 b3 qN).alloc _;obtain⟨ao1,vc1,w4,run1,own1,kp1,sz1,be1⟩:=Al.app (sl:=107) Tryz.underlying107 Tryz.infoWord rfl (by decide) (by decide) own3 (by simp;omega) (by omega) [.int .i64 k,.int .i64 tq,.bool b] rfl (fun u hu=>by simp at hu;rcases hu with rfl | rfl | rfl <;> rfl)
     have hx4:w4.heap[w3.heap.size]?=some (.cells #[.int .i64 k,.int .i64 tq,.bool b] 111):=by
      rw[kp1 _ (by simp) (fun e=>by have h3:=(HI.out.2.1.lt _ e).2;omega)];exact heap_alloc_new w3 _
     have y1:=K.zah (i:=1) hx4 rfl
     have HN2:Hid (Wd.rest (S.memb A) t 0=(xs++ [(k,tq,b)])++Wd.rest (S.memb A) t tq/\w4.ownsRow w.heap.size 111 3 (.slice ao1 (xs.length+1) vc1) (xs.length+1) (Wd.wcells (xs++ [(k,tq,b)]))/\Below w.heap.size w w4/\(xs++ [((k,tq,b):Wd.Wo)]).length=xs.length+1):=by
      refine⟨by rw[HI.out.1,hrest];simp,by rw[Wd.zgf];exact own1,?_,by simp⟩;exact(HI.out.2.2.trans (b3.mono (by omega))).trans (((qR w3).alloc (by omega) _).trans be1)
     rw[show (w3.alloc (.cells #[.int .i64 k,.int .i64 tq,.bool b] 111)).heap.size=w3.heap.size+1 by simp] at run1;clear own3 own1 kp1 be1 hx4 HW b3 hrest
     go_wp2_with (at_builtin;refine Lib.wpList_append_run _ rfl _ _ _ _ rfl _ _ rfl rfl _ _ (run1 _) ?_;clear run1)
     go_roundw
     case rel=>exact⟨tq,xs++ [(k,tq,b)],ao1,vc1,hk2,rfl,(by rw[HN2.out.2.2.2]),HN2.out.1,by rw[HN2.out.2.2.2];exact HN2.out.2.1,HN2.out.2.2.1⟩
     case measure=>simp[intOf];omega
    ·have HE:Hid (Wd.splitF A t=xs):=by show _=_;rw[HS.out.2,HI.out.1,Wd.rest_end (by omega),List.append_nil]
     go_wp2;refine bodyPost_ret (v:= .tuple #[.slice vo xs.length vc',.int .i64 0]) (by simp[results,Tryz.results47,go_sem, *]) rfl ?_
     exact⟨_,by rw[HS.out.1],by rw[HE.out];exact HI.out.2.1,HI.out.2.2⟩
  ·have HS:Hid (Wd.splitE A t=a2/\Wd.splitF A t= []):=by
    have e:Wd.splitE A t=a2:=by unfold Wd.splitE;rw[if_pos HA1.out,HA2.out]
    exact⟨e,by unfold Wd.splitF;rw[if_neg (by rw[e];exact q2)]⟩
   go_wp2;refine bodyPost_ret (v:= .tuple #[.slice none 0 0,.int .i64 a2]) (by simp[results,Tryz.results47,go_sem, *]) rfl ?_
   exact⟨_,by rw[HS.out.1],by rw[HS.out.2];exact World.ownsRow_nil _ _ _ _,HB2.out⟩
 ·have HS:Hid (Wd.splitE A t=a1/\Wd.splitF A t= []):=by
   have e:Wd.splitE A t=a1:=by unfold Wd.splitE;rw[if_neg (by rw[HA1.out];exact q1),HA1.out]
   exact⟨e,by unfold Wd.splitF;rw[if_neg (by rw[e];exact q1)]⟩
  go_wp2;refine bodyPost_ret (v:= .tuple #[.slice none 0 0,.int .i64 a1]) (by simp[results,Tryz.results47,go_sem, *]) rfl ?_
  exact⟨_,by rw[HS.out.1],by rw[HS.out.2];exact World.ownsRow_nil _ _ _ _,HB1.out⟩
end Go.Proofs.YtamfgmaipajodaaGreatDoor
namespace Go.Proofs.YtamfgmaipajodaaGreatDoor
open Go.RowKit Go.Lib
namespace Wd
def Holds (w:World) (g:Nat) (X:List Int):Prop:=∃cur:List Value,K.Row w g cur/\∀(j:Nat) z,X[j]?=some z->cur[j]?=some (.int .i32 z)
theorem Holds.cell {w:World}{g:Nat}{X:List Int}(h:Holds w g X){j:Nat}{z:Int}(hj:X[j]?=some z):w.cell? ⟨g,j,none⟩=some (.int .i32 z):=by
 obtain⟨cur,h1,h2⟩:=h;rw[h1.cell];exact h2 j z hj
theorem Holds.free {w:World}{g:Nat}{X:List Int}(h:Holds w g X)(j:Nat):w.frozen? ⟨g,j,none⟩=false:=by
 obtain⟨cur,h1,_⟩:=h;exact h1.free j
theorem Holds.lt {w:World}{g:Nat}{X:List Int}(h:Holds w g X):g<w.heap.size:=by
 obtain⟨cur,h1,_⟩:=h;exact h1.lt
theorem Holds.below {w w':World}{g:Nat}{X:List Int}(h:Holds w g X)(hb:Below w.heap.size w w'):Holds w' g X:=by
 have hl:=h.lt;obtain⟨cur,h1,h2⟩:=h;exact⟨cur,h1.block (hb.block g hl),h2⟩
theorem Holds.set {w:World}{g:Nat}{X:List Int}(h:Holds w g X){i:Nat}(hi:i<X.length)(z:Int):Holds (w.setCell ⟨g,i,none⟩ (.int .i32 z)) g (X.set i z):=by
 obtain⟨cur,h1,h2⟩:=h
 have hc:i<cur.length:=by
  have:=h2 i X[i] (by simp[hi]);exact(qL.1 this).1
 refine⟨cur.set i (.int .i32 z),?_,fun j y hj=> ?_⟩
 ·have:=heap_setCell_same w g i _ _ (.int .i32 z) h1;unfold K.Row;rw[this];simp
 ·rw[List.getElem?_set] at hj ⊢
  by_cases he:i=j
  ·subst he;rw[if_pos rfl,if_pos hi] at hj;rw[if_pos rfl,if_pos hc];cases hj;rfl
  ·rw[if_neg he] at hj ⊢;exact h2 j y hj
theorem Holds.rd {w:World}{g:Nat}{X:List Int}(h:Holds w g X)(cap:Nat):L.Rd w (.slice (some ⟨g,0,none⟩) X.length cap) .i32 X :=
 ⟨_,_,rfl,fun e=>by (cases e),fun _=>⟨g,0,rfl,fun j z hj=>by rw[Nat.zero_add];exact h.cell hj⟩⟩
def upto (A S B:List Int) (k:Nat):List Int:=A++((cap1 S).take k++S.drop k)++B
theorem zdt (S:List Int):(cap1 S).length=S.length:=by cases S <;> simp[cap1]
theorem zu7 {S:List Int}{k:Nat}{z:Int}(h:S[k]?=some z):(cap1 S)[k]?=some (if k=0 then Cn.up z else Cn.low z):=by
 cases S with
 | nil=>cases h
 | cons r S =>
  cases k with
  | zero=>simp at h;subst h;rfl
  | succ k=>simp only[cap1,List.getElem?_cons_succ,List.getElem?_map] at h ⊢;rw[h];simp
theorem zq6 (A S B:List Int)(k:Nat)(hk:k<=S.length):(upto A S B k).length=A.length+S.length+B.length:=by
 unfold upto;simp[zdt];omega
theorem upto_at {A S B:List Int}{k:Nat}{z:Int}(h:S[k]?=some z):(upto A S B k)[A.length+k]?=some z:=by
 have hk:=(qL.1 h).1;have hz:=(qL.1 h).2;unfold upto;rw[List.append_assoc,List.getElem?_append_right (by omega),List.append_assoc,List.getElem?_append_right (by rw[List.length_take];omega)];have e:A.length+k - A.length - ((cap1 S).take k).length=0:=by simp[zdt];omega
 rw[e,List.drop_eq_getElem_cons hk,hz];rfl
theorem zq5 {A S B:List Int}{k:Nat}{z:Int}(h:S[k]?=some z):(upto A S B k).set (A.length+k) (if k=0 then Cn.up z else Cn.low z)=upto A S B (k+1):=by
 have hk:=(qL.1 h).1;have hz:=(qL.1 h).2;unfold upto;rw[List.append_assoc,List.set_append,if_neg (by omega),List.append_assoc,List.set_append,if_neg (by rw[List.length_take];omega)];have e:A.length+k - A.length - ((cap1 S).take k).length=0:=by simp[zdt];omega
 rw[e,List.drop_eq_getElem_cons hk,List.take_add_one,zu7 h,List.cons_append,List.set_cons_zero];simp
end Wd
theorem zfm (w:World)(g:Nat)(A S B:List Int)(hA:Wd.Holds w g (A++S++B))(hS:∀r∈S,0<=r/\r<=1114111)(hl:A.length+S.length+B.length<=4000)(cap:Nat) :
  Calls Tryz.prog 48 #[.slice (some ⟨g,A.length,none⟩) S.length cap] w fun e w'=>e= .returned (.tuple #[])/\Wd.Holds w' g (A++Wd.cap1 S++B)/\Below g w w':=by
 have HU:Hid (∀X r,0<=r->r<=1114111->Calls Tryz.prog 94 #[.int .i32 r] X fun e w'=>e= .returned (.int .i32 (Cn.up r))/\w'=X):=fun X r h1 h2=>zhd r (by omega) (by omega) X
 have HL:Hid (∀X r,0<=r->r<=1114111->Calls Tryz.prog 50 #[.int .i32 r] X fun e w'=>e= .returned (.int .i32 (Cn.low r))/\w'=X):=fun X r h1 h2=>zc4 r (by omega) (by omega) X
 have H0:Hid (Wd.Holds w g (Wd.upto A S B 0)):=by
  have e:Wd.upto A S B 0=A++S++B:=by unfold Wd.upto;simp
  show Wd.Holds _ _ _;rw[e];exact hA
 have HS:Hid (∀r∈S,0<=r/\r<=1114111):=hS;have HLn:Hid (A.length+S.length+B.length<=4000):=hl;obtain⟨n,hn⟩:∃n,n=S.length:=⟨_,rfl⟩;obtain⟨a,ha⟩:∃a,a=A.length:=⟨_,rfl⟩;have hnl:n<=4000:=by omega
 have hal:a<=4000:=by omega
 rw[<- hn,<- ha];have HN:Hid (n=S.length/\a=A.length):=⟨hn,ha⟩;clear hA hS hl hn ha
 go_enter Tryz.func48,Tryz.ntmps48
 go_wp2
 go_loopw [6] (fun i wr=>∃k:Nat,k<=n/\i= .int .i64 k/\Hid (Wd.Holds wr g (Wd.upto A S B k))/\Hid (Below g w wr)) (fun i _=>n - (intOf i).toNat)
 case atStart=>exact⟨0,Nat.zero_le _,rfl,H0,qR _⟩
 case round =>
  obtain⟨k,hk,rfl,HH,HB⟩:=hrel
  by_cases hlt:k<n
  ·obtain⟨z,hz⟩:∃z,S[k]?=some z:=⟨S[k]'(by rw[<- HN.out.1];exact hlt),by simp⟩;have hb:=HS.out z (List.mem_of_getElem? hz);have c0:wr.cell? ⟨g,a+k,none⟩=some (.int .i32 z):=HH.out.cell (by rw[HN.out.2];exact Wd.upto_at hz);have fz:wr.frozen? ⟨g,a+k,none⟩=false:=HH.out.free _;have hlt2:A.length+k<(Wd.upto A S B k).length:=by rw[Wd.zq6 _ _ _ _ (by rw[<- HN.out.1];exact hk)];have:=HN.out.1;omega
   have HX:Hid (∀c,c=(if k=0 then Cn.up z else Cn.low z)->Wd.Holds (wr.setCell ⟨g,a+k,none⟩ (.int .i32 c)) g (Wd.upto A S B (k+1))/\Below g w (wr.setCell ⟨g,a+k,none⟩ (.int .i32 c))):=fun c hc=>by
    subst hc;have h:=HH.out.set hlt2 (if k=0 then Cn.up z else Cn.low z);rw[Wd.zq5 hz] at h;rw[HN.out.2];exact⟨h,HB.out.setCell (p:=⟨g,A.length+k,none⟩) qN _⟩
   have hU:=HU.out wr z hb.1 hb.2;have hL:=HL.out wr z hb.1 hb.2;clear hz hb hlt2
   by_cases h0:k=0
   ·have hX:=HX.out (Cn.up z) (by rw[if_pos h0]);have HX2:Hid (Wd.Holds (wr.setCell ⟨g,a+k,none⟩ (.int .i32 (Cn.up z))) g (Wd.upto A S B (k+1))/\Below g w (wr.setCell ⟨g,a+k,none⟩ (.int .i32 (Cn.up z)))):=hX;clear hX HX hL;generalize Cn.up z=c at hU HX2;subst h0;rw[Nat.add_zero] at c0 fz HX2
    go_wp2_with fail
    refine hU.mono ?_;rintro e w1 ⟨rfl,rfl⟩;go_wp2
    go_roundw
    case rel=>exact⟨0+1,by omega,by go_num,HX2.out.1,HX2.out.2⟩
    case measure=>simp[intOf];omega
   ·have hX:=HX.out (Cn.low z) (by rw[if_neg h0]);have HX2:Hid (Wd.Holds (wr.setCell ⟨g,a+k,none⟩ (.int .i32 (Cn.low z))) g (Wd.upto A S B (k+1))/\Below g w (wr.setCell ⟨g,a+k,none⟩ (.int .i32 (Cn.low z)))):=hX;clear hX HX hU;generalize Cn.low z=c at hL HX2
    go_wp2_with fail
    refine hL.mono ?_;rintro e w1 ⟨rfl,rfl⟩;go_wp2
    go_roundw
    case rel=>exact⟨k+1,by omega,by go_num,HX2.out.1,HX2.out.2⟩
    case measure=>simp[intOf];omega
  ·have hkn:k=n:=by omega
   subst hkn
   have HE:Hid (Wd.Holds wr g (A++Wd.cap1 S++B)):=by
    have h:=HH.out;unfold Wd.upto at h;rw[HN.out.1,List.drop_length,List.append_nil,<- Wd.zdt,List.take_length] at h;exact h
   go_wp2;refine bodyPost_end (results_none rfl _ _ _) rfl ?_
   exact⟨rfl,HE.out,HB.out⟩
namespace Wd
theorem zoe (xo:Option Addr)(N xc i j:Nat)(h:i<=j)(hj:j<=xc)(w':World):(Instr.slice 33 (.slice xo N xc) (some (.int .i64 (i:Int))) (some (.int .i64 (j:Int))) none).run Tryz.prog w'= .ok (.slice (if xc=i then xo else Option.map (fun x=>x.add i) xo) (j - i) (xc - i)) w':=by
 have a1:(i:Int)<=j:=by omega
 have a2:(j:Int)<=xc:=by omega
 have a0:(0:Int)<=i:=by omega
 have a3:(0:Int)<=j:=by omega
 go_simp
end Wd
theorem zit (w:World)(v:Value)(t:List Int)(R:L.Rd w v .i32 t)(hl:t.length<=4000) :
  Calls Tryz.prog 44 #[v] w fun e w'=>∃v',e= .returned v'/\w'.ownsRow w.heap.size 21 1 v' t.length (K.ints t)/\Below w.heap.size w w':=by
 obtain⟨ao,cap,rfl,hn,hc⟩:=R;obtain⟨i0,hi,hz0,hz1,hz2⟩:=info_parts Tryz.infoI32;have q22:∀(w:World) (a:Option Addr) (n c n' c':Nat),(binOp .eql 33 (.slice a n c) (.slice none n' c')).run Tryz.prog w= .ok (.bool a.isNone) w:=fun w a n c n' c'=>Lib.run_eql_slice_nil w _ _ a n c n' c' Tryz.underlying33
 cases ao with
 | none =>
  have h0:t= []:=by
   cases t with
   | nil=>rfl
   | cons z zs=>obtain⟨b,off,h,_⟩:=hc (by simp);simp at h
  subst h0;have:=hn rfl;subst this;clear hc
  go_enter Tryz.func44,Tryz.ntmps44
  go_wp2;go_ret
  exact⟨_,rfl,World.ownsRow_nil _ _ _ _,qR _⟩
 | some ad =>
  have HC:Hid (∀j u,(K.ints t)[j]?=some u->w.cell? (ad.add j)=some u):=by
   intro j u hj;obtain⟨z,hz,rfl⟩:=K.zk1 hj;obtain⟨b,off,hao,hcell⟩:=hc (by intro h;subst h;simp at hz);simp at hao;subst hao;rw[L.addr_add];exact hcell j z hz
  clear hc;have OW:Hid ((w.alloc (.cells #[] 21)).ownsRow w.heap.size 21 1 (.slice (some ⟨w.heap.size,0,none⟩) 0 0) 0 []):=World.ownsRow_made w #[] 0 qN (Nat.zero_le _) (by simp)
  go_enter Tryz.func44,Tryz.ntmps44
  go_wp2_with (at_builtin;go_must (refine wpList_append_own _ rfl _ _ 33 rfl w.heap.size 21 i0 (.int .i32 0) 1 4 Tryz.underlying33 hi hz0 hz1 hz2 rfl (by decide) _ _ _ rfl OW.out ad t.length cap (K.ints t) rfl (by rw[K.zbu];omega) (fun j u hj=>Lib.cell?_alloc_some _ (HC.out j u hj)) (K.zg0 t) (by unfold maxLen;omega) (by omega) (by simp) ?_;intro v' w3 hown' hgrow3 hnil3))
  go_ret;refine⟨v',rfl,by simpa using hown',?_⟩
  exact((qR w).alloc qN _).grown hgrow3 (by simp) (fun k hk=>(OW.out.lt k hk).1)
namespace Wd
theorem al (X:World)(o:Obj):Below X.heap.size X (X.alloc o):=(qR X).alloc qN o
theorem zo4 {w:World}{F:Nat}{e:TypeId}{k:Nat}{v:Value}{n:Nat}{xs:List Value}(h:w.ownsRow F e k v n xs){i:Nat}{u:Value}(hi:xs[i]?=some u):∃g cap,v= .slice (some ⟨g,0,none⟩) n cap/\F<=g/\n<=cap/\w.cell? ⟨g,i,none⟩=some u:=by
 have hil:=(qL.1 hi).1;rcases h.2 with ⟨_,h0⟩|⟨g,cap,cur,hv,hg,hrow,hc,_,hs,ht⟩
 ·have:=h.1;rw[h0] at this;omega
 ·refine⟨g,cap,hv,hg,hc,?_⟩;rw[<- ht,List.getElem?_take] at hi;split at hi
  ·simp[World.cell?,hrow];simpa using hi
  ·cases hi
theorem zvb {w:World}{F:Nat}{wo:Option Addr}{n wc:Nat}{l:List Wo}(h:w.ownsRow F 111 3 (.slice wo n wc) l.length (wcells l)){j:Nat}{x:Wo}(hj:l[j]?=some x):∃q,wo=some ⟨q,0,none⟩/\q<w.heap.size/\∀X,Below w.heap.size w X->X.cell? ⟨q,j*3,none⟩=some (.int .i64 (x.1:Nat))/\X.cell? ⟨q,j*3+1,none⟩=some (.int .i64 (x.2.1:Nat))/\X.cell? ⟨q,j*3+2,none⟩=some (.bool x.2.2):=by
 obtain⟨h0,h1,h2⟩:=zn0 hj;obtain⟨q,cap,hv,_,_,c0⟩:=zo4 h h0;obtain⟨q1,cap1,hv1,_,_,c1⟩:=zo4 h h1;obtain⟨q2,cap2,hv2,_,_,c2⟩:=zo4 h h2;cases hv;cases hv1;cases hv2;have hq:=L.block_lt c0;exact⟨q,rfl,hq,fun X hX=>⟨(hX.cell (p:=⟨q,_,none⟩) hq).trans c0,(hX.cell (p:=⟨q,_,none⟩) hq).trans c1,(hX.cell (p:=⟨q,_,none⟩) hq).trans c2⟩⟩
theorem zp0 {w:World}{F:Nat}{oo:Option Addr}{oc:Nat}{t:List Int}(h:w.ownsRow F 21 1 (.slice oo t.length oc) t.length (K.ints t))(hne:t≠ []):∃g,oo=some ⟨g,0,none⟩/\F<=g/\Holds w g t/\t.length<=oc:=by
 rcases h.2 with ⟨_,h0⟩|⟨g,cap,cur,hv,hg,hrow,hc,_,hs,ht⟩
 ·exact absurd (List.eq_nil_of_length_eq_zero h0) hne
 ·cases hv;refine⟨g,rfl,hg,⟨cur.toList,by unfold K.Row;rw[hrow],fun j z hj=> ?_⟩,hc⟩;have h1:(K.ints t)[j]?=some (.int .i32 z):=by unfold K.ints;rw[List.getElem?_map,hj];rfl
  rw[<- ht,List.getElem?_take] at h1;split at h1
  ·exact h1
  ·cases h1
theorem zkm {A:List S.Sp}{t:List Int}(h:splitE A t=0):Cn.Tx t:=by
 unfold splitE at h;split at h
 ·exact Cn.ziw.1 h
 ·rename_i hh;exact absurd h hh
end Wd
theorem zn6 (w:World)(v:Value)(A:List S.Sp)(R:S.Rd w v A)(hf:S.Fit A)(xo:Option Addr)(xc:Nat)(t:List Int)(Rt:L.Rd w (.slice xo t.length xc) .i32 t)(ht:t.length<=140737488355328) :
  Calls Tryz.prog 19 #[v,.slice xo t.length xc] w fun e w'=>∃v',e= .returned (.tuple #[v',.int .i64 (Wd.splitE A t)])/\L.Rd w' v' .i32 (Wd.titleF A t)/\Below w.heap.size w w':=by
 have H1:=zlv w v A R hf xo xc t Rt ht;obtain⟨e1,HE1⟩:∃z,Hid (Wd.splitE A t=z):=⟨_,rfl⟩;obtain⟨l,HLw⟩:∃z,Hid (Wd.splitF A t=z):=⟨_,rfl⟩;rw[HE1.out,HLw.out] at H1;have HIn:Hid (L.Rd w (.slice xo t.length xc) .i32 t):=Rt;obtain⟨va,vc,rfl⟩:=R.len;clear R Rt
 go_enter Tryz.func19,Tryz.ntmps19
 go_wp2_with fail
 refine H1.mono ?_;rintro e w1 ⟨v1,rfl,own1,b1⟩;have HB1:Hid (Below w.heap.size w w1):=b1;obtain⟨wo,wc,rfl,_⟩:=Al.lies own1;have HW1:Hid (w1.ownsRow w.heap.size 111 3 (.slice wo l.length wc) l.length (Wd.wcells l)):=own1;clear H1 b1 own1
 by_cases q1:e1=0
 ·subst q1;have h4:t.length<=4000:=(Wd.zkm HE1.out).1;have HTx:Hid (∀r∈t,0<=r/\r<=1114111):=(Wd.zkm HE1.out).range
  have HLt:Hid (l=Wd.words (S.memb A) t/\Wd.titleF A t=Wd.title (S.memb A) false t):=by
   refine⟨?_,?_⟩
   ·rw[<- HLw.out];unfold Wd.splitF;rw[if_pos HE1.out]
   ·unfold Wd.titleF;rw[if_pos HE1.out]
  have hC:=zit w1 (.slice xo t.length xc) t (HIn.out.below HB1.out qN) h4
  go_wp2_with fail
  refine hC.mono ?_;clear hC;rintro e w2 ⟨v2,rfl,own2,b2⟩;have HB2:Hid (Below w.heap.size w w2/\Below w1.heap.size w1 w2):=⟨HB1.out.trans (b2.mono HB1.out.size),b2⟩;obtain⟨oo,oc,rfl,_⟩:=Al.lies own2;have HW2:Hid (t≠ []->∃g,oo=some ⟨g,0,none⟩/\w1.heap.size<=g/\Wd.Holds w2 g t/\t.length<=oc):=fun hne=>Wd.zp0 own2 hne
  have HRd2:Hid (L.Rd w2 (.slice oo t.length oc) .i32 t):=L.Rd.za1 own2;clear own2 b2;obtain⟨n,hn⟩:∃n,n=l.length:=⟨_,rfl⟩;rw[<- hn];have hnl:n<=4000:=by rw[hn,HLt.out.1];exact Nat.le_trans (Wd.zks (S.memb A) t 0) h4
  have HN:Hid (n=l.length):=hn;clear hn;go_wp2
  go_loopw [24] (fun i wr=>∃(j k:Nat) (pre:List Int),j<=n/\i= .int .i64 j/\Hid (l.drop j=Wd.rest (S.memb A) t k/\k<=t.length/\pre=(l.take j).flatMap (Wd.capW t)/\pre.length=k)/\Hid (Below w.heap.size w wr/\Below w1.heap.size w1 wr)/\Hid (∀g,oo=some ⟨g,0,none⟩->t≠ []->Wd.Holds wr g (pre++t.drop k))) (fun i _=>n - (intOf i).toNat)
  case atStart=>exact⟨0,0,[],Nat.zero_le _,rfl,⟨by rw[List.drop_zero];exact HLt.out.1,Nat.zero_le _,rfl,rfl⟩,HB2.out,fun g hg hne=>by
   obtain⟨g',h1,_,h3,_⟩:=HW2.out hne;rw[h1] at hg;cases hg
   simpa using h3⟩
  case round =>
   obtain⟨j,k,pre,hj,rfl,HI,HB,HH⟩:=hrel
   by_cases hlt:j<n
   ·obtain⟨x,hx⟩:∃x,l[j]?=some x:=⟨l[j]'(by rw[<- HN.out];exact hlt),by simp⟩
    have hdr:Wd.rest (S.memb A) t k=x::l.drop (j+1):=by
     rw[<- HI.out.1,List.drop_eq_getElem_cons (qL.1 hx).1,(qL.1 hx).2]
    obtain⟨hk1,hk2,hk3,hk4,hk5⟩:=Wd.zhj hdr;obtain⟨hs1,hs2⟩:=Wd.zri hdr;have hne:t≠ []:=by intro h;subst h;simp at hk1
    obtain⟨g,rfl,hg1,_,hoc⟩:=HW2.out hne;have hH:=HH.out g rfl hne;have hgl:g<=wr.heap.size:=Nat.le_of_lt hH.lt;obtain⟨q,rfl,hq,hcl⟩:=Wd.zvb HW1.out hx;obtain⟨c0,c1,c2⟩:=hcl wr HB.out.2;obtain⟨a,b,bb⟩:=x;simp only at hk2 hk3 hk4 hk5 hs1 hs2 c0 c1 c2;subst hk2;have HP:Hid (l.take (j+1)=l.take j++ [(a,b,bb)]):=by show _=_;rw[List.take_add_one,hx];rfl
    cases bb with
    | false =>
     have HI2:Hid (l.drop (j+1)=Wd.rest (S.memb A) t b/\b<=t.length/\pre++Wd.seg t (a,b,false)=(l.take (j+1)).flatMap (Wd.capW t)/\(pre++Wd.seg t (a,b,false)).length=b):=by
      refine⟨hk5,hk4,?_,?_⟩
      ·rw[HP.out,List.flatMap_append,<- HI.out.2.2.1];simp[Wd.capW,Wd.cap]
      ·rw[List.length_append,HI.out.2.2.2,hs2];omega
     have HH2:Hid (∀g',(some ⟨g,0,none⟩:Option Addr)=some ⟨g',0,none⟩->t≠ []->Wd.Holds wr g' ((pre++Wd.seg t (a,b,false))++t.drop b)):=fun g' hg' _=>by
      cases hg';rw[List.append_assoc,<- hs1];exact hH
     clear hdr hs1 hs2 hk5 hcl HH HI hx;go_wp2
     go_roundw
     case rel=>exact⟨j+1,b,_,by omega,by go_num,HI2,⟨HB.out.1.alloc HB.out.1.size _,HB.out.2.alloc HB.out.2.size _⟩,fun g' hg' hn=>(HH2.out g' hg' hn).below (Wd.al _ _)⟩
     case measure=>simp[intOf];omega
    | true =>
     have hsl:∀w',(Instr.slice 33 (.slice (some ⟨g,0,none⟩) t.length oc) (some (.int .i64 (a:Int))) (some (.int .i64 (b:Int))) none).run Tryz.prog w'= .ok (.slice (some ⟨g,a,none⟩) (b - a) (oc - a)) w':=fun w'=>by
      have h:=Wd.zoe (some ⟨g,0,none⟩) t.length oc a b (by omega) (by omega) w';rw[if_neg (by omega),Option.map_some,L.addr_add,Nat.zero_add] at h;exact h
     have hCap:∀o,Calls Tryz.prog 48 #[.slice (some ⟨g,a,none⟩) (b - a) (oc - a)] (wr.alloc o) fun e w'=>e= .returned (.tuple #[])/\Wd.Holds w' g (pre++Wd.cap1 (Wd.seg t (a,b,true))++t.drop b)/\Below g (wr.alloc o) w':=fun o=>by
      have h:=zfm (wr.alloc o) g pre (Wd.seg t (a,b,true)) (t.drop b) (by rw[List.append_assoc,<- hs1];exact hH.below (Wd.al _ _)) (fun r hr=>HTx.out r (List.mem_of_mem_drop (List.mem_of_mem_take hr))) (by rw[HI.out.2.2.2,hs2,List.length_drop];omega) (oc - a);rw[HI.out.2.2.2,hs2] at h;exact h
     have HI2:Hid (l.drop (j+1)=Wd.rest (S.memb A) t b/\b<=t.length/\pre++Wd.cap1 (Wd.seg t (a,b,true))=(l.take (j+1)).flatMap (Wd.capW t)/\(pre++Wd.cap1 (Wd.seg t (a,b,true))).length=b):=by
      refine⟨hk5,hk4,?_,?_⟩
      ·rw[HP.out,List.flatMap_append,<- HI.out.2.2.1];simp[Wd.capW,Wd.cap]
      ·rw[List.length_append,HI.out.2.2.2,Wd.zdt,hs2];omega
     clear hdr hs1 hs2 hk5 hcl HH HI hx hH
     go_wp2_with fail
     refine(hCap _).mono ?_;clear hCap;rintro e w3 ⟨rfl,hH3,b3'⟩;have b3:Below g wr w3:=((qR wr).alloc hgl _).trans b3';clear b3';have HB3:Hid (Below w.heap.size w w3/\Below w1.heap.size w1 w3):=⟨HB.out.1.trans (b3.mono (by have:=HB1.out.size;omega)),HB.out.2.trans (b3.mono hg1)⟩;have HH3:Hid (∀g',(some ⟨g,0,none⟩:Option Addr)=some ⟨g',0,none⟩->t≠ []->Wd.Holds w3 g' ((pre++Wd.cap1 (Wd.seg t (a,b,true)))++t.drop b)):=fun g' hg' _=>by cases hg';exact hH3
     clear b3 hH3;go_wp2
     go_roundw
     case rel=>exact⟨j+1,b,_,by omega,by go_num,HI2,HB3,HH3⟩
     case measure=>simp[intOf];omega
   ·have hjn:j=n:=by omega
    subst hjn
    have hfin:pre++t.drop k=Wd.titleF A t/\t.length<=k:=by
     have h:=HI.out;rw[HN.out,List.drop_length,List.take_length] at h;have h2:=Wd.zrn h.1.symm;refine⟨?_,h2⟩;rw[List.drop_eq_nil_of_le h2,List.append_nil,h.2.2.1,HLt.out.1,Wd.ziv,HLt.out.2]
    have HF:Hid (L.Rd wr (.slice oo t.length oc) .i32 (Wd.titleF A t)):=by
     have hlen:(Wd.titleF A t).length=t.length:=by rw[HLt.out.2,Wd.zde]
     by_cases hne:t= []
     ·obtain⟨ao',cap',e',hz,_⟩:=HRd2.out;cases e';have h0:Wd.titleF A t= []:=List.eq_nil_of_length_eq_zero (by rw[hlen,hne];rfl);rw[h0,hne];exact⟨oo,oc,rfl,hz,fun h=>absurd rfl h⟩
     ·obtain⟨g,rfl,_,_,_⟩:=HW2.out hne;have h:=(HH.out g rfl hne).rd oc;rw[hfin.1,hlen] at h;exact h
    clear hfin HH HI;go_wp2;refine bodyPost_ret (v:= .tuple #[.slice oo t.length oc,.int .i64 0]) (by simp[results,Tryz.results19,go_sem, *]) rfl ?_;exact⟨_,by rw[HE1.out],HF.out,HB.out.1⟩
 ·have HT:Hid (Wd.titleF A t= []):=by show _=_;unfold Wd.titleF;rw[if_neg (by rw[HE1.out];exact q1)]
  go_wp2;refine bodyPost_ret (v:= .tuple #[.slice none 0 0,.int .i64 e1]) (by simp[results,Tryz.results19,go_sem, *]) rfl ?_
  exact⟨_,by rw[HE1.out],by rw[HT.out];exact⟨none,0,rfl,fun _=>rfl,fun h=>absurd rfl h⟩,HB1.out⟩
end Go.Proofs.YtamfgmaipajodaaGreatDoor
namespace Go.Proofs.YtamfgmaipajodaaGreatDoor
open Go.RowKit Go.Sort
namespace Zi
abbrev en:Int->Value:=Value.int .i64
def At (w:World) (blk off n0:Nat) (d:Array Int) (wr:World):Prop:=d.size=n0/\∃n,wr=putRow en (Sort.ahead w n) blk off d
theorem At.start {w:World}{blk off:Nat}{d:Array Int}(h:Holds en w blk off d):At w blk off d.size d w:=⟨rfl,0,(putRow_self en w blk off d h).symm⟩
theorem At.cell {w wr:World}{blk off n0:Nat}{d0 d:Array Int}(h:At w blk off n0 d wr)(h0:Holds en w blk off d0)(hn:d0.size=n0){j:Nat}(hj:j<n0):wr.cell? ⟨blk,off+j,none⟩=some (.int .i64 d[j]!):=by
 obtain⟨hs,n,rfl⟩:=h;exact cell?_putRow en _ blk off d0 d (holds_ahead en w n blk off d0 h0) (by omega) j (by omega)
theorem At.free {w wr:World}{blk off n0:Nat}{d0 d:Array Int}(h:At w blk off n0 d wr)(h0:Holds en w blk off d0)(hn:d0.size=n0){j:Nat}(hj:j<n0):wr.frozen? ⟨blk,off+j,none⟩=false:=by
 obtain⟨hs,n,rfl⟩:=h;rw[frozen?_putRow];exact(holds_ahead en w n blk off d0 h0 j (by omega)).2
theorem At.drew {w wr:World}{blk off n0:Nat}{d:Array Int}(h:At w blk off n0 d wr)(q:Nat):At w blk off n0 d (wr.drewN q):=by
 obtain⟨hs,n,rfl⟩:=h;exact⟨hs,n+q,putRow_drewN en w n q blk off d⟩
theorem At.swap {w wr:World}{blk off n0:Nat}{d:Array Int}(h:At w blk off n0 d wr){i j:Nat}(hi:i<n0)(hj:j<n0)(q:Nat):At w blk off n0 (swp d i j) (((wr.drewN q).setCell ⟨blk,off+i,none⟩ (.int .i64 d[j]!)).setCell ⟨blk,off+j,none⟩ (.int .i64 d[i]!)):=by
 obtain⟨hs,n,rfl⟩:=h;exact⟨by rw[size_swp];exact hs,n+q,swap_worldA en w n q blk off d i j (by omega) (by omega)⟩
theorem At.holds {w wr:World}{blk off n0:Nat}{d0 d:Array Int}(h:At w blk off n0 d wr)(h0:Holds en w blk off d0)(hn:d0.size=n0):Holds en wr blk off d:=by
 obtain⟨hs,n,rfl⟩:=h;exact holds_putRow en _ blk off d0 d (holds_ahead en w n blk off d0 h0) (by omega)
theorem At.trans {w w1 w2:World}{blk off n0:Nat}{d e:Array Int}(h:At w blk off n0 d w1)(h':At w1 blk off n0 e w2):At w blk off n0 e w2:=by
 obtain⟨hs,n,rfl⟩:=h;obtain⟨hs',m,rfl⟩:=h';exact⟨hs',n+m,putRow_ahead_putRow en w n m blk off d e (by omega)⟩
theorem At.size {w wr:World}{blk off n0:Nat}{d:Array Int}(h:At w blk off n0 d wr):d.size=n0:=h.1
end Zi
end Go.Proofs.YtamfgmaipajodaaGreatDoor
namespace Go.Proofs.YtamfgmaipajodaaGreatDoor.Nm
open Go.Sort
theorem zgl {B:List Int}(h:Srt B){i j:Nat}(hij:i<=j)(hj:j<B.length):cls (B[i]'(by omega))<=cls B[j]:=by
 by_cases e:i=j
 ·subst e;exact Int.le_refl _
 ·exact List.pairwise_iff_getElem.1 h i j (by omega) hj (by omega)
theorem ziz {B:List Int}{k:Nat}{c:Int}(h:Srt B)(hk:k<=B.length)(h1:∀(h:0<k),cls (B[k - 1]'(by omega))<c):∀u∈B.take k,cls u<c:=by
 intro u hu;obtain⟨i,hi,rfl⟩:=List.getElem_of_mem hu;rw[List.length_take] at hi;rw[List.getElem_take];exact Int.lt_of_le_of_lt (zgl h (j:=k - 1) (by omega) (by omega)) (h1 (by omega))
theorem zcv {B:List Int}{k:Nat}{c:Int}(h:Srt B)(hk:k<=B.length)(h1:∀(h:0<k),cls (B[k - 1]'(by omega))<=c):∀u∈B.take k,cls u<=c:=by
 intro u hu;obtain⟨i,hi,rfl⟩:=List.getElem_of_mem hu;rw[List.length_take] at hi;rw[List.getElem_take];exact Int.le_trans (zgl h (j:=k - 1) (by omega) (by omega)) (h1 (by omega))
theorem zcw {B:List Int}{k:Nat}{c:Int}(h:Srt B)(h1:∀(h:k<B.length),c<=cls B[k]):∀u∈B.drop k,c<=cls u:=by
 intro u hu;obtain⟨i,hi,rfl⟩:=List.getElem_of_mem hu;rw[List.length_drop] at hi;rw[List.getElem_drop];exact Int.le_trans (h1 (by omega)) (zgl h (by omega) (by omega))
theorem zi0 {B:List Int}{k:Nat}{c:Int}(h:Srt B)(h1:∀(h:k<B.length),c<cls B[k]):∀u∈B.drop k,c<cls u:=by
 intro u hu;obtain⟨i,hi,rfl⟩:=List.getElem_of_mem hu;rw[List.length_drop] at hi;rw[List.getElem_drop];exact Int.lt_of_lt_of_le (h1 (by omega)) (zgl h (by omega) (by omega))
def up (P D:List Int) (x:Int) (R:List Int) (t:Nat):List Int:=P++(D.take t++x::(D.drop t++R))
theorem zn1 (P D:List Int)(x:Int)(R:List Int):up P D x R 0=P++x::(D++R):=by simp[up]
theorem zs7 (P D:List Int)(x:Int)(R:List Int):up P D x R D.length=P++(D++x::R):=by simp[up]
theorem zs6 (P D:List Int)(x:Int)(R:List Int){t:Nat}(h:t<=D.length):(up P D x R t).length=P.length+D.length+1+R.length:=by unfold up;simp;omega
theorem ztn (P D:List Int)(x:Int)(R:List Int){t k:Nat}(h:t<D.length)(hk:k=P.length+t):swp (up P D x R t).toArray k (k+1)=(up P D x R (t+1)).toArray:=by
 unfold up;rw[List.drop_eq_getElem_cons h,List.take_add_one,List.getElem?_eq_getElem h];have e:=ziy (P++D.take t) [] (D.drop (t+1)++R) x D[t] (i:=k) (j:=k+1) (by simp;omega) (by simp;omega);simp only[List.append_assoc,List.cons_append,List.nil_append,Option.toList_some] at e ⊢;exact e
theorem zto (P D:List Int)(x:Int)(R:List Int){t k:Nat}(h:t<D.length)(hk:k=P.length+t+1):swp (up P D x R (t+1)).toArray k (k - 1)=(up P D x R t).toArray:=by
 unfold up;rw[List.drop_eq_getElem_cons h,List.take_add_one,List.getElem?_eq_getElem h];have e:=zkk (P++D.take t) [] (D.drop (t+1)++R) D[t] x (i:=k - 1) (j:=k) (by simp;omega) (by simp;omega);simp only[List.append_assoc,List.cons_append,List.nil_append,Option.toList_some] at e ⊢;exact e
theorem ze4 (P B Q:List Int){t:Nat}(h1:P.length<=t)(h2:t<P.length+B.length):(P++B++Q).toArray[t]! = B[t - P.length]'(by omega):=by
 rw[zth (by simp;omega)];rw[List.getElem_append_left (by simp;omega),List.getElem_append_right h1]
theorem zuf {B:List Int}{x:Int}{k:Nat}(h:Srt B)(h1:∀u∈B.take k,cls u<cls x)(h2:∀u∈B.drop k,cls x<=cls u):Srt (B.take k++x::B.drop k)/\Eqv (x::B) (B.take k++x::B.drop k):=by
 rw[<- List.take_append_drop k B] at h;obtain⟨a,b,c⟩:=h.parts;refine⟨Srt.app a (List.pairwise_cons.2 ⟨h2,b⟩) fun u hu v hv=> ?_,?_⟩
 ·rcases List.mem_cons.1 hv with rfl | hv
  ·have:=h1 u hu;omega
  ·exact c u hu v hv
 ·have e:x::B= [x]++B.take k++B.drop k:=by simp
  have e2:B.take k++x::B.drop k=B.take k++ [x]++B.drop k:=by simp
  rw[e,e2];exact(Eqv.rot (U:= [x]) fun u hu y hy=>by simp at hu;subst hu;exact h1 y hy).app (Eqv.refl _)
theorem four {A B:List Int}{s e:Nat}(hA:Srt A)(hB:Srt B)(h1:∀u∈A.take s,∀v∈B.drop e,cls u<=cls v)(h2:∀u∈A.drop s,∀v∈B.take e,cls v<cls u){S1 S2:List Int}(k1:Srt S1)(k2:Srt S2)(q1:Eqv (A.take s++B.take e) S1)(q2:Eqv (A.drop s++B.drop e) S2):Srt (S1++S2)/\Eqv (A++B) (S1++S2):=by
 rw[<- List.take_append_drop s A] at hA;rw[<- List.take_append_drop e B] at hB;obtain⟨_,_,ca⟩:=hA.parts;obtain⟨_,_,cb⟩:=hB.parts;refine⟨Srt.app k1 k2 fun u hu v hv=> ?_,?_⟩
 ·have hu':=q1.symm.mem hu;have hv':=q2.symm.mem hv;rcases List.mem_append.1 hu' with a | a <;> rcases List.mem_append.1 hv' with b | b
  ·exact ca u a v b
  ·exact h1 u a v b
  ·have:=h2 v b u a;omega
  ·exact cb u a v b
 ·have e0:A++B=A.take s++((A.drop s++B.take e)++B.drop e):=by
   rw[List.append_assoc,List.take_append_drop e B,<- List.append_assoc,List.take_append_drop s A]
  rw[e0];have h3:Eqv (A.take s++((A.drop s++B.take e)++B.drop e)) (A.take s++((B.take e++A.drop s)++B.drop e)):=(Eqv.refl _).app ((Eqv.rot h2).app (Eqv.refl _));refine h3.trans ?_;have e1:A.take s++((B.take e++A.drop s)++B.drop e)=(A.take s++B.take e)++(A.drop s++B.drop e):=by simp
  rw[e1];exact q1.app q2
end Go.Proofs.YtamfgmaipajodaaGreatDoor.Nm
