/-
 The first rule that matches is the first one of those that may begin there.
-/
import Derived.Test.YtamfgmaipajodaaGreatDoorXLib
import Derived.Test.YtamfgmaipajodaaGreatDoorXFirst1
import Derived.Test.YtamfgmaipajodaaGreatDoorRows
import Derived.Sort.WalkA
import Derived.Sort.WalkB12
import Derived.Test.YtamfgmaipajodaaGreatDoorSLib
import Derived.BigGuard
import Derived.BigCall
import Derived.CellFam
import Derived.Deep.Draws
import Derived.Deep.QuietTactic
import Derived.BigQuiet
import Derived.BigRegion
set_option maxHeartbeats 0
set_option maxRecDepth 20000
set_option linter.unusedSimpArgs false
set_option linter.unusedVariables false
namespace Go.Proofs.YtamfgmaipajodaaGreatDoor
open Go.RowKit Go.Shelf
namespace Gm
theorem zjl {r:K.Rule}{t:List Int}{k:Int}(hE:K.ruleE r=0)(h:K.matchB r t k=true):S.memb (K.headS r) (t.getD k.toNat 0)=true:=by
 have hs:=(K.zau hE).2.2.2.1;unfold K.matchB at h;rw[Bool.and_eq_true,Bool.and_eq_true,K.zbv,K.zbv,Bool.and_eq_true,Bool.and_eq_true] at h;have h1:=h.1.1.1.2;rw[show k - (r.before.length:Int)+r.before.length=k by omega] at h1;cases hq:r.source with
 | nil=>rw[hq] at hs;simp at hs
 | cons x l =>
  rw[hq,K.runAt,Bool.and_eq_true,Bool.and_eq_true] at h1;unfold K.headS;rw[hq];exact h1.1.2
theorem zfo (t:List Int)(k:Int):∀(l:List K.Rule) (i:Nat),(∃(j:Nat) (r:K.Rule),l[j]?=some r/\K.matchB r t k=true/\(∀i' y,i'<j->l[i']?=some y->K.matchB y t k=false)/\K.whichN t k i l=((i+j:Nat):Int))∨((∀r∈l,K.matchB r t k=false)/\K.whichN t k i l= -1):=by
 intro l
 induction l with
 | nil=>intro i;exact .inr ⟨fun r hr=>(by cases hr),rfl⟩
 | cons x l ih =>
  intro i;cases hx:K.matchB x t k with
  | true=>exact .inl ⟨0,x,rfl,hx,fun i' y h=>by omega,by rw[K.whichN,if_pos hx];rfl⟩
  | false =>
   have e:K.whichN t k i (x::l)=K.whichN t k (i+1) l:=by rw[K.whichN,if_neg (by rw[hx];decide)]
   rw[e];rcases ih (i+1) with ⟨j,r,h1,h2,h3,h4⟩|⟨h1,h2⟩
   ·refine .inl ⟨j+1,r,by simpa using h1,h2,fun i' y hi hy=> ?_,by rw[h4];congr 1;omega⟩;cases i' with
    | zero=>simp at hy;subst hy;exact hx
    | succ m=>exact h3 m y (by omega) (by simpa using hy)
   ·refine .inr ⟨fun r hr=> ?_,h2⟩;rcases List.mem_cons.1 hr with rfl | hr
    ·exact hx
    ·exact h1 r hr
theorem zc9 {f:K.Rule->Bool}{z:Int}:∀ {l:List K.Rule} {i:Nat},z∈J.which f i l↔∃(j:Nat) (r:K.Rule),l[j]?=some r/\f r=true/\z=((i+j:Nat):Int):=by
 intro l
 induction l with
 | nil=>intro i;simp[J.which]
 | cons x l ih =>
  intro i;rw[J.which,List.mem_append,ih];constructor
  ·rintro (h | ⟨j,r,h1,h2,h3⟩)
   ·split at h
    ·rename_i hx
     simp at h;exact⟨0,x,rfl,hx,by simpa using h⟩
    ·simp at h
   ·exact⟨j+1,r,by simpa using h1,h2,by rw[h3];congr 1;omega⟩
  ·rintro ⟨j,r,h1,h2,h3⟩;cases j with
   | zero =>
    simp at h1;subst h1;exact .inl (by rw[if_pos h2];simpa using h3)
   | succ m=>exact .inr ⟨m,r,by simpa using h1,h2,by rw[h3];congr 1;omega⟩
theorem zlt {f:K.Rule->Bool}:∀ {l:List K.Rule} {i:Nat},(J.which f i l).Pairwise (· < ·):=by
 intro l
 induction l with
 | nil=>intro i;simp[J.which]
 | cons x l ih =>
  intro i;rw[J.which,List.pairwise_append];refine⟨by split <;> simp,ih,fun a ha b hb=> ?_⟩;obtain⟨j,r,_,_,h3⟩:=zc9.1 hb;split at ha <;> simp at ha
  omega
theorem zpz {l:List K.Rule}(hE:∀r∈l,K.ruleE r=0){t:List Int}{k:Nat}{e:Ending}(h:Idx (fun z=>K.matchB ((l[z.toNat]?).getD K.noRule) t k) (J.begins l (t.getD k 0)) e) :
  (∃(j i:Nat) (r:K.Rule),(J.begins l (t.getD k 0))[j]?=some (i:Int)/\l[i]?=some r/\e= .returned (.int .i64 j)/\K.which l t k=i)∨(e= .returned (.int .i64 (-1))/\K.which l t k= -1):=by
 have hmem:∀(i:Nat) r,l[i]?=some r->K.matchB r t k=true->(i:Int)∈J.begins l (t.getD k 0):=fun i r hi hm=>by
  refine zc9.2 ⟨i,r,hi,?_,by simp⟩;have:=zjl (hE r (List.mem_of_getElem? hi)) hm;rw[Int.toNat_natCast] at this;exact this
 rcases h with ⟨j,z,h1,h2,h3,h4⟩|⟨h1,h2⟩
 ·obtain⟨i,r,hi,_,hz⟩:=zc9.1 (List.mem_of_getElem? h1);rw[Nat.zero_add] at hz;subst hz;simp only[Int.toNat_natCast,hi,Option.getD_some] at h2;refine .inl ⟨j,i,r,h1,hi,h4,?_⟩;rcases zfo t k l 0 with ⟨j',r',g1,g2,g3,g4⟩|⟨g1,_⟩
  ·have hij:j'=i:=by
    rcases Nat.lt_trichotomy j' i with hlt | he | hgt
    ·obtain⟨m,hm⟩:=List.getElem?_of_mem (hmem j' r' g1 g2);have hml:=(qL.1 hm).1;have hjl:=(qL.1 h1).1
     have hmj:m<j:=by
      refine Nat.lt_of_not_le fun hle=> ?_
      rcases Nat.lt_or_eq_of_le hle with hlt' | rfl
      ·have:=List.pairwise_iff_getElem.1 (zlt (f:=fun r=>S.memb (K.headS r) (t.getD k 0)) (l:=l) (i:=0)) j m hjl hml hlt';have e1:(J.which (fun r=>S.memb (K.headS r) (t.getD k 0)) 0 l)[j]=(i:Int):=(qL.1 h1).2;have e2:(J.which (fun r=>S.memb (K.headS r) (t.getD k 0)) 0 l)[m]=(j':Int):=(qL.1 hm).2;rw[e1,e2] at this;omega
      ·rw[h1] at hm;simp at hm;omega
     have:=h3 m _ hmj hm;simp only[Int.toNat_natCast,g1,Option.getD_some] at this;rw[g2] at this;cases this
    ·exact he
    ·rw[g3 i r hgt hi] at h2;cases h2
   subst hij;show K.whichN t k 0 l=_;rw[g4];simp
  ·rw[g1 r (List.mem_of_getElem? hi)] at h2;cases h2
 ·refine .inr ⟨h2,?_⟩;rcases zfo t k l 0 with ⟨j',r',g1,g2,_,_⟩|⟨_,g2⟩
  ·have:=h1 _ (hmem j' r' g1 g2);simp only[Int.toNat_natCast,g1,Option.getD_some] at this;rw[g2] at this;cases this
  ·exact g2
end Gm
end Go.Proofs.YtamfgmaipajodaaGreatDoor
namespace Go.Proofs.YtamfgmaipajodaaGreatDoor
open Go.RowKit Go.Sort
namespace Z
abbrev en:Int->Value:=Value.int .i32
def At (w:World) (blk off n0:Nat) (d:Array Int) (wr:World):Prop:=d.size=n0/\∃n,wr=putRow en (Sort.ahead w n) blk off d
theorem At.start {w:World}{blk off:Nat}{d:Array Int}(h:Holds en w blk off d):At w blk off d.size d w:=⟨rfl,0,(putRow_self en w blk off d h).symm⟩
theorem At.cell {w wr:World}{blk off n0:Nat}{d0 d:Array Int}(h:At w blk off n0 d wr)(h0:Holds en w blk off d0)(hn:d0.size=n0){j:Nat}(hj:j<n0):wr.cell? ⟨blk,off+j,none⟩=some (.int .i32 d[j]!):=by
 obtain⟨hs,n,rfl⟩:=h;exact cell?_putRow en _ blk off d0 d (holds_ahead en w n blk off d0 h0) (by omega) j (by omega)
theorem At.free {w wr:World}{blk off n0:Nat}{d0 d:Array Int}(h:At w blk off n0 d wr)(h0:Holds en w blk off d0)(hn:d0.size=n0){j:Nat}(hj:j<n0):wr.frozen? ⟨blk,off+j,none⟩=false:=by
 obtain⟨hs,n,rfl⟩:=h;rw[frozen?_putRow];exact(holds_ahead en w n blk off d0 h0 j (by omega)).2
theorem At.drew {w wr:World}{blk off n0:Nat}{d:Array Int}(h:At w blk off n0 d wr)(q:Nat):At w blk off n0 d (wr.drewN q):=by
 obtain⟨hs,n,rfl⟩:=h;exact⟨hs,n+q,putRow_drewN en w n q blk off d⟩
theorem At.swap {w wr:World}{blk off n0:Nat}{d:Array Int}(h:At w blk off n0 d wr){i j:Nat}(hi:i<n0)(hj:j<n0)(q:Nat):At w blk off n0 (swp d i j) (((wr.drewN q).setCell ⟨blk,off+i,none⟩ (.int .i32 d[j]!)).setCell ⟨blk,off+j,none⟩ (.int .i32 d[i]!)):=by
 obtain⟨hs,n,rfl⟩:=h;exact⟨by rw[size_swp];exact hs,n+q,swap_worldA en w n q blk off d i j (by omega) (by omega)⟩
theorem At.holds {w wr:World}{blk off n0:Nat}{d0 d:Array Int}(h:At w blk off n0 d wr)(h0:Holds en w blk off d0)(hn:d0.size=n0):Holds en wr blk off d:=by
 obtain⟨hs,n,rfl⟩:=h;exact holds_putRow en _ blk off d0 d (holds_ahead en w n blk off d0 h0) (by omega)
theorem At.trans {w w1 w2:World}{blk off n0:Nat}{d e:Array Int}(h:At w blk off n0 d w1)(h':At w1 blk off n0 e w2):At w blk off n0 e w2:=by
 obtain⟨hs,n,rfl⟩:=h;obtain⟨hs',m,rfl⟩:=h';exact⟨hs',n+m,putRow_ahead_putRow en w n m blk off d e (by omega)⟩
theorem At.size {w wr:World}{blk off n0:Nat}{d:Array Int}(h:At w blk off n0 d wr):d.size=n0:=h.1
end Z
end Go.Proofs.YtamfgmaipajodaaGreatDoor
namespace Go.Proofs.YtamfgmaipajodaaGreatDoor
open Go.RowKit Go.Sort
theorem zqx (w:World)(x:Int):Calls Tryz.prog 305 #[.int .i32 x] w fun e w'=>e= .returned (.bool false)/\w'=w:=by
 go_enter Tryz.func305,Tryz.ntmps305
 go_wp2;go_ret
 exact⟨by simp,rfl⟩
theorem zam (w:World)(x y:Int):Calls Tryz.prog 293 #[.int .i32 x,.int .i32 y] w fun e w'=>e= .returned (.bool (ltInt x y))/\w'=w:=by
 go_enter Tryz.func293,Tryz.ntmps293
 go_wp2_with (go_at_call 305;refine(zqx _ _).mono ?_;rintro e w' ⟨rfl,rfl⟩)
 go_ret;exact⟨rfl,rfl⟩
end Go.Proofs.YtamfgmaipajodaaGreatDoor
namespace Go.Proofs.YtamfgmaipajodaaGreatDoor
open Go.RowKit Go.Sort
namespace Z
theorem zoi {hi first r:Nat}{d:Array Int}(h:hi<=2*r+1):siftDown ltInt hi first r d=d:=by
 rw[siftDown,dif_pos h]
theorem zl1 {hi first r:Nat}{d:Array Int}(h:2*r+1+1<hi)(hl:ltInt d[first+(2*r+1)]! d[first+(2*r+1)+1]! = true) :
  siftDown ltInt hi first r d=if ltInt d[first+r]! d[first+(2*r+2)]! = true then siftDown ltInt hi first (2*r+2) (swp d (first+r) (first+(2*r+2))) else d:=by
 rw[siftDown,dif_neg (by omega)];simp only[h,decide_true,hl,Bool.and_self,if_true,Bool.not_eq_true']
 by_cases hx:ltInt d[first+r]! d[first+(2*r+2)]! = true
 ·rw[if_neg (by simp[hx]),dif_pos trivial,if_pos hx]
 ·rw[if_pos (by simpa using hx),if_neg hx]
theorem zhh {hi first r:Nat}{d:Array Int}(h0:2*r+1<hi)(h:¬ 2*r+1+1<hi∨ltInt d[first+(2*r+1)]! d[first+(2*r+1)+1]! = false) :
  siftDown ltInt hi first r d=if ltInt d[first+r]! d[first+(2*r+1)]! = true then siftDown ltInt hi first (2*r+1) (swp d (first+r) (first+(2*r+1))) else d:=by
 rw[siftDown,dif_neg (by omega)]
 have hc:(decide (2*r+1+1<hi)&&ltInt d[first+(2*r+1)]! d[first+(2*r+1)+1]!)=false:=by
  rcases h with h | h
  ·simp[h]
  ·simp[h]
 rw[if_neg (by rw[hc];simp)]
 by_cases hx:ltInt d[first+r]! d[first+(2*r+1)]! = true
 ·rw[if_neg (by simp[hx]),if_pos hx]
 ·rw[if_pos (by simpa using hx),if_neg hx]
end Z
theorem zng (w:World)(blk off cap lo hi first:Nat)(d:Array Int)(h0:Holds Z.en w blk off d)(hb:first+hi<=d.size)(hsz:d.size<1152921504606846976)(hlo:lo<=d.size) :
  Calls Tryz.prog 300 #[.slice (some ⟨blk,off,none⟩) d.size cap,.int .i64 lo,.int .i64 hi,.int .i64 first] w fun e w'=>e= .returned (.tuple #[])/\Z.At w blk off d.size (siftDown ltInt hi first lo d) w':=by
 have H0:Hid (Holds Z.en w blk off d):=h0;have HS:Hid (Z.At w blk off d.size d w):=Z.At.start h0;clear h0
 go_enter Tryz.func300,Tryz.ntmps300
 go_wp2
 go_loopw [8] (fun vr wr=>∃(r:Nat) (e:Array Int),vr= .int .i64 r/\r<=d.size/\Hid (Z.At w blk off d.size e wr/\siftDown ltInt hi first r e=siftDown ltInt hi first lo d)) (fun vr _=>d.size - (RowKit.intOf vr).toNat)
 case atStart=>exact⟨lo,d,rfl,hlo,HS.out,rfl⟩
 case round =>
  obtain⟨r,e,rfl,hr,HE⟩:=hrel;clear HS
  by_cases hc:2*r+1<hi
  ·obtain⟨G,hG⟩:∃G:Nat->Int,∀t,G t=e[t]! := ⟨fun t=>e[t]!,fun _=>rfl⟩;have hcw:∀t,t<d.size->wr.cell? ⟨blk,off+t,none⟩=some (.int .i32 (G t)):=fun t ht=>by rw[hG];exact HE.out.1.cell H0.out rfl ht
   have hfw:∀t,t<d.size->wr.frozen? ⟨blk,off+t,none⟩=false:=fun t ht=>HE.out.1.free H0.out rfl ht
   have HG:Hid (∀t,G t=e[t]!):=hG;clear hG;have h0z:¬((hi:Int)<=2*(r:Int)+1):=by omega
   by_cases h1:2*r+1+1<hi
   ·have h1z:2*(r:Int)+1+1<(hi:Int):=by omega
    go_wp2
    go_quiet (first | (go_at_call 293;refine Calls.quiet_of_same (zam _ _ _)))
    go_wp2
    ·have hl:ltInt (G (first+2*r+1)) (G (first+2*r+2))=true:=by assumption
     obtain⟨w2,hw2⟩:∃w2,w2=wr.drewN nq:=⟨_,rfl⟩;have HA2:Hid (Z.At w blk off d.size e w2):=by show Z.At w blk off d.size e w2;rw[hw2];exact HE.out.1.drew nq
     have hcw2:∀t,t<d.size->w2.cell? ⟨blk,off+t,none⟩=some (.int .i32 (G t)):=fun t ht=>by rw[HG.out];exact HA2.out.cell H0.out rfl ht
     have hfw2:∀t,t<d.size->w2.frozen? ⟨blk,off+t,none⟩=false:=fun t ht=>HA2.out.free H0.out rfl ht
     have HEq:Hid (siftDown ltInt hi first r e=if ltInt (G (first+r)) (G (first+2*r+2))=true then siftDown ltInt hi first (2*r+2) (swp e (first+r) (first+(2*r+2))) else e):=by
      show _=_;rw[HG.out,HG.out,<- Nat.add_assoc first];exact Z.zl1 h1 (by rw[<- HG.out,<- HG.out];exact hl)
     rw[<- hw2];clear hcw hfw hw2
     go_quiet (first | (go_at_call 293;refine Calls.quiet_of_same (zam _ _ _)))
     go_wp2
     ·have hx:ltInt (G (first+r)) (G (first+2*r+2))=false:=by
       have h:(!ltInt (G (first+r)) (G (first+2*r+2)))=true:=by assumption
       simpa using h
      refine bodyPost_ret (v:= .tuple #[]) (by simp[results,Tryz.results300,go_sem]) rfl ?_;refine⟨rfl,?_⟩;rw[<- HE.out.2,HEq.out,hx];exact HA2.out.drew _
     ·have hx:ltInt (G (first+r)) (G (first+2*r+2))=true:=by
       have h:(!ltInt (G (first+r)) (G (first+2*r+2)))=false:=by assumption
       simpa using h
      go_region
      all_goals go_wp2
      go_roundw
      case rel =>
       refine⟨2*r+2,swp e (first+r) (first+(2*r+2)),by congr 1 <;> omega,by omega,?_,?_⟩
       ·have:=HA2.out.swap (i:=first+r) (j:=first+(2*r+2)) (by omega) (by omega) (nq+1);rw[HG.out,HG.out];simpa only[Nat.add_assoc] using this
       ·rw[<- HE.out.2,HEq.out,if_pos hx]
      case measure=>simp[RowKit.intOf];omega
    ·have hl:ltInt (G (first+2*r+1)) (G (first+2*r+2))=false:=by assumption
     obtain⟨w2,hw2⟩:∃w2,w2=wr.drewN nq:=⟨_,rfl⟩;have HA2:Hid (Z.At w blk off d.size e w2):=by show Z.At w blk off d.size e w2;rw[hw2];exact HE.out.1.drew nq
     have hcw2:∀t,t<d.size->w2.cell? ⟨blk,off+t,none⟩=some (.int .i32 (G t)):=fun t ht=>by rw[HG.out];exact HA2.out.cell H0.out rfl ht
     have hfw2:∀t,t<d.size->w2.frozen? ⟨blk,off+t,none⟩=false:=fun t ht=>HA2.out.free H0.out rfl ht
     have HEq:Hid (siftDown ltInt hi first r e=if ltInt (G (first+r)) (G (first+2*r+1))=true then siftDown ltInt hi first (2*r+1) (swp e (first+r) (first+(2*r+1))) else e):=by
      show _=_;rw[HG.out,HG.out,<- Nat.add_assoc first];exact Z.zhh hc (.inr (by rw[<- HG.out,<- HG.out];exact hl))
     rw[<- hw2];clear hcw hfw hw2
     go_quiet (first | (go_at_call 293;refine Calls.quiet_of_same (zam _ _ _)))
     go_wp2
     ·have hx:ltInt (G (first+r)) (G (first+2*r+1))=false:=by
       have h:(!ltInt (G (first+r)) (G (first+2*r+1)))=true:=by assumption
       simpa using h
      refine bodyPost_ret (v:= .tuple #[]) (by simp[results,Tryz.results300,go_sem]) rfl ?_;refine⟨rfl,?_⟩;rw[<- HE.out.2,HEq.out,hx];exact HA2.out.drew _
     ·have hx:ltInt (G (first+r)) (G (first+2*r+1))=true:=by
       have h:(!ltInt (G (first+r)) (G (first+2*r+1)))=false:=by assumption
       simpa using h
      go_region
      all_goals go_wp2
      go_roundw
      case rel =>
       refine⟨2*r+1,swp e (first+r) (first+(2*r+1)),by congr 1 <;> omega,by omega,?_,?_⟩
       ·have:=HA2.out.swap (i:=first+r) (j:=first+(2*r+1)) (by omega) (by omega) (nq+1);rw[HG.out,HG.out];simpa only[Nat.add_assoc] using this
       ·rw[<- HE.out.2,HEq.out,if_pos hx]
      case measure=>simp[RowKit.intOf];omega
   ·have h1z:decide (2*(r:Int)+1+1<(hi:Int))=false:=decide_eq_false (by omega);go_wp2
    go_quiet (first | (go_at_call 293;refine Calls.quiet_of_same (zam _ _ _)))
    go_wp2;obtain⟨w2,hw2⟩:∃w2,w2=wr.drewN nq:=⟨_,rfl⟩
    have HA2:Hid (Z.At w blk off d.size e w2):=by show Z.At w blk off d.size e w2;rw[hw2];exact HE.out.1.drew nq
    have hcw2:∀t,t<d.size->w2.cell? ⟨blk,off+t,none⟩=some (.int .i32 (G t)):=fun t ht=>by rw[HG.out];exact HA2.out.cell H0.out rfl ht
    have hfw2:∀t,t<d.size->w2.frozen? ⟨blk,off+t,none⟩=false:=fun t ht=>HA2.out.free H0.out rfl ht
    have HEq:Hid (siftDown ltInt hi first r e=if ltInt (G (first+r)) (G (first+2*r+1))=true then siftDown ltInt hi first (2*r+1) (swp e (first+r) (first+(2*r+1))) else e):=by
     show _=_;rw[HG.out,HG.out,<- Nat.add_assoc first];exact Z.zhh hc (.inl h1)
    rw[<- hw2];clear hcw hfw hw2
    go_quiet (first | (go_at_call 293;refine Calls.quiet_of_same (zam _ _ _)))
    go_wp2
    ·have hx:ltInt (G (first+r)) (G (first+2*r+1))=false:=by
      have h:(!ltInt (G (first+r)) (G (first+2*r+1)))=true:=by assumption
      simpa using h
     refine bodyPost_ret (v:= .tuple #[]) (by simp[results,Tryz.results300,go_sem]) rfl ?_;refine⟨rfl,?_⟩;rw[<- HE.out.2,HEq.out,hx];exact HA2.out.drew _
    ·have hx:ltInt (G (first+r)) (G (first+2*r+1))=true:=by
      have h:(!ltInt (G (first+r)) (G (first+2*r+1)))=false:=by assumption
      simpa using h
     go_region
     all_goals go_wp2
     go_roundw
     case rel =>
      refine⟨2*r+1,swp e (first+r) (first+(2*r+1)),by congr 1 <;> omega,by omega,?_,?_⟩
      ·have:=HA2.out.swap (i:=first+r) (j:=first+(2*r+1)) (by omega) (by omega) (nq+1);rw[HG.out,HG.out];simpa only[Nat.add_assoc] using this
      ·rw[<- HE.out.2,HEq.out,if_pos hx]
     case measure=>simp[RowKit.intOf];omega
  ·have hc2:hi<=2*r+1:=by omega
   have h0z:(hi:Int)<=2*(r:Int)+1:=by omega
   go_wp2
   go_end0
   refine⟨rfl,?_⟩;rw[<- HE.out.2,Z.zoi hc2];exact HE.out.1
end Go.Proofs.YtamfgmaipajodaaGreatDoor
namespace Go.Proofs.YtamfgmaipajodaaGreatDoor
open Go.RowKit Go.Sort
theorem zkh (w wr:World)(blk off cap n0 lo hi first:Nat)(d0 e:Array Int)(h0:Holds Z.en w blk off d0)(hn:d0.size=n0)(h:Z.At w blk off n0 e wr)(hb:first+hi<=n0)(hsz:n0<1152921504606846976)(hlo:lo<=n0) :
  Calls Tryz.prog 300 #[.slice (some ⟨blk,off,none⟩) n0 cap,.int .i64 lo,.int .i64 hi,.int .i64 first] wr fun x w'=>x= .returned (.tuple #[])/\Z.At w blk off n0 (siftDown ltInt hi first lo e) w':=by
 have hs:=h.1;have hh:=zng wr blk off cap lo hi first e (h.holds h0 hn) (by omega) (by omega) (by omega)
 rw[hs] at hh;exact hh.mono fun x w' ⟨h1,h2⟩=>⟨h1,h.trans h2⟩
theorem znk (w:World)(blk off cap a b:Nat)(d:Array Int)(h0:Holds Z.en w blk off d)(hab:a<b)(hb:b<=d.size)(hsz:d.size<1152921504606846976) :
  Calls Tryz.prog 288 #[.slice (some ⟨blk,off,none⟩) d.size cap,.int .i64 a,.int .i64 b] w fun e w'=>e= .returned (.tuple #[])/\Z.At w blk off d.size (heapSort ltInt d a b) w':=by
 have H0:Hid (Holds Z.en w blk off d):=h0;have HS:Hid (Z.At w blk off d.size d w):=Z.At.start h0;clear h0;obtain⟨H,hH⟩:∃H,a+H<=b/\b<=a+H:=⟨b - a,by omega⟩;obtain⟨q,hq⟩:∃q,2*q+1<=H/\H<=2*q+2:=⟨(H - 1) / 2,by omega⟩
 have HE:Hid (heapSort ltInt d a b=heapPop ltInt a H (heapBuild ltInt H a (q+1) d)):=by
  show _=_;unfold heapSort;rw[show b - a=H by omega,show (H - 1) / 2=q by omega]
 go_enter Tryz.func288,Tryz.ntmps288
 go_wp2;rw[show ((b:Int) - a)=(H:Int) by omega,show (((H:Int) - 1) / 2)=(q:Int) by omega]
 go_loopw [9] (fun vi wr=>∃(k:Nat) (e:Array Int),vi= .int .i64 ((k:Int) - 1)/\k<=q+1/\Hid (Z.At w blk off d.size e wr/\heapBuild ltInt H a k e=heapBuild ltInt H a (q+1) d)) (fun vi _=>(RowKit.intOf vi+1).toNat)
 case atStart=>exact⟨q+1,d,by congr 1;omega,qN,HS.out,rfl⟩
 case round =>
  obtain⟨k,e,rfl,hk,HK⟩:=hrel;clear HS;cases k with
  | succ m =>
   rw[show (((m+1:Nat):Int) - 1)=(m:Int) by omega];have hsift:=zkh w wr blk off cap d.size m H a d e H0.out rfl HK.out.1 (by omega) hsz (by omega);have HSi:Hid (Calls Tryz.prog 300 #[.slice (some ⟨blk,off,none⟩) d.size cap,.int .i64 m,.int .i64 H,.int .i64 a] wr fun x w'=>x= .returned (.tuple #[])/\Z.At w blk off d.size (siftDown ltInt H a m e) w'):=hsift;clear hsift
   go_wp2_with fail
   refine HSi.out.mono ?_;rintro x w1 ⟨rfl,h1⟩;have H1:Hid (Z.At w blk off d.size (siftDown ltInt H a m e) w1):=h1;clear h1 HSi;go_wp2
   go_roundw
   case rel=>exact⟨m,siftDown ltInt H a m e,rfl,by omega,H1.out,by rw[<- HK.out.2];rfl⟩
   case measure=>simp[RowKit.intOf]
  | zero =>
   have HK2:Hid (Z.At w blk off d.size e wr/\e=heapBuild ltInt H a (q+1) d):=⟨HK.out.1,HK.out.2⟩;clear HK;rw[show (((0:Nat):Int) - 1)=(-1:Int) from rfl];go_wp2
   go_loopw [10] (fun vi wq=>∃(k:Nat) (f:Array Int),vi= .int .i64 ((k:Int) - 1)/\k<=H/\Hid (Z.At w blk off d.size f wq/\heapPop ltInt a k f=heapPop ltInt a H e)) (fun vi _=>(RowKit.intOf vi+1).toNat)
   case atStart=>exact⟨H,e,rfl,qN,HK2.out.1,rfl⟩
   case round =>
    obtain⟨k,f,rfl,hk2,HF⟩:=hrel;cases k with
    | succ m =>
     rw[show (((m+1:Nat):Int) - 1)=(m:Int) by omega];obtain⟨G,hG⟩:∃G:Nat->Int,∀t,G t=f[t]! := ⟨fun t=>f[t]!,fun _=>rfl⟩;have hcw:∀t,t<d.size->wr.cell? ⟨blk,off+t,none⟩=some (.int .i32 (G t)):=fun t ht=>by rw[hG];exact HF.out.1.cell H0.out rfl ht
     have hfw:∀t,t<d.size->wr.frozen? ⟨blk,off+t,none⟩=false:=fun t ht=>HF.out.1.free H0.out rfl ht
     have hsw:=HF.out.1.swap (i:=a) (j:=a+m) (by omega) (by omega) 1;rw[<- hG,<- hG] at hsw;have HSw:Hid (Z.At w blk off d.size (swp f a (a+m)) (((wr.drewN 1).setCell ⟨blk,off+a,none⟩ (.int .i32 (G (a+m)))).setCell ⟨blk,off+(a+m),none⟩ (.int .i32 (G a)))):=hsw;have HG:Hid (∀t,G t=f[t]!):=hG;clear hsw hG
     have x1:((wr.setCell ⟨blk,off+a,none⟩ (.int .i32 (G (a+m)))).drew).cell? ⟨blk,off+(a+m),none⟩=some (.int .i32 (G (a+m))):=by
      show (wr.setCell ⟨blk,off+a,none⟩ (.int .i32 (G (a+m)))).cell? ⟨blk,off+(a+m),none⟩=_
      by_cases hm:m=0
      ·subst hm;obtain⟨c,ty,fr,hb1,hc1⟩:=cells_of_cell? (hcw a (by omega));have hlt:=(qA.1 hc1).1;rw[setCell_eq,cell?_mapBlock wr blk _ _ hb1];simp[hlt]
      ·rw[World.cell?_setCell_other _ _ _ _ (by simp[hm])];exact hcw (a+m) (by omega)
     have x2:((wr.setCell ⟨blk,off+a,none⟩ (.int .i32 (G (a+m)))).drew).frozen? ⟨blk,off+(a+m),none⟩=false:=(World.frozen?_setCell _ _ _ _).trans (hfw (a+m) (by omega))
     have HX:Hid (∀X,X=((wr.setCell ⟨blk,off+a,none⟩ (.int .i32 (G (a+m)))).setCell ⟨blk,off+(a+m),none⟩ (.int .i32 (G a))).drew->Calls Tryz.prog 300 #[.slice (some ⟨blk,off,none⟩) d.size cap,.int .i64 0,.int .i64 m,.int .i64 a] X fun x w'=>x= .returned (.tuple #[])/\Z.At w blk off d.size (siftDown ltInt m a 0 (swp f a (a+m))) w'):=fun X hX=>by
      have hat:Z.At w blk off d.size (swp f a (a+m)) X:=by rw[hX];exact HSw.out
      exact zkh w X blk off cap d.size 0 m a d _ H0.out rfl hat (by omega) hsz (by omega)
     clear HSw
     go_wp2_with fail
     go_region
     go_wp2_with fail
     refine(HX.out _ rfl).mono ?_;rintro x w1 ⟨rfl,h1⟩;have H1:Hid (Z.At w blk off d.size (siftDown ltInt m a 0 (swp f a (a+m))) w1):=h1;clear h1 HX x1 x2 hcw hfw;go_wp2
     go_roundw
     case rel=>exact⟨m,_,rfl,by omega,H1.out,by rw[<- HF.out.2];rfl⟩
     case measure=>simp[RowKit.intOf]
    | zero =>
     go_wp2
     go_end0
     refine⟨rfl,?_⟩;rw[HE.out,<- HK2.out.2,<- HF.out.2];exact HF.out.1
end Go.Proofs.YtamfgmaipajodaaGreatDoor
