/-
 A file that is read: a part.
-/
import Derived.Test.YtmcljejgbikbhaaGreatDoorRWrong
import Derived.Test.YtmcljejgbikbhaaGreatDoorRWrong3
namespace Go.Proofs.YtmcljejgbikbhaaGreatDoor
open Go.RowKit
set_option maxRecDepth 20000
set_option linter.unusedSimpArgs false
set_option linter.unusedVariables false
theorem passes_len {n:ByteArray}(h:R.passes n=true):n.size<=20:=by
 unfold R.passes at h
 have h:=of_decide_eq_true h
 have e:n.toList.length=n.size:=by rw[ByteArray.toList_eq];simp
 rcases h with h | h | h | h <;> rw[h] at e <;> simp at e <;> omega
set_option maxHeartbeats 16000000 in
theorem whole_at (hK:T.ClassOk)(w:World)(cb tb cap p:Nat)(ao:Option Addr)(l:List Int)(hne:l≠ [])(C:T.Cur w cb tb cap ao l p) :
  Calls Tryz.prog 171 #[.pointer (some ⟨cb,0,none⟩)] w (T.Ends w cb tb cap ao l (R.wholeAt l p) (R.isPart w.heap.size)):=by
 obtain⟨he1,he2⟩:=C.elder
 have HE2:Hid (l≠ []->tb<w.heap.size):=he2
 have HK:Hid T.ClassOk:=hK
 have HC:Hid (T.Cur w cb tb cap ao l p):=C
 clear C he2 hK
 have n1:¬w.heap.size=cb:=by omega
 have HT1:Hid (l≠ []->w.heap.size≠tb):=fun h=>by have:=HE2.out h;omega
 obtain⟨o,HO⟩:∃o,Hid (R.wholeAt l p=o):=⟨_,rfl⟩
 rw[HO.out]
 go_enter Tryz.func171,Tryz.ntmps171
 go_wp2_with fail
 have bA:=(Below.refl _ w).alloc (Nat.le_refl _) (.cells #[.int .i64 0,.string ⟨#[]⟩,.slice none 0 0,.int .i64 0,.bool false,.bool false,.slice none 0 0,.slice none 0 0,.slice none 0 0,.int .i64 0,.bool false,.bool false,.slice none 0 0,.slice none 0 0,.slice none 0 0,.int .i64 0] 109)
 have x2:(w.alloc (.cells #[.int .i64 0,.string ⟨#[]⟩,.slice none 0 0,.int .i64 0,.bool false,.bool false,.slice none 0 0,.slice none 0 0,.slice none 0 0,.int .i64 0,.bool false,.bool false,.slice none 0 0,.slice none 0 0,.slice none 0 0,.int .i64 0] 109)).heap[w.heap.size]?=some (.cells #[.int .i64 0,.string ⟨#[]⟩,.slice none 0 0,.int .i64 0,.bool false,.bool false,.slice none 0 0,.slice none 0 0,.slice none 0 0,.int .i64 0,.bool false,.bool false,.slice none 0 0,.slice none 0 0,.slice none 0 0,.int .i64 0] 109):=heap_alloc_new w _
 have CW:=HC.out.below bA
 have GW:w.grownBy _ (some cb):=S.grown_below bA
 have hFW:w.heap.size+1<=(w.alloc (.cells #[.int .i64 0,.string ⟨#[]⟩,.slice none 0 0,.int .i64 0,.bool false,.bool false,.slice none 0 0,.slice none 0 0,.slice none 0 0,.int .i64 0,.bool false,.bool false,.slice none 0 0,.slice none 0 0,.slice none 0 0,.int .i64 0] 109)).heap.size:=by simp
 refine(is_any _ cb tb cap p ao l 91 CW).mono ?_
 generalize w.alloc (.cells #[.int .i64 0,.string ⟨#[]⟩,.slice none 0 0,.int .i64 0,.bool false,.bool false,.slice none 0 0,.slice none 0 0,.slice none 0 0,.int .i64 0,.bool false,.bool false,.slice none 0 0,.slice none 0 0,.slice none 0 0,.int .i64 0] 109)=W0 at bA x2 CW GW hFW
 clear bA
 rintro e w1 ⟨rfl,b1⟩
 have x21:=R.blk_below x2 b1
 have C1:=CW.below b1
 have c1:=C1.cell1
 have G1:=S.grown_trans GW (S.grown_below (r:=some cb) b1)
 have hF1:w.heap.size+1<=w1.heap.size:=by have:=b1.size;omega
 clear x2 CW GW b1 hFW
 have hpl:=C1.le
 have hln:=C1.len
 by_cases h91:T.see l p=91
 ·clear c1
  have HX1:Hid _:=x21
  have HC1:Hid _:=C1
  have HG1:Hid _:=G1
  clear x21 C1 G1
  go_wp2_with fail
  refine(Set_any HK.out _ cb tb cap p ao l HC1.out).mono ?_
  intro e w2 h
  cases hc:T.setN 20 l p with
  | bad er q =>
   rw[hc] at h
   obtain⟨rfl,g2⟩:=h
   unfold T.thrown
   go_wp2
   refine⟨rfl,?_⟩
   rw[<- HO.out];unfold R.wholeAt;rw[if_pos h91,hc]
   exact⟨rfl,S.grown_trans HG1.out g2⟩
  | ok s q =>
   rw[hc] at h
   obtain⟨v2,rfl,⟨⟨hr2,hn2,_⟩,hf2⟩,C2,g2⟩:=h
   obtain⟨so,sc,hv2⟩:=hr2.len
   subst hv2
   have HS2:Hid (R.Stays (w.heap.size+1) none w2 fun w'=>S.Rd w' (.slice so s.length sc) s):=R.rd_stays hr2 (hf2.mono hF1)
   have HF2:Hid (S.Fit s):=S.Fit.of_nf hn2 (Int.le_refl _)
   have X2:=R.blk_grown HX1.out g2 n1
   have G2:=S.grown_trans HG1.out g2
   have HH:Hid _:=hc
   clear hc hr2 hn2 hf2 g2
   have k0:=R.at_box' (i:=0) X2 rfl
   have fk0:=R.free_box (i:=0) X2
   have k1:=R.at_box' (i:=1) X2 rfl
   have fk1:=R.free_box (i:=1) X2
   have k2:=R.at_box' (i:=2) X2 rfl
   have fk2:=R.free_box (i:=2) X2
   have k3:=R.at_box' (i:=3) X2 rfl
   have fk3:=R.free_box (i:=3) X2
   have k4:=R.at_box' (i:=4) X2 rfl
   have fk4:=R.free_box (i:=4) X2
   have k5:=R.at_box' (i:=5) X2 rfl
   have fk5:=R.free_box (i:=5) X2
   have k6:=R.at_box' (i:=6) X2 rfl
   have fk6:=R.free_box (i:=6) X2
   have k7:=R.at_box' (i:=7) X2 rfl
   have fk7:=R.free_box (i:=7) X2
   have k8:=R.at_box' (i:=8) X2 rfl
   have fk8:=R.free_box (i:=8) X2
   have k9:=R.at_box' (i:=9) X2 rfl
   have fk9:=R.free_box (i:=9) X2
   have k10:=R.at_box' (i:=10) X2 rfl
   have fk10:=R.free_box (i:=10) X2
   have k11:=R.at_box' (i:=11) X2 rfl
   have fk11:=R.free_box (i:=11) X2
   have k12:=R.at_box' (i:=12) X2 rfl
   have fk12:=R.free_box (i:=12) X2
   have k13:=R.at_box' (i:=13) X2 rfl
   have fk13:=R.free_box (i:=13) X2
   have k14:=R.at_box' (i:=14) X2 rfl
   have fk14:=R.free_box (i:=14) X2
   have k15:=R.at_box' (i:=15) X2 rfl
   have fk15:=R.free_box (i:=15) X2
   have HXe:Hid _:=X2
   have HCe:Hid _:=C2
   have HGe:Hid _:=G2
   clear X2 C2 G2
   go_wp2
   obtain⟨hbx,hgr⟩:=R.put16 HXe.out (.int .i64 3) (.string ⟨#[]⟩) (.slice so s.length sc) (.int .i64 0) (.bool false) (.bool false) (.slice none 0 0) (.slice none 0 0) (.slice none 0 0) (.int .i64 0) (.bool false) (.bool false) (.slice none 0 0) (.slice none 0 0) (.slice none 0 0) (.int .i64 0)
   refine bodyPost_ret (R.ret_cell rfl _ _ w.heap.size #[.int .i64 3,.string ⟨#[]⟩,.slice so s.length sc,.int .i64 0,.bool false,.bool false,.slice none 0 0,.slice none 0 0,.slice none 0 0,.int .i64 0,.bool false,.bool false,.slice none 0 0,.slice none 0 0,.slice none 0 0,.int .i64 0] hbx Tryz.underlying109 (by kernel_rfl) rfl) rfl ?_
   rw[<- HO.out];unfold R.wholeAt;rw[if_pos h91,HH.out]
   exact⟨_,rfl,⟨⟨so,sc,none,0,none,0,none,0,none,0,none,0,none,0,rfl⟩,((HS2.out.cur hgr (by omega)).down (F':=w.heap.size) (by omega)).imp fun w' h=>⟨so,sc,_,_,_,_,_,_,_,_,_,_,_,_,rfl,h,HF2.out,R.noSide_is w',R.noSide_is w',Nat.zero_le _,by simp[R.I64]⟩⟩,HCe.out.apart hgr n1 HT1.out,R.grown_new HGe.out hgr (Nat.le_refl _)⟩
 ·have HX1:Hid _:=x21
  have HC1:Hid _:=C1
  have HG1:Hid _:=G1
  clear x21 C1 G1
  go_wp2_with fail
  refine(word_any _ cb tb cap p ao l hne HC1.out).mono ?_
  rintro e w2 ⟨rfl,C2,g2⟩
  obtain⟨n,HN⟩:∃n,Hid (R.wordAt l p=n):=⟨_,rfl⟩
  rw[HN.out]
  have HX2:Hid _:=R.blk_grown HX1.out g2 n1
  have HG2:Hid _:=S.grown_trans HG1.out g2
  have HC2:Hid _:=C2
  clear C2 g2 c1
  go_wp2_with fail
  refine(passes_any n _).mono ?_
  rintro e w3 ⟨rfl,rfl⟩
  have X3:=HX2.out
  have C3:=HC2.out
  have G3:=HG2.out
  by_cases hps:R.passes n=true
  ·have hnm:=passes_len hps
   have HNm:Hid (n.size<=20):=hnm
   clear hnm
   have k0:=R.at_box' (i:=0) X3 rfl
   have fk0:=R.free_box (i:=0) X3
   have k1:=R.at_box' (i:=1) X3 rfl
   have fk1:=R.free_box (i:=1) X3
   have k2:=R.at_box' (i:=2) X3 rfl
   have fk2:=R.free_box (i:=2) X3
   have k3:=R.at_box' (i:=3) X3 rfl
   have fk3:=R.free_box (i:=3) X3
   have k4:=R.at_box' (i:=4) X3 rfl
   have fk4:=R.free_box (i:=4) X3
   have k5:=R.at_box' (i:=5) X3 rfl
   have fk5:=R.free_box (i:=5) X3
   have k6:=R.at_box' (i:=6) X3 rfl
   have fk6:=R.free_box (i:=6) X3
   have k7:=R.at_box' (i:=7) X3 rfl
   have fk7:=R.free_box (i:=7) X3
   have k8:=R.at_box' (i:=8) X3 rfl
   have fk8:=R.free_box (i:=8) X3
   have k9:=R.at_box' (i:=9) X3 rfl
   have fk9:=R.free_box (i:=9) X3
   have k10:=R.at_box' (i:=10) X3 rfl
   have fk10:=R.free_box (i:=10) X3
   have k11:=R.at_box' (i:=11) X3 rfl
   have fk11:=R.free_box (i:=11) X3
   have k12:=R.at_box' (i:=12) X3 rfl
   have fk12:=R.free_box (i:=12) X3
   have k13:=R.at_box' (i:=13) X3 rfl
   have fk13:=R.free_box (i:=13) X3
   have k14:=R.at_box' (i:=14) X3 rfl
   have fk14:=R.free_box (i:=14) X3
   have k15:=R.at_box' (i:=15) X3 rfl
   have fk15:=R.free_box (i:=15) X3
   have HXe:Hid _:=X3
   have HCe:Hid _:=C3
   have HGe:Hid _:=G3
   clear X3 C3 G3
   go_wp2
   obtain⟨hbx,hgr⟩:=R.put16 HXe.out (.int .i64 4) (.string n) (.slice none 0 0) (.int .i64 0) (.bool false) (.bool false) (.slice none 0 0) (.slice none 0 0) (.slice none 0 0) (.int .i64 0) (.bool false) (.bool false) (.slice none 0 0) (.slice none 0 0) (.slice none 0 0) (.int .i64 0)
   refine bodyPost_ret (R.ret_cell rfl _ _ w.heap.size #[.int .i64 4,.string n,.slice none 0 0,.int .i64 0,.bool false,.bool false,.slice none 0 0,.slice none 0 0,.slice none 0 0,.int .i64 0,.bool false,.bool false,.slice none 0 0,.slice none 0 0,.slice none 0 0,.int .i64 0] hbx Tryz.underlying109 (by kernel_rfl) rfl) rfl ?_
   rw[<- HO.out];unfold R.wholeAt;rw[if_neg h91,HN.out,if_pos hps]
   exact⟨_,rfl,⟨⟨none,0,none,0,none,0,none,0,none,0,none,0,none,0,rfl⟩,fun w' _=>⟨none,0,_,_,_,_,_,_,_,_,_,_,_,_,rfl,S.Rd.nil w',(fun x hx=>(by cases hx)),R.noSide_is w',R.noSide_is w',by have:=HNm.out;simp only;omega,by simp[R.I64]⟩⟩,HCe.out.apart hgr n1 HT1.out,R.grown_new HGe.out hgr (Nat.le_refl _)⟩
  ·have HG3:Hid _:=G3
   clear X3 C3 G3
   go_wp2_with (go_at_call 38;refine(fail_any _ 7 p).mono ?_;unfold T.thrown;rintro e w4 ⟨rfl,rfl⟩)
   refine⟨rfl,?_⟩
   rw[<- HO.out];unfold R.wholeAt;rw[if_neg h91,HN.out,if_neg hps]
   exact⟨rfl,HG3.out⟩
set_option maxHeartbeats 16000000 in
theorem part_at (hK:T.ClassOk)(w:World)(cb tb cap p:Nat)(ao:Option Addr)(l:List Int)(C:T.Cur w cb tb cap ao l p) :
  Calls Tryz.prog 122 #[.pointer (some ⟨cb,0,none⟩)] w (T.Ends w cb tb cap ao l (R.part l p) (R.isPart w.heap.size)):=by
 obtain⟨he1,he2⟩:=C.elder
 have HE2:Hid (l≠ []->tb<w.heap.size):=he2
 have HK:Hid T.ClassOk:=hK
 have HC:Hid (T.Cur w cb tb cap ao l p):=C
 clear C he2 hK
 have n1:¬w.heap.size=cb:=by omega
 have HT1:Hid (l≠ []->w.heap.size≠tb):=fun h=>by have:=HE2.out h;omega
 obtain⟨o,HO⟩:∃o,Hid (R.part l p=o):=⟨_,rfl⟩
 rw[HO.out]
 go_enter Tryz.func122,Tryz.ntmps122
 go_wp2_with fail
 have bA:=(Below.refl _ w).alloc (Nat.le_refl _) (.cells #[.int .i64 0,.string ⟨#[]⟩,.slice none 0 0,.int .i64 0,.bool false,.bool false,.slice none 0 0,.slice none 0 0,.slice none 0 0,.int .i64 0,.bool false,.bool false,.slice none 0 0,.slice none 0 0,.slice none 0 0,.int .i64 0] 109)
 have x2:(w.alloc (.cells #[.int .i64 0,.string ⟨#[]⟩,.slice none 0 0,.int .i64 0,.bool false,.bool false,.slice none 0 0,.slice none 0 0,.slice none 0 0,.int .i64 0,.bool false,.bool false,.slice none 0 0,.slice none 0 0,.slice none 0 0,.int .i64 0] 109)).heap[w.heap.size]?=some (.cells #[.int .i64 0,.string ⟨#[]⟩,.slice none 0 0,.int .i64 0,.bool false,.bool false,.slice none 0 0,.slice none 0 0,.slice none 0 0,.int .i64 0,.bool false,.bool false,.slice none 0 0,.slice none 0 0,.slice none 0 0,.int .i64 0] 109):=heap_alloc_new w _
 have CW:=HC.out.below bA
 have GW:w.grownBy _ (some cb):=S.grown_below bA
 have hFW:w.heap.size+1<=(w.alloc (.cells #[.int .i64 0,.string ⟨#[]⟩,.slice none 0 0,.int .i64 0,.bool false,.bool false,.slice none 0 0,.slice none 0 0,.slice none 0 0,.int .i64 0,.bool false,.bool false,.slice none 0 0,.slice none 0 0,.slice none 0 0,.int .i64 0] 109)).heap.size:=by simp
 refine(skip_any _ cb tb cap p ao l 58 (by decide) CW).mono ?_
 generalize w.alloc (.cells #[.int .i64 0,.string ⟨#[]⟩,.slice none 0 0,.int .i64 0,.bool false,.bool false,.slice none 0 0,.slice none 0 0,.slice none 0 0,.int .i64 0,.bool false,.bool false,.slice none 0 0,.slice none 0 0,.slice none 0 0,.int .i64 0] 109)=W0 at bA x2 CW GW hFW
 clear bA
 rintro e w1 ⟨rfl,C1,g1⟩
 have HX1:Hid _:=R.blk_grown x2 g1 n1
 have HG1:Hid (w.grownBy w1 (some cb)):=S.grown_trans GW g1
 have hF1:w.heap.size+1<=w1.heap.size:=by have:=g1.size;omega
 clear x2 GW g1 CW
 by_cases h58:T.see l p=58
 ·rw[if_pos h58] at C1
  have HC1:Hid (T.Cur w1 cb tb cap ao l (p+1)):=C1
  have hne:l≠ []:=by intro h;subst h;cases h58
  clear C1
  by_cases h582:T.see l (p+1)=58
  ·go_wp2_with fail
   refine(need_yes _ cb tb cap (p+1) ao l 58 (by decide) HC1.out h582).mono ?_
   rintro e w2 ⟨rfl,C2,g2⟩
   have HX2:Hid _:=R.blk_grown HX1.out g2 n1
   have HG2:Hid (w.grownBy w2 (some cb)):=S.grown_trans HG1.out g2
   have HC2:Hid (T.Cur w2 cb tb cap ao l (p+2)):=C2
   have hF2:w.heap.size+1<=w2.heap.size:=by have:=g2.size;omega
   clear C2 g2
   go_wp2_with fail
   refine(between_any _ cb tb cap (p+2) ao l HC2.out).mono ?_
   rintro e w3 ⟨rfl,C3,g3⟩
   have HX3:Hid _:=R.blk_grown HX2.out g3 n1
   have HG3:Hid (w.grownBy w3 (some cb)):=S.grown_trans HG2.out g3
   have HC3:Hid (T.Cur w3 cb tb cap ao l (R.gap l (p+2))):=C3
   have hF3:w.heap.size+1<=w3.heap.size:=by have:=g3.size;omega
   clear C3 g3
   go_wp2_with fail
   refine(whole_at HK.out _ cb tb cap (R.gap l (p+2)) ao l hne HC3.out).mono ?_
   intro e w4 h
   have hoe:R.wholeAt l (R.gap l (p+2))=o:=by rw[<- HO.out];unfold R.part;rw[if_pos h58,if_neg (by simp[h582])]
   rw[hoe] at h
   cases o with
   | bad er q =>
    obtain⟨rfl,g4⟩:=h
    unfold T.thrown
    go_wp2
    exact⟨rfl,rfl,S.grown_trans HG3.out g4⟩
   | ok x q =>
    obtain⟨v4,rfl,⟨⟨so,sc,lbo,lbc,lso,lsc,lao,lac,rbo,rbc,rso,rsc,rao,rac,hv4⟩,s4⟩,C4,g4⟩:=h
    subst hv4
    have X4:=R.blk_grown HX3.out g4 n1
    have G4:=S.grown_trans HG3.out g4
    have S4:=s4.down hF3
    clear s4 g4 hoe
    have k0:=R.at_box' (i:=0) X4 rfl
    have fk0:=R.free_box (i:=0) X4
    have k1:=R.at_box' (i:=1) X4 rfl
    have fk1:=R.free_box (i:=1) X4
    have k2:=R.at_box' (i:=2) X4 rfl
    have fk2:=R.free_box (i:=2) X4
    have k3:=R.at_box' (i:=3) X4 rfl
    have fk3:=R.free_box (i:=3) X4
    have k4:=R.at_box' (i:=4) X4 rfl
    have fk4:=R.free_box (i:=4) X4
    have k5:=R.at_box' (i:=5) X4 rfl
    have fk5:=R.free_box (i:=5) X4
    have k6:=R.at_box' (i:=6) X4 rfl
    have fk6:=R.free_box (i:=6) X4
    have k7:=R.at_box' (i:=7) X4 rfl
    have fk7:=R.free_box (i:=7) X4
    have k8:=R.at_box' (i:=8) X4 rfl
    have fk8:=R.free_box (i:=8) X4
    have k9:=R.at_box' (i:=9) X4 rfl
    have fk9:=R.free_box (i:=9) X4
    have k10:=R.at_box' (i:=10) X4 rfl
    have fk10:=R.free_box (i:=10) X4
    have k11:=R.at_box' (i:=11) X4 rfl
    have fk11:=R.free_box (i:=11) X4
    have k12:=R.at_box' (i:=12) X4 rfl
    have fk12:=R.free_box (i:=12) X4
    have k13:=R.at_box' (i:=13) X4 rfl
    have fk13:=R.free_box (i:=13) X4
    have k14:=R.at_box' (i:=14) X4 rfl
    have fk14:=R.free_box (i:=14) X4
    have k15:=R.at_box' (i:=15) X4 rfl
    have fk15:=R.free_box (i:=15) X4
    have HXe:Hid _:=X4
    have HCe:Hid _:=C4
    have HGe:Hid _:=G4
    have HSe:Hid (R.Stays (w.heap.size+1) none w4 fun w'=>R.PtIs w' (.agg #[.int .i64 x.kind,.string x.name,.slice so x.set.length sc,.int .i64 x.dir,.bool x.left.start,.bool x.left.fin,.slice lbo x.left.before.length lbc,.slice lso x.left.source.length lsc,.slice lao x.left.after.length lac,.int .i64 x.left.cursor,.bool x.right.start,.bool x.right.fin,.slice rbo x.right.before.length rbc,.slice rso x.right.source.length rsc,.slice rao x.right.after.length rac,.int .i64 x.right.cursor]) x):=S4
    clear X4 C4 G4 S4
    go_wp2
    obtain⟨hbx,hgr⟩:=R.put16 HXe.out (.int .i64 x.kind) (.string x.name) (.slice so x.set.length sc) (.int .i64 x.dir) (.bool x.left.start) (.bool x.left.fin) (.slice lbo x.left.before.length lbc) (.slice lso x.left.source.length lsc) (.slice lao x.left.after.length lac) (.int .i64 x.left.cursor) (.bool x.right.start) (.bool x.right.fin) (.slice rbo x.right.before.length rbc) (.slice rso x.right.source.length rsc) (.slice rao x.right.after.length rac) (.int .i64 x.right.cursor)
    refine bodyPost_ret (R.ret_cell rfl _ _ w.heap.size #[.int .i64 x.kind,.string x.name,.slice so x.set.length sc,.int .i64 x.dir,.bool x.left.start,.bool x.left.fin,.slice lbo x.left.before.length lbc,.slice lso x.left.source.length lsc,.slice lao x.left.after.length lac,.int .i64 x.left.cursor,.bool x.right.start,.bool x.right.fin,.slice rbo x.right.before.length rbc,.slice rso x.right.source.length rsc,.slice rao x.right.after.length rac,.int .i64 x.right.cursor] hbx Tryz.underlying109 (by kernel_rfl) rfl) rfl ?_
    skip
    exact⟨_,rfl,⟨⟨so,sc,lbo,lbc,lso,lsc,lao,lac,rbo,rbc,rso,rsc,rao,rac,rfl⟩,(HSe.out.cur hgr (by omega)).down (F':=w.heap.size) (by omega)⟩,HCe.out.apart hgr n1 HT1.out,R.grown_new HGe.out hgr (Nat.le_refl _)⟩
  ·go_wp2_with fail
   refine(need_no _ cb tb cap (p+1) ao l 58 (by decide) HC1.out h582).mono ?_
   unfold T.thrown
   rintro e w2 ⟨rfl,g2⟩
   go_wp2
   refine⟨rfl,?_⟩
   rw[<- HO.out];unfold R.part;rw[if_pos h58,if_pos h582]
   exact⟨rfl,S.grown_trans HG1.out g2⟩
 ·rw[if_neg h58] at C1
  have HC1:Hid (T.Cur w1 cb tb cap ao l p):=C1
  clear C1
  go_wp2_with fail
  refine(assigned_any _ cb tb cap p ao l HC1.out).mono ?_
  intro e w2 h
  have hcase:(∃er q,R.assignedAt l p= .bad er q/\R.part l p= .bad er q)∨(∃n q,R.assignedAt l p= .ok (some n) q/\R.named n=true/\R.part l p=(match T.setN 20 l (R.gap l q) with | .bad e r=> .bad e r | .ok s r=> .ok ⟨1,n,s,0,R.noSide,R.noSide⟩ r))∨(R.assignedAt l p= .ok none p/\R.part l p=R.rule l p):=by
   by_cases hv:R.varNext l p=true
   ·cases hc:R.varAt l p with
    | bad er q =>
     refine .inl ⟨er,q,?_,?_⟩
     ·unfold R.assignedAt;rw[if_pos hv,hc]
     ·unfold R.part;rw[if_neg h58,if_pos hv,hc]
    | ok n q =>
     by_cases h61:T.see l (R.gap l q)=61
     ·refine .inr (.inl ⟨n,R.gap l q+1,?_,(varAt_ok hc).1,?_⟩)
      ·unfold R.assignedAt;rw[if_pos hv,hc];simp only;rw[if_pos h61]
      ·unfold R.part;rw[if_neg h58,if_pos hv,hc];simp only;rw[if_pos h61];cases T.setN 20 l (R.gap l (R.gap l q+1)) <;> rfl
     ·refine .inr (.inr ⟨?_,?_⟩)
      ·unfold R.assignedAt;rw[if_pos hv,hc];simp only;rw[if_neg h61]
      ·unfold R.part;rw[if_neg h58,if_pos hv,hc];simp only;rw[if_neg h61]
   ·refine .inr (.inr ⟨?_,?_⟩)
    ·unfold R.assignedAt;rw[if_neg hv]
    ·unfold R.part;rw[if_neg h58,if_neg hv]
  rcases hcase with ⟨er,q,ha,hp⟩|⟨n,q,ha,hnm,hp⟩|⟨ha,hp⟩
  ·rw[ha] at h
   obtain⟨rfl,g2⟩:=h
   unfold T.thrown
   go_wp2
   refine⟨rfl,?_⟩
   rw[<- HO.out,hp]
   exact⟨rfl,S.grown_trans HG1.out g2⟩
  ·rw[ha] at h
   obtain⟨v2,rfl,hv2,C2,g2⟩:=h
   unfold R.isName at hv2
   simp only at hv2
   subst hv2
   have HX2:Hid _:=R.blk_grown HX1.out g2 n1
   have HG2:Hid (w.grownBy w2 (some cb)):=S.grown_trans HG1.out g2
   have HC2:Hid (T.Cur w2 cb tb cap ao l q):=C2
   have hF2:w.heap.size+1<=w2.heap.size:=by have:=g2.size;omega
   have HP:Hid _:=hp
   have hnl:=named_len hnm
   have HNm:Hid (n.size<=20):=hnl
   clear C2 g2 ha hp hnl hnm
   go_wp2_with fail
   refine(between_any _ cb tb cap q ao l HC2.out).mono ?_
   rintro e w3 ⟨rfl,C3,g3⟩
   have HX3:Hid _:=R.blk_grown HX2.out g3 n1
   have HG3:Hid (w.grownBy w3 (some cb)):=S.grown_trans HG2.out g3
   have HC3:Hid (T.Cur w3 cb tb cap ao l (R.gap l q)):=C3
   have hF3:w.heap.size+1<=w3.heap.size:=by have:=g3.size;omega
   clear C3 g3
   go_wp2_with fail
   refine(Set_any HK.out _ cb tb cap (R.gap l q) ao l HC3.out).mono ?_
   intro e w4 h
   cases hc:T.setN 20 l (R.gap l q) with
   | bad er r =>
    rw[hc] at h
    obtain⟨rfl,g4⟩:=h
    unfold T.thrown
    go_wp2
    refine⟨rfl,?_⟩
    rw[<- HO.out,HP.out,hc]
    exact⟨rfl,S.grown_trans HG3.out g4⟩
   | ok s r =>
    rw[hc] at h
    obtain⟨v4,rfl,⟨⟨hr4,hn4,_⟩,hf4⟩,C4,g4⟩:=h
    obtain⟨so,sc,hv4⟩:=hr4.len
    subst hv4
    have HS4:Hid (R.Stays (w.heap.size+1) none w4 fun w'=>S.Rd w' (.slice so s.length sc) s):=R.rd_stays hr4 (hf4.mono hF3)
    have HF4:Hid (S.Fit s):=S.Fit.of_nf hn4 (Int.le_refl _)
    have X4:=R.blk_grown HX3.out g4 n1
    have G4:=S.grown_trans HG3.out g4
    have HH:Hid _:=hc
    clear hc hr4 hn4 hf4 g4
    have k0:=R.at_box' (i:=0) X4 rfl
    have fk0:=R.free_box (i:=0) X4
    have k1:=R.at_box' (i:=1) X4 rfl
    have fk1:=R.free_box (i:=1) X4
    have k2:=R.at_box' (i:=2) X4 rfl
    have fk2:=R.free_box (i:=2) X4
    have k3:=R.at_box' (i:=3) X4 rfl
    have fk3:=R.free_box (i:=3) X4
    have k4:=R.at_box' (i:=4) X4 rfl
    have fk4:=R.free_box (i:=4) X4
    have k5:=R.at_box' (i:=5) X4 rfl
    have fk5:=R.free_box (i:=5) X4
    have k6:=R.at_box' (i:=6) X4 rfl
    have fk6:=R.free_box (i:=6) X4
    have k7:=R.at_box' (i:=7) X4 rfl
    have fk7:=R.free_box (i:=7) X4
    have k8:=R.at_box' (i:=8) X4 rfl
    have fk8:=R.free_box (i:=8) X4
    have k9:=R.at_box' (i:=9) X4 rfl
    have fk9:=R.free_box (i:=9) X4
    have k10:=R.at_box' (i:=10) X4 rfl
    have fk10:=R.free_box (i:=10) X4
    have k11:=R.at_box' (i:=11) X4 rfl
    have fk11:=R.free_box (i:=11) X4
    have k12:=R.at_box' (i:=12) X4 rfl
    have fk12:=R.free_box (i:=12) X4
    have k13:=R.at_box' (i:=13) X4 rfl
    have fk13:=R.free_box (i:=13) X4
    have k14:=R.at_box' (i:=14) X4 rfl
    have fk14:=R.free_box (i:=14) X4
    have k15:=R.at_box' (i:=15) X4 rfl
    have fk15:=R.free_box (i:=15) X4
    have HXe:Hid _:=X4
    have HCe:Hid _:=C4
    have HGe:Hid _:=G4
    clear X4 C4 G4
    go_wp2
    obtain⟨hbx,hgr⟩:=R.put16 HXe.out (.int .i64 1) (.string n) (.slice so s.length sc) (.int .i64 0) (.bool false) (.bool false) (.slice none 0 0) (.slice none 0 0) (.slice none 0 0) (.int .i64 0) (.bool false) (.bool false) (.slice none 0 0) (.slice none 0 0) (.slice none 0 0) (.int .i64 0)
    refine bodyPost_ret (R.ret_cell rfl _ _ w.heap.size #[.int .i64 1,.string n,.slice so s.length sc,.int .i64 0,.bool false,.bool false,.slice none 0 0,.slice none 0 0,.slice none 0 0,.int .i64 0,.bool false,.bool false,.slice none 0 0,.slice none 0 0,.slice none 0 0,.int .i64 0] hbx Tryz.underlying109 (by kernel_rfl) rfl) rfl ?_
    rw[<- HO.out,HP.out,HH.out]
    exact⟨_,rfl,⟨⟨so,sc,none,0,none,0,none,0,none,0,none,0,none,0,rfl⟩,((HS4.out.cur hgr (by omega)).down (F':=w.heap.size) (by omega)).imp fun w' h=>⟨so,sc,_,_,_,_,_,_,_,_,_,_,_,_,rfl,h,HF4.out,R.noSide_is w',R.noSide_is w',by have:=HNm.out;simp only;omega,by simp[R.I64]⟩⟩,HCe.out.apart hgr n1 HT1.out,R.grown_new HGe.out hgr (Nat.le_refl _)⟩
  ·rw[ha] at h
   obtain⟨v2,rfl,hv2,C2,g2⟩:=h
   unfold R.isName at hv2
   simp only at hv2
   subst hv2
   have HX2:Hid _:=R.blk_grown HX1.out g2 n1
   have HG2:Hid (w.grownBy w2 (some cb)):=S.grown_trans HG1.out g2
   have HC2:Hid (T.Cur w2 cb tb cap ao l p):=C2
   have hF2:w.heap.size+1<=w2.heap.size:=by have:=g2.size;omega
   have HP:Hid _:=hp
   clear C2 g2 ha hp
   go_wp2_with fail
   refine(rdRule_any HK.out _ cb tb cap p ao l HC2.out).mono ?_
   intro e w4 h
   have hoe:R.rule l p=o:=by rw[<- HO.out,HP.out]
   rw[hoe] at h
   cases o with
   | bad er q =>
    obtain⟨rfl,g4⟩:=h
    unfold T.thrown
    go_wp2
    exact⟨rfl,rfl,S.grown_trans HG2.out g4⟩
   | ok x q =>
    obtain⟨v4,rfl,⟨⟨so,sc,lbo,lbc,lso,lsc,lao,lac,rbo,rbc,rso,rsc,rao,rac,hv4⟩,s4⟩,C4,g4⟩:=h
    subst hv4
    have X4:=R.blk_grown HX2.out g4 n1
    have G4:=S.grown_trans HG2.out g4
    have S4:=s4.down hF2
    clear s4 g4 hoe
    have k0:=R.at_box' (i:=0) X4 rfl
    have fk0:=R.free_box (i:=0) X4
    have k1:=R.at_box' (i:=1) X4 rfl
    have fk1:=R.free_box (i:=1) X4
    have k2:=R.at_box' (i:=2) X4 rfl
    have fk2:=R.free_box (i:=2) X4
    have k3:=R.at_box' (i:=3) X4 rfl
    have fk3:=R.free_box (i:=3) X4
    have k4:=R.at_box' (i:=4) X4 rfl
    have fk4:=R.free_box (i:=4) X4
    have k5:=R.at_box' (i:=5) X4 rfl
    have fk5:=R.free_box (i:=5) X4
    have k6:=R.at_box' (i:=6) X4 rfl
    have fk6:=R.free_box (i:=6) X4
    have k7:=R.at_box' (i:=7) X4 rfl
    have fk7:=R.free_box (i:=7) X4
    have k8:=R.at_box' (i:=8) X4 rfl
    have fk8:=R.free_box (i:=8) X4
    have k9:=R.at_box' (i:=9) X4 rfl
    have fk9:=R.free_box (i:=9) X4
    have k10:=R.at_box' (i:=10) X4 rfl
    have fk10:=R.free_box (i:=10) X4
    have k11:=R.at_box' (i:=11) X4 rfl
    have fk11:=R.free_box (i:=11) X4
    have k12:=R.at_box' (i:=12) X4 rfl
    have fk12:=R.free_box (i:=12) X4
    have k13:=R.at_box' (i:=13) X4 rfl
    have fk13:=R.free_box (i:=13) X4
    have k14:=R.at_box' (i:=14) X4 rfl
    have fk14:=R.free_box (i:=14) X4
    have k15:=R.at_box' (i:=15) X4 rfl
    have fk15:=R.free_box (i:=15) X4
    have HXe:Hid _:=X4
    have HCe:Hid _:=C4
    have HGe:Hid _:=G4
    have HSe:Hid (R.Stays (w.heap.size+1) none w4 fun w'=>R.PtIs w' (.agg #[.int .i64 x.kind,.string x.name,.slice so x.set.length sc,.int .i64 x.dir,.bool x.left.start,.bool x.left.fin,.slice lbo x.left.before.length lbc,.slice lso x.left.source.length lsc,.slice lao x.left.after.length lac,.int .i64 x.left.cursor,.bool x.right.start,.bool x.right.fin,.slice rbo x.right.before.length rbc,.slice rso x.right.source.length rsc,.slice rao x.right.after.length rac,.int .i64 x.right.cursor]) x):=S4
    clear X4 C4 G4 S4
    go_wp2
    obtain⟨hbx,hgr⟩:=R.put16 HXe.out (.int .i64 x.kind) (.string x.name) (.slice so x.set.length sc) (.int .i64 x.dir) (.bool x.left.start) (.bool x.left.fin) (.slice lbo x.left.before.length lbc) (.slice lso x.left.source.length lsc) (.slice lao x.left.after.length lac) (.int .i64 x.left.cursor) (.bool x.right.start) (.bool x.right.fin) (.slice rbo x.right.before.length rbc) (.slice rso x.right.source.length rsc) (.slice rao x.right.after.length rac) (.int .i64 x.right.cursor)
    refine bodyPost_ret (R.ret_cell rfl _ _ w.heap.size #[.int .i64 x.kind,.string x.name,.slice so x.set.length sc,.int .i64 x.dir,.bool x.left.start,.bool x.left.fin,.slice lbo x.left.before.length lbc,.slice lso x.left.source.length lsc,.slice lao x.left.after.length lac,.int .i64 x.left.cursor,.bool x.right.start,.bool x.right.fin,.slice rbo x.right.before.length rbc,.slice rso x.right.source.length rsc,.slice rao x.right.after.length rac,.int .i64 x.right.cursor] hbx Tryz.underlying109 (by kernel_rfl) rfl) rfl ?_
    skip
    exact⟨_,rfl,⟨⟨so,sc,lbo,lbc,lso,lsc,lao,lac,rbo,rbc,rso,rsc,rao,rac,rfl⟩,(HSe.out.cur hgr (by omega)).down (F':=w.heap.size) (by omega)⟩,HCe.out.apart hgr n1 HT1.out,R.grown_new HGe.out hgr (Nat.le_refl _)⟩
set_option maxHeartbeats 16000000 in
theorem ended_at (hK:T.ClassOk)(w:World)(cb tb cap p:Nat)(ao:Option Addr)(l:List Int)(C:T.Cur w cb tb cap ao l p) :
  Calls Tryz.prog 72 #[.pointer (some ⟨cb,0,none⟩)] w (T.Ends w cb tb cap ao l (R.ended l p) (R.isPart w.heap.size)):=by
 have c0:=C.cell1
 have hlen:=C.len
 have hple:=C.le
 obtain⟨he1,he2⟩:=C.elder
 have HE2:Hid (l≠ []->tb<w.heap.size):=he2
 have HK:Hid T.ClassOk:=hK
 have HC:Hid (T.Cur w cb tb cap ao l p):=C
 clear C he2 hK
 have n1:¬w.heap.size=cb:=by omega
 have HT1:Hid (l≠ []->w.heap.size≠tb):=fun h=>by have:=HE2.out h;omega
 obtain⟨o,HO⟩:∃o,Hid (R.ended l p=o):=⟨_,rfl⟩
 rw[HO.out]
 go_enter Tryz.func72,Tryz.ntmps72
 go_wp2_with fail
 have bA:=(Below.refl _ w).alloc (Nat.le_refl _) (.cells #[.int .i64 0,.string ⟨#[]⟩,.slice none 0 0,.int .i64 0,.bool false,.bool false,.slice none 0 0,.slice none 0 0,.slice none 0 0,.int .i64 0,.bool false,.bool false,.slice none 0 0,.slice none 0 0,.slice none 0 0,.int .i64 0] 109)
 have x2:(w.alloc (.cells #[.int .i64 0,.string ⟨#[]⟩,.slice none 0 0,.int .i64 0,.bool false,.bool false,.slice none 0 0,.slice none 0 0,.slice none 0 0,.int .i64 0,.bool false,.bool false,.slice none 0 0,.slice none 0 0,.slice none 0 0,.int .i64 0] 109)).heap[w.heap.size]?=some (.cells #[.int .i64 0,.string ⟨#[]⟩,.slice none 0 0,.int .i64 0,.bool false,.bool false,.slice none 0 0,.slice none 0 0,.slice none 0 0,.int .i64 0,.bool false,.bool false,.slice none 0 0,.slice none 0 0,.slice none 0 0,.int .i64 0] 109):=heap_alloc_new w _
 have CW:=HC.out.below bA
 have GW:w.grownBy _ (some cb):=S.grown_below bA
 have hFW:w.heap.size+1<=(w.alloc (.cells #[.int .i64 0,.string ⟨#[]⟩,.slice none 0 0,.int .i64 0,.bool false,.bool false,.slice none 0 0,.slice none 0 0,.slice none 0 0,.int .i64 0,.bool false,.bool false,.slice none 0 0,.slice none 0 0,.slice none 0 0,.int .i64 0] 109)).heap.size:=by simp
 refine(part_at HK.out _ cb tb cap p ao l CW).mono ?_
 generalize w.alloc (.cells #[.int .i64 0,.string ⟨#[]⟩,.slice none 0 0,.int .i64 0,.bool false,.bool false,.slice none 0 0,.slice none 0 0,.slice none 0 0,.int .i64 0,.bool false,.bool false,.slice none 0 0,.slice none 0 0,.slice none 0 0,.int .i64 0] 109)=W0 at bA x2 CW GW hFW
 clear bA c0
 intro e w1 h
 cases hc:R.part l p with
 | bad er q =>
  rw[hc] at h
  obtain⟨rfl,g1⟩:=h
  unfold T.thrown
  go_wp2
  refine⟨rfl,?_⟩
  rw[<- HO.out];unfold R.ended;rw[hc]
  exact⟨rfl,S.grown_trans GW g1⟩
 | ok x q =>
  rw[hc] at h
  obtain⟨v1,rfl,⟨⟨so,sc,lbo,lbc,lso,lsc,lao,lac,rbo,rbc,rso,rsc,rao,rac,hv1⟩,s1⟩,C1,g1⟩:=h
  subst hv1
  have HH:Hid _:=hc
  have S1:=s1.down hFW
  have X1:=R.blk_grown x2 g1 n1
  have bB:=(Below.refl _ w1).alloc (Nat.le_refl _) (.cells #[.int .i64 x.kind,.string x.name,.slice so x.set.length sc,.int .i64 x.dir,.bool x.left.start,.bool x.left.fin,.slice lbo x.left.before.length lbc,.slice lso x.left.source.length lsc,.slice lao x.left.after.length lac,.int .i64 x.left.cursor,.bool x.right.start,.bool x.right.fin,.slice rbo x.right.before.length rbc,.slice rso x.right.source.length rsc,.slice rao x.right.after.length rac,.int .i64 x.right.cursor] 109)
  have Y2:(w1.alloc (.cells #[.int .i64 x.kind,.string x.name,.slice so x.set.length sc,.int .i64 x.dir,.bool x.left.start,.bool x.left.fin,.slice lbo x.left.before.length lbc,.slice lso x.left.source.length lsc,.slice lao x.left.after.length lac,.int .i64 x.left.cursor,.bool x.right.start,.bool x.right.fin,.slice rbo x.right.before.length rbc,.slice rso x.right.source.length rsc,.slice rao x.right.after.length rac,.int .i64 x.right.cursor] 109)).heap[w1.heap.size]?=some (.cells #[.int .i64 x.kind,.string x.name,.slice so x.set.length sc,.int .i64 x.dir,.bool x.left.start,.bool x.left.fin,.slice lbo x.left.before.length lbc,.slice lso x.left.source.length lsc,.slice lao x.left.after.length lac,.int .i64 x.left.cursor,.bool x.right.start,.bool x.right.fin,.slice rbo x.right.before.length rbc,.slice rso x.right.source.length rsc,.slice rao x.right.after.length rac,.int .i64 x.right.cursor] 109):=heap_alloc_new w1 _
  have HX2:Hid _:=R.blk_below X1 bB
  have HC2:Hid (T.Cur (w1.alloc (.cells #[.int .i64 x.kind,.string x.name,.slice so x.set.length sc,.int .i64 x.dir,.bool x.left.start,.bool x.left.fin,.slice lbo x.left.before.length lbc,.slice lso x.left.source.length lsc,.slice lao x.left.after.length lac,.int .i64 x.left.cursor,.bool x.right.start,.bool x.right.fin,.slice rbo x.right.before.length rbc,.slice rso x.right.source.length rsc,.slice rao x.right.after.length rac,.int .i64 x.right.cursor] 109)) cb tb cap ao l q):=C1.below bB
  have HG2:Hid (w.grownBy (w1.alloc (.cells #[.int .i64 x.kind,.string x.name,.slice so x.set.length sc,.int .i64 x.dir,.bool x.left.start,.bool x.left.fin,.slice lbo x.left.before.length lbc,.slice lso x.left.source.length lsc,.slice lao x.left.after.length lac,.int .i64 x.left.cursor,.bool x.right.start,.bool x.right.fin,.slice rbo x.right.before.length rbc,.slice rso x.right.source.length rsc,.slice rao x.right.after.length rac,.int .i64 x.right.cursor] 109)) (some cb)):=S.grown_trans (S.grown_trans GW g1) (S.grown_below bB)
  have HS2:Hid (R.Stays (w.heap.size+1) none (w1.alloc (.cells #[.int .i64 x.kind,.string x.name,.slice so x.set.length sc,.int .i64 x.dir,.bool x.left.start,.bool x.left.fin,.slice lbo x.left.before.length lbc,.slice lso x.left.source.length lsc,.slice lao x.left.after.length lac,.int .i64 x.left.cursor,.bool x.right.start,.bool x.right.fin,.slice rbo x.right.before.length rbc,.slice rso x.right.source.length rsc,.slice rao x.right.after.length rac,.int .i64 x.right.cursor] 109)) fun w'=>R.PtIs w' (.agg #[.int .i64 x.kind,.string x.name,.slice so x.set.length sc,.int .i64 x.dir,.bool x.left.start,.bool x.left.fin,.slice lbo x.left.before.length lbc,.slice lso x.left.source.length lsc,.slice lao x.left.after.length lac,.int .i64 x.left.cursor,.bool x.right.start,.bool x.right.fin,.slice rbo x.right.before.length rbc,.slice rso x.right.source.length rsc,.slice rao x.right.after.length rac,.int .i64 x.right.cursor]) x):=S1.below bB
  have HY2:Hid _:=Y2
  have n2:¬w1.heap.size=cb:=by have:=C1.lt;omega
  clear s1 S1 X1 Y2 bB C1 g1 x2 GW CW hc
  go_wp2_with fail
  refine(between_any _ cb tb cap q ao l HC2.out).mono ?_
  rintro e w3 ⟨rfl,C3,g3⟩
  obtain⟨r,HR⟩:∃r,Hid (R.gap l q=r):=⟨_,rfl⟩
  rw[HR.out] at C3
  have HX3:Hid _:=R.blk_grown HX2.out g3 n1
  have HY3:Hid _:=R.blk_grown HY2.out g3 n2
  have HC3:Hid (T.Cur w3 cb tb cap ao l r):=C3
  have HG3:Hid (w.grownBy w3 (some cb)):=S.grown_trans HG2.out g3
  have HS3:Hid (R.Stays (w.heap.size+1) none w3 fun w'=>R.PtIs w' (.agg #[.int .i64 x.kind,.string x.name,.slice so x.set.length sc,.int .i64 x.dir,.bool x.left.start,.bool x.left.fin,.slice lbo x.left.before.length lbc,.slice lso x.left.source.length lsc,.slice lao x.left.after.length lac,.int .i64 x.left.cursor,.bool x.right.start,.bool x.right.fin,.slice rbo x.right.before.length rbc,.slice rso x.right.source.length rsc,.slice rao x.right.after.length rac,.int .i64 x.right.cursor]) x):=HS2.out.cur g3 (by omega)
  clear C3 g3 HX2 HY2 HC2 HG2 HS2
  by_cases h59:T.see l r=59
  ·go_wp2_with fail
   refine(need_yes _ cb tb cap r ao l 59 (by decide) HC3.out h59).mono ?_
   rintro e w4 ⟨rfl,C4,g4⟩
   have y4:=R.blk_grown HY3.out g4 n2
   have HX4:Hid _:=R.blk_grown HX3.out g4 n1
   have HY4:Hid _:=y4
   have HC4:Hid (T.Cur w4 cb tb cap ao l (r+1)):=C4
   have HG4:Hid (w.grownBy w4 (some cb)):=S.grown_trans HG3.out g4
   have HS4:Hid (R.Stays (w.heap.size+1) none w4 fun w'=>R.PtIs w' (.agg #[.int .i64 x.kind,.string x.name,.slice so x.set.length sc,.int .i64 x.dir,.bool x.left.start,.bool x.left.fin,.slice lbo x.left.before.length lbc,.slice lso x.left.source.length lsc,.slice lao x.left.after.length lac,.int .i64 x.left.cursor,.bool x.right.start,.bool x.right.fin,.slice rbo x.right.before.length rbc,.slice rso x.right.source.length rsc,.slice rao x.right.after.length rac,.int .i64 x.right.cursor]) x):=HS3.out.cur g4 (by omega)
   have d0:=R.at_box' (i:=0) y4 rfl
   have d1:=R.at_box' (i:=1) y4 rfl
   have d2:=R.at_box' (i:=2) y4 rfl
   have d3:=R.at_box' (i:=3) y4 rfl
   have d4:=R.at_box' (i:=4) y4 rfl
   have d5:=R.at_box' (i:=5) y4 rfl
   have d6:=R.at_box' (i:=6) y4 rfl
   have d7:=R.at_box' (i:=7) y4 rfl
   have d8:=R.at_box' (i:=8) y4 rfl
   have d9:=R.at_box' (i:=9) y4 rfl
   have d10:=R.at_box' (i:=10) y4 rfl
   have d11:=R.at_box' (i:=11) y4 rfl
   have d12:=R.at_box' (i:=12) y4 rfl
   have d13:=R.at_box' (i:=13) y4 rfl
   have d14:=R.at_box' (i:=14) y4 rfl
   have d15:=R.at_box' (i:=15) y4 rfl
   clear C4 g4 y4 HX3 HY3 HC3 HG3 HS3
   go_wp2_with fail
   refine(wrongPart_any _ _ x HS4.out.here).mono ?_
   rintro e w5 ⟨rfl,b5⟩
   have X5:=R.blk_below HX4.out b5
   have y5:=R.blk_below HY4.out b5
   have C5:=HC4.out.below b5
   have G5:=S.grown_trans HG4.out (S.grown_below (r:=some cb) b5)
   have S5:=HS4.out.below b5
   clear b5 HX4 HY4 HC4 HG4 HS4 d0 d1 d2 d3 d4 d5 d6 d7 d8 d9 d10 d11 d12 d13 d14 d15
   obtain⟨er,HEr⟩:∃er,Hid (R.partE x=er):=⟨_,rfl⟩
   rw[HEr.out]
   by_cases he:er=0
   ·subst he
    have d0:=R.at_box' (i:=0) y5 rfl
    have d1:=R.at_box' (i:=1) y5 rfl
    have d2:=R.at_box' (i:=2) y5 rfl
    have d3:=R.at_box' (i:=3) y5 rfl
    have d4:=R.at_box' (i:=4) y5 rfl
    have d5:=R.at_box' (i:=5) y5 rfl
    have d6:=R.at_box' (i:=6) y5 rfl
    have d7:=R.at_box' (i:=7) y5 rfl
    have d8:=R.at_box' (i:=8) y5 rfl
    have d9:=R.at_box' (i:=9) y5 rfl
    have d10:=R.at_box' (i:=10) y5 rfl
    have d11:=R.at_box' (i:=11) y5 rfl
    have d12:=R.at_box' (i:=12) y5 rfl
    have d13:=R.at_box' (i:=13) y5 rfl
    have d14:=R.at_box' (i:=14) y5 rfl
    have d15:=R.at_box' (i:=15) y5 rfl
    clear y5
    have k0:=R.at_box' (i:=0) X5 rfl
    have fk0:=R.free_box (i:=0) X5
    have k1:=R.at_box' (i:=1) X5 rfl
    have fk1:=R.free_box (i:=1) X5
    have k2:=R.at_box' (i:=2) X5 rfl
    have fk2:=R.free_box (i:=2) X5
    have k3:=R.at_box' (i:=3) X5 rfl
    have fk3:=R.free_box (i:=3) X5
    have k4:=R.at_box' (i:=4) X5 rfl
    have fk4:=R.free_box (i:=4) X5
    have k5:=R.at_box' (i:=5) X5 rfl
    have fk5:=R.free_box (i:=5) X5
    have k6:=R.at_box' (i:=6) X5 rfl
    have fk6:=R.free_box (i:=6) X5
    have k7:=R.at_box' (i:=7) X5 rfl
    have fk7:=R.free_box (i:=7) X5
    have k8:=R.at_box' (i:=8) X5 rfl
    have fk8:=R.free_box (i:=8) X5
    have k9:=R.at_box' (i:=9) X5 rfl
    have fk9:=R.free_box (i:=9) X5
    have k10:=R.at_box' (i:=10) X5 rfl
    have fk10:=R.free_box (i:=10) X5
    have k11:=R.at_box' (i:=11) X5 rfl
    have fk11:=R.free_box (i:=11) X5
    have k12:=R.at_box' (i:=12) X5 rfl
    have fk12:=R.free_box (i:=12) X5
    have k13:=R.at_box' (i:=13) X5 rfl
    have fk13:=R.free_box (i:=13) X5
    have k14:=R.at_box' (i:=14) X5 rfl
    have fk14:=R.free_box (i:=14) X5
    have k15:=R.at_box' (i:=15) X5 rfl
    have fk15:=R.free_box (i:=15) X5
    have HXe:Hid _:=X5
    have HCe:Hid _:=C5
    have HGe:Hid _:=G5
    have HSe:Hid (R.Stays (w.heap.size+1) none w5 fun w'=>R.PtIs w' (.agg #[.int .i64 x.kind,.string x.name,.slice so x.set.length sc,.int .i64 x.dir,.bool x.left.start,.bool x.left.fin,.slice lbo x.left.before.length lbc,.slice lso x.left.source.length lsc,.slice lao x.left.after.length lac,.int .i64 x.left.cursor,.bool x.right.start,.bool x.right.fin,.slice rbo x.right.before.length rbc,.slice rso x.right.source.length rsc,.slice rao x.right.after.length rac,.int .i64 x.right.cursor]) x):=S5
    clear X5 C5 G5 S5
    go_wp2
    obtain⟨hbx,hgr⟩:=R.put16 HXe.out (.int .i64 x.kind) (.string x.name) (.slice so x.set.length sc) (.int .i64 x.dir) (.bool x.left.start) (.bool x.left.fin) (.slice lbo x.left.before.length lbc) (.slice lso x.left.source.length lsc) (.slice lao x.left.after.length lac) (.int .i64 x.left.cursor) (.bool x.right.start) (.bool x.right.fin) (.slice rbo x.right.before.length rbc) (.slice rso x.right.source.length rsc) (.slice rao x.right.after.length rac) (.int .i64 x.right.cursor)
    refine bodyPost_ret (R.ret_cell rfl _ _ w.heap.size #[.int .i64 x.kind,.string x.name,.slice so x.set.length sc,.int .i64 x.dir,.bool x.left.start,.bool x.left.fin,.slice lbo x.left.before.length lbc,.slice lso x.left.source.length lsc,.slice lao x.left.after.length lac,.int .i64 x.left.cursor,.bool x.right.start,.bool x.right.fin,.slice rbo x.right.before.length rbc,.slice rso x.right.source.length rsc,.slice rao x.right.after.length rac,.int .i64 x.right.cursor] hbx Tryz.underlying109 (by kernel_rfl) rfl) rfl ?_
    rw[<- HO.out];unfold R.ended;rw[HH.out];simp only;rw[HR.out,if_neg (by simp[h59]),HEr.out,if_neg (by simp)]
    exact⟨_,rfl,⟨⟨so,sc,lbo,lbc,lso,lsc,lao,lac,rbo,rbc,rso,rsc,rao,rac,rfl⟩,(HSe.out.cur hgr (by omega)).down (F':=w.heap.size) (by omega)⟩,HCe.out.apart hgr n1 HT1.out,R.grown_new HGe.out hgr (Nat.le_refl _)⟩
   ·have he':(er==0)=false:=by simp[he]
    have HG5:Hid _:=G5
    clear X5 y5 C5 G5 S5
    go_wp2_with (go_at_call 38;refine(fail_any _ er p).mono ?_;unfold T.thrown;rintro e w6 ⟨rfl,rfl⟩)
    refine⟨rfl,?_⟩
    rw[<- HO.out];unfold R.ended;rw[HH.out];simp only;rw[HR.out,if_neg (by simp[h59]),HEr.out,if_pos he]
    exact⟨rfl,HG5.out⟩
  ·go_wp2_with fail
   refine(need_no _ cb tb cap r ao l 59 (by decide) HC3.out h59).mono ?_
   unfold T.thrown
   rintro e w4 ⟨rfl,g4⟩
   go_wp2
   refine⟨rfl,?_⟩
   rw[<- HO.out];unfold R.ended;rw[HH.out];simp only;rw[HR.out,if_pos h59]
   exact⟨rfl,S.grown_trans HG3.out g4⟩
end Go.Proofs.YtmcljejgbikbhaaGreatDoor
