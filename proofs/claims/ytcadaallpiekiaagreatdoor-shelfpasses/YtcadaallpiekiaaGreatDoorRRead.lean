import Derived.Test.YtcadaallpiekiaaGreatDoorRWrong3
import Derived.Defers
import Derived.Recover
set_option maxHeartbeats 0
set_option maxRecDepth 20000
set_option linter.unusedSimpArgs false
set_option linter.unusedVariables false
namespace Go.Proofs.YtcadaallpiekiaaGreatDoor
open Go.Proofs.Tryz
section
open Go.RowKit
theorem zm8 {n:ByteArray}(h:R.passes n=true):n.size<=20:=by
 unfold R.passes at h;have h:=of_decide_eq_true h;have e:n.toList.length=n.size:=by rw[ByteArray.toList_eq];simp
 rcases h with h|h|h|h <;> rw[h] at e <;> simp at e <;> omega
theorem zrg (hK:T.ClassOk)(w:World)(cb tb cap p:Nat)(ao:Option Addr)(l:List Int)(hne:l≠ [])(C:T.Cur w cb tb cap ao l p) :
  Calls prog 109 #[.pointer (some ⟨cb,0,none⟩)] w (T.Ends w cb tb cap ao l (R.wholeAt l p) (R.isPart w.heap.size)):=by
 obtain⟨he1,he2⟩:=C.elder;have HE2:=qH he2;have HK:=qH hK;have HC:=qH C;clear C he2 hK;have n1:¬w.heap.size=cb:=by omega
 have HT1:Hid (l≠ []->w.heap.size≠tb):=fun h=>by have:=HE2.out h;omega
 obtain⟨o,HO⟩:∃o,Hid (R.wholeAt l p=o):=⟨_,rfl⟩;rw[HO.out]
 go_enter func109,ntmps109
 go_wp2_with fail
 have bA:=(qR w).alloc qN (.cells #[.int .i64 0,.string ⟨#[]⟩,.slice none 0 0,.int .i64 0,.bool false,.bool false,.slice none 0 0,.slice none 0 0,.slice none 0 0,.int .i64 0,.bool false,.bool false,.slice none 0 0,.slice none 0 0,.slice none 0 0,.int .i64 0] 104);have x2:(w.alloc (.cells #[.int .i64 0,.string ⟨#[]⟩,.slice none 0 0,.int .i64 0,.bool false,.bool false,.slice none 0 0,.slice none 0 0,.slice none 0 0,.int .i64 0,.bool false,.bool false,.slice none 0 0,.slice none 0 0,.slice none 0 0,.int .i64 0] 104)).heap[w.heap.size]?=some (.cells #[.int .i64 0,.string ⟨#[]⟩,.slice none 0 0,.int .i64 0,.bool false,.bool false,.slice none 0 0,.slice none 0 0,.slice none 0 0,.int .i64 0,.bool false,.bool false,.slice none 0 0,.slice none 0 0,.slice none 0 0,.int .i64 0] 104):=heap_alloc_new w _;have CW:=HC.out.below bA;have GW:w.grownBy _ (some cb):=S.zaf bA;have hFW:w.heap.size+1<=(w.alloc (.cells #[.int .i64 0,.string ⟨#[]⟩,.slice none 0 0,.int .i64 0,.bool false,.bool false,.slice none 0 0,.slice none 0 0,.slice none 0 0,.int .i64 0,.bool false,.bool false,.slice none 0 0,.slice none 0 0,.slice none 0 0,.int .i64 0] 104)).heap.size:=by simp
 refine(zbq _ cb tb cap p ao l 91 CW).mono ?_;generalize w.alloc (.cells #[.int .i64 0,.string ⟨#[]⟩,.slice none 0 0,.int .i64 0,.bool false,.bool false,.slice none 0 0,.slice none 0 0,.slice none 0 0,.int .i64 0,.bool false,.bool false,.slice none 0 0,.slice none 0 0,.slice none 0 0,.int .i64 0] 104)=W0 at bA x2 CW GW hFW;clear bA;rintro e w1 ⟨rfl,b1⟩;have x21:=R.zae x2 b1;have C1:=CW.below b1;have c1:=C1.cell1;have G1:=S.zaa GW (S.zaf (r:=some cb) b1);have hF1:w.heap.size+1<=w1.heap.size:=by have:=b1.size;omega
 clear x2 CW GW b1 hFW;have hpl:=C1.le;have hln:=C1.len
 by_cases h91:T.see l p=91
 ·clear c1;have HX1:Hid _:=x21;have HC1:Hid _:=C1;have HG1:Hid _:=G1;clear x21 C1 G1
  go_wp2_with fail
  refine(zlm HK.out _ cb tb cap p ao l HC1.out).mono ?_;intro e w2 h;cases hc:T.setN 20 l p with
  | bad er q =>
   rw[hc] at h;obtain⟨rfl,g2⟩:=h;unfold T.thrown;go_wp2;refine⟨rfl,?_⟩;rw[<- HO.out];unfold R.wholeAt;rw[if_pos h91,hc];exact⟨rfl,S.zaa HG1.out g2⟩
  | ok s q =>
   rw[hc] at h;obtain⟨v2,rfl,⟨⟨hr2,hn2,_⟩,hf2⟩,C2,g2⟩:=h;obtain⟨so,sc,hv2⟩:=hr2.len;subst hv2;have HS2:=qH<|R.zdx hr2 (hf2.mono hF1);have HF2:=qH<|S.Fit.zdh hn2 (Int.le_refl _);have X2:=R.zah HX1.out g2 n1;have G2:=S.zaa HG1.out g2;have HH:Hid _:=hc;clear hc hr2 hn2 hf2 g2;have k0:=R.zab (i:=0) X2 rfl;have fk0:=R.zac (i:=0) X2;have k1:=R.zab (i:=1) X2 rfl;have fk1:=R.zac (i:=1) X2;have k2:=R.zab (i:=2) X2 rfl;have fk2:=R.zac (i:=2) X2;have k3:=R.zab (i:=3) X2 rfl;have fk3:=R.zac (i:=3) X2;have k4:=R.zab (i:=4) X2 rfl;have fk4:=R.zac (i:=4) X2;have k5:=R.zab (i:=5) X2 rfl;have fk5:=R.zac (i:=5) X2;have k6:=R.zab (i:=6) X2 rfl;have fk6:=R.zac (i:=6) X2;have k7:=R.zab (i:=7) X2 rfl;have fk7:=R.zac (i:=7) X2;have k8:=R.zab (i:=8) X2 rfl;have fk8:=R.zac (i:=8) X2;have k9:=R.zab (i:=9) X2 rfl;have fk9:=R.zac (i:=9) X2;have k10:=R.zab (i:=10) X2 rfl;have fk10:=R.zac (i:=10) X2;have k11:=R.zab (i:=11) X2 rfl;have fk11:=R.zac (i:=11) X2;have k12:=R.zab (i:=12) X2 rfl;have fk12:=R.zac (i:=12) X2;have k13:=R.zab (i:=13) X2 rfl;have fk13:=R.zac (i:=13) X2;have k14:=R.zab (i:=14) X2 rfl;have fk14:=R.zac (i:=14) X2;have k15:=R.zab (i:=15) X2 rfl;have fk15:=R.zac (i:=15) X2;have HXe:Hid _:=X2;have HCe:Hid _:=C2;have HGe:Hid _:=G2;clear X2 C2 G2;go_wp2;obtain⟨hbx,hgr⟩:=R.put16 HXe.out (.int .i64 3) (.string ⟨#[]⟩) (.slice so s.length sc) (.int .i64 0) (.bool false) (.bool false) (.slice none 0 0) (.slice none 0 0) (.slice none 0 0) (.int .i64 0) (.bool false) (.bool false) (.slice none 0 0) (.slice none 0 0) (.slice none 0 0) (.int .i64 0);refine bodyPost_ret (R.za2 rfl _ _ w.heap.size #[.int .i64 3,.string ⟨#[]⟩,.slice so s.length sc,.int .i64 0,.bool false,.bool false,.slice none 0 0,.slice none 0 0,.slice none 0 0,.int .i64 0,.bool false,.bool false,.slice none 0 0,.slice none 0 0,.slice none 0 0,.int .i64 0] hbx underlying104 (by kernel_rfl) rfl) rfl ?_;rw[<- HO.out];unfold R.wholeAt;rw[if_pos h91,HH.out];exact⟨_,rfl,⟨⟨so,sc,none,0,none,0,none,0,none,0,none,0,none,0,rfl⟩,((HS2.out.cur hgr (by omega)).down (F':=w.heap.size) (by omega)).imp fun w' h=>⟨so,sc,_,_,_,_,_,_,_,_,_,_,_,_,rfl,h,HF2.out,R.zcd w',R.zcd w',Nat.zero_le _,by simp[R.I64]⟩⟩,HCe.out.apart hgr n1 HT1.out,R.zam HGe.out hgr qN⟩
 ·have HX1:Hid _:=x21;have HC1:Hid _:=C1;have HG1:Hid _:=G1;clear x21 C1 G1
  go_wp2_with fail
  refine(zlo _ cb tb cap p ao l hne HC1.out).mono ?_;rintro e w2 ⟨rfl,C2,g2⟩;obtain⟨n,HN⟩:∃n,Hid (R.wordAt l p=n):=⟨_,rfl⟩;rw[HN.out];have HX2:Hid _:=R.zah HX1.out g2 n1;have HG2:Hid _:=S.zaa HG1.out g2;have HC2:Hid _:=C2;clear C2 g2 c1
  go_wp2_with fail
  refine(zem n _).mono ?_;rintro e w3 ⟨rfl,rfl⟩;have X3:=HX2.out;have C3:=HC2.out;have G3:=HG2.out
  by_cases hps:R.passes n=true
  ·have hnm:=zm8 hps;have HNm:=qH hnm;clear hnm;have k0:=R.zab (i:=0) X3 rfl;have fk0:=R.zac (i:=0) X3;have k1:=R.zab (i:=1) X3 rfl;have fk1:=R.zac (i:=1) X3;have k2:=R.zab (i:=2) X3 rfl;have fk2:=R.zac (i:=2) X3;have k3:=R.zab (i:=3) X3 rfl;have fk3:=R.zac (i:=3) X3;have k4:=R.zab (i:=4) X3 rfl;have fk4:=R.zac (i:=4) X3;have k5:=R.zab (i:=5) X3 rfl;have fk5:=R.zac (i:=5) X3;have k6:=R.zab (i:=6) X3 rfl;have fk6:=R.zac (i:=6) X3;have k7:=R.zab (i:=7) X3 rfl;have fk7:=R.zac (i:=7) X3;have k8:=R.zab (i:=8) X3 rfl;have fk8:=R.zac (i:=8) X3;have k9:=R.zab (i:=9) X3 rfl;have fk9:=R.zac (i:=9) X3;have k10:=R.zab (i:=10) X3 rfl;have fk10:=R.zac (i:=10) X3;have k11:=R.zab (i:=11) X3 rfl;have fk11:=R.zac (i:=11) X3;have k12:=R.zab (i:=12) X3 rfl;have fk12:=R.zac (i:=12) X3;have k13:=R.zab (i:=13) X3 rfl;have fk13:=R.zac (i:=13) X3;have k14:=R.zab (i:=14) X3 rfl;have fk14:=R.zac (i:=14) X3;have k15:=R.zab (i:=15) X3 rfl;have fk15:=R.zac (i:=15) X3;have HXe:Hid _:=X3;have HCe:Hid _:=C3;have HGe:Hid _:=G3;clear X3 C3 G3;go_wp2;obtain⟨hbx,hgr⟩:=R.put16 HXe.out (.int .i64 4) (.string n) (.slice none 0 0) (.int .i64 0) (.bool false) (.bool false) (.slice none 0 0) (.slice none 0 0) (.slice none 0 0) (.int .i64 0) (.bool false) (.bool false) (.slice none 0 0) (.slice none 0 0) (.slice none 0 0) (.int .i64 0);refine bodyPost_ret (R.za2 rfl _ _ w.heap.size #[.int .i64 4,.string n,.slice none 0 0,.int .i64 0,.bool false,.bool false,.slice none 0 0,.slice none 0 0,.slice none 0 0,.int .i64 0,.bool false,.bool false,.slice none 0 0,.slice none 0 0,.slice none 0 0,.int .i64 0] hbx underlying104 (by kernel_rfl) rfl) rfl ?_;rw[<- HO.out];unfold R.wholeAt;rw[if_neg h91,HN.out,if_pos hps];exact⟨_,rfl,⟨⟨none,0,none,0,none,0,none,0,none,0,none,0,none,0,rfl⟩,fun w' _=>⟨none,0,_,_,_,_,_,_,_,_,_,_,_,_,rfl,S.Rd.nil w',(fun x hx=>(by cases hx)),R.zcd w',R.zcd w',by have:=HNm.out;simp only;omega,by simp[R.I64]⟩⟩,HCe.out.apart hgr n1 HT1.out,R.zam HGe.out hgr qN⟩
  ·have HG3:Hid _:=G3;clear X3 C3 G3
   go_wp2_with (go_at_call 29;refine(zaw _ 7 p).mono ?_;unfold T.thrown;rintro e w4 ⟨rfl,rfl⟩)
   refine⟨rfl,?_⟩;rw[<- HO.out];unfold R.wholeAt;rw[if_neg h91,HN.out,if_neg hps];exact⟨rfl,HG3.out⟩
theorem zua (hK:T.ClassOk)(w:World)(cb tb cap p:Nat)(ao:Option Addr)(l:List Int)(C:T.Cur w cb tb cap ao l p) :
  Calls prog 85 #[.pointer (some ⟨cb,0,none⟩)] w (T.Ends w cb tb cap ao l (R.part l p) (R.isPart w.heap.size)):=by
 obtain⟨he1,he2⟩:=C.elder;have HE2:=qH he2;have HK:=qH hK;have HC:=qH C;clear C he2 hK;have n1:¬w.heap.size=cb:=by omega
 have HT1:Hid (l≠ []->w.heap.size≠tb):=fun h=>by have:=HE2.out h;omega
 obtain⟨o,HO⟩:∃o,Hid (R.part l p=o):=⟨_,rfl⟩;rw[HO.out]
 go_enter func85,ntmps85
 go_wp2_with fail
 have bA:=(qR w).alloc qN (.cells #[.int .i64 0,.string ⟨#[]⟩,.slice none 0 0,.int .i64 0,.bool false,.bool false,.slice none 0 0,.slice none 0 0,.slice none 0 0,.int .i64 0,.bool false,.bool false,.slice none 0 0,.slice none 0 0,.slice none 0 0,.int .i64 0] 104);have x2:(w.alloc (.cells #[.int .i64 0,.string ⟨#[]⟩,.slice none 0 0,.int .i64 0,.bool false,.bool false,.slice none 0 0,.slice none 0 0,.slice none 0 0,.int .i64 0,.bool false,.bool false,.slice none 0 0,.slice none 0 0,.slice none 0 0,.int .i64 0] 104)).heap[w.heap.size]?=some (.cells #[.int .i64 0,.string ⟨#[]⟩,.slice none 0 0,.int .i64 0,.bool false,.bool false,.slice none 0 0,.slice none 0 0,.slice none 0 0,.int .i64 0,.bool false,.bool false,.slice none 0 0,.slice none 0 0,.slice none 0 0,.int .i64 0] 104):=heap_alloc_new w _;have CW:=HC.out.below bA;have GW:w.grownBy _ (some cb):=S.zaf bA;have hFW:w.heap.size+1<=(w.alloc (.cells #[.int .i64 0,.string ⟨#[]⟩,.slice none 0 0,.int .i64 0,.bool false,.bool false,.slice none 0 0,.slice none 0 0,.slice none 0 0,.int .i64 0,.bool false,.bool false,.slice none 0 0,.slice none 0 0,.slice none 0 0,.int .i64 0] 104)).heap.size:=by simp
 refine(zaq _ cb tb cap p ao l 58 (by decide) CW).mono ?_;generalize w.alloc (.cells #[.int .i64 0,.string ⟨#[]⟩,.slice none 0 0,.int .i64 0,.bool false,.bool false,.slice none 0 0,.slice none 0 0,.slice none 0 0,.int .i64 0,.bool false,.bool false,.slice none 0 0,.slice none 0 0,.slice none 0 0,.int .i64 0] 104)=W0 at bA x2 CW GW hFW;clear bA;rintro e w1 ⟨rfl,C1,g1⟩;have HX1:Hid _:=R.zah x2 g1 n1;have HG1:=qH<|S.zaa GW g1;have hF1:w.heap.size+1<=w1.heap.size:=by have:=g1.size;omega
 clear x2 GW g1 CW
 by_cases h58:T.see l p=58
 ·rw[if_pos h58] at C1;have HC1:=qH C1;have hne:l≠ []:=by intro h;subst h;cases h58
  clear C1
  by_cases h582:T.see l (p+1)=58
  ·go_wp2_with fail
   refine(za0 _ cb tb cap (p+1) ao l 58 (by decide) HC1.out h582).mono ?_;rintro e w2 ⟨rfl,C2,g2⟩;have HX2:Hid _:=R.zah HX1.out g2 n1;have HG2:=qH<|S.zaa HG1.out g2;have HC2:Hid (T.Cur w2 cb tb cap ao l (p+2)):=C2;have hF2:w.heap.size+1<=w2.heap.size:=by have:=g2.size;omega
   clear C2 g2
   go_wp2_with fail
   refine(zaz _ cb tb cap (p+2) ao l HC2.out).mono ?_;rintro e w3 ⟨rfl,C3,g3⟩;have HX3:Hid _:=R.zah HX2.out g3 n1;have HG3:=qH<|S.zaa HG2.out g3;have HC3:=qH C3;have hF3:w.heap.size+1<=w3.heap.size:=by have:=g3.size;omega
   clear C3 g3
   go_wp2_with fail
   refine(zrg HK.out _ cb tb cap (R.gap l (p+2)) ao l hne HC3.out).mono ?_;intro e w4 h;have hoe:R.wholeAt l (R.gap l (p+2))=o:=by rw[<- HO.out];unfold R.part;rw[if_pos h58,if_neg (by simp[h582])]
   rw[hoe] at h;cases o with
   | bad er q =>
    obtain⟨rfl,g4⟩:=h;unfold T.thrown;go_wp2;exact⟨rfl,rfl,S.zaa HG3.out g4⟩
   | ok x q =>
    obtain⟨v4,rfl,⟨⟨so,sc,lbo,lbc,lso,lsc,lao,lac,rbo,rbc,rso,rsc,rao,rac,hv4⟩,s4⟩,C4,g4⟩:=h;subst hv4;have X4:=R.zah HX3.out g4 n1;have G4:=S.zaa HG3.out g4;have S4:=s4.down hF3;clear s4 g4 hoe;have k0:=R.zab (i:=0) X4 rfl;have fk0:=R.zac (i:=0) X4;have k1:=R.zab (i:=1) X4 rfl;have fk1:=R.zac (i:=1) X4;have k2:=R.zab (i:=2) X4 rfl;have fk2:=R.zac (i:=2) X4;have k3:=R.zab (i:=3) X4 rfl;have fk3:=R.zac (i:=3) X4;have k4:=R.zab (i:=4) X4 rfl;have fk4:=R.zac (i:=4) X4;have k5:=R.zab (i:=5) X4 rfl;have fk5:=R.zac (i:=5) X4;have k6:=R.zab (i:=6) X4 rfl;have fk6:=R.zac (i:=6) X4;have k7:=R.zab (i:=7) X4 rfl;have fk7:=R.zac (i:=7) X4;have k8:=R.zab (i:=8) X4 rfl;have fk8:=R.zac (i:=8) X4;have k9:=R.zab (i:=9) X4 rfl;have fk9:=R.zac (i:=9) X4;have k10:=R.zab (i:=10) X4 rfl;have fk10:=R.zac (i:=10) X4;have k11:=R.zab (i:=11) X4 rfl;have fk11:=R.zac (i:=11) X4;have k12:=R.zab (i:=12) X4 rfl;have fk12:=R.zac (i:=12) X4;have k13:=R.zab (i:=13) X4 rfl;have fk13:=R.zac (i:=13) X4;have k14:=R.zab (i:=14) X4 rfl;have fk14:=R.zac (i:=14) X4;have k15:=R.zab (i:=15) X4 rfl;have fk15:=R.zac (i:=15) X4;have HXe:Hid _:=X4;have HCe:Hid _:=C4;have HGe:Hid _:=G4;have HSe:=qH S4;clear X4 C4 G4 S4;go_wp2;obtain⟨hbx,hgr⟩:=R.put16 HXe.out (.int .i64 x.kind) (.string x.name) (.slice so x.set.length sc) (.int .i64 x.dir) (.bool x.left.start) (.bool x.left.fin) (.slice lbo x.left.before.length lbc) (.slice lso x.left.source.length lsc) (.slice lao x.left.after.length lac) (.int .i64 x.left.cursor) (.bool x.right.start) (.bool x.right.fin) (.slice rbo x.right.before.length rbc) (.slice rso x.right.source.length rsc) (.slice rao x.right.after.length rac) (.int .i64 x.right.cursor);refine bodyPost_ret (R.za2 rfl _ _ w.heap.size #[.int .i64 x.kind,.string x.name,.slice so x.set.length sc,.int .i64 x.dir,.bool x.left.start,.bool x.left.fin,.slice lbo x.left.before.length lbc,.slice lso x.left.source.length lsc,.slice lao x.left.after.length lac,.int .i64 x.left.cursor,.bool x.right.start,.bool x.right.fin,.slice rbo x.right.before.length rbc,.slice rso x.right.source.length rsc,.slice rao x.right.after.length rac,.int .i64 x.right.cursor] hbx underlying104 (by kernel_rfl) rfl) rfl ?_
    skip
    exact⟨_,rfl,⟨⟨so,sc,lbo,lbc,lso,lsc,lao,lac,rbo,rbc,rso,rsc,rao,rac,rfl⟩,(HSe.out.cur hgr (by omega)).down (F':=w.heap.size) (by omega)⟩,HCe.out.apart hgr n1 HT1.out,R.zam HGe.out hgr qN⟩
  ·go_wp2_with fail
   refine(zb0 _ cb tb cap (p+1) ao l 58 (by decide) HC1.out h582).mono ?_;unfold T.thrown;rintro e w2 ⟨rfl,g2⟩;go_wp2;refine⟨rfl,?_⟩;rw[<- HO.out];unfold R.part;rw[if_pos h58,if_pos h582];exact⟨rfl,S.zaa HG1.out g2⟩
 ·rw[if_neg h58] at C1;have HC1:=qH C1;clear C1
  go_wp2_with fail
  refine(zjm _ cb tb cap p ao l HC1.out).mono ?_;intro e w2 h
  have hcase:(∃er q,R.assignedAt l p=.bad er q/\R.part l p=.bad er q)∨(∃n q,R.assignedAt l p=.ok (some n) q/\R.named n=true/\R.part l p=(match T.setN 20 l (R.gap l q) with | .bad e r=> .bad e r | .ok s r=> .ok ⟨1,n,s,0,R.noSide,R.noSide⟩ r))∨(R.assignedAt l p=.ok none p/\R.part l p=R.rule l p):=by
   by_cases hv:R.varNext l p=true
   ·cases hc:R.varAt l p with
    | bad er q =>
     refine .inl ⟨er,q,?_,?_⟩
     ·unfold R.assignedAt;rw[if_pos hv,hc]
     ·unfold R.part;rw[if_neg h58,if_pos hv,hc]
    | ok n q =>
     by_cases h61:T.see l (R.gap l q)=61
     ·refine .inr (.inl ⟨n,R.gap l q+1,?_,(zhd hc).1,?_⟩)
      ·unfold R.assignedAt;rw[if_pos hv,hc];simp only;rw[if_pos h61]
      ·unfold R.part;rw[if_neg h58,if_pos hv,hc];simp only;rw[if_pos h61];cases T.setN 20 l (R.gap l (R.gap l q+1)) <;> rfl
     ·refine .inr (.inr ⟨?_,?_⟩)
      ·unfold R.assignedAt;rw[if_pos hv,hc];simp only;rw[if_neg h61]
      ·unfold R.part;rw[if_neg h58,if_pos hv,hc];simp only;rw[if_neg h61]
   ·refine .inr (.inr ⟨?_,?_⟩)
    ·unfold R.assignedAt;rw[if_neg hv]
    ·unfold R.part;rw[if_neg h58,if_neg hv]
  rcases hcase with ⟨er,q,ha,hp⟩|⟨n,q,ha,hnm,hp⟩|⟨ha,hp⟩
  ·rw[ha] at h;obtain⟨rfl,g2⟩:=h;unfold T.thrown;go_wp2;refine⟨rfl,?_⟩;rw[<- HO.out,hp];exact⟨rfl,S.zaa HG1.out g2⟩
  ·rw[ha] at h;obtain⟨v2,rfl,hv2,C2,g2⟩:=h;unfold R.isName at hv2;simp only at hv2;subst hv2;have HX2:Hid _:=R.zah HX1.out g2 n1;have HG2:=qH<|S.zaa HG1.out g2;have HC2:=qH C2;have hF2:w.heap.size+1<=w2.heap.size:=by have:=g2.size;omega
   have HP:Hid _:=hp;have hnl:=zix hnm;have HNm:=qH hnl;clear C2 g2 ha hp hnl hnm
   go_wp2_with fail
   refine(zaz _ cb tb cap q ao l HC2.out).mono ?_;rintro e w3 ⟨rfl,C3,g3⟩;have HX3:Hid _:=R.zah HX2.out g3 n1;have HG3:=qH<|S.zaa HG2.out g3;have HC3:=qH C3;have hF3:w.heap.size+1<=w3.heap.size:=by have:=g3.size;omega
   clear C3 g3
   go_wp2_with fail
   refine(zlm HK.out _ cb tb cap (R.gap l q) ao l HC3.out).mono ?_;intro e w4 h;cases hc:T.setN 20 l (R.gap l q) with
   | bad er r =>
    rw[hc] at h;obtain⟨rfl,g4⟩:=h;unfold T.thrown;go_wp2;refine⟨rfl,?_⟩;rw[<- HO.out,HP.out,hc];exact⟨rfl,S.zaa HG3.out g4⟩
   | ok s r =>
    rw[hc] at h;obtain⟨v4,rfl,⟨⟨hr4,hn4,_⟩,hf4⟩,C4,g4⟩:=h;obtain⟨so,sc,hv4⟩:=hr4.len;subst hv4;have HS4:=qH<|R.zdx hr4 (hf4.mono hF3);have HF4:=qH<|S.Fit.zdh hn4 (Int.le_refl _);have X4:=R.zah HX3.out g4 n1;have G4:=S.zaa HG3.out g4;have HH:Hid _:=hc;clear hc hr4 hn4 hf4 g4;have k0:=R.zab (i:=0) X4 rfl;have fk0:=R.zac (i:=0) X4;have k1:=R.zab (i:=1) X4 rfl;have fk1:=R.zac (i:=1) X4;have k2:=R.zab (i:=2) X4 rfl;have fk2:=R.zac (i:=2) X4;have k3:=R.zab (i:=3) X4 rfl;have fk3:=R.zac (i:=3) X4;have k4:=R.zab (i:=4) X4 rfl;have fk4:=R.zac (i:=4) X4;have k5:=R.zab (i:=5) X4 rfl;have fk5:=R.zac (i:=5) X4;have k6:=R.zab (i:=6) X4 rfl;have fk6:=R.zac (i:=6) X4;have k7:=R.zab (i:=7) X4 rfl;have fk7:=R.zac (i:=7) X4;have k8:=R.zab (i:=8) X4 rfl;have fk8:=R.zac (i:=8) X4;have k9:=R.zab (i:=9) X4 rfl;have fk9:=R.zac (i:=9) X4;have k10:=R.zab (i:=10) X4 rfl;have fk10:=R.zac (i:=10) X4;have k11:=R.zab (i:=11) X4 rfl;have fk11:=R.zac (i:=11) X4;have k12:=R.zab (i:=12) X4 rfl;have fk12:=R.zac (i:=12) X4;have k13:=R.zab (i:=13) X4 rfl;have fk13:=R.zac (i:=13) X4;have k14:=R.zab (i:=14) X4 rfl;have fk14:=R.zac (i:=14) X4;have k15:=R.zab (i:=15) X4 rfl;have fk15:=R.zac (i:=15) X4;have HXe:Hid _:=X4;have HCe:Hid _:=C4;have HGe:Hid _:=G4;clear X4 C4 G4;go_wp2;obtain⟨hbx,hgr⟩:=R.put16 HXe.out (.int .i64 1) (.string n) (.slice so s.length sc) (.int .i64 0) (.bool false) (.bool false) (.slice none 0 0) (.slice none 0 0) (.slice none 0 0) (.int .i64 0) (.bool false) (.bool false) (.slice none 0 0) (.slice none 0 0) (.slice none 0 0) (.int .i64 0);refine bodyPost_ret (R.za2 rfl _ _ w.heap.size #[.int .i64 1,.string n,.slice so s.length sc,.int .i64 0,.bool false,.bool false,.slice none 0 0,.slice none 0 0,.slice none 0 0,.int .i64 0,.bool false,.bool false,.slice none 0 0,.slice none 0 0,.slice none 0 0,.int .i64 0] hbx underlying104 (by kernel_rfl) rfl) rfl ?_;rw[<- HO.out,HP.out,HH.out];exact⟨_,rfl,⟨⟨so,sc,none,0,none,0,none,0,none,0,none,0,none,0,rfl⟩,((HS4.out.cur hgr (by omega)).down (F':=w.heap.size) (by omega)).imp fun w' h=>⟨so,sc,_,_,_,_,_,_,_,_,_,_,_,_,rfl,h,HF4.out,R.zcd w',R.zcd w',by have:=HNm.out;simp only;omega,by simp[R.I64]⟩⟩,HCe.out.apart hgr n1 HT1.out,R.zam HGe.out hgr qN⟩
  ·rw[ha] at h;obtain⟨v2,rfl,hv2,C2,g2⟩:=h;unfold R.isName at hv2;simp only at hv2;subst hv2;have HX2:Hid _:=R.zah HX1.out g2 n1;have HG2:=qH<|S.zaa HG1.out g2;have HC2:=qH C2;have hF2:w.heap.size+1<=w2.heap.size:=by have:=g2.size;omega
   have HP:Hid _:=hp;clear C2 g2 ha hp
   go_wp2_with fail
   refine(zmx HK.out _ cb tb cap p ao l HC2.out).mono ?_;intro e w4 h;have hoe:R.rule l p=o:=by rw[<- HO.out,HP.out]
   rw[hoe] at h;cases o with
   | bad er q =>
    obtain⟨rfl,g4⟩:=h;unfold T.thrown;go_wp2;exact⟨rfl,rfl,S.zaa HG2.out g4⟩
   | ok x q =>
    obtain⟨v4,rfl,⟨⟨so,sc,lbo,lbc,lso,lsc,lao,lac,rbo,rbc,rso,rsc,rao,rac,hv4⟩,s4⟩,C4,g4⟩:=h;subst hv4;have X4:=R.zah HX2.out g4 n1;have G4:=S.zaa HG2.out g4;have S4:=s4.down hF2;clear s4 g4 hoe;have k0:=R.zab (i:=0) X4 rfl;have fk0:=R.zac (i:=0) X4;have k1:=R.zab (i:=1) X4 rfl;have fk1:=R.zac (i:=1) X4;have k2:=R.zab (i:=2) X4 rfl;have fk2:=R.zac (i:=2) X4;have k3:=R.zab (i:=3) X4 rfl;have fk3:=R.zac (i:=3) X4;have k4:=R.zab (i:=4) X4 rfl;have fk4:=R.zac (i:=4) X4;have k5:=R.zab (i:=5) X4 rfl;have fk5:=R.zac (i:=5) X4;have k6:=R.zab (i:=6) X4 rfl;have fk6:=R.zac (i:=6) X4;have k7:=R.zab (i:=7) X4 rfl;have fk7:=R.zac (i:=7) X4;have k8:=R.zab (i:=8) X4 rfl;have fk8:=R.zac (i:=8) X4;have k9:=R.zab (i:=9) X4 rfl;have fk9:=R.zac (i:=9) X4;have k10:=R.zab (i:=10) X4 rfl;have fk10:=R.zac (i:=10) X4;have k11:=R.zab (i:=11) X4 rfl;have fk11:=R.zac (i:=11) X4;have k12:=R.zab (i:=12) X4 rfl;have fk12:=R.zac (i:=12) X4;have k13:=R.zab (i:=13) X4 rfl;have fk13:=R.zac (i:=13) X4;have k14:=R.zab (i:=14) X4 rfl;have fk14:=R.zac (i:=14) X4;have k15:=R.zab (i:=15) X4 rfl;have fk15:=R.zac (i:=15) X4;have HXe:Hid _:=X4;have HCe:Hid _:=C4;have HGe:Hid _:=G4;have HSe:=qH S4;clear X4 C4 G4 S4;go_wp2;obtain⟨hbx,hgr⟩:=R.put16 HXe.out (.int .i64 x.kind) (.string x.name) (.slice so x.set.length sc) (.int .i64 x.dir) (.bool x.left.start) (.bool x.left.fin) (.slice lbo x.left.before.length lbc) (.slice lso x.left.source.length lsc) (.slice lao x.left.after.length lac) (.int .i64 x.left.cursor) (.bool x.right.start) (.bool x.right.fin) (.slice rbo x.right.before.length rbc) (.slice rso x.right.source.length rsc) (.slice rao x.right.after.length rac) (.int .i64 x.right.cursor);refine bodyPost_ret (R.za2 rfl _ _ w.heap.size #[.int .i64 x.kind,.string x.name,.slice so x.set.length sc,.int .i64 x.dir,.bool x.left.start,.bool x.left.fin,.slice lbo x.left.before.length lbc,.slice lso x.left.source.length lsc,.slice lao x.left.after.length lac,.int .i64 x.left.cursor,.bool x.right.start,.bool x.right.fin,.slice rbo x.right.before.length rbc,.slice rso x.right.source.length rsc,.slice rao x.right.after.length rac,.int .i64 x.right.cursor] hbx underlying104 (by kernel_rfl) rfl) rfl ?_
    skip
    exact⟨_,rfl,⟨⟨so,sc,lbo,lbc,lso,lsc,lao,lac,rbo,rbc,rso,rsc,rao,rac,rfl⟩,(HSe.out.cur hgr (by omega)).down (F':=w.heap.size) (by omega)⟩,HCe.out.apart hgr n1 HT1.out,R.zam HGe.out hgr qN⟩
theorem zsz (hK:T.ClassOk)(w:World)(cb tb cap p:Nat)(ao:Option Addr)(l:List Int)(C:T.Cur w cb tb cap ao l p) :
  Calls prog 52 #[.pointer (some ⟨cb,0,none⟩)] w (T.Ends w cb tb cap ao l (R.ended l p) (R.isPart w.heap.size)):=by
 have c0:=C.cell1;have hlen:=C.len;have hple:=C.le;obtain⟨he1,he2⟩:=C.elder;have HE2:=qH he2;have HK:=qH hK;have HC:=qH C;clear C he2 hK;have n1:¬w.heap.size=cb:=by omega
 have HT1:Hid (l≠ []->w.heap.size≠tb):=fun h=>by have:=HE2.out h;omega
 obtain⟨o,HO⟩:∃o,Hid (R.ended l p=o):=⟨_,rfl⟩;rw[HO.out]
 go_enter func52,ntmps52
 go_wp2_with fail
 have bA:=(qR w).alloc qN (.cells #[.int .i64 0,.string ⟨#[]⟩,.slice none 0 0,.int .i64 0,.bool false,.bool false,.slice none 0 0,.slice none 0 0,.slice none 0 0,.int .i64 0,.bool false,.bool false,.slice none 0 0,.slice none 0 0,.slice none 0 0,.int .i64 0] 104);have x2:(w.alloc (.cells #[.int .i64 0,.string ⟨#[]⟩,.slice none 0 0,.int .i64 0,.bool false,.bool false,.slice none 0 0,.slice none 0 0,.slice none 0 0,.int .i64 0,.bool false,.bool false,.slice none 0 0,.slice none 0 0,.slice none 0 0,.int .i64 0] 104)).heap[w.heap.size]?=some (.cells #[.int .i64 0,.string ⟨#[]⟩,.slice none 0 0,.int .i64 0,.bool false,.bool false,.slice none 0 0,.slice none 0 0,.slice none 0 0,.int .i64 0,.bool false,.bool false,.slice none 0 0,.slice none 0 0,.slice none 0 0,.int .i64 0] 104):=heap_alloc_new w _;have CW:=HC.out.below bA;have GW:w.grownBy _ (some cb):=S.zaf bA;have hFW:w.heap.size+1<=(w.alloc (.cells #[.int .i64 0,.string ⟨#[]⟩,.slice none 0 0,.int .i64 0,.bool false,.bool false,.slice none 0 0,.slice none 0 0,.slice none 0 0,.int .i64 0,.bool false,.bool false,.slice none 0 0,.slice none 0 0,.slice none 0 0,.int .i64 0] 104)).heap.size:=by simp
 refine(zua HK.out _ cb tb cap p ao l CW).mono ?_;generalize w.alloc (.cells #[.int .i64 0,.string ⟨#[]⟩,.slice none 0 0,.int .i64 0,.bool false,.bool false,.slice none 0 0,.slice none 0 0,.slice none 0 0,.int .i64 0,.bool false,.bool false,.slice none 0 0,.slice none 0 0,.slice none 0 0,.int .i64 0] 104)=W0 at bA x2 CW GW hFW;clear bA c0;intro e w1 h;cases hc:R.part l p with
 | bad er q =>
  rw[hc] at h;obtain⟨rfl,g1⟩:=h;unfold T.thrown;go_wp2;refine⟨rfl,?_⟩;rw[<- HO.out];unfold R.ended;rw[hc];exact⟨rfl,S.zaa GW g1⟩
 | ok x q =>
  rw[hc] at h;obtain⟨v1,rfl,⟨⟨so,sc,lbo,lbc,lso,lsc,lao,lac,rbo,rbc,rso,rsc,rao,rac,hv1⟩,s1⟩,C1,g1⟩:=h;subst hv1;have HH:Hid _:=hc;have S1:=s1.down hFW;have X1:=R.zah x2 g1 n1;have bB:=(qR w1).alloc qN (.cells #[.int .i64 x.kind,.string x.name,.slice so x.set.length sc,.int .i64 x.dir,.bool x.left.start,.bool x.left.fin,.slice lbo x.left.before.length lbc,.slice lso x.left.source.length lsc,.slice lao x.left.after.length lac,.int .i64 x.left.cursor,.bool x.right.start,.bool x.right.fin,.slice rbo x.right.before.length rbc,.slice rso x.right.source.length rsc,.slice rao x.right.after.length rac,.int .i64 x.right.cursor] 104);have Y2:(w1.alloc (.cells #[.int .i64 x.kind,.string x.name,.slice so x.set.length sc,.int .i64 x.dir,.bool x.left.start,.bool x.left.fin,.slice lbo x.left.before.length lbc,.slice lso x.left.source.length lsc,.slice lao x.left.after.length lac,.int .i64 x.left.cursor,.bool x.right.start,.bool x.right.fin,.slice rbo x.right.before.length rbc,.slice rso x.right.source.length rsc,.slice rao x.right.after.length rac,.int .i64 x.right.cursor] 104)).heap[w1.heap.size]?=some (.cells #[.int .i64 x.kind,.string x.name,.slice so x.set.length sc,.int .i64 x.dir,.bool x.left.start,.bool x.left.fin,.slice lbo x.left.before.length lbc,.slice lso x.left.source.length lsc,.slice lao x.left.after.length lac,.int .i64 x.left.cursor,.bool x.right.start,.bool x.right.fin,.slice rbo x.right.before.length rbc,.slice rso x.right.source.length rsc,.slice rao x.right.after.length rac,.int .i64 x.right.cursor] 104):=heap_alloc_new w1 _;have HX2:Hid _:=R.zae X1 bB;have HC2:=qH<|C1.below bB;have HG2:=qH<|S.zaa (S.zaa GW g1) (S.zaf bB);have HS2:=qH<|S1.below bB;have HY2:Hid _:=Y2;have n2:¬w1.heap.size=cb:=by have:=C1.lt;omega
  clear s1 S1 X1 Y2 bB C1 g1 x2 GW CW hc
  go_wp2_with fail
  refine(zaz _ cb tb cap q ao l HC2.out).mono ?_;rintro e w3 ⟨rfl,C3,g3⟩;obtain⟨r,HR⟩:∃r,Hid (R.gap l q=r):=⟨_,rfl⟩;rw[HR.out] at C3;have HX3:Hid _:=R.zah HX2.out g3 n1;have HY3:Hid _:=R.zah HY2.out g3 n2;have HC3:=qH C3;have HG3:=qH<|S.zaa HG2.out g3;have HS3:=qH<|HS2.out.cur g3 (by omega);clear C3 g3 HX2 HY2 HC2 HG2 HS2
  by_cases h59:T.see l r=59
  ·go_wp2_with fail
   refine(za0 _ cb tb cap r ao l 59 (by decide) HC3.out h59).mono ?_;rintro e w4 ⟨rfl,C4,g4⟩;have y4:=R.zah HY3.out g4 n2;have HX4:Hid _:=R.zah HX3.out g4 n1;have HY4:Hid _:=y4;have HC4:=qH C4;have HG4:=qH<|S.zaa HG3.out g4;have HS4:=qH<|HS3.out.cur g4 (by omega);have d0:=R.zab (i:=0) y4 rfl;have d1:=R.zab (i:=1) y4 rfl;have d2:=R.zab (i:=2) y4 rfl;have d3:=R.zab (i:=3) y4 rfl;have d4:=R.zab (i:=4) y4 rfl;have d5:=R.zab (i:=5) y4 rfl;have d6:=R.zab (i:=6) y4 rfl;have d7:=R.zab (i:=7) y4 rfl;have d8:=R.zab (i:=8) y4 rfl;have d9:=R.zab (i:=9) y4 rfl;have d10:=R.zab (i:=10) y4 rfl;have d11:=R.zab (i:=11) y4 rfl;have d12:=R.zab (i:=12) y4 rfl;have d13:=R.zab (i:=13) y4 rfl;have d14:=R.zab (i:=14) y4 rfl;have d15:=R.zab (i:=15) y4 rfl;clear C4 g4 y4 HX3 HY3 HC3 HG3 HS3
   go_wp2_with fail
   refine(zdn _ _ x HS4.out.here).mono ?_;rintro e w5 ⟨rfl,b5⟩;have X5:=R.zae HX4.out b5;have y5:=R.zae HY4.out b5;have C5:=HC4.out.below b5;have G5:=S.zaa HG4.out (S.zaf (r:=some cb) b5);have S5:=HS4.out.below b5;clear b5 HX4 HY4 HC4 HG4 HS4 d0 d1 d2 d3 d4 d5 d6 d7 d8 d9 d10 d11 d12 d13 d14 d15;obtain⟨er,HEr⟩:∃er,Hid (R.partE x=er):=⟨_,rfl⟩;rw[HEr.out]
   by_cases he:er=0
   ·subst he;have d0:=R.zab (i:=0) y5 rfl;have d1:=R.zab (i:=1) y5 rfl;have d2:=R.zab (i:=2) y5 rfl;have d3:=R.zab (i:=3) y5 rfl;have d4:=R.zab (i:=4) y5 rfl;have d5:=R.zab (i:=5) y5 rfl;have d6:=R.zab (i:=6) y5 rfl;have d7:=R.zab (i:=7) y5 rfl;have d8:=R.zab (i:=8) y5 rfl;have d9:=R.zab (i:=9) y5 rfl;have d10:=R.zab (i:=10) y5 rfl;have d11:=R.zab (i:=11) y5 rfl;have d12:=R.zab (i:=12) y5 rfl;have d13:=R.zab (i:=13) y5 rfl;have d14:=R.zab (i:=14) y5 rfl;have d15:=R.zab (i:=15) y5 rfl;clear y5;have k0:=R.zab (i:=0) X5 rfl;have fk0:=R.zac (i:=0) X5;have k1:=R.zab (i:=1) X5 rfl;have fk1:=R.zac (i:=1) X5;have k2:=R.zab (i:=2) X5 rfl;have fk2:=R.zac (i:=2) X5;have k3:=R.zab (i:=3) X5 rfl;have fk3:=R.zac (i:=3) X5;have k4:=R.zab (i:=4) X5 rfl;have fk4:=R.zac (i:=4) X5;have k5:=R.zab (i:=5) X5 rfl;have fk5:=R.zac (i:=5) X5;have k6:=R.zab (i:=6) X5 rfl;have fk6:=R.zac (i:=6) X5;have k7:=R.zab (i:=7) X5 rfl;have fk7:=R.zac (i:=7) X5;have k8:=R.zab (i:=8) X5 rfl;have fk8:=R.zac (i:=8) X5;have k9:=R.zab (i:=9) X5 rfl;have fk9:=R.zac (i:=9) X5;have k10:=R.zab (i:=10) X5 rfl;have fk10:=R.zac (i:=10) X5;have k11:=R.zab (i:=11) X5 rfl;have fk11:=R.zac (i:=11) X5;have k12:=R.zab (i:=12) X5 rfl;have fk12:=R.zac (i:=12) X5;have k13:=R.zab (i:=13) X5 rfl;have fk13:=R.zac (i:=13) X5;have k14:=R.zab (i:=14) X5 rfl;have fk14:=R.zac (i:=14) X5;have k15:=R.zab (i:=15) X5 rfl;have fk15:=R.zac (i:=15) X5;have HXe:Hid _:=X5;have HCe:Hid _:=C5;have HGe:Hid _:=G5;have HSe:=qH S5;clear X5 C5 G5 S5;go_wp2;obtain⟨hbx,hgr⟩:=R.put16 HXe.out (.int .i64 x.kind) (.string x.name) (.slice so x.set.length sc) (.int .i64 x.dir) (.bool x.left.start) (.bool x.left.fin) (.slice lbo x.left.before.length lbc) (.slice lso x.left.source.length lsc) (.slice lao x.left.after.length lac) (.int .i64 x.left.cursor) (.bool x.right.start) (.bool x.right.fin) (.slice rbo x.right.before.length rbc) (.slice rso x.right.source.length rsc) (.slice rao x.right.after.length rac) (.int .i64 x.right.cursor);refine bodyPost_ret (R.za2 rfl _ _ w.heap.size #[.int .i64 x.kind,.string x.name,.slice so x.set.length sc,.int .i64 x.dir,.bool x.left.start,.bool x.left.fin,.slice lbo x.left.before.length lbc,.slice lso x.left.source.length lsc,.slice lao x.left.after.length lac,.int .i64 x.left.cursor,.bool x.right.start,.bool x.right.fin,.slice rbo x.right.before.length rbc,.slice rso x.right.source.length rsc,.slice rao x.right.after.length rac,.int .i64 x.right.cursor] hbx underlying104 (by kernel_rfl) rfl) rfl ?_;rw[<- HO.out];unfold R.ended;rw[HH.out];simp only;rw[HR.out,if_neg (by simp[h59]),HEr.out,if_neg (by simp)];exact⟨_,rfl,⟨⟨so,sc,lbo,lbc,lso,lsc,lao,lac,rbo,rbc,rso,rsc,rao,rac,rfl⟩,(HSe.out.cur hgr (by omega)).down (F':=w.heap.size) (by omega)⟩,HCe.out.apart hgr n1 HT1.out,R.zam HGe.out hgr qN⟩
   ·have he':(er==0)=false:=by simp[he]
    have HG5:Hid _:=G5;clear X5 y5 C5 G5 S5
    go_wp2_with (go_at_call 29;refine(zaw _ er p).mono ?_;unfold T.thrown;rintro e w6 ⟨rfl,rfl⟩)
    refine⟨rfl,?_⟩;rw[<- HO.out];unfold R.ended;rw[HH.out];simp only;rw[HR.out,if_neg (by simp[h59]),HEr.out,if_pos he];exact⟨rfl,HG5.out⟩
  ·go_wp2_with fail
   refine(zb0 _ cb tb cap r ao l 59 (by decide) HC3.out h59).mono ?_;unfold T.thrown;rintro e w4 ⟨rfl,g4⟩;go_wp2;refine⟨rfl,?_⟩;rw[<- HO.out];unfold R.ended;rw[HH.out];simp only;rw[HR.out,if_pos h59];exact⟨rfl,S.zaa HG3.out g4⟩
def R.PtEl (x:R.Part) (c:List Value) (w:World):Prop:=R.PtIs w (.agg c.toArray) x
def R.RowP (F:Nat) (w:World) (v:Value) (xs:List R.Part):Prop:=R.Row 104 16 R.PtEl F w v xs
theorem R.elemP:R.Elem 34 104 16:=⟨underlying34,⟨.agg #[.int .i64 0,.string ⟨#[]⟩,.slice none 0 0,.int .i64 0,.bool false,.bool false,.slice none 0 0,.slice none 0 0,.slice none 0 0,.int .i64 0,.bool false,.bool false,.slice none 0 0,.slice none 0 0,.slice none 0 0,.int .i64 0],232,by kernel_rfl,by decide,rfl⟩,by decide⟩
theorem R.RowP.pts {F:Nat}{w:World}{v:Value}{xs:List R.Part}(h:R.RowP F w v xs):R.Stays F none w fun w'=>R.Pts w' v xs:=fun w' hk=>by
 obtain⟨ao,cap,hv⟩:=R.Row.slice h;refine⟨ao,cap,hv,fun hz=> ?_⟩;cases xs with
 | nil=>exact absurd rfl hz
 | cons x0 xs =>
  obtain⟨g,c,hob,⟨cap',hv'⟩,_,_⟩:=R.Row.at h (j:=0) (x:=x0) rfl;refine⟨g,0,by rw[hv] at hv';cases hv';rfl,fun j x hj=> ?_⟩;obtain⟨g2,c2,hob2,_,_,hst⟩:=R.Row.at h hj;have hg:g2=g:=by rw[hob] at hob2;exact(Option.some.inj hob2).symm
  subst hg;obtain⟨hcells,hpt⟩:=hst w' hk;have hpt':R.PtIs w' (.agg c2.toArray) x:=hpt;obtain⟨so,sc,lbo,lbc,lso,lsc,lao,lac,rbo,rbc,rso,rsc,rao,rac,he,_⟩:=hpt'.open
  have hc2:c2= [.int .i64 x.kind,.string x.name,.slice so x.set.length sc,.int .i64 x.dir,.bool x.left.start,.bool x.left.fin,.slice lbo x.left.before.length lbc,.slice lso x.left.source.length lsc,.slice lao x.left.after.length lac,.int .i64 x.left.cursor,.bool x.right.start,.bool x.right.fin,.slice rbo x.right.before.length rbc,.slice rso x.right.source.length rsc,.slice rao x.right.after.length rac,.int .i64 x.right.cursor]:=by
   have:=congrArg (fun v=>match v with | .agg a=>a.toList|_=> []) he;simpa using this
  subst hc2;exact⟨so,sc,lbo,lbc,lso,lsc,lao,lac,rbo,rbc,rso,rsc,rao,rac,hcells 0 _ rfl,hcells 1 _ rfl,hcells 2 _ rfl,hcells 3 _ rfl,hcells 4 _ rfl,hcells 5 _ rfl,hcells 6 _ rfl,hcells 7 _ rfl,hcells 8 _ rfl,hcells 9 _ rfl,hcells 10 _ rfl,hcells 11 _ rfl,hcells 12 _ rfl,hcells 13 _ rfl,hcells 14 _ rfl,hcells 15 _ rfl,hpt'⟩
def R.lenV:Value->Nat
 | .slice _ n _=>n
 | _=>0
theorem zr8 (hK:T.ClassOk)(w:World)(cb tb cap:Nat)(ao:Option Addr)(l:List Int)(C:T.Cur w cb tb cap ao l 0) :
  Calls prog 30 #[.pointer (some ⟨cb,0,none⟩)] w (T.Ends w cb tb cap ao l (R.parts l) fun xs v w'=>R.RowP w.heap.size w' v xs/\xs.length<=200):=by
 obtain⟨he1,he2⟩:=C.elder;have HE2:=qH he2;have HK:=qH hK;have HC:=qH C;clear C he2 hK;obtain⟨o,HO⟩:∃o,Hid (R.parts l=o):=⟨_,rfl⟩;rw[HO.out]
 go_enter func30,ntmps30
 go_wp2_with fail
 refine(zaz _ cb tb cap 0 ao l HC.out).mono ?_;rintro e w1 ⟨rfl,C1,g1⟩;have HC1:=qH C1;have HG1:=qH g1;clear C1 g1;go_wp2
 go_loopw [3] (fun sv wr=>∃(q:Nat) (xs:List R.Part) (vo:Option Addr) (vc:Nat),sv=.slice vo xs.length vc/\xs.length<=200/\Hid (R.partsN (202-xs.length) l xs q=o)/\Hid (R.RowP w.heap.size wr (.slice vo xs.length vc) xs)/\Hid (T.Cur wr cb tb cap ao l q)/\Hid (w.grownBy wr (some cb))) (fun sv _=>202-R.lenV sv)
 case atStart=>exact⟨R.gap l 0,[],none,0,rfl,by simp,HO,R.Row.nil _ _,HC1,HG1⟩
 case round =>
  obtain⟨q,xs,vo,vc,rfl,hxl,HN,HR,HCq,HG⟩:=hrel;have cq:=HCq.out.cell1;have hql:=HCq.out.le;have hlen:=HCq.out.len;obtain⟨f,hf⟩:∃f,202-xs.length=f+1:=⟨201-xs.length,by omega⟩;have HN2:Hid (R.partsN (f+1) l xs q=o):=by show _=_;rw[<- hf];exact HN.out
  clear HN
  go_wp2_with fail
  refine(zd7 _ cb tb cap q ao l HCq.out).mono ?_;rintro e w2 ⟨rfl,b2⟩;have C2:=HCq.out.below b2;have c2:=C2.cell1;have HC2:=qH C2;have HG2:=qH<|S.zaa HG.out (S.zaf b2);have HR2:Hid (R.RowP w.heap.size w2 (.slice vo xs.length vc) xs):=R.Row.below HR.out b2;clear C2 b2 cq
  by_cases hd:T.see l q= -1
  ·clear c2;go_wp2;go_ret;rw[<- HN2.out,R.partsN,if_pos hd];exact⟨_,rfl,⟨HR2.out,hxl⟩,HC2.out,HG2.out⟩
  ·by_cases h200:xs.length=200
   ·have h200':(xs.length:Int)=200:=by omega
    go_wp2
    go_region_dies
    all_goals refine(zaw _ 5 q).mono ?_
    all_goals unfold T.thrown
    all_goals rintro e w3 ⟨rfl,rfl⟩
    all_goals refine⟨rfl,?_⟩
    all_goals rw[<- HN2.out,R.partsN,if_neg hd,if_pos h200]
    all_goals exact⟨rfl,S.zaa HG2.out (zb6 _ 1 _)⟩
   ·have h200':¬(xs.length:Int)=200:=by omega
    have h200b:((xs.length:Int)==200)=false:=by simp;omega
    clear c2
    go_wp2_with fail
    refine(zsz HK.out _ cb tb cap q ao l HC2.out).mono ?_;intro e w3 h;cases hc:R.ended l q with
    | bad er r =>
     rw[hc] at h;obtain⟨rfl,g3⟩:=h;unfold T.thrown;go_wp2;refine⟨rfl,?_⟩;rw[<- HN2.out,R.partsN,if_neg hd,if_neg h200,hc];exact⟨rfl,S.zaa HG2.out g3⟩
    | ok x r =>
     rw[hc] at h;obtain⟨v3,rfl,⟨⟨so,sc,lbo,lbc,lso,lsc,lao,lac,rbo,rbc,rso,rsc,rao,rac,hv3⟩,s3⟩,C3,g3⟩:=h;subst hv3;have HHc:Hid _:=hc;have HG3:=qH<|S.zaa HG2.out g3;have hs3:=g3.size;have hs2:=HG2.out.size;have HLt:Hid _:=R.Row.lt HR2.out;have R3:=R.Row.cur HR2.out g3 he1;have bA:=(qR w3).alloc qN (.cells #[.int .i64 x.kind,.string x.name,.slice so x.set.length sc,.int .i64 x.dir,.bool x.left.start,.bool x.left.fin,.slice lbo x.left.before.length lbc,.slice lso x.left.source.length lsc,.slice lao x.left.after.length lac,.int .i64 x.left.cursor,.bool x.right.start,.bool x.right.fin,.slice rbo x.right.before.length rbc,.slice rso x.right.source.length rsc,.slice rao x.right.after.length rac,.int .i64 x.right.cursor] 104);have HR4:Hid (R.RowP w.heap.size _ (.slice vo xs.length vc) xs):=R.Row.below R3 bA
     have HO4:Hid (R.RowP w2.heap.size (w3.alloc (.cells #[.int .i64 x.kind,.string x.name,.slice so x.set.length sc,.int .i64 x.dir,.bool x.left.start,.bool x.left.fin,.slice lbo x.left.before.length lbc,.slice lso x.left.source.length lsc,.slice lao x.left.after.length lac,.int .i64 x.left.cursor,.bool x.right.start,.bool x.right.fin,.slice rbo x.right.before.length rbc,.slice rso x.right.source.length rsc,.slice rao x.right.after.length rac,.int .i64 x.right.cursor] 104)) (.slice (some ⟨w3.heap.size,0,none⟩) 1 1) [x]) :=
      R.Row.one [.int .i64 x.kind,.string x.name,.slice so x.set.length sc,.int .i64 x.dir,.bool x.left.start,.bool x.left.fin,.slice lbo x.left.before.length lbc,.slice lso x.left.source.length lsc,.slice lao x.left.after.length lac,.int .i64 x.left.cursor,.bool x.right.start,.bool x.right.fin,.slice rbo x.right.before.length rbc,.slice rso x.right.source.length rsc,.slice rao x.right.after.length rac,.int .i64 x.right.cursor] rfl (fun u hu=>by
       simp only[List.mem_cons,List.not_mem_nil,or_false] at hu
       rcases hu with rfl|rfl|rfl|rfl|rfl|rfl|rfl|rfl|rfl|rfl|rfl|rfl|rfl|rfl|rfl|rfl <;> rfl) s3 hs3
     have HC4:Hid (T.Cur _ cb tb cap ao l r):=C3.below bA;have HG4:Hid (w.grownBy _ (some cb)):=S.zaa HG3.out (S.zaf bA);have hF4:w.heap.size<=(w3.alloc (.cells #[.int .i64 x.kind,.string x.name,.slice so x.set.length sc,.int .i64 x.dir,.bool x.left.start,.bool x.left.fin,.slice lbo x.left.before.length lbc,.slice lso x.left.source.length lsc,.slice lao x.left.after.length lac,.int .i64 x.left.cursor,.bool x.right.start,.bool x.right.fin,.slice rbo x.right.before.length rbc,.slice rso x.right.source.length rsc,.slice rao x.right.after.length rac,.int .i64 x.right.cursor] 104)).heap.size:=by simp;omega
     obtain⟨zs,HZs⟩:∃zs,Hid (xs++ [x]=zs):=⟨_,rfl⟩;have HZl:Hid (zs.length=xs.length+1):=by show _=_;rw[<- HZs.out];simp
     clear hc s3 C3 g3 R3 bA
     go_wp2_with (at_builtin;refine R.zc7 R.elemP rfl _ _ rfl _ _ xs [x] rfl rfl HR4.out HO4.out hs2 (fun g hg=>(HLt.out g hg).2) (by simp;omega) hF4 ?_;intro v5 w5 R5 g5 n5;rw[HZs.out] at R5;obtain⟨vo5,vc5,hv5⟩:=R.Row.slice R5;subst hv5;have HR5:Hid (R.RowP w.heap.size w5 (.slice vo5 zs.length vc5) zs):=R5;have HC5:Hid (T.Cur w5 cb tb cap ao l r):=HC4.out.row g5 (fun g hg=>(HLt.out g hg).1) he1 HE2.out;have HG5:Hid (w.grownBy w5 (some cb)):=R.zd5 HG4.out g5 (fun g hg=>(HLt.out g hg).1);clear R5 g5 n5)
     refine(zaz _ cb tb cap r ao l HC5.out).mono ?_;rintro e w6 ⟨rfl,C6,g6⟩;have HC6:=qH C6;have HG6:=qH<|S.zaa HG5.out g6;have HR6:Hid (R.RowP w.heap.size w6 (.slice vo5 zs.length vc5) zs):=R.Row.cur HR5.out g6 he1;clear C6 g6;go_wp2
     go_roundw
     case rel=>exact⟨R.gap l r,zs,vo5,vc5,rfl,by have:=HZl.out;omega,by show _=_;rw[show 202-zs.length=f by have:=HZl.out;omega,<- HN2.out,R.partsN,if_neg hd,if_neg h200,HHc.out];simp only;rw[HZs.out],HR6,HC6,HG6⟩
     case measure=>have:=HZl.out;simp[R.lenV];omega
theorem zg5 (s:ByteArray)(w:World)(hs:s.size<=1099511627776) :
  Calls prog 26 #[.string s] w fun e w'=>∃v,e=.returned v/\w'.ownsRow (w.heap.size+1) 21 1 v (M.rn s).length ((M.rn s).map (Value.int .i32))/\Bl w w':=by
 obtain⟨i0,hi,hz0,hz1,hz2⟩:=info_parts Tryz.infoI32
 go_enter func26,ntmps26
 go_wp2
 go_loopw [3] (fun v wr=>∃(pos fuel:Nat) (acc:List Int),wr.heap[w.heap.size]?=some (.stringIter s pos)/\wr.ownsRow (w.heap.size+1) 21 1 v acc.length (acc.map (Value.int .i32))/\Bl w wr/\Hid (acc++(M.steps s fuel pos).map (fun x=>(x.2:Int))=M.rn s)/\s.size<=pos+fuel/\acc.length<=pos) (fun _ wr=>s.size-wr.iterPos w.heap.size)
 case atStart=>exact⟨0,s.size,[],World.iter_heap w s 0,World.ownsRow_nil _ _ _ _,(qR _).alloc qN _,rfl,by omega,by simp⟩
 case round =>
  obtain⟨pos,fuel,acc,hit,hown,hbw,HS,hb,hlen⟩:=hrel;have hpos0:=iterPos_of hit
  by_cases hp:pos<s.size
  ·have hnx:∀ty,(Instr.next (.pointer (some ⟨w.heap.size,0,none⟩)) true ty).run prog wr=_:=fun ty=>Lib.run_next_any_at wr w.heap.size s pos ty hit hp
   have hwd:=M.width_pos s pos hp;obtain⟨fuel,rfl⟩:∃f',fuel=f'+1:=⟨fuel-1,by omega⟩;have hit2:=Lib.iterAt_heap wr w.heap.size s pos (pos+(Utf8.decode s pos).2) hit;have hbw2:=Lib.below_iterAt hbw (k:=w.heap.size) qN s (pos+(Utf8.decode s pos).2);have hown2:=ownsRow_iterAt hown (k:=w.heap.size) (by omega) s (pos+(Utf8.decode s pos).2);obtain⟨W1,hW1⟩:=qE (wr.iterAt w.heap.size s (pos+(Utf8.decode s pos).2));rw[<- hW1] at hnx hit2 hbw2 hown2;have hBlt:=lt_of_block hit2;clear hW1 hit hown hbw
   go_wp2_with (at_builtin;go_must (refine wpList_append_own _ rfl _ _ 42 rfl (w.heap.size+1) 21 i0 (.int .i32 0) 1 4 underlying42 hi hz0 hz1 hz2 rfl (by decide) _ _ _ rfl (hown2.alloc _) ⟨W1.heap.size,0,none⟩ 1 1 [.int .i32 ((Utf8.decode s pos).1:Int)] rfl rfl (cell_one_new _ _ _) (fun x hx=>by simp at hx;subst hx;rfl) (by unfold maxLen;omega) (by omega) (by simp;omega) ?_;intro v' w3 hown' hgrow3 hnil3;have X:=L.zp9 hit2 hbw2 hown2 hown' hgrow3;clear hown' hgrow3 hnil3))
   go_roundw
   case rel=>exact⟨_,fuel,acc++ [((Utf8.decode s pos).1:Int)],X.out.2.1,(by simpa using X.out.1),X.out.2.2,(by show _=_;rw[<- HS.out];simp[M.steps,hp]),by omega,by simp;omega⟩
   case measure=>rw[iterPos_of X.out.2.1,hpos0];omega
  ·have hnx:∀ty,(Instr.next (.pointer (some ⟨w.heap.size,0,none⟩)) true ty).run prog wr=_:=fun ty=>Lib.run_next_end_at wr w.heap.size s pos ty hit hp
   go_wp2;go_ret
   have e:=HS.out;rw[M.zib s fuel pos hp,List.map_nil,List.append_nil] at e;subst e;exact⟨_,rfl,hown,hbw⟩
theorem zrw:∀(L:List UInt8),∀x∈M.ru L,M.right (x.1:Int)=true:=by
 intro L
 induction L using M.zu5 with
 | h0=>intro x hx;simp[M.zu4] at hx
 | h1 L hL ih =>
  intro x hx;rw[M.zhn L hL] at hx;rcases List.mem_cons.1 hx with rfl|h
  ·exact M.zs3 L
  ·exact ih x h
theorem zry (s:ByteArray):∀z∈M.rn s,M.right z=true:=by
 intro z hz;rw[M.zu8] at hz;obtain⟨x,hx,rfl⟩:=List.mem_map.1 hz;exact zrw _ x hx
def R.readE (o:T.Out (List R.Part)) (w:World) (e:Ending) (w':World):Prop :=
 match o with
 | .ok t _=>∃v,e=.returned (.tuple #[v,.agg #[.int .i64 0,.int .i64 0]])/\R.RowP w.heap.size w' v t/\t.length<=200/\Bl w w'
 | .bad er q=>e=.returned (.tuple #[.slice none 0 0,.agg #[.int .i64 er,.int .i64 q]])/\Bl w w'
def R.faultV (er:Int) (q:Nat):Value:=.iface 36 (.agg #[.int .i64 er,.int .i64 q])
theorem zkg (x:Value)(w:World):(Instr.typeAssert (.iface 36 x) 20 36 true).run prog w=.ok (.tuple #[x,.bool true]) w:=by kernel_rfl
theorem zkf (w:World):(Instr.typeAssert .nilIface 20 36 true).run prog w=.ok (.tuple #[.agg #[.int .i64 0,.int .i64 0],.bool false]) w:=by kernel_rfl
theorem zdy (bs bf:Nat)(er:Int)(q:Nat)(older:List PanicEntry)(w:World)(vs f1 f2:Value)(hs:S.Bx w bs 34 vs)(hf:w.heap[bf]?=some (.cells #[f1,f2] 36))(hne:bs≠bf) :
  CallsD prog 28 #[.pointer (some ⟨bs,0,none⟩),.pointer (some ⟨bf,0,none⟩)] (.panicking ({ v:=R.faultV er q,recovered:=false }::older)) w fun e u' w' =>
   e=.returned (.tuple #[])/\u'=.panicking ({ v:=R.faultV er q,recovered:=true }::older)/\S.Bx w' bs 34 (.slice none 0 0)/\w'.heap[bf]?=some (.cells #[.int .i64 er,.int .i64 q] 36)/\(∀B,B<=bs->B<=bf->Below B w w'):=by
 have hta:=fun x w=>zkg x w
 have hrep:Array.replicate 9 undef=#[undef,undef,undef,undef,undef,undef,undef,undef,undef]:=rfl;refine callsD_of_wpS func28 rfl fun c₀ cs hu=> ?_
 apply wpS_seq;apply wpS_region;simp[wpOpsS,go_sem,recoverD,hu,ntmps28,Exit.thenS,R.faultV,hrep,hta];refine wpS_of_wp ?_;have bW:=(qR w).alloc qN (.cells #[.int .i64 er,.int .i64 q] 36);have hx:=zch (heap_alloc_new w (.cells #[.int .i64 er,.int .i64 q] 36));have hs':S.Bx _ bs 34 vs:=hs.below bW hs.lt;have hf':(w.alloc (.cells #[.int .i64 er,.int .i64 q] 36)).heap[bf]?=some (.cells #[f1,f2] 36):=by rw[bW.block bf (qA.1 hf).1];exact hf
 have hl1:=hs.lt;have hl2:=(qA.1 hf).1;have n1:¬w.heap.size=bs:=by omega
 have n2:¬w.heap.size=bf:=by omega
 have hsc:=hs'.cell;have hsf:=hs'.free;have hfc:=zch hf';have HS:Hid (S.Bx _ bs 34 vs):=hs';have HF:Hid _:=hf';have HB:Hid (∀B,B<=w.heap.size->Below B w (w.alloc (.cells #[.int .i64 er,.int .i64 q] 36))):=fun B hB=>bW.mono hB
 obtain⟨x0,x1,_,_⟩:=hx;obtain⟨z0,z1,z2,z3⟩:=hfc;generalize w.alloc (.cells #[.int .i64 er,.int .i64 q] 36)=W at *;clear hs' hf' hs hf bW;go_wp2
 go_region
 have hA1:=HS.out.set (.slice none 0 0);have hF1:(W.setCell ⟨bs,0,none⟩ (.slice none 0 0)).heap[bf]?=some (.cells #[f1,f2] 36):=by rw[heap_setCell_other _ ⟨bs,0,none⟩ bf _ (Ne.symm hne)];exact HF.out
 have hF2:=zds _ bf f1 f2 (.int .i64 er) (.int .i64 q) 36 hF1
 have hA2:S.Bx (((W.setCell ⟨bs,0,none⟩ (.slice none 0 0)).setCell ⟨bf,0,none⟩ (.int .i64 er)).setCell ⟨bf,1,none⟩ (.int .i64 q)).drew bs 34 (.slice none 0 0):=by
  show _=_;show (((W.setCell ⟨bs,0,none⟩ (.slice none 0 0)).setCell ⟨bf,0,none⟩ (.int .i64 er)).setCell ⟨bf,1,none⟩ (.int .i64 q)).heap[bs]?=_;rw[heap_setCell_other _ ⟨bf,1,none⟩ bs _ hne,heap_setCell_other _ ⟨bf,0,none⟩ bs _ hne];exact hA1
 have hB2:∀B,B<=bs->B<=bf->Below B w (((W.setCell ⟨bs,0,none⟩ (.slice none 0 0)).setCell ⟨bf,0,none⟩ (.int .i64 er)).setCell ⟨bf,1,none⟩ (.int .i64 q)).drew:=fun B h1 h2=>((((HB.out B (by omega)).setCell (p:=⟨bs,0,none⟩) h1 _).setCell (p:=⟨bf,0,none⟩) h2 _).setCell (p:=⟨bf,1,none⟩) h2 _).drew
 have hF3:(((W.setCell ⟨bs,0,none⟩ (.slice none 0 0)).setCell ⟨bf,0,none⟩ (.int .i64 er)).setCell ⟨bf,1,none⟩ (.int .i64 q)).drew.heap[bf]?=some (.cells #[.int .i64 er,.int .i64 q] 36):=hF2;generalize (((W.setCell ⟨bs,0,none⟩ (.slice none 0 0)).setCell ⟨bf,0,none⟩ (.int .i64 er)).setCell ⟨bf,1,none⟩ (.int .i64 q)).drew=X at hA2 hB2 hF3 ⊢;change bodyPostS prog Tryz.f28 c₀ cs _ Exit.normal _ _ X;simp[bodyPostS,results,results28];exact⟨hA2,hF3,hB2⟩
theorem zkd (ps pf:Addr)(w:World) :
  CallsD prog 28 #[.pointer (some ps),.pointer (some pf)] .returning w fun e u' w' =>
   e=.returned (.tuple #[])/\u'=.returning/\∃o,w'=w.alloc o:=by
 have hta:=fun w=>zkf w
 have hrep:Array.replicate 9 undef=#[undef,undef,undef,undef,undef,undef,undef,undef,undef]:=rfl;refine callsD_of_wpS func28 rfl fun c₀ cs hu=> ?_
 apply wpS_seq;apply wpS_region;simp[wpOpsS,go_sem,recoverD,hu,ntmps28,Exit.thenS,hrep,hta];refine wpS_of_wp ?_;go_wp2;cases c₀
 simp_all[bodyPostS,results,results28]
 exact⟨_,rfl⟩
theorem zfi {fn:Func}{p u:Tmp}(h:fn.results=#[.cell p 34,.cell u 36])(tmps:Array Value)(w:World)(bs bf:Nat)(v y1 y2:Value)(hs:S.Bx w bs 34 v)(hf:w.heap[bf]?=some (.cells #[y1,y2] 36))
  (hp:tmps.getD p undef=.pointer (some ⟨bs,0,none⟩)) (hu:tmps.getD u undef=.pointer (some ⟨bf,0,none⟩)):(results fn tmps).run prog w=.ok (.tuple #[v,.agg #[y1,y2]]) w:=by
 have hl:=run_loadVar_row (P:=prog) w bf 36 36 #[y1,y2] (0,0) _ hf underlying36 rfl (by kernel_rfl);have hc:=hs.cell
 have hl2:(loadVar 34 ⟨bs,0,none⟩).run prog w=.ok v w:=by
  simp[go_sem,hc]
 have e:(results fn tmps).run prog w=((asAddr (tmps.getD p undef)).run prog w).andThen fun a w₁ => ((loadVar 34 a).run prog w₁).andThen fun x w₂ => ((asAddr (tmps.getD u undef)).run prog w₂).andThen fun b w₃ => ((loadVar 36 b).run prog w₃).andThen fun y w₄ => .ok (.tuple #[x,y]) w₄ := by
  simp only[results,h];simp[Sem.run_bind,Result.andThen]
 rw[e,hp,hu];simp[asAddr,Result.andThen,hl,hl2]
theorem zih (hK:T.ClassOk)(s:ByteArray)(hs:s.size<=1099511627776)(w:World) :
  Calls prog 11 #[.string s] w (R.readE (R.read (M.rn s)) w):=by
 have hmf:∀(fn:Fn) (first cap:Array Value) (w:World),(Instr.makeFunc fn first cap).run prog w=.ok (.func fn first cap) w:=fun _ _ _ _=>rfl
 obtain⟨o,HO⟩:∃o,Hid (R.read (M.rn s)=o):=⟨_,rfl⟩;rw[HO.out]
 go_enter_defers func11,ntmps11
 go_wp2_with fail
 have HX0:Hid (S.Bx (w.alloc (.cells #[.slice none 0 0] 34)) w.heap.size 34 (.slice none 0 0)):=S.Bx.new w _ _;have bA:=(qR w).alloc qN (.cells #[.slice none 0 0] 34);have bB:Bl w ((w.alloc (.cells #[.slice none 0 0] 34)).alloc (.cells #[.int .i64 0,.int .i64 0] 36)):=bA.alloc (by simp) _;have hsz:(w.alloc (.cells #[.slice none 0 0] 34)).heap.size=w.heap.size+1:=by simp
 have HX:S.Bx ((w.alloc (.cells #[.slice none 0 0] 34)).alloc (.cells #[.int .i64 0,.int .i64 0] 36)) w.heap.size 34 (.slice none 0 0):=HX0.out.below ((qR _).alloc qN _) (by rw[hsz];omega)
 have HFb:((w.alloc (.cells #[.slice none 0 0] 34)).alloc (.cells #[.int .i64 0,.int .i64 0] 36)).heap[w.heap.size+1]?=some (.cells #[.int .i64 0,.int .i64 0] 36):=by
  have:=heap_alloc_new (w.alloc (.cells #[.slice none 0 0] 34)) (.cells #[.int .i64 0,.int .i64 0] 36);rw[hsz] at this;exact this
 refine(zg5 s _ hs).mono ?_;generalize (w.alloc (.cells #[.slice none 0 0] 34)).alloc (.cells #[.int .i64 0,.int .i64 0] 36)=W2 at bB HX HFb;clear HX0 bA hsz;rintro e w3 ⟨v,rfl,own,b3⟩;have hX3:=HX.below b3 HX.lt;have hF3:w3.heap[w.heap.size+1]?=some (.cells #[.int .i64 0,.int .i64 0] 36):=by rw[b3.block _ (qA.1 HFb).1];exact HFb
 have B3:=bB.trans (b3.mono bB.size);have hrt:=zry s;generalize M.rn s=l at own HO hrt;have bW:=(qR w3).alloc qN (.cells #[v,.int .i64 0] 63);have HX4:=qH<|hX3.below bW hX3.lt
 have HF4:Hid ((w3.alloc (.cells #[v,.int .i64 0] 63)).heap[w.heap.size+1]?=some (.cells #[.int .i64 0,.int .i64 0] 36)):=by
  show _=_;rw[bW.block _ (qA.1 hF3).1];exact hF3
 have HB4:=qH<|B3.trans (bW.mono B3.size)
 by_cases hbig:16000<l.length
 ·obtain⟨vo,vc,hv⟩:∃vo vc,v=.slice vo l.length vc:=by
   rcases own.2 with ⟨rfl,h0⟩|⟨g,cap,cur,rfl,_⟩
   ·exact⟨none,0,by rw[h0]⟩
   ·exact⟨_,_,rfl⟩
  subst hv;clear own hX3 hF3 B3 bB HX HFb b3 bW
  go_wp2_with (go_at_call 29;refine(zaw _ 4 0).mono ?_;unfold T.thrown;rintro e w5 ⟨rfl,rfl⟩)
  refine leaves_cons (f:=28) (args:=#[.pointer (some ⟨w.heap.size,0,none⟩),.pointer (some ⟨w.heap.size+1,0,none⟩)]) (by simp) (by simp[go_sem]) ?_;refine(zdy w.heap.size (w.heap.size+1) 4 0 [] _ _ _ _ HX4.out HF4.out (by omega)).mono ?_;rintro e u' w6 ⟨rfl,rfl,hA,hF,hB⟩;refine⟨_,zfi (by rfl) _ _ w.heap.size (w.heap.size+1) _ _ _ hA hF rfl rfl,?_⟩;rw[<- HO.out];unfold R.read;rw[if_pos hbig];exact⟨rfl,HB4.out.trans (hB w.heap.size qN (by omega))⟩
 ·obtain⟨ao,cap,tb,hv,CW⟩:=T.Cur.new 63 own (by omega) hrt;subst hv;have HCW:Hid _:=CW;have HNb:=qH<|(qA.1 hF3).1;clear own CW hX3 hF3 B3 bB HX HFb b3 bW
  go_wp2_with fail
  refine(zr8 hK _ _ tb cap ao l HCW.out).mono ?_;generalize w3.alloc (.cells #[.slice ao l.length cap,.int .i64 0] 63)=W4 at HX4 HF4 HB4 HCW;intro e w5 h;cases hc:R.parts l with
  | bad er q =>
   rw[hc] at h;obtain⟨rfl,g5⟩:=h;have hX5:=HX4.out.grown g5 (by have:=HNb.out;simp;omega)
   have hF5:w5.heap[w.heap.size+1]?=some (.cells #[.int .i64 0,.int .i64 0] 36):=by
    rw[g5.block _ (qA.1 HF4.out).1 (by have:=HNb.out;simp;omega)];exact HF4.out
   have HB5:=qH<|Below.grown HB4.out g5 HB4.out.size (fun k hk=>by cases hk;have:=HNb.out;omega);have HX5:Hid _:=hX5;have HF5:Hid _:=hF5;have HHc:Hid _:=hc;clear hX5 hF5 g5 hc;unfold T.thrown;go_wp2;refine leaves_cons (f:=28) (args:=#[.pointer (some ⟨w.heap.size,0,none⟩),.pointer (some ⟨w.heap.size+1,0,none⟩)]) (by simp) (by simp[go_sem]) ?_;refine(zdy w.heap.size (w.heap.size+1) er q [] _ _ _ _ HX5.out HF5.out (by omega)).mono ?_;rintro e u' w6 ⟨rfl,rfl,hA,hF,hB⟩;refine⟨_,zfi (by rfl) _ _ w.heap.size (w.heap.size+1) _ _ _ hA hF rfl rfl,?_⟩;rw[<- HO.out];unfold R.read;rw[if_neg hbig,HHc.out];exact⟨rfl,HB5.out.trans (hB w.heap.size qN (by omega))⟩
  | ok t q =>
   rw[hc] at h;obtain⟨v5,rfl,⟨hr5,hl5⟩,C5,g5⟩:=h;have hX5:=HX4.out.grown g5 (by have:=HNb.out;simp;omega)
   have hF5:w5.heap[w.heap.size+1]?=some (.cells #[.int .i64 0,.int .i64 0] 36):=by
    rw[g5.block _ (qA.1 HF4.out).1 (by have:=HNb.out;simp;omega)];exact HF4.out
   have HB5:=qH<|Below.grown HB4.out g5 HB4.out.size (fun k hk=>by cases hk;have:=HNb.out;omega);have HX5:=qH hX5;have HF5:Hid _:=hF5;have HHc:Hid _:=hc;have x0:=hX5.cell;have x1:=hX5.free;obtain⟨y0,y1,y2,y3⟩:=zch hF5;have hW4:w.heap.size+2<=W4.heap.size:=by have:=(qA.1 HF4.out).1;omega
   have HR5:=qH hr5;obtain⟨vo,vc,hv⟩:=R.Row.slice hr5;subst hv;clear hX5 hF5 g5 hc hr5 C5;go_wp2;have hne:w.heap.size≠w.heap.size+1:=by omega
   have g1:w5.grownBy (w5.setCell ⟨w.heap.size,0,none⟩ (.slice vo t.length vc)) (some w.heap.size):=R.zak _ _ _ _;have g2:(w5.setCell ⟨w.heap.size,0,none⟩ (.slice vo t.length vc)).grownBy (((w5.setCell ⟨w.heap.size,0,none⟩ (.slice vo t.length vc)).setCell ⟨w.heap.size+1,0,none⟩ (.int .i64 0)).setCell ⟨w.heap.size+1,1,none⟩ (.int .i64 0)) (some (w.heap.size+1)):=S.zaa (R.zak _ _ _ _) (R.zak _ _ _ _);have R3:=R.Row.cur (R.Row.cur HR5.out g1 (by omega)) g2 (by omega);have hF1:(w5.setCell ⟨w.heap.size,0,none⟩ (.slice vo t.length vc)).heap[w.heap.size+1]?=some (.cells #[.int .i64 0,.int .i64 0] 36):=by rw[heap_setCell_other _ ⟨w.heap.size,0,none⟩ _ _ (Ne.symm hne)];exact HF5.out
   have hF2:=zds _ (w.heap.size+1) _ _ (.int .i64 0) (.int .i64 0) 36 hF1
   have hA2:S.Bx (((w5.setCell ⟨w.heap.size,0,none⟩ (.slice vo t.length vc)).setCell ⟨w.heap.size+1,0,none⟩ (.int .i64 0)).setCell ⟨w.heap.size+1,1,none⟩ (.int .i64 0)) w.heap.size 34 (.slice vo t.length vc):=by
    show _=_;rw[heap_setCell_other _ ⟨w.heap.size+1,1,none⟩ _ _ hne,heap_setCell_other _ ⟨w.heap.size+1,0,none⟩ _ _ hne];exact HX5.out.set (.slice vo t.length vc)
   have hB2:Bl w (((w5.setCell ⟨w.heap.size,0,none⟩ (.slice vo t.length vc)).setCell ⟨w.heap.size+1,0,none⟩ (.int .i64 0)).setCell ⟨w.heap.size+1,1,none⟩ (.int .i64 0)):=((HB5.out.setCell (p:=⟨w.heap.size,0,none⟩) qN _).setCell (p:=⟨w.heap.size+1,0,none⟩) (Nat.le_succ _) _).setCell (p:=⟨w.heap.size+1,1,none⟩) (Nat.le_succ _) _;generalize ((w5.setCell ⟨w.heap.size,0,none⟩ (.slice vo t.length vc)).setCell ⟨w.heap.size+1,0,none⟩ (.int .i64 0)).setCell ⟨w.heap.size+1,1,none⟩ (.int .i64 0)=X at R3 hF2 hA2 hB2 ⊢;refine leaves_cons (f:=28) (args:=#[.pointer (some ⟨w.heap.size,0,none⟩),.pointer (some ⟨w.heap.size+1,0,none⟩)]) (by simp) (by simp[go_sem]) ?_;refine(zkd ⟨w.heap.size,0,none⟩ ⟨w.heap.size+1,0,none⟩ _).mono ?_;rintro e u' w6 ⟨rfl,rfl,ob,rfl⟩;have bX:=(qR X).alloc qN ob;refine⟨_,zfi (by rfl) _ _ w.heap.size (w.heap.size+1) _ _ _ (hA2.below bX hA2.lt) (by rw[bX.block _ (qA.1 hF2).1];exact hF2) rfl rfl,?_⟩;rw[<- HO.out];unfold R.read;rw[if_neg hbig,HHc.out];exact⟨_,rfl,R.Row.down (R.Row.below R3 bX) (by omega),hl5,hB2.trans (bX.mono hB2.size)⟩
