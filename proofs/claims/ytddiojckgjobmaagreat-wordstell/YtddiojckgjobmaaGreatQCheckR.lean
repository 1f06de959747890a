/-
 Great letters and small ones: the document's answers.
-/
import Derived.Test.YtddiojckgjobmaaGreatYRus
import Derived.Test.YtddiojckgjobmaaGreatMRefT
import Derived.Test.YtddiojckgjobmaaGreatCnGo
import Derived.BigRegion
import Derived.RegionTactic
import Derived.Deep.RegionHeld3
import Derived.Deep.QuietTactic
import Derived.BigQuiet
import Derived.Test.YtddiojckgjobmaaGreatMWrong
import Derived.Test.YtddiojckgjobmaaGreatCnMath
import Derived.Test.YtddiojckgjobmaaGreatSWrong
set_option maxHeartbeats 0
set_option maxRecDepth 20000
set_option linter.unusedSimpArgs false
set_option linter.unusedVariables false
namespace Go.Proofs.YtddiojckgjobmaaGreat
open Go.RowKit
theorem zgu (r:Int)(h1: -2147483648<=r)(h2:r<=2147483647)(w:World) :
  Calls Tryz.prog 19 #[.int .i32 r] w fun e w'=>e= .returned (.int .i32 (Cn.up r))/\w'=w:=by
 obtain⟨o,HO⟩:∃o,Hid (Cn.up r=o):=⟨_,rfl⟩;rw[show Cn.up r=o from HO.out]
 go_enter Tryz.func19,Tryz.ntmps19
 go_wp2
 all_goals go_ret
 all_goals (refine⟨L.zby ?_,rfl⟩;rw[<- HO.out];unfold Cn.up Cn.lessF;(try simp_all);(try omega))
 all_goals (try (repeat' split))
 all_goals omega
theorem zgw (r:Int)(h1: -2147483648<=r)(h2:r<=2147483647)(w:World) :
  Calls Tryz.prog 20 #[.int .i32 r] w fun e w'=>e= .returned (.int .i32 (Cn.low r))/\w'=w:=by
 obtain⟨o,HO⟩:∃o,Hid (Cn.low r=o):=⟨_,rfl⟩;rw[show Cn.low r=o from HO.out]
 go_enter Tryz.func20,Tryz.ntmps20
 go_wp2
 all_goals go_ret
 all_goals (refine⟨L.zby ?_,rfl⟩;rw[<- HO.out])
 all_goals (unfold Cn.low Cn.lessF;(try simp_all);(try omega))
 all_goals (try (repeat' split))
 all_goals omega
end Go.Proofs.YtddiojckgjobmaaGreat
namespace Go.Proofs.YtddiojckgjobmaaGreat
open Go.RowKit
theorem zej (w:World)(v:Value)(r:K.Rule)(R:K.RuIs w v r)(hE:K.ruleE r=0)(vt:Value)(t:List Int)(Rt:L.Rd w vt .i32 t)(ht:t.length<=4000)(k:Int)(hk0:0<=k)(hk1:k<=t.length) :
  Calls Tryz.prog 71 #[v,vt,.int .i64 k] w fun e w'=>e= .returned (.bool (K.matchB r t k))/\Below w.heap.size w w':=by
 obtain⟨g1,g2,g3,hsrc,_⟩:=K.zai hE;have l1:=g1.1;have l2:=g2.1;have l3:=g3.1;obtain⟨bo,bc,so,sc,ao,ac,tgo,tc,rfl,R1,R2,R3,R4,hl4,hcur⟩:=R;have HT:Hid (L.Rd w vt .i32 t):=Rt;obtain⟨xo,xc,rfl,_⟩:=Rt;have HMB:Hid (K.matchB r t k=(K.runAt t (k - r.before.length) (r.before++r.source++r.after)&& !(r.start&&decide (0<k - r.before.length))&& !(r.fin&&decide (k+r.source.length+r.after.length<t.length)))):=rfl
 have hG:∀s∈r.before++r.source++r.after,S.Nf 0 s/\s.length<=200:=fun s hs=>by
  rcases List.mem_append.1 hs with hs | hs
  ·rcases List.mem_append.1 hs with hs | hs
   ·exact g1.2 s hs
   ·exact g2.2 s hs
  ·exact g3.2 s hs
 have HG:Hid (∀s∈r.before++r.source++r.after,S.Nf 0 s/\s.length<=200):=hG;generalize K.matchB r t k=mb at *;obtain⟨st,fi,be,sou,af,ta,cu⟩:=r;simp only at *;clear g1 g2 g3 hG hE;obtain⟨W0,hW0⟩:∃W0,W0=w.alloc (.cells #[.bool st,.bool fi,.slice bo be.length bc,.slice so sou.length sc,.slice ao af.length ac,.slice tgo ta.length tc,.int .i64 cu] 81):=⟨_,rfl⟩;have hH0:W0.heap[w.heap.size]?=some (.cells #[.bool st,.bool fi,.slice bo be.length bc,.slice so sou.length sc,.slice ao af.length ac,.slice tgo ta.length tc,.int .i64 cu] 81):=by rw[hW0];exact heap_alloc_new w _
 have hB0:Below w.heap.size w W0.drew:=by rw[hW0];exact((qR w).alloc qN _).drew
 have hs0:W0.heap.size=w.heap.size+1:=by rw[hW0];simp
 have hs0':W0.drew.heap.size=w.heap.size+1:=hs0;have hH0':W0.drew.heap[w.heap.size]?=some (.cells #[.bool st,.bool fi,.slice bo be.length bc,.slice so sou.length sc,.slice ao af.length ac,.slice tgo ta.length tc,.int .i64 cu] 81):=hH0;obtain⟨u1,V1⟩:=K.Ss.vals R1;obtain⟨u2,V2⟩:=K.Ss.vals R2;obtain⟨u3,V3⟩:=K.Ss.vals R3;have sets1:K.Sets w u1 be:=by obtain⟨_,_,_,_,h,_⟩:=V1;exact h
 have sets2:K.Sets w u2 sou:=by obtain⟨_,_,_,_,h,_⟩:=V2;exact h
 have sets3:K.Sets w u3 af:=by obtain⟨_,_,_,_,h,_⟩:=V3;exact h
 obtain⟨v1,W1,run1,own1,gr1⟩:=K.zd3 W0.drew (w.heap.size+1) (.slice none 0 0) [] (World.ownsRow_nil _ _ _ _) _ be u1 (V1.below hB0) (by simp;omega) (by omega);have hB1:Below w.heap.size w W1:=hB0.grown gr1 (by omega) (fun g hg=>by cases hg);have hH1:W1.heap[w.heap.size]?=some (.cells #[.bool st,.bool fi,.slice bo be.length bc,.slice so sou.length sc,.slice ao af.length ac,.slice tgo ta.length tc,.int .i64 cu] 81):=by rw[gr1.block _ (by omega) (by simp[Value.ownBlock])];exact hH0'
 have hs1:=gr1.size;have e1:u1.length=be.length:=sets1.1;obtain⟨v2,W2,run2,own2,gr2⟩:=K.zd3 W1 (w.heap.size+1) v1 _ own1 _ sou u2 (V2.below hB1) (by simp;omega) (by omega);have hB2:Below w.heap.size w W2:=hB1.grown gr2 (by omega) (fun g hg=>by have:=(own1.lt g hg).1;omega);have hH2:W2.heap[w.heap.size]?=some (.cells #[.bool st,.bool fi,.slice bo be.length bc,.slice so sou.length sc,.slice ao af.length ac,.slice tgo ta.length tc,.int .i64 cu] 81):=by rw[gr2.block _ (by omega) (fun hg=>by have:=(own1.lt _ hg.symm).1;omega)];exact hH1
 have hs2:=gr2.size;have e2:u2.length=sou.length:=sets2.1;obtain⟨v3,W3,run3,own3,gr3⟩:=K.zd3 W2 (w.heap.size+1) v2 _ own2 _ af u3 (V3.below hB2) (by simp;omega) (by omega);have hB3:Below w.heap.size w W3:=hB2.grown gr3 (by omega) (fun g hg=>by have:=(own2.lt g hg).1;omega);have hH3:W3.heap[w.heap.size]?=some (.cells #[.bool st,.bool fi,.slice bo be.length bc,.slice so sou.length sc,.slice ao af.length ac,.slice tgo ta.length tc,.int .i64 cu] 81):=by rw[gr3.block _ (by omega) (fun hg=>by have:=(own2.lt _ hg.symm).1;omega)];exact hH2
 have e3:u3.length=af.length:=sets3.1;have hs3:=gr3.size;obtain⟨us,hus⟩:∃us,us= []++u1++u2++u3:=⟨_,rfl⟩;obtain⟨l,hl⟩:∃l,l=be++sou++af:=⟨_,rfl⟩;have hSets:K.Sets w us l:=by rw[hus,hl];simpa using (sets1.append sets2).append sets3
 have hlen:l.length=be.length+sou.length+af.length:=by rw[hl];simp only[List.length_append]
 have HLen:Hid (l.length=be.length+sou.length+af.length):=hlen;have hl60:l.length<=60:=by omega
 have hl0:0<l.length:=by omega
 rw[<- hus] at own3;rw[<- hl] at HMB HG;have HS:Hid (K.Sets w us l):=hSets
 obtain⟨g,cap,hv3,hgB,hgc⟩:∃g cap,v3= .slice (some ⟨g,0,none⟩) l.length cap/\w.heap.size+1<=g/\∀(j:Nat) u,us[j]?=some u->W3.cell? ⟨g,0+j,none⟩=some u:=by
  have hc:=fun g hg=>World.ownsRow.cells own3 (g:=g) hg
  rcases own3.2 with ⟨_,h0⟩|⟨g,cap,cur,hv,hB,_⟩
  ·rw[hSets.1] at h0;omega
  ·refine⟨g,cap,by rw[hv,hSets.1],hB,fun j u hj=> ?_⟩;have:=hc g (by rw[hv];rfl) j u hj;rw[L.addr_add] at this;exact this
 have HGC:Hid (∀(j:Nat) u,us[j]?=some u->W3.cell? ⟨g,0+j,none⟩=some u):=hgc;subst hv3;have c2:=K.zaa (i:=2) hH0 rfl;have c3:=K.zaa (i:=3) hH0 rfl;have c4:=K.zaa (i:=4) hH0 rfl;have c12:=K.zaa (i:=2) hH1 rfl;have c13:=K.zaa (i:=3) hH1 rfl;have c14:=K.zaa (i:=4) hH1 rfl;have c22:=K.zaa (i:=2) hH2 rfl;have c23:=K.zaa (i:=3) hH2 rfl;have c24:=K.zaa (i:=4) hH2 rfl;have HB3:Hid (Below w.heap.size w W3):=hB3;have HH3:Hid (W3.heap[w.heap.size]?=some (.cells #[.bool st,.bool fi,.slice bo be.length bc,.slice so sou.length sc,.slice ao af.length ac,.slice tgo ta.length tc,.int .i64 cu] 81)):=hH3;clear hH0 hH0' hH1 hH2 hH3 hB0 hB1 hB2 hB3 own1 own2 own3 gr1 gr2 gr3 V1 V2 V3 sets1 sets2 sets3 hSets hlen hgc R1 R2 R3 R4 hus hl
 go_enter Tryz.func71,Tryz.ntmps71
 go_wp2;rw[<- hW0]
 clear hW0;have c32:=K.zaa (i:=2) HH3.out rfl;have c33:=K.zaa (i:=3) HH3.out rfl;have c34:=K.zaa (i:=4) HH3.out rfl;have HR1:Hid (∀ty,(Builtin.append_ #[79,79] ty #[.slice none 0 0,.slice bo be.length bc]).run Tryz.prog W0.drew= .ok v1 W1):=run1;have HR2:Hid (∀ty,(Builtin.append_ #[79,79] ty #[v1,.slice so sou.length sc]).run Tryz.prog W1= .ok v2 W2):=run2;have HR3:Hid (∀ty,(Builtin.append_ #[79,79] ty #[v2,.slice ao af.length ac]).run Tryz.prog W2= .ok (.slice (some ⟨g,0,none⟩) l.length cap) W3):=run3;clear run1 run2 run3
 go_region_held3 (fun w'=>w'.cell? ⟨w.heap.size,2,none⟩=some (.slice bo be.length bc)/\w'.cell? ⟨w.heap.size,3,none⟩=some (.slice so sou.length sc)/\w'.cell? ⟨w.heap.size,4,none⟩=some (.slice ao af.length ac))
  (first | exact⟨c12,c13,c14⟩ | exact⟨c22,c23,c24⟩ | exact⟨c32,c33,c34⟩ | go_keep)
  (first | (refine K.zay (by rfl) (.tmp 12) (.tmp 14) (by rfl) _ _ v1 W1 (by rfl) (by rfl) HR1.out ?_) | (refine K.zay (by rfl) (.tmp 15) (.tmp 17) (by rfl) _ _ v2 W2 (by rfl) (by rfl) HR2.out ?_) | (refine K.zay (by rfl) (.tmp 18) (.tmp 20) (by rfl) _ _ _ W3 (by rfl) (by rfl) HR3.out ?_) | fail)
 have hneg: -9223372036854775808<=k - (be.length:Int):=by omega
 clear c2 c3 c4 c12 c13 c14 c22 c23 c24 HR1 HR2 HR3;go_wp2
 go_loopw [29] (fun i wr=>∃j:Nat,j<=l.length/\i= .int .i64 j/\Hid (K.runAt t (k - be.length) l=K.runAt t (k - be.length+j) (l.drop j))/\Hid (Below w.heap.size w wr/\Below W3.heap.size W3 wr)) (fun i _=>l.length - (intOf i).toNat)
 case atStart=>exact⟨0,Nat.zero_le _,rfl,by show _=_;simp,HB3.out,qR _⟩
 case round =>
  obtain⟨j,hj,rfl,HW,HB⟩:=hrel;have HBw:Hid (Below w.heap.size w wr):=HB.out.1;have HHr:Hid (wr.heap[w.heap.size]?=some (.cells #[.bool st,.bool fi,.slice bo be.length bc,.slice so sou.length sc,.slice ao af.length ac,.slice tgo ta.length tc,.int .i64 cu] 81)):=K.zab HH3.out HB.out.2
  by_cases hlt:j<l.length
  ·obtain⟨s,hsj⟩:∃s,l[j]?=some s:=⟨l[j],by simp[hlt]⟩;obtain⟨u,hu⟩:∃u,us[j]?=some u:=⟨us[j]'(by rw[HS.out.1];exact hlt),by simp⟩;obtain⟨⟨sso,ssc,rfl⟩,R1,F1⟩:=HS.out.2 j u s hu hsj;have c1:=HGC.out j _ hu;have hbg:=L.block_lt c1;rw[<- HB.out.2.cell (p:=⟨g,_,none⟩) hbg,Nat.zero_add] at c1;obtain⟨hN,hlen⟩:=HG.out s (List.mem_of_getElem? hsj);have HD:=K.zdf (t:=t) (k:=k - be.length) hsj;rw[<- HW.out] at HD;have hfalse:∀b,K.runAt t (k - be.length) l=(false&&b)->mb=false:=fun b h=>by rw[HMB.out,h];simp
   have HF:Hid (∀b,K.runAt t (k - be.length) l=(false&&b)->mb=false):=hfalse;clear hfalse hu hsj
   by_cases h1:k - (be.length:Int)+j<0
   ·have hf:=HF.out false (by rw[HD,decide_eq_false (show ¬(0<=k - (be.length:Int)+j) by omega)];simp only[Bool.false_and]);clear HD;go_wp2;go_ret
    first | exact⟨L.zae hf.symm,HBw.out⟩ | exact⟨rfl,HBw.out⟩
   ·by_cases h2:(t.length:Int)<=k - (be.length:Int)+j
    ·have hf:=HF.out false (by rw[HD,decide_eq_false (show ¬(k - (be.length:Int)+j<t.length) by omega)];simp only[Bool.and_false,Bool.false_and]);clear HD;go_wp2;go_ret
     first | exact⟨L.zae hf.symm,HBw.out⟩ | exact⟨rfl,HBw.out⟩
    ·obtain⟨x,hx⟩:∃x,t[(k - (be.length:Int)+j).toNat]?=some x:=⟨t[(k - (be.length:Int)+j).toNat]'(by omega),by simp⟩;obtain⟨_,_,he,_,htc⟩:=HT.out.below HBw.out qN;cases he;obtain⟨bt,offt,rfl,hct⟩:=htc (by intro h;subst h;simp at hx);have ct:=hct _ x hx;have hhas:=zbq wr _ s x (R1.below HBw.out qN) (by omega);rw[decide_eq_true (show 0<=k - (be.length:Int)+j by omega),decide_eq_true (show k - (be.length:Int)+j<t.length by omega),Bool.true_and,Bool.true_and] at HD;have hgd:t.getD (k - (be.length:Int)+j).toNat 0=x:=by simp[List.getD,hx]
     rw[hgd] at HD;generalize S.memb s x=mm at HD hhas;have HD2:Hid (K.runAt t (k - be.length) l=(mm&&K.runAt t (k - be.length+(j+1:Nat)) (l.drop (j+1)))):=HD;have hsz:=HBw.out.size;have hsz2:=HB.out.2.size;clear HD hct htc hx hgd R1 F1 hN
     go_wp2_with fail
     refine hhas.mono ?_;rintro e w1 ⟨rfl,hb⟩;have HB1:Hid (Below w.heap.size w w1/\Below W3.heap.size W3 w1):=⟨HBw.out.trans (hb.mono hsz),HB.out.2.trans (hb.mono hsz2)⟩;clear hhas hb ct c1;cases mm with
     | false =>
      have hf:=HF.out _ HD2.out;go_wp2;go_ret
      first | exact⟨L.zae hf.symm,HB1.out.1⟩ | exact⟨rfl,HB1.out.1⟩
     | true =>
      go_wp2
      go_roundw
      case rel=>exact⟨j+1,by omega,by go_num,by show _=_;rw[HD2.out];rfl,HB1.out⟩
      case measure=>simp[intOf];omega
  ·have hrun:K.runAt t (k - be.length) l=true:=by rw[HW.out,List.drop_eq_nil_of_le (by omega)];rfl
   have HM2:Hid (mb=(!(st&&decide (0<k - (be.length:Int)))&& !(fi&&decide (k+sou.length+af.length<(t.length:Int))))):=by
    show _=_;rw[HMB.out,hrun];simp
   have d0:=K.zaa (i:=0) HHr.out rfl;have d1:=K.zaa (i:=1) HHr.out rfl;have hsum:k - (be.length:Int)+l.length=k+sou.length+af.length:=by have:=HLen.out;omega
   have HSum:Hid (k - (be.length:Int)+l.length=k+sou.length+af.length):=hsum;clear hrun HMB HG HGC HS HT HW HB HH3 HHr hsum
   by_cases h3:st=true/\0<k - (be.length:Int)
   ·obtain⟨rfl,h3⟩:=h3;have hf:mb=false:=by rw[HM2.out,decide_eq_true h3];rfl
    clear HM2;go_wp2;go_ret
    first | exact⟨L.zae hf.symm,HBw.out⟩ | exact⟨rfl,HBw.out⟩
   ·by_cases h4:fi=true/\k - (be.length:Int)+l.length<t.length
    ·obtain⟨rfl,h4⟩:=h4
     have hf:mb=false:=by
      rw[HM2.out,<- HSum.out,decide_eq_true h4];simp
     clear HM2;cases st with
     | false =>
      go_wp2;go_ret
      first | exact⟨L.zae hf.symm,HBw.out⟩ | exact⟨rfl,HBw.out⟩
     | true =>
      have h5:¬ 0<k - (be.length:Int):=fun h=>h3 ⟨rfl,h⟩
      go_wp2;go_ret
      first | exact⟨L.zae hf.symm,HBw.out⟩ | exact⟨rfl,HBw.out⟩
    ·have h5:st=true->k - (be.length:Int)<=0:=fun h=>Int.not_lt.1 fun h'=>h3 ⟨h,h'⟩
     have h6:fi=true->(t.length:Int)<=k - (be.length:Int)+l.length:=fun h=>Int.not_lt.1 fun h'=>h4 ⟨h,h'⟩
     have hf:mb=true:=by
      rw[HM2.out,<- HSum.out];cases st <;> cases fi <;> simp at h5 h6 ⊢ <;> omega
     clear HM2 h3 h4;rcases Bool.eq_false_or_eq_true st with hst | hst <;> rcases Bool.eq_false_or_eq_true fi with hfi | hfi
     all_goals
      subst hst hfi;simp only[forall_const,Bool.false_eq_true,false_imp_iff] at h5 h6;go_wp2;go_ret
      first | exact⟨L.zae hf.symm,HBw.out⟩ | exact⟨rfl,HBw.out⟩
end Go.Proofs.YtddiojckgjobmaaGreat
namespace Go.Proofs.YtddiojckgjobmaaGreat
open Go.RowKit Go.Shelf
theorem zfh (w:World)(v:Value)(l:List K.Rule)(R0:V.Rus w v l)(hl:l.length<=200)(hE:∀r∈l,K.ruleE r=0)(vt:Value)(t:List Int)(Rt:L.Rd w vt .i32 t)(ht:t.length<=4000)(k:Int)(hk0:0<=k)(hk1:k<=t.length) :
  Calls Tryz.prog 66 #[v,vt,.int .i64 k] w fun e w'=>e= .returned (.int .i64 (K.which l t k))/\Below w.heap.size w w':=by
 have HR:Hid (V.Rus w v l):=R0;have HT:Hid (L.Rd w vt .i32 t):=Rt;have HE0:Hid (∀r∈l,K.ruleE r=0):=hE;obtain⟨lao,lcap,rfl⟩:=R0.len;obtain⟨xo,xc,rfl,_⟩:=Rt;clear R0 hE;obtain⟨o,HO⟩:∃o,Hid (K.whichN t k 0 l=o):=⟨_,rfl⟩;unfold K.which;rw[HO.out]
 go_enter Tryz.func66,Tryz.ntmps66
 go_wp2
 go_loopw [10] (fun i wr=>∃j:Nat,j<=l.length/\i= .int .i64 j/\Hid (K.whichN t k j (l.drop j)=o)/\Hid (Below w.heap.size w wr)) (fun i _=>l.length - (intOf i).toNat)
 case atStart=>exact⟨0,Nat.zero_le _,rfl,HO,qR w⟩
 case round =>
  obtain⟨j,hj,rfl,HW,HB⟩:=hrel
  by_cases hlt:j<l.length
  ·obtain⟨p,hp⟩:∃x,l[j]?=some x:=⟨l[j],by simp[hlt]⟩;obtain⟨ao',cap',e',_,hcs⟩:=HR.out.below HB.out;cases e';obtain⟨b,off,rfl,hcell⟩:=hcs (by intro h;subst h;simp at hlt);obtain⟨bo,bc,so,sc,ao,ac,tgo,tc,a0,a1,a2,a3,a4,a5,a6,hP⟩:=hcell j p hp;have HE2:Hid (K.whichN t k j (l.drop j)=if K.matchB p t k=true then (j:Int) else K.whichN t k (j+1) (l.drop (j+1))):=K.ze8 hp;have hsz:=HB.out.size;have HW2:Hid (Calls Tryz.prog 71 #[.agg #[.bool p.start,.bool p.fin,.slice bo p.before.length bc,.slice so p.source.length sc,.slice ao p.after.length ac,.slice tgo p.target.length tc,.int .i64 p.cursor],.slice xo t.length xc,.int .i64 k] wr fun e w'=>e= .returned (.bool (K.matchB p t k))/\Below wr.heap.size wr w'):=zej _ _ p hP (HE0.out p (List.mem_of_getElem? hp)) _ t (HT.out.below HB.out qN) ht k hk0 hk1;obtain⟨z,HZ⟩:∃z,Hid (K.matchB p t k=z):=⟨_,rfl⟩;rw[HZ.out] at HW2 HE2;clear hp hcell hcs hP;obtain⟨st,fi,be,sou,af,ta,cu⟩:=p;simp only at a0 a1 a2 a3 a4 a5 a6 HW2
   go_wp2_with fail
   refine HW2.out.mono ?_;rintro e w1 ⟨rfl,B1⟩;have HB1:Hid (Below w.heap.size w w1):=HB.out.trans (B1.mono hsz);clear B1;cases z with
   | false =>
    go_wp2
    go_roundw
    case rel=>exact⟨j+1,by omega,by go_num,by show _=_;rw[<- HW.out,HE2.out];simp,HB1⟩
    case measure=>simp[intOf];omega
   | true =>
    go_wp2;go_ret
    have h:=HE2.out;rw[HW.out,if_pos trivial] at h;exact⟨by rw[h];rfl,HB1.out⟩
  ·have h:=HW.out;rw[List.drop_eq_nil_of_le (by omega)] at h;go_wp2;go_ret;exact⟨by rw[<- h];rfl,HB.out⟩
end Go.Proofs.YtddiojckgjobmaaGreat
namespace Go.Proofs.YtddiojckgjobmaaGreat
open Go.RowKit
theorem zbg (w:World)(v:Value)(l:List K.Rule)(R0:V.Rus w v l) :
  Calls Tryz.prog 33 #[v] w fun e w'=>e= .returned (.agg #[.int .i64 (K.rulesF l).1,.int .i64 (K.rulesF l).2])/\Below w.heap.size w w':=by
 have HR:Hid (V.Rus w v l):=R0;have hfew:=R0.few;obtain⟨ao,cap,rfl⟩:=R0.len;clear R0;have HA:Hid (∀o,Below w.heap.size w (w.alloc o)):=fun o=>(qR w).alloc qN o
 unfold K.rulesF
 by_cases hbig:200<l.length
 ·rw[if_pos hbig]
  go_enter Tryz.func33,Tryz.ntmps33
  go_wp2;refine bodyPost_ret (v:= .agg #[.int .i64 5,.int .i64 0]) (by simp[results,Tryz.results33,go_sem]) rfl ?_
  exact⟨rfl,HA.out _⟩
 ·rw[if_neg hbig];obtain⟨⟨o1,o2⟩,HO⟩:∃o,Hid (K.firstR 0 l=o):=⟨_,rfl⟩;rw[HO.out]
  go_enter Tryz.func33,Tryz.ntmps33
  go_wp2
  go_loopw [11] (fun i wr=>∃k:Nat,k<=l.length/\i= .int .i64 k/\Hid (K.firstR k (l.drop k)=(o1,o2))/\Hid (Below w.heap.size w wr)/\Hid (wr.heap[w.heap.size]?=some (.cells #[.int .i64 0,.int .i64 0] 37))) (fun i _=>l.length - (intOf i).toNat)
  case atStart=>exact⟨0,Nat.zero_le _,rfl,HO,HA.out _,heap_alloc_new w _⟩
  case round =>
   obtain⟨k,hk,rfl,HE,HB,HX⟩:=hrel;have hX:=HX.out
   by_cases hlt:k<l.length
   ·obtain⟨p,hp⟩:∃x,l[k]?=some x:=⟨l[k],by simp[hlt]⟩;obtain⟨ao',cap',e',_,hcs⟩:=HR.out.below HB.out;cases e';obtain⟨b,off,rfl,hcell⟩:=hcs (by intro h;subst h;simp at hlt);obtain⟨bo,bc,so,sc,ao,ac,tgo,tc,c0,c1,c2,c3,c4,c5,c6,hP⟩:=hcell k p hp;have HE2:Hid (K.firstR k (l.drop k)=if K.ruleE p=0 then K.firstR (k+1) (l.drop (k+1)) else (K.ruleE p,(k:Int))):=K.zc2 hp;have hsz:=HB.out.size;have HW:Hid (Calls Tryz.prog 48 #[.agg #[.bool p.start,.bool p.fin,.slice bo p.before.length bc,.slice so p.source.length sc,.slice ao p.after.length ac,.slice tgo p.target.length tc,.int .i64 p.cursor]] wr fun e w'=>e= .returned (.int .i64 (K.ruleE p))/\Below wr.heap.size wr w'):=zgx _ _ p hP;obtain⟨z,HZ⟩:∃z,Hid (K.ruleE p=z):=⟨_,rfl⟩;rw[HZ.out] at HW HE2;clear hp hcell hcs hP hX;obtain⟨st,fi,be,sou,af,ta,cu⟩:=p;simp only at c0 c1 c2 c3 c4 c5 c6 HW
    go_wp2_with fail
    refine HW.out.mono ?_;rintro e w1 ⟨rfl,B1⟩
    have hX1:w1.heap[w.heap.size]?=some (.cells #[.int .i64 0,.int .i64 0] 37):=by
     rw[B1.block _ (qA.1 HX.out).1];exact HX.out
    have HB1:Hid (Below w.heap.size w w1):=HB.out.trans (B1.mono hsz);have HX1:Hid _:=hX1;obtain⟨x0,x1,f0,f1⟩:=K.box2 hX1;clear B1 hX1
    by_cases hz:z=0
    ·subst hz;go_wp2
     go_roundw
     case rel=>exact⟨k+1,by omega,by go_num,by show _=_;rw[<- HE.out,HE2.out];simp,HB1,HX1⟩
     case measure=>simp[intOf];omega
    ·go_wp2;refine bodyPost_ret (v:= .agg #[.int .i64 z,.int .i64 k]) (by simp[results,Tryz.results33,go_sem, *]) rfl ?_
     have h:=HE2.out;rw[HE.out,if_neg hz] at h;cases h;exact⟨rfl,(HB1.out.setCell (p:=⟨w.heap.size,0,none⟩) qN _).setCell (p:=⟨w.heap.size,1,none⟩) qN _⟩
   ·obtain⟨x0,x1,f0,f1⟩:=K.box2 hX;have h:=HE.out;rw[List.drop_eq_nil_of_le (by omega)] at h;cases h;go_wp2;refine bodyPost_ret (v:= .agg #[.int .i64 0,.int .i64 0]) (by simp[results,Tryz.results33,go_sem, *]) rfl ?_;exact⟨rfl,(HB.out.setCell (p:=⟨w.heap.size,0,none⟩) qN _).setCell (p:=⟨w.heap.size,1,none⟩) qN _⟩
end Go.Proofs.YtddiojckgjobmaaGreat
namespace Go.Proofs.YtddiojckgjobmaaGreat
open Go.RowKit
theorem zdj (w:World)(v:Value)(l:List K.Rule)(R0:V.Rus w v l)(vt:Value)(t:List Int)(Rt:L.Rd w vt .i32 t)(ht:t.length<=140737488355328) :
  Calls Tryz.prog 65 #[v,vt] w fun e w'=>e= .returned (.agg #[.int .i64 (K.checkF l t).1,.int .i64 (K.checkF l t).2])/\Below w.heap.size w w':=by
 have HA:Hid (∀o,Below w.heap.size w (w.alloc o)):=fun o=>(qR w).alloc qN o
 have HW:Hid (∀o,Calls Tryz.prog 33 #[v] (w.alloc o) fun e w'=>e= .returned (.agg #[.int .i64 (K.rulesF l).1,.int .i64 (K.rulesF l).2])/\Below (w.alloc o).heap.size (w.alloc o) w'):=fun o=>zbg _ _ l (R0.below (HA.out o))
 have HT:Hid (∀X,Below w.heap.size w X->Calls Tryz.prog 15 #[vt] X fun e w'=>e= .returned (.int .i64 (K.textE t))/\Below X.heap.size X w'):=fun X hX=>zb4 X vt t (Rt.below hX qN) ht
 obtain⟨ao,cap,rfl⟩:=R0.len;obtain⟨xo,xc,rfl,_⟩:=Rt;unfold K.checkF;obtain⟨⟨e1,e2⟩,he⟩:∃o,K.rulesF l=o:=⟨_,rfl⟩;rw[he] at HW ⊢;generalize K.textE t=e3 at *;simp only at HW ⊢;obtain⟨⟨o1,o2⟩,HO⟩:∃o:Int×Int,Hid ((if e1=0 then (e3,0) else (e1,e2))=o):=⟨_,rfl⟩;rw[HO.out];clear he R0
 go_enter Tryz.func65,Tryz.ntmps65
 go_wp2_with fail
 refine(HW.out _).mono ?_;rintro e w1 ⟨rfl,b1⟩;obtain⟨h1,B1,s1⟩:=K.zao b1;have HB1:Hid (Below w.heap.size w w1):=B1;have HX1:Hid (w1.heap[w.heap.size]?=some (.cells #[.int .i64 0,.int .i64 0] 37)):=h1;clear b1 B1 HW
 by_cases q:e1=0
 ·subst q;have ho:=HO.out;rw[if_pos rfl] at ho;cases ho;clear h1;have HB2:Hid (∀o,Below w.heap.size w (w1.alloc o)):=fun o=>HB1.out.alloc (by omega) o
  go_wp2_with fail
  refine(HT.out _ (HB2.out _)).mono ?_;rintro e w2 ⟨rfl,b2⟩;have HB3:Hid (Below w.heap.size w w2):=(HB2.out _).trans (b2.mono (HB2.out _).size)
  have h2:w2.heap[w.heap.size]?=some (.cells #[.int .i64 0,.int .i64 0] 37):=by
   rw[(K.zao b2).2.1.block _ (by omega)];exact HX1.out
  obtain⟨x0,x1,f0,f1⟩:=K.box2 h2;clear b2 h2;go_wp2;refine bodyPost_ret (v:= .agg #[.int .i64 e3,.int .i64 0]) (by simp[results,Tryz.results65,go_sem, *]) rfl ?_;exact⟨rfl,(HB3.out.setCell (p:=⟨w.heap.size,0,none⟩) qN _).setCell (p:=⟨w.heap.size,1,none⟩) qN _⟩
 ·have ho:=HO.out;rw[if_neg q] at ho;cases ho;obtain⟨x0,x1,f0,f1⟩:=K.box2 h1;have k0:∀o,(w1.alloc o).cell? ⟨w.heap.size,0,none⟩=some (.int .i64 0):=fun o=>K.zac x0 o
  have k1:∀o,(w1.alloc o).cell? ⟨w.heap.size,1,none⟩=some (.int .i64 0):=fun o=>K.zac x1 o
  have g0:∀o,(w1.alloc o).frozen? ⟨w.heap.size,0,none⟩=false:=fun o=>K.zad h1 o 0
  have g1:∀o,(w1.alloc o).frozen? ⟨w.heap.size,1,none⟩=false:=fun o=>K.zad h1 o 1
  clear h1;go_wp2;refine bodyPost_ret (v:= .agg #[.int .i64 e1,.int .i64 e2]) (by simp[results,Tryz.results65,go_sem, *]) rfl ?_;exact⟨rfl,((HB1.out.alloc (by omega) _).setCell (p:=⟨w.heap.size,0,none⟩) qN _).setCell (p:=⟨w.heap.size,1,none⟩) qN _⟩
end Go.Proofs.YtddiojckgjobmaaGreat
