import Derived.Test.YtcadaallpiekiaaGreatDoorXHere
import Derived.Sort.WalkA
import Derived.Sort.WalkB12
import Derived.BigGuard
import Derived.BigCall
import Derived.CellFam
import Derived.Deep.Draws
set_option maxHeartbeats 0
set_option maxRecDepth 20000
set_option linter.unusedSimpArgs false
set_option linter.unusedVariables false
namespace Go.Proofs.YtcadaallpiekiaaGreatDoor
open Go.Proofs.Tryz
section
open Go.RowKit Go.Shelf
def Gm.Idx (P:Int->Bool) (l:List Int) (e:Ending):Prop :=
 (∃(j:Nat) (z:Int),l[j]?=some z/\P z=true/\(∀i y,i<j->l[i]?=some y->P y=false)/\e=.returned (.int .i64 j))∨((∀y∈l,P y=false)/\e=.returned (.int .i64 (-1)))
theorem zml (w:World)(v:Value)(l:List Int)(R0:L.Rd w v .i64 l)(hl:l.length<=140737488355328)(g:Nat)(cb:Array Value)(P:Int->Bool)(eg:∀args w,(callFunc g args).run prog w=.ok (.enter g args) w)
  (hh:∀W r,Bl w W->r∈l->Calls prog g (#[.int .i64 r]++cb) W fun e w'=>e=.returned (.bool (P r))/\Bl W w') :
  Calls prog 201 #[v,.func (.func g) #[] cb] w fun e w'=>Gm.Idx P l e/\Bl w w':=by
 have HH:=qH hh;obtain⟨lao,lcap,rfl,_,hcs⟩:=R0;have HC:=qH hcs;clear hh hcs
 go_enter func201,ntmps201
 go_wp2
 go_loopw [8] (fun i wr=>∃j:Nat,j<=l.length/\i=.int .i64 j/\Hid (∀i y,i<j->l[i]?=some y->P y=false)/\Hid (Bl w wr)) (fun i _=>l.length-(RowKit.intOf i).toNat)
 case atStart=>exact⟨0,Nat.zero_le _,rfl,fun i y h=>by omega,qR w⟩
 case round =>
  obtain⟨j,hj,rfl,HW,HB⟩:=hrel
  by_cases hlt:j<l.length
  ·obtain⟨p,hp⟩:∃x,l[j]?=some x:=⟨l[j],by simp[hlt]⟩;obtain⟨b,off,rfl,hcell⟩:=HC.out (by intro h;subst h;simp at hlt);have c0:=hcell j p hp;rw[<- HB.out.cell (p:=⟨b,off+j,none⟩) (L.block_lt c0)] at c0;have hsz:=HB.out.size;have HW2:=qH<|HH.out wr p HB.out (List.mem_of_getElem? hp);have HP:=qH hp;generalize hz:P p=z at HW2;have HZ:=qH hz;clear hp hcell hz
   go_wp2_with fail
   refine HW2.out.mono ?_;rintro e w1 ⟨rfl,B1⟩;have HB1:=qH<|HB.out.trans (B1.mono hsz);clear B1;cases z with
   | false =>
    go_wp2
    go_roundw
    case rel =>
     refine⟨j+1,by omega,by go_num,fun i y hi hy=> ?_,HB1.out⟩
     by_cases hij:i=j
     ·subst hij;have:=HP.out;rw[hy] at this;cases this;exact HZ.out
     ·exact HW.out i y (by omega) hy
    case measure=>simp[RowKit.intOf];omega
   | true =>
    go_wp2;go_ret
    exact⟨.inl ⟨j,p,HP.out,HZ.out,HW.out,rfl⟩,HB1.out⟩
  ·go_wp2;go_ret
   refine⟨.inr ⟨fun y hy=> ?_,rfl⟩,HB.out⟩;obtain⟨i,hi⟩:=List.getElem?_of_mem hy;exact HW.out i y (by have:=(qL.1 hi).1;omega) hi
theorem zjt (w0 w:World)(hB:Bl w0 w)(bm ba mb g k:Nat)(vr vh:Value)(l:List K.Rule)(hR:V.Rus w0 vr l)(t:List Int)(hV:Gm.Vw w0 mb g t)(ht:t.length<=4000)(at':Nat)(hat:at'<=t.length)(r:K.Rule)(hr:l[k]?=some r)(hE:K.ruleE r=0)
  (c0:w.cell? ⟨bm,0,none⟩=some (.pointer (some ⟨mb,0,none⟩))) (c1:w.cell? ⟨ba,0,none⟩=some (.int .i64 at')) (c2:w.cell? ⟨mb,1,none⟩=some vr) :
  Calls prog 202 (#[.int .i64 k]++#[.pointer (some ⟨bm,0,none⟩),.pointer (some ⟨ba,0,none⟩)]) w fun e w'=>e=.returned (.bool (K.matchB r t at'))/\Bl w w':=by
 obtain⟨ao,cap,rfl⟩:=hR.len;obtain⟨b9,o9,bo,bc,so,sc,ao2,ac,tt,tc,rfl,a0,a1,a2,a3,a4,a5,a6,hP⟩:=K.Rus.rule (hR.below hB) hr;have hkl:=(qL.1 hr).1;have hlf:=hR.few;have hVw:∀W,Bl w W->Gm.Vw W mb g t:=fun W hW=>⟨fun X hX=>hV.cell X ((hB.trans (hW.mono hB.size)).trans (hX.mono (Nat.le_trans hB.size hW.size))),fun X hX=>hV.len X ((hB.trans (hW.mono hB.size)).trans (hX.mono (Nat.le_trans hB.size hW.size))),fun X q hX=>hV.at' X q ((hB.trans (hW.mono hB.size)).trans (hX.mono (Nat.le_trans hB.size hW.size)))⟩
 have HC:Hid (∀W,Bl w W->Calls prog 203 #[.agg #[.bool r.start,.bool r.fin,.slice bo r.before.length bc,.slice so r.source.length sc,.slice ao2 r.after.length ac,.slice tt r.target.length tc,.int .i64 r.cursor],.iface 188 (.pointer (some ⟨mb,0,none⟩)),.int .i64 at'] W fun e w'=>e=.returned (.bool (K.matchB r t at'))/\Bl w w'):=fun W hW =>
  (zp1 W _ r (hP.below hW) hE mb g t (hVw W hW) ht at' (by omega) (by omega)).mono fun e w' ⟨h1,h2⟩=>⟨h1,hW.trans (h2.mono hW.size)⟩
 clear hP hV hVw hR hr hE;obtain⟨st,fi,be,sou,af,ta,cu⟩:=r;simp only at a0 a1 a2 a3 a4 a5 a6 HC;generalize K.matchB _ t at'=z at HC ⊢;show Calls prog 202 #[_,.pointer (some ⟨bm,0,none⟩),.pointer (some ⟨ba,0,none⟩)] w _
 go_enter func202,ntmps202
 go_wp2_with fail
 go_region_with (go_at_call 203;refine(HC.out _ (by first|exact qR _|exact(qR _).drew)).mono ?_;rintro e w1 ⟨rfl,z1⟩)
 all_goals go_wp2
 all_goals go_ret
 all_goals exact⟨rfl,by assumption⟩
namespace Gm
theorem zkr {r:K.Rule}{t:List Int}{k:Int}(hE:K.ruleE r=0)(h:K.matchB r t k=true):S.memb (K.headS r) (t.getD k.toNat 0)=true:=by
 have hs:=(K.zas hE).2.2.2.1;unfold K.matchB at h;rw[Bool.and_eq_true,Bool.and_eq_true,K.zb3,K.zb3,Bool.and_eq_true,Bool.and_eq_true] at h;have h1:=h.1.1.1.2;rw[show k-(r.before.length:Int)+r.before.length=k by omega] at h1;cases hq:r.source with
 | nil=>rw[hq] at hs;simp at hs
 | cons x l =>
  rw[hq,K.runAt,Bool.and_eq_true,Bool.and_eq_true] at h1;unfold K.headS;rw[hq];exact h1.1.2
theorem zgd (t:List Int)(k:Int):∀(l:List K.Rule) (i:Nat),(∃(j:Nat) (r:K.Rule),l[j]?=some r/\K.matchB r t k=true/\(∀i' y,i'<j->l[i']?=some y->K.matchB y t k=false)/\K.whichN t k i l=((i+j:Nat):Int))∨((∀r∈l,K.matchB r t k=false)/\K.whichN t k i l= -1):=by
 intro l
 induction l with
 | nil=>intro i;exact .inr ⟨fun r hr=>(by cases hr),rfl⟩
 | cons x l ih =>
  intro i;cases hx:K.matchB x t k with
  | true=>exact .inl ⟨0,x,rfl,hx,fun i' y h=>by omega,by rw[K.whichN,if_pos hx];rfl⟩
  | false =>
   have e:K.whichN t k i (x::l)=K.whichN t k (i+1) l:=by rw[K.whichN,if_neg (by rw[hx];decide)]
   rw[e];rcases ih (i+1) with ⟨j,r,h1,h2,h3,h4⟩|⟨h1,h2⟩
   ·refine .inl ⟨j+1,r,by simpa using h1,h2,fun i' y hi hy=> ?_,by rw[h4];congr 1;omega⟩;cases i' with
    | zero=>simp at hy;subst hy;exact hx
    | succ m=>exact h3 m y (by omega) (by simpa using hy)
   ·refine .inr ⟨fun r hr=> ?_,h2⟩;rcases List.mem_cons.1 hr with rfl|hr
    ·exact hx
    ·exact h1 r hr
theorem zdo {f:K.Rule->Bool}{z:Int}:∀ {l:List K.Rule} {i:Nat},z∈J.which f i l↔∃(j:Nat) (r:K.Rule),l[j]?=some r/\f r=true/\z=((i+j:Nat):Int):=by
 intro l
 induction l with
 | nil=>intro i;simp[J.which]
 | cons x l ih =>
  intro i;rw[J.which,List.mem_append,ih];constructor
  ·rintro (h|⟨j,r,h1,h2,h3⟩)
   ·split at h
    ·rename_i hx
     simp at h;exact⟨0,x,rfl,hx,by simpa using h⟩
    ·simp at h
   ·exact⟨j+1,r,by simpa using h1,h2,by rw[h3];congr 1;omega⟩
  ·rintro ⟨j,r,h1,h2,h3⟩;cases j with
   | zero =>
    simp at h1;subst h1;exact .inl (by rw[if_pos h2];simpa using h3)
   | succ m=>exact .inr ⟨m,r,by simpa using h1,h2,by rw[h3];congr 1;omega⟩
theorem zmo {f:K.Rule->Bool}:∀ {l:List K.Rule} {i:Nat},(J.which f i l).Pairwise (· < ·):=by
 intro l
 induction l with
 | nil=>intro i;simp[J.which]
 | cons x l ih =>
  intro i;rw[J.which,List.pairwise_append];refine⟨by split <;> simp,ih,fun a ha b hb=> ?_⟩;obtain⟨j,r,_,_,h3⟩:=zdo.1 hb;split at ha <;> simp at ha
  omega
theorem zqb {l:List K.Rule}(hE:∀r∈l,K.ruleE r=0){t:List Int}{k:Nat}{e:Ending}(h:Idx (fun z=>K.matchB ((l[z.toNat]?).getD K.noRule) t k) (J.begins l (t.getD k 0)) e) :
  (∃(j i:Nat) (r:K.Rule),(J.begins l (t.getD k 0))[j]?=some (i:Int)/\l[i]?=some r/\e=.returned (.int .i64 j)/\K.which l t k=i)∨(e=.returned (.int .i64 (-1))/\K.which l t k= -1):=by
 have hmem:∀(i:Nat) r,l[i]?=some r->K.matchB r t k=true->(i:Int)∈J.begins l (t.getD k 0):=fun i r hi hm=>by
  refine zdo.2 ⟨i,r,hi,?_,by simp⟩;have:=zkr (hE r (List.mem_of_getElem? hi)) hm;rw[Int.toNat_natCast] at this;exact this
 rcases h with ⟨j,z,h1,h2,h3,h4⟩|⟨h1,h2⟩
 ·obtain⟨i,r,hi,_,hz⟩:=zdo.1 (List.mem_of_getElem? h1);rw[Nat.zero_add] at hz;subst hz;simp only[Int.toNat_natCast,hi,Option.getD_some] at h2;refine .inl ⟨j,i,r,h1,hi,h4,?_⟩;rcases zgd t k l 0 with ⟨j',r',g1,g2,g3,g4⟩|⟨g1,_⟩
  ·have hij:j'=i:=by
    rcases Nat.lt_trichotomy j' i with hlt|he|hgt
    ·obtain⟨m,hm⟩:=List.getElem?_of_mem (hmem j' r' g1 g2);have hml:=(qL.1 hm).1;have hjl:=(qL.1 h1).1
     have hmj:m<j:=by
      refine Nat.lt_of_not_le fun hle=> ?_
      rcases Nat.lt_or_eq_of_le hle with hlt'|rfl
      ·have:=List.pairwise_iff_getElem.1 (zmo (f:=fun r=>S.memb (K.headS r) (t.getD k 0)) (l:=l) (i:=0)) j m hjl hml hlt';have e1:(J.which (fun r=>S.memb (K.headS r) (t.getD k 0)) 0 l)[j]=(i:Int):=(qL.1 h1).2;have e2:(J.which (fun r=>S.memb (K.headS r) (t.getD k 0)) 0 l)[m]=(j':Int):=(qL.1 hm).2;rw[e1,e2] at this;omega
      ·rw[h1] at hm;simp at hm;omega
     have:=h3 m _ hmj hm;simp only[Int.toNat_natCast,g1,Option.getD_some] at this;rw[g2] at this;cases this
    ·exact he
    ·rw[g3 i r hgt hi] at h2;cases h2
   subst hij;show K.whichN t k 0 l=_;rw[g4];simp
  ·rw[g1 r (List.mem_of_getElem? hi)] at h2;cases h2
 ·refine .inr ⟨h2,?_⟩;rcases zgd t k l 0 with ⟨j',r',g1,g2,_,_⟩|⟨_,g2⟩
  ·have:=h1 _ (hmem j' r' g1 g2);simp only[Int.toNat_natCast,g1,Option.getD_some] at this;rw[g2] at this;cases this
  ·exact g2
end Gm
end
section
open Go.RowKit Go.Sort
namespace Z
abbrev en:Int->Value:=Value.int .i32
def At (w:World) (blk off n0:Nat) (d:Array Int) (wr:World):Prop:=d.size=n0/\∃n,wr=putRow en (Sort.ahead w n) blk off d
theorem At.start {w:World}{blk off:Nat}{d:Array Int}(h:Holds en w blk off d):At w blk off d.size d w:=⟨rfl,0,(putRow_self en w blk off d h).symm⟩
theorem At.cell {w wr:World}{blk off n0:Nat}{d0 d:Array Int}(h:At w blk off n0 d wr)(h0:Holds en w blk off d0)(hn:d0.size=n0){j:Nat}(hj:j<n0):wr.cell? ⟨blk,off+j,none⟩=some (.int .i32 d[j]!):=by
 obtain⟨hs,n,rfl⟩:=h;exact cell?_putRow en _ blk off d0 d (holds_ahead en w n blk off d0 h0) (by omega) j (by omega)
theorem At.free {w wr:World}{blk off n0:Nat}{d0 d:Array Int}(h:At w blk off n0 d wr)(h0:Holds en w blk off d0)(hn:d0.size=n0){j:Nat}(hj:j<n0):wr.frozen? ⟨blk,off+j,none⟩=false:=by
 obtain⟨hs,n,rfl⟩:=h;rw[frozen?_putRow];exact(holds_ahead en w n blk off d0 h0 j (by omega)).2
theorem At.drew {w wr:World}{blk off n0:Nat}{d:Array Int}(h:At w blk off n0 d wr)(q:Nat):At w blk off n0 d (wr.drewN q):=by
 obtain⟨hs,n,rfl⟩:=h;exact⟨hs,n+q,putRow_drewN en w n q blk off d⟩
theorem At.swap {w wr:World}{blk off n0:Nat}{d:Array Int}(h:At w blk off n0 d wr){i j:Nat}(hi:i<n0)(hj:j<n0)(q:Nat):At w blk off n0 (swp d i j) (((wr.drewN q).setCell ⟨blk,off+i,none⟩ (.int .i32 d[j]!)).setCell ⟨blk,off+j,none⟩ (.int .i32 d[i]!)):=by
 obtain⟨hs,n,rfl⟩:=h;exact⟨by rw[size_swp];exact hs,n+q,swap_worldA en w n q blk off d i j (by omega) (by omega)⟩
theorem At.holds {w wr:World}{blk off n0:Nat}{d0 d:Array Int}(h:At w blk off n0 d wr)(h0:Holds en w blk off d0)(hn:d0.size=n0):Holds en wr blk off d:=by
 obtain⟨hs,n,rfl⟩:=h;exact holds_putRow en _ blk off d0 d (holds_ahead en w n blk off d0 h0) (by omega)
theorem At.trans {w w1 w2:World}{blk off n0:Nat}{d e:Array Int}(h:At w blk off n0 d w1)(h':At w1 blk off n0 e w2):At w blk off n0 e w2:=by
 obtain⟨hs,n,rfl⟩:=h;obtain⟨hs',m,rfl⟩:=h';exact⟨hs',n+m,putRow_ahead_putRow en w n m blk off d e (by omega)⟩
theorem At.size {w wr:World}{blk off n0:Nat}{d:Array Int}(h:At w blk off n0 d wr):d.size=n0:=h.1
end Z
theorem zra (w:World)(x:Int):Calls prog 248 #[.int .i32 x] w fun e w'=>e=.returned (.bool false)/\w'=w:=by
 go_enter func248,ntmps248
 go_wp2;go_ret
 exact⟨by simp,rfl⟩
theorem zao (w:World)(x y:Int):Calls prog 233 #[.int .i32 x,.int .i32 y] w fun e w'=>e=.returned (.bool (ltInt x y))/\w'=w:=by
 go_enter func233,ntmps233
 go_wp2_with (go_at_call 248;refine(zra _ _).mono ?_;rintro e w' ⟨rfl,rfl⟩)
 go_ret;exact⟨rfl,rfl⟩
namespace Z
theorem zo2 {hi first r:Nat}{d:Array Int}(h:hi<=2*r+1):siftDown ltInt hi first r d=d:=by
 rw[siftDown,dif_pos h]
theorem zmt {hi first r:Nat}{d:Array Int}(h:2*r+1+1<hi)(hl:ltInt d[first+(2*r+1)]! d[first+(2*r+1)+1]! = true) :
  siftDown ltInt hi first r d=if ltInt d[first+r]! d[first+(2*r+2)]! = true then siftDown ltInt hi first (2*r+2) (swp d (first+r) (first+(2*r+2))) else d:=by
 rw[siftDown,dif_neg (by omega)];simp only[h,decide_true,hl,Bool.and_self,if_true,Bool.not_eq_true']
 by_cases hx:ltInt d[first+r]! d[first+(2*r+2)]! = true
 ·rw[if_neg (by simp[hx]),dif_pos trivial,if_pos hx]
 ·rw[if_pos (by simpa using hx),if_neg hx]
theorem zie {hi first r:Nat}{d:Array Int}(h0:2*r+1<hi)(h:¬ 2*r+1+1<hi∨ltInt d[first+(2*r+1)]! d[first+(2*r+1)+1]! = false) :
  siftDown ltInt hi first r d=if ltInt d[first+r]! d[first+(2*r+1)]! = true then siftDown ltInt hi first (2*r+1) (swp d (first+r) (first+(2*r+1))) else d:=by
 rw[siftDown,dif_neg (by omega)]
 have hc:(decide (2*r+1+1<hi)&&ltInt d[first+(2*r+1)]! d[first+(2*r+1)+1]!)=false:=by
  rcases h with h|h
  ·simp[h]
  ·simp[h]
 rw[if_neg (by rw[hc];simp)]
 by_cases hx:ltInt d[first+r]! d[first+(2*r+1)]! = true
 ·rw[if_neg (by simp[hx]),if_pos hx]
 ·rw[if_pos (by simpa using hx),if_neg hx]
end Z
theorem zn7 (w:World)(blk off cap lo hi first:Nat)(d:Array Int)(h0:Holds Z.en w blk off d)(hb:first+hi<=d.size)(hsz:d.size<1152921504606846976)(hlo:lo<=d.size) :
  Calls prog 243 #[.slice (some ⟨blk,off,none⟩) d.size cap,.int .i64 lo,.int .i64 hi,.int .i64 first] w fun e w'=>e=.returned (.tuple #[])/\Z.At w blk off d.size (siftDown ltInt hi first lo d) w':=by
 have H0:=qH h0;have HS:=qH<|Z.At.start h0;clear h0
 go_enter func243,ntmps243
 go_wp2
 go_loopw [8] (fun vr wr=>∃(r:Nat) (e:Array Int),vr=.int .i64 r/\r<=d.size/\Hid (Z.At w blk off d.size e wr/\siftDown ltInt hi first r e=siftDown ltInt hi first lo d)) (fun vr _=>d.size-(RowKit.intOf vr).toNat)
 case atStart=>exact⟨lo,d,rfl,hlo,HS.out,rfl⟩
 case round =>
  obtain⟨r,e,rfl,hr,HE⟩:=hrel;clear HS
  by_cases hc:2*r+1<hi
  ·obtain⟨G,hG⟩:∃G:Nat->Int,∀t,G t=e[t]! := ⟨fun t=>e[t]!,fun _=>rfl⟩;have hcw:∀t,t<d.size->wr.cell? ⟨blk,off+t,none⟩=some (.int .i32 (G t)):=fun t ht=>by rw[hG];exact HE.out.1.cell H0.out rfl ht
   have hfw:∀t,t<d.size->wr.frozen? ⟨blk,off+t,none⟩=false:=fun t ht=>HE.out.1.free H0.out rfl ht
   have HG:=qH hG;clear hG;have h0z:¬((hi:Int)<=2*(r:Int)+1):=by omega
   by_cases h1:2*r+1+1<hi
   ·have h1z:2*(r:Int)+1+1<(hi:Int):=by omega
    go_wp2
    go_quiet (first|(go_at_call 233;refine Calls.quiet_of_same (zao _ _ _)))
    go_wp2
    ·have hl:ltInt (G (first+2*r+1)) (G (first+2*r+2))=true:=by assumption
     obtain⟨w2,hw2⟩:=qE (wr.drewN nq);have HA2:Hid (Z.At w blk off d.size e w2):=by show Z.At w blk off d.size e w2;rw[hw2];exact HE.out.1.drew nq
     have hcw2:∀t,t<d.size->w2.cell? ⟨blk,off+t,none⟩=some (.int .i32 (G t)):=fun t ht=>by rw[HG.out];exact HA2.out.cell H0.out rfl ht
     have hfw2:∀t,t<d.size->w2.frozen? ⟨blk,off+t,none⟩=false:=fun t ht=>HA2.out.free H0.out rfl ht
     have HEq:Hid (siftDown ltInt hi first r e=if ltInt (G (first+r)) (G (first+2*r+2))=true then siftDown ltInt hi first (2*r+2) (swp e (first+r) (first+(2*r+2))) else e):=by
      show _=_;rw[HG.out,HG.out,<- Nat.add_assoc first];exact Z.zmt h1 (by rw[<- HG.out,<- HG.out];exact hl)
     rw[<- hw2];clear hcw hfw hw2
     go_quiet (first|(go_at_call 233;refine Calls.quiet_of_same (zao _ _ _)))
     go_wp2
     ·have hx:ltInt (G (first+r)) (G (first+2*r+2))=false:=by
       have h:(!ltInt (G (first+r)) (G (first+2*r+2)))=true:=by assumption
       simpa using h
      refine bodyPost_ret (v:=.tuple #[]) (by simp[results,results243,go_sem]) rfl ?_;refine⟨rfl,?_⟩;rw[<- HE.out.2,HEq.out,hx];exact HA2.out.drew _
     ·have hx:ltInt (G (first+r)) (G (first+2*r+2))=true:=by
       have h:(!ltInt (G (first+r)) (G (first+2*r+2)))=false:=by assumption
       simpa using h
      go_region
      all_goals go_wp2
      go_roundw
      case rel =>
       refine⟨2*r+2,swp e (first+r) (first+(2*r+2)),by congr 1 <;> omega,by omega,?_,?_⟩
       ·have:=HA2.out.swap (i:=first+r) (j:=first+(2*r+2)) (by omega) (by omega) (nq+1);rw[HG.out,HG.out];simpa only[Nat.add_assoc] using this
       ·rw[<- HE.out.2,HEq.out,if_pos hx]
      case measure=>simp[RowKit.intOf];omega
    ·have hl:ltInt (G (first+2*r+1)) (G (first+2*r+2))=false:=by assumption
     obtain⟨w2,hw2⟩:=qE (wr.drewN nq);have HA2:Hid (Z.At w blk off d.size e w2):=by show Z.At w blk off d.size e w2;rw[hw2];exact HE.out.1.drew nq
     have hcw2:∀t,t<d.size->w2.cell? ⟨blk,off+t,none⟩=some (.int .i32 (G t)):=fun t ht=>by rw[HG.out];exact HA2.out.cell H0.out rfl ht
     have hfw2:∀t,t<d.size->w2.frozen? ⟨blk,off+t,none⟩=false:=fun t ht=>HA2.out.free H0.out rfl ht
     have HEq:Hid (siftDown ltInt hi first r e=if ltInt (G (first+r)) (G (first+2*r+1))=true then siftDown ltInt hi first (2*r+1) (swp e (first+r) (first+(2*r+1))) else e):=by
      show _=_;rw[HG.out,HG.out,<- Nat.add_assoc first];exact Z.zie hc (.inr (by rw[<- HG.out,<- HG.out];exact hl))
     rw[<- hw2];clear hcw hfw hw2
     go_quiet (first|(go_at_call 233;refine Calls.quiet_of_same (zao _ _ _)))
     go_wp2
     ·have hx:ltInt (G (first+r)) (G (first+2*r+1))=false:=by
       have h:(!ltInt (G (first+r)) (G (first+2*r+1)))=true:=by assumption
       simpa using h
      refine bodyPost_ret (v:=.tuple #[]) (by simp[results,results243,go_sem]) rfl ?_;refine⟨rfl,?_⟩;rw[<- HE.out.2,HEq.out,hx];exact HA2.out.drew _
     ·have hx:ltInt (G (first+r)) (G (first+2*r+1))=true:=by
       have h:(!ltInt (G (first+r)) (G (first+2*r+1)))=false:=by assumption
       simpa using h
      go_region
      all_goals go_wp2
      go_roundw
      case rel =>
       refine⟨2*r+1,swp e (first+r) (first+(2*r+1)),by congr 1 <;> omega,by omega,?_,?_⟩
       ·have:=HA2.out.swap (i:=first+r) (j:=first+(2*r+1)) (by omega) (by omega) (nq+1);rw[HG.out,HG.out];simpa only[Nat.add_assoc] using this
       ·rw[<- HE.out.2,HEq.out,if_pos hx]
      case measure=>simp[RowKit.intOf];omega
   ·have h1z:decide (2*(r:Int)+1+1<(hi:Int))=false:=decide_eq_false (by omega);go_wp2
    go_quiet (first|(go_at_call 233;refine Calls.quiet_of_same (zao _ _ _)))
    go_wp2;obtain⟨w2,hw2⟩:=qE (wr.drewN nq)
    have HA2:Hid (Z.At w blk off d.size e w2):=by show Z.At w blk off d.size e w2;rw[hw2];exact HE.out.1.drew nq
    have hcw2:∀t,t<d.size->w2.cell? ⟨blk,off+t,none⟩=some (.int .i32 (G t)):=fun t ht=>by rw[HG.out];exact HA2.out.cell H0.out rfl ht
    have hfw2:∀t,t<d.size->w2.frozen? ⟨blk,off+t,none⟩=false:=fun t ht=>HA2.out.free H0.out rfl ht
    have HEq:Hid (siftDown ltInt hi first r e=if ltInt (G (first+r)) (G (first+2*r+1))=true then siftDown ltInt hi first (2*r+1) (swp e (first+r) (first+(2*r+1))) else e):=by
     show _=_;rw[HG.out,HG.out,<- Nat.add_assoc first];exact Z.zie hc (.inl h1)
    rw[<- hw2];clear hcw hfw hw2
    go_quiet (first|(go_at_call 233;refine Calls.quiet_of_same (zao _ _ _)))
    go_wp2
    ·have hx:ltInt (G (first+r)) (G (first+2*r+1))=false:=by
      have h:(!ltInt (G (first+r)) (G (first+2*r+1)))=true:=by assumption
      simpa using h
     refine bodyPost_ret (v:=.tuple #[]) (by simp[results,results243,go_sem]) rfl ?_;refine⟨rfl,?_⟩;rw[<- HE.out.2,HEq.out,hx];exact HA2.out.drew _
    ·have hx:ltInt (G (first+r)) (G (first+2*r+1))=true:=by
      have h:(!ltInt (G (first+r)) (G (first+2*r+1)))=false:=by assumption
      simpa using h
     go_region
     all_goals go_wp2
     go_roundw
     case rel =>
      refine⟨2*r+1,swp e (first+r) (first+(2*r+1)),by congr 1 <;> omega,by omega,?_,?_⟩
      ·have:=HA2.out.swap (i:=first+r) (j:=first+(2*r+1)) (by omega) (by omega) (nq+1);rw[HG.out,HG.out];simpa only[Nat.add_assoc] using this
      ·rw[<- HE.out.2,HEq.out,if_pos hx]
     case measure=>simp[RowKit.intOf];omega
  ·have hc2:hi<=2*r+1:=by omega
   have h0z:(hi:Int)<=2*(r:Int)+1:=by omega
   go_wp2
   go_end0
   refine⟨rfl,?_⟩;rw[<- HE.out.2,Z.zo2 hc2];exact HE.out.1
