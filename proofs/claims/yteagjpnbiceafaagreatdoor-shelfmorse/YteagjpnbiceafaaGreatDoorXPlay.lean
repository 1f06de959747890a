/-
 The first rule that matches at the machine's cursor: (*vm.machine).first.
-/
import Derived.Test.YteagjpnbiceafaaGreatDoorXMath
import Derived.Test.YteagjpnbiceafaaGreatDoorJFind
import Derived.Deep.RegionHeld3
import Derived.Deep.Cut
import Derived.Deep.DeepCutAuto
set_option maxHeartbeats 0
set_option maxRecDepth 20000
set_option linter.unusedSimpArgs false
set_option linter.unusedVariables false
namespace Go.Proofs.YteagjpnbiceafaaGreatDoor
open Go.RowKit Go.Shelf
structure Gm.Mx (b:Nat) (ms:List Nat) (mb:Nat) (wb w:World) (g:Nat) (vr vh:Value) (l:List K.Rule) (c:List Int) (A Z:List Int):Prop where
 base:wb.heap.size<=b
 bel:Below wb.heap.size wb w
 box:w.heap[mb]?=some (.cells #[.pointer (some ⟨g,0,none⟩),vr,vh] 197)
 mem:mb∈ms
 old:∀j∈ms,j<w.heap.size
 tx:∃ao cur,Gm.Tx ⟨b,ms⟩ g ao cur A Z w
 rus:V.Rus wb vr l
 hd:∀W,Below b w W->J.Rd W vh (J.heads (J.begins l) c (c.length - 1))
structure Gm.Ok (l:List K.Rule) (c:List Int):Prop where
 few:l.length<=200
 right:∀r∈l,K.ruleE r=0
 cuts:J.Cuts l c
 heads:c.length - 1<=400
theorem zkx (b:Nat)(ms:List Nat)(mb:Nat)(wb w:World)(g:Nat)(vr vh:Value)(l:List K.Rule)(c:List Int)(A Z:List Int)(M:Gm.Mx b ms mb wb w g vr vh l c A Z)(O:Gm.Ok l c)(hz:0<Z.length)(hright:∀x∈A++Z,0<=x/\x<=1114111) :
  Calls Tryz.prog 182 #[.pointer (some ⟨mb,0,none⟩)] w fun e w'=>e= .returned (.int .i64 (K.which l (A++Z) A.length))/\Below w.heap.size w w':=by
 obtain⟨ao,cur,hT⟩:=M.tx;have hmb:mb<w.heap.size:=(qA.1 M.box).1;have hfew:=hT.few;have hbox:=M.box;obtain⟨X,hX⟩:∃X,X=(w.alloc (.cells #[.pointer (some ⟨mb,0,none⟩)] 191)).alloc (.cells #[.int .i64 A.length] 3):=⟨_,rfl⟩;have hXw:Below w.heap.size w X:=by rw[hX];exact((qR w).alloc qN _).alloc (by simp) _
 have hXs:X.heap.size=w.heap.size+2:=by rw[hX];simp
 have hX0:X.heap[w.heap.size]?=some (.cells #[.pointer (some ⟨mb,0,none⟩)] 191):=by
  rw[hX];show (((w.heap.push _).push _))[w.heap.size]?=_;rw[Array.getElem?_push,if_neg (by simp),Array.getElem?_push,if_pos rfl]
 have hX1:X.heap[w.heap.size+1]?=some (.cells #[.int .i64 A.length] 3):=by
  rw[hX];show (((w.heap.push _).push _))[w.heap.size+1]?=_;rw[Array.getElem?_push,if_pos (by simp)]
 have hcur:Calls Tryz.prog 181 #[.pointer (some ⟨g,0,none⟩)] (w.alloc (.cells #[.pointer (some ⟨mb,0,none⟩)] 191)) fun e w'=>e= .returned (.int .i64 A.length)/\w'=w.alloc (.cells #[.pointer (some ⟨mb,0,none⟩)] 191) :=
  zco _ g A.length _ _ ((hT.kept fun k hk=>((Below.refl w.heap.size w).alloc qN (.cells #[.pointer (some ⟨mb,0,none⟩)] 191)).block k hk).box)
 have HCur:Hid (Calls Tryz.prog 181 #[.pointer (some ⟨g,0,none⟩)] (w.alloc (.cells #[.pointer (some ⟨mb,0,none⟩)] 191)) fun e w'=>e= .returned (.int .i64 A.length)/\w'=w.alloc (.cells #[.pointer (some ⟨mb,0,none⟩)] 191)):=hcur
 have HKp:Hid (∀W,Below X.heap.size X W->W.cell? ⟨w.heap.size,0,none⟩=some (.pointer (some ⟨mb,0,none⟩))/\W.cell? ⟨mb,2,none⟩=some vh/\W.cell? ⟨mb,0,none⟩=some (.pointer (some ⟨g,0,none⟩))/\W.cell? ⟨w.heap.size+1,0,none⟩=some (.int .i64 A.length)):=fun W hW=>by
  have b1:=K.zae (K.zae hbox hXw) hW;exact⟨K.zaf (i:=0) (K.zae hX0 hW) rfl,K.zaf (i:=2) b1 rfl,K.zaf (i:=0) b1 rfl,K.zaf (i:=0) (K.zae hX1 hW) rfl⟩
 obtain⟨x,hx⟩:∃x,x=(A++Z).getD A.length 0:=⟨_,rfl⟩
 have hxr:0<=x/\x<=1114111:=by
  refine hright x ?_;rw[hx];simp[List.getD,List.getElem?_append,hz]
 have HAt:Hid (∀W,Below X.heap.size X W->Calls Tryz.prog 204 #[.pointer (some ⟨g,0,none⟩),.int .i64 A.length] W fun e w'=>e= .returned (.int .i32 x)/\Below X.heap.size X w'):=fun W hW=>by
  have h1:=zmy W ⟨b,ms⟩ g ao cur A Z ((hT.kept fun k hk=>hXw.block k hk).kept fun k hk=>hW.block k hk) A.length (by omega);rw[<- hx] at h1;refine h1.mono ?_;rintro e w' ⟨h2,q,rfl⟩;exact⟨h2,below_drewN hW _⟩
 have hfo:J.found l x=J.begins l x:=if_pos hxr
 have HFi:Hid (∀W,Below X.heap.size X W->Calls Tryz.prog 203 #[vh,.int .i32 x] W fun e w'=>∃fo fc,e= .returned (.slice fo (J.begins l x).length fc)/\L.Rd w' (.slice fo (J.begins l x).length fc) .i64 (J.begins l x)/\Below X.heap.size X w'):=fun W hW=>by
  have hbW:Below b w W:=(hXw.trans (hW.mono (by omega))).mono hT.size;refine(zoe W vh l c O.cuts O.right O.few O.heads (M.hd W hbW) x).mono ?_;rintro e w' ⟨v',h1,h2,h3⟩;rw[hfo] at h2;obtain⟨fo,fc,rfl,_⟩:=id h2;exact⟨fo,fc,h1,h2,hW.trans (h3.mono hW.size)⟩
 obtain⟨hvo,hvc,rfl,_⟩:=M.hd w (qR _)
 have HWh:Hid (∀e,Gm.Idx (fun z=>K.matchB ((l[z.toNat]?).getD K.noRule) (A++Z) A.length) (J.begins l x) e->(∃(j i:Nat) (r:K.Rule),(J.begins l x)[j]?=some (i:Int)/\l[i]?=some r/\e= .returned (.int .i64 j)/\K.which l (A++Z) A.length=i)∨(e= .returned (.int .i64 (-1))/\K.which l (A++Z) A.length= -1)):=fun e he=>by
  rw[hx] at he ⊢;exact Gm.zog O.right he
 have hbl:(J.begins l x).length<=1000000:=by
  have:=J.zd9 (fun r=>S.memb (K.headS r) x) l 0;have:=O.few;unfold J.begins;omega
 have HIx:Hid (∀W fo fc,Below X.heap.size X W->L.Rd W (.slice fo (J.begins l x).length fc) .i64 (J.begins l x)->Calls Tryz.prog 205 #[.slice fo (J.begins l x).length fc,.func (.func 206) #[] #[.pointer (some ⟨w.heap.size,0,none⟩),.pointer (some ⟨w.heap.size+1,0,none⟩)]] W fun e w'=>Gm.Idx (fun z=>K.matchB ((l[z.toNat]?).getD K.noRule) (A++Z) A.length) (J.begins l x) e/\L.Rd w' (.slice fo (J.begins l x).length fc) .i64 (J.begins l x)/\Below X.heap.size X w'):=fun W fo fc hW hR=>by
  refine(zk0 W _ (J.begins l x) hR (by omega) 206 _ (fun z=>K.matchB ((l[z.toNat]?).getD K.noRule) (A++Z) A.length) (enters_of Tryz.func206 (by kernel_rfl) rfl) (fun Y z hY hz'=> ?_)).mono fun e w' ⟨h1,h2⟩=>⟨h1,hR.below h2 qN,hW.trans (h2.mono hW.size)⟩
  obtain⟨i,r,hi,_,rfl⟩:=Gm.zc4.1 hz';rw[Nat.zero_add];have hXY:Below X.heap.size X Y:=hW.trans (hY.mono hW.size);have hwY:Below w.heap.size w Y:=hXw.trans (hXY.mono (by omega));have hwb:Below wb.heap.size wb w:=M.bel;have hk:=HKp.out Y hXY;have hV:Gm.Vw w mb g (A++Z):=Gm.Vw.of (K.zaf (i:=0) hbox rfl) hT;have h9:=zib w Y hwY w.heap.size (w.heap.size+1) mb g i vr (.slice hvo (J.heads (J.begins l) c (c.length - 1)).length hvc) l (M.rus.below hwb) (A++Z) hV (by rw[List.length_append];omega) A.length (by rw[List.length_append];omega) r hi (O.right r (List.mem_of_getElem? hi)) hk.1 hk.2.2.2 (K.zaf (i:=1) (K.zae hbox hwY) rfl);simp only[Int.toNat_natCast,hi,Option.getD_some];exact h9
 have HXw:Hid (Below w.heap.size w X):=hXw;have e0:w.cell? ⟨mb,0,none⟩=some (.pointer (some ⟨g,0,none⟩)):=K.zaf (i:=0) hbox rfl;have HE0:Hid (∀o,(w.alloc o).cell? ⟨mb,0,none⟩=some (.pointer (some ⟨g,0,none⟩))):=fun o=>K.zai e0 o
 have e1:=HE0.out (.cells #[.pointer (some ⟨mb,0,none⟩)] 191);have HXX:Hid (X=(w.alloc (.cells #[.pointer (some ⟨mb,0,none⟩)] 191)).alloc (.cells #[.int .i64 A.length] 3)):=hX;generalize J.begins l x=bl at HFi HWh HIx hbl;generalize (J.heads (J.begins l) c (c.length - 1)).length=hn at HKp HFi;clear hT hbox hX0 hX1 hcur hX hXw hfo hx hright M O e0 HE0
 go_enter Tryz.func182,Tryz.ntmps182
 go_wp2_with fail
 go_at_call 181
 refine HCur.out.mono ?_;rintro e w1 ⟨rfl,rfl⟩;clear e1 HCur
 go_wp2_with fail
 rw[<- HXX.out];have HQ0:Hid (Below X.heap.size X X.drew):=(qR X).drew
 go_cut [4] (fun v4 wx=>∃fo fc,v4= .slice fo bl.length fc/\Hid (L.Rd wx (.slice fo bl.length fc) .i64 bl/\Below X.heap.size X wx))
 case first =>
  go_region_held3 (fun w'=>w'.cell? ⟨w.heap.size,0,none⟩=some (.pointer (some ⟨mb,0,none⟩))/\w'.cell? ⟨mb,2,none⟩=some (.slice hvo hn hvc)/\w'.cell? ⟨mb,0,none⟩=some (.pointer (some ⟨g,0,none⟩))/\w'.cell? ⟨w.heap.size+1,0,none⟩=some (.int .i64 A.length))
   (first | with_reducible exact HKp.out _ HQ0.out | with_reducible exact k2 | with_reducible exact k1 | (go_keep;done))
   (first
    | (have hy:=z1;clear hy;go_at_call 203;refine(HFi.out _ z1).mono ?_;rintro e w2 ⟨fo,fc,rfl,r2,z2⟩;have k2:=HKp.out _ z2)
    | ((fail_if_success (have hy:=z1));go_at_call 204;refine(HAt.out _ HQ0.out).mono ?_;rintro e w1 ⟨rfl,z1⟩;have k1:=HKp.out _ z1)
    | fail)
  all_goals go_wp2
  all_goals go_meet
  all_goals exact⟨fo,fc,rfl,r2,z2⟩
 case rest =>
  obtain⟨fo,fc,rfl,HC⟩:=hcut;have HI2:=HIx.out wc fo fc HC.out.2 HC.out.1
  have HI3:Hid (Calls Tryz.prog 205 #[.slice fo bl.length fc,.func (.func 206) #[] #[.pointer (some ⟨w.heap.size,0,none⟩),.pointer (some ⟨w.heap.size+1,0,none⟩)]] wc fun e w'=>((∃(j i:Nat),bl[j]?=some (i:Int)/\e= .returned (.int .i64 j)/\K.which l (A++Z) A.length=i)∨(e= .returned (.int .i64 (-1))/\K.which l (A++Z) A.length= -1))/\L.Rd w' (.slice fo bl.length fc) .i64 bl/\Below w.heap.size w w'):=by
   refine HI2.mono ?_;rintro e w' ⟨h1,h2,h3⟩;refine⟨?_,h2,HXw.out.trans (h3.mono (by omega))⟩;rcases HWh.out e h1 with ⟨j,i,r,g1,_,g2,g3⟩ | h
   ·exact .inl ⟨j,i,g1,g2,g3⟩
   ·exact .inr h
  clear HI2 HIx HWh HKp HAt HFi
  go_wp2_with fail
  go_at_call 205
  refine HI3.out.mono ?_;rintro e w3 ⟨h1,r3,b3⟩;have HB3:Hid (Below w.heap.size w w3):=b3;rcases h1 with ⟨j,i,g1,rfl,hw⟩|⟨rfl,hw⟩
  ·have HW:Hid (K.which l (A++Z) A.length=i):=hw;clear hw;have hjl:=(qL.1 g1).1;obtain⟨ao9,cap9,h9,_,hcs⟩:=r3;cases h9;obtain⟨fb,ff,rfl,hcell⟩:=hcs (by intro h;rw[h] at hjl;simp at hjl);have cj:=hcell j _ g1;clear hcell hcs g1 b3 HI3;go_wp2;go_ret;exact⟨by rw[HW.out];rfl,HB3.out⟩
  ·have HW:Hid (K.which l (A++Z) A.length= -1):=hw;clear b3 HI3 r3 hw;go_wp2;go_ret;exact⟨by rw[HW.out];rfl,HB3.out⟩
end Go.Proofs.YteagjpnbiceafaaGreatDoor
namespace Go.Proofs.YteagjpnbiceafaaGreatDoor
open Go.RowKit Go.Shelf
theorem Gm.Room.re {B B':Gm.Bs}{w:World}{ao:Option Addr}{cur:List Int}(h:Gm.Room B w ao cur)(hr:∀r,ao=Option.some ⟨r,0,none⟩->B'.ok r):Gm.Room B' w ao cur:=by
 rcases h with h | ⟨r,h1,_,h3⟩
 ·exact .inl h
 ·exact .inr ⟨r,h1,hr r h1,h3⟩
theorem Gm.Tx.re {B B':Gm.Bs}{g:Nat}{ao:Option Addr}{cur A Z:List Int}{w:World}(h:Gm.Tx B g ao cur A Z w)(hg:B'.ok g)(hr:∀r,ao=some ⟨r,0,none⟩->B'.ok r):Gm.Tx B' g ao cur A Z w :=
 ⟨hg,h.box,h.room.re hr,h.ne,h.fit,h.most,h.few,h.ahead,h.behind⟩
theorem Gm.Mx.below {b:Nat}{ms:List Nat}{mb:Nat}{wb w w':World}{g:Nat}{vr vh:Value}{l:List K.Rule}{c A Z:List Int}(M:Gm.Mx b ms mb wb w g vr vh l c A Z)(h:Below w.heap.size w w'):Gm.Mx b ms mb wb w' g vr vh l c A Z:=by
 obtain⟨ao,cur,hT⟩:=M.tx;have hb:b<=w.heap.size:=hT.size;exact⟨M.base,M.bel.trans (h.mono M.bel.size),K.zae M.box h,M.mem,fun j hj=>Nat.lt_of_lt_of_le (M.old j hj) h.size,⟨ao,cur,hT.kept fun k hk=>h.block k hk⟩,M.rus,fun W hW=>M.hd W ((h.mono hb).trans hW)⟩
theorem Gm.Mx.lt {b:Nat}{ms:List Nat}{mb:Nat}{wb w:World}{g:Nat}{vr vh:Value}{l:List K.Rule}{c A Z:List Int}(M:Gm.Mx b ms mb wb w g vr vh l c A Z):mb<w.heap.size:=(qA.1 M.box).1
theorem Gm.Mx.told {b:Nat}{ms ns:List Nat}{mb:Nat}{wb w w':World}{g:Nat}{vr vh:Value}{l:List K.Rule}{c A Z A' Z':List Int}(M:Gm.Mx b ms mb wb w g vr vh l c A Z)(hm:∀j∈ms,j∈ns)(h:Gm.Told ⟨b,ns⟩ g w A' Z' w'):Gm.Mx b ms mb wb w' g vr vh l c A' Z':=by
 obtain⟨⟨ao,cur,hT⟩,hF⟩:=h;refine⟨M.base,M.bel.trans (hF.1.mono M.base),(hF.2 mb (hm mb M.mem) M.lt).trans M.box,M.mem,fun j hj=>Nat.lt_of_lt_of_le (M.old j hj) hF.size,⟨ao,cur,hT.re ⟨hT.hB.1,fun e=>hT.hB.2 (hm _ e)⟩ fun r hr=> ?_⟩,M.rus,fun W hW=>M.hd W (hF.1.trans hW)⟩;have hk:=hT.room;rcases hk with ⟨h0,_⟩|⟨r',h1,h2,_⟩
 ·rw[h0] at hr;cases hr
 ·rw[h1] at hr;cases hr;exact⟨h2.1,fun e=>h2.2 (hm _ e)⟩
theorem Gm.Fr.less {b:Nat}{ms ns:List Nat}{w w':World}(h:Gm.Fr ⟨b,ns⟩ w w')(hm:∀j∈ms,j∈ns):Gm.Fr ⟨b,ms⟩ w w':=⟨h.1,fun j hj hl=>h.2 j (hm j hj) hl⟩
theorem zmt (w:World)(B:Gm.Bs)(g:Nat)(ao:Option Addr)(cur A Z:List Int)(h:Gm.Tx B g ao cur A Z w)(k:Nat)(hk:k<=A.length) :
  Calls Tryz.prog 201 #[.pointer (some ⟨g,0,none⟩),.int .i64 k] w fun e w'=>e= .returned (.int .i64 0)/\Gm.Told B g w (A.take k) (A.drop k++Z) w':=by
 by_cases hlt:k<A.length
 ·obtain⟨r,rfl⟩:=h.room.some (by have:=h.fit;omega);exact zhl w B g r cur A Z h k hlt
 ·obtain rfl:k=A.length:=by omega
  have:=zhk w B g ao cur A Z h;rw[List.take_length,List.drop_length,List.nil_append];exact this
theorem zg1 (b:Nat)(ms:List Nat)(mb:Nat)(wb w:World)(g:Nat)(vr vh:Value)(l:List K.Rule)(c:List Int)(A Z:List Int)(M:Gm.Mx b ms mb wb w g vr vh l c A Z)(v:Value)(r:K.Rule)(hr:K.RuIs wb v r)(hE:K.ruleE r=0)(hs:r.source.length<=Z.length) :
  Calls Tryz.prog 208 #[.pointer (some ⟨mb,0,none⟩),v] w fun e w'=>∃x:Int,e= .returned (.int .i64 x) /\
   ((4000<A.length+(K.restOf r Z).length/\x=4/\Below b w w')∨(¬ 4000<A.length+(K.restOf r Z).length/\x=0/\Gm.Mx b ms mb wb w' g vr vh l c (A++(K.restOf r Z).take r.cursor.toNat) ((K.restOf r Z).drop r.cursor.toNat)/\Gm.Fr ⟨b,ms⟩ w w')):=by
 have hmb:=M.lt;obtain⟨z1,z2,z3,z4,z5,z6,z7,z8⟩:=K.zat hE;obtain⟨bo,bc,so,sc,ao2,ac,tt,tc,rfl,R1,R2,R3,R4,hl4,hcu⟩:=hr;obtain⟨X,hX⟩:∃X,X=w.alloc (.cells #[.bool r.start,.bool r.fin,.slice bo r.before.length bc,.slice so r.source.length sc,.slice ao2 r.after.length ac,.slice tt r.target.length tc,.int .i64 r.cursor] 83):=⟨_,rfl⟩;have hXw:Below w.heap.size w X:=by rw[hX];exact(qR w).alloc qN _
 have hXs:X.heap.size=w.heap.size+1:=by rw[hX];simp
 have hXr:X.heap[w.heap.size]?=some (.cells #[.bool r.start,.bool r.fin,.slice bo r.before.length bc,.slice so r.source.length sc,.slice ao2 r.after.length ac,.slice tt r.target.length tc,.int .i64 r.cursor] 83):=by
  rw[hX];show (w.heap.push _)[w.heap.size]?=_;exact Array.getElem?_push_size
 have MX:=M.below hXw;obtain⟨ao0,cur0,hT0⟩:=M.tx;have hgs:=hT0.box.lt;have hbw:b<=w.heap.size:=hT0.size
 have hT1:Gm.Tx ⟨b,w.heap.size::ms⟩ g ao0 cur0 A Z X:=(hT0.kept fun k hk=>hXw.block k hk).re ⟨hT0.hB.1,fun e=>by
   rcases List.mem_cons.1 e with e | e
   ·omega
   ·exact hT0.hB.2 e⟩ fun q hq=>by
  have h1:=hT0.room.lt q hq;refine⟨h1.1.1,fun e=> ?_⟩;rcases List.mem_cons.1 e with e | e
  ·omega
  ·exact h1.1.2 e
 have HKp:Hid (∀W,Gm.Fr ⟨b,w.heap.size::ms⟩ X W->W.cell? ⟨mb,0,none⟩=some (.pointer (some ⟨g,0,none⟩))/\W.cell? ⟨w.heap.size,3,none⟩=some (.slice so r.source.length sc)/\W.cell? ⟨w.heap.size,5,none⟩=some (.slice tt r.target.length tc)/\W.cell? ⟨w.heap.size,6,none⟩=some (.int .i64 r.cursor)):=fun W hW=>by
  have b1:W.heap[mb]?=_:=(hW.2 mb (List.mem_cons_of_mem _ MX.mem) MX.lt).trans MX.box;have b2:W.heap[w.heap.size]?=_:=(hW.2 w.heap.size (by simp) (by omega)).trans hXr;exact⟨K.zaf (i:=0) b1 rfl,K.zaf (i:=3) b2 rfl,K.zaf (i:=5) b2 rfl,K.zaf (i:=6) b2 rfl⟩
 have HCur:Hid (Calls Tryz.prog 181 #[.pointer (some ⟨g,0,none⟩)] X fun e w'=>e= .returned (.int .i64 A.length)/\w'=X):=zco X g A.length _ _ hT1.box
 have HDel:Hid (∀W,W=X.drew->Calls Tryz.prog 220 #[.pointer (some ⟨g,0,none⟩),.int .i64 r.source.length] W fun e w'=>e= .returned (.int .i64 0)/\(∃ao cur,Gm.Tx ⟨b,w.heap.size::ms⟩ g ao cur A (Z.drop r.source.length) w')/\Gm.Fr ⟨b,w.heap.size::ms⟩ X w'):=fun W hW=>by
  subst hW;exact(zth X.drew _ g ao0 cur0 A Z (hT1.drew 1) r.source.length hs).mono fun e w' ⟨h1,h2⟩=>⟨h1,h2.1,(Gm.Fr.refl _ X).drew.trans h2.2⟩
 have hZl:(Z.drop r.source.length).length=Z.length - r.source.length:=List.length_drop;have hro:(K.restOf r Z).length=r.target.length+(Z.length - r.source.length):=by unfold K.restOf;rw[List.length_append,hZl]
 have HV:Hid (∀W,Gm.Fr ⟨b,w.heap.size::ms⟩ X W->L.Rd W (.slice tt r.target.length tc) .i32 r.target):=fun W hW=>by
  have h1:Below wb.heap.size wb W:=MX.bel.trans (hW.1.mono M.base);exact R4.below h1 qN
 have HSz:Hid (∀W,Gm.Fr ⟨b,w.heap.size::ms⟩ X W->∀j∈w.heap.size::ms,j<W.heap.size):=fun W hW j hj=>by
  have:=hW.size;rcases List.mem_cons.1 hj with hj | hj
  ·omega
  ·have:=MX.old j hj;omega
 have HMx:Hid (∀W A' Z',(∃ao cur,Gm.Tx ⟨b,w.heap.size::ms⟩ g ao cur A' Z' W)->Gm.Fr ⟨b,w.heap.size::ms⟩ X W->Gm.Mx b ms mb wb W g vr vh l c A' Z'/\Gm.Fr ⟨b,ms⟩ w W):=fun W A' Z' h1 h2=>⟨MX.told (ns:=w.heap.size::ms) (fun j hj=>List.mem_cons_of_mem _ hj) ⟨h1,h2⟩,(Gm.Fr.of_below hXw hbw).trans (h2.less fun j hj=>List.mem_cons_of_mem _ hj)⟩
 have HBl:Hid (∀W,Gm.Fr ⟨b,w.heap.size::ms⟩ X W->Below b w W):=fun W hW=>(hXw.mono hbw).trans hW.1
 have HXX:Hid (X=w.alloc (.cells #[.bool r.start,.bool r.fin,.slice bo r.before.length bc,.slice so r.source.length sc,.slice ao2 r.after.length ac,.slice tt r.target.length tc,.int .i64 r.cursor] 83)):=hX;have HT4:Hid (A.length+Z.length<=4000):=hT0.few;clear hXr MX hT0 hT1 hgs R1 R2 R3 R4 hX hXw M z1 z2 z3 z6 hE;obtain⟨st,fi,be,sou,af,ta,cu⟩:=r;simp only at z4 z5 z7 z8 HKp HDel hro HV HXX hs hl4 hcu hZl;obtain⟨n,rfl⟩:∃n:Nat,cu=n:=⟨cu.toNat,by omega⟩;obtain⟨Rs,hRs⟩:∃Rs,Rs=K.restOf ⟨st,fi,be,sou,af,ta,(n:Int)⟩ Z:=⟨_,rfl⟩;have HRs:Hid (Rs=ta++Z.drop sou.length):=by show _=_;rw[hRs];rfl
 rw[<- hRs] at hro ⊢;simp only[Int.toNat_natCast];clear hRs;obtain⟨k0,k3,k5,k6⟩:=HKp.out X (Gm.Fr.refl _ _)
 go_enter Tryz.func208,Tryz.ntmps208
 have m0:=k0;rw[HXX.out] at m0
 go_wp2_with fail
 rw[<- HXX.out];refine HCur.out.mono ?_;rintro e w1 ⟨rfl,rfl⟩;clear m0 HCur
 go_upto_region 2 with fail
 go_cut [6] (fun v6 wx=>v6= .int .i64 0/\Hid ((∃ao cur,Gm.Tx ⟨b,w.heap.size::ms⟩ g ao cur A (Z.drop sou.length) wx)/\Gm.Fr ⟨b,w.heap.size::ms⟩ w1 wx))
 case first =>
  go_region_with (go_at_call 220;refine(HDel.out _ rfl).mono ?_;rintro e w2 ⟨rfl,s2⟩)
  all_goals go_wp2
  all_goals go_meet
  all_goals exact⟨rfl,s2⟩
 case rest =>
  obtain⟨rfl,HS⟩:=hcut;obtain⟨c0,c3,c5,c6⟩:=HKp.out wc HS.out.2;clear HDel k0 k3 k5 k6
  by_cases hbig:4000<A.length+Rs.length
  ·have HPut:Hid (∀W,W=wc.drew->Calls Tryz.prog 200 #[.pointer (some ⟨g,0,none⟩),.slice tt ta.length tc] W fun e w'=>e= .returned (.int .i64 4)/\Below b w w'):=fun W hW=>by
    subst hW;obtain⟨⟨ao,cur,hT⟩,hF⟩:=HS.out;refine(zr5 wc.drew _ g ao cur A (Z.drop sou.length) (hT.drew 1) tt ta.length tc (by unfold maxLen;omega) (by rw[hZl];omega)).mono ?_;rintro e w' ⟨h1,h2⟩;exact⟨h1,HBl.out w' (hF.drew.trans h2.2)⟩
   clear HS
   go_upto_region 5 with fail
   go_cut [7] (fun v7 wx=>v7= .int .i64 4/\Hid (Below b w wx))
   case first =>
    go_region_with (go_at_call 200;refine(HPut.out _ rfl).mono ?_;rintro e w2 ⟨rfl,s2⟩)
    all_goals go_wp2
    all_goals go_meet
    all_goals exact⟨rfl,s2⟩
   case rest =>
    obtain⟨rfl,HE⟩:=hcut;go_wp2;go_ret;exact⟨4,rfl,.inl ⟨hbig,rfl,HE.out⟩⟩
  ·have HPut:Hid (∀W,W=wc.drew->Calls Tryz.prog 200 #[.pointer (some ⟨g,0,none⟩),.slice tt ta.length tc] W fun e w'=>e= .returned (.int .i64 0)/\(∃ao cur,Gm.Tx ⟨b,w.heap.size::ms⟩ g ao cur (A++ta) (Z.drop sou.length) w')/\Gm.Fr ⟨b,w.heap.size::ms⟩ w1 w'):=fun W hW=>by
    subst hW;obtain⟨⟨ao,cur,hT⟩,hF⟩:=HS.out;refine(zrf wc.drew _ g ao cur A (Z.drop sou.length) (hT.drew 1) _ ta (fun w' hw'=>HV.out w' (hF.drew.trans hw')) (by rw[hZl];omega) (HSz.out wc hF)).mono ?_;rintro e w' ⟨h1,h2⟩;exact⟨h1,h2.1,hF.drew.trans h2.2⟩
   clear HS
   go_upto_region 5 with fail
   go_cut [7] (fun v7 wx=>v7= .int .i64 0/\Hid ((∃ao cur,Gm.Tx ⟨b,w.heap.size::ms⟩ g ao cur (A++ta) (Z.drop sou.length) wx)/\Gm.Fr ⟨b,w.heap.size::ms⟩ w1 wx))
   case first =>
    go_region_with (go_at_call 200;refine(HPut.out _ rfl).mono ?_;rintro e w2 ⟨rfl,s2⟩)
    all_goals go_wp2
    all_goals go_meet
    all_goals exact⟨rfl,s2⟩
   case rest =>
    obtain⟨rfl,HS⟩:=hcut;clear c0 c3 c5 c6 HPut;obtain⟨c0,c3,c5,c6⟩:=HKp.out wc HS.out.2;obtain⟨p,hp⟩:∃p:Nat,p=A.length+n:=⟨_,rfl⟩;have hpi:(A.length:Int)+n=p:=by omega
    have HMv:Hid (∀W,W=wc.drew->Calls Tryz.prog 201 #[.pointer (some ⟨g,0,none⟩),.int .i64 (IntKind.i64.wrap ((A.length:Int)+(n:Int)))] W fun e w'=>e= .returned (.int .i64 0)/\Gm.Mx b ms mb wb w' g vr vh l c (A++Rs.take n) (Rs.drop n)/\Gm.Fr ⟨b,ms⟩ w w'):=fun W hW=>by
     subst hW;rw[show IntKind.i64.wrap ((A.length:Int)+(n:Int))=(p:Int) by rw[IntKind.wrap_i64];omega];obtain⟨⟨ao,cur,hT⟩,hF⟩:=HS.out;refine(zmt wc.drew _ g ao cur (A++ta) (Z.drop sou.length) (hT.drew 1) p (by rw[List.length_append];omega)).mono ?_;rintro e w' ⟨h1,h2⟩;have e1:(A++ta).take p=A++Rs.take n:=by rw[hp,HRs.out,List.take_append,List.take_append_of_le_length (by omega),List.take_of_length_le (by omega),show A.length+n - A.length=n by omega]
     have e2:(A++ta).drop p++Z.drop sou.length=Rs.drop n:=by rw[hp,HRs.out,List.drop_append,List.drop_of_length_le (by omega),List.nil_append,show A.length+n - A.length=n by omega,List.drop_append_of_le_length (by omega)]
     rw[e1,e2] at h2;exact⟨h1,HMx.out w' _ _ h2.1 (hF.drew.trans h2.2)⟩
    have hA4:A.length<=4000:=by have:=HT4.out;omega
    have hn4:n<=20:=by omega
    clear HS hp hpi
    go_upto_region 8 with fail
    go_cut [4] (fun v4 wx=>v4= .int .i64 0/\Hid (Gm.Mx b ms mb wb wx g vr vh l c (A++Rs.take n) (Rs.drop n)/\Gm.Fr ⟨b,ms⟩ w wx))
    case first =>
     go_region_with (go_at_call 201;refine(HMv.out _ rfl).mono ?_;rintro e w2 ⟨rfl,s2⟩)
     all_goals go_wp2
     all_goals go_meet
     all_goals exact⟨rfl,s2⟩
    case rest =>
     obtain⟨rfl,HE⟩:=hcut;go_wp2;go_ret;exact⟨0,rfl,.inr ⟨hbig,rfl,HE.out⟩⟩
end Go.Proofs.YteagjpnbiceafaaGreatDoor
namespace Go.Proofs.YteagjpnbiceafaaGreatDoor
open Go.RowKit Go.Shelf
theorem Gm.right1 (w:World)(B:Gm.Bs)(g:Nat)(ao:Option Addr)(cur A Z:List Int)(h:Gm.Tx B g ao cur A Z w)(hz:0<Z.length) :
  Calls Tryz.prog 201 #[.pointer (some ⟨g,0,none⟩),.int .i64 ((A.length+1:Nat):Int)] w fun e w'=>e= .returned (.int .i64 0)/\Gm.Told B g w (A++Z.take 1) (Z.drop 1) w':=by
 obtain⟨r,rfl⟩:=h.room.some (by have:=h.fit;omega);exact zfw w B g r cur A Z h (A.length+1) 1 rfl (by omega) (by omega)
theorem zph (b:Nat)(ms:List Nat)(mb:Nat)(wb w:World)(g:Nat)(vr vh:Value)(l:List K.Rule)(c:List Int)(A Z:List Int)(M:Gm.Mx b ms mb wb w g vr vh l c A Z)(hz:0<Z.length) :
  Calls Tryz.prog 183 #[.pointer (some ⟨mb,0,none⟩),.int .i64 (-1)] w fun e w'=>e= .returned (.int .i64 0)/\Gm.Mx b ms mb wb w' g vr vh l c (A++Z.take 1) (Z.drop 1)/\Gm.Fr ⟨b,ms⟩ w w':=by
 obtain⟨ao,cur,hT⟩:=M.tx;have hf:=hT.few;have k0:w.cell? ⟨mb,0,none⟩=some (.pointer (some ⟨g,0,none⟩)):=K.zaf (i:=0) M.box rfl
 have HCur:Hid (∀W,W=w.drew->Calls Tryz.prog 181 #[.pointer (some ⟨g,0,none⟩)] W fun e w'=>e= .returned (.int .i64 A.length)/\w'=W):=fun W hW=>by
  subst hW;exact zco w.drew g A.length _ _ (hT.drew 1).box
 have HMv:Hid (∀W,W=w.drew->Calls Tryz.prog 201 #[.pointer (some ⟨g,0,none⟩),.int .i64 (IntKind.i64.wrap ((A.length:Int)+1))] W fun e w'=>e= .returned (.int .i64 0)/\Gm.Mx b ms mb wb w' g vr vh l c (A++Z.take 1) (Z.drop 1)/\Gm.Fr ⟨b,ms⟩ w w'):=fun W hW=>by
  subst hW;rw[show IntKind.i64.wrap ((A.length:Int)+1)=((A.length+1:Nat):Int) by rw[IntKind.wrap_i64];omega];refine(Gm.right1 w.drew _ g ao cur A Z (hT.drew 1) hz).mono ?_;rintro e w' ⟨h1,h2⟩;exact⟨h1,M.told (ns:=ms) (fun j hj=>hj) ⟨h2.1,(Gm.Fr.refl _ w).drew.trans h2.2⟩,(Gm.Fr.refl _ w).drew.trans h2.2⟩
 clear hT M
 go_enter Tryz.func183,Tryz.ntmps183
 go_wp2_with fail
 go_region_with (first
  | (go_at_call 181;refine(HCur.out _ rfl).mono ?_;rintro e w1 ⟨rfl,rfl⟩)
  | (go_at_call 201;refine(HMv.out _ rfl).mono ?_;rintro e w2 ⟨rfl,s2⟩))
 all_goals go_wp2
 all_goals go_ret
 all_goals exact⟨rfl,s2⟩
theorem zmq (b:Nat)(ms:List Nat)(mb:Nat)(wb w:World)(g:Nat)(vr vh:Value)(l:List K.Rule)(c:List Int)(A Z:List Int)(M:Gm.Mx b ms mb wb w g vr vh l c A Z)(k:Nat)(r:K.Rule)(hk:l[k]?=some r)(hE:K.ruleE r=0)(hm:K.matchB r (A++Z) A.length=true) :
  Calls Tryz.prog 183 #[.pointer (some ⟨mb,0,none⟩),.int .i64 k] w fun e w'=>∃x:Int,e= .returned (.int .i64 x) /\
   ((4000<A.length+(K.restOf r Z).length/\x=4/\Below b w w')∨(¬ 4000<A.length+(K.restOf r Z).length/\x=0/\Gm.Mx b ms mb wb w' g vr vh l c (A++(K.restOf r Z).take r.cursor.toNat) ((K.restOf r Z).drop r.cursor.toNat)/\Gm.Fr ⟨b,ms⟩ w w')):=by
 have hs:r.source.length<=Z.length:=by
  refine Nat.le_of_not_lt fun h=> ?_
  have:=K.zkf (r:=r) (t:=A++Z) (at_:=A.length) (K.zat hE).2.2.2.1 (.inr (.inl (by rw[List.length_append];omega)));rw[this] at hm;cases hm
 have hwb:Below wb.heap.size wb w:=M.bel;have hkl:=(qL.1 hk).1;have hlf:=M.rus.few;have hRus:=M.rus;obtain⟨ao,cap,rfl⟩:=M.rus.len;obtain⟨ba,oa,bo,bc,so,sc,ao2,ac,tt,tc,rfl,a0,a1,a2,a3,a4,a5,a6,hP⟩:=K.Rus.rule hRus hk;have lift:∀b o x,wb.cell? ⟨b,o,none⟩=some x->w.cell? ⟨b,o,none⟩=some x:=fun b o x h=>by rw[(L.bcell hwb).1 b o (L.block_lt h)];exact h
 replace a0:=lift _ _ _ a0
 replace a1:=lift _ _ _ a1
 replace a2:=lift _ _ _ a2
 replace a3:=lift _ _ _ a3
 replace a4:=lift _ _ _ a4
 replace a5:=lift _ _ _ a5
 replace a6:=lift _ _ _ a6
 have k1:w.cell? ⟨mb,1,none⟩=some (.slice (some ⟨ba,oa,none⟩) l.length cap):=K.zaf (i:=1) M.box rfl;have HRp:=zg1 b ms mb wb w g _ vh l c A Z M _ r hP hE hs
 have HRP:Hid (Calls Tryz.prog 208 #[.pointer (some ⟨mb,0,none⟩),.agg #[.bool r.start,.bool r.fin,.slice bo r.before.length bc,.slice so r.source.length sc,.slice ao2 r.after.length ac,.slice tt r.target.length tc,.int .i64 r.cursor]] w fun e w'=>∃x:Int,e= .returned (.int .i64 x) /\
   ((4000<A.length+(K.restOf r Z).length/\x=4/\Below b w w')∨(¬ 4000<A.length+(K.restOf r Z).length/\x=0/\Gm.Mx b ms mb wb w' g (.slice (some ⟨ba,oa,none⟩) l.length cap) vh l c (A++(K.restOf r Z).take r.cursor.toNat) ((K.restOf r Z).drop r.cursor.toNat)/\Gm.Fr ⟨b,ms⟩ w w'))):=HRp
 clear HRp hP lift hRus hwb hk hE hm hs M;obtain⟨st,fi,be,sou,af,ta,cu⟩:=r;simp only at a0 a1 a2 a3 a4 a5 a6 HRP
 go_enter Tryz.func183,Tryz.ntmps183
 go_wp2_with fail
 go_at_call 208
 refine HRP.out.mono ?_;rintro e w1 ⟨x,rfl,h1⟩;have H1:Hid _:=h1;clear h1;go_wp2;go_ret;exact⟨x,rfl,H1.out⟩
end Go.Proofs.YteagjpnbiceafaaGreatDoor
namespace Go.Proofs.YteagjpnbiceafaaGreatDoor
open Go.RowKit Go.Shelf
theorem Gm.Mx.box1 {b:Nat}{ms:List Nat}{mb:Nat}{wb w:World}{g:Nat}{vr vh:Value}{l:List K.Rule}{c A Z:List Int}(M:Gm.Mx b ms mb wb w g vr vh l c A Z)(o:Obj):Gm.Mx b (w.heap.size::ms) mb wb (w.alloc o) g vr vh l c A Z:=by
  have M2:=M.below ((qR w).alloc qN o);obtain⟨ao,cur,hT⟩:=M.tx;have hgs:=hT.box.lt;refine⟨M2.base,M2.bel,M2.box,List.mem_cons_of_mem _ M.mem,fun j hj=> ?_,⟨ao,cur,(hT.kept fun k hk=>((Below.refl w.heap.size w).alloc qN o).block k hk).re ⟨hT.hB.1,fun e=> ?_⟩ fun q hq=> ?_⟩,M2.rus,M2.hd⟩
  · rcases List.mem_cons.1 hj with rfl | hj
    · simp
    · have:=M.old j hj;simp;omega
  · rcases List.mem_cons.1 e with e | e
    · omega
    · exact hT.hB.2 e
  · have h1:=hT.room.lt q hq
    refine⟨h1.1.1,fun e=> ?_⟩;rcases List.mem_cons.1 e with e | e
    · omega
    · exact h1.1.2 e
theorem Gm.Mx.less {b:Nat}{ms ns:List Nat}{mb:Nat}{wb w:World}{g:Nat}{vr vh:Value}{l:List K.Rule}{c A Z:List Int}(M:Gm.Mx b ns mb wb w g vr vh l c A Z)(hm:mb∈ms)(hs:∀j∈ms,j∈ns):Gm.Mx b ms mb wb w g vr vh l c A Z:=by
  obtain⟨ao,cur,hT⟩:=M.tx;refine⟨M.base,M.bel,M.box,hm,fun j hj=>M.old j (hs j hj),⟨ao,cur,hT.re ⟨hT.hB.1,fun e=>hT.hB.2 (hs _ e)⟩ fun q hq=> ?_⟩,M.rus,M.hd⟩;have h1:=hT.room.lt q hq;exact⟨h1.1.1,fun e=>h1.1.2 (hs _ e)⟩
theorem zmu (w:World)(n:Nat)(hn:n<=4000):Calls Tryz.prog 179 #[.int .i64 (n:Int)] w fun e w'=>e= .returned (.int .i64 (8*(n:Int)+40))/\w'=w:=by
  have e1:IntKind.i64.wrap (8*(n:Int))=8*(n:Int):=by rw[IntKind.wrap_i64];omega
  have e2:IntKind.i64.wrap (8*(n:Int)+40)=8*(n:Int)+40:=by rw[IntKind.wrap_i64];omega
  go_enter Tryz.func179,Tryz.ntmps179
  go_wp2;go_ret
  exact⟨by simp[e1,e2],rfl⟩
theorem Gm.ziu {l:List Int}(h:K.allR l=true):∀x∈l,0<=x/\x<=1114111:=fun x hx=>by
  have:=List.all_eq_true.1 h x hx;unfold M.right at this;simp at this;omega
theorem Gm.zcq {a b:List Int}:K.allR (a++b)=true↔K.allR a=true/\K.allR b=true:=by simp[K.allR]
theorem Gm.zcp {a b:List Int}(h:K.allR a=true)(hs:∀x∈b,x∈a):K.allR b=true:=List.all_eq_true.2 fun x hx=>List.all_eq_true.1 h x (hs x hx)
theorem zmr (b:Nat)(ms:List Nat)(mb:Nat)(wb w:World)(g:Nat)(vr vh:Value)(l:List K.Rule)(c:List Int)(A Z:List Int)(M:Gm.Mx b ms mb wb w g vr vh l c A Z)(O:Gm.Ok l c)(hz:0<Z.length)(hR:K.allR (A++Z)=true) :
    Calls Tryz.prog 183 #[.pointer (some ⟨mb,0,none⟩),.int .i64 (K.which l (A++Z) A.length)] w fun e w'=>∃x:Int,e= .returned (.int .i64 x) /\
      ((x=4/\Below b w w'/\∀left s p,K.play l (left+1) A Z s p=(4,[],0,0)) ∨
       (x=0/\∃A' Z',Gm.Mx b ms mb wb w' g vr vh l c A' Z'/\Gm.Fr ⟨b,ms⟩ w w'/\K.allR (A'++Z')=true/\∀left s p,K.play l (left+1) A Z s p=K.play l left A' Z' (s+1) (p+if K.which l (A++Z) A.length= -1 then 0 else 1))):=by
  have hzn:¬Z.length=0:=by omega
  rcases K.zf9 (l:=l) (t:=A++Z) (k:=(A.length:Int)) with hw | ⟨j,r,hj,hm,hw⟩
  · have h:=zph b ms mb wb w g vr vh l c A Z M hz
    rw[hw];refine h.mono ?_;rintro e w' ⟨rfl,h1,h2⟩;refine⟨0,rfl,.inr ⟨rfl,_,_,h1,h2,?_,fun left s p=> ?_⟩⟩
    · rw[List.append_assoc,List.take_append_drop];exact hR
    · rw[K.zi1 hzn hw,if_pos rfl,Int.add_zero]
  · have h:=zmq b ms mb wb w g vr vh l c A Z M j r hj (O.right r (List.mem_of_getElem? hj)) hm
    rw[hw];refine h.mono ?_;rintro e w' ⟨x,rfl,⟨h1,rfl,h2⟩|⟨h1,rfl,h2,h3⟩⟩
    · exact⟨4,rfl,.inl ⟨rfl,h2,fun left s p=>K.znv hzn hw hj h1⟩⟩
    · refine⟨0,rfl,.inr ⟨rfl,_,_,h2,h3,?_,fun left s p=> ?_⟩⟩
      · rw[List.append_assoc,List.take_append_drop]
        obtain⟨g1,g2⟩:=Gm.zcq.1 hR;refine Gm.zcq.2 ⟨g1,Gm.zcq.2 ⟨(K.zat (O.right r (List.mem_of_getElem? hj))).2.2.2.2.2.1,Gm.zcp g2 fun x hx=>List.mem_of_mem_drop hx⟩⟩
      · rw[K.zgo hzn hw hj h1,if_neg (by omega)]
end Go.Proofs.YteagjpnbiceafaaGreatDoor
