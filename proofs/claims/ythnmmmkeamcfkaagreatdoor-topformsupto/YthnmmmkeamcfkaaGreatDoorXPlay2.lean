import Derived.Test.YthnmmmkeamcfkaaGreatDoorXMath
import Derived.Test.YthnmmmkeamcfkaaGreatDoorJFind
set_option maxHeartbeats 0
set_option maxRecDepth 20000
set_option linter.unusedSimpArgs false
set_option linter.unusedVariables false
namespace Go.Proofs.YthnmmmkeamcfkaaGreatDoor
open Go.Proofs.Tryz
section
open Go.RowKit Go.Shelf
structure Gm.Mx (b:Nat) (ms:List Nat) (mb:Nat) (wb w:World) (g:Nat) (vr vh:Value) (l:List K.Rule) (c:List Int) (A Z:List Int):Prop where
 base:wb.heap.size<=b
 bel:Below wb.heap.size wb w
 box:w.heap[mb]?=some (.cells #[.pointer (some ⟨g,0,none⟩),vr,vh] 272)
 mem:mb∈ms
 old:∀j∈ms,j<w.heap.size
 tx:∃ao cur,Gm.Tx ⟨b,ms⟩ g ao cur A Z w
 rus:V.Rus wb vr l
 hd:∀W,Below b w W->J.Rd W vh (J.heads (J.begins l) c (c.length - 1))
structure Gm.Ok (l:List K.Rule) (c:List Int):Prop where
 few:l.length<=200
 right:∀r∈l,K.ruleE r=0
 cuts:J.Cuts l c
 heads:c.length - 1<=400
theorem zms (b:Nat)(ms:List Nat)(mb:Nat)(wb w:World)(g:Nat)(vr vh:Value)(l:List K.Rule)(c:List Int)(A Z:List Int)(M:Gm.Mx b ms mb wb w g vr vh l c A Z)(O:Gm.Ok l c)(hz:0<Z.length)(hright:∀x∈A++Z,0<=x/\x<=1114111) :
  Calls prog 213 #[.pointer (some ⟨mb,0,none⟩)] w fun e w'=>e= .returned (.int .i64 (K.which l (A++Z) A.length))/\Below w.heap.size w w':=by
 obtain⟨ao,cur,hT⟩:=M.tx;have hmb:=(qA.1 M.box).1;have hfew:=hT.few;have hbox:=M.box;obtain⟨X,hX⟩:∃X,X=(w.alloc (.cells #[.pointer (some ⟨mb,0,none⟩)] 235)).alloc (.cells #[.int .i64 A.length] 3):=⟨_,rfl⟩;have hXw:Below w.heap.size w X:=by rw[hX];exact((qR w).alloc qN _).alloc (by simp) _
 have hXs:X.heap.size=w.heap.size+2:=by rw[hX];simp
 have hX0:X.heap[w.heap.size]?=some (.cells #[.pointer (some ⟨mb,0,none⟩)] 235):=by
  rw[hX];show (((w.heap.push _).push _))[w.heap.size]?=_;rw[Array.getElem?_push,if_neg (by simp),Array.getElem?_push,if_pos rfl]
 have hX1:X.heap[w.heap.size+1]?=some (.cells #[.int .i64 A.length] 3):=by
  rw[hX];show (((w.heap.push _).push _))[w.heap.size+1]?=_;rw[Array.getElem?_push,if_pos (by simp)]
 have hcur:Calls prog 212 #[.pointer (some ⟨g,0,none⟩)] (w.alloc (.cells #[.pointer (some ⟨mb,0,none⟩)] 235)) fun e w'=>e= .returned (.int .i64 A.length)/\w'=w.alloc (.cells #[.pointer (some ⟨mb,0,none⟩)] 235) :=
  zcz _ g A.length _ _ ((hT.kept fun k hk=>((Below.refl w.heap.size w).alloc qN (.cells #[.pointer (some ⟨mb,0,none⟩)] 235)).block k hk).box)
 have HCur:=qH hcur
 have HKp:Hid (∀W,Below X.heap.size X W->W.cell? ⟨w.heap.size,0,none⟩=some (.pointer (some ⟨mb,0,none⟩))/\W.cell? ⟨mb,2,none⟩=some vh/\W.cell? ⟨mb,0,none⟩=some (.pointer (some ⟨g,0,none⟩))/\W.cell? ⟨w.heap.size+1,0,none⟩=some (.int .i64 A.length)):=fun W hW=>by
  have b1:=K.zae (K.zae hbox hXw) hW;exact⟨K.zah (i:=0) (K.zae hX0 hW) rfl,K.zah (i:=2) b1 rfl,K.zah (i:=0) b1 rfl,K.zah (i:=0) (K.zae hX1 hW) rfl⟩
 obtain⟨x,hx⟩:∃x,x=(A++Z).getD A.length 0:=⟨_,rfl⟩
 have hxr:0<=x/\x<=1114111:=by
  refine hright x ?_;rw[hx];simp[List.getD,List.getElem?_append,hz]
 have HAt:Hid (∀W,Below X.heap.size X W->Calls prog 234 #[.pointer (some ⟨g,0,none⟩),.int .i64 A.length] W fun e w'=>e= .returned (.int .i32 x)/\Below X.heap.size X w'):=fun W hW=>by
  have h1:=zpb W ⟨b,ms⟩ g ao cur A Z ((hT.kept fun k hk=>hXw.block k hk).kept fun k hk=>hW.block k hk) A.length (by omega);rw[<- hx] at h1;refine h1.mono ?_;rintro e w' ⟨h2,q,rfl⟩;exact⟨h2,below_drewN hW _⟩
 have hfo:J.found l x=J.begins l x:=if_pos hxr
 have HFi:Hid (∀W,Below X.heap.size X W->Calls prog 233 #[vh,.int .i32 x] W fun e w'=>∃fo fc,e= .returned (.slice fo (J.begins l x).length fc)/\L.Rd w' (.slice fo (J.begins l x).length fc) .i64 (J.begins l x)/\Below X.heap.size X w'):=fun W hW=>by
  have hbW:Below b w W:=(hXw.trans (hW.mono (by omega))).mono hT.size;refine(zrl W vh l c O.cuts O.right O.few O.heads (M.hd W hbW) x).mono ?_;rintro e w' ⟨v',h1,h2,h3⟩;rw[hfo] at h2;obtain⟨fo,fc,rfl,_⟩:=id h2;exact⟨fo,fc,h1,h2,hW.trans (h3.mono hW.size)⟩
 obtain⟨hvo,hvc,rfl,_⟩:=M.hd w (qR _)
 have HWh:Hid (∀e,Gm.Idx (fun z=>K.matchB ((l[z.toNat]?).getD K.noRule) (A++Z) A.length) (J.begins l x) e->(∃(j i:Nat) (r:K.Rule),(J.begins l x)[j]?=some (i:Int)/\l[i]?=some r/\e= .returned (.int .i64 j)/\K.which l (A++Z) A.length=i)∨(e= .returned (.int .i64 (-1))/\K.which l (A++Z) A.length= -1)):=fun e he=>by
  rw[hx] at he ⊢;exact Gm.zrr O.right he
 have hbl:(J.begins l x).length<=1000000:=by
  have:=J.zey (fun r=>S.memb (K.headS r) x) l 0;have:=O.few;unfold J.begins;omega
 have HIx:Hid (∀W fo fc,Below X.heap.size X W->L.Rd W (.slice fo (J.begins l x).length fc) .i64 (J.begins l x)->Calls prog 235 #[.slice fo (J.begins l x).length fc,.func (.func 236) #[] #[.pointer (some ⟨w.heap.size,0,none⟩),.pointer (some ⟨w.heap.size+1,0,none⟩)]] W fun e w'=>Gm.Idx (fun z=>K.matchB ((l[z.toNat]?).getD K.noRule) (A++Z) A.length) (J.begins l x) e/\L.Rd w' (.slice fo (J.begins l x).length fc) .i64 (J.begins l x)/\Below X.heap.size X w'):=fun W fo fc hW hR=>by
  refine(zmv W _ (J.begins l x) hR (by omega) 236 _ (fun z=>K.matchB ((l[z.toNat]?).getD K.noRule) (A++Z) A.length) (enters_of func236 (by kernel_rfl) rfl) (fun Y z hY hz'=> ?_)).mono fun e w' ⟨h1,h2⟩=>⟨h1,hR.below h2 qN,hW.trans (h2.mono hW.size)⟩
  obtain⟨i,r,hi,_,rfl⟩:=Gm.zdp.1 hz';rw[Nat.zero_add];have hXY:=hW.trans (hY.mono hW.size);have hwY:=hXw.trans (hXY.mono (by omega));have hwb:=M.bel;have hk:=HKp.out Y hXY;have hV:=Gm.Vw.of (K.zah (i:=0) hbox rfl) hT;have h9:=zjs w Y hwY w.heap.size (w.heap.size+1) mb g i vr (.slice hvo (J.heads (J.begins l) c (c.length - 1)).length hvc) l (M.rus.below hwb) (A++Z) hV (by rw[List.length_append];omega) A.length (by rw[List.length_append];omega) r hi (O.right r (List.mem_of_getElem? hi)) hk.1 hk.2.2.2 (K.zah (i:=1) (K.zae hbox hwY) rfl);simp only[Int.toNat_natCast,hi,Option.getD_some];exact h9
 have HXw:=qH hXw;have e0:w.cell? ⟨mb,0,none⟩=some (.pointer (some ⟨g,0,none⟩)):=K.zah (i:=0) hbox rfl;have HE0:=qH <| fun o=>K.zai e0 o
 have e1:=HE0.out (.cells #[.pointer (some ⟨mb,0,none⟩)] 235);have HXX:=qH hX;generalize J.begins l x=bl at HFi HWh HIx hbl;generalize (J.heads (J.begins l) c (c.length - 1)).length=hn at HKp HFi;clear hT hbox hX0 hX1 hcur hX hXw hfo hx hright M O e0 HE0
 go_enter func213,ntmps213
 go_wp2_with fail
 go_at_call 212
 refine HCur.out.mono ?_;rintro e w1 ⟨rfl,rfl⟩;clear e1 HCur
 go_wp2_with fail
 rw[<- HXX.out];have HQ0:Hid (Below X.heap.size X X.drew):=(qR X).drew
 go_cut [4] (fun v4 wx=>∃fo fc,v4= .slice fo bl.length fc/\Hid (L.Rd wx (.slice fo bl.length fc) .i64 bl/\Below X.heap.size X wx))
 case first =>
  go_region_held3 (fun w'=>w'.cell? ⟨w.heap.size,0,none⟩=some (.pointer (some ⟨mb,0,none⟩))/\w'.cell? ⟨mb,2,none⟩=some (.slice hvo hn hvc)/\w'.cell? ⟨mb,0,none⟩=some (.pointer (some ⟨g,0,none⟩))/\w'.cell? ⟨w.heap.size+1,0,none⟩=some (.int .i64 A.length))
   (first | with_reducible exact HKp.out _ HQ0.out | with_reducible exact k2 | with_reducible exact k1 | (go_keep;done))
   (first
    | (have hy:=z1;clear hy;go_at_call 233;refine(HFi.out _ z1).mono ?_;rintro e w2 ⟨fo,fc,rfl,r2,z2⟩;have k2:=HKp.out _ z2)
    | ((fail_if_success (have hy:=z1));go_at_call 234;refine(HAt.out _ HQ0.out).mono ?_;rintro e w1 ⟨rfl,z1⟩;have k1:=HKp.out _ z1)
    | fail)
  all_goals go_wp2
  all_goals go_meet
  all_goals exact⟨fo,fc,rfl,r2,z2⟩
 case rest =>
  obtain⟨fo,fc,rfl,HC⟩:=hcut;have HI2:=HIx.out wc fo fc HC.out.2 HC.out.1
  have HI3:Hid (Calls prog 235 #[.slice fo bl.length fc,.func (.func 236) #[] #[.pointer (some ⟨w.heap.size,0,none⟩),.pointer (some ⟨w.heap.size+1,0,none⟩)]] wc fun e w'=>((∃(j i:Nat),bl[j]?=some (i:Int)/\e= .returned (.int .i64 j)/\K.which l (A++Z) A.length=i)∨(e= .returned (.int .i64 (-1))/\K.which l (A++Z) A.length= -1))/\L.Rd w' (.slice fo bl.length fc) .i64 bl/\Below w.heap.size w w'):=by
   refine HI2.mono ?_;rintro e w' ⟨h1,h2,h3⟩;refine⟨?_,h2,HXw.out.trans (h3.mono (by omega))⟩;rcases HWh.out e h1 with ⟨j,i,r,g1,_,g2,g3⟩ | h
   ·exact .inl ⟨j,i,g1,g2,g3⟩
   ·exact .inr h
  clear HI2 HIx HWh HKp HAt HFi
  go_wp2_with fail
  go_at_call 235
  refine HI3.out.mono ?_;rintro e w3 ⟨h1,r3,b3⟩;have HB3:=qH b3;rcases h1 with ⟨j,i,g1,rfl,hw⟩|⟨rfl,hw⟩
  ·have HW:=qH hw;clear hw;have hjl:=(qL.1 g1).1;obtain⟨ao9,cap9,h9,_,hcs⟩:=r3;cases h9;obtain⟨fb,ff,rfl,hcell⟩:=hcs (by intro h;rw[h] at hjl;simp at hjl);have cj:=hcell j _ g1;clear hcell hcs g1 b3 HI3;go_wp2;go_ret;exact⟨by rw[HW.out];rfl,HB3.out⟩
  ·have HW:=qH hw;clear b3 HI3 r3 hw;go_wp2;go_ret;exact⟨by rw[HW.out];rfl,HB3.out⟩
end
section
open Go.RowKit Go.Shelf
theorem Gm.Room.re {B B':Gm.Bs}{w:World}{ao:Option Addr}{cur:List Int}(h:Gm.Room B w ao cur)(hr:∀r,ao=Option.some ⟨r,0,none⟩->B'.ok r):Gm.Room B' w ao cur:=by
 rcases h with h | ⟨r,h1,_,h3⟩
 ·exact .inl h
 ·exact .inr ⟨r,h1,hr r h1,h3⟩
theorem Gm.Tx.re {B B':Gm.Bs}{g:Nat}{ao:Option Addr}{cur A Z:List Int}{w:World}(h:Gm.Tx B g ao cur A Z w)(hg:B'.ok g)(hr:∀r,ao=some ⟨r,0,none⟩->B'.ok r):Gm.Tx B' g ao cur A Z w :=
 ⟨hg,h.box,h.room.re hr,h.ne,h.fit,h.most,h.few,h.ahead,h.behind⟩
theorem Gm.Mx.below {b:Nat}{ms:List Nat}{mb:Nat}{wb w w':World}{g:Nat}{vr vh:Value}{l:List K.Rule}{c A Z:List Int}(M:Gm.Mx b ms mb wb w g vr vh l c A Z)(h:Below w.heap.size w w'):Gm.Mx b ms mb wb w' g vr vh l c A Z:=by
 obtain⟨ao,cur,hT⟩:=M.tx;have hb:b<=w.heap.size:=hT.size;exact⟨M.base,M.bel.trans (h.mono M.bel.size),K.zae M.box h,M.mem,fun j hj=>Nat.lt_of_lt_of_le (M.old j hj) h.size,⟨ao,cur,hT.kept fun k hk=>h.block k hk⟩,M.rus,fun W hW=>M.hd W ((h.mono hb).trans hW)⟩
theorem Gm.Mx.lt {b:Nat}{ms:List Nat}{mb:Nat}{wb w:World}{g:Nat}{vr vh:Value}{l:List K.Rule}{c A Z:List Int}(M:Gm.Mx b ms mb wb w g vr vh l c A Z):mb<w.heap.size:=(qA.1 M.box).1
theorem Gm.Mx.told {b:Nat}{ms ns:List Nat}{mb:Nat}{wb w w':World}{g:Nat}{vr vh:Value}{l:List K.Rule}{c A Z A' Z':List Int}(M:Gm.Mx b ms mb wb w g vr vh l c A Z)(hm:∀j∈ms,j∈ns)(h:Gm.Told ⟨b,ns⟩ g w A' Z' w'):Gm.Mx b ms mb wb w' g vr vh l c A' Z':=by
 obtain⟨⟨ao,cur,hT⟩,hF⟩:=h;refine⟨M.base,M.bel.trans (hF.1.mono M.base),(hF.2 mb (hm mb M.mem) M.lt).trans M.box,M.mem,fun j hj=>Nat.lt_of_lt_of_le (M.old j hj) hF.size,⟨ao,cur,hT.re ⟨hT.hB.1,fun e=>hT.hB.2 (hm _ e)⟩ fun r hr=> ?_⟩,M.rus,fun W hW=>M.hd W (hF.1.trans hW)⟩;have hk:=hT.room;rcases hk with ⟨h0,_⟩|⟨r',h1,h2,_⟩
 ·rw[h0] at hr;cases hr
 ·rw[h1] at hr;cases hr;exact⟨h2.1,fun e=>h2.2 (hm _ e)⟩
theorem Gm.Fr.less {b:Nat}{ms ns:List Nat}{w w':World}(h:Gm.Fr ⟨b,ns⟩ w w')(hm:∀j∈ms,j∈ns):Gm.Fr ⟨b,ms⟩ w w':=⟨h.1,fun j hj hl=>h.2 j (hm j hj) hl⟩
theorem zo6 (w:World)(B:Gm.Bs)(g:Nat)(ao:Option Addr)(cur A Z:List Int)(h:Gm.Tx B g ao cur A Z w)(k:Nat)(hk:k<=A.length) :
  Calls prog 231 #[.pointer (some ⟨g,0,none⟩),.int .i64 k] w fun e w'=>e= .returned (.int .i64 0)/\Gm.Told B g w (A.take k) (A.drop k++Z) w':=by
 by_cases hlt:k<A.length
 ·obtain⟨r,rfl⟩:=h.room.some (by have:=h.fit;omega);exact zix w B g r cur A Z h k hlt
 ·obtain rfl:k=A.length:=by omega
  have:=ziw w B g ao cur A Z h;rw[List.take_length,List.drop_length,List.nil_append];exact this
theorem zh7 (b:Nat)(ms:List Nat)(mb:Nat)(wb w:World)(g:Nat)(vr vh:Value)(l:List K.Rule)(c:List Int)(A Z:List Int)(M:Gm.Mx b ms mb wb w g vr vh l c A Z)(v:Value)(r:K.Rule)(hr:K.RuIs wb v r)(hE:K.ruleE r=0)(hs:r.source.length<=Z.length) :
  Calls prog 237 #[.pointer (some ⟨mb,0,none⟩),v] w fun e w'=>∃x:Int,e= .returned (.int .i64 x) /\
   ((4000<A.length+(K.restOf r Z).length/\x=4/\Below b w w')∨(¬ 4000<A.length+(K.restOf r Z).length/\x=0/\Gm.Mx b ms mb wb w' g vr vh l c (A++(K.restOf r Z).take r.cursor.toNat) ((K.restOf r Z).drop r.cursor.toNat)/\Gm.Fr ⟨b,ms⟩ w w')):=by
 have hmb:=M.lt;obtain⟨z1,z2,z3,z4,z5,z6,z7,z8⟩:=K.zau hE;obtain⟨bo,bc,so,sc,ao2,ac,tt,tc,rfl,R1,R2,R3,R4,hl4,hcu⟩:=hr;obtain⟨X,hX⟩:∃X,X=w.alloc (.cells #[.bool r.start,.bool r.fin,.slice bo r.before.length bc,.slice so r.source.length sc,.slice ao2 r.after.length ac,.slice tt r.target.length tc,.int .i64 r.cursor] 50):=⟨_,rfl⟩;have hXw:Below w.heap.size w X:=by rw[hX];exact(qR w).alloc qN _
 have hXs:X.heap.size=w.heap.size+1:=by rw[hX];simp
 have hXr:X.heap[w.heap.size]?=some (.cells #[.bool r.start,.bool r.fin,.slice bo r.before.length bc,.slice so r.source.length sc,.slice ao2 r.after.length ac,.slice tt r.target.length tc,.int .i64 r.cursor] 50):=by
  rw[hX];show (w.heap.push _)[w.heap.size]?=_;exact Array.getElem?_push_size
 have MX:=M.below hXw;obtain⟨ao0,cur0,hT0⟩:=M.tx;have hgs:=hT0.box.lt;have hbw:b<=w.heap.size:=hT0.size
 have hT1:Gm.Tx ⟨b,w.heap.size::ms⟩ g ao0 cur0 A Z X:=(hT0.kept fun k hk=>hXw.block k hk).re ⟨hT0.hB.1,fun e=>by
   rcases List.mem_cons.1 e with e | e
   ·omega
   ·exact hT0.hB.2 e⟩ fun q hq=>by
  have h1:=hT0.room.lt q hq;refine⟨h1.1.1,fun e=> ?_⟩;rcases List.mem_cons.1 e with e | e
  ·omega
  ·exact h1.1.2 e
 have HKp:Hid (∀W,Gm.Fr ⟨b,w.heap.size::ms⟩ X W->W.cell? ⟨mb,0,none⟩=some (.pointer (some ⟨g,0,none⟩))/\W.cell? ⟨w.heap.size,3,none⟩=some (.slice so r.source.length sc)/\W.cell? ⟨w.heap.size,5,none⟩=some (.slice tt r.target.length tc)/\W.cell? ⟨w.heap.size,6,none⟩=some (.int .i64 r.cursor)):=fun W hW=>by
  have b1:W.heap[mb]?=_:=(hW.2 mb (List.mem_cons_of_mem _ MX.mem) MX.lt).trans MX.box;have b2:W.heap[w.heap.size]?=_:=(hW.2 w.heap.size (by simp) (by omega)).trans hXr;exact⟨K.zah (i:=0) b1 rfl,K.zah (i:=3) b2 rfl,K.zah (i:=5) b2 rfl,K.zah (i:=6) b2 rfl⟩
 have HCur:=qH <| zcz X g A.length _ _ hT1.box
 have HDel:Hid (∀W,W=X.drew->Calls prog 253 #[.pointer (some ⟨g,0,none⟩),.int .i64 r.source.length] W fun e w'=>e= .returned (.int .i64 0)/\(∃ao cur,Gm.Tx ⟨b,w.heap.size::ms⟩ g ao cur A (Z.drop r.source.length) w')/\Gm.Fr ⟨b,w.heap.size::ms⟩ X w'):=fun W hW=>by
  subst hW;exact(zxu X.drew _ g ao0 cur0 A Z (hT1.drew 1) r.source.length hs).mono fun e w' ⟨h1,h2⟩=>⟨h1,h2.1,(Gm.Fr.refl _ X).drew.trans h2.2⟩
 have hZl:(Z.drop r.source.length).length=Z.length - r.source.length:=List.length_drop;have hro:(K.restOf r Z).length=r.target.length+(Z.length - r.source.length):=by unfold K.restOf;rw[List.length_append,hZl]
 have HV:Hid (∀W,Gm.Fr ⟨b,w.heap.size::ms⟩ X W->L.Rd W (.slice tt r.target.length tc) .i32 r.target):=fun W hW=>by
  have h1:=MX.bel.trans (hW.1.mono M.base);exact R4.below h1 qN
 have HSz:Hid (∀W,Gm.Fr ⟨b,w.heap.size::ms⟩ X W->∀j∈w.heap.size::ms,j<W.heap.size):=fun W hW j hj=>by
  have:=hW.size;rcases List.mem_cons.1 hj with hj | hj
  ·omega
  ·have:=MX.old j hj;omega
 have HMx:Hid (∀W A' Z',(∃ao cur,Gm.Tx ⟨b,w.heap.size::ms⟩ g ao cur A' Z' W)->Gm.Fr ⟨b,w.heap.size::ms⟩ X W->Gm.Mx b ms mb wb W g vr vh l c A' Z'/\Gm.Fr ⟨b,ms⟩ w W):=fun W A' Z' h1 h2=>⟨MX.told (ns:=w.heap.size::ms) (fun j hj=>List.mem_cons_of_mem _ hj) ⟨h1,h2⟩,(Gm.Fr.of_below hXw hbw).trans (h2.less fun j hj=>List.mem_cons_of_mem _ hj)⟩
 have HBl:Hid (∀W,Gm.Fr ⟨b,w.heap.size::ms⟩ X W->Below b w W):=fun W hW=>(hXw.mono hbw).trans hW.1
 have HXX:=qH hX;have HT4:=qH hT0.few;clear hXr MX hT0 hT1 hgs R1 R2 R3 R4 hX hXw M z1 z2 z3 z6 hE;obtain⟨st,fi,be,sou,af,ta,cu⟩:=r;simp only at z4 z5 z7 z8 HKp HDel hro HV HXX hs hl4 hcu hZl;obtain⟨n,rfl⟩:∃n:Nat,cu=n:=⟨cu.toNat,by omega⟩;obtain⟨Rs,hRs⟩:∃Rs,Rs=K.restOf ⟨st,fi,be,sou,af,ta,(n:Int)⟩ Z:=⟨_,rfl⟩;have HRs:Hid (Rs=ta++Z.drop sou.length):=by show _=_;rw[hRs];rfl
 rw[<- hRs] at hro ⊢;simp only[Int.toNat_natCast];clear hRs;obtain⟨k0,k3,k5,k6⟩:=HKp.out X (Gm.Fr.refl _ _)
 go_enter func237,ntmps237
 have m0:=k0;rw[HXX.out] at m0
 go_wp2_with fail
 rw[<- HXX.out];refine HCur.out.mono ?_;rintro e w1 ⟨rfl,rfl⟩;clear m0 HCur
 go_upto_region 2 with fail
 go_cut [6] (fun v6 wx=>v6= .int .i64 0/\Hid ((∃ao cur,Gm.Tx ⟨b,w.heap.size::ms⟩ g ao cur A (Z.drop sou.length) wx)/\Gm.Fr ⟨b,w.heap.size::ms⟩ w1 wx))
 case first =>
  go_region_with (go_at_call 253;refine(HDel.out _ rfl).mono ?_;rintro e w2 ⟨rfl,s2⟩)
  all_goals go_wp2
  all_goals go_meet
  all_goals exact⟨rfl,s2⟩
 case rest =>
  obtain⟨rfl,HS⟩:=hcut;obtain⟨c0,c3,c5,c6⟩:=HKp.out wc HS.out.2;clear HDel k0 k3 k5 k6
  by_cases hbig:4000<A.length+Rs.length
  ·have HPut:Hid (∀W,W=wc.drew->Calls prog 230 #[.pointer (some ⟨g,0,none⟩),.slice tt ta.length tc] W fun e w'=>e= .returned (.int .i64 4)/\Below b w w'):=fun W hW=>by
    subst hW;obtain⟨⟨ao,cur,hT⟩,hF⟩:=HS.out;refine(zwe wc.drew _ g ao cur A (Z.drop sou.length) (hT.drew 1) tt ta.length tc (by unfold maxLen;omega) (by rw[hZl];omega)).mono ?_;rintro e w' ⟨h1,h2⟩;exact⟨h1,HBl.out w' (hF.drew.trans h2.2)⟩
   clear HS
   go_upto_region 5 with fail
   go_cut [7] (fun v7 wx=>v7= .int .i64 4/\Hid (Below b w wx))
   case first =>
    go_region_with (go_at_call 230;refine(HPut.out _ rfl).mono ?_;rintro e w2 ⟨rfl,s2⟩)
    all_goals go_wp2
    all_goals go_meet
    all_goals exact⟨rfl,s2⟩
   case rest =>
    obtain⟨rfl,HE⟩:=hcut;go_wp2;go_ret;exact⟨4,rfl,.inl ⟨hbig,rfl,HE.out⟩⟩
  ·have HPut:Hid (∀W,W=wc.drew->Calls prog 230 #[.pointer (some ⟨g,0,none⟩),.slice tt ta.length tc] W fun e w'=>e= .returned (.int .i64 0)/\(∃ao cur,Gm.Tx ⟨b,w.heap.size::ms⟩ g ao cur (A++ta) (Z.drop sou.length) w')/\Gm.Fr ⟨b,w.heap.size::ms⟩ w1 w'):=fun W hW=>by
    subst hW;obtain⟨⟨ao,cur,hT⟩,hF⟩:=HS.out;refine(zvk wc.drew _ g ao cur A (Z.drop sou.length) (hT.drew 1) _ ta (fun w' hw'=>HV.out w' (hF.drew.trans hw')) (by rw[hZl];omega) (HSz.out wc hF)).mono ?_;rintro e w' ⟨h1,h2⟩;exact⟨h1,h2.1,hF.drew.trans h2.2⟩
   clear HS
   go_upto_region 5 with fail
   go_cut [7] (fun v7 wx=>v7= .int .i64 0/\Hid ((∃ao cur,Gm.Tx ⟨b,w.heap.size::ms⟩ g ao cur (A++ta) (Z.drop sou.length) wx)/\Gm.Fr ⟨b,w.heap.size::ms⟩ w1 wx))
   case first =>
    go_region_with (go_at_call 230;refine(HPut.out _ rfl).mono ?_;rintro e w2 ⟨rfl,s2⟩)
    all_goals go_wp2
    all_goals go_meet
    all_goals exact⟨rfl,s2⟩
   case rest =>
    obtain⟨rfl,HS⟩:=hcut;clear c0 c3 c5 c6 HPut;obtain⟨c0,c3,c5,c6⟩:=HKp.out wc HS.out.2;obtain⟨p,hp⟩:∃p:Nat,p=A.length+n:=⟨_,rfl⟩;have hpi:(A.length:Int)+n=p:=by omega
    have HMv:Hid (∀W,W=wc.drew->Calls prog 231 #[.pointer (some ⟨g,0,none⟩),.int .i64 (IntKind.i64.wrap ((A.length:Int)+(n:Int)))] W fun e w'=>e= .returned (.int .i64 0)/\Gm.Mx b ms mb wb w' g vr vh l c (A++Rs.take n) (Rs.drop n)/\Gm.Fr ⟨b,ms⟩ w w'):=fun W hW=>by
     subst hW;rw[show IntKind.i64.wrap ((A.length:Int)+(n:Int))=(p:Int) by rw[IntKind.wrap_i64];omega];obtain⟨⟨ao,cur,hT⟩,hF⟩:=HS.out;refine(zo6 wc.drew _ g ao cur (A++ta) (Z.drop sou.length) (hT.drew 1) p (by rw[List.length_append];omega)).mono ?_;rintro e w' ⟨h1,h2⟩;have e1:(A++ta).take p=A++Rs.take n:=by rw[hp,HRs.out,List.take_append,List.take_append_of_le_length (by omega),List.take_of_length_le (by omega),show A.length+n - A.length=n by omega]
     have e2:(A++ta).drop p++Z.drop sou.length=Rs.drop n:=by rw[hp,HRs.out,List.drop_append,List.drop_of_length_le (by omega),List.nil_append,show A.length+n - A.length=n by omega,List.drop_append_of_le_length (by omega)]
     rw[e1,e2] at h2;exact⟨h1,HMx.out w' _ _ h2.1 (hF.drew.trans h2.2)⟩
    have hA4:A.length<=4000:=by have:=HT4.out;omega
    have hn4:n<=20:=by omega
    clear HS hp hpi
    go_upto_region 8 with fail
    go_cut [4] (fun v4 wx=>v4= .int .i64 0/\Hid (Gm.Mx b ms mb wb wx g vr vh l c (A++Rs.take n) (Rs.drop n)/\Gm.Fr ⟨b,ms⟩ w wx))
    case first =>
     go_region_with (go_at_call 231;refine(HMv.out _ rfl).mono ?_;rintro e w2 ⟨rfl,s2⟩)
     all_goals go_wp2
     all_goals go_meet
     all_goals exact⟨rfl,s2⟩
    case rest =>
     obtain⟨rfl,HE⟩:=hcut;go_wp2;go_ret;exact⟨0,rfl,.inr ⟨hbig,rfl,HE.out⟩⟩
end
section
open Go.RowKit Go.Shelf
theorem Gm.right1 (w:World)(B:Gm.Bs)(g:Nat)(ao:Option Addr)(cur A Z:List Int)(h:Gm.Tx B g ao cur A Z w)(hz:0<Z.length) :
  Calls prog 231 #[.pointer (some ⟨g,0,none⟩),.int .i64 ((A.length+1:Nat):Int)] w fun e w'=>e= .returned (.int .i64 0)/\Gm.Told B g w (A++Z.take 1) (Z.drop 1) w':=by
 obtain⟨r,rfl⟩:=h.room.some (by have:=h.fit;omega);exact zgs w B g r cur A Z h (A.length+1) 1 rfl (by omega) (by omega)
theorem zsw (b:Nat)(ms:List Nat)(mb:Nat)(wb w:World)(g:Nat)(vr vh:Value)(l:List K.Rule)(c:List Int)(A Z:List Int)(M:Gm.Mx b ms mb wb w g vr vh l c A Z)(hz:0<Z.length) :
  Calls prog 214 #[.pointer (some ⟨mb,0,none⟩),.int .i64 (-1)] w fun e w'=>e= .returned (.int .i64 0)/\Gm.Mx b ms mb wb w' g vr vh l c (A++Z.take 1) (Z.drop 1)/\Gm.Fr ⟨b,ms⟩ w w':=by
 obtain⟨ao,cur,hT⟩:=M.tx;have hf:=hT.few;have k0:w.cell? ⟨mb,0,none⟩=some (.pointer (some ⟨g,0,none⟩)):=K.zah (i:=0) M.box rfl
 have HCur:Hid (∀W,W=w.drew->Calls prog 212 #[.pointer (some ⟨g,0,none⟩)] W fun e w'=>e= .returned (.int .i64 A.length)/\w'=W):=fun W hW=>by
  subst hW;exact zcz w.drew g A.length _ _ (hT.drew 1).box
 have HMv:Hid (∀W,W=w.drew->Calls prog 231 #[.pointer (some ⟨g,0,none⟩),.int .i64 (IntKind.i64.wrap ((A.length:Int)+1))] W fun e w'=>e= .returned (.int .i64 0)/\Gm.Mx b ms mb wb w' g vr vh l c (A++Z.take 1) (Z.drop 1)/\Gm.Fr ⟨b,ms⟩ w w'):=fun W hW=>by
  subst hW;rw[show IntKind.i64.wrap ((A.length:Int)+1)=((A.length+1:Nat):Int) by rw[IntKind.wrap_i64];omega];refine(Gm.right1 w.drew _ g ao cur A Z (hT.drew 1) hz).mono ?_;rintro e w' ⟨h1,h2⟩;exact⟨h1,M.told (ns:=ms) (fun j hj=>hj) ⟨h2.1,(Gm.Fr.refl _ w).drew.trans h2.2⟩,(Gm.Fr.refl _ w).drew.trans h2.2⟩
 clear hT M
 go_enter func214,ntmps214
 go_wp2_with fail
 go_region_with (first
  | (go_at_call 212;refine(HCur.out _ rfl).mono ?_;rintro e w1 ⟨rfl,rfl⟩)
  | (go_at_call 231;refine(HMv.out _ rfl).mono ?_;rintro e w2 ⟨rfl,s2⟩))
 all_goals go_wp2
 all_goals go_ret
 all_goals exact⟨rfl,s2⟩
theorem zo3 (b:Nat)(ms:List Nat)(mb:Nat)(wb w:World)(g:Nat)(vr vh:Value)(l:List K.Rule)(c:List Int)(A Z:List Int)(M:Gm.Mx b ms mb wb w g vr vh l c A Z)(k:Nat)(r:K.Rule)(hk:l[k]?=some r)(hE:K.ruleE r=0)(hm:K.matchB r (A++Z) A.length=true) :
  Calls prog 214 #[.pointer (some ⟨mb,0,none⟩),.int .i64 k] w fun e w'=>∃x:Int,e= .returned (.int .i64 x) /\
   ((4000<A.length+(K.restOf r Z).length/\x=4/\Below b w w')∨(¬ 4000<A.length+(K.restOf r Z).length/\x=0/\Gm.Mx b ms mb wb w' g vr vh l c (A++(K.restOf r Z).take r.cursor.toNat) ((K.restOf r Z).drop r.cursor.toNat)/\Gm.Fr ⟨b,ms⟩ w w')):=by
 have hs:r.source.length<=Z.length:=by
  refine Nat.le_of_not_lt fun h=> ?_
  have:=K.zlx (r:=r) (t:=A++Z) (at_:=A.length) (K.zau hE).2.2.2.1 (.inr (.inl (by rw[List.length_append];omega)));rw[this] at hm;cases hm
 have hwb:=M.bel;have hkl:=(qL.1 hk).1;have hlf:=M.rus.few;have hRus:=M.rus;obtain⟨ao,cap,rfl⟩:=M.rus.len;obtain⟨ba,oa,bo,bc,so,sc,ao2,ac,tt,tc,rfl,a0,a1,a2,a3,a4,a5,a6,hP⟩:=K.Rus.rule hRus hk;have lift:∀b o x,wb.cell? ⟨b,o,none⟩=some x->w.cell? ⟨b,o,none⟩=some x:=fun b o x h=>by rw[(L.bcell hwb).1 b o (L.block_lt h)];exact h
 replace a0:=lift _ _ _ a0
 replace a1:=lift _ _ _ a1
 replace a2:=lift _ _ _ a2
 replace a3:=lift _ _ _ a3
 replace a4:=lift _ _ _ a4
 replace a5:=lift _ _ _ a5
 replace a6:=lift _ _ _ a6
 have k1:w.cell? ⟨mb,1,none⟩=some (.slice (some ⟨ba,oa,none⟩) l.length cap):=K.zah (i:=1) M.box rfl;have HRp:=zh7 b ms mb wb w g _ vh l c A Z M _ r hP hE hs
 have HRP:Hid (Calls prog 237 #[.pointer (some ⟨mb,0,none⟩),.agg #[.bool r.start,.bool r.fin,.slice bo r.before.length bc,.slice so r.source.length sc,.slice ao2 r.after.length ac,.slice tt r.target.length tc,.int .i64 r.cursor]] w fun e w'=>∃x:Int,e= .returned (.int .i64 x) /\
   ((4000<A.length+(K.restOf r Z).length/\x=4/\Below b w w')∨(¬ 4000<A.length+(K.restOf r Z).length/\x=0/\Gm.Mx b ms mb wb w' g (.slice (some ⟨ba,oa,none⟩) l.length cap) vh l c (A++(K.restOf r Z).take r.cursor.toNat) ((K.restOf r Z).drop r.cursor.toNat)/\Gm.Fr ⟨b,ms⟩ w w'))):=HRp
 clear HRp hP lift hRus hwb hk hE hm hs M;obtain⟨st,fi,be,sou,af,ta,cu⟩:=r;simp only at a0 a1 a2 a3 a4 a5 a6 HRP
 go_enter func214,ntmps214
 go_wp2_with fail
 go_at_call 237
 refine HRP.out.mono ?_;rintro e w1 ⟨x,rfl,h1⟩;have H1:Hid _:=h1;clear h1;go_wp2;go_ret;exact⟨x,rfl,H1.out⟩
end
section
open Go.RowKit Go.Shelf
theorem Gm.Mx.box1 {b:Nat}{ms:List Nat}{mb:Nat}{wb w:World}{g:Nat}{vr vh:Value}{l:List K.Rule}{c A Z:List Int}(M:Gm.Mx b ms mb wb w g vr vh l c A Z)(o:Obj):Gm.Mx b (w.heap.size::ms) mb wb (w.alloc o) g vr vh l c A Z:=by
  have M2:=M.below ((qR w).alloc qN o);obtain⟨ao,cur,hT⟩:=M.tx;have hgs:=hT.box.lt;refine⟨M2.base,M2.bel,M2.box,List.mem_cons_of_mem _ M.mem,fun j hj=> ?_,⟨ao,cur,(hT.kept fun k hk=>((Below.refl w.heap.size w).alloc qN o).block k hk).re ⟨hT.hB.1,fun e=> ?_⟩ fun q hq=> ?_⟩,M2.rus,M2.hd⟩
  · rcases List.mem_cons.1 hj with rfl | hj
    · simp
    · have:=M.old j hj;simp;omega
  · rcases List.mem_cons.1 e with e | e
    · omega
    · exact hT.hB.2 e
  · have h1:=hT.room.lt q hq
    refine⟨h1.1.1,fun e=> ?_⟩;rcases List.mem_cons.1 e with e | e
    · omega
    · exact h1.1.2 e
theorem Gm.Mx.less {b:Nat}{ms ns:List Nat}{mb:Nat}{wb w:World}{g:Nat}{vr vh:Value}{l:List K.Rule}{c A Z:List Int}(M:Gm.Mx b ns mb wb w g vr vh l c A Z)(hm:mb∈ms)(hs:∀j∈ms,j∈ns):Gm.Mx b ms mb wb w g vr vh l c A Z:=by
  obtain⟨ao,cur,hT⟩:=M.tx;refine⟨M.base,M.bel,M.box,hm,fun j hj=>M.old j (hs j hj),⟨ao,cur,hT.re ⟨hT.hB.1,fun e=>hT.hB.2 (hs _ e)⟩ fun q hq=> ?_⟩,M.rus,M.hd⟩;have h1:=hT.room.lt q hq;exact⟨h1.1.1,fun e=>h1.1.2 (hs _ e)⟩
theorem zo7 (w:World)(n:Nat)(hn:n<=4000):Calls prog 44 #[.int .i64 (n:Int)] w fun e w'=>e= .returned (.int .i64 (8*(n:Int)+40))/\w'=w:=by
  have e1:IntKind.i64.wrap (8*(n:Int))=8*(n:Int):=by rw[IntKind.wrap_i64];omega
  have e2:IntKind.i64.wrap (8*(n:Int)+40)=8*(n:Int)+40:=by rw[IntKind.wrap_i64];omega
  go_enter func44,ntmps44
  go_wp2;go_ret
  exact⟨by simp[e1,e2],rfl⟩
theorem Gm.zj3 {l:List Int}(h:K.allR l=true):∀x∈l,0<=x/\x<=1114111:=fun x hx=>by
  have:=List.all_eq_true.1 h x hx;unfold M.right at this;simp at this;omega
theorem Gm.zc2 {a b:List Int}:K.allR (a++b)=true↔K.allR a=true/\K.allR b=true:=by simp[K.allR]
theorem Gm.zc1 {a b:List Int}(h:K.allR a=true)(hs:∀x∈b,x∈a):K.allR b=true:=List.all_eq_true.2 fun x hx=>List.all_eq_true.1 h x (hs x hx)
theorem zo4 (b:Nat)(ms:List Nat)(mb:Nat)(wb w:World)(g:Nat)(vr vh:Value)(l:List K.Rule)(c:List Int)(A Z:List Int)(M:Gm.Mx b ms mb wb w g vr vh l c A Z)(O:Gm.Ok l c)(hz:0<Z.length)(hR:K.allR (A++Z)=true) :
    Calls prog 214 #[.pointer (some ⟨mb,0,none⟩),.int .i64 (K.which l (A++Z) A.length)] w fun e w'=>∃x:Int,e= .returned (.int .i64 x) /\
      ((x=4/\Below b w w'/\∀left s p,K.play l (left+1) A Z s p=(4,[],0,0)) ∨
       (x=0/\∃A' Z',Gm.Mx b ms mb wb w' g vr vh l c A' Z'/\Gm.Fr ⟨b,ms⟩ w w'/\K.allR (A'++Z')=true/\∀left s p,K.play l (left+1) A Z s p=K.play l left A' Z' (s+1) (p+if K.which l (A++Z) A.length= -1 then 0 else 1))):=by
  have hzn:¬Z.length=0:=by omega
  rcases K.zg3 (l:=l) (t:=A++Z) (k:=(A.length:Int)) with hw | ⟨j,r,hj,hm,hw⟩
  · have h:=zsw b ms mb wb w g vr vh l c A Z M hz
    rw[hw];refine h.mono ?_;rintro e w' ⟨rfl,h1,h2⟩;refine⟨0,rfl,.inr ⟨rfl,_,_,h1,h2,?_,fun left s p=> ?_⟩⟩
    · rw[List.append_assoc,List.take_append_drop];exact hR
    · rw[K.zwi hzn hw,if_pos rfl,Int.add_zero]
  · have h:=zo3 b ms mb wb w g vr vh l c A Z M j r hj (O.right r (List.mem_of_getElem? hj)) hm
    rw[hw];refine h.mono ?_;rintro e w' ⟨x,rfl,⟨h1,rfl,h2⟩|⟨h1,rfl,h2,h3⟩⟩
    · exact⟨4,rfl,.inl ⟨rfl,h2,fun left s p=>K.zqi hzn hw hj h1⟩⟩
    · refine⟨0,rfl,.inr ⟨rfl,_,_,h2,h3,?_,fun left s p=> ?_⟩⟩
      · rw[List.append_assoc,List.take_append_drop]
        obtain⟨g1,g2⟩:=Gm.zc2.1 hR;refine Gm.zc2.2 ⟨g1,Gm.zc2.2 ⟨(K.zau (O.right r (List.mem_of_getElem? hj))).2.2.2.2.2.1,Gm.zc1 g2 fun x hx=>List.mem_of_mem_drop hx⟩⟩
      · rw[K.zts hzn hw hj h1,if_neg (by omega)]
end
section
open Go.RowKit Go.Shelf
theorem Gm.Mx.len {b:Nat}{ms:List Nat}{mb:Nat}{wb w:World}{g:Nat}{vr vh:Value}{l:List K.Rule}{c A Z:List Int}(M:Gm.Mx b ms mb wb w g vr vh l c A Z)(q:Nat):Calls prog 211 #[.pointer (some ⟨g,0,none⟩)] (w.drewN q) fun e w'=>e= .returned (.int .i64 (A.length+Z.length:Nat))/\∃q',w'=(w.drewN q).drewN q':=by
  obtain⟨ao,cur,hT⟩:=M.tx;have hf:=hT.fit;refine(zcn (w.drewN q) g ao cur.length A.length (cur.length - Z.length) hT.box hT.most (by omega) (by omega)).mono ?_;rintro e w' ⟨rfl,h⟩;exact⟨by rw[show cur.length - (cur.length - Z.length)=Z.length by omega],h⟩
theorem Gm.Mx.cur {b:Nat}{ms:List Nat}{mb:Nat}{wb w:World}{g:Nat}{vr vh:Value}{l:List K.Rule}{c A Z:List Int}(M:Gm.Mx b ms mb wb w g vr vh l c A Z)(q:Nat):Calls prog 212 #[.pointer (some ⟨g,0,none⟩)] (w.drewN q) fun e w'=>e= .returned (.int .i64 A.length)/\w'=w.drewN q:=by
  obtain⟨ao,cur,hT⟩:=M.tx;exact zcz (w.drewN q) g A.length _ _ hT.box
theorem Gm.Mx.drewN {b:Nat}{ms:List Nat}{mb:Nat}{wb w:World}{g:Nat}{vr vh:Value}{l:List K.Rule}{c A Z:List Int}(M:Gm.Mx b ms mb wb w g vr vh l c A Z)(q:Nat):Gm.Mx b ms mb wb (w.drewN q) g vr vh l c A Z:=M.below (below_drewN (qR w) q)
theorem Gm.Mx.top {b:Nat}{ms:List Nat}{mb:Nat}{wb w:World}{g:Nat}{vr vh:Value}{l:List K.Rule}{c A Z:List Int}(M:Gm.Mx b ms mb wb w g vr vh l c A Z):b<=w.heap.size:=by
  obtain⟨ao,cur,h⟩:=M.tx;have h1:b<=g:=h.hB.1;have h2:=h.box.lt;omega
theorem zo5 (b mb:Nat)(wb w:World)(g:Nat)(vr vh:Value)(l:List K.Rule)(c t:List Int)(M:Gm.Mx b [mb] mb wb w g vr vh l c [] t)(O:Gm.Ok l c)(hR:K.allR t=true)
    (T:World->Int->Int->Prop) (hT0:T w 0 0) (hTb:∀W W' s p,T W s p->Below b W W'->T W' s p)
    (ft:Nat) (ct:Array Value) (eg:∀args w,(callFunc ft args).run prog w= .ok (.enter ft args) w)
    (hf:∀W A Z (s p at_ k:Int),Gm.Mx b [mb] mb wb W g vr vh l c A Z->T W s p->0<=p->p<=s->s<8*t.length+40->(k= -1∨0<=k)->Calls prog ft (#[.agg #[.int .i64 at_,.int .i64 k]]++ct) W fun e w'=>e= .returned (.tuple #[])/\Gm.Mx b [mb] mb wb w' g vr vh l c A Z/\T w' (s+1) (p+if k= -1 then 0 else 1))
    (o1:Int) (o2:List Int) (o3 o4:Int) (hO:K.play l (8*t.length+40) [] t 0 0=(o1,o2,o3,o4)) :
    Calls prog 190 #[.pointer (some ⟨mb,0,none⟩),.func (.func ft) #[] ct] w fun e w'=>e= .returned (.int .i64 o1)/\Below wb.heap.size wb w'/\(∃s p,T w' s p)/\(o1=0->Gm.Mx b [mb] mb wb w' g vr vh l c o2 []/\T w' o3 o4):=by
  have ht:t.length<=4000:=by
    obtain⟨_,_,h⟩:=M.tx;simpa using h.few
  have HM:=qH M;have hbw:=M.top;have HOk:=qH O;have HR:Hid (K.allR ([]++t)=true):=hR;have HT:=qH hT0;have HTb:=qH hTb;have HF:=qH hf;have HO:=qH hO;have k0:w.cell? ⟨mb,0,none⟩=some (.pointer (some ⟨g,0,none⟩)):=K.zah (i:=0) M.box rfl;have HL:=M.len 0
  have HL0:Hid (Calls prog 211 #[.pointer (some ⟨g,0,none⟩)] w fun e w'=>e= .returned (.int .i64 t.length)/\∃q',w'=w.drewN q'):=by
    simp only[List.length_nil,Nat.zero_add] at HL;exact HL
  clear M O hR hT0 hTb hf hO HL
  go_enter func190,ntmps190
  go_wp2_with fail
  go_at_call 211
  refine HL0.out.mono ?_;rintro e w1 ⟨rfl,q,rfl⟩;have HM1:=qH <| HM.out.drewN q;have HT1:=qH <| HTb.out _ _ _ _ HT.out (below_drewN (qR w) q);have hbw1:b<=(w.drewN q).heap.size:=hbw;generalize w.drewN q=w0 at *;clear HM HT HL0 k0 hbw
  go_wp2_with (go_at_call 44;refine(zo7 _ t.length ht).mono ?_;rintro e wq ⟨rfl,rfl⟩)
  go_loopw [5] (fun i5 wr=>∃(left:Nat) (A Z:List Int) (s p:Int),i5= .int .i64 left/\0<=p/\p<=s/\s+left=8*t.length+40/\Hid (Gm.Mx b [mb] mb wb wr g vr vh l c A Z)/\Hid (T wr s p)/\Hid (K.allR (A++Z)=true)/\Hid (K.play l left A Z s p=(o1,o2,o3,o4))/\b<=wr.heap.size) (fun i5 _=>(RowKit.intOf i5).toNat)
  case atStart=>exact⟨8*t.length+40,[],t,0,0,by go_num,by omega,by omega,by omega,HM1,HT1,HR,HO,hbw1⟩
  case round =>
    obtain⟨left,A,Z,s,p,rfl,hp0,hps,hsl,HMr,HTr,HRr,HPr,hbr⟩:=hrel;have k0:wr.cell? ⟨mb,0,none⟩=some (.pointer (some ⟨g,0,none⟩)):=K.zah (i:=0) HMr.out.box rfl
    have hlen:A.length+Z.length<=4000:=by
      obtain⟨_,_,h⟩:=HMr.out.tx;exact h.few
    by_cases hz:Z.length=0
    · have hp:=HPr.out
      rw[K.zlr hz] at hp;simp only[Prod.mk.injEq] at hp;obtain⟨rfl,rfl,rfl,rfl⟩:=hp;have hzn:=List.eq_nil_of_length_eq_zero hz;subst hzn;have HQ:Hid (∀q,Calls prog 211 #[.pointer (some ⟨g,0,none⟩)] (wr.drewN q) fun e w'=>e= .returned (.int .i64 A.length)/\∃q',w'=(wr.drewN q).drewN q'):=fun q=>HMr.out.len q
      have HC:=qH <| fun q=>HMr.out.cur q
      clear HPr HRr HF HO HR HM1 HT1
      go_wp2_with fail
      go_quiet (first | (go_at_call 211;exact Calls.quiet_of (HQ.out _)) | (go_at_call 212;exact Calls.quiet_of_same (HC.out _)))
      go_wp2;go_ret
      exact⟨rfl,(HMr.out.drewN nq).bel,⟨_,_,HTb.out _ _ _ _ HTr.out (below_drewN (qR wr) nq)⟩,HMr.out.drewN nq,HTb.out _ _ _ _ HTr.out (below_drewN (qR wr) nq)⟩
    · obtain⟨N,hN⟩:∃N,N=A.length+Z.length:=⟨_,rfl⟩
      have HQ:Hid (∀q,Calls prog 211 #[.pointer (some ⟨g,0,none⟩)] (wr.drewN q) fun e w'=>e= .returned (.int .i64 N)/\∃q',w'=(wr.drewN q).drewN q'):=fun q=>by rw[hN];exact HMr.out.len q
      have HC:=qH <| fun q=>HMr.out.cur q
      have hlt:(A.length:Int)<N:=by omega
      clear HO HR HM1 HT1
      go_wp2_with fail
      go_quiet (first | (go_at_call 211;exact Calls.quiet_of (HQ.out _)) | (go_at_call 212;exact Calls.quiet_of_same (HC.out _)))
      have HMq:=qH <| HMr.out.drewN nq;have HTq:=qH <| HTb.out _ _ _ _ HTr.out (below_drewN (qR wr) nq);have hbq:b<=(wr.drewN nq).heap.size:=hbr;clear HQ HC k0 HMr HTr hbr;generalize wr.drewN nq=W at *;have k0:W.cell? ⟨mb,0,none⟩=some (.pointer (some ⟨g,0,none⟩)):=K.zah (i:=0) HMq.out.box rfl;cases left with
      | zero =>
        have hp:=HPr.out;rw[K.ztt hz] at hp;simp only[Prod.mk.injEq] at hp;obtain⟨rfl,rfl,rfl,rfl⟩:=hp;go_wp2;go_ret;exact⟨rfl,HMq.out.bel,⟨s,p,HTq.out⟩,fun h=>absurd h (by decide)⟩
      | succ left =>
        have hne:¬((left+1:Nat):Int)=0:=by omega
        have HCu:Hid (Calls prog 212 #[.pointer (some ⟨g,0,none⟩)] W fun e w'=>e= .returned (.int .i64 A.length)/\w'=W):=HMq.out.cur 0;have HFi:=qH <| zms b [mb] mb wb W g vr vh l c A Z HMq.out HOk.out (by omega) (Gm.zj3 HRr.out)
        have HSt:Hid (∀W2 o,Below W.heap.size W W2->Calls prog 214 #[.pointer (some ⟨mb,0,none⟩),.int .i64 (K.which l (A++Z) A.length)] (W2.alloc o) fun e w'=>∃x:Int,e= .returned (.int .i64 x) /\
      ((x=4/\Below wb.heap.size wb w'/\T w' s p/\o1=4) ∨
       (x=0/\w'.heap[W2.heap.size]?=some o/\b<=w'.heap.size/\∃A' Z',Gm.Mx b [mb] mb wb w' g vr vh l c A' Z'/\T w' s p/\K.allR (A'++Z')=true/\K.play l left A' Z' (s+1) (p+if K.which l (A++Z) A.length= -1 then 0 else 1)=(o1,o2,o3,o4)))):=fun W2 o hW2=>by
          have hM2:=(HMq.out.below hW2).box1 o;have hb2:=hW2.alloc (hW2.size) o;have hs2:=hb2.size;refine(zo4 b _ mb wb _ g vr vh l c A Z hM2 HOk.out (by omega) HRr.out).mono ?_;rintro e w' ⟨x,rfl,⟨rfl,h1,h2⟩|⟨rfl,A',Z',h1,h2,h3,h4⟩⟩
          · have hp:=HPr.out
            rw[h2] at hp;simp only[Prod.mk.injEq] at hp;exact⟨4,rfl,.inl ⟨rfl,hM2.bel.trans (h1.mono hM2.base),HTb.out _ _ _ _ HTq.out ((hb2.mono hbq).trans h1),hp.1.symm⟩⟩
          · refine⟨0,rfl,.inr ⟨rfl,?_,by have:=h2.size;omega,A',Z',h1.less (by simp) (by simp),HTb.out _ _ _ _ HTq.out ((hb2.mono hbq).trans h2.1),h3,?_⟩⟩
            · rw[h2.2 _ (by simp) (by simp)];exact heap_alloc_new W2 o
            · rw[<- h4];exact HPr.out
        have hkk:K.which l (A++Z) A.length= -1∨0<=K.which l (A++Z) A.length:=by
          rcases K.zg3 (l:=l) (t:=A++Z) (k:=(A.length:Int)) with h | ⟨j,r,_,_,h⟩
          · exact .inl h
          · exact .inr (by rw[h];omega)
        generalize K.which l (A++Z) A.length=kk at *;clear HMq HRr HTq HPr
        go_wp2_with fail
        go_at_call 212
        refine HCu.out.mono ?_;rintro e w1 ⟨rfl,rfl⟩
        go_wp2_with fail
        go_at_call 213
        refine HFi.out.mono ?_;rintro e w2 ⟨rfl,hw2⟩;have HB2:=qH hw2;clear hw2 k0 HCu HFi
        go_wp2_with fail
        refine(HSt.out w2 _ HB2.out).mono ?_;rintro e w3 ⟨x,rfl,⟨rfl,h1,h1t,rfl⟩|⟨rfl,h1,h2,A',Z',h3,h4,h5,h6⟩⟩
        · have H1:Hid (Below wb.heap.size wb w3/\T w3 s p):=⟨h1,h1t⟩
          clear h1 h1t HSt HB2 HF;go_wp2;go_ret;exact⟨rfl,H1.out.1,⟨s,p,H1.out.2⟩,fun h=>absurd h (by decide)⟩
        · have d0:w3.cell? ⟨w2.heap.size,0,none⟩=some (.int .i64 A.length):=K.zah (i:=0) h1 rfl
          have d1:w3.cell? ⟨w2.heap.size,1,none⟩=some (.int .i64 kk):=K.zah (i:=1) h1 rfl;have HFo:=HF.out w3 A' Z' s p A.length kk h3 h4 hp0 hps (by omega) hkk;have HFo2:=qH HFo;have H5:=qH h5;have H6:=qH h6;clear h1 h2 h3 h4 h5 h6 HFo HSt HB2 HF
          go_wp2_with fail
          refine HFo2.out.mono ?_;rintro e w4 ⟨rfl,g1,g2⟩;have G1:=qH g1;have G2:=qH g2;clear g1 g2 HFo2 d0 d1;go_wp2
          go_roundw
          case rel =>
            refine⟨left,A',Z',s+1,_,by go_num,?_,?_,by omega,G1,G2,H5,H6,?_⟩
            · split <;> omega
            · split <;> omega
            · exact G1.out.top
          case measure=>simp[RowKit.intOf]
