import Derived.Test.YtcadaallpiekiaaGreatDoorXMove
import Derived.Test.YtcadaallpiekiaaGreatDoorJHeads
set_option maxHeartbeats 0
set_option maxRecDepth 20000
set_option linter.unusedSimpArgs false
set_option linter.unusedVariables false
namespace Go.Proofs.YtcadaallpiekiaaGreatDoor
open Go.Proofs.Tryz
section
open Go.RowKit
attribute [local go_sem ↓] Go.wp_at_zero Go.wp_at_succ
namespace Gm
def Wide (B:Gm.Bs) (g:Nat) (w:World) (A Z:List Int) (n:Nat) (w':World):Prop:=(∃ao cur,Tx B g ao cur A Z w'/\A.length+n+Z.length<=cur.length)/\Gm.Fr B w w'
theorem zl1 (w:World)(n:Nat)(hn:n<=8000):∃W,(∀kl kc,(Instr.makeSlice 42 (.int kl (n:Int)) (.int kc (n:Int))).run prog w=.ok (.slice (some ⟨w.heap.size,0,none⟩) n n) W)/\W.heap[w.heap.size]?=some (.cells ((List.replicate n (0:Int)).map (Value.int .i32)).toArray 21 (0,0))/\Bl w W/\W.heap.size=w.heap.size+1:=by
 obtain⟨i0,hi,hz0,hz1,hz2⟩:=info_parts Tryz.infoI32;have hr:=fun kl kc=>run_make (P:=prog) w 42 21 i0 (.int .i32 0) underlying42 hi hz0 kl kc n n (by omega) (Int.le_refl _) (by rw[hz2];omega) (by omega)
 simp only[Int.toNat_natCast] at hr;refine⟨_,hr,?_,(qR w).alloc qN _,by simp⟩;have h1:=Go.heap_alloc_new w (.cells (madeCells (Value.int .i32 0).cells (n*i0.size)) 21);rw[h1,hz1,Nat.mul_one]
 have e:madeCells (Value.int .i32 0).cells n=((List.replicate n (0:Int)).map (Value.int .i32)).toArray:=by
  have:=toList_madeCells_one (Value.int .i32 0) n;rw[List.map_replicate,<- this];simp[Value.cells]
 rw[e]
theorem zoq {B:Gm.Bs}{g n N x y:Nat}{w W:World}{A Z:List Int}{v:Value}(h:Wide B g w A Z n ((W.setCell ⟨g,0,none⟩ (.slice (some ⟨N,0,none⟩) y y)).setCell ⟨g,2,none⟩ v))(e:x=y):Wide B g w A Z n ((W.setCell ⟨g,0,none⟩ (.slice (some ⟨N,0,none⟩) x x)).setCell ⟨g,2,none⟩ v):=e▸h
theorem Tx.apart {B:Gm.Bs}{g N:Nat}{ao:Option Addr}{cur A Z:List Int}{w w':World}(h:Tx B g ao cur A Z w)(e:∀k,k<w.heap.size->k≠N->w'.heap[k]?=w.heap[k]?)(hg:g≠N)(hr:∀r,ao=some ⟨r,0,none⟩->r≠N):Tx B g ao cur A Z w' :=
 ⟨h.hB,h.box.block (e g h.box.lt hg),h.room.block fun r h'=>e r (h.room.lt r h').2 (hr r h'),h.ne,h.fit,h.most,h.few,h.ahead,h.behind⟩
theorem Bx3.toT {w:World}{g T n:Nat}{v0 v1:Value}(h:Bx3 w g v0 v1 (.int .i64 n))(e:T=n):Bx3 w g v0 v1 (.int .i64 T):=e▸h
theorem Tx.cellsA {B:Gm.Bs}{g:Nat}{ao:Option Addr}{cur A Z:List Int}{w:World}(h:Tx B g ao cur A Z w):0<A.length->∃b so,ao=some ⟨b,so,none⟩/\∀j z,A[j]?=some z->w.drew.cell? ⟨b,so+j,none⟩=some (.int .i32 z):=fun h0=>by
 obtain⟨r,hr⟩:=h.room.some (by have:=h.fit;omega);refine⟨r,0,hr,fun j z hj=> ?_⟩;rw[Nat.zero_add];have h1:=(qL.1 hj).1;have h2:=congrArg (fun l=>l[j]?) h.ahead;rw[h2,List.getElem?_take,if_pos h1] at hj;exact h.room.cell hr hj
theorem Tx.cellsZ {B:Gm.Bs}{g:Nat}{ao:Option Addr}{cur A Z:List Int}{w:World}(h:Tx B g ao cur A Z w){T:Nat}(hT:T=cur.length-Z.length):0<Z.length->∃r,ao=some ⟨r,0,none⟩/\∀j z,Z[j]?=some z->w.drew.cell? ⟨r,T+j,none⟩=some (.int .i32 z):=fun h0=>by
 obtain⟨r,hr⟩:=h.room.some (by have:=h.fit;omega);refine⟨r,hr,fun j z hj=> ?_⟩;have h2:=congrArg (fun l=>l[j]?) h.behind;rw[h2,List.getElem?_drop,<- hT] at hj;exact h.room.cell hr hj
theorem Tx.wide {B:Gm.Bs}{g N S:Nat}{ao:Option Addr}{cur A Z:List Int}{w w2:World}{v0 v2:Value}(h:Tx B g ao cur A Z w)(hS:A.length+Z.length<=S)(hS8:S<=8000)(hN:B.ok N)(hNg:N≠g)
  (hR:Room ⟨0,[]⟩ w2 (some ⟨N,0,none⟩) (splice (splice (List.replicate S 0) 0 A) (S-Z.length) Z)) (hX:Bx3 w2 g v0 (.int .i64 A.length) v2) :
  Tx B g (some ⟨N,0,none⟩) (splice (splice (List.replicate S 0) 0 A) (S-Z.length) Z) A Z ((w2.setCell ⟨g,0,none⟩ (.slice (some ⟨N,0,none⟩) S S)).setCell ⟨g,2,none⟩ (.int .i64 (S-Z.length:Nat))):=by
 have h0:(splice (List.replicate S (0:Int)) 0 A).length=S:=by rw[length_splice _ _ _ (by rw[List.length_replicate];omega),List.length_replicate]
 have hl:(splice (splice (List.replicate S (0:Int)) 0 A) (S-Z.length) Z).length=S:=by rw[length_splice _ _ _ (by omega)];exact h0
 refine⟨h.hB,?_,?_,fun r hr=>by cases hr;exact hNg,by omega,by omega,h.few,?_,?_⟩
 ·rw[hl];exact(hX.set0 _).set2 _
 ·rcases hR with ⟨hh,_⟩|⟨r,hr,hB,hb⟩
  ·cases hh
  ·cases hr;exact .inr ⟨N,rfl,hN,by rw[heap_setCell_other _ _ _ _ hNg,heap_setCell_other _ _ _ _ hNg];exact hb⟩
 ·rw[zfa (by omega) (by omega)];have:=ze9 (L:=List.replicate S (0:Int)) (cs:=A) (off:=0) (by omega);simpa using this.symm
 ·rw[hl,zfb (by omega),List.drop_eq_nil_of_le (by omega),List.append_nil]
end Gm
theorem zon (w:World)(B:Gm.Bs)(g:Nat)(ao:Option Addr)(cur A Z:List Int)(h:Gm.Tx B g ao cur A Z w)(n:Nat)(hn:A.length+n+Z.length<=cur.length) :
  Calls prog 212 #[.pointer (some ⟨g,0,none⟩),.int .i64 n] w fun e w'=>e=.returned (.tuple #[])/\Gm.Wide B g w A Z n w':=by
 have hf:=h.fit;have hm:=h.most;have c1:=h.box.c1;have c2:=h.box.c2;have H:=qH h;clear h
 go_enter func212,ntmps212
 go_wp2
 go_quiet (fail)
 go_wp2
 (try simp only[Exit.inBlock,Exit.then])
 refine bodyPost_ret (results_none rfl _ _ _) rfl ?_;exact⟨rfl,⟨ao,cur,H.out.drew _,hn⟩,Gm.Fr.drewN (Gm.Fr.refl _ _) _⟩
theorem zoo (w:World)(B:Gm.Bs)(g:Nat)(ao:Option Addr)(cur A Z:List Int)(h:Gm.Tx B g ao cur A Z w)(n:Nat)(hn:¬A.length+n+Z.length<=cur.length)(h4:A.length+Z.length+n<=4000)(hmB:∀j∈B.m,j<w.heap.size) :
  Calls prog 212 #[.pointer (some ⟨g,0,none⟩),.int .i64 n] w fun e w'=>e=.returned (.tuple #[])/\Gm.Wide B g w A Z n w':=by
 have hf:=h.fit;have hm:=h.most;have hw:=h.few;have c1:=h.box.c1;have c2:=h.box.c2;have H:=qH h;obtain⟨T,hT⟩:∃T:Nat,T=cur.length-Z.length:=⟨_,rfl⟩;have HT:=qH hT;rw[<- hT] at c2;have HL:Hid (A.length+(cur.length-(cur.length-Z.length))=A.length+Z.length):=by show _=_;omega
 have HZ:Hid (cur.length-(cur.length-Z.length)=Z.length):=by show _=_;omega
 obtain⟨S,hS⟩:∃S:Nat,S=2*(A.length+Z.length+n):=⟨_,rfl⟩;have HS:=qH hS;have e1:(2:Int)*(↑A.length+ ↑Z.length+ ↑n)=(S:Int):=by omega
 have hT1:¬(n:Int)<=T-A.length:=by omega
 have hAT:A.length<=T:=by omega
 have hTc:T<=cur.length:=by omega
 have hS8:S<=8000:=by omega
 clear h hT hS
 go_enter func212,ntmps212
 go_wp2
 go_quiet (fail)
 go_wp2_with fail
 refine(zcq _ g ao _ _ _ (H.out.drew nq).box hm (by omega) (by omega)).mono ?_;rintro e w' ⟨rfl,q,rfl⟩;rw[HL.out];have HX1:=qH<|(H.out.drew nq).drew q;have HB1:Hid (Gm.Fr B w ((w.drewN nq).drewN q)):=Gm.Fr.drewN (Gm.Fr.drewN (Gm.Fr.refl _ _) _) _;generalize ((w.drewN nq).drewN q)=w1 at *;obtain⟨W,hmk,hblk,hbW,hsW⟩:=Gm.zl1 w1 S hS8;have HBW:=qH<|HB1.out.trans (Gm.Fr.of_below hbW (by have:=HX1.out.hB.1;have:=HX1.out.box.lt;omega));have hmw1:∀j∈B.m,j<w1.heap.size:=fun j hj=>by have:=HB1.out.size;have:=hmB j hj;omega
 obtain⟨N,hN⟩:=qE w1.heap.size;unfold Bl at hbW;rw[<- hN] at hmk hblk hbW hsW hmw1;have hgN:g<N:=by rw[hN];exact HX1.out.box.lt
 have HXW:=qH<|HX1.out.kept fun k hk=>hbW.block k (by omega)
 have hBN:B.ok N:=⟨by have:=HX1.out.hB.1;omega,fun h=>by have:=hmw1 N h;omega⟩;clear hmw1;have hBNb:=hBN.1;have HRW:Hid (Gm.Room ⟨0,[]⟩ W (some ⟨N,0,none⟩) (List.replicate S 0)):=.inr ⟨N,rfl,⟨Nat.zero_le _,by simp⟩,hblk⟩;have HrN:Hid (∀r,ao=some ⟨r,0,none⟩->r<N):=fun r hr=>by rw[hN];exact(HX1.out.room.lt r hr).2
 have d0:=HXW.out.box.c0;have d1:=HXW.out.box.c1;have d2:=HXW.out.box.c2;rw[<- HT.out] at d2;have hNW:N<W.heap.size:=by omega
 clear hblk hbW hsW hN c1 c2 HX1 HB1 H;have hA0:(0:Int)<=A.length:=by omega
 have hA1:(A.length:Int)<=cur.length:=by omega
 have HA:Hid (A.length=Nat.min A.length S):=by show _=min _ _;have:=HS.out;omega
 have HFA:Hid (0+A.length<=(List.replicate S (0:Int)).length):=by show _<=_;rw[List.length_replicate];have:=HS.out;omega
 have HSA:=qH HXW.out.cellsA;go_wp2;clear hmk
 go_region_held3 (fun w'=>(w'.cell? ⟨g,0,none⟩=some (.slice ao cur.length cur.length)/\w'.cell? ⟨g,1,none⟩=some (.int .i64 A.length))/\w'.cell? ⟨g,2,none⟩=some (.int .i64 T)) (first|exact Gm.keep3 (Gm.Bx3.toT HXW.out.box HT.out) hg3 (Nat.ne_of_gt hgN)|go_keep) ((refine Gm.zb8 (by rfl) (.tmp 23) (.tmp 32) 42 42 (by rfl) 21 underlying42 Tryz.sizeI32 _ _ _ _ _ _ (by rfl) (by rfl) ⟨0,[]⟩ (some ⟨N,0,none⟩) (List.replicate S 0) (HRW.out.block fun _ _=>rfl) 0 A HA.out (fun h0 r' hr'=>by cases hr';exact⟨rfl,HSA.out h0⟩) HFA.out ?_;intro w3 hR3 hg3))
 have HX3:=qH<|HXW.out.apart (fun k hk hne=>hg3.block k hk (fun e=>hne (by cases e;rfl))) (Nat.ne_of_lt hgN) (fun r hr=>Nat.ne_of_lt (HrN.out r hr));have HB3:=qH<|HBW.out.drew.grown hg3 (by show B.b<=W.heap.size;omega) fun j e=>by cases e;exact hBN
 have HR3:=qH hR3;have hs3:N<w3.heap.size:=by have:=hg3.size;have:W.drew.heap.size=W.heap.size:=rfl;omega
 clear hR3 hg3 d0 d1 d2 HXW HBW HRW HA HFA HSA hNW
 go_wp2_with fail
 refine(zet _ g ao _ _ _ HX3.out.box hm (by omega)).mono ?_;rintro e w' ⟨rfl,q,rfl⟩;rw[HZ.out];have HX4:=qH<|HX3.out.drew q;have HB4:Hid (Gm.Fr B w (w3.drewN q)):=Gm.Fr.drewN HB3.out _;have HR4:Hid (Gm.Room ⟨0,[]⟩ (w3.drewN q) (some ⟨N,0,none⟩) (splice (List.replicate S 0) 0 A)):=HR3.out.block fun _ _=>rfl
 have hs4:N<(w3.drewN q).heap.size:=hs3;generalize w3.drewN q=w4 at *;have d0:=HX4.out.box.c0;have d1:=HX4.out.box.c1;have d2:=HX4.out.box.c2;rw[<- HT.out] at d2;obtain⟨T',hT'⟩:∃T':Nat,T'=S-Z.length:=⟨_,rfl⟩;have HT':=qH hT';have e3:(S:Int)-Z.length=(T':Int):=by have:=HS.out;omega
 have hT'0:(0:Int)<=T':=by omega
 have hT'1:(T':Int)<=S:=by omega
 have hT0:(0:Int)<=T:=by omega
 have hTc':(T:Int)<=cur.length:=by omega
 have HZm:Hid (Z.length=Nat.min (cur.length-T) (S-T')):=by show _=min _ _;have:=HT.out;have:=HS.out;omega
 have HFZ:Hid (T'+Z.length<=(splice (List.replicate S (0:Int)) 0 A).length):=by
  show _<=_;have:=HS.out;rw[length_splice _ _ _ (by rw[List.length_replicate];omega),List.length_replicate];omega
 have HSZ:=qH<|HX4.out.cellsZ HT.out;have HTT:Hid ((0<Z.length->¬S=T')/\(0<Z.length->¬cur.length=T)):=by have:=HT.out;have:=HS.out;exact⟨fun _=>by omega,fun _=>by omega⟩
 clear hT' HX3 HB3 HR3 hs3;go_wp2
 go_region_held3 (fun w'=>(w'.cell? ⟨g,0,none⟩=some (.slice ao cur.length cur.length)/\w'.cell? ⟨g,1,none⟩=some (.int .i64 A.length))/\w'.cell? ⟨g,2,none⟩=some (.int .i64 T)) (first|exact Gm.keep3 (Gm.Bx3.toT HX4.out.box HT.out) hg5 (Nat.ne_of_gt hgN)|go_keep) ((refine Gm.zb8 (by rfl) (.tmp 41) (.tmp 50) 42 42 (by rfl) 21 underlying42 Tryz.sizeI32 _ _ _ _ _ _ (by rfl) (by rfl) ⟨0,[]⟩ (some ⟨N,0,none⟩) (splice (List.replicate S 0) 0 A) (HR4.out.block fun _ _=>rfl) T' Z HZm.out (fun h0 r' hr'=>by cases hr';obtain⟨r1,hr1,hc1⟩:=HSZ.out h0;rw[if_neg (HTT.out.1 h0),if_neg (HTT.out.2 h0),hr1];exact⟨rfl,r1,T,by rw[Option.map_some,L.addr_add,Nat.zero_add],hc1⟩) HFZ.out ?_;intro w5 hR5 hg5))
 have HX5:=qH<|HX4.out.apart (fun k hk hne=>hg5.block k hk (fun e=>hne (by cases e;rfl))) (Nat.ne_of_lt hgN) (fun r hr=>Nat.ne_of_lt (HrN.out r hr));have HB5:=qH<|HB4.out.drew.grown hg5 (by show B.b<=w4.heap.size;omega) fun j e=>by cases e;exact hBN
 have HR5:Hid (Gm.Room ⟨0,[]⟩ w5 (some ⟨N,0,none⟩) (splice (splice (List.replicate S 0) 0 A) (S-Z.length) Z)):=by have:=hR5;rw[HT'.out] at this;exact this
 have HE:Hid (Gm.Wide B g w A Z n ((w5.setCell ⟨g,0,none⟩ (.slice (some ⟨N,0,none⟩) S S)).setCell ⟨g,2,none⟩ (.int .i64 T'))):=by
  have hs:=HS.out;have hX:=HX5.out.wide (N:=N) (S:=S) (by omega) hS8 hBN (Nat.ne_of_gt hgN) HR5.out HX5.out.box;rw[HT'.out];refine⟨⟨_,_,hX,?_⟩,Gm.zbb (Gm.zbb HB5.out HX5.out.hB _) HX5.out.hB _⟩;rw[length_splice _ _ _ (by rw[length_splice _ _ _ (by rw[List.length_replicate];omega),List.length_replicate];omega),length_splice _ _ _ (by rw[List.length_replicate];omega),List.length_replicate];omega
 have f0:=HX5.out.box.free 0;have f2:=HX5.out.box.free 2;have k0:=HX5.out.box.c0;have k2:=HX5.out.box.c2;clear hR5 hg5 d0 d1 d2 HX4 HB4 HR4 HZm HFZ HSZ HTT;go_wp2
 all_goals
  (try simp only[Exit.inBlock,Exit.then])
  first
   | refine bodyPost_end (results_none rfl _ _ _) rfl ?_
   | refine bodyPost_ret (results_none rfl _ _ _) rfl ?_
  exact⟨rfl,Gm.zoq HE.out (by omega)⟩
theorem zop (w:World)(B:Gm.Bs)(g:Nat)(ao:Option Addr)(cur A Z:List Int)(h:Gm.Tx B g ao cur A Z w)(n:Nat)(h4:A.length+Z.length+n<=4000)(hmB:∀j∈B.m,j<w.heap.size) :
  Calls prog 212 #[.pointer (some ⟨g,0,none⟩),.int .i64 n] w fun e w'=>e=.returned (.tuple #[])/\Gm.Wide B g w A Z n w':=by
 by_cases hn:A.length+n+Z.length<=cur.length
 ·exact zon w B g ao cur A Z h n hn
 ·exact zoo w B g ao cur A Z h n hn h4 hmB
end
section
open Go.RowKit
attribute [local go_sem ↓] Go.wp_at_zero Go.wp_at_succ
namespace Gm
theorem copy00 (dp sp:Option Addr)(dl c1 c2:Nat)(ty:TypeId)(w:World):(Builtin.copy_ #[42,42] ty #[.slice dp dl c1,.slice sp 0 c2]).run prog w=.ok (goInt 0) w :=
 run_copy_none w _ _ _ 21 _ _ _ _ _ _ underlying42 Tryz.sizeI32 (by simp)
theorem Told.drew {B:Gm.Bs}{g:Nat}{w W:World}{A Z:List Int}(h:Told B g w A Z W):Told B g w A Z W.drew:=⟨h.1.imp fun _ ⟨cur,hX⟩=>⟨cur,hX.kept fun _ _=>rfl⟩,h.2.drew⟩
theorem Tx.put {B:Gm.Bs}{g:Nat}{ao:Option Addr}{cur A Z R:List Int}{w w2:World}(h:Tx B g ao cur A Z w)(hn:A.length+R.length+Z.length<=cur.length)(h4:A.length+Z.length+R.length<=4000)
  (hR:Room B w2 ao (splice cur A.length R)) (hX:Bx3 w2 g (.slice ao cur.length cur.length) (.int .i64 A.length) (.int .i64 (cur.length-Z.length:Nat))) :
  Tx B g ao (splice cur A.length R) (A++R) Z (w2.setCell ⟨g,1,none⟩ (.int .i64 (A.length+R.length:Nat))):=by
 have hf:=h.fit;have hmo:=h.most;have hl:(splice cur A.length R).length=cur.length:=length_splice _ _ _ (by omega);have ha:(A++R).length=A.length+R.length:=List.length_append;refine⟨h.hB,?_,hR.block fun r' hr=>heap_setCell_other _ _ _ _ (h.ne r' hr),h.ne,by omega,by omega,by omega,?_,?_⟩
 ·rw[hl,ha];exact hX.set1 _
 ·rw[ha,ze9 (by omega),<- h.ahead]
 ·rw[hl,zfc (by omega) (by omega)];exact h.behind
end Gm
theorem zt4 (w:World)(B:Gm.Bs)(g:Nat)(ao:Option Addr)(cur A Z:List Int)(h:Gm.Tx B g ao cur A Z w)(sp:Option Addr)(n c:Nat)(hn:n<=maxLen)(h4:4000<A.length+Z.length+n) :
  Calls prog 196 #[.pointer (some ⟨g,0,none⟩),.slice sp n c] w fun e w'=>e=.returned (.int .i64 4)/\Gm.Told B g w A Z w':=by
 unfold maxLen at hn;have hf:=h.fit;have hm:=h.most;have hw:=h.few;have H:=qH h;have HL:Hid (A.length+(cur.length-(cur.length-Z.length))=A.length+Z.length):=by show _=_;omega
 clear h
 go_enter func196,ntmps196
 go_wp2_with (go_at_call 176;refine(zcq _ g ao _ _ _ H.out.box hm (by omega) (by omega)).mono ?_;rintro e w' ⟨rfl,q,rfl⟩;rw[HL.out])
 go_ret;exact⟨rfl,H.out.same q⟩
theorem ztg (w:World)(B:Gm.Bs)(g:Nat)(ao:Option Addr)(cur A Z:List Int)(h:Gm.Tx B g ao cur A Z w)(v:Value)(R:List Int)(hv:∀w',Gm.Fr B w w'->L.Rd w' v .i32 R)(h4:A.length+Z.length+R.length<=4000)(hmB:∀j∈B.m,j<w.heap.size) :
  Calls prog 196 #[.pointer (some ⟨g,0,none⟩),v] w fun e w'=>e=.returned (.int .i64 0)/\Gm.Told B g w (A++R) Z w':=by
 obtain⟨sp,c,rfl,_⟩:=hv w (Gm.Fr.refl _ _);have hf:=h.fit;have hm:=h.most;have hw:=h.few;have H:=qH h;have HL:Hid (A.length+(cur.length-(cur.length-Z.length))=A.length+Z.length):=by show _=_;omega
 have HV:=qH hv;clear h hv
 go_enter func196,ntmps196
 go_wp2_with fail
 refine(zcq _ g ao _ _ _ H.out.box hm (by omega) (by omega)).mono ?_;rintro e w' ⟨rfl,q,rfl⟩;rw[HL.out]
 go_wp2_with fail
 refine(zop _ B g ao cur A Z (H.out.drew q) R.length h4 hmB).mono ?_;rintro e w1 ⟨rfl,⟨ao1,cur1,X1,hn1⟩,b1⟩;have HX:=qH X1;have HB:=qH<|(Gm.Fr.drewN (Gm.Fr.refl _ _) _).trans b1;have hf1:=X1.fit;have hm1:=X1.most;have c0:=X1.box.c0;have c1:=X1.box.c1;have c2:=X1.box.c2;have f1:=X1.box.free 1;obtain⟨T,hT⟩:∃T:Nat,T=cur1.length-Z.length:=⟨_,rfl⟩;have HT:=qH hT;rw[<- hT] at c2;have hT0:(A.length:Int)<=T:=by omega
 have hT1:(T:Int)<=cur1.length:=by omega
 have hA0:(0:Int)<=A.length:=by omega
 clear b1 X1 H hT
 by_cases h0:R= []
 ·subst h0;have hcopy:=Gm.copy00;have e1:IntKind.i64.wrap (A.length:Int)=A.length:=by rw[IntKind.wrap_i64];omega
  obtain⟨W2,hW2⟩:=qE ((w1.setCell ⟨g,1,none⟩ (.int .i64 A.length)).drew)
  have HE:Hid (Gm.Told B g w (A++ []) Z W2):=by
   rw[hW2];have hX:=HX.out.put (R:= []) (by rw[List.length_nil];omega) (by rw[List.length_nil];omega) (by simpa [splice] using HX.out.room) HX.out.box;exact(hX.told (Gm.zbb HB.out HX.out.hB _)).drew
  have HW2:=qH hW2;clear hW2;go_wp2
  go_region
  rw[<- HW2.out];clear HW2 hcopy;go_wp2
  all_goals
   go_ret;exact⟨rfl,by have:=HE.out;rw[List.append_nil] at this;exact this⟩
 ·obtain⟨r,hr⟩:=HX.out.room.some (by have:=List.length_pos_iff.2 h0;omega);subst hr;have hne:=HX.out.ne r rfl;have hp:=List.length_pos_iff.2 h0;obtain⟨sp',c',hsl,_,hce⟩:=HV.out w1 HB.out;cases hsl;obtain⟨b,off,rfl,hcell⟩:=hce h0;obtain⟨F,hF⟩:∃F:Nat,F=A.length+R.length:=⟨_,rfl⟩;have HF:=qH hF;have e1:IntKind.i64.wrap (↑A.length+ ↑R.length)=(F:Int):=by rw[IntKind.wrap_i64];omega
  have hA4:¬cur1.length=A.length:=by omega
  obtain⟨W3,hcopy,hR3,hg3⟩:=Gm.zma w1 B r HX.out.room A.length R ⟨b,off,none⟩ R.length c (T-A.length) (cur1.length-A.length) (by have:=HT.out;show _=min _ _;omega) (fun j z hj=>by rw[L.addr_add];exact hcell j z hj) (by omega);have X3:=HX.out.box.block (hg3.block g HX.out.box.lt (fun e=>hne (by cases e;rfl)));have HB3:=qH<|HB.out.drew.grown hg3 (by have:=HX.out.box.lt;have:=HX.out.hB.1;show B.b<=w1.heap.size;omega) fun j e=>by cases e;exact(HX.out.room.lt r rfl).1
  have HE:Hid (Gm.Told B g w (A++R) Z (W3.setCell ⟨g,1,none⟩ (.int .i64 F))):=by
   rw[HF.out];exact(HX.out.put hn1 h4 hR3 X3).told (Gm.zbb HB3.out HX.out.hB _)
  have d0:=X3.c0;have d1:=X3.c1;have d2:=X3.c2;have g1:=X3.free 1;rw[<- HT.out] at d2;clear X3 hR3 hg3 hF hcell hce;go_wp2
  go_region
  clear hcopy;go_wp2
  all_goals
   go_ret;exact⟨rfl,HE.out⟩
end
section
open Go.RowKit
theorem zol (w:World)(B:Gm.Bs)(g:Nat)(ao:Option Addr)(cur A Z:List Int)(h:Gm.Tx B g ao cur A Z w)(k:Nat)(hk:k<A.length+Z.length) :
  Calls prog 200 #[.pointer (some ⟨g,0,none⟩),.int .i64 k] w fun e w'=>e=.returned (.int .i32 ((A++Z).getD k 0))/\∃q,w'=w.drewN q:=by
 have hf:=h.fit;have hm:=h.most;have hw:=h.few;obtain⟨r,rfl⟩:=h.room.some (by omega);obtain⟨T,hT⟩:∃T:Nat,T=cur.length-Z.length:=⟨_,rfl⟩;have HT:=qH hT;have hTc:T+Z.length=cur.length:=by omega
 obtain⟨x,hx⟩:=qE ((A++Z).getD k 0);rw[<- hx];have H:=qH h
 have HLn:=qH<|fun q=>by
  have h2:=zcq (w.drewN q) g (some ⟨r,0,none⟩) _ _ _ (h.drew q).box hm (by omega) (by omega);rw[show A.length+(cur.length-(cur.length-Z.length))=A.length+Z.length by omega] at h2;exact h2
 have HA:Hid (k<A.length->∀q,(w.drewN q).cell? ⟨r,k,none⟩=some (.int .i32 x)):=fun hka q=>by
  refine(h.drew q).room.cell rfl ?_;have h1:A[k]?=some x:=by rw[hx];simp[List.getD,List.getElem?_append,hka]
  have h2:=congrArg (fun z:List Int=>z[k]?) h.ahead;simp only[List.getElem?_take_of_lt hka] at h2;rw[<- h2];exact h1
 have HZ:Hid (¬k<A.length->∀q,(w.drewN q).cell? ⟨r,T+k-A.length,none⟩=some (.int .i32 x)):=fun hka q=>by
  refine(h.drew q).room.cell rfl ?_;have h1:Z[k-A.length]?=some x:=by rw[hx];simp[List.getD,List.getElem?_append,hka,show k-A.length<Z.length by omega]
  have h2:=congrArg (fun z:List Int=>z[k-A.length]?) h.behind;simp only[List.getElem?_drop,<- hT] at h2;rw[h2,show T+(k-A.length)=T+k-A.length by omega] at h1;exact h1
 have HC:Hid (∀q,(w.drewN q).cell? ⟨g,0,none⟩=some (.slice (some ⟨r,0,none⟩) cur.length cur.length)/\(w.drewN q).cell? ⟨g,1,none⟩=some (.int .i64 A.length)/\(w.drewN q).cell? ⟨g,2,none⟩=some (.int .i64 T)):=fun q=>by
  have hb:=(h.drew q).box;rw[<- hT] at hb;exact⟨hb.c0,hb.c1,hb.c2⟩
 clear h hx hT
 go_enter func200,ntmps200
 go_wp2_with fail
 go_at_call 176
 refine(HLn.out 0).mono ?_;rintro e w1 ⟨rfl,m,hw1⟩;have HW1:Hid (w1=w.drewN m):=by show _=_;rw[hw1,World.drewN_drewN,Nat.zero_add]
 clear hw1 HLn;obtain⟨c0,c1,c2⟩:=HC.out m;rw[<- HW1.out] at c0 c1 c2
 by_cases hka:k<A.length
 ·have cx:=HA.out hka m;rw[<- HW1.out] at cx;go_wp2;go_ret;exact⟨rfl,m,HW1.out⟩
 ·have cx:=HZ.out hka m;rw[<- HW1.out] at cx;go_wp2
  go_quiet (fail)
  go_wp2;go_ret
  exact⟨rfl,_,by rw[HW1.out,World.drewN_drewN]⟩
theorem zoj (w:World)(mb:Nat):(method 419 188 (.pointer (some ⟨mb,0,none⟩)) "At").run prog w=((loadVar 192 ⟨mb,0,none⟩) >>= fun p=>pure (200,p)).run prog w:=by
 kernel_rfl
theorem zmh (w:World)(mb:Nat):(method 419 188 (.pointer (some ⟨mb,0,none⟩)) "Len").run prog w=((loadVar 192 ⟨mb,0,none⟩) >>= fun p=>pure (176,p)).run prog w:=by
 kernel_rfl
theorem xload (w:World)(mb g:Nat)(h:w.cell? ⟨mb,0,none⟩=some (.pointer (some ⟨g,0,none⟩))):(loadVar 192 ⟨mb,0,none⟩).run prog w=.ok (.pointer (some ⟨g,0,none⟩)) w:=by
 have hs:∀w:World,(Go.sizeOf 192).run prog w=.ok 1 w:=fun w=>by kernel_rfl
 have hu:∀w:World,(underlying 192).run prog w=.ok (.pointer 211) w:=fun w=>by kernel_rfl
 unfold loadVar;simp[go_sem,hs,hu,h,Result.andThen]
theorem zrf (w:World)(mb g:Nat)(h:w.cell? ⟨mb,0,none⟩=some (.pointer (some ⟨g,0,none⟩))):(method 419 188 (.pointer (some ⟨mb,0,none⟩)) "At").run prog w= .ok (200,.pointer (some ⟨g,0,none⟩)) w:=by
 rw[zoj,Sem.run_bind,xload w mb g h];rfl
theorem zoi (w:World)(mb g:Nat)(h:w.cell? ⟨mb,0,none⟩=some (.pointer (some ⟨g,0,none⟩))):(method 419 188 (.pointer (some ⟨mb,0,none⟩)) "Len").run prog w= .ok (176,.pointer (some ⟨g,0,none⟩)) w:=by
 rw[zmh,Sem.run_bind,xload w mb g h];rfl
end
section
open Go.RowKit Go.Shelf
structure Gm.Vw (w0:World) (mb g:Nat) (t:List Int):Prop where
 cell:∀W,Bl w0 W->W.cell? ⟨mb,0,none⟩=some (.pointer (some ⟨g,0,none⟩))
 len:∀W,Bl w0 W->Calls prog 176 #[.pointer (some ⟨g,0,none⟩)] W fun e w'=>e=.returned (.int .i64 t.length)/\∃q,w'=W.drewN q
 at':∀W (k:Int),Bl w0 W->0<=k->k<t.length->Calls prog 200 #[.pointer (some ⟨g,0,none⟩),.int .i64 k] W fun e w'=>e=.returned (.int .i32 (t.getD k.toNat 0))/\∃q,w'=W.drewN q
theorem Gm.Vw.of {w0:World}{mb g:Nat}{B:Gm.Bs}{ao:Option Addr}{cur A Z:List Int}(hc:w0.cell? ⟨mb,0,none⟩=some (.pointer (some ⟨g,0,none⟩)))(h:Gm.Tx B g ao cur A Z w0):Gm.Vw w0 mb g (A++Z) where
 cell W hW:=by rw[(L.bcell hW).1 mb 0 (L.block_lt hc)];exact hc
 len W hW:=by
  have h':=h.kept fun k hk=>hW.block k hk
  have h2:=zcq W g ao _ _ _ h'.box h.most (by omega) (by have:=h.fit;omega);rw[show A.length+(cur.length-(cur.length-Z.length))=(A++Z).length by rw[List.length_append];have:=h.fit;omega] at h2;exact h2
 at' W k hW h0 hk:=by
  have h':=h.kept fun k hk=>hW.block k hk
  obtain⟨n,rfl⟩:∃n:Nat,k=n:=⟨k.toNat,by omega⟩;rw[List.length_append] at hk;exact zol W B g ao cur A Z h' n (by omega)
def K.Bs (w:World) (bv ba mb:Nat) (k:Int):Prop:=w.heap[bv]?=some (.cells #[.iface 188 (.pointer (some ⟨mb,0,none⟩))] 247)/\w.heap[ba]?=some (.cells #[.int .i64 k] 3)
theorem zdi (w0 w:World)(hB:Bl w0 w)(bv ba:Nat)(hbv:w0.heap.size<=bv)(hba:w0.heap.size<=ba)(hne:bv≠ba)(vl:Value)(l:List (List S.Sp))(R:K.Ss w0 vl l)(hG:K.Good l)
  (mb g:Nat) (t:List Int) (Rt:Gm.Vw w0 mb g t) (ht:t.length<=4000) (k:Int) (h0:0<=k) (hk:k+l.length<=t.length) (hX:K.Bs w bv ba mb k) :
  Calls prog 221 (#[vl]++#[.pointer (some ⟨bv,0,none⟩),.pointer (some ⟨ba,0,none⟩)]) w fun e w'=>e=.returned (.bool (K.runAt t k l))/\(K.runAt t k l=true->K.Bs w' bv ba mb (k+l.length))/\Bl w0 w'/\w.grownBy w' (some ba):=by
 have HR:=qH R;have HG:=qH hG;have HT:=qH Rt;have HX0:=qH hX;obtain⟨ao,cap,rfl⟩:=R.len;have hsb:=hB.size;have hl20:=hG.1;clear R hX hG Rt
 go_enter func221,ntmps221
 go_wp2
 go_loopw [9] (fun i wr=>∃j:Nat,j<=l.length/\i=.int .i64 j/\Hid (K.runAt t k l=K.runAt t (k+j) (l.drop j))/\Hid (Bl w0 wr/\w.grownBy wr (some ba)/\K.Bs wr bv ba mb (k+j))) (fun i _=>l.length-(intOf i).toNat)
 case atStart=>exact⟨0,Nat.zero_le _,rfl,by show _=_;simp,hB,S.zat _ _,by simpa using HX0.out⟩
 case round =>
  obtain⟨j,hj,rfl,HW,HB⟩:=hrel;have hs:=HB.out.1.size
  by_cases hlt:j<l.length
  ·obtain⟨s,hsj⟩:∃s,l[j]?=some s:=⟨l[j],by simp[hlt]⟩;obtain⟨b,off,so,sc,rfl,c1,R1,F1⟩:=(HR.out.below HB.out.1).at hsj;obtain⟨hN,hlen⟩:=HG.out.2 s (List.mem_of_getElem? hsj);have HD:=K.zgm (t:=t) (k:=k) hsj;rw[<- HW.out] at HD;have d1:=K.zad (i:=0) HB.out.2.2.1 rfl;have d2:=K.zad (i:=0) HB.out.2.2.2 rfl;have hlta:=(qA.1 HB.out.2.2.2).1;have hat:=HT.out.at' wr (k+j) HB.out.1 (by omega) (by omega);have hm:=zrf wr mb g (HT.out.cell wr HB.out.1);rw[decide_eq_true (show 0<=k+(j:Int) by omega),decide_eq_true (show k+(j:Int)<t.length by omega),Bool.true_and,Bool.true_and] at HD;obtain⟨x,hx⟩:=qE (t.getD (k+(j:Int)).toNat 0);rw[<- hx] at HD hat
   have hhas:∀q,Calls prog 79 #[.slice so s.length sc,.int .i32 x] (wr.drewN q) fun e w'=>e=.returned (.bool (S.memb s x))/\Bl wr w':=fun q=>by
    have hd:Bl wr (wr.drewN q):=below_drewN (qR _) _;exact(zkw (wr.drewN q) _ s x (R1.below hd qN) hN hlen).mono fun e w' ⟨h1,h2⟩=>⟨h1,hd.trans h2⟩
   have HHas:=qH hhas;clear hhas;generalize S.memb s x=mm at HD HHas;have HD2:=qH HD;clear HD R1 F1 hN hsj hx;have HBa:Hid (Bl w0 wr/\w.grownBy wr (some ba)):=⟨HB.out.1,HB.out.2.1⟩
   go_wp2_with fail
   refine hat.mono ?_;rintro e w1 ⟨rfl,q1,rfl⟩;clear hat hm
   go_wp2_with fail
   refine(HHas.out _).mono ?_;rintro e w1 ⟨rfl,hb⟩;have HB1:=qH<|HBa.out.1.trans (hb.mono hs);have HG1:=qH<|S.zaa HBa.out.2 (S.zaf hb);have HX1:Hid (K.Bs w1 bv ba mb (k+j)):=⟨K.zae HB.out.2.2.1 hb,K.zae HB.out.2.2.2 hb⟩;clear d1 d2;cases mm with
   | false =>
    have hf:K.runAt t k l=false:=by rw[HD2.out];rfl
    go_wp2;go_ret
    exact⟨L.zaj hf.symm,fun h=>(by rw[hf] at h;cases h),HB1.out,HG1.out⟩
   | true =>
    have d2:=K.zad (i:=0) HX1.out.2 rfl;have f2:=S.Bx.free (t:=3) (v:=.int .i64 (k+j)) HX1.out.2;go_wp2
    go_roundw
    case rel =>
     have e1:k+(j:Int)+1=k+((j+1:Nat):Int):=by omega
     refine⟨j+1,by omega,by go_num,by show _=_;rw[HD2.out];rfl,HB1.out.setCell hba _,S.zaa HG1.out ⟨rfl,rfl,rfl,by simp,fun b _ hb=>heap_setCell_other _ ⟨ba,0,none⟩ b _ (fun e=>hb (by simp[e]))⟩,?_,?_⟩
     ·rw[heap_setCell_other _ ⟨ba,0,none⟩ bv _ (by simpa using hne)];exact HX1.out.1
     ·rw[<- e1];exact heap_setCell_same _ ba 0 _ _ _ HX1.out.2
    case measure=>simp[intOf];omega
  ·go_wp2;go_ret
   have hf:K.runAt t k l=true:=by rw[HW.out,List.drop_eq_nil_of_le (by omega)];rfl
   obtain rfl:j=l.length:=by omega
   exact⟨L.zaj hf.symm,fun _=>HB.out.2.2,HB.out.1,HB.out.2.1⟩
theorem znh (w:World)(mb:Nat)(k:Int) :
  Calls prog 215 #[.iface 188 (.pointer (some ⟨mb,0,none⟩)),.int .i64 k] w fun e w'=>∃bv ba,e=.returned (.func (.func 221) #[] #[.pointer (some ⟨bv,0,none⟩),.pointer (some ⟨ba,0,none⟩)])/\w.heap.size<=bv/\w.heap.size<=ba/\bv≠ba/\K.Bs w' bv ba mb k/\Bl w w':=by
 have hmf:∀(fn:Fn) (first cap:Array Value) (w:World),(Instr.makeFunc fn first cap).run prog w=.ok (.func fn first cap) w:=fun _ _ _ _=>rfl
 go_enter func215,ntmps215
 go_wp2;go_ret
 have h:=K.za3 (w:=w) (qR ((w.alloc (.cells #[.iface 188 (.pointer (some ⟨mb,0,none⟩))] 247)).alloc (.cells #[.int .i64 k] 3)));exact⟨w.heap.size,w.heap.size+1,by simp,qN,by omega,by omega,⟨h.1,h.2.1⟩,h.2.2.1⟩
theorem zp1 (w:World)(v:Value)(r:K.Rule)(R:K.RuIs w v r)(hE:K.ruleE r=0)(mx g:Nat)(t:List Int)(Rt:Gm.Vw w mx g t)(ht:t.length<=4000)(k:Int)(hk0:0<=k)(hk1:k<=t.length) :
  Calls prog 203 #[v,.iface 188 (.pointer (some ⟨mx,0,none⟩)),.int .i64 k] w fun e w'=>e=.returned (.bool (K.matchB r t k))/\Bl w w':=by
 obtain⟨g1,g2,g3,hsrc,_⟩:=K.zas hE;have HG:Hid (K.Good r.before/\K.Good r.source/\K.Good r.after):=⟨g1,g2,g3⟩;have l1:=g1.1;have l2:=g2.1;have l3:=g3.1;obtain⟨bo,bc,so,sc,ao,ac,tgo,tc,rfl,R1,R2,R3,R4,hl4,hcur⟩:=R;have HRs:Hid (K.Ss w (.slice bo r.before.length bc) r.before/\K.Ss w (.slice so r.source.length sc) r.source/\K.Ss w (.slice ao r.after.length ac) r.after):=⟨R1,R2,R3⟩;have HT:=qH Rt;have eg:∀args w,(callFunc 221 args).run prog w=.ok (.enter 221 args) w:=enters_of func221 (by kernel_rfl) rfl;have HNo:=@K.zl0 r t k hsrc;have HRoom:=@K.zng r t k;have HN:Hid (_->_):=HNo;have HM:=qH HRoom;generalize K.matchB r t k=mb at *;clear HNo HRoom g1 g2 g3 R1 R2 R3 R4 hcur hE;obtain⟨st,fi,be,sou,af,ta,cu⟩:=r;simp only at *;have HLQ:=qH HT.out.len;have HMm:=qH<|fun X hX=>zoi X mx g (HT.out.cell X hX)
 obtain⟨W0,hW0⟩:=qE (w.alloc (.cells #[.bool st,.bool fi,.slice bo be.length bc,.slice so sou.length sc,.slice ao af.length ac,.slice tgo ta.length tc,.int .i64 cu] 79));have hH0:W0.heap[w.heap.size]?=some (.cells #[.bool st,.bool fi,.slice bo be.length bc,.slice so sou.length sc,.slice ao af.length ac,.slice tgo ta.length tc,.int .i64 cu] 79):=by rw[hW0];exact heap_alloc_new w _
 have HB0:Hid (Bl w W0/\W0.heap.size=w.heap.size+1):=by
  rw[hW0];exact⟨(qR w).alloc qN _,by simp⟩
 have HH0:=qH hH0;have c0:=K.zad (i:=0) hH0 rfl;have c1:=K.zad (i:=1) hH0 rfl;have c2:=K.zad (i:=2) hH0 rfl;have c3:=K.zad (i:=3) hH0 rfl;have c4:=K.zad (i:=4) hH0 rfl;clear hH0
 go_enter func203,ntmps203
 go_wp2;rw[<- hW0]
 clear hW0
 have hmq:∀q,(method 419 188 (.pointer (some ⟨mx,0,none⟩)) "Len").run prog (W0.drewN q)= .ok (176,.pointer (some ⟨g,0,none⟩)) (W0.drewN q):=fun q=>HMm.out _ (below_drewN HB0.out.1 _)
 go_quiet ((go_at_call 176;exact Calls.quiet_of (HLQ.out _ (below_drewN HB0.out.1 _))))
 have HBW:Hid (Bl w (W0.drewN nq)/\(W0.drewN nq).heap.size=w.heap.size+1/\(W0.drewN nq).heap[w.heap.size]?=some (.cells #[.bool st,.bool fi,.slice bo be.length bc,.slice so sou.length sc,.slice ao af.length ac,.slice tgo ta.length tc,.int .i64 cu] 79)):=⟨below_drewN HB0.out.1 _,HB0.out.2,HH0.out⟩;have d0:=K.zad (i:=0) HBW.out.2.2 rfl;have d1:=K.zad (i:=1) HBW.out.2.2 rfl;have d2:=K.zad (i:=2) HBW.out.2.2 rfl;have d3:=K.zad (i:=3) HBW.out.2.2 rfl;have d4:=K.zad (i:=4) HBW.out.2.2 rfl;clear c0 c1 c2 c3 c4 HB0 HH0 HLQ hmq HMm;generalize W0.drewN nq=W at *
 by_cases h1:k-(be.length:Int)<0
 ·have hf:=HN.out (.inl h1);go_wp2;go_ret
  first|exact⟨L.zaj hf.symm,HBW.out.1⟩|exact⟨rfl,HBW.out.1⟩
 ·by_cases h2:(t.length:Int)-k-sou.length-af.length<0
  ·have hf:=HN.out (.inr (.inl h2));go_wp2;go_ret
   first|exact⟨L.zaj hf.symm,HBW.out.1⟩|exact⟨rfl,HBW.out.1⟩
  ·by_cases h3:st=true/\0<k-(be.length:Int)
   ·have hf:=HN.out (.inr (.inr (.inl h3)));obtain⟨rfl,h3⟩:=h3;go_wp2;go_ret
    first|exact⟨L.zaj hf.symm,HBW.out.1⟩|exact⟨rfl,HBW.out.1⟩
   ·by_cases h4:fi=true/\0<(t.length:Int)-k-sou.length-af.length
    ·have hf:=HN.out (.inr (.inr (.inr h4)));obtain⟨rfl,h4⟩:=h4;cases st with
     | false =>
      go_wp2;go_ret
      first|exact⟨L.zaj hf.symm,HBW.out.1⟩|exact⟨rfl,HBW.out.1⟩
     | true =>
      have h5:¬ 0<k-(be.length:Int):=fun h=>h3 ⟨rfl,h⟩
      go_wp2;go_ret
      first|exact⟨L.zaj hf.symm,HBW.out.1⟩|exact⟨rfl,HBW.out.1⟩
    ·have hM:=HM.out h3 h4;have HM2:=qH hM;have h5:=fun h=>Int.not_lt.1 fun h'=>h3 ⟨h,h'⟩
     have h6:=fun h=>Int.not_lt.1 fun h'=>h4 ⟨h,h'⟩
     have HAl:=znh W mx (k-be.length);have hW1:=HBW.out.2.1
     have HC:Hid (∀X bv ba,Bl w X->w.heap.size<=bv->w.heap.size<=ba->bv≠ba->K.Bs X bv ba mx (k-be.length)->Calls prog 221 (#[.slice bo be.length bc]++#[.pointer (some ⟨bv,0,none⟩),.pointer (some ⟨ba,0,none⟩)]) X fun e w'=>e=.returned (.bool (K.runAt t (k-be.length) be))/\(K.runAt t (k-be.length) be=true->K.Bs w' bv ba mx (k-be.length+be.length))/\Bl w w'/\X.grownBy w' (some ba)) :=
      fun X bv ba q1 q2 q3 q4 q5=>zdi w X q1 bv ba q2 q3 q4 _ be HRs.out.1 HG.out.1 mx g t HT.out ht (k-be.length) (by omega) (by omega) q5
     have HC2:Hid (∀X bv ba,Bl w X->w.heap.size<=bv->w.heap.size<=ba->bv≠ba->K.Bs X bv ba mx k->Calls prog 221 (#[.slice so sou.length sc]++#[.pointer (some ⟨bv,0,none⟩),.pointer (some ⟨ba,0,none⟩)]) X fun e w'=>e=.returned (.bool (K.runAt t k sou))/\(K.runAt t k sou=true->K.Bs w' bv ba mx (k+sou.length))/\Bl w w'/\X.grownBy w' (some ba)) :=
      fun X bv ba q1 q2 q3 q4 q5=>zdi w X q1 bv ba q2 q3 q4 _ sou HRs.out.2.1 HG.out.2.1 mx g t HT.out ht k (by omega) (by omega) q5
     have HC3:Hid (∀X bv ba,Bl w X->w.heap.size<=bv->w.heap.size<=ba->bv≠ba->K.Bs X bv ba mx (k+sou.length)->Calls prog 221 (#[.slice ao af.length ac]++#[.pointer (some ⟨bv,0,none⟩),.pointer (some ⟨ba,0,none⟩)]) X fun e w'=>e=.returned (.bool (K.runAt t (k+sou.length) af))/\(K.runAt t (k+sou.length) af=true->K.Bs w' bv ba mx (k+sou.length+af.length))/\Bl w w'/\X.grownBy w' (some ba)) :=
      fun X bv ba q1 q2 q3 q4 q5=>zdi w X q1 bv ba q2 q3 q4 _ af HRs.out.2.2 HG.out.2.2 mx g t HT.out ht (k+sou.length) (by omega) (by omega) q5
     generalize K.runAt t (k-be.length) be=m1 at *;generalize K.runAt t k sou=m2 at *;generalize K.runAt t (k+sou.length) af=m3 at *
     have HRB:Hid (∀X ba,W.heap.size<=ba->(W.grownBy X (some ba)->X.cell? ⟨w.heap.size,2,none⟩=some (.slice bo be.length bc)/\X.cell? ⟨w.heap.size,3,none⟩=some (.slice so sou.length sc)/\X.cell? ⟨w.heap.size,4,none⟩=some (.slice ao af.length ac))):=fun X ba hba hg=>by
      have hb:=hg.block w.heap.size (by omega) (by simp;omega);rw[HBW.out.2.2] at hb;exact⟨K.zad (i:=2) hb rfl,K.zad (i:=3) hb rfl,K.zad (i:=4) hb rfl⟩
     have HBw:=qH HBW.out.1;clear h3 h4 hM HM HN HG HRs HT HBW;have hnn:=h1;rcases Bool.eq_false_or_eq_true st with hst|hst <;> rcases Bool.eq_false_or_eq_true fi with hfi|hfi
     all_goals
      subst hst hfi;simp only[forall_const,Bool.false_eq_true,false_imp_iff] at h5 h6
      go_wp2_with fail
      refine HAl.mono ?_;rintro e w1 ⟨bv,ba,rfl,q1,q2,q3,q4,hb⟩;have HB1:=qH<|HBw.out.trans (hb.mono (by omega));have HG1:Hid (W.grownBy w1 (some ba)):=S.zaf hb;obtain⟨f2,f3,f4⟩:=HRB.out w1 ba q2 HG1.out;have hC1:=HC.out w1 bv ba HB1.out (by omega) (by omega) q3 q4;clear HAl HC d0 d1 d2 d3 d4 hb q4
      go_wp2_with fail
      refine hC1.mono ?_;rintro e w2 ⟨rfl,hX2,hb2,hg2⟩;have HB2:=qH hb2;have HG2:=qH<|S.zaa HG1.out hg2;obtain⟨e2,e3,e4⟩:=HRB.out w2 ba q2 HG2.out;clear hC1 f2 f3 f4 hb2 hg2;cases m1 with
      | false =>
       go_wp2;go_ret
       exact⟨L.zaj (by rw[HM2.out];simp),HB2.out⟩
      | true =>
       have hX2':=hX2 rfl;rw[show k-(be.length:Int)+be.length=k by omega] at hX2';have hC2:=HC2.out w2 bv ba HB2.out (by omega) (by omega) q3 hX2';clear hX2 hX2' HC2
       go_wp2_with fail
       refine hC2.mono ?_;rintro e w3 ⟨rfl,hX3,hb3,hg3⟩;have HB3:=qH hb3;have HG3:=qH<|S.zaa HG2.out hg3;obtain⟨e2',e3',e4'⟩:=HRB.out w3 ba q2 HG3.out;clear hC2 e2 e3 e4 hb3 hg3;cases m2 with
       | false =>
        go_wp2;go_ret
        exact⟨L.zaj (by rw[HM2.out];simp),HB3.out⟩
       | true =>
        have hC3:=HC3.out w3 bv ba HB3.out (by omega) (by omega) q3 (hX3 rfl);clear hX3 HC3
        go_wp2_with fail
        refine hC3.mono ?_;rintro e w4 ⟨rfl,_,hb4,_⟩;have HB4:=qH hb4;clear hC3 hb4;go_wp2;go_ret;exact⟨L.zaj (by rw[HM2.out];simp),HB4.out⟩
