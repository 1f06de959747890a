/-
 Forth and Back, where something is wrong.
-/
import Derived.Test.YteagjpnbiceafaaGreatDoorQBox
import Derived.Test.YteagjpnbiceafaaGreatDoorShText2
import Derived.Test.YteagjpnbiceafaaGreatDoorVLook
set_option maxHeartbeats 0
set_option maxRecDepth 20000
set_option linter.unusedSimpArgs false
set_option linter.unusedVariables false
namespace Go.Proofs.YteagjpnbiceafaaGreatDoor
open Go.RowKit Go.Lib
theorem V.five {w W:World}{B a b:Nat}(hb:Below B w W)(ha:B<=a)(hbb:B<=b)(v0 v1 v2 v3 v4:Value) :
  Below B w (((((W.setCell ⟨a,0,none⟩ v0).setCell ⟨a,1,none⟩ v1).setCell ⟨a,2,none⟩ v2).setCell ⟨b,0,none⟩ v3).setCell ⟨b,1,none⟩ v4) :=
 ((((hb.setCell (p:=⟨a,0,none⟩) ha _).setCell (p:=⟨a,1,none⟩) ha _).setCell (p:=⟨a,2,none⟩) ha _).setCell (p:=⟨b,0,none⟩) hbb _).setCell (p:=⟨b,1,none⟩) hbb _
theorem zoo (w:World)(v:Value)(l:List R.Part)(R0:R.Pts w v l)(hbad:(V.varsF l).1.1≠0) :
  Calls Tryz.prog 13 #[v] w fun e w'=>e= .returned (.tuple #[.agg #[.bool false,.slice none 0 0,.slice none 0 0],.agg #[.int .i64 (V.varsF l).1.1,.int .i64 (V.varsF l).1.2]])/\Below w.heap.size w w':=by
 have HA:Hid (∀o1 o2,Below w.heap.size w ((w.alloc o1).alloc o2)):=fun o1 o2=>((qR w).alloc qN o1).alloc (by simp) o2
 have HC:Hid (∀o1 o2,Calls Tryz.prog 35 #[v] ((w.alloc o1).alloc o2) fun e w'=>e= .returned (.tuple #[.map none,.agg #[.int .i64 (V.varsF l).1.1,.int .i64 (V.varsF l).1.2]])/\Below ((w.alloc o1).alloc o2).heap.size ((w.alloc o1).alloc o2) w'):=fun o1 o2 =>
  (zbj _ _ l (R0.below (HA.out _ _))).mono fun e w' ⟨h1,h2⟩=>⟨h1.elim (fun h=>absurd h.1 hbad) fun h=>h.2,h2⟩
 obtain⟨ao,cap,rfl⟩:=R0.len;obtain⟨⟨⟨e1,e2⟩,kn⟩,he⟩:∃o,V.varsF l=o:=⟨_,rfl⟩;rw[he] at HC hbad ⊢;simp only at HC hbad ⊢;clear he R0
 go_enter Tryz.func13,Tryz.ntmps13
 go_wp2_with fail
 refine(HC.out _ _).mono ?_;rintro e w1 ⟨rfl,b1⟩;obtain⟨h1,h2,B1,s1⟩:=K.zba b1;have HB2:Hid (∀o,Below w.heap.size w (w1.alloc o)):=fun o=>B1.alloc (by omega) o
 have k0:∀o,(w1.alloc o).cell? ⟨w.heap.size,0,none⟩=some (.bool false):=fun o=>K.zai (K.zaf h1 rfl) o
 have k1:∀o,(w1.alloc o).cell? ⟨w.heap.size,1,none⟩=some (.slice none 0 0):=fun o=>K.zai (K.zaf h1 rfl) o
 have k2:∀o,(w1.alloc o).cell? ⟨w.heap.size,2,none⟩=some (.slice none 0 0):=fun o=>K.zai (K.zaf h1 rfl) o
 have k3:∀o,(w1.alloc o).cell? ⟨w.heap.size+1,0,none⟩=some (.int .i64 0):=fun o=>K.zai (K.zaf h2 rfl) o
 have k4:∀o,(w1.alloc o).cell? ⟨w.heap.size+1,1,none⟩=some (.int .i64 0):=fun o=>K.zai (K.zaf h2 rfl) o
 have g0:∀o i,(w1.alloc o).frozen? ⟨w.heap.size,i,none⟩=false:=fun o i=>K.zao h1 o i
 have g1:∀o i,(w1.alloc o).frozen? ⟨w.heap.size+1,i,none⟩=false:=fun o i=>K.zao h2 o i
 clear b1 B1 HC h1 h2;go_wp2
 go_region
 go_wp2;refine bodyPost_ret (v:= .tuple #[.agg #[.bool false,.slice none 0 0,.slice none 0 0],.agg #[.int .i64 e1,.int .i64 e2]]) (by simp[results,Tryz.results13,go_sem, *]) rfl ?_
 exact⟨rfl,(V.five (HB2.out _) qN (by omega) _ _ _ _ _).drew⟩
end Go.Proofs.YteagjpnbiceafaaGreatDoor
namespace Go.Proofs.YteagjpnbiceafaaGreatDoor
open Go.RowKit Go.Lib
namespace V
theorem done {F:Nat}{tops:List Nat}{w:World}{vo vp:Value}{s:Script}{rvs:List Value}(hL:Leaf tops w fun W=>S.Rd W vo s.only)(hn:s.only.length<=17592186044160)(hP:PS F tops w vp s.passes rvs)(hl:s.passes.length<=1000)(hr:∀p∈s.passes,p.rules.length<=1000){a b:Nat}(ha:a∈tops)(hb:b∈tops)(haF:a<F)(hbF:b<F)(v0 v1 v2 v3 v4:Value) :
  ScIs (((((w.setCell ⟨a,0,none⟩ v0).setCell ⟨a,1,none⟩ v1).setCell ⟨a,2,none⟩ v2).setCell ⟨b,0,none⟩ v3).setCell ⟨b,1,none⟩ v4) (.agg #[.bool s.has,vo,vp]) s:=by
 have h1:=(((((hL.moves (Moves.store w 0 v0 ha)).moves (Moves.store _ 1 v1 ha)).moves (Moves.store _ 2 v2 ha)).moves (Moves.store _ 0 v3 hb)).moves (Moves.store _ 1 v4 hb)).here;have h2:=(((((hP.store 0 v0 ha haF).store 1 v1 ha haF).store 2 v2 ha haF).store 0 v3 hb hbF).store 1 v4 hb hbF).pas hl hr;obtain⟨oo,oc,rfl⟩:=zcg h1;obtain⟨po,pc,rfl⟩:=h2.len;exact⟨oo,oc,po,pc,rfl,h1,by omega,h2⟩
theorem PS.moved {F:Nat}{tops:List Nat}{w:World}{vp:Value}{ps:List Pass}{rvs:List Value}(h:PS F tops w vp ps rvs){W:World}(hs:w.heap.size<=W.heap.size)(hn:∀b,b<w.heap.size->b∉tops->W.heap[b]?=w.heap[b]?)(ho:∀k,F<=k->k<w.heap.size->W.heap[k]?=w.heap[k]?):PS F tops W vp ps rvs :=
 ⟨h.len,zde h.own fun g hg=>ho g (h.own.lt g hg).1 (h.own.lt g hg).2,fun j p rv h1 h2=>⟨(h.rows j p rv h1 h2).1.step hs hn (fun k hk=> .inl hk) fun g hg=>ho g (h.rvlt (List.mem_of_getElem? h2) g hg).1 (h.rvlt (List.mem_of_getElem? h2) g hg).2,(h.rows j p rv h1 h2).2⟩,h.top,h.apart,h.diff,fun k hk=>Nat.lt_of_lt_of_le (h.lt k hk) hs⟩
def Firm (F:Nat) (w:World) (v:Value) (s:Script):Prop:=∀W:World,w.heap.size<=W.heap.size->(∀b,F<=b->b<w.heap.size->W.heap[b]?=w.heap[b]?)->ScIs W v s
theorem Firm.here {F:Nat}{w:World}{v:Value}{s:Script}(h:Firm F w v s):ScIs w v s:=h w qN fun _ _ _=>rfl
theorem Firm.on {F:Nat}{w w':World}{v:Value}{s:Script}(h:Firm F w v s)(hs:w.heap.size<=w'.heap.size)(hb:∀b,F<=b->b<w.heap.size->w'.heap[b]?=w.heap[b]?):Firm F w' v s :=
 fun W h1 h2=>h W (Nat.le_trans hs h1) fun b hF hl=>(h2 b hF (Nat.lt_of_lt_of_le hl hs)).trans (hb b hF hl)
theorem Firm.below {F:Nat}{w w':World}{v:Value}{s:Script}(h:Firm F w v s)(hb:Below w.heap.size w w'):Firm F w' v s:=h.on hb.size fun b _ hl=>hb.block b hl
theorem Firm.store {F:Nat}{w:World}{v:Value}{s:Script}(h:Firm F w v s)(a i:Nat)(u:Value)(ha:a<F):Firm F (w.setCell ⟨a,i,none⟩ u) v s :=
 h.on (by simp) fun b hF _=>heap_setCell_other w ⟨a,i,none⟩ b u (by simp;omega)
theorem done2 {F B T:Nat}{tops:List Nat}{w:World}{vo vp:Value}{s:Script}{rvs:List Value}(hL:Leaf tops w fun W=>S.Rd W vo s.only)(hn:s.only.length<=17592186044160)(hP:PS F tops w vp s.passes rvs)(hl:s.passes.length<=1000)(hr:∀p∈s.passes,p.rules.length<=1000)(hall:∀q,q<=T->q∈tops)(hB:B+1<=T)(hF:T<F)(v0 v1 v2 v3 v4:Value) :
  Firm B (((((w.setCell ⟨B,0,none⟩ v0).setCell ⟨B,1,none⟩ v1).setCell ⟨B,2,none⟩ v2).setCell ⟨B+1,0,none⟩ v3).setCell ⟨B+1,1,none⟩ v4) (.agg #[.bool s.has,vo,vp]) s:=by
 intro W hs hW;have hsz:w.heap.size<=W.heap.size:=by simpa using hs
 have hk:∀k,T<k->k<w.heap.size->W.heap[k]?=w.heap[k]?:=fun k h1 h2=>by
  have e:=hW k (by omega) (by simpa using h2);rw[heap_setCell_other _ ⟨B+1,1,none⟩ k _ (by simp;omega),heap_setCell_other _ ⟨B+1,0,none⟩ k _ (by simp;omega),heap_setCell_other _ ⟨B,2,none⟩ k _ (by simp;omega),heap_setCell_other _ ⟨B,1,none⟩ k _ (by simp;omega),heap_setCell_other _ ⟨B,0,none⟩ k _ (by simp;omega)] at e;exact e
 have hnt:∀b,b<w.heap.size->b∉tops->W.heap[b]?=w.heap[b]?:=fun b hb hn=>hk b (Classical.byContradiction fun h=>hn (hall b (by omega))) hb
 have h1:=hL W hsz hnt;have h2:=(hP.moved hsz hnt fun k hF' hl=>hk k (by omega) hl).pas hl hr;obtain⟨oo,oc,rfl⟩:=zcg h1;obtain⟨po,pc,rfl⟩:=h2.len;exact⟨oo,oc,po,pc,rfl,h1,by omega,h2⟩
theorem zga {l:List R.Part}(h:(varsF l).1.1=0):l.length<=200/\(∀p∈l,R.partE p=0):=by
 unfold varsF at h
 by_cases hg:(R.wrong l).1=0
 ·have:=R.zfc hg;exact⟨this.1,this.2.1⟩
 ·rw[if_neg hg] at h;exact absurd h hg
theorem zny {g:ByteArray->List S.Sp}(hg:∀s,S.Fit (g s)){p:R.Part}(h:R.partE p=0):PartOk g p:=by
 rcases R.zb9 h with ⟨h1,h2,h3⟩|⟨h1,h2⟩|⟨h1,h2⟩|⟨h1,h2⟩
 ·exact⟨fun e=>by omega,fun e=>by omega,fun e=>by omega⟩
 ·exact⟨fun e=>by have:=(S.zav.1 h2).1;omega,fun e=>by omega,fun e=>by omega⟩
 ·refine⟨fun e=>by omega,fun _=> ?_,fun e=>by omega⟩;unfold R.passes at h2;have h3:=of_decide_eq_true h2;have hs:p.name.size=p.name.toList.length:=by simp[ByteArray.toList_eq]
  rw[hs];rcases h3 with h3 | h3 | h3 | h3 <;> rw[h3] <;> decide
 ·refine⟨fun e=>by omega,fun e=>by omega,fun _ _=> ?_⟩;obtain⟨_,hl,hr,_⟩:=R.zat h2;obtain⟨a1,a2,a3,_⟩:=R.zbn hl;obtain⟨b1,b2,b3,_⟩:=R.zbn hr;have r1:=zbu a1;have r2:=zbu a2;have r3:=zbu a3
  exact⟨⟨r1,r2,r3⟩,zbu b2,fun x hx=>by
   rcases hx with hx | hx | hx
   ·exact zf0 hg (r1.2 x hx)
   ·exact zf0 hg (r2.2 x hx)
   ·exact zf0 hg (r3.2 x hx)⟩
end V
theorem zl9 (w:World)(v:Value)(l:List R.Part)(R0:R.Pts w v l)(hg:(V.varsF l).1.1=0) :
  Calls Tryz.prog 13 #[v] w fun e w'=>∃v',e= .returned (.tuple #[v',.agg #[.int .i64 0,.int .i64 0]])/\V.Firm w.heap.size w' v' (V.scr (V.gOf (V.varsF l).2) l)/\Below w.heap.size w w':=by
 obtain⟨hlen,hE⟩:=V.zga hg;have HA:Hid (∀o1 o2,Below w.heap.size w ((w.alloc o1).alloc o2)):=fun o1 o2=>((qR w).alloc qN o1).alloc (by simp) o2
 have HC:Hid (∀o1 o2,Calls Tryz.prog 35 #[v] ((w.alloc o1).alloc o2) fun e w'=>(∃B,e= .returned (.tuple #[.map (some B),.agg #[.int .i64 0,.int .i64 0]])/\V.VarsIs w' B (V.varsF l).2)/\Below ((w.alloc o1).alloc o2).heap.size ((w.alloc o1).alloc o2) w'):=fun o1 o2 =>
  (zbj _ _ l (R0.below (HA.out _ _))).mono fun e w' ⟨h1,h2⟩=>⟨h1.elim (fun h=>h.2) fun h=>absurd hg h.1,h2⟩
 have HR:Hid (R.Pts w v l):=R0;obtain⟨ao,cap,rfl⟩:=R0.len;obtain⟨kn,hk⟩:∃o,(V.varsF l).2=o:=⟨_,rfl⟩;rw[hk] at HC ⊢;have HE:Hid (∀p∈l,R.partE p=0):=hE;clear hk R0 hg hE
 go_enter Tryz.func13,Tryz.ntmps13
 go_wp2_with fail
 refine(HC.out _ _).mono ?_;rintro e w1 ⟨⟨B,rfl,n,f,hM,hT⟩,b1⟩;obtain⟨h1,h2,B1,s1⟩:=K.zba b1;obtain⟨w2,hw2⟩:∃w2,w2=w1.alloc (.cells #[.int .i64 0,.int .i64 0] 36):=⟨_,rfl⟩;have bb:Below w1.heap.size w1 w2:=by rw[hw2];exact(qR w1).alloc qN _
 have hB2:Below w.heap.size w w2:=B1.trans (bb.mono (by omega));have hs2:w.heap.size+2<w2.heap.size:=by rw[hw2];simp;omega
 have x2:=(bb.block _ (by omega)).trans h1;have y2:=(bb.block _ (by omega)).trans h2;have HX:Hid (w2.heap[w.heap.size]?=some (.cells #[.bool false,.slice none 0 0,.slice none 0 0] 30)/\w2.heap[w.heap.size+1]?=some (.cells #[.int .i64 0,.int .i64 0] 36)):=⟨x2,y2⟩;have hT2:=hT.below bb qN;have hgf:∀s,S.Fit (V.gOf kn s):=fun s=>(hT s).2.2.2
 have HS:Hid (Calls Tryz.prog 36 #[.slice ao l.length cap,.map (some B)] (w1.alloc (.cells #[.int .i64 0,.int .i64 0] 36)) fun e w'=>∃tops vo vp rvs,e= .returned (.agg #[.bool (V.scr (V.gOf kn) l).has,vo,vp])/\V.Leaf tops w' (fun W=>S.Rd W vo (V.scr (V.gOf kn) l).only)/\(V.scr (V.gOf kn) l).only.length<=17592186044160/\V.PS (w2.heap.size+2) tops w' vp (V.scr (V.gOf kn) l).passes rvs/\((V.scr (V.gOf kn) l).passes= []->vp= .slice none 0 0)/\(∀q,q<=w2.heap.size->q∈tops)/\Below w2.heap.size w2 w'):=by
  rw[<- hw2];exact zfk w2 _ l (HR.out.below hB2) (by omega) B n f (V.gOf kn) (hM.below bb hM.lt) (fun s=>⟨(hT2 s).2.1,by have:=(hT2 s).2.2.1;unfold V.gOf;omega⟩) (fun p hp=>V.zny hgf (HE.out p hp)) (fun k hk=>V.zda _ l k hk)
 have HSm:Hid ((V.scr (V.gOf kn) l).passes.length<=1000/\∀p∈(V.scr (V.gOf kn) l).passes,p.rules.length<=1000):=by
  have h:=V.zda (V.gOf kn) l l.length qN;rw[List.take_length] at h;exact⟨by have:=h.1;omega,fun p hp=>by have:=h.2 p hp;omega⟩
 have HB2:Hid (Below w.heap.size w w2):=hB2;clear hM hT b1 h1 h2 B1 bb hB2 x2 y2 hT2 hgf HC HE HR HA hw2
 go_wp2_with fail
 refine HS.out.mono ?_;rintro e w3 ⟨tops,vo,vp,rvs,rfl,hL,hfew,hPS,_,hall,b3⟩;have x3:=(b3.block _ (by omega)).trans HX.out.1;have y3:=(b3.block _ (by omega)).trans HX.out.2;obtain⟨r0,r1,r2,f0,f1,f2⟩:=V.box3 x3;obtain⟨u0,u1,g0,g1⟩:=V.box2 y3;have HD:Hid (∀v0 v1 v2 v3 v4,V.Firm w.heap.size (((((w3.setCell ⟨w.heap.size,0,none⟩ v0).setCell ⟨w.heap.size,1,none⟩ v1).setCell ⟨w.heap.size,2,none⟩ v2).setCell ⟨w.heap.size+1,0,none⟩ v3).setCell ⟨w.heap.size+1,1,none⟩ v4) (.agg #[.bool (V.scr (V.gOf kn) l).has,vo,vp]) (V.scr (V.gOf kn) l)):=fun v0 v1 v2 v3 v4=>V.done2 hL hfew hPS HSm.out.1 HSm.out.2 hall (by omega) (by omega) v0 v1 v2 v3 v4
 have HB3:Hid (Below w.heap.size w w3):=HB2.out.trans (b3.mono (by omega));obtain⟨oo,oc,hvo⟩:=V.zcg hL.here;obtain⟨po,pn,pc,hvp⟩:=V.zep hPS;have l3:=L.block_lt r0;have l4:=L.block_lt u0;subst hvo hvp;clear hL hfew hPS hall b3 x3 y3 HX HS HSm HB2;go_wp2;refine bodyPost_ret (v:= .tuple #[.agg #[.bool (V.scr (V.gOf kn) l).has,.slice oo (V.scr (V.gOf kn) l).only.length oc,.slice po pn pc],.agg #[.int .i64 0,.int .i64 0]]) (by simp[results,Tryz.results13,go_sem, *]) rfl ?_;exact⟨_,rfl,HD.out _ _ _ _ _,V.five HB3.out qN (by omega) _ _ _ _ _⟩
theorem zma (w:World)(v:Value)(l:List R.Part)(R0:R.Pts w v l) :
  Calls Tryz.prog 13 #[v] w fun e w'=>∃v',e= .returned (.tuple #[v',.agg #[.int .i64 (V.forthF l).2.1,.int .i64 ((V.forthF l).2.2:Nat)]])/\V.Firm w.heap.size w' v' (V.forthF l).1/\Below w.heap.size w w':=by
 unfold V.forthF
 by_cases hg:(V.varsF l).1.1=0
 ·rw[if_pos hg];exact zl9 w v l R0 hg
 ·rw[if_neg hg];exact(zoo w v l R0 hg).mono fun e w' ⟨h1,h2⟩=>⟨_,h1,fun W _ _=>⟨none,0,none,0,rfl,S.Rd.nil _,by simp,V.Pas.nil _⟩,h2⟩
end Go.Proofs.YteagjpnbiceafaaGreatDoor
namespace Go.Proofs.YteagjpnbiceafaaGreatDoor.K
def firstR:Nat->List Rule->Int×Int
 | _,[]=>(0,0)
 | k,r::l=>if ruleE r=0 then firstR (k+1) l else (ruleE r,(k:Int))
def rulesF (l:List Rule):Int×Int:=if 200<l.length then (5,0) else firstR 0 l
def checkF (l:List Rule) (t:List Int):Int×Int:=if (rulesF l).1=0 then (textE t,0) else rulesF l
theorem zjh {l:List Rule}{k:Nat}{r:Rule}(h:l[k]?=some r):firstR k (l.drop k)=if ruleE r=0 then firstR (k+1) (l.drop (k+1)) else (ruleE r,(k:Int)):=by
 have hlt:=(qL.1 h).1;rw[List.drop_eq_getElem_cons hlt];have:l[k]=r:=by rw[List.getElem?_eq_getElem hlt] at h;exact Option.some.inj h
 rw[this];rfl
theorem zjg {l:List Rule}:∀ {k:Nat},(firstR k l).1=0->∀r∈l,ruleE r=0:=by
 induction l with
 | nil=>intro k _ r hr;cases hr
 | cons x l ih =>
  intro k h r hr;rw[firstR] at h
  by_cases hx:ruleE x=0
  ·rw[if_pos hx] at h;rcases List.mem_cons.1 hr with rfl | hr
   ·exact hx
   ·exact ih h r hr
  ·rw[if_neg hx] at h;exact absurd h hx
theorem zop {l:List Rule}:∀ {k:Nat},(firstR k l).1=0->firstR k l=(0,0):=by
 induction l with
 | nil=>intro k _;rfl
 | cons x l ih =>
  intro k h;rw[firstR] at h ⊢
  by_cases hx:ruleE x=0
  ·rw[if_pos hx] at h ⊢;exact ih h
  ·rw[if_neg hx] at h;exact absurd h hx
theorem zbc {l:List Rule}(h:(rulesF l).1=0):l.length<=200/\(∀r∈l,ruleE r=0)/\rulesF l=(0,0):=by
 unfold rulesF at h ⊢
 by_cases h1:200<l.length
 ·rw[if_pos h1] at h;exact absurd h (by decide)
 ·rw[if_neg h1] at h ⊢;exact⟨by omega,zjg h,zop h⟩
def whichN (t:List Int) (k:Int):Nat->List Rule->Int
 | _,[]=> -1
 | i,r::l=>if matchB r t k=true then (i:Int) else whichN t k (i+1) l
def which (l:List Rule) (t:List Int) (k:Int):Int:=whichN t k 0 l
theorem zm3 {t:List Int}{k:Int}{l:List Rule}:∀ {i:Nat},whichN t k i l= -1∨∃(j:Nat) (r:Rule),l[j]?=some r/\matchB r t k=true/\whichN t k i l=((i+j:Nat):Int):=by
 induction l with
 | nil=>intro i;exact .inl rfl
 | cons x l ih =>
  intro i;rw[whichN]
  by_cases hx:matchB x t k=true
  ·rw[if_pos hx];exact .inr ⟨0,x,rfl,hx,by simp⟩
  ·rw[if_neg hx];rcases ih (i:=i+1) with h | ⟨j,r,h1,h2,h3⟩
   ·exact .inl h
   ·exact .inr ⟨j+1,r,by simpa using h1,h2,by rw[h3];omega⟩
theorem zf9 {l:List Rule}{t:List Int}{k:Int}:which l t k= -1∨∃(j:Nat) (r:Rule),l[j]?=some r/\matchB r t k=true/\which l t k=(j:Int):=by
 rcases zm3 (t:=t) (k:=k) (l:=l) (i:=0) with h | ⟨j,r,h1,h2,h3⟩
 ·exact .inl h
 ·exact .inr ⟨j,r,h1,h2,by unfold which;rw[h3];omega⟩
def noRule:Rule:=⟨false,false,[],[],[],[],0⟩
def restOf (r:Rule) (rest:List Int):List Int:=r.target++rest.drop r.source.length
def play (l:List Rule):Nat->List Int->List Int->Int->Int->Int×List Int×Int×Int
 | 0,done,rest,s,p=>if rest.length=0 then (0,done,s,p) else (9,[],0,0)
 | left+1,done,rest,s,p =>
  if rest.length=0 then (0,done,s,p)
  else if which l (done++rest) done.length<0 then play l left (done++rest.take 1) (rest.drop 1) (s+1) p
  else
   let r:=(l[(which l (done++rest) done.length).toNat]?).getD noRule
   if 4000<done.length+(restOf r rest).length then (4,[],0,0)
   else play l left (done++(restOf r rest).take r.cursor.toNat) ((restOf r rest).drop r.cursor.toNat) (s+1) (p+1)
theorem zck {l:List Rule}{left:Nat}{done rest:List Int}{s p:Int}(h:rest.length=0):play l left done rest s p=(0,done,s,p):=by
 cases left <;> rw[play,if_pos h]
theorem zp4 {l:List Rule}{done rest:List Int}{s p:Int}(h:¬rest.length=0):play l 0 done rest s p=(9,[],0,0):=by
 rw[play,if_neg h]
theorem zi1 {l:List Rule}{left:Nat}{done rest:List Int}{s p:Int}(h:¬rest.length=0)(hk:which l (done++rest) done.length= -1):play l (left+1) done rest s p=play l left (done++rest.take 1) (rest.drop 1) (s+1) p:=by
 rw[play,if_neg h,if_pos (by rw[hk];decide)]
theorem znv {l:List Rule}{left:Nat}{done rest:List Int}{s p:Int}{j:Nat}{r:Rule}(h:¬rest.length=0)(hk:which l (done++rest) done.length=(j:Int))(hr:l[j]?=some r)(hm:4000<done.length+(restOf r rest).length):play l (left+1) done rest s p=(4,[],0,0):=by
 rw[play,if_neg h,if_neg (by rw[hk];omega),hk,Int.toNat_natCast,hr];simp only[Option.getD_some];rw[if_pos hm]
theorem zgo {l:List Rule}{left:Nat}{done rest:List Int}{s p:Int}{j:Nat}{r:Rule}(h:¬rest.length=0)(hk:which l (done++rest) done.length=(j:Int))(hr:l[j]?=some r)(hm:¬ 4000<done.length+(restOf r rest).length):play l (left+1) done rest s p=play l left (done++(restOf r rest).take r.cursor.toNat) ((restOf r rest).drop r.cursor.toNat) (s+1) (p+1):=by
 rw[play,if_neg h,if_neg (by rw[hk];omega),hk,Int.toNat_natCast,hr];simp only[Option.getD_some];rw[if_neg hm]
theorem fits {r:Rule}{done rest:List Int}(hE:ruleE r=0)(hm:matchB r (done++rest) done.length=true):r.source.length<=rest.length:=by
 have h:=zqh (zat hE).2.2.2.1 hm;rw[List.length_append] at h;omega
def runF (l:List Rule) (t:List Int):(List Int×Int×Int)×Int×Int :=
 if (checkF l t).1=0 then ((play l (8*t.length+40) [] t 0 0).2,(play l (8*t.length+40) [] t 0 0).1,0) else (([],0,0),checkF l t)
end Go.Proofs.YteagjpnbiceafaaGreatDoor.K
namespace Go.Proofs.YteagjpnbiceafaaGreatDoor.Cn
def lessF (r:Int):Int :=
 if (97<=r/\r<=122∨224<=r/\r<=246)∨248<=r/\r<=254 then 32
 else if (945<=r/\r<=961∨963<=r/\r<=969)∨1072<=r/\r<=1103 then 32
 else if 1104<=r/\r<=1119 then 80 else 0
def up (r:Int):Int:=r - lessF r
def low (r:Int):Int:=if lessF (r+32)=32 then r+32 else if lessF (r+80)=80 then r+80 else r
def passE (p:V.Pass):Int :=
 if p.name.toList= [] then (K.rulesF p.rules).1 else if R.passes p.name=true then (if 0<p.rules.length then 8 else 0) else 7
def firstP:Nat->List V.Pass->Int×Int
 | _,[]=>(0,0)
 | k,p::l=>if passE p=0 then firstP (k+1) l else (passE p,(k:Int))
def wrongF (s:V.Script):Int×Int :=
 if s.has=true/\¬S.wrongE s.only=0 then (S.wrongE s.only,0) else if 60<s.passes.length then (5,0) else firstP 0 s.passes
theorem ze0 {l:List V.Pass}{k:Nat}{p:V.Pass}(h:l[k]?=some p):firstP k (l.drop k)=if passE p=0 then firstP (k+1) (l.drop (k+1)) else (passE p,(k:Int)):=by
 have hlt:=(qL.1 h).1;rw[List.drop_eq_getElem_cons hlt];have:l[k]=p:=by rw[List.getElem?_eq_getElem hlt] at h;exact Option.some.inj h
 rw[this];rfl
theorem zez {l:List V.Pass}:∀ {k:Nat},(firstP k l).1=0->(∀p∈l,passE p=0)/\firstP k l=(0,0):=by
 induction l with
 | nil=>intro k _;exact⟨fun p hp=>by (cases hp),rfl⟩
 | cons x l ih =>
  intro k h;rw[firstP] at h ⊢
  by_cases hx:passE x=0
  ·rw[if_pos hx] at h ⊢;refine⟨fun p hp=> ?_,(ih h).2⟩;rcases List.mem_cons.1 hp with rfl | hp
   ·exact hx
   ·exact(ih h).1 p hp
  ·rw[if_neg hx] at h;exact absurd h hx
theorem zid {s:V.Script}(h:(wrongF s).1=0):(s.has=true->S.wrongE s.only=0)/\s.passes.length<=60/\(∀p∈s.passes,passE p=0)/\wrongF s=(0,0):=by
 unfold wrongF at h ⊢
 by_cases h1:s.has=true/\¬S.wrongE s.only=0
 ·rw[if_pos h1] at h;exact absurd h h1.2
 ·rw[if_neg h1] at h ⊢
  by_cases h2:60<s.passes.length
  ·rw[if_pos h2] at h;exact absurd h (by decide)
  ·rw[if_neg h2] at h ⊢;refine⟨fun hh=>Classical.byContradiction fun h3=>h1 ⟨hh,h3⟩,by omega,(zez h).1,(zez h).2⟩
abbrev Pl:=List K.Rule->List Int->List Int×Int
def passF (pl:Pl) (p:V.Pass) (x:List Int):List Int×Int :=
 if p.name.toList= [] then pl p.rules x
 else if p.name.toList= [117,112,112,101,114] then (x.map up,0)
 else if p.name.toList= [108,111,119,101,114] then (x.map low,0)
 else if p.name.toList= [110,117,108,108] then (x,0) else ([],0)
def thru (pl:Pl):Nat->List V.Pass->List Int->List Int×Int×Int
 | _,[],x=>(x,0,0)
 | k,p::l,x=>if (passF pl p x).2=0 then thru pl (k+1) l (passF pl p x).1 else ([],(passF pl p x).2,(k:Int))
theorem zm9 {pl:Pl}{l:List V.Pass}{k:Nat}{p:V.Pass}{x:List Int}(h:l[k]?=some p):thru pl k (l.drop k) x=if (passF pl p x).2=0 then thru pl (k+1) (l.drop (k+1)) (passF pl p x).1 else ([],(passF pl p x).2,(k:Int)):=by
 have hlt:=(qL.1 h).1;rw[List.drop_eq_getElem_cons hlt];have:l[k]=p:=by rw[List.getElem?_eq_getElem hlt] at h;exact Option.some.inj h
 rw[this];rfl
def Tx (x:List Int):Prop:=x.length<=4000/\K.allR x=true
theorem Tx.nil:Tx []:=⟨by simp,rfl⟩
theorem zgd {t:List Int}:K.textE t=0↔Tx t:=by
 unfold K.textE Tx
 by_cases h:4000<t.length
 ·rw[if_pos h];exact⟨fun h=>absurd h (by decide),fun h=>by omega⟩
 ·rw[if_neg h];cases K.allR t <;> simp <;> omega
theorem Tx.sub {x y:List Int}(h:Tx x)(hl:y.length<=x.length)(hs:∀r∈y,r∈x):Tx y :=
 ⟨Nat.le_trans hl h.1,List.all_eq_true.2 fun r hr=>List.all_eq_true.1 h.2 r (hs r hr)⟩
theorem Tx.range {x:List Int}(h:Tx x):∀r∈x,0<=r/\r<=1114111:=fun r hr=>by
 have:=List.all_eq_true.1 h.2 r hr;simp[M.right] at this;omega
theorem zbo (r:Int):lessF r=0∨(lessF r=32/\97<=r/\r<=1103)∨(lessF r=80/\1104<=r/\r<=1119):=by
 unfold lessF;repeat' split
 all_goals omega
theorem zpn {r:Int}(h:M.right r=true):M.right (up r)=true:=by
 simp[M.right] at h ⊢;unfold up;have:=zbo r;omega
theorem zob {r:Int}(h:M.right r=true):M.right (low r)=true:=by
 simp[M.right] at h ⊢;unfold low;have:=zbo (r+32);have:=zbo (r+80)
 repeat' split
 all_goals omega
theorem Tx.map {x:List Int}{f:Int->Int}(hf:∀r,M.right r=true->M.right (f r)=true)(h:Tx x):Tx (x.map f) :=
 ⟨by simpa using h.1,List.all_eq_true.2 fun r hr=>by
  obtain⟨q,hq,rfl⟩:=List.mem_map.1 hr
  exact hf q (List.all_eq_true.1 h.2 q hq)⟩
theorem zka {pl:Pl}(hpl:∀l x,Tx (pl l x).1){p:V.Pass}{x:List Int}(hx:Tx x):Tx (passF pl p x).1:=by
 unfold passF
 repeat' split
 ·exact hpl _ _
 ·exact hx.map fun r=>zpn
 ·exact hx.map fun r=>zob
 ·exact hx
 ·exact Tx.nil
theorem zm8 {pl:Pl}(hpl:∀l x,Tx (pl l x).1){l:List V.Pass}:∀ {k:Nat} {x:List Int},Tx x->Tx (thru pl k l x).1:=by
 induction l with
 | nil=>intro k x hx;exact hx
 | cons p l ih =>
  intro k x hx;rw[thru];split
  ·exact ih (zka hpl hx)
  ·exact Tx.nil
def joinP (r:Int):List (List Int×Bool)->List (List Int×Bool)
 | (x,true)::q=>(r::x,true)::q
 | q=>([r],true)::q
def cut (P:Int->Bool):List Int->List (List Int×Bool)
 | []=> []
 | r::t=>if P r=true then joinP r (cut P t) else ([r],false)::cut P t
theorem zoy {P:Int->Bool}{r:Int}{t:List Int}(h:P r=false):cut P (r::t)=([r],false)::cut P t:=by
 rw[cut,if_neg (by simp[h])]
theorem zq1 {P:Int->Bool}{b:List Int}(hb:∀r,b.head?=some r->P r=false):∀(r:Int),joinP r (cut P b)=([r],true)::cut P b:=by
 intro r;cases b with
 | nil=>rfl
 | cons y t=>rw[zoy (hb y rfl)];rfl
theorem zoz {P:Int->Bool}{b:List Int}(hb:∀r,b.head?=some r->P r=false):∀ {a:List Int},a≠ []->(∀r∈a,P r=true)->cut P (a++b)=(a,true)::cut P b:=by
 intro a
 induction a with
 | nil=>intro h;exact absurd rfl h
 | cons r a ih =>
  intro _ h;rw[List.cons_append,cut,if_pos (h r List.mem_cons_self)]
  by_cases ha:a= []
  ·subst ha;exact zq1 hb r
  ·rw[ih ha fun x hx=>h x (List.mem_cons_of_mem _ hx)];rfl
def snocP (m:Bool) (r:Int):List (List Int×Bool)->List (List Int×Bool)
 | []=> [([r],m)]
 | [(x,true)]=>if m=true then [(x++ [r],true)] else [(x,true),([r],m)]
 | q::l=>q::snocP m r l
theorem zb1 {m:Bool}{r:Int}{q:List Int×Bool}{l:List (List Int×Bool)}(hl:l≠ []):snocP m r (q::l)=q::snocP m r l:=by
 obtain⟨x,b⟩:=q;cases l with
 | nil=>exact absurd rfl hl
 | cons y l=>cases b <;> rfl
theorem zqm {y:Int}{l:List (List Int×Bool)}:joinP y l≠ []:=by
 unfold joinP;split <;> simp
theorem znc {m:Bool}{r y:Int}{l:List (List Int×Bool)}(hl:l≠ []):snocP m r (joinP y l)=joinP y (snocP m r l):=by
 match l,hl with
 | (x,true)::q,_ =>
  cases q with
  | nil =>
   cases m <;> rfl
  | cons z q =>
   rw[zb1 (by simp)];show snocP m r ((y::x,true)::z::q)=_;rw[zb1 (by simp)];rfl
 | (x,false)::q,_ =>
  show snocP m r (([y],true)::(x,false)::q)=_;rw[zb1 (by simp)];cases q with
  | nil=>rfl
  | cons z q=>rw[zb1 (by simp)];rfl
theorem zrl {P:Int->Bool}{r:Int}{t:List Int}:cut P (r::t)≠ []:=by
 rw[cut];split
 ·exact zqm
 ·simp
theorem zkn {P:Int->Bool}{r:Int}:∀ {t:List Int},cut P (t++ [r])=snocP (P r) r (cut P t):=by
 intro t
 induction t with
 | nil =>
  show cut P [r]= [([r],P r)];rw[cut];cases h:P r <;> rfl
 | cons y t ih =>
  rw[List.cons_append,cut,ih];cases t with
  | nil =>
   show (if P y=true then joinP y [([r],P r)] else ([y],false):: [([r],P r)])=snocP (P r) r (cut P [y]);rw[cut];cases h1:P y <;> cases h2:P r <;> rfl
  | cons z t =>
   conv=>rhs;rw[cut]
   split
   ·rw[znc zrl]
   ·rw[zb1 zrl]
def runP (pl:Pl) (ps:List V.Pass):List (List Int×Bool)->List Int->List Int×Int×Int
 | [],out=>(out,0,0)
 | q::l,out=>if q.2=true then (if (thru pl 0 ps q.1).2.1=0 then runP pl ps l (out++(thru pl 0 ps q.1).1) else ([],(thru pl 0 ps q.1).2)) else runP pl ps l (out++q.1)
def inS (s:V.Script) (r:Int):Bool:= !s.has||S.memb s.only r
def goF (pl:Pl) (s:V.Script) (t:List Int):List Int×Int×Int :=
 if (wrongF s).1=0 then
  if K.textE t=0 then
   if (runP pl s.passes (cut (inS s) t) []).2.1=0 then
    if 4000<(runP pl s.passes (cut (inS s) t) []).1.length then ([],4,(s.passes.length:Int)) else ((runP pl s.passes (cut (inS s) t) []).1,0,0)
   else ([],(runP pl s.passes (cut (inS s) t) []).2)
  else ([],K.textE t,0)
 else ([],wrongF s)
end Go.Proofs.YteagjpnbiceafaaGreatDoor.Cn
