/-
  What resolve.rule makes of two sides: the walk.
-/
import Derived.Test.YtmcljejgbikbhabGreatDoorVPut
set_option maxHeartbeats 0
namespace Go.Proofs.YtmcljejgbikbhabGreatDoor
open Go.RowKit
set_option maxRecDepth 20000
set_option linter.unusedSimpArgs false
set_option linter.unusedVariables false
theorem zqg (w:World)(va vb:Value)(a b:R.Side)(bm:Nat)(g:ByteArray->List S.Sp)(HV:V.Vars w bm g)(RA:R.SdIs w va a)(RB:R.SdIs w vb b)(ha:V.Right a.before/\V.Right a.source/\V.Right a.after)(hb:V.Right b.source)(hfit:∀x,(x∈a.before∨x∈a.source∨x∈a.after)->S.Fit (V.setOf g x)) :
    Calls Tryz.prog 48 #[va,vb,.func (.func 73) #[] #[.pointer (some ⟨bm,0,none⟩)]] w fun e w'=>∃bo bc so sc ao ac ta tc,e= .returned (.agg #[.bool a.start,.bool a.fin,.slice bo a.before.length bc,.slice so a.source.length sc,.slice ao a.after.length ac,.slice ta b.source.length tc,.int .i64 (V.ruleOf g a b).cursor]) /\
      R.Stays w.heap.size none w' (fun W=>K.RuIs W (.agg #[.bool a.start,.bool a.fin,.slice bo a.before.length bc,.slice so a.source.length sc,.slice ao a.after.length ac,.slice ta b.source.length tc,.int .i64 (V.ruleOf g a b).cursor]) (V.ruleOf g a b))/\Below w.heap.size w w':=by
  obtain⟨pbo,pbc,pso,psc,pao,pac,rfl,A1,A2,A3,hcuA⟩:=RA;obtain⟨qbo,qbc,qso,qsc,qao,qac,rfl,B1,B2,B3,hcuB⟩:=RB
  have HC:Hid (∀X,Below w.heap.size w X->∀(xo:Option Addr) (xc:Nat) (x:List R.Item),R.Its w (.slice xo x.length xc) x->V.Right x->(∀y∈x,S.Fit (V.setOf g y))->Calls Tryz.prog 74 #[.slice xo x.length xc,.func (.func 73) #[] #[.pointer (some ⟨bm,0,none⟩)]] X fun e w'=>∃yo yc,e= .returned (.slice yo x.length yc)/\V.Mn X.heap.size w'.heap.size w' (fun W=>K.Ss W (.slice yo x.length yc) (x.map (V.setOf g)))/\Below X.heap.size X w'):=fun X hX xo xc x hx hr hf=>by
    refine(zpd X _ x bm g (HV.below hX) (hx.below hX) (by have:=hr.1;omega) (V.zn5 hr)).mono fun e w' ⟨v',he,hrow,hb'⟩=> ?_
    obtain⟨yo,yc,hv,hm⟩:=V.zs9 hrow (fun s hs=>by obtain⟨y,hy,rfl⟩:=List.mem_map.1 hs;exact hf y hy) (by rw[List.length_map];have:=hr.1;omega);rw[List.length_map] at hv;subst hv;exact⟨yo,yc,he,⟨hb'.size,hm⟩,hb'⟩
  have HT:Hid (∀X,Below w.heap.size w X->Calls Tryz.prog 75 #[.slice qso b.source.length qsc,.func (.func 76) #[] #[]] X fun e w'=>∃yo yc,e= .returned (.slice yo b.source.length yc)/\V.Mn X.heap.size w'.heap.size w' (fun W=>L.Rd W (.slice yo b.source.length yc) .i32 (b.source.map (·.rune)))/\Below X.heap.size X w'):=fun X hX=>by
    refine(zpe X _ b.source (B2.below hX) (by have:=hb.1;omega)).mono fun e w' ⟨v',he,hown,hb'⟩=> ?_
    have hown2:w'.ownsRow X.heap.size 21 1 v' (b.source.map (·.rune)).length ((b.source.map (·.rune)).map (Value.int .i32)):=by rw[List.length_map,List.map_map];exact hown
    obtain⟨yo,yc,hv,_⟩:=L.Rd.za3 hown2;rw[List.length_map] at hv;subst hv;refine⟨yo,yc,he,⟨hb'.size,fun W' hW=> ?_⟩,hb'⟩
    have h3:W'.ownsRow X.heap.size 21 1 (.slice yo b.source.length yc) (b.source.map (·.rune)).length ((b.source.map (·.rune)).map (Value.int .i32)):=by
      refine⟨hown2.1,?_⟩;rcases hown2.2 with h | ⟨gg,cap,cur,hv,hB,hg,rr⟩
      · exact .inl h
      · exact .inr ⟨gg,cap,cur,hv,hB,by rw[hW gg hB (qA.1 hg).1];exact hg,rr⟩
    exact L.Rd.za3 h3
  have HR:Hid (R.Its w (.slice pbo a.before.length pbc) a.before/\R.Its w (.slice pso a.source.length psc) a.source/\R.Its w (.slice pao a.after.length pac) a.after):=⟨A1,A2,A3⟩;have HF:Hid (∀x,(x∈a.before∨x∈a.source∨x∈a.after)->S.Fit (V.setOf g x)):=hfit;have HRi:Hid ((V.Right a.before/\V.Right a.source/\V.Right a.after)/\V.Right b.source):=⟨ha,hb⟩;have HC1:Hid (∀X,Below w.heap.size w X->Calls Tryz.prog 74 #[.slice pbo a.before.length pbc,.func (.func 73) #[] #[.pointer (some ⟨bm,0,none⟩)]] X fun e w'=>∃yo yc,e= .returned (.slice yo a.before.length yc)/\V.Mn X.heap.size w'.heap.size w' (fun W=>K.Ss W (.slice yo a.before.length yc) (a.before.map (V.setOf g)))/\Below X.heap.size X w'):=fun X hX=>HC.out X hX _ _ _ A1 ha.1 fun y hy=>hfit y (.inl hy)
  have HC2:Hid (∀X,Below w.heap.size w X->Calls Tryz.prog 74 #[.slice pso a.source.length psc,.func (.func 73) #[] #[.pointer (some ⟨bm,0,none⟩)]] X fun e w'=>∃yo yc,e= .returned (.slice yo a.source.length yc)/\V.Mn X.heap.size w'.heap.size w' (fun W=>K.Ss W (.slice yo a.source.length yc) (a.source.map (V.setOf g)))/\Below X.heap.size X w'):=fun X hX=>HC.out X hX _ _ _ A2 ha.2.1 fun y hy=>hfit y (.inr (.inl hy))
  have HC3:Hid (∀X,Below w.heap.size w X->Calls Tryz.prog 74 #[.slice pao a.after.length pac,.func (.func 73) #[] #[.pointer (some ⟨bm,0,none⟩)]] X fun e w'=>∃yo yc,e= .returned (.slice yo a.after.length yc)/\V.Mn X.heap.size w'.heap.size w' (fun W=>K.Ss W (.slice yo a.after.length yc) (a.after.map (V.setOf g)))/\Below X.heap.size X w'):=fun X hX=>HC.out X hX _ _ _ A3 ha.2.2 fun y hy=>hfit y (.inr (.inr hy))
  clear HC hfit A1 A2 A3 B1 B2 B3 HV ha hb HR HF;obtain⟨ast,afi,abe,aso,aaf,acu⟩:=a;obtain⟨bst,bfi,bbe,bso,baf,bcu⟩:=b;simp only at *;obtain⟨W0,hW0⟩:∃W0,W0=((w.alloc (.cells #[.bool ast,.bool afi,.slice pbo abe.length pbc,.slice pso aso.length psc,.slice pao aaf.length pac,.int .i64 acu] 100)).alloc (.cells #[.bool bst,.bool bfi,.slice qbo bbe.length qbc,.slice qso bso.length qsc,.slice qao baf.length qac,.int .i64 bcu] 100)).alloc (.cells #[.bool false,.bool false,.slice none 0 0,.slice none 0 0,.slice none 0 0,.slice none 0 0,.int .i64 0] 38):=⟨_,rfl⟩;have hB0:Below w.heap.size w W0:=by rw[hW0];exact(((qR w).alloc qN _).alloc (by simp) _).alloc (by simp;omega) _
  have hs0:W0.heap.size=w.heap.size+3:=by rw[hW0];simp
  have hh3:W0.heap[w.heap.size]?=some (.cells #[.bool ast,.bool afi,.slice pbo abe.length pbc,.slice pso aso.length psc,.slice pao aaf.length pac,.int .i64 acu] 100):=by
    rw[hW0,Below.heap_alloc _ _ _ (by simp;omega),Below.heap_alloc _ _ _ (by simp)];exact heap_alloc_new w _
  have hh4:W0.heap[w.heap.size+1]?=some (.cells #[.bool bst,.bool bfi,.slice qbo bbe.length qbc,.slice qso bso.length qsc,.slice qao baf.length qac,.int .i64 bcu] 100):=by
    rw[hW0,Below.heap_alloc _ _ _ (by simp)];have h:=heap_alloc_new (w.alloc (.cells #[.bool ast,.bool afi,.slice pbo abe.length pbc,.slice pso aso.length psc,.slice pao aaf.length pac,.int .i64 acu] 100)) (.cells #[.bool bst,.bool bfi,.slice qbo bbe.length qbc,.slice qso bso.length qsc,.slice qao baf.length qac,.int .i64 bcu] 100);rw[show (w.alloc (.cells #[.bool ast,.bool afi,.slice pbo abe.length pbc,.slice pso aso.length psc,.slice pao aaf.length pac,.int .i64 acu] 100)).heap.size=w.heap.size+1 by simp] at h;exact h
  have hh6:W0.heap[w.heap.size+2]?=some (.cells #[.bool false,.bool false,.slice none 0 0,.slice none 0 0,.slice none 0 0,.slice none 0 0,.int .i64 0] 38):=by
    rw[hW0];have h:=heap_alloc_new ((w.alloc (.cells #[.bool ast,.bool afi,.slice pbo abe.length pbc,.slice pso aso.length psc,.slice pao aaf.length pac,.int .i64 acu] 100)).alloc (.cells #[.bool bst,.bool bfi,.slice qbo bbe.length qbc,.slice qso bso.length qsc,.slice qao baf.length qac,.int .i64 bcu] 100)) (.cells #[.bool false,.bool false,.slice none 0 0,.slice none 0 0,.slice none 0 0,.slice none 0 0,.int .i64 0] 38);rw[show ((w.alloc (.cells #[.bool ast,.bool afi,.slice pbo abe.length pbc,.slice pso aso.length psc,.slice pao aaf.length pac,.int .i64 acu] 100)).alloc (.cells #[.bool bst,.bool bfi,.slice qbo bbe.length qbc,.slice qso bso.length qsc,.slice qao baf.length qac,.int .i64 bcu] 100)).heap.size=w.heap.size+2 by simp] at h;exact h
  have q0:Below w.heap.size w W0.drew:=hB0.drew;have k0:Below w.heap.size w W0.drew/\W0.drew.cell? ⟨w.heap.size,0,none⟩=some (.bool ast)/\W0.drew.cell? ⟨w.heap.size,1,none⟩=some (.bool afi)/\W0.drew.cell? ⟨w.heap.size,2,none⟩=some (.slice pbo abe.length pbc)/\W0.drew.cell? ⟨w.heap.size,3,none⟩=some (.slice pso aso.length psc)/\W0.drew.cell? ⟨w.heap.size,4,none⟩=some (.slice pao aaf.length pac)/\W0.drew.cell? ⟨w.heap.size+1,3,none⟩=some (.slice qso bso.length qsc)/\W0.drew.cell? ⟨w.heap.size+1,5,none⟩=some (.int .i64 bcu)/\W0.drew.heap[w.heap.size+2]?=some (.cells #[.bool false,.bool false,.slice none 0 0,.slice none 0 0,.slice none 0 0,.slice none 0 0,.int .i64 0] 38):=⟨q0,K.zaf (w:=W0) hh3 rfl,K.zaf (w:=W0) hh3 rfl,K.zaf (w:=W0) hh3 rfl,K.zaf (w:=W0) hh3 rfl,K.zaf (w:=W0) hh3 rfl,K.zaf (w:=W0) hh4 rfl,K.zaf (w:=W0) hh4 rfl,hh6⟩;have HS0:Hid (Below w.heap.size w W0.drew/\W0.drew.cell? ⟨w.heap.size,0,none⟩=some (.bool ast)/\W0.drew.cell? ⟨w.heap.size,1,none⟩=some (.bool afi)/\W0.drew.cell? ⟨w.heap.size,2,none⟩=some (.slice pbo abe.length pbc)/\W0.drew.cell? ⟨w.heap.size,3,none⟩=some (.slice pso aso.length psc)/\W0.drew.cell? ⟨w.heap.size,4,none⟩=some (.slice pao aaf.length pac)/\W0.drew.cell? ⟨w.heap.size+1,3,none⟩=some (.slice qso bso.length qsc)/\W0.drew.cell? ⟨w.heap.size+1,5,none⟩=some (.int .i64 bcu)/\W0.drew.heap[w.heap.size+2]?=some (.cells #[.bool false,.bool false,.slice none 0 0,.slice none 0 0,.slice none 0 0,.slice none 0 0,.int .i64 0] 38)):=k0
  have SK:Hid (∀X Y:World,(Below w.heap.size w X/\X.cell? ⟨w.heap.size,0,none⟩=some (.bool ast)/\X.cell? ⟨w.heap.size,1,none⟩=some (.bool afi)/\X.cell? ⟨w.heap.size,2,none⟩=some (.slice pbo abe.length pbc)/\X.cell? ⟨w.heap.size,3,none⟩=some (.slice pso aso.length psc)/\X.cell? ⟨w.heap.size,4,none⟩=some (.slice pao aaf.length pac)/\X.cell? ⟨w.heap.size+1,3,none⟩=some (.slice qso bso.length qsc)/\X.cell? ⟨w.heap.size+1,5,none⟩=some (.int .i64 bcu)/\X.heap[w.heap.size+2]?=some (.cells #[.bool false,.bool false,.slice none 0 0,.slice none 0 0,.slice none 0 0,.slice none 0 0,.int .i64 0] 38))->Below X.heap.size X Y->(Below w.heap.size w Y/\Y.cell? ⟨w.heap.size,0,none⟩=some (.bool ast)/\Y.cell? ⟨w.heap.size,1,none⟩=some (.bool afi)/\Y.cell? ⟨w.heap.size,2,none⟩=some (.slice pbo abe.length pbc)/\Y.cell? ⟨w.heap.size,3,none⟩=some (.slice pso aso.length psc)/\Y.cell? ⟨w.heap.size,4,none⟩=some (.slice pao aaf.length pac)/\Y.cell? ⟨w.heap.size+1,3,none⟩=some (.slice qso bso.length qsc)/\Y.cell? ⟨w.heap.size+1,5,none⟩=some (.int .i64 bcu)/\Y.heap[w.heap.size+2]?=some (.cells #[.bool false,.bool false,.slice none 0 0,.slice none 0 0,.slice none 0 0,.slice none 0 0,.int .i64 0] 38))):=fun X Y h z=>by
    obtain⟨h0,h1,h2,h3,h4,h5,h6,h7,h8⟩:=h;exact⟨V.goes h0 z,(z.cell (p:=⟨w.heap.size,0,none⟩) (L.block_lt h1)).trans h1,(z.cell (p:=⟨w.heap.size,1,none⟩) (L.block_lt h1)).trans h2,(z.cell (p:=⟨w.heap.size,2,none⟩) (L.block_lt h1)).trans h3,(z.cell (p:=⟨w.heap.size,3,none⟩) (L.block_lt h1)).trans h4,(z.cell (p:=⟨w.heap.size,4,none⟩) (L.block_lt h1)).trans h5,(z.cell (p:=⟨w.heap.size+1,3,none⟩) (L.block_lt h6)).trans h6,(z.cell (p:=⟨w.heap.size+1,5,none⟩) (L.block_lt h6)).trans h7,K.zae h8 z⟩
  have SA:Hid (∀(X:World) (o:Obj),(Below w.heap.size w X/\X.cell? ⟨w.heap.size,0,none⟩=some (.bool ast)/\X.cell? ⟨w.heap.size,1,none⟩=some (.bool afi)/\X.cell? ⟨w.heap.size,2,none⟩=some (.slice pbo abe.length pbc)/\X.cell? ⟨w.heap.size,3,none⟩=some (.slice pso aso.length psc)/\X.cell? ⟨w.heap.size,4,none⟩=some (.slice pao aaf.length pac)/\X.cell? ⟨w.heap.size+1,3,none⟩=some (.slice qso bso.length qsc)/\X.cell? ⟨w.heap.size+1,5,none⟩=some (.int .i64 bcu)/\X.heap[w.heap.size+2]?=some (.cells #[.bool false,.bool false,.slice none 0 0,.slice none 0 0,.slice none 0 0,.slice none 0 0,.int .i64 0] 38))->(Below w.heap.size w (X.alloc o)/\(X.alloc o).cell? ⟨w.heap.size,0,none⟩=some (.bool ast)/\(X.alloc o).cell? ⟨w.heap.size,1,none⟩=some (.bool afi)/\(X.alloc o).cell? ⟨w.heap.size,2,none⟩=some (.slice pbo abe.length pbc)/\(X.alloc o).cell? ⟨w.heap.size,3,none⟩=some (.slice pso aso.length psc)/\(X.alloc o).cell? ⟨w.heap.size,4,none⟩=some (.slice pao aaf.length pac)/\(X.alloc o).cell? ⟨w.heap.size+1,3,none⟩=some (.slice qso bso.length qsc)/\(X.alloc o).cell? ⟨w.heap.size+1,5,none⟩=some (.int .i64 bcu)/\(X.alloc o).heap[w.heap.size+2]?=some (.cells #[.bool false,.bool false,.slice none 0 0,.slice none 0 0,.slice none 0 0,.slice none 0 0,.int .i64 0] 38))):=fun X o h=>SK.out X _ h ((qR X).alloc qN o)
  have SD:Hid (∀o:Obj,Below w.heap.size w (W0.alloc o).drew/\(W0.alloc o).drew.cell? ⟨w.heap.size,0,none⟩=some (.bool ast)/\(W0.alloc o).drew.cell? ⟨w.heap.size,1,none⟩=some (.bool afi)/\(W0.alloc o).drew.cell? ⟨w.heap.size,2,none⟩=some (.slice pbo abe.length pbc)/\(W0.alloc o).drew.cell? ⟨w.heap.size,3,none⟩=some (.slice pso aso.length psc)/\(W0.alloc o).drew.cell? ⟨w.heap.size,4,none⟩=some (.slice pao aaf.length pac)/\(W0.alloc o).drew.cell? ⟨w.heap.size+1,3,none⟩=some (.slice qso bso.length qsc)/\(W0.alloc o).drew.cell? ⟨w.heap.size+1,5,none⟩=some (.int .i64 bcu)/\(W0.alloc o).drew.heap[w.heap.size+2]?=some (.cells #[.bool false,.bool false,.slice none 0 0,.slice none 0 0,.slice none 0 0,.slice none 0 0,.int .i64 0] 38)):=fun o=>SA.out W0.drew o HS0.out
  have qD:∀o:Obj,Below w.heap.size w (W0.alloc o).drew:=fun o=>(SD.out o).1
  have HqD:Hid (∀o:Obj,Below w.heap.size w (W0.alloc o).drew):=qD
  have S7:Hid (∀(X:World) (rb:Nat) (v0 v1 v2 v3 v4 v5 v6:Value),(Below w.heap.size w X/\X.cell? ⟨w.heap.size,0,none⟩=some (.bool ast)/\X.cell? ⟨w.heap.size,1,none⟩=some (.bool afi)/\X.cell? ⟨w.heap.size,2,none⟩=some (.slice pbo abe.length pbc)/\X.cell? ⟨w.heap.size,3,none⟩=some (.slice pso aso.length psc)/\X.cell? ⟨w.heap.size,4,none⟩=some (.slice pao aaf.length pac)/\X.cell? ⟨w.heap.size+1,3,none⟩=some (.slice qso bso.length qsc)/\X.cell? ⟨w.heap.size+1,5,none⟩=some (.int .i64 bcu)/\X.heap[w.heap.size+2]?=some (.cells #[.bool false,.bool false,.slice none 0 0,.slice none 0 0,.slice none 0 0,.slice none 0 0,.int .i64 0] 38))->w.heap.size+3<=rb->(Below w.heap.size w (((((((X.setCell ⟨rb,0,none⟩ v0).setCell ⟨rb,1,none⟩ v1).setCell ⟨rb,2,none⟩ v2).setCell ⟨rb,3,none⟩ v3).setCell ⟨rb,4,none⟩ v4).setCell ⟨rb,5,none⟩ v5).setCell ⟨rb,6,none⟩ v6)/\(((((((X.setCell ⟨rb,0,none⟩ v0).setCell ⟨rb,1,none⟩ v1).setCell ⟨rb,2,none⟩ v2).setCell ⟨rb,3,none⟩ v3).setCell ⟨rb,4,none⟩ v4).setCell ⟨rb,5,none⟩ v5).setCell ⟨rb,6,none⟩ v6).cell? ⟨w.heap.size,0,none⟩=some (.bool ast)/\(((((((X.setCell ⟨rb,0,none⟩ v0).setCell ⟨rb,1,none⟩ v1).setCell ⟨rb,2,none⟩ v2).setCell ⟨rb,3,none⟩ v3).setCell ⟨rb,4,none⟩ v4).setCell ⟨rb,5,none⟩ v5).setCell ⟨rb,6,none⟩ v6).cell? ⟨w.heap.size,1,none⟩=some (.bool afi)/\(((((((X.setCell ⟨rb,0,none⟩ v0).setCell ⟨rb,1,none⟩ v1).setCell ⟨rb,2,none⟩ v2).setCell ⟨rb,3,none⟩ v3).setCell ⟨rb,4,none⟩ v4).setCell ⟨rb,5,none⟩ v5).setCell ⟨rb,6,none⟩ v6).cell? ⟨w.heap.size,2,none⟩=some (.slice pbo abe.length pbc)/\(((((((X.setCell ⟨rb,0,none⟩ v0).setCell ⟨rb,1,none⟩ v1).setCell ⟨rb,2,none⟩ v2).setCell ⟨rb,3,none⟩ v3).setCell ⟨rb,4,none⟩ v4).setCell ⟨rb,5,none⟩ v5).setCell ⟨rb,6,none⟩ v6).cell? ⟨w.heap.size,3,none⟩=some (.slice pso aso.length psc)/\(((((((X.setCell ⟨rb,0,none⟩ v0).setCell ⟨rb,1,none⟩ v1).setCell ⟨rb,2,none⟩ v2).setCell ⟨rb,3,none⟩ v3).setCell ⟨rb,4,none⟩ v4).setCell ⟨rb,5,none⟩ v5).setCell ⟨rb,6,none⟩ v6).cell? ⟨w.heap.size,4,none⟩=some (.slice pao aaf.length pac)/\(((((((X.setCell ⟨rb,0,none⟩ v0).setCell ⟨rb,1,none⟩ v1).setCell ⟨rb,2,none⟩ v2).setCell ⟨rb,3,none⟩ v3).setCell ⟨rb,4,none⟩ v4).setCell ⟨rb,5,none⟩ v5).setCell ⟨rb,6,none⟩ v6).cell? ⟨w.heap.size+1,3,none⟩=some (.slice qso bso.length qsc)/\(((((((X.setCell ⟨rb,0,none⟩ v0).setCell ⟨rb,1,none⟩ v1).setCell ⟨rb,2,none⟩ v2).setCell ⟨rb,3,none⟩ v3).setCell ⟨rb,4,none⟩ v4).setCell ⟨rb,5,none⟩ v5).setCell ⟨rb,6,none⟩ v6).cell? ⟨w.heap.size+1,5,none⟩=some (.int .i64 bcu)/\(((((((X.setCell ⟨rb,0,none⟩ v0).setCell ⟨rb,1,none⟩ v1).setCell ⟨rb,2,none⟩ v2).setCell ⟨rb,3,none⟩ v3).setCell ⟨rb,4,none⟩ v4).setCell ⟨rb,5,none⟩ v5).setCell ⟨rb,6,none⟩ v6).heap[w.heap.size+2]?=some (.cells #[.bool false,.bool false,.slice none 0 0,.slice none 0 0,.slice none 0 0,.slice none 0 0,.int .i64 0] 38))):=fun X rb v0 v1 v2 v3 v4 v5 v6 h hrb=>by
    obtain⟨h0,h1,h2,h3,h4,h5,h6,h7,h8⟩:=h
    have oth:∀k,k≠rb->(((((((X.setCell ⟨rb,0,none⟩ v0).setCell ⟨rb,1,none⟩ v1).setCell ⟨rb,2,none⟩ v2).setCell ⟨rb,3,none⟩ v3).setCell ⟨rb,4,none⟩ v4).setCell ⟨rb,5,none⟩ v5).setCell ⟨rb,6,none⟩ v6).heap[k]?=X.heap[k]?:=fun k hk=>by
      rw[heap_setCell_other _ ⟨rb,6,none⟩ k _ hk,heap_setCell_other _ ⟨rb,5,none⟩ k _ hk,heap_setCell_other _ ⟨rb,4,none⟩ k _ hk,heap_setCell_other _ ⟨rb,3,none⟩ k _ hk,heap_setCell_other _ ⟨rb,2,none⟩ k _ hk,heap_setCell_other _ ⟨rb,1,none⟩ k _ hk,heap_setCell_other _ ⟨rb,0,none⟩ k _ hk]
    have c3:∀i,(((((((X.setCell ⟨rb,0,none⟩ v0).setCell ⟨rb,1,none⟩ v1).setCell ⟨rb,2,none⟩ v2).setCell ⟨rb,3,none⟩ v3).setCell ⟨rb,4,none⟩ v4).setCell ⟨rb,5,none⟩ v5).setCell ⟨rb,6,none⟩ v6).cell? ⟨w.heap.size,i,none⟩=X.cell? ⟨w.heap.size,i,none⟩:=fun i=>World.cell?_of_block (a:=⟨w.heap.size,i,none⟩) (oth w.heap.size (by omega))
    have c4:∀i,(((((((X.setCell ⟨rb,0,none⟩ v0).setCell ⟨rb,1,none⟩ v1).setCell ⟨rb,2,none⟩ v2).setCell ⟨rb,3,none⟩ v3).setCell ⟨rb,4,none⟩ v4).setCell ⟨rb,5,none⟩ v5).setCell ⟨rb,6,none⟩ v6).cell? ⟨w.heap.size+1,i,none⟩=X.cell? ⟨w.heap.size+1,i,none⟩:=fun i=>World.cell?_of_block (a:=⟨w.heap.size+1,i,none⟩) (oth (w.heap.size+1) (by omega))
    have hw:w.heap.size<=rb:=by omega
    refine⟨((((((h0.setCell (p:=⟨rb,0,none⟩) hw _).setCell (p:=⟨rb,1,none⟩) hw _).setCell (p:=⟨rb,2,none⟩) hw _).setCell (p:=⟨rb,3,none⟩) hw _).setCell (p:=⟨rb,4,none⟩) hw _).setCell (p:=⟨rb,5,none⟩) hw _).setCell (p:=⟨rb,6,none⟩) hw _,?_,?_,?_,?_,?_,?_,?_,?_⟩
    · rw[c3];exact h1
    · rw[c3];exact h2
    · rw[c3];exact h3
    · rw[c3];exact h4
    · rw[c3];exact h5
    · rw[c4];exact h6
    · rw[c4];exact h7
    · rw[oth (w.heap.size+2) (by omega)];exact h8
  have hs0a:W0.heap.size<=w.heap.size+3:=by omega
  have hs0b:w.heap.size+3<=W0.heap.size:=by omega
  clear k0 hs0 qD
  go_enter Tryz.func48,Tryz.ntmps48
  go_wp2;rw[<- hW0]
  clear hW0
  go_cut [7] (fun v7 wx=>∃rb p1 p2 s1 s2 a1 a2 t1 t2,v7= .pointer (some ⟨rb,0,none⟩)/\Hid (V.Made w g abe aso aaf bso wx rb (.bool ast) (.bool afi) p1 p2 s1 s2 a1 a2 t1 t2 bcu))
  case first =>
    go_region_held3 (fun w'=>Below w.heap.size w w'/\w'.cell? ⟨w.heap.size,0,none⟩=some (.bool ast)/\w'.cell? ⟨w.heap.size,1,none⟩=some (.bool afi)/\w'.cell? ⟨w.heap.size,2,none⟩=some (.slice pbo abe.length pbc)/\w'.cell? ⟨w.heap.size,3,none⟩=some (.slice pso aso.length psc)/\w'.cell? ⟨w.heap.size,4,none⟩=some (.slice pao aaf.length pac)/\w'.cell? ⟨w.heap.size+1,3,none⟩=some (.slice qso bso.length qsc)/\w'.cell? ⟨w.heap.size+1,5,none⟩=some (.int .i64 bcu)/\w'.heap[w.heap.size+2]?=some (.cells #[.bool false,.bool false,.slice none 0 0,.slice none 0 0,.slice none 0 0,.slice none 0 0,.int .i64 0] 38))
      (first | with_reducible exact HS0.out | with_reducible exact k4 | with_reducible exact k3 | with_reducible exact k2 | with_reducible exact k1 | with_reducible exact SA.out _ _ k4 | with_reducible exact SA.out _ _ k3 | with_reducible exact SA.out _ _ k2 | with_reducible exact SA.out _ _ k1 | with_reducible exact SD.out _ | with_reducible exact S7.out _ _ _ _ _ _ _ _ _ k4 (by omega))
      (first
        | (have hy:=z3;clear hy;go_at_call 75;refine(HT.out _ (by first | with_reducible exact q3 | with_reducible exact Below.alloc q3 q3.size _)).mono ?_;rintro e w4 ⟨t1,t2,rfl,m4,z4⟩;have k4:=SK.out _ _ (by first | with_reducible exact k3 | with_reducible exact SA.out _ _ k3) z4;have g4:w.heap.size+3<=w4.heap.size:=(by have h:=z4.size;(try simp at h);omega);first | (have r4:=K.zae r3 z4;obtain⟨⟨y0,y1,y2,y3,y4,y5,y6⟩,ff⟩:=V.cells7 r4) | (have r4:=V.ziy z4;obtain⟨⟨y0,y1,y2,y3,y4,y5,y6⟩,ff⟩:=V.cells7 r4) | skip)
        | ((fail_if_success (have hz:=z3));have hy:=z2;clear hy;go_at_call 74;refine(HC3.out _ (by first | with_reducible exact q2 | with_reducible exact Below.alloc q2 q2.size _)).mono ?_;rintro e w3 ⟨a1,a2,rfl,m3,z3⟩;have k3:=SK.out _ _ (by first | with_reducible exact k2 | with_reducible exact SA.out _ _ k2) z3;have q3:=k3.1;have g3:w.heap.size+3<=w3.heap.size:=(by have h:=z3.size;(try simp at h);omega);first | (have r3:=K.zae r2 z3) | (have r3:=V.ziy z3) | skip)
        | ((fail_if_success (have hz:=z2));have hy:=z1;clear hy;go_at_call 74;refine(HC2.out _ (by first | with_reducible exact q1 | with_reducible exact Below.alloc q1 q1.size _)).mono ?_;rintro e w2 ⟨s1,s2,rfl,m2,z2⟩;have k2:=SK.out _ _ (by first | with_reducible exact k1 | with_reducible exact SA.out _ _ k1) z2;have q2:=k2.1;have g2:w.heap.size+3<=w2.heap.size:=(by have h:=z2.size;(try simp at h);omega);first | (have r2:=K.zae r1 z2) | (have r2:=V.ziy z2) | skip)
        | ((fail_if_success (have hz:=z1));go_at_call 74;refine(HC1.out _ (by first | with_reducible exact q0 | with_reducible exact HqD.out _)).mono ?_;rintro e w1 ⟨p1,p2,rfl,m1,z1⟩;have k1:=SK.out _ _ (by first | with_reducible exact HS0.out | with_reducible exact SD.out _) z1;have q1:=k1.1;have g1:w.heap.size+3<=w1.heap.size:=(by have h:=z1.size;(try simp at h);omega);first | (have r1:=V.zqm z1) | skip)
        | fail)
    all_goals
      have c1:=z1.size;have c2:=z2.size;have c3:=z3.size;have c4:=z4.size
      try simp at c1
      try simp at c2
      try simp at c3
      try simp at c4
      have hb6:=k4.2.2.2.2.2.2.2.2
      first
        | (obtain⟨hF,hG⟩:=V.zir r4 (.bool ast) (.bool afi) (.slice p1 abe.length p2) (.slice s1 aso.length s2) (.slice a1 aaf.length a2) (.slice t1 bso.length t2) (.int .i64 bcu)
           have E4:=V.ztw hG
           have hBx:=k4.1.grown hG k4.1.size (fun q hq=>by have h9:=Option.some.inj hq;omega))
        | (have hF:=heap_alloc_new w4 (.cells #[.bool ast,.bool afi,.slice p1 abe.length p2,.slice s1 aso.length s2,.slice a1 aaf.length a2,.slice t1 bso.length t2,.int .i64 bcu] 38)
           have E4:=V.zrc (A:=w4) (o:= .cells #[.bool ast,.bool afi,.slice p1 abe.length p2,.slice s1 aso.length s2,.slice a1 aaf.length a2,.slice t1 bso.length t2,.int .i64 bcu] 38) (rb:=w4.heap.size)
           have hBx:=k4.1.alloc k4.1.size (.cells #[.bool ast,.bool afi,.slice p1 abe.length p2,.slice s1 aso.length s2,.slice a1 aaf.length a2,.slice t1 bso.length t2,.int .i64 bcu] 38))
      first | (have E3:=V.Ext.trans (V.zrc (A:=w3)) (V.Ext.trans (V.zmk z4) E4)) | (have E3:=V.Ext.trans (V.zmk z4) E4)
      first | (have E2:=V.Ext.trans (V.zrc (A:=w2)) (V.Ext.trans (V.zmk z3) E3)) | (have E2:=V.Ext.trans (V.zmk z3) E3)
      first | (have E1:=V.Ext.trans (V.zrc (A:=w1)) (V.Ext.trans (V.zmk z2) E2)) | (have E1:=V.Ext.trans (V.zmk z2) E2)
      have x1:=E1.1;have x2:=E2.1;have x3:=E3.1;have x4:=E4.1;have h6x:=E4.2 (w.heap.size+2) (by omega) (by omega);rw[hb6] at h6x
      have HM:=V.zsr (g:=g) (abe:=abe) (aso:=aso) (aaf:=aaf) (bso:=bso) hF h6x (by omega) hBx
        (fun W' hW=>m1.2 W' fun b h1 h2=>by
          try simp at h1
          exact(hW b (by omega) (by omega) (by omega)).trans (E1.2 b h2 (by omega)))
        (fun W' hW=>m2.2 W' fun b h1 h2=>by
          try simp at h1
          exact(hW b (by omega) (by omega) (by omega)).trans (E2.2 b h2 (by omega)))
        (fun W' hW=>m3.2 W' fun b h1 h2=>by
          try simp at h1
          exact(hW b (by omega) (by omega) (by omega)).trans (E3.2 b h2 (by omega)))
        (fun W' hW=>m4.2 W' fun b h1 h2=>by
          try simp at h1
          exact(hW b (by omega) (by omega) (by omega)).trans (E4.2 b h2 (by omega)))
      clear E1 E2 E3 E4 hF hBx hb6 h6x c1 c2 c3 c4 x1 x2 x3 x4 m1 m2 m3 m4 z1 z2 z3 z4 k1 k2 k3 k4 q0 q1 q2 q3 g1 g2 g3 g4
      go_wp2_with fail
      go_meet
      case rel=>exact⟨_,p1,p2,s1,s2,a1,a2,t1,t2,rfl,HM⟩
  case rest =>
    obtain⟨rb,p1,p2,s1,s2,a1,a2,t1,t2,rfl,HM⟩:=hcut;obtain⟨⟨y0,y1,y2,y3,y4,y5,y6⟩,ff⟩:=V.cells7 HM.out.1;obtain⟨⟨u0,u1,u2,u3,u4,u5,u6⟩,fu⟩:=V.cells7 HM.out.2.1;have n1:¬rb=w.heap.size+2:=by have:=HM.out.2.2.1;omega
    have n2:¬w.heap.size+2=rb:=by omega
    have hl:=HRi.out.2.1;have hbl:(bso.length:Int)<=20:=by omega
    have hI1: -9223372036854775808<=bcu:=hcuB.1;have hI2:bcu<=9223372036854775807:=hcuB.2
    by_cases hcu:bcu<0
    · go_wp2
      refine bodyPost_ret (v:= .agg #[.bool ast,.bool afi,.slice p1 abe.length p2,.slice s1 aso.length s2,.slice a1 aaf.length a2,.slice t1 bso.length t2,.int .i64 (bso.length:Int)]) (by simp[results,Tryz.results48,go_sem, *]) rfl ?_;have hcur:(V.ruleOf g ⟨ast,afi,abe,aso,aaf,acu⟩ ⟨bst,bfi,bbe,bso,baf,bcu⟩).cursor=(bso.length:Int):=by unfold V.ruleOf;simp[hcu]
      rw[hcur];obtain⟨e1,g1⟩:=V.zcg (i:=6) HM.out.1 (.int .i64 (bso.length:Int));have h6':(wc.setCell ⟨rb,6,none⟩ (.int .i64 (bso.length:Int))).heap[w.heap.size+2]?=_:=(g1.block _ (qA.1 HM.out.2.1).1 (by simp;omega)).trans HM.out.2.1;obtain⟨e7,g7⟩:=V.zir h6' (.bool ast) (.bool afi) (.slice p1 abe.length p2) (.slice s1 aso.length s2) (.slice a1 aaf.length a2) (.slice t1 bso.length t2) (.int .i64 (bso.length:Int));have hBf:=((HM.out.2.2.2.1.grown g1 HM.out.2.2.2.1.size (fun q hq=>by have h9:=Option.some.inj hq;have:=HM.out.2.2.1;omega)).grown g7 (Nat.le_trans HM.out.2.2.2.1.size g1.size) (fun q hq=>by have h9:=Option.some.inj hq;omega));refine⟨p1,p2,s1,s2,a1,a2,t1,t2,rfl,fun W' hW=> ?_,hBf⟩
      have hag:=HM.out.2.2.2.2 W' fun b h1 h2 h3=>by
        rw[hW b (by omega) (by simpa using h3) (by simp),g7.block b (by have:=g1.size;omega) (by simp;omega),g1.block b h3 (by simpa using h2)]
      have he:(V.ruleOf g ⟨ast,afi,abe,aso,aaf,acu⟩ ⟨bst,bfi,bbe,bso,baf,bcu⟩)=⟨ast,afi,abe.map (V.setOf g),aso.map (V.setOf g),aaf.map (V.setOf g),bso.map (·.rune),(bso.length:Int)⟩:=by unfold V.ruleOf;simp[hcu]
      rw[he];refine⟨p1,p2,s1,s2,a1,a2,t1,t2,by simp,?_,?_,?_,?_,by simp;omega,⟨by show (-9223372036854775808:Int)<=(bso.length:Int);omega,by show (bso.length:Int)<=9223372036854775807;omega⟩⟩
      · simpa using hag.1
      · simpa using hag.2.1
      · simpa using hag.2.2.1
      · simpa using hag.2.2.2
    · go_wp2
      refine bodyPost_ret (v:= .agg #[.bool ast,.bool afi,.slice p1 abe.length p2,.slice s1 aso.length s2,.slice a1 aaf.length a2,.slice t1 bso.length t2,.int .i64 bcu]) (by simp[results,Tryz.results48,go_sem, *]) rfl ?_;have hcur:(V.ruleOf g ⟨ast,afi,abe,aso,aaf,acu⟩ ⟨bst,bfi,bbe,bso,baf,bcu⟩).cursor=bcu:=by show (if bcu<0 then (bso.length:Int) else bcu)=bcu;rw[if_neg (show ¬bcu<0 by omega)]
      rw[hcur];obtain⟨e7,g7⟩:=V.zir HM.out.2.1 (.bool ast) (.bool afi) (.slice p1 abe.length p2) (.slice s1 aso.length s2) (.slice a1 aaf.length a2) (.slice t1 bso.length t2) (.int .i64 bcu);have hBf:=HM.out.2.2.2.1.grown g7 HM.out.2.2.2.1.size (fun q hq=>by have h9:=Option.some.inj hq;omega);refine⟨p1,p2,s1,s2,a1,a2,t1,t2,rfl,fun W' hW=> ?_,hBf⟩
      have hag:=HM.out.2.2.2.2 W' fun b h1 h2 h3=>by
        rw[hW b (by omega) (by simpa using h3) (by simp),g7.block b h3 (by simp;omega)]
      have he:(V.ruleOf g ⟨ast,afi,abe,aso,aaf,acu⟩ ⟨bst,bfi,bbe,bso,baf,bcu⟩)=⟨ast,afi,abe.map (V.setOf g),aso.map (V.setOf g),aaf.map (V.setOf g),bso.map (·.rune),bcu⟩:=by unfold V.ruleOf;rw[if_neg (show ¬bcu<0 by omega)]
      rw[he];refine⟨p1,p2,s1,s2,a1,a2,t1,t2,by simp,?_,?_,?_,?_,by simp;omega,hcuB⟩
      · simpa using hag.1
      · simpa using hag.2.1
      · simpa using hag.2.2.1
      · simpa using hag.2.2.2
end Go.Proofs.YtmcljejgbikbhabGreatDoor
