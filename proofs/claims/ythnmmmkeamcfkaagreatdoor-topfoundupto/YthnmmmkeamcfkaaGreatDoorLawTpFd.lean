import Derived.Test.YthnmmmkeamcfkaaGreatDoorFdHits
set_option maxHeartbeats 0
set_option maxRecDepth 20000
set_option linter.unusedSimpArgs false
set_option linter.unusedVariables false
namespace Go.Proofs.YthnmmmkeamcfkaaGreatDoor
open Go.Proofs.Tryz
namespace Fd
def ansF (l:List K.Rule) (t p:List Int) (o:List J.Hd×Int×Int):List (Int×Int)×Int×Int :=
 if (Al.ans l t o).2.1=0 then (if wrongF p=0 then (hitsF (K.play l (8*t.length+40) [] t 0 0).2.1 p (Al.ans l t o).1,0,0) else ([],wrongF p,1)) else ([],(Al.ans l t o).2.1,(Al.ans l t o).2.2)
theorem facts {l:List K.Rule}{t:List Int}{o:List J.Hd×Int×Int}(hch:Gm.Chk l t o)(h:(Al.ans l t o).2.1=0) :
  (Al.ans l t o).2.2=0/\(K.rulesF l).1=0/\K.textE t=0/\l.length<=200/\t.length<=4000/\(K.play l (8*t.length+40) [] t 0 0).1=0/\(K.play l (8*t.length+40) [] t 0 0).2.1.length<=4000/\(Al.ans l t o).1.length<=32040 /\
   Row ((K.play l (8*t.length+40) [] t 0 0).2.1.length:Int) 0 (Al.ans l t o).1/\(K.play l (8*t.length+40) [] t 0 0).2.1=(Al.ans l t o).1.flatMap (Al.cameOf l t)/\∀x∈(Al.ans l t o).1,Al.Fits l t x:=by
 obtain⟨h0,hp,hS,hz⟩:=Al.ztg h;obtain⟨hs',o1,o2⟩:=o;have h0':o1=0:=h0;subst h0';obtain⟨ht4,hall,_,c,hok,_⟩:=hch.ok
 have hRT:(K.rulesF l).1=0/\K.textE t=0:=by
  rcases hch with ⟨h1,h2⟩|⟨h1,h2,h3⟩|⟨h1,h2,_⟩
  ·simp only[Prod.mk.injEq] at h2;exact absurd (by rw[<- h2.2]) h1
  ·simp only[Prod.mk.injEq] at h3;exact absurd h3.2.1.symm h2
  ·exact⟨h1,h2⟩
 have hW:=Al.whole (t:=t) hS hok.right (8*t.length+40) [] 0 0 0 (Nat.zero_le _) (by rw[List.drop_zero];exact hp);have hR:=zo1 hS (8*t.length+40) [] t 0 0 0 hp;rw[List.drop_zero,List.nil_append] at hW;rw[hz];refine⟨rfl,hRT.1,hRT.2,hok.few,ht4,hp,K.zev (by simpa using ht4),?_,hR,hW.1,hW.2⟩;show (Al.links _ _ _).length<=_;rw[Al.zpz];have:=Al.zh6 (l:=l) (left:=8*t.length+40) (A:= []) (Z:=t);omega
end Fd
section
open Go.RowKit Go.Shelf
theorem Fd.lies {F:Nat}{w:World}{v:Value}{X:List Al.Lk}(h:w.ownsRow F 188 5 v X.length (Al.lcells X)):∃ao cap,v= .slice ao X.length cap/\X.length<=cap/\Fd.At w ao X:=by
 obtain⟨ao,cap,rfl,hc⟩:=Al.lies h;refine⟨ao,cap,rfl,?_,hc⟩;rcases h.2 with ⟨hv,h0⟩|⟨g,c,cur,hv,_,_,hle,_⟩
 ·have h:=Value.slice.inj hv;omega
 ·have h:=Value.slice.inj hv;omega
theorem zng (w:World)(v:Value)(l:List K.Rule)(R0:V.Rus w v l)(vt:Value)(t:List Int)(Rt:L.Rd w vt .i32 t)(hcap:∀a n c,vt= .slice a n c->t.length<=c)(ht:t.length<=140737488355328)(vp:Value)(p:List Int)(Rp:L.Rd w vp .i32 p)(hp:p.length<=140737488355328) :
  Calls prog 23 #[v,vt,vp] w fun e w'=>∃(v':Value) (o:List J.Hd×Int×Int),e= .returned (.tuple #[v',.agg #[.int .i64 (Fd.ansF l t p o).2.1,.int .i64 (Fd.ansF l t p o).2.2]])/\Gm.Chk l t o/\w'.ownsRow w.heap.size 71 2 v' (Fd.ansF l t p o).1.length (Al.scells (Fd.ansF l t p o).1)/\Below w.heap.size w w':=by
 have HA:=qH <| fun o=>(qR w).alloc qN o
 have HLk:=qH <| fun o=>zkv _ v l (R0.below (HA.out o)) vt t (Rt.below (HA.out o) qN) ht
 have HR:=qH R0;have HT:=qH Rt;have HP:=qH Rp;obtain⟨va,vc,rfl⟩:=R0.len;obtain⟨xo,xc,rfl,_⟩:=Rt;obtain⟨po,pc,rfl,_⟩:=Rp;have hxc:=hcap _ _ _ rfl;clear R0 hcap
 go_enter func23,ntmps23
 go_wp2_with fail
 refine(HLk.out _).mono ?_;rintro e w1 ⟨v1,o,rfl,hch,own1,b1⟩;obtain⟨h1,B1,s1⟩:=K.zay b1;have HCh:=qH hch;have HFa:=qH <| Fd.facts hch;have HAn:Hid (Fd.ansF l t p o=if (Al.ans l t o).2.1=0 then (if Fd.wrongF p=0 then (Fd.hitsF (K.play l (8*t.length+40) [] t 0 0).2.1 p (Al.ans l t o).1,0,0) else ([],Fd.wrongF p,1)) else ([],(Al.ans l t o).2.1,(Al.ans l t o).2.2)):=rfl;generalize Al.ans l t o=an at *;obtain⟨X,f1,f2⟩:=an;simp only at own1 HFa HAn;obtain⟨p1,pc1,rfl,hpc1,hat1⟩:=Fd.lies own1;have HAt:=qH hat1;have HB1:Hid (Below w.heap.size w w1/\w1.heap[w.heap.size]?=some (.cells #[.int .i64 0,.int .i64 0] 38)):=⟨B1,h1⟩;obtain⟨x0,x1,f0,f3⟩:=K.box2 h1;have k0:=fun o=>K.zai x0 o
 have k1:=fun o=>K.zai x1 o
 have g0:=fun o=>K.zal h1 o 0
 have g1:=fun o=>K.zal h1 o 1
 clear HLk hch own1 b1 B1 h1 hat1 x0 x1 f0 f3
 by_cases q:f1=0
 ·subst q;obtain⟨rfl,z1,z2,hl200,ht4,hp0,hC4,hXl,hRow,hCE,hFit⟩:=HFa.out rfl;have HG:Hid (Fd.Row ((K.play l (8*t.length+40) [] t 0 0).2.1.length:Int) 0 X/\(K.play l (8*t.length+40) [] t 0 0).2.1=X.flatMap (Al.cameOf l t)/\∀x∈X,Al.Fits l t x):=⟨hRow,hCE,hFit⟩
  have HAn2:Hid (Fd.ansF l t p o=if Fd.wrongF p=0 then (Fd.hitsF (K.play l (8*t.length+40) [] t 0 0).2.1 p X,0,0) else ([],Fd.wrongF p,1)):=by
   have:=HAn.out;rw[if_pos rfl] at this;exact this
  have HWr:=qH <| fun o=>by
   have hb:=HB1.out.1.alloc HB1.out.1.size o;exact zkh _ _ p (HP.out.below hb qN) hp
  have hp00:Fd.wrongF p=0->0<p.length:=fun h=>by
   refine Nat.pos_of_ne_zero fun e=> ?_
   unfold Fd.wrongF at h
   by_cases h2:K.textE p=0
   ·rw[if_pos h2,if_pos e] at h;exact absurd h (by decide)
   ·rw[if_neg h2] at h;exact h2 h
  have HP0:=qH hp00;generalize (K.play l (8*t.length+40) [] t 0 0).2.1=C at *;generalize Fd.wrongF p=ew at *;clear HFa HAn z1 z2 hp0 hRow hCE hFit k0 k1 g0 g1 hp00
  go_wp2_with fail
  refine(HWr.out _).mono ?_;rintro e w2 ⟨rfl,b2⟩;have hal:Below w1.heap.size w1 (w1.alloc (.cells #[.int .i64 0,.int .i64 0] 38)):=(qR w1).alloc qN _;have hB12:=hal.trans (b2.mono hal.size);have hB2:=HB1.out.1.trans (hB12.mono HB1.out.1.size);have hx2:=K.zaf HB1.out.2 hB12;have HB2:Hid (Below w.heap.size w w2/\w2.heap[w.heap.size]?=some (.cells #[.int .i64 0,.int .i64 0] 38)/\Below w1.heap.size w1 w2):=⟨hB2,hx2,hB12⟩;clear b2 hal hB12 hB2 HWr
  by_cases q2:ew=0
  ·subst q2;have hA:=HAn2.out;rw[if_pos rfl] at hA;have hpl:=HP0.out rfl
   have HCm:Hid (Calls prog 56 #[.slice va l.length vc,.slice xo t.length xc,.slice p1 X.length pc1] w2 fun e w'=>∃zo zc,e= .returned (.slice zo C.length zc)/\L.Rd w' (.slice zo C.length zc) .i32 C/\C.length<=zc/\Below w2.heap.size w2 w'):=by
    show Calls _ _ _ _ _;have h:=znh w2 va vc l (HR.out.below HB2.out.1) xo xc t (HT.out.below HB2.out.1 qN) hxc ht4 p1 pc1 X (HAt.out.below HB2.out.2.2) hXl hl200 HG.out.2.2 (by rw[<- HG.out.2.1];exact hC4);rw[<- HG.out.2.1] at h;exact h
   have HHt:Hid (∀w3 zo zc,L.Rd w3 (.slice zo C.length zc) .i32 C->C.length<=zc->Below w2.heap.size w2 w3->Calls prog 55 #[.slice p1 X.length pc1,.slice zo C.length zc,.slice po p.length pc] w3 fun e w'=>∃v',e= .returned v'/\w'.ownsRow w3.heap.size 71 2 v' (Fd.hitsF C p X).length (Al.scells (Fd.hitsF C p X))/\Below w3.heap.size w3 w'):=fun w3 zo zc h1 h2 h3=>by
    have hb:=HB2.out.1.trans (h3.mono HB2.out.1.size);exact znf w3 p1 pc1 X ((HAt.out.below HB2.out.2.2).below h3) hXl hpc1 C HG.out.1 zo zc h1 h2 hC4 _ p (HP.out.below hb qN) hpl hp
   clear HAn2 hx2;have HA2:Hid _:=hA;clear hA
   go_wp2_with fail
   refine HCm.out.mono ?_;rintro e w3 ⟨zo,zc,rfl,d3,hzc,b3⟩;have hH:=HHt.out w3 zo zc d3 hzc b3;have HB3:Hid (Below w.heap.size w w3/\w3.heap[w.heap.size]?=some (.cells #[.int .i64 0,.int .i64 0] 38)):=⟨HB2.out.1.trans (b3.mono HB2.out.1.size),K.zaf HB2.out.2.1 b3⟩;clear HCm HHt d3 b3
   go_wp2_with fail
   refine hH.mono ?_;rintro e w4 ⟨v4,rfl,own4,b4⟩;have h4:=K.zaf HB3.out.2 b4;have hB4:=HB3.out.1.trans (b4.mono HB3.out.1.size);obtain⟨x0,x1,f0,f3⟩:=K.box2 h4
   have HOut:Hid (((w4.setCell ⟨w.heap.size,0,none⟩ (.int .i64 0)).setCell ⟨w.heap.size,1,none⟩ (.int .i64 0)).ownsRow w.heap.size 71 2 v4 (Fd.hitsF C p X).length (Al.scells (Fd.hitsF C p X))/\Below w.heap.size w ((w4.setCell ⟨w.heap.size,0,none⟩ (.int .i64 0)).setCell ⟨w.heap.size,1,none⟩ (.int .i64 0))):=by
    refine⟨Al.held (L.za6 own4 HB3.out.1.size) fun k hk hlt=> ?_,(hB4.setCell (p:=⟨w.heap.size,0,none⟩) qN _).setCell (p:=⟨w.heap.size,1,none⟩) qN _⟩;have hk2:=(own4.lt k hk).1;have hs3:=lt_of_block HB3.out.2;have hn:k≠w.heap.size:=by omega
    rw[heap_setCell_other _ ⟨w.heap.size,1,none⟩ k _ (by simpa using hn),heap_setCell_other _ ⟨w.heap.size,0,none⟩ k _ (by simpa using hn)]
   clear hH own4 b4 h4 hB4;go_wp2;refine bodyPost_ret (v:= .tuple #[v4,.agg #[.int .i64 0,.int .i64 0]]) (by simp[results,results23,go_sem, *]) rfl ?_;exact⟨_,o,by rw[HA2.out],HCh.out,by rw[HA2.out];exact HOut.out.1,HOut.out.2⟩
  ·have hA:=HAn2.out;rw[if_neg q2] at hA;have HA2:Hid _:=hA;clear hA;obtain⟨x0,x1,f0,f3⟩:=K.box2 hx2;have HOut:Hid (Below w.heap.size w ((w2.setCell ⟨w.heap.size,0,none⟩ (.int .i64 ew)).setCell ⟨w.heap.size,1,none⟩ (.int .i64 1))):=(HB2.out.1.setCell (p:=⟨w.heap.size,0,none⟩) qN _).setCell (p:=⟨w.heap.size,1,none⟩) qN _;clear HAn2 hx2;go_wp2;refine bodyPost_ret (v:= .tuple #[.slice none 0 0,.agg #[.int .i64 ew,.int .i64 1]]) (by simp[results,results23,go_sem, *]) rfl ?_;exact⟨_,o,by rw[HA2.out],HCh.out,by rw[HA2.out];exact World.ownsRow_nil _ _ _ _,HOut.out⟩
 ·have hA:=HAn.out;rw[if_neg q] at hA;have HBd:Hid (∀o x y,Below w.heap.size w (((w1.alloc o).setCell ⟨w.heap.size,0,none⟩ x).setCell ⟨w.heap.size,1,none⟩ y)):=fun o x y=>((HB1.out.1.alloc HB1.out.1.size o).setCell (p:=⟨w.heap.size,0,none⟩) qN _).setCell (p:=⟨w.heap.size,1,none⟩) qN _
  have HA2:Hid _:=hA;clear hA;clear HFa HAn;go_wp2
  go_region
  go_wp2;refine bodyPost_ret (v:= .tuple #[.slice none 0 0,.agg #[.int .i64 f1,.int .i64 f2]]) (by simp[results,results23,go_sem, *]) rfl ?_
  exact⟨_,o,by rw[HA2.out],HCh.out,by rw[HA2.out];exact World.ownsRow_nil _ _ _ _,(HBd.out _ _ _).drew⟩
end
namespace Fd
theorem ztl {l:List K.Rule}{t:List Int}(hS:K.sureB l=true)(hE:∀r∈l,K.ruleE r=0):∀(left:Nat) (A:List Int) (fr:Nat) (s p:Int),fr<=t.length->(K.play l left A (t.drop fr) s p).1=0 ->
  (∀y,(Al.links l fr (Al.shots l left A (t.drop fr))).getLast?=some y->y.up=t.length)/\(Al.links l fr (Al.shots l left A (t.drop fr))= []->fr=t.length):=by
 intro left
 induction left with
 | zero =>
  intro A fr s p hf h0
  by_cases hz:(t.drop fr).length=0
  ·rw[Al.zbn hz];exact⟨fun y h=>by simp[Al.links] at h,fun _=>by rw[List.length_drop] at hz;omega⟩
  ·rw[K.zcz hz] at h0;exact absurd h0 (by decide)
 | succ n ih =>
  intro A fr s p hf h0
  by_cases hz:(t.drop fr).length=0
  ·rw[Al.zbn hz];exact⟨fun y h=>by simp[Al.links] at h,fun _=>by rw[List.length_drop] at hz;omega⟩
  ·have hlt:fr<t.length:=by rw[List.length_drop] at hz;omega
   have key:∀(X:List Al.Lk) (x:Al.Lk) (f2:Nat),x.up=(f2:Int)->((∀y,X.getLast?=some y->y.up=t.length)/\(X= []->f2=t.length))->(∀y,(x::X).getLast?=some y->y.up=t.length)/\(x::X= []->fr=t.length):=fun X x f2 hx ⟨h1,h2⟩=>by
    refine⟨fun y hy=> ?_,fun h=>by cases h⟩;cases X with
    | nil=>simp at hy;subst hy;rw[hx,h2 rfl]
    | cons z Z=>rw[List.getLast?_cons_cons] at hy;exact h1 y hy
   rcases K.zbr (l:=l) (t:=A++t.drop fr) (k:=A.length) with hk | ⟨j,r,hr,hm,hk⟩
   ·obtain⟨g1,g2⟩:=Al.zum (fr:=(fr:Int)) hz hk h0;have e:(t.drop fr).drop 1=t.drop (fr+1):=by rw[List.drop_drop]
    rw[e] at g1 g2;have ef:((fr:Int)+1)=((fr+1:Nat):Int):=by omega
    rw[g2,ef];exact key _ _ (fr+1) rfl (ih (A++(t.drop fr).take 1) (fr+1) (s+1) p (by omega) g1)
   ·have hfit:=K.fits (hE r (List.mem_of_getElem? hr)) hm;rw[List.length_drop] at hfit;obtain⟨g1,_,g2⟩:=Al.zp9 (fr:=(fr:Int)) hz hk hr hS h0;have e:(t.drop fr).drop r.source.length=t.drop (fr+r.source.length):=by rw[List.drop_drop]
    rw[e] at g1 g2;have ef:((fr:Int)+(r.source.length:Int))=((fr+r.source.length:Nat):Int):=by omega
    rw[g2,ef];exact key _ _ (fr+r.source.length) rfl (ih (A++r.target) (fr+r.source.length) (s+1) (p+1) (by omega) g1)
theorem zq6 {l:List K.Rule}{t C:List Int}{o:List J.Hd×Int×Int}{s p:Int}(hch:Gm.Chk l t o)(h:(Al.ans l t o).2.1=0)(hp:K.play l (8*t.length+40) [] t 0 0=(0,C,s,p))(hC:0<C.length):((0:Int),(t.length:Int))∈hitsF C C (Al.ans l t o).1:=by
 obtain⟨_,_,_,_,_,_,_,_,hRow,hfm,_⟩:=facts hch h;obtain⟨h0,hp0,hS,hz⟩:=Al.ztg h;rw[hp] at hRow hfm;have hRow':Row (C.length:Int) 0 (Al.ans l t o).1:=hRow;have hfm':C=(Al.ans l t o).1.flatMap (Al.cameOf l t):=hfm
 have hX:0<(Al.ans l t o).1.length:=by
  refine Nat.pos_of_ne_zero fun e=> ?_
  rw[List.length_eq_zero_iff.1 e] at hfm';rw[hfm'] at hC;exact absurd hC (by simp)
 obtain⟨y,hy,hfin⟩:=hRow'.last hX;obtain⟨hs',o1,o2⟩:=o;have h0':o1=0:=h0;subst h0';obtain⟨_,_,_,c,hok,_⟩:=hch.ok;have hup:=(ztl (t:=t) hS hok.right (8*t.length+40) [] 0 0 0 (Nat.zero_le _) (by rw[List.drop_zero];exact hp0)).1 y;rw[List.drop_zero] at hup;have hX1:(Al.ans l t (hs',0,o2)).1=Al.links l 0 (Al.shots l (8*t.length+40) [] t):=by rw[hz]
 rw[hX1] at hX hy hRow' ⊢;have hyup:=hup (by rw[List.getLast?_eq_getElem?];exact hy);obtain⟨x,hx⟩:∃x,(Al.links l 0 (Al.shots l (8*t.length+40) [] t))[0]?=some x:=⟨_,List.getElem?_eq_getElem hX⟩
 have hfr:x.fr=0/\x.beg=0:=by
  generalize Al.shots l (8*t.length+40) [] t=sh at *;cases sh with
  | nil=>simp[Al.links] at hx
  | cons s0 ss =>
   have hx':x=Al.link l s0 0:=by simp[Al.links] at hx;exact hx.symm
   refine⟨by rw[hx'];rfl,?_⟩;have h1:=hRow'.1;rw[hx'];exact h1
 refine List.mem_flatMap.2 ⟨x,List.mem_of_getElem? hx,?_⟩;unfold hit;rw[hfr.2,if_pos (by simp)];refine List.mem_map.2 ⟨y,List.mem_filter.2 ⟨List.mem_of_getElem? hy,?_⟩,by rw[hfr.1,hyup]⟩;simp[hfin]
theorem found {l:List K.Rule}{t C:List Int}{o:List J.Hd×Int×Int}{s p:Int}(hch:Gm.Chk l t o)(hck:(K.checkF l t).1=0)(hp:K.play l (8*t.length+40) [] t 0 0=(0,C,s,p))(hC:0<C.length) :
  ((ansF l t C o).2.1=0/\((0:Int),(t.length:Int))∈(ansF l t C o).1)∨(ansF l t C o).2.1=5∨(ansF l t C o).2.1=8:=by
 obtain⟨z1,z2,_⟩:=K.zcp hck
 by_cases h:(Al.ans l t o).2.1=0
 ·left
  have hw:wrongF C=0:=by
   have hTx:Cn.Tx C:=by
    have ht:=K.zcw z2;have h1:=Cn.zg0.1 z2;have h2:=K.zev (l:=l) (left:=8*t.length+40) (done:= []) (rest:=t) (s:=0) (p:=0) (by simpa using ht);have h3:=Cn.zgg (l:=l) (K.zbd z1).2.1 (8*t.length+40) [] t 0 0 rfl h1.2;rw[hp] at h2 h3;exact⟨h2,h3⟩
   unfold wrongF;rw[if_pos (Cn.zg0.2 hTx),if_neg (by omega)]
  have e:ansF l t C o=(hitsF C C (Al.ans l t o).1,0,0):=by
   unfold ansF;rw[if_pos h,if_pos hw,hp]
  rw[e];exact⟨rfl,zq6 hch h hp hC⟩
 ·right
  have e:(ansF l t C o).2.1=(Al.ans l t o).2.1:=by
   unfold ansF;rw[if_neg h]
  rw[e];unfold Al.ans at h ⊢
  by_cases h1:o.2.1≠0
  ·rw[if_pos h1];rcases hch with ⟨g,_⟩|⟨_,g,_⟩|⟨_,_,g⟩
   ·exact absurd z1 g
   ·exact absurd z2 g
   ·rcases g with ⟨g,_⟩|⟨_,c,_,_,⟨_,g⟩|⟨_,g⟩⟩
    ·exact absurd z1 g
    ·rw[g];exact .inl rfl
    ·rw[g] at h1;exact absurd rfl h1
  ·rw[if_neg h1] at h ⊢;rw[if_neg (by rw[hp];simp)] at h ⊢
   by_cases h3:K.sureB l=true
   ·rw[if_pos h3] at h;exact absurd rfl h
   ·rw[if_neg h3];exact .inr rfl
end Fd
section
open Go.RowKit Go.Lib
theorem Fd.zu0 {l:List K.Rule}{t p:List Int}{o:List J.Hd×Int×Int}(h:Gm.Chk l t o):(Fd.ansF l t p o).1.length<=1026561600:=by
 unfold Fd.ansF
 by_cases h1:(Al.ans l t o).2.1=0
 ·rw[if_pos h1];split
  ·have hX:=(Fd.facts h h1).2.2.2.2.2.2.2.1;have:=Fd.zp6 (C:=(K.play l (8*t.length+40) [] t 0 0).2.1) (p:=p) hX qN;rw[List.take_length] at this;exact this
  ·simp
 ·rw[if_neg h1];simp
theorem zh1 (hK:T.ClassOk)(w:World)(fs ts:ByteArray)(hfs:fs.size<=1099511627776)(hts:ts.size<=1099511627776) :
  Calls prog 7 #[.string fs,.string ts] w fun e w'=>e= .returned (.bool true)/\Below w.heap.size w w':=by
 have HSi:=qH <| fun X=>zjl hK fs hfs X
 obtain⟨⟨l,lb,ok⟩,hsi⟩:∃o,Tp.singleF (M.rn fs)=o:=⟨_,rfl⟩;rw[hsi] at HSi;simp only at HSi;have HDe:=qH <| fun X=>Tp.decode ts hts X
 have hrl:(M.rn ts).length<=140737488355328:=by have:=M.zo2 ts;omega
 generalize M.rn ts=t at *;clear hsi
 go_enter func7,ntmps7
 go_wp2_with fail
 refine(zma hK w).mono ?_;rintro e w1 ⟨rfl,b1⟩;have HB1:=qH b1;clear b1
 go_wp2_with fail
 refine(HSi.out _).mono ?_;rintro e w2 ⟨v1,v2,rfl,hR,hRb,b2⟩;have HB2:=qH <| HB1.out.trans (b2.mono HB1.out.size);have HR2:=qH hR;obtain⟨va,vc,rfl⟩:=hR.len;obtain⟨vb,vd,rfl⟩:=hRb.len;clear b2 HSi HB1 hR hRb;cases ok with
 | false =>
  clear HDe;go_wp2;go_ret;exact⟨rfl,HB2.out⟩
 | true =>
  go_wp2_with fail
  go_at_call 10
  refine(HDe.out _).mono ?_;rintro e w3 ⟨xo,xc,rfl,d3,hxc,b3⟩;have HB3:=qH <| HB2.out.trans (b3.mono HB2.out.size);have HR3:=qH <| HR2.out.below b3;have HD3:=qH d3;have HRn:=qH <| zry w3 _ l HR3.out _ t d3 hrl
  have HCk:Hid ((K.runF l t).2.1=0->(K.checkF l t).1=0/\(K.runF l t).2.2=0/\K.play l (8*t.length+40) [] t 0 0=(0,(K.runF l t).1.1,(K.runF l t).1.2.1,(K.runF l t).1.2.2)):=by
   unfold K.runF;intro h
   by_cases hg:(K.checkF l t).1=0
   ·rw[if_pos hg] at h ⊢;exact⟨hg,rfl,Prod.ext h rfl⟩
   ·rw[if_neg hg] at h;exact absurd h hg
  obtain⟨⟨⟨C,r3,r4⟩,f1,f2⟩,hrun⟩:∃o,K.runF l t=o:=⟨_,rfl⟩;rw[hrun] at HRn HCk;simp only at HRn HCk;clear HDe b3 d3 HR2 HB2 hrun
  go_wp2_with fail
  go_at_call 18
  refine HRn.out.mono ?_;rintro e w4 ⟨v4,rfl,d4,b4⟩;have HB4:Hid (Below w.heap.size w w4/\Below w3.heap.size w3 w4):=⟨HB3.out.trans (b4.mono HB3.out.size),b4⟩;have HC4:=qH d4;obtain⟨co,cc,rfl,_⟩:=d4;obtain⟨W,hW⟩:∃W,W=(w4.alloc (.cells #[.slice co C.length cc,.int .i64 r3,.int .i64 r4] 58)).alloc (.cells #[.int .i64 f1,.int .i64 f2] 38):=⟨_,rfl⟩;have hbW:Below w4.heap.size w4 W:=by rw[hW];exact((qR w4).alloc qN _).alloc (by simp) _
  have hx0:W.heap[w4.heap.size]?=some (.cells #[.slice co C.length cc,.int .i64 r3,.int .i64 r4] 58):=by
   rw[hW];exact(Below.heap_alloc (w4.alloc _) _ _ (by simp)).trans (heap_alloc_new w4 _)
  have hx1:W.heap[w4.heap.size+1]?=some (.cells #[.int .i64 f1,.int .i64 f2] 38):=by
   rw[hW];show (((w4.heap.push _).push _))[w4.heap.size+1]?=_;rw[Array.getElem?_push,if_pos (by simp)]
  have HWb:Hid (Below w.heap.size w W/\Below w3.heap.size w3 W/\L.Rd W (.slice co C.length cc) .i32 C):=⟨HB4.out.1.trans (hbW.mono HB4.out.1.size),b4.trans (hbW.mono b4.size),HC4.out.below hbW qN⟩;have y0:=K.zad (i:=0) hx0 rfl;have z0:=K.zad (i:=0) hx1 rfl;have HX1:=qH hx1;have hs4:=HB4.out.1.size;clear HRn b4 hbW hx0 hx1 HB3 HB4 HC4
  go_upto_region 8 with fail
  rw[<- hW];clear hW
  by_cases q:f1=0
  ·subst q;obtain⟨hck,rfl,hpl⟩:=HCk.out rfl
   by_cases q2:C.length=0
   ·have u:(C.length:Int)=0:=by omega
    clear hck hpl HCk;go_wp2;go_ret;exact⟨rfl,HWb.out.1⟩
   ·have u:¬(C.length:Int)=0:=by omega
    have HFo:Hid (∀o,Gm.Chk l t o->((Fd.ansF l t C o).2.1=0/\((0:Int),(t.length:Int))∈(Fd.ansF l t C o).1)∨(Fd.ansF l t C o).2.1=5∨(Fd.ansF l t C o).2.1=8):=fun o ho=>Fd.found ho hck hpl (by omega)
    have hCl:C.length<=4000:=by
     have ht:=K.zcw (K.zcp hck).2.1;have h2:=K.zev (l:=l) (left:=8*t.length+40) (done:= []) (rest:=t) (s:=0) (p:=0) (by simpa using ht);rw[hpl] at h2;exact h2
    have HFd:=qH <| zng W _ l (HR3.out.below HWb.out.2.1) _ t (HD3.out.below HWb.out.2.1 qN) (fun a n c h=>by cases h;exact hxc) hrl _ C HWb.out.2.2 (by omega);clear hck hpl HCk HR3 HD3
    go_wp2_with fail
    go_at_call 23
    refine HFd.out.mono ?_;rintro e w6 ⟨v6,o,rfl,hch,own6,b6⟩;have hfo:=HFo.out o hch;have hXl:(Fd.ansF l t C o).1.length<=1026561600:=Fd.zu0 hch;generalize Fd.ansF l t C o=an at *;obtain⟨X,g1,g2⟩:=an;simp only at own6 hfo hXl;obtain⟨p1,pc1,rfl,hc1⟩:=Al.lies own6;have HOwn:=qH hc1;have HFo2:=qH hfo;have hx6:=K.zaf HX1.out b6;obtain⟨x0,x1,f0,f3⟩:=K.box2 hx6;have hB6:=HWb.out.1.trans (b6.mono HWb.out.1.size)
    have hg:∀g,p1=some ⟨g,0,none⟩->g≠w4.heap.size+1:=fun g hg=>by
     have h1:=(own6.lt g (by rw[hg];rfl)).1;have h2:=lt_of_block HX1.out;omega
    obtain⟨W6,hW6⟩:∃W6,W6=(w6.setCell ⟨w4.heap.size+1,0,none⟩ (.int .i64 g1)).setCell ⟨w4.heap.size+1,1,none⟩ (.int .i64 g2):=⟨_,rfl⟩;have hB7:Below w.heap.size w W6:=by rw[hW6];exact(hB6.setCell (p:=⟨w4.heap.size+1,0,none⟩) (by show w.heap.size<=w4.heap.size+1;omega) _).setCell (p:=⟨w4.heap.size+1,1,none⟩) (by show w.heap.size<=w4.heap.size+1;omega) _
    have hx7:W6.heap[w4.heap.size+1]?=some (.cells #[.int .i64 g1,.int .i64 g2] 38):=by rw[hW6];exact heap_setCell_same _ _ 1 _ _ _ (heap_setCell_same w6 _ 0 _ _ _ hx6)
    have HOw7:Hid (0<X.length->∃g,p1=some ⟨g,0,none⟩/\g<W6.heap.size/\∀j u,(Al.scells X)[j]?=some u->W6.cell? ⟨g,j,none⟩=some u):=fun h0=>by
     obtain⟨g,hp,hgl,hcc⟩:=HOwn.out h0;have hn:=hg g hp;refine⟨g,hp,by rw[hW6];simpa using hgl,fun j u hu=> ?_⟩;rw[hW6,World.cell?_setCell_other (w:=_) (a:=⟨w4.heap.size+1,1,none⟩) (b:=⟨g,j,none⟩) (v:=_) (fun e=>hn (by cases e;rfl)),World.cell?_setCell_other (w:=_) (a:=⟨w4.heap.size+1,0,none⟩) (b:=⟨g,j,none⟩) (v:=_) (fun e=>hn (by cases e;rfl))];exact hcc j u hu
    have t0:=K.zad (i:=0) hx7 rfl;have HB7:=qH hB7;clear HFd HFo hch own6 b6 hc1 HOwn hx6 hB6 hg hB7 hx7 hfo
    go_upto_region 11 with fail
    rw[<- hW6];clear hW6 x0 x1 f0 f3;rcases HFo2.out with ⟨hz,hmem⟩ | hz | hz
    ·subst hz;have HM:=qH hmem;clear hmem HFo2;go_wp2
     go_loopw [62] (fun i62 wr=>∃(k:Nat),k<=X.length/\i62= .int .i64 k/\Hid (∀j x,j<k->X[j]?=some x->¬x=((0:Int),(t.length:Int)))/\Hid (Below W6.heap.size W6 wr)) (fun i62 _=>X.length - (RowKit.intOf i62).toNat)
     case atStart=>exact⟨0,Nat.zero_le _,rfl,fun j x h=>absurd h (Nat.not_lt_zero _),qR _⟩
     case round =>
      obtain⟨k,hk,rfl,HN,HI⟩:=hrel
      by_cases hlt:k<X.length
      ·obtain⟨x,hx⟩:∃x,X[k]?=some x:=⟨X[k],by simp[hlt]⟩;obtain⟨g,rfl,hgl,hcc⟩:=HOw7.out (by omega);obtain⟨a0,a1⟩:=Al.zh7 hx;have c0:wr.cell? ⟨g,k*2,none⟩=_:=(HI.out.cell (p:=⟨g,_,none⟩) hgl).trans (hcc _ _ a0);have c1:wr.cell? ⟨g,k*2+1,none⟩=_:=(HI.out.cell (p:=⟨g,_,none⟩) hgl).trans (hcc _ _ a1);have HX:=qH hx;have HBw:=qH <| fun o=>HI.out.alloc HI.out.size o
       obtain⟨q1,q2⟩:=x;simp only at c0 c1;clear hx a0 a1 hcc
       by_cases hq:q1=0/\q2=(t.length:Int)
       ·obtain⟨rfl,rfl⟩:=hq;go_wp2;go_ret;exact⟨rfl,HB7.out.trans ((HBw.out _).mono HB7.out.size)⟩
       ·have HN2:Hid (∀j x,j<k+1->X[j]?=some x->¬x=((0:Int),(t.length:Int))):=fun j x h1 h2=>by
         rcases Nat.lt_or_eq_of_le (Nat.lt_succ_iff.1 h1) with h3 | h3
         ·exact HN.out j x h3 h2
         ·subst h3;rw[HX.out] at h2;cases h2;exact fun e=>hq ⟨(Prod.mk.inj e).1,(Prod.mk.inj e).2⟩
        by_cases hq1:q1=0
        ·have hq2:¬q2=(t.length:Int):=fun e=>hq ⟨hq1,e⟩
         subst hq1;go_wp2
         go_roundw
         case rel=>exact⟨k+1,by omega,by go_num,HN2.out,HBw.out _⟩
         case measure=>simp[RowKit.intOf];omega
        ·go_wp2
         go_roundw
         case rel=>exact⟨k+1,by omega,by go_num,HN2.out,HBw.out _⟩
         case measure=>simp[RowKit.intOf];omega
      ·exfalso;obtain⟨j,hj⟩:=List.getElem?_of_mem HM.out;have hjl:=(qL.1 hj).1;exact HN.out j _ (by omega) hj rfl
    ·subst hz;go_wp2;go_ret;exact⟨rfl,HB7.out⟩
    ·subst hz;go_wp2;go_ret;exact⟨rfl,HB7.out⟩
  ·clear HCk;go_wp2;go_ret;exact⟨rfl,HWb.out.1⟩
