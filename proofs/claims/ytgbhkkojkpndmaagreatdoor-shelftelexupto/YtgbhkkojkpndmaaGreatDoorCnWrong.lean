/-
 Run's two boxes.
-/
import Derived.Test.YtgbhkkojkpndmaaGreatDoorQApp
import Derived.Test.YtgbhkkojkpndmaaGreatDoorVBad
import Derived.Test.YtgbhkkojkpndmaaGreatDoorCnLet
import Derived.Test.YtgbhkkojkpndmaaGreatDoorYRus
import Derived.BigQuiet
import Derived.Laws.EntriesVeiled
import Derived.Test.YtgbhkkojkpndmaaGreatDoorTChar
set_option maxHeartbeats 0
set_option maxRecDepth 20000
set_option linter.unusedSimpArgs false
set_option linter.unusedVariables false
namespace Go.Proofs.YtgbhkkojkpndmaaGreatDoor
open Go.RowKit Go.Lib
namespace K
def Boxes (w W:World):Prop:=W.heap[w.heap.size]?=some (.cells #[.slice none 0 0,.int .i64 0,.int .i64 0] 140)/\W.heap[w.heap.size+1]?=some (.cells #[.int .i64 0,.int .i64 0] 48)
end K
theorem K.five {w W:World}{B a b:Nat}(hb:Below B w W)(ha:B<=a)(hbb:B<=b)(v0 v1 v2 v3 v4:Value) :
  Below B w (((((W.setCell ⟨a,0,none⟩ v0).setCell ⟨a,1,none⟩ v1).setCell ⟨a,2,none⟩ v2).setCell ⟨b,0,none⟩ v3).setCell ⟨b,1,none⟩ v4) /\
  ∀g,g≠a->g≠b->(((((W.setCell ⟨a,0,none⟩ v0).setCell ⟨a,1,none⟩ v1).setCell ⟨a,2,none⟩ v2).setCell ⟨b,0,none⟩ v3).setCell ⟨b,1,none⟩ v4).heap[g]?=W.heap[g]?:=by
 refine⟨((((hb.setCell (p:=⟨a,0,none⟩) ha _).setCell (p:=⟨a,1,none⟩) ha _).setCell (p:=⟨a,2,none⟩) ha _).setCell (p:=⟨b,0,none⟩) hbb _).setCell (p:=⟨b,1,none⟩) hbb _,fun g h1 h2=> ?_⟩;rw[heap_setCell_other _ ⟨b,1,none⟩ g _ (by simpa using h2),heap_setCell_other _ ⟨b,0,none⟩ g _ (by simpa using h2),heap_setCell_other _ ⟨a,2,none⟩ g _ (by simpa using h1),heap_setCell_other _ ⟨a,1,none⟩ g _ (by simpa using h1),heap_setCell_other _ ⟨a,0,none⟩ g _ (by simpa using h1)]
end Go.Proofs.YtgbhkkojkpndmaaGreatDoor
namespace Go.Proofs.YtgbhkkojkpndmaaGreatDoor
open Go.RowKit Go.Shelf
theorem K.zpy {l:List K.Rule}:∀(left:Nat) (a b:List Int) (s p:Int),(K.play l left a b s p).1≠0->(K.play l left a b s p).2=([],0,0):=by
 intro left
 induction left with
 | zero =>
  intro a b s p h;rw[K.play] at h ⊢
  by_cases hz:b.length=0
  ·rw[if_pos hz] at h;exact absurd rfl h
  ·rw[if_neg hz]
 | succ n ih =>
  intro a b s p h;rw[K.play] at h ⊢
  by_cases hz:b.length=0
  ·rw[if_pos hz] at h;exact absurd rfl h
  ·rw[if_neg hz] at h ⊢
   by_cases hk:K.which l (a++b) a.length<0
   ·rw[if_pos hk] at h ⊢;exact ih _ _ _ _ h
   ·rw[if_neg hk] at h ⊢;simp only at h ⊢;split
    ·rfl
    ·rename_i h2;rw[if_neg h2] at h;exact ih _ _ _ _ h
def Gm.Ply (l:List K.Rule) (t:List Int) (x:List Int) (s p f1 f2:Int):Prop :=
 ∃o:List J.Hd×Int×Int,Gm.Chk l t o/\((o.2.1≠0/\x= []/\s=0/\p=0/\f1=o.2.1/\f2=o.2.2)∨(o.2.1=0/\K.play l (8*t.length+40) [] t 0 0=(f1,x,s,p)/\f2=0))
theorem Gm.Vm.bad {wb w':World}{v:Value}{l:List K.Rule}{t:List Int}{ob:Nat}{mp:Value}{f1 f2:Int}(h:Gm.Vm wb w' v l t ob mp f1 f2)(hf:f1≠0):mp= .pointer none/\Gm.Ply l t [] 0 0 f1 f2:=by
 obtain⟨o,hc,⟨h1,h2,h3,h4⟩|⟨h1,p1,p2,p3,p4,h2,h3,h4,⟨h5,h6⟩|⟨h5,_⟩⟩⟩:=h
 ·exact⟨h2,o,hc,.inl ⟨h1,rfl,rfl,rfl,h3,h4⟩⟩
 ·refine⟨h6,o,hc,.inr ⟨h1,?_,h4⟩⟩;have:=K.zpy (l:=l) (8*t.length+40) [] t 0 0 (by rw[h2];exact h5);rw[h2] at this;simp only[Prod.mk.injEq] at this;rw[h2,h3,this.1,this.2.1,this.2.2]
 ·exact absurd (h3.trans h5) hf
theorem Gm.Vm.good {wb w':World}{v:Value}{l:List K.Rule}{t:List Int}{ob:Nat}{mp:Value}{f2:Int}(h:Gm.Vm wb w' v l t ob mp 0 f2):∃mb x s p,mp= .pointer (some ⟨mb,0,none⟩)/\f2=0/\Gm.Ply l t x s p 0 0/\w'.heap[ob]?=some (.cells #[.slice none 0 0,.int .i64 s,.int .i64 p] 140)/\∃b g vh c,ob<b/\mb≠ob/\Gm.Mx b [mb] mb wb w' g v vh l c x []:=by
 obtain⟨o,hc,⟨h1,h2,h3,h4⟩|⟨h1,p1,p2,p3,p4,h2,h3,h4,⟨h5,h6⟩|⟨h5,mb,h6,h7,h8⟩⟩⟩:=h
 ·exact absurd h3.symm h1
 ·exact absurd h3.symm h5
 ·subst h5;exact⟨mb,p2,p3,p4,h6,h4,⟨o,hc,.inr ⟨h1,h2,rfl⟩⟩,h7,h8⟩
theorem zib (w:World)(v:Value)(l:List K.Rule)(R0:V.Rus w v l)(vt:Value)(t:List Int)(Rt:L.Rd w vt .i32 t)(ht:t.length<=140737488355328) :
  Calls Tryz.prog 94 #[v,vt] w fun e w'=>∃(v':Value) (x:List Int) (s p f1 f2:Int),e= .returned (.tuple #[.agg #[v',.int .i64 s,.int .i64 p],.agg #[.int .i64 f1,.int .i64 f2]])/\L.Rd w' v' .i32 x/\Gm.Ply l t x s p f1 f2/\x.length<=4000/\Below w.heap.size w w':=by
 obtain⟨wb,hwb⟩:∃wb,wb=(w.alloc (.cells #[.slice none 0 0,.int .i64 0,.int .i64 0] 140)).alloc (.cells #[.int .i64 0,.int .i64 0] 48):=⟨_,rfl⟩;have hBb:Below w.heap.size w wb:=by rw[hwb];exact((qR w).alloc qN _).alloc (by simp) _
 have hbs:wb.heap.size=w.heap.size+2:=by rw[hwb];simp
 have hx0:wb.heap[w.heap.size]?=some (.cells #[.slice none 0 0,.int .i64 0,.int .i64 0] 140):=by
  rw[hwb];show (((w.heap.push _).push _))[w.heap.size]?=_;rw[Array.getElem?_push,if_neg (by simp),Array.getElem?_push,if_pos rfl]
 have hx1:wb.heap[w.heap.size+1]?=some (.cells #[.int .i64 0,.int .i64 0] 48):=by
  rw[hwb];show (((w.heap.push _).push _))[w.heap.size+1]?=_;rw[Array.getElem?_push,if_pos (by simp)]
 have HPl:Hid (∀Y,Y=wb->Calls Tryz.prog 114 #[v,vt,.func (.func 113) #[] #[.pointer (some ⟨w.heap.size+2,0,none⟩)]] (Y.alloc (.cells #[.slice none 0 0,.int .i64 0,.int .i64 0] 140)) fun e w'=>∃mp f1 f2,e= .returned (.tuple #[mp,.agg #[.int .i64 f1,.int .i64 f2]])/\Below wb.heap.size wb w'/\Gm.Vm wb w' v l t (w.heap.size+2) mp f1 f2):=fun Y hY=>by
  rw[hY];have hal:Below wb.heap.size wb (wb.alloc (.cells #[.slice none 0 0,.int .i64 0,.int .i64 0] 140)):=(qR wb).alloc qN _;exact zia wb _ v l hal (R0.below hBb) vt t ((Rt.below hBb qN).below hal qN) ht (w.heap.size+2) (by omega) (by rw[<- hbs];exact heap_alloc_new wb _)
 have HWB:Hid (wb=(w.alloc (.cells #[.slice none 0 0,.int .i64 0,.int .i64 0] 140)).alloc (.cells #[.int .i64 0,.int .i64 0] 48)):=hwb;have HBb:Hid (Below w.heap.size w wb):=hBb;have HX:Hid (wb.heap[w.heap.size]?=some (.cells #[.slice none 0 0,.int .i64 0,.int .i64 0] 140)/\wb.heap[w.heap.size+1]?=some (.cells #[.int .i64 0,.int .i64 0] 48)/\wb.heap.size=w.heap.size+2):=⟨hx0,hx1,hbs⟩;obtain⟨va,vc,rfl⟩:=R0.len;clear R0 Rt hwb hBb hbs hx0 hx1
 go_enter Tryz.func94,Tryz.ntmps94
 go_wp2_with fail
 go_at_call 114
 refine(HPl.out _ HWB.out.symm).mono ?_;rintro e w1 ⟨mp,f1,f2,rfl,b1,hV⟩;have HV:Hid (Gm.Vm wb w1 (.slice va l.length vc) l t (w.heap.size+2) mp f1 f2):=hV;have HB1:Hid (Below w.heap.size w w1):=HBb.out.trans (b1.mono (by have:=HX.out.2.2;omega));have h0:w1.heap[w.heap.size]?=some (.cells #[.slice none 0 0,.int .i64 0,.int .i64 0] 140):=K.zae HX.out.1 b1;have h1:w1.heap[w.heap.size+1]?=some (.cells #[.int .i64 0,.int .i64 0] 48):=K.zae HX.out.2.1 b1;have hs1:w.heap.size+2<=w1.heap.size:=by have:=b1.size;have:=HX.out.2.2;omega
 clear b1 hV HPl HWB HX HBb
 by_cases q:f1=0
 ·subst q;obtain⟨mb,x,s,p,rfl,rfl,hply,hob,b,g,vh,c,hbb,hmo,hM⟩:=HV.out.good;have hol:w.heap.size+2<w1.heap.size:=lt_of_block hob;obtain⟨W,hW⟩:∃W,W=w1.alloc (.cells #[.int .i64 0,.int .i64 0] 48):=⟨_,rfl⟩;have hal:Below w1.heap.size w1 W:=by rw[hW];exact(qR w1).alloc qN _
  have hM2:=hM.below hal;have kg:W.cell? ⟨mb,0,none⟩=some (.pointer (some ⟨g,0,none⟩)):=K.zah (i:=0) hM2.box rfl;obtain⟨ao,cur,hT⟩:=hM2.tx
  have HRu:Hid (∀Y,Y=W->Calls Tryz.prog 115 #[.pointer (some ⟨g,0,none⟩)] Y fun e w'=>∃v,e= .returned v/\w'.ownsRow W.heap.size 21 1 v x.length (x.map (Value.int .i32))/\Below W.heap.size W w'):=fun Y hY=>by
   rw[hY];have:=zkp W _ g ao cur x [] hT;rw[List.append_nil] at this;exact this
  have hxl:x.length<=4000:=by have:=hT.few;simpa using this
  have HW:Hid (W=w1.alloc (.cells #[.int .i64 0,.int .i64 0] 48)):=hW;have e0:=K.zae h0 hal;have e1:=K.zae h1 hal;have e2:=K.zae hob hal;have HE:Hid (W.heap[w.heap.size]?=some (.cells #[.slice none 0 0,.int .i64 0,.int .i64 0] 140)/\W.heap[w.heap.size+1]?=some (.cells #[.int .i64 0,.int .i64 0] 48)/\W.heap[w.heap.size+2]?=some (.cells #[.slice none 0 0,.int .i64 s,.int .i64 p] 140)/\Below w.heap.size w W):=⟨e0,e1,e2,HB1.out.trans (hal.mono (by omega))⟩;have HPy:Hid (Gm.Ply l t x s p 0 0):=hply;rw[hW] at kg;have hmw:mb<w1.heap.size:=hM.old mb (by simp);clear hW hal hM hM2 hT hob e0 e1 e2 h0 h1 HV hply
  go_wp2_with fail
  go_at_call 115
  refine(HRu.out _ HW.out.symm).mono ?_;rintro e w2 ⟨v,rfl,own,b2⟩;have e0:=K.zae HE.out.1 b2;have e1:=K.zae HE.out.2.1 b2;have e2:=K.zae HE.out.2.2.1 b2;have HOw:Hid (w2.ownsRow W.heap.size 21 1 v x.length (x.map (Value.int .i32))/\Below w.heap.size w w2/\w1.heap.size<W.heap.size/\W.heap.size<=w2.heap.size):=⟨own,HE.out.2.2.2.trans (b2.mono HE.out.2.2.2.size),by rw[HW.out];simp,b2.size⟩;have hs2:w.heap.size+2<w2.heap.size:=lt_of_block e2
  obtain⟨xo,xc,rfl⟩:∃xo xc,v= .slice xo x.length xc:=by
   rcases own.2 with ⟨hv,h0⟩|⟨g,cap,cur,hv,_⟩
   ·exact⟨none,0,by rw[hv,h0]⟩
   ·exact⟨_,_,hv⟩
  have k0:=K.zah (i:=0) e0 rfl;have k1:=K.zah (i:=1) e0 rfl;have k2:=K.zah (i:=2) e0 rfl;have k3:=K.zah (i:=0) e1 rfl;have k4:=K.zah (i:=1) e1 rfl;have k5:=K.zah (i:=0) e2 rfl;have k6:=K.zah (i:=1) e2 rfl;have k7:=K.zah (i:=2) e2 rfl;have g0:∀i,w2.frozen? ⟨w.heap.size,i,none⟩=false:=fun i=>frozen_of_row w2 _ i _ _ e0
  have g1:∀i,w2.frozen? ⟨w.heap.size+1,i,none⟩=false:=fun i=>frozen_of_row w2 _ i _ _ e1
  have g2:∀i,w2.frozen? ⟨w.heap.size+2,i,none⟩=false:=fun i=>frozen_of_row w2 _ i _ _ e2
  clear own b2 e0 e1 e2 HRu HW HE kg;go_wp2;refine bodyPost_ret (v:= .tuple #[.agg #[.slice xo x.length xc,.int .i64 s,.int .i64 p],.agg #[.int .i64 0,.int .i64 0]]) (by simp[results,Tryz.results94,go_sem, *]) rfl ?_;obtain⟨own,hB2,hl1,hl2⟩:=HOw.out;have hB3:Below w.heap.size w (w2.setCell ⟨w.heap.size+2,0,none⟩ (.slice xo x.length xc)):=hB2.setCell (p:=⟨w.heap.size+2,0,none⟩) (by simp) _;refine⟨_,x,s,p,0,0,rfl,K.za8 (L.Rd.za3 own) fun hz k hk=> ?_,HPy.out,hxl,(K.five hB3 qN (by omega) _ _ _ _ _).1⟩;have hk1:=(own.lt k hk).1;rw[(K.five hB3 qN (by omega) _ _ _ _ _).2 k (by omega) (by omega)];exact heap_setCell_other _ _ k _ (by simp;omega)
 ·obtain⟨rfl,hply⟩:=HV.out.bad q;have HPy:Hid (Gm.Ply l t [] 0 0 f1 f2):=hply;have k0:∀o,(w1.alloc o).cell? ⟨w.heap.size,0,none⟩=some (.slice none 0 0):=fun o=>K.zaj (K.zah h0 rfl) o
  have k1:∀o,(w1.alloc o).cell? ⟨w.heap.size,1,none⟩=some (.int .i64 0):=fun o=>K.zaj (K.zah h0 rfl) o
  have k2:∀o,(w1.alloc o).cell? ⟨w.heap.size,2,none⟩=some (.int .i64 0):=fun o=>K.zaj (K.zah h0 rfl) o
  have k3:∀o,(w1.alloc o).cell? ⟨w.heap.size+1,0,none⟩=some (.int .i64 0):=fun o=>K.zaj (K.zah h1 rfl) o
  have k4:∀o,(w1.alloc o).cell? ⟨w.heap.size+1,1,none⟩=some (.int .i64 0):=fun o=>K.zaj (K.zah h1 rfl) o
  have g0:∀o i,(w1.alloc o).frozen? ⟨w.heap.size,i,none⟩=false:=fun o i=>K.zao h0 o i
  have g1:∀o i,(w1.alloc o).frozen? ⟨w.heap.size+1,i,none⟩=false:=fun o i=>K.zao h1 o i
  have HB2:Hid (∀o,Below w.heap.size w (w1.alloc o)):=fun o=>HB1.out.alloc (by omega) o
  clear h0 h1 HV HB1 hply;go_wp2
  go_region
  go_wp2;refine bodyPost_ret (v:= .tuple #[.agg #[.slice none 0 0,.int .i64 0,.int .i64 0],.agg #[.int .i64 f1,.int .i64 f2]]) (by simp[results,Tryz.results94,go_sem, *]) rfl ?_
  exact⟨_,[],0,0,f1,f2,rfl,⟨none,0,rfl,fun _=>rfl,fun h=>absurd rfl h⟩,HPy.out,by simp,(K.five (HB2.out _) qN (by omega) _ _ _ _ _).1.drew⟩
end Go.Proofs.YtgbhkkojkpndmaaGreatDoor
namespace Go.Proofs.YtgbhkkojkpndmaaGreatDoor.K
theorem zpx {l:List Rule}:∀ {left:Nat} {done rest:List Int} {s p:Int},done.length+rest.length<=4000->(play l left done rest s p).2.1.length<=4000:=by
 intro left
 induction left with
 | zero =>
  intro done rest s p h;rw[play];split
  ·show done.length<=4000;omega
  ·show 0<=4000;omega
 | succ left ih =>
  intro done rest s p h;rw[play];split
  ·show done.length<=4000;omega
  ·split
   ·exact ih (by simp;omega)
   ·simp only;split
    ·show 0<=4000;omega
    ·exact ih (by simp;omega)
end Go.Proofs.YtgbhkkojkpndmaaGreatDoor.K
namespace Go.Proofs.YtgbhkkojkpndmaaGreatDoor.Cn
open Go.RowKit
theorem zle {l:List K.Rule}(hE:∀r∈l,K.ruleE r=0):∀(left:Nat) (a b:List Int) (s p:Int),K.allR a=true->K.allR b=true->K.allR (K.play l left a b s p).2.1=true:=by
 intro left
 induction left with
 | zero =>
  intro a b s p ha hb;rw[K.play];split
  ·exact ha
  ·rfl
 | succ n ih =>
  intro a b s p ha hb;rw[K.play];split
  ·exact ha
  ·split
   ·exact ih _ _ _ _ (Gm.zcx.2 ⟨ha,Gm.zcw hb fun x hx=>List.mem_of_mem_take hx⟩) (Gm.zcw hb fun x hx=>List.mem_of_mem_drop hx)
   ·rename_i hk
    simp only;split
    ·rfl
    ·rcases K.zgh (l:=l) (t:=a++b) (k:=(a.length:Int)) with h | ⟨j,r,hr,hm,hj⟩
     ·omega
     ·have e:(l[(K.which l (a++b) a.length).toNat]?).getD K.noRule=r:=by rw[hj];simp[hr]
      rw[e];have hR:K.allR (K.restOf r b)=true:=Gm.zcx.2 ⟨(K.zat (hE r (List.mem_of_getElem? hr))).2.2.2.2.2.1,Gm.zcw hb fun x hx=>List.mem_of_mem_drop hx⟩;exact ih _ _ _ _ (Gm.zcx.2 ⟨ha,Gm.zcw hR fun x hx=>List.mem_of_mem_take hx⟩) (Gm.zcw hR fun x hx=>List.mem_of_mem_drop hx)
theorem zsp {l:List K.Rule}{t x:List Int}{s p e f2:Int}(h:Gm.Ply l t x s p e f2):Tx x:=by
 obtain⟨o,hc,⟨_,rfl,_⟩|⟨ho,hp,_⟩⟩:=h
 ·exact Tx.nil
 ·rcases hc with ⟨h1,rfl⟩|⟨_,h1,rfl⟩|⟨h1,h2,_⟩
  ·exact absurd ho h1
  ·exact absurd ho h1
  ·have ht:=zeo.1 h2;have hE:=(K.zbd h1).2.1;have e1:x=(K.play l (8*t.length+40) [] t 0 0).2.1:=by rw[hp]
   rw[e1];exact⟨K.zpx (by simpa using ht.1),zle hE _ _ _ _ _ rfl ht.2⟩
theorem zsc {l:List K.Rule}{t:List Int}{o o':List J.Hd×Int×Int}(h:Gm.Chk l t o)(h':Gm.Chk l t o'):o=o':=by
 rcases h with ⟨h1,rfl⟩|⟨h0,h1,rfl⟩|⟨h0,h1,h2⟩ <;> rcases h' with ⟨g1,rfl⟩|⟨g0,g1,rfl⟩|⟨g0,g1,g2⟩
 ·rfl
 ·exact absurd g0 h1
 ·exact absurd g0 h1
 ·exact absurd h0 g1
 ·rfl
 ·exact absurd g1 h1
 ·exact absurd h0 g1
 ·exact absurd h1 g1
 ·exact J.zjl h2 g2
theorem znm {l:List K.Rule}{t x x':List Int}{s p e f2 s' p' e' f2':Int}(h:Gm.Ply l t x s p e f2)(h':Gm.Ply l t x' s' p' e' f2'):x=x'/\e=e':=by
 obtain⟨o,hc,h⟩:=h;obtain⟨o',hc',h'⟩:=h';have:=zsc hc hc';subst this;rcases h with ⟨h0,rfl,_,_,rfl,_⟩|⟨h0,hp,_⟩ <;> rcases h' with ⟨g0,rfl,_,_,rfl,_⟩|⟨g0,gp,_⟩
 ·exact⟨rfl,rfl⟩
 ·exact absurd g0 h0
 ·exact absurd h0 g0
 ·rw[hp] at gp;simp only[Prod.mk.injEq] at gp;exact⟨gp.2.1,gp.1⟩
def PlOk (pl:Pl):Prop:=(∀l t x s p e f2,Gm.Ply l t x s p e f2->pl l t=(x,e))/\∀l x,Tx (pl l x).1
theorem zgu:∃pl,PlOk pl:=by
 have each:∀l t,∃q:List Int×Int,(∀x s p e f2,Gm.Ply l t x s p e f2->q=(x,e))/\Tx q.1:=fun l t=>by
  by_cases h:∃x s p e f2,Gm.Ply l t x s p e f2
  ·obtain⟨x,s,p,e,f2,h⟩:=h;exact⟨(x,e),fun x' s' p' e' f2' h'=>by rw[(znm h h').1,(znm h h').2],zsp h⟩
  ·exact⟨([],0),fun x s p e f2 h'=>absurd ⟨x,s,p,e,f2,h'⟩ h,Tx.nil⟩
 have hc:=fun l=>Classical.axiomOfChoice (each l)
 obtain⟨pl,hp⟩:=Classical.axiomOfChoice hc;exact⟨pl,fun l t x s p e f2 h=>(hp l t).1 x s p e f2 h,fun l x=>(hp l x).2⟩
end Go.Proofs.YtgbhkkojkpndmaaGreatDoor.Cn
namespace Go.Proofs.YtgbhkkojkpndmaaGreatDoor
open Go.RowKit
namespace K
theorem zpt {w:World}{v:Value}{zs:List Int}{b:Nat}{x y:Int}{ty:TypeId}(h:L.Rd w v .i32 zs)(hb:w.heap[b]?=some (.cells #[.int .i64 x,.int .i64 y] ty))(hz:zs≠ []):∀k,v.ownBlock=some k->k≠b:=by
 obtain⟨ao,cap,rfl,hn,hc⟩:=h;obtain⟨b',off,rfl,hcell⟩:=hc hz;intro k hk e;have:b'=k:=by simpa [Value.ownBlock] using hk
 subst this e;obtain⟨z,hz2⟩:∃z,zs[0]?=some z:=⟨zs[0]'(List.length_pos_iff.2 hz),by simp⟩;have hc0:=hcell 0 z hz2;rw[World.cell?] at hc0;simp only[show w.heap[b']?=_ from hb] at hc0;simp at hc0;have hlt:=(qL.1 hc0).1
 match off,hc0 with
 | 0,hc0=>simp at hc0
 | 1,hc0=>simp at hc0
 | n+2,_=>simp at hlt;omega
theorem set2 {w:World}{b:Nat}{x y:Value}{ty:TypeId}(hb:w.heap[b]?=some (.cells #[x,y] ty))(x' y':Value):((w.setCell ⟨b,0,none⟩ x').setCell ⟨b,1,none⟩ y').heap[b]?=some (.cells #[x',y'] ty):=heap_setCell_same _ b 1 _ _ y' (heap_setCell_same w b 0 _ _ x' hb)
end K
end Go.Proofs.YtgbhkkojkpndmaaGreatDoor
namespace Go.Proofs.YtgbhkkojkpndmaaGreatDoor
open Go.RowKit
namespace Cn
def Acts (w0:World) (B:Nat) (w:World) (v:Value) (F:List Int->List Int×Int):Prop :=
 ∃g cb,∃bx:Option (Nat×Obj),v= .func (.func g) #[] cb/\(∀args w,(callFunc g args).run Tryz.prog w= .ok (.enter g args) w)/\(∀p,bx=some p->B<=p.1/\w.heap[p.1]?=some p.2) /\
  ∀W vt t,Below w0.heap.size w0 W->(∀p,bx=some p->W.heap[p.1]?=some p.2)->L.Rd W vt .i32 t->Tx t->Calls Tryz.prog g (#[vt]++cb) W fun e w'=>∃v',e= .returned (.tuple #[v',.int .i64 (F t).2])/\L.Rd w' v' .i32 (F t).1/\Below W.heap.size W w'
theorem Acts.keep {w0 w w':World}{B B':Nat}{v:Value}{F:List Int->List Int×Int}(h:Acts w0 B w v F)(hB:B'<=B)(hk:∀b o,B<=b->w.heap[b]?=some o->w'.heap[b]?=some o):Acts w0 B' w' v F:=by
 obtain⟨g,cb,bx,hv,eg,hb,hc⟩:=h;exact⟨g,cb,bx,hv,eg,fun p hp=>⟨Nat.le_trans hB (hb p hp).1,hk _ _ (hb p hp).1 (hb p hp).2⟩,hc⟩
theorem Acts.below {w0 w w':World}{B:Nat}{v:Value}{F:List Int->List Int×Int}(h:Acts w0 B w v F)(hb:Below w.heap.size w w'):Acts w0 B w' v F :=
 h.keep qN fun b o _ ho=>K.zae ho hb
theorem Acts.call {w0 w:World}{B:Nat}{v:Value}{F:List Int->List Int×Int}(h:Acts w0 B w v F)(h0:Below w0.heap.size w0 w):∃g cb,v= .func (.func g) #[] cb/\(∀args w,(callFunc g args).run Tryz.prog w= .ok (.enter g args) w) /\
  ∀vt t,L.Rd w vt .i32 t->Tx t->Calls Tryz.prog g (#[vt]++cb) w fun e w'=>∃v',e= .returned (.tuple #[v',.int .i64 (F t).2])/\L.Rd w' v' .i32 (F t).1/\Below w.heap.size w w':=by
 obtain⟨g,cb,bx,hv,eg,hb,hc⟩:=h;exact⟨g,cb,hv,eg,fun vt t=>hc w vt t h0 fun p hp=>(hb p hp).2⟩
end Cn
theorem zhl (w:World)(vt:Value) :
  Calls Tryz.prog 88 #[vt] w fun e w'=>e= .returned (.tuple #[vt,.int .i64 0])/\w'=w:=by
 go_enter Tryz.func88,Tryz.ntmps88
 go_wp2;refine bodyPost_ret (v:= .tuple #[vt,.int .i64 0]) (by simp[results,Tryz.results88,go_sem, *]) rfl ?_
 exact⟨rfl,rfl⟩
theorem zfm (w:World)(vt:Value) :
  Calls Tryz.prog 89 #[vt] w fun e w'=>e= .returned (.tuple #[.slice none 0 0,.int .i64 0])/\w'=w:=by
 go_enter Tryz.func89,Tryz.ntmps89
 go_wp2;refine bodyPost_ret (v:= .tuple #[.slice none 0 0,.int .i64 0]) (by simp[results,Tryz.results89,go_sem, *]) rfl ?_
 exact⟨rfl,rfl⟩
theorem zgo (pl:Cn.Pl)(hpl:Cn.PlOk pl)(w:World)(b:Nat)(v:Value)(l:List K.Rule)(hb:w.heap[b]?=some (.cells #[v] 84))(R0:V.Rus w v l)(vt:Value)(t:List Int)(Rt:L.Rd w vt .i32 t)(ht:Cn.Tx t) :
  Calls Tryz.prog 93 #[vt,.pointer (some ⟨b,0,none⟩)] w fun e w'=>∃v',e= .returned (.tuple #[v',.int .i64 (pl l t).2])/\L.Rd w' v' .i32 (pl l t).1/\Below w.heap.size w w':=by
 have HP:=zib w v l R0 vt t Rt (by have:=ht.1;omega);have k0:w.cell? ⟨b,0,none⟩=some v:=K.zah hb rfl;obtain⟨⟨q1,q2⟩,hq⟩:∃q,pl l t=q:=⟨_,rfl⟩
 have HQ:Hid (∀x s p e f2,Gm.Ply l t x s p e f2->q1=x/\q2=e):=fun x s p e f2 h=>by
  have:=hpl.1 _ _ _ _ _ _ _ h;rw[hq] at this;exact Prod.mk.inj this
 rw[hq];obtain⟨ao,cap,rfl⟩:=R0.len;obtain⟨xo,xc,rfl,_⟩:=Rt;clear R0 hb hq hpl
 go_enter Tryz.func93,Tryz.ntmps93
 go_wp2_with fail
 refine HP.mono ?_;rintro e w1 ⟨v1,x,s,p,f1,f2,rfl,d1,hply,hx4,b1⟩;obtain⟨rfl,rfl⟩:=HQ.out _ _ _ _ _ hply;obtain⟨va,vc,rfl⟩:∃va vc,v1= .slice va q1.length vc:=by obtain⟨a,c,h,_⟩:=d1;exact⟨a,c,h⟩
 have HD:Hid (L.Rd w1 (.slice va q1.length vc) .i32 q1/\Below w.heap.size w w1):=⟨d1,b1⟩;clear HP HQ hply d1 b1 k0;go_wp2
 go_region
 go_wp2;refine bodyPost_ret (v:= .tuple #[.slice va q1.length vc,.int .i64 q2]) (by simp[results,Tryz.results93,go_sem, *]) rfl ?_
 have hB:∀x y,Below w1.heap.size w1 ((w1.alloc x).alloc y).drew:=fun x y=>(((qR w1).alloc qN _).alloc (by simp) _).drew
 exact⟨_,rfl,HD.out.1.below (hB _ _) qN,HD.out.2.trans ((hB _ _).mono HD.out.2.size)⟩
theorem Cn.zrm {w:World}{g k:Nat}{cur:List Int}(h:K.Row w g (K.ints cur))(z:Int):K.Row (w.setCell ⟨g,k,none⟩ (.int .i32 z)) g (K.ints (cur.set k z)):=by
 have:=heap_setCell_same w g k _ _ (.int .i32 z) h;unfold K.Row;rw[this];simp[K.ints]
theorem Cn.zsm {w:World}{g:Nat}{cur:List Int}(h:K.Row w g (K.ints cur)):L.Rd w (.slice (some ⟨g,0,none⟩) cur.length cur.length) .i32 cur :=
 ⟨_,_,rfl,fun e=>by (cases e),fun _=>⟨g,0,rfl,fun j z hj=>by rw[Nat.zero_add,h.cell j,K.ints,List.getElem?_map,hj];rfl⟩⟩
theorem zh1 (w:World)(b g:Nat)(ty:TypeId)(f:Int->Int)(hb:w.heap[b]?=some (.cells #[.func (.func g) #[] #[]] ty))(eg:∀args w,(callFunc g args).run Tryz.prog w= .ok (.enter g args) w)
  (hf:∀W r,0<=r->r<=1114111->Calls Tryz.prog g #[.int .i32 r] W fun e w'=>e= .returned (.int .i32 (f r))/\w'=W) (vt:Value) (t:List Int) (Rt:L.Rd w vt .i32 t) (ht:Cn.Tx t) :
  Calls Tryz.prog 111 #[vt,.pointer (some ⟨b,0,none⟩)] w fun e w'=>∃v',e= .returned (.tuple #[v',.int .i64 0])/\L.Rd w' v' .i32 (t.map f)/\Below w.heap.size w w':=by
 have HR:Hid (L.Rd w vt .i32 t/\w.heap[b]?=some (.cells #[.func (.func g) #[] #[]] ty)/\b<w.heap.size):=⟨Rt,hb,lt_of_block hb⟩;have HF:Hid (∀W r,0<=r->r<=1114111->Calls Tryz.prog g #[.int .i32 r] W fun e w'=>e= .returned (.int .i32 (f r))/\w'=W):=hf;have hl:=ht.1;have HT:Hid (∀r∈t,0<=r/\r<=1114111):=ht.range;obtain⟨xo,xc,rfl,_⟩:=Rt;obtain⟨W,hmk,hrow,hB,hs⟩:=Gm.zkc w t.length (by omega);have HW:Hid (K.Row W w.heap.size (K.ints (List.replicate t.length 0))/\Below w.heap.size w W):=⟨hrow,hB⟩;clear hb hf ht hrow hB hs
 go_enter Tryz.func111,Tryz.ntmps111
 go_wp2
 go_loopw [13] (fun i wr=>∃(k:Nat) (cur:List Int),k<=t.length/\i= .int .i64 k/\Hid (K.Row wr w.heap.size (K.ints cur)/\Below w.heap.size w wr/\cur.take k=(t.take k).map f/\cur.length=t.length)) (fun i _=>t.length - (intOf i).toNat)
 case atStart=>exact⟨0,List.replicate t.length 0,Nat.zero_le _,rfl,⟨HW.out.1,HW.out.2,rfl,by simp⟩⟩
 case round =>
  obtain⟨k,cur,hk,rfl,HI⟩:=hrel
  by_cases hlt:k<t.length
  ·obtain⟨z,hz⟩:∃z,t[k]?=some z:=⟨t[k],by simp[hlt]⟩;obtain⟨ao',cap',e',_,hcs⟩:=HR.out.1.below HI.out.2.1 qN;cases e';obtain⟨bt,off,rfl,hcell⟩:=hcs (by intro h;subst h;simp at hlt);have c0:=hcell k z hz;have k0:wr.cell? ⟨b,0,none⟩=some (.func (.func g) #[] #[]):=K.zah ((HI.out.2.1.block b HR.out.2.2).trans HR.out.2.1) rfl;have hcl:k<cur.length:=by have:=HI.out.2.2.2;omega
   have k1:wr.cell? ⟨w.heap.size,k,none⟩=some (.int .i32 (cur[k])):=by rw[HI.out.1.cell k,K.ints,List.getElem?_map];simp[hcl]
   have fz:wr.frozen? ⟨w.heap.size,k,none⟩=false:=HI.out.1.free k;have hC:=HF.out wr z (HT.out z (List.mem_of_getElem? hz)).1 (HT.out z (List.mem_of_getElem? hz)).2
   have HN:Hid (K.Row (wr.setCell ⟨w.heap.size,k,none⟩ (.int .i32 (f z))) w.heap.size (K.ints (cur.set k (f z)))/\Below w.heap.size w (wr.setCell ⟨w.heap.size,k,none⟩ (.int .i32 (f z)))/\(cur.set k (f z)).take (k+1)=(t.take (k+1)).map f/\(cur.set k (f z)).length=t.length):=by
    refine⟨Cn.zrm HI.out.1 _,HI.out.2.1.setCell (p:=⟨w.heap.size,k,none⟩) qN _,?_,by simpa using HI.out.2.2.2⟩;rw[List.take_add_one,List.take_set_of_le (Nat.le_refl k),List.getElem?_set_self hcl,HI.out.2.2.1,List.take_add_one,hz];simp
   clear hcs hcell hz;generalize cur.set k (f z)=cur2 at HN;generalize f z=fz2 at HN hC
   go_wp2_with fail
   refine hC.mono ?_;rintro e w1 ⟨rfl,rfl⟩;go_wp2
   go_roundw
   case rel=>exact⟨k+1,cur2,by omega,by go_num,HN⟩
   case measure=>simp[intOf];omega
  ·have hkl:k=t.length:=by omega
   subst hkl;go_wp2;refine bodyPost_ret (v:= .tuple #[.slice (some ⟨w.heap.size,0,none⟩) t.length t.length,.int .i64 0]) (by simp[results,Tryz.results111,go_sem, *]) rfl ?_;obtain⟨h1,h2,h3,h4⟩:=HI.out
   have h5:cur=t.map f:=by
    rw[List.take_length,<- h4,List.take_length] at h3;exact h3
   subst h5;have:=Cn.zsm h1;rw[h4] at this;exact⟨_,rfl,this,h2⟩
set_option maxHeartbeats 1000000 in
theorem zki (w0 w:World)(g:Nat)(f:Int->Int)(eg:∀args w,(callFunc g args).run Tryz.prog w= .ok (.enter g args) w)
    (hf:∀W r,0<=r->r<=1114111->Calls Tryz.prog g #[.int .i32 r] W fun e w'=>e= .returned (.int .i32 (f r))/\w'=W) :
    Calls Tryz.prog 86 #[.func (.func g) #[] #[]] w fun e w'=>∃v,e= .returned v/\Cn.Acts w0 w.heap.size w' v (fun x=>(x.map f,0))/\Below w.heap.size w w':=by
  have HF:Hid (∀W r,0<=r->r<=1114111->Calls Tryz.prog g #[.int .i32 r] W fun e w'=>e= .returned (.int .i32 (f r))/\w'=W):=hf
  have HG:Hid (∀args w,(callFunc g args).run Tryz.prog w= .ok (.enter g args) w):=eg
  clear hf eg
  go_enter Tryz.func86,Tryz.ntmps86
  go_wp2
  go_ret
  have hal:∀o,Below w.heap.size w (w.alloc o):=fun o=>(qR w).alloc qN o
  refine⟨_,rfl,⟨111,_,some (w.heap.size,_),rfl,enters_of Tryz.func111 (by kernel_rfl) rfl,fun p hp=>by cases hp;exact⟨qN,heap_alloc_new w _⟩,fun W vt t hW hb hr ht=> ?_⟩,hal _⟩
  exact zh1 W w.heap.size g _ f (hb _ rfl) HG.out HF.out vt t hr ht
set_option maxHeartbeats 1000000 in
theorem zne (pl:Cn.Pl)(hpl:Cn.PlOk pl)(w0 w:World)(v:Value)(l:List K.Rule)(R0:V.Rus w0 v l) :
    Calls Tryz.prog 68 #[v] w fun e w'=>∃v',e= .returned v'/\Cn.Acts w0 w.heap.size w' v' (pl l)/\Below w.heap.size w w':=by
  have HR:Hid (V.Rus w0 v l):=R0
  obtain⟨ao,cap,rfl⟩:=R0.len
  clear R0
  go_enter Tryz.func68,Tryz.ntmps68
  go_wp2
  go_ret
  have hal:∀o,Below w.heap.size w (w.alloc o):=fun o=>(qR w).alloc qN o
  refine⟨_,rfl,⟨93,_,some (w.heap.size,_),rfl,enters_of Tryz.func93 (by kernel_rfl) rfl,fun p hp=>by cases hp;exact⟨qN,heap_alloc_new w _⟩,fun W vt t hW hb hr ht=> ?_⟩,hal _⟩
  exact zgo pl hpl W w.heap.size _ l (hb _ rfl) (HR.out.below hW) vt t hr ht
def Cn.nameF (s:ByteArray) (x:List Int):List Int×Int :=
  if s.toList= [117,112,112,101,114] then (x.map Cn.up,0)
  else if s.toList= [108,111,119,101,114] then (x.map Cn.low,0)
  else if s.toList= [110,117,108,108] then (x,0) else ([],0)
theorem Cn.zo2 (w0:World)(B:Nat)(w:World):Cn.Acts w0 B w (.func (.func 88) #[] #[]) (fun x=>(x,0)) :=
  ⟨88,_,none,rfl,enters_of Tryz.func88 (by kernel_rfl) rfl,fun p hp=>by (cases hp),fun W vt t hW _ hr ht=>(zhl W vt).mono fun e w' ⟨h1,h2⟩=>by subst h2;exact⟨_,h1,hr,qR _⟩⟩
theorem Cn.zjv (w0:World)(B:Nat)(w:World):Cn.Acts w0 B w (.func (.func 89) #[] #[]) (fun x=>([],0)) :=
  ⟨89,_,none,rfl,enters_of Tryz.func89 (by kernel_rfl) rfl,fun p hp=>by (cases hp),fun W vt t hW _ hr ht=>(zfm W vt).mono fun e w' ⟨h1,h2⟩=>by subst h2;exact⟨_,h1,⟨none,0,rfl,fun _=>rfl,fun h=>absurd rfl h⟩,qR _⟩⟩
def Cn.Nm (w0 w w':World) (s:ByteArray) (v:Value):Prop:=(R.passes s=true->Cn.Acts w0 w.heap.size w' v (Cn.nameF s))/\(R.passes s=false->v= .nilFunc)/\Below w.heap.size w w'/\(R.passes s=true->v≠ .nilFunc)
theorem Cn.Acts.some {w0 w:World}{B:Nat}{v:Value}{F:List Int->List Int×Int}(h:Cn.Acts w0 B w v F):v≠ .nilFunc:=by
  obtain⟨g,cb,bx,rfl,_⟩:=h
  intro h;cases h
theorem Cn.zp5 {w0 w w':World}{s:ByteArray}{v:Value}{F:List Int->List Int×Int}(hp:R.passes s=true)(h:Cn.Acts w0 w.heap.size w' v F)(e:Cn.nameF s=F)(hb:Below w.heap.size w w'):Cn.Nm w0 w w' s v :=
  ⟨fun _=>e▸h,fun h=>by (rw[hp] at h;cases h),hb,fun _=>h.some⟩
set_option maxHeartbeats 1000000 in
theorem zfg (w0:World)(s:ByteArray)(w:World) :
    Calls Tryz.prog 64 #[.string s] w fun e w'=>∃v,e= .returned v/\Cn.Nm w0 w w' s v:=by
  have HL:Hid (∀W,Calls Tryz.prog 86 #[.func (.func 87) #[] #[]] W fun e w'=>∃v,e= .returned v/\Cn.Acts w0 W.heap.size w' v (fun x=>(x.map Cn.low,0))/\Below W.heap.size W w'):=fun W=>zki w0 W _ _ (enters_of Tryz.func87 (by kernel_rfl) rfl) fun W r h1 h2=>zjm r (by omega) (by omega) W
  have HU:Hid (∀W,Calls Tryz.prog 86 #[.func (.func 90) #[] #[]] W fun e w'=>∃v,e= .returned v/\Cn.Acts w0 W.heap.size w' v (fun x=>(x.map Cn.up,0))/\Below W.heap.size W w'):=fun W=>zki w0 W _ _ (enters_of Tryz.func90 (by kernel_rfl) rfl) fun W r h1 h2=>zmy r (by omega) (by omega) W
  cases h1:(s.toList== [108,111,119,101,114]) with
  | true =>
    have h1':=eq_of_beq h1
    go_enter Tryz.func64,Tryz.ntmps64
    go_wp2_with fail
    refine(HL.out _).mono ?_
    rintro e w1 ⟨v,rfl,hA,hB⟩
    have HA:Hid (Cn.Acts w0 w.heap.size w1 v (fun x=>(x.map Cn.low,0))/\Below w.heap.size w w1):=⟨hA,hB⟩
    clear hA hB
    go_wp2
    go_ret
    exact⟨_,rfl,Cn.zp5 (by unfold R.passes;rw[h1'];decide) HA.out.1 (by funext x;unfold Cn.nameF;rw[h1'];rfl) HA.out.2⟩
  | false =>
    cases h2:(s.toList== [110,117,108,108]) with
    | true =>
      have h2':=eq_of_beq h2
      go_enter Tryz.func64,Tryz.ntmps64
      go_wp2
      go_ret
      exact⟨_,rfl,Cn.zp5 (by unfold R.passes;rw[h2'];decide) (Cn.zo2 w0 _ w) (by funext x;unfold Cn.nameF;rw[h2'];rfl) (qR _)⟩
    | false =>
      cases h3:(s.toList== [114,101,109,111,118,101]) with
      | true =>
        have h3':=eq_of_beq h3
        go_enter Tryz.func64,Tryz.ntmps64
        go_wp2
        go_ret
        exact⟨_,rfl,Cn.zp5 (by unfold R.passes;rw[h3'];decide) (Cn.zjv w0 _ w) (by funext x;unfold Cn.nameF;rw[h3'];rfl) (qR _)⟩
      | false =>
        cases h4:(s.toList== [117,112,112,101,114]) with
        | true =>
          have h4':=eq_of_beq h4
          go_enter Tryz.func64,Tryz.ntmps64
          go_wp2_with fail
          refine(HU.out _).mono ?_
          rintro e w1 ⟨v,rfl,hA,hB⟩
          have HA:Hid (Cn.Acts w0 w.heap.size w1 v (fun x=>(x.map Cn.up,0))/\Below w.heap.size w w1):=⟨hA,hB⟩
          clear hA hB
          go_wp2
          go_ret
          exact⟨_,rfl,Cn.zp5 (by unfold R.passes;rw[h4'];decide) HA.out.1 (by funext x;unfold Cn.nameF;rw[h4'];rfl) HA.out.2⟩
        | false =>
          go_enter Tryz.func64,Tryz.ntmps64
          go_wp2
          go_ret
          have hp:R.passes s=false:=by
            unfold R.passes
            simp only[beq_eq_false_iff_ne,ne_eq] at h1 h2 h3 h4
            simp[h1,h2,h3,h4]
          exact⟨_,rfl,fun h=>by (rw[hp] at h;cases h),fun _=>rfl,qR _,fun h=>by (rw[hp] at h;cases h)⟩
set_option maxHeartbeats 1000000 in
theorem znj (pl:Cn.Pl)(hpl:Cn.PlOk pl)(w0 w:World)(p:V.Pass)(ro:Option Addr)(rc:Nat)(R0:V.Rus w0 (.slice ro p.rules.length rc) p.rules)(hp:Cn.passE p=0) :
    Calls Tryz.prog 54 #[.agg #[.string p.name,.slice ro p.rules.length rc]] w fun e w'=>∃v,e= .returned v/\Cn.Acts w0 w.heap.size w' v (Cn.passF pl p)/\Below w.heap.size w w':=by
  have hal:∀o,Below w.heap.size w (w.alloc o):=fun o=>(qR w).alloc qN o
  have HR:Hid (∀o,Calls Tryz.prog 68 #[.slice ro p.rules.length rc] (w.alloc o) fun e w'=>∃v',e= .returned v'/\Cn.Acts w0 (w.alloc o).heap.size w' v' (pl p.rules)/\Below (w.alloc o).heap.size (w.alloc o) w'):=fun o=>zne pl hpl w0 _ _ _ R0
  have HN:Hid (∀W,Calls Tryz.prog 64 #[.string p.name] W fun e w'=>∃v,e= .returned v/\Cn.Nm w0 W w' p.name v):=fun W=>zfg w0 p.name W
  have HA:Hid (∀o w',Below (w.alloc o).heap.size (w.alloc o) w'->Below w.heap.size w w'):=fun o w' h=>(hal o).trans (h.mono (hal o).size)
  cases h1:(p.name.toList== []) with
  | true =>
    have h1':=eq_of_beq h1
    go_enter Tryz.func54,Tryz.ntmps54
    go_wp2_with fail
    refine(HR.out _).mono ?_
    rintro e w1 ⟨v,rfl,hA,hB⟩
    have HE:Hid (Cn.Acts w0 w.heap.size w1 v (pl p.rules)/\Below w.heap.size w w1):=⟨hA.keep (by simp) fun _ _ _ h=>h,HA.out _ _ hB⟩
    clear hA hB
    go_wp2
    go_ret
    have e:Cn.passF pl p=pl p.rules:=by (funext x;unfold Cn.passF;rw[if_pos h1'])
    exact⟨_,rfl,by rw[e];exact HE.out.1,HE.out.2⟩
  | false =>
    have h1':¬p.name.toList= []:=by simpa using h1
    have hps:R.passes p.name=true:=by
      unfold Cn.passE at hp
      rw[if_neg h1'] at hp
      cases h:R.passes p.name with
      | true=>rfl
      | false=>rw[h] at hp;simp at hp
    go_enter Tryz.func54,Tryz.ntmps54
    go_wp2_with fail
    refine(HN.out _).mono ?_
    rintro e w1 ⟨v,rfl,hnm⟩
    have HE:Hid (Cn.Acts w0 w.heap.size w1 v (Cn.nameF p.name)/\Below w.heap.size w w1):=⟨(hnm.1 hps).keep (by simp) fun _ _ _ h=>h,HA.out _ _ hnm.2.2.1⟩
    clear hnm
    go_wp2
    go_ret
    have e:Cn.passF pl p=Cn.nameF p.name:=by (funext x;unfold Cn.passF Cn.nameF;rw[if_neg h1'])
    exact⟨_,rfl,by rw[e];exact HE.out.1,HE.out.2⟩
end Go.Proofs.YtgbhkkojkpndmaaGreatDoor
namespace Go.Proofs.YtgbhkkojkpndmaaGreatDoor
open Go.RowKit
theorem zc9 (w:World)(p:V.Pass)(ro:Option Addr)(rc:Nat)(R0:V.Rus w (.slice ro p.rules.length rc) p.rules) :
  Calls Tryz.prog 48 #[.agg #[.string p.name,.slice ro p.rules.length rc]] w fun e w'=>e= .returned (.int .i64 (Cn.passE p))/\Below w.heap.size w w':=by
 have hal:∀o,Below w.heap.size w (w.alloc o):=fun o=>(qR w).alloc qN o
 have hfew:=R0.few;have HR:Hid (∀o,Calls Tryz.prog 63 #[.slice ro p.rules.length rc] (w.alloc o) fun e w'=>e= .returned (.agg #[.int .i64 (K.rulesF p.rules).1,.int .i64 (K.rulesF p.rules).2])/\Below (w.alloc o).heap.size (w.alloc o) w'):=fun o=>zd1 _ _ _ (R0.below (hal o))
 have HN:Hid (∀W,Calls Tryz.prog 64 #[.string p.name] W fun e w'=>∃v,e= .returned v/\Cn.Nm w W w' p.name v):=fun W=>zfg w p.name W
 have HA:Hid (∀o w',Below (w.alloc o).heap.size (w.alloc o) w'->Below w.heap.size w w'):=fun o w' h=>(hal o).trans (h.mono (hal o).size)
 have q1:∀g cb w,(binOp .eql 93 (.func (.func g) #[] cb) .nilFunc).run Tryz.prog w= .ok (.bool false) w:=fun g cb w=>by kernel_rfl
 have q2:∀w,(binOp .eql 93 .nilFunc .nilFunc).run Tryz.prog w= .ok (.bool true) w:=fun w=>by kernel_rfl
 have q3:∀a b w,(Instr.field 48 (.agg #[.int .i64 a,.int .i64 b]) 0).run Tryz.prog w= .ok (.int .i64 a) w:=fun a b w=>by kernel_rfl
 cases h1:(p.name.toList== []) with
 | true =>
  have h1':=eq_of_beq h1;have he:Cn.passE p=(K.rulesF p.rules).1:=by unfold Cn.passE;rw[if_pos h1']
  rw[he];obtain⟨⟨r1,r2⟩,hr⟩:∃o,K.rulesF p.rules=o:=⟨_,rfl⟩;rw[hr] at HR ⊢;simp only at HR ⊢;clear hr he R0
  go_enter Tryz.func48,Tryz.ntmps48
  go_wp2_with fail
  refine(HR.out _).mono ?_;rintro e w1 ⟨rfl,hB⟩;have HE:Hid (Below w.heap.size w w1):=HA.out _ _ hB;clear hB;go_wp2;go_ret;exact⟨rfl,HE.out⟩
 | false =>
  have h1':¬p.name.toList= []:=by simpa using h1
  cases hps:R.passes p.name with
  | false =>
   have he:Cn.passE p=7:=by unfold Cn.passE;rw[if_neg h1',hps];rfl
   rw[he]
   go_enter Tryz.func48,Tryz.ntmps48
   go_wp2_with fail
   refine(HN.out _).mono ?_;rintro e w1 ⟨v,rfl,hnm⟩;obtain rfl:=hnm.2.1 hps;have HE:Hid (Below w.heap.size w w1):=HA.out _ _ hnm.2.2.1;clear hnm;go_wp2;go_ret;exact⟨rfl,HE.out⟩
  | true =>
   have he:Cn.passE p=if 0<p.rules.length then 8 else 0:=by unfold Cn.passE;rw[if_neg h1',hps];rfl
   rw[he];obtain⟨o,HO⟩:∃o:Int,Hid ((if 0<p.rules.length then 8 else 0)=o):=⟨_,rfl⟩;rw[HO.out];clear he
   go_enter Tryz.func48,Tryz.ntmps48
   go_wp2_with fail
   refine(HN.out _).mono ?_;rintro e w1 ⟨v,rfl,hnm⟩;obtain⟨g,cb,bx,rfl,_⟩:=hnm.1 hps;have HE:Hid (Below w.heap.size w w1/\Below (w.alloc (.cells #[.string p.name,.slice ro p.rules.length rc] 86)).heap.size (w.alloc (.cells #[.string p.name,.slice ro p.rules.length rc] 86)) w1):=⟨HA.out _ _ hnm.2.2.1,hnm.2.2.1⟩;have hx:w1.heap[w.heap.size]?=some (.cells #[.string p.name,.slice ro p.rules.length rc] 86):=(HE.out.2.block _ (by simp)).trans (heap_alloc_new w _);obtain⟨k0,k1,_,_⟩:=K.box2 hx;clear hnm hx
   by_cases hz:0<p.rules.length
   ·have ho:=HO.out;rw[if_pos hz] at ho;subst ho;have hz':(0:Int)<(p.rules.length:Int):=by omega
    go_wp2;go_ret
    exact⟨rfl,HE.out.1⟩
   ·have ho:=HO.out;rw[if_neg hz] at ho;subst ho;have hz':¬(0:Int)<(p.rules.length:Int):=by omega
    go_wp2;go_ret
    exact⟨rfl,HE.out.1⟩
theorem Cn.zdv (w:World)(o1 o2:Obj):((w.alloc o1).alloc o2).heap[w.heap.size]?=some o1/\((w.alloc o1).alloc o2).heap[w.heap.size+1]?=some o2/\Below w.heap.size w ((w.alloc o1).alloc o2):=by
 have h:=K.zbr (qR ((w.alloc o1).alloc o2));exact⟨h.1,h.2.1,h.2.2.1⟩
theorem zl8 (w:World)(v:Value)(s:V.Script)(h0:V.ScIs w v s)(hfit:S.Fit s.only) :
  Calls Tryz.prog 32 #[v] w fun e w'=>e= .returned (.agg #[.int .i64 (Cn.wrongF s).1,.int .i64 (Cn.wrongF s).2])/\Below w.heap.size w w':=by
 obtain⟨oo,oc,po,pc,rfl,hO,hOl,hP⟩:=h0;have hPl:=hP.few;have HP:Hid (V.Pas w (.slice po s.passes.length pc) s.passes):=hP;have HSw:Hid (∀X,Below w.heap.size w X->Calls Tryz.prog 47 #[.slice oo s.only.length oc] X fun e w'=>e= .returned (.int .i64 (S.wrongE s.only))/\Below X.heap.size X w'):=fun X hX=>zb1 X _ _ (hO.below hX qN) hfit
 obtain⟨⟨o1,o2⟩,HO⟩:∃o,Hid (Cn.wrongF s=o):=⟨_,rfl⟩;rw[HO.out];clear hO hP;have h2:=Cn.zdv w (.cells #[.bool s.has,.slice oo s.only.length oc,.slice po s.passes.length pc] 44) (.cells #[.int .i64 0,.int .i64 0] 48);have HX2:Hid (((w.alloc (.cells #[.bool s.has,.slice oo s.only.length oc,.slice po s.passes.length pc] 44)).alloc (.cells #[.int .i64 0,.int .i64 0] 48)).heap[w.heap.size]?=some (.cells #[.bool s.has,.slice oo s.only.length oc,.slice po s.passes.length pc] 44)/\((w.alloc (.cells #[.bool s.has,.slice oo s.only.length oc,.slice po s.passes.length pc] 44)).alloc (.cells #[.int .i64 0,.int .i64 0] 48)).heap[w.heap.size+1]?=some (.cells #[.int .i64 0,.int .i64 0] 48)/\Below w.heap.size w ((w.alloc (.cells #[.bool s.has,.slice oo s.only.length oc,.slice po s.passes.length pc] 44)).alloc (.cells #[.int .i64 0,.int .i64 0] 48))):=h2;clear h2;cases hh:s.has with
 | false =>
  have HS0:Hid (¬(s.has=true/\¬S.wrongE s.only=0)):=fun h=>by
   have:=h.1;rw[hh] at this;cases this
  rw[hh] at HX2;have HX:Hid (_/\_/\_):=HX2.out;clear HX2 HSw
  go_enter Tryz.func32,Tryz.ntmps32
  by_cases hbig:60<s.passes.length
  ·have hw:Cn.wrongF s=(5,0):=by unfold Cn.wrongF;rw[if_neg HS0.out,if_pos hbig]
   rw[HO.out] at hw;cases hw;have hbi:(60:Int)<(s.passes.length:Int):=by omega
   go_wp2;refine bodyPost_ret (v:= .agg #[.int .i64 5,.int .i64 0]) (by simp[results,Tryz.results32,go_sem, *]) rfl ?_
   exact⟨rfl,(Cn.zdv w _ _).2.2⟩
  ·have hw:Cn.firstP 0 s.passes=(o1,o2):=by rw[<- HO.out];unfold Cn.wrongF;rw[if_neg HS0.out,if_neg hbig]
   have HF:Hid (Cn.firstP 0 s.passes=(o1,o2)):=hw;have hbi:¬(60:Int)<(s.passes.length:Int):=by omega
   clear hw;go_wp2
   go_loopw [24] (fun i wr=>∃k:Nat,k<=s.passes.length/\i= .int .i64 k/\Hid (Cn.firstP k (s.passes.drop k)=(o1,o2))/\Hid (Below w.heap.size w wr)/\Hid (wr.heap[w.heap.size+1]?=some (.cells #[.int .i64 0,.int .i64 0] 48))) (fun i _=>s.passes.length - (intOf i).toNat)
   case atStart=>exact⟨0,Nat.zero_le _,rfl,HF,HX.out.2.2,HX.out.2.1⟩
   case round =>
    obtain⟨k,hk,rfl,HE,HB,HY⟩:=hrel
    by_cases hlt:k<s.passes.length
    ·obtain⟨p,hp⟩:∃x,s.passes[k]?=some x:=⟨s.passes[k],by simp[hlt]⟩;obtain⟨ao',cap',e',_,hcs⟩:=HP.out.below HB.out;cases e';obtain⟨b,off,rfl,hcell⟩:=hcs (by intro h;rw[h] at hlt;simp at hlt);obtain⟨c0,hn,ro,rc,c1,hr⟩:=hcell k p hp;have HE2:Hid (Cn.firstP k (s.passes.drop k)=if Cn.passE p=0 then Cn.firstP (k+1) (s.passes.drop (k+1)) else (Cn.passE p,(k:Int))):=Cn.zfe hp;have hsz:=HB.out.size;have HW:Hid (∀o,Calls Tryz.prog 48 #[.agg #[.string p.name,.slice ro p.rules.length rc]] (wr.alloc o) fun e w'=>e= .returned (.int .i64 (Cn.passE p))/\Below (wr.alloc o).heap.size (wr.alloc o) w'):=fun o=>zc9 _ p ro rc (hr.below ((qR wr).alloc qN o))
     obtain⟨z,HZ⟩:∃z,Hid (Cn.passE p=z):=⟨_,rfl⟩;rw[HZ.out] at HW HE2;clear hp hcell hcs hr
     go_wp2_with fail
     refine(HW.out _).mono ?_;rintro e w1 ⟨rfl,b1⟩;obtain⟨_,B1,hl1⟩:=K.za2 b1;have hY1:w1.heap[w.heap.size+1]?=some (.cells #[.int .i64 0,.int .i64 0] 48):=K.zae HY.out B1;have HB1:Hid (Below w.heap.size w w1):=HB.out.trans (B1.mono hsz);have HY1:Hid (w1.heap[w.heap.size+1]?=some (.cells #[.int .i64 0,.int .i64 0] 48)):=hY1;obtain⟨x0,x1,f0,f1⟩:=K.box2 hY1;clear b1 B1 hY1
     by_cases hz:z=0
     ·subst hz;go_wp2
      go_roundw
      case rel=>exact⟨k+1,by omega,by go_num,by show _=_;rw[<- HE.out,HE2.out];simp,HB1,HY1⟩
      case measure=>simp[intOf];omega
     ·go_wp2;refine bodyPost_ret (v:= .agg #[.int .i64 z,.int .i64 k]) (by simp[results,Tryz.results32,go_sem, *]) rfl ?_
      have h:=HE2.out;rw[HE.out,if_neg hz] at h;cases h;exact⟨rfl,((HB1.out).setCell (p:=⟨w.heap.size+1,0,none⟩) (by simp) _).setCell (p:=⟨w.heap.size+1,1,none⟩) (by simp) _⟩
    ·obtain⟨x0,x1,f0,f1⟩:=K.box2 HY.out;have h:=HE.out;rw[List.drop_eq_nil_of_le (by omega)] at h;cases h;go_wp2;refine bodyPost_ret (v:= .agg #[.int .i64 0,.int .i64 0]) (by simp[results,Tryz.results32,go_sem, *]) rfl ?_;exact⟨rfl,((HB.out).setCell (p:=⟨w.heap.size+1,0,none⟩) (by simp) _).setCell (p:=⟨w.heap.size+1,1,none⟩) (by simp) _⟩
 | true =>
  rw[hh] at HX2;have hSw:=HSw.out _ HX2.out.2.2;obtain⟨z,HZ⟩:∃z,Hid (S.wrongE s.only=z):=⟨_,rfl⟩;rw[HZ.out] at hSw
  go_enter Tryz.func32,Tryz.ntmps32
  go_wp2_with fail
  refine hSw.mono ?_;rintro e w1 ⟨rfl,b1⟩;obtain⟨g1,g2,g3⟩:=HX2.out;have HX:Hid (w1.heap[w.heap.size]?=some (.cells #[.bool true,.slice oo s.only.length oc,.slice po s.passes.length pc] 44)/\w1.heap[w.heap.size+1]?=some (.cells #[.int .i64 0,.int .i64 0] 48)/\Below w.heap.size w w1):=⟨K.zae g1 b1,K.zae g2 b1,g3.trans (b1.mono g3.size)⟩;clear g1 g2 g3 b1 hSw HX2 HSw
  by_cases hz:z=0
  ·subst hz;have HS0:Hid (¬(s.has=true/\¬S.wrongE s.only=0)):=fun h=>h.2 HZ.out
   obtain⟨kb,kf,kB⟩:=HX.out;have kp:w1.cell? ⟨w.heap.size,2,none⟩=some (.slice po s.passes.length pc):=K.zah kb rfl;obtain⟨y0,y1,f0,f1⟩:=K.box2 kf;clear kb kf kB
   by_cases hbig:60<s.passes.length
   ·have hw:Cn.wrongF s=(5,0):=by unfold Cn.wrongF;rw[if_neg HS0.out,if_pos hbig]
    rw[HO.out] at hw;cases hw;have hbi:(60:Int)<(s.passes.length:Int):=by omega
    go_wp2;refine bodyPost_ret (v:= .agg #[.int .i64 5,.int .i64 0]) (by simp[results,Tryz.results32,go_sem, *]) rfl ?_
    exact⟨rfl,((HX.out.2.2).setCell (p:=⟨w.heap.size+1,0,none⟩) (by simp) _).setCell (p:=⟨w.heap.size+1,1,none⟩) (by simp) _⟩
   ·have hw:Cn.firstP 0 s.passes=(o1,o2):=by rw[<- HO.out];unfold Cn.wrongF;rw[if_neg HS0.out,if_neg hbig]
    have HF:Hid (Cn.firstP 0 s.passes=(o1,o2)):=hw;have hbi:¬(60:Int)<(s.passes.length:Int):=by omega
    clear hw y0 y1 f0 f1;go_wp2
    go_loopw [24] (fun i wr=>∃k:Nat,k<=s.passes.length/\i= .int .i64 k/\Hid (Cn.firstP k (s.passes.drop k)=(o1,o2))/\Hid (Below w.heap.size w wr)/\Hid (wr.heap[w.heap.size+1]?=some (.cells #[.int .i64 0,.int .i64 0] 48))) (fun i _=>s.passes.length - (intOf i).toNat)
    case atStart=>exact⟨0,Nat.zero_le _,rfl,HF,HX.out.2.2,HX.out.2.1⟩
    case round =>
     obtain⟨k,hk,rfl,HE,HB,HY⟩:=hrel
     by_cases hlt:k<s.passes.length
     ·obtain⟨p,hp⟩:∃x,s.passes[k]?=some x:=⟨s.passes[k],by simp[hlt]⟩;obtain⟨ao',cap',e',_,hcs⟩:=HP.out.below HB.out;cases e';obtain⟨b,off,rfl,hcell⟩:=hcs (by intro h;rw[h] at hlt;simp at hlt);obtain⟨c0,hn,ro,rc,c1,hr⟩:=hcell k p hp;have HE2:Hid (Cn.firstP k (s.passes.drop k)=if Cn.passE p=0 then Cn.firstP (k+1) (s.passes.drop (k+1)) else (Cn.passE p,(k:Int))):=Cn.zfe hp;have hsz:=HB.out.size;have HW:Hid (∀o,Calls Tryz.prog 48 #[.agg #[.string p.name,.slice ro p.rules.length rc]] (wr.alloc o) fun e w'=>e= .returned (.int .i64 (Cn.passE p))/\Below (wr.alloc o).heap.size (wr.alloc o) w'):=fun o=>zc9 _ p ro rc (hr.below ((qR wr).alloc qN o))
      obtain⟨z,HZ⟩:∃z,Hid (Cn.passE p=z):=⟨_,rfl⟩;rw[HZ.out] at HW HE2;clear hp hcell hcs hr
      go_wp2_with fail
      refine(HW.out _).mono ?_;rintro e w1 ⟨rfl,b1⟩;obtain⟨_,B1,hl1⟩:=K.za2 b1;have hY1:w1.heap[w.heap.size+1]?=some (.cells #[.int .i64 0,.int .i64 0] 48):=K.zae HY.out B1;have HB1:Hid (Below w.heap.size w w1):=HB.out.trans (B1.mono hsz);have HY1:Hid (w1.heap[w.heap.size+1]?=some (.cells #[.int .i64 0,.int .i64 0] 48)):=hY1;obtain⟨x0,x1,f0,f1⟩:=K.box2 hY1;clear b1 B1 hY1
      by_cases hz:z=0
      ·subst hz;go_wp2
       go_roundw
       case rel=>exact⟨k+1,by omega,by go_num,by show _=_;rw[<- HE.out,HE2.out];simp,HB1,HY1⟩
       case measure=>simp[intOf];omega
      ·go_wp2;refine bodyPost_ret (v:= .agg #[.int .i64 z,.int .i64 k]) (by simp[results,Tryz.results32,go_sem, *]) rfl ?_
       have h:=HE2.out;rw[HE.out,if_neg hz] at h;cases h;exact⟨rfl,((HB1.out).setCell (p:=⟨w.heap.size+1,0,none⟩) (by simp) _).setCell (p:=⟨w.heap.size+1,1,none⟩) (by simp) _⟩
     ·obtain⟨x0,x1,f0,f1⟩:=K.box2 HY.out;have h:=HE.out;rw[List.drop_eq_nil_of_le (by omega)] at h;cases h;go_wp2;refine bodyPost_ret (v:= .agg #[.int .i64 0,.int .i64 0]) (by simp[results,Tryz.results32,go_sem, *]) rfl ?_;exact⟨rfl,((HB.out).setCell (p:=⟨w.heap.size+1,0,none⟩) (by simp) _).setCell (p:=⟨w.heap.size+1,1,none⟩) (by simp) _⟩
  ·have hw:Cn.wrongF s=(z,0):=by unfold Cn.wrongF;rw[if_pos ⟨hh,by rw[HZ.out];exact hz⟩,HZ.out]
   rw[HO.out] at hw;cases hw;obtain⟨y0,y1,f0,f1⟩:=K.box2 HX.out.2.1;go_wp2;refine bodyPost_ret (v:= .agg #[.int .i64 o1,.int .i64 0]) (by simp[results,Tryz.results32,go_sem, *]) rfl ?_;exact⟨rfl,((HX.out.2.2).setCell (p:=⟨w.heap.size+1,0,none⟩) (by simp) _).setCell (p:=⟨w.heap.size+1,1,none⟩) (by simp) _⟩
end Go.Proofs.YtgbhkkojkpndmaaGreatDoor
