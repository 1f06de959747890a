/-
 vm.Play: what the machine makes of a text.
-/
import Derived.Test.YtamfgmaipajodaaGreatDoorXConcat
import Derived.Test.YtamfgmaipajodaaGreatDoorQBoxes
import Derived.Test.YtamfgmaipajodaaGreatDoorCnMath
import Derived.Test.YtamfgmaipajodaaGreatDoorYRus
import Derived.BigQuiet
import Derived.Laws.EntriesVeiled
set_option maxHeartbeats 0
set_option maxRecDepth 20000
set_option linter.unusedSimpArgs false
set_option linter.unusedVariables false
namespace Go.Proofs.YtamfgmaipajodaaGreatDoor
open Go.RowKit Go.Shelf
theorem K.zrv {l:List K.Rule}:∀(left:Nat) (a b:List Int) (s p:Int),(K.play l left a b s p).1≠0->(K.play l left a b s p).2=([],0,0):=by
 intro left
 induction left with
 | zero =>
  intro a b s p h;rw[K.play] at h ⊢
  by_cases hz:b.length=0
  ·rw[if_pos hz] at h;exact absurd rfl h
  ·rw[if_neg hz]
 | succ n ih =>
  intro a b s p h;rw[K.play] at h ⊢
  by_cases hz:b.length=0
  ·rw[if_pos hz] at h;exact absurd rfl h
  ·rw[if_neg hz] at h ⊢
   by_cases hk:K.which l (a++b) a.length<0
   ·rw[if_pos hk] at h ⊢;exact ih _ _ _ _ h
   ·rw[if_neg hk] at h ⊢;simp only at h ⊢;split
    ·rfl
    ·rename_i h2;rw[if_neg h2] at h;exact ih _ _ _ _ h
def Gm.Ply (l:List K.Rule) (t:List Int) (x:List Int) (s p f1 f2:Int):Prop :=
 ∃o:List J.Hd×Int×Int,Gm.Chk l t o/\((o.2.1≠0/\x= []/\s=0/\p=0/\f1=o.2.1/\f2=o.2.2)∨(o.2.1=0/\K.play l (8*t.length+40) [] t 0 0=(f1,x,s,p)/\f2=0))
theorem Gm.Vm.bad {wb w':World}{v:Value}{l:List K.Rule}{t:List Int}{ob:Nat}{mp:Value}{f1 f2:Int}(h:Gm.Vm wb w' v l t ob mp f1 f2)(hf:f1≠0):mp= .pointer none/\Gm.Ply l t [] 0 0 f1 f2:=by
 obtain⟨o,hc,⟨h1,h2,h3,h4⟩|⟨h1,p1,p2,p3,p4,h2,h3,h4,⟨h5,h6⟩|⟨h5,_⟩⟩⟩:=h
 ·exact⟨h2,o,hc,.inl ⟨h1,rfl,rfl,rfl,h3,h4⟩⟩
 ·refine⟨h6,o,hc,.inr ⟨h1,?_,h4⟩⟩;have:=K.zrv (l:=l) (8*t.length+40) [] t 0 0 (by rw[h2];exact h5);rw[h2] at this;simp only[Prod.mk.injEq] at this;rw[h2,h3,this.1,this.2.1,this.2.2]
 ·exact absurd (h3.trans h5) hf
theorem Gm.Vm.good {wb w':World}{v:Value}{l:List K.Rule}{t:List Int}{ob:Nat}{mp:Value}{f2:Int}(h:Gm.Vm wb w' v l t ob mp 0 f2):∃mb x s p,mp= .pointer (some ⟨mb,0,none⟩)/\f2=0/\Gm.Ply l t x s p 0 0/\w'.heap[ob]?=some (.cells #[.slice none 0 0,.int .i64 s,.int .i64 p] 58)/\∃b g vh c,ob<b/\mb≠ob/\Gm.Mx b [mb] mb wb w' g v vh l c x []:=by
 obtain⟨o,hc,⟨h1,h2,h3,h4⟩|⟨h1,p1,p2,p3,p4,h2,h3,h4,⟨h5,h6⟩|⟨h5,mb,h6,h7,h8⟩⟩⟩:=h
 ·exact absurd h3.symm h1
 ·exact absurd h3.symm h5
 ·subst h5;exact⟨mb,p2,p3,p4,h6,h4,⟨o,hc,.inr ⟨h1,h2,rfl⟩⟩,h7,h8⟩
theorem zim (w:World)(v:Value)(l:List K.Rule)(R0:V.Rus w v l)(vt:Value)(t:List Int)(Rt:L.Rd w vt .i32 t)(ht:t.length<=140737488355328) :
  Calls Tryz.prog 168 #[v,vt] w fun e w'=>∃(v':Value) (x:List Int) (s p f1 f2:Int),e= .returned (.tuple #[.agg #[v',.int .i64 s,.int .i64 p],.agg #[.int .i64 f1,.int .i64 f2]])/\L.Rd w' v' .i32 x/\Gm.Ply l t x s p f1 f2/\x.length<=4000/\Below w.heap.size w w':=by
 obtain⟨wb,hwb⟩:∃wb,wb=(w.alloc (.cells #[.slice none 0 0,.int .i64 0,.int .i64 0] 58)).alloc (.cells #[.int .i64 0,.int .i64 0] 38):=⟨_,rfl⟩;have hBb:Below w.heap.size w wb:=by rw[hwb];exact((qR w).alloc qN _).alloc (by simp) _
 have hbs:wb.heap.size=w.heap.size+2:=by rw[hwb];simp
 have hx0:wb.heap[w.heap.size]?=some (.cells #[.slice none 0 0,.int .i64 0,.int .i64 0] 58):=by
  rw[hwb];show (((w.heap.push _).push _))[w.heap.size]?=_;rw[Array.getElem?_push,if_neg (by simp),Array.getElem?_push,if_pos rfl]
 have hx1:wb.heap[w.heap.size+1]?=some (.cells #[.int .i64 0,.int .i64 0] 38):=by
  rw[hwb];show (((w.heap.push _).push _))[w.heap.size+1]?=_;rw[Array.getElem?_push,if_pos (by simp)]
 have HPl:Hid (∀Y,Y=wb->Calls Tryz.prog 195 #[v,vt,.func (.func 194) #[] #[.pointer (some ⟨w.heap.size+2,0,none⟩)]] (Y.alloc (.cells #[.slice none 0 0,.int .i64 0,.int .i64 0] 58)) fun e w'=>∃mp f1 f2,e= .returned (.tuple #[mp,.agg #[.int .i64 f1,.int .i64 f2]])/\Below wb.heap.size wb w'/\Gm.Vm wb w' v l t (w.heap.size+2) mp f1 f2):=fun Y hY=>by
  rw[hY];have hal:Below wb.heap.size wb (wb.alloc (.cells #[.slice none 0 0,.int .i64 0,.int .i64 0] 58)):=(qR wb).alloc qN _;exact zil wb _ v l hal (R0.below hBb) vt t ((Rt.below hBb qN).below hal qN) ht (w.heap.size+2) (by omega) (by rw[<- hbs];exact heap_alloc_new wb _)
 have HWB:Hid (wb=(w.alloc (.cells #[.slice none 0 0,.int .i64 0,.int .i64 0] 58)).alloc (.cells #[.int .i64 0,.int .i64 0] 38)):=hwb;have HBb:Hid (Below w.heap.size w wb):=hBb;have HX:Hid (wb.heap[w.heap.size]?=some (.cells #[.slice none 0 0,.int .i64 0,.int .i64 0] 58)/\wb.heap[w.heap.size+1]?=some (.cells #[.int .i64 0,.int .i64 0] 38)/\wb.heap.size=w.heap.size+2):=⟨hx0,hx1,hbs⟩;obtain⟨va,vc,rfl⟩:=R0.len;clear R0 Rt hwb hBb hbs hx0 hx1
 go_enter Tryz.func168,Tryz.ntmps168
 go_wp2_with fail
 go_at_call 195
 refine(HPl.out _ HWB.out.symm).mono ?_;rintro e w1 ⟨mp,f1,f2,rfl,b1,hV⟩;have HV:Hid (Gm.Vm wb w1 (.slice va l.length vc) l t (w.heap.size+2) mp f1 f2):=hV;have HB1:Hid (Below w.heap.size w w1):=HBb.out.trans (b1.mono (by have:=HX.out.2.2;omega));have h0:w1.heap[w.heap.size]?=some (.cells #[.slice none 0 0,.int .i64 0,.int .i64 0] 58):=K.zae HX.out.1 b1;have h1:w1.heap[w.heap.size+1]?=some (.cells #[.int .i64 0,.int .i64 0] 38):=K.zae HX.out.2.1 b1;have hs1:w.heap.size+2<=w1.heap.size:=by have:=b1.size;have:=HX.out.2.2;omega
 clear b1 hV HPl HWB HX HBb
 by_cases q:f1=0
 ·subst q;obtain⟨mb,x,s,p,rfl,rfl,hply,hob,b,g,vh,c,hbb,hmo,hM⟩:=HV.out.good;have hol:w.heap.size+2<w1.heap.size:=lt_of_block hob;obtain⟨W,hW⟩:∃W,W=w1.alloc (.cells #[.int .i64 0,.int .i64 0] 38):=⟨_,rfl⟩;have hal:Below w1.heap.size w1 W:=by rw[hW];exact(qR w1).alloc qN _
  have hM2:=hM.below hal;have kg:W.cell? ⟨mb,0,none⟩=some (.pointer (some ⟨g,0,none⟩)):=K.zah (i:=0) hM2.box rfl;obtain⟨ao,cur,hT⟩:=hM2.tx
  have HRu:Hid (∀Y,Y=W->Calls Tryz.prog 196 #[.pointer (some ⟨g,0,none⟩)] Y fun e w'=>∃v,e= .returned v/\w'.ownsRow W.heap.size 21 1 v x.length (x.map (Value.int .i32))/\Below W.heap.size W w'):=fun Y hY=>by
   rw[hY];have:=zlj W _ g ao cur x [] hT;rw[List.append_nil] at this;exact this
  have hxl:x.length<=4000:=by have:=hT.few;simpa using this
  have HW:Hid (W=w1.alloc (.cells #[.int .i64 0,.int .i64 0] 38)):=hW;have e0:=K.zae h0 hal;have e1:=K.zae h1 hal;have e2:=K.zae hob hal;have HE:Hid (W.heap[w.heap.size]?=some (.cells #[.slice none 0 0,.int .i64 0,.int .i64 0] 58)/\W.heap[w.heap.size+1]?=some (.cells #[.int .i64 0,.int .i64 0] 38)/\W.heap[w.heap.size+2]?=some (.cells #[.slice none 0 0,.int .i64 s,.int .i64 p] 58)/\Below w.heap.size w W):=⟨e0,e1,e2,HB1.out.trans (hal.mono (by omega))⟩;have HPy:Hid (Gm.Ply l t x s p 0 0):=hply;rw[hW] at kg;have hmw:mb<w1.heap.size:=hM.old mb (by simp);clear hW hal hM hM2 hT hob e0 e1 e2 h0 h1 HV hply
  go_wp2_with fail
  go_at_call 196
  refine(HRu.out _ HW.out.symm).mono ?_;rintro e w2 ⟨v,rfl,own,b2⟩;have e0:=K.zae HE.out.1 b2;have e1:=K.zae HE.out.2.1 b2;have e2:=K.zae HE.out.2.2.1 b2;have HOw:Hid (w2.ownsRow W.heap.size 21 1 v x.length (x.map (Value.int .i32))/\Below w.heap.size w w2/\w1.heap.size<W.heap.size/\W.heap.size<=w2.heap.size):=⟨own,HE.out.2.2.2.trans (b2.mono HE.out.2.2.2.size),by rw[HW.out];simp,b2.size⟩;have hs2:w.heap.size+2<w2.heap.size:=lt_of_block e2
  obtain⟨xo,xc,rfl⟩:∃xo xc,v= .slice xo x.length xc:=by
   rcases own.2 with ⟨hv,h0⟩|⟨g,cap,cur,hv,_⟩
   ·exact⟨none,0,by rw[hv,h0]⟩
   ·exact⟨_,_,hv⟩
  have k0:=K.zah (i:=0) e0 rfl;have k1:=K.zah (i:=1) e0 rfl;have k2:=K.zah (i:=2) e0 rfl;have k3:=K.zah (i:=0) e1 rfl;have k4:=K.zah (i:=1) e1 rfl;have k5:=K.zah (i:=0) e2 rfl;have k6:=K.zah (i:=1) e2 rfl;have k7:=K.zah (i:=2) e2 rfl;have g0:∀i,w2.frozen? ⟨w.heap.size,i,none⟩=false:=fun i=>frozen_of_row w2 _ i _ _ e0
  have g1:∀i,w2.frozen? ⟨w.heap.size+1,i,none⟩=false:=fun i=>frozen_of_row w2 _ i _ _ e1
  have g2:∀i,w2.frozen? ⟨w.heap.size+2,i,none⟩=false:=fun i=>frozen_of_row w2 _ i _ _ e2
  clear own b2 e0 e1 e2 HRu HW HE kg;go_wp2;refine bodyPost_ret (v:= .tuple #[.agg #[.slice xo x.length xc,.int .i64 s,.int .i64 p],.agg #[.int .i64 0,.int .i64 0]]) (by simp[results,Tryz.results168,go_sem, *]) rfl ?_;obtain⟨own,hB2,hl1,hl2⟩:=HOw.out;have hB3:Below w.heap.size w (w2.setCell ⟨w.heap.size+2,0,none⟩ (.slice xo x.length xc)):=hB2.setCell (p:=⟨w.heap.size+2,0,none⟩) (by simp) _;refine⟨_,x,s,p,0,0,rfl,K.zbi (L.Rd.za1 own) fun hz k hk=> ?_,HPy.out,hxl,(K.five hB3 qN (by omega) _ _ _ _ _).1⟩;have hk1:=(own.lt k hk).1;rw[(K.five hB3 qN (by omega) _ _ _ _ _).2 k (by omega) (by omega)];exact heap_setCell_other _ _ k _ (by simp;omega)
 ·obtain⟨rfl,hply⟩:=HV.out.bad q;have HPy:Hid (Gm.Ply l t [] 0 0 f1 f2):=hply;have k0:∀o,(w1.alloc o).cell? ⟨w.heap.size,0,none⟩=some (.slice none 0 0):=fun o=>K.zai (K.zah h0 rfl) o
  have k1:∀o,(w1.alloc o).cell? ⟨w.heap.size,1,none⟩=some (.int .i64 0):=fun o=>K.zai (K.zah h0 rfl) o
  have k2:∀o,(w1.alloc o).cell? ⟨w.heap.size,2,none⟩=some (.int .i64 0):=fun o=>K.zai (K.zah h0 rfl) o
  have k3:∀o,(w1.alloc o).cell? ⟨w.heap.size+1,0,none⟩=some (.int .i64 0):=fun o=>K.zai (K.zah h1 rfl) o
  have k4:∀o,(w1.alloc o).cell? ⟨w.heap.size+1,1,none⟩=some (.int .i64 0):=fun o=>K.zai (K.zah h1 rfl) o
  have g0:∀o i,(w1.alloc o).frozen? ⟨w.heap.size,i,none⟩=false:=fun o i=>K.zao h0 o i
  have g1:∀o i,(w1.alloc o).frozen? ⟨w.heap.size+1,i,none⟩=false:=fun o i=>K.zao h1 o i
  have HB2:Hid (∀o,Below w.heap.size w (w1.alloc o)):=fun o=>HB1.out.alloc (by omega) o
  clear h0 h1 HV HB1 hply;go_wp2
  go_region
  go_wp2;refine bodyPost_ret (v:= .tuple #[.agg #[.slice none 0 0,.int .i64 0,.int .i64 0],.agg #[.int .i64 f1,.int .i64 f2]]) (by simp[results,Tryz.results168,go_sem, *]) rfl ?_
  exact⟨_,[],0,0,f1,f2,rfl,⟨none,0,rfl,fun _=>rfl,fun h=>absurd rfl h⟩,HPy.out,by simp,(K.five (HB2.out _) qN (by omega) _ _ _ _ _).1.drew⟩
end Go.Proofs.YtamfgmaipajodaaGreatDoor
namespace Go.Proofs.YtamfgmaipajodaaGreatDoor.K
theorem zru {l:List Rule}:∀ {left:Nat} {done rest:List Int} {s p:Int},done.length+rest.length<=4000->(play l left done rest s p).2.1.length<=4000:=by
 intro left
 induction left with
 | zero =>
  intro done rest s p h;rw[play];split
  ·show done.length<=4000;omega
  ·show 0<=4000;omega
 | succ left ih =>
  intro done rest s p h;rw[play];split
  ·show done.length<=4000;omega
  ·split
   ·exact ih (by simp;omega)
   ·simp only;split
    ·show 0<=4000;omega
    ·exact ih (by simp;omega)
end Go.Proofs.YtamfgmaipajodaaGreatDoor.K
namespace Go.Proofs.YtamfgmaipajodaaGreatDoor.Cn
open Go.RowKit
theorem zma {l:List K.Rule}(hE:∀r∈l,K.ruleE r=0):∀(left:Nat) (a b:List Int) (s p:Int),K.allR a=true->K.allR b=true->K.allR (K.play l left a b s p).2.1=true:=by
 intro left
 induction left with
 | zero =>
  intro a b s p ha hb;rw[K.play];split
  ·exact ha
  ·rfl
 | succ n ih =>
  intro a b s p ha hb;rw[K.play];split
  ·exact ha
  ·split
   ·exact ih _ _ _ _ (Gm.zcr.2 ⟨ha,Gm.zcq hb fun x hx=>List.mem_of_mem_take hx⟩) (Gm.zcq hb fun x hx=>List.mem_of_mem_drop hx)
   ·rename_i hk
    simp only;split
    ·rfl
    ·rcases K.zge (l:=l) (t:=a++b) (k:=(a.length:Int)) with h | ⟨j,r,hr,hm,hj⟩
     ·omega
     ·have e:(l[(K.which l (a++b) a.length).toNat]?).getD K.noRule=r:=by rw[hj];simp[hr]
      rw[e];have hR:K.allR (K.restOf r b)=true:=Gm.zcr.2 ⟨(K.zau (hE r (List.mem_of_getElem? hr))).2.2.2.2.2.1,Gm.zcq hb fun x hx=>List.mem_of_mem_drop hx⟩;exact ih _ _ _ _ (Gm.zcr.2 ⟨ha,Gm.zcq hR fun x hx=>List.mem_of_mem_take hx⟩) (Gm.zcq hR fun x hx=>List.mem_of_mem_drop hx)
theorem zvk {l:List K.Rule}{t x:List Int}{s p e f2:Int}(h:Gm.Ply l t x s p e f2):Tx x:=by
 obtain⟨o,hc,⟨_,rfl,_⟩|⟨ho,hp,_⟩⟩:=h
 ·exact Tx.nil
 ·rcases hc with ⟨h1,rfl⟩|⟨_,h1,rfl⟩|⟨h1,h2,_⟩
  ·exact absurd ho h1
  ·exact absurd ho h1
  ·have ht:=ziw.1 h2;have hE:=(K.zbr h1).2.1;have e1:x=(K.play l (8*t.length+40) [] t 0 0).2.1:=by rw[hp]
   rw[e1];exact⟨K.zru (by simpa using ht.1),zma hE _ _ _ _ _ rfl ht.2⟩
theorem zu6 {l:List K.Rule}{t:List Int}{o o':List J.Hd×Int×Int}(h:Gm.Chk l t o)(h':Gm.Chk l t o'):o=o':=by
 rcases h with ⟨h1,rfl⟩|⟨h0,h1,rfl⟩|⟨h0,h1,h2⟩ <;> rcases h' with ⟨g1,rfl⟩|⟨g0,g1,rfl⟩|⟨g0,g1,g2⟩
 ·rfl
 ·exact absurd g0 h1
 ·exact absurd g0 h1
 ·exact absurd h0 g1
 ·rfl
 ·exact absurd g1 h1
 ·exact absurd h0 g1
 ·exact absurd h1 g1
 ·exact J.zj5 h2 g2
theorem zow {l:List K.Rule}{t x x':List Int}{s p e f2 s' p' e' f2':Int}(h:Gm.Ply l t x s p e f2)(h':Gm.Ply l t x' s' p' e' f2'):x=x'/\e=e':=by
 obtain⟨o,hc,h⟩:=h;obtain⟨o',hc',h'⟩:=h';have:=zu6 hc hc';subst this;rcases h with ⟨h0,rfl,_,_,rfl,_⟩|⟨h0,hp,_⟩ <;> rcases h' with ⟨g0,rfl,_,_,rfl,_⟩|⟨g0,gp,_⟩
 ·exact⟨rfl,rfl⟩
 ·exact absurd g0 h0
 ·exact absurd h0 g0
 ·rw[hp] at gp;simp only[Prod.mk.injEq] at gp;exact⟨gp.2.1,gp.1⟩
def PlOk (pl:Pl):Prop:=(∀l t x s p e f2,Gm.Ply l t x s p e f2->pl l t=(x,e))/\∀l x,Tx (pl l x).1
theorem zt8:∃pl,PlOk pl:=by
 have each:∀l t,∃q:List Int×Int,(∀x s p e f2,Gm.Ply l t x s p e f2->q=(x,e))/\Tx q.1:=fun l t=>by
  by_cases h:∃x s p e f2,Gm.Ply l t x s p e f2
  ·obtain⟨x,s,p,e,f2,h⟩:=h;exact⟨(x,e),fun x' s' p' e' f2' h'=>by rw[(zow h h').1,(zow h h').2],zvk h⟩
  ·exact⟨([],0),fun x s p e f2 h'=>absurd ⟨x,s,p,e,f2,h'⟩ h,Tx.nil⟩
 have hc:=fun l=>Classical.axiomOfChoice (each l)
 obtain⟨pl,hp⟩:=Classical.axiomOfChoice hc;exact⟨pl,fun l t x s p e f2 h=>(hp l t).1 x s p e f2 h,fun l x=>(hp l x).2⟩
end Go.Proofs.YtamfgmaipajodaaGreatDoor.Cn
namespace Go.Proofs.YtamfgmaipajodaaGreatDoor
open Go.RowKit
namespace K
theorem zrp {w:World}{v:Value}{zs:List Int}{b:Nat}{x y:Int}{ty:TypeId}(h:L.Rd w v .i32 zs)(hb:w.heap[b]?=some (.cells #[.int .i64 x,.int .i64 y] ty))(hz:zs≠ []):∀k,v.ownBlock=some k->k≠b:=by
 obtain⟨ao,cap,rfl,hn,hc⟩:=h;obtain⟨b',off,rfl,hcell⟩:=hc hz;intro k hk e;have:b'=k:=by simpa [Value.ownBlock] using hk
 subst this e;obtain⟨z,hz2⟩:∃z,zs[0]?=some z:=⟨zs[0]'(List.length_pos_iff.2 hz),by simp⟩;have hc0:=hcell 0 z hz2;rw[World.cell?] at hc0;simp only[show w.heap[b']?=_ from hb] at hc0;simp at hc0;have hlt:=(qL.1 hc0).1
 match off,hc0 with
 | 0,hc0=>simp at hc0
 | 1,hc0=>simp at hc0
 | n+2,_=>simp at hlt;omega
theorem set2 {w:World}{b:Nat}{x y:Value}{ty:TypeId}(hb:w.heap[b]?=some (.cells #[x,y] ty))(x' y':Value):((w.setCell ⟨b,0,none⟩ x').setCell ⟨b,1,none⟩ y').heap[b]?=some (.cells #[x',y'] ty):=heap_setCell_same _ b 1 _ _ y' (heap_setCell_same w b 0 _ _ x' hb)
end K
end Go.Proofs.YtamfgmaipajodaaGreatDoor
namespace Go.Proofs.YtamfgmaipajodaaGreatDoor
open Go.RowKit
namespace Cn
def Acts (w0:World) (B:Nat) (w:World) (v:Value) (F:List Int->List Int×Int):Prop :=
 ∃g cb,∃bx:Option (Nat×Obj),v= .func (.func g) #[] cb/\(∀args w,(callFunc g args).run Tryz.prog w= .ok (.enter g args) w)/\(∀p,bx=some p->B<=p.1/\w.heap[p.1]?=some p.2) /\
  ∀W vt t,Below w0.heap.size w0 W->(∀p,bx=some p->W.heap[p.1]?=some p.2)->L.Rd W vt .i32 t->Tx t->Calls Tryz.prog g (#[vt]++cb) W fun e w'=>∃v',e= .returned (.tuple #[v',.int .i64 (F t).2])/\L.Rd w' v' .i32 (F t).1/\Below W.heap.size W w'
theorem Acts.keep {w0 w w':World}{B B':Nat}{v:Value}{F:List Int->List Int×Int}(h:Acts w0 B w v F)(hB:B'<=B)(hk:∀b o,B<=b->w.heap[b]?=some o->w'.heap[b]?=some o):Acts w0 B' w' v F:=by
 obtain⟨g,cb,bx,hv,eg,hb,hc⟩:=h;exact⟨g,cb,bx,hv,eg,fun p hp=>⟨Nat.le_trans hB (hb p hp).1,hk _ _ (hb p hp).1 (hb p hp).2⟩,hc⟩
theorem Acts.below {w0 w w':World}{B:Nat}{v:Value}{F:List Int->List Int×Int}(h:Acts w0 B w v F)(hb:Below w.heap.size w w'):Acts w0 B w' v F :=
 h.keep qN fun b o _ ho=>K.zae ho hb
theorem Acts.call {w0 w:World}{B:Nat}{v:Value}{F:List Int->List Int×Int}(h:Acts w0 B w v F)(h0:Below w0.heap.size w0 w):∃g cb,v= .func (.func g) #[] cb/\(∀args w,(callFunc g args).run Tryz.prog w= .ok (.enter g args) w) /\
  ∀vt t,L.Rd w vt .i32 t->Tx t->Calls Tryz.prog g (#[vt]++cb) w fun e w'=>∃v',e= .returned (.tuple #[v',.int .i64 (F t).2])/\L.Rd w' v' .i32 (F t).1/\Below w.heap.size w w':=by
 obtain⟨g,cb,bx,hv,eg,hb,hc⟩:=h;exact⟨g,cb,hv,eg,fun vt t=>hc w vt t h0 fun p hp=>(hb p hp).2⟩
end Cn
theorem zho (w:World)(vt:Value) :
  Calls Tryz.prog 165 #[vt] w fun e w'=>e= .returned (.tuple #[vt,.int .i64 0])/\w'=w:=by
 go_enter Tryz.func165,Tryz.ntmps165
 go_wp2;refine bodyPost_ret (v:= .tuple #[vt,.int .i64 0]) (by simp[results,Tryz.results165,go_sem, *]) rfl ?_
 exact⟨rfl,rfl⟩
theorem zfk (w:World)(vt:Value) :
  Calls Tryz.prog 166 #[vt] w fun e w'=>e= .returned (.tuple #[.slice none 0 0,.int .i64 0])/\w'=w:=by
 go_enter Tryz.func166,Tryz.ntmps166
 go_wp2;refine bodyPost_ret (v:= .tuple #[.slice none 0 0,.int .i64 0]) (by simp[results,Tryz.results166,go_sem, *]) rfl ?_
 exact⟨rfl,rfl⟩
theorem zgp (pl:Cn.Pl)(hpl:Cn.PlOk pl)(w:World)(b:Nat)(v:Value)(l:List K.Rule)(hb:w.heap[b]?=some (.cells #[v] 30))(R0:V.Rus w v l)(vt:Value)(t:List Int)(Rt:L.Rd w vt .i32 t)(ht:Cn.Tx t) :
  Calls Tryz.prog 167 #[vt,.pointer (some ⟨b,0,none⟩)] w fun e w'=>∃v',e= .returned (.tuple #[v',.int .i64 (pl l t).2])/\L.Rd w' v' .i32 (pl l t).1/\Below w.heap.size w w':=by
 have HP:=zim w v l R0 vt t Rt (by have:=ht.1;omega);have k0:w.cell? ⟨b,0,none⟩=some v:=K.zah hb rfl;obtain⟨⟨q1,q2⟩,hq⟩:∃q,pl l t=q:=⟨_,rfl⟩
 have HQ:Hid (∀x s p e f2,Gm.Ply l t x s p e f2->q1=x/\q2=e):=fun x s p e f2 h=>by
  have:=hpl.1 _ _ _ _ _ _ _ h;rw[hq] at this;exact Prod.mk.inj this
 rw[hq];obtain⟨ao,cap,rfl⟩:=R0.len;obtain⟨xo,xc,rfl,_⟩:=Rt;clear R0 hb hq hpl
 go_enter Tryz.func167,Tryz.ntmps167
 go_wp2_with fail
 refine HP.mono ?_;rintro e w1 ⟨v1,x,s,p,f1,f2,rfl,d1,hply,hx4,b1⟩;obtain⟨rfl,rfl⟩:=HQ.out _ _ _ _ _ hply;obtain⟨va,vc,rfl⟩:∃va vc,v1= .slice va q1.length vc:=by obtain⟨a,c,h,_⟩:=d1;exact⟨a,c,h⟩
 have HD:Hid (L.Rd w1 (.slice va q1.length vc) .i32 q1/\Below w.heap.size w w1):=⟨d1,b1⟩;clear HP HQ hply d1 b1 k0;go_wp2
 go_region
 go_wp2;refine bodyPost_ret (v:= .tuple #[.slice va q1.length vc,.int .i64 q2]) (by simp[results,Tryz.results167,go_sem, *]) rfl ?_
 have hB:∀x y,Below w1.heap.size w1 ((w1.alloc x).alloc y).drew:=fun x y=>(((qR w1).alloc qN _).alloc (by simp) _).drew
 exact⟨_,rfl,HD.out.1.below (hB _ _) qN,HD.out.2.trans ((hB _ _).mono HD.out.2.size)⟩
theorem Cn.zty {w:World}{g k:Nat}{cur:List Int}(h:K.Row w g (K.ints cur))(z:Int):K.Row (w.setCell ⟨g,k,none⟩ (.int .i32 z)) g (K.ints (cur.set k z)):=by
 have:=heap_setCell_same w g k _ _ (.int .i32 z) h;unfold K.Row;rw[this];simp[K.ints]
theorem Cn.zvi {w:World}{g:Nat}{cur:List Int}(h:K.Row w g (K.ints cur)):L.Rd w (.slice (some ⟨g,0,none⟩) cur.length cur.length) .i32 cur :=
 ⟨_,_,rfl,fun e=>by (cases e),fun _=>⟨g,0,rfl,fun j z hj=>by rw[Nat.zero_add,h.cell j,K.ints,List.getElem?_map,hj];rfl⟩⟩
theorem zh9 (w:World)(b g:Nat)(ty:TypeId)(f:Int->Int)(hb:w.heap[b]?=some (.cells #[.func (.func g) #[] #[]] ty))(eg:∀args w,(callFunc g args).run Tryz.prog w= .ok (.enter g args) w)
  (hf:∀W r,0<=r->r<=1114111->Calls Tryz.prog g #[.int .i32 r] W fun e w'=>e= .returned (.int .i32 (f r))/\w'=W) (vt:Value) (t:List Int) (Rt:L.Rd w vt .i32 t) (ht:Cn.Tx t) :
  Calls Tryz.prog 193 #[vt,.pointer (some ⟨b,0,none⟩)] w fun e w'=>∃v',e= .returned (.tuple #[v',.int .i64 0])/\L.Rd w' v' .i32 (t.map f)/\Below w.heap.size w w':=by
 have HR:Hid (L.Rd w vt .i32 t/\w.heap[b]?=some (.cells #[.func (.func g) #[] #[]] ty)/\b<w.heap.size):=⟨Rt,hb,lt_of_block hb⟩;have HF:Hid (∀W r,0<=r->r<=1114111->Calls Tryz.prog g #[.int .i32 r] W fun e w'=>e= .returned (.int .i32 (f r))/\w'=W):=hf;have hl:=ht.1;have HT:Hid (∀r∈t,0<=r/\r<=1114111):=ht.range;obtain⟨xo,xc,rfl,_⟩:=Rt;obtain⟨W,hmk,hrow,hB,hs⟩:=Gm.zkz w t.length (by omega);have HW:Hid (K.Row W w.heap.size (K.ints (List.replicate t.length 0))/\Below w.heap.size w W):=⟨hrow,hB⟩;clear hb hf ht hrow hB hs
 go_enter Tryz.func193,Tryz.ntmps193
 go_wp2
 go_loopw [13] (fun i wr=>∃(k:Nat) (cur:List Int),k<=t.length/\i= .int .i64 k/\Hid (K.Row wr w.heap.size (K.ints cur)/\Below w.heap.size w wr/\cur.take k=(t.take k).map f/\cur.length=t.length)) (fun i _=>t.length - (intOf i).toNat)
 case atStart=>exact⟨0,List.replicate t.length 0,Nat.zero_le _,rfl,⟨HW.out.1,HW.out.2,rfl,by simp⟩⟩
 case round =>
  obtain⟨k,cur,hk,rfl,HI⟩:=hrel
  by_cases hlt:k<t.length
  ·obtain⟨z,hz⟩:∃z,t[k]?=some z:=⟨t[k],by simp[hlt]⟩;obtain⟨ao',cap',e',_,hcs⟩:=HR.out.1.below HI.out.2.1 qN;cases e';obtain⟨bt,off,rfl,hcell⟩:=hcs (by intro h;subst h;simp at hlt);have c0:=hcell k z hz;have k0:wr.cell? ⟨b,0,none⟩=some (.func (.func g) #[] #[]):=K.zah ((HI.out.2.1.block b HR.out.2.2).trans HR.out.2.1) rfl;have hcl:k<cur.length:=by have:=HI.out.2.2.2;omega
   have k1:wr.cell? ⟨w.heap.size,k,none⟩=some (.int .i32 (cur[k])):=by rw[HI.out.1.cell k,K.ints,List.getElem?_map];simp[hcl]
   have fz:wr.frozen? ⟨w.heap.size,k,none⟩=false:=HI.out.1.free k;have hC:=HF.out wr z (HT.out z (List.mem_of_getElem? hz)).1 (HT.out z (List.mem_of_getElem? hz)).2
   have HN:Hid (K.Row (wr.setCell ⟨w.heap.size,k,none⟩ (.int .i32 (f z))) w.heap.size (K.ints (cur.set k (f z)))/\Below w.heap.size w (wr.setCell ⟨w.heap.size,k,none⟩ (.int .i32 (f z)))/\(cur.set k (f z)).take (k+1)=(t.take (k+1)).map f/\(cur.set k (f z)).length=t.length):=by
    refine⟨Cn.zty HI.out.1 _,HI.out.2.1.setCell (p:=⟨w.heap.size,k,none⟩) qN _,?_,by simpa using HI.out.2.2.2⟩;rw[List.take_add_one,List.take_set_of_le (Nat.le_refl k),List.getElem?_set_self hcl,HI.out.2.2.1,List.take_add_one,hz];simp
   clear hcs hcell hz;generalize cur.set k (f z)=cur2 at HN;generalize f z=fz2 at HN hC
   go_wp2_with fail
   refine hC.mono ?_;rintro e w1 ⟨rfl,rfl⟩;go_wp2
   go_roundw
   case rel=>exact⟨k+1,cur2,by omega,by go_num,HN⟩
   case measure=>simp[intOf];omega
  ·have hkl:k=t.length:=by omega
   subst hkl;go_wp2;refine bodyPost_ret (v:= .tuple #[.slice (some ⟨w.heap.size,0,none⟩) t.length t.length,.int .i64 0]) (by simp[results,Tryz.results193,go_sem, *]) rfl ?_;obtain⟨h1,h2,h3,h4⟩:=HI.out
   have h5:cur=t.map f:=by
    rw[List.take_length,<- h4,List.take_length] at h3;exact h3
   subst h5;have:=Cn.zvi h1;rw[h4] at this;exact⟨_,rfl,this,h2⟩
end Go.Proofs.YtamfgmaipajodaaGreatDoor
