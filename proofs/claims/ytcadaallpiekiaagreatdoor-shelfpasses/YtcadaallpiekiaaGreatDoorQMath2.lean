import Derived.Test.YtcadaallpiekiaaGreatDoorKRow
set_option maxHeartbeats 0
set_option maxRecDepth 20000
set_option linter.unusedSimpArgs false
set_option linter.unusedVariables false
/-
 append of runes to a slice of the call's own: where it lies behind it.
-/
namespace Go.Proofs.YtcadaallpiekiaaGreatDoor
open Go.Proofs.Tryz
namespace K
open Go.RowKit
theorem za8 {w w':World}{v:Value}{zs:List Int}(h:L.Rd w v .i32 zs)(hb:zs≠ []->∀k,v.ownBlock=some k->w'.heap[k]?=w.heap[k]?):L.Rd w' v .i32 zs:=by
 obtain⟨ao,cap,rfl,hn,hc⟩:=h;refine⟨ao,cap,rfl,hn,fun hz=> ?_⟩;obtain⟨b,off,rfl,hcell⟩:=hc hz;refine⟨b,off,rfl,fun j z hj=> ?_⟩;rw[World.cell?_of_block (a:=⟨b,off+j,none⟩) (hb hz b rfl)];exact hcell j z hj
theorem ziu {w w':World}{B:Nat}{v:Value}{n:Nat}{xs:List Value}(h:w.ownsRow B 21 1 v n xs)(hb:∀k,v.ownBlock=some k->w'.heap[k]?=w.heap[k]?):w'.ownsRow B 21 1 v n xs:=by
 refine⟨h.1,?_⟩;rcases h.2 with h|⟨g,cap,cur,hv,hB,hg,r⟩
 ·exact .inl h
 ·exact .inr ⟨g,cap,cur,hv,hB,by rw[hb g (by rw[hv];rfl)];exact hg,r⟩
structure Dr (wB wr:World) (b:Nat) (s p:Int) (vd vr:Value) (done rest:List Int):Prop where
 hb:b<wB.heap.size
 own:wr.ownsRow wB.heap.size 21 1 vd done.length (ints done)
 rd:L.Rd wr vr .i32 rest
 apart:rest≠ []->∀k,vd.ownBlock=some k->vr.ownBlock≠some k
 out:wr.heap[b]?=some (.cells #[.slice none 0 0,.int .i64 s,.int .i64 p] 127)
 grown:wB.grownBy wr (some b)
theorem Dr.zpc {wB wr:World}{b:Nat}{s p:Int}{vd vr:Value}{done rest:List Int}(h:Dr wB wr b s p vd vr done rest)(hz:rest≠ []):∀k,vr.ownBlock=some k->k≠b:=by
 obtain⟨ao,cap,rfl,hn,hc⟩:=h.rd;obtain⟨b',off,rfl,hcell⟩:=hc hz;intro k hk e;have:b'=k:=by simpa [Value.ownBlock] using hk
 subst this e;obtain⟨z,hz2⟩:∃z,rest[0]?=some z:=⟨rest[0]'(List.length_pos_iff.2 hz),by simp⟩;have hc0:=hcell 0 z hz2;rw[World.cell?] at hc0;simp only[show wr.heap[b']?=_ from h.out] at hc0;simp at hc0;have hlt:=(qL.1 hc0).1
 match off,hc0 with
 | 0,hc0=>simp at hc0
 | 1,hc0=>simp at hc0
 | 2,hc0=>simp at hc0
 | n+3,_=>simp at hlt;omega
theorem Dr.set1 {wB wr:World}{b:Nat}{s p:Int}{vd vr:Value}{done rest:List Int}(h:Dr wB wr b s p vd vr done rest)(n:Int):Dr wB (wr.setCell ⟨b,1,none⟩ (.int .i64 n)) b n p vd vr done rest:=by
 have oth:∀k,k≠b->(wr.setCell ⟨b,1,none⟩ (.int .i64 n)).heap[k]?=wr.heap[k]?:=fun k hk=>heap_setCell_other wr ⟨b,1,none⟩ k _ (by simpa using hk)
 refine⟨h.hb,ziu h.own fun k hk=>oth k (by have:=(h.own.lt k hk).1;have:=h.hb;omega),za8 h.rd fun hz k hk=>oth k (h.zpc hz k hk),h.apart,heap_setCell_same wr b 1 _ _ _ h.out,S.zaa h.grown ⟨rfl,rfl,rfl,by simp,fun k _ hk=>oth k fun e=>hk (by rw[e])⟩⟩
theorem Dr.set2 {wB wr:World}{b:Nat}{s p:Int}{vd vr:Value}{done rest:List Int}(h:Dr wB wr b s p vd vr done rest)(n:Int):Dr wB (wr.setCell ⟨b,2,none⟩ (.int .i64 n)) b s n vd vr done rest:=by
 have oth:∀k,k≠b->(wr.setCell ⟨b,2,none⟩ (.int .i64 n)).heap[k]?=wr.heap[k]?:=fun k hk=>heap_setCell_other wr ⟨b,2,none⟩ k _ (by simpa using hk)
 refine⟨h.hb,ziu h.own fun k hk=>oth k (by have:=(h.own.lt k hk).1;have:=h.hb;omega),za8 h.rd fun hz k hk=>oth k (h.zpc hz k hk),h.apart,heap_setCell_same wr b 2 _ _ _ h.out,S.zaa h.grown ⟨rfl,rfl,rfl,by simp,fun k _ hk=>oth k fun e=>hk (by rw[e])⟩⟩
theorem Dr.below {wB wr w':World}{b:Nat}{s p:Int}{vd vr:Value}{done rest:List Int}(h:Dr wB wr b s p vd vr done rest)(hb:Bl wr w'):Dr wB w' b s p vd vr done rest :=
 ⟨h.hb,L.zby h.own hb qN,h.rd.below hb qN,h.apart,zae h.out hb,S.zaa h.grown (S.zaf hb)⟩
theorem Dr.other {wB wr:World}{b:Nat}{s p:Int}{vd vr vr':Value}{done rest rest':List Int}(h:Dr wB wr b s p vd vr done rest)(hr:L.Rd wr vr' .i32 rest')(ha:rest'≠ []->∀k,vd.ownBlock=some k->vr'.ownBlock≠some k):Dr wB wr b s p vd vr' done rest':=⟨h.hb,h.own,hr,ha,h.out,h.grown⟩
theorem Dr.push {wB wr w':World}{b:Nat}{s p:Int}{vd vr vd':Value}{done rest done':List Int}(h:Dr wB wr b s p vd vr done rest)(ho:w'.ownsRow wB.heap.size 21 1 vd' done'.length (ints done'))(hg:wr.grownBy w' vd.ownBlock)(hv:vd'.ownBlock=vd.ownBlock∨∃k,vd'.ownBlock=some k/\wr.heap.size<=k):Dr wB w' b s p vd' vr done' rest:=by
 have hin:∀k,rest≠ []->vr.ownBlock=some k->k<wr.heap.size:=fun k hz hk=>by
  obtain⟨ao,cap,e,_,hc⟩:=h.rd;obtain⟨b',off,e2,hcell⟩:=hc hz;subst e2;rw[e] at hk;have:b'=k:=by simpa [Value.ownBlock] using hk
  subst this;obtain⟨z,hz2⟩:∃z,rest[0]?=some z:=⟨rest[0]'(List.length_pos_iff.2 hz),by simp⟩;exact L.block_lt (hcell 0 z hz2)
 have hbl:=Nat.lt_of_lt_of_le h.hb h.grown.size;refine⟨h.hb,ho,za8 h.rd fun hz k hk=>hg.block k (hin k hz hk) fun e=>h.apart hz k e.symm hk,fun hz k hk e=> ?_,?_,h.grown.os▸hg.os▸rfl,h.grown.tape▸hg.tape▸rfl,h.grown.output▸hg.output▸rfl,Nat.le_trans h.grown.size hg.size,fun k hk hne=> ?_⟩
 ·rcases hv with hv|⟨k',hv,hk'⟩
  ·exact h.apart hz k (hv▸hk) e
  ·rw[hv] at hk;cases hk;have:=hin _ hz e;omega
 ·rw[hg.block b hbl fun e=>by have:=(h.own.lt b e.symm).1;have:=h.hb;omega];exact h.out
 ·rw[hg.block k (Nat.lt_of_lt_of_le hk h.grown.size) fun e=>by have:=(h.own.lt k e.symm).1;omega];exact h.grown.block k hk hne
end K
section
open Go.RowKit Go.Lib
namespace K
def Boxes (w W:World):Prop:=W.heap[w.heap.size]?=some (.cells #[.slice none 0 0,.int .i64 0,.int .i64 0] 127)/\W.heap[w.heap.size+1]?=some (.cells #[.int .i64 0,.int .i64 0] 36)
end K
theorem K.five {w W:World}{B a b:Nat}(hb:Below B w W)(ha:B<=a)(hbb:B<=b)(v0 v1 v2 v3 v4:Value) :
  Below B w (((((W.setCell ⟨a,0,none⟩ v0).setCell ⟨a,1,none⟩ v1).setCell ⟨a,2,none⟩ v2).setCell ⟨b,0,none⟩ v3).setCell ⟨b,1,none⟩ v4) /\
  ∀g,g≠a->g≠b->(((((W.setCell ⟨a,0,none⟩ v0).setCell ⟨a,1,none⟩ v1).setCell ⟨a,2,none⟩ v2).setCell ⟨b,0,none⟩ v3).setCell ⟨b,1,none⟩ v4).heap[g]?=W.heap[g]?:=by
 refine⟨((((hb.setCell (p:=⟨a,0,none⟩) ha _).setCell (p:=⟨a,1,none⟩) ha _).setCell (p:=⟨a,2,none⟩) ha _).setCell (p:=⟨b,0,none⟩) hbb _).setCell (p:=⟨b,1,none⟩) hbb _,fun g h1 h2=> ?_⟩;rw[heap_setCell_other _ ⟨b,1,none⟩ g _ (by simpa using h2),heap_setCell_other _ ⟨b,0,none⟩ g _ (by simpa using h2),heap_setCell_other _ ⟨a,2,none⟩ g _ (by simpa using h1),heap_setCell_other _ ⟨a,1,none⟩ g _ (by simpa using h1),heap_setCell_other _ ⟨a,0,none⟩ g _ (by simpa using h1)]
theorem K.zf4 {w W W':World}(h:K.Boxes w W)(hb:Bl W W'):K.Boxes w W':=⟨K.zae h.1 hb,K.zae h.2 hb⟩
end
section
open Go.RowKit Go.Shelf
theorem K.zr6 {l:List K.Rule}:∀(left:Nat) (a b:List Int) (s p:Int),(K.play l left a b s p).1≠0->(K.play l left a b s p).2=([],0,0):=by
 intro left
 induction left with
 | zero =>
  intro a b s p h;rw[K.play] at h ⊢
  by_cases hz:b.length=0
  ·rw[if_pos hz] at h;exact absurd rfl h
  ·rw[if_neg hz]
 | succ n ih =>
  intro a b s p h;rw[K.play] at h ⊢
  by_cases hz:b.length=0
  ·rw[if_pos hz] at h;exact absurd rfl h
  ·rw[if_neg hz] at h ⊢
   by_cases hk:K.which l (a++b) a.length<0
   ·rw[if_pos hk] at h ⊢;exact ih _ _ _ _ h
   ·rw[if_neg hk] at h ⊢;simp only at h ⊢;split
    ·rfl
    ·rename_i h2;rw[if_neg h2] at h;exact ih _ _ _ _ h
def Gm.Ply (l:List K.Rule) (t:List Int) (x:List Int) (s p f1 f2:Int):Prop :=
 ∃o:List J.Hd×Int×Int,Gm.Chk l t o/\((o.2.1≠0/\x= []/\s=0/\p=0/\f1=o.2.1/\f2=o.2.2)∨(o.2.1=0/\K.play l (8*t.length+40) [] t 0 0=(f1,x,s,p)/\f2=0))
theorem Gm.Vm.bad {wb w':World}{v:Value}{l:List K.Rule}{t:List Int}{ob:Nat}{mp:Value}{f1 f2:Int}(h:Gm.Vm wb w' v l t ob mp f1 f2)(hf:f1≠0):mp=.pointer none/\Gm.Ply l t [] 0 0 f1 f2:=by
 obtain⟨o,hc,⟨h1,h2,h3,h4⟩|⟨h1,p1,p2,p3,p4,h2,h3,h4,⟨h5,h6⟩|⟨h5,_⟩⟩⟩:=h
 ·exact⟨h2,o,hc,.inl ⟨h1,rfl,rfl,rfl,h3,h4⟩⟩
 ·refine⟨h6,o,hc,.inr ⟨h1,?_,h4⟩⟩;have:=K.zr6 (l:=l) (8*t.length+40) [] t 0 0 (by rw[h2];exact h5);rw[h2] at this;simp only[Prod.mk.injEq] at this;rw[h2,h3,this.1,this.2.1,this.2.2]
 ·exact absurd (h3.trans h5) hf
theorem Gm.Vm.good {wb w':World}{v:Value}{l:List K.Rule}{t:List Int}{ob:Nat}{mp:Value}{f2:Int}(h:Gm.Vm wb w' v l t ob mp 0 f2):∃mb x s p,mp=.pointer (some ⟨mb,0,none⟩)/\f2=0/\Gm.Ply l t x s p 0 0/\w'.heap[ob]?=some (.cells #[.slice none 0 0,.int .i64 s,.int .i64 p] 127)/\∃b g vh c,ob<b/\mb≠ob/\Gm.Mx b [mb] mb wb w' g v vh l c x []:=by
 obtain⟨o,hc,⟨h1,h2,h3,h4⟩|⟨h1,p1,p2,p3,p4,h2,h3,h4,⟨h5,h6⟩|⟨h5,mb,h6,h7,h8⟩⟩⟩:=h
 ·exact absurd h3.symm h1
 ·exact absurd h3.symm h5
 ·subst h5;exact⟨mb,p2,p3,p4,h6,h4,⟨o,hc,.inr ⟨h1,h2,rfl⟩⟩,h7,h8⟩
theorem zjs (w:World)(v:Value)(l:List K.Rule)(R0:V.Rus w v l)(vt:Value)(t:List Int)(Rt:L.Rd w vt .i32 t)(ht:t.length<=140737488355328) :
  Calls prog 128 #[v,vt] w fun e w'=>∃(v':Value) (x:List Int) (s p f1 f2:Int),e=.returned (.tuple #[.agg #[v',.int .i64 s,.int .i64 p],.agg #[.int .i64 f1,.int .i64 f2]])/\L.Rd w' v' .i32 x/\Gm.Ply l t x s p f1 f2/\x.length<=4000/\Bl w w':=by
 obtain⟨wb,hwb⟩:=qE ((w.alloc (.cells #[.slice none 0 0,.int .i64 0,.int .i64 0] 127)).alloc (.cells #[.int .i64 0,.int .i64 0] 36));have hBb:Bl w wb:=by rw[hwb];exact((qR w).alloc qN _).alloc (by simp) _
 have hbs:wb.heap.size=w.heap.size+2:=by rw[hwb];simp
 have hx0:wb.heap[w.heap.size]?=some (.cells #[.slice none 0 0,.int .i64 0,.int .i64 0] 127):=by
  rw[hwb];show (((w.heap.push _).push _))[w.heap.size]?=_;rw[Array.getElem?_push,if_neg (by simp),Array.getElem?_push,if_pos rfl]
 have hx1:wb.heap[w.heap.size+1]?=some (.cells #[.int .i64 0,.int .i64 0] 36):=by
  rw[hwb];show (((w.heap.push _).push _))[w.heap.size+1]?=_;rw[Array.getElem?_push,if_pos (by simp)]
 have HPl:Hid (∀Y,Y=wb->Calls prog 145 #[v,vt,.func (.func 144) #[] #[.pointer (some ⟨w.heap.size+2,0,none⟩)]] (Y.alloc (.cells #[.slice none 0 0,.int .i64 0,.int .i64 0] 127)) fun e w'=>∃mp f1 f2,e=.returned (.tuple #[mp,.agg #[.int .i64 f1,.int .i64 f2]])/\Bl wb w'/\Gm.Vm wb w' v l t (w.heap.size+2) mp f1 f2):=fun Y hY=>by
  rw[hY];have hal:Bl wb (wb.alloc (.cells #[.slice none 0 0,.int .i64 0,.int .i64 0] 127)):=(qR wb).alloc qN _;exact zjr wb _ v l hal (R0.below hBb) vt t ((Rt.below hBb qN).below hal qN) ht (w.heap.size+2) (by omega) (by rw[<- hbs];exact heap_alloc_new wb _)
 have HWB:=qH hwb;have HBb:=qH hBb;have HX:Hid (wb.heap[w.heap.size]?=some (.cells #[.slice none 0 0,.int .i64 0,.int .i64 0] 127)/\wb.heap[w.heap.size+1]?=some (.cells #[.int .i64 0,.int .i64 0] 36)/\wb.heap.size=w.heap.size+2):=⟨hx0,hx1,hbs⟩;obtain⟨va,vc,rfl⟩:=R0.len;clear R0 Rt hwb hBb hbs hx0 hx1
 go_enter func128,ntmps128
 go_wp2_with fail
 go_at_call 145
 refine(HPl.out _ HWB.out.symm).mono ?_;rintro e w1 ⟨mp,f1,f2,rfl,b1,hV⟩;have HV:=qH hV;have HB1:=qH<|HBb.out.trans (b1.mono (by have:=HX.out.2.2;omega));have h0:=K.zae HX.out.1 b1;have h1:=K.zae HX.out.2.1 b1;have hs1:w.heap.size+2<=w1.heap.size:=by have:=b1.size;have:=HX.out.2.2;omega
 clear b1 hV HPl HWB HX HBb
 by_cases q:f1=0
 ·subst q;obtain⟨mb,x,s,p,rfl,rfl,hply,hob,b,g,vh,c,hbb,hmo,hM⟩:=HV.out.good;have hol:=lt_of_block hob;obtain⟨W,hW⟩:=qE (w1.alloc (.cells #[.int .i64 0,.int .i64 0] 36));have hal:Bl w1 W:=by rw[hW];exact(qR w1).alloc qN _
  have hM2:=hM.below hal;have kg:W.cell? ⟨mb,0,none⟩=some (.pointer (some ⟨g,0,none⟩)):=K.zad (i:=0) hM2.box rfl;obtain⟨ao,cur,hT⟩:=hM2.tx
  have HRu:Hid (∀Y,Y=W->Calls prog 146 #[.pointer (some ⟨g,0,none⟩)] Y fun e w'=>∃v,e=.returned v/\w'.ownsRow W.heap.size 21 1 v x.length (x.map (Value.int .i32))/\Bl W w'):=fun Y hY=>by
   rw[hY];have:=zmf W _ g ao cur x [] hT;rw[List.append_nil] at this;exact this
  have hxl:x.length<=4000:=by have:=hT.few;simpa using this
  have HW:=qH hW;have e0:=K.zae h0 hal;have e1:=K.zae h1 hal;have e2:=K.zae hob hal;have HE:Hid (W.heap[w.heap.size]?=some (.cells #[.slice none 0 0,.int .i64 0,.int .i64 0] 127)/\W.heap[w.heap.size+1]?=some (.cells #[.int .i64 0,.int .i64 0] 36)/\W.heap[w.heap.size+2]?=some (.cells #[.slice none 0 0,.int .i64 s,.int .i64 p] 127)/\Bl w W):=⟨e0,e1,e2,HB1.out.trans (hal.mono (by omega))⟩;have HPy:=qH hply;rw[hW] at kg;have hmw:=hM.old mb (by simp);clear hW hal hM hM2 hT hob e0 e1 e2 h0 h1 HV hply
  go_wp2_with fail
  go_at_call 146
  refine(HRu.out _ HW.out.symm).mono ?_;rintro e w2 ⟨v,rfl,own,b2⟩;have e0:=K.zae HE.out.1 b2;have e1:=K.zae HE.out.2.1 b2;have e2:=K.zae HE.out.2.2.1 b2;have HOw:Hid (w2.ownsRow W.heap.size 21 1 v x.length (x.map (Value.int .i32))/\Bl w w2/\w1.heap.size<W.heap.size/\W.heap.size<=w2.heap.size):=⟨own,HE.out.2.2.2.trans (b2.mono HE.out.2.2.2.size),by rw[HW.out];simp,b2.size⟩;have hs2:=lt_of_block e2
  obtain⟨xo,xc,rfl⟩:∃xo xc,v=.slice xo x.length xc:=by
   rcases own.2 with ⟨hv,h0⟩|⟨g,cap,cur,hv,_⟩
   ·exact⟨none,0,by rw[hv,h0]⟩
   ·exact⟨_,_,hv⟩
  have k0:=K.zad (i:=0) e0 rfl;have k1:=K.zad (i:=1) e0 rfl;have k2:=K.zad (i:=2) e0 rfl;have k3:=K.zad (i:=0) e1 rfl;have k4:=K.zad (i:=1) e1 rfl;have k5:=K.zad (i:=0) e2 rfl;have k6:=K.zad (i:=1) e2 rfl;have k7:=K.zad (i:=2) e2 rfl;have g0:=fun i=>frozen_of_row w2 _ i _ _ e0
  have g1:=fun i=>frozen_of_row w2 _ i _ _ e1
  have g2:=fun i=>frozen_of_row w2 _ i _ _ e2
  clear own b2 e0 e1 e2 HRu HW HE kg;go_wp2;refine bodyPost_ret (v:=.tuple #[.agg #[.slice xo x.length xc,.int .i64 s,.int .i64 p],.agg #[.int .i64 0,.int .i64 0]]) (by simp[results,results128,go_sem, *]) rfl ?_;obtain⟨own,hB2,hl1,hl2⟩:=HOw.out;have hB3:Bl w (w2.setCell ⟨w.heap.size+2,0,none⟩ (.slice xo x.length xc)):=hB2.setCell (p:=⟨w.heap.size+2,0,none⟩) (by simp) _;refine⟨_,x,s,p,0,0,rfl,K.za8 (L.Rd.zax own) fun hz k hk=> ?_,HPy.out,hxl,(K.five hB3 qN (by omega) _ _ _ _ _).1⟩;have hk1:=(own.lt k hk).1;rw[(K.five hB3 qN (by omega) _ _ _ _ _).2 k (by omega) (by omega)];exact heap_setCell_other _ _ k _ (by simp;omega)
 ·obtain⟨rfl,hply⟩:=HV.out.bad q;have HPy:=qH hply;have k0:∀o,(w1.alloc o).cell? ⟨w.heap.size,0,none⟩=some (.slice none 0 0):=fun o=>K.zai (K.zad h0 rfl) o
  have k1:∀o,(w1.alloc o).cell? ⟨w.heap.size,1,none⟩=some (.int .i64 0):=fun o=>K.zai (K.zad h0 rfl) o
  have k2:∀o,(w1.alloc o).cell? ⟨w.heap.size,2,none⟩=some (.int .i64 0):=fun o=>K.zai (K.zad h0 rfl) o
  have k3:∀o,(w1.alloc o).cell? ⟨w.heap.size+1,0,none⟩=some (.int .i64 0):=fun o=>K.zai (K.zad h1 rfl) o
  have k4:∀o,(w1.alloc o).cell? ⟨w.heap.size+1,1,none⟩=some (.int .i64 0):=fun o=>K.zai (K.zad h1 rfl) o
  have g0:=fun o i=>K.zal h0 o i
  have g1:=fun o i=>K.zal h1 o i
  have HB2:=qH<|fun o=>HB1.out.alloc (by omega) o
  clear h0 h1 HV HB1 hply;go_wp2
  go_region
  go_wp2;refine bodyPost_ret (v:=.tuple #[.agg #[.slice none 0 0,.int .i64 0,.int .i64 0],.agg #[.int .i64 f1,.int .i64 f2]]) (by simp[results,results128,go_sem, *]) rfl ?_
  exact⟨_,[],0,0,f1,f2,rfl,⟨none,0,rfl,fun _=>rfl,fun h=>absurd rfl h⟩,HPy.out,by simp,(K.five (HB2.out _) qN (by omega) _ _ _ _ _).1.drew⟩
end
namespace K
theorem zr5 {l:List Rule}:∀ {left:Nat} {done rest:List Int} {s p:Int},done.length+rest.length<=4000->(play l left done rest s p).2.1.length<=4000:=by
 intro left
 induction left with
 | zero =>
  intro done rest s p h;rw[play];split
  ·show done.length<=4000;omega
  ·show 0<=4000;omega
 | succ left ih =>
  intro done rest s p h;rw[play];split
  ·show done.length<=4000;omega
  ·split
   ·exact ih (by simp;omega)
   ·simp only;split
    ·show 0<=4000;omega
    ·exact ih (by simp;omega)
end K
