/-
 What resolve.script makes of parts.
-/
import Derived.Test.YtmcljejgbikbhaaGreatDoorVOrder
import Derived.Test.YtmcljejgbikbhaaGreatDoorVPass
import Derived.BigRegion
import Derived.Deep.RegionHeld3
import Derived.Lib.Walk
namespace Go.Proofs.YtmcljejgbikbhaaGreatDoor
open Go.RowKit Go.Lib
set_option maxRecDepth 20000
set_option linter.unusedSimpArgs false
set_option linter.unusedVariables false
namespace V
theorem sides {w:World}{p:R.Part}{so lbo lso lao rbo rso rao:Option Addr}{sc lbc lsc lac rbc rsc rac:Nat}(h:R.PtIs w (.agg #[.int .i64 p.kind,.string p.name,.slice so p.set.length sc,.int .i64 p.dir,.bool p.left.start,.bool p.left.fin,.slice lbo p.left.before.length lbc,.slice lso p.left.source.length lsc,.slice lao p.left.after.length lac,.int .i64 p.left.cursor,.bool p.right.start,.bool p.right.fin,.slice rbo p.right.before.length rbc,.slice rso p.right.source.length rsc,.slice rao p.right.after.length rac,.int .i64 p.right.cursor]) p) :
  R.SdIs w (.agg #[.bool p.left.start,.bool p.left.fin,.slice lbo p.left.before.length lbc,.slice lso p.left.source.length lsc,.slice lao p.left.after.length lac,.int .i64 p.left.cursor]) p.left/\R.SdIs w (.agg #[.bool p.right.start,.bool p.right.fin,.slice rbo p.right.before.length rbc,.slice rso p.right.source.length rsc,.slice rao p.right.after.length rac,.int .i64 p.right.cursor]) p.right:=by
 obtain⟨so',sc',lbo',lbc',lso',lsc',lao',lac',rbo',rbc',rso',rsc',rao',rac',he,_,_,h1,h2,_⟩:=h.open
 have he2:=Value.agg.inj he
 simp only[Array.mk.injEq,List.cons.injEq,Value.slice.injEq,true_and,and_true] at he2
 obtain⟨_,⟨rfl,rfl⟩,⟨rfl,rfl⟩,⟨rfl,rfl⟩,⟨rfl,rfl⟩,⟨rfl,rfl⟩,⟨rfl,rfl⟩⟩:=he2
 exact⟨h1,h2⟩
def PartOk (g:ByteArray->List S.Sp) (p:R.Part):Prop :=
 (p.kind=3->p.set.length<=17592186044160)/\(p.kind=4->p.name.size<=140737488355328) /\
 (p.kind=2->¬p.dir=2->(V.Right p.left.before/\V.Right p.left.source/\V.Right p.left.after)/\V.Right p.right.source/\∀x,(x∈p.left.before∨x∈p.left.source∨x∈p.left.after)->S.Fit (V.setOf g x))
theorem scr_snoc {g:ByteArray->List S.Sp}{l:List R.Part}{k:Nat}{p:R.Part}(h:l[k]?=some p):scr g (l.take (k+1))=scrStep g (scr g (l.take k)) p:=by
 have hlt:=(List.getElem?_eq_some_iff.1 h).1
 have e:l.take (k+1)=l.take k++ [p]:=by rw[List.take_add_one,h];rfl
 rw[e];unfold scr;rw[List.foldl_append];rfl
def Small (k:Nat) (s:Script):Prop:=s.passes.length<=k/\∀p∈s.passes,p.rules.length<=k
theorem box3 {w:World}{b:Nat}{x y z:Value}{ty:TypeId}(h:w.heap[b]?=some (.cells #[x,y,z] ty)):w.cell? ⟨b,0,none⟩=some x/\w.cell? ⟨b,1,none⟩=some y/\w.cell? ⟨b,2,none⟩=some z/\w.frozen? ⟨b,0,none⟩=false/\w.frozen? ⟨b,1,none⟩=false/\w.frozen? ⟨b,2,none⟩=false :=
 ⟨K.at_box h rfl,K.at_box h rfl,K.at_box h rfl,frozen_of_row w b _ _ _ h,frozen_of_row w b _ _ _ h,frozen_of_row w b _ _ _ h⟩
theorem rd_form {w:World}{v:Value}{l:List S.Sp}(h:S.Rd w v l):∃o c,v= .slice o l.length c:=by
 obtain⟨o,c,e,_⟩:=h
 exact⟨o,c,e⟩
theorem ps_form {F:Nat}{tops:List Nat}{w:World}{vp:Value}{ps:List Pass}{rvs:List Value}(h:PS F tops w vp ps rvs):∃o n c,vp= .slice o n c:=by
 rcases h.own.2 with ⟨e,_⟩|⟨g,cap,cur,e,_⟩
 ·exact⟨_,_,_,e⟩
 ·exact⟨_,_,_,e⟩
end V
set_option maxHeartbeats 40000000 in
theorem script_any (w:World)(v:Value)(l:List R.Part)(R0:R.Pts w v l)(hl:l.length<=1000)(B n:Nat)(f:ByteArray->Option Value)(g:ByteArray->List S.Sp)(hM:V.MapIs w B n f)(hT:∀s,S.Rd w ((f s).getD (.slice none 0 0)) (g s)/\(g s).length<=17592186044160)(hok:∀p∈l,V.PartOk g p)(hsm:∀k,k<=l.length->V.Small k (V.scr g (l.take k))) :
  Calls Tryz.prog 59 #[v,.map (some B)] w fun e w'=>∃tops vo vp rvs,e= .returned (.agg #[.bool (V.scr g l).has,vo,vp])/\V.Leaf tops w' (fun W=>S.Rd W vo (V.scr g l).only)/\(V.scr g l).only.length<=17592186044160/\V.PS (w.heap.size+2) tops w' vp (V.scr g l).passes rvs/\((V.scr g l).passes= []->vp= .slice none 0 0)/\(∀q,q<=w.heap.size->q∈tops)/\Below w.heap.size w w':=by
 obtain⟨w1,hw1⟩:∃w1,w1=(w.alloc (.cells #[.bool false,.slice none 0 0,.slice none 0 0] 26)).alloc (.cells #[.bool false,.slice none 0 0,.slice none 0 0] 26):=⟨_,rfl⟩
 have s1:w1.heap.size=w.heap.size+2:=by rw[hw1];simp
 have B1:Below w.heap.size w w1:=by rw[hw1];exact((Below.refl _ w).alloc (Nat.le_refl _) _).alloc (by simp) _
 have x1:w1.heap[w.heap.size]?=some (.cells #[.bool false,.slice none 0 0,.slice none 0 0] 26):=by
  rw[hw1,Below.heap_alloc _ _ _ (by simp)];exact heap_alloc_new w _
 have y1:w1.heap[w.heap.size+1]?=some (.cells #[.bool false,.slice none 0 0,.slice none 0 0] 26):=by
  have h:=heap_alloc_new (w.alloc (.cells #[.bool false,.slice none 0 0,.slice none 0 0] 26)) (.cells #[.bool false,.slice none 0 0,.slice none 0 0] 26)
  rw[hw1];simpa using h
 have HLk:Hid (Calls Tryz.prog 107 #[.map (some B)] ((w.alloc (.cells #[.bool false,.slice none 0 0,.slice none 0 0] 26)).alloc (.cells #[.bool false,.slice none 0 0,.slice none 0 0] 26)) fun e w'=>e= .returned (.func (.func 156) #[] #[.pointer (some ⟨w1.heap.size,0,none⟩)])/\w'=w1.alloc (.cells #[.map (some B)] 131)):=by
  rw[hw1];exact lookup_any _ _
 have HR:Hid (R.Pts w v l):=R0
 obtain⟨ao,cap,rfl⟩:=R0.len
 have HOk:Hid (∀p∈l,V.PartOk g p):=hok
 have HSm:Hid (∀k,k<=l.length->V.Small k (V.scr g (l.take k))):=hsm
 have HM:Hid (V.MapIs w B n f/\∀s,S.Rd w ((f s).getD (.slice none 0 0)) (g s)/\(g s).length<=17592186044160):=⟨hM,hT⟩
 clear R0 hok hsm hM hT
 go_enter Tryz.func59,Tryz.ntmps59
 go_wp2_with fail
 refine HLk.out.mono ?_
 rintro e w2 ⟨rfl,hw2⟩
 have b2:Below w1.heap.size w1 w2:=by rw[hw2];exact(Below.refl _ w1).alloc (Nat.le_refl _) _
 have m2:w2.heap[w1.heap.size]?=some (.cells #[.map (some B)] 131):=by rw[hw2];exact heap_alloc_new w1 _
 have s2:w2.heap.size=w.heap.size+3:=by rw[hw2];simp;omega
 have HS:Hid (V.SS (w.heap.size+2) (w.heap.size+1) (List.range (w.heap.size+2)) w2 (V.scr g (l.take 0)) (.slice none 0 0) (.slice none 0 0) []):=V.SS.start _ _ _ _ (by omega) ((b2.block _ (by omega)).trans y1) (by simp) (fun q hq=>by simp at hq;omega)
 have HBx:Hid (V.Leaf (List.range (w.heap.size+2)) w2 fun W=>W.heap[w.heap.size+2]?=some (.cells #[.map (some B)] 131)):=fun W h1 h2=>(h2 _ (by omega) (by simp)).trans (by rw[<- s1];exact m2)
 have HRs:Hid ((∀q,q<=w.heap.size->q∈List.range (w.heap.size+2))/\w2.heap[w.heap.size]?=some (.cells #[.bool false,.slice none 0 0,.slice none 0 0] 26)):=⟨fun q hq=>List.mem_range.2 (by omega),(b2.block _ (by omega)).trans x1⟩
 have HB2:Hid (Below w.heap.size w w2):=B1.trans (b2.mono (by omega))
 rw[s1]
 clear hw2 m2 b2 HLk hw1 s1 B1 x1 y1
 go_wp2
 go_loopw [13] (fun i wr=>∃(k:Nat) (tops:List Nat) (vo vp:Value) (rvs:List Value),k<=l.length/\i= .int .i64 k/\Hid (V.SS (w.heap.size+2) (w.heap.size+1) tops wr (V.scr g (l.take k)) vo vp rvs)/\Hid (V.Leaf tops wr fun W=>W.heap[w.heap.size+2]?=some (.cells #[.map (some B)] 131))/\Hid ((∀q,q<=w.heap.size->q∈tops)/\wr.heap[w.heap.size]?=some (.cells #[.bool false,.slice none 0 0,.slice none 0 0] 26))/\Hid (Below w.heap.size w wr)) (fun i _=>l.length - (RowKit.intOf i).toNat)
 case atStart=>exact⟨0,_,_,_,_,Nat.zero_le _,rfl,HS,HBx,HRs,HB2⟩
 case round =>
  clear HS HBx HRs HB2
  obtain⟨k,tops,vo,vp,rvs,hk,rfl,HS,HBx,HRs,HB⟩:=hrel
  by_cases hlt:k<l.length
  ·obtain⟨p,hp⟩:∃x,l[k]?=some x:=⟨l[k],by simp[hlt]⟩
   obtain⟨ao',cap',e',hcs⟩:=HR.out
   cases e'
   obtain⟨b,off,rfl,hcell⟩:=hcs (by intro h;subst h;simp at hlt)
   obtain⟨so,sc,lbo,lbc,lso,lsc,lao,lac,rbo,rbc,rso,rsc,rao,rac,c0,c1,c2,c3,c4,c5,c6,c7,c8,c9,c10,c11,c12,c13,c14,c15,hP⟩:=hcell k p hp
   have lb:=L.block_lt c0
   rw[<- HB.out.cell (p:=⟨b,off+k*16,none⟩) lb] at c0
   rw[<- HB.out.cell (p:=⟨b,off+k*16+1,none⟩) lb] at c1
   rw[<- HB.out.cell (p:=⟨b,off+k*16+2,none⟩) lb] at c2
   rw[<- HB.out.cell (p:=⟨b,off+k*16+3,none⟩) lb] at c3
   rw[<- HB.out.cell (p:=⟨b,off+k*16+4,none⟩) lb] at c4
   rw[<- HB.out.cell (p:=⟨b,off+k*16+5,none⟩) lb] at c5
   rw[<- HB.out.cell (p:=⟨b,off+k*16+6,none⟩) lb] at c6
   rw[<- HB.out.cell (p:=⟨b,off+k*16+7,none⟩) lb] at c7
   rw[<- HB.out.cell (p:=⟨b,off+k*16+8,none⟩) lb] at c8
   rw[<- HB.out.cell (p:=⟨b,off+k*16+9,none⟩) lb] at c9
   rw[<- HB.out.cell (p:=⟨b,off+k*16+10,none⟩) lb] at c10
   rw[<- HB.out.cell (p:=⟨b,off+k*16+11,none⟩) lb] at c11
   rw[<- HB.out.cell (p:=⟨b,off+k*16+12,none⟩) lb] at c12
   rw[<- HB.out.cell (p:=⟨b,off+k*16+13,none⟩) lb] at c13
   rw[<- HB.out.cell (p:=⟨b,off+k*16+14,none⟩) lb] at c14
   rw[<- HB.out.cell (p:=⟨b,off+k*16+15,none⟩) lb] at c15
   have hst:=V.scr_snoc (g:=g) hp
   have hsm:=HSm.out k hk
   obtain⟨hok3,hok4,hok2⟩:=HOk.out p (List.mem_of_getElem? hp)
   obtain⟨s,hs⟩:∃s,s=V.scr g (l.take k):=⟨_,rfl⟩
   rw[<- hs] at HS hst hsm
   clear hs
   obtain⟨wb,hwb⟩:∃wb,wb=wr.alloc (.cells #[.int .i64 p.kind,.string p.name,.slice so p.set.length sc,.int .i64 p.dir,.bool p.left.start,.bool p.left.fin,.slice lbo p.left.before.length lbc,.slice lso p.left.source.length lsc,.slice lao p.left.after.length lac,.int .i64 p.left.cursor,.bool p.right.start,.bool p.right.fin,.slice rbo p.right.before.length rbc,.slice rso p.right.source.length rsc,.slice rao p.right.after.length rac,.int .i64 p.right.cursor] 109):=⟨_,rfl⟩
   have bb:Below wr.heap.size wr wb:=by rw[hwb];exact(Below.refl _ wr).alloc (Nat.le_refl _) _
   have hbx:wb.heap[wr.heap.size]?=some (.cells #[.int .i64 p.kind,.string p.name,.slice so p.set.length sc,.int .i64 p.dir,.bool p.left.start,.bool p.left.fin,.slice lbo p.left.before.length lbc,.slice lso p.left.source.length lsc,.slice lao p.left.after.length lac,.int .i64 p.left.cursor,.bool p.right.start,.bool p.right.fin,.slice rbo p.right.before.length rbc,.slice rso p.right.source.length rsc,.slice rao p.right.after.length rac,.int .i64 p.right.cursor] 109):=by rw[hwb];exact heap_alloc_new wr _
   have hsb:wb.heap.size=wr.heap.size+1:=by rw[hwb];simp
   have hwr:w.heap.size+2<wr.heap.size:=(Array.getElem?_eq_some_iff.1 HBx.out.here).1
   have S1:=HS.out.below bb
   have X1:=HBx.out.moves (V.Moves.of_below bb)
   have R1:wb.heap[w.heap.size]?=some (.cells #[.bool false,.slice none 0 0,.slice none 0 0] 26):=(bb.block _ (by omega)).trans HRs.out.2
   have hBw:Below w.heap.size w wb:=HB.out.trans (bb.mono HB.out.size)
   obtain⟨oo,oc,hvo⟩:=V.rd_form S1.only.here
   obtain⟨po,pn,pc,hvp⟩:=V.ps_form S1.pas
   by_cases h3:p.kind=3
   ·as_aux_lemma =>
    have hS:V.scr g (l.take (k+1))=⟨true,p.set,s.passes⟩:=by rw[hst];unfold V.scrStep;rw[if_pos h3]
    obtain⟨so',sc',_,_,_,_,_,_,_,_,_,_,_,_,he,hset,hfit,_⟩:=hP
    simp only[Value.agg.injEq,Array.mk.injEq,List.cons.injEq] at he
    obtain⟨-,-,he2,-⟩:=he
    rw[<- he2] at hset
    have HC:Hid (Calls Tryz.prog 90 #[.slice so p.set.length sc] (wr.alloc (.cells #[.int .i64 p.kind,.string p.name,.slice so p.set.length sc,.int .i64 p.dir,.bool p.left.start,.bool p.left.fin,.slice lbo p.left.before.length lbc,.slice lso p.left.source.length lsc,.slice lao p.left.after.length lac,.int .i64 p.left.cursor,.bool p.right.start,.bool p.right.fin,.slice rbo p.right.before.length rbc,.slice rso p.right.source.length rsc,.slice rao p.right.after.length rac,.int .i64 p.right.cursor] 109)) fun e w'=>∃v',e= .returned v'/\w'.ownsRow wb.heap.size 125 2 v' p.set.length (S.cellsOf p.set)/\Below wb.heap.size wb w'):=by
     rw[<- hwb];exact vclone_any wb _ p.set (hset.below hBw (Nat.le_refl _)) (hok3 h3)
    rw[h3] at c0 HC
    rw[h3] at hwb
    have hset3:p.set.length<=17592186044160:=hok3 h3
    have HX:Hid (V.SS (w.heap.size+2) (w.heap.size+1) tops wb s vo vp rvs/\V.Leaf tops wb (fun W=>W.heap[w.heap.size+2]?=some (.cells #[.map (some B)] 131))/\wb.heap[w.heap.size]?=some (.cells #[.bool false,.slice none 0 0,.slice none 0 0] 26)/\Below w.heap.size w wb/\V.scr g (l.take (k+1))=⟨true,p.set,s.passes⟩):=⟨S1,X1,R1,hBw,hS⟩
    clear hcell hcs hst hsm hok3 hok4 hok2 S1 X1 R1 hBw hS hbx bb HSm HOk hset hfit HS HBx
    go_wp2_with fail
    refine HC.out.mono ?_
    rintro e w4 ⟨v',rfl,own,b4⟩
    obtain⟨S4,X4,R4,B4,hS⟩:=HX.out
    have rd4:S.Rd w4 v' p.set:=S.Rd.of_owns own
    have L4:V.Leaf tops w4 fun W=>S.Rd W v' p.set:=V.Leaf.of_stays (w:=wb) (R.rd_stays rd4 fun g' hg'=>(own.lt g' hg').1) S4.pas.lt b4.size
    obtain⟨vo',vc',hv'⟩:=V.rd_form rd4
    have S5:=S4.below b4
    obtain⟨q0,q1,q2,f0,f1,f2⟩:=V.box3 S5.box
    have HF:Hid (V.SS (w.heap.size+2) (w.heap.size+1) tops ((w4.setCell ⟨w.heap.size+1,0,none⟩ (.bool true)).setCell ⟨w.heap.size+1,1,none⟩ v') ⟨true,p.set,s.passes⟩ v' vp rvs):=S5.filter v' p.set L4 hset3 (by rw[hv'];rfl)
    have HFx:Hid (V.Leaf tops ((w4.setCell ⟨w.heap.size+1,0,none⟩ (.bool true)).setCell ⟨w.heap.size+1,1,none⟩ v') fun W=>W.heap[w.heap.size+2]?=some (.cells #[.map (some B)] 131)):=((X4.moves (V.Moves.of_below b4)).moves (V.Moves.store w4 0 _ S5.mem)).moves (V.Moves.store _ 1 _ S5.mem)
    have HFr:Hid ((∀q,q<=w.heap.size->q∈tops)/\((w4.setCell ⟨w.heap.size+1,0,none⟩ (.bool true)).setCell ⟨w.heap.size+1,1,none⟩ v').heap[w.heap.size]?=some (.cells #[.bool false,.slice none 0 0,.slice none 0 0] 26)):=⟨HRs.out.1,by
     rw[heap_setCell_other _ ⟨w.heap.size+1,1,none⟩ _ _ (by simp),heap_setCell_other _ ⟨w.heap.size+1,0,none⟩ _ _ (by simp),b4.block _ (by omega)];exact R4⟩
    have HFb:Hid (Below w.heap.size w ((w4.setCell ⟨w.heap.size+1,0,none⟩ (.bool true)).setCell ⟨w.heap.size+1,1,none⟩ v')):=((B4.trans (b4.mono (by omega))).setCell (p:=⟨w.heap.size+1,0,none⟩) (by simp) _).setCell (p:=⟨w.heap.size+1,1,none⟩) (by simp) _
    have HSt:Hid (V.scr g (l.take (k+1))=⟨true,p.set,s.passes⟩):=hS
    have l4:=L.block_lt q0
    subst hv'
    clear S4 X4 R4 B4 hS S5 own rd4 L4 b4 HX HC HRs HB
    go_wp2
    go_roundw
    case rel=>exact⟨k+1,tops,_,vp,rvs,by omega,by go_num,by rw[HSt.out];exact HF,HFx,HFr,HFb⟩
    case measure=>simp[RowKit.intOf];omega
   ·by_cases h4:p.kind=4
    ·as_aux_lemma =>
     have hS:V.scr g (l.take (k+1))=⟨s.has,s.only,s.passes++ [⟨p.name,[]⟩]⟩:=by rw[hst];unfold V.scrStep;rw[if_neg h3,if_pos h4]
     obtain⟨wc,hwc⟩:∃wc,wc=wb.alloc (.cells #[.string p.name,.slice none 0 0] 38):=⟨_,rfl⟩
     have bc:Below wb.heap.size wb wc:=by rw[hwc];exact(Below.refl _ wb).alloc (Nat.le_refl _) _
     have hnp:wc.heap[wb.heap.size]?=some (.cells #[.string p.name,.slice none 0 0] 38):=by rw[hwc];exact heap_alloc_new wb _
     have hsc:wc.heap.size=wr.heap.size+2:=by rw[hwc];simp;omega
     have S2:=S1.below bc
     obtain⟨vp',wq,hrunP,ownP,grP,hvP⟩:=R.run_app V.elemP wc 0 (w.heap.size+2) vp s.passes.length (V.pcells s.passes rvs) S2.pas.own ⟨wb.heap.size,0,none⟩ 1 1 [.string p.name,.slice none 0 0] rfl (fun q u hq=>by rw[L.addr_add,Nat.zero_add];exact K.at_box hnp (by simpa using hq)) (fun u hu=>by simp at hu;rcases hu with rfl | rfl <;> rfl) (by have:=hsm.1;omega) (by omega)
     obtain⟨tq,PQ,hmq⟩:=S2.pas.more p.name (hok4 h4) ownP grP hvP
     have bq:Below (w.heap.size+2) wc wq:=(Below.refl _ wc).grown grP (by omega) fun k hk=>(S2.pas.own.lt k hk).1
     obtain⟨X,cq,hvp'⟩:=PQ.slice (by simp)
     rw[show (s.passes++ [(⟨p.name,[]⟩:V.Pass)]).length=s.passes.length+1 by simp] at hvp'
     have HF:Hid (V.SS (w.heap.size+2) (w.heap.size+1) tq (wq.setCell ⟨w.heap.size+1,2,none⟩ vp') ⟨s.has,s.only,s.passes++ [⟨p.name,[]⟩]⟩ vo vp' (rvs++ [.slice none 0 0])):=S2.passes hmq bq PQ (by simp)
     have HFx:Hid (V.Leaf tq (wq.setCell ⟨w.heap.size+1,2,none⟩ vp') fun W=>W.heap[w.heap.size+2]?=some (.cells #[.map (some B)] 131)):=((X1.moves (V.Moves.of_below bc)).moves hmq).moves (V.Moves.store wq 2 _ (hmq.2.2.2 _ S2.mem))
     have HFr:Hid ((∀q,q<=w.heap.size->q∈tq)/\(wq.setCell ⟨w.heap.size+1,2,none⟩ vp').heap[w.heap.size]?=some (.cells #[.bool false,.slice none 0 0,.slice none 0 0] 26)):=⟨fun q hq=>hmq.2.2.2 q (HRs.out.1 q hq),by
      rw[heap_setCell_other _ ⟨w.heap.size+1,2,none⟩ _ _ (by simp),bq.block _ (by omega),bc.block _ (by omega)];exact R1⟩
     have HFb:Hid (Below w.heap.size w (wq.setCell ⟨w.heap.size+1,2,none⟩ vp')):=((hBw.trans (bc.mono (by omega))).trans (bq.mono (by omega))).setCell (p:=⟨w.heap.size+1,2,none⟩) (by simp) _
     have HSt:Hid (V.scr g (l.take (k+1))=⟨s.has,s.only,s.passes++ [⟨p.name,[]⟩]⟩):=hS
     have HRP:Hid (∀ty,(Builtin.append_ #[24,24] ty #[vp,.slice (some ⟨wr.heap.size+1,0,none⟩) 1 1]).run Tryz.prog ((wr.alloc (.cells #[.int .i64 p.kind,.string p.name,.slice so p.set.length sc,.int .i64 p.dir,.bool p.left.start,.bool p.left.fin,.slice lbo p.left.before.length lbc,.slice lso p.left.source.length lsc,.slice lao p.left.after.length lac,.int .i64 p.left.cursor,.bool p.right.start,.bool p.right.fin,.slice rbo p.right.before.length rbc,.slice rso p.right.source.length rsc,.slice rao p.right.after.length rac,.int .i64 p.right.cursor] 109)).alloc (.cells #[.string p.name,.slice none 0 0] 38))= .ok vp' wq):=by
      rw[<- hsb,<- hwb,<- hwc];exact fun ty=>hrunP
     obtain⟨_,_,q2,_⟩:=V.box3 HS.out.box
     obtain⟨_,_,z2,_,_,f2⟩:=V.box3 ((bq.block _ (by omega)).trans S2.box)
     have lq:=L.block_lt z2
     rw[h4] at c0 HRP
     rw[hvp'] at HRP HF HFx HFr HFb
     rw[hvp] at HRP q2 z2
     have hlq:w.heap.size+1<wr.heap.size:=by omega
     clear hcell hcs hst hsm hok3 hok4 hok2 S1 X1 R1 hBw hS hbx bb HSm HOk HS HBx hP hwb hwc bc hnp S2 hrunP ownP grP hvP PQ hmq bq hvp' hvp HRs HB
     go_wp2_with (at_builtin;first | refine Lib.wpList_append_run _ rfl _ _ _ _ rfl _ _ rfl rfl _ _ (HRP.out _) ?_)
     go_roundw
     case rel=>exact⟨k+1,tq,vo,_,_,by omega,by go_num,by rw[HSt.out];exact HF,HFx,HFr,HFb⟩
     case measure=>simp[RowKit.intOf];omega
    ·by_cases h2:p.kind=2
     ·by_cases hd:p.dir=2
      ·as_aux_lemma =>
       have hS:V.scr g (l.take (k+1))=s:=by rw[hst];unfold V.scrStep;rw[if_neg h3,if_neg h4,if_pos h2,if_pos hd]
       have HF:Hid (V.SS (w.heap.size+2) (w.heap.size+1) tops (wr.alloc (.cells #[.int .i64 p.kind,.string p.name,.slice so p.set.length sc,.int .i64 p.dir,.bool p.left.start,.bool p.left.fin,.slice lbo p.left.before.length lbc,.slice lso p.left.source.length lsc,.slice lao p.left.after.length lac,.int .i64 p.left.cursor,.bool p.right.start,.bool p.right.fin,.slice rbo p.right.before.length rbc,.slice rso p.right.source.length rsc,.slice rao p.right.after.length rac,.int .i64 p.right.cursor] 109)) s vo vp rvs):=by rw[<- hwb];exact S1
       have HFx:Hid (V.Leaf tops (wr.alloc (.cells #[.int .i64 p.kind,.string p.name,.slice so p.set.length sc,.int .i64 p.dir,.bool p.left.start,.bool p.left.fin,.slice lbo p.left.before.length lbc,.slice lso p.left.source.length lsc,.slice lao p.left.after.length lac,.int .i64 p.left.cursor,.bool p.right.start,.bool p.right.fin,.slice rbo p.right.before.length rbc,.slice rso p.right.source.length rsc,.slice rao p.right.after.length rac,.int .i64 p.right.cursor] 109)) fun W=>W.heap[w.heap.size+2]?=some (.cells #[.map (some B)] 131)):=by rw[<- hwb];exact X1
       have HFr:Hid ((∀q,q<=w.heap.size->q∈tops)/\(wr.alloc (.cells #[.int .i64 p.kind,.string p.name,.slice so p.set.length sc,.int .i64 p.dir,.bool p.left.start,.bool p.left.fin,.slice lbo p.left.before.length lbc,.slice lso p.left.source.length lsc,.slice lao p.left.after.length lac,.int .i64 p.left.cursor,.bool p.right.start,.bool p.right.fin,.slice rbo p.right.before.length rbc,.slice rso p.right.source.length rsc,.slice rao p.right.after.length rac,.int .i64 p.right.cursor] 109)).heap[w.heap.size]?=some (.cells #[.bool false,.slice none 0 0,.slice none 0 0] 26)):=by rw[<- hwb];exact⟨HRs.out.1,R1⟩
       have HFb:Hid (Below w.heap.size w (wr.alloc (.cells #[.int .i64 p.kind,.string p.name,.slice so p.set.length sc,.int .i64 p.dir,.bool p.left.start,.bool p.left.fin,.slice lbo p.left.before.length lbc,.slice lso p.left.source.length lsc,.slice lao p.left.after.length lac,.int .i64 p.left.cursor,.bool p.right.start,.bool p.right.fin,.slice rbo p.right.before.length rbc,.slice rso p.right.source.length rsc,.slice rao p.right.after.length rac,.int .i64 p.right.cursor] 109))):=by rw[<- hwb];exact hBw
       have HSt:Hid (V.scr g (l.take (k+1))=s):=hS
       rw[h2] at c0 HF HFx HFr HFb
       rw[hd] at c3 HF HFx HFr HFb
       clear hcell hcs hst hsm hok3 hok4 hok2 S1 X1 R1 hBw hS hbx bb HSm HOk HS HBx hP hwb hvp hvo HRs HB
       go_wp2
       go_roundw
       case rel=>exact⟨k+1,tops,vo,vp,rvs,by omega,by go_num,by rw[HSt.out];exact HF,HFx,HFr,HFb⟩
       case measure=>simp[RowKit.intOf];omega
      ·as_aux_lemma =>
       have hS:V.scr g (l.take (k+1))=⟨s.has,s.only,V.putP s.passes (V.ruleOf g p.left p.right)⟩:=by rw[hst];unfold V.scrStep;rw[if_neg h3,if_neg h4,if_pos h2,if_neg hd]
       obtain⟨⟨o1,o2,o3⟩,o4,o5⟩:=hok2 h2 hd
       have hSd:=V.sides hP
       have HRule:Hid (∀W,Below wb.heap.size wb W->Calls Tryz.prog 109 #[.agg #[.bool p.left.start,.bool p.left.fin,.slice lbo p.left.before.length lbc,.slice lso p.left.source.length lsc,.slice lao p.left.after.length lac,.int .i64 p.left.cursor],.agg #[.bool p.right.start,.bool p.right.fin,.slice rbo p.right.before.length rbc,.slice rso p.right.source.length rsc,.slice rao p.right.after.length rac,.int .i64 p.right.cursor],.func (.func 156) #[] #[.pointer (some ⟨w.heap.size+2,0,none⟩)]] W fun e w'=>∃r1 r2 r3 r4 r5 r6 r7 r8,e= .returned (.agg #[.bool p.left.start,.bool p.left.fin,.slice r1 p.left.before.length r2,.slice r3 p.left.source.length r4,.slice r5 p.left.after.length r6,.slice r7 p.right.source.length r8,.int .i64 (V.ruleOf g p.left p.right).cursor]) /\
         R.Stays W.heap.size none w' (fun W=>K.RuIs W (.agg #[.bool p.left.start,.bool p.left.fin,.slice r1 p.left.before.length r2,.slice r3 p.left.source.length r4,.slice r5 p.left.after.length r6,.slice r7 p.right.source.length r8,.int .i64 (V.ruleOf g p.left p.right).cursor]) (V.ruleOf g p.left p.right))/\Below W.heap.size W w'):=fun W hW=>rule_any W _ _ p.left p.right (w.heap.size+2) g
        ⟨B,n,f,K.at_box (i:=0) (K.blk_below X1.here hW) rfl,HM.out.1.below (hBw.trans (hW.mono hBw.size)) HM.out.1.lt,fun s=>⟨(HM.out.2 s).1.below (hBw.trans (hW.mono hBw.size)) (Nat.le_refl _),(HM.out.2 s).2⟩⟩ (hSd.1.below (hBw.trans (hW.mono hBw.size))) (hSd.2.below (hBw.trans (hW.mono hBw.size))) ⟨o1,o2,o3⟩ o4 o5
       have HPut:Hid (∀W r1 r2 r3 r4 r5 r6 r7 r8,Below wb.heap.size wb W->V.Leaf tops W (fun W=>K.RuIs W (.agg #[.bool p.left.start,.bool p.left.fin,.slice r1 p.left.before.length r2,.slice r3 p.left.source.length r4,.slice r5 p.left.after.length r6,.slice r7 p.right.source.length r8,.int .i64 (V.ruleOf g p.left p.right).cursor]) (V.ruleOf g p.left p.right))->Calls Tryz.prog 108 #[vp,.agg #[.bool p.left.start,.bool p.left.fin,.slice r1 p.left.before.length r2,.slice r3 p.left.source.length r4,.slice r5 p.left.after.length r6,.slice r7 p.right.source.length r8,.int .i64 (V.ruleOf g p.left p.right).cursor]] W fun e w'=>(∃vp' tops' rvs',e= .returned vp'/\V.PS (w.heap.size+2) tops' w' vp' (V.putP s.passes (V.ruleOf g p.left p.right)) rvs'/\V.Moves tops W tops' w')/\Below (w.heap.size+2) W w'):=fun W r1 r2 r3 r4 r5 r6 r7 r8 hW hL=>by
        have e1:(V.ruleOf g p.left p.right).before.length=p.left.before.length:=List.length_map ..
        have e2:(V.ruleOf g p.left p.right).source.length=p.left.source.length:=List.length_map ..
        have e3:(V.ruleOf g p.left p.right).after.length=p.left.after.length:=List.length_map ..
        have e4:(V.ruleOf g p.left p.right).target.length=p.right.source.length:=List.length_map ..
        have S2:=S1.below hW
        have h:=put_any (w.heap.size+2) W tops vp s.passes rvs S2.pas S2.nil (V.ruleOf g p.left p.right) r1 r2 r3 r4 r5 r6 r7 r8 (by rw[e1,e2,e3,e4];exact hL) (by have:=hW.size;omega) (by have:=hsm.1;omega) (fun q hq=>by have:=hsm.2 q hq;omega)
        rw[e1,e2,e3,e4] at h
        exact h
       obtain⟨_,_,x2,_⟩:=V.box3 S1.box
       have HX2:Hid (∀W,Below wb.heap.size wb W->W.cell? ⟨w.heap.size+1,2,none⟩=some vp):=fun W hW=>(V.box3 (S1.below hW).box).2.2.1
       have HFi:Hid (∀W W' vp' tops' rvs',Below wb.heap.size wb W->V.PS (w.heap.size+2) tops' W' vp' (V.putP s.passes (V.ruleOf g p.left p.right)) rvs'->V.Moves tops W tops' W'->Below (w.heap.size+2) W W' ->
         V.SS (w.heap.size+2) (w.heap.size+1) tops' (W'.setCell ⟨w.heap.size+1,2,none⟩ vp') (V.scr g (l.take (k+1))) vo vp' rvs'/\V.Leaf tops' (W'.setCell ⟨w.heap.size+1,2,none⟩ vp') (fun W=>W.heap[w.heap.size+2]?=some (.cells #[.map (some B)] 131))/\((∀q,q<=w.heap.size->q∈tops')/\(W'.setCell ⟨w.heap.size+1,2,none⟩ vp').heap[w.heap.size]?=some (.cells #[.bool false,.slice none 0 0,.slice none 0 0] 26))/\Below w.heap.size w (W'.setCell ⟨w.heap.size+1,2,none⟩ vp')/\(W'.cell? ⟨w.heap.size+1,2,none⟩=some vp/\W'.frozen? ⟨w.heap.size+1,2,none⟩=false)):=fun W W' vp' tops' rvs' hW hPS hMv hBl=>by
        have S2:=S1.below hW
        rw[hS]
        have hbx5:=(hBl.block (w.heap.size+1) (by omega)).trans S2.box
        refine⟨S2.passes hMv hBl hPS (V.putP_ne _ _),((X1.moves (V.Moves.of_below hW)).moves hMv).moves (V.Moves.store W' 2 _ (hMv.2.2.2 _ S2.mem)),⟨fun q hq=>hMv.2.2.2 q (HRs.out.1 q hq),?_⟩,?_,(V.box3 hbx5).2.2.1,(V.box3 hbx5).2.2.2.2.2⟩
        ·rw[heap_setCell_other _ ⟨w.heap.size+1,2,none⟩ _ _ (by simp),hBl.block _ (by omega),hW.block _ (by omega)];exact R1
        ·exact((hBw.trans (hW.mono hBw.size)).trans (hBl.mono (by omega))).setCell (p:=⟨w.heap.size+1,2,none⟩) (by simp) _
       have HQ0:Hid (Below wb.heap.size wb wb.drew):=(Below.refl _ wb).drew
       have HLt:Hid (∀q∈tops,q<wb.heap.size):=S1.pas.lt
       have HTw:Hid (∀q∈tops,q<wr.heap.size):=HS.out.pas.lt
       have p4:=K.at_box (i:=4) hbx rfl
       have p5:=K.at_box (i:=5) hbx rfl
       have p6:=K.at_box (i:=6) hbx rfl
       have p7:=K.at_box (i:=7) hbx rfl
       have p8:=K.at_box (i:=8) hbx rfl
       have p9:=K.at_box (i:=9) hbx rfl
       have p10:=K.at_box (i:=10) hbx rfl
       have p11:=K.at_box (i:=11) hbx rfl
       have p12:=K.at_box (i:=12) hbx rfl
       have p13:=K.at_box (i:=13) hbx rfl
       have p14:=K.at_box (i:=14) hbx rfl
       have p15:=K.at_box (i:=15) hbx rfl
       have HKp:Hid (∀W:World,W.heap[wr.heap.size]?=wb.heap[wr.heap.size]?->W.cell? ⟨wr.heap.size,4,none⟩=some (.bool p.left.start)/\W.cell? ⟨wr.heap.size,5,none⟩=some (.bool p.left.fin)/\W.cell? ⟨wr.heap.size,6,none⟩=some (.slice lbo p.left.before.length lbc)/\W.cell? ⟨wr.heap.size,7,none⟩=some (.slice lso p.left.source.length lsc)/\W.cell? ⟨wr.heap.size,8,none⟩=some (.slice lao p.left.after.length lac)/\W.cell? ⟨wr.heap.size,9,none⟩=some (.int .i64 p.left.cursor)/\W.cell? ⟨wr.heap.size,10,none⟩=some (.bool p.right.start)/\W.cell? ⟨wr.heap.size,11,none⟩=some (.bool p.right.fin)/\W.cell? ⟨wr.heap.size,12,none⟩=some (.slice rbo p.right.before.length rbc)/\W.cell? ⟨wr.heap.size,13,none⟩=some (.slice rso p.right.source.length rsc)/\W.cell? ⟨wr.heap.size,14,none⟩=some (.slice rao p.right.after.length rac)/\W.cell? ⟨wr.heap.size,15,none⟩=some (.int .i64 p.right.cursor)):=fun W hW=>by
        have e:∀o,W.cell? ⟨wr.heap.size,o,none⟩=wb.cell? ⟨wr.heap.size,o,none⟩:=fun o=>World.cell?_of_block (a:=⟨wr.heap.size,o,none⟩) hW
        simp only[e]
        exact⟨p4,p5,p6,p7,p8,p9,p10,p11,p12,p13,p14,p15⟩
       rw[h2] at c0
       have hwb2:=hwb
       rw[h2] at hwb2
       have hdd:(p.dir==2)=false:=beq_eq_false_iff_ne.2 hd
       clear hcell hcs hst hsm hok3 hok4 hok2 S1 X1 R1 hBw hS hbx bb HSm HOk HS HBx hP hwb HRs HB o1 o2 o3 o4 o5 hSd HM HR
       subst hvp
       clear hvo
       go_wp2
       rw[<- hwb2]
       clear hwb2 c0 c1 c2 c3 c4 c5 c6 c7 c8 c9 c10 c11 c12 c13 c14 c15 hdd p4 p5 p6 p7 p8 p9 p10 p11 p12 p13 p14 p15
       refine wp_region_held_drew (S:=fun w'=>w'.cell? ⟨wr.heap.size,4,none⟩=some (.bool p.left.start)/\w'.cell? ⟨wr.heap.size,5,none⟩=some (.bool p.left.fin)/\w'.cell? ⟨wr.heap.size,6,none⟩=some (.slice lbo p.left.before.length lbc)/\w'.cell? ⟨wr.heap.size,7,none⟩=some (.slice lso p.left.source.length lsc)/\w'.cell? ⟨wr.heap.size,8,none⟩=some (.slice lao p.left.after.length lac)/\w'.cell? ⟨wr.heap.size,9,none⟩=some (.int .i64 p.left.cursor)/\w'.cell? ⟨wr.heap.size,10,none⟩=some (.bool p.right.start)/\w'.cell? ⟨wr.heap.size,11,none⟩=some (.bool p.right.fin)/\w'.cell? ⟨wr.heap.size,12,none⟩=some (.slice rbo p.right.before.length rbc)/\w'.cell? ⟨wr.heap.size,13,none⟩=some (.slice rso p.right.source.length rsc)/\w'.cell? ⟨wr.heap.size,14,none⟩=some (.slice rao p.right.after.length rac)/\w'.cell? ⟨wr.heap.size,15,none⟩=some (.int .i64 p.right.cursor)) (by kernel_rfl) (HKp.out _ rfl) (fun hHeld=> ?_)
       refine wpAnyH_take (i:=0) (oi:=_) (v:= .pointer (some ⟨w.heap.size+1,2,none⟩)) rfl (by kernel_rfl) (by kernel_rfl) (by kernel_rfl) (fun _ _ _ h=>h) (Or.inl ⟨by rfl,?_⟩) hHeld ?_
       ·intro wz hSw
        go_simp
       simp only[Act.put,List.setIfInBounds_toArray,List.set_cons_zero,List.set_cons_succ]
       refine wpAnyH_take (i:=2) (oi:=_) (v:= .pointer (some ⟨wr.heap.size,4,none⟩)) rfl (by kernel_rfl) (by kernel_rfl) (by kernel_rfl) (fun _ _ _ h=>h) (Or.inl ⟨by rfl,?_⟩) hHeld ?_
       ·intro wz hSw
        go_simp
       simp only[Act.put,List.setIfInBounds_toArray,List.set_cons_zero,List.set_cons_succ]
       refine wpAnyH_take (i:=3) (oi:=_) (v:= .agg #[.bool p.left.start,.bool p.left.fin,.slice lbo p.left.before.length lbc,.slice lso p.left.source.length lsc,.slice lao p.left.after.length lac,.int .i64 p.left.cursor]) rfl (by kernel_rfl) (by kernel_rfl) (by kernel_rfl) (fun _ _ _ h=>h) (Or.inl ⟨by rfl,?_⟩) hHeld ?_
       ·intro wz hSw
        go_simp
       simp only[Act.put,List.setIfInBounds_toArray,List.set_cons_zero,List.set_cons_succ]
       refine wpAnyH_take (i:=4) (oi:=_) (v:= .pointer (some ⟨wr.heap.size,10,none⟩)) rfl (by kernel_rfl) (by kernel_rfl) (by kernel_rfl) (fun _ _ _ h=>h) (Or.inl ⟨by rfl,?_⟩) hHeld ?_
       ·intro wz hSw
        go_simp
       simp only[Act.put,List.setIfInBounds_toArray,List.set_cons_zero,List.set_cons_succ]
       refine wpAnyH_take (i:=5) (oi:=_) (v:= .agg #[.bool p.right.start,.bool p.right.fin,.slice rbo p.right.before.length rbc,.slice rso p.right.source.length rsc,.slice rao p.right.after.length rac,.int .i64 p.right.cursor]) rfl (by kernel_rfl) (by kernel_rfl) (by kernel_rfl) (fun _ _ _ h=>h) (Or.inl ⟨by rfl,?_⟩) hHeld ?_
       ·intro wz hSw
        go_simp
       simp only[Act.put,List.setIfInBounds_toArray,List.set_cons_zero,List.set_cons_succ]
       refine wpAnyH_take (i:=6) (oi:=_) (v:= .func (.func 156) #[] #[.pointer (some ⟨w.heap.size+2,0,none⟩)]) rfl (by kernel_rfl) (by kernel_rfl) (by kernel_rfl) (fun _ _ _ h=>h) (Or.inl ⟨by rfl,?_⟩) hHeld ?_
       ·intro wz hSw
        go_simp
       simp only[Act.put,List.setIfInBounds_toArray,List.set_cons_zero,List.set_cons_succ]
       refine wpAnyH_ready (rs:= [1,7]) (by kernel_rfl) (by simp) ?_
       refine AllReadyH.cons (o:=_) rfl (fun KK hK=> ?_) (AllReadyH.cons (o:=_) rfl (fun KK hK=> ?_) AllReadyH.nil)
       ·as_aux_lemma =>
        go_simp
        refine hK.out _ _ hHeld (fun hHeld=> ?_)
        clear hK
        try simp only[Act.put,List.setIfInBounds_toArray,List.set_cons_zero,List.set_cons_succ]
        refine wpAnyH_ready (rs:= [7]) (by kernel_rfl) (by simp) ?_
        refine AllReadyH.cons (o:=_) rfl (fun KK hK=> ?_) AllReadyH.nil
        go_simp
        refine(HRule.out _ HQ0.out).mono ?_
        rintro e w5 ⟨r1,r2,r3,r4,r5,r6,r7,r8,rfl,st5,z5⟩
        have q5:Below wb.heap.size wb w5:=HQ0.out.trans (z5.mono (Nat.le_refl _))
        have H5:Hid (Below wb.heap.size wb w5/\V.Leaf tops w5 (fun W=>K.RuIs W (.agg #[.bool p.left.start,.bool p.left.fin,.slice r1 p.left.before.length r2,.slice r3 p.left.source.length r4,.slice r5 p.left.after.length r6,.slice r7 p.right.source.length r8,.int .i64 (V.ruleOf g p.left p.right).cursor]) (V.ruleOf g p.left p.right))):=⟨q5,V.Leaf.of_stays (w:=wb) st5 HLt.out z5.size⟩
        have x5:=HX2.out _ q5
        have hk5:=HKp.out w5 (q5.block _ (by omega))
        clear st5 z5 q5 hHeld HRule HQ0 HX2
        refine hK.out _ _ hk5 (fun hHeld=> ?_)
        clear hK hk5
        try simp only[Act.put,List.setIfInBounds_toArray,List.set_cons_zero,List.set_cons_succ]
        refine wpAnyH_ready (rs:= [8]) (by kernel_rfl) (by simp) ?_
        refine AllReadyH.cons (o:=_) rfl (fun KK hK=> ?_) AllReadyH.nil
        go_simp
        refine(HPut.out _ _ _ _ _ _ _ _ _ H5.out.1 H5.out.2).mono ?_
        rintro e w6 ⟨⟨vp',tops',rvs',rfl,ps6,mv6⟩,bl6⟩
        obtain⟨o6,n6,c6',rfl⟩:=V.ps_form ps6
        obtain⟨S6,X6,R6,B6,k6,f6⟩:=HFi.out _ _ _ _ _ H5.out.1 ps6 mv6 bl6
        have HS6:Hid (V.SS (w.heap.size+2) (w.heap.size+1) tops' (w6.setCell ⟨w.heap.size+1,2,none⟩ (.slice o6 n6 c6')) (V.scr g (l.take (k+1))) vo (.slice o6 n6 c6') rvs'):=S6
        have HX6:Hid (V.Leaf tops' (w6.setCell ⟨w.heap.size+1,2,none⟩ (.slice o6 n6 c6')) fun W=>W.heap[w.heap.size+2]?=some (.cells #[.map (some B)] 131)):=X6
        have HR6:Hid ((∀q,q<=w.heap.size->q∈tops')/\(w6.setCell ⟨w.heap.size+1,2,none⟩ (.slice o6 n6 c6')).heap[w.heap.size]?=some (.cells #[.bool false,.slice none 0 0,.slice none 0 0] 26)):=R6
        have HB6:Hid (Below w.heap.size w (w6.setCell ⟨w.heap.size+1,2,none⟩ (.slice o6 n6 c6'))):=B6
        have blk6:w6.heap[wr.heap.size]?=wb.heap[wr.heap.size]?:=(mv6.2.1 wr.heap.size (by have:=H5.out.1.size;omega) (fun hm=>by have:=HLt.out _ hm;have:=HTw.out _ hm;omega)).trans (H5.out.1.block _ (by omega))
        have blk7:(w6.setCell ⟨w.heap.size+1,2,none⟩ (.slice o6 n6 c6')).heap[wr.heap.size]?=wb.heap[wr.heap.size]?:=(heap_setCell_other w6 ⟨w.heap.size+1,2,none⟩ wr.heap.size _ (by show wr.heap.size≠w.heap.size+1;omega)).trans blk6
        have HK7:Hid ((w6.setCell ⟨w.heap.size+1,2,none⟩ (.slice o6 n6 c6')).cell? ⟨wr.heap.size,4,none⟩=some (.bool p.left.start)/\(w6.setCell ⟨w.heap.size+1,2,none⟩ (.slice o6 n6 c6')).cell? ⟨wr.heap.size,5,none⟩=some (.bool p.left.fin)/\(w6.setCell ⟨w.heap.size+1,2,none⟩ (.slice o6 n6 c6')).cell? ⟨wr.heap.size,6,none⟩=some (.slice lbo p.left.before.length lbc)/\(w6.setCell ⟨w.heap.size+1,2,none⟩ (.slice o6 n6 c6')).cell? ⟨wr.heap.size,7,none⟩=some (.slice lso p.left.source.length lsc)/\(w6.setCell ⟨w.heap.size+1,2,none⟩ (.slice o6 n6 c6')).cell? ⟨wr.heap.size,8,none⟩=some (.slice lao p.left.after.length lac)/\(w6.setCell ⟨w.heap.size+1,2,none⟩ (.slice o6 n6 c6')).cell? ⟨wr.heap.size,9,none⟩=some (.int .i64 p.left.cursor)/\(w6.setCell ⟨w.heap.size+1,2,none⟩ (.slice o6 n6 c6')).cell? ⟨wr.heap.size,10,none⟩=some (.bool p.right.start)/\(w6.setCell ⟨w.heap.size+1,2,none⟩ (.slice o6 n6 c6')).cell? ⟨wr.heap.size,11,none⟩=some (.bool p.right.fin)/\(w6.setCell ⟨w.heap.size+1,2,none⟩ (.slice o6 n6 c6')).cell? ⟨wr.heap.size,12,none⟩=some (.slice rbo p.right.before.length rbc)/\(w6.setCell ⟨w.heap.size+1,2,none⟩ (.slice o6 n6 c6')).cell? ⟨wr.heap.size,13,none⟩=some (.slice rso p.right.source.length rsc)/\(w6.setCell ⟨w.heap.size+1,2,none⟩ (.slice o6 n6 c6')).cell? ⟨wr.heap.size,14,none⟩=some (.slice rao p.right.after.length rac)/\(w6.setCell ⟨w.heap.size+1,2,none⟩ (.slice o6 n6 c6')).cell? ⟨wr.heap.size,15,none⟩=some (.int .i64 p.right.cursor)):=HKp.out _ blk7
        have hk6:=HKp.out _ blk6
        clear S6 X6 R6 B6 ps6 mv6 bl6 blk6 blk7 H5 HPut HFi HKp hHeld
        refine hK.out _ _ hk6 (fun hHeld=> ?_)
        clear hK hk6
        try simp only[Act.put,List.setIfInBounds_toArray,List.set_cons_zero,List.set_cons_succ]
        refine wpAnyH_take (i:=9) (oi:=_) (v:= .pointer (some ⟨w.heap.size+1,2,none⟩)) rfl (by kernel_rfl) (by kernel_rfl) (by kernel_rfl) (fun _ _ _ h=>h) (Or.inl ⟨by rfl,?_⟩) hHeld ?_
        ·intro wz hSw
         go_simp
        simp only[Act.put,List.setIfInBounds_toArray,List.set_cons_zero,List.set_cons_succ]
        refine wpAnyH_ready (rs:= [10]) (by kernel_rfl) (by simp) ?_
        refine AllReadyH.cons (o:=_) rfl (fun KK hK=> ?_) AllReadyH.nil
        go_simp
        refine hK.out _ _ HK7.out (fun hHeld=> ?_)
        clear hK hHeld k6 f6
        refine wpAnyH_done (by kernel_rfl) ?_ _
        go_wp2
        go_roundw
        case rel=>exact⟨k+1,tops',vo,_,rvs',by omega,by go_num,HS6,HX6,HR6,HB6⟩
        case measure=>simp[RowKit.intOf];omega
       ·as_aux_lemma =>
        go_simp
        refine(HRule.out _ HQ0.out).mono ?_
        rintro e w5 ⟨r1,r2,r3,r4,r5,r6,r7,r8,rfl,st5,z5⟩
        have q5:Below wb.heap.size wb w5:=HQ0.out.trans (z5.mono (Nat.le_refl _))
        have H5:Hid (Below wb.heap.size wb w5/\V.Leaf tops w5 (fun W=>K.RuIs W (.agg #[.bool p.left.start,.bool p.left.fin,.slice r1 p.left.before.length r2,.slice r3 p.left.source.length r4,.slice r5 p.left.after.length r6,.slice r7 p.right.source.length r8,.int .i64 (V.ruleOf g p.left p.right).cursor]) (V.ruleOf g p.left p.right))):=⟨q5,V.Leaf.of_stays (w:=wb) st5 HLt.out z5.size⟩
        have x5:=HX2.out _ q5
        have hk5:=HKp.out w5 (q5.block _ (by omega))
        clear st5 z5 q5 hHeld HRule HQ0 HX2
        refine hK.out _ _ hk5 (fun hHeld=> ?_)
        clear hK hk5
        try simp only[Act.put,List.setIfInBounds_toArray,List.set_cons_zero,List.set_cons_succ]
        refine wpAnyH_ready (rs:= [1]) (by kernel_rfl) (by simp) ?_
        refine AllReadyH.cons (o:=_) rfl (fun KK hK=> ?_) AllReadyH.nil
        go_simp
        refine hK.out _ _ hHeld (fun hHeld=> ?_)
        clear hK
        try simp only[Act.put,List.setIfInBounds_toArray,List.set_cons_zero,List.set_cons_succ]
        refine wpAnyH_ready (rs:= [8]) (by kernel_rfl) (by simp) ?_
        refine AllReadyH.cons (o:=_) rfl (fun KK hK=> ?_) AllReadyH.nil
        go_simp
        refine(HPut.out _ _ _ _ _ _ _ _ _ H5.out.1 H5.out.2).mono ?_
        rintro e w6 ⟨⟨vp',tops',rvs',rfl,ps6,mv6⟩,bl6⟩
        obtain⟨o6,n6,c6',rfl⟩:=V.ps_form ps6
        obtain⟨S6,X6,R6,B6,k6,f6⟩:=HFi.out _ _ _ _ _ H5.out.1 ps6 mv6 bl6
        have HS6:Hid (V.SS (w.heap.size+2) (w.heap.size+1) tops' (w6.setCell ⟨w.heap.size+1,2,none⟩ (.slice o6 n6 c6')) (V.scr g (l.take (k+1))) vo (.slice o6 n6 c6') rvs'):=S6
        have HX6:Hid (V.Leaf tops' (w6.setCell ⟨w.heap.size+1,2,none⟩ (.slice o6 n6 c6')) fun W=>W.heap[w.heap.size+2]?=some (.cells #[.map (some B)] 131)):=X6
        have HR6:Hid ((∀q,q<=w.heap.size->q∈tops')/\(w6.setCell ⟨w.heap.size+1,2,none⟩ (.slice o6 n6 c6')).heap[w.heap.size]?=some (.cells #[.bool false,.slice none 0 0,.slice none 0 0] 26)):=R6
        have HB6:Hid (Below w.heap.size w (w6.setCell ⟨w.heap.size+1,2,none⟩ (.slice o6 n6 c6'))):=B6
        have blk6:w6.heap[wr.heap.size]?=wb.heap[wr.heap.size]?:=(mv6.2.1 wr.heap.size (by have:=H5.out.1.size;omega) (fun hm=>by have:=HLt.out _ hm;have:=HTw.out _ hm;omega)).trans (H5.out.1.block _ (by omega))
        have blk7:(w6.setCell ⟨w.heap.size+1,2,none⟩ (.slice o6 n6 c6')).heap[wr.heap.size]?=wb.heap[wr.heap.size]?:=(heap_setCell_other w6 ⟨w.heap.size+1,2,none⟩ wr.heap.size _ (by show wr.heap.size≠w.heap.size+1;omega)).trans blk6
        have HK7:Hid ((w6.setCell ⟨w.heap.size+1,2,none⟩ (.slice o6 n6 c6')).cell? ⟨wr.heap.size,4,none⟩=some (.bool p.left.start)/\(w6.setCell ⟨w.heap.size+1,2,none⟩ (.slice o6 n6 c6')).cell? ⟨wr.heap.size,5,none⟩=some (.bool p.left.fin)/\(w6.setCell ⟨w.heap.size+1,2,none⟩ (.slice o6 n6 c6')).cell? ⟨wr.heap.size,6,none⟩=some (.slice lbo p.left.before.length lbc)/\(w6.setCell ⟨w.heap.size+1,2,none⟩ (.slice o6 n6 c6')).cell? ⟨wr.heap.size,7,none⟩=some (.slice lso p.left.source.length lsc)/\(w6.setCell ⟨w.heap.size+1,2,none⟩ (.slice o6 n6 c6')).cell? ⟨wr.heap.size,8,none⟩=some (.slice lao p.left.after.length lac)/\(w6.setCell ⟨w.heap.size+1,2,none⟩ (.slice o6 n6 c6')).cell? ⟨wr.heap.size,9,none⟩=some (.int .i64 p.left.cursor)/\(w6.setCell ⟨w.heap.size+1,2,none⟩ (.slice o6 n6 c6')).cell? ⟨wr.heap.size,10,none⟩=some (.bool p.right.start)/\(w6.setCell ⟨w.heap.size+1,2,none⟩ (.slice o6 n6 c6')).cell? ⟨wr.heap.size,11,none⟩=some (.bool p.right.fin)/\(w6.setCell ⟨w.heap.size+1,2,none⟩ (.slice o6 n6 c6')).cell? ⟨wr.heap.size,12,none⟩=some (.slice rbo p.right.before.length rbc)/\(w6.setCell ⟨w.heap.size+1,2,none⟩ (.slice o6 n6 c6')).cell? ⟨wr.heap.size,13,none⟩=some (.slice rso p.right.source.length rsc)/\(w6.setCell ⟨w.heap.size+1,2,none⟩ (.slice o6 n6 c6')).cell? ⟨wr.heap.size,14,none⟩=some (.slice rao p.right.after.length rac)/\(w6.setCell ⟨w.heap.size+1,2,none⟩ (.slice o6 n6 c6')).cell? ⟨wr.heap.size,15,none⟩=some (.int .i64 p.right.cursor)):=HKp.out _ blk7
        have hk6:=HKp.out _ blk6
        clear S6 X6 R6 B6 ps6 mv6 bl6 blk6 blk7 H5 HPut HFi HKp hHeld
        refine hK.out _ _ hk6 (fun hHeld=> ?_)
        clear hK hk6
        try simp only[Act.put,List.setIfInBounds_toArray,List.set_cons_zero,List.set_cons_succ]
        refine wpAnyH_take (i:=9) (oi:=_) (v:= .pointer (some ⟨w.heap.size+1,2,none⟩)) rfl (by kernel_rfl) (by kernel_rfl) (by kernel_rfl) (fun _ _ _ h=>h) (Or.inl ⟨by rfl,?_⟩) hHeld ?_
        ·intro wz hSw
         go_simp
        simp only[Act.put,List.setIfInBounds_toArray,List.set_cons_zero,List.set_cons_succ]
        refine wpAnyH_ready (rs:= [10]) (by kernel_rfl) (by simp) ?_
        refine AllReadyH.cons (o:=_) rfl (fun KK hK=> ?_) AllReadyH.nil
        go_simp
        refine hK.out _ _ HK7.out (fun hHeld=> ?_)
        clear hK hHeld k6 f6
        refine wpAnyH_done (by kernel_rfl) ?_ _
        go_wp2
        go_roundw
        case rel=>exact⟨k+1,tops',vo,_,rvs',by omega,by go_num,HS6,HX6,HR6,HB6⟩
        case measure=>simp[RowKit.intOf];omega
     ·as_aux_lemma =>
      have hS:V.scr g (l.take (k+1))=s:=by rw[hst];unfold V.scrStep;rw[if_neg h3,if_neg h4,if_neg h2]
      have HF:Hid (V.SS (w.heap.size+2) (w.heap.size+1) tops (wr.alloc (.cells #[.int .i64 p.kind,.string p.name,.slice so p.set.length sc,.int .i64 p.dir,.bool p.left.start,.bool p.left.fin,.slice lbo p.left.before.length lbc,.slice lso p.left.source.length lsc,.slice lao p.left.after.length lac,.int .i64 p.left.cursor,.bool p.right.start,.bool p.right.fin,.slice rbo p.right.before.length rbc,.slice rso p.right.source.length rsc,.slice rao p.right.after.length rac,.int .i64 p.right.cursor] 109)) s vo vp rvs):=by rw[<- hwb];exact S1
      have HFx:Hid (V.Leaf tops (wr.alloc (.cells #[.int .i64 p.kind,.string p.name,.slice so p.set.length sc,.int .i64 p.dir,.bool p.left.start,.bool p.left.fin,.slice lbo p.left.before.length lbc,.slice lso p.left.source.length lsc,.slice lao p.left.after.length lac,.int .i64 p.left.cursor,.bool p.right.start,.bool p.right.fin,.slice rbo p.right.before.length rbc,.slice rso p.right.source.length rsc,.slice rao p.right.after.length rac,.int .i64 p.right.cursor] 109)) fun W=>W.heap[w.heap.size+2]?=some (.cells #[.map (some B)] 131)):=by rw[<- hwb];exact X1
      have HFr:Hid ((∀q,q<=w.heap.size->q∈tops)/\(wr.alloc (.cells #[.int .i64 p.kind,.string p.name,.slice so p.set.length sc,.int .i64 p.dir,.bool p.left.start,.bool p.left.fin,.slice lbo p.left.before.length lbc,.slice lso p.left.source.length lsc,.slice lao p.left.after.length lac,.int .i64 p.left.cursor,.bool p.right.start,.bool p.right.fin,.slice rbo p.right.before.length rbc,.slice rso p.right.source.length rsc,.slice rao p.right.after.length rac,.int .i64 p.right.cursor] 109)).heap[w.heap.size]?=some (.cells #[.bool false,.slice none 0 0,.slice none 0 0] 26)):=by rw[<- hwb];exact⟨HRs.out.1,R1⟩
      have HFb:Hid (Below w.heap.size w (wr.alloc (.cells #[.int .i64 p.kind,.string p.name,.slice so p.set.length sc,.int .i64 p.dir,.bool p.left.start,.bool p.left.fin,.slice lbo p.left.before.length lbc,.slice lso p.left.source.length lsc,.slice lao p.left.after.length lac,.int .i64 p.left.cursor,.bool p.right.start,.bool p.right.fin,.slice rbo p.right.before.length rbc,.slice rso p.right.source.length rsc,.slice rao p.right.after.length rac,.int .i64 p.right.cursor] 109))):=by rw[<- hwb];exact hBw
      have HSt:Hid (V.scr g (l.take (k+1))=s):=hS
      clear hcell hcs hst hsm hok3 hok4 hok2 S1 X1 R1 hBw hS hbx bb HSm HOk HS HBx hP hwb hvp hvo HRs HB
      go_wp2
      go_roundw
      case rel=>exact⟨k+1,tops,vo,vp,rvs,by omega,by go_num,by rw[HSt.out];exact HF,HFx,HFr,HFb⟩
      case measure=>simp[RowKit.intOf];omega
  ·as_aux_lemma =>
   have hkl:l.take k=l:=List.take_of_length_le (by omega)
   rw[hkl] at HS
   obtain⟨oo,oc,hvo⟩:=V.rd_form HS.out.only.here
   obtain⟨po,pn,pc,hvp⟩:=V.ps_form HS.out.pas
   subst hvo hvp
   obtain⟨q0,q1,q2,_⟩:=V.box3 HS.out.box
   obtain⟨r0,r1,r2,f0,f1,f2⟩:=V.box3 HRs.out.2
   have lr:=L.block_lt r0
   have lq:=L.block_lt q0
   clear hkl
   go_wp2
   refine bodyPost_ret (v:= .agg #[.bool (V.scr g l).has,.slice oo (V.scr g l).only.length oc,.slice po pn pc]) (by simp[results,Tryz.results59,go_sem, *]) rfl ?_
   have hm:=HRs.out.1 _ (Nat.le_refl _)
   have o:=HS.out
   refine⟨tops,_,_,rvs,rfl,((o.only.moves (V.Moves.store wr 0 _ hm)).moves (V.Moves.store _ 1 _ hm)).moves (V.Moves.store _ 2 _ hm),o.few,((o.pas.store 0 _ hm (by omega)).store 1 _ hm (by omega)).store 2 _ hm (by omega),o.nil,HRs.out.1,((HB.out.setCell (p:=⟨w.heap.size,0,none⟩) (Nat.le_refl _) _).setCell (p:=⟨w.heap.size,1,none⟩) (Nat.le_refl _) _).setCell (p:=⟨w.heap.size,2,none⟩) (Nat.le_refl _) _⟩
end Go.Proofs.YtmcljejgbikbhaaGreatDoor
