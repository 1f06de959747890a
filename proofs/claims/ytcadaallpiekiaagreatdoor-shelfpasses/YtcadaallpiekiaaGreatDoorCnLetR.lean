import Derived.Test.YtcadaallpiekiaaGreatDoorVStep
set_option maxHeartbeats 0
set_option maxRecDepth 20000
set_option linter.unusedSimpArgs false
set_option linter.unusedVariables false
namespace Go.Proofs.YtcadaallpiekiaaGreatDoor
open Go.Proofs.Tryz
section
open Go.RowKit Go.Lib
namespace V
theorem PCs.snoc {w:World}{A:List (List Value)}{l:List R.Part}{c:List Value}{p:R.Part}(h:PCs w A l)(hc:c.length=16/\∀u∈c,u.oneCell'=true)(hp:R.PtIs w (.agg c.toArray) p):PCs w (A++ [c]) (l++ [p]):=by
 refine⟨by simp[h.1],fun c' hc'=> ?_,fun j p' c' h1 h2=> ?_⟩
 ·rcases List.mem_append.1 hc' with h1|h1
  ·exact h.2.1 c' h1
  ·rw[List.mem_singleton.1 h1];exact hc
 ·by_cases hj:j<l.length
  ·rw[List.getElem?_append_left hj] at h1;rw[List.getElem?_append_left (by rw[h.1];exact hj)] at h2;exact h.2.2 j p' c' h1 h2
  ·rw[List.getElem?_append_right (by omega)] at h1;rw[List.getElem?_append_right (by rw[h.1];omega),h.1] at h2
   have hj0:j-l.length=0:=by
    have:=(qL.1 h1).1;simp at this;omega
   rw[hj0] at h1 h2;cases h1;cases h2;exact hp
theorem PCs.below {w w':World}{A:List (List Value)}{l:List R.Part}(h:PCs w A l)(hb:Bl w w'):PCs w' A l:=⟨h.1,h.2.1,fun j p c h1 h2=>(h.2.2 j p c h1 h2).keeps (R.Keeps.of_below hb qN)⟩
theorem zlj {d:Int}(h:R.I64 d):R.I64 (against d):=by
 unfold against;split
 ·exact⟨by decide,by decide⟩
 ·split
  ·exact⟨by decide,by decide⟩
  ·exact h
theorem zly (s:ByteArray):(opp s).size<=140737488355328:=by
 unfold opp;split
 ·decide
 ·split <;> decide
theorem OutIs.six {W:World}{g k:Nat}{A B:List (List Value)}{c:List Value}(h:OutIs W g (A++c::B))(hA:A.length=k)(q:Nat)(hq:q+5<16)(v0 v1 v2 v3 v4 v5:Value) :
  OutIs ((((((W.setCell ⟨g,k*16+q,none⟩ v0).setCell ⟨g,k*16+q+1,none⟩ v1).setCell ⟨g,k*16+q+2,none⟩ v2).setCell ⟨g,k*16+q+3,none⟩ v3).setCell ⟨g,k*16+q+4,none⟩ v4).setCell ⟨g,k*16+q+5,none⟩ v5) g (A++(((((c.set q v0).set (q+1) v1).set (q+2) v2).set (q+3) v3).set (q+4) v4).set (q+5) v5::B) /\
  (∀b,¬b=g->((((((W.setCell ⟨g,k*16+q,none⟩ v0).setCell ⟨g,k*16+q+1,none⟩ v1).setCell ⟨g,k*16+q+2,none⟩ v2).setCell ⟨g,k*16+q+3,none⟩ v3).setCell ⟨g,k*16+q+4,none⟩ v4).setCell ⟨g,k*16+q+5,none⟩ v5).heap[b]?=W.heap[b]?) /\
  ∀(w0:World) (F:Nat),Below F w0 W->F<=g->Below F w0 ((((((W.setCell ⟨g,k*16+q,none⟩ v0).setCell ⟨g,k*16+q+1,none⟩ v1).setCell ⟨g,k*16+q+2,none⟩ v2).setCell ⟨g,k*16+q+3,none⟩ v3).setCell ⟨g,k*16+q+4,none⟩ v4).setCell ⟨g,k*16+q+5,none⟩ v5):=by
 refine⟨?_,fun b hb=> ?_,fun w0 F hb hF=>(((((hb.setCell (p:=⟨g,k*16+q,none⟩) hF v0).setCell (p:=⟨g,k*16+q+1,none⟩) hF v1).setCell (p:=⟨g,k*16+q+2,none⟩) hF v2).setCell (p:=⟨g,k*16+q+3,none⟩) hF v3).setCell (p:=⟨g,k*16+q+4,none⟩) hF v4).setCell (p:=⟨g,k*16+q+5,none⟩) hF v5⟩
 ·have h0:=h.set hA q (by omega) v0;have h1:=h0.set hA (q+1) (by omega) v1;have h2:=h1.set hA (q+2) (by omega) v2;have h3:=h2.set hA (q+3) (by omega) v3;have h4:=h3.set hA (q+4) (by omega) v4;exact h4.set hA (q+5) (by omega) v5
 ·rw[heap_setCell_other _ ⟨g,k*16+q+5,none⟩ b _ hb,heap_setCell_other _ ⟨g,k*16+q+4,none⟩ b _ hb,heap_setCell_other _ ⟨g,k*16+q+3,none⟩ b _ hb,heap_setCell_other _ ⟨g,k*16+q+2,none⟩ b _ hb,heap_setCell_other _ ⟨g,k*16+q+1,none⟩ b _ hb,heap_setCell_other _ ⟨g,k*16+q,none⟩ b _ hb]
theorem OutIs.six4 {W:World}{g k:Nat}{A B:List (List Value)}{x0 x1 x2 x3 x4 x5 x6 x7 x8 x9 x10 x11 x12 x13 x14 x15:Value}(h:OutIs W g (A++ [x0,x1,x2,x3,x4,x5,x6,x7,x8,x9,x10,x11,x12,x13,x14,x15]::B))(hA:A.length=k)(v0 v1 v2 v3 v4 v5:Value):OutIs (W.setCells g (k*16+4) [v0,v1,v2,v3,v4,v5]) g (A++ [x0,x1,x2,x3,v0,v1,v2,v3,v4,v5,x10,x11,x12,x13,x14,x15]::B):=(h.six hA 4 (by decide) v0 v1 v2 v3 v4 v5).1
theorem OutIs.six10 {W:World}{g k:Nat}{A B:List (List Value)}{x0 x1 x2 x3 x4 x5 x6 x7 x8 x9 x10 x11 x12 x13 x14 x15:Value}(h:OutIs W g (A++ [x0,x1,x2,x3,x4,x5,x6,x7,x8,x9,x10,x11,x12,x13,x14,x15]::B))(hA:A.length=k)(v0 v1 v2 v3 v4 v5:Value):OutIs (W.setCells g (k*16+10) [v0,v1,v2,v3,v4,v5]) g (A++ [x0,x1,x2,x3,x4,x5,x6,x7,x8,x9,v0,v1,v2,v3,v4,v5]::B):=(h.six hA 10 (by decide) v0 v1 v2 v3 v4 v5).1
theorem OutIs.one1 {W:World}{g k:Nat}{A B:List (List Value)}{x0 x1 x2 x3 x4 x5 x6 x7 x8 x9 x10 x11 x12 x13 x14 x15:Value}(h:OutIs W g (A++ [x0,x1,x2,x3,x4,x5,x6,x7,x8,x9,x10,x11,x12,x13,x14,x15]::B))(hA:A.length=k)(v:Value):OutIs (W.setCell ⟨g,k*16+1,none⟩ v) g (A++ [x0,v,x2,x3,x4,x5,x6,x7,x8,x9,x10,x11,x12,x13,x14,x15]::B):=h.set hA 1 (by decide) v
theorem OutIs.one3 {W:World}{g k:Nat}{A B:List (List Value)}{x0 x1 x2 x3 x4 x5 x6 x7 x8 x9 x10 x11 x12 x13 x14 x15:Value}(h:OutIs W g (A++ [x0,x1,x2,x3,x4,x5,x6,x7,x8,x9,x10,x11,x12,x13,x14,x15]::B))(hA:A.length=k)(v:Value):OutIs (W.setCell ⟨g,k*16+3,none⟩ v) g (A++ [x0,x1,x2,v,x4,x5,x6,x7,x8,x9,x10,x11,x12,x13,x14,x15]::B):=h.set hA 3 (by decide) v
theorem OutIs.drew {W:World}{g:Nat}{cs:List (List Value)}(h:OutIs W g cs):OutIs W.drew g cs:=h.other rfl
theorem OutIs.there {W:World}{g k:Nat}{A B:List (List Value)}{c:List Value}(h:OutIs W g (A++c::B))(hA:A.length=k)(q:Nat)(hq:q+6<=16):W.there g (k*16+q) 6:=fun j hj=>by
 obtain⟨u,hu⟩:∃u,c[q+j]?=some u:=⟨c[q+j]'(by rw[h.1 c (by simp)];omega),by rw[List.getElem?_eq_getElem]⟩;have h1:=h.cell (j:=k) (q:=q+j) (by rw[<- hA];simp) hu;rw[<- Nat.add_assoc] at h1;exact⟨by rw[h1];rfl,h.free _⟩
theorem OutIs.get {W:World}{g k:Nat}{A B:List (List Value)}{c:List Value}(h:OutIs W g (A++c::B))(hA:A.length=k){q:Nat}{u:Value}(hq:c[q]?=some u):W.cell? ⟨g,k*16+q,none⟩=some u:=h.cell (by rw[<- hA];simp) hq
theorem letters {w:World}{c:List Value}{p:R.Part}(h:R.PtIs w (.agg c.toArray) p):∃nm so n0 sc a1 a2 b1 n1 j1 b2 n2 j2 b3 n3 j3 ac e1 e2 f1 m1 d1 f2 m2 d2 f3 m3 d3 ec,c= [.int .i64 p.kind,.string nm,.slice so n0 sc,.int .i64 p.dir,.bool a1,.bool a2,.slice b1 n1 j1,.slice b2 n2 j2,.slice b3 n3 j3,.int .i64 ac,.bool e1,.bool e2,.slice f1 m1 d1,.slice f2 m2 d2,.slice f3 m3 d3,.int .i64 ec]/\nm.size<=140737488355328/\R.PtIs w (.agg #[.int .i64 p.kind,.string (opp nm),.slice so n0 sc,.int .i64 p.dir,.bool a1,.bool a2,.slice b1 n1 j1,.slice b2 n2 j2,.slice b3 n3 j3,.int .i64 ac,.bool e1,.bool e2,.slice f1 m1 d1,.slice f2 m2 d2,.slice f3 m3 d3,.int .i64 ec]) { p with name:=opp p.name }/\R.PtIs w (.agg #[.int .i64 p.kind,.string nm,.slice so n0 sc,.int .i64 (against p.dir),.bool e1,.bool e2,.slice f1 m1 d1,.slice f2 m2 d2,.slice f3 m3 d3,.int .i64 ec,.bool a1,.bool a2,.slice b1 n1 j1,.slice b2 n2 j2,.slice b3 n3 j3,.int .i64 ac]) { p with left:=p.right,dir:=against p.dir,right:=p.left }/\R.PtIs w (.agg #[.int .i64 p.kind,.string nm,.slice so n0 sc,.int .i64 p.dir,.bool a1,.bool a2,.slice b1 n1 j1,.slice b2 n2 j2,.slice b3 n3 j3,.int .i64 ac,.bool e1,.bool e2,.slice f1 m1 d1,.slice f2 m2 d2,.slice f3 m3 d3,.int .i64 ec]) p:=by
 obtain⟨so,sc,lbo,lbc,lso,lsc,lao,lac,rbo,rbc,rso,rsc,rao,rac,he,m1,m2,m3,m4,m5,m6⟩:=h.open;have he2:=congrArg Array.toList (Value.agg.inj he);simp only[List.toList_toArray] at he2;rw[he] at h;refine⟨p.name,so,_,sc,p.left.start,p.left.fin,lbo,_,lbc,lso,_,lsc,lao,_,lac,p.left.cursor,p.right.start,p.right.fin,rbo,_,rbc,rso,_,rsc,rao,_,rac,p.right.cursor,he2,m5,?_,?_,h⟩
 ·exact⟨so,sc,_,_,_,_,_,_,_,_,_,_,_,_,rfl,m1,m2,m3,m4,V.zly p.name,m6⟩
 ·exact⟨so,sc,_,_,_,_,_,_,_,_,_,_,_,_,rfl,m1,m2,m4,m3,m5,V.zlj m6⟩
end V
theorem zjz (w:World)(b off cap:Nat)(l:List R.Part)(R0:R.Pts w (.slice (some ⟨b,off,none⟩) l.length cap) l)(hl:l.length<=1000)(h0:0<l.length) :
  Calls prog 33 #[.slice (some ⟨b,off,none⟩) l.length cap] w fun e w'=>∃v',e=.returned v'/\R.Pts w' v' (l.map V.turn)/\Bl w w':=by
 obtain⟨cs,hP,hc⟩:=V.zpj R0;have HCl:=qH<|zm7 w b off cap l cs hP hc hl h0;have HP:=qH hP;have HC:=qH hc;have hcl:=hP.1;clear R0 hP hc
 go_enter func33,ntmps33
 go_wp2_with fail
 refine HCl.out.mono ?_;rintro e w1 ⟨g,cap',rfl,hg,o1,b1⟩;have HI:Hid (V.OutIs w1 g ([]++cs.drop 0)/\V.PCs w [] ((l.take 0).map V.turn)/\Bl w w1):=⟨by simpa using o1,⟨rfl,fun c hc=>(by cases hc),fun j p c h=>by cases h⟩,b1⟩;clear o1 b1 HCl;go_wp2
 go_loopw [10] (fun i wr=>∃(k:Nat) (A:List (List Value)),k<=l.length/\i=.int .i64 k/\A.length=k/\Hid (V.OutIs wr g (A++cs.drop k)/\V.PCs w A ((l.take k).map V.turn)/\Bl w wr)) (fun i _=>l.length-(RowKit.intOf i).toNat)
 case atStart=>exact⟨0,[],Nat.zero_le _,rfl,rfl,HI⟩
 case round =>
  clear HI;obtain⟨k,A,hk,rfl,hA,HI⟩:=hrel
  by_cases hlt:k<l.length
  ·obtain⟨p,hp⟩:∃x,l[k]?=some x:=⟨l[k],by simp[hlt]⟩;obtain⟨c,hck⟩:∃x,cs[k]?=some x:=⟨cs[k]'(by omega),by simp[hcl,hlt]⟩;have hPt:=HP.out.2.2 k p c hp hck;have hone:=HP.out.2.1 c (List.mem_of_getElem? hck);obtain⟨nm,so,n0,sc,a1,a2,b1,n1,j1,b2,n2,j2,b3,n3,j3,ac,e1,e2,f1,m1,d1,f2,m2,d2,f3,m3,d3,ec,rfl,m5,p4,p2,p0⟩:=V.letters hPt;obtain⟨B,hB⟩:=qE (cs.drop (k+1))
   have hdr:cs.drop k= [.int .i64 p.kind,.string nm,.slice so n0 sc,.int .i64 p.dir,.bool a1,.bool a2,.slice b1 n1 j1,.slice b2 n2 j2,.slice b3 n3 j3,.int .i64 ac,.bool e1,.bool e2,.slice f1 m1 d1,.slice f2 m2 d2,.slice f3 m3 d3,.int .i64 ec]::B:=by
    rw[hB,List.drop_eq_getElem_cons (by omega)];rw[List.getElem?_eq_getElem (by omega)] at hck;rw[Option.some.inj hck]
   have htk:(l.take (k+1)).map V.turn=(l.take k).map V.turn++ [V.turn p]:=by
    rw[List.take_add_one,hp];simp
   have s0:=fun q u hq=>by
    have h:=HC.out k _ q u hck hq;rw[<- HI.out.2.2.cell (p:=⟨b,off+k*16+q,none⟩) (L.block_lt h)] at h;exact h
   have c0:=s0 0 _ rfl;rw[Nat.add_zero] at c0;have c1:=s0 1 _ rfl;have c2:=s0 2 _ rfl;have c3:=s0 3 _ rfl;have c4:=s0 4 _ rfl;have c5:=s0 5 _ rfl;have c6:=s0 6 _ rfl;have c7:=s0 7 _ rfl;have c8:=s0 8 _ rfl;have c9:=s0 9 _ rfl;have c10:=s0 10 _ rfl;have c11:=s0 11 _ rfl;have c12:=s0 12 _ rfl;have c13:=s0 13 _ rfl;have c14:=s0 14 _ rfl;have c15:=s0 15 _ rfl
   have HI1:Hid (V.OutIs wr g (A++ [.int .i64 p.kind,.string nm,.slice so n0 sc,.int .i64 p.dir,.bool a1,.bool a2,.slice b1 n1 j1,.slice b2 n2 j2,.slice b3 n3 j3,.int .i64 ac,.bool e1,.bool e2,.slice f1 m1 d1,.slice f2 m2 d2,.slice f3 m3 d3,.int .i64 ec]::B)):=by
    have h:=HI.out.1;rw[hdr] at h;exact h
   have hgl:=HI1.out.lt;have HTk:=qH htk;have HBW:=qH HI.out.2.2;have HA2:=qH HI.out.2.1;clear hPt s0 hdr hone htk hck HI HC HP;have zg:∀o,∃u,(wr.alloc o).cell? ⟨g,k*16+1,none⟩=some u:=fun o=>⟨_,K.zai (HI1.out.get hA (q:=1) rfl) o⟩
   have zf:=fun o i=>(HI1.out.other (W':=wr.alloc o) (Below.heap_alloc wr o g HI1.out.lt)).free i
   by_cases h4:p.kind=4
   ·have HE:Hid (∀o,V.OutIs ((wr.setCell ⟨g,k*16+1,none⟩ (.string (V.opp nm))).alloc o) g ((A++ [[.int .i64 p.kind,.string (V.opp nm),.slice so n0 sc,.int .i64 p.dir,.bool a1,.bool a2,.slice b1 n1 j1,.slice b2 n2 j2,.slice b3 n3 j3,.int .i64 ac,.bool e1,.bool e2,.slice f1 m1 d1,.slice f2 m2 d2,.slice f3 m3 d3,.int .i64 ec]])++B)/\Bl w ((wr.setCell ⟨g,k*16+1,none⟩ (.string (V.opp nm))).alloc o)):=fun o=>by
     have h:=HI1.out.one1 hA (.string (V.opp nm));refine⟨?_,(HBW.out.setCell (p:=⟨g,k*16+1,none⟩) hg _).alloc (by simpa using HBW.out.size) o⟩;rw[List.append_assoc];exact h.other (Below.heap_alloc _ _ g h.lt)
    have e:V.turn p= { p with name:=V.opp p.name }:=by unfold V.turn;rw[if_pos h4]
    have HPn:Hid (V.PCs w (A++ [[.int .i64 p.kind,.string (V.opp nm),.slice so n0 sc,.int .i64 p.dir,.bool a1,.bool a2,.slice b1 n1 j1,.slice b2 n2 j2,.slice b3 n3 j3,.int .i64 ac,.bool e1,.bool e2,.slice f1 m1 d1,.slice f2 m2 d2,.slice f3 m3 d3,.int .i64 ec]]) ((l.take (k+1)).map V.turn)):=by
     show V.PCs w (A++ [[.int .i64 p.kind,.string (V.opp nm),.slice so n0 sc,.int .i64 p.dir,.bool a1,.bool a2,.slice b1 n1 j1,.slice b2 n2 j2,.slice b3 n3 j3,.int .i64 ac,.bool e1,.bool e2,.slice f1 m1 d1,.slice f2 m2 d2,.slice f3 m3 d3,.int .i64 ec]]) ((l.take (k+1)).map V.turn);rw[HTk.out,e];refine HA2.out.snoc ⟨rfl,fun u hu=> ?_⟩ p4;simp only[List.mem_cons,List.not_mem_nil,or_false] at hu;rcases hu with rfl|rfl|rfl|rfl|rfl|rfl|rfl|rfl|rfl|rfl|rfl|rfl|rfl|rfl|rfl|rfl <;> rfl
    rw[h4] at c0;obtain⟨z,z1⟩:=zg (.cells #[.int .i64 4,.string nm,.slice so n0 sc,.int .i64 p.dir,.bool a1,.bool a2,.slice b1 n1 j1,.slice b2 n2 j2,.slice b3 n3 j3,.int .i64 ac,.bool e1,.bool e2,.slice f1 m1 d1,.slice f2 m2 d2,.slice f3 m3 d3,.int .i64 ec] 104);clear HI1 p4 p2 p0 e zg HA2 HTk HBW
    as_aux_lemma =>
    go_wp2_with fail
    refine(ziv _ _ m5).mono ?_;rintro e w4 ⟨rfl,rfl⟩;go_wp2
    go_roundw
    case rel=>exact⟨k+1,A++ [[.int .i64 p.kind,.string (V.opp nm),.slice so n0 sc,.int .i64 p.dir,.bool a1,.bool a2,.slice b1 n1 j1,.slice b2 n2 j2,.slice b3 n3 j3,.int .i64 ac,.bool e1,.bool e2,.slice f1 m1 d1,.slice f2 m2 d2,.slice f3 m3 d3,.int .i64 ec]],by omega,by go_num,by simp[hA],by rw[<- hB];exact(HE.out _).1,HPn.out,(HE.out _).2⟩
    case measure=>simp[RowKit.intOf];omega
   ·by_cases h2:p.kind=2
    ·have e:V.turn p= { p with left:=p.right,dir:=V.against p.dir,right:=p.left }:=by unfold V.turn;rw[if_neg h4,if_pos h2]
     have HPn:Hid (V.PCs w (A++ [[.int .i64 p.kind,.string nm,.slice so n0 sc,.int .i64 (V.against p.dir),.bool e1,.bool e2,.slice f1 m1 d1,.slice f2 m2 d2,.slice f3 m3 d3,.int .i64 ec,.bool a1,.bool a2,.slice b1 n1 j1,.slice b2 n2 j2,.slice b3 n3 j3,.int .i64 ac]]) ((l.take (k+1)).map V.turn)):=by
      show V.PCs w (A++ [[.int .i64 p.kind,.string nm,.slice so n0 sc,.int .i64 (V.against p.dir),.bool e1,.bool e2,.slice f1 m1 d1,.slice f2 m2 d2,.slice f3 m3 d3,.int .i64 ec,.bool a1,.bool a2,.slice b1 n1 j1,.slice b2 n2 j2,.slice b3 n3 j3,.int .i64 ac]]) ((l.take (k+1)).map V.turn);rw[HTk.out,e];refine HA2.out.snoc ⟨rfl,fun u hu=> ?_⟩ p2;simp only[List.mem_cons,List.not_mem_nil,or_false] at hu;rcases hu with rfl|rfl|rfl|rfl|rfl|rfl|rfl|rfl|rfl|rfl|rfl|rfl|rfl|rfl|rfl|rfl <;> rfl
     obtain⟨wb,hwb⟩:=qE (wr.alloc (.cells #[.int .i64 p.kind,.string nm,.slice so n0 sc,.int .i64 p.dir,.bool a1,.bool a2,.slice b1 n1 j1,.slice b2 n2 j2,.slice b3 n3 j3,.int .i64 ac,.bool e1,.bool e2,.slice f1 m1 d1,.slice f2 m2 d2,.slice f3 m3 d3,.int .i64 ec] 104));have hbx:wb.heap[wr.heap.size]?=some (.cells #[.int .i64 p.kind,.string nm,.slice so n0 sc,.int .i64 p.dir,.bool a1,.bool a2,.slice b1 n1 j1,.slice b2 n2 j2,.slice b3 n3 j3,.int .i64 ac,.bool e1,.bool e2,.slice f1 m1 d1,.slice f2 m2 d2,.slice f3 m3 d3,.int .i64 ec] 104):=by rw[hwb];exact heap_alloc_new wr _
     have O1:V.OutIs wb g (A++ [.int .i64 p.kind,.string nm,.slice so n0 sc,.int .i64 p.dir,.bool a1,.bool a2,.slice b1 n1 j1,.slice b2 n2 j2,.slice b3 n3 j3,.int .i64 ac,.bool e1,.bool e2,.slice f1 m1 d1,.slice f2 m2 d2,.slice f3 m3 d3,.int .i64 ec]::B):=by rw[hwb];exact HI1.out.other (Below.heap_alloc wr _ g hgl)
     have HBw:Hid (Bl w wb):=by show Bl w wb;rw[hwb];exact HBW.out.alloc HBW.out.size _
     have HO1:=qH O1
     have HKp:Hid (∀W:World,W.heap[wr.heap.size]?=wb.heap[wr.heap.size]?->W.cell? ⟨wr.heap.size,3,none⟩=some (.int .i64 p.dir)/\W.cell? ⟨wr.heap.size,4,none⟩=some (.bool a1)/\W.cell? ⟨wr.heap.size,5,none⟩=some (.bool a2)/\W.cell? ⟨wr.heap.size,6,none⟩=some (.slice b1 n1 j1)/\W.cell? ⟨wr.heap.size,7,none⟩=some (.slice b2 n2 j2)/\W.cell? ⟨wr.heap.size,8,none⟩=some (.slice b3 n3 j3)/\W.cell? ⟨wr.heap.size,9,none⟩=some (.int .i64 ac)/\W.cell? ⟨wr.heap.size,10,none⟩=some (.bool e1)/\W.cell? ⟨wr.heap.size,11,none⟩=some (.bool e2)/\W.cell? ⟨wr.heap.size,12,none⟩=some (.slice f1 m1 d1)/\W.cell? ⟨wr.heap.size,13,none⟩=some (.slice f2 m2 d2)/\W.cell? ⟨wr.heap.size,14,none⟩=some (.slice f3 m3 d3)/\W.cell? ⟨wr.heap.size,15,none⟩=some (.int .i64 ec)):=fun W hW=>by
      have e:=fun o=>World.cell?_of_block (a:=⟨wr.heap.size,o,none⟩) hW
      simp only[e];exact⟨K.zad (i:=3) hbx rfl,K.zad (i:=4) hbx rfl,K.zad (i:=5) hbx rfl,K.zad (i:=6) hbx rfl,K.zad (i:=7) hbx rfl,K.zad (i:=8) hbx rfl,K.zad (i:=9) hbx rfl,K.zad (i:=10) hbx rfl,K.zad (i:=11) hbx rfl,K.zad (i:=12) hbx rfl,K.zad (i:=13) hbx rfl,K.zad (i:=14) hbx rfl,K.zad (i:=15) hbx rfl⟩
     have hth:=O1.drew.there hA 4 (by decide);have hne:¬wr.heap.size=g:=by omega
     have hwb2:=hwb;rw[h2] at hwb2;rw[h2] at c0;clear HI1 p4 p2 p0 e zg zf HA2 HTk HBW O1 hwb hbx m5
     as_aux_lemma =>
     go_wp2;rw[<- hwb2]
     generalize (Value.agg #[.int .i64 2,.string nm,.slice so n0 sc,.int .i64 p.dir,.bool a1,.bool a2,.slice b1 n1 j1,.slice b2 n2 j2,.slice b3 n3 j3,.int .i64 ac,.bool e1,.bool e2,.slice f1 m1 d1,.slice f2 m2 d2,.slice f3 m3 d3,.int .i64 ec])=x14;clear hwb2 c0 c1 c2 c3 c4 c5 c6 c7 c8 c9 c10 c11 c12 c13 c14 c15;refine wp_region_held_drew (S:=fun w'=>w'.cell? ⟨wr.heap.size,3,none⟩=some (.int .i64 p.dir)/\w'.cell? ⟨wr.heap.size,4,none⟩=some (.bool a1)/\w'.cell? ⟨wr.heap.size,5,none⟩=some (.bool a2)/\w'.cell? ⟨wr.heap.size,6,none⟩=some (.slice b1 n1 j1)/\w'.cell? ⟨wr.heap.size,7,none⟩=some (.slice b2 n2 j2)/\w'.cell? ⟨wr.heap.size,8,none⟩=some (.slice b3 n3 j3)/\w'.cell? ⟨wr.heap.size,9,none⟩=some (.int .i64 ac)/\w'.cell? ⟨wr.heap.size,10,none⟩=some (.bool e1)/\w'.cell? ⟨wr.heap.size,11,none⟩=some (.bool e2)/\w'.cell? ⟨wr.heap.size,12,none⟩=some (.slice f1 m1 d1)/\w'.cell? ⟨wr.heap.size,13,none⟩=some (.slice f2 m2 d2)/\w'.cell? ⟨wr.heap.size,14,none⟩=some (.slice f3 m3 d3)/\w'.cell? ⟨wr.heap.size,15,none⟩=some (.int .i64 ec)) (by kernel_rfl) (HKp.out _ rfl) fun hHeld=> ?_
     refine V.take 0 28 (.slice (some ⟨g,0,none⟩) l.length cap') [true,false,false,false,false,false,false,false,false,false,false,false,false,false,false,false,false,false,false,false,false,false] rfl rfl (by kernel_rfl) (by kernel_rfl) (by kernel_rfl) (by kernel_rfl) (fun _ _ _ h=>h) (Or.inl ⟨by rfl,?_⟩) hHeld ?_
     ·intro wz hSw
      go_simp
     simp only[Act.put,List.setIfInBounds_toArray,List.set_cons_zero,List.set_cons_succ];refine V.take 1 29 (.int .i64 (k:Int)) [true,true,false,false,false,false,false,false,false,false,false,false,false,false,false,false,false,false,false,false,false,false] rfl rfl (by kernel_rfl) (by kernel_rfl) (by kernel_rfl) (by kernel_rfl) (fun _ _ _ h=>h) (Or.inl ⟨by rfl,?_⟩) hHeld ?_
     ·intro wz hSw
      go_simp
     simp only[Act.put,List.setIfInBounds_toArray,List.set_cons_zero,List.set_cons_succ];refine V.take 2 30 (.slice (some ⟨g,0,none⟩) l.length cap') [true,true,true,false,false,false,false,false,false,false,false,false,false,false,false,false,false,false,false,false,false,false] rfl rfl (by kernel_rfl) (by kernel_rfl) (by kernel_rfl) (by kernel_rfl) (fun _ _ _ h=>h) (Or.inl ⟨by rfl,?_⟩) hHeld ?_
     ·intro wz hSw
      go_simp
     simp only[Act.put,List.setIfInBounds_toArray,List.set_cons_zero,List.set_cons_succ];refine V.take 3 31 (.int .i64 (k:Int)) [true,true,true,true,false,false,false,false,false,false,false,false,false,false,false,false,false,false,false,false,false,false] rfl rfl (by kernel_rfl) (by kernel_rfl) (by kernel_rfl) (by kernel_rfl) (fun _ _ _ h=>h) (Or.inl ⟨by rfl,?_⟩) hHeld ?_
     ·intro wz hSw
      go_simp
     simp only[Act.put,List.setIfInBounds_toArray,List.set_cons_zero,List.set_cons_succ];refine V.take 4 32 (.slice (some ⟨g,0,none⟩) l.length cap') [true,true,true,true,true,false,false,false,false,false,false,false,false,false,false,false,false,false,false,false,false,false] rfl rfl (by kernel_rfl) (by kernel_rfl) (by kernel_rfl) (by kernel_rfl) (fun _ _ _ h=>h) (Or.inl ⟨by rfl,?_⟩) hHeld ?_
     ·intro wz hSw
      go_simp
     simp only[Act.put,List.setIfInBounds_toArray,List.set_cons_zero,List.set_cons_succ];refine V.take 5 33 (.int .i64 (k:Int)) [true,true,true,true,true,true,false,false,false,false,false,false,false,false,false,false,false,false,false,false,false,false] rfl rfl (by kernel_rfl) (by kernel_rfl) (by kernel_rfl) (by kernel_rfl) (fun _ _ _ h=>h) (Or.inl ⟨by rfl,?_⟩) hHeld ?_
     ·intro wz hSw
      go_simp
     simp only[Act.put,List.setIfInBounds_toArray,List.set_cons_zero,List.set_cons_succ];refine V.take 6 34 (.pointer (some ⟨wr.heap.size,10,none⟩)) [true,true,true,true,true,true,true,false,false,false,false,false,false,false,false,false,false,false,false,false,false,false] rfl rfl (by kernel_rfl) (by kernel_rfl) (by kernel_rfl) (by kernel_rfl) (fun _ _ _ h=>h) (Or.inl ⟨by rfl,?_⟩) hHeld ?_
     ·intro wz hSw
      go_simp
     simp only[Act.put,List.setIfInBounds_toArray,List.set_cons_zero,List.set_cons_succ];refine V.take 7 35 (.agg #[.bool e1,.bool e2,.slice f1 m1 d1,.slice f2 m2 d2,.slice f3 m3 d3,.int .i64 ec]) [true,true,true,true,true,true,true,true,false,false,false,false,false,false,false,false,false,false,false,false,false,false] rfl rfl (by kernel_rfl) (by kernel_rfl) (by kernel_rfl) (by kernel_rfl) (fun _ _ _ h=>h) (Or.inl ⟨by rfl,?_⟩) hHeld ?_
     ·intro wz hSw
      go_simp
     simp only[Act.put,List.setIfInBounds_toArray,List.set_cons_zero,List.set_cons_succ];refine V.take 8 36 (.pointer (some ⟨wr.heap.size,3,none⟩)) [true,true,true,true,true,true,true,true,true,false,false,false,false,false,false,false,false,false,false,false,false,false] rfl rfl (by kernel_rfl) (by kernel_rfl) (by kernel_rfl) (by kernel_rfl) (fun _ _ _ h=>h) (Or.inl ⟨by rfl,?_⟩) hHeld ?_
     ·intro wz hSw
      go_simp
     simp only[Act.put,List.setIfInBounds_toArray,List.set_cons_zero,List.set_cons_succ];refine V.take 9 37 (.int .i64 p.dir) [true,true,true,true,true,true,true,true,true,true,false,false,false,false,false,false,false,false,false,false,false,false] rfl rfl (by kernel_rfl) (by kernel_rfl) (by kernel_rfl) (by kernel_rfl) (fun _ _ _ h=>h) (Or.inl ⟨by rfl,?_⟩) hHeld ?_
     ·intro wz hSw
      go_simp
     simp only[Act.put,List.setIfInBounds_toArray,List.set_cons_zero,List.set_cons_succ];refine V.take 11 39 (.pointer (some ⟨wr.heap.size,4,none⟩)) [true,true,true,true,true,true,true,true,true,true,false,true,false,false,false,false,false,false,false,false,false,false] rfl rfl (by kernel_rfl) (by kernel_rfl) (by kernel_rfl) (by kernel_rfl) (fun _ _ _ h=>h) (Or.inl ⟨by rfl,?_⟩) hHeld ?_
     ·intro wz hSw
      go_simp
     simp only[Act.put,List.setIfInBounds_toArray,List.set_cons_zero,List.set_cons_succ];refine V.take 12 40 (.agg #[.bool a1,.bool a2,.slice b1 n1 j1,.slice b2 n2 j2,.slice b3 n3 j3,.int .i64 ac]) [true,true,true,true,true,true,true,true,true,true,false,true,true,false,false,false,false,false,false,false,false,false] rfl rfl (by kernel_rfl) (by kernel_rfl) (by kernel_rfl) (by kernel_rfl) (fun _ _ _ h=>h) (Or.inl ⟨by rfl,?_⟩) hHeld ?_
     ·intro wz hSw
      go_simp
     simp only[Act.put,List.setIfInBounds_toArray,List.set_cons_zero,List.set_cons_succ];refine wpAnyH_ready (rs:= [10]) (by kernel_rfl) (by simp) ?_;refine AllReadyH.cons (o:=_) rfl (fun KK hK=> ?_) AllReadyH.nil
     go_simp
     refine(zlk _ _).mono ?_;rintro e w5 ⟨rfl,rfl⟩;refine hK.out _ _ hHeld (fun hHeld=> ?_);clear hK
     try simp only[Act.put,List.setIfInBounds_toArray,List.set_cons_zero,List.set_cons_succ]
     refine V.take 13 41 (.pointer (some ⟨g,k*16,none⟩)) [true,true,true,true,true,true,true,true,true,true,true,true,true,true,false,false,false,false,false,false,false,false] rfl rfl (by kernel_rfl) (by kernel_rfl) (by kernel_rfl) (by kernel_rfl) (fun _ _ _ h=>h) (Or.inl ⟨by rfl,?_⟩) hHeld ?_
     ·intro wz hSw
      go_simp
     simp only[Act.put,List.setIfInBounds_toArray,List.set_cons_zero,List.set_cons_succ];refine V.take 14 42 (.pointer (some ⟨g,k*16+4,none⟩)) [true,true,true,true,true,true,true,true,true,true,true,true,true,true,true,false,false,false,false,false,false,false] rfl rfl (by kernel_rfl) (by kernel_rfl) (by kernel_rfl) (by kernel_rfl) (fun _ _ _ h=>h) (Or.inl ⟨by rfl,?_⟩) hHeld ?_
     ·intro wz hSw
      go_simp
     simp only[Act.put,List.setIfInBounds_toArray,List.set_cons_zero,List.set_cons_succ];have F6:V.OutIs (wb.drew.setCells g (k*16+4) [.bool e1,.bool e2,.slice f1 m1 d1,.slice f2 m2 d2,.slice f3 m3 d3,.int .i64 ec]) g (A++ [.int .i64 p.kind,.string nm,.slice so n0 sc,.int .i64 p.dir,.bool e1,.bool e2,.slice f1 m1 d1,.slice f2 m2 d2,.slice f3 m3 d3,.int .i64 ec,.bool e1,.bool e2,.slice f1 m1 d1,.slice f2 m2 d2,.slice f3 m3 d3,.int .i64 ec]::B)/\(wb.drew.setCells g (k*16+4) [.bool e1,.bool e2,.slice f1 m1 d1,.slice f2 m2 d2,.slice f3 m3 d3,.int .i64 ec]).heap[wr.heap.size]?=wb.heap[wr.heap.size]?/\Bl w (wb.drew.setCells g (k*16+4) [.bool e1,.bool e2,.slice f1 m1 d1,.slice f2 m2 d2,.slice f3 m3 d3,.int .i64 ec]):=⟨HO1.out.drew.six4 hA (.bool e1) (.bool e2) (.slice f1 m1 d1) (.slice f2 m2 d2) (.slice f3 m3 d3) (.int .i64 ec),(HO1.out.drew.six hA 4 (by decide) (.bool e1) (.bool e2) (.slice f1 m1 d1) (.slice f2 m2 d2) (.slice f3 m3 d3) (.int .i64 ec)).2.1 _ hne,(HO1.out.drew.six hA 4 (by decide) (.bool e1) (.bool e2) (.slice f1 m1 d1) (.slice f2 m2 d2) (.slice f3 m3 d3) (.int .i64 ec)).2.2 w w.heap.size HBw.out.drew hg⟩;refine V.stored 15 [true,true,true,true,true,true,true,true,true,true,true,true,true,true,true,true,false,false,false,false,false,false] 102 (.tmp 42) (.tmp 35) rfl rfl rfl rfl (by kernel_rfl) (by kernel_rfl) g (k*16+4) [.bool e1,.bool e2,.slice f1 m1 d1,.slice f2 m2 d2,.slice f3 m3 d3,.int .i64 ec] rfl rfl hth (by kernel_rfl) rfl (HKp.out _ F6.2.1) ?_;generalize (wb.drew.setCells g (k*16+4) [.bool e1,.bool e2,.slice f1 m1 d1,.slice f2 m2 d2,.slice f3 m3 d3,.int .i64 ec])=w6 at F6 ⊢;have hHeld:=HKp.out w6 F6.2.1;have HX6:=qH F6;have t3:=F6.1.get hA (q:=3) rfl;have t4:w6.frozen? ⟨g,k*16+3,none⟩=false:=F6.1.free _;clear hth F6 HO1 HBw;refine V.take 16 43 (.pointer (some ⟨g,k*16,none⟩)) [true,true,true,true,true,true,true,true,true,true,true,true,true,true,true,true,true,false,false,false,false,false] rfl rfl (by kernel_rfl) (by kernel_rfl) (by kernel_rfl) (by kernel_rfl) (fun _ _ _ h=>h) (Or.inl ⟨by rfl,?_⟩) hHeld ?_
     ·intro wz hSw
      go_simp
     simp only[Act.put,List.setIfInBounds_toArray,List.set_cons_zero,List.set_cons_succ];refine V.take 17 44 (.pointer (some ⟨g,k*16+3,none⟩)) [true,true,true,true,true,true,true,true,true,true,true,true,true,true,true,true,true,true,false,false,false,false] rfl rfl (by kernel_rfl) (by kernel_rfl) (by kernel_rfl) (by kernel_rfl) (fun _ _ _ h=>h) (Or.inl ⟨by rfl,?_⟩) hHeld ?_
     ·intro wz hSw
      go_simp
     simp only[Act.put,List.setIfInBounds_toArray,List.set_cons_zero,List.set_cons_succ];have F7:V.OutIs (w6.setCell ⟨g,k*16+3,none⟩ (.int .i64 (V.against p.dir))) g (A++ [.int .i64 p.kind,.string nm,.slice so n0 sc,.int .i64 (V.against p.dir),.bool e1,.bool e2,.slice f1 m1 d1,.slice f2 m2 d2,.slice f3 m3 d3,.int .i64 ec,.bool e1,.bool e2,.slice f1 m1 d1,.slice f2 m2 d2,.slice f3 m3 d3,.int .i64 ec]::B)/\(w6.setCell ⟨g,k*16+3,none⟩ (.int .i64 (V.against p.dir))).heap[wr.heap.size]?=wb.heap[wr.heap.size]?/\Bl w (w6.setCell ⟨g,k*16+3,none⟩ (.int .i64 (V.against p.dir))):=⟨HX6.out.1.one3 hA _,(heap_setCell_other w6 ⟨g,k*16+3,none⟩ _ _ hne).trans HX6.out.2.1,HX6.out.2.2.setCell (p:=⟨g,k*16+3,none⟩) hg _⟩;refine V.stored1 18 [true,true,true,true,true,true,true,true,true,true,true,true,true,true,true,true,true,true,true,false,false,false] 3 (.tmp 44) (.tmp 38) rfl rfl rfl rfl (by kernel_rfl) (by kernel_rfl) g (k*16+3) _ (.int .i64 (V.against p.dir)) rfl rfl t3 t4 (by kernel_rfl) rfl (HKp.out _ F7.2.1) ?_;generalize (w6.setCell ⟨g,k*16+3,none⟩ (.int .i64 (V.against p.dir)))=w7 at F7 ⊢;have hHeld:=HKp.out w7 F7.2.1;have HX7:=qH F7;have hth:=F7.1.there hA 10 (by decide);clear t3 t4 F7 HX6;refine V.take 19 45 (.pointer (some ⟨g,k*16,none⟩)) [true,true,true,true,true,true,true,true,true,true,true,true,true,true,true,true,true,true,true,true,false,false] rfl rfl (by kernel_rfl) (by kernel_rfl) (by kernel_rfl) (by kernel_rfl) (fun _ _ _ h=>h) (Or.inl ⟨by rfl,?_⟩) hHeld ?_
     ·intro wz hSw
      go_simp
     simp only[Act.put,List.setIfInBounds_toArray,List.set_cons_zero,List.set_cons_succ];refine V.take 20 46 (.pointer (some ⟨g,k*16+10,none⟩)) [true,true,true,true,true,true,true,true,true,true,true,true,true,true,true,true,true,true,true,true,true,false] rfl rfl (by kernel_rfl) (by kernel_rfl) (by kernel_rfl) (by kernel_rfl) (fun _ _ _ h=>h) (Or.inl ⟨by rfl,?_⟩) hHeld ?_
     ·intro wz hSw
      go_simp
     simp only[Act.put,List.setIfInBounds_toArray,List.set_cons_zero,List.set_cons_succ];have F8:V.OutIs (w7.setCells g (k*16+10) [.bool a1,.bool a2,.slice b1 n1 j1,.slice b2 n2 j2,.slice b3 n3 j3,.int .i64 ac]) g ((A++ [[.int .i64 p.kind,.string nm,.slice so n0 sc,.int .i64 (V.against p.dir),.bool e1,.bool e2,.slice f1 m1 d1,.slice f2 m2 d2,.slice f3 m3 d3,.int .i64 ec,.bool a1,.bool a2,.slice b1 n1 j1,.slice b2 n2 j2,.slice b3 n3 j3,.int .i64 ac]])++B)/\(w7.setCells g (k*16+10) [.bool a1,.bool a2,.slice b1 n1 j1,.slice b2 n2 j2,.slice b3 n3 j3,.int .i64 ac]).heap[wr.heap.size]?=wb.heap[wr.heap.size]?/\Bl w (w7.setCells g (k*16+10) [.bool a1,.bool a2,.slice b1 n1 j1,.slice b2 n2 j2,.slice b3 n3 j3,.int .i64 ac]):=⟨by rw[List.append_assoc];exact HX7.out.1.six10 hA (.bool a1) (.bool a2) (.slice b1 n1 j1) (.slice b2 n2 j2) (.slice b3 n3 j3) (.int .i64 ac),((HX7.out.1.six hA 10 (by decide) (.bool a1) (.bool a2) (.slice b1 n1 j1) (.slice b2 n2 j2) (.slice b3 n3 j3) (.int .i64 ac)).2.1 _ hne).trans HX7.out.2.1,(HX7.out.1.six hA 10 (by decide) (.bool a1) (.bool a2) (.slice b1 n1 j1) (.slice b2 n2 j2) (.slice b3 n3 j3) (.int .i64 ac)).2.2 w w.heap.size HX7.out.2.2 hg⟩;refine V.stored 21 [true,true,true,true,true,true,true,true,true,true,true,true,true,true,true,true,true,true,true,true,true,true] 102 (.tmp 46) (.tmp 40) rfl rfl rfl rfl (by kernel_rfl) (by kernel_rfl) g (k*16+10) [.bool a1,.bool a2,.slice b1 n1 j1,.slice b2 n2 j2,.slice b3 n3 j3,.int .i64 ac] rfl rfl hth (by kernel_rfl) rfl (HKp.out _ F8.2.1) ?_;generalize (w7.setCells g (k*16+10) [.bool a1,.bool a2,.slice b1 n1 j1,.slice b2 n2 j2,.slice b3 n3 j3,.int .i64 ac])=w8 at F8 ⊢;have HX8:Hid (V.OutIs w8 g ((A++ [[.int .i64 p.kind,.string nm,.slice so n0 sc,.int .i64 (V.against p.dir),.bool e1,.bool e2,.slice f1 m1 d1,.slice f2 m2 d2,.slice f3 m3 d3,.int .i64 ec,.bool a1,.bool a2,.slice b1 n1 j1,.slice b2 n2 j2,.slice b3 n3 j3,.int .i64 ac]])++B)/\Bl w w8):=⟨F8.1,F8.2.2⟩;clear F8 hHeld HX7 hth HKp;refine wpAnyH_done (by kernel_rfl) ?_ _;go_wp2
     go_roundw
     case rel=>exact⟨k+1,A++ [[.int .i64 p.kind,.string nm,.slice so n0 sc,.int .i64 (V.against p.dir),.bool e1,.bool e2,.slice f1 m1 d1,.slice f2 m2 d2,.slice f3 m3 d3,.int .i64 ec,.bool a1,.bool a2,.slice b1 n1 j1,.slice b2 n2 j2,.slice b3 n3 j3,.int .i64 ac]],by omega,by go_num,by simp[hA],by rw[<- hB];exact HX8.out.1,HPn.out,HX8.out.2⟩
     case measure=>simp[RowKit.intOf];omega
    ·have e:V.turn p=p:=by unfold V.turn;rw[if_neg h4,if_neg h2]
     have HPn:Hid (V.PCs w (A++ [[.int .i64 p.kind,.string nm,.slice so n0 sc,.int .i64 p.dir,.bool a1,.bool a2,.slice b1 n1 j1,.slice b2 n2 j2,.slice b3 n3 j3,.int .i64 ac,.bool e1,.bool e2,.slice f1 m1 d1,.slice f2 m2 d2,.slice f3 m3 d3,.int .i64 ec]]) ((l.take (k+1)).map V.turn)):=by
      show V.PCs w (A++ [[.int .i64 p.kind,.string nm,.slice so n0 sc,.int .i64 p.dir,.bool a1,.bool a2,.slice b1 n1 j1,.slice b2 n2 j2,.slice b3 n3 j3,.int .i64 ac,.bool e1,.bool e2,.slice f1 m1 d1,.slice f2 m2 d2,.slice f3 m3 d3,.int .i64 ec]]) ((l.take (k+1)).map V.turn);rw[HTk.out,e];refine HA2.out.snoc ⟨rfl,fun u hu=> ?_⟩ p0;simp only[List.mem_cons,List.not_mem_nil,or_false] at hu;rcases hu with rfl|rfl|rfl|rfl|rfl|rfl|rfl|rfl|rfl|rfl|rfl|rfl|rfl|rfl|rfl|rfl <;> rfl
     have HE:Hid (∀o,V.OutIs (wr.alloc o) g ((A++ [[.int .i64 p.kind,.string nm,.slice so n0 sc,.int .i64 p.dir,.bool a1,.bool a2,.slice b1 n1 j1,.slice b2 n2 j2,.slice b3 n3 j3,.int .i64 ac,.bool e1,.bool e2,.slice f1 m1 d1,.slice f2 m2 d2,.slice f3 m3 d3,.int .i64 ec]])++B)/\Bl w (wr.alloc o)):=fun o=>by
      refine⟨?_,HBW.out.alloc HBW.out.size o⟩;rw[List.append_assoc];exact HI1.out.other (Below.heap_alloc wr _ g hgl)
     clear HI1 p4 p2 p0 e zg zf HA2 HTk HBW
     as_aux_lemma =>
     go_wp2
     go_roundw
     case rel=>exact⟨k+1,A++ [[.int .i64 p.kind,.string nm,.slice so n0 sc,.int .i64 p.dir,.bool a1,.bool a2,.slice b1 n1 j1,.slice b2 n2 j2,.slice b3 n3 j3,.int .i64 ac,.bool e1,.bool e2,.slice f1 m1 d1,.slice f2 m2 d2,.slice f3 m3 d3,.int .i64 ec]],by omega,by go_num,by simp[hA],by rw[<- hB];exact(HE.out _).1,HPn.out,(HE.out _).2⟩
     case measure=>simp[RowKit.intOf];omega
  ·as_aux_lemma =>
   have hkl:l.take k=l:=List.take_of_length_le (by omega);have hdl:cs.drop k= []:=List.drop_eq_nil_of_le (by omega);rw[hkl,hdl,List.append_nil] at HI;have hkk:A.length=l.length:=by omega
   clear hkl hdl;go_wp2;go_ret;refine⟨_,rfl,?_,HI.out.2.2⟩;have h:=V.zqy (cap:=cap') (HI.out.2.1.below HI.out.2.2) fun j c q u h1 h2=>HI.out.1.cell h1 h2
   simpa using h
namespace V
abbrev PC:=ByteArray×Option Addr×Nat×Nat
def PRow (w:World) (g:Nat) (f:Nat->PC) (n:Nat):Prop :=
 ∃cur,w.heap[g]?=some (.cells cur 74)/\∀t,t<n->cur[t*2]?=some (.string (f t).1)/\cur[t*2+1]?=some (.slice (f t).2.1 (f t).2.2.1 (f t).2.2.2)
theorem PRow.at {w:World}{g:Nat}{f:Nat->PC}{n:Nat}(h:PRow w g f n){t:Nat}(ht:t<n):w.cell? ⟨g,t*2,none⟩=some (.string (f t).1)/\w.cell? ⟨g,t*2+1,none⟩=some (.slice (f t).2.1 (f t).2.2.1 (f t).2.2.2):=by
 obtain⟨cur,hg,hc⟩:=h;exact⟨K.zad hg (hc t ht).1,K.zad hg (hc t ht).2⟩
theorem PRow.free {w:World}{g:Nat}{f:Nat->PC}{n:Nat}(h:PRow w g f n)(i:Nat):w.frozen? ⟨g,i,none⟩=false:=by
 obtain⟨cur,hg,hc⟩:=h;exact frozen_of_row w g _ _ _ hg
theorem PRow.congr {w:World}{g:Nat}{f f':Nat->PC}{n:Nat}(h:PRow w g f n)(he:∀t,t<n->f' t=f t):PRow w g f' n:=by
 obtain⟨cur,hg,hc⟩:=h;exact⟨cur,hg,fun t ht=>by rw[he t ht];exact hc t ht⟩
theorem PRow.put {w:World}{g:Nat}{f:Nat->PC}{n:Nat}(h:PRow w g f n){i:Nat}(hi:i<n)(x:PC):PRow ((w.setCell ⟨g,i*2,none⟩ (.string x.1)).setCell ⟨g,i*2+1,none⟩ (.slice x.2.1 x.2.2.1 x.2.2.2)) g (fun t=>if t=i then x else f t) n:=by
 obtain⟨cur,hg,hc⟩:=h;have b1:=heap_setCell_same w g (i*2) _ _ (.string x.1) hg;have b2:=heap_setCell_same _ g (i*2+1) _ _ (.slice x.2.1 x.2.2.1 x.2.2.2) b1;have s0:=(qA.1 (hc i hi).1).1;have s1:=(qA.1 (hc i hi).2).1;refine⟨_,b2,fun t ht=> ?_⟩;simp only[Array.getElem?_setIfInBounds,Array.size_setIfInBounds]
 by_cases e:t=i
 ·subst e;simp[s0,s1]
 ·rw[if_neg e];rw[if_neg (by omega),if_neg (by omega),if_neg (by omega),if_neg (by omega)];exact hc t ht
theorem PRow.swap {w:World}{g:Nat}{f:Nat->PC}{n:Nat}(h:PRow w g f n){i j:Nat}(hi:i<n)(hj:j<n) :
  PRow ((((w.setCell ⟨g,i*2,none⟩ (.string (f j).1)).setCell ⟨g,i*2+1,none⟩ (.slice (f j).2.1 (f j).2.2.1 (f j).2.2.2)).setCell ⟨g,j*2,none⟩ (.string (f i).1)).setCell ⟨g,j*2+1,none⟩ (.slice (f i).2.1 (f i).2.2.1 (f i).2.2.2)) g (fun t=>if t=j then f i else if t=i then f j else f t) n:=(h.put hi (f j)).put hj (f i)
theorem PRow.drew {w:World}{g:Nat}{f:Nat->PC}{n:Nat}(h:PRow w g f n):PRow w.drew g f n:=h
def But (g:Nat) (w w':World):Prop:=Below g w w'/\(∀b,¬b=g->w'.heap[b]?=w.heap[b]?)/\w'.heap.size=w.heap.size
theorem But.set {g:Nat}{w w':World}(h:But g w w')(i:Nat)(v:Value):But g w (w'.setCell ⟨g,i,none⟩ v):=⟨h.1.setCell (p:=⟨g,i,none⟩) qN v,fun b hb=>(heap_setCell_other w' ⟨g,i,none⟩ b v hb).trans (h.2.1 b hb),by simp[h.2.2]⟩
theorem But.drew {g:Nat}{w w':World}(h:But g w w'):But g w w'.drew:=⟨h.1.drew,h.2⟩
end V
theorem zij (w:World)(g n cap:Nat)(f:Nat->V.PC)(h:V.PRow w g f n)(hn:0<n)(hl:n<=1000) :
  Calls prog 34 #[.slice (some ⟨g,0,none⟩) n cap] w fun e w'=>e=.returned (.tuple #[])/\V.PRow w' g (fun t=>f (n-1-t)) n/\V.But g w w':=by
 have H0:=qH h;clear h
 go_enter func34,ntmps34
 go_wp2
 go_loopw [2,3] (fun a b wr=>∃i j:Nat,a=.int .i64 i/\b=.int .i64 j/\i+j+1=n/\i<=j+1/\Hid (V.PRow wr g (fun t=>if t<i∨j<t then f (n-1-t) else f t) n/\V.But g w wr)) (fun a _ _=>n-(RowKit.intOf a).toNat)
 case atStart=>exact⟨0,n-1,rfl,by congr 1;omega,by omega,by omega,H0.out.congr fun t ht=>if_neg (by omega),qR _,fun b _=>rfl,rfl⟩
 case round =>
  obtain⟨i,j,rfl,rfl,hij,hle,HI⟩:=hrel
  by_cases hlt:i<j
  ·obtain⟨F,hF⟩:∃F:Nat->V.PC,F=fun t=>if t<i∨j<t then f (n-1-t) else f t:=⟨_,rfl⟩
   have hrow:=HI.out.1;rw[<- hF] at hrow;obtain⟨i0,i1⟩:=hrow.at (t:=i) (by omega);obtain⟨j0,j1⟩:=hrow.at (t:=j) (by omega);have fr:=fun k=>hrow.free k
   have HS:=hrow.swap (i:=i) (j:=j) (by omega) (by omega)
   have HN:Hid (∀t,t<n->(if t<i+1∨j-1<t then f (n-1-t) else f t)=(if t=j then F i else if t=i then F j else F t)):=fun t ht=>by
    have hv:∀x,F x=if x<i∨j<x then f (n-1-x) else f x:=fun x=>by rw[hF]
    by_cases e1:t=j
    ·rw[if_pos (by omega),if_pos e1,hv,if_neg (by omega)];congr 1;omega
    ·by_cases e2:t=i
     ·rw[if_pos (by omega),if_neg e1,if_pos e2,hv,if_neg (by omega)];congr 1;omega
     ·rw[if_neg e1,if_neg e2,hv]
      by_cases e3:t<i∨j<t
      ·rw[if_pos (by omega),if_pos e3]
      ·rw[if_neg (by omega),if_neg e3]
   have HB:=qH HI.out.2;generalize hfi:F i=fi at i0 i1 HS HN;generalize hfj:F j=fj at j0 j1 HS HN;obtain⟨a1,a2,a3,a4⟩:=fi;obtain⟨b1,b2,b3,b4⟩:=fj;simp only at i0 i1 j0 j1 HS HN;have HS2:=qH HS;have hbl:=L.block_lt i0;clear HS hrow hF hfi hfj HI H0
   go_wp2_with fail
   go_region
   go_wp2
   go_roundw
   case rel=>exact⟨i+1,j-1,by go_num,by congr 1;omega,by omega,by omega,HS2.out.drew.congr HN.out,((((HB.out.set _ _).set _ _).set _ _).set _ _).drew⟩
   case measure=>simp[RowKit.intOf];omega
  ·clear H0;go_wp2
   go_end0
   exact⟨rfl,HI.out.1.congr fun t ht=>by
    by_cases e:t<i∨j<t
    ·rw[if_pos e]
    ·rw[if_neg e];congr 1;omega,HI.out.2⟩
theorem zik (w:World)(ao:Option Addr)(cap:Nat) :
  Calls prog 34 #[.slice ao 0 cap] w fun e w'=>e=.returned (.tuple #[])/\w'=w:=by
 go_enter func34,ntmps34
 go_wp2
 go_loopw [2,3] (fun a b wr=>a=.int .i64 0/\b=.int .i64 (-1)/\wr=w) (fun a _ _=>0)
 case atStart=>exact⟨rfl,rfl,rfl⟩
 case round =>
  obtain⟨rfl,rfl,rfl⟩:=hrel;go_wp2
  go_end0
  exact⟨rfl,rfl⟩
theorem zko (w:World)(ao:Option Addr)(cap:Nat) :
  Calls prog 59 #[.slice ao 0 cap] w fun e w'=>∃ao' cap',e=.returned (.slice ao' 0 cap')/\Bl w w':=by
 obtain⟨i0,hi,hz0,hz1,hz2⟩:=info_parts Tryz.vinfoPt;have q22:∀(w:World) (a:Option Addr) (n c n' c':Nat),(binOp .eql 34 (.slice a n c) (.slice none n' c')).run prog w=.ok (.bool a.isNone) w:=fun w a n c n' c'=>Lib.run_eql_slice_nil w _ _ a n c n' c' underlying34
 cases ao with
 | none =>
  go_enter func59,ntmps59
  go_wp2;go_ret
  exact⟨_,_,rfl,qR _⟩
 | some ad =>
  have OW:Hid ((w.alloc (.cells #[] 104)).ownsRow w.heap.size 104 16 (.slice (some ⟨w.heap.size,0,none⟩) 0 0) 0 []):=World.ownsRow_made w #[] 0 qN (Nat.zero_le _) (by simp)
  go_enter func59,ntmps59
  go_wp2_with (at_builtin;go_must (refine wpList_append_own _ rfl _ _ 34 rfl w.heap.size 104 i0 _ 16 232 underlying34 hi hz0 hz1 hz2 rfl (by decide) _ _ _ rfl OW.out ad 0 cap [] rfl rfl (fun j u hj=>by simp at hj) (fun u hu=>by simp at hu) (by unfold maxLen;omega) (by omega) (by simp) ?_;intro v' w3 hown' hgrow3 hnil3))
  go_ret;have hb:=((qR w).alloc qN (.cells #[] 104)).grown hgrow3 (by simp) (fun k hk=>(OW.out.lt k hk).1)
  rcases hown'.2 with ⟨h1,_⟩|⟨g,cap',cur,hv,_⟩
  ·exact⟨⟨none,0,by rw[h1];rfl⟩,hb⟩
  ·exact⟨⟨some ⟨g,0,none⟩,cap',by rw[hv];rfl⟩,hb⟩
theorem zj0 (w:World)(ao:Option Addr)(cap:Nat) :
  Calls prog 33 #[.slice ao 0 cap] w fun e w'=>∃ao' cap',e=.returned (.slice ao' 0 cap')/\Bl w w':=by
 have H:=zko w ao cap
 go_enter func33,ntmps33
 go_wp2_with fail
 refine H.mono ?_;rintro e w1 ⟨ao',cap',rfl,b1⟩;clear H;go_wp2
 go_loopw [10] (fun i wr=>i=.int .i64 0/\wr=w1) (fun i _=>0)
 case atStart=>exact⟨rfl,rfl⟩
 case round =>
  obtain⟨rfl,rfl⟩:=hrel;go_wp2;go_ret;exact⟨_,_,rfl,b1⟩
theorem zmq (w:World)(v:Value)(l:List R.Part)(R0:R.Pts w v l)(hl:l.length<=1000) :
  Calls prog 33 #[v] w fun e w'=>∃v',e=.returned v'/\R.Pts w' v' (l.map V.turn)/\Bl w w':=by
 cases l with
 | nil =>
  obtain⟨ao,cap,rfl,_⟩:=R0;exact(zj0 w ao cap).mono fun e w' ⟨ao',cap',h1,h2⟩=>⟨_,h1,⟨ao',cap',rfl,fun h=>absurd rfl h⟩,h2⟩
 | cons p l =>
  obtain⟨ao,cap,e,hc⟩:=R0;obtain⟨b,off,rfl,_⟩:=hc (by simp);subst e;exact zjz w b off cap (p::l) ⟨_,_,rfl,hc⟩ hl (by simp)
namespace V
theorem ztr {g:ByteArray->List S.Sp}(hg:∀s,S.Fit (g s)){p:R.Part}(h:R.partE p=0):PartOk g (turn p):=by
 by_cases h4:p.kind=4
 ·have e:turn p= { p with name:=opp p.name }:=by unfold turn;rw[if_pos h4]
  rw[e];exact⟨fun (k:p.kind=3)=>by omega,fun _=>zly _,fun (k:p.kind=2)=>by omega⟩
 ·by_cases h2:p.kind=2
  ·have e:turn p= { p with left:=p.right,dir:=against p.dir,right:=p.left }:=by unfold turn;rw[if_neg h4,if_pos h2]
   rw[e];rcases R.zcn h with ⟨k1,_⟩|⟨k1,_⟩|⟨k1,_⟩|⟨_,k2⟩
   ·omega
   ·omega
   ·omega
   obtain⟨_,hl,hr,_⟩:=R.zas k2;obtain⟨a1,a2,a3,_⟩:=R.zbx hl;obtain⟨b1,b2,b3,_⟩:=R.zbx hr;have r1:=zb4 b1;have r2:=zb4 b2;have r3:=zb4 b3
   exact⟨fun (k:p.kind=3)=>by omega,fun (k:p.kind=4)=>by omega,fun _ _=>⟨⟨r1,r2,r3⟩,zb4 a2,fun x hx=>by
    rcases hx with hx|hx|hx
    ·exact zg1 hg (r1.2 x hx)
    ·exact zg1 hg (r2.2 x hx)
    ·exact zg1 hg (r3.2 x hx)⟩⟩
  ·have e:turn p=p:=by unfold turn;rw[if_neg h4,if_neg h2]
   rw[e];exact zpo hg h
def PCells (f:Nat->PC) (ps:List Pass) (rvs:List Value):Prop:=∀(t:Nat) p rv,ps[t]?=some p->rvs[t]?=some rv->(f t).1=p.name/\rv=.slice (f t).2.1 (f t).2.2.1 (f t).2.2.2
theorem PS.prow {F:Nat}{tops:List Nat}{w:World}{g n cap:Nat}{ps:List Pass}{rvs:List Value}(h:PS F tops w (.slice (some ⟨g,0,none⟩) n cap) ps rvs):n=ps.length/\F<=g/\g<w.heap.size/\g∈tops/\∃f,PCells f ps rvs/\PRow w g f n:=by
 have hf:∀t:Nat,∃x:PC,∀(p:Pass) (rv:Value),ps[t]?=some p->rvs[t]?=some rv->x.1=p.name/\rv=.slice x.2.1 x.2.2.1 x.2.2.2:=fun t=>by
  cases hp:ps[t]? with
  | none=>exact⟨(⟨#[]⟩,none,0,0),fun p rv h=>by cases h⟩
  | some p =>
   cases hr:rvs[t]? with
   | none=>exact⟨(⟨#[]⟩,none,0,0),fun p rv _ h=>by cases h⟩
   | some rv =>
    obtain⟨⟨cs,own,_⟩,_⟩:=h.rows t p rv hp hr;rcases own.2 with ⟨e,_⟩|⟨g',cap',cur',e,_⟩
    ·exact⟨(p.name,none,0,0),fun p' rv' h1 h2=>by cases h1;cases h2;exact⟨rfl,e⟩⟩
    ·exact⟨(p.name,_,_,_),fun p' rv' h1 h2=>by cases h1;cases h2;exact⟨rfl,e⟩⟩
 obtain⟨f,hf⟩:=Classical.skolem.1 hf;have hlt:=h.own.lt g rfl;rcases h.own.2 with ⟨e,_⟩|⟨g',cap',cur,e,hB,hg,hle,hmax,hsz,htk⟩
 ·cases e
 ·obtain⟨e1,e2,e3⟩:=Value.slice.inj e;cases e1;subst e2;refine⟨rfl,hlt.1,hlt.2,h.top g (.inl rfl),f,hf,cur,hg,fun t ht=> ?_⟩;have hr:t<rvs.length:=by rw[h.len];exact ht
  obtain⟨a1,a2⟩:=zfo (ps:=ps) (rvs:=rvs) (j:=t) (p:=ps[t]) (rv:=rvs[t]) (by simp) (by simp);obtain⟨f1,f2⟩:=hf t ps[t] rvs[t] (by simp) (by simp);rw[<- htk,List.getElem?_take] at a1 a2;split at a1
  ·split at a2
   ·rw[<- f1] at a1;rw[f2] at a2;exact⟨by simpa using a1,by simpa using a2⟩
   ·cases a2
  ·cases a1
theorem PRow.other {w W:World}{g:Nat}{f:Nat->PC}{n:Nat}(h:PRow w g f n)(he:W.heap[g]?=w.heap[g]?):PRow W g f n:=by
 obtain⟨cur,hg,hc⟩:=h;exact⟨cur,he.trans hg,hc⟩
theorem doneB {F:Nat}{tops:List Nat}{w W:World}{vo:Value}{g n cap:Nat}{s:Script}{rvs:List Value}{f:Nat->PC}(hL:Leaf tops w fun W=>S.Rd W vo s.only)(hn:s.only.length<=17592186044160)(hP:PS F tops w (.slice (some ⟨g,0,none⟩) n cap) s.passes rvs)(hl:s.passes.length<=1000)(hr:∀p∈s.passes,p.rules.length<=1000)(hf:PCells f s.passes rvs)
  (hs:w.heap.size<=W.heap.size) (hk:∀b,b<w.heap.size->b∉tops->W.heap[b]?=w.heap[b]?) (hkr:∀b,F<=b->b<w.heap.size->¬b=g->W.heap[b]?=w.heap[b]?) (hrow:PRow W g (fun t=>f (n-1-t)) n) :
  ScIs W (.agg #[.bool s.has,vo,.slice (some ⟨g,0,none⟩) n cap]) ⟨s.has,s.only,s.passes.reverse⟩:=by
 have h1:S.Rd W vo s.only:=hL W hs hk;obtain⟨oo,oc,rfl⟩:=zcx h1;obtain⟨hnl,_,_,_,_⟩:=hP.prow;refine⟨oo,oc,some ⟨g,0,none⟩,cap,by rw[hnl];simp,h1,by show s.only.length<=_;omega,some ⟨g,0,none⟩,cap,rfl,by simp;omega,fun _=>⟨g,0,rfl,fun j p hj=> ?_⟩⟩;have hjn:j<s.passes.length:=by have:=(qL.1 hj).1;simpa using this
 have hp:s.passes[n-1-j]?=some p:=by
  rw[List.getElem?_reverse hjn] at hj;rw[hnl];exact hj
 have hlt:n-1-j<rvs.length:=by rw[hP.len];omega
 obtain⟨f1,f2⟩:=hf (n-1-j) p rvs[n-1-j] hp (by simp);obtain⟨hrw,hnm⟩:=hP.rows (n-1-j) p rvs[n-1-j] hp (by simp)
 have hrw2:=hrw.step hs hk (fun k hk=> .inl hk) fun k hk=>by
  have hm:rvs[n-1-j]∈rvs:=List.getElem_mem _;have h3:=hP.rvlt hm k hk;exact hkr k h3.1 h3.2 fun e=>hP.apart _ hm k hk (by rw[e];rfl)
 have hrus:=hrw2.rus (hr p (List.mem_of_getElem? hp));obtain⟨c1,c2⟩:=hrow.at (t:=j) (by omega);obtain⟨ro,rc,hrc⟩:=hrus.len;refine⟨by rw[f1] at c1;simpa using c1,hnm,ro,rc,?_,by rw[<- hrc];exact hrus⟩;rw[<- f2,hrc] at c2;simpa using c2
theorem zjc (w5:World)(a b:Nat)(v0 v1 v2 v3 v4:Value)(k:Nat)(ha:¬k=a)(hb:¬k=b):(((((w5.setCell ⟨a,0,none⟩ v0).setCell ⟨a,1,none⟩ v1).setCell ⟨a,2,none⟩ v2).setCell ⟨b,0,none⟩ v3).setCell ⟨b,1,none⟩ v4).heap[k]?=w5.heap[k]?:=by
 rw[heap_setCell_other _ ⟨b,1,none⟩ k _ hb,heap_setCell_other _ ⟨b,0,none⟩ k _ hb,heap_setCell_other _ ⟨a,2,none⟩ k _ ha,heap_setCell_other _ ⟨a,1,none⟩ k _ ha,heap_setCell_other _ ⟨a,0,none⟩ k _ ha]
theorem zd6 (w5:World)(a b:Nat)(v0 v1 v2 v3 v4:Value):(((((w5.setCell ⟨a,0,none⟩ v0).setCell ⟨a,1,none⟩ v1).setCell ⟨a,2,none⟩ v2).setCell ⟨b,0,none⟩ v3).setCell ⟨b,1,none⟩ v4).heap.size=w5.heap.size:=by simp
end V
theorem zuz (w:World)(v:Value)(l:List R.Part)(R0:R.Pts w v l)(hg:(V.varsF l).1.1=0) :
  Calls prog 13 #[v] w fun e w'=>∃v',e=.returned (.tuple #[v',.agg #[.int .i64 0,.int .i64 0]])/\V.Firm w.heap.size w' v' ⟨(V.scr (V.gOf (V.varsF l).2) (l.map V.turn)).has,(V.scr (V.gOf (V.varsF l).2) (l.map V.turn)).only,(V.scr (V.gOf (V.varsF l).2) (l.map V.turn)).passes.reverse⟩/\Bl w w':=by
 obtain⟨hlen,hE⟩:=V.zhb hg;have HA:=qH<|fun o1 o2=>((qR w).alloc qN o1).alloc (by simp) o2
 have HC:Hid (∀o1 o2,Calls prog 31 #[v] ((w.alloc o1).alloc o2) fun e w'=>(∃B,e=.returned (.tuple #[.map (some B),.agg #[.int .i64 0,.int .i64 0]])/\V.VarsIs w' B (V.varsF l).2)/\Below ((w.alloc o1).alloc o2).heap.size ((w.alloc o1).alloc o2) w'):=fun o1 o2 =>
  (zbr _ _ l (R0.below (HA.out _ _))).mono fun e w' ⟨h1,h2⟩=>⟨h1.elim (fun h=>h.2) fun h=>absurd hg h.1,h2⟩
 have HR:=qH R0;obtain⟨ao,cap,rfl⟩:=R0.len;obtain⟨kn,hk⟩:∃o,(V.varsF l).2=o:=⟨_,rfl⟩;rw[hk] at HC ⊢;have HE:=qH hE;obtain⟨s,hs⟩:∃s,V.scr (V.gOf kn) (l.map V.turn)=s:=⟨_,rfl⟩
 have HSm:Hid (s.passes.length<=1000/\∀p∈s.passes,p.rules.length<=1000):=by
  have h:=V.zdu (V.gOf kn) (l.map V.turn) (l.map V.turn).length qN;rw[List.take_length,hs] at h;simp only[List.length_map] at h;exact⟨by have:=h.1;omega,fun p hp=>by have:=h.2 p hp;omega⟩
 rw[hs];have HSE:=qH hs;clear hk R0 hg hE hs
 go_enter func13,ntmps13
 go_wp2_with fail
 refine(HC.out _ _).mono ?_;rintro e w1 ⟨⟨B,rfl,n,f,hM,hT⟩,b1⟩;obtain⟨h1,h2,B1,s1⟩:=K.za3 b1;obtain⟨w2,hw2⟩:=qE (w1.alloc (.cells #[.int .i64 0,.int .i64 0] 36));have bb:Bl w1 w2:=by rw[hw2];exact(qR w1).alloc qN _
 have hB2:=B1.trans (bb.mono (by omega));have hs2:w.heap.size+2<w2.heap.size:=by rw[hw2];simp;omega
 have x2:=(bb.block _ (by omega)).trans h1;have y2:=(bb.block _ (by omega)).trans h2;have HX:Hid (w2.heap[w.heap.size]?=some (.cells #[.bool false,.slice none 0 0,.slice none 0 0] 30)/\w2.heap[w.heap.size+1]?=some (.cells #[.int .i64 0,.int .i64 0] 36)):=⟨x2,y2⟩;have hT2:=hT.below bb qN;have HT2:=qH hT2;have HM2:=qH<|hM.below bb hM.lt;have hgf:∀s,S.Fit (V.gOf kn s):=fun s=>(hT s).2.2.2
 have HGF:=qH hgf
 have HTu:Hid (Calls prog 33 #[.slice ao l.length cap] (w1.alloc (.cells #[.int .i64 0,.int .i64 0] 36)) fun e w'=>∃v',e=.returned v'/\R.Pts w' v' (l.map V.turn)/\Bl w2 w'):=by
  rw[<- hw2];exact zmq w2 _ l (HR.out.below hB2) (by omega)
 have HB2:=qH hB2;clear hM hT b1 h1 h2 B1 bb hB2 x2 y2 hT2 hgf HC HR HA hw2
 go_wp2_with fail
 refine HTu.out.mono ?_;rintro e w2' ⟨v',rfl,hv',b2'⟩
 have HS:Hid (Calls prog 32 #[v',.map (some B)] w2' fun e w'=>∃tops vo vp rvs,e=.returned (.agg #[.bool (V.scr (V.gOf kn) (l.map V.turn)).has,vo,vp])/\V.Leaf tops w' (fun W=>S.Rd W vo (V.scr (V.gOf kn) (l.map V.turn)).only)/\(V.scr (V.gOf kn) (l.map V.turn)).only.length<=17592186044160/\V.PS (w2'.heap.size+2) tops w' vp (V.scr (V.gOf kn) (l.map V.turn)).passes rvs/\((V.scr (V.gOf kn) (l.map V.turn)).passes= []->vp=.slice none 0 0)/\(∀q,q<=w2'.heap.size->q∈tops)/\Bl w2' w') :=
  zgk w2' _ (l.map V.turn) hv' (by simp;omega) B n f (V.gOf kn) (HM2.out.below b2' HM2.out.lt) (fun s=>⟨((HT2.out.below b2' qN) s).2.1,by have:=(HT2.out s).2.2.1;unfold V.gOf;omega⟩) (fun p hp=>by obtain⟨q,hq,rfl⟩:=List.mem_map.1 hp;exact V.ztr HGF.out (HE.out q hq)) (fun k hk=>V.zdu _ (l.map V.turn) k hk)
 rw[HSE.out] at HS;have hb2s:=b2'.size;have HX2:Hid (w2'.heap[w.heap.size]?=some (.cells #[.bool false,.slice none 0 0,.slice none 0 0] 30)/\w2'.heap[w.heap.size+1]?=some (.cells #[.int .i64 0,.int .i64 0] 36)):=⟨(b2'.block _ (by omega)).trans HX.out.1,(b2'.block _ (by omega)).trans HX.out.2⟩;have HB2':=qH<|HB2.out.trans (b2'.mono (by omega));obtain⟨tao,tcap,rfl⟩:=hv'.len;rw[List.length_map] at HS;clear hv' b2' HE HM2 HT2 HGF HTu HX HB2 HSE
 go_wp2_with fail
 refine HS.out.mono ?_;rintro e w3 ⟨tops,vo,vp,rvs,rfl,hL,hfew,hPS,hnil,hall,b3⟩;have hs3:=b3.size;have x3:=(b3.block _ (by omega)).trans HX2.out.1;have y3:=(b3.block _ (by omega)).trans HX2.out.2;have HB3:=qH<|HB2'.out.trans (b3.mono (by omega));have HAll:=qH hall;obtain⟨oo,oc,hvo⟩:=V.zcx hL.here;subst hvo;have HL:=qH hL;have HP:=qH hPS
 by_cases h0:s.passes= []
 ·have:=hnil h0;subst this
  have HD:Hid (∀(W:World),w3.heap.size<=W.heap.size->(∀b,b<w3.heap.size->b∉tops->W.heap[b]?=w3.heap[b]?)->V.ScIs W (.agg #[.bool s.has,.slice oo s.only.length oc,.slice none 0 0]) ⟨s.has,s.only,s.passes.reverse⟩):=fun W h1 h2=>by
   rw[h0];exact⟨oo,oc,none,0,rfl,HL.out W h1 h2,by show s.only.length<=_;omega,V.Pas.nil W⟩
  obtain⟨w4,hw4⟩:=qE (w3.alloc (.cells #[.bool s.has,.slice oo s.only.length oc,.slice none 0 0] 30));have hbx:w4.heap[w3.heap.size]?=some (.cells #[.bool s.has,.slice oo s.only.length oc,.slice none 0 0] 30):=by rw[hw4];exact heap_alloc_new w3 _
  have hb4:Bl w3 w4:=by rw[hw4];exact(qR w3).alloc qN _
  have x4:=(hb4.block _ (by omega)).trans x3;have y4:=(hb4.block _ (by omega)).trans y3;obtain⟨r0,r1,r2,f0,f1,f2⟩:=V.box3 x4;obtain⟨u0,u1,g0,g1⟩:=V.box2 y4;obtain⟨q0,q1,q2,_,_,_⟩:=V.box3 hbx;have l3:=L.block_lt r0;have l4:=L.block_lt u0;have l5:=L.block_lt q0
  have HE5:Hid (∀v0 v1 v2 v3 v4,V.Firm w.heap.size (((((w4.setCell ⟨w.heap.size,0,none⟩ v0).setCell ⟨w.heap.size,1,none⟩ v1).setCell ⟨w.heap.size,2,none⟩ v2).setCell ⟨w.heap.size+1,0,none⟩ v3).setCell ⟨w.heap.size+1,1,none⟩ v4) (.agg #[.bool s.has,.slice oo s.only.length oc,.slice none 0 0]) ⟨s.has,s.only,s.passes.reverse⟩):=fun v0 v1 v2 v3 v4 =>
   fun W hs hW=>HD.out W (by rw[V.zd6] at hs;exact Nat.le_trans hb4.size hs) fun b hb hn=>(hW b (Classical.byContradiction fun h=>hn (HAll.out b (by omega))) (by rw[V.zd6];exact Nat.lt_of_lt_of_le hb hb4.size)).trans ((V.zjc w4 _ _ _ _ _ _ _ b (fun e=>hn (e▸HAll.out _ (by omega))) (fun e=>hn (e▸HAll.out _ (by omega)))).trans (hb4.block b hb))
  have HB4:=qH<|HB3.out.trans (hb4.mono (by omega));have HRv:=qH<|zik w4 none 0;clear hL hfew hPS hall b3 x3 y3 HX2 HS HSm HB2' hb4 HD HL HP HB3 x4 y4 hbx hnil HAll h0
  go_wp2_with fail
  rw[<- hw4];refine HRv.out.mono ?_;rintro e w5 ⟨rfl,rfl⟩;clear hw4 HRv;go_wp2;refine bodyPost_ret (v:=.tuple #[.agg #[.bool s.has,.slice oo s.only.length oc,.slice none 0 0],.agg #[.int .i64 0,.int .i64 0]]) (by simp[results,results13,go_sem, *]) rfl ?_;exact⟨_,rfl,HE5.out _ _ _ _ _,V.five HB4.out qN (by omega) _ _ _ _ _⟩
 ·obtain⟨g,cap',hvp⟩:∃g cap',vp=.slice (some ⟨g,0,none⟩) s.passes.length cap':=by
   rcases hPS.own.2 with ⟨_,h1⟩|⟨g,cap',cur,e,_⟩
   ·exact absurd (List.length_eq_zero_iff.1 h1) h0
   ·exact⟨g,cap',e⟩
  subst hvp;obtain⟨-,hFg,hgl,hgt,pf,hpf,hrow⟩:=hPS.prow;obtain⟨w4,hw4⟩:=qE (w3.alloc (.cells #[.bool s.has,.slice oo s.only.length oc,.slice (some ⟨g,0,none⟩) s.passes.length cap'] 30));have hbx:w4.heap[w3.heap.size]?=some (.cells #[.bool s.has,.slice oo s.only.length oc,.slice (some ⟨g,0,none⟩) s.passes.length cap'] 30):=by rw[hw4];exact heap_alloc_new w3 _
  have hb4:Bl w3 w4:=by rw[hw4];exact(qR w3).alloc qN _
  have HRv:=qH<|zij w4 g _ cap' pf (hrow.other (hb4.block g hgl)) (List.length_pos_iff.2 h0) HSm.out.1;obtain⟨q0,q1,q2,_,_,_⟩:=V.box3 hbx;have HG:Hid (V.PCells pf s.passes rvs/\w2'.heap.size+2<=g/\g<w3.heap.size/\g∈tops/\Bl w3 w4/\w4.heap[w3.heap.size]?=some (.cells #[.bool s.has,.slice oo s.only.length oc,.slice (some ⟨g,0,none⟩) s.passes.length cap'] 30)):=⟨hpf,hFg,hgl,hgt,hb4,hbx⟩;have HXY:Hid (w3.heap[w.heap.size]?=some (.cells #[.bool false,.slice none 0 0,.slice none 0 0] 30)/\w3.heap[w.heap.size+1]?=some (.cells #[.int .i64 0,.int .i64 0] 36)):=⟨x3,y3⟩;have l5:=L.block_lt q0;clear hL hPS hall b3 x3 y3 HX2 HS HB2' hrow hpf hb4 hbx hnil h0
  go_wp2_with fail
  rw[<- hw4];refine HRv.out.mono ?_;rintro e w5 ⟨rfl,hrow5,hbut⟩;obtain⟨hpf,hFg,hgl,hgt,hb4,hbx⟩:=HG.out;have x5:=(hbut.2.1 _ (by omega)).trans ((hb4.block _ (by omega)).trans HXY.out.1);have y5:=(hbut.2.1 _ (by omega)).trans ((hb4.block _ (by omega)).trans HXY.out.2);have z5:=(hbut.2.1 _ (by omega)).trans hbx;obtain⟨r0,r1,r2,f0,f1,f2⟩:=V.box3 x5;obtain⟨u0,u1,g0,g1⟩:=V.box2 y5;obtain⟨p0,p1,p2,_,_,_⟩:=V.box3 z5;have l3:=L.block_lt r0;have l4:=L.block_lt u0;have l6:=L.block_lt p0
  have HE5:Hid (∀v0 v1 v2 v3 v4,V.Firm w.heap.size (((((w5.setCell ⟨w.heap.size,0,none⟩ v0).setCell ⟨w.heap.size,1,none⟩ v1).setCell ⟨w.heap.size,2,none⟩ v2).setCell ⟨w.heap.size+1,0,none⟩ v3).setCell ⟨w.heap.size+1,1,none⟩ v4) (.agg #[.bool s.has,.slice oo s.only.length oc,.slice (some ⟨g,0,none⟩) s.passes.length cap']) ⟨s.has,s.only,s.passes.reverse⟩):=fun v0 v1 v2 v3 v4=>by
   have h4:=hb4.size;have h5:=hbut.2.2;intro W hs hW;rw[V.zd6] at hs;have hWe:=fun b h1 h2 h3 h4=>(hW b h1 (by rw[V.zd6];exact h2)).trans (V.zjc w5 _ _ _ _ _ _ _ b h3 h4)
   refine V.doneB HL.out hfew HP.out HSm.out.1 HSm.out.2 hpf (by omega) (fun b hb hn=> ?_) (fun b hF hb hn=> ?_) (hrow5.other (hWe g (by omega) (by omega) (by omega) (by omega)))
   ·have hbF:w2'.heap.size<b:=Classical.byContradiction fun h=>hn (HAll.out b (by omega))
    exact(hWe b (by omega) (by omega) (by omega) (by omega)).trans ((hbut.2.1 b fun e=>hn (e▸hgt)).trans (hb4.block b hb))
   ·exact(hWe b (by omega) (by omega) (by omega) (by omega)).trans ((hbut.2.1 b hn).trans (hb4.block b hb))
  have HB5:Hid (Bl w w5):=by
   have h5:Below w.heap.size w4 w5:=hbut.1.mono (by omega);exact(HB3.out.trans (hb4.mono (by omega))).trans h5
  clear hrow5 hbut hpf hFg hgl hgt hb4 hbx x5 y5 z5 HG HXY HL HP HSm HAll HB3 q0 q1 q2 l5 hw4 HRv;go_wp2;refine bodyPost_ret (v:=.tuple #[.agg #[.bool s.has,.slice oo s.only.length oc,.slice (some ⟨g,0,none⟩) s.passes.length cap'],.agg #[.int .i64 0,.int .i64 0]]) (by simp[results,results13,go_sem, *]) rfl ?_;exact⟨_,rfl,HE5.out _ _ _ _ _,V.five HB5.out qN (by omega) _ _ _ _ _⟩
theorem zq2 (w:World)(v:Value)(l:List R.Part)(R0:R.Pts w v l) :
  Calls prog 13 #[v] w fun e w'=>∃v',e=.returned (.tuple #[v',.agg #[.int .i64 (V.backF l).2.1,.int .i64 ((V.backF l).2.2:Nat)]])/\V.Firm w.heap.size w' v' (V.backF l).1/\Bl w w':=by
 unfold V.backF
 by_cases hg:(V.varsF l).1.1=0
 ·rw[if_pos hg];exact zuz w v l R0 hg
 ·rw[if_neg hg];exact(ztb w v l R0 hg).mono fun e w' ⟨h1,h2⟩=>⟨_,h1,fun W _ _=>⟨none,0,none,0,rfl,S.Rd.nil _,by simp,V.Pas.nil _⟩,h2⟩
namespace Sh
theorem zsw {g:ByteArray->List S.Sp}{l:List R.Part}(h:∀p∈l,p.kind=3->S.Fit p.set):∀(s:V.Script),S.Fit s.only->S.Fit (l.foldl (V.scrStep g) s).only:=by
 induction l with
 | nil=>intro s hs;exact hs
 | cons p l ih =>
  intro s hs;rw[List.foldl_cons];refine ih (fun q hq=>h q (List.mem_cons_of_mem _ hq)) _ ?_;unfold V.scrStep;split
  ·rename_i h3
   exact h p List.mem_cons_self h3
  ·split
   ·exact hs
   ·split
    ·split
     ·exact hs
     ·exact hs
    ·exact hs
theorem zta (l:List R.Part):S.Fit (V.backF l).1.only:=by
 unfold V.backF
 by_cases hg:(V.varsF l).1.1=0
 ·rw[if_pos hg];refine zsw (fun p hp h3=> ?_) _ (fun x hx=>by cases hx);obtain⟨q,hq,rfl⟩:=List.mem_map.1 hp;have hE:=(V.zhb hg).2 q hq;unfold V.turn at h3 ⊢
  by_cases h4:q.kind=4
  ·rw[if_pos h4] at h3;exact absurd h3 (by show ¬q.kind=3;omega)
  ·rw[if_neg h4] at h3 ⊢
   by_cases h2:q.kind=2
   ·rw[if_pos h2] at h3;exact absurd h3 (by show ¬q.kind=3;omega)
   ·rw[if_neg h2] at h3 ⊢;rcases R.zcn hE with ⟨h1,_⟩|⟨_,h⟩|⟨h1,_⟩|⟨h1,_⟩
    ·omega
    ·exact V.zk0 h
    ·omega
    ·omega
 ·rw[if_neg hg];exact fun x hx=>by cases hx
end Sh
theorem zmu (w:World):Calls prog 25 #[.bool true] w fun e w'=>e=.returned (.func (.func 13) #[] #[])/\w'=w:=by
 go_enter func25,ntmps25
 go_wp2;go_ret
 exact⟨rfl,rfl⟩
theorem zhj (hK:T.ClassOk)(name t:ByteArray)(l:List R.Part)(q:Nat)(sc:V.Script)(ht:Sh.textF name=(t,0))(hsz:t.size<=1099511627776)(hr:R.read (M.rn t)=.ok l q)(hf:V.backF l=(sc,0,0))(w:World) :
  Calls prog 9 #[.string name,.bool true] w fun e w'=>∃v',e=.returned (.tuple #[v',.int .i64 0])/\V.ScIs w' v' sc/\Bl w w':=by
 obtain⟨X,hX⟩:=qE (w.alloc (.cells #[.bool false,.slice none 0 0,.slice none 0 0] 30));have k1:=K.zau (w:=w) (qR (w.alloc (.cells #[.bool false,.slice none 0 0,.slice none 0 0] 30)));rw[<- hX] at k1;have HX:=qH k1
 have HT:Hid (Calls prog 5 #[.string name] X fun e w'=>e=.returned (.tuple #[.string t,.int .i64 0])/\Bl X w'):=by
  have h:=zgi name X;rw[ht] at h;exact h
 have HR:Hid (∀Y,Calls prog 11 #[.string t] Y fun e w'=>∃v,e=.returned (.tuple #[v,.agg #[.int .i64 0,.int .i64 0]])/\R.Pts w' v l/\Bl Y w'):=fun Y=>by
  have h:=zih hK t hsz Y;rw[hr] at h;exact h.mono fun e w' ⟨v,h1,h2,_,h4⟩=>⟨v,h1,(R.RowP.pts h2).here,h4⟩
 have HF:Hid (∀Y v,R.Pts Y v l->Calls prog 13 #[v] Y fun e w'=>∃v',e=.returned (.tuple #[v',.agg #[.int .i64 0,.int .i64 0]])/\V.Firm Y.heap.size w' v' sc/\Bl Y w'):=fun Y v hv=>by
  have h:=zq2 Y v l hv;rw[hf] at h;exact h
 clear k1 ht hr hf hsz
 go_enter func9,ntmps9
 go_wp2_with fail
 rw[<- hX];refine HT.out.mono ?_;clear hX HT;rintro e w1 ⟨rfl,b1⟩;have hb1:=K.zae HX.out.1 b1;have hB1:=HX.out.2.1.trans (b1.mono (by have:=HX.out.2.2;omega));have hR:=HR.out w1;clear b1 HR HX;have HB1:Hid (w1.heap[w.heap.size]?=some (.cells #[.bool false,.slice none 0 0,.slice none 0 0] 30)/\Bl w w1):=⟨hb1,hB1⟩;clear hb1 hB1
 go_wp2_with fail
 refine hR.mono ?_;clear hR;rintro e w2 ⟨v2,rfl,hp2,b2⟩;obtain⟨Y,hY⟩:=qE (w2.alloc (.cells #[.int .i64 0,.int .i64 0] 36));have k2:=K.zau (w:=w2) (qR (w2.alloc (.cells #[.int .i64 0,.int .i64 0] 36)));rw[<- hY] at k2;have hF:=HF.out Y v2 (hp2.below k2.2.1);have hb2:=K.zae (K.zae HB1.out.1 b2) k2.2.1;have hB2:=HB1.out.2.trans (b2.mono HB1.out.2.size);have HY:Hid (Y.heap[w.heap.size]?=some (.cells #[.bool false,.slice none 0 0,.slice none 0 0] 30)/\Bl w Y):=⟨hb2,hB2.trans (k2.2.1.mono hB2.size)⟩;obtain⟨la,lc,rfl⟩:∃a c,v2=.slice a l.length c:=by obtain⟨a,c,h⟩:=hp2.len;exact⟨a,c,h⟩
 clear hp2 b2 k2 HF hb2 hB2 HB1
 go_wp2_with fail
 rw[<- hY];refine(zmu Y).mono ?_;clear hY;rintro e w2' ⟨rfl,rfl⟩
 go_wp2_with fail
 refine hF.mono ?_;clear hF;rintro e w3 ⟨v3,rfl,hFm,b3⟩;have hb3:=K.zae HY.out.1 b3;have hB3:=HY.out.2.trans (b3.mono HY.out.2.size);have hl3:=lt_of_block hb3;obtain⟨oo,oc,po,pc,rfl,_⟩:=id hFm.here;obtain⟨r0,r1,r2,f0,f1,f2⟩:=V.box3 hb3;have HE:Hid (V.Firm w2'.heap.size w3 (.agg #[.bool sc.has,.slice oo sc.only.length oc,.slice po sc.passes.length pc]) sc/\Bl w w3/\w.heap.size<w2'.heap.size):=⟨hFm,hB3,lt_of_block HY.out.1⟩;clear hFm b3 hb3 hB3 HY;go_wp2;refine bodyPost_ret (v:=.tuple #[.agg #[.bool sc.has,.slice oo sc.only.length oc,.slice po sc.passes.length pc],.int .i64 0]) (by simp[results,results9,go_sem, *]) rfl ?_;refine⟨_,rfl,?_,?_⟩
 ·exact((((HE.out.1.store _ 0 _ HE.out.2.2).store _ 1 _ HE.out.2.2).store _ 2 _ HE.out.2.2).below (Cn.al _ _)).below (Cn.al _ _) |>.here
 ·exact((((HE.out.2.1.setCell (p:=⟨w.heap.size,0,none⟩) qN _).setCell (p:=⟨w.heap.size,1,none⟩) qN _).setCell (p:=⟨w.heap.size,2,none⟩) qN _).alloc (by simp;omega) _).alloc (by simp;omega) _
def Sh.ScrB (name:ByteArray) (sc:V.Script):Prop:=∃t l q,Sh.textF name=(t,0)/\t.size<=1099511627776/\R.read (M.rn t)=.ok l q/\V.backF l=(sc,0,0)
end
section
open Go.RowKit
theorem zmv (r:Int)(h1: -2147483648<=r)(h2:r<=2147483647)(w:World) :
  Calls prog 70 #[.int .i32 r] w fun e w'=>e=.returned (.int .i32 (Cn.up r))/\w'=w:=by
 obtain⟨o,HO⟩:∃o,Hid (Cn.up r=o):=⟨_,rfl⟩;rw[show Cn.up r=o from HO.out]
 go_enter func70,ntmps70
 go_wp2
 all_goals go_ret
 all_goals (refine⟨L.zdf ?_,rfl⟩;rw[<- HO.out];unfold Cn.up Cn.lessF;(try simp_all);(try omega))
 all_goals (try (repeat' split))
 all_goals omega
theorem zmw (r:Int)(h1: -2147483648<=r)(h2:r<=2147483647)(w:World) :
  Calls prog 71 #[.int .i32 r] w fun e w'=>e=.returned (.int .i32 (Cn.low r))/\w'=w:=by
 obtain⟨o,HO⟩:∃o,Hid (Cn.low r=o):=⟨_,rfl⟩;rw[show Cn.low r=o from HO.out]
 go_enter func71,ntmps71
 go_wp2
 all_goals go_ret
 all_goals (refine⟨L.zdf ?_,rfl⟩;rw[<- HO.out])
 all_goals (unfold Cn.low Cn.lessF;(try simp_all);(try omega))
 all_goals (try (repeat' split))
 all_goals omega
