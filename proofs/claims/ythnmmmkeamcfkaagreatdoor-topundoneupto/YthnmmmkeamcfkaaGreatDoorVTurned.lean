import Derived.Deep.MidRow
import Derived.Test.YthnmmmkeamcfkaaGreatDoorVForth
set_option maxHeartbeats 0
set_option maxRecDepth 20000
set_option linter.unusedSimpArgs false
set_option linter.unusedVariables false
namespace Go.Proofs.YthnmmmkeamcfkaaGreatDoor
open Go.Proofs.Tryz
section
open Go.RowKit Go.Lib
theorem Tryz.vinfoPt:(prog.info? 196).map (fun i=>(i.zero,i.size,i.bytes))=some (some (.agg #[.int .i64 0,.string ⟨#[]⟩,.slice none 0 0,.int .i64 0,.bool false,.bool false,.slice none 0 0,.slice none 0 0,.slice none 0 0,.int .i64 0,.bool false,.bool false,.slice none 0 0,.slice none 0 0,.slice none 0 0,.int .i64 0]),16,232):=by kernel_rfl
namespace V
theorem zmd {k:Nat}:∀ {cs:List (List Value)},(∀c∈cs,c.length=k)->∀ {j:Nat} {u:Value},cs.flatten[j]?=some u->∃i q c,cs[i]?=some c/\c[q]?=some u/\j=i*k+q
 | [],_,j,u,h=>by simp at h
 | c::cs,hc,j,u,h=>by
  have hl:=hc c (by simp);rw[List.flatten_cons] at h
  by_cases hj:j<c.length
  ·rw[List.getElem?_append_left hj] at h;exact⟨0,j,c,rfl,h,by simp⟩
  ·rw[List.getElem?_append_right (by omega)] at h;obtain⟨i,q,c',h1,h2,h3⟩:=zmd (fun c' hc'=>hc c' (by simp[hc'])) h;refine⟨i+1,q,c',by simpa using h1,h2,?_⟩;rw[Nat.succ_mul];omega
theorem zmc {k:Nat}:∀ {cs:List (List Value)},(∀c∈cs,c.length=k)->cs.flatten.length=cs.length*k
 | [],_=>by simp
 | c::cs,hc=>by
  rw[List.flatten_cons,List.length_append,hc c (by simp),zmc (fun c' hc'=>hc c' (by simp[hc'])),List.length_cons,Nat.succ_mul];omega
def PCs (w:World) (cs:List (List Value)) (l:List R.Part):Prop:=cs.length=l.length/\(∀c∈cs,c.length=16/\∀u∈c,u.oneCell'=true)/\∀(j:Nat) p c,l[j]?=some p->cs[j]?=some c->R.PtIs w (.agg c.toArray) p
theorem zqh {w:World}{b off cap:Nat}{l:List R.Part}(h:R.Pts w (.slice (some ⟨b,off,none⟩) l.length cap) l):∃cs,PCs w cs l/\∀(j:Nat) c q u,cs[j]?=some c->c[q]?=some u->w.cell? ⟨b,off+j*16+q,none⟩=some u:=by
 obtain⟨ao,cap',e,hc⟩:=h;obtain⟨rfl,-,rfl⟩:=Value.slice.inj e
 have H:∀j,∃c:List Value,∀p,l[j]?=some p->(c.length=16/\∀u∈c,u.oneCell'=true)/\R.PtIs w (.agg c.toArray) p/\∀q u,c[q]?=some u->w.cell? ⟨b,off+j*16+q,none⟩=some u:=by
  intro j;cases hj:l[j]? with
  | none=>exact⟨[],fun p h=>by cases h⟩
  | some p =>
   obtain⟨b',off',hao,hcell⟩:=hc (by intro h;subst h;simp at hj);cases hao;obtain⟨so,sc,lbo,lbc,lso,lsc,lao,lac,rbo,rbc,rso,rsc,rao,rac,c0,c1,c2,c3,c4,c5,c6,c7,c8,c9,c10,c11,c12,c13,c14,c15,hP⟩:=hcell j p hj;refine⟨[.int .i64 p.kind,.string p.name,.slice so p.set.length sc,.int .i64 p.dir,.bool p.left.start,.bool p.left.fin,.slice lbo p.left.before.length lbc,.slice lso p.left.source.length lsc,.slice lao p.left.after.length lac,.int .i64 p.left.cursor,.bool p.right.start,.bool p.right.fin,.slice rbo p.right.before.length rbc,.slice rso p.right.source.length rsc,.slice rao p.right.after.length rac,.int .i64 p.right.cursor],fun p' h=> ?_⟩;cases h;refine⟨⟨rfl,fun u hu=> ?_⟩,hP,fun q u hq=> ?_⟩
   ·simp only[List.mem_cons,List.not_mem_nil,or_false] at hu;rcases hu with rfl | rfl | rfl | rfl | rfl | rfl | rfl | rfl | rfl | rfl | rfl | rfl | rfl | rfl | rfl | rfl <;> rfl
   ·match q,hq with
    | 0,hq=>cases hq;exact c0
    | 1,hq=>cases hq;exact c1
    | 2,hq=>cases hq;exact c2
    | 3,hq=>cases hq;exact c3
    | 4,hq=>cases hq;exact c4
    | 5,hq=>cases hq;exact c5
    | 6,hq=>cases hq;exact c6
    | 7,hq=>cases hq;exact c7
    | 8,hq=>cases hq;exact c8
    | 9,hq=>cases hq;exact c9
    | 10,hq=>cases hq;exact c10
    | 11,hq=>cases hq;exact c11
    | 12,hq=>cases hq;exact c12
    | 13,hq=>cases hq;exact c13
    | 14,hq=>cases hq;exact c14
    | 15,hq=>cases hq;exact c15
    | n+16,hq=>simp at hq
 obtain⟨f,hf⟩:=Classical.skolem.1 H
 have hcs:∀(j:Nat) c,((List.range l.length).map f)[j]?=some c->∃p,l[j]?=some p/\c=f j:=fun j c h=>by
  have hlt:=(qL.1 h).1;simp at hlt;refine⟨l[j],by simp[hlt],?_⟩;simp[hlt] at h;exact h.symm
 refine⟨(List.range l.length).map f,⟨by simp,fun c hc=> ?_,fun j p c h1 h2=> ?_⟩,fun j c q u h1 h2=> ?_⟩
 ·obtain⟨j,hj⟩:=List.getElem?_of_mem hc;obtain⟨p,hp,rfl⟩:=hcs j c hj;exact(hf j p hp).1
 ·obtain⟨p',hp,rfl⟩:=hcs j c h2;exact(hf j p h1).2.1
 ·obtain⟨p',hp,rfl⟩:=hcs j c h1;exact(hf j p' hp).2.2 q u h2
theorem zr2 {w:World}{g cap:Nat}{l:List R.Part}{cs:List (List Value)}(h:PCs w cs l)(hc:∀(j:Nat) c q u,cs[j]?=some c->c[q]?=some u->w.cell? ⟨g,j*16+q,none⟩=some u):R.Pts w (.slice (some ⟨g,0,none⟩) l.length cap) l:=by
 refine⟨some ⟨g,0,none⟩,cap,rfl,fun _=>⟨g,0,rfl,fun j p hp=> ?_⟩⟩
 obtain⟨c,hcj⟩:∃c,cs[j]?=some c:=by
  have:j<cs.length:=by rw[h.1];exact(qL.1 hp).1
  exact⟨cs[j],by simp[this]⟩
 have hP:=h.2.2 j p c hp hcj;obtain⟨so,sc,lbo,lbc,lso,lsc,lao,lac,rbo,rbc,rso,rsc,rao,rac,he,_⟩:=hP.open
 have he2:c= [.int .i64 p.kind,.string p.name,.slice so p.set.length sc,.int .i64 p.dir,.bool p.left.start,.bool p.left.fin,.slice lbo p.left.before.length lbc,.slice lso p.left.source.length lsc,.slice lao p.left.after.length lac,.int .i64 p.left.cursor,.bool p.right.start,.bool p.right.fin,.slice rbo p.right.before.length rbc,.slice rso p.right.source.length rsc,.slice rao p.right.after.length rac,.int .i64 p.right.cursor]:=by
  simpa using congrArg Array.toList (Value.agg.inj he)
 subst he2
 have at':∀q u,([Value.int .i64 p.kind,.string p.name,.slice so p.set.length sc,.int .i64 p.dir,.bool p.left.start,.bool p.left.fin,.slice lbo p.left.before.length lbc,.slice lso p.left.source.length lsc,.slice lao p.left.after.length lac,.int .i64 p.left.cursor,.bool p.right.start,.bool p.right.fin,.slice rbo p.right.before.length rbc,.slice rso p.right.source.length rsc,.slice rao p.right.after.length rac,.int .i64 p.right.cursor]:List Value)[q]?=some u->w.cell? ⟨g,0+j*16+q,none⟩=some u:=fun q u hq=>by
  rw[Nat.zero_add];exact hc j _ q u hcj hq
 exact⟨so,sc,lbo,lbc,lso,lsc,lao,lac,rbo,rbc,rso,rsc,rao,rac,at' 0 _ rfl,at' 1 _ rfl,at' 2 _ rfl,at' 3 _ rfl,at' 4 _ rfl,at' 5 _ rfl,at' 6 _ rfl,at' 7 _ rfl,at' 8 _ rfl,at' 9 _ rfl,at' 10 _ rfl,at' 11 _ rfl,at' 12 _ rfl,at' 13 _ rfl,at' 14 _ rfl,at' 15 _ rfl,hP⟩
def OutIs (W:World) (g:Nat) (cs:List (List Value)):Prop:=(∀c∈cs,c.length=16)/\∃cur,W.heap[g]?=some (.cells cur 196)/\∀(j:Nat) c q u,cs[j]?=some c->c[q]?=some u->cur[j*16+q]?=some u
theorem OutIs.cell {W:World}{g:Nat}{cs:List (List Value)}(h:OutIs W g cs){j:Nat}{c:List Value}{q:Nat}{u:Value}(h1:cs[j]?=some c)(h2:c[q]?=some u):W.cell? ⟨g,j*16+q,none⟩=some u:=by
 obtain⟨_,cur,hg,hc⟩:=h;exact K.zad hg (hc j c q u h1 h2)
theorem OutIs.free {W:World}{g:Nat}{cs:List (List Value)}(h:OutIs W g cs)(i:Nat):W.frozen? ⟨g,i,none⟩=false:=by
 obtain⟨_,cur,hg,hc⟩:=h;exact frozen_of_row W g _ _ _ hg
theorem OutIs.other {W W':World}{g:Nat}{cs:List (List Value)}(h:OutIs W g cs)(he:W'.heap[g]?=W.heap[g]?):OutIs W' g cs:=by
 obtain⟨h0,cur,hg,hc⟩:=h;exact⟨h0,cur,he.trans hg,hc⟩
theorem OutIs.lt {W:World}{g:Nat}{cs:List (List Value)}(h:OutIs W g cs):g<W.heap.size:=by
 obtain⟨h0,cur,hg,hc⟩:=h;exact(qA.1 hg).1
theorem OutIs.set {W:World}{g k:Nat}{A B:List (List Value)}{c:List Value}(h:OutIs W g (A++c::B))(hA:A.length=k)(q:Nat)(hq:q<16)(v:Value):OutIs (W.setCell ⟨g,k*16+q,none⟩ v) g (A++c.set q v::B):=by
 obtain⟨h0,cur,hg,hc⟩:=h;have hcl:=h0 c (by simp);subst hA;refine⟨fun c' hc'=> ?_,_,heap_setCell_same W g _ _ _ v hg,fun j c' q' u h1 h2=> ?_⟩
 ·simp at hc';rcases hc' with h | rfl | h
  ·exact h0 c' (by simp[h])
  ·simp[hcl]
  ·exact h0 c' (by simp[h])
 ·have hold:(A++c::B)[A.length]?=some c:=by simp
  have hin:A.length*16+q<cur.size:=by
   have:=hc A.length c q (c[q]'(by omega)) hold (by simp[hcl,hq]);exact(qA.1 this).1
  rw[Array.getElem?_setIfInBounds]
  by_cases hj:j=A.length
  ·subst hj;rw[List.getElem?_append_right qN,Nat.sub_self] at h1;cases h1
   by_cases hqq:q=q'
   ·subst hqq;rw[if_pos rfl,if_pos hin];rw[List.getElem?_set_self (by omega)] at h2;exact h2
   ·rw[if_neg (by omega)];rw[List.getElem?_set_ne hqq] at h2;exact hc A.length c q' u hold h2
  ·have hold2:(A++c::B)[j]?=some c':=by
    by_cases hlt:j<A.length
    ·rw[List.getElem?_append_left hlt] at h1 ⊢;exact h1
    ·rw[List.getElem?_append_right (by omega)] at h1 ⊢;obtain⟨m,hm⟩:∃m,j - A.length=m+1:=⟨j - A.length - 1,by omega⟩;rw[hm] at h1 ⊢;simpa using h1
   have hl':=h0 c' (List.mem_of_getElem? hold2);have hq':q'<16:=by rw[<- hl'];exact(qL.1 h2).1
   rw[if_neg (by omega)];exact hc j c' q' u hold2 h2
end V
theorem znm (w:World)(b off cap:Nat)(l:List R.Part)(cs:List (List Value))(hP:V.PCs w cs l)(hc:∀(j:Nat) c q u,cs[j]?=some c->c[q]?=some u->w.cell? ⟨b,off+j*16+q,none⟩=some u)(hl:l.length<=1000)(h0:0<l.length) :
  Calls prog 127 #[.slice (some ⟨b,off,none⟩) l.length cap] w fun e w'=>∃g cap',e= .returned (.slice (some ⟨g,0,none⟩) l.length cap')/\w.heap.size<=g/\V.OutIs w' g cs/\Below w.heap.size w w':=by
 obtain⟨i0,hi,hz0,hz1,hz2⟩:=info_parts Tryz.vinfoPt;have q22:∀(w:World) (a:Option Addr) (n c n' c':Nat),(binOp .eql 72 (.slice a n c) (.slice none n' c')).run prog w= .ok (.bool a.isNone) w:=fun w a n c n' c'=>Lib.run_eql_slice_nil w _ _ a n c n' c' underlying72
 have h16:=fun c hc=>(hP.2.1 c hc).1
 have HC:Hid (∀j u,cs.flatten[j]?=some u->w.cell? ((⟨b,off,none⟩:Addr).add j)=some u):=by
  intro j u hj;obtain⟨i,q,c,h1,h2,rfl⟩:=V.zmd h16 hj;rw[L.addr_add,<- Nat.add_assoc];exact hc i c q u h1 h2
 have HO:Hid (∀u∈cs.flatten,u.oneCell'=true):=fun u hu=>by
  obtain⟨c,hc,hu⟩:=List.mem_flatten.1 hu;exact(hP.2.1 c hc).2 u hu
 have HF:Hid (cs.flatten.length=l.length*16):=by
  rw[<- hP.1];exact V.zmc h16
 have H16:=qH h16;have OW:Hid ((w.alloc (.cells #[] 196)).ownsRow w.heap.size 196 16 (.slice (some ⟨w.heap.size,0,none⟩) 0 0) 0 []):=World.ownsRow_made w #[] 0 qN (Nat.zero_le _) (by simp);clear hc hP h16
 go_enter func127,ntmps127
 go_wp2_with (at_builtin;go_must (refine wpList_append_own _ rfl _ _ 72 rfl w.heap.size 196 i0 _ 16 232 underlying72 hi hz0 hz1 hz2 rfl (by decide) _ _ _ rfl OW.out ⟨b,off,none⟩ l.length cap cs.flatten rfl HF.out (fun j u hj=>Lib.cell?_alloc_some _ (HC.out j u hj)) HO.out (by unfold maxLen;omega) (by omega) (by simp) ?_;intro v' w3 hown' hgrow3 hnil3))
 go_ret;rcases hown'.2 with ⟨_,h1⟩|⟨g,cap',cur,hv,hB,hg,hle,hmax,hsz,htk⟩
 ·omega
 ·refine⟨g,cap',by rw[hv];simp,hB,⟨H16.out,cur,hg,fun j c q u h1 h2=> ?_⟩,((qR w).alloc qN _).grown hgrow3 (by simp) (fun k hk=>(OW.out.lt k hk).1)⟩;have h3:=R.flat_get (k:=16) H16.out j q c u h1 h2;rw[<- (show cur.toList.take ((0+l.length)*16)=cs.flatten by simpa using htk)] at h3;rw[List.getElem?_take] at h3;split at h3
  ·simpa using h3
  ·cases h3
end
section
open Go.RowKit Go.Lib
theorem ziq (w:World)(s:ByteArray)(hs:s.size<=140737488355328):Calls prog 128 #[.string s] w fun e w'=>e= .returned (.string (V.opp s))/\w'=w:=by
 cases h1:(s.toList== [117,112,112,101,114]) with
 | true =>
  go_enter func128,ntmps128
  go_wp2;go_ret
  exact⟨by simp only[V.opp,h1,if_true];rfl,rfl⟩
 | false =>
  cases h2:(s.toList== [108,111,119,101,114]) with
  | true =>
   go_enter func128,ntmps128
   go_wp2;go_ret
   exact⟨by simp only[V.opp,h1,h2,if_true,Bool.false_eq_true,if_false];rfl,rfl⟩
  | false =>
   go_enter func128,ntmps128
   go_wp2;go_ret
   exact⟨by simp only[V.opp,h1,h2,Bool.false_eq_true,if_false];rfl,rfl⟩
theorem zll (w:World)(d:Int):Calls prog 129 #[.int .i64 d] w fun e w'=>e= .returned (.int .i64 (V.against d))/\w'=w:=by
 by_cases h1:d=1
 ·subst h1
  go_enter func129,ntmps129
  go_wp2;go_ret
  exact⟨by simp[V.against],rfl⟩
 ·by_cases h2:d=2
  ·subst h2
   go_enter func129,ntmps129
   go_wp2;go_ret
   exact⟨by simp[V.against],rfl⟩
  ·go_enter func129,ntmps129
   go_wp2;go_ret
   exact⟨by simp[V.against,h1,h2],rfl⟩
namespace V
theorem take {P:Program}{ops:Array Oper}{Q:Exit->Act->World->Prop}{md:Region.Mode}{S:World->Prop}(i d:Nat)(v:Value)(L':List Bool){oi:Oper}{fuel:Nat}{listed:Array Bool}{a:Act}{w:World}(hi:ops[i]?=some oi)(hd:oi.dst=some d)
  (hl:listed.setIfInBounds i true=L'.toArray) (hs:Region.noSelect ops=true) (hf:Region.free md ops listed i=true) (hr:(Region.ready md ops listed).contains i=true)
  (hQ:∀c a w,Q (.panic c) (a.put (some d) v) w->Q (.panic c) a w) (hy:YieldsIf P ops S oi v a) (hS:S w)
  (h:wpAnyH P md ops Q S fuel L'.toArray (a.put (some d) v) w):wpAnyH P md ops Q S (fuel+1) listed a w :=
 wpAnyH_take hi hs hf hr (by rw[hd];exact hQ) hy hS (by rw[hd,hl];exact h)
theorem stored {P:Program}{ops:Array Oper}{Q:Exit->Act->World->Prop}{md:Region.Mode}{S:World->Prop}(i:Nat)(L':List Bool)(ty:TypeId)(x y:Operand){oi:Oper}{fuel:Nat}{listed:Array Bool}{a:Act}{w:World}(hi:ops[i]?=some oi)(ho:oi.op= .store ty x y)(hgd:oi.guard=none)(hd:oi.dst=none)
  (hl:listed.setIfInBounds i true=L'.toArray) (hr:Region.ready md ops listed= [i]) (b o:Nat) (cells:List Value) (hx:a.eval x= .pointer (some ⟨b,o,none⟩)) (hy:a.eval y= .agg cells.toArray) (ht:w.there b o cells.length) (hinf:(P.info? ty).map (·.size)=some cells.length) (h1:cells.all (·.oneCell')=true)
  (hS:S (w.setCells b o cells)) (h:wpAnyH P md ops Q S fuel L'.toArray a (w.setCells b o cells)):wpAnyH P md ops Q S (fuel+1) listed a w :=
 wpAnyH_ready hr (by simp) (AllReadyH.cons hi (fun KK hK=>by
  have hw:Region.wanted oi (yielded ops a.tmps)=true:=by simp[Region.wanted,hgd]
  rw[if_pos hw];refine wp_store_mid ty x y ho b o cells.toArray hx hy (by simpa using ht) (by simpa using hinf) (by simpa using h1) ?_;rw[hd]
  exact hK.out _ _ (by simpa using hS) (fun _=>by rw[hl,show a.put none undef=a from rfl];simpa using h)) AllReadyH.nil)
theorem zee {P:Program}(w:World)(b o:Nat)(ty:TypeId)(u v:Value)(hc:w.cell? ⟨b,o,none⟩=some u)(hf:w.frozen? ⟨b,o,none⟩=false)(hi:(P.info? ty).map (·.size)=some 1)(h1:v.oneCell'=true) :
  (storeVar ty ⟨b,o,none⟩ v).run P w= .ok () (w.setCell ⟨b,o,none⟩ v):=by
 have hcs:v.cells=#[v]:=by cases v <;> first | rfl | cases h1
 cases hq:P.info? ty with
 | none=>simp[hq] at hi
 | some i =>
  have hs:i.size=1:=by simpa [hq] using hi
  have hz:(⟨b,o,none⟩:Addr).add 0=⟨b,o,none⟩:=Addr.add_mid b o 0;simp[storeVar,sizeOf,typeInfo,hq,hcs,hs,storeCells,run_store P w _ v _ h1,hz,hc,hf]
theorem stored1 {P:Program}{ops:Array Oper}{Q:Exit->Act->World->Prop}{md:Region.Mode}{S:World->Prop}(i:Nat)(L':List Bool)(ty:TypeId)(x y:Operand){oi:Oper}{fuel:Nat}{listed:Array Bool}{a:Act}{w:World}(hi:ops[i]?=some oi)(ho:oi.op= .store ty x y)(hgd:oi.guard=none)(hd:oi.dst=none)
  (hl:listed.setIfInBounds i true=L'.toArray) (hr:Region.ready md ops listed= [i]) (b o:Nat) (u v:Value) (hx:a.eval x= .pointer (some ⟨b,o,none⟩)) (hy:a.eval y=v) (hc:w.cell? ⟨b,o,none⟩=some u) (hf:w.frozen? ⟨b,o,none⟩=false) (hinf:(P.info? ty).map (·.size)=some 1) (h1:v.oneCell'=true)
  (hS:S (w.setCell ⟨b,o,none⟩ v)) (h:wpAnyH P md ops Q S fuel L'.toArray a (w.setCell ⟨b,o,none⟩ v)):wpAnyH P md ops Q S (fuel+1) listed a w :=
 wpAnyH_ready hr (by simp) (AllReadyH.cons hi (fun KK hK=>by
  have hw:Region.wanted oi (yielded ops a.tmps)=true:=by simp[Region.wanted,hgd]
  rw[if_pos hw];unfold Oper.wp execOp;simp only[ho,hx,hy,Instr.storeAt,Instr.sureAddr,Sem.run_bind,Sem.run_pure,Result.andThen_ok,zee w b o ty u v hc hf hinf h1];show KK (a.put oi.dst undef) _;rw[hd]
  exact hK.out _ _ hS (fun _=>by rw[hl,show a.put none undef=a from rfl];exact h)) AllReadyH.nil)
end V
end
section
open Go.RowKit Go.Lib
namespace V
theorem PCs.snoc {w:World}{A:List (List Value)}{l:List R.Part}{c:List Value}{p:R.Part}(h:PCs w A l)(hc:c.length=16/\∀u∈c,u.oneCell'=true)(hp:R.PtIs w (.agg c.toArray) p):PCs w (A++ [c]) (l++ [p]):=by
 refine⟨by simp[h.1],fun c' hc'=> ?_,fun j p' c' h1 h2=> ?_⟩
 ·rcases List.mem_append.1 hc' with h1 | h1
  ·exact h.2.1 c' h1
  ·rw[List.mem_singleton.1 h1];exact hc
 ·by_cases hj:j<l.length
  ·rw[List.getElem?_append_left hj] at h1;rw[List.getElem?_append_left (by rw[h.1];exact hj)] at h2;exact h.2.2 j p' c' h1 h2
  ·rw[List.getElem?_append_right (by omega)] at h1;rw[List.getElem?_append_right (by rw[h.1];omega),h.1] at h2
   have hj0:j - l.length=0:=by
    have:=(qL.1 h1).1;simp at this;omega
   rw[hj0] at h1 h2;cases h1;cases h2;exact hp
theorem PCs.below {w w':World}{A:List (List Value)}{l:List R.Part}(h:PCs w A l)(hb:Below w.heap.size w w'):PCs w' A l:=⟨h.1,h.2.1,fun j p c h1 h2=>(h.2.2 j p c h1 h2).keeps (R.Keeps.of_below hb qN)⟩
theorem zlk {d:Int}(h:R.I64 d):R.I64 (against d):=by
 unfold against;split
 ·exact⟨by decide,by decide⟩
 ·split
  ·exact⟨by decide,by decide⟩
  ·exact h
theorem zl7 (s:ByteArray):(opp s).size<=140737488355328:=by
 unfold opp;split
 ·decide
 ·split <;> decide
theorem OutIs.six {W:World}{g k:Nat}{A B:List (List Value)}{c:List Value}(h:OutIs W g (A++c::B))(hA:A.length=k)(q:Nat)(hq:q+5<16)(v0 v1 v2 v3 v4 v5:Value) :
  OutIs ((((((W.setCell ⟨g,k*16+q,none⟩ v0).setCell ⟨g,k*16+q+1,none⟩ v1).setCell ⟨g,k*16+q+2,none⟩ v2).setCell ⟨g,k*16+q+3,none⟩ v3).setCell ⟨g,k*16+q+4,none⟩ v4).setCell ⟨g,k*16+q+5,none⟩ v5) g (A++(((((c.set q v0).set (q+1) v1).set (q+2) v2).set (q+3) v3).set (q+4) v4).set (q+5) v5::B) /\
  (∀b,¬b=g->((((((W.setCell ⟨g,k*16+q,none⟩ v0).setCell ⟨g,k*16+q+1,none⟩ v1).setCell ⟨g,k*16+q+2,none⟩ v2).setCell ⟨g,k*16+q+3,none⟩ v3).setCell ⟨g,k*16+q+4,none⟩ v4).setCell ⟨g,k*16+q+5,none⟩ v5).heap[b]?=W.heap[b]?) /\
  ∀(w0:World) (F:Nat),Below F w0 W->F<=g->Below F w0 ((((((W.setCell ⟨g,k*16+q,none⟩ v0).setCell ⟨g,k*16+q+1,none⟩ v1).setCell ⟨g,k*16+q+2,none⟩ v2).setCell ⟨g,k*16+q+3,none⟩ v3).setCell ⟨g,k*16+q+4,none⟩ v4).setCell ⟨g,k*16+q+5,none⟩ v5):=by
 refine⟨?_,fun b hb=> ?_,fun w0 F hb hF=>(((((hb.setCell (p:=⟨g,k*16+q,none⟩) hF v0).setCell (p:=⟨g,k*16+q+1,none⟩) hF v1).setCell (p:=⟨g,k*16+q+2,none⟩) hF v2).setCell (p:=⟨g,k*16+q+3,none⟩) hF v3).setCell (p:=⟨g,k*16+q+4,none⟩) hF v4).setCell (p:=⟨g,k*16+q+5,none⟩) hF v5⟩
 ·have h0:=h.set hA q (by omega) v0;have h1:=h0.set hA (q+1) (by omega) v1;have h2:=h1.set hA (q+2) (by omega) v2;have h3:=h2.set hA (q+3) (by omega) v3;have h4:=h3.set hA (q+4) (by omega) v4;exact h4.set hA (q+5) (by omega) v5
 ·rw[heap_setCell_other _ ⟨g,k*16+q+5,none⟩ b _ hb,heap_setCell_other _ ⟨g,k*16+q+4,none⟩ b _ hb,heap_setCell_other _ ⟨g,k*16+q+3,none⟩ b _ hb,heap_setCell_other _ ⟨g,k*16+q+2,none⟩ b _ hb,heap_setCell_other _ ⟨g,k*16+q+1,none⟩ b _ hb,heap_setCell_other _ ⟨g,k*16+q,none⟩ b _ hb]
theorem OutIs.six4 {W:World}{g k:Nat}{A B:List (List Value)}{x0 x1 x2 x3 x4 x5 x6 x7 x8 x9 x10 x11 x12 x13 x14 x15:Value}(h:OutIs W g (A++ [x0,x1,x2,x3,x4,x5,x6,x7,x8,x9,x10,x11,x12,x13,x14,x15]::B))(hA:A.length=k)(v0 v1 v2 v3 v4 v5:Value):OutIs (W.setCells g (k*16+4) [v0,v1,v2,v3,v4,v5]) g (A++ [x0,x1,x2,x3,v0,v1,v2,v3,v4,v5,x10,x11,x12,x13,x14,x15]::B):=(h.six hA 4 (by decide) v0 v1 v2 v3 v4 v5).1
theorem OutIs.six10 {W:World}{g k:Nat}{A B:List (List Value)}{x0 x1 x2 x3 x4 x5 x6 x7 x8 x9 x10 x11 x12 x13 x14 x15:Value}(h:OutIs W g (A++ [x0,x1,x2,x3,x4,x5,x6,x7,x8,x9,x10,x11,x12,x13,x14,x15]::B))(hA:A.length=k)(v0 v1 v2 v3 v4 v5:Value):OutIs (W.setCells g (k*16+10) [v0,v1,v2,v3,v4,v5]) g (A++ [x0,x1,x2,x3,x4,x5,x6,x7,x8,x9,v0,v1,v2,v3,v4,v5]::B):=(h.six hA 10 (by decide) v0 v1 v2 v3 v4 v5).1
theorem OutIs.one1 {W:World}{g k:Nat}{A B:List (List Value)}{x0 x1 x2 x3 x4 x5 x6 x7 x8 x9 x10 x11 x12 x13 x14 x15:Value}(h:OutIs W g (A++ [x0,x1,x2,x3,x4,x5,x6,x7,x8,x9,x10,x11,x12,x13,x14,x15]::B))(hA:A.length=k)(v:Value):OutIs (W.setCell ⟨g,k*16+1,none⟩ v) g (A++ [x0,v,x2,x3,x4,x5,x6,x7,x8,x9,x10,x11,x12,x13,x14,x15]::B):=h.set hA 1 (by decide) v
theorem OutIs.one3 {W:World}{g k:Nat}{A B:List (List Value)}{x0 x1 x2 x3 x4 x5 x6 x7 x8 x9 x10 x11 x12 x13 x14 x15:Value}(h:OutIs W g (A++ [x0,x1,x2,x3,x4,x5,x6,x7,x8,x9,x10,x11,x12,x13,x14,x15]::B))(hA:A.length=k)(v:Value):OutIs (W.setCell ⟨g,k*16+3,none⟩ v) g (A++ [x0,x1,x2,v,x4,x5,x6,x7,x8,x9,x10,x11,x12,x13,x14,x15]::B):=h.set hA 3 (by decide) v
theorem OutIs.drew {W:World}{g:Nat}{cs:List (List Value)}(h:OutIs W g cs):OutIs W.drew g cs:=h.other rfl
theorem OutIs.there {W:World}{g k:Nat}{A B:List (List Value)}{c:List Value}(h:OutIs W g (A++c::B))(hA:A.length=k)(q:Nat)(hq:q+6<=16):W.there g (k*16+q) 6:=fun j hj=>by
 obtain⟨u,hu⟩:∃u,c[q+j]?=some u:=⟨c[q+j]'(by rw[h.1 c (by simp)];omega),by rw[List.getElem?_eq_getElem]⟩;have h1:=h.cell (j:=k) (q:=q+j) (by rw[<- hA];simp) hu;rw[<- Nat.add_assoc] at h1;exact⟨by rw[h1];rfl,h.free _⟩
theorem OutIs.get {W:World}{g k:Nat}{A B:List (List Value)}{c:List Value}(h:OutIs W g (A++c::B))(hA:A.length=k){q:Nat}{u:Value}(hq:c[q]?=some u):W.cell? ⟨g,k*16+q,none⟩=some u:=h.cell (by rw[<- hA];simp) hq
theorem letters {w:World}{c:List Value}{p:R.Part}(h:R.PtIs w (.agg c.toArray) p):∃nm so n0 sc a1 a2 b1 n1 j1 b2 n2 j2 b3 n3 j3 ac e1 e2 f1 m1 d1 f2 m2 d2 f3 m3 d3 ec,c= [.int .i64 p.kind,.string nm,.slice so n0 sc,.int .i64 p.dir,.bool a1,.bool a2,.slice b1 n1 j1,.slice b2 n2 j2,.slice b3 n3 j3,.int .i64 ac,.bool e1,.bool e2,.slice f1 m1 d1,.slice f2 m2 d2,.slice f3 m3 d3,.int .i64 ec]/\nm.size<=140737488355328/\R.PtIs w (.agg #[.int .i64 p.kind,.string (opp nm),.slice so n0 sc,.int .i64 p.dir,.bool a1,.bool a2,.slice b1 n1 j1,.slice b2 n2 j2,.slice b3 n3 j3,.int .i64 ac,.bool e1,.bool e2,.slice f1 m1 d1,.slice f2 m2 d2,.slice f3 m3 d3,.int .i64 ec]) { p with name:=opp p.name }/\R.PtIs w (.agg #[.int .i64 p.kind,.string nm,.slice so n0 sc,.int .i64 (against p.dir),.bool e1,.bool e2,.slice f1 m1 d1,.slice f2 m2 d2,.slice f3 m3 d3,.int .i64 ec,.bool a1,.bool a2,.slice b1 n1 j1,.slice b2 n2 j2,.slice b3 n3 j3,.int .i64 ac]) { p with left:=p.right,dir:=against p.dir,right:=p.left }/\R.PtIs w (.agg #[.int .i64 p.kind,.string nm,.slice so n0 sc,.int .i64 p.dir,.bool a1,.bool a2,.slice b1 n1 j1,.slice b2 n2 j2,.slice b3 n3 j3,.int .i64 ac,.bool e1,.bool e2,.slice f1 m1 d1,.slice f2 m2 d2,.slice f3 m3 d3,.int .i64 ec]) p:=by
 obtain⟨so,sc,lbo,lbc,lso,lsc,lao,lac,rbo,rbc,rso,rsc,rao,rac,he,m1,m2,m3,m4,m5,m6⟩:=h.open;have he2:=congrArg Array.toList (Value.agg.inj he);simp only[List.toList_toArray] at he2;rw[he] at h;refine⟨p.name,so,_,sc,p.left.start,p.left.fin,lbo,_,lbc,lso,_,lsc,lao,_,lac,p.left.cursor,p.right.start,p.right.fin,rbo,_,rbc,rso,_,rsc,rao,_,rac,p.right.cursor,he2,m5,?_,?_,h⟩
 ·exact⟨so,sc,_,_,_,_,_,_,_,_,_,_,_,_,rfl,m1,m2,m3,m4,V.zl7 p.name,m6⟩
 ·exact⟨so,sc,_,_,_,_,_,_,_,_,_,_,_,_,rfl,m1,m2,m4,m3,m5,V.zlk m6⟩
end V
theorem zjw (w:World)(b off cap:Nat)(l:List R.Part)(R0:R.Pts w (.slice (some ⟨b,off,none⟩) l.length cap) l)(hl:l.length<=1000)(h0:0<l.length) :
  Calls prog 79 #[.slice (some ⟨b,off,none⟩) l.length cap] w fun e w'=>∃v',e= .returned v'/\R.Pts w' v' (l.map V.turn)/\Below w.heap.size w w':=by
 obtain⟨cs,hP,hc⟩:=V.zqh R0;have HCl:=qH <| znm w b off cap l cs hP hc hl h0;have HP:=qH hP;have HC:=qH hc;have hcl:=hP.1;clear R0 hP hc
 go_enter func79,ntmps79
 go_wp2_with fail
 refine HCl.out.mono ?_;rintro e w1 ⟨g,cap',rfl,hg,o1,b1⟩;have HI:Hid (V.OutIs w1 g ([]++cs.drop 0)/\V.PCs w [] ((l.take 0).map V.turn)/\Below w.heap.size w w1):=⟨by simpa using o1,⟨rfl,fun c hc=>(by cases hc),fun j p c h=>by cases h⟩,b1⟩;clear o1 b1 HCl;go_wp2
 go_loopw [10] (fun i wr=>∃(k:Nat) (A:List (List Value)),k<=l.length/\i= .int .i64 k/\A.length=k/\Hid (V.OutIs wr g (A++cs.drop k)/\V.PCs w A ((l.take k).map V.turn)/\Below w.heap.size w wr)) (fun i _=>l.length - (RowKit.intOf i).toNat)
 case atStart=>exact⟨0,[],Nat.zero_le _,rfl,rfl,HI⟩
 case round =>
  clear HI;obtain⟨k,A,hk,rfl,hA,HI⟩:=hrel
  by_cases hlt:k<l.length
  ·obtain⟨p,hp⟩:∃x,l[k]?=some x:=⟨l[k],by simp[hlt]⟩;obtain⟨c,hck⟩:∃x,cs[k]?=some x:=⟨cs[k]'(by omega),by simp[hcl,hlt]⟩;have hPt:=HP.out.2.2 k p c hp hck;have hone:=HP.out.2.1 c (List.mem_of_getElem? hck);obtain⟨nm,so,n0,sc,a1,a2,b1,n1,j1,b2,n2,j2,b3,n3,j3,ac,e1,e2,f1,m1,d1,f2,m2,d2,f3,m3,d3,ec,rfl,m5,p4,p2,p0⟩:=V.letters hPt;obtain⟨B,hB⟩:∃B,B=cs.drop (k+1):=⟨_,rfl⟩
   have hdr:cs.drop k= [.int .i64 p.kind,.string nm,.slice so n0 sc,.int .i64 p.dir,.bool a1,.bool a2,.slice b1 n1 j1,.slice b2 n2 j2,.slice b3 n3 j3,.int .i64 ac,.bool e1,.bool e2,.slice f1 m1 d1,.slice f2 m2 d2,.slice f3 m3 d3,.int .i64 ec]::B:=by
    rw[hB,List.drop_eq_getElem_cons (by omega)];rw[List.getElem?_eq_getElem (by omega)] at hck;rw[Option.some.inj hck]
   have htk:(l.take (k+1)).map V.turn=(l.take k).map V.turn++ [V.turn p]:=by
    rw[List.take_add_one,hp];simp
   have s0:=fun q u hq=>by
    have h:=HC.out k _ q u hck hq;rw[<- HI.out.2.2.cell (p:=⟨b,off+k*16+q,none⟩) (L.block_lt h)] at h;exact h
   have c0:=s0 0 _ rfl;rw[Nat.add_zero] at c0;have c1:=s0 1 _ rfl;have c2:=s0 2 _ rfl;have c3:=s0 3 _ rfl;have c4:=s0 4 _ rfl;have c5:=s0 5 _ rfl;have c6:=s0 6 _ rfl;have c7:=s0 7 _ rfl;have c8:=s0 8 _ rfl;have c9:=s0 9 _ rfl;have c10:=s0 10 _ rfl;have c11:=s0 11 _ rfl;have c12:=s0 12 _ rfl;have c13:=s0 13 _ rfl;have c14:=s0 14 _ rfl;have c15:=s0 15 _ rfl
   have HI1:Hid (V.OutIs wr g (A++ [.int .i64 p.kind,.string nm,.slice so n0 sc,.int .i64 p.dir,.bool a1,.bool a2,.slice b1 n1 j1,.slice b2 n2 j2,.slice b3 n3 j3,.int .i64 ac,.bool e1,.bool e2,.slice f1 m1 d1,.slice f2 m2 d2,.slice f3 m3 d3,.int .i64 ec]::B)):=by
    have h:=HI.out.1;rw[hdr] at h;exact h
   have hgl:=HI1.out.lt;have HTk:=qH htk;have HBW:=qH HI.out.2.2;have HA2:=qH HI.out.2.1;clear hPt s0 hdr hone htk hck HI HC HP;have zg:∀o,∃u,(wr.alloc o).cell? ⟨g,k*16+1,none⟩=some u:=fun o=>⟨_,K.zai (HI1.out.get hA (q:=1) rfl) o⟩
   have zf:=fun o i=>(HI1.out.other (W':=wr.alloc o) (Below.heap_alloc wr o g HI1.out.lt)).free i
   by_cases h4:p.kind=4
   ·have HE:Hid (∀o,V.OutIs ((wr.setCell ⟨g,k*16+1,none⟩ (.string (V.opp nm))).alloc o) g ((A++ [[.int .i64 p.kind,.string (V.opp nm),.slice so n0 sc,.int .i64 p.dir,.bool a1,.bool a2,.slice b1 n1 j1,.slice b2 n2 j2,.slice b3 n3 j3,.int .i64 ac,.bool e1,.bool e2,.slice f1 m1 d1,.slice f2 m2 d2,.slice f3 m3 d3,.int .i64 ec]])++B)/\Below w.heap.size w ((wr.setCell ⟨g,k*16+1,none⟩ (.string (V.opp nm))).alloc o)):=fun o=>by
     have h:=HI1.out.one1 hA (.string (V.opp nm));refine⟨?_,(HBW.out.setCell (p:=⟨g,k*16+1,none⟩) hg _).alloc (by simpa using HBW.out.size) o⟩;rw[List.append_assoc];exact h.other (Below.heap_alloc _ _ g h.lt)
    have e:V.turn p= { p with name:=V.opp p.name }:=by unfold V.turn;rw[if_pos h4]
    have HPn:Hid (V.PCs w (A++ [[.int .i64 p.kind,.string (V.opp nm),.slice so n0 sc,.int .i64 p.dir,.bool a1,.bool a2,.slice b1 n1 j1,.slice b2 n2 j2,.slice b3 n3 j3,.int .i64 ac,.bool e1,.bool e2,.slice f1 m1 d1,.slice f2 m2 d2,.slice f3 m3 d3,.int .i64 ec]]) ((l.take (k+1)).map V.turn)):=by
     show V.PCs w (A++ [[.int .i64 p.kind,.string (V.opp nm),.slice so n0 sc,.int .i64 p.dir,.bool a1,.bool a2,.slice b1 n1 j1,.slice b2 n2 j2,.slice b3 n3 j3,.int .i64 ac,.bool e1,.bool e2,.slice f1 m1 d1,.slice f2 m2 d2,.slice f3 m3 d3,.int .i64 ec]]) ((l.take (k+1)).map V.turn);rw[HTk.out,e];refine HA2.out.snoc ⟨rfl,fun u hu=> ?_⟩ p4;simp only[List.mem_cons,List.not_mem_nil,or_false] at hu;rcases hu with rfl | rfl | rfl | rfl | rfl | rfl | rfl | rfl | rfl | rfl | rfl | rfl | rfl | rfl | rfl | rfl <;> rfl
    rw[h4] at c0;obtain⟨z,z1⟩:=zg (.cells #[.int .i64 4,.string nm,.slice so n0 sc,.int .i64 p.dir,.bool a1,.bool a2,.slice b1 n1 j1,.slice b2 n2 j2,.slice b3 n3 j3,.int .i64 ac,.bool e1,.bool e2,.slice f1 m1 d1,.slice f2 m2 d2,.slice f3 m3 d3,.int .i64 ec] 196);clear HI1 p4 p2 p0 e zg HA2 HTk HBW
    as_aux_lemma =>
    go_wp2_with fail
    refine(ziq _ _ m5).mono ?_;rintro e w4 ⟨rfl,rfl⟩;go_wp2
    go_roundw
    case rel=>exact⟨k+1,A++ [[.int .i64 p.kind,.string (V.opp nm),.slice so n0 sc,.int .i64 p.dir,.bool a1,.bool a2,.slice b1 n1 j1,.slice b2 n2 j2,.slice b3 n3 j3,.int .i64 ac,.bool e1,.bool e2,.slice f1 m1 d1,.slice f2 m2 d2,.slice f3 m3 d3,.int .i64 ec]],by omega,by go_num,by simp[hA],by rw[<- hB];exact(HE.out _).1,HPn.out,(HE.out _).2⟩
    case measure=>simp[RowKit.intOf];omega
   ·by_cases h2:p.kind=2
    ·have e:V.turn p= { p with left:=p.right,dir:=V.against p.dir,right:=p.left }:=by unfold V.turn;rw[if_neg h4,if_pos h2]
     have HPn:Hid (V.PCs w (A++ [[.int .i64 p.kind,.string nm,.slice so n0 sc,.int .i64 (V.against p.dir),.bool e1,.bool e2,.slice f1 m1 d1,.slice f2 m2 d2,.slice f3 m3 d3,.int .i64 ec,.bool a1,.bool a2,.slice b1 n1 j1,.slice b2 n2 j2,.slice b3 n3 j3,.int .i64 ac]]) ((l.take (k+1)).map V.turn)):=by
      show V.PCs w (A++ [[.int .i64 p.kind,.string nm,.slice so n0 sc,.int .i64 (V.against p.dir),.bool e1,.bool e2,.slice f1 m1 d1,.slice f2 m2 d2,.slice f3 m3 d3,.int .i64 ec,.bool a1,.bool a2,.slice b1 n1 j1,.slice b2 n2 j2,.slice b3 n3 j3,.int .i64 ac]]) ((l.take (k+1)).map V.turn);rw[HTk.out,e];refine HA2.out.snoc ⟨rfl,fun u hu=> ?_⟩ p2;simp only[List.mem_cons,List.not_mem_nil,or_false] at hu;rcases hu with rfl | rfl | rfl | rfl | rfl | rfl | rfl | rfl | rfl | rfl | rfl | rfl | rfl | rfl | rfl | rfl <;> rfl
     obtain⟨wb,hwb⟩:∃wb,wb=wr.alloc (.cells #[.int .i64 p.kind,.string nm,.slice so n0 sc,.int .i64 p.dir,.bool a1,.bool a2,.slice b1 n1 j1,.slice b2 n2 j2,.slice b3 n3 j3,.int .i64 ac,.bool e1,.bool e2,.slice f1 m1 d1,.slice f2 m2 d2,.slice f3 m3 d3,.int .i64 ec] 196):=⟨_,rfl⟩;have hbx:wb.heap[wr.heap.size]?=some (.cells #[.int .i64 p.kind,.string nm,.slice so n0 sc,.int .i64 p.dir,.bool a1,.bool a2,.slice b1 n1 j1,.slice b2 n2 j2,.slice b3 n3 j3,.int .i64 ac,.bool e1,.bool e2,.slice f1 m1 d1,.slice f2 m2 d2,.slice f3 m3 d3,.int .i64 ec] 196):=by rw[hwb];exact heap_alloc_new wr _
     have O1:V.OutIs wb g (A++ [.int .i64 p.kind,.string nm,.slice so n0 sc,.int .i64 p.dir,.bool a1,.bool a2,.slice b1 n1 j1,.slice b2 n2 j2,.slice b3 n3 j3,.int .i64 ac,.bool e1,.bool e2,.slice f1 m1 d1,.slice f2 m2 d2,.slice f3 m3 d3,.int .i64 ec]::B):=by rw[hwb];exact HI1.out.other (Below.heap_alloc wr _ g hgl)
     have HBw:Hid (Below w.heap.size w wb):=by show Below w.heap.size w wb;rw[hwb];exact HBW.out.alloc HBW.out.size _
     have HO1:=qH O1
     have HKp:Hid (∀W:World,W.heap[wr.heap.size]?=wb.heap[wr.heap.size]?->W.cell? ⟨wr.heap.size,3,none⟩=some (.int .i64 p.dir)/\W.cell? ⟨wr.heap.size,4,none⟩=some (.bool a1)/\W.cell? ⟨wr.heap.size,5,none⟩=some (.bool a2)/\W.cell? ⟨wr.heap.size,6,none⟩=some (.slice b1 n1 j1)/\W.cell? ⟨wr.heap.size,7,none⟩=some (.slice b2 n2 j2)/\W.cell? ⟨wr.heap.size,8,none⟩=some (.slice b3 n3 j3)/\W.cell? ⟨wr.heap.size,9,none⟩=some (.int .i64 ac)/\W.cell? ⟨wr.heap.size,10,none⟩=some (.bool e1)/\W.cell? ⟨wr.heap.size,11,none⟩=some (.bool e2)/\W.cell? ⟨wr.heap.size,12,none⟩=some (.slice f1 m1 d1)/\W.cell? ⟨wr.heap.size,13,none⟩=some (.slice f2 m2 d2)/\W.cell? ⟨wr.heap.size,14,none⟩=some (.slice f3 m3 d3)/\W.cell? ⟨wr.heap.size,15,none⟩=some (.int .i64 ec)):=fun W hW=>by
      have e:=fun o=>World.cell?_of_block (a:=⟨wr.heap.size,o,none⟩) hW
      simp only[e];exact⟨K.zad (i:=3) hbx rfl,K.zad (i:=4) hbx rfl,K.zad (i:=5) hbx rfl,K.zad (i:=6) hbx rfl,K.zad (i:=7) hbx rfl,K.zad (i:=8) hbx rfl,K.zad (i:=9) hbx rfl,K.zad (i:=10) hbx rfl,K.zad (i:=11) hbx rfl,K.zad (i:=12) hbx rfl,K.zad (i:=13) hbx rfl,K.zad (i:=14) hbx rfl,K.zad (i:=15) hbx rfl⟩
     have hth:=O1.drew.there hA 4 (by decide);have hne:¬wr.heap.size=g:=by omega
     have hwb2:=hwb;rw[h2] at hwb2;rw[h2] at c0;clear HI1 p4 p2 p0 e zg zf HA2 HTk HBW O1 hwb hbx m5
     as_aux_lemma =>
     go_wp2;rw[<- hwb2]
     generalize (Value.agg #[.int .i64 2,.string nm,.slice so n0 sc,.int .i64 p.dir,.bool a1,.bool a2,.slice b1 n1 j1,.slice b2 n2 j2,.slice b3 n3 j3,.int .i64 ac,.bool e1,.bool e2,.slice f1 m1 d1,.slice f2 m2 d2,.slice f3 m3 d3,.int .i64 ec])=x14;clear hwb2 c0 c1 c2 c3 c4 c5 c6 c7 c8 c9 c10 c11 c12 c13 c14 c15;refine wp_region_held_drew (S:=fun w'=>w'.cell? ⟨wr.heap.size,3,none⟩=some (.int .i64 p.dir)/\w'.cell? ⟨wr.heap.size,4,none⟩=some (.bool a1)/\w'.cell? ⟨wr.heap.size,5,none⟩=some (.bool a2)/\w'.cell? ⟨wr.heap.size,6,none⟩=some (.slice b1 n1 j1)/\w'.cell? ⟨wr.heap.size,7,none⟩=some (.slice b2 n2 j2)/\w'.cell? ⟨wr.heap.size,8,none⟩=some (.slice b3 n3 j3)/\w'.cell? ⟨wr.heap.size,9,none⟩=some (.int .i64 ac)/\w'.cell? ⟨wr.heap.size,10,none⟩=some (.bool e1)/\w'.cell? ⟨wr.heap.size,11,none⟩=some (.bool e2)/\w'.cell? ⟨wr.heap.size,12,none⟩=some (.slice f1 m1 d1)/\w'.cell? ⟨wr.heap.size,13,none⟩=some (.slice f2 m2 d2)/\w'.cell? ⟨wr.heap.size,14,none⟩=some (.slice f3 m3 d3)/\w'.cell? ⟨wr.heap.size,15,none⟩=some (.int .i64 ec)) (by kernel_rfl) (HKp.out _ rfl) fun hHeld=> ?_
     refine V.take 0 28 (.slice (some ⟨g,0,none⟩) l.length cap') [true,false,false,false,false,false,false,false,false,false,false,false,false,false,false,false,false,false,false,false,false,false] rfl rfl (by kernel_rfl) (by kernel_rfl) (by kernel_rfl) (by kernel_rfl) (fun _ _ _ h=>h) (Or.inl ⟨by rfl,?_⟩) hHeld ?_
     ·intro wz hSw
      go_simp
     simp only[Act.put,List.setIfInBounds_toArray,List.set_cons_zero,List.set_cons_succ];refine V.take 1 29 (.int .i64 (k:Int)) [true,true,false,false,false,false,false,false,false,false,false,false,false,false,false,false,false,false,false,false,false,false] rfl rfl (by kernel_rfl) (by kernel_rfl) (by kernel_rfl) (by kernel_rfl) (fun _ _ _ h=>h) (Or.inl ⟨by rfl,?_⟩) hHeld ?_
     ·intro wz hSw
      go_simp
     simp only[Act.put,List.setIfInBounds_toArray,List.set_cons_zero,List.set_cons_succ];refine V.take 2 30 (.slice (some ⟨g,0,none⟩) l.length cap') [true,true,true,false,false,false,false,false,false,false,false,false,false,false,false,false,false,false,false,false,false,false] rfl rfl (by kernel_rfl) (by kernel_rfl) (by kernel_rfl) (by kernel_rfl) (fun _ _ _ h=>h) (Or.inl ⟨by rfl,?_⟩) hHeld ?_
     ·intro wz hSw
      go_simp
     simp only[Act.put,List.setIfInBounds_toArray,List.set_cons_zero,List.set_cons_succ];refine V.take 3 31 (.int .i64 (k:Int)) [true,true,true,true,false,false,false,false,false,false,false,false,false,false,false,false,false,false,false,false,false,false] rfl rfl (by kernel_rfl) (by kernel_rfl) (by kernel_rfl) (by kernel_rfl) (fun _ _ _ h=>h) (Or.inl ⟨by rfl,?_⟩) hHeld ?_
     ·intro wz hSw
      go_simp
     simp only[Act.put,List.setIfInBounds_toArray,List.set_cons_zero,List.set_cons_succ];refine V.take 4 32 (.slice (some ⟨g,0,none⟩) l.length cap') [true,true,true,true,true,false,false,false,false,false,false,false,false,false,false,false,false,false,false,false,false,false] rfl rfl (by kernel_rfl) (by kernel_rfl) (by kernel_rfl) (by kernel_rfl) (fun _ _ _ h=>h) (Or.inl ⟨by rfl,?_⟩) hHeld ?_
     ·intro wz hSw
      go_simp
     simp only[Act.put,List.setIfInBounds_toArray,List.set_cons_zero,List.set_cons_succ];refine V.take 5 33 (.int .i64 (k:Int)) [true,true,true,true,true,true,false,false,false,false,false,false,false,false,false,false,false,false,false,false,false,false] rfl rfl (by kernel_rfl) (by kernel_rfl) (by kernel_rfl) (by kernel_rfl) (fun _ _ _ h=>h) (Or.inl ⟨by rfl,?_⟩) hHeld ?_
     ·intro wz hSw
      go_simp
     simp only[Act.put,List.setIfInBounds_toArray,List.set_cons_zero,List.set_cons_succ];refine V.take 6 34 (.pointer (some ⟨wr.heap.size,10,none⟩)) [true,true,true,true,true,true,true,false,false,false,false,false,false,false,false,false,false,false,false,false,false,false] rfl rfl (by kernel_rfl) (by kernel_rfl) (by kernel_rfl) (by kernel_rfl) (fun _ _ _ h=>h) (Or.inl ⟨by rfl,?_⟩) hHeld ?_
     ·intro wz hSw
      go_simp
     simp only[Act.put,List.setIfInBounds_toArray,List.set_cons_zero,List.set_cons_succ];refine V.take 7 35 (.agg #[.bool e1,.bool e2,.slice f1 m1 d1,.slice f2 m2 d2,.slice f3 m3 d3,.int .i64 ec]) [true,true,true,true,true,true,true,true,false,false,false,false,false,false,false,false,false,false,false,false,false,false] rfl rfl (by kernel_rfl) (by kernel_rfl) (by kernel_rfl) (by kernel_rfl) (fun _ _ _ h=>h) (Or.inl ⟨by rfl,?_⟩) hHeld ?_
     ·intro wz hSw
      go_simp
     simp only[Act.put,List.setIfInBounds_toArray,List.set_cons_zero,List.set_cons_succ];refine V.take 8 36 (.pointer (some ⟨wr.heap.size,3,none⟩)) [true,true,true,true,true,true,true,true,true,false,false,false,false,false,false,false,false,false,false,false,false,false] rfl rfl (by kernel_rfl) (by kernel_rfl) (by kernel_rfl) (by kernel_rfl) (fun _ _ _ h=>h) (Or.inl ⟨by rfl,?_⟩) hHeld ?_
     ·intro wz hSw
      go_simp
     simp only[Act.put,List.setIfInBounds_toArray,List.set_cons_zero,List.set_cons_succ];refine V.take 9 37 (.int .i64 p.dir) [true,true,true,true,true,true,true,true,true,true,false,false,false,false,false,false,false,false,false,false,false,false] rfl rfl (by kernel_rfl) (by kernel_rfl) (by kernel_rfl) (by kernel_rfl) (fun _ _ _ h=>h) (Or.inl ⟨by rfl,?_⟩) hHeld ?_
     ·intro wz hSw
      go_simp
     simp only[Act.put,List.setIfInBounds_toArray,List.set_cons_zero,List.set_cons_succ];refine V.take 11 39 (.pointer (some ⟨wr.heap.size,4,none⟩)) [true,true,true,true,true,true,true,true,true,true,false,true,false,false,false,false,false,false,false,false,false,false] rfl rfl (by kernel_rfl) (by kernel_rfl) (by kernel_rfl) (by kernel_rfl) (fun _ _ _ h=>h) (Or.inl ⟨by rfl,?_⟩) hHeld ?_
     ·intro wz hSw
      go_simp
     simp only[Act.put,List.setIfInBounds_toArray,List.set_cons_zero,List.set_cons_succ];refine V.take 12 40 (.agg #[.bool a1,.bool a2,.slice b1 n1 j1,.slice b2 n2 j2,.slice b3 n3 j3,.int .i64 ac]) [true,true,true,true,true,true,true,true,true,true,false,true,true,false,false,false,false,false,false,false,false,false] rfl rfl (by kernel_rfl) (by kernel_rfl) (by kernel_rfl) (by kernel_rfl) (fun _ _ _ h=>h) (Or.inl ⟨by rfl,?_⟩) hHeld ?_
     ·intro wz hSw
      go_simp
     simp only[Act.put,List.setIfInBounds_toArray,List.set_cons_zero,List.set_cons_succ];refine wpAnyH_ready (rs:= [10]) (by kernel_rfl) (by simp) ?_;refine AllReadyH.cons (o:=_) rfl (fun KK hK=> ?_) AllReadyH.nil
     go_simp
     refine(zll _ _).mono ?_;rintro e w5 ⟨rfl,rfl⟩;refine hK.out _ _ hHeld (fun hHeld=> ?_);clear hK
     try simp only[Act.put,List.setIfInBounds_toArray,List.set_cons_zero,List.set_cons_succ]
     refine V.take 13 41 (.pointer (some ⟨g,k*16,none⟩)) [true,true,true,true,true,true,true,true,true,true,true,true,true,true,false,false,false,false,false,false,false,false] rfl rfl (by kernel_rfl) (by kernel_rfl) (by kernel_rfl) (by kernel_rfl) (fun _ _ _ h=>h) (Or.inl ⟨by rfl,?_⟩) hHeld ?_
     ·intro wz hSw
      go_simp
     simp only[Act.put,List.setIfInBounds_toArray,List.set_cons_zero,List.set_cons_succ];refine V.take 14 42 (.pointer (some ⟨g,k*16+4,none⟩)) [true,true,true,true,true,true,true,true,true,true,true,true,true,true,true,false,false,false,false,false,false,false] rfl rfl (by kernel_rfl) (by kernel_rfl) (by kernel_rfl) (by kernel_rfl) (fun _ _ _ h=>h) (Or.inl ⟨by rfl,?_⟩) hHeld ?_
     ·intro wz hSw
      go_simp
     simp only[Act.put,List.setIfInBounds_toArray,List.set_cons_zero,List.set_cons_succ];have F6:V.OutIs (wb.drew.setCells g (k*16+4) [.bool e1,.bool e2,.slice f1 m1 d1,.slice f2 m2 d2,.slice f3 m3 d3,.int .i64 ec]) g (A++ [.int .i64 p.kind,.string nm,.slice so n0 sc,.int .i64 p.dir,.bool e1,.bool e2,.slice f1 m1 d1,.slice f2 m2 d2,.slice f3 m3 d3,.int .i64 ec,.bool e1,.bool e2,.slice f1 m1 d1,.slice f2 m2 d2,.slice f3 m3 d3,.int .i64 ec]::B)/\(wb.drew.setCells g (k*16+4) [.bool e1,.bool e2,.slice f1 m1 d1,.slice f2 m2 d2,.slice f3 m3 d3,.int .i64 ec]).heap[wr.heap.size]?=wb.heap[wr.heap.size]?/\Below w.heap.size w (wb.drew.setCells g (k*16+4) [.bool e1,.bool e2,.slice f1 m1 d1,.slice f2 m2 d2,.slice f3 m3 d3,.int .i64 ec]):=⟨HO1.out.drew.six4 hA (.bool e1) (.bool e2) (.slice f1 m1 d1) (.slice f2 m2 d2) (.slice f3 m3 d3) (.int .i64 ec),(HO1.out.drew.six hA 4 (by decide) (.bool e1) (.bool e2) (.slice f1 m1 d1) (.slice f2 m2 d2) (.slice f3 m3 d3) (.int .i64 ec)).2.1 _ hne,(HO1.out.drew.six hA 4 (by decide) (.bool e1) (.bool e2) (.slice f1 m1 d1) (.slice f2 m2 d2) (.slice f3 m3 d3) (.int .i64 ec)).2.2 w w.heap.size HBw.out.drew hg⟩;refine V.stored 15 [true,true,true,true,true,true,true,true,true,true,true,true,true,true,true,true,false,false,false,false,false,false] 194 (.tmp 42) (.tmp 35) rfl rfl rfl rfl (by kernel_rfl) (by kernel_rfl) g (k*16+4) [.bool e1,.bool e2,.slice f1 m1 d1,.slice f2 m2 d2,.slice f3 m3 d3,.int .i64 ec] rfl rfl hth (by kernel_rfl) rfl (HKp.out _ F6.2.1) ?_;generalize (wb.drew.setCells g (k*16+4) [.bool e1,.bool e2,.slice f1 m1 d1,.slice f2 m2 d2,.slice f3 m3 d3,.int .i64 ec])=w6 at F6 ⊢;have hHeld:=HKp.out w6 F6.2.1;have HX6:=qH F6;have t3:=F6.1.get hA (q:=3) rfl;have t4:w6.frozen? ⟨g,k*16+3,none⟩=false:=F6.1.free _;clear hth F6 HO1 HBw;refine V.take 16 43 (.pointer (some ⟨g,k*16,none⟩)) [true,true,true,true,true,true,true,true,true,true,true,true,true,true,true,true,true,false,false,false,false,false] rfl rfl (by kernel_rfl) (by kernel_rfl) (by kernel_rfl) (by kernel_rfl) (fun _ _ _ h=>h) (Or.inl ⟨by rfl,?_⟩) hHeld ?_
     ·intro wz hSw
      go_simp
     simp only[Act.put,List.setIfInBounds_toArray,List.set_cons_zero,List.set_cons_succ];refine V.take 17 44 (.pointer (some ⟨g,k*16+3,none⟩)) [true,true,true,true,true,true,true,true,true,true,true,true,true,true,true,true,true,true,false,false,false,false] rfl rfl (by kernel_rfl) (by kernel_rfl) (by kernel_rfl) (by kernel_rfl) (fun _ _ _ h=>h) (Or.inl ⟨by rfl,?_⟩) hHeld ?_
     ·intro wz hSw
      go_simp
     simp only[Act.put,List.setIfInBounds_toArray,List.set_cons_zero,List.set_cons_succ];have F7:V.OutIs (w6.setCell ⟨g,k*16+3,none⟩ (.int .i64 (V.against p.dir))) g (A++ [.int .i64 p.kind,.string nm,.slice so n0 sc,.int .i64 (V.against p.dir),.bool e1,.bool e2,.slice f1 m1 d1,.slice f2 m2 d2,.slice f3 m3 d3,.int .i64 ec,.bool e1,.bool e2,.slice f1 m1 d1,.slice f2 m2 d2,.slice f3 m3 d3,.int .i64 ec]::B)/\(w6.setCell ⟨g,k*16+3,none⟩ (.int .i64 (V.against p.dir))).heap[wr.heap.size]?=wb.heap[wr.heap.size]?/\Below w.heap.size w (w6.setCell ⟨g,k*16+3,none⟩ (.int .i64 (V.against p.dir))):=⟨HX6.out.1.one3 hA _,(heap_setCell_other w6 ⟨g,k*16+3,none⟩ _ _ hne).trans HX6.out.2.1,HX6.out.2.2.setCell (p:=⟨g,k*16+3,none⟩) hg _⟩;refine V.stored1 18 [true,true,true,true,true,true,true,true,true,true,true,true,true,true,true,true,true,true,true,false,false,false] 3 (.tmp 44) (.tmp 38) rfl rfl rfl rfl (by kernel_rfl) (by kernel_rfl) g (k*16+3) _ (.int .i64 (V.against p.dir)) rfl rfl t3 t4 (by kernel_rfl) rfl (HKp.out _ F7.2.1) ?_;generalize (w6.setCell ⟨g,k*16+3,none⟩ (.int .i64 (V.against p.dir)))=w7 at F7 ⊢;have hHeld:=HKp.out w7 F7.2.1;have HX7:=qH F7;have hth:=F7.1.there hA 10 (by decide);clear t3 t4 F7 HX6;refine V.take 19 45 (.pointer (some ⟨g,k*16,none⟩)) [true,true,true,true,true,true,true,true,true,true,true,true,true,true,true,true,true,true,true,true,false,false] rfl rfl (by kernel_rfl) (by kernel_rfl) (by kernel_rfl) (by kernel_rfl) (fun _ _ _ h=>h) (Or.inl ⟨by rfl,?_⟩) hHeld ?_
     ·intro wz hSw
      go_simp
     simp only[Act.put,List.setIfInBounds_toArray,List.set_cons_zero,List.set_cons_succ];refine V.take 20 46 (.pointer (some ⟨g,k*16+10,none⟩)) [true,true,true,true,true,true,true,true,true,true,true,true,true,true,true,true,true,true,true,true,true,false] rfl rfl (by kernel_rfl) (by kernel_rfl) (by kernel_rfl) (by kernel_rfl) (fun _ _ _ h=>h) (Or.inl ⟨by rfl,?_⟩) hHeld ?_
     ·intro wz hSw
      go_simp
     simp only[Act.put,List.setIfInBounds_toArray,List.set_cons_zero,List.set_cons_succ];have F8:V.OutIs (w7.setCells g (k*16+10) [.bool a1,.bool a2,.slice b1 n1 j1,.slice b2 n2 j2,.slice b3 n3 j3,.int .i64 ac]) g ((A++ [[.int .i64 p.kind,.string nm,.slice so n0 sc,.int .i64 (V.against p.dir),.bool e1,.bool e2,.slice f1 m1 d1,.slice f2 m2 d2,.slice f3 m3 d3,.int .i64 ec,.bool a1,.bool a2,.slice b1 n1 j1,.slice b2 n2 j2,.slice b3 n3 j3,.int .i64 ac]])++B)/\(w7.setCells g (k*16+10) [.bool a1,.bool a2,.slice b1 n1 j1,.slice b2 n2 j2,.slice b3 n3 j3,.int .i64 ac]).heap[wr.heap.size]?=wb.heap[wr.heap.size]?/\Below w.heap.size w (w7.setCells g (k*16+10) [.bool a1,.bool a2,.slice b1 n1 j1,.slice b2 n2 j2,.slice b3 n3 j3,.int .i64 ac]):=⟨by rw[List.append_assoc];exact HX7.out.1.six10 hA (.bool a1) (.bool a2) (.slice b1 n1 j1) (.slice b2 n2 j2) (.slice b3 n3 j3) (.int .i64 ac),((HX7.out.1.six hA 10 (by decide) (.bool a1) (.bool a2) (.slice b1 n1 j1) (.slice b2 n2 j2) (.slice b3 n3 j3) (.int .i64 ac)).2.1 _ hne).trans HX7.out.2.1,(HX7.out.1.six hA 10 (by decide) (.bool a1) (.bool a2) (.slice b1 n1 j1) (.slice b2 n2 j2) (.slice b3 n3 j3) (.int .i64 ac)).2.2 w w.heap.size HX7.out.2.2 hg⟩;refine V.stored 21 [true,true,true,true,true,true,true,true,true,true,true,true,true,true,true,true,true,true,true,true,true,true] 194 (.tmp 46) (.tmp 40) rfl rfl rfl rfl (by kernel_rfl) (by kernel_rfl) g (k*16+10) [.bool a1,.bool a2,.slice b1 n1 j1,.slice b2 n2 j2,.slice b3 n3 j3,.int .i64 ac] rfl rfl hth (by kernel_rfl) rfl (HKp.out _ F8.2.1) ?_;generalize (w7.setCells g (k*16+10) [.bool a1,.bool a2,.slice b1 n1 j1,.slice b2 n2 j2,.slice b3 n3 j3,.int .i64 ac])=w8 at F8 ⊢;have HX8:Hid (V.OutIs w8 g ((A++ [[.int .i64 p.kind,.string nm,.slice so n0 sc,.int .i64 (V.against p.dir),.bool e1,.bool e2,.slice f1 m1 d1,.slice f2 m2 d2,.slice f3 m3 d3,.int .i64 ec,.bool a1,.bool a2,.slice b1 n1 j1,.slice b2 n2 j2,.slice b3 n3 j3,.int .i64 ac]])++B)/\Below w.heap.size w w8):=⟨F8.1,F8.2.2⟩;clear F8 hHeld HX7 hth HKp;refine wpAnyH_done (by kernel_rfl) ?_ _;go_wp2
     go_roundw
     case rel=>exact⟨k+1,A++ [[.int .i64 p.kind,.string nm,.slice so n0 sc,.int .i64 (V.against p.dir),.bool e1,.bool e2,.slice f1 m1 d1,.slice f2 m2 d2,.slice f3 m3 d3,.int .i64 ec,.bool a1,.bool a2,.slice b1 n1 j1,.slice b2 n2 j2,.slice b3 n3 j3,.int .i64 ac]],by omega,by go_num,by simp[hA],by rw[<- hB];exact HX8.out.1,HPn.out,HX8.out.2⟩
     case measure=>simp[RowKit.intOf];omega
    ·have e:V.turn p=p:=by unfold V.turn;rw[if_neg h4,if_neg h2]
     have HPn:Hid (V.PCs w (A++ [[.int .i64 p.kind,.string nm,.slice so n0 sc,.int .i64 p.dir,.bool a1,.bool a2,.slice b1 n1 j1,.slice b2 n2 j2,.slice b3 n3 j3,.int .i64 ac,.bool e1,.bool e2,.slice f1 m1 d1,.slice f2 m2 d2,.slice f3 m3 d3,.int .i64 ec]]) ((l.take (k+1)).map V.turn)):=by
      show V.PCs w (A++ [[.int .i64 p.kind,.string nm,.slice so n0 sc,.int .i64 p.dir,.bool a1,.bool a2,.slice b1 n1 j1,.slice b2 n2 j2,.slice b3 n3 j3,.int .i64 ac,.bool e1,.bool e2,.slice f1 m1 d1,.slice f2 m2 d2,.slice f3 m3 d3,.int .i64 ec]]) ((l.take (k+1)).map V.turn);rw[HTk.out,e];refine HA2.out.snoc ⟨rfl,fun u hu=> ?_⟩ p0;simp only[List.mem_cons,List.not_mem_nil,or_false] at hu;rcases hu with rfl | rfl | rfl | rfl | rfl | rfl | rfl | rfl | rfl | rfl | rfl | rfl | rfl | rfl | rfl | rfl <;> rfl
     have HE:Hid (∀o,V.OutIs (wr.alloc o) g ((A++ [[.int .i64 p.kind,.string nm,.slice so n0 sc,.int .i64 p.dir,.bool a1,.bool a2,.slice b1 n1 j1,.slice b2 n2 j2,.slice b3 n3 j3,.int .i64 ac,.bool e1,.bool e2,.slice f1 m1 d1,.slice f2 m2 d2,.slice f3 m3 d3,.int .i64 ec]])++B)/\Below w.heap.size w (wr.alloc o)):=fun o=>by
      refine⟨?_,HBW.out.alloc HBW.out.size o⟩;rw[List.append_assoc];exact HI1.out.other (Below.heap_alloc wr _ g hgl)
     clear HI1 p4 p2 p0 e zg zf HA2 HTk HBW
     as_aux_lemma =>
     go_wp2
     go_roundw
     case rel=>exact⟨k+1,A++ [[.int .i64 p.kind,.string nm,.slice so n0 sc,.int .i64 p.dir,.bool a1,.bool a2,.slice b1 n1 j1,.slice b2 n2 j2,.slice b3 n3 j3,.int .i64 ac,.bool e1,.bool e2,.slice f1 m1 d1,.slice f2 m2 d2,.slice f3 m3 d3,.int .i64 ec]],by omega,by go_num,by simp[hA],by rw[<- hB];exact(HE.out _).1,HPn.out,(HE.out _).2⟩
     case measure=>simp[RowKit.intOf];omega
  ·as_aux_lemma =>
   have hkl:l.take k=l:=List.take_of_length_le (by omega);have hdl:cs.drop k= []:=List.drop_eq_nil_of_le (by omega);rw[hkl,hdl,List.append_nil] at HI;have hkk:A.length=l.length:=by omega
   clear hkl hdl;go_wp2;go_ret;refine⟨_,rfl,?_,HI.out.2.2⟩;have h:=V.zr2 (cap:=cap') (HI.out.2.1.below HI.out.2.2) fun j c q u h1 h2=>HI.out.1.cell h1 h2
   simpa using h
