/-
 A script that is handed in.
-/
import Derived.Test.YtddiojckgjobmaaGreatYFrame
import Derived.Test.YtddiojckgjobmaaGreatCnMath
import Derived.Test.YtddiojckgjobmaaGreatQApp
import Derived.Test.YtddiojckgjobmaaGreatSWrong
set_option maxHeartbeats 0
set_option linter.unusedSimpArgs false
set_option linter.unusedVariables false
namespace Go.Proofs.YtddiojckgjobmaaGreat
open Go.ChangeShapes Go.WideShapes Go.ChangeAt Go.RowKit
theorem Tryz.bytesPass:Tryz.prog.bytesOf 57=40:=by kernel_rfl
theorem Tryz.bytesSpan:Tryz.prog.bytesOf 52=8:=by kernel_rfl
set_option maxRecDepth 100000 in
theorem zfd {H:Type}{enc:TypeId×Value->H}{W:World}{fuel:Nat}{cs:List Value}{x:DataW H×List MemPlace}(h:DataW.trod enc Tryz.prog W 0 (fun _=>true) true fuel 55 cs=some x)(hw:∀n∈x.1.weights Tryz.prog 55,n<=reachBytes) :
  ∃v,cs= [v]/\∃l:List K.Rule,V.Rus W v l:=by
 have ce:Tryz.prog.cellsOf 81=7:=by kernel_rfl
 rcases Go.Deep.open_slice Tryz.underlying55 h with ⟨hcs,hx⟩|⟨a,len,cap,m,n,D,Pl,hcs,_,hl,hm,hmm,hx,hcell⟩
 ·exact⟨_,hcs,[],V.Rus.nil W⟩
 ·refine⟨_,hcs,?_⟩;subst hx;simp only[if_true] at hmm;subst hmm
  have hlen:len<=140737488355328:=by
   have h1:=hw ((((List.range len).map D).length+((List.range (m - len)).map fun j=>D (len+j)).length)*112) (by
    simp only[DataW.weights,Tryz.underlying55,Tryz.bytesRule]
    exact List.mem_cons_self)
   simp only[List.length_map,List.length_range,reachBytes] at h1;omega
  have each:∀i,i<len->∃q:K.Rule×Array Value,K.RuIs W (.agg q.2) q.1/\q.2.size=7/\∀j u,q.2[j]?=some u->W.cell? (a.add (i*7+j))=some u:=fun i hi=>by
   obtain⟨cs',h1,h2⟩:=hcell i (by omega);rw[ce] at h1;obtain⟨_,hlen',hcl⟩:=World.cells?_some h1
   match cs',hlen' with
   | [v0,v1,v2,v3,v4,v5,v6],_ =>
    obtain⟨p,hp⟩:=zgv h2 fun n hn=>hw n (by
     simp only[DataW.weights,Tryz.underlying55];refine List.mem_cons_of_mem _ (List.mem_append_left _ ?_)
     exact K.zbx (d:=D i) (List.mem_map.2 ⟨i,by simpa using hi,rfl⟩) _ hn)
    refine⟨(p,#[v0,v1,v2,v3,v4,v5,v6]),hp,rfl,fun j u hj=> ?_⟩;have hj7:j<7:=(qA.1 hj).1;have e:=hcl j hj7;rw[Go.Deep.add_add] at e;rw[e];have:([v0,v1,v2,v3,v4,v5,v6]:List Value)[j]?=some u:=by simpa using hj
    simpa using this
  have hne:Inhabited (K.Rule×Array Value):=⟨(⟨false,false,[],[],[],[],0⟩,#[])⟩;obtain⟨q,hq⟩:=Go.Deep.choose_lt each;refine⟨(List.range len).map fun i=>(q i).1,some a,m,by simp,by simpa using hlen,fun hne=> ?_⟩
  have h0:0<len:=by
   cases len with
   | zero=>simp at hne
   | succ=>omega
  obtain⟨b,off,spot⟩:=a
  have hsp:spot=none:=by
   obtain⟨_,h7,hc⟩:=hq 0 h0;have:=hc 0 ((q 0).2[0]'(by omega)) (by simp);simpa [Addr.add] using World.cell?_spot this
  subst hsp;refine⟨b,off,rfl,fun j e hj=> ?_⟩
  have hj2:j<len:=by
   have:=(qL.1 hj).1;simpa using this
  have hej:(q j).1=e:=by
   rw[List.getElem?_map,List.getElem?_range hj2] at hj;simpa using hj
  obtain⟨hP,_,hc⟩:=hq j hj2;rw[hej] at hP;have hP0:=hP;obtain⟨bo,bc,so,sc,ao,ac,tgo,tc,he,_⟩:=hP;have he2:=Value.agg.inj he;rw[he2] at hP0 hc
  have cc:∀(i:Nat) (u:Value),(#[.bool e.start,.bool e.fin,.slice bo e.before.length bc,.slice so e.source.length sc,.slice ao e.after.length ac,.slice tgo e.target.length tc,.int .i64 e.cursor]:Array Value)[i]?=some u->W.cell? ⟨b,off+j*7+i,none⟩=some u:=fun i u hi=>by
   have:=hc i u hi;rw[L.addr_add,<- Nat.add_assoc] at this;exact this
  exact⟨bo,bc,so,sc,ao,ac,tgo,tc,cc 0 _ rfl,cc 1 _ rfl,cc 2 _ rfl,cc 3 _ rfl,cc 4 _ rfl,cc 5 _ rfl,cc 6 _ rfl,hP0⟩
set_option maxRecDepth 100000 in
theorem zen {H:Type}{enc:TypeId×Value->H}{W:World}{fuel:Nat}{cs:List Value}{x:DataW H×List MemPlace}(h:DataW.trod enc Tryz.prog W 0 (fun _=>true) true fuel 23 cs=some x)(hw:∀n∈x.1.weights Tryz.prog 23,n<=reachBytes) :
  ∃ao c l,cs= [.slice ao (List.length l) c]/\V.Pas W (.slice ao l.length c) l:=by
 obtain⟨f0,f1,hu,o0,o1,t0,t1⟩:∃f0 f1:Field,Tryz.prog.underlying 57=some (.struct #[f0,f1])/\f0.offset=0/\f1.offset=1/\f0.type=9/\f1.type=55:=⟨_,_,Tryz.underlying57,rfl,rfl,rfl,rfl⟩;have ce:Tryz.prog.cellsOf 57=2:=by kernel_rfl
 have ci:Tryz.prog.cellsOf 9=1:=by kernel_rfl
 have ci2:Tryz.prog.cellsOf 55=1:=by kernel_rfl
 rcases Go.Deep.open_slice Tryz.underlying23 h with ⟨hcs,hx⟩|⟨a,len,cap,m,n,D,Pl,hcs,_,hl,hm,hmm,hx,hcell⟩
 ·exact⟨none,0,[],hcs,V.Pas.nil W⟩
 ·subst hx;simp only[if_true] at hmm;subst hmm
  have hlen:len<=140737488355328:=by
   have h1:=hw ((((List.range len).map D).length+((List.range (m - len)).map fun j=>D (len+j)).length)*40) (by
    simp only[DataW.weights,Tryz.underlying23,Tryz.bytesPass]
    exact List.mem_cons_self)
   simp only[List.length_map,List.length_range,reachBytes] at h1;omega
  have each:∀i,i<len->∃q:V.Pass×Option Addr×Nat,W.cell? (a.add (i*2))=some (.string q.1.name)/\W.cell? (a.add (i*2+1))=some (.slice q.2.1 q.1.rules.length q.2.2)/\V.Rus W (.slice q.2.1 q.1.rules.length q.2.2) q.1.rules/\q.1.name.size<=140737488355328:=fun i hi=>by
   obtain⟨cs',h1,h2⟩:=hcell i (by omega);rw[ce] at h1;obtain⟨_,hlen',hcl⟩:=World.cells?_some h1;obtain⟨xs,k,hk,hxy,_,hxl,hfl⟩:=DataW.trod_struct hu h2
   match xs,hxl,cs',hlen' with
   | [y0,y1],_,[v0,v1],_ =>
    have g0:=hfl 0 f0 rfl;have g1:=hfl 1 f1 rfl;simp[o0,o1,t0,t1,ci,ci2] at g0 g1;have e0:=hcl 0 (by omega);have e1:=hcl 1 (by omega);rw[Go.Deep.add_add] at e0 e1
    have hD:D i= .agg [y0.1,y1.1]:=by
     have:=congrArg Prod.fst hxy;simpa using this
    have hwe:∀(j:Nat) (t:TypeId) (d:DataW H),([9,55]:List TypeId)[j]?=some t->([y0.1,y1.1]:List (DataW H))[j]?=some d->∀n∈d.weights Tryz.prog t,n<=reachBytes:=fun j t d h1 h2 n hn=>hw n (by
     simp only[DataW.weights,Tryz.underlying23];refine List.mem_cons_of_mem _ (List.mem_append_left _ ?_);refine K.zbx (d:=D i) (List.mem_map.2 ⟨i,by simpa using hi,rfl⟩) _ ?_;rw[hD];simp only[DataW.weights,hu];refine DataW.weights_mem_each (j:=j) (t:=t) (d:=d) ?_ h2 n hn
     simpa [t0,t1] using h1)
    obtain⟨nm,c0,hy0,_⟩:=DataW.trod_string Tryz.underlying9 g0;have hn:=hwe 0 _ _ rfl rfl nm.size (by rw[hy0];simp[DataW.weights]);obtain⟨v,c1,rl,hR⟩:=zfd g1 (hwe 1 _ _ rfl rfl);obtain⟨ra,rc,rfl⟩:=hR.len;simp only[List.cons.injEq,and_true] at c0 c1;subst c0 c1;exact⟨(⟨nm,rl⟩,ra,rc),by simpa using e0,by simpa using e1,hR,by unfold reachBytes at hn;simp only;omega⟩
  have hne:Inhabited (V.Pass×Option Addr×Nat):=⟨(⟨⟨#[]⟩,[]⟩,none,0)⟩;obtain⟨q,hq⟩:=Go.Deep.choose_lt each;refine⟨some a,m,(List.range len).map fun i=>(q i).1,by simp[hcs],some a,m,by simp,by simpa using hlen,fun hne=> ?_⟩
  have h0:0<len:=by
   cases len with
   | zero=>simp at hne
   | succ=>omega
  obtain⟨b,off,spot⟩:=a;have c0:=(hq 0 h0).1;have hsp:spot=none:=by simpa [Addr.add] using World.cell?_spot c0
  subst hsp;refine⟨b,off,rfl,fun j p hj=> ?_⟩
  have hj2:j<len:=by
   have:=(qL.1 hj).1;simpa using this
  have hej:(q j).1=p:=by
   rw[List.getElem?_map,List.getElem?_range hj2] at hj;simpa using hj
  obtain⟨h1,h2,h3,h4⟩:=hq j hj2;rw[L.addr_add] at h1 h2;rw[<- Nat.add_assoc] at h2;rw[hej] at h1 h2 h3 h4;exact⟨h1,h4,_,_,h2,h3⟩
theorem zia {H:Type}{enc:TypeId×Value->H}{W:World}{fuel:Nat}{ao:Option Addr}{n c:Nat}{x:DataW H×List MemPlace}(h:DataW.trod enc Tryz.prog W 0 (fun _=>true) true fuel 22 [.slice ao n c]=some x)(hw:∀n∈x.1.weights Tryz.prog 22,n<=reachBytes):n<=140737488355328:=by
 rcases Go.Deep.open_slice Tryz.underlying22 h with ⟨hcs,hx⟩|⟨a,len,cap,m,k,D,Pl,hcs,_,hl,hm,hmm,hx,hcell⟩
 ·simp at hcs;omega
 ·simp at hcs;obtain⟨_,rfl,rfl⟩:=hcs;subst hx;simp only[if_true] at hmm;subst hmm
  have h1:=hw ((((List.range n).map D).length+((List.range (m - n)).map fun j=>D (n+j)).length)*8) (by
   simp only[DataW.weights,Tryz.underlying22,Tryz.bytesSpan]
   exact List.mem_cons_self)
  simp only[List.length_map,List.length_range,reachBytes] at h1;omega
set_option maxRecDepth 100000 in
theorem zj6 {H:Type}{enc:TypeId×Value->H}{W:World}{fuel:Nat}{v0 v1 v2:Value}{x:DataW H×List MemPlace}(h:DataW.trod enc Tryz.prog W 0 (fun _=>true) true fuel 25 [v0,v1,v2]=some x)(hw:∀n∈x.1.weights Tryz.prog 25,n<=reachBytes) :
  ∃s,V.ScIs W (.agg #[v0,v1,v2]) s/\S.Fit s.only:=by
 obtain⟨f0,f1,f2,hu,o0,o1,o2,t0,t1,t2⟩:∃f0 f1 f2:Field,Tryz.prog.underlying 25=some (.struct #[f0,f1,f2])/\f0.offset=0/\f1.offset=1/\f2.offset=2/\f0.type=4/\f1.type=22/\f2.type=23:=⟨_,_,_,Tryz.underlying25,rfl,rfl,rfl,rfl,rfl,rfl⟩;have ci:Tryz.prog.cellsOf 4=1:=by kernel_rfl
 have ci2:Tryz.prog.cellsOf 22=1:=by kernel_rfl
 have ci3:Tryz.prog.cellsOf 23=1:=by kernel_rfl
 obtain⟨xs,k,hk,hxy,_,hxl,hfl⟩:=DataW.trod_struct hu h
 match xs,hxl with
 | [y0,y1,y2],_ =>
  have g0:=hfl 0 f0 rfl;have g1:=hfl 1 f1 rfl;have g2:=hfl 2 f2 rfl;simp[o0,o1,o2,t0,t1,t2,ci,ci2,ci3] at g0 g1 g2
  have hD:x.1= .agg [y0.1,y1.1,y2.1]:=by
   have:=congrArg Prod.fst hxy;simpa using this
  have hwe:∀(j:Nat) (t:TypeId) (d:DataW H),([4,22,23]:List TypeId)[j]?=some t->([y0.1,y1.1,y2.1]:List (DataW H))[j]?=some d->∀n∈d.weights Tryz.prog t,n<=reachBytes:=fun j t d h1 h2 n hn=>hw n (by
   rw[hD];simp only[DataW.weights,hu];refine DataW.weights_mem_each (j:=j) (t:=t) (d:=d) ?_ h2 n hn
   simpa [t0,t1,t2] using h1)
  obtain⟨b0,c0,_⟩:=DataW.trod_bool Tryz.underlying4 g0;obtain⟨u1,l1,c1,⟨ao1,cc1,e1⟩,r1,ft1⟩:=zef g1;obtain⟨a2,n2,l2,c2,r2⟩:=zen g2 (hwe 2 _ _ rfl rfl);simp only[List.cons.injEq,and_true] at c0 c1 c2;subst c0 c1 c2;subst e1;have hfew:=zia g1 (hwe 1 _ _ rfl rfl);exact⟨⟨b0,l1,l2⟩,⟨ao1,cc1,a2,n2,rfl,r1,hfew,r2⟩,ft1⟩
end Go.Proofs.YtddiojckgjobmaaGreat
namespace Go.Proofs.YtddiojckgjobmaaGreat
open Go.RowKit Go.Lib
set_option maxRecDepth 20000
theorem zky (w:World)(v:Value)(t:List Int)(R:L.Rd w v .i32 t)(hl:t.length<=4000) :
  Calls Tryz.prog 17 #[v] w fun e w'=>∃v',e= .returned v'/\w'.ownsRow w.heap.size 21 1 v' t.length (K.ints t)/\Below w.heap.size w w':=by
 obtain⟨ao,cap,rfl,hn,hc⟩:=R;obtain⟨i0,hi,hz0,hz1,hz2⟩:=info_parts Tryz.infoI32;have q22:∀(w:World) (a:Option Addr) (n c n' c':Nat),(binOp .eql 26 (.slice a n c) (.slice none n' c')).run Tryz.prog w= .ok (.bool a.isNone) w:=fun w a n c n' c'=>Lib.run_eql_slice_nil w _ _ a n c n' c' Tryz.underlying26
 cases ao with
 | none =>
  have h0:t= []:=by
   cases t with
   | nil=>rfl
   | cons z zs=>obtain⟨b,off,h,_⟩:=hc (by simp);simp at h
  subst h0;have:=hn rfl;subst this;clear hc
  go_enter Tryz.func17,Tryz.ntmps17
  go_wp2;go_ret
  exact⟨_,rfl,World.ownsRow_nil _ _ _ _,qR _⟩
 | some ad =>
  have HC:Hid (∀j u,(K.ints t)[j]?=some u->w.cell? (ad.add j)=some u):=by
   intro j u hj;obtain⟨z,hz,rfl⟩:=K.zb8 hj;obtain⟨b,off,hao,hcell⟩:=hc (by intro h;subst h;simp at hz);simp at hao;subst hao;rw[L.addr_add];exact hcell j z hz
  clear hc;have OW:Hid ((w.alloc (.cells #[] 21)).ownsRow w.heap.size 21 1 (.slice (some ⟨w.heap.size,0,none⟩) 0 0) 0 []):=World.ownsRow_made w #[] 0 qN (Nat.zero_le _) (by simp)
  go_enter Tryz.func17,Tryz.ntmps17
  go_wp2_with (at_builtin;go_must (refine wpList_append_own _ rfl _ _ 26 rfl w.heap.size 21 i0 (.int .i32 0) 1 4 Tryz.underlying26 hi hz0 hz1 hz2 rfl (by decide) _ _ _ rfl OW.out ad t.length cap (K.ints t) rfl (by rw[K.zaj];omega) (fun j u hj=>Lib.cell?_alloc_some _ (HC.out j u hj)) (K.zcq t) (by unfold maxLen;omega) (by omega) (by simp) ?_;intro v' w3 hown' hgrow3 hnil3))
  go_ret;refine⟨v',rfl,by simpa using hown',?_⟩
  exact((qR w).alloc qN _).grown hgrow3 (by simp) (fun k hk=>(OW.out.lt k hk).1)
end Go.Proofs.YtddiojckgjobmaaGreat
