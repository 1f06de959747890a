import Derived.Test.YthnmmmkeamcfkaaGreatDoorVVars
set_option maxHeartbeats 0
set_option maxRecDepth 20000
set_option linter.unusedSimpArgs false
set_option linter.unusedVariables false
namespace Go.Proofs.YthnmmmkeamcfkaaGreatDoor
open Go.Proofs.Tryz
section
open Go.RowKit
namespace V
theorem zfv:∀ {ps:List Pass} {rvs:List Value} {j:Nat} {p:Pass} {rv:Value},ps[j]?=some p->rvs[j]?=some rv->(pcells ps rvs)[j*2]?=some (.string p.name)/\(pcells ps rvs)[j*2+1]?=some rv
 | [],_,j,p,rv,h,_=>by simp at h
 | _::_,[],j,p,rv,_,h=>by simp at h
 | q::ps,sv::rvs,0,p,rv,h1,h2=>by
  cases h1;cases h2;exact⟨rfl,rfl⟩
 | q::ps,sv::rvs,j+1,p,rv,h1,h2=>by
  have h:=zfv (ps:=ps) (rvs:=rvs) (j:=j) (p:=p) (rv:=rv) (by simpa using h1) (by simpa using h2);have e1:(j+1)*2=j*2+1+1:=by omega
  have e2:(j+1)*2+1=j*2+1+1+1:=by omega
  have e:pcells (q::ps) (sv::rvs)= .string q.name::sv::pcells ps rvs:=rfl;rw[e,e2,e1];simpa using h
theorem RuRow.rus {F:Nat}{tops:List Nat}{w:World}{rv:Value}{rs:List K.Rule}(h:RuRow F tops w rv rs)(hl:rs.length<=1000):Rus w rv rs:=by
 obtain⟨cs,own,hcl,hcs,hm⟩:=h;rcases own.2 with ⟨e,h0⟩|⟨g,cap,cur,e,_⟩
 ·have:rs= []:=List.length_eq_zero_iff.1 h0;subst this;subst e;exact Rus.nil w
 ·subst e;refine⟨some ⟨g,0,none⟩,cap,rfl,by omega,fun _=>⟨g,0,rfl,fun j r hj=> ?_⟩⟩;have hcell:=World.ownsRow.cells own (g:=g) rfl
  obtain⟨c,hc⟩:∃c,cs[j]?=some c:=by
   have:j<cs.length:=by rw[hcl];exact(qL.1 hj).1
   exact⟨cs[j],by simp[this]⟩
  have hr:=(hm j r c hj hc).here;obtain⟨bo,bc,so,sc,ao,ac,to',tc,he,hrest⟩:=hr
  have he2:c= [.bool r.start,.bool r.fin,.slice bo r.before.length bc,.slice so r.source.length sc,.slice ao r.after.length ac,.slice to' r.target.length tc,.int .i64 r.cursor]:=by
   have h2:=Value.agg.inj he;simpa using congrArg Array.toList h2
  have at':∀(q:Nat) u,c[q]?=some u->w.cell? ⟨g,0+j*7+q,none⟩=some u:=fun q u hq=>by
   have h1:=hcell (j*7+q) u (R.flat_get (k:=7) (fun c hc=>(hcs c hc).1) j q c u hc hq);rw[L.addr_add] at h1;simpa [Nat.add_assoc] using h1
  subst he2;exact⟨bo,bc,so,sc,ao,ac,to',tc,at' 0 _ rfl,at' 1 _ rfl,at' 2 _ rfl,at' 3 _ rfl,at' 4 _ rfl,at' 5 _ rfl,at' 6 _ rfl,⟨bo,bc,so,sc,ao,ac,to',tc,rfl,hrest⟩⟩
theorem PS.pas {F:Nat}{tops:List Nat}{w:World}{vp:Value}{ps:List Pass}{rvs:List Value}(h:PS F tops w vp ps rvs)(hl:ps.length<=1000)(hr:∀p∈ps,p.rules.length<=1000):Pas w vp ps:=by
 rcases h.own.2 with ⟨e,h0⟩|⟨g,cap,cur,e,_⟩
 ·have:ps= []:=List.length_eq_zero_iff.1 h0;subst this;subst e;exact Pas.nil w
 ·subst e;refine⟨some ⟨g,0,none⟩,cap,rfl,by omega,fun _=>⟨g,0,rfl,fun j p hj=> ?_⟩⟩
  obtain⟨rv,hrv⟩:∃rv,rvs[j]?=some rv:=by
   have:j<rvs.length:=by rw[h.len];exact(qL.1 hj).1
   exact⟨rvs[j],by simp[this]⟩
  have hcell:=World.ownsRow.cells h.own (g:=g) rfl;obtain⟨a1,a2⟩:=zfv hj hrv;have c1:=hcell _ _ a1;have c2:=hcell _ _ a2;rw[L.addr_add] at c1 c2;obtain⟨hrow,hn⟩:=h.rows j p rv hj hrv;have hrus:=hrow.rus (hr p (List.mem_of_getElem? hj));obtain⟨ro,rc,rfl⟩:=hrus.len;exact⟨c1,hn,ro,rc,by simpa [Nat.add_assoc] using c2,hrus⟩
theorem zv2 {l:List S.Sp}(h:S.wrongE l=0):S.Fit l:=S.Fit.zc8 (S.zat.1 h).2 (by decide)
theorem zb2 {l:List R.Item}(h:R.itemsE l=0):Right l:=R.zb1.1 h
theorem zg8 {g:ByteArray->List S.Sp}(hg:∀s,S.Fit (g s)){x:R.Item}(h:R.itemE x=0):S.Fit (setOf g x):=by
 rcases R.zkr h with ⟨h1,h2⟩|⟨h1,h2⟩|⟨h1,h2⟩
 ·have h3:0<=x.rune/\x.rune<=1114111:=by
   simp only[M.right,decide_eq_true_eq] at h2;omega
  unfold setOf;simp only[h1];intro y hy;simp at hy;subst hy;simp only;omega
 ·unfold setOf;simp only[h1];simpa using zv2 h2
 ·unfold setOf;simp only[h1];simpa using hg _
theorem zng {ps:List Pass}{r:K.Rule}{k:Nat}(h:ps.length<=k/\∀p∈ps,p.rules.length<=k):(putP ps r).length<=k+1/\∀p∈putP ps r,p.rules.length<=k+1:=by
 unfold putP;cases hl:ps.getLast? with
 | none =>
  have:ps= []:=List.getLast?_eq_none_iff.1 hl;subst this;simp
 | some q =>
  obtain⟨init,rfl⟩:=List.getLast?_eq_some_iff.1 hl;have hq:=h.2 q (by simp);have hi:∀p∈init,p.rules.length<=k:=fun p hp=>h.2 p (by simp[hp])
  have hlen:=h.1;simp at hlen;simp only;split
  ·refine⟨by simp;omega,fun p hp=> ?_⟩;simp at hp;rcases hp with hp | rfl
   ·have:=hi p hp;omega
   ·simp;omega
  ·refine⟨by simp;omega,fun p hp=> ?_⟩;simp at hp;rcases hp with hp | rfl | rfl
   ·have:=hi p hp;omega
   ·omega
   ·simp
theorem zhn {g:ByteArray->List S.Sp}{s:Script}{p:R.Part}{k:Nat}(h:s.passes.length<=k/\∀p∈s.passes,p.rules.length<=k):(scrStep g s p).passes.length<=k+1/\∀q∈(scrStep g s p).passes,q.rules.length<=k+1:=by
 have h':s.passes.length<=k+1/\∀p∈s.passes,p.rules.length<=k+1:=⟨by have:=h.1;omega,fun p hp=>by have:=h.2 p hp;omega⟩;unfold scrStep;split
 ·exact h'
 ·split
  ·refine⟨by have:=h.1;simp;omega,fun q hq=> ?_⟩;simp at hq;rcases hq with hq | rfl
   ·exact h'.2 q hq
   ·simp
  ·split
   ·split
    ·exact h'
    ·exact zng h
   ·exact h'
theorem zdt (g:ByteArray->List S.Sp)(l:List R.Part):∀k,k<=l.length->(scr g (l.take k)).passes.length<=k/\∀p∈(scr g (l.take k)).passes,p.rules.length<=k:=by
 intro k
 induction k with
 | zero=>intro _;simp[scr]
 | succ k ih =>
  intro hk;have e:l.take (k+1)=l.take k++ [l[k]]:=by rw[List.take_add_one,List.getElem?_eq_getElem (by omega)];rfl
  have h:=zhn (g:=g) (p:=l[k]) (ih (by omega));rw[e];unfold scr at h ⊢;rw[List.foldl_append];exact h
end V
theorem K.zao {w:World}{g:Nat}{c:Array Value}{t:TypeId}(h:w.heap[g]?=some (.cells c t))(o:Obj)(i:Nat):(w.alloc o).frozen? ⟨g,i,none⟩=false:=by
 have e:=Below.heap_alloc w o g (qA.1 h).1;rw[World.frozen?,show (w.alloc o).heap[(⟨g,i,none⟩:Addr).block]?=w.heap[g]? from e,h];simp
theorem K.zai {w:World}{a:Addr}{v:Value}(h:w.cell? a=some v)(o:Obj):(w.alloc o).cell? a=some v:=by
 have e:=Below.heap_alloc w o a.block (World.block_lt_of_cell? w a h);rw[World.cell?_of_block e];exact h
end
section
open Go.RowKit Go.Lib
theorem V.five {w W:World}{B a b:Nat}(hb:Below B w W)(ha:B<=a)(hbb:B<=b)(v0 v1 v2 v3 v4:Value) :
  Below B w (((((W.setCell ⟨a,0,none⟩ v0).setCell ⟨a,1,none⟩ v1).setCell ⟨a,2,none⟩ v2).setCell ⟨b,0,none⟩ v3).setCell ⟨b,1,none⟩ v4) :=
 ((((hb.setCell (p:=⟨a,0,none⟩) ha _).setCell (p:=⟨a,1,none⟩) ha _).setCell (p:=⟨a,2,none⟩) ha _).setCell (p:=⟨b,0,none⟩) hbb _).setCell (p:=⟨b,1,none⟩) hbb _
theorem zi8 (w:World)(v:Value)(l:List R.Part)(R0:R.Pts w v l)(hbad:(V.varsF l).1.1≠0) :
  Calls prog 25 #[v] w fun e w'=>e= .returned (.tuple #[.agg #[.bool false,.slice none 0 0,.slice none 0 0],.agg #[.int .i64 (V.varsF l).1.1,.int .i64 (V.varsF l).1.2]])/\Below w.heap.size w w':=by
 have HA:=qH <| fun o1 o2=>((qR w).alloc qN o1).alloc (by simp) o2
 have HC:Hid (∀o1 o2,Calls prog 60 #[v] ((w.alloc o1).alloc o2) fun e w'=>e= .returned (.tuple #[.map none,.agg #[.int .i64 (V.varsF l).1.1,.int .i64 (V.varsF l).1.2]])/\Below ((w.alloc o1).alloc o2).heap.size ((w.alloc o1).alloc o2) w'):=fun o1 o2 =>
  (zbq _ _ l (R0.below (HA.out _ _))).mono fun e w' ⟨h1,h2⟩=>⟨h1.elim (fun h=>absurd h.1 hbad) fun h=>h.2,h2⟩
 obtain⟨ao,cap,rfl⟩:=R0.len;obtain⟨⟨⟨e1,e2⟩,kn⟩,he⟩:∃o,V.varsF l=o:=⟨_,rfl⟩;rw[he] at HC hbad ⊢;simp only at HC hbad ⊢;clear he R0
 go_enter func25,ntmps25
 go_wp2_with fail
 refine(HC.out _ _).mono ?_;rintro e w1 ⟨rfl,b1⟩;obtain⟨h1,h2,B1,s1⟩:=K.zar b1;have HB2:=qH <| fun o=>B1.alloc (by omega) o
 have k0:∀o,(w1.alloc o).cell? ⟨w.heap.size,0,none⟩=some (.bool false):=fun o=>K.zai (K.zad h1 rfl) o
 have k1:∀o,(w1.alloc o).cell? ⟨w.heap.size,1,none⟩=some (.slice none 0 0):=fun o=>K.zai (K.zad h1 rfl) o
 have k2:∀o,(w1.alloc o).cell? ⟨w.heap.size,2,none⟩=some (.slice none 0 0):=fun o=>K.zai (K.zad h1 rfl) o
 have k3:∀o,(w1.alloc o).cell? ⟨w.heap.size+1,0,none⟩=some (.int .i64 0):=fun o=>K.zai (K.zad h2 rfl) o
 have k4:∀o,(w1.alloc o).cell? ⟨w.heap.size+1,1,none⟩=some (.int .i64 0):=fun o=>K.zai (K.zad h2 rfl) o
 have g0:=fun o i=>K.zao h1 o i
 have g1:=fun o i=>K.zao h2 o i
 clear b1 B1 HC h1 h2;go_wp2
 go_region
 go_wp2;refine bodyPost_ret (v:= .tuple #[.agg #[.bool false,.slice none 0 0,.slice none 0 0],.agg #[.int .i64 e1,.int .i64 e2]]) (by simp[results,results25,go_sem, *]) rfl ?_
 exact⟨rfl,(V.five (HB2.out _) qN (by omega) _ _ _ _ _).drew⟩
end
section
open Go.RowKit Go.Lib
namespace V
theorem done {F:Nat}{tops:List Nat}{w:World}{vo vp:Value}{s:Script}{rvs:List Value}(hL:Leaf tops w fun W=>S.Rd W vo s.only)(hn:s.only.length<=17592186044160)(hP:PS F tops w vp s.passes rvs)(hl:s.passes.length<=1000)(hr:∀p∈s.passes,p.rules.length<=1000){a b:Nat}(ha:a∈tops)(hb:b∈tops)(haF:a<F)(hbF:b<F)(v0 v1 v2 v3 v4:Value) :
  ScIs (((((w.setCell ⟨a,0,none⟩ v0).setCell ⟨a,1,none⟩ v1).setCell ⟨a,2,none⟩ v2).setCell ⟨b,0,none⟩ v3).setCell ⟨b,1,none⟩ v4) (.agg #[.bool s.has,vo,vp]) s:=by
 have h1:=(((((hL.moves (Moves.store w 0 v0 ha)).moves (Moves.store _ 1 v1 ha)).moves (Moves.store _ 2 v2 ha)).moves (Moves.store _ 0 v3 hb)).moves (Moves.store _ 1 v4 hb)).here;have h2:=(((((hP.store 0 v0 ha haF).store 1 v1 ha haF).store 2 v2 ha haF).store 0 v3 hb hbF).store 1 v4 hb hbF).pas hl hr;obtain⟨oo,oc,rfl⟩:=zcs h1;obtain⟨po,pc,rfl⟩:=h2.len;exact⟨oo,oc,po,pc,rfl,h1,by omega,h2⟩
theorem PS.moved {F:Nat}{tops:List Nat}{w:World}{vp:Value}{ps:List Pass}{rvs:List Value}(h:PS F tops w vp ps rvs){W:World}(hs:w.heap.size<=W.heap.size)(hn:∀b,b<w.heap.size->b∉tops->W.heap[b]?=w.heap[b]?)(ho:∀k,F<=k->k<w.heap.size->W.heap[k]?=w.heap[k]?):PS F tops W vp ps rvs :=
 ⟨h.len,zdw h.own fun g hg=>ho g (h.own.lt g hg).1 (h.own.lt g hg).2,fun j p rv h1 h2=>⟨(h.rows j p rv h1 h2).1.step hs hn (fun k hk=> .inl hk) fun g hg=>ho g (h.rvlt (List.mem_of_getElem? h2) g hg).1 (h.rvlt (List.mem_of_getElem? h2) g hg).2,(h.rows j p rv h1 h2).2⟩,h.top,h.apart,h.diff,fun k hk=>Nat.lt_of_lt_of_le (h.lt k hk) hs⟩
def Firm (F:Nat) (w:World) (v:Value) (s:Script):Prop:=∀W:World,w.heap.size<=W.heap.size->(∀b,F<=b->b<w.heap.size->W.heap[b]?=w.heap[b]?)->ScIs W v s
theorem Firm.here {F:Nat}{w:World}{v:Value}{s:Script}(h:Firm F w v s):ScIs w v s:=h w qN fun _ _ _=>rfl
theorem Firm.on {F:Nat}{w w':World}{v:Value}{s:Script}(h:Firm F w v s)(hs:w.heap.size<=w'.heap.size)(hb:∀b,F<=b->b<w.heap.size->w'.heap[b]?=w.heap[b]?):Firm F w' v s :=
 fun W h1 h2=>h W (Nat.le_trans hs h1) fun b hF hl=>(h2 b hF (Nat.lt_of_lt_of_le hl hs)).trans (hb b hF hl)
theorem Firm.below {F:Nat}{w w':World}{v:Value}{s:Script}(h:Firm F w v s)(hb:Below w.heap.size w w'):Firm F w' v s:=h.on hb.size fun b _ hl=>hb.block b hl
theorem Firm.store {F:Nat}{w:World}{v:Value}{s:Script}(h:Firm F w v s)(a i:Nat)(u:Value)(ha:a<F):Firm F (w.setCell ⟨a,i,none⟩ u) v s :=
 h.on (by simp) fun b hF _=>heap_setCell_other w ⟨a,i,none⟩ b u (by simp;omega)
theorem done2 {F B T:Nat}{tops:List Nat}{w:World}{vo vp:Value}{s:Script}{rvs:List Value}(hL:Leaf tops w fun W=>S.Rd W vo s.only)(hn:s.only.length<=17592186044160)(hP:PS F tops w vp s.passes rvs)(hl:s.passes.length<=1000)(hr:∀p∈s.passes,p.rules.length<=1000)(hall:∀q,q<=T->q∈tops)(hB:B+1<=T)(hF:T<F)(v0 v1 v2 v3 v4:Value) :
  Firm B (((((w.setCell ⟨B,0,none⟩ v0).setCell ⟨B,1,none⟩ v1).setCell ⟨B,2,none⟩ v2).setCell ⟨B+1,0,none⟩ v3).setCell ⟨B+1,1,none⟩ v4) (.agg #[.bool s.has,vo,vp]) s:=by
 intro W hs hW;have hsz:w.heap.size<=W.heap.size:=by simpa using hs
 have hk:∀k,T<k->k<w.heap.size->W.heap[k]?=w.heap[k]?:=fun k h1 h2=>by
  have e:=hW k (by omega) (by simpa using h2);rw[heap_setCell_other _ ⟨B+1,1,none⟩ k _ (by simp;omega),heap_setCell_other _ ⟨B+1,0,none⟩ k _ (by simp;omega),heap_setCell_other _ ⟨B,2,none⟩ k _ (by simp;omega),heap_setCell_other _ ⟨B,1,none⟩ k _ (by simp;omega),heap_setCell_other _ ⟨B,0,none⟩ k _ (by simp;omega)] at e;exact e
 have hnt:∀b,b<w.heap.size->b∉tops->W.heap[b]?=w.heap[b]?:=fun b hb hn=>hk b (Classical.byContradiction fun h=>hn (hall b (by omega))) hb
 have h1:=hL W hsz hnt;have h2:=(hP.moved hsz hnt fun k hF' hl=>hk k (by omega) hl).pas hl hr;obtain⟨oo,oc,rfl⟩:=zcs h1;obtain⟨po,pc,rfl⟩:=h2.len;exact⟨oo,oc,po,pc,rfl,h1,by omega,h2⟩
theorem zpd {l:List R.Part}(h:(varsF l).1.1=0):l.length<=200/\(∀p∈l,R.partE p=0):=by
 unfold varsF at h
 by_cases hg:(R.wrong l).1=0
 ·have:=R.zgj hg;exact⟨this.1,this.2.1⟩
 ·rw[if_neg hg] at h;exact absurd h hg
theorem zqn {g:ByteArray->List S.Sp}(hg:∀s,S.Fit (g s)){p:R.Part}(h:R.partE p=0):PartOk g p:=by
 rcases R.zfw h with ⟨h1,h2,h3⟩|⟨h1,h2⟩|⟨h1,h2⟩|⟨h1,h2⟩
 ·exact⟨fun e=>by omega,fun e=>by omega,fun e=>by omega⟩
 ·exact⟨fun e=>by have:=(S.zat.1 h2).1;omega,fun e=>by omega,fun e=>by omega⟩
 ·refine⟨fun e=>by omega,fun _=> ?_,fun e=>by omega⟩;unfold R.passes at h2;have h3:=of_decide_eq_true h2;have hs:p.name.size=p.name.toList.length:=by simp[ByteArray.toList_eq]
  rw[hs];rcases h3 with h3 | h3 | h3 | h3 <;> rw[h3] <;> decide
 ·refine⟨fun e=>by omega,fun e=>by omega,fun _ _=> ?_⟩;obtain⟨_,hl,hr,_⟩:=R.zal h2;obtain⟨a1,a2,a3,_⟩:=R.zbu hl;obtain⟨b1,b2,b3,_⟩:=R.zbu hr;have r1:=zb2 a1;have r2:=zb2 a2;have r3:=zb2 a3
  exact⟨⟨r1,r2,r3⟩,zb2 b2,fun x hx=>by
   rcases hx with hx | hx | hx
   ·exact zg8 hg (r1.2 x hx)
   ·exact zg8 hg (r2.2 x hx)
   ·exact zg8 hg (r3.2 x hx)⟩
end V
theorem zg6 (w:World)(v:Value)(l:List R.Part)(R0:R.Pts w v l)(hg:(V.varsF l).1.1=0) :
  Calls prog 25 #[v] w fun e w'=>∃v',e= .returned (.tuple #[v',.agg #[.int .i64 0,.int .i64 0]])/\V.Firm w.heap.size w' v' (V.scr (V.gOf (V.varsF l).2) l)/\Below w.heap.size w w':=by
 obtain⟨hlen,hE⟩:=V.zpd hg;have HA:=qH <| fun o1 o2=>((qR w).alloc qN o1).alloc (by simp) o2
 have HC:Hid (∀o1 o2,Calls prog 60 #[v] ((w.alloc o1).alloc o2) fun e w'=>(∃B,e= .returned (.tuple #[.map (some B),.agg #[.int .i64 0,.int .i64 0]])/\V.VarsIs w' B (V.varsF l).2)/\Below ((w.alloc o1).alloc o2).heap.size ((w.alloc o1).alloc o2) w'):=fun o1 o2 =>
  (zbq _ _ l (R0.below (HA.out _ _))).mono fun e w' ⟨h1,h2⟩=>⟨h1.elim (fun h=>h.2) fun h=>absurd hg h.1,h2⟩
 have HR:=qH R0;obtain⟨ao,cap,rfl⟩:=R0.len;obtain⟨kn,hk⟩:∃o,(V.varsF l).2=o:=⟨_,rfl⟩;rw[hk] at HC ⊢;have HE:=qH hE;clear hk R0 hg hE
 go_enter func25,ntmps25
 go_wp2_with fail
 refine(HC.out _ _).mono ?_;rintro e w1 ⟨⟨B,rfl,n,f,hM,hT⟩,b1⟩;obtain⟨h1,h2,B1,s1⟩:=K.zar b1;obtain⟨w2,hw2⟩:∃w2,w2=w1.alloc (.cells #[.int .i64 0,.int .i64 0] 38):=⟨_,rfl⟩;have bb:Below w1.heap.size w1 w2:=by rw[hw2];exact(qR w1).alloc qN _
 have hB2:=B1.trans (bb.mono (by omega));have hs2:w.heap.size+2<w2.heap.size:=by rw[hw2];simp;omega
 have x2:=(bb.block _ (by omega)).trans h1;have y2:=(bb.block _ (by omega)).trans h2;have HX:Hid (w2.heap[w.heap.size]?=some (.cells #[.bool false,.slice none 0 0,.slice none 0 0] 27)/\w2.heap[w.heap.size+1]?=some (.cells #[.int .i64 0,.int .i64 0] 38)):=⟨x2,y2⟩;have hT2:=hT.below bb qN;have hgf:∀s,S.Fit (V.gOf kn s):=fun s=>(hT s).2.2.2
 have HS:Hid (Calls prog 61 #[.slice ao l.length cap,.map (some B)] (w1.alloc (.cells #[.int .i64 0,.int .i64 0] 38)) fun e w'=>∃tops vo vp rvs,e= .returned (.agg #[.bool (V.scr (V.gOf kn) l).has,vo,vp])/\V.Leaf tops w' (fun W=>S.Rd W vo (V.scr (V.gOf kn) l).only)/\(V.scr (V.gOf kn) l).only.length<=17592186044160/\V.PS (w2.heap.size+2) tops w' vp (V.scr (V.gOf kn) l).passes rvs/\((V.scr (V.gOf kn) l).passes= []->vp= .slice none 0 0)/\(∀q,q<=w2.heap.size->q∈tops)/\Below w2.heap.size w2 w'):=by
  rw[<- hw2];exact zgo w2 _ l (HR.out.below hB2) (by omega) B n f (V.gOf kn) (hM.below bb hM.lt) (fun s=>⟨(hT2 s).2.1,by have:=(hT2 s).2.2.1;unfold V.gOf;omega⟩) (fun p hp=>V.zqn hgf (HE.out p hp)) (fun k hk=>V.zdt _ l k hk)
 have HSm:Hid ((V.scr (V.gOf kn) l).passes.length<=1000/\∀p∈(V.scr (V.gOf kn) l).passes,p.rules.length<=1000):=by
  have h:=V.zdt (V.gOf kn) l l.length qN;rw[List.take_length] at h;exact⟨by have:=h.1;omega,fun p hp=>by have:=h.2 p hp;omega⟩
 have HB2:=qH hB2;clear hM hT b1 h1 h2 B1 bb hB2 x2 y2 hT2 hgf HC HE HR HA hw2
 go_wp2_with fail
 refine HS.out.mono ?_;rintro e w3 ⟨tops,vo,vp,rvs,rfl,hL,hfew,hPS,_,hall,b3⟩;have x3:=(b3.block _ (by omega)).trans HX.out.1;have y3:=(b3.block _ (by omega)).trans HX.out.2;obtain⟨r0,r1,r2,f0,f1,f2⟩:=V.box3 x3;obtain⟨u0,u1,g0,g1⟩:=V.box2 y3;have HD:Hid (∀v0 v1 v2 v3 v4,V.Firm w.heap.size (((((w3.setCell ⟨w.heap.size,0,none⟩ v0).setCell ⟨w.heap.size,1,none⟩ v1).setCell ⟨w.heap.size,2,none⟩ v2).setCell ⟨w.heap.size+1,0,none⟩ v3).setCell ⟨w.heap.size+1,1,none⟩ v4) (.agg #[.bool (V.scr (V.gOf kn) l).has,vo,vp]) (V.scr (V.gOf kn) l)):=fun v0 v1 v2 v3 v4=>V.done2 hL hfew hPS HSm.out.1 HSm.out.2 hall (by omega) (by omega) v0 v1 v2 v3 v4
 have HB3:=qH <| HB2.out.trans (b3.mono (by omega));obtain⟨oo,oc,hvo⟩:=V.zcs hL.here;obtain⟨po,pn,pc,hvp⟩:=V.zft hPS;have l3:=L.block_lt r0;have l4:=L.block_lt u0;subst hvo hvp;clear hL hfew hPS hall b3 x3 y3 HX HS HSm HB2;go_wp2;refine bodyPost_ret (v:= .tuple #[.agg #[.bool (V.scr (V.gOf kn) l).has,.slice oo (V.scr (V.gOf kn) l).only.length oc,.slice po pn pc],.agg #[.int .i64 0,.int .i64 0]]) (by simp[results,results25,go_sem, *]) rfl ?_;exact⟨_,rfl,HD.out _ _ _ _ _,V.five HB3.out qN (by omega) _ _ _ _ _⟩
theorem zt4 (w:World)(v:Value)(l:List R.Part)(R0:R.Pts w v l)(hg:(V.varsF l).1.1=0) :
  Calls prog 25 #[v] w fun e w'=>∃v',e= .returned (.tuple #[v',.agg #[.int .i64 0,.int .i64 0]])/\V.ScIs w' v' (V.scr (V.gOf (V.varsF l).2) l)/\Below w.heap.size w w' :=
 (zg6 w v l R0 hg).mono fun _ _ ⟨v',h1,h2,h3⟩=>⟨v',h1,h2.here,h3⟩
theorem zrk (w:World)(v:Value)(l:List R.Part)(R0:R.Pts w v l) :
  Calls prog 25 #[v] w fun e w'=>∃v',e= .returned (.tuple #[v',.agg #[.int .i64 (V.forthF l).2.1,.int .i64 ((V.forthF l).2.2:Nat)]])/\V.ScIs w' v' (V.forthF l).1/\Below w.heap.size w w':=by
 unfold V.forthF
 by_cases hg:(V.varsF l).1.1=0
 ·rw[if_pos hg];exact zt4 w v l R0 hg
 ·rw[if_neg hg];exact(zi8 w v l R0 hg).mono fun e w' ⟨h1,h2⟩=>⟨_,h1,⟨none,0,none,0,rfl,S.Rd.nil _,by simp,V.Pas.nil _⟩,h2⟩
theorem zob (w:World)(v:Value)(l:List R.Part)(R0:R.Pts w v l) :
  Calls prog 25 #[v] w fun e w'=>∃v',e= .returned (.tuple #[v',.agg #[.int .i64 (V.forthF l).2.1,.int .i64 ((V.forthF l).2.2:Nat)]])/\V.Firm w.heap.size w' v' (V.forthF l).1/\Below w.heap.size w w':=by
 unfold V.forthF
 by_cases hg:(V.varsF l).1.1=0
 ·rw[if_pos hg];exact zg6 w v l R0 hg
 ·rw[if_neg hg];exact(zi8 w v l R0 hg).mono fun e w' ⟨h1,h2⟩=>⟨_,h1,fun W _ _=>⟨none,0,none,0,rfl,S.Rd.nil _,by simp,V.Pas.nil _⟩,h2⟩
