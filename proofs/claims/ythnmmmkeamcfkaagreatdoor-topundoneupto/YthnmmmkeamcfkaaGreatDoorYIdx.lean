import Derived.Test.YthnmmmkeamcfkaaGreatDoorVBadB
import Derived.Test.YthnmmmkeamcfkaaGreatDoorVTurned
set_option maxHeartbeats 0
set_option maxRecDepth 20000
set_option linter.unusedSimpArgs false
set_option linter.unusedVariables false
namespace Go.Proofs.YthnmmmkeamcfkaaGreatDoor
open Go.Proofs.Tryz
section
open Go.RowKit Go.Lib
namespace V
abbrev PC:=ByteArray×Option Addr×Nat×Nat
def PRow (w:World) (g:Nat) (f:Nat->PC) (n:Nat):Prop :=
 ∃cur,w.heap[g]?=some (.cells cur 32)/\∀t,t<n->cur[t*2]?=some (.string (f t).1)/\cur[t*2+1]?=some (.slice (f t).2.1 (f t).2.2.1 (f t).2.2.2)
theorem PRow.at {w:World}{g:Nat}{f:Nat->PC}{n:Nat}(h:PRow w g f n){t:Nat}(ht:t<n):w.cell? ⟨g,t*2,none⟩=some (.string (f t).1)/\w.cell? ⟨g,t*2+1,none⟩=some (.slice (f t).2.1 (f t).2.2.1 (f t).2.2.2):=by
 obtain⟨cur,hg,hc⟩:=h;exact⟨K.zad hg (hc t ht).1,K.zad hg (hc t ht).2⟩
theorem PRow.free {w:World}{g:Nat}{f:Nat->PC}{n:Nat}(h:PRow w g f n)(i:Nat):w.frozen? ⟨g,i,none⟩=false:=by
 obtain⟨cur,hg,hc⟩:=h;exact frozen_of_row w g _ _ _ hg
theorem PRow.congr {w:World}{g:Nat}{f f':Nat->PC}{n:Nat}(h:PRow w g f n)(he:∀t,t<n->f' t=f t):PRow w g f' n:=by
 obtain⟨cur,hg,hc⟩:=h;exact⟨cur,hg,fun t ht=>by rw[he t ht];exact hc t ht⟩
theorem PRow.put {w:World}{g:Nat}{f:Nat->PC}{n:Nat}(h:PRow w g f n){i:Nat}(hi:i<n)(x:PC):PRow ((w.setCell ⟨g,i*2,none⟩ (.string x.1)).setCell ⟨g,i*2+1,none⟩ (.slice x.2.1 x.2.2.1 x.2.2.2)) g (fun t=>if t=i then x else f t) n:=by
 obtain⟨cur,hg,hc⟩:=h;have b1:=heap_setCell_same w g (i*2) _ _ (.string x.1) hg;have b2:=heap_setCell_same _ g (i*2+1) _ _ (.slice x.2.1 x.2.2.1 x.2.2.2) b1;have s0:=(qA.1 (hc i hi).1).1;have s1:=(qA.1 (hc i hi).2).1;refine⟨_,b2,fun t ht=> ?_⟩;simp only[Array.getElem?_setIfInBounds,Array.size_setIfInBounds]
 by_cases e:t=i
 ·subst e;simp[s0,s1]
 ·rw[if_neg e];rw[if_neg (by omega),if_neg (by omega),if_neg (by omega),if_neg (by omega)];exact hc t ht
theorem PRow.swap {w:World}{g:Nat}{f:Nat->PC}{n:Nat}(h:PRow w g f n){i j:Nat}(hi:i<n)(hj:j<n) :
  PRow ((((w.setCell ⟨g,i*2,none⟩ (.string (f j).1)).setCell ⟨g,i*2+1,none⟩ (.slice (f j).2.1 (f j).2.2.1 (f j).2.2.2)).setCell ⟨g,j*2,none⟩ (.string (f i).1)).setCell ⟨g,j*2+1,none⟩ (.slice (f i).2.1 (f i).2.2.1 (f i).2.2.2)) g (fun t=>if t=j then f i else if t=i then f j else f t) n:=(h.put hi (f j)).put hj (f i)
theorem PRow.drew {w:World}{g:Nat}{f:Nat->PC}{n:Nat}(h:PRow w g f n):PRow w.drew g f n:=h
def But (g:Nat) (w w':World):Prop:=Below g w w'/\(∀b,¬b=g->w'.heap[b]?=w.heap[b]?)/\w'.heap.size=w.heap.size
theorem But.set {g:Nat}{w w':World}(h:But g w w')(i:Nat)(v:Value):But g w (w'.setCell ⟨g,i,none⟩ v):=⟨h.1.setCell (p:=⟨g,i,none⟩) qN v,fun b hb=>(heap_setCell_other w' ⟨g,i,none⟩ b v hb).trans (h.2.1 b hb),by simp[h.2.2]⟩
theorem But.drew {g:Nat}{w w':World}(h:But g w w'):But g w w'.drew:=⟨h.1.drew,h.2⟩
end V
theorem zil (w:World)(g n cap:Nat)(f:Nat->V.PC)(h:V.PRow w g f n)(hn:0<n)(hl:n<=1000) :
  Calls prog 80 #[.slice (some ⟨g,0,none⟩) n cap] w fun e w'=>e= .returned (.tuple #[])/\V.PRow w' g (fun t=>f (n - 1 - t)) n/\V.But g w w':=by
 have H0:=qH h;clear h
 go_enter func80,ntmps80
 go_wp2
 go_loopw [2,3] (fun a b wr=>∃i j:Nat,a= .int .i64 i/\b= .int .i64 j/\i+j+1=n/\i<=j+1/\Hid (V.PRow wr g (fun t=>if t<i∨j<t then f (n - 1 - t) else f t) n/\V.But g w wr)) (fun a _ _=>n - (RowKit.intOf a).toNat)
 case atStart=>exact⟨0,n - 1,rfl,by congr 1;omega,by omega,by omega,H0.out.congr fun t ht=>if_neg (by omega),qR _,fun b _=>rfl,rfl⟩
 case round =>
  obtain⟨i,j,rfl,rfl,hij,hle,HI⟩:=hrel
  by_cases hlt:i<j
  ·obtain⟨F,hF⟩:∃F:Nat->V.PC,F=fun t=>if t<i∨j<t then f (n - 1 - t) else f t:=⟨_,rfl⟩
   have hrow:=HI.out.1;rw[<- hF] at hrow;obtain⟨i0,i1⟩:=hrow.at (t:=i) (by omega);obtain⟨j0,j1⟩:=hrow.at (t:=j) (by omega);have fr:=fun k=>hrow.free k
   have HS:=hrow.swap (i:=i) (j:=j) (by omega) (by omega)
   have HN:Hid (∀t,t<n->(if t<i+1∨j - 1<t then f (n - 1 - t) else f t)=(if t=j then F i else if t=i then F j else F t)):=fun t ht=>by
    have hv:∀x,F x=if x<i∨j<x then f (n - 1 - x) else f x:=fun x=>by rw[hF]
    by_cases e1:t=j
    ·rw[if_pos (by omega),if_pos e1,hv,if_neg (by omega)];congr 1;omega
    ·by_cases e2:t=i
     ·rw[if_pos (by omega),if_neg e1,if_pos e2,hv,if_neg (by omega)];congr 1;omega
     ·rw[if_neg e1,if_neg e2,hv]
      by_cases e3:t<i∨j<t
      ·rw[if_pos (by omega),if_pos e3]
      ·rw[if_neg (by omega),if_neg e3]
   have HB:=qH HI.out.2;generalize hfi:F i=fi at i0 i1 HS HN;generalize hfj:F j=fj at j0 j1 HS HN;obtain⟨a1,a2,a3,a4⟩:=fi;obtain⟨b1,b2,b3,b4⟩:=fj;simp only at i0 i1 j0 j1 HS HN;have HS2:=qH HS;have hbl:=L.block_lt i0;clear HS hrow hF hfi hfj HI H0
   go_wp2_with fail
   go_region
   go_wp2
   go_roundw
   case rel=>exact⟨i+1,j - 1,by go_num,by congr 1;omega,by omega,by omega,HS2.out.drew.congr HN.out,((((HB.out.set _ _).set _ _).set _ _).set _ _).drew⟩
   case measure=>simp[RowKit.intOf];omega
  ·clear H0;go_wp2
   go_end0
   exact⟨rfl,HI.out.1.congr fun t ht=>by
    by_cases e:t<i∨j<t
    ·rw[if_pos e]
    ·rw[if_neg e];congr 1;omega,HI.out.2⟩
theorem zim (w:World)(ao:Option Addr)(cap:Nat) :
  Calls prog 80 #[.slice ao 0 cap] w fun e w'=>e= .returned (.tuple #[])/\w'=w:=by
 go_enter func80,ntmps80
 go_wp2
 go_loopw [2,3] (fun a b wr=>a= .int .i64 0/\b= .int .i64 (-1)/\wr=w) (fun a _ _=>0)
 case atStart=>exact⟨rfl,rfl,rfl⟩
 case round =>
  obtain⟨rfl,rfl,rfl⟩:=hrel;go_wp2
  go_end0
  exact⟨rfl,rfl⟩
end
section
open Go.RowKit Go.Lib
theorem zki (w:World)(ao:Option Addr)(cap:Nat) :
  Calls prog 127 #[.slice ao 0 cap] w fun e w'=>∃ao' cap',e= .returned (.slice ao' 0 cap')/\Below w.heap.size w w':=by
 obtain⟨i0,hi,hz0,hz1,hz2⟩:=info_parts Tryz.vinfoPt;have q22:∀(w:World) (a:Option Addr) (n c n' c':Nat),(binOp .eql 72 (.slice a n c) (.slice none n' c')).run prog w= .ok (.bool a.isNone) w:=fun w a n c n' c'=>Lib.run_eql_slice_nil w _ _ a n c n' c' underlying72
 cases ao with
 | none =>
  go_enter func127,ntmps127
  go_wp2;go_ret
  exact⟨_,_,rfl,qR _⟩
 | some ad =>
  have OW:Hid ((w.alloc (.cells #[] 196)).ownsRow w.heap.size 196 16 (.slice (some ⟨w.heap.size,0,none⟩) 0 0) 0 []):=World.ownsRow_made w #[] 0 qN (Nat.zero_le _) (by simp)
  go_enter func127,ntmps127
  go_wp2_with (at_builtin;go_must (refine wpList_append_own _ rfl _ _ 72 rfl w.heap.size 196 i0 _ 16 232 underlying72 hi hz0 hz1 hz2 rfl (by decide) _ _ _ rfl OW.out ad 0 cap [] rfl rfl (fun j u hj=>by simp at hj) (fun u hu=>by simp at hu) (by unfold maxLen;omega) (by omega) (by simp) ?_;intro v' w3 hown' hgrow3 hnil3))
  go_ret;have hb:=((qR w).alloc qN (.cells #[] 196)).grown hgrow3 (by simp) (fun k hk=>(OW.out.lt k hk).1)
  rcases hown'.2 with ⟨h1,_⟩|⟨g,cap',cur,hv,_⟩
  ·exact⟨⟨none,0,by rw[h1];rfl⟩,hb⟩
  ·exact⟨⟨some ⟨g,0,none⟩,cap',by rw[hv];rfl⟩,hb⟩
theorem zjx (w:World)(ao:Option Addr)(cap:Nat) :
  Calls prog 79 #[.slice ao 0 cap] w fun e w'=>∃ao' cap',e= .returned (.slice ao' 0 cap')/\Below w.heap.size w w':=by
 have H:=zki w ao cap
 go_enter func79,ntmps79
 go_wp2_with fail
 refine H.mono ?_;rintro e w1 ⟨ao',cap',rfl,b1⟩;clear H;go_wp2
 go_loopw [10] (fun i wr=>i= .int .i64 0/\wr=w1) (fun i _=>0)
 case atStart=>exact⟨rfl,rfl⟩
 case round =>
  obtain⟨rfl,rfl⟩:=hrel;go_wp2;go_ret;exact⟨_,_,rfl,b1⟩
theorem zm3 (w:World)(v:Value)(l:List R.Part)(R0:R.Pts w v l)(hl:l.length<=1000) :
  Calls prog 79 #[v] w fun e w'=>∃v',e= .returned v'/\R.Pts w' v' (l.map V.turn)/\Below w.heap.size w w':=by
 cases l with
 | nil =>
  obtain⟨ao,cap,rfl,_⟩:=R0;exact(zjx w ao cap).mono fun e w' ⟨ao',cap',h1,h2⟩=>⟨_,h1,⟨ao',cap',rfl,fun h=>absurd rfl h⟩,h2⟩
 | cons p l =>
  obtain⟨ao,cap,e,hc⟩:=R0;obtain⟨b,off,rfl,_⟩:=hc (by simp);subst e;exact zjw w b off cap (p::l) ⟨_,_,rfl,hc⟩ hl (by simp)
namespace V
theorem zu8 {g:ByteArray->List S.Sp}(hg:∀s,S.Fit (g s)){p:R.Part}(h:R.partE p=0):PartOk g (turn p):=by
 by_cases h4:p.kind=4
 ·have e:turn p= { p with name:=opp p.name }:=by unfold turn;rw[if_pos h4]
  rw[e];exact⟨fun (k:p.kind=3)=>by omega,fun _=>zl7 _,fun (k:p.kind=2)=>by omega⟩
 ·by_cases h2:p.kind=2
  ·have e:turn p= { p with left:=p.right,dir:=against p.dir,right:=p.left }:=by unfold turn;rw[if_neg h4,if_pos h2]
   rw[e];rcases R.zfw h with ⟨k1,_⟩|⟨k1,_⟩|⟨k1,_⟩|⟨_,k2⟩
   ·omega
   ·omega
   ·omega
   obtain⟨_,hl,hr,_⟩:=R.zal k2;obtain⟨a1,a2,a3,_⟩:=R.zbu hl;obtain⟨b1,b2,b3,_⟩:=R.zbu hr;have r1:=zb2 b1;have r2:=zb2 b2;have r3:=zb2 b3
   exact⟨fun (k:p.kind=3)=>by omega,fun (k:p.kind=4)=>by omega,fun _ _=>⟨⟨r1,r2,r3⟩,zb2 a2,fun x hx=>by
    rcases hx with hx | hx | hx
    ·exact zg8 hg (r1.2 x hx)
    ·exact zg8 hg (r2.2 x hx)
    ·exact zg8 hg (r3.2 x hx)⟩⟩
  ·have e:turn p=p:=by unfold turn;rw[if_neg h4,if_neg h2]
   rw[e];exact zqn hg h
def PCells (f:Nat->PC) (ps:List Pass) (rvs:List Value):Prop:=∀(t:Nat) p rv,ps[t]?=some p->rvs[t]?=some rv->(f t).1=p.name/\rv= .slice (f t).2.1 (f t).2.2.1 (f t).2.2.2
theorem PS.prow {F:Nat}{tops:List Nat}{w:World}{g n cap:Nat}{ps:List Pass}{rvs:List Value}(h:PS F tops w (.slice (some ⟨g,0,none⟩) n cap) ps rvs):n=ps.length/\F<=g/\g<w.heap.size/\g∈tops/\∃f,PCells f ps rvs/\PRow w g f n:=by
 have hf:∀t:Nat,∃x:PC,∀(p:Pass) (rv:Value),ps[t]?=some p->rvs[t]?=some rv->x.1=p.name/\rv= .slice x.2.1 x.2.2.1 x.2.2.2:=fun t=>by
  cases hp:ps[t]? with
  | none=>exact⟨(⟨#[]⟩,none,0,0),fun p rv h=>by cases h⟩
  | some p =>
   cases hr:rvs[t]? with
   | none=>exact⟨(⟨#[]⟩,none,0,0),fun p rv _ h=>by cases h⟩
   | some rv =>
    obtain⟨⟨cs,own,_⟩,_⟩:=h.rows t p rv hp hr;rcases own.2 with ⟨e,_⟩|⟨g',cap',cur',e,_⟩
    ·exact⟨(p.name,none,0,0),fun p' rv' h1 h2=>by cases h1;cases h2;exact⟨rfl,e⟩⟩
    ·exact⟨(p.name,_,_,_),fun p' rv' h1 h2=>by cases h1;cases h2;exact⟨rfl,e⟩⟩
 obtain⟨f,hf⟩:=Classical.skolem.1 hf;have hlt:=h.own.lt g rfl;rcases h.own.2 with ⟨e,_⟩|⟨g',cap',cur,e,hB,hg,hle,hmax,hsz,htk⟩
 ·cases e
 ·obtain⟨e1,e2,e3⟩:=Value.slice.inj e;cases e1;subst e2;refine⟨rfl,hlt.1,hlt.2,h.top g (.inl rfl),f,hf,cur,hg,fun t ht=> ?_⟩;have hr:t<rvs.length:=by rw[h.len];exact ht
  obtain⟨a1,a2⟩:=zfv (ps:=ps) (rvs:=rvs) (j:=t) (p:=ps[t]) (rv:=rvs[t]) (by simp) (by simp);obtain⟨f1,f2⟩:=hf t ps[t] rvs[t] (by simp) (by simp);rw[<- htk,List.getElem?_take] at a1 a2;split at a1
  ·split at a2
   ·rw[<- f1] at a1;rw[f2] at a2;exact⟨by simpa using a1,by simpa using a2⟩
   ·cases a2
  ·cases a1
theorem PRow.other {w W:World}{g:Nat}{f:Nat->PC}{n:Nat}(h:PRow w g f n)(he:W.heap[g]?=w.heap[g]?):PRow W g f n:=by
 obtain⟨cur,hg,hc⟩:=h;exact⟨cur,he.trans hg,hc⟩
theorem doneB {F:Nat}{tops:List Nat}{w W:World}{vo:Value}{g n cap:Nat}{s:Script}{rvs:List Value}{f:Nat->PC}(hL:Leaf tops w fun W=>S.Rd W vo s.only)(hn:s.only.length<=17592186044160)(hP:PS F tops w (.slice (some ⟨g,0,none⟩) n cap) s.passes rvs)(hl:s.passes.length<=1000)(hr:∀p∈s.passes,p.rules.length<=1000)(hf:PCells f s.passes rvs)
  (hs:w.heap.size<=W.heap.size) (hk:∀b,b<w.heap.size->b∉tops->W.heap[b]?=w.heap[b]?) (hkr:∀b,F<=b->b<w.heap.size->¬b=g->W.heap[b]?=w.heap[b]?) (hrow:PRow W g (fun t=>f (n - 1 - t)) n) :
  ScIs W (.agg #[.bool s.has,vo,.slice (some ⟨g,0,none⟩) n cap]) ⟨s.has,s.only,s.passes.reverse⟩:=by
 have h1:S.Rd W vo s.only:=hL W hs hk;obtain⟨oo,oc,rfl⟩:=zcs h1;obtain⟨hnl,_,_,_,_⟩:=hP.prow;refine⟨oo,oc,some ⟨g,0,none⟩,cap,by rw[hnl];simp,h1,by show s.only.length<=_;omega,some ⟨g,0,none⟩,cap,rfl,by simp;omega,fun _=>⟨g,0,rfl,fun j p hj=> ?_⟩⟩;have hjn:j<s.passes.length:=by have:=(qL.1 hj).1;simpa using this
 have hp:s.passes[n - 1 - j]?=some p:=by
  rw[List.getElem?_reverse hjn] at hj;rw[hnl];exact hj
 have hlt:n - 1 - j<rvs.length:=by rw[hP.len];omega
 obtain⟨f1,f2⟩:=hf (n - 1 - j) p rvs[n - 1 - j] hp (by simp);obtain⟨hrw,hnm⟩:=hP.rows (n - 1 - j) p rvs[n - 1 - j] hp (by simp)
 have hrw2:=hrw.step hs hk (fun k hk=> .inl hk) fun k hk=>by
  have hm:rvs[n - 1 - j]∈rvs:=List.getElem_mem _;have h3:=hP.rvlt hm k hk;exact hkr k h3.1 h3.2 fun e=>hP.apart _ hm k hk (by rw[e];rfl)
 have hrus:=hrw2.rus (hr p (List.mem_of_getElem? hp));obtain⟨c1,c2⟩:=hrow.at (t:=j) (by omega);obtain⟨ro,rc,hrc⟩:=hrus.len;refine⟨by rw[f1] at c1;simpa using c1,hnm,ro,rc,?_,by rw[<- hrc];exact hrus⟩;rw[<- f2,hrc] at c2;simpa using c2
theorem zi9 (w5:World)(a b:Nat)(v0 v1 v2 v3 v4:Value)(k:Nat)(ha:¬k=a)(hb:¬k=b):(((((w5.setCell ⟨a,0,none⟩ v0).setCell ⟨a,1,none⟩ v1).setCell ⟨a,2,none⟩ v2).setCell ⟨b,0,none⟩ v3).setCell ⟨b,1,none⟩ v4).heap[k]?=w5.heap[k]?:=by
 rw[heap_setCell_other _ ⟨b,1,none⟩ k _ hb,heap_setCell_other _ ⟨b,0,none⟩ k _ hb,heap_setCell_other _ ⟨a,2,none⟩ k _ ha,heap_setCell_other _ ⟨a,1,none⟩ k _ ha,heap_setCell_other _ ⟨a,0,none⟩ k _ ha]
theorem zd2 (w5:World)(a b:Nat)(v0 v1 v2 v3 v4:Value):(((((w5.setCell ⟨a,0,none⟩ v0).setCell ⟨a,1,none⟩ v1).setCell ⟨a,2,none⟩ v2).setCell ⟨b,0,none⟩ v3).setCell ⟨b,1,none⟩ v4).heap.size=w5.heap.size:=by simp
end V
theorem zwe (w:World)(v:Value)(l:List R.Part)(R0:R.Pts w v l)(hg:(V.varsF l).1.1=0) :
  Calls prog 37 #[v] w fun e w'=>∃v',e= .returned (.tuple #[v',.agg #[.int .i64 0,.int .i64 0]])/\V.Firm w.heap.size w' v' ⟨(V.scr (V.gOf (V.varsF l).2) (l.map V.turn)).has,(V.scr (V.gOf (V.varsF l).2) (l.map V.turn)).only,(V.scr (V.gOf (V.varsF l).2) (l.map V.turn)).passes.reverse⟩/\Below w.heap.size w w':=by
 obtain⟨hlen,hE⟩:=V.zpd hg;have HA:=qH <| fun o1 o2=>((qR w).alloc qN o1).alloc (by simp) o2
 have HC:Hid (∀o1 o2,Calls prog 60 #[v] ((w.alloc o1).alloc o2) fun e w'=>(∃B,e= .returned (.tuple #[.map (some B),.agg #[.int .i64 0,.int .i64 0]])/\V.VarsIs w' B (V.varsF l).2)/\Below ((w.alloc o1).alloc o2).heap.size ((w.alloc o1).alloc o2) w'):=fun o1 o2 =>
  (zbq _ _ l (R0.below (HA.out _ _))).mono fun e w' ⟨h1,h2⟩=>⟨h1.elim (fun h=>h.2) fun h=>absurd hg h.1,h2⟩
 have HR:=qH R0;obtain⟨ao,cap,rfl⟩:=R0.len;obtain⟨kn,hk⟩:∃o,(V.varsF l).2=o:=⟨_,rfl⟩;rw[hk] at HC ⊢;have HE:=qH hE;obtain⟨s,hs⟩:∃s,V.scr (V.gOf kn) (l.map V.turn)=s:=⟨_,rfl⟩
 have HSm:Hid (s.passes.length<=1000/\∀p∈s.passes,p.rules.length<=1000):=by
  have h:=V.zdt (V.gOf kn) (l.map V.turn) (l.map V.turn).length qN;rw[List.take_length,hs] at h;simp only[List.length_map] at h;exact⟨by have:=h.1;omega,fun p hp=>by have:=h.2 p hp;omega⟩
 rw[hs];have HSE:=qH hs;clear hk R0 hg hE hs
 go_enter func37,ntmps37
 go_wp2_with fail
 refine(HC.out _ _).mono ?_;rintro e w1 ⟨⟨B,rfl,n,f,hM,hT⟩,b1⟩;obtain⟨h1,h2,B1,s1⟩:=K.zar b1;obtain⟨w2,hw2⟩:∃w2,w2=w1.alloc (.cells #[.int .i64 0,.int .i64 0] 38):=⟨_,rfl⟩;have bb:Below w1.heap.size w1 w2:=by rw[hw2];exact(qR w1).alloc qN _
 have hB2:=B1.trans (bb.mono (by omega));have hs2:w.heap.size+2<w2.heap.size:=by rw[hw2];simp;omega
 have x2:=(bb.block _ (by omega)).trans h1;have y2:=(bb.block _ (by omega)).trans h2;have HX:Hid (w2.heap[w.heap.size]?=some (.cells #[.bool false,.slice none 0 0,.slice none 0 0] 27)/\w2.heap[w.heap.size+1]?=some (.cells #[.int .i64 0,.int .i64 0] 38)):=⟨x2,y2⟩;have hT2:=hT.below bb qN;have HT2:=qH hT2;have HM2:=qH <| hM.below bb hM.lt;have hgf:∀s,S.Fit (V.gOf kn s):=fun s=>(hT s).2.2.2
 have HGF:=qH hgf
 have HTu:Hid (Calls prog 79 #[.slice ao l.length cap] (w1.alloc (.cells #[.int .i64 0,.int .i64 0] 38)) fun e w'=>∃v',e= .returned v'/\R.Pts w' v' (l.map V.turn)/\Below w2.heap.size w2 w'):=by
  rw[<- hw2];exact zm3 w2 _ l (HR.out.below hB2) (by omega)
 have HB2:=qH hB2;clear hM hT b1 h1 h2 B1 bb hB2 x2 y2 hT2 hgf HC HR HA hw2
 go_wp2_with fail
 refine HTu.out.mono ?_;rintro e w2' ⟨v',rfl,hv',b2'⟩
 have HS:Hid (Calls prog 61 #[v',.map (some B)] w2' fun e w'=>∃tops vo vp rvs,e= .returned (.agg #[.bool (V.scr (V.gOf kn) (l.map V.turn)).has,vo,vp])/\V.Leaf tops w' (fun W=>S.Rd W vo (V.scr (V.gOf kn) (l.map V.turn)).only)/\(V.scr (V.gOf kn) (l.map V.turn)).only.length<=17592186044160/\V.PS (w2'.heap.size+2) tops w' vp (V.scr (V.gOf kn) (l.map V.turn)).passes rvs/\((V.scr (V.gOf kn) (l.map V.turn)).passes= []->vp= .slice none 0 0)/\(∀q,q<=w2'.heap.size->q∈tops)/\Below w2'.heap.size w2' w') :=
  zgo w2' _ (l.map V.turn) hv' (by simp;omega) B n f (V.gOf kn) (HM2.out.below b2' HM2.out.lt) (fun s=>⟨((HT2.out.below b2' qN) s).2.1,by have:=(HT2.out s).2.2.1;unfold V.gOf;omega⟩) (fun p hp=>by obtain⟨q,hq,rfl⟩:=List.mem_map.1 hp;exact V.zu8 HGF.out (HE.out q hq)) (fun k hk=>V.zdt _ (l.map V.turn) k hk)
 rw[HSE.out] at HS;have hb2s:=b2'.size;have HX2:Hid (w2'.heap[w.heap.size]?=some (.cells #[.bool false,.slice none 0 0,.slice none 0 0] 27)/\w2'.heap[w.heap.size+1]?=some (.cells #[.int .i64 0,.int .i64 0] 38)):=⟨(b2'.block _ (by omega)).trans HX.out.1,(b2'.block _ (by omega)).trans HX.out.2⟩;have HB2':=qH <| HB2.out.trans (b2'.mono (by omega));obtain⟨tao,tcap,rfl⟩:=hv'.len;rw[List.length_map] at HS;clear hv' b2' HE HM2 HT2 HGF HTu HX HB2 HSE
 go_wp2_with fail
 refine HS.out.mono ?_;rintro e w3 ⟨tops,vo,vp,rvs,rfl,hL,hfew,hPS,hnil,hall,b3⟩;have hs3:=b3.size;have x3:=(b3.block _ (by omega)).trans HX2.out.1;have y3:=(b3.block _ (by omega)).trans HX2.out.2;have HB3:=qH <| HB2'.out.trans (b3.mono (by omega));have HAll:=qH hall;obtain⟨oo,oc,hvo⟩:=V.zcs hL.here;subst hvo;have HL:=qH hL;have HP:=qH hPS
 by_cases h0:s.passes= []
 ·have:=hnil h0;subst this
  have HD:Hid (∀(W:World),w3.heap.size<=W.heap.size->(∀b,b<w3.heap.size->b∉tops->W.heap[b]?=w3.heap[b]?)->V.ScIs W (.agg #[.bool s.has,.slice oo s.only.length oc,.slice none 0 0]) ⟨s.has,s.only,s.passes.reverse⟩):=fun W h1 h2=>by
   rw[h0];exact⟨oo,oc,none,0,rfl,HL.out W h1 h2,by show s.only.length<=_;omega,V.Pas.nil W⟩
  obtain⟨w4,hw4⟩:∃w4,w4=w3.alloc (.cells #[.bool s.has,.slice oo s.only.length oc,.slice none 0 0] 27):=⟨_,rfl⟩;have hbx:w4.heap[w3.heap.size]?=some (.cells #[.bool s.has,.slice oo s.only.length oc,.slice none 0 0] 27):=by rw[hw4];exact heap_alloc_new w3 _
  have hb4:Below w3.heap.size w3 w4:=by rw[hw4];exact(qR w3).alloc qN _
  have x4:=(hb4.block _ (by omega)).trans x3;have y4:=(hb4.block _ (by omega)).trans y3;obtain⟨r0,r1,r2,f0,f1,f2⟩:=V.box3 x4;obtain⟨u0,u1,g0,g1⟩:=V.box2 y4;obtain⟨q0,q1,q2,_,_,_⟩:=V.box3 hbx;have l3:=L.block_lt r0;have l4:=L.block_lt u0;have l5:=L.block_lt q0
  have HE5:Hid (∀v0 v1 v2 v3 v4,V.Firm w.heap.size (((((w4.setCell ⟨w.heap.size,0,none⟩ v0).setCell ⟨w.heap.size,1,none⟩ v1).setCell ⟨w.heap.size,2,none⟩ v2).setCell ⟨w.heap.size+1,0,none⟩ v3).setCell ⟨w.heap.size+1,1,none⟩ v4) (.agg #[.bool s.has,.slice oo s.only.length oc,.slice none 0 0]) ⟨s.has,s.only,s.passes.reverse⟩):=fun v0 v1 v2 v3 v4 =>
   fun W hs hW=>HD.out W (by rw[V.zd2] at hs;exact Nat.le_trans hb4.size hs) fun b hb hn=>(hW b (Classical.byContradiction fun h=>hn (HAll.out b (by omega))) (by rw[V.zd2];exact Nat.lt_of_lt_of_le hb hb4.size)).trans ((V.zi9 w4 _ _ _ _ _ _ _ b (fun e=>hn (e▸HAll.out _ (by omega))) (fun e=>hn (e▸HAll.out _ (by omega)))).trans (hb4.block b hb))
  have HB4:=qH <| HB3.out.trans (hb4.mono (by omega));have HRv:=qH <| zim w4 none 0;clear hL hfew hPS hall b3 x3 y3 HX2 HS HSm HB2' hb4 HD HL HP HB3 x4 y4 hbx hnil HAll h0
  go_wp2_with fail
  rw[<- hw4];refine HRv.out.mono ?_;rintro e w5 ⟨rfl,rfl⟩;clear hw4 HRv;go_wp2;refine bodyPost_ret (v:= .tuple #[.agg #[.bool s.has,.slice oo s.only.length oc,.slice none 0 0],.agg #[.int .i64 0,.int .i64 0]]) (by simp[results,results37,go_sem, *]) rfl ?_;exact⟨_,rfl,HE5.out _ _ _ _ _,V.five HB4.out qN (by omega) _ _ _ _ _⟩
 ·obtain⟨g,cap',hvp⟩:∃g cap',vp= .slice (some ⟨g,0,none⟩) s.passes.length cap':=by
   rcases hPS.own.2 with ⟨_,h1⟩|⟨g,cap',cur,e,_⟩
   ·exact absurd (List.length_eq_zero_iff.1 h1) h0
   ·exact⟨g,cap',e⟩
  subst hvp;obtain⟨-,hFg,hgl,hgt,pf,hpf,hrow⟩:=hPS.prow;obtain⟨w4,hw4⟩:∃w4,w4=w3.alloc (.cells #[.bool s.has,.slice oo s.only.length oc,.slice (some ⟨g,0,none⟩) s.passes.length cap'] 27):=⟨_,rfl⟩;have hbx:w4.heap[w3.heap.size]?=some (.cells #[.bool s.has,.slice oo s.only.length oc,.slice (some ⟨g,0,none⟩) s.passes.length cap'] 27):=by rw[hw4];exact heap_alloc_new w3 _
  have hb4:Below w3.heap.size w3 w4:=by rw[hw4];exact(qR w3).alloc qN _
  have HRv:=qH <| zil w4 g _ cap' pf (hrow.other (hb4.block g hgl)) (List.length_pos_iff.2 h0) HSm.out.1;obtain⟨q0,q1,q2,_,_,_⟩:=V.box3 hbx;have HG:Hid (V.PCells pf s.passes rvs/\w2'.heap.size+2<=g/\g<w3.heap.size/\g∈tops/\Below w3.heap.size w3 w4/\w4.heap[w3.heap.size]?=some (.cells #[.bool s.has,.slice oo s.only.length oc,.slice (some ⟨g,0,none⟩) s.passes.length cap'] 27)):=⟨hpf,hFg,hgl,hgt,hb4,hbx⟩;have HXY:Hid (w3.heap[w.heap.size]?=some (.cells #[.bool false,.slice none 0 0,.slice none 0 0] 27)/\w3.heap[w.heap.size+1]?=some (.cells #[.int .i64 0,.int .i64 0] 38)):=⟨x3,y3⟩;have l5:=L.block_lt q0;clear hL hPS hall b3 x3 y3 HX2 HS HB2' hrow hpf hb4 hbx hnil h0
  go_wp2_with fail
  rw[<- hw4];refine HRv.out.mono ?_;rintro e w5 ⟨rfl,hrow5,hbut⟩;obtain⟨hpf,hFg,hgl,hgt,hb4,hbx⟩:=HG.out;have x5:=(hbut.2.1 _ (by omega)).trans ((hb4.block _ (by omega)).trans HXY.out.1);have y5:=(hbut.2.1 _ (by omega)).trans ((hb4.block _ (by omega)).trans HXY.out.2);have z5:=(hbut.2.1 _ (by omega)).trans hbx;obtain⟨r0,r1,r2,f0,f1,f2⟩:=V.box3 x5;obtain⟨u0,u1,g0,g1⟩:=V.box2 y5;obtain⟨p0,p1,p2,_,_,_⟩:=V.box3 z5;have l3:=L.block_lt r0;have l4:=L.block_lt u0;have l6:=L.block_lt p0
  have HE5:Hid (∀v0 v1 v2 v3 v4,V.Firm w.heap.size (((((w5.setCell ⟨w.heap.size,0,none⟩ v0).setCell ⟨w.heap.size,1,none⟩ v1).setCell ⟨w.heap.size,2,none⟩ v2).setCell ⟨w.heap.size+1,0,none⟩ v3).setCell ⟨w.heap.size+1,1,none⟩ v4) (.agg #[.bool s.has,.slice oo s.only.length oc,.slice (some ⟨g,0,none⟩) s.passes.length cap']) ⟨s.has,s.only,s.passes.reverse⟩):=fun v0 v1 v2 v3 v4=>by
   have h4:=hb4.size;have h5:=hbut.2.2;intro W hs hW;rw[V.zd2] at hs;have hWe:=fun b h1 h2 h3 h4=>(hW b h1 (by rw[V.zd2];exact h2)).trans (V.zi9 w5 _ _ _ _ _ _ _ b h3 h4)
   refine V.doneB HL.out hfew HP.out HSm.out.1 HSm.out.2 hpf (by omega) (fun b hb hn=> ?_) (fun b hF hb hn=> ?_) (hrow5.other (hWe g (by omega) (by omega) (by omega) (by omega)))
   ·have hbF:w2'.heap.size<b:=Classical.byContradiction fun h=>hn (HAll.out b (by omega))
    exact(hWe b (by omega) (by omega) (by omega) (by omega)).trans ((hbut.2.1 b fun e=>hn (e▸hgt)).trans (hb4.block b hb))
   ·exact(hWe b (by omega) (by omega) (by omega) (by omega)).trans ((hbut.2.1 b hn).trans (hb4.block b hb))
  have HB5:Hid (Below w.heap.size w w5):=by
   have h5:Below w.heap.size w4 w5:=hbut.1.mono (by omega);exact(HB3.out.trans (hb4.mono (by omega))).trans h5
  clear hrow5 hbut hpf hFg hgl hgt hb4 hbx x5 y5 z5 HG HXY HL HP HSm HAll HB3 q0 q1 q2 l5 hw4 HRv;go_wp2;refine bodyPost_ret (v:= .tuple #[.agg #[.bool s.has,.slice oo s.only.length oc,.slice (some ⟨g,0,none⟩) s.passes.length cap'],.agg #[.int .i64 0,.int .i64 0]]) (by simp[results,results37,go_sem, *]) rfl ?_;exact⟨_,rfl,HE5.out _ _ _ _ _,V.five HB5.out qN (by omega) _ _ _ _ _⟩
theorem zr4 (w:World)(v:Value)(l:List R.Part)(R0:R.Pts w v l) :
  Calls prog 37 #[v] w fun e w'=>∃v',e= .returned (.tuple #[v',.agg #[.int .i64 (V.backF l).2.1,.int .i64 ((V.backF l).2.2:Nat)]])/\V.Firm w.heap.size w' v' (V.backF l).1/\Below w.heap.size w w':=by
 unfold V.backF
 by_cases hg:(V.varsF l).1.1=0
 ·rw[if_pos hg];exact zwe w v l R0 hg
 ·rw[if_neg hg];exact(zum w v l R0 hg).mono fun e w' ⟨h1,h2⟩=>⟨_,h1,fun W _ _=>⟨none,0,none,0,rfl,S.Rd.nil _,by simp,V.Pas.nil _⟩,h2⟩
theorem zun (w:World)(v:Value)(l:List R.Part)(R0:R.Pts w v l) :
  Calls prog 37 #[v] w fun e w'=>∃v',e= .returned (.tuple #[v',.agg #[.int .i64 (V.backF l).2.1,.int .i64 ((V.backF l).2.2:Nat)]])/\V.ScIs w' v' (V.backF l).1/\Below w.heap.size w w' :=
 (zr4 w v l R0).mono fun e w' ⟨v',h1,h2,h3⟩=>⟨v',h1,h2.here,h3⟩
end
section
open Go.RowKit Go.Lib
namespace Tp
def headP (s:V.Script):V.Pass:=(s.passes[0]?).getD ⟨⟨#[]⟩,[]⟩
def pairF (a b:V.Script):List K.Rule×List K.Rule×Bool :=
 if a.has=false/\a.passes.length=1/\b.passes.length<=1/\(headP a).name.toList= [] then
  if b.passes.length=0 then ((headP a).rules,[],true) else ((headP a).rules,(headP b).rules,(headP b).name.toList== [])
 else ([],[],false)
noncomputable def singleF (t:List Int):List K.Rule×List K.Rule×Bool :=
 match R.read t with
 | .ok l _=>if (V.forthF l).2.1=0/\(V.backF l).2.1=0 then pairF (V.forthF l).1 (V.backF l).1 else ([],[],false)
 | .bad _ _=>([],[],false)
end Tp
theorem zjy (hK:T.ClassOk)(s:ByteArray)(hs:s.size<=1099511627776)(w:World)(er:Int)(q:Nat)(hr:R.read (M.rn s)= .bad er q) :
  Calls prog 15 #[.string s] w fun e w'=>∃v1 v2,e= .returned (.tuple #[v1,v2,.bool false])/\V.Rus w' v1 []/\V.Rus w' v2 []/\Below w.heap.size w w':=by
 have hne:=R.zvm hr
 have HR:Hid (Calls prog 24 #[.string s] w fun e w'=>e= .returned (.tuple #[.slice none 0 0,.agg #[.int .i64 er,.int .i64 q]])/\Below w.heap.size w w'):=by
  have h:=zfo hK s hs w;rw[hr] at h;exact h
 clear hr
 go_enter func15,ntmps15
 go_wp2_with fail
 refine HR.out.mono ?_;rintro e w1 ⟨rfl,b1⟩;have HE:=qH <| fun o=>b1.alloc b1.size o
 clear b1 HR;go_wp2;refine bodyPost_ret (v:= .tuple #[.slice none 0 0,.slice none 0 0,.bool false]) (by simp[results,results15,go_sem, *]) rfl ?_;exact⟨_,_,rfl,V.Rus.nil _,V.Rus.nil _,HE.out _⟩
theorem zm6 (hK:T.ClassOk)(s:ByteArray)(hs:s.size<=1099511627776)(w:World)(l:List R.Part)(q:Nat)(hr:R.read (M.rn s)= .ok l q) :
  Calls prog 15 #[.string s] w fun e w'=>∃v1 v2,e= .returned (.tuple #[v1,v2,.bool (if (V.forthF l).2.1=0/\(V.backF l).2.1=0 then Tp.pairF (V.forthF l).1 (V.backF l).1 else ([],[],false)).2.2])/\V.Rus w' v1 (if (V.forthF l).2.1=0/\(V.backF l).2.1=0 then Tp.pairF (V.forthF l).1 (V.backF l).1 else ([],[],false)).1/\V.Rus w' v2 (if (V.forthF l).2.1=0/\(V.backF l).2.1=0 then Tp.pairF (V.forthF l).1 (V.backF l).1 else ([],[],false)).2.1/\Below w.heap.size w w':=by
 have HR:Hid (Calls prog 24 #[.string s] w fun e w'=>∃v,e= .returned (.tuple #[v,.agg #[.int .i64 0,.int .i64 0]])/\R.RowP w.heap.size w' v l/\Below w.heap.size w w'):=by
  have h:=zfo hK s hs w;rw[hr] at h;exact h.mono fun e w' ⟨v,h1,h2,_,h4⟩=>⟨v,h1,h2,h4⟩
 have HF:=qH <| fun Y v hv=>zob Y v l hv
 have HK:=qH <| fun Y v hv=>zun Y v l hv
 obtain⟨⟨sa,ea,fa⟩,hfa⟩:∃o,V.forthF l=o:=⟨_,rfl⟩;obtain⟨⟨sb,eb,fb⟩,hfb⟩:∃o,V.backF l=o:=⟨_,rfl⟩;rw[hfa] at HF ⊢;rw[hfb] at HK ⊢;simp only at HF HK ⊢;obtain⟨⟨o1,o2,o3⟩,ho⟩:∃o,(if ea=0/\eb=0 then Tp.pairF sa sb else ([],[],false))=o:=⟨_,rfl⟩;rw[ho];have HO:=qH ho;clear hr hfa hfb ho;simp only
 go_enter func15,ntmps15
 go_wp2_with fail
 refine HR.out.mono ?_;rintro e w1 ⟨v1,rfl,r1,b1⟩;obtain⟨X1,hX1⟩:∃X1,X1=w1.alloc (.cells #[.int .i64 0,.int .i64 0] 38):=⟨_,rfl⟩;have k1:=K.zau (w:=w1) (qR (w1.alloc (.cells #[.int .i64 0,.int .i64 0] 38)));rw[<- hX1] at k1;obtain⟨la,lc,rfl⟩:=R.Row.slice r1;have HX1:Hid (X1.heap[w1.heap.size]?=some (.cells #[.int .i64 0,.int .i64 0] 38)/\Below w.heap.size w X1/\w1.heap.size+1<=X1.heap.size):=⟨k1.1,b1.trans (k1.2.1.mono b1.size),k1.2.2⟩;have HR1:=qH r1;have hFo:=HF.out X1 _ ((R.RowP.pts (R.Row.below r1 k1.2.1)).here);have HK1:=qH <| fun b hb=>k1.2.1.block b hb
 have hs1:=b1.size;clear HR HF r1 b1 k1
 go_wp2_with fail
 rw[<- hX1];refine hFo.mono ?_;clear hFo hX1;rintro e w2 ⟨v2,rfl,hF2,b2⟩;obtain⟨aoo,aoc,apo,apc,rfl,_⟩:=id hF2.here;have hb2:=K.zae HX1.out.1 b2;obtain⟨y0,y1,f0,f1⟩:=V.box2 hb2;have hs2:=lt_of_block hb2;obtain⟨S2,hS2⟩:∃S2,S2=(w2.setCell ⟨w1.heap.size,0,none⟩ (.int .i64 ea)).setCell ⟨w1.heap.size,1,none⟩ (.int .i64 (fa:Int)):=⟨_,rfl⟩;have hSz:S2.heap.size=w2.heap.size:=by rw[hS2];simp
 have hSf:S2.heap[w1.heap.size]?=some (.cells #[.int .i64 ea,.int .i64 (fa:Int)] 38):=by rw[hS2];exact heap_setCell_same _ w1.heap.size 1 _ _ _ (heap_setCell_same w2 w1.heap.size 0 _ _ _ hb2)
 have hSo:∀b,b≠w1.heap.size->S2.heap[b]?=w2.heap[b]?:=fun b hb=>by
  rw[hS2,heap_setCell_other _ ⟨w1.heap.size,1,none⟩ b _ hb,heap_setCell_other _ ⟨w1.heap.size,0,none⟩ b _ hb]
 have hX1s:=HX1.out.2.2;have hSF:V.Firm X1.heap.size S2 (.agg #[.bool sa.has,.slice aoo sa.only.length aoc,.slice apo sa.passes.length apc]) sa:=by rw[hS2];exact(hF2.store w1.heap.size 0 _ (by omega)).store w1.heap.size 1 _ (by omega)
 have hB2:=HX1.out.2.1.trans (b2.mono HX1.out.2.1.size);have hSB:Below w.heap.size w S2:=by rw[hS2];exact(hB2.setCell (p:=⟨w1.heap.size,0,none⟩) hs1 _).setCell (p:=⟨w1.heap.size,1,none⟩) hs1 _
 obtain⟨X2,hX2⟩:∃X2,X2=S2.alloc (.cells #[.bool sa.has,.slice aoo sa.only.length aoc,.slice apo sa.passes.length apc] 27):=⟨_,rfl⟩;have k2:=K.zau (w:=S2) (qR (S2.alloc (.cells #[.bool sa.has,.slice aoo sa.only.length aoc,.slice apo sa.passes.length apc] 27)));rw[<- hX2] at k2;have hr2:R.RowP w.heap.size X2 (.slice la l.length lc) l:=R.Row.keep HR1.out (by have:=k2.2.1.size;omega) fun b hF hb=>(k2.2.1.block b (by omega)).trans ((hSo b (by omega)).trans ((b2.block b (by omega)).trans (HK1.out b hb)))
 have HX2:Hid (X2.heap[w1.heap.size]?=some (.cells #[.int .i64 ea,.int .i64 (fa:Int)] 38)/\X2.heap[w2.heap.size]?=some (.cells #[.bool sa.has,.slice aoo sa.only.length aoc,.slice apo sa.passes.length apc] 27)/\Below w.heap.size w X2/\V.ScIs X2 (.agg #[.bool sa.has,.slice aoo sa.only.length aoc,.slice apo sa.passes.length apc]) sa):=⟨K.zae hSf k2.2.1,by rw[<- hSz];exact k2.1,hSB.trans (k2.2.1.mono hSB.size),(hSF.below k2.2.1).here⟩;have hBa:=HK.out X2 _ (R.RowP.pts hr2).here;rw[hS2] at hX2;clear hF2 b2 hb2 hS2 hSz hSf hSo hSF hB2 hSB k2 hr2 HK HX1 HR1 HK1 hX1s
 go_wp2_with fail
 rw[<- hX2];refine hBa.mono ?_;clear hBa hX2 y0 y1 f0 f1;rintro e w3 ⟨v3,rfl,hv3,b3⟩;obtain⟨boo,boc,bpo,bpc,rfl,_⟩:=id hv3;obtain⟨X3,hX3⟩:∃X3,X3=(w3.alloc (.cells #[.bool sb.has,.slice boo sb.only.length boc,.slice bpo sb.passes.length bpc] 27)).alloc (.cells #[.int .i64 eb,.int .i64 (fb:Int)] 38):=⟨_,rfl⟩;have k3:=K.zar (w:=w3) (o1:= .cells #[.bool sb.has,.slice boo sb.only.length boc,.slice bpo sb.passes.length bpc] 27) (o2:= .cells #[.int .i64 eb,.int .i64 (fb:Int)] 38) (qR _);rw[<- hX3] at k3;have hb23:=b3.trans (k3.2.2.1.mono b3.size);have h1:=K.zae HX2.out.1 hb23;have h2:=K.zae HX2.out.2.1 hb23;have hSa:=HX2.out.2.2.2.below hb23;have hSb:=hv3.below k3.2.2.1;have HB:=qH <| HX2.out.2.2.1.trans (hb23.mono HX2.out.2.2.1.size);obtain⟨u0,u1,_,_⟩:=V.box2 h1;obtain⟨a0,a1,a2,_,_,_⟩:=V.box3 h2;obtain⟨b0,b1,b2,_,_,_⟩:=V.box3 k3.1;obtain⟨z0,z1,_,_⟩:=V.box2 k3.2.1;obtain⟨_,_,_,_,ea1,_,_,hPa⟩:=hSa;cases ea1;obtain⟨_,_,_,_,eb1,_,_,hPb⟩:=hSb;cases eb1;have HPa:=qH hPa;have HPb:=qH hPb;have hna:=hPa.few;have hnb:=hPb.few;clear h1 h2 k3 hb23 b3 hv3 HX2 hPa hPb
 go_upto_region 6 with fail
 rw[<- hX3];clear hX3
 by_cases q1:ea=0
 ·subst q1
  by_cases q2:eb=0
  ·subst q2
   have HO2:Hid (Tp.pairF sa sb=(o1,o2,o3)):=by
    have ho:=HO.out;rw[if_pos ⟨rfl,rfl⟩] at ho;exact ho
   clear HO;cases qh:sa.has with
   | true =>
    rw[qh] at a0;have ho:(([],[],false):List K.Rule×List K.Rule×Bool)=(o1,o2,o3):=by rw[<- HO2.out];unfold Tp.pairF;rw[if_neg (fun h=>by rw[qh] at h;cases h.1)]
    cases ho;go_wp2;refine bodyPost_ret (v:= .tuple #[.slice none 0 0,.slice none 0 0,.bool false]) (by simp[results,results15,go_sem, *]) rfl ?_;exact⟨_,_,rfl,V.Rus.nil _,V.Rus.nil _,HB.out⟩
   | false =>
    rw[qh] at a0
    by_cases q3:sa.passes.length=1
    ·have HQ3:=qH q3;have hq3:((sa.passes.length:Nat):Int)=1:=by omega
     obtain⟨p,hp⟩:∃p,sa.passes[0]?=some p:=⟨sa.passes[0]'(by omega),by simp⟩;have HHa:Hid (Tp.headP sa=p):=by show _=_;unfold Tp.headP;rw[hp];rfl
     obtain⟨_,_,e',_,hcs⟩:=HPa.out;cases e';obtain⟨b,off,rfl,hcell⟩:=hcs (by intro h;rw[h] at q3;simp at q3);obtain⟨c0,hn,ro,rc,c1,hr⟩:=hcell 0 p hp;simp only[Nat.zero_mul,Nat.add_zero] at c0 c1;have HRp:=qH hr;clear q3 hcs hcell hr hp HPa
     by_cases q4:sb.passes.length<=1
     ·have hq4:¬(1:Int)<((sb.passes.length:Nat):Int):=by omega
      have HQ4:=qH q4;clear q4;cases qn:(p.name.toList== []) with
      | false =>
       have ho:(([],[],false):List K.Rule×List K.Rule×Bool)=(o1,o2,o3):=by rw[<- HO2.out];unfold Tp.pairF;rw[if_neg (fun h=>by have h4:=h.2.2.2;rw[HHa.out] at h4;rw[h4] at qn;simp at qn)]
       cases ho;clear HPb;go_wp2;refine bodyPost_ret (v:= .tuple #[.slice none 0 0,.slice none 0 0,.bool false]) (by simp[results,results15,go_sem, *]) rfl ?_;exact⟨_,_,rfl,V.Rus.nil _,V.Rus.nil _,HB.out⟩
      | true =>
       have HNm:Hid (p.name.toList= []):=by
        have h:=qn;simp at h;exact h
       have HO3:Hid ((if sb.passes.length=0 then (p.rules,[],true) else (p.rules,(Tp.headP sb).rules,(Tp.headP sb).name.toList== []))=(o1,o2,o3)):=by
        have ho:=HO2.out;unfold Tp.pairF at ho;rw[if_pos ⟨qh,HQ3.out,HQ4.out,by rw[HHa.out];exact HNm.out⟩,HHa.out] at ho;exact ho
       by_cases q6:sb.passes.length=0
       ·have hq6:((sb.passes.length:Nat):Int)=0:=by omega
        have ho:(p.rules,([]:List K.Rule),true)=(o1,o2,o3):=by rw[<- HO3.out,if_pos q6]
        cases ho;clear q6 HPb HO3 HO2;go_wp2;refine bodyPost_ret (v:= .tuple #[.slice ro p.rules.length rc,.slice none 0 0,.bool true]) (by simp[results,results15,go_sem, *]) rfl ?_;exact⟨_,_,rfl,HRp.out,V.Rus.nil _,HB.out⟩
       ·have hq6:¬((sb.passes.length:Nat):Int)=0:=by omega
        have hq7:((sb.passes.length:Nat):Int)=1:=by have:=HQ4.out;omega
        obtain⟨p2,hp2⟩:∃p,sb.passes[0]?=some p:=⟨sb.passes[0]'(by omega),by simp⟩;have HHb:Hid (Tp.headP sb=p2):=by show _=_;unfold Tp.headP;rw[hp2];rfl
        obtain⟨_,_,e',_,hcs⟩:=HPb.out;cases e';obtain⟨b2',off2,rfl,hcell⟩:=hcs (by intro h;rw[h] at q6;simp at q6);obtain⟨d0,hn2,ro2,rc2,d1,hr2⟩:=hcell 0 p2 hp2;simp only[Nat.zero_mul,Nat.add_zero] at d0 d1;have HRq:=qH hr2;have ho:(p.rules,p2.rules,p2.name.toList== [])=(o1,o2,o3):=by rw[<- HO3.out,if_neg q6,HHb.out]
        cases ho;clear hcs hcell hr2 hp2 HPb HO3 HO2 q6 HHb HHa;cases qm:(p2.name.toList== []) with
        | true =>
         go_wp2
         go_big_quiet (fail)
         go_wp2;refine bodyPost_ret (v:= .tuple #[.slice ro p.rules.length rc,.slice ro2 p2.rules.length rc2,.bool true]) (by simp[results,results15,go_sem, *]) rfl ?_
         exact⟨_,_,by rw[qm],HRp.out.below (below_drewN (qR X3) _),HRq.out.below (below_drewN (qR X3) _),below_drewN HB.out _⟩
        | false =>
         go_wp2
         go_big_quiet (fail)
         go_wp2;refine bodyPost_ret (v:= .tuple #[.slice ro p.rules.length rc,.slice ro2 p2.rules.length rc2,.bool false]) (by simp[results,results15,go_sem, *]) rfl ?_
         exact⟨_,_,by rw[qm],HRp.out.below (below_drewN (qR X3) _),HRq.out.below (below_drewN (qR X3) _),below_drewN HB.out _⟩
     ·have hq4:(1:Int)<((sb.passes.length:Nat):Int):=by omega
      have ho:(([],[],false):List K.Rule×List K.Rule×Bool)=(o1,o2,o3):=by rw[<- HO2.out];unfold Tp.pairF;rw[if_neg (fun h=>q4 h.2.2.1)]
      cases ho;clear q4 HPb;go_wp2;refine bodyPost_ret (v:= .tuple #[.slice none 0 0,.slice none 0 0,.bool false]) (by simp[results,results15,go_sem, *]) rfl ?_;exact⟨_,_,rfl,V.Rus.nil _,V.Rus.nil _,HB.out⟩
    ·have hq3:¬((sa.passes.length:Nat):Int)=1:=by omega
     have ho:(([],[],false):List K.Rule×List K.Rule×Bool)=(o1,o2,o3):=by rw[<- HO2.out];unfold Tp.pairF;rw[if_neg (fun h=>q3 h.2.1)]
     cases ho;clear q3 HPa HPb;go_wp2;refine bodyPost_ret (v:= .tuple #[.slice none 0 0,.slice none 0 0,.bool false]) (by simp[results,results15,go_sem, *]) rfl ?_;exact⟨_,_,rfl,V.Rus.nil _,V.Rus.nil _,HB.out⟩
  ·have ho:(([],[],false):List K.Rule×List K.Rule×Bool)=(o1,o2,o3):=by rw[<- HO.out];rw[if_neg (fun h=>q2 h.2)]
   cases ho;clear HPa HPb;go_wp2;refine bodyPost_ret (v:= .tuple #[.slice none 0 0,.slice none 0 0,.bool false]) (by simp[results,results15,go_sem, *]) rfl ?_;exact⟨_,_,rfl,V.Rus.nil _,V.Rus.nil _,HB.out⟩
 ·have ho:(([],[],false):List K.Rule×List K.Rule×Bool)=(o1,o2,o3):=by rw[<- HO.out];rw[if_neg (fun h=>q1 h.1)]
  cases ho;clear HPa HPb;go_wp2;refine bodyPost_ret (v:= .tuple #[.slice none 0 0,.slice none 0 0,.bool false]) (by simp[results,results15,go_sem, *]) rfl ?_;exact⟨_,_,rfl,V.Rus.nil _,V.Rus.nil _,HB.out⟩
theorem zjz (hK:T.ClassOk)(s:ByteArray)(hs:s.size<=1099511627776)(w:World) :
  Calls prog 15 #[.string s] w fun e w'=>∃v1 v2,e= .returned (.tuple #[v1,v2,.bool (Tp.singleF (M.rn s)).2.2])/\V.Rus w' v1 (Tp.singleF (M.rn s)).1/\V.Rus w' v2 (Tp.singleF (M.rn s)).2.1/\Below w.heap.size w w':=by
 cases h:R.read (M.rn s) with
 | ok l q =>
  have e:Tp.singleF (M.rn s)=if (V.forthF l).2.1=0/\(V.backF l).2.1=0 then Tp.pairF (V.forthF l).1 (V.backF l).1 else ([],[],false):=by unfold Tp.singleF;rw[h]
  rw[e];exact zm6 hK s hs w l q h
 | bad er q =>
  have e:Tp.singleF (M.rn s)=([],[],false):=by unfold Tp.singleF;rw[h]
  rw[e];exact zjy hK s hs w er q h
end
section
open Go.RowKit
theorem ze6 {α:Type}{l:List α}{P:α->Bool}{k:Nat}{x:α}(h:l[k]?=some x):(l.take (k+1)).any P=((l.take k).any P||P x):=by
 rw[List.take_add_one,h,List.any_append];simp
theorem zj6 (w:World)(v:Value)(l:List K.Rule)(R0:V.Rus w v l)(g:Nat)(cb:Array Value)(P:K.Rule->Bool)(eg:∀args w,(callFunc g args).run prog w= .ok (.enter g args) w)
  (hh:∀W r u,Below w.heap.size w W->r∈l->K.RuIs W u r->Calls prog g (#[u]++cb) W fun e w'=>e= .returned (.bool (P r))/\Below W.heap.size W w') :
  Calls prog 75 #[v,.func (.func g) #[] cb] w fun e w'=>∃i:Int,e= .returned (.int .i64 i)/\decide (0<=i)=l.any P/\Below w.heap.size w w':=by
 have HR:=qH R0;have HH:=qH hh;have hl:=R0.few;obtain⟨lao,lcap,rfl⟩:=R0.len;clear R0 hh
 go_enter func75,ntmps75
 go_wp2
 go_loopw [8] (fun i wr=>∃j:Nat,j<=l.length/\i= .int .i64 j/\Hid ((l.take j).any P=false)/\Hid (Below w.heap.size w wr)) (fun i _=>l.length - (intOf i).toNat)
 case atStart=>exact⟨0,Nat.zero_le _,rfl,by show (l.take 0).any P=false;simp,qR w⟩
 case round =>
  obtain⟨j,hj,rfl,HW,HB⟩:=hrel
  by_cases hlt:j<l.length
  ·obtain⟨p,hp⟩:∃x,l[j]?=some x:=⟨l[j],by simp[hlt]⟩;obtain⟨ao',cap',e',_,hcs⟩:=HR.out.below HB.out;cases e';obtain⟨b,off,rfl,hcell⟩:=hcs (by intro h;subst h;simp at hlt);obtain⟨bo,bc,so,sc,ao,ac,tgo,tc,a0,a1,a2,a3,a4,a5,a6,hP⟩:=hcell j p hp;have HE2:Hid ((l.take (j+1)).any P=P p/\(P p=true->l.any P=true)):=⟨by rw[ze6 hp,HW.out,Bool.false_or],fun h=>List.any_eq_true.2 ⟨p,List.mem_of_getElem? hp,h⟩⟩;have hsz:=HB.out.size;have HW2:=qH <| HH.out wr p _ HB.out (List.mem_of_getElem? hp) hP;generalize P p=z at HW2 HE2;clear hp hcell hcs hP;obtain⟨st,fi,be,sou,af,ta,cu⟩:=p;simp only at a0 a1 a2 a3 a4 a5 a6 HW2
   go_wp2_with fail
   refine HW2.out.mono ?_;rintro e w1 ⟨rfl,B1⟩;have HB1:=qH <| HB.out.trans (B1.mono hsz);clear B1;cases z with
   | false =>
    have HT:=qH HE2.out.1;clear HE2;go_wp2
    go_roundw
    case rel=>exact⟨j+1,by omega,by go_num,HT,HB1⟩
    case measure=>simp[intOf];omega
   | true =>
    have HT:=qH <| HE2.out.2 rfl;clear HE2;go_wp2;go_ret;exact⟨j,rfl,by rw[HT.out];simp,HB1.out⟩
  ·have hkl:j=l.length:=by omega
   subst hkl;go_wp2;go_ret;exact⟨-1,rfl,by have:=HW.out;rw[List.take_length] at this;rw[this];rfl,HB.out⟩
theorem zfm (w:World)(v:Value)(l:List K.Rule)(R0:V.Rus w v l)(g:Nat)(cb:Array Value)(P:K.Rule->Bool)(eg:∀args w,(callFunc g args).run prog w= .ok (.enter g args) w)
  (hh:∀W r u,Below w.heap.size w W->r∈l->K.RuIs W u r->Calls prog g (#[u]++cb) W fun e w'=>e= .returned (.bool (P r))/\Below W.heap.size W w') :
  Calls prog 34 #[v,.func (.func g) #[] cb] w fun e w'=>e= .returned (.bool (l.any P))/\Below w.heap.size w w':=by
 have h:=zj6 w v l R0 g cb P eg hh;obtain⟨aa,ca,rfl⟩:=R0.len;clear R0 hh
 go_enter func34,ntmps34
 go_wp2_with fail
 refine h.mono ?_;rintro e w1 ⟨i,rfl,hi,hb⟩;have HI:Hid _:=hi;clear hi;go_wp2;go_ret;exact⟨L.zaj HI.out,hb⟩
theorem zj7 (w:World)(v:Value)(l:List Int)(R0:L.Rd w v .i32 l)(hl:l.length<=140737488355328)(g:Nat)(cb:Array Value)(P:Int->Bool)(eg:∀args w,(callFunc g args).run prog w= .ok (.enter g args) w)
  (hh:∀W r,Below w.heap.size w W->r∈l->Calls prog g (#[.int .i32 r]++cb) W fun e w'=>e= .returned (.bool (P r))/\Below W.heap.size W w') :
  Calls prog 65 #[v,.func (.func g) #[] cb] w fun e w'=>∃i:Int,e= .returned (.int .i64 i)/\decide (0<=i)=l.any P/\Below w.heap.size w w':=by
 have HH:=qH hh;obtain⟨lao,lcap,rfl,_,hcs⟩:=R0;have HC:=qH hcs;clear hh hcs
 go_enter func65,ntmps65
 go_wp2
 go_loopw [8] (fun i wr=>∃j:Nat,j<=l.length/\i= .int .i64 j/\Hid ((l.take j).any P=false)/\Hid (Below w.heap.size w wr)) (fun i _=>l.length - (intOf i).toNat)
 case atStart=>exact⟨0,Nat.zero_le _,rfl,by show (l.take 0).any P=false;simp,qR w⟩
 case round =>
  obtain⟨j,hj,rfl,HW,HB⟩:=hrel
  by_cases hlt:j<l.length
  ·obtain⟨p,hp⟩:∃x,l[j]?=some x:=⟨l[j],by simp[hlt]⟩;obtain⟨b,off,rfl,hcell⟩:=HC.out (by intro h;subst h;simp at hlt);have c0:=hcell j p hp;rw[<- HB.out.cell (p:=⟨b,off+j,none⟩) (L.block_lt c0)] at c0;have HE2:Hid ((l.take (j+1)).any P=P p/\(P p=true->l.any P=true)):=⟨by rw[ze6 hp,HW.out,Bool.false_or],fun h=>List.any_eq_true.2 ⟨p,List.mem_of_getElem? hp,h⟩⟩;have hsz:=HB.out.size;have HW2:=qH <| HH.out wr p HB.out (List.mem_of_getElem? hp);generalize P p=z at HW2 HE2;clear hp hcell
   go_wp2_with fail
   refine HW2.out.mono ?_;rintro e w1 ⟨rfl,B1⟩;have HB1:=qH <| HB.out.trans (B1.mono hsz);clear B1;cases z with
   | false =>
    have HT:=qH HE2.out.1;clear HE2;go_wp2
    go_roundw
    case rel=>exact⟨j+1,by omega,by go_num,HT,HB1⟩
    case measure=>simp[intOf];omega
   | true =>
    have HT:=qH <| HE2.out.2 rfl;clear HE2;go_wp2;go_ret;exact⟨j,rfl,by rw[HT.out];simp,HB1.out⟩
  ·have hkl:j=l.length:=by omega
   subst hkl;go_wp2;go_ret;exact⟨-1,rfl,by have:=HW.out;rw[List.take_length] at this;rw[this];rfl,HB.out⟩
theorem zp6 (w:World)(v:Value)(l:List Int)(R0:L.Rd w v .i32 l)(hl:l.length<=140737488355328)(g:Nat)(cb:Array Value)(P:Int->Bool)(eg:∀args w,(callFunc g args).run prog w= .ok (.enter g args) w)
  (hh:∀W r,Below w.heap.size w W->r∈l->Calls prog g (#[.int .i32 r]++cb) W fun e w'=>e= .returned (.bool (P r))/\Below W.heap.size W w') :
  Calls prog 119 #[v,.func (.func g) #[] cb] w fun e w'=>e= .returned (.bool (l.any P))/\Below w.heap.size w w':=by
 have h:=zj7 w v l R0 hl g cb P eg hh;obtain⟨aa,ca,rfl,_⟩:=R0;clear hh
 go_enter func119,ntmps119
 go_wp2_with fail
 refine h.mono ?_;rintro e w1 ⟨i,rfl,hi,hb⟩;have HI:Hid _:=hi;clear hi;go_wp2;go_ret;exact⟨L.zaj HI.out,hb⟩
