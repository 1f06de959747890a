import Derived.Test.YtcadaallpiekiaaGreatDoorVLook
import Derived.Deep.RegionHeld3
import Derived.Deep.DeepCutAuto
set_option maxHeartbeats 0
set_option maxRecDepth 20000
set_option linter.unusedSimpArgs false
set_option linter.unusedVariables false
namespace Go.Proofs.YtcadaallpiekiaaGreatDoor
open Go.Proofs.Tryz
namespace V
abbrev Known:=ByteArray->Option (List S.Sp)
def unkP (kn:Known) (x:R.Item):Bool:=decide (x.kind=3)&& !(kn x.name).isSome
def unkSP (kn:Known) (s:R.Side):Bool:=s.before.any (unkP kn)||s.source.any (unkP kn)||s.after.any (unkP kn)
def stepE (kn:Known) (flt:Bool) (p:R.Part):Int :=
 if p.kind=1 then (if (kn p.name).isSome=true then 7 else 0)
 else if p.kind=3 then (if flt=true then 5 else 0)
 else if p.kind=2 then (if (unkSP kn p.left||unkSP kn p.right)=true then 7 else 0) else 0
def stepK (kn:Known) (p:R.Part):Known:=if p.kind=1 then fun t=>if t=p.name then some p.set else kn t else kn
def stepF (flt:Bool) (p:R.Part):Bool:=if p.kind=3 then true else flt
def ordF:Nat->Known->Bool->List R.Part->(Int×Nat)×Known
 | _,kn,_,[]=>((0,0),kn)
 | k,kn,flt,p::l=>if stepE kn flt p=0 then ordF (k+1) (stepK kn p) (stepF flt p) l else ((stepE kn flt p,k),fun _=>none)
def varsF (l:List R.Part):(Int×Nat)×Known:=if (R.wrong l).1=0 then ordF 0 (fun _=>none) false l else (R.wrong l,fun _=>none)
theorem zpu {l:List R.Part}{k:Nat}{p:R.Part}{kn:Known}{flt:Bool}(h:l[k]?=some p):ordF k kn flt (l.drop k)=if stepE kn flt p=0 then ordF (k+1) (stepK kn p) (stepF flt p) (l.drop (k+1)) else ((stepE kn flt p,k),fun _=>none):=by
 have hlt:=(qL.1 h).1;rw[List.drop_eq_getElem_cons hlt];have:l[k]=p:=by rw[List.getElem?_eq_getElem hlt] at h;exact Option.some.inj h
 rw[this];rfl
def gOf (kn:Known) (s:ByteArray):List S.Sp:=(kn s).getD []
def ruleOf (g:ByteArray->List S.Sp) (a b:R.Side):K.Rule :=
 ⟨a.start,a.fin,a.before.map (setOf g),a.source.map (setOf g),a.after.map (setOf g),b.source.map (·.rune),if b.cursor<0 then (b.source.length:Int) else b.cursor⟩
def putP (ps:List Pass) (r:K.Rule):List Pass :=
 match ps.getLast? with
 | some p=>if p.name.size=0 then ps.dropLast++ [⟨p.name,p.rules++ [r]⟩] else ps++ [⟨⟨#[]⟩,[r]⟩]
 | none=> [⟨⟨#[]⟩,[r]⟩]
def scrStep (g:ByteArray->List S.Sp) (s:Script) (p:R.Part):Script :=
 if p.kind=3 then ⟨true,p.set,s.passes⟩
 else if p.kind=4 then ⟨s.has,s.only,s.passes++ [⟨p.name,[]⟩]⟩
 else if p.kind=2 then (if p.dir=2 then s else ⟨s.has,s.only,putP s.passes (ruleOf g p.left p.right)⟩)
 else s
def scr (g:ByteArray->List S.Sp) (l:List R.Part):Script:=l.foldl (scrStep g) ⟨false,[],[]⟩
def turn (p:R.Part):R.Part :=
 if p.kind=4 then { p with name:=opp p.name }
 else if p.kind=2 then { p with left:=p.right,dir:=against p.dir,right:=p.left } else p
def forthF (l:List R.Part):Script×Int×Nat:=if (varsF l).1.1=0 then (scr (gOf (varsF l).2) l,0,0) else (⟨false,[],[]⟩,(varsF l).1)
def backF (l:List R.Part):Script×Int×Nat :=
 if (varsF l).1.1=0 then (⟨(scr (gOf (varsF l).2) (l.map turn)).has,(scr (gOf (varsF l).2) (l.map turn)).only,(scr (gOf (varsF l).2) (l.map turn)).passes.reverse⟩,0,0) else (⟨false,[],[]⟩,(varsF l).1)
end V
namespace V
open Go.RowKit
theorem elemP:R.Elem 28 74 2:=⟨underlying28,⟨.agg #[.string ⟨#[]⟩,.slice none 0 0],40,by kernel_rfl,by decide,rfl⟩,by decide⟩
theorem elemR:R.Elem 72 79 7:=⟨underlying72,⟨.agg #[.bool false,.bool false,.slice none 0 0,.slice none 0 0,.slice none 0 0,.slice none 0 0,.int .i64 0],112,by kernel_rfl,by decide,rfl⟩,by decide⟩
def Leaf (tops:List Nat) (w:World) (Q:World->Prop):Prop:=∀W:World,w.heap.size<=W.heap.size->(∀b,b<w.heap.size->b∉tops->W.heap[b]?=w.heap[b]?)->Q W
theorem Leaf.here {tops:List Nat}{w:World}{Q:World->Prop}(h:Leaf tops w Q):Q w:=h w qN fun _ _ _=>rfl
theorem Leaf.step {tops tops':List Nat}{w w':World}{Q:World->Prop}(h:Leaf tops w Q)(hs:w.heap.size<=w'.heap.size)(hk:∀b,b<w.heap.size->b∉tops->w'.heap[b]?=w.heap[b]?)(ht:∀k∈tops',k∈tops∨w.heap.size<=k):Leaf tops' w' Q :=
 fun W h1 h2=>h W (Nat.le_trans hs h1) fun b hb hn=>(h2 b (by omega) fun hm=>by rcases ht b hm with h|h;exact hn h;omega).trans (hk b hb hn)
def Moves (tops:List Nat) (w:World) (tops':List Nat) (w':World):Prop:=w.heap.size<=w'.heap.size/\(∀b,b<w.heap.size->b∉tops->w'.heap[b]?=w.heap[b]?)/\(∀k∈tops',k∈tops∨w.heap.size<=k)/\∀k∈tops,k∈tops'
theorem Moves.of_below {tops:List Nat}{w w':World}(hb:Bl w w'):Moves tops w tops w':=⟨hb.size,fun b h _=>hb.block b h,fun k hk=> .inl hk,fun k hk=>hk⟩
theorem Moves.trans {t t1 t2:List Nat}{w w1 w2:World}(h:Moves t w t1 w1)(h':Moves t1 w1 t2 w2):Moves t w t2 w2 :=
 ⟨Nat.le_trans h.1 h'.1,fun b hb hn=>(h'.2.1 b (Nat.lt_of_lt_of_le hb h.1) fun hm=>(h.2.2.1 b hm).elim hn fun h1=>absurd hb (Nat.not_lt.2 h1)).trans (h.2.1 b hb hn),fun k hk=>(h'.2.2.1 k hk).elim (h.2.2.1 k) fun h1=> .inr (Nat.le_trans h.1 h1),fun k hk=>h'.2.2.2 k (h.2.2.2 k hk)⟩
theorem Leaf.moves {tops tops':List Nat}{w w':World}{Q:World->Prop}(h:Leaf tops w Q)(m:Moves tops w tops' w'):Leaf tops' w' Q:=h.step m.1 m.2.1 m.2.2.1
def RuRow (F:Nat) (tops:List Nat) (w:World) (rv:Value) (rs:List K.Rule):Prop :=
 ∃cs:List (List Value),w.ownsRow F 79 7 rv rs.length cs.flatten/\cs.length=rs.length/\(∀c∈cs,c.length=7/\∀u∈c,u.oneCell'=true)/\∀(j:Nat) r c,rs[j]?=some r->cs[j]?=some c->Leaf tops w fun W=>K.RuIs W (.agg c.toArray) r
theorem RuRow.nil (F:Nat)(tops:List Nat)(w:World):RuRow F tops w (.slice none 0 0) []:=⟨[],World.ownsRow_nil _ _ _ _,rfl,fun c hc=>(by cases hc),fun j r c h=>by cases h⟩
theorem zd0 {F:Nat}{e:TypeId}{k:Nat}{w w':World}{v:Value}{n:Nat}{xs:List Value}(h:w.ownsRow F e k v n xs)(hb:∀g,v.ownBlock=some g->w'.heap[g]?=w.heap[g]?):w'.ownsRow F e k v n xs:=by
 refine⟨h.1,?_⟩;rcases h.2 with h|⟨g,cap,cur,hv,hB,hg,r⟩
 ·exact .inl h
 ·exact .inr ⟨g,cap,cur,hv,hB,by rw[hb g (by rw[hv];rfl)];exact hg,r⟩
theorem RuRow.step {F:Nat}{tops tops':List Nat}{w w':World}{rv:Value}{rs:List K.Rule}(h:RuRow F tops w rv rs)(hs:w.heap.size<=w'.heap.size)(hk:∀b,b<w.heap.size->b∉tops->w'.heap[b]?=w.heap[b]?)(ht:∀k∈tops',k∈tops∨w.heap.size<=k)(hr:∀g,rv.ownBlock=some g->w'.heap[g]?=w.heap[g]?):RuRow F tops' w' rv rs:=by
 obtain⟨cs,own,hl,hc,hm⟩:=h;exact⟨cs,zd0 own hr,hl,hc,fun j r c h1 h2=>(hm j r c h1 h2).step hs hk ht⟩
def pcells:List Pass->List Value->List Value
 | p::ps,rv::rvs=> .string p.name::rv::pcells ps rvs
 | _,_=> []
theorem zbh:∀ {ps:List Pass} {rvs:List Value} (qs:List Pass) (svs:List Value),rvs.length=ps.length->pcells (ps++qs) (rvs++svs)=pcells ps rvs++pcells qs svs
 | [],[],qs,svs,_=>rfl
 | p::ps,rv::rvs,qs,svs,h=>by
  show Value.string p.name::rv::pcells (ps++qs) (rvs++svs)=Value.string p.name::rv::(pcells ps rvs++pcells qs svs);rw[zbh qs svs (by simpa using h)]
 | [],_::_,_,_,h=>by simp at h
 | _::_,[],_,_,h=>by simp at h
theorem zbs:∀ {ps:List Pass} {rvs:List Value},rvs.length=ps.length->(pcells ps rvs).length=ps.length*2
 | [],[],_=>rfl
 | p::ps,rv::rvs,h=>by
  show (pcells ps rvs).length+1+1=(ps.length+1)*2;rw[zbs (by simpa using h)];omega
 | [],_::_,h=>by simp at h
 | _::_,[],h=>by simp at h
structure PS (F:Nat) (tops:List Nat) (w:World) (vp:Value) (ps:List Pass) (rvs:List Value):Prop where
 len:rvs.length=ps.length
 own:w.ownsRow F 74 2 vp ps.length (pcells ps rvs)
 rows:∀(j:Nat) p rv,ps[j]?=some p->rvs[j]?=some rv->RuRow F tops w rv p.rules/\p.name.size<=140737488355328
 top:∀k,(vp.ownBlock=some k∨∃rv∈rvs,rv.ownBlock=some k)->k∈tops
 apart:∀rv∈rvs,∀k,rv.ownBlock=some k->vp.ownBlock≠some k
 diff:∀(i j:Nat) ri rj k,rvs[i]?=some ri->rvs[j]?=some rj->i≠j->ri.ownBlock=some k->rj.ownBlock≠some k
 lt:∀k∈tops,k<w.heap.size
theorem PS.nil (F:Nat)(w:World):PS F [] w (.slice none 0 0) [] [] :=
 ⟨rfl,World.ownsRow_nil _ _ _ _,fun j p rv h=>(by cases h),fun k h=>(by rcases h with h|⟨rv,h,_⟩;cases h;cases h),fun rv h=>(by cases h),fun i j ri rj k h=>(by cases h),fun k h=>by cases h⟩
theorem PS.start (F:Nat)(w:World)(tops:List Nat)(ht:∀k∈tops,k<w.heap.size):PS F tops w (.slice none 0 0) [] [] :=
 ⟨rfl,World.ownsRow_nil _ _ _ _,fun j p rv h=>(by cases h),fun k h=>(by rcases h with h|⟨rv,h,_⟩;cases h;cases h),fun rv h=>(by cases h),fun i j ri rj k h=>(by cases h),ht⟩
theorem PS.rvlt {F:Nat}{tops:List Nat}{w:World}{vp:Value}{ps:List Pass}{rvs:List Value}(h:PS F tops w vp ps rvs){rv:Value}(hm:rv∈rvs):∀k,rv.ownBlock=some k->F<=k/\k<w.heap.size:=fun k hk=>by
 obtain⟨j,hj⟩:=List.getElem?_of_mem hm;have hlt:j<ps.length:=by rw[<- h.len];exact(qL.1 hj).1
 obtain⟨⟨cs,own,_⟩,_⟩:=h.rows j ps[j] rv (by simp) hj;exact own.lt k hk
theorem PS.below {F:Nat}{tops:List Nat}{w w':World}{vp:Value}{ps:List Pass}{rvs:List Value}(h:PS F tops w vp ps rvs)(hb:Bl w w'):PS F tops w' vp ps rvs :=
 ⟨h.len,zd0 h.own fun g hg=>hb.block g (h.own.lt g hg).2,fun j p rv h1 h2=>⟨(h.rows j p rv h1 h2).1.step hb.size (fun b hb' _=>hb.block b hb') (fun k hk=> .inl hk) fun g hg=>hb.block g (h.rvlt (List.mem_of_getElem? h2) g hg).2,(h.rows j p rv h1 h2).2⟩,h.top,h.apart,h.diff,fun k hk=>Nat.lt_of_lt_of_le (h.lt k hk) hb.size⟩
theorem PS.more {F:Nat}{tops:List Nat}{w w':World}{vp vp':Value}{ps:List Pass}{rvs:List Value}(h:PS F tops w vp ps rvs)(nm:ByteArray)(hn:nm.size<=140737488355328)
  (ho:w'.ownsRow F 74 2 vp' (ps.length+1) (pcells ps rvs++ [.string nm,.slice none 0 0])) (hg:w.grownBy w' vp.ownBlock) (hv:∀g,vp'.ownBlock=some g->vp.ownBlock=some g∨w.heap.size<=g) :
  ∃tops',PS F tops' w' vp' (ps++ [⟨nm,[]⟩]) (rvs++ [.slice none 0 0])/\Moves tops w tops' w':=by
 have hk:∀b,b<w.heap.size->b∉tops->w'.heap[b]?=w.heap[b]?:=fun b hb hn=>hg.block b hb fun e=>hn (h.top b (.inl e.symm))
 obtain⟨nt,hnt,hnt2,hnt3⟩:∃nt:List Nat,(∀g,vp'.ownBlock=some g->g∈nt)/\(∀k∈nt,vp.ownBlock=some k∨w.heap.size<=k)/\∀k∈nt,k<w'.heap.size:=by
  cases hvo:vp'.ownBlock with
  | none=>exact⟨[],fun g h=>(by cases h),fun k h=>(by cases h),fun k h=>by cases h⟩
  | some g=>exact⟨[g],fun g' h=>(by cases h;simp),fun k hk=>(by rw[List.mem_singleton.1 hk];exact hv g hvo),fun k hk=>by rw[List.mem_singleton.1 hk];exact(ho.lt g hvo).2⟩
 have ht:∀k∈tops++nt,k∈tops∨w.heap.size<=k:=fun k hk'=>by
  rcases List.mem_append.1 hk' with h1|h1
  ·exact .inl h1
  ·exact(hnt2 k h1).imp (fun h2=>h.top k (.inl h2)) id
 refine⟨tops++nt,⟨by simp[h.len],?_,fun j p rv h1 h2=> ?_,fun k hk'=> ?_,fun rv hm k hk' e=> ?_,fun i j ri rj k h1 h2 hne h3=> ?_,fun k hk'=> ?_⟩,⟨hg.size,hk,ht,fun k hk'=>List.mem_append_left _ hk'⟩⟩
 ·rw[zbh _ _ h.len,List.length_append];exact ho
 ·by_cases hj:j<ps.length
  ·rw[List.getElem?_append_left hj] at h1;rw[List.getElem?_append_left (by rw[h.len];exact hj)] at h2;have hr:=h.rows j p rv h1 h2;exact⟨hr.1.step hg.size hk ht fun g hg'=>hg.block g (h.rvlt (List.mem_of_getElem? h2) g hg').2 fun e=>h.apart rv (List.mem_of_getElem? h2) g hg' e.symm,hr.2⟩
  ·rw[List.getElem?_append_right (by omega)] at h1;rw[List.getElem?_append_right (by rw[h.len];omega),h.len] at h2
   have hj0:j-ps.length=0:=by
    have:=(qL.1 h1).1;simp at this;omega
   rw[hj0] at h1 h2;cases h1;cases h2;exact⟨RuRow.nil _ _ _,hn⟩
 ·rcases hk' with h1|⟨rv,hm,h1⟩
  ·exact List.mem_append_right _ (hnt k h1)
  ·rcases List.mem_append.1 hm with hm|hm
   ·exact List.mem_append_left _ (h.top k (.inr ⟨rv,hm,h1⟩))
   ·rw[List.mem_singleton.1 hm] at h1;cases h1
 ·rcases List.mem_append.1 hm with hm|hm
  ·rcases hv k e with h1|h1
   ·exact h.apart rv hm k hk' h1
   ·have:=(h.rvlt hm k hk').2;omega
  ·rw[List.mem_singleton.1 hm] at hk';cases hk'
 ·have hl:=h.len
  by_cases hi:i<rvs.length
  ·rw[List.getElem?_append_left hi] at h1
   by_cases hj:j<rvs.length
   ·rw[List.getElem?_append_left hj] at h2;exact h.diff i j ri rj k h1 h2 hne h3
   ·rw[List.getElem?_append_right (by omega)] at h2;have hm:=List.mem_of_getElem? h2;rw[List.mem_singleton.1 hm];simp[Value.ownBlock]
  ·rw[List.getElem?_append_right (by omega)] at h1;have hm:=List.mem_of_getElem? h1;rw[List.mem_singleton.1 hm] at h3;cases h3
 ·rcases List.mem_append.1 hk' with h1|h1
  ·exact Nat.lt_of_lt_of_le (h.lt k h1) hg.size
  ·exact hnt3 k h1
theorem PS.put {F:Nat}{tops:List Nat}{w:World}{init:List Pass}{p:Pass}{rvi:List Value}{rv:Value}{X cap:Nat}(h:PS F tops w (.slice (some ⟨X,0,none⟩) (init.length+1) cap) (init++ [p]) (rvi++ [rv]))(hli:rvi.length=init.length)(r:K.Rule)(c7:List Value)(hc7:c7.length=7/\∀u∈c7,u.oneCell'=true)(hm:Leaf tops w fun W=>K.RuIs W (.agg c7.toArray) r)(sb:Nat)(hsb:∀(q:Nat) u,c7[q]?=some u->w.cell? ⟨sb,q,none⟩=some u)(hF:F<=w.heap.size)(hr:p.rules.length<=1000) :
  ∃rv' W1,(∀ty,(Builtin.append_ #[72,72] ty #[rv,.slice (some ⟨sb,0,none⟩) 1 1]).run prog w=.ok rv' W1)/\(∃g c,rv'=.slice (some ⟨g,0,none⟩) (p.rules.length+1) c)/\W1.cell? ⟨X,init.length*2+1,none⟩=some rv/\W1.frozen? ⟨X,init.length*2+1,none⟩=false/\w.grownBy W1 rv.ownBlock /\
   ∃tops',PS F tops' (W1.setCell ⟨X,init.length*2+1,none⟩ rv') (.slice (some ⟨X,0,none⟩) (init.length+1) cap) (init++ [⟨p.name,p.rules++ [r]⟩]) (rvi++ [rv'])/\Below F w (W1.setCell ⟨X,init.length*2+1,none⟩ rv')/\Moves tops w tops' (W1.setCell ⟨X,init.length*2+1,none⟩ rv'):=by
 have hlast:(init++ [p])[init.length]?=some p:=by simp
 have hlastv:(rvi++ [rv])[init.length]?=some rv:=by rw[<- hli];simp
 have hmem:rv∈rvi++ [rv]:=by simp
 obtain⟨⟨cs,own,hcl,hcs,hmean⟩,hnm⟩:=h.rows init.length p rv hlast hlastv;obtain⟨rv',W1,hrun,own1,gr1,hv1⟩:=R.zfh elemR w 0 F rv p.rules.length cs.flatten own ⟨sb,0,none⟩ 1 1 c7 (by rw[hc7.1]) (fun q u hq=>by rw[L.addr_add,Nat.zero_add];exact hsb q u hq) hc7.2 (by omega) hF;have hXtop:=h.top X (.inl rfl);have hXr:rv.ownBlock≠some X:=fun e=>h.apart rv hmem X e rfl
 have hXlt:=(h.own.lt X rfl).2;have hXF:=(h.own.lt X rfl).1;have hX1:=gr1.block X hXlt fun e=>hXr e.symm
 obtain⟨cur,hg,hnc,hmx,hsz,htk⟩:∃cur,w.heap[X]?=some (.cells cur 74 (0,0))/\init.length+1<=cap/\cap<=maxLen/\cur.size=cap*2/\cur.toList.take ((init++ [p]).length*2)=pcells (init++ [p]) (rvi++ [rv]):=by
  rcases h.own.2 with ⟨e,_⟩|⟨g,cap',cur,e,_,hg,h1,h2,h3,h4⟩
  ·cases e
  ·obtain⟨e1,_,e3⟩:=Value.slice.inj e;cases e1;subst e3;exact⟨cur,hg,by simpa using h1,h2,h3,h4⟩
 rw[zbh _ _ hli,List.length_append] at htk;have hpl:=zbs hli
 have hidx:cur[init.length*2+1]?=some rv:=by
  have e1:(cur.toList.take ((init.length+ [p].length)*2))[init.length*2+1]?=some rv:=by
   rw[htk,List.getElem?_append_right (by omega),hpl,show init.length*2+1-init.length*2=1 by omega];rfl
  rw[List.getElem?_take] at e1;split at e1
  ·simpa using e1
  ·cases e1
 have hilt:=(qA.1 hidx).1;have hXc:=hX1.trans hg;have hset:=heap_setCell_same W1 X (init.length*2+1) _ _ rv' hXc;have oth:∀k,k≠X->(W1.setCell ⟨X,init.length*2+1,none⟩ rv').heap[k]?=W1.heap[k]?:=fun k hk=>heap_setCell_other W1 ⟨X,init.length*2+1,none⟩ k _ hk
 have hsz2:(W1.setCell ⟨X,init.length*2+1,none⟩ rv').heap.size=W1.heap.size:=by simp
 obtain⟨g',c',hrv'⟩:∃g c,rv'=.slice (some ⟨g,0,none⟩) (p.rules.length+1) c:=by
  rcases own1.2 with ⟨_,h0⟩|⟨g,c,cur',e,_⟩
  ·omega
  ·exact⟨g,c,e⟩
 have hrb:rv'.ownBlock=some g':=by rw[hrv'];rfl
 have hgX:g'≠X:=fun e=>by
  rcases hv1 g' hrb with h1|h1
  ·exact hXr (e▸h1)
  ·omega
 have hk:∀b,b<w.heap.size->b∉tops->(W1.setCell ⟨X,init.length*2+1,none⟩ rv').heap[b]?=w.heap[b]?:=fun b hb hn=>by
  rw[oth b fun e=>hn (e▸hXtop)];exact gr1.block b hb fun e=>hn (h.top b (.inr ⟨rv,hmem,e.symm⟩))
 have hs:w.heap.size<=(W1.setCell ⟨X,init.length*2+1,none⟩ rv').heap.size:=by rw[hsz2];exact gr1.size
 have ht:∀k∈tops++ [g'],k∈tops∨w.heap.size<=k:=fun k hk'=>by
  rcases List.mem_append.1 hk' with h1|h1
  ·exact .inl h1
  ·rw[List.mem_singleton.1 h1];exact(hv1 g' hrb).imp (fun h2=>h.top g' (.inr ⟨rv,hmem,h2⟩)) id
 have hBw:Below F w (W1.setCell ⟨X,init.length*2+1,none⟩ rv'):=((Below.refl F w).grown gr1 hF fun k hk'=>(own.lt k hk').1).setCell (p:=⟨X,init.length*2+1,none⟩) hXF _
 have hother:∀u∈rvi,∀k,u.ownBlock=some k->k≠X/\rv.ownBlock≠some k/\k<w.heap.size:=fun u hu k hk'=>by
  obtain⟨q,hq⟩:=List.getElem?_of_mem hu;have hql:=(qL.1 hq).1;have hq2:(rvi++ [rv])[q]?=some u:=by rw[List.getElem?_append_left hql];exact hq
  exact⟨fun e=>h.apart u (List.mem_append_left _ hu) k hk' (by rw[e];rfl),h.diff q init.length u rv k hq2 hlastv (by omega) hk',(h.rvlt (List.mem_append_left _ hu) k hk').2⟩
 refine⟨rv',W1,fun ty=>hrun,⟨g',c',hrv'⟩,by rw[World.cell?];simp only[show W1.heap[X]?=_ from hXc];simpa using hidx,frozen_of_row W1 X _ _ _ hXc,gr1,tops++ [g'],⟨by simp[hli],?_,fun q p' u h1 h2=> ?_,fun k hk'=> ?_,fun u hu k hk' e=> ?_,fun q1 q2 u1 u2 k h1 h2 hne h3 e=> ?_,fun k hk'=> ?_⟩,hBw,hs,hk,ht,fun k hk'=>List.mem_append_left _ hk'⟩
 ·refine⟨by rw[zbs (by simp[hli])],.inr ⟨X,cap,_,by simp,hXF,hset,by simpa using hnc,hmx,by simp[hsz],?_⟩⟩;rw[zbh _ _ hli,List.length_append,Array.toList_setIfInBounds,List.take_set];have e2:([(⟨p.name,p.rules++ [r]⟩:Pass)].length:Nat)= [p].length:=rfl;rw[e2,htk,List.set_append_right _ _ (by omega),hpl,show init.length*2+1-init.length*2=1 by omega];rfl
 ·by_cases hq:q<init.length
  ·rw[List.getElem?_append_left hq] at h1;rw[List.getElem?_append_left (by rw[hli];exact hq)] at h2;have hrw:=h.rows q p' u (by rw[List.getElem?_append_left hq];exact h1) (by rw[List.getElem?_append_left (by rw[hli];exact hq)];exact h2);refine⟨hrw.1.step hs hk ht fun k hk'=> ?_,hrw.2⟩;obtain⟨o1,o2,o3⟩:=hother u (List.mem_of_getElem? h2) k hk';rw[oth k o1];exact gr1.block k o3 fun e=>o2 e.symm
  ·rw[List.getElem?_append_right (by omega)] at h1;rw[List.getElem?_append_right (by rw[hli];omega),hli] at h2
   have hq0:q-init.length=0:=by
    have:=(qL.1 h1).1;simp at this;omega
   rw[hq0] at h1 h2;cases h1;cases h2;refine⟨⟨cs++ [c7],?_,by simp[hcl],fun c hc=> ?_,fun i r' c h1 h2=> ?_⟩,hnm⟩
   ·rw[List.flatten_append,List.length_append];have e3: [c7].flatten=c7:=by simp
    rw[e3]
    exact zd0 own1 fun k hk'=>by
     rw[hrb] at hk';cases hk';exact oth g' hgX
   ·rcases List.mem_append.1 hc with hc|hc
    ·exact hcs c hc
    ·rw[List.mem_singleton.1 hc];exact hc7
   ·by_cases hi:i<p.rules.length
    ·rw[List.getElem?_append_left hi] at h1;rw[List.getElem?_append_left (by rw[hcl];exact hi)] at h2;exact(hmean i r' c h1 h2).step hs hk ht
    ·rw[List.getElem?_append_right (by omega)] at h1;rw[List.getElem?_append_right (by rw[hcl];omega),hcl] at h2
     have hi0:i-p.rules.length=0:=by
      have:=(qL.1 h1).1;simp at this;omega
     rw[hi0] at h1 h2;cases h1;cases h2;exact hm.step hs hk ht
 ·rcases hk' with h1|⟨u,hu,h1⟩
  ·exact List.mem_append_left _ (h.top k (.inl h1))
  ·rcases List.mem_append.1 hu with hu|hu
   ·exact List.mem_append_left _ (h.top k (.inr ⟨u,List.mem_append_left _ hu,h1⟩))
   ·rw[List.mem_singleton.1 hu,hrb] at h1;cases h1;simp
 ·have hkX:k=X:=by simpa [Value.ownBlock] using e.symm
  rcases List.mem_append.1 hu with hu|hu
  ·exact(hother u hu k hk').1 hkX
  ·rw[List.mem_singleton.1 hu,hrb] at hk';cases hk';exact hgX hkX
 ·have fresh:∀u∈rvi,u.ownBlock=some k->rv'.ownBlock=some k->False:=fun u hu hk1 hk2=>by
   obtain⟨o1,o2,o3⟩:=hother u hu k hk1;rcases hv1 k hk2 with h1|h1
   ·exact o2 h1
   ·omega
  by_cases hq1:q1<rvi.length
  ·rw[List.getElem?_append_left hq1] at h1
   by_cases hq2:q2<rvi.length
   ·rw[List.getElem?_append_left hq2] at h2;exact h.diff q1 q2 u1 u2 k (by rw[List.getElem?_append_left hq1];exact h1) (by rw[List.getElem?_append_left hq2];exact h2) hne h3 e
   ·rw[List.getElem?_append_right (by omega)] at h2;have hm2:=List.mem_of_getElem? h2;rw[List.mem_singleton.1 hm2] at e;exact fresh u1 (List.mem_of_getElem? h1) h3 e
  ·rw[List.getElem?_append_right (by omega)] at h1;have hm1:=List.mem_of_getElem? h1;rw[List.mem_singleton.1 hm1] at h3
   by_cases hq2:q2<rvi.length
   ·rw[List.getElem?_append_left hq2] at h2;exact fresh u2 (List.mem_of_getElem? h2) e h3
   ·rw[List.getElem?_append_right (by omega)] at h2;have l1:=(qL.1 h1).1;have l2:=(qL.1 h2).1;simp at l1 l2;omega
 ·rw[hsz2];rcases List.mem_append.1 hk' with h1|h1
  ·exact Nat.lt_of_lt_of_le (h.lt k h1) gr1.size
  ·rw[List.mem_singleton.1 h1];exact(own1.lt g' hrb).2
theorem PS.cells {F:Nat}{tops:List Nat}{w:World}{init:List Pass}{p:Pass}{rvi:List Value}{rv:Value}{X cap:Nat}(h:PS F tops w (.slice (some ⟨X,0,none⟩) (init.length+1) cap) (init++ [p]) (rvi++ [rv]))(hli:rvi.length=init.length):w.cell? ⟨X,init.length*2,none⟩=some (.string p.name)/\w.cell? ⟨X,init.length*2+1,none⟩=some rv:=by
 have hc:=World.ownsRow.cells h.own (g:=X) rfl;rw[zbh _ _ hli] at hc;have hpl:=zbs hli;have c0:=hc (init.length*2) (.string p.name) (by rw[List.getElem?_append_right (by omega),hpl,Nat.sub_self];rfl);have c1:=hc (init.length*2+1) rv (by rw[List.getElem?_append_right (by omega),hpl,show init.length*2+1-init.length*2=1 by omega];rfl);rw[L.addr_add,Nat.zero_add] at c0 c1;exact⟨c0,c1⟩
theorem PS.slice {F:Nat}{tops:List Nat}{w:World}{vp:Value}{ps:List Pass}{rvs:List Value}(h:PS F tops w vp ps rvs)(h0:0<ps.length):∃X cap,vp=.slice (some ⟨X,0,none⟩) ps.length cap:=by
 rcases h.own.2 with ⟨_,h1⟩|⟨g,cap,cur,e,_⟩
 ·omega
 ·exact⟨g,cap,e⟩
theorem PS.snoc {F:Nat}{tops:List Nat}{w:World}{vp:Value}{ps:List Pass}{rvs:List Value}(h:PS F tops w vp ps rvs)(h0:0<ps.length):∃init p rvi rv,ps=init++ [p]/\rvs=rvi++ [rv]/\rvi.length=init.length:=by
 have hl:=h.len;have hp:ps≠ []:=by intro e;rw[e] at h0;simp at h0
 have hr:rvs≠ []:=by intro e;rw[e] at hl;simp at hl;omega
 refine⟨ps.dropLast,ps.getLast hp,rvs.dropLast,rvs.getLast hr,(List.dropLast_concat_getLast hp).symm,(List.dropLast_concat_getLast hr).symm,by simp[hl]⟩
end V
section
open Go.RowKit Go.Lib
theorem V.zc7 {α:Type}{t e:TypeId}{k F F2:Nat}{El:α->List Value->World->Prop}{ops:Array Oper}{rest:List Oper}{o:Oper}{a:Act}{w:World}{Q:Exit->Act->World->Prop}(E:R.Elem t e k)(hgd:o.guard=none)(s x:Operand)
  (ho:o.op=.call { callee:=.builtin .append,args:=#[s,x],argTypes:=#[t,t] }) (v v2:Value) (xs ys:List α) (hs:a.eval s=v) (hx:a.eval x=v2) (h:R.Row e k El F w v xs) (h2:R.Row e k El F2 w v2 ys) (hF:F<=F2) (hne:∀g,v.ownBlock=some g->g<F2)
  (hsz:xs.length+ys.length<=100000000) (hb:F<=w.heap.size)
  (hk:∀v' w',R.Row e k El F w' v' (xs++ys)->w.grownBy w' v.ownBlock->(∀g,v'.ownBlock=some g->v.ownBlock=some g∨w.heap.size<=g)->wpList prog ops Q rest (a.put o.dst v') w'):wpList prog ops Q (o::rest) a w:=by
 obtain⟨v',w',hrun,h3,h4,h5⟩:=R.Row.add E o.type h h2 hF hne hsz hb;refine wpList_plain hgd fun _ hK=> ?_
 have h':=hK _ _ (hk v' w' h3 h4 h5);unfold Oper.wp;simp[execOp,ho,resolve,invoke,builtin,hs,hx,hrun,Result.andThen];exact h'
theorem V.elemS:R.Elem 77 27 1:=⟨underlying77,⟨.slice none 0 0,24,by kernel_rfl,by decide,rfl⟩,by decide⟩
def V.SetEl (s:List S.Sp) (c:List Value) (w:World):Prop:=∃u so sc,c= [u]/\u=.slice so s.length sc/\S.Rd w u s
def V.SetRow (F:Nat) (w:World) (v:Value) (l:List (List S.Sp)):Prop:=R.Row 27 1 V.SetEl F w v l
theorem V.one_set {w:World}{F:Nat}{u:Value}{s:List S.Sp}(h:w.ownsRow F 113 2 u s.length (S.cellsOf s))(hF:F<=w.heap.size):V.SetRow F (w.alloc (.cells #[u] 27)) (.slice (some ⟨w.heap.size,0,none⟩) 1 1) [s]:=by
 have hr:=S.Rd.zax h;obtain⟨so,sc,hu,_⟩:=hr;have hr:=S.Rd.zax h;have hs:R.Stays F none w (V.SetEl s [u]):=(R.zdx hr (fun g hg=>(h.lt g hg).1)).imp fun w' k=>⟨u,so,sc,rfl,hu,k⟩
 exact R.Row.one [u] rfl (fun x hx=>by simp at hx;subst hx;rw[hu];rfl) hs hF
theorem zqp (w:World)(v:Value)(l:List R.Item)(bm:Nat)(g:ByteArray->List S.Sp)(HV:V.Vars w bm g)(RR:R.Its w v l)(hl:l.length<=1000)(hs:∀x∈l,x.kind=2->x.set.length<=17592186044160) :
  Calls prog 92 #[v,.func (.func 91) #[] #[.pointer (some ⟨bm,0,none⟩)]] w fun e w'=>∃v',e=.returned v'/\V.SetRow w.heap.size w' v' (l.map (V.setOf g))/\Bl w w':=by
 have HR:=qH RR;have HVs:=qH HV;have HS:=qH hs;obtain⟨ao,ca,rfl⟩:=RR.len;clear RR HV hs
 go_enter func92,ntmps92
 go_wp2
 go_loopw [5,10] (fun v i wr=>∃k:Nat,k<=l.length/\i=.int .i64 k/\Hid (V.SetRow w.heap.size wr v ((l.take k).map (V.setOf g))/\Bl w wr)) (fun _ i _=>l.length-(RowKit.intOf i).toNat)
 case atStart=>exact⟨0,Nat.zero_le _,rfl,R.Row.nil _ _,qR w⟩
 case round =>
  obtain⟨k,hk,rfl,HB⟩:=hrel
  by_cases hlt:k<l.length
  ·obtain⟨x,hx⟩:∃x,l[k]?=some x:=⟨l[k],by simp[hlt]⟩;obtain⟨ao',ca',e',hcs⟩:=HR.out.below HB.out.2;cases e';obtain⟨b,off,rfl,hcell⟩:=hcs (by intro h;subst h;simp at hlt);obtain⟨c0,c1,c3,⟨so,sc,c2,r2⟩,hf,hnm⟩:=hcell k x hx;have hsl:=HS.out x (List.mem_of_getElem? hx)
   have HL:Hid (∀W,Bl wr W->Calls prog 91 #[.agg #[.int .i64 x.kind,.int .i32 x.rune,.slice so x.set.length sc,.string x.name],.pointer (some ⟨bm,0,none⟩)] W
     fun e w'=>∃v',e=.returned v'/\w'.ownsRow W.heap.size 113 2 v' (V.setOf g x).length (S.cellsOf (V.setOf g x))/\Bl W w'):=fun W hW=>zp4 W x so sc bm g ((HVs.out.below HB.out.2).below hW) (r2.below hW qN) hsl hnm
   clear hcell hcs r2 hf hnm hsl;have HX:=qH hx;clear hx;generalize hst:V.setOf g x=st at HL
   have HXs:Hid ((l.take (k+1)).map (V.setOf g)=(l.take k).map (V.setOf g)++ [st]):=by
    show _=_;rw[List.take_add_one,HX.out];simp[hst]
   clear hst HX;obtain⟨xk,xr,xs,xn⟩:=x;simp only at c0 c1 c2 c3 HL;have hb1:=L.block_lt c0;have HbA:Hid (Bl wr (wr.alloc (.cells #[.int .i64 xk,.int .i32 xr,.slice so xs.length sc,.string xn] 142))):=(qR wr).alloc qN _
   go_wp2_with fail
   refine(HL.out _ HbA.out).mono ?_;rintro e w5 ⟨v5,rfl,o5,b5⟩
   obtain⟨s5,q5,rfl⟩:∃s5 q5,v5=.slice s5 st.length q5:=by
    obtain⟨s5,q5,hu,_⟩:=S.Rd.zax o5;exact⟨s5,q5,hu⟩
   have hs5:wr.heap.size+1<=w5.heap.size:=by have:=b5.size;simpa using this
   have bw5:=HbA.out.trans (b5.mono HbA.out.size);have hsz5:=HB.out.2.size
   have HO:Hid (V.SetRow w.heap.size (w5.alloc (.cells #[.slice s5 st.length q5] 27)) u5 ((l.take k).map (V.setOf g))/\V.SetRow (wr.heap.size+1) (w5.alloc (.cells #[.slice s5 st.length q5] 27)) (.slice (some ⟨w5.heap.size,0,none⟩) 1 1) [st]/\Bl w (w5.alloc (.cells #[.slice s5 st.length q5] 27))/\∀g,u5.ownBlock=some g->w.heap.size<=g/\g<wr.heap.size) :=
    ⟨(R.Row.below HB.out.1 bw5).below ((qR w5).alloc qN _),V.one_set (by simpa using o5) hs5,(HB.out.2.trans (bw5.mono HB.out.2.size)).alloc (by omega) _,fun g hg=>HB.out.1.lt g hg⟩
   clear o5 b5 bw5 c0 c1 c2 c3 hb1;have hlen:((l.take k).map (V.setOf g)).length=k:=by simp;omega
   have HLen:=qH hlen;clear hlen
   go_wp2_with (at_builtin;go_must (refine V.zc7 V.elemS rfl _ _ rfl _ _ ((l.take k).map (V.setOf g)) [st] rfl rfl HO.out.1 HO.out.2.1 (by omega) (fun g hg=>by have:=(HO.out.2.2.2 g hg).2;omega) (by have:=HLen.out;rw[this];simp;omega) (by simp;omega) ?_;intro v6 w6 R6 g6 n6;have HX6:Hid (V.SetRow w.heap.size w6 v6 ((l.take k).map (V.setOf g)++ [st])/\Bl w w6):=⟨R6,Below.grown HO.out.2.2.1 g6 HO.out.2.2.1.size (fun j hj=>(HO.out.2.2.2 j hj).1)⟩;clear R6 g6 n6))
   go_roundw
   case rel=>exact⟨k+1,by omega,by go_num,by rw[HXs.out];exact HX6.out.1,HX6.out.2⟩
   case measure=>simp[RowKit.intOf];omega
  ·have hkl:k=l.length:=by omega
   subst hkl;go_wp2;go_ret;exact⟨_,rfl,by simpa using HB.out.1,HB.out.2⟩
end
section
open Go.RowKit
namespace V
theorem cells7 {w:World}{b:Nat}{v0 v1 v2 v3 v4 v5 v6:Value}{t:TypeId}(h:w.heap[b]?=some (.cells #[v0,v1,v2,v3,v4,v5,v6] t)) :
  (w.cell? ⟨b,0,none⟩=some v0/\w.cell? ⟨b,1,none⟩=some v1/\w.cell? ⟨b,2,none⟩=some v2/\w.cell? ⟨b,3,none⟩=some v3/\w.cell? ⟨b,4,none⟩=some v4/\w.cell? ⟨b,5,none⟩=some v5/\w.cell? ⟨b,6,none⟩=some v6)/\∀i,w.frozen? ⟨b,i,none⟩=false :=
 ⟨⟨K.zad h rfl,K.zad h rfl,K.zad h rfl,K.zad h rfl,K.zad h rfl,K.zad h rfl,K.zad h rfl⟩,fun i=>frozen_of_row w b i _ _ h⟩
theorem zcw {W:World}{b i:Nat}{c:Array Value}{t:TypeId}(h:W.heap[b]?=some (.cells c t))(v:Value) :
  (W.setCell ⟨b,i,none⟩ v).heap[b]?=some (.cells (c.setIfInBounds i v) t)/\W.grownBy (W.setCell ⟨b,i,none⟩ v) (some b) :=
 ⟨heap_setCell_same W b i _ _ v h,rfl,rfl,rfl,by simp,fun k _ hk=>heap_setCell_other W ⟨b,i,none⟩ k _ fun e=>hk (by rw[e])⟩
theorem zj6 {W:World}{b:Nat}{u0 u1 u2 u3 u4 u5 u6:Value}{t:TypeId}(h:W.heap[b]?=some (.cells #[u0,u1,u2,u3,u4,u5,u6] t))(v0 v1 v2 v3 v4 v5 v6:Value) :
  (((((((W.setCell ⟨b,0,none⟩ v0).setCell ⟨b,1,none⟩ v1).setCell ⟨b,2,none⟩ v2).setCell ⟨b,3,none⟩ v3).setCell ⟨b,4,none⟩ v4).setCell ⟨b,5,none⟩ v5).setCell ⟨b,6,none⟩ v6).heap[b]?=some (.cells #[v0,v1,v2,v3,v4,v5,v6] t)/\W.grownBy (((((((W.setCell ⟨b,0,none⟩ v0).setCell ⟨b,1,none⟩ v1).setCell ⟨b,2,none⟩ v2).setCell ⟨b,3,none⟩ v3).setCell ⟨b,4,none⟩ v4).setCell ⟨b,5,none⟩ v5).setCell ⟨b,6,none⟩ v6) (some b):=by
 obtain⟨e0,g0⟩:=zcw (i:=0) h v0;generalize W.setCell ⟨b,0,none⟩ v0=X0 at *;obtain⟨e1,g1⟩:=zcw (i:=1) e0 v1;generalize X0.setCell ⟨b,1,none⟩ v1=X1 at *;obtain⟨e2,g2⟩:=zcw (i:=2) e1 v2;generalize X1.setCell ⟨b,2,none⟩ v2=X2 at *;obtain⟨e3,g3⟩:=zcw (i:=3) e2 v3;generalize X2.setCell ⟨b,3,none⟩ v3=X3 at *;obtain⟨e4,g4⟩:=zcw (i:=4) e3 v4;generalize X3.setCell ⟨b,4,none⟩ v4=X4 at *;obtain⟨e5,g5⟩:=zcw (i:=5) e4 v5;generalize X4.setCell ⟨b,5,none⟩ v5=X5 at *;obtain⟨e6,g6⟩:=zcw (i:=6) e5 v6;generalize X5.setCell ⟨b,6,none⟩ v6=X6 at *;exact⟨by rw[e6];simp,S.zaa (S.zaa (S.zaa (S.zaa (S.zaa (S.zaa g0 g1) g2) g3) g4) g5) g6⟩
end V
namespace V
def Mn (lo hi:Nat) (W:World) (Q:World->Prop):Prop:=lo<=hi/\∀W',(∀b,lo<=b->b<hi->W'.heap[b]?=W.heap[b]?)->Q W'
theorem Mn.below {lo hi:Nat}{W W':World}{Q:World->Prop}(h:Mn lo hi W Q)(hb:Bl W W')(hh:hi<=W.heap.size):Mn lo hi W' Q :=
 ⟨h.1,fun W'' h2=>h.2 W'' fun b h3 h4=>(h2 b h3 h4).trans (hb.block b (by omega))⟩
theorem flat1:∀ {cs:List (List Value)},(∀c∈cs,c.length=1)->∀j:Nat,cs.flatten[j]?=(cs[j]?).bind (·[0]?)
 | [],_,j=>by simp
 | c::cs,h,j=>by
  have h1:=h c (List.mem_cons_self ..)
  match c,h1 with
  | [u],_ =>
   cases j with
   | zero=>simp
   | succ j =>
    rw[List.flatten_cons,List.singleton_append,List.getElem?_cons_succ,List.getElem?_cons_succ];exact flat1 (fun c hc=>h c (List.mem_cons_of_mem _ hc)) j
theorem zu6 {F:Nat}{w:World}{v:Value}{l:List (List S.Sp)}(h:V.SetRow F w v l)(hf:∀s∈l,S.Fit s)(hl:l.length<=1000):∃ao cap,v=.slice ao l.length cap/\∀W',(∀b,F<=b->b<w.heap.size->W'.heap[b]?=w.heap[b]?)->K.Ss W' v l:=by
 obtain⟨cs,own,hcl,hc,hst⟩:=h
 obtain⟨ao,cap,hv,hn⟩:∃ao cap,v=.slice ao l.length cap/\(ao=none->cap=0):=by
  rcases own.2 with ⟨h,h1⟩|⟨g,cap,cur,h,_⟩
  ·exact⟨none,0,by rw[h,h1],fun _=>rfl⟩
  ·exact⟨_,cap,h,fun e=>by cases e⟩
 have hone:∀(j:Nat) s c,l[j]?=some s->cs[j]?=some c->∃u,c= [u]:=fun j s c hs hj=>by
  obtain⟨u,so,sc,h1,_⟩:=(hst j s c hs hj).here;exact⟨u,h1⟩
 refine⟨ao,cap,hv,fun W' hW=> ?_⟩;refine⟨ao,cap,cs.flatten,hv,hn,by omega,⟨?_,fun j u s hu hs=> ?_⟩,fun hne=> ?_⟩
 ·have:=own.1;omega
 ·have hlt:j<cs.length:=by rw[hcl];exact(qL.1 hs).1
  obtain⟨c,hcj⟩:∃c,cs[j]?=some c:=⟨cs[j],by simp⟩;obtain⟨u',so,sc,h1,h2,h3⟩:=(hst j s c hs hcj) W' fun b h1 h2 _=>hW b h1 h2
  have hfl:cs.flatten[j]?=some u':=by
   have hk:=fun c hc'=>(hc c hc').1
   rw[flat1 hk j,hcj,h1];rfl
  rw[hfl] at hu;cases hu;exact⟨⟨so,sc,h2⟩,h3,hf s (List.mem_of_getElem? hs)⟩
 ·rcases own.2 with ⟨_,h1⟩|⟨g,cap',cur,hv',hB,hg,_,_,hsz,htk⟩
  ·exact absurd (List.eq_nil_of_length_eq_zero h1) hne
  ·rw[hv] at hv';cases hv';refine⟨g,0,rfl,fun j u hj=> ?_⟩;have hgl:=(qA.1 hg).1;have e:=hW g hB hgl;rw[World.cell?_of_block (w:=w) (a:=⟨g,0+j,none⟩) e];rw[<- htk] at hj;rw[World.cell?];simp only[show w.heap[g]?=_ from hg];rw[List.getElem?_take] at hj;split at hj
   ·simpa using hj
   ·cases hj
end V
namespace V
def Right (l:List R.Item):Prop:=l.length<=20/\∀x∈l,R.itemE x=0
theorem zpb {l:List R.Item}(h:Right l):∀x∈l,x.kind=2->x.set.length<=17592186044160:=fun x hx hk=>by
 have:=h.2 x hx;unfold R.itemE at this;rw[if_neg (by omega),if_pos hk] at this;have:=(S.zan.1 this).1;omega
def Ext (A B:World) (rb:Nat):Prop:=A.heap.size<=B.heap.size/\∀b,b<A.heap.size->b≠rb->B.heap[b]?=A.heap[b]?
theorem Ext.trans {A B C:World}{rb:Nat}(h:Ext A B rb)(h':Ext B C rb):Ext A C rb:=⟨Nat.le_trans h.1 h'.1,fun b hb hn=>(h'.2 b (Nat.lt_of_lt_of_le hb h.1) hn).trans (h.2 b hb hn)⟩
theorem znv {X Y:World}{rb:Nat}(z:Bl X Y):Ext X Y rb:=⟨z.size,fun b hb _=>z.block b hb⟩
theorem zsx {A:World}{o:Obj}{rb:Nat}:Ext A (A.alloc o) rb:=⟨by simp,fun b hb _=>Below.heap_alloc A o b hb⟩
theorem zvs {A B:World}{rb:Nat}(h:A.grownBy B (some rb)):Ext A B rb:=⟨h.size,fun b hb hn=>h.block b hb fun e=>hn (Option.some.inj e)⟩
def Made (w:World) (g:ByteArray->List S.Sp) (abe aso aaf bso:List R.Item) (wx:World) (rb:Nat) (st fi:Value) (p1:Option Addr) (p2:Nat) (s1:Option Addr) (s2:Nat) (a1:Option Addr) (a2:Nat) (t1:Option Addr) (t2:Nat) (bcu:Int):Prop :=
 wx.heap[rb]?=some (.cells #[st,fi,.slice p1 abe.length p2,.slice s1 aso.length s2,.slice a1 aaf.length a2,.slice t1 bso.length t2,.int .i64 bcu] 79) /\
 wx.heap[w.heap.size+2]?=some (.cells #[.bool false,.bool false,.slice none 0 0,.slice none 0 0,.slice none 0 0,.slice none 0 0,.int .i64 0] 79)/\w.heap.size+3<=rb/\Bl w wx /\
 (∀W',(∀b,w.heap.size+3<=b->b≠rb->b<wx.heap.size->W'.heap[b]?=wx.heap[b]?) ->
  K.Ss W' (.slice p1 abe.length p2) (abe.map (setOf g))/\K.Ss W' (.slice s1 aso.length s2) (aso.map (setOf g))/\K.Ss W' (.slice a1 aaf.length a2) (aaf.map (setOf g))/\L.Rd W' (.slice t1 bso.length t2) .i32 (bso.map (·.rune)))
theorem zum {w:World}{g:ByteArray->List S.Sp}{abe aso aaf bso:List R.Item}{wx:World}{rb:Nat}{st fi:Value}{p1:Option Addr}{p2:Nat}{s1:Option Addr}{s2:Nat}{a1:Option Addr}{a2:Nat}{t1:Option Addr}{t2:Nat}{bcu:Int}
  (hF:wx.heap[rb]?=some (.cells #[st,fi,.slice p1 abe.length p2,.slice s1 aso.length s2,.slice a1 aaf.length a2,.slice t1 bso.length t2,.int .i64 bcu] 79))
  (h6:wx.heap[w.heap.size+2]?=some (.cells #[.bool false,.bool false,.slice none 0 0,.slice none 0 0,.slice none 0 0,.slice none 0 0,.int .i64 0] 79)) (hrb:w.heap.size+3<=rb) (hB:Bl w wx)
  (m1:∀W':World,(∀b,w.heap.size+3<=b->b≠rb->b<wx.heap.size->W'.heap[b]?=wx.heap[b]?)->K.Ss W' (.slice p1 abe.length p2) (abe.map (setOf g)))
  (m2:∀W':World,(∀b,w.heap.size+3<=b->b≠rb->b<wx.heap.size->W'.heap[b]?=wx.heap[b]?)->K.Ss W' (.slice s1 aso.length s2) (aso.map (setOf g)))
  (m3:∀W':World,(∀b,w.heap.size+3<=b->b≠rb->b<wx.heap.size->W'.heap[b]?=wx.heap[b]?)->K.Ss W' (.slice a1 aaf.length a2) (aaf.map (setOf g)))
  (m4:∀W':World,(∀b,w.heap.size+3<=b->b≠rb->b<wx.heap.size->W'.heap[b]?=wx.heap[b]?)->L.Rd W' (.slice t1 bso.length t2) .i32 (bso.map (·.rune))) :
  Hid (Made w g abe aso aaf bso wx rb st fi p1 p2 s1 s2 a1 a2 t1 t2 bcu):=⟨hF,h6,hrb,hB,fun W' hW=>⟨m1 W' hW,m2 W' hW,m3 W' hW,m4 W' hW⟩⟩
theorem goes {w X Y:World}(hX:Bl w X)(z:Bl X Y):Bl w Y:=hX.trans (z.mono hX.size)
theorem zke {X Y:World}{o:Obj}(z:Below (X.alloc o).heap.size (X.alloc o) Y):Y.heap[X.heap.size]?=some o:=(K.zau z).1
theorem zr2 {X Y:World}{o:Obj}(z:Below ((X.alloc o).drew).heap.size ((X.alloc o).drew) Y):Y.heap[X.heap.size]?=some o:=(K.zae (w:=(X.alloc o).drew) (heap_alloc_new X o) z)
end V
