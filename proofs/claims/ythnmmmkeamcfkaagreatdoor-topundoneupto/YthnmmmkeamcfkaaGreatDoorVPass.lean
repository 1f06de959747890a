import Derived.Maps.OwnSet
import Derived.Test.YthnmmmkeamcfkaaGreatDoorVSmall
set_option maxHeartbeats 0
set_option linter.unusedVariables false
namespace Go.Proofs.YthnmmmkeamcfkaaGreatDoor
open Go.Proofs.Tryz
section
open Go.RowKit Go.Maps Go.WideMaps
def V.raw (v:Value):Option (DataW Value×List MemPlace):=some (.held v,[])
theorem V.keyed:Keyed prog 9:=string_keyed underlying9
theorem V.zeroSp (w:World):(zeroValue 24).run prog w= .ok (.slice none 0 0) w:=by kernel_rfl
def V.MapIs (w:World) (B n:Nat) (f:ByteArray->Option Value):Prop :=
 ∃D:DataW Value,w.ownsMap prog 9 V.raw B n D/\IsMap D /\
  ∀s:ByteArray,Maps.has D (.string s.data.toList)=(f s).isSome/\D.atKey (.string s.data.toList) (.held (.slice none 0 0))= .held ((f s).getD (.slice none 0 0))
theorem V.MapIs.made (w:World):V.MapIs (w.alloc (.map #[] 0)) w.heap.size 0 fun _=>none :=
 ⟨.map [],World.ownsMap_made w _ _ _,⟨[],rfl⟩,fun s=>⟨rfl,rfl⟩⟩
theorem V.MapIs.lt {w:World}{B n:Nat}{f:ByteArray->Option Value}(h:V.MapIs w B n f):B<w.heap.size:=by
 obtain⟨D,h1,_⟩:=h;exact h1.lt
theorem V.MapIs.block {w w':World}{B n:Nat}{f:ByteArray->Option Value}(h:V.MapIs w B n f)(e:w'.heap[B]?=w.heap[B]?):V.MapIs w' B n f:=by
 obtain⟨D,⟨es,clock,hb,F,hs,hD⟩,h2⟩:=h;exact⟨D,⟨es,clock,e.trans hb,F,hs,hD⟩,h2⟩
theorem V.MapIs.below {w w':World}{B n X:Nat}{f:ByteArray->Option Value}(h:V.MapIs w B n f)(hb:Below X w w')(hX:B<X):V.MapIs w' B n f:=h.block (hb.block B hX)
theorem V.MapIs.look {w:World}{B n:Nat}{f:ByteArray->Option Value}(h:V.MapIs w B n f)(s:ByteArray)(hs:s.size<=140737488355328) :
  (Instr.lookup 131 (.map (some B)) (.string s) false).run prog w= .ok ((f s).getD (.slice none 0 0)) w:=by
 obtain⟨D,h1,h2,h3⟩:=h;obtain⟨v,ps,hrun,hv⟩:=h1.lookup (t:=131) (e:=24) V.keyed underlying131 (V.zeroSp w) (zd:= .held (.slice none 0 0)) (zp:= []) rfl (key:= .string s) (keyOf_string_mk underlying9 (by unfold maxLen;omega));rw[(h3 s).2] at hv;simp only[V.raw,Option.some.injEq,Prod.mk.injEq,DataW.held.injEq] at hv;rw[hrun,hv.1]
theorem V.MapIs.look_ok {w:World}{B n:Nat}{f:ByteArray->Option Value}(h:V.MapIs w B n f)(s:ByteArray)(hs:s.size<=140737488355328) :
  (Instr.lookup 131 (.map (some B)) (.string s) true).run prog w= .ok (.tuple #[(f s).getD (.slice none 0 0),.bool (f s).isSome]) w:=by
 obtain⟨D,h1,h2,h3⟩:=h;obtain⟨v,ps,hrun,hv⟩:=h1.look_ok (t:=131) (e:=24) V.keyed underlying131 (V.zeroSp w) (zd:= .held (.slice none 0 0)) (zp:= []) rfl (key:= .string s) (keyOf_string_mk underlying9 (by unfold maxLen;omega));rw[(h3 s).2] at hv;simp only[V.raw,Option.some.injEq,Prod.mk.injEq,DataW.held.injEq] at hv;rw[hrun,hv.1,(h3 s).1]
theorem V.MapIs.put {w:World}{B n:Nat}{f:ByteArray->Option Value}(h:V.MapIs w B n f)(s:ByteArray)(hs:s.size<=140737488355328)(hn:n<=140737488355328)(v:Value) :
  ∃w',(Instr.mapUpdate 131 (.map (some B)) (.string s) v).run prog w= .ok () w'/\V.MapIs w' B (n+1) (fun t=>if t=s then some v else f t)/\w.grownBy w' (some B):=by
 obtain⟨D,h1,h2,h3⟩:=h;obtain⟨w',hrun,r1,r2⟩:=h1.update (t:=131) (e:=24) V.keyed underlying131 (by unfold maxLen;omega) (key:= .string s) (keyOf_string_mk underlying9 (by unfold maxLen;omega)) (val:=v) (d:= .held v) (ps:= []) rfl;refine⟨w',hrun,⟨_,r1,h2.put _ _,fun t=> ?_⟩,r2⟩
 by_cases ht:t=s
 ·subst ht;rw[has_put_same h2 (by simp[WideAt.IsKeyLit]),atKey_put_same h2 (by simp[WideAt.IsKeyLit])];simp
 ·have hne:Lit.string t.data.toList≠Lit.string s.data.toList:=by
   intro e;apply ht;have e1:t.data.toList=s.data.toList:=by simpa using e
   exact ByteArray.ext (Array.toList_inj.1 e1)
  rw[has_put_other hne,atKey_put_other hne,(h3 t).1,(h3 t).2];simp[ht]
end
section
open Go.RowKit Go.Lib
set_option maxRecDepth 20000
set_option linter.unusedSimpArgs false
theorem V.lower {w:World}{B B':Nat}{e:TypeId}{c:Nat}{v:Value}{n:Nat}{xs:List Value}(h:w.ownsRow B e c v n xs)(hB:B'<=B):w.ownsRow B' e c v n xs:=by
 obtain⟨h1,h2⟩:=h;refine⟨h1,?_⟩;rcases h2 with h2 | ⟨g,cap,cur,k1,k2,k3⟩
 ·exact Or.inl h2
 ·exact Or.inr ⟨g,cap,cur,k1,Nat.le_trans hB k2,k3⟩
def V.setOf (g:ByteArray->List S.Sp) (x:R.Item):List S.Sp:=if x.kind=2 then x.set else if x.kind=3 then g x.name else [(x.rune,x.rune)]
def V.Vars (w:World) (bm:Nat) (g:ByteArray->List S.Sp):Prop :=
 ∃B n f,w.cell? ⟨bm,0,none⟩=some (.map (some B))/\V.MapIs w B n f/\∀s:ByteArray,S.Rd w ((f s).getD (.slice none 0 0)) (g s)/\(g s).length<=17592186044160
theorem V.Vars.below {w w':World}{bm:Nat}{g:ByteArray->List S.Sp}(h:V.Vars w bm g)(hb:Below w.heap.size w w'):V.Vars w' bm g:=by
 obtain⟨B,n,f,h1,h2,h3⟩:=h;refine⟨B,n,f,?_,h2.below hb h2.lt,fun s=>⟨(h3 s).1.below hb qN,(h3 s).2⟩⟩;rw[hb.cell (p:=⟨bm,0,none⟩) (L.block_lt h1)];exact h1
theorem zq7 (w:World)(x:R.Item)(so:Option Addr)(sc bm:Nat)(g:ByteArray->List S.Sp)(HV:V.Vars w bm g)(RS:S.Rd w (.slice so x.set.length sc) x.set)(hl:x.kind=2->x.set.length<=17592186044160)(hn:x.name.size<=140737488355328) :
  Calls prog 165 #[.agg #[.int .i64 x.kind,.int .i32 x.rune,.slice so x.set.length sc,.string x.name],.pointer (some ⟨bm,0,none⟩)] w
   fun e w'=>∃v',e= .returned v'/\w'.ownsRow w.heap.size 101 2 v' (V.setOf g x).length (S.cellsOf (V.setOf g x))/\Below w.heap.size w w':=by
 obtain⟨B,n,f,hm,hM,hg⟩:=HV;obtain⟨xk,xr,xs,xn⟩:=x;simp only at RS hl hn ⊢;have bA:Below w.heap.size w (w.alloc (.cells #[.int .i64 xk,.int .i32 xr,.slice so xs.length sc,.string xn] 242)):=(qR w).alloc qN _;have hlook:=(hM.below bA hM.lt).look xn hn;have hbm:=L.block_lt hm
 have HC:Hid (∀W:World,Below w.heap.size w W->∀v l,S.Rd w v l->l.length<=17592186044160->Calls prog 114 #[v] W fun e w'=>∃v',e= .returned v'/\w'.ownsRow w.heap.size 101 2 v' l.length (S.cellsOf l)/\Below w.heap.size w w'):=fun W hW v l hv hl=>by
  refine(zgl W v l (hv.below hW qN) hl).mono ?_;rintro e w' ⟨v',rfl,h1,h2⟩;exact⟨v',rfl,V.lower h1 hW.size,hW.trans (h2.mono hW.size)⟩
 have HG:=qH <| hg xn;have HRS:Hid (S.Rd w (.slice so xs.length sc) xs/\(xk=2->xs.length<=17592186044160)):=⟨RS,hl⟩;have HbA:Hid _:=bA;clear hg hM RS bA hl;generalize (f xn).getD (.slice none 0 0)=gv at hlook HG
 by_cases h2:xk=2
 ·subst h2;clear hlook
  go_enter func165,ntmps165
  go_wp2_with fail
  refine(HC.out _ HbA.out _ _ HRS.out.1 (HRS.out.2 trivial)).mono ?_;rintro e w1 ⟨v',rfl,o1,b1⟩;have HO:Hid _:=And.intro o1 b1;clear o1 b1;go_wp2;go_ret;exact⟨v',rfl,HO.out.1,HO.out.2⟩
 ·by_cases h3:xk=3
  ·subst h3
   go_enter func165,ntmps165
   go_wp2_with fail
   refine(HC.out _ HbA.out _ _ HG.out.1 HG.out.2).mono ?_;rintro e w1 ⟨v',rfl,o1,b1⟩;have HO:Hid _:=And.intro o1 b1;clear o1 b1;go_wp2;go_ret;exact⟨v',rfl,HO.out.1,HO.out.2⟩
  ·clear hlook;have e1:V.setOf g ⟨xk,xr,xs,xn⟩= [(xr,xr)]:=by simp[V.setOf,h2,h3]
   rw[e1];clear e1
   go_enter func165,ntmps165
   go_wp2;go_ret
   refine⟨_,rfl,?_,?_⟩
   ·refine⟨rfl,Or.inr ⟨w.heap.size+1,1,#[.int .i32 xr,.int .i32 xr],rfl,by omega,?_,qN,by unfold maxLen;omega,rfl,rfl⟩⟩;have h:=heap_alloc_new (w.alloc (.cells #[.int .i64 xk,.int .i32 xr,.slice so xs.length sc,.string xn] 242)) (.cells #[.int .i32 xr,.int .i32 xr] 101);simpa using h
   ·exact((qR w).alloc qN _).alloc (by simp) _
end
namespace V
abbrev Known:=ByteArray->Option (List S.Sp)
def unkP (kn:Known) (x:R.Item):Bool:=decide (x.kind=3)&& !(kn x.name).isSome
def unkSP (kn:Known) (s:R.Side):Bool:=s.before.any (unkP kn)||s.source.any (unkP kn)||s.after.any (unkP kn)
def stepE (kn:Known) (flt:Bool) (p:R.Part):Int :=
 if p.kind=1 then (if (kn p.name).isSome=true then 7 else 0)
 else if p.kind=3 then (if flt=true then 5 else 0)
 else if p.kind=2 then (if (unkSP kn p.left||unkSP kn p.right)=true then 7 else 0) else 0
def stepK (kn:Known) (p:R.Part):Known:=if p.kind=1 then fun t=>if t=p.name then some p.set else kn t else kn
def stepF (flt:Bool) (p:R.Part):Bool:=if p.kind=3 then true else flt
def ordF:Nat->Known->Bool->List R.Part->(Int×Nat)×Known
 | _,kn,_,[]=>((0,0),kn)
 | k,kn,flt,p::l=>if stepE kn flt p=0 then ordF (k+1) (stepK kn p) (stepF flt p) l else ((stepE kn flt p,k),fun _=>none)
def varsF (l:List R.Part):(Int×Nat)×Known:=if (R.wrong l).1=0 then ordF 0 (fun _=>none) false l else (R.wrong l,fun _=>none)
theorem zqt {l:List R.Part}{k:Nat}{p:R.Part}{kn:Known}{flt:Bool}(h:l[k]?=some p):ordF k kn flt (l.drop k)=if stepE kn flt p=0 then ordF (k+1) (stepK kn p) (stepF flt p) (l.drop (k+1)) else ((stepE kn flt p,k),fun _=>none):=by
 have hlt:=(qL.1 h).1;rw[List.drop_eq_getElem_cons hlt];have:l[k]=p:=by rw[List.getElem?_eq_getElem hlt] at h;exact Option.some.inj h
 rw[this];rfl
def gOf (kn:Known) (s:ByteArray):List S.Sp:=(kn s).getD []
def ruleOf (g:ByteArray->List S.Sp) (a b:R.Side):K.Rule :=
 ⟨a.start,a.fin,a.before.map (setOf g),a.source.map (setOf g),a.after.map (setOf g),b.source.map (·.rune),if b.cursor<0 then (b.source.length:Int) else b.cursor⟩
def putP (ps:List Pass) (r:K.Rule):List Pass :=
 match ps.getLast? with
 | some p=>if p.name.size=0 then ps.dropLast++ [⟨p.name,p.rules++ [r]⟩] else ps++ [⟨⟨#[]⟩,[r]⟩]
 | none=> [⟨⟨#[]⟩,[r]⟩]
def scrStep (g:ByteArray->List S.Sp) (s:Script) (p:R.Part):Script :=
 if p.kind=3 then ⟨true,p.set,s.passes⟩
 else if p.kind=4 then ⟨s.has,s.only,s.passes++ [⟨p.name,[]⟩]⟩
 else if p.kind=2 then (if p.dir=2 then s else ⟨s.has,s.only,putP s.passes (ruleOf g p.left p.right)⟩)
 else s
def scr (g:ByteArray->List S.Sp) (l:List R.Part):Script:=l.foldl (scrStep g) ⟨false,[],[]⟩
def turn (p:R.Part):R.Part :=
 if p.kind=4 then { p with name:=opp p.name }
 else if p.kind=2 then { p with left:=p.right,dir:=against p.dir,right:=p.left } else p
def forthF (l:List R.Part):Script×Int×Nat:=if (varsF l).1.1=0 then (scr (gOf (varsF l).2) l,0,0) else (⟨false,[],[]⟩,(varsF l).1)
def backF (l:List R.Part):Script×Int×Nat :=
 if (varsF l).1.1=0 then (⟨(scr (gOf (varsF l).2) (l.map turn)).has,(scr (gOf (varsF l).2) (l.map turn)).only,(scr (gOf (varsF l).2) (l.map turn)).passes.reverse⟩,0,0) else (⟨false,[],[]⟩,(varsF l).1)
end V
namespace V
open Go.RowKit
theorem elemP:R.Elem 25 32 2:=⟨underlying25,⟨.agg #[.string ⟨#[]⟩,.slice none 0 0],40,by kernel_rfl,by decide,rfl⟩,by decide⟩
theorem elemR:R.Elem 30 50 7:=⟨underlying30,⟨.agg #[.bool false,.bool false,.slice none 0 0,.slice none 0 0,.slice none 0 0,.slice none 0 0,.int .i64 0],112,by kernel_rfl,by decide,rfl⟩,by decide⟩
def Leaf (tops:List Nat) (w:World) (Q:World->Prop):Prop:=∀W:World,w.heap.size<=W.heap.size->(∀b,b<w.heap.size->b∉tops->W.heap[b]?=w.heap[b]?)->Q W
theorem Leaf.here {tops:List Nat}{w:World}{Q:World->Prop}(h:Leaf tops w Q):Q w:=h w qN fun _ _ _=>rfl
theorem Leaf.step {tops tops':List Nat}{w w':World}{Q:World->Prop}(h:Leaf tops w Q)(hs:w.heap.size<=w'.heap.size)(hk:∀b,b<w.heap.size->b∉tops->w'.heap[b]?=w.heap[b]?)(ht:∀k∈tops',k∈tops∨w.heap.size<=k):Leaf tops' w' Q :=
 fun W h1 h2=>h W (Nat.le_trans hs h1) fun b hb hn=>(h2 b (by omega) fun hm=>by rcases ht b hm with h | h;exact hn h;omega).trans (hk b hb hn)
def Moves (tops:List Nat) (w:World) (tops':List Nat) (w':World):Prop:=w.heap.size<=w'.heap.size/\(∀b,b<w.heap.size->b∉tops->w'.heap[b]?=w.heap[b]?)/\(∀k∈tops',k∈tops∨w.heap.size<=k)/\∀k∈tops,k∈tops'
theorem Moves.of_below {tops:List Nat}{w w':World}(hb:Below w.heap.size w w'):Moves tops w tops w':=⟨hb.size,fun b h _=>hb.block b h,fun k hk=> .inl hk,fun k hk=>hk⟩
theorem Moves.trans {t t1 t2:List Nat}{w w1 w2:World}(h:Moves t w t1 w1)(h':Moves t1 w1 t2 w2):Moves t w t2 w2 :=
 ⟨Nat.le_trans h.1 h'.1,fun b hb hn=>(h'.2.1 b (Nat.lt_of_lt_of_le hb h.1) fun hm=>(h.2.2.1 b hm).elim hn fun h1=>absurd hb (Nat.not_lt.2 h1)).trans (h.2.1 b hb hn),fun k hk=>(h'.2.2.1 k hk).elim (h.2.2.1 k) fun h1=> .inr (Nat.le_trans h.1 h1),fun k hk=>h'.2.2.2 k (h.2.2.2 k hk)⟩
theorem Leaf.moves {tops tops':List Nat}{w w':World}{Q:World->Prop}(h:Leaf tops w Q)(m:Moves tops w tops' w'):Leaf tops' w' Q:=h.step m.1 m.2.1 m.2.2.1
def RuRow (F:Nat) (tops:List Nat) (w:World) (rv:Value) (rs:List K.Rule):Prop :=
 ∃cs:List (List Value),w.ownsRow F 50 7 rv rs.length cs.flatten/\cs.length=rs.length/\(∀c∈cs,c.length=7/\∀u∈c,u.oneCell'=true)/\∀(j:Nat) r c,rs[j]?=some r->cs[j]?=some c->Leaf tops w fun W=>K.RuIs W (.agg c.toArray) r
theorem RuRow.nil (F:Nat)(tops:List Nat)(w:World):RuRow F tops w (.slice none 0 0) []:=⟨[],World.ownsRow_nil _ _ _ _,rfl,fun c hc=>(by cases hc),fun j r c h=>by cases h⟩
theorem zdw {F:Nat}{e:TypeId}{k:Nat}{w w':World}{v:Value}{n:Nat}{xs:List Value}(h:w.ownsRow F e k v n xs)(hb:∀g,v.ownBlock=some g->w'.heap[g]?=w.heap[g]?):w'.ownsRow F e k v n xs:=by
 refine⟨h.1,?_⟩;rcases h.2 with h | ⟨g,cap,cur,hv,hB,hg,r⟩
 ·exact .inl h
 ·exact .inr ⟨g,cap,cur,hv,hB,by rw[hb g (by rw[hv];rfl)];exact hg,r⟩
theorem RuRow.step {F:Nat}{tops tops':List Nat}{w w':World}{rv:Value}{rs:List K.Rule}(h:RuRow F tops w rv rs)(hs:w.heap.size<=w'.heap.size)(hk:∀b,b<w.heap.size->b∉tops->w'.heap[b]?=w.heap[b]?)(ht:∀k∈tops',k∈tops∨w.heap.size<=k)(hr:∀g,rv.ownBlock=some g->w'.heap[g]?=w.heap[g]?):RuRow F tops' w' rv rs:=by
 obtain⟨cs,own,hl,hc,hm⟩:=h;exact⟨cs,zdw own hr,hl,hc,fun j r c h1 h2=>(hm j r c h1 h2).step hs hk ht⟩
def pcells:List Pass->List Value->List Value
 | p::ps,rv::rvs=> .string p.name::rv::pcells ps rvs
 | _,_=> []
theorem zbg:∀ {ps:List Pass} {rvs:List Value} (qs:List Pass) (svs:List Value),rvs.length=ps.length->pcells (ps++qs) (rvs++svs)=pcells ps rvs++pcells qs svs
 | [],[],qs,svs,_=>rfl
 | p::ps,rv::rvs,qs,svs,h=>by
  show Value.string p.name::rv::pcells (ps++qs) (rvs++svs)=Value.string p.name::rv::(pcells ps rvs++pcells qs svs);rw[zbg qs svs (by simpa using h)]
 | [],_::_,_,_,h=>by simp at h
 | _::_,[],_,_,h=>by simp at h
theorem zbs:∀ {ps:List Pass} {rvs:List Value},rvs.length=ps.length->(pcells ps rvs).length=ps.length*2
 | [],[],_=>rfl
 | p::ps,rv::rvs,h=>by
  show (pcells ps rvs).length+1+1=(ps.length+1)*2;rw[zbs (by simpa using h)];omega
 | [],_::_,h=>by simp at h
 | _::_,[],h=>by simp at h
structure PS (F:Nat) (tops:List Nat) (w:World) (vp:Value) (ps:List Pass) (rvs:List Value):Prop where
 len:rvs.length=ps.length
 own:w.ownsRow F 32 2 vp ps.length (pcells ps rvs)
 rows:∀(j:Nat) p rv,ps[j]?=some p->rvs[j]?=some rv->RuRow F tops w rv p.rules/\p.name.size<=140737488355328
 top:∀k,(vp.ownBlock=some k∨∃rv∈rvs,rv.ownBlock=some k)->k∈tops
 apart:∀rv∈rvs,∀k,rv.ownBlock=some k->vp.ownBlock≠some k
 diff:∀(i j:Nat) ri rj k,rvs[i]?=some ri->rvs[j]?=some rj->i≠j->ri.ownBlock=some k->rj.ownBlock≠some k
 lt:∀k∈tops,k<w.heap.size
theorem PS.nil (F:Nat)(w:World):PS F [] w (.slice none 0 0) [] [] :=
 ⟨rfl,World.ownsRow_nil _ _ _ _,fun j p rv h=>(by cases h),fun k h=>(by rcases h with h | ⟨rv,h,_⟩;cases h;cases h),fun rv h=>(by cases h),fun i j ri rj k h=>(by cases h),fun k h=>by cases h⟩
theorem PS.start (F:Nat)(w:World)(tops:List Nat)(ht:∀k∈tops,k<w.heap.size):PS F tops w (.slice none 0 0) [] [] :=
 ⟨rfl,World.ownsRow_nil _ _ _ _,fun j p rv h=>(by cases h),fun k h=>(by rcases h with h | ⟨rv,h,_⟩;cases h;cases h),fun rv h=>(by cases h),fun i j ri rj k h=>(by cases h),ht⟩
theorem PS.rvlt {F:Nat}{tops:List Nat}{w:World}{vp:Value}{ps:List Pass}{rvs:List Value}(h:PS F tops w vp ps rvs){rv:Value}(hm:rv∈rvs):∀k,rv.ownBlock=some k->F<=k/\k<w.heap.size:=fun k hk=>by
 obtain⟨j,hj⟩:=List.getElem?_of_mem hm;have hlt:j<ps.length:=by rw[<- h.len];exact(qL.1 hj).1
 obtain⟨⟨cs,own,_⟩,_⟩:=h.rows j ps[j] rv (by simp) hj;exact own.lt k hk
theorem PS.below {F:Nat}{tops:List Nat}{w w':World}{vp:Value}{ps:List Pass}{rvs:List Value}(h:PS F tops w vp ps rvs)(hb:Below w.heap.size w w'):PS F tops w' vp ps rvs :=
 ⟨h.len,zdw h.own fun g hg=>hb.block g (h.own.lt g hg).2,fun j p rv h1 h2=>⟨(h.rows j p rv h1 h2).1.step hb.size (fun b hb' _=>hb.block b hb') (fun k hk=> .inl hk) fun g hg=>hb.block g (h.rvlt (List.mem_of_getElem? h2) g hg).2,(h.rows j p rv h1 h2).2⟩,h.top,h.apart,h.diff,fun k hk=>Nat.lt_of_lt_of_le (h.lt k hk) hb.size⟩
theorem PS.more {F:Nat}{tops:List Nat}{w w':World}{vp vp':Value}{ps:List Pass}{rvs:List Value}(h:PS F tops w vp ps rvs)(nm:ByteArray)(hn:nm.size<=140737488355328)
  (ho:w'.ownsRow F 32 2 vp' (ps.length+1) (pcells ps rvs++ [.string nm,.slice none 0 0])) (hg:w.grownBy w' vp.ownBlock) (hv:∀g,vp'.ownBlock=some g->vp.ownBlock=some g∨w.heap.size<=g) :
  ∃tops',PS F tops' w' vp' (ps++ [⟨nm,[]⟩]) (rvs++ [.slice none 0 0])/\Moves tops w tops' w':=by
 have hk:∀b,b<w.heap.size->b∉tops->w'.heap[b]?=w.heap[b]?:=fun b hb hn=>hg.block b hb fun e=>hn (h.top b (.inl e.symm))
 obtain⟨nt,hnt,hnt2,hnt3⟩:∃nt:List Nat,(∀g,vp'.ownBlock=some g->g∈nt)/\(∀k∈nt,vp.ownBlock=some k∨w.heap.size<=k)/\∀k∈nt,k<w'.heap.size:=by
  cases hvo:vp'.ownBlock with
  | none=>exact⟨[],fun g h=>(by cases h),fun k h=>(by cases h),fun k h=>by cases h⟩
  | some g=>exact⟨[g],fun g' h=>(by cases h;simp),fun k hk=>(by rw[List.mem_singleton.1 hk];exact hv g hvo),fun k hk=>by rw[List.mem_singleton.1 hk];exact(ho.lt g hvo).2⟩
 have ht:∀k∈tops++nt,k∈tops∨w.heap.size<=k:=fun k hk'=>by
  rcases List.mem_append.1 hk' with h1 | h1
  ·exact .inl h1
  ·exact(hnt2 k h1).imp (fun h2=>h.top k (.inl h2)) id
 refine⟨tops++nt,⟨by simp[h.len],?_,fun j p rv h1 h2=> ?_,fun k hk'=> ?_,fun rv hm k hk' e=> ?_,fun i j ri rj k h1 h2 hne h3=> ?_,fun k hk'=> ?_⟩,⟨hg.size,hk,ht,fun k hk'=>List.mem_append_left _ hk'⟩⟩
 ·rw[zbg _ _ h.len,List.length_append];exact ho
 ·by_cases hj:j<ps.length
  ·rw[List.getElem?_append_left hj] at h1;rw[List.getElem?_append_left (by rw[h.len];exact hj)] at h2;have hr:=h.rows j p rv h1 h2;exact⟨hr.1.step hg.size hk ht fun g hg'=>hg.block g (h.rvlt (List.mem_of_getElem? h2) g hg').2 fun e=>h.apart rv (List.mem_of_getElem? h2) g hg' e.symm,hr.2⟩
  ·rw[List.getElem?_append_right (by omega)] at h1;rw[List.getElem?_append_right (by rw[h.len];omega),h.len] at h2
   have hj0:j - ps.length=0:=by
    have:=(qL.1 h1).1;simp at this;omega
   rw[hj0] at h1 h2;cases h1;cases h2;exact⟨RuRow.nil _ _ _,hn⟩
 ·rcases hk' with h1 | ⟨rv,hm,h1⟩
  ·exact List.mem_append_right _ (hnt k h1)
  ·rcases List.mem_append.1 hm with hm | hm
   ·exact List.mem_append_left _ (h.top k (.inr ⟨rv,hm,h1⟩))
   ·rw[List.mem_singleton.1 hm] at h1;cases h1
 ·rcases List.mem_append.1 hm with hm | hm
  ·rcases hv k e with h1 | h1
   ·exact h.apart rv hm k hk' h1
   ·have:=(h.rvlt hm k hk').2;omega
  ·rw[List.mem_singleton.1 hm] at hk';cases hk'
 ·have hl:=h.len
  by_cases hi:i<rvs.length
  ·rw[List.getElem?_append_left hi] at h1
   by_cases hj:j<rvs.length
   ·rw[List.getElem?_append_left hj] at h2;exact h.diff i j ri rj k h1 h2 hne h3
   ·rw[List.getElem?_append_right (by omega)] at h2;have hm:=List.mem_of_getElem? h2;rw[List.mem_singleton.1 hm];simp[Value.ownBlock]
  ·rw[List.getElem?_append_right (by omega)] at h1;have hm:=List.mem_of_getElem? h1;rw[List.mem_singleton.1 hm] at h3;cases h3
 ·rcases List.mem_append.1 hk' with h1 | h1
  ·exact Nat.lt_of_lt_of_le (h.lt k h1) hg.size
  ·exact hnt3 k h1
theorem PS.put {F:Nat}{tops:List Nat}{w:World}{init:List Pass}{p:Pass}{rvi:List Value}{rv:Value}{X cap:Nat}(h:PS F tops w (.slice (some ⟨X,0,none⟩) (init.length+1) cap) (init++ [p]) (rvi++ [rv]))(hli:rvi.length=init.length)(r:K.Rule)(c7:List Value)(hc7:c7.length=7/\∀u∈c7,u.oneCell'=true)(hm:Leaf tops w fun W=>K.RuIs W (.agg c7.toArray) r)(sb:Nat)(hsb:∀(q:Nat) u,c7[q]?=some u->w.cell? ⟨sb,q,none⟩=some u)(hF:F<=w.heap.size)(hr:p.rules.length<=1000) :
  ∃rv' W1,(∀ty,(Builtin.append_ #[30,30] ty #[rv,.slice (some ⟨sb,0,none⟩) 1 1]).run prog w= .ok rv' W1)/\(∃g c,rv'= .slice (some ⟨g,0,none⟩) (p.rules.length+1) c)/\W1.cell? ⟨X,init.length*2+1,none⟩=some rv/\W1.frozen? ⟨X,init.length*2+1,none⟩=false/\w.grownBy W1 rv.ownBlock /\
   ∃tops',PS F tops' (W1.setCell ⟨X,init.length*2+1,none⟩ rv') (.slice (some ⟨X,0,none⟩) (init.length+1) cap) (init++ [⟨p.name,p.rules++ [r]⟩]) (rvi++ [rv'])/\Below F w (W1.setCell ⟨X,init.length*2+1,none⟩ rv')/\Moves tops w tops' (W1.setCell ⟨X,init.length*2+1,none⟩ rv'):=by
 have hlast:(init++ [p])[init.length]?=some p:=by simp
 have hlastv:(rvi++ [rv])[init.length]?=some rv:=by rw[<- hli];simp
 have hmem:rv∈rvi++ [rv]:=by simp
 obtain⟨⟨cs,own,hcl,hcs,hmean⟩,hnm⟩:=h.rows init.length p rv hlast hlastv;obtain⟨rv',W1,hrun,own1,gr1,hv1⟩:=R.zfk elemR w 0 F rv p.rules.length cs.flatten own ⟨sb,0,none⟩ 1 1 c7 (by rw[hc7.1]) (fun q u hq=>by rw[L.addr_add,Nat.zero_add];exact hsb q u hq) hc7.2 (by omega) hF;have hXtop:=h.top X (.inl rfl);have hXr:rv.ownBlock≠some X:=fun e=>h.apart rv hmem X e rfl
 have hXlt:=(h.own.lt X rfl).2;have hXF:=(h.own.lt X rfl).1;have hX1:=gr1.block X hXlt fun e=>hXr e.symm
 obtain⟨cur,hg,hnc,hmx,hsz,htk⟩:∃cur,w.heap[X]?=some (.cells cur 32 (0,0))/\init.length+1<=cap/\cap<=maxLen/\cur.size=cap*2/\cur.toList.take ((init++ [p]).length*2)=pcells (init++ [p]) (rvi++ [rv]):=by
  rcases h.own.2 with ⟨e,_⟩|⟨g,cap',cur,e,_,hg,h1,h2,h3,h4⟩
  ·cases e
  ·obtain⟨e1,_,e3⟩:=Value.slice.inj e;cases e1;subst e3;exact⟨cur,hg,by simpa using h1,h2,h3,h4⟩
 rw[zbg _ _ hli,List.length_append] at htk;have hpl:=zbs hli
 have hidx:cur[init.length*2+1]?=some rv:=by
  have e1:(cur.toList.take ((init.length+ [p].length)*2))[init.length*2+1]?=some rv:=by
   rw[htk,List.getElem?_append_right (by omega),hpl,show init.length*2+1 - init.length*2=1 by omega];rfl
  rw[List.getElem?_take] at e1;split at e1
  ·simpa using e1
  ·cases e1
 have hilt:=(qA.1 hidx).1;have hXc:=hX1.trans hg;have hset:=heap_setCell_same W1 X (init.length*2+1) _ _ rv' hXc;have oth:∀k,k≠X->(W1.setCell ⟨X,init.length*2+1,none⟩ rv').heap[k]?=W1.heap[k]?:=fun k hk=>heap_setCell_other W1 ⟨X,init.length*2+1,none⟩ k _ hk
 have hsz2:(W1.setCell ⟨X,init.length*2+1,none⟩ rv').heap.size=W1.heap.size:=by simp
 obtain⟨g',c',hrv'⟩:∃g c,rv'= .slice (some ⟨g,0,none⟩) (p.rules.length+1) c:=by
  rcases own1.2 with ⟨_,h0⟩|⟨g,c,cur',e,_⟩
  ·omega
  ·exact⟨g,c,e⟩
 have hrb:rv'.ownBlock=some g':=by rw[hrv'];rfl
 have hgX:g'≠X:=fun e=>by
  rcases hv1 g' hrb with h1 | h1
  ·exact hXr (e▸h1)
  ·omega
 have hk:∀b,b<w.heap.size->b∉tops->(W1.setCell ⟨X,init.length*2+1,none⟩ rv').heap[b]?=w.heap[b]?:=fun b hb hn=>by
  rw[oth b fun e=>hn (e▸hXtop)];exact gr1.block b hb fun e=>hn (h.top b (.inr ⟨rv,hmem,e.symm⟩))
 have hs:w.heap.size<=(W1.setCell ⟨X,init.length*2+1,none⟩ rv').heap.size:=by rw[hsz2];exact gr1.size
 have ht:∀k∈tops++ [g'],k∈tops∨w.heap.size<=k:=fun k hk'=>by
  rcases List.mem_append.1 hk' with h1 | h1
  ·exact .inl h1
  ·rw[List.mem_singleton.1 h1];exact(hv1 g' hrb).imp (fun h2=>h.top g' (.inr ⟨rv,hmem,h2⟩)) id
 have hBw:Below F w (W1.setCell ⟨X,init.length*2+1,none⟩ rv'):=((Below.refl F w).grown gr1 hF fun k hk'=>(own.lt k hk').1).setCell (p:=⟨X,init.length*2+1,none⟩) hXF _
 have hother:∀u∈rvi,∀k,u.ownBlock=some k->k≠X/\rv.ownBlock≠some k/\k<w.heap.size:=fun u hu k hk'=>by
  obtain⟨q,hq⟩:=List.getElem?_of_mem hu;have hql:=(qL.1 hq).1;have hq2:(rvi++ [rv])[q]?=some u:=by rw[List.getElem?_append_left hql];exact hq
  exact⟨fun e=>h.apart u (List.mem_append_left _ hu) k hk' (by rw[e];rfl),h.diff q init.length u rv k hq2 hlastv (by omega) hk',(h.rvlt (List.mem_append_left _ hu) k hk').2⟩
 refine⟨rv',W1,fun ty=>hrun,⟨g',c',hrv'⟩,by rw[World.cell?];simp only[show W1.heap[X]?=_ from hXc];simpa using hidx,frozen_of_row W1 X _ _ _ hXc,gr1,tops++ [g'],⟨by simp[hli],?_,fun q p' u h1 h2=> ?_,fun k hk'=> ?_,fun u hu k hk' e=> ?_,fun q1 q2 u1 u2 k h1 h2 hne h3 e=> ?_,fun k hk'=> ?_⟩,hBw,hs,hk,ht,fun k hk'=>List.mem_append_left _ hk'⟩
 ·refine⟨by rw[zbs (by simp[hli])],.inr ⟨X,cap,_,by simp,hXF,hset,by simpa using hnc,hmx,by simp[hsz],?_⟩⟩;rw[zbg _ _ hli,List.length_append,Array.toList_setIfInBounds,List.take_set];have e2:([(⟨p.name,p.rules++ [r]⟩:Pass)].length:Nat)= [p].length:=rfl;rw[e2,htk,List.set_append_right _ _ (by omega),hpl,show init.length*2+1 - init.length*2=1 by omega];rfl
 ·by_cases hq:q<init.length
  ·rw[List.getElem?_append_left hq] at h1;rw[List.getElem?_append_left (by rw[hli];exact hq)] at h2;have hrw:=h.rows q p' u (by rw[List.getElem?_append_left hq];exact h1) (by rw[List.getElem?_append_left (by rw[hli];exact hq)];exact h2);refine⟨hrw.1.step hs hk ht fun k hk'=> ?_,hrw.2⟩;obtain⟨o1,o2,o3⟩:=hother u (List.mem_of_getElem? h2) k hk';rw[oth k o1];exact gr1.block k o3 fun e=>o2 e.symm
  ·rw[List.getElem?_append_right (by omega)] at h1;rw[List.getElem?_append_right (by rw[hli];omega),hli] at h2
   have hq0:q - init.length=0:=by
    have:=(qL.1 h1).1;simp at this;omega
   rw[hq0] at h1 h2;cases h1;cases h2;refine⟨⟨cs++ [c7],?_,by simp[hcl],fun c hc=> ?_,fun i r' c h1 h2=> ?_⟩,hnm⟩
   ·rw[List.flatten_append,List.length_append];have e3: [c7].flatten=c7:=by simp
    rw[e3]
    exact zdw own1 fun k hk'=>by
     rw[hrb] at hk';cases hk';exact oth g' hgX
   ·rcases List.mem_append.1 hc with hc | hc
    ·exact hcs c hc
    ·rw[List.mem_singleton.1 hc];exact hc7
   ·by_cases hi:i<p.rules.length
    ·rw[List.getElem?_append_left hi] at h1;rw[List.getElem?_append_left (by rw[hcl];exact hi)] at h2;exact(hmean i r' c h1 h2).step hs hk ht
    ·rw[List.getElem?_append_right (by omega)] at h1;rw[List.getElem?_append_right (by rw[hcl];omega),hcl] at h2
     have hi0:i - p.rules.length=0:=by
      have:=(qL.1 h1).1;simp at this;omega
     rw[hi0] at h1 h2;cases h1;cases h2;exact hm.step hs hk ht
 ·rcases hk' with h1 | ⟨u,hu,h1⟩
  ·exact List.mem_append_left _ (h.top k (.inl h1))
  ·rcases List.mem_append.1 hu with hu | hu
   ·exact List.mem_append_left _ (h.top k (.inr ⟨u,List.mem_append_left _ hu,h1⟩))
   ·rw[List.mem_singleton.1 hu,hrb] at h1;cases h1;simp
 ·have hkX:k=X:=by simpa [Value.ownBlock] using e.symm
  rcases List.mem_append.1 hu with hu | hu
  ·exact(hother u hu k hk').1 hkX
  ·rw[List.mem_singleton.1 hu,hrb] at hk';cases hk';exact hgX hkX
 ·have fresh:∀u∈rvi,u.ownBlock=some k->rv'.ownBlock=some k->False:=fun u hu hk1 hk2=>by
   obtain⟨o1,o2,o3⟩:=hother u hu k hk1;rcases hv1 k hk2 with h1 | h1
   ·exact o2 h1
   ·omega
  by_cases hq1:q1<rvi.length
  ·rw[List.getElem?_append_left hq1] at h1
   by_cases hq2:q2<rvi.length
   ·rw[List.getElem?_append_left hq2] at h2;exact h.diff q1 q2 u1 u2 k (by rw[List.getElem?_append_left hq1];exact h1) (by rw[List.getElem?_append_left hq2];exact h2) hne h3 e
   ·rw[List.getElem?_append_right (by omega)] at h2;have hm2:=List.mem_of_getElem? h2;rw[List.mem_singleton.1 hm2] at e;exact fresh u1 (List.mem_of_getElem? h1) h3 e
  ·rw[List.getElem?_append_right (by omega)] at h1;have hm1:=List.mem_of_getElem? h1;rw[List.mem_singleton.1 hm1] at h3
   by_cases hq2:q2<rvi.length
   ·rw[List.getElem?_append_left hq2] at h2;exact fresh u2 (List.mem_of_getElem? h2) e h3
   ·rw[List.getElem?_append_right (by omega)] at h2;have l1:=(qL.1 h1).1;have l2:=(qL.1 h2).1;simp at l1 l2;omega
 ·rw[hsz2];rcases List.mem_append.1 hk' with h1 | h1
  ·exact Nat.lt_of_lt_of_le (h.lt k h1) gr1.size
  ·rw[List.mem_singleton.1 h1];exact(own1.lt g' hrb).2
theorem PS.cells {F:Nat}{tops:List Nat}{w:World}{init:List Pass}{p:Pass}{rvi:List Value}{rv:Value}{X cap:Nat}(h:PS F tops w (.slice (some ⟨X,0,none⟩) (init.length+1) cap) (init++ [p]) (rvi++ [rv]))(hli:rvi.length=init.length):w.cell? ⟨X,init.length*2,none⟩=some (.string p.name)/\w.cell? ⟨X,init.length*2+1,none⟩=some rv:=by
 have hc:=World.ownsRow.cells h.own (g:=X) rfl;rw[zbg _ _ hli] at hc;have hpl:=zbs hli;have c0:=hc (init.length*2) (.string p.name) (by rw[List.getElem?_append_right (by omega),hpl,Nat.sub_self];rfl);have c1:=hc (init.length*2+1) rv (by rw[List.getElem?_append_right (by omega),hpl,show init.length*2+1 - init.length*2=1 by omega];rfl);rw[L.addr_add,Nat.zero_add] at c0 c1;exact⟨c0,c1⟩
theorem PS.slice {F:Nat}{tops:List Nat}{w:World}{vp:Value}{ps:List Pass}{rvs:List Value}(h:PS F tops w vp ps rvs)(h0:0<ps.length):∃X cap,vp= .slice (some ⟨X,0,none⟩) ps.length cap:=by
 rcases h.own.2 with ⟨_,h1⟩|⟨g,cap,cur,e,_⟩
 ·omega
 ·exact⟨g,cap,e⟩
theorem PS.snoc {F:Nat}{tops:List Nat}{w:World}{vp:Value}{ps:List Pass}{rvs:List Value}(h:PS F tops w vp ps rvs)(h0:0<ps.length):∃init p rvi rv,ps=init++ [p]/\rvs=rvi++ [rv]/\rvi.length=init.length:=by
 have hl:=h.len;have hp:ps≠ []:=by intro e;rw[e] at h0;simp at h0
 have hr:rvs≠ []:=by intro e;rw[e] at hl;simp at hl;omega
 refine⟨ps.dropLast,ps.getLast hp,rvs.dropLast,rvs.getLast hr,(List.dropLast_concat_getLast hp).symm,(List.dropLast_concat_getLast hr).symm,by simp[hl]⟩
end V
