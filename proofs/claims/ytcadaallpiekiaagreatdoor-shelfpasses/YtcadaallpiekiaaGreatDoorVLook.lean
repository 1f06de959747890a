import Derived.Test.YtcadaallpiekiaaGreatDoorRRd5
import Derived.Maps.OwnSet
set_option maxHeartbeats 0
set_option maxRecDepth 20000
set_option linter.unusedSimpArgs false
set_option linter.unusedVariables false
namespace Go.Proofs.YtcadaallpiekiaaGreatDoor
open Go.Proofs.Tryz
namespace R
open S (Sp)
open T (Out see skipW cut)
end R
namespace V
open Go.RowKit
structure Pass where
 name:ByteArray
 rules:List K.Rule
structure Script where
 has:Bool
 only:List S.Sp
 passes:List Pass
theorem zef {w w':World}{v:Value}{l:List (List S.Sp)}(h:K.Ss w v l)(k:R.Keeps w w'):K.Ss w' v l:=by
 obtain⟨ao,cap,vs,rfl,hn,hl,hs,hc⟩:=h;refine⟨ao,cap,vs,rfl,hn,hl,⟨hs.1,fun j u s hu hj=> ?_⟩,fun hz=> ?_⟩
 ·obtain⟨h1,h2,h3⟩:=hs.2 j u s hu hj;exact⟨h1,R.zc4 h2 k,h3⟩
 ·obtain⟨b,off,rfl,hc2⟩:=hc hz;exact⟨b,off,rfl,fun j u hj=>k _ _ _ (hc2 j u hj)⟩
theorem zj7 {w w':World}{v:Value}{l:List Int}(h:L.Rd w v .i32 l)(k:R.Keeps w w'):L.Rd w' v .i32 l:=by
 obtain⟨ao,cap,rfl,hn,h⟩:=h;refine⟨ao,cap,rfl,hn,fun hz=> ?_⟩;obtain⟨b,off,rfl,hc⟩:=h hz;exact⟨b,off,rfl,fun j z hj=>k _ _ _ (hc j z hj)⟩
theorem zgn {w w':World}{v:Value}{r:K.Rule}(h:K.RuIs w v r)(k:R.Keeps w w'):K.RuIs w' v r:=by
 obtain⟨bo,bc,so,sc,ao,ac,tgo,tc,rfl,h1,h2,h3,h4,h5⟩:=h;exact⟨bo,bc,so,sc,ao,ac,tgo,tc,rfl,zef h1 k,zef h2 k,zef h3 k,zj7 h4 k,h5⟩
def Rus (w:World) (v:Value) (l:List K.Rule):Prop :=
 ∃ao cap,v=.slice ao l.length cap/\l.length<=140737488355328/\(l≠ []->∃b off,ao=some ⟨b,off,none⟩/\∀(j:Nat) r,l[j]?=some r ->
  ∃bo bc so sc ao ac tgo tc,
   w.cell? ⟨b,off+j*7,none⟩=some (.bool r.start) /\
   w.cell? ⟨b,off+j*7+1,none⟩=some (.bool r.fin) /\
   w.cell? ⟨b,off+j*7+2,none⟩=some (.slice bo r.before.length bc) /\
   w.cell? ⟨b,off+j*7+3,none⟩=some (.slice so r.source.length sc) /\
   w.cell? ⟨b,off+j*7+4,none⟩=some (.slice ao r.after.length ac) /\
   w.cell? ⟨b,off+j*7+5,none⟩=some (.slice tgo r.target.length tc) /\
   w.cell? ⟨b,off+j*7+6,none⟩=some (.int .i64 r.cursor) /\
   K.RuIs w (.agg #[.bool r.start,.bool r.fin,.slice bo r.before.length bc,.slice so r.source.length sc,.slice ao r.after.length ac,.slice tgo r.target.length tc,.int .i64 r.cursor]) r)
theorem Rus.nil (w:World):Rus w (.slice none 0 0) []:=⟨none,0,rfl,by simp,fun h=>absurd rfl h⟩
theorem Rus.len {w:World}{v:Value}{l:List K.Rule}(h:Rus w v l):∃ao cap,v=.slice ao l.length cap:=by
 obtain⟨ao,cap,rfl,_⟩:=h;exact⟨ao,cap,rfl⟩
theorem Rus.few {w:World}{v:Value}{l:List K.Rule}(h:Rus w v l):l.length<=140737488355328:=by
 obtain⟨ao,cap,rfl,h,_⟩:=h;exact h
theorem Rus.keeps {w w':World}{v:Value}{l:List K.Rule}(h:Rus w v l)(k:R.Keeps w w'):Rus w' v l:=by
 obtain⟨ao,cap,rfl,hl,h⟩:=h;refine⟨ao,cap,rfl,hl,fun hz=> ?_⟩;obtain⟨b,off,rfl,hc⟩:=h hz;refine⟨b,off,rfl,fun j r hj=> ?_⟩;obtain⟨bo,bc,so,sc,ao,ac,tgo,tc,c0,c1,c2,c3,c4,c5,c6,hr⟩:=hc j r hj;exact⟨bo,bc,so,sc,ao,ac,tgo,tc,k _ _ _ c0,k _ _ _ c1,k _ _ _ c2,k _ _ _ c3,k _ _ _ c4,k _ _ _ c5,k _ _ _ c6,zgn hr k⟩
theorem Rus.below {w w':World}{v:Value}{l:List K.Rule}(h:Rus w v l)(hb:Bl w w'):Rus w' v l:=h.keeps (R.Keeps.of_below hb qN)
def Pas (w:World) (v:Value) (l:List Pass):Prop :=
 ∃ao cap,v=.slice ao l.length cap/\l.length<=140737488355328/\(l≠ []->∃b off,ao=some ⟨b,off,none⟩/\∀(j:Nat) p,l[j]?=some p ->
  w.cell? ⟨b,off+j*2,none⟩=some (.string p.name)/\p.name.size<=140737488355328 /\
  ∃ro rc,w.cell? ⟨b,off+j*2+1,none⟩=some (.slice ro p.rules.length rc)/\Rus w (.slice ro p.rules.length rc) p.rules)
theorem Pas.nil (w:World):Pas w (.slice none 0 0) []:=⟨none,0,rfl,by simp,fun h=>absurd rfl h⟩
theorem Pas.len {w:World}{v:Value}{l:List Pass}(h:Pas w v l):∃ao cap,v=.slice ao l.length cap:=by
 obtain⟨ao,cap,rfl,_⟩:=h;exact⟨ao,cap,rfl⟩
theorem Pas.few {w:World}{v:Value}{l:List Pass}(h:Pas w v l):l.length<=140737488355328:=by
 obtain⟨ao,cap,rfl,h,_⟩:=h;exact h
theorem Pas.keeps {w w':World}{v:Value}{l:List Pass}(h:Pas w v l)(k:R.Keeps w w'):Pas w' v l:=by
 obtain⟨ao,cap,rfl,hl,h⟩:=h;refine⟨ao,cap,rfl,hl,fun hz=> ?_⟩;obtain⟨b,off,rfl,hc⟩:=h hz;refine⟨b,off,rfl,fun j p hj=> ?_⟩;obtain⟨c0,hn,ro,rc,c1,hr⟩:=hc j p hj;exact⟨k _ _ _ c0,hn,ro,rc,k _ _ _ c1,hr.keeps k⟩
theorem Pas.below {w w':World}{v:Value}{l:List Pass}(h:Pas w v l)(hb:Bl w w'):Pas w' v l:=h.keeps (R.Keeps.of_below hb qN)
def ScIs (w:World) (v:Value) (s:Script):Prop :=
 ∃oo oc po pc,v=.agg #[.bool s.has,.slice oo s.only.length oc,.slice po s.passes.length pc]/\S.Rd w (.slice oo s.only.length oc) s.only/\s.only.length<=140737488355328/\Pas w (.slice po s.passes.length pc) s.passes
theorem ScIs.keeps {w w':World}{v:Value}{s:Script}(h:ScIs w v s)(k:R.Keeps w w'):ScIs w' v s:=by
 obtain⟨oo,oc,po,pc,rfl,h1,h2,h3⟩:=h;exact⟨oo,oc,po,pc,rfl,R.zc4 h1 k,h2,h3.keeps k⟩
theorem ScIs.below {w w':World}{v:Value}{s:Script}(h:ScIs w v s)(hb:Bl w w'):ScIs w' v s:=h.keeps (R.Keeps.of_below hb qN)
/-! What a meaning hangs on: the blocks that there are, two of them aside (the row of the passes, the row of the last pass's rules). -/
def Out (X Y:Nat) (w w':World):Prop:=∀b,b<w.heap.size->b≠X->b≠Y->w'.heap[b]?=w.heap[b]?
def Off (X Y:Nat) (w:World) (Q:World->Prop):Prop:=∀w',w.heap.size<=w'.heap.size->Out X Y w w'->Q w'
theorem Off.here {X Y:Nat}{w:World}{Q:World->Prop}(h:Off X Y w Q):Q w:=h w qN fun _ _ _ _=>rfl
theorem Off.cell {X Y:Nat}{w:World}{b o:Nat}{u:Value}(h:w.cell? ⟨b,o,none⟩=some u)(hX:b≠X)(hY:b≠Y):Off X Y w fun w'=>w'.cell? ⟨b,o,none⟩=some u :=
 fun w' _ ho=>by
  have e:=ho b (L.block_lt h) hX hY;show w'.cell? ⟨b,o,none⟩=some u;rw[World.cell?_of_block (a:=⟨b,o,none⟩) e];exact h
end V
section
open Go.RowKit Go.Lib
theorem Tryz.vinfoSp:(prog.info? 113).map (fun i=>(i.zero,i.size,i.bytes))=some (some (.agg #[.int .i32 0,.int .i32 0]),2,8):=by kernel_rfl
theorem Tryz.vinfoI32:(prog.info? 21).map (fun i=>(i.zero,i.size,i.bytes))=some (some (.int .i32 0),1,4):=by kernel_rfl
theorem zge (w:World)(v:Value)(l:List S.Sp)(R:S.Rd w v l)(hl:l.length<=17592186044160) :
  Calls prog 56 #[v] w fun e w'=>∃v',e=.returned v'/\w'.ownsRow w.heap.size 113 2 v' l.length (S.cellsOf l)/\Bl w w':=by
 obtain⟨ao,cap,rfl,hn,hc⟩:=R;obtain⟨i0,hi,hz0,hz1,hz2⟩:=info_parts Tryz.vinfoSp;have q22:∀(w:World) (a:Option Addr) (n c n' c':Nat),(binOp .eql 27 (.slice a n c) (.slice none n' c')).run prog w=.ok (.bool a.isNone) w:=fun w a n c n' c'=>Lib.run_eql_slice_nil w _ _ a n c n' c' underlying27
 cases ao with
 | none =>
  have h0:l= []:=by
   cases l with
   | nil=>rfl
   | cons z zs=>obtain⟨b,off,h,_⟩:=hc (by simp);simp at h
  subst h0;have:=hn rfl;subst this;clear hc
  go_enter func56,ntmps56
  go_wp2;go_ret
  exact⟨_,rfl,World.ownsRow_nil _ _ _ _,qR _⟩
 | some ad =>
  have HC:Hid (∀j u,(S.cellsOf l)[j]?=some u->w.cell? (ad.add j)=some u):=by
   intro j u hj;obtain⟨i,x,hx,hor⟩:=S.zlf hj;obtain⟨b,off,hao,hcell⟩:=hc (by intro h;subst h;simp at hx);simp at hao;subst hao;have h1:=hcell i x hx;rw[L.addr_add];rcases hor with ⟨rfl,rfl⟩|⟨rfl,rfl⟩
   ·exact h1.1
   ·exact h1.2
  clear hc;have OW:Hid ((w.alloc (.cells #[] 113)).ownsRow w.heap.size 113 2 (.slice (some ⟨w.heap.size,0,none⟩) 0 0) 0 []):=World.ownsRow_made w #[] 0 qN (Nat.zero_le _) (by simp)
  go_enter func56,ntmps56
  go_wp2_with (at_builtin;go_must (refine wpList_append_own _ rfl _ _ 27 rfl w.heap.size 113 i0 (.agg #[.int .i32 0,.int .i32 0]) 2 8 underlying27 hi hz0 hz1 hz2 rfl (by decide) _ _ _ rfl OW.out ad l.length cap (S.cellsOf l) rfl (S.zbn l) (fun j u hj=>Lib.cell?_alloc_some _ (HC.out j u hj)) (fun u hu=>S.zle hu) (by unfold maxLen;omega) (by omega) (by simp) ?_;intro v' w3 hown' hgrow3 hnil3))
  go_ret;refine⟨v',rfl,by simpa using hown',?_⟩
  exact((qR w).alloc qN _).grown hgrow3 (by simp) (fun k hk=>(OW.out.lt k hk).1)
def V.opp (s:ByteArray):ByteArray:=if (s.toList== [117,112,112,101,114])=true then ⟨#[108,111,119,101,114]⟩ else if (s.toList== [108,111,119,101,114])=true then ⟨#[117,112,112,101,114]⟩ else ⟨#[110,117,108,108]⟩
def V.against (d:Int):Int:=if d=1 then 2 else if d=2 then 1 else d
theorem zno (w:World)(a b c d:Value):Calls prog 94 #[.agg #[a,b,c,d]] w fun e w'=>e=.returned b/\w'=w.alloc (.cells #[a,b,c,d] 142):=by
 go_enter func94,ntmps94
 go_wp2;go_ret
 exact⟨rfl,rfl⟩
theorem V.push {w W1 w3:World}{e:TypeId}{c:Nat}{v v':Value}{n:Nat}{xs ys:List Value}{o:Obj}(hbw:Bl w W1)(hown:W1.ownsRow w.heap.size e c v n xs)
  (hown':w3.ownsRow w.heap.size e c v' (n+1) (xs++ys)) (hgrow:(W1.alloc o).grownBy w3 v.ownBlock) :
  Hid (w3.ownsRow w.heap.size e c v' (n+1) (xs++ys)/\Bl w w3) :=
 ⟨hown',Below.grown (hbw.alloc hbw.size _) hgrow (by have:=hbw.size;simp;omega) (fun j hj=>(hown.lt _ hj).1)⟩
theorem zqq (w:World)(v:Value)(l:List R.Item)(RR:R.Its w v l)(hl:l.length<=1000) :
  Calls prog 93 #[v,.func (.func 94) #[] #[]] w fun e w'=>∃v',e=.returned v'/\w'.ownsRow w.heap.size 21 1 v' l.length (l.map fun x=>Value.int .i32 x.rune)/\Bl w w':=by
 have HR:=qH RR;obtain⟨ao,ca,rfl⟩:=RR.len;clear RR;obtain⟨i0,hi,hz0,hz1,hz2⟩:=info_parts Tryz.vinfoI32
 go_enter func93,ntmps93
 go_wp2
 go_loopw [5,10] (fun v i wr=>∃k:Nat,k<=l.length/\i=.int .i64 k/\Hid (wr.ownsRow w.heap.size 21 1 v k ((l.take k).map fun x=>Value.int .i32 x.rune)/\Bl w wr)) (fun _ i _=>l.length-(RowKit.intOf i).toNat)
 case atStart=>exact⟨0,Nat.zero_le _,rfl,World.ownsRow_nil _ _ _ _,qR w⟩
 case round =>
  obtain⟨k,hk,rfl,HB⟩:=hrel
  by_cases hlt:k<l.length
  ·obtain⟨x,hx⟩:∃x,l[k]?=some x:=⟨l[k],by simp[hlt]⟩;obtain⟨ao',ca',e',hcs⟩:=HR.out.below HB.out.2;cases e';obtain⟨b,off,rfl,hcell⟩:=hcs (by intro h;subst h;simp at hlt);obtain⟨c0,c1,c3,⟨so,sc,c2,r2⟩,hf,_⟩:=hcell k x hx;clear hcell hcs r2 hf;have HX:=qH hx;clear hx;obtain⟨xk,xr,xs,xn⟩:=x;simp only at c0 c1 c2 c3;have hb1:=L.block_lt c0
   go_wp2_with fail
   refine(zno _ _ _ _ _).mono ?_;rintro e w5 ⟨rfl,hw5⟩;have BW:Bl wr w5:=by rw[hw5];exact((qR wr).alloc qN _).alloc (by simp) _
   have HO:Hid (w5.ownsRow w.heap.size 21 1 u5 k ((l.take k).map fun x=>Value.int .i32 x.rune)):=by rw[hw5];exact(HB.out.1.alloc _).alloc _
   have HBW:=qH<|HB.out.2.trans (BW.mono HB.out.2.size);have hsz5:=HBW.out.size;clear hw5 BW c0 c1 c2 c3 hb1
   go_wp2_with (at_builtin;go_must (refine wpList_append_own _ rfl _ _ 42 rfl w.heap.size 21 i0 (.int .i32 0) 1 4 underlying42 hi hz0 hz1 hz2 rfl (by decide) _ _ _ rfl (HO.out.alloc _) ⟨w5.heap.size,0,none⟩ 1 1 [.int .i32 xr] rfl rfl (cell_one_new _ _ _) (fun x hx=>by simp at hx;subst hx;rfl) (by unfold maxLen;omega) (by omega) (by simp;omega) ?_;intro v' w3 hown' hgrow3 hnil3;have HX3:=V.push HBW.out HO.out hown' hgrow3;clear hown' hgrow3 hnil3))
   go_roundw
   case rel=>exact⟨k+1,by omega,by go_num,by rw[List.take_add_one,HX.out];simpa using HX3.out.1,HX3.out.2⟩
   case measure=>simp[RowKit.intOf];omega
  ·have hkl:k=l.length:=by omega
   subst hkl;go_wp2;go_ret;exact⟨_,rfl,by simpa using HB.out.1,HB.out.2⟩
end
section
open Go.RowKit Go.Maps Go.WideMaps
def V.raw (v:Value):Option (DataW Value×List MemPlace):=some (.held v,[])
theorem V.keyed:Keyed prog 9:=string_keyed underlying9
theorem V.zeroSp (w:World):(zeroValue 27).run prog w=.ok (.slice none 0 0) w:=by kernel_rfl
def V.MapIs (w:World) (B n:Nat) (f:ByteArray->Option Value):Prop :=
 ∃D:DataW Value,w.ownsMap prog 9 V.raw B n D/\IsMap D /\
  ∀s:ByteArray,Maps.has D (.string s.data.toList)=(f s).isSome/\D.atKey (.string s.data.toList) (.held (.slice none 0 0))=.held ((f s).getD (.slice none 0 0))
theorem V.MapIs.made (w:World):V.MapIs (w.alloc (.map #[] 0)) w.heap.size 0 fun _=>none :=
 ⟨.map [],World.ownsMap_made w _ _ _,⟨[],rfl⟩,fun s=>⟨rfl,rfl⟩⟩
theorem V.MapIs.lt {w:World}{B n:Nat}{f:ByteArray->Option Value}(h:V.MapIs w B n f):B<w.heap.size:=by
 obtain⟨D,h1,_⟩:=h;exact h1.lt
theorem V.MapIs.block {w w':World}{B n:Nat}{f:ByteArray->Option Value}(h:V.MapIs w B n f)(e:w'.heap[B]?=w.heap[B]?):V.MapIs w' B n f:=by
 obtain⟨D,⟨es,clock,hb,F,hs,hD⟩,h2⟩:=h;exact⟨D,⟨es,clock,e.trans hb,F,hs,hD⟩,h2⟩
theorem V.MapIs.below {w w':World}{B n X:Nat}{f:ByteArray->Option Value}(h:V.MapIs w B n f)(hb:Below X w w')(hX:B<X):V.MapIs w' B n f:=h.block (hb.block B hX)
theorem V.MapIs.look {w:World}{B n:Nat}{f:ByteArray->Option Value}(h:V.MapIs w B n f)(s:ByteArray)(hs:s.size<=140737488355328) :
  (Instr.lookup 66 (.map (some B)) (.string s) false).run prog w=.ok ((f s).getD (.slice none 0 0)) w:=by
 obtain⟨D,h1,h2,h3⟩:=h;obtain⟨v,ps,hrun,hv⟩:=h1.lookup (t:=66) (e:=27) V.keyed underlying66 (V.zeroSp w) (zd:=.held (.slice none 0 0)) (zp:= []) rfl (key:=.string s) (keyOf_string_mk underlying9 (by unfold maxLen;omega));rw[(h3 s).2] at hv;simp only[V.raw,Option.some.injEq,Prod.mk.injEq,DataW.held.injEq] at hv;rw[hrun,hv.1]
theorem V.MapIs.look_ok {w:World}{B n:Nat}{f:ByteArray->Option Value}(h:V.MapIs w B n f)(s:ByteArray)(hs:s.size<=140737488355328) :
  (Instr.lookup 66 (.map (some B)) (.string s) true).run prog w=.ok (.tuple #[(f s).getD (.slice none 0 0),.bool (f s).isSome]) w:=by
 obtain⟨D,h1,h2,h3⟩:=h;obtain⟨v,ps,hrun,hv⟩:=h1.look_ok (t:=66) (e:=27) V.keyed underlying66 (V.zeroSp w) (zd:=.held (.slice none 0 0)) (zp:= []) rfl (key:=.string s) (keyOf_string_mk underlying9 (by unfold maxLen;omega));rw[(h3 s).2] at hv;simp only[V.raw,Option.some.injEq,Prod.mk.injEq,DataW.held.injEq] at hv;rw[hrun,hv.1,(h3 s).1]
theorem V.MapIs.put {w:World}{B n:Nat}{f:ByteArray->Option Value}(h:V.MapIs w B n f)(s:ByteArray)(hs:s.size<=140737488355328)(hn:n<=140737488355328)(v:Value) :
  ∃w',(Instr.mapUpdate 66 (.map (some B)) (.string s) v).run prog w=.ok () w'/\V.MapIs w' B (n+1) (fun t=>if t=s then some v else f t)/\w.grownBy w' (some B):=by
 obtain⟨D,h1,h2,h3⟩:=h;obtain⟨w',hrun,r1,r2⟩:=h1.update (t:=66) (e:=27) V.keyed underlying66 (by unfold maxLen;omega) (key:=.string s) (keyOf_string_mk underlying9 (by unfold maxLen;omega)) (val:=v) (d:=.held v) (ps:= []) rfl;refine⟨w',hrun,⟨_,r1,h2.put _ _,fun t=> ?_⟩,r2⟩
 by_cases ht:t=s
 ·subst ht;rw[has_put_same h2 (by simp[WideAt.IsKeyLit]),atKey_put_same h2 (by simp[WideAt.IsKeyLit])];simp
 ·have hne:Lit.string t.data.toList≠Lit.string s.data.toList:=by
   intro e;apply ht;have e1:t.data.toList=s.data.toList:=by simpa using e
   exact ByteArray.ext (Array.toList_inj.1 e1)
  rw[has_put_other hne,atKey_put_other hne,(h3 t).1,(h3 t).2];simp[ht]
end
section
open Go.RowKit Go.Lib
theorem V.lower {w:World}{B B':Nat}{e:TypeId}{c:Nat}{v:Value}{n:Nat}{xs:List Value}(h:w.ownsRow B e c v n xs)(hB:B'<=B):w.ownsRow B' e c v n xs:=by
 obtain⟨h1,h2⟩:=h;refine⟨h1,?_⟩;rcases h2 with h2|⟨g,cap,cur,k1,k2,k3⟩
 ·exact Or.inl h2
 ·exact Or.inr ⟨g,cap,cur,k1,Nat.le_trans hB k2,k3⟩
def V.setOf (g:ByteArray->List S.Sp) (x:R.Item):List S.Sp:=if x.kind=2 then x.set else if x.kind=3 then g x.name else [(x.rune,x.rune)]
def V.Vars (w:World) (bm:Nat) (g:ByteArray->List S.Sp):Prop :=
 ∃B n f,w.cell? ⟨bm,0,none⟩=some (.map (some B))/\V.MapIs w B n f/\∀s:ByteArray,S.Rd w ((f s).getD (.slice none 0 0)) (g s)/\(g s).length<=17592186044160
theorem V.Vars.below {w w':World}{bm:Nat}{g:ByteArray->List S.Sp}(h:V.Vars w bm g)(hb:Bl w w'):V.Vars w' bm g:=by
 obtain⟨B,n,f,h1,h2,h3⟩:=h;refine⟨B,n,f,?_,h2.below hb h2.lt,fun s=>⟨(h3 s).1.below hb qN,(h3 s).2⟩⟩;rw[hb.cell (p:=⟨bm,0,none⟩) (L.block_lt h1)];exact h1
theorem zp4 (w:World)(x:R.Item)(so:Option Addr)(sc bm:Nat)(g:ByteArray->List S.Sp)(HV:V.Vars w bm g)(RS:S.Rd w (.slice so x.set.length sc) x.set)(hl:x.kind=2->x.set.length<=17592186044160)(hn:x.name.size<=140737488355328) :
  Calls prog 91 #[.agg #[.int .i64 x.kind,.int .i32 x.rune,.slice so x.set.length sc,.string x.name],.pointer (some ⟨bm,0,none⟩)] w
   fun e w'=>∃v',e=.returned v'/\w'.ownsRow w.heap.size 113 2 v' (V.setOf g x).length (S.cellsOf (V.setOf g x))/\Bl w w':=by
 obtain⟨B,n,f,hm,hM,hg⟩:=HV;obtain⟨xk,xr,xs,xn⟩:=x;simp only at RS hl hn ⊢;have bA:Bl w (w.alloc (.cells #[.int .i64 xk,.int .i32 xr,.slice so xs.length sc,.string xn] 142)):=(qR w).alloc qN _;have hlook:=(hM.below bA hM.lt).look xn hn;have hbm:=L.block_lt hm
 have HC:Hid (∀W:World,Bl w W->∀v l,S.Rd w v l->l.length<=17592186044160->Calls prog 56 #[v] W fun e w'=>∃v',e=.returned v'/\w'.ownsRow w.heap.size 113 2 v' l.length (S.cellsOf l)/\Bl w w'):=fun W hW v l hv hl=>by
  refine(zge W v l (hv.below hW qN) hl).mono ?_;rintro e w' ⟨v',rfl,h1,h2⟩;exact⟨v',rfl,V.lower h1 hW.size,hW.trans (h2.mono hW.size)⟩
 have HG:=qH<|hg xn;have HRS:Hid (S.Rd w (.slice so xs.length sc) xs/\(xk=2->xs.length<=17592186044160)):=⟨RS,hl⟩;have HbA:Hid _:=bA;clear hg hM RS bA hl;generalize (f xn).getD (.slice none 0 0)=gv at hlook HG
 by_cases h2:xk=2
 ·subst h2;clear hlook
  go_enter func91,ntmps91
  go_wp2_with fail
  refine(HC.out _ HbA.out _ _ HRS.out.1 (HRS.out.2 trivial)).mono ?_;rintro e w1 ⟨v',rfl,o1,b1⟩;have HO:Hid _:=And.intro o1 b1;clear o1 b1;go_wp2;go_ret;exact⟨v',rfl,HO.out.1,HO.out.2⟩
 ·by_cases h3:xk=3
  ·subst h3
   go_enter func91,ntmps91
   go_wp2_with fail
   refine(HC.out _ HbA.out _ _ HG.out.1 HG.out.2).mono ?_;rintro e w1 ⟨v',rfl,o1,b1⟩;have HO:Hid _:=And.intro o1 b1;clear o1 b1;go_wp2;go_ret;exact⟨v',rfl,HO.out.1,HO.out.2⟩
  ·clear hlook;have e1:V.setOf g ⟨xk,xr,xs,xn⟩= [(xr,xr)]:=by simp[V.setOf,h2,h3]
   rw[e1];clear e1
   go_enter func91,ntmps91
   go_wp2;go_ret
   refine⟨_,rfl,?_,?_⟩
   ·refine⟨rfl,Or.inr ⟨w.heap.size+1,1,#[.int .i32 xr,.int .i32 xr],rfl,by omega,?_,qN,by unfold maxLen;omega,rfl,rfl⟩⟩;have h:=heap_alloc_new (w.alloc (.cells #[.int .i64 xk,.int .i32 xr,.slice so xs.length sc,.string xn] 142)) (.cells #[.int .i32 xr,.int .i32 xr] 113);simpa using h
   ·exact((qR w).alloc qN _).alloc (by simp) _
