/-
 Texts that are read.
-/
import Derived.Test.YtamfgmaipajodaaGreatDoorSLib
import Derived.Test.YtamfgmaipajodaaGreatDoorRows
import Derived.BigRegion
import Derived.RegionTactic
import Derived.Deep.RegionHeld3
import Derived.Test.YtamfgmaipajodaaGreatDoorVLib
import Derived.Test.YtamfgmaipajodaaGreatDoorQBoxes
import Derived.Test.YtamfgmaipajodaaGreatDoorVForth
import Derived.Test.YtamfgmaipajodaaGreatDoorCnThru
import Derived.Test.YtamfgmaipajodaaGreatDoorXLib
set_option maxHeartbeats 0
set_option maxRecDepth 20000
set_option linter.unusedSimpArgs false
set_option linter.unusedVariables false
namespace Go.Proofs.YtamfgmaipajodaaGreatDoor
open Go.RowKit
namespace Ws
def Rd (w:World) (v:Value) (ts:List (List Int)):Prop :=
 ∃ao cap,v= .slice ao ts.length cap/\(ao=none->cap=0)/\(ts≠ []->∃b off,ao=some ⟨b,off,none⟩/\∀j t,ts[j]?=some t->∃u,w.cell? ⟨b,off+j,none⟩=some u/\L.Rd w u .i32 t)
theorem Rd.below {w w':World}{v:Value}{ts:List (List Int)}(h:Rd w v ts)(hb:Below w.heap.size w w'):Rd w' v ts:=by
 obtain⟨ao,cap,hv,hn,hc⟩:=h;refine⟨ao,cap,hv,hn,fun hne=> ?_⟩;obtain⟨b,off,e,hcell⟩:=hc hne;refine⟨b,off,e,fun j t hj=> ?_⟩;obtain⟨u,h1,h2⟩:=hcell j t hj;exact⟨u,by rw[hb.cell (p:=⟨b,off+j,none⟩) (L.block_lt h1)];exact h1,h2.below hb qN⟩
end Ws
theorem K.zba {t:TypeId}{ops:Array Oper}{o:Oper}{a:Act}{w:World}{K:Act->World->Prop}{Q:Exit->Act->World->Prop}{E:Prop}(hgd:o.guard=none)(s x:Operand)
  (ho:o.op= .call { callee:= .builtin .append,args:=#[s,x],argTypes:=#[t,t] }) (v vx v':Value) (w':World) (hs:a.eval s=v) (hx:a.eval x=vx)
  (hrun:∀ty,(Builtin.append_ #[t,t] ty #[v,vx]).run Tryz.prog w= .ok v' w') (h:K (a.put o.dst v') w') :
  if Region.wanted o (yielded ops a.tmps)=true then Oper.wp Tryz.prog o a w K Q else E:=by
 have hw:Region.wanted o (yielded ops a.tmps)=true:=by simp[Region.wanted,hgd]
 rw[if_pos hw];unfold Oper.wp;simp[execOp,ho,resolve,invoke,builtin,hs,hx,hrun,Result.andThen];exact h
def K.SsV (w:World) (v:Value) (l:List (List S.Sp)) (vs:List Value):Prop :=
 ∃ao cap,v= .slice ao l.length cap/\(ao=none->cap=0)/\K.Sets w vs l/\(l≠ []->∃b off,ao=some ⟨b,off,none⟩/\∀(j:Nat) u,vs[j]?=some u->w.cell? ⟨b,off+j,none⟩=some u)
theorem K.SsV.below {w w':World}{v:Value}{l:List (List S.Sp)}{vs:List Value}(h:K.SsV w v l vs)(hb:Below w.heap.size w w'):K.SsV w' v l vs:=by
 obtain⟨ao,cap,rfl,hn,hs,hc⟩:=h;refine⟨ao,cap,rfl,hn,hs.below hb,fun hz=> ?_⟩;obtain⟨b,off,rfl,hc2⟩:=hc hz;refine⟨b,off,rfl,fun j u hj=> ?_⟩;have h1:=hc2 j u hj;have:=L.block_lt h1;rw[hb.cell (p:=⟨b,off+j,none⟩) this];exact h1
namespace Ws
def Own (F:Nat) (w:World) (v:Value) (ts:List (List Int)):Prop :=
 ∃ps:List (List Int×Value),ps.map (·.1)=ts/\w.ownsRow F 33 1 v ts.length (ps.map (·.2))/\∀p∈ps,w.ownsRow F 21 1 p.2 p.1.length (K.ints p.1)
theorem Own.nil (F:Nat)(w:World):Own F w (.slice none 0 0) []:=⟨[],rfl,World.ownsRow_nil _ _ _ _,fun p hp=>by cases hp⟩
theorem Own.len {F:Nat}{w:World}{v:Value}{ts:List (List Int)}(h:Own F w v ts):∃ao cap,v= .slice ao ts.length cap:=by
 obtain⟨ps,_,h2,_⟩:=h;rcases h2.2 with ⟨hv,h0⟩|⟨g,cap,cur,hv,_⟩
 ·exact⟨none,0,by rw[hv,h0]⟩
 ·exact⟨_,cap,hv⟩
theorem kept1 {F:Nat}{e:TypeId}{k:Nat}{w w':World}{v:Value}{n:Nat}{xs:List Value}(h:w.ownsRow F e k v n xs)(hb:∀g,v.ownBlock=some g->w'.heap[g]?=w.heap[g]?):w'.ownsRow F e k v n xs:=by
 obtain⟨h1,h2⟩:=h;refine⟨h1,?_⟩;rcases h2 with h2 | ⟨g,cap,cur,hv,hg,hx,r⟩
 ·exact .inl h2
 ·exact .inr ⟨g,cap,cur,hv,hg,by rw[hb g (by rw[hv];rfl)];exact hx,r⟩
theorem Own.kept {F:Nat}{w w':World}{v:Value}{ts:List (List Int)}(h:Own F w v ts)(hb:∀g,F<=g->g<w.heap.size->w'.heap[g]?=w.heap[g]?):Own F w' v ts:=by
 obtain⟨ps,h1,h2,h3⟩:=h;exact⟨ps,h1,kept1 h2 fun g hg=>hb g (h2.lt g hg).1 (h2.lt g hg).2,fun p hp=>kept1 (h3 p hp) fun g hg=>hb g ((h3 p hp).lt g hg).1 ((h3 p hp).lt g hg).2⟩
theorem one_cell {F:Nat}{e:TypeId}{k:Nat}{w:World}{v:Value}{n:Nat}{xs:List Value}(h:w.ownsRow F e k v n xs):v.oneCell'=true:=by
 obtain⟨_,⟨rfl,_⟩|⟨g,cap,cur,rfl,_⟩⟩:=h <;> rfl
theorem Own.rd {F:Nat}{w:World}{v:Value}{ts:List (List Int)}(h:Own F w v ts):Rd w v ts:=by
 obtain⟨ps,h1,h2,h3⟩:=h;rcases h2.2 with ⟨hv,h0⟩|⟨g,cap,cur,hv,hg,hx,hle,hmax,hsz,htk⟩
 ·have:ts= []:=List.eq_nil_of_length_eq_zero h0;subst this;exact⟨none,0,hv,fun _=>rfl,fun h=>absurd rfl h⟩
 ·refine⟨_,cap,hv,fun e=>by (cases e),fun _=>⟨g,0,rfl,fun j t hj=> ?_⟩⟩;rw[<- h1,List.getElem?_map] at hj;cases hp:ps[j]? with
  | none=>rw[hp] at hj;simp at hj
  | some p =>
   rw[hp] at hj;simp at hj;subst hj;have hlt:=(qL.1 hp).1;have hjl:j<ts.length:=by rw[<- h1];simpa using hlt
   refine⟨p.2,?_,L.Rd.za1 (h3 p (List.mem_of_getElem? hp))⟩
   have e:cur.toList[j]?=some p.2:=by
    have:(cur.toList.take (ts.length*1))[j]?=some p.2:=by rw[htk,List.getElem?_map,hp];rfl
    rw[List.getElem?_take] at this;split at this
    ·exact this
    ·cases this
   exact K.zah hx (by simpa using e)
end Ws
end Go.Proofs.YtamfgmaipajodaaGreatDoor
namespace Go.Proofs.YtamfgmaipajodaaGreatDoor
open Go.RowKit Go.Lib
theorem zlz (w:World)(b:Nat)(s:V.Script)(oo:Option Addr)(oc:Nat)(vp:Value)(hb:w.heap[b]?=some (.cells #[.bool s.has,.slice oo s.only.length oc,vp] 27))(hO:S.Rd w (.slice oo s.only.length oc) s.only)(hN:s.has=true->S.wrongE s.only=0)(r:Int) :
  Calls Tryz.prog 69 #[.int .i32 r,.pointer (some ⟨b,0,none⟩)] w fun e w'=>e= .returned (.bool (!Cn.inS s r))/\Below w.heap.size w w':=by
 have k0:w.cell? ⟨b,0,none⟩=some (.bool s.has):=K.zah hb rfl;have k1:w.cell? ⟨b,1,none⟩=some (.slice oo s.only.length oc):=K.zah (i:=1) hb rfl;unfold Cn.inS;cases hh:s.has with
 | false =>
  rw[hh] at k0;clear hb
  go_enter Tryz.func69,Tryz.ntmps69
  go_wp2;go_ret
  exact⟨rfl,qR _⟩
 | true =>
  rw[hh] at k0;have hz:=S.zas.1 (hN hh);have H:=zg2 w _ s.only r hO hz.2 hz.1;generalize S.memb s.only r=z at H;clear hb hz
  go_enter Tryz.func69,Tryz.ntmps69
  go_wp2_with fail
  refine H.mono ?_;rintro e w1 ⟨rfl,b1⟩;have HB:Hid (Below w.heap.size w w1):=b1;clear b1 H;go_wp2;go_ret;exact⟨by cases z <;> rfl,HB.out⟩
namespace Cn
structure Lp (pl:Pl) (P:Int->Bool) (ps:List V.Pass) (t:List Int) (w wr:World) (vt vo:Value) (r o:List Int) (q:List Int×Int×Int):Prop where
 rd:L.Rd w vt .i32 r
 len:r.length<=t.length
 sub:∀x∈r,x∈t
 own:wr.ownsRow (w.heap.size+1) 21 1 vo o.length (K.ints o)
 res:runP pl ps (cut P r) o=q
 few:o.length<=4000*(t.length - r.length)
 bel:Below w.heap.size w wr
 box:wr.heap[w.heap.size]?=some (.cells #[.int .i64 0,.int .i64 0] 38)
theorem Lp.below {pl:Pl}{P:Int->Bool}{ps:List V.Pass}{t:List Int}{w wr w':World}{vt vo:Value}{r o:List Int}{q:List Int×Int×Int}(h:Lp pl P ps t w wr vt vo r o q)(hb:Below wr.heap.size wr w'):Lp pl P ps t w w' vt vo r o q :=
 ⟨h.rd,h.len,h.sub,Ws.kept1 h.own fun g hg=>hb.block g (h.own.lt g hg).2,h.res,h.few,h.bel.trans (hb.mono h.bel.size),K.zae h.box hb⟩
theorem Lp.add {pl:Pl}{P:Int->Bool}{ps:List V.Pass}{t:List Int}{w wr:World}{vt vo:Value}{r o:List Int}{q:List Int×Int×Int}(h:Lp pl P ps t w wr vt vo r o q)(ht:t.length<=4000)(vx:Value)(x:List Int)(hx:L.Rd wr vx .i32 x)(hxl:x.length<=4000) :
  ∃ao' vc' w',(∀ty,(Builtin.append_ #[33,33] ty #[vo,vx]).run Tryz.prog wr= .ok (.slice ao' (o++x).length vc') w')/\∀vt' r',L.Rd w vt' .i32 r'->r'.length<r.length->(∀y∈r',y∈r)->runP pl ps (cut P r') (o++x)=q->Lp pl P ps t w w' vt' (.slice ao' (o++x).length vc') r' (o++x) q:=by
 have hs:w.heap.size+1<=wr.heap.size:=lt_of_block h.box;have hfew:=h.few;have hlen:=h.len;obtain⟨v',w',run,own,gr,_⟩:=K.zqq wr (w.heap.size+1) vo o h.own vx x hx (by omega) hs
 obtain⟨ao',vc',rfl,_⟩:∃ao cap,v'= .slice ao (o++x).length cap/\(o++x).length<=cap:=by
  rcases own.2 with ⟨hv,h0⟩|⟨g,cap,cur,hv,_,_,hle,_⟩
  ·exact⟨none,0,by rw[hv,h0],by omega⟩
  ·exact⟨_,cap,hv,hle⟩
 refine⟨ao',vc',w',run,fun vt' r' h1 h2 h3 h4=>⟨h1,by omega,fun y hy=>h.sub y (h3 y hy),own,h4,?_,h.bel.grown gr h.bel.size fun k hk=>by have:=(h.own.lt k hk).1;omega,?_⟩⟩
 ·rw[List.length_append];have:4000*(t.length - r.length)+4000<=4000*(t.length - r'.length):=by omega
  omega
 ·rw[gr.block _ (by omega) fun e=>by have:=(h.own.lt _ e.symm).1;omega];exact h.box
end Cn
end Go.Proofs.YtamfgmaipajodaaGreatDoor
