import Derived.Test.YtcadaallpiekiaaGreatDoorCnRefP
set_option maxHeartbeats 0
set_option maxRecDepth 20000
set_option linter.unusedSimpArgs false
set_option linter.unusedVariables false
namespace Go.Proofs.YtcadaallpiekiaaGreatDoor
open Go.Proofs.Tryz
section
open Go.RowKit
theorem Tryz.infoBool:(prog.info? 4).map (fun i=>(i.zero,i.size,i.bytes))=some (some (.bool false),1,1):=by kernel_rfl
namespace Cn
structure Pcs (F:Nat) (w:World) (v:Value) (l:List (List Int×Value)):Prop where
 row:w.ownsRow F 42 1 v l.length (l.map (·.2))
 each:∀p∈l,w.ownsRow F 21 1 p.2 p.1.length (K.ints p.1)
 apart:l.Pairwise fun p q=>∀g,p.2.ownBlock=some g->q.2.ownBlock≠some g
theorem Pcs.nil (F:Nat)(w:World):Pcs F w (.slice none 0 0) []:=⟨World.ownsRow_nil _ _ _ _,fun p hp=>by (cases hp),List.Pairwise.nil⟩
theorem Pcs.kept {F:Nat}{w w':World}{v:Value}{l:List (List Int×Value)}(h:Pcs F w v l)(hk:∀g,F<=g->g<w.heap.size->w'.heap[g]?=w.heap[g]?):Pcs F w' v l :=
 ⟨Ws.kept1 h.row fun g hg=>hk g (h.row.lt g hg).1 (h.row.lt g hg).2,fun p hp=>Ws.kept1 (h.each p hp) fun g hg=>hk g ((h.each p hp).lt g hg).1 ((h.each p hp).lt g hg).2,h.apart⟩
theorem Pcs.len {F:Nat}{w:World}{v:Value}{l:List (List Int×Value)}(h:Pcs F w v l):∃ao cap,v=.slice ao l.length cap:=by
 rcases h.row.2 with ⟨hv,h0⟩|⟨g,cap,cur,hv,_⟩
 ·exact⟨none,0,by rw[hv,h0]⟩
 ·exact⟨_,cap,hv⟩
theorem zps (w:World)(F:Nat)(hF:F<=w.heap.size)(z:Int):(w.alloc (.cells #[.int .i32 z] 21)).ownsRow F 21 1 (.slice (some ⟨w.heap.size,0,none⟩) 1 1) [z].length (K.ints [z]) :=
 ⟨rfl,.inr ⟨w.heap.size,1,_,rfl,hF,heap_alloc_new w _,qN,by unfold maxLen;omega,rfl,rfl⟩⟩
theorem Pcs.push {F:Nat}{w:World}{v:Value}{l:List (List Int×Value)}(h:Pcs F w v l)(hF:F<=w.heap.size)(hl:l.length<=4000)(z:Int) :
  ∃ao cap w',(∀ty,(Builtin.append_ #[82,82] ty #[v,.slice (some ⟨w.heap.size+1,0,none⟩) 1 1]).run prog ((w.alloc (.cells #[.int .i32 z] 21)).alloc (.cells #[.slice (some ⟨w.heap.size,0,none⟩) 1 1] 42))=.ok (.slice ao (l.length+1) cap) w') /\
   Pcs F w' (.slice ao (l.length+1) cap) (l++ [([z],.slice (some ⟨w.heap.size,0,none⟩) 1 1)])/\(∀(b:Nat) (c:Array Value) (ty:TypeId),w.heap[b]?=some (.cells c ty)->ty≠42->w'.heap[b]?=w.heap[b]?)/\Below F w w':=by
 have hal:Bl w (w.alloc (.cells #[.int .i32 z] 21)):=(qR w).alloc qN _;obtain⟨w1,hw1⟩:=qE (w.alloc (.cells #[.int .i32 z] 21));have hs1:w1.heap.size=w.heap.size+1:=by rw[hw1];simp
 have hone:=zps w F hF z;rw[<- hw1] at hone hal;have h1:=h.kept (w':=w1) fun g _ hg=>hal.block g hg
 obtain⟨v',w',run,own,gr,oth⟩:=Ws.zt7 h1.row (by omega) (by omega) [z] (.slice (some ⟨w.heap.size,0,none⟩) 1 1) hone;have hle:(l++ [([z],Value.slice (some ⟨w.heap.size,0,none⟩) 1 1)]).length=l.length+1:=by simp
 rw[hle] at own
 obtain⟨ao,cap,rfl⟩:∃ao cap,v'=.slice ao (l.length+1) cap:=by
  rcases own.2 with ⟨hv,h0⟩|⟨g,cap,cur,hv,_⟩
  ·exact⟨none,0,by rw[hv,h0]⟩
  ·exact⟨_,cap,hv⟩
 refine⟨ao,cap,w',?_,⟨by rw[hle];exact own,fun p hp=> ?_,?_⟩,fun b c ty hb hty=> ?_,?_⟩
 ·rw[<- hw1,<- hs1];exact run
 ·rcases List.mem_append.1 hp with hp|hp
  ·exact oth _ _ _ (h1.each p hp)
  ·simp at hp;subst hp;exact oth _ _ _ hone
 ·refine List.pairwise_append.2 ⟨h.apart,List.pairwise_singleton _ _,fun p hp q hq g hg=> ?_⟩;simp at hq;subst hq;intro e;have e2:w.heap.size=g:=by simpa [Value.ownBlock] using e
  have:=((h.each p hp).lt g hg).2;omega
 ·have hb1:=K.zae hb hal;have hlt:=lt_of_block hb;rw[gr.block b (by simp;omega) (fun e=>Ws.zjl h1.row hb1 hty b e.symm rfl)];show (w1.alloc _).heap[b]?=_;rw[((Below.refl w1.heap.size w1).alloc qN (.cells #[.slice (some ⟨w.heap.size,0,none⟩) 1 1] 42)).block b (by omega)];exact hal.block b hlt
 ·exact((hal.mono hF).alloc (by omega) _).grown gr (by simp;omega) fun g hg=>(h1.row.lt g hg).1
theorem Pcs.snoc {F:Nat}{w:World}{v:Value}{d:List (List Int×Value)}{x:List Int}{u:Value}(h:Pcs F w v (d++ [(x,u)]))(hF:F<=w.heap.size)(hl:x.length<=4000)(z:Int) :
  ∃g cap uo uc w1,v=.slice (some ⟨g,0,none⟩) (d.length+1) cap/\w.cell? ⟨g,d.length,none⟩=some u/\(∃ua ub,u=.slice ua x.length ub) /\
   (∀ty,(Builtin.append_ #[42,42] ty #[u,.slice (some ⟨w.heap.size,0,none⟩) 1 1]).run prog (w.alloc (.cells #[.int .i32 z] 21))=.ok (.slice uo (x.length+1) uc) w1) /\
   w1.cell? ⟨g,d.length,none⟩=some u/\w1.frozen? ⟨g,d.length,none⟩=false /\
   Pcs F (w1.setCell ⟨g,d.length,none⟩ (.slice uo (x.length+1) uc)) v (d++ [(x++ [z],.slice uo (x.length+1) uc)])/\(∀(b:Nat) (c:Array Value) (ty:TypeId),w.heap[b]?=some (.cells c ty)->ty≠42->ty≠21->(w1.setCell ⟨g,d.length,none⟩ (.slice uo (x.length+1) uc)).heap[b]?=w.heap[b]?)/\Below F w (w1.setCell ⟨g,d.length,none⟩ (.slice uo (x.length+1) uc)):=by
 have hu:w.ownsRow F 21 1 u x.length (K.ints x):=h.each (x,u) (by simp);have hlen:(d++ [(x,u)]).length=d.length+1:=by simp
 have hrow:=h.row;rw[hlen] at hrow;rcases hrow.2 with ⟨_,h0⟩|⟨g,cap,cur,hv,hg,hx,hle,hmax,hsz,htk⟩
 ·omega
 rw[Nat.mul_one] at htk hsz
 obtain⟨ua,ub,rfl⟩:∃ua ub,u=.slice ua x.length ub:=by
  rcases hu.2 with ⟨hv,h0⟩|⟨g,cap,cur,hv,_⟩
  ·exact⟨none,0,by rw[hv,h0]⟩
  ·exact⟨_,_,hv⟩
 obtain⟨uo,uc,w1,run,own,kp,sz,be⟩:=Cn.app1 hu hF (by omega) z;have hgw:=lt_of_block hx;have hgn:(Value.slice ua x.length ub).ownBlock≠some g:=fun e=>Ws.zjl hu hx (by decide) g e rfl
 have hx1:=(kp g hgw hgn).trans hx
 have hcd:cur[d.length]?=some (.slice ua x.length ub):=by
  have e:(cur.toList.take (d.length+1))[d.length]?=some (.slice ua x.length ub):=by rw[htk];simp
  rw[List.getElem?_take] at e;split at e
  ·simpa using e
  ·cases e
 have hdlt:=(qA.1 hcd).1;have hset:=heap_setCell_same w1 g d.length _ _ (.slice uo (x.length+1) uc) hx1;have oth:∀k,k≠g->(w1.setCell ⟨g,d.length,none⟩ (.slice uo (x.length+1) uc)).heap[k]?=w1.heap[k]?:=fun k hk=>heap_setCell_other _ ⟨g,d.length,none⟩ k _ (by simpa using hk)
 have hxl:(x++ [z]).length=x.length+1:=by simp
 have hnew:∀gg,(Value.slice uo (x.length+1) uc).ownBlock=some gg->(Value.slice ua x.length ub).ownBlock=some gg∨w.heap.size<=gg:=by
  obtain⟨v'',w'',run2,own2,gr2,hbl⟩:=K.zea _ F (.slice ua x.length ub) x (hu.alloc (.cells #[.int .i32 z] 21)) (.slice (some ⟨w.heap.size,0,none⟩) 1 1) [z] (L.Rd.zax (zps w F hF z)) (by simp;omega) (by simp;omega);have e:=(run2 42).symm.trans (run 42);simp only[Result.ok.injEq] at e;obtain⟨rfl,_⟩:=e;intro gg hgg;rcases hbl with hb|⟨k,hk,hk2⟩
  ·exact .inl (hb▸hgg)
  ·rw[hk] at hgg;cases hgg;simp at hk2;exact .inr (by omega)
 refine⟨g,cap,uo,uc,w1,hv,K.zad hx hcd,⟨ua,ub,rfl⟩,run,K.zad hx1 hcd,frozen_of_row w1 g d.length _ _ hx1,⟨?_,fun p hp=> ?_,?_⟩,fun b c ty hb h1 h2=> ?_,be.setCell (p:=⟨g,d.length,none⟩) hg _⟩
 ·have hle2:(d++ [(x++ [z],Value.slice uo (x.length+1) uc)]).length=d.length+1:=by simp
  rw[hle2];refine⟨by simp,.inr ⟨g,cap,_,hv,hg,hset,hle,hmax,by simpa using hsz,?_⟩⟩
  have e1:(cur.toList.set d.length (Value.slice uo (x.length+1) uc)).take (d.length+1)=d.map (·.2)++ [Value.slice uo (x.length+1) uc]:=by
   rw[List.take_add_one,List.take_set_of_le qN,List.getElem?_set_self (by simpa using hdlt)]
   have:cur.toList.take d.length=d.map (·.2):=by
    have:=congrArg (List.take d.length) htk;rw[List.take_take,Nat.min_eq_left (by omega),List.map_append,List.take_left' (by simp)] at this;exact this
   rw[this];rfl
  rw[Nat.mul_one];simpa using e1
 ·rcases List.mem_append.1 hp with hp|hp
  ·have hpe:=h.each p (List.mem_append_left _ hp);have hap:=(List.pairwise_append.1 h.apart).2.2 p hp (x,.slice ua x.length ub) (by simp);refine Ws.kept1 hpe fun k hk=> ?_
   rw[oth k (Ws.zjl hpe hx (by decide) k hk)];exact kp k (hpe.lt k hk).2 (hap k hk)
  ·simp at hp;subst hp;refine Ws.kept1 (by rw[hxl] at own;simpa using own) fun k hk=>oth k fun e=> ?_
   subst e;rcases hnew _ hk with h1|h1
   ·exact hgn h1
   ·omega
 ·obtain⟨a1,a2,a3⟩:=List.pairwise_append.1 h.apart;refine List.pairwise_append.2 ⟨a1,List.pairwise_singleton _ _,fun p hp q hq k hk e=> ?_⟩;simp at hq;subst hq;rcases hnew k e with h1|h1
  ·exact a3 p hp (x,.slice ua x.length ub) (by simp) k hk h1
  ·have:=((h.each p (List.mem_append_left _ hp)).lt k hk).2;omega
 ·have hne:b≠g:=fun e=>by
   subst e;have:=hb.symm.trans hx;simp at this;exact h1 this.2
  rw[oth b hne];exact kp b (lt_of_block hb) fun e=>Ws.zjl hu hb h2 b e rfl
theorem zq0 {F:Nat}{w:World}{v:Value}{bs:List Bool}(h:w.ownsRow F 4 1 v bs.length (bs.map Value.bool))(hF:F<=w.heap.size)(hl:bs.length<=4000)(b:Bool) :
  ∃ao cap w',(∀ty,(Builtin.append_ #[83,83] ty #[v,.slice (some ⟨w.heap.size,0,none⟩) 1 1]).run prog (w.alloc (.cells #[.bool b] 4))=.ok (.slice ao (bs.length+1) cap) w')/\w'.ownsRow F 4 1 (.slice ao (bs.length+1) cap) (bs.length+1) ((bs++ [b]).map Value.bool)/\(∀(k:Nat) (c:Array Value) (ty:TypeId),w.heap[k]?=some (.cells c ty)->ty≠4->w'.heap[k]?=w.heap[k]?)/\Below F w w':=by
 obtain⟨i0,hi,hz0,hz1,hz2⟩:=info_parts Tryz.infoBool;have hal:Bl w (w.alloc (.cells #[.bool b] 4)):=(qR w).alloc qN _;have hnew:=heap_alloc_new w (.cells #[.bool b] 4)
 obtain⟨v',w',hrun,own,gr,_⟩:=run_append_own (P:=prog) (w.alloc (.cells #[.bool b] 4)) F 83 0 4 i0 _ 1 1 underlying83 hi hz0 hz1 hz2 rfl (by decide) v bs.length (bs.map Value.bool) (h.alloc _) ⟨w.heap.size,0,none⟩ 1 1 [.bool b] rfl
  (fun j u hj=>by
   rw[L.addr_add,Nat.zero_add]
   match j,hj with
   | 0,hj=>exact K.zad hnew (by simpa using hj)
   | n+1,hj=>simp at hj)
  (fun u hu=>by simp at hu;subst hu;rfl) (by unfold maxLen;omega) (by omega) (by simp;omega)
 obtain⟨ao,cap,rfl⟩:∃ao cap,v'=.slice ao (bs.length+1) cap:=by
  rcases own.2 with ⟨hv,h0⟩|⟨g,cap,cur,hv,_⟩
  ·exact⟨none,0,by rw[hv,h0]⟩
  ·exact⟨_,cap,hv⟩
 refine⟨ao,cap,w',fun ty=>hrun,by simpa using own,fun k c ty hk hty=> ?_,(hal.mono hF).grown gr (by simp;omega) fun g hg=>(h.lt g hg).1⟩;have hlt:=lt_of_block hk;rw[gr.block k (by simp;omega) (fun e=>Ws.zjl h hk hty k e.symm rfl)];exact hal.block k hlt
end Cn
end
section
open Go.RowKit Go.Lib
namespace Cn
structure Pz (s:V.Script) (t:List Int) (oo:Option Addr) (oc:Nat) (po:Option Addr) (pc:Nat) (w wr:World) (vo vm:Value) (l:List (List Int×Value)) (bs:List Bool) (k:Nat):Prop where
 pcs:Pcs (w.heap.size+1) wr vo l
 bools:wr.ownsRow (w.heap.size+1) 4 1 vm bs.length (bs.map Value.bool)
 fst:l.map (·.1)=(cut (inS s) (t.take k)).map (·.1)
 snd:bs=(cut (inS s) (t.take k)).map (·.2)
 bel:Bl w wr
 box:wr.heap[w.heap.size]?=some (.cells #[.bool s.has,.slice oo s.only.length oc,.slice po s.passes.length pc] 30)
theorem zdv {w:World}{F:Nat}{e:TypeId}{k:Nat}{v:Value}{n:Nat}{xs:List Value}(h:w.ownsRow F e k v n xs):∀g,v.ownBlock=some g->∃cur:Array Value,w.heap[g]?=some (.cells cur e):=by
 intro g hg;rcases h.2 with ⟨hv,_⟩|⟨g',cap,cur,hv,_,hx,_⟩
 ·rw[hv] at hg;cases hg
 ·rw[hv] at hg;have e2:g'=g:=by simpa [Value.ownBlock] using hg
  rw[e2] at hx;exact⟨cur,hx⟩
theorem Pz.len {s:V.Script}{t:List Int}{oo:Option Addr}{oc:Nat}{po:Option Addr}{pc:Nat}{w wr:World}{vo vm:Value}{l:List (List Int×Value)}{bs:List Bool}{k:Nat}(h:Pz s t oo oc po pc w wr vo vm l bs k):bs.length=l.length/\l.length<=k:=by
 have h1:=congrArg List.length h.fst;have h2:=congrArg List.length h.snd;have h3:=zqu (P:=inS s) (t:=t.take k);simp at h1 h2 h3;omega
theorem Pz.below {s:V.Script}{t:List Int}{oo:Option Addr}{oc:Nat}{po:Option Addr}{pc:Nat}{w wr w':World}{vo vm:Value}{l:List (List Int×Value)}{bs:List Bool}{k:Nat}(h:Pz s t oo oc po pc w wr vo vm l bs k)(hb:Bl wr w'):Pz s t oo oc po pc w w' vo vm l bs k :=
 ⟨h.pcs.kept fun g _ hg=>hb.block g hg,Ws.kept1 h.bools fun g hg=>hb.block g (h.bools.lt g hg).2,h.fst,h.snd,h.bel.trans (hb.mono h.bel.size),K.zae h.box hb⟩
theorem zf5 {w:World}{F:Nat}{mo:Option Addr}{n mc:Nat}{bs:List Bool}(h:w.ownsRow F 4 1 (.slice mo n mc) bs.length (bs.map Value.bool)){j:Nat}{b:Bool}(hj:bs[j]?=some b):∃gm,mo=some ⟨gm,0,none⟩/\w.cell? ⟨gm,j,none⟩=some (.bool b):=by
 have hlt:=(qL.1 hj).1;rcases h.2 with ⟨_,h0⟩|⟨g,cap,cur,hv,_,hx,_,_,_,htk⟩
 ·omega
 ·simp only[Value.slice.injEq] at hv;refine⟨g,hv.1,K.zad hx ?_⟩;rw[Nat.mul_one] at htk;have e:(cur.toList.take bs.length)[j]?=some (.bool b):=by rw[htk,List.getElem?_map,hj];rfl
  rw[List.getElem?_take,if_pos hlt] at e;simpa using e
theorem Pz.more {s:V.Script}{t:List Int}{oo:Option Addr}{oc:Nat}{po:Option Addr}{pc:Nat}{w wr:World}{vo:Value}{mo:Option Addr}{mc:Nat}{l:List (List Int×Value)}{bs:List Bool}{k:Nat}(h:Pz s t oo oc po pc w wr vo (.slice mo l.length mc) l bs k)(hk:k<=4000)(z:Int)(m:Bool)(hn:cut (inS s) (t.take (k+1))=cut (inS s) (t.take k)++ [([z],m)]) :
  ∃ao1 cap1 w1 ao2 cap2 w2,(∀ty,(Builtin.append_ #[82,82] ty #[vo,.slice (some ⟨wr.heap.size+1,0,none⟩) 1 1]).run prog ((wr.alloc (.cells #[.int .i32 z] 21)).alloc (.cells #[.slice (some ⟨wr.heap.size,0,none⟩) 1 1] 42))=.ok (.slice ao1 (l.length+1) cap1) w1) /\
   (∀ty,(Builtin.append_ #[83,83] ty #[.slice mo l.length mc,.slice (some ⟨w1.heap.size,0,none⟩) 1 1]).run prog (w1.alloc (.cells #[.bool m] 4))=.ok (.slice ao2 (l.length+1) cap2) w2) /\
   ∃l' bs',l'.length=l.length+1/\Pz s t oo oc po pc w w2 (.slice ao1 l'.length cap1) (.slice ao2 l'.length cap2) l' bs' (k+1):=by
 have hlen:=h.len;obtain⟨ao1,cap1,w1,run1,pcs1,kp1,be1⟩:=h.pcs.push (lt_of_block h.box) (by omega) z;have hs1:w.heap.size+1<=w1.heap.size:=Nat.le_trans (lt_of_block h.box) be1.size
 have hbw:=Ws.kept1 h.bools fun g hg=>by
  obtain⟨cur,hx⟩:=zdv h.bools g hg;exact kp1 g _ _ hx (by decide)
 obtain⟨ao2,cap2,w2,run2,own2,kp2,be2⟩:=zq0 hbw hs1 (by omega) m;rw[hlen.1] at run2 own2;have hl1:(l++ [([z],Value.slice (some ⟨wr.heap.size,0,none⟩) 1 1)]).length=l.length+1:=by simp
 have hx1:=(kp1 _ _ _ h.box (by decide)).trans h.box;refine⟨ao1,cap1,w1,ao2,cap2,w2,run1,run2,l++ [([z],.slice (some ⟨wr.heap.size,0,none⟩) 1 1)],bs++ [m],hl1,?_⟩;rw[hl1];refine⟨⟨Ws.kept1 pcs1.row fun g hg=> ?_,fun p hp=>Ws.kept1 (pcs1.each p hp) fun g hg=> ?_,pcs1.apart⟩,?_,?_,?_,(h.bel.trans (be1.mono (by omega))).trans (be2.mono (by omega)),(kp2 _ _ _ hx1 (by decide)).trans hx1⟩
 ·obtain⟨cur,hx⟩:=zdv pcs1.row g hg;exact kp2 g _ _ hx (by decide)
 ·obtain⟨cur,hx⟩:=zdv (pcs1.each p hp) g hg;exact kp2 g _ _ hx (by decide)
 ·have e:(bs++ [m]).length=l.length+1:=by simp[hlen.1]
  rw[e];exact own2
 ·rw[hn,List.map_append,List.map_append,h.fst];rfl
 ·rw[hn,List.map_append,<- h.snd];rfl
theorem Pz.join {s:V.Script}{t:List Int}{oo:Option Addr}{oc:Nat}{po:Option Addr}{pc:Nat}{w wr:World}{vo vm:Value}{d:List (List Int×Value)}{x:List Int}{u:Value}{bs:List Bool}{k:Nat}(h:Pz s t oo oc po pc w wr vo vm (d++ [(x,u)]) bs k)(hx4:x.length<=4000)(z:Int){e:List (List Int×Bool)}(hc:cut (inS s) (t.take k)=e++ [(x,true)])(hn:cut (inS s) (t.take (k+1))=e++ [(x++ [z],true)]) :
  ∃g cap uo uc w1,vo=.slice (some ⟨g,0,none⟩) (d.length+1) cap/\wr.cell? ⟨g,d.length,none⟩=some u/\(∃ua ub,u=.slice ua x.length ub) /\
   (∀ty,(Builtin.append_ #[42,42] ty #[u,.slice (some ⟨wr.heap.size,0,none⟩) 1 1]).run prog (wr.alloc (.cells #[.int .i32 z] 21))=.ok (.slice uo (x.length+1) uc) w1) /\
   w1.cell? ⟨g,d.length,none⟩=some u/\w1.frozen? ⟨g,d.length,none⟩=false /\
   ∃l',l'.length=d.length+1/\Pz s t oo oc po pc w (w1.setCell ⟨g,d.length,none⟩ (.slice uo (x.length+1) uc)) vo vm l' bs (k+1):=by
 obtain⟨g,cap,uo,uc,w1,h1,h2,h3,h4,h5,h6,h7,h8,h9⟩:=h.pcs.snoc (lt_of_block h.box) hx4 z;refine⟨g,cap,uo,uc,w1,h1,h2,h3,h4,h5,h6,d++ [(x++ [z],.slice uo (x.length+1) uc)],by simp,h7,?_,?_,?_,h.bel.trans (h9.mono (by omega)),(h8 _ _ _ h.box (by decide) (by decide)).trans h.box⟩
 ·refine Ws.kept1 h.bools fun g hg=> ?_
  obtain⟨cur,hx⟩:=zdv h.bools g hg;exact h8 g _ _ hx (by decide) (by decide)
 ·have h10:=h.fst;rw[hc,List.map_append,List.map_append] at h10;have h11:=List.append_inj_left' h10 rfl;rw[hn,List.map_append,List.map_append,h11];rfl
 ·rw[h.snd,hc,hn,List.map_append,List.map_append];rfl
end Cn
theorem zkj (w:World)(v:Value)(s:V.Script)(h0:V.ScIs w v s)(vt:Value)(t:List Int)(Rt:L.Rd w vt .i32 t)(ht:t.length<=4000) :
  Calls prog 39 #[v,vt] w fun e w'=>∃(l:List (List Int×Value)) (vo:Option Addr) (vc:Nat) (mo:Option Addr) (mc:Nat),e=.returned (.tuple #[.slice vo l.length vc,.slice mo l.length mc])/\Cn.Pcs (w.heap.size+1) w' (.slice vo l.length vc) l/\l.map (·.1)=(Cn.cut (Cn.inS s) t).map (·.1)/\w'.ownsRow (w.heap.size+1) 4 1 (.slice mo l.length mc) l.length (((Cn.cut (Cn.inS s) t).map (·.2)).map Value.bool)/\Bl w w':=by
 obtain⟨oo,oc,po,pc,rfl,hO,hOl,hP⟩:=h0;have hal:=fun o=>(qR w).alloc qN o
 have HIn:Hid (S.Rd w (.slice oo s.only.length oc) s.only/\L.Rd w vt .i32 t):=⟨hO,Rt⟩;have HZ0:Hid (Cn.Pz s t oo oc po pc w (w.alloc (.cells #[.bool s.has,.slice oo s.only.length oc,.slice po s.passes.length pc] 30)) (.slice none ([]:List (List Int×Value)).length 0) (.slice none ([]:List (List Int×Value)).length 0) [] [] 0):=⟨Cn.Pcs.nil _ _,World.ownsRow_nil _ _ _ _,rfl,rfl,hal _,heap_alloc_new w _⟩;obtain⟨xo,xc,rfl⟩:∃xo xc,vt=.slice xo t.length xc:=by obtain⟨a,c,h,_⟩:=Rt;exact⟨a,c,h⟩
 clear hO hP Rt hal
 go_enter func39,ntmps39
 go_wp2
 go_loopw [6,7,14] (fun i6 i7 i wr=>∃(k:Nat) (l:List (List Int×Value)) (bs:List Bool) (vo:Option Addr) (vc:Nat) (mo:Option Addr) (mc:Nat),k<=t.length/\i=.int .i64 k/\i6=.slice vo l.length vc/\i7=.slice mo l.length mc/\Hid (Cn.Pz s t oo oc po pc w wr (.slice vo l.length vc) (.slice mo l.length mc) l bs k)) (fun _ _ i _=>t.length-(intOf i).toNat)
 case atStart=>exact⟨0,[],[],none,0,none,0,Nat.zero_le _,rfl,rfl,rfl,HZ0⟩
 case round =>
  obtain⟨k,l,bs,vo,vc,mo,mc,hk,rfl,rfl,rfl,HI⟩:=hrel;have hll:l.length<=4000:=by have:=HI.out.len;omega
  by_cases hlt:k<t.length
  ·obtain⟨z,hz⟩:∃z,t[k]?=some z:=⟨t[k],by simp[hlt]⟩;obtain⟨ao',cap',e',_,hcs⟩:=HIn.out.2.below HI.out.bel qN;cases e';obtain⟨bt,off,rfl,hcell⟩:=hcs (by intro h;subst h;simp at hlt);have c0:=hcell k z hz
   have HSn:Hid (Cn.cut (Cn.inS s) (t.take (k+1))=Cn.snocP (Cn.inS s z) z (Cn.cut (Cn.inS s) (t.take k))):=by
    show _=_;rw[List.take_add_one,hz];exact Cn.zh0
   have kh:wr.cell? ⟨w.heap.size,0,none⟩=some (.bool s.has):=K.zad (i:=0) HI.out.box rfl;have ko:wr.cell? ⟨w.heap.size,1,none⟩=some (.slice oo s.only.length oc):=K.zad (i:=1) HI.out.box rfl;have HHs:=qH<|zei wr _ s.only z (HIn.out.1.below HI.out.bel qN) (by omega);clear hcs hcell hz HZ0;obtain⟨m,hm⟩:=qE (Cn.inS s z);rw[<- hm] at HSn;have HM:=qH hm;clear hm
   go_upto_region 6 with fail
   go_cut [10] (fun v10 wx=>v10=.bool m/\Hid (Cn.Pz s t oo oc po pc w wx (.slice vo l.length vc) (.slice mo l.length mc) l bs k))
   case first =>
    rcases Bool.eq_false_or_eq_true s.has with hh|hh
    rotate_left
    ·rw[hh] at kh;have hm:m=true:=by rw[HM.out,Cn.inS,hh];rfl
     subst hm;clear HHs hh;go_wp2
     go_meet
     case rel=>exact⟨rfl,HI⟩
    ·rw[hh] at kh;have hm:m=S.memb s.only z:=by rw[HM.out,Cn.inS,hh];rfl
     rw[<- hm] at HHs;clear hm hh
     go_wp2_with fail
     refine HHs.out.mono ?_;rintro e w1 ⟨rfl,b1⟩;have HI1:=qH<|HI.out.below b1;clear b1 HHs;go_wp2
     go_meet
     case rel=>exact⟨rfl,HI1⟩
   case rest =>
    obtain⟨rfl,HC⟩:=hcut;clear HI HHs kh ko c0;have hlen:=HC.out.len
    by_cases hj:m=true/\∃e x,Cn.cut (Cn.inS s) (t.take k)=e++ [(x,true)]
    ·obtain⟨rfl,e,x,hc⟩:=hj;have hn:Cn.cut (Cn.inS s) (t.take (k+1))=e++ [(x++ [z],true)]:=by rw[HSn.out,hc,Cn.zic,if_pos ⟨rfl,rfl⟩]
     have hx4:x.length<=4000:=by
      have h1:=Cn.zjg (P:=Cn.inS s) (t:=t.take k) (x,true) (by rw[hc];simp);rw[List.length_take] at h1;simp only at h1;omega
     obtain⟨d,u,rfl⟩:∃d u,l=d++ [(x,u)]:=by
      have h1:=HC.out.fst;rw[hc,List.map_append] at h1;rcases List.eq_nil_or_concat l with hl|⟨d,⟨x',u⟩,hl⟩
      ·rw[hl] at h1;simp at h1
      ·rw[hl,List.concat_eq_append] at h1;rw[List.map_append] at h1;have h2:=List.append_inj_right' h1 rfl;simp at h2;exact⟨d,u,by rw[hl,List.concat_eq_append,h2]⟩
     obtain⟨g,cap,uo,uc,w1,hv,hu,⟨ua,ub,rfl⟩,run1,hu1,hf1,l',hl',hN⟩:=HC.out.join hx4 z hc hn;have hdl:(d++ [(x,Value.slice ua x.length ub)]).length=d.length+1:=by simp
     rw[hdl] at hv HC hll hlen hN ⊢
     obtain⟨rfl,rfl⟩:vo=some ⟨g,0,none⟩/\vc=cap:=by
      simp only[Value.slice.injEq] at hv;exact⟨hv.1,hv.2.2⟩
     have hbt:bs[d.length]?=some true:=by
      have h1:=HC.out.snd;have h2:=congrArg List.length HC.out.fst;rw[hc] at h1 h2;simp at h2;rw[h1,List.map_append,h2];simp
     obtain⟨gm,rfl,hmc⟩:=Cn.zf5 HC.out.bools hbt;have HN:Hid (l'.length=d.length+1/\Cn.Pz s t oo oc po pc w (w1.setCell ⟨g,d.length,none⟩ (.slice uo (x.length+1) uc)) (.slice (some ⟨g,0,none⟩) (d.length+1) vc) (.slice (some ⟨gm,0,none⟩) (d.length+1) mc) l' bs (k+1)):=⟨hl',hN⟩;clear hv hc hn hN hl' HC hbt HSn HM
     go_wp2_with (at_builtin;refine Lib.wpList_append_run _ rfl _ _ _ _ rfl _ _ rfl rfl _ _ (run1 _) ?_;clear run1)
     go_roundw
     case rel=>exact⟨k+1,l',bs,some ⟨g,0,none⟩,vc,some ⟨gm,0,none⟩,mc,by omega,by go_num,by rw[HN.out.1],by rw[HN.out.1],by rw[HN.out.1];exact HN.out.2⟩
     case measure=>simp[intOf];omega
    ·have hn:Cn.cut (Cn.inS s) (t.take (k+1))=Cn.cut (Cn.inS s) (t.take k)++ [([z],m)]:=by
      rw[HSn.out];rcases List.eq_nil_or_concat (Cn.cut (Cn.inS s) (t.take k)) with h|⟨e,⟨x,b⟩,h⟩
      ·rw[h];rfl
      ·rw[h,List.concat_eq_append,Cn.zic,if_neg]
       ·simp
       ·rintro ⟨h1,rfl⟩;exact hj ⟨h1,e,x,by rw[h,List.concat_eq_append]⟩
     obtain⟨ao1,cap1,w1,ao2,cap2,w2,run1,run2,l',bs',hl',hN⟩:=HC.out.more (by omega) z m hn;have HN:Hid (l'.length=l.length+1/\Cn.Pz s t oo oc po pc w w2 (.slice ao1 l'.length cap1) (.slice ao2 l'.length cap2) l' bs' (k+1)):=⟨hl',hN⟩;have HHj:=qH hj;clear hn hN hl' hj;cases m with
     | false =>
      clear HC HSn HM HHj
      go_wp2_with (at_builtin;first|(have hq:=run1;clear hq;refine Lib.wpList_append_run _ rfl _ _ _ _ rfl _ _ rfl rfl _ _ (run1 _) ?_;clear run1)|((fail_if_success (have hq:=run1));refine Lib.wpList_append_run _ rfl _ _ _ _ rfl _ _ rfl rfl _ _ (run2 _) ?_;clear run2)|fail)
      go_roundw
      case rel=>exact⟨k+1,l',bs',ao1,cap1,ao2,cap2,by omega,by go_num,by rw[HN.out.1];(try rfl),by rw[HN.out.1];(try rfl),HN.out.2⟩
      case measure=>simp[intOf];omega
     | true =>
      by_cases hl0:l.length=0
      ·have hl:=List.eq_nil_of_length_eq_zero hl0;subst hl;clear HC HSn HM HHj
       go_wp2_with (at_builtin;first|(have hq:=run1;clear hq;refine Lib.wpList_append_run _ rfl _ _ _ _ rfl _ _ rfl rfl _ _ (run1 _) ?_;clear run1)|((fail_if_success (have hq:=run1));refine Lib.wpList_append_run _ rfl _ _ _ _ rfl _ _ rfl rfl _ _ (run2 _) ?_;clear run2)|fail)
       go_roundw
       case rel=>exact⟨k+1,l',bs',ao1,cap1,ao2,cap2,by omega,by go_num,by rw[HN.out.1];(try rfl),by rw[HN.out.1];(try rfl),HN.out.2⟩
       case measure=>simp[intOf];omega
      ·obtain⟨L,hL⟩:∃L,l.length=L+1:=⟨l.length-1,by omega⟩
       have hbt:bs[L]?=some false:=by
        have hbl:bs.length=L+1:=by omega
        rcases List.eq_nil_or_concat (Cn.cut (Cn.inS s) (t.take k)) with h|⟨e,⟨x,b⟩,h⟩
        ·have h1:=HC.out.snd;rw[h] at h1;rw[h1] at hbl;simp at hbl
        ·rw[List.concat_eq_append] at h;have h1:=HC.out.snd;rw[h,List.map_append] at h1
         have h2:e.length=L:=by
          rw[h1] at hbl;simpa using hbl
         have hb:b=false:=by
          cases b with
          | false=>rfl
          | true=>exact absurd ⟨rfl,e,x,h⟩ HHj.out
         rw[h1,hb,<- h2];simp
       obtain⟨gm,rfl,hmc⟩:=Cn.zf5 HC.out.bools hbt;have hLi:(l.length:Int)-1=(L:Int):=by omega
       have hLt:(L:Int)<(l.length:Int):=by omega
       obtain⟨N1,hN1⟩:=qE (l.length+1);rw[<- hN1] at HN run1 run2;clear HC HSn HM HHj hbt hL hN1 hl0
       go_wp2_with (at_builtin;first|(have hq:=run1;clear hq;refine Lib.wpList_append_run _ rfl _ _ _ _ rfl _ _ rfl rfl _ _ (run1 _) ?_;clear run1)|((fail_if_success (have hq:=run1));refine Lib.wpList_append_run _ rfl _ _ _ _ rfl _ _ rfl rfl _ _ (run2 _) ?_;clear run2)|fail)
       go_roundw
       case rel=>exact⟨k+1,l',bs',ao1,cap1,ao2,cap2,by omega,by go_num,by rw[HN.out.1];(try rfl),by rw[HN.out.1];(try rfl),HN.out.2⟩
       case measure=>simp[intOf];omega
  ·have hkl:k=t.length:=by omega
   go_wp2;refine bodyPost_ret (v:=.tuple #[.slice vo l.length vc,.slice mo l.length mc]) (by simp[results,results39,go_sem, *]) rfl ?_
   obtain⟨h1,h2,h3,h4,h5,h6⟩:=HI.out;rw[hkl,List.take_length] at h3 h4;have hbs:=HI.out.len.1;rw[hbs,h4] at h2;exact⟨l,vo,vc,mo,mc,rfl,h1,h3,h2,h5⟩
end
section
open Go.RowKit
theorem zii (s:ByteArray)(w:World) :
  Calls prog 65 #[.string s] w fun e w'=>e=.returned (.bool (R.passes s))/\w'=w:=by
 unfold R.passes
 go_enter func65,ntmps65
 go_wp2
 all_goals go_ret
 all_goals refine⟨L.zaj ?_,rfl⟩
 all_goals (rw[Bool.eq_iff_iff];simp;try simp_all)
theorem zim (w:World)(v:Value)(s:V.Script)(h0:V.ScIs w v s)(hfit:S.Fit s.only) :
  Calls prog 37 #[v] w fun e w'=>e=.returned (.agg #[.int .i64 (Cn.wrongF s).1,.int .i64 (Cn.wrongF s).2])/\Bl w w':=by
 obtain⟨oo,oc,po,pc,rfl,hO,hOl,hP⟩:=h0;have hPl:=hP.few;have HP:=qH hP;have HSw:=qH<|fun X hX=>zex X _ _ (hO.below hX qN) hfit
 obtain⟨⟨o1,o2⟩,HO⟩:∃o,Hid (Cn.wrongF s=o):=⟨_,rfl⟩;rw[HO.out];clear hO hP;have h2:=Cn.zcj w (.cells #[.bool s.has,.slice oo s.only.length oc,.slice po s.passes.length pc] 30) (.cells #[.int .i64 0,.int .i64 0] 36);have HX2:=qH h2;clear h2;cases hh:s.has with
 | false =>
  have HS0:Hid (¬(s.has=true/\¬S.wrongE s.only=0)):=fun h=>by
   have:=h.1;rw[hh] at this;cases this
  rw[hh] at HX2;have HX:Hid (_/\_/\_):=HX2.out;clear HX2 HSw
  go_enter func37,ntmps37
  by_cases hbig:60<s.passes.length
  ·have hw:Cn.wrongF s=(5,0):=by unfold Cn.wrongF;rw[if_neg HS0.out,if_pos hbig]
   rw[HO.out] at hw;cases hw;have hbi:(60:Int)<(s.passes.length:Int):=by omega
   go_wp2;refine bodyPost_ret (v:=.agg #[.int .i64 5,.int .i64 0]) (by simp[results,results37,go_sem, *]) rfl ?_
   exact⟨rfl,(Cn.zcj w _ _).2.2⟩
  ·have hw:Cn.firstP 0 s.passes=(o1,o2):=by rw[<- HO.out];unfold Cn.wrongF;rw[if_neg HS0.out,if_neg hbig]
   have HF:=qH hw;have hbi:¬(60:Int)<(s.passes.length:Int):=by omega
   clear hw;go_wp2
   go_loopw [24] (fun i wr=>∃k:Nat,k<=s.passes.length/\i=.int .i64 k/\Hid (Cn.firstP k (s.passes.drop k)=(o1,o2))/\Hid (Bl w wr)/\Hid (wr.heap[w.heap.size+1]?=some (.cells #[.int .i64 0,.int .i64 0] 36))) (fun i _=>s.passes.length-(intOf i).toNat)
   case atStart=>exact⟨0,Nat.zero_le _,rfl,HF,HX.out.2.2,HX.out.2.1⟩
   case round =>
    obtain⟨k,hk,rfl,HE,HB,HY⟩:=hrel
    by_cases hlt:k<s.passes.length
    ·obtain⟨p,hp⟩:∃x,s.passes[k]?=some x:=⟨s.passes[k],by simp[hlt]⟩;obtain⟨ao',cap',e',_,hcs⟩:=HP.out.below HB.out;cases e';obtain⟨b,off,rfl,hcell⟩:=hcs (by intro h;rw[h] at hlt;simp at hlt);obtain⟨c0,hn,ro,rc,c1,hr⟩:=hcell k p hp;have HE2:=qH<|Cn.zcs hp;have hsz:=HB.out.size;have HW:=qH<|fun o=>zcm _ _ _ (hr.below ((qR wr).alloc qN o))
     have HPa:=qH<|fun X=>zii p.name X
     have hrf:=hr.few;have hal:=fun o=>(qR wr).alloc qN o
     have HA:Hid (∀o,Bl w (wr.alloc o)/\(wr.alloc o).heap[w.heap.size+1]?=some (.cells #[.int .i64 0,.int .i64 0] 36)):=fun o=>⟨HB.out.trans ((hal o).mono hsz),K.zae HY.out (hal o)⟩
     have hy1:=lt_of_block HY.out;clear hp hcell hcs hr;cases h1:(p.name.toList== []) with
     | true =>
      have h1':=eq_of_beq h1;have he:Cn.passE p=(K.rulesF p.rules).1:=by unfold Cn.passE;rw[if_pos h1']
      rw[he] at HE2;obtain⟨⟨r1,r2⟩,hru⟩:∃o,K.rulesF p.rules=o:=⟨_,rfl⟩;rw[hru] at HW HE2;simp only at HW HE2;clear hru he HPa
      go_wp2_with fail
      refine(HW.out _).mono ?_;rintro e w1 ⟨rfl,b1⟩;obtain⟨_,B1,hl1⟩:=K.zau b1;have hY1:=K.zae HY.out B1;have HB1:=qH<|HB.out.trans (B1.mono hsz);have HY1:Hid (∀o,(w1.alloc o).heap[w.heap.size+1]?=some (.cells #[.int .i64 0,.int .i64 0] 36)/\Bl w (w1.alloc o)):=fun o=>⟨K.zae hY1 ((qR w1).alloc qN o),HB1.out.alloc HB1.out.size o⟩
      have k0:∀o,(w1.alloc o).cell? ⟨w.heap.size+1,0,none⟩=some (.int .i64 0):=fun o=>K.zai (K.zad hY1 rfl) o
      have k1:∀o,(w1.alloc o).cell? ⟨w.heap.size+1,1,none⟩=some (.int .i64 0):=fun o=>K.zai (K.zad hY1 rfl) o
      have g0:=fun o i=>K.zal hY1 o i
      obtain⟨x0,x1,f0,f1⟩:=K.box2 hY1;have hy2:=lt_of_block hY1;clear b1 B1 hY1
      by_cases hz:r1=0
      ·subst hz;go_wp2
       go_roundw
       case rel=>exact⟨k+1,by omega,by go_num,by show _=_;rw[<- HE.out,HE2.out];simp,(HY1.out _).2,(HY1.out _).1⟩
       case measure=>simp[intOf];omega
      ·go_wp2;refine bodyPost_ret (v:=.agg #[.int .i64 r1,.int .i64 k]) (by simp[results,results37,go_sem, *]) rfl ?_
       have h:=HE2.out;rw[HE.out,if_neg hz] at h;cases h;exact⟨rfl,(((HB1.out).setCell (p:=⟨w.heap.size+1,0,none⟩) (by simp) _).setCell (p:=⟨w.heap.size+1,1,none⟩) (by simp) _).alloc (by simp;omega) _⟩
     | false =>
      have h1':¬p.name.toList= []:=by simpa using h1
      have k0:∀o,(wr.alloc o).cell? ⟨w.heap.size+1,0,none⟩=some (.int .i64 0):=fun o=>K.zai (K.zad HY.out rfl) o
      have k1:∀o,(wr.alloc o).cell? ⟨w.heap.size+1,1,none⟩=some (.int .i64 0):=fun o=>K.zai (K.zad HY.out rfl) o
      have g0:=fun o i=>K.zal HY.out o i
      obtain⟨x0,x1,f0,f1⟩:=K.box2 HY.out;cases hps:R.passes p.name with
      | false =>
       have he:Cn.passE p=7:=by unfold Cn.passE;rw[if_neg h1',hps];rfl
       rw[he,HE.out] at HE2;rw[hps] at HPa;have h:=HE2.out;rw[if_neg (by decide)] at h;cases h
       go_wp2_with (go_at_call 65;refine(HPa.out _).mono ?_;rintro e w' ⟨rfl,rfl⟩)
       refine bodyPost_ret (v:=.agg #[.int .i64 7,.int .i64 k]) (by simp[results,results37,go_sem, *]) rfl ?_;exact⟨rfl,(((HB.out).setCell (p:=⟨w.heap.size+1,0,none⟩) (by simp) _).setCell (p:=⟨w.heap.size+1,1,none⟩) (by simp) _).alloc (by simp;omega) _⟩
      | true =>
       have he:Cn.passE p=if 0<p.rules.length then 8 else 0:=by unfold Cn.passE;rw[if_neg h1',hps];rfl
       rw[hps] at HPa
       by_cases hz:0<p.rules.length
       ·rw[he,if_pos hz,HE.out] at HE2;have h:=HE2.out;rw[if_neg (by decide)] at h;cases h;have hz':(0:Int)<(p.rules.length:Int):=by omega
        clear he
        go_wp2_with (go_at_call 65;refine(HPa.out _).mono ?_;rintro e w' ⟨rfl,rfl⟩)
        refine bodyPost_ret (v:=.agg #[.int .i64 8,.int .i64 k]) (by simp[results,results37,go_sem, *]) rfl ?_;exact⟨rfl,(((HB.out).setCell (p:=⟨w.heap.size+1,0,none⟩) (by simp) _).setCell (p:=⟨w.heap.size+1,1,none⟩) (by simp) _).alloc (by simp;omega) _⟩
       ·rw[he,if_neg hz] at HE2;have hz':¬(0:Int)<(p.rules.length:Int):=by omega
        clear he
        go_wp2_with (go_at_call 65;refine(HPa.out _).mono ?_;rintro e w' ⟨rfl,rfl⟩)
        go_roundw
        case rel=>exact⟨k+1,by omega,by go_num,by show _=_;rw[<- HE.out,HE2.out];simp,(HA.out _).1,(HA.out _).2⟩
        case measure=>simp[intOf];omega
    ·obtain⟨x0,x1,f0,f1⟩:=K.box2 HY.out;have h:=HE.out;rw[List.drop_eq_nil_of_le (by omega)] at h;cases h;go_wp2;refine bodyPost_ret (v:=.agg #[.int .i64 0,.int .i64 0]) (by simp[results,results37,go_sem, *]) rfl ?_;exact⟨rfl,((HB.out).setCell (p:=⟨w.heap.size+1,0,none⟩) (by simp) _).setCell (p:=⟨w.heap.size+1,1,none⟩) (by simp) _⟩
 | true =>
  rw[hh] at HX2;have hSw:=HSw.out _ HX2.out.2.2;obtain⟨z,HZ⟩:∃z,Hid (S.wrongE s.only=z):=⟨_,rfl⟩;rw[HZ.out] at hSw
  go_enter func37,ntmps37
  go_wp2_with fail
  refine hSw.mono ?_;rintro e w1 ⟨rfl,b1⟩;obtain⟨g1,g2,g3⟩:=HX2.out;have HX:Hid (w1.heap[w.heap.size]?=some (.cells #[.bool true,.slice oo s.only.length oc,.slice po s.passes.length pc] 30)/\w1.heap[w.heap.size+1]?=some (.cells #[.int .i64 0,.int .i64 0] 36)/\Bl w w1):=⟨K.zae g1 b1,K.zae g2 b1,g3.trans (b1.mono g3.size)⟩;clear g1 g2 g3 b1 hSw HX2 HSw
  by_cases hz:z=0
  ·subst hz;have HS0:Hid (¬(s.has=true/\¬S.wrongE s.only=0)):=fun h=>h.2 HZ.out
   obtain⟨kb,kf,kB⟩:=HX.out;have kp:w1.cell? ⟨w.heap.size,2,none⟩=some (.slice po s.passes.length pc):=K.zad kb rfl;obtain⟨y0,y1,f0,f1⟩:=K.box2 kf;clear kb kf kB
   by_cases hbig:60<s.passes.length
   ·have hw:Cn.wrongF s=(5,0):=by unfold Cn.wrongF;rw[if_neg HS0.out,if_pos hbig]
    rw[HO.out] at hw;cases hw;have hbi:(60:Int)<(s.passes.length:Int):=by omega
    go_wp2;refine bodyPost_ret (v:=.agg #[.int .i64 5,.int .i64 0]) (by simp[results,results37,go_sem, *]) rfl ?_
    exact⟨rfl,((HX.out.2.2).setCell (p:=⟨w.heap.size+1,0,none⟩) (by simp) _).setCell (p:=⟨w.heap.size+1,1,none⟩) (by simp) _⟩
   ·have hw:Cn.firstP 0 s.passes=(o1,o2):=by rw[<- HO.out];unfold Cn.wrongF;rw[if_neg HS0.out,if_neg hbig]
    have HF:=qH hw;have hbi:¬(60:Int)<(s.passes.length:Int):=by omega
    clear hw y0 y1 f0 f1;go_wp2
    go_loopw [24] (fun i wr=>∃k:Nat,k<=s.passes.length/\i=.int .i64 k/\Hid (Cn.firstP k (s.passes.drop k)=(o1,o2))/\Hid (Bl w wr)/\Hid (wr.heap[w.heap.size+1]?=some (.cells #[.int .i64 0,.int .i64 0] 36))) (fun i _=>s.passes.length-(intOf i).toNat)
    case atStart=>exact⟨0,Nat.zero_le _,rfl,HF,HX.out.2.2,HX.out.2.1⟩
    case round =>
     obtain⟨k,hk,rfl,HE,HB,HY⟩:=hrel
     by_cases hlt:k<s.passes.length
     ·obtain⟨p,hp⟩:∃x,s.passes[k]?=some x:=⟨s.passes[k],by simp[hlt]⟩;obtain⟨ao',cap',e',_,hcs⟩:=HP.out.below HB.out;cases e';obtain⟨b,off,rfl,hcell⟩:=hcs (by intro h;rw[h] at hlt;simp at hlt);obtain⟨c0,hn,ro,rc,c1,hr⟩:=hcell k p hp;have HE2:=qH<|Cn.zcs hp;have hsz:=HB.out.size;have HW:=qH<|fun o=>zcm _ _ _ (hr.below ((qR wr).alloc qN o))
      have HPa:=qH<|fun X=>zii p.name X
      have hrf:=hr.few;have hal:=fun o=>(qR wr).alloc qN o
      have HA:Hid (∀o,Bl w (wr.alloc o)/\(wr.alloc o).heap[w.heap.size+1]?=some (.cells #[.int .i64 0,.int .i64 0] 36)):=fun o=>⟨HB.out.trans ((hal o).mono hsz),K.zae HY.out (hal o)⟩
      have hy1:=lt_of_block HY.out;clear hp hcell hcs hr;cases h1:(p.name.toList== []) with
      | true =>
       have h1':=eq_of_beq h1;have he:Cn.passE p=(K.rulesF p.rules).1:=by unfold Cn.passE;rw[if_pos h1']
       rw[he] at HE2;obtain⟨⟨r1,r2⟩,hru⟩:∃o,K.rulesF p.rules=o:=⟨_,rfl⟩;rw[hru] at HW HE2;simp only at HW HE2;clear hru he HPa
       go_wp2_with fail
       refine(HW.out _).mono ?_;rintro e w1 ⟨rfl,b1⟩;obtain⟨_,B1,hl1⟩:=K.zau b1;have hY1:=K.zae HY.out B1;have HB1:=qH<|HB.out.trans (B1.mono hsz);have HY1:Hid (∀o,(w1.alloc o).heap[w.heap.size+1]?=some (.cells #[.int .i64 0,.int .i64 0] 36)/\Bl w (w1.alloc o)):=fun o=>⟨K.zae hY1 ((qR w1).alloc qN o),HB1.out.alloc HB1.out.size o⟩
       have k0:∀o,(w1.alloc o).cell? ⟨w.heap.size+1,0,none⟩=some (.int .i64 0):=fun o=>K.zai (K.zad hY1 rfl) o
       have k1:∀o,(w1.alloc o).cell? ⟨w.heap.size+1,1,none⟩=some (.int .i64 0):=fun o=>K.zai (K.zad hY1 rfl) o
       have g0:=fun o i=>K.zal hY1 o i
       obtain⟨x0,x1,f0,f1⟩:=K.box2 hY1;have hy2:=lt_of_block hY1;clear b1 B1 hY1
       by_cases hz:r1=0
       ·subst hz;go_wp2
        go_roundw
        case rel=>exact⟨k+1,by omega,by go_num,by show _=_;rw[<- HE.out,HE2.out];simp,(HY1.out _).2,(HY1.out _).1⟩
        case measure=>simp[intOf];omega
       ·go_wp2;refine bodyPost_ret (v:=.agg #[.int .i64 r1,.int .i64 k]) (by simp[results,results37,go_sem, *]) rfl ?_
        have h:=HE2.out;rw[HE.out,if_neg hz] at h;cases h;exact⟨rfl,(((HB1.out).setCell (p:=⟨w.heap.size+1,0,none⟩) (by simp) _).setCell (p:=⟨w.heap.size+1,1,none⟩) (by simp) _).alloc (by simp;omega) _⟩
      | false =>
       have h1':¬p.name.toList= []:=by simpa using h1
       have k0:∀o,(wr.alloc o).cell? ⟨w.heap.size+1,0,none⟩=some (.int .i64 0):=fun o=>K.zai (K.zad HY.out rfl) o
       have k1:∀o,(wr.alloc o).cell? ⟨w.heap.size+1,1,none⟩=some (.int .i64 0):=fun o=>K.zai (K.zad HY.out rfl) o
       have g0:=fun o i=>K.zal HY.out o i
       obtain⟨x0,x1,f0,f1⟩:=K.box2 HY.out;cases hps:R.passes p.name with
       | false =>
        have he:Cn.passE p=7:=by unfold Cn.passE;rw[if_neg h1',hps];rfl
        rw[he,HE.out] at HE2;rw[hps] at HPa;have h:=HE2.out;rw[if_neg (by decide)] at h;cases h
        go_wp2_with (go_at_call 65;refine(HPa.out _).mono ?_;rintro e w' ⟨rfl,rfl⟩)
        refine bodyPost_ret (v:=.agg #[.int .i64 7,.int .i64 k]) (by simp[results,results37,go_sem, *]) rfl ?_;exact⟨rfl,(((HB.out).setCell (p:=⟨w.heap.size+1,0,none⟩) (by simp) _).setCell (p:=⟨w.heap.size+1,1,none⟩) (by simp) _).alloc (by simp;omega) _⟩
       | true =>
        have he:Cn.passE p=if 0<p.rules.length then 8 else 0:=by unfold Cn.passE;rw[if_neg h1',hps];rfl
        rw[hps] at HPa
        by_cases hz:0<p.rules.length
        ·rw[he,if_pos hz,HE.out] at HE2;have h:=HE2.out;rw[if_neg (by decide)] at h;cases h;have hz':(0:Int)<(p.rules.length:Int):=by omega
         clear he
         go_wp2_with (go_at_call 65;refine(HPa.out _).mono ?_;rintro e w' ⟨rfl,rfl⟩)
         refine bodyPost_ret (v:=.agg #[.int .i64 8,.int .i64 k]) (by simp[results,results37,go_sem, *]) rfl ?_;exact⟨rfl,(((HB.out).setCell (p:=⟨w.heap.size+1,0,none⟩) (by simp) _).setCell (p:=⟨w.heap.size+1,1,none⟩) (by simp) _).alloc (by simp;omega) _⟩
        ·rw[he,if_neg hz] at HE2;have hz':¬(0:Int)<(p.rules.length:Int):=by omega
         clear he
         go_wp2_with (go_at_call 65;refine(HPa.out _).mono ?_;rintro e w' ⟨rfl,rfl⟩)
         go_roundw
         case rel=>exact⟨k+1,by omega,by go_num,by show _=_;rw[<- HE.out,HE2.out];simp,(HA.out _).1,(HA.out _).2⟩
         case measure=>simp[intOf];omega
     ·obtain⟨x0,x1,f0,f1⟩:=K.box2 HY.out;have h:=HE.out;rw[List.drop_eq_nil_of_le (by omega)] at h;cases h;go_wp2;refine bodyPost_ret (v:=.agg #[.int .i64 0,.int .i64 0]) (by simp[results,results37,go_sem, *]) rfl ?_;exact⟨rfl,((HB.out).setCell (p:=⟨w.heap.size+1,0,none⟩) (by simp) _).setCell (p:=⟨w.heap.size+1,1,none⟩) (by simp) _⟩
  ·have hw:Cn.wrongF s=(z,0):=by unfold Cn.wrongF;rw[if_pos ⟨hh,by rw[HZ.out];exact hz⟩,HZ.out]
   rw[HO.out] at hw;cases hw;obtain⟨y0,y1,f0,f1⟩:=K.box2 HX.out.2.1;go_wp2;refine bodyPost_ret (v:=.agg #[.int .i64 o1,.int .i64 0]) (by simp[results,results37,go_sem, *]) rfl ?_;exact⟨rfl,((HX.out.2.2).setCell (p:=⟨w.heap.size+1,0,none⟩) (by simp) _).setCell (p:=⟨w.heap.size+1,1,none⟩) (by simp) _⟩
end
section
open Go.RowKit Go.Lib
namespace Cn
structure Og (pl:Pl) (ps:List V.Pass) (c:List (List Int×Bool)) (W wr:World) (vo:Value) (i:Nat) (o:List Int) (q:List Int×Int×Int):Prop where
 own:wr.ownsRow W.heap.size 21 1 vo o.length (K.ints o)
 few:o.length<=4000*i
 bel:Bl W wr
 res:runP pl ps (c.drop i) o=q
theorem Og.below {pl:Pl}{ps:List V.Pass}{c:List (List Int×Bool)}{W wr w':World}{vo:Value}{i:Nat}{o:List Int}{q:List Int×Int×Int}(h:Og pl ps c W wr vo i o q)(hb:Bl wr w'):Og pl ps c W w' vo i o q :=
 ⟨Ws.kept1 h.own fun g hg=>hb.block g (h.own.lt g hg).2,h.few,h.bel.trans (hb.mono h.bel.size),h.res⟩
theorem zr7 {F:Nat}{w:World}{vo:Option Addr}{n vc:Nat}{l:List (List Int×Value)}(h:Pcs F w (.slice vo n vc) l){j:Nat}{x:List Int}{u:Value}(hj:l[j]?=some (x,u)):∃gp,vo=some ⟨gp,0,none⟩/\w.cell? ⟨gp,j,none⟩=some u:=by
 have hlt:=(qL.1 hj).1;rcases h.row.2 with ⟨_,h0⟩|⟨g,cap,cur,hv,_,hx,_,_,_,htk⟩
 ·omega
 ·simp only[Value.slice.injEq] at hv;refine⟨g,hv.1,K.zad hx ?_⟩;rw[Nat.mul_one] at htk;have e:(cur.toList.take l.length)[j]?=some u:=by rw[htk,List.getElem?_map,hj];rfl
  rw[List.getElem?_take,if_pos hlt] at e;simpa using e
theorem zn2 {w:World}{F:Nat}{mo:Option Addr}{n mc:Nat}{bs:List Bool}(h:w.ownsRow F 4 1 (.slice mo n mc) n (bs.map Value.bool)){j:Nat}{b:Bool}(hj:bs[j]?=some b):∃gm,mo=some ⟨gm,0,none⟩/\w.cell? ⟨gm,j,none⟩=some (.bool b):=by
 have e:bs.length=n:=by have:=h.1;simpa using this
 subst e;exact zf5 h hj
theorem Og.add {pl:Pl}{ps:List V.Pass}{c:List (List Int×Bool)}{W wr:World}{vo:Value}{i:Nat}{o:List Int}{q:List Int×Int×Int}(h:Og pl ps c W wr vo i o q)(hi:i<=4000)(vx:Value)(y:List Int)(hx:L.Rd wr vx .i32 y)(hy:y.length<=4000)(hr:runP pl ps (c.drop (i+1)) (o++y)=q) :
  ∃ao' vc' w',(∀ty,(Builtin.append_ #[42,42] ty #[vo,vx]).run prog wr=.ok (.slice ao' (o++y).length vc') w')/\Og pl ps c W w' (.slice ao' (o++y).length vc') (i+1) (o++y) q:=by
 have hfew:=h.few;obtain⟨v',w',run,own,gr,_⟩:=K.zea wr W.heap.size vo o h.own vx y hx (by omega) h.bel.size
 obtain⟨ao',vc',rfl⟩:∃ao cap,v'=.slice ao (o++y).length cap:=by
  rcases own.2 with ⟨hv,h0⟩|⟨g,cap,cur,hv,_⟩
  ·exact⟨none,0,by rw[hv,h0]⟩
  ·exact⟨_,cap,hv⟩
 exact⟨ao',vc',w',run,own,by rw[List.length_append];omega,h.bel.grown gr h.bel.size fun k hk=>(h.own.lt k hk).1,hr⟩
end Cn
theorem zph (pl:Cn.Pl)(hpl:Cn.PlOk pl)(w:World)(v:Value)(s:V.Script)(h0:V.ScIs w v s)(hfit:S.Fit s.only)(xo:Option Addr)(xc:Nat)(t:List Int)(Rt:L.Rd w (.slice xo t.length xc) .i32 t)(hcap:t.length<=xc)(ht:t.length<=140737488355328) :
  Calls prog 15 #[v,.slice xo t.length xc] w fun e w'=>∃v',e=.returned (.tuple #[v',.agg #[.int .i64 (Cn.goF pl s t).2.1,.int .i64 (Cn.goF pl s t).2.2]])/\L.Rd w' v' .i32 (Cn.goF pl s t).1/\Bl w w':=by
 have HWr:=qH<|fun X hX=>zim X v s (h0.below hX) hfit
 have HTx:=qH<|fun X hX=>zfm X _ t (Rt.below hX qN) ht
 obtain⟨⟨g,g1,g2⟩,HG⟩:∃o,Hid (Cn.goF pl s t=o):=⟨_,rfl⟩;rw[HG.out];obtain⟨oo,oc,po,pc,rfl,hO,hOl,hP⟩:=h0;have HIn:Hid (S.Rd w (.slice oo s.only.length oc) s.only/\V.Pas w (.slice po s.passes.length pc) s.passes/\L.Rd w (.slice xo t.length xc) .i32 t/\Cn.PlOk pl):=⟨hO,hP,Rt,hpl⟩;obtain⟨W0,hW0⟩:=qE ((w.alloc (.cells #[.bool s.has,.slice oo s.only.length oc,.slice po s.passes.length pc] 30)).alloc (.cells #[.int .i64 0,.int .i64 0] 36));have h2:=Cn.zcj w (.cells #[.bool s.has,.slice oo s.only.length oc,.slice po s.passes.length pc] 30) (.cells #[.int .i64 0,.int .i64 0] 36);rw[<- hW0] at h2;have HA0:Hid (Cn.At w W0 (.bool s.has) (.slice oo s.only.length oc) (.slice po s.passes.length pc)):=⟨h2.2.2,K.zad h2.1 rfl,K.zad (i:=1) h2.1 rfl,K.zad (i:=2) h2.1 rfl,h2.2.1⟩;have hWr:=HWr.out W0 HA0.out.1;obtain⟨⟨e1,e2⟩,HE⟩:∃o,Hid (Cn.wrongF s=o):=⟨_,rfl⟩;rw[HE.out] at hWr;have HW1:Hid (Calls prog 37 #[.agg #[.bool s.has,.slice oo s.only.length oc,.slice po s.passes.length pc]] W0 fun e w'=>e=.returned (.agg #[.int .i64 e1,.int .i64 e2])/\Bl W0 w'):=hWr;have hPl:=hP.few;have HW0:=qH hW0;clear hWr h2 hO hP Rt hpl HWr hW0
 go_enter func15,ntmps15
 go_wp2_with fail
 rw[<- HW0.out];refine HW1.out.mono ?_;rintro e w1 ⟨rfl,b1⟩;have hA1:=HA0.out.below b1;have HA1:=qH<|fun o=>hA1.alloc o
 have hx1:=lt_of_block hA1.2.2.2.2;obtain⟨x0,x1,f0,f1⟩:=K.box2 hA1.2.2.2.2;have k0:=fun o=>K.zai x0 o
 have k1:=fun o=>K.zai x1 o
 have fz:=fun o i=>K.zal hA1.2.2.2.2 o i
 have HB1:=qH hA1.1;clear b1 hA1 HW1 HA0 HW0
 by_cases q1:e1=0
 ·subst q1;have HTt:=qH<|fun o=>HTx.out _ (HA1.out o).1
  obtain⟨z,HZ⟩:∃z,Hid (K.textE t=z):=⟨_,rfl⟩;rw[HZ.out] at HTt;clear HTx k0 k1 fz x0 x1 f0 f1
  go_wp2_with fail
  refine(HTt.out _).mono ?_;rintro e w2 ⟨rfl,b2⟩;have hA2:=(HA1.out _).below b2;have HA2:=qH hA2;obtain⟨x0,x1,f0,f1⟩:=K.box2 hA2.2.2.2.2;have hx2:=lt_of_block hA2.2.2.2.2;clear b2 hA2 HTt HA1 HB1
  by_cases q2:z=0
  ·subst q2;have hW:=Cn.ze3 (s:=s) (by rw[HE.out]);have hT:=Cn.zeb.1 HZ.out
   have HGo:Hid ((g,g1,g2)=if (Cn.runP pl s.passes (Cn.cut (Cn.inS s) t) []).2.1=0 then
    (if 4000<(Cn.runP pl s.passes (Cn.cut (Cn.inS s) t) []).1.length then ([],4,(s.passes.length:Int)) else ((Cn.runP pl s.passes (Cn.cut (Cn.inS s) t) []).1,0,0))
   else ([],(Cn.runP pl s.passes (Cn.cut (Cn.inS s) t) []).2)):=by
    show _=_;rw[<- HG.out,Cn.goF,if_pos (by rw[HE.out]),if_pos HZ.out]
   have HSc:Hid (∀X,Bl w X->V.ScIs X (.agg #[.bool s.has,.slice oo s.only.length oc,.slice po s.passes.length pc]) s):=fun X hX=>⟨oo,oc,po,pc,rfl,HIn.out.1.below hX qN,hOl,HIn.out.2.1.below hX⟩
   have HPc:=zkj w2 _ s (HSc.out w2 HA2.out.1) _ t (HIn.out.2.2.1.below HA2.out.1 qN) hT.1;have HPi:=qH HPc;have HTr:Hid (Cn.Tx t/\(∀p∈s.passes,Cn.passE p=0)/\s.passes.length<=60):=⟨hT,hW.2.2.1,hW.2.1⟩;obtain⟨c,hc⟩:=qE (Cn.cut (Cn.inS s) t);obtain⟨⟨q,r1,r2⟩,hQ⟩:∃o,Cn.runP pl s.passes c []=o:=⟨_,rfl⟩;rw[<- hc] at HPi HGo;rw[hQ] at HGo;simp only at HGo;have HCt:Hid ((∀q∈c,Cn.Tx q.1)/\c.length<=4000):=⟨fun q hq=>Cn.zvh hT q (by rw[<- hc];exact hq),by rw[hc];exact Nat.le_trans Cn.zqu hT.1⟩;have HQ:=qH hQ;have k0:=HA2.out.2.1;have k1:=HA2.out.2.2.1;have k2:=HA2.out.2.2.2.1;clear hc hQ HPc hW hT x0 x1 f0 f1
   go_wp2_with fail
   refine HPi.out.mono ?_;rintro e W ⟨l,vo,vc,mo,mc,rfl,hP1,hP2,hP3,b3⟩;have HAt:=qH<|HA2.out.below b3
   have hlc:l.length=c.length:=by
    have:=congrArg List.length hP2;simpa using this
   have hl4:l.length<=4000:=by have:=HCt.out.2;omega
   have HPs:Hid (Cn.Pcs (w2.heap.size+1) W (.slice vo l.length vc) l/\l.map (·.1)=c.map (·.1)/\W.ownsRow (w2.heap.size+1) 4 1 (.slice mo l.length mc) l.length ((c.map (·.2)).map Value.bool)/\l.length=c.length):=⟨hP1,hP2,hP3,hlc⟩;have HOg0:Hid (Cn.Og pl s.passes c W W (.slice none ([]:List Int).length 0) 0 [] (q,r1,r2)):=⟨World.ownsRow_nil _ _ _ _,by simp,qR _,HQ.out⟩;clear hP1 hP2 hP3 b3 HPi k0 k1 k2 hlc HA2;go_wp2
   go_loopw [10,37] (fun i10 i wr=>∃(j:Nat) (o:List Int) (uo:Option Addr) (uc:Nat),j<=l.length/\i=.int .i64 j/\i10=.slice uo o.length uc/\Hid (Cn.Og pl s.passes c W wr (.slice uo o.length uc) j o (q,r1,r2))) (fun _ i _=>l.length-(intOf i).toNat)
   case atStart=>exact⟨0,[],none,0,Nat.zero_le _,rfl,rfl,HOg0⟩
   case round =>
    obtain⟨j,o,uo,uc,hj,rfl,rfl,HO⟩:=hrel;have hAt:=HAt.out.below HO.out.bel;clear HOg0
    by_cases hlt:j<l.length
    ·skip
     obtain⟨⟨x,m⟩,hx⟩:∃x,c[j]?=some x:=⟨c[j]'(by have:=HPs.out.2.2.2;omega),by simp⟩
     obtain⟨u,hu⟩:∃u,l[j]?=some (x,u):=by
      obtain⟨⟨x',u⟩,hl⟩:∃p,l[j]?=some p:=⟨l[j],by simp[hlt]⟩;have h1:(l.map (·.1))[j]?=(c.map (·.1))[j]?:=by rw[HPs.out.2.1]
      rw[List.getElem?_map,List.getElem?_map,hl,hx] at h1;simp at h1;exact⟨u,by rw[hl,h1]⟩
     obtain⟨gp,rfl,hpc⟩:=Cn.zr7 HPs.out.1 hu;obtain⟨gm,rfl,hmc⟩:=Cn.zn2 HPs.out.2.2.1 (j:=j) (b:=m) (by rw[List.getElem?_map,hx];rfl);have hux:=HPs.out.1.each (x,u) (List.mem_of_getElem? hu)
     obtain⟨ua,ub,rfl⟩:∃ua ub,u=.slice ua x.length ub:=by
      rcases hux.2 with ⟨hv,h0⟩|⟨g,cap,cur,hv,_⟩
      ·exact⟨none,0,by simp only at hv h0;rw[hv,h0]⟩
      ·exact⟨_,_,hv⟩
     have hrx:L.Rd wr (.slice ua x.length ub) .i32 x:=(L.Rd.zax hux).below HO.out.bel qN;rw[<- HO.out.bel.cell (p:=⟨gp,j,none⟩) (L.block_lt hpc)] at hpc;rw[<- HO.out.bel.cell (p:=⟨gm,j,none⟩) (L.block_lt hmc)] at hmc;have HTx:Hid (Cn.Tx x):=HCt.out.1 (x,m) (List.mem_of_getElem? hx)
     have HRs:Hid ((q,r1,r2)=if m=true then (if (Cn.thru pl 0 s.passes x).2.1=0 then Cn.runP pl s.passes (c.drop (j+1)) (o++(Cn.thru pl 0 s.passes x).1) else ([],(Cn.thru pl 0 s.passes x).2)) else Cn.runP pl s.passes (c.drop (j+1)) (o++x)):=by
      show _=_;rw[<- HO.out.res,Cn.zo5 hx]
     have HRx:=qH hrx;have kp:=hAt.2.2.2.1;have HAw:=qH hAt;clear hux hrx hu hx hAt;cases m with
     | false =>
      have HY0:Hid (L.Rd wr (.slice ua x.length ub) .i32 x/\x.length<=4000/\Cn.Og pl s.passes c W wr (.slice uo o.length uc) j o (q,r1,r2)/\Cn.runP pl s.passes (c.drop (j+1)) (o++x)=(q,r1,r2)):=⟨HRx.out,HTx.out.1,HO.out,by have:=HRs.out;rw[if_neg (by simp)] at this;exact this.symm⟩;obtain⟨y,yo,yc,hy,HY⟩:∃y yo yc,Value.slice ua x.length ub=Value.slice yo y.length yc/\Hid (L.Rd wr (.slice yo y.length yc) .i32 y/\y.length<=4000/\Cn.Og pl s.passes c W wr (.slice uo o.length uc) j o (q,r1,r2)/\Cn.runP pl s.passes (c.drop (j+1)) (o++y)=(q,r1,r2)):=⟨x,ua,ub,rfl,HY0⟩;rw[hy] at hpc;clear hy HY0 HRs HRx HTx;obtain⟨ao3,vc3,w7,run3,hN⟩:=HY.out.2.2.1.add (by omega) (.slice yo y.length yc) y HY.out.1 HY.out.2.1 HY.out.2.2.2;obtain⟨N3,hN3⟩:=qE ((o++y).length);have HN:Hid (N3=(o++y).length/\Cn.Og pl s.passes c W w7 (.slice ao3 (o++y).length vc3) (j+1) (o++y) (q,r1,r2)):=⟨hN3,hN⟩;rw[<- hN3] at run3;clear hN hN3;clear HY HO HAw
      go_wp2_with (at_builtin;refine Lib.wpList_append_run _ rfl _ _ _ _ rfl _ _ rfl rfl _ _ (run3 _) ?_;clear run3)
      go_roundw
      case rel=>exact⟨j+1,o++y,ao3,vc3,by omega,by go_num,by rw[HN.out.1],HN.out.2⟩
      case measure=>simp[intOf];omega
     | true =>
      obtain⟨⟨th,t1,t2⟩,hth⟩:∃q,Cn.thru pl 0 s.passes x=q:=⟨_,rfl⟩;rw[hth] at HRs;simp only[if_true] at HRs;have HTh:=qH hth;have HTl:Hid (Cn.Tx th):=by have:=Cn.zj1 HIn.out.2.2.2.2 (l:=s.passes) (k:=0) HTx.out;rw[hth] at this;exact this
      obtain⟨wo,hwo⟩:=qE wr;rw[<- hwo] at HO HAw HRx hpc hmc kp ⊢;clear hth hwo;go_wp2
      go_loopw [12,49] (fun i12 i wr=>∃(k:Nat) (y:List Int) (yo:Option Addr) (yc:Nat),k<=s.passes.length/\i=.int .i64 k/\i12=.slice yo y.length yc/\Hid (Cn.thru pl k (s.passes.drop k) y=(th,t1,t2))/\Hid (L.Rd wr (.slice yo y.length yc) .i32 y/\Cn.Tx y/\Bl wo wr)) (fun _ i _=>s.passes.length-(intOf i).toNat)
      case atStart=>exact⟨0,x,ua,ub,Nat.zero_le _,rfl,rfl,HTh,⟨HRx.out,HTx.out,qR _⟩⟩
      case round =>
       obtain⟨k,y,yo,yc,hk,rfl,rfl,HE,HX⟩:=hrel;have hAt2:=HAw.out.below HX.out.2.2
       by_cases hkl:k<s.passes.length
       ·obtain⟨p,hp⟩:∃x,s.passes[k]?=some x:=⟨s.passes[k],by simp[hkl]⟩;obtain⟨ao',cap',e',_,hcs⟩:=HIn.out.2.1.below hAt2.1;cases e';obtain⟨b,off,rfl,hcell⟩:=hcs (by intro h;rw[h] at hkl;simp at hkl);obtain⟨c0,hn,ro,rc,c1,hr⟩:=hcell k p hp;have hal:=fun o=>(qR wr).alloc qN o
        have HCp:=qH<|fun o=>zkk pl HIn.out.2.2.2 _ p ro rc (hr.below (hal o)) (HTr.out.2.1 p (List.mem_of_getElem? hp)) _ y (HX.out.1.below (hal o) qN) HX.out.2.1
        have HE2:Hid (Cn.thru pl k (s.passes.drop k) y=if (Cn.passF pl p y).2=0 then Cn.thru pl (k+1) (s.passes.drop (k+1)) (Cn.passF pl p y).1 else ([],(Cn.passF pl p y).2,(k:Int))):=Cn.zh9 hp;have HTy:Hid (Cn.Tx (Cn.passF pl p y).1):=Cn.zhs HIn.out.2.2.2.2 HX.out.2.1;obtain⟨⟨y2,z⟩,hq⟩:∃q,Cn.passF pl p y=q:=⟨_,rfl⟩;rw[hq] at HCp HE2 HTy;simp only at HCp HE2 HTy;have HA2:=qH hAt2;clear hp hcs hcell hr hq hAt2 hal
        go_wp2_with fail
        refine(HCp.out _).mono ?_;rintro e w6 ⟨v6,rfl,d6,b6⟩;obtain⟨va,vb,rfl⟩:∃va vc,v6=.slice va y2.length vc:=by obtain⟨a,c,h,_⟩:=d6;exact⟨a,c,h⟩
        obtain⟨_,B6,s6⟩:=K.zau b6;have HA6:=qH<|HA2.out.below B6;have HX6:Hid (L.Rd w6 (.slice va y2.length vb) .i32 y2/\Cn.Tx y2/\Bl wo w6):=⟨d6,HTy.out,HX.out.2.2.trans (B6.mono HX.out.2.2.size)⟩;clear d6 b6 B6 HCp HX HA2
        by_cases hz:z=0
        ·subst hz;go_wp2
         go_roundw
         case rel=>exact⟨k+1,y2,va,vb,by omega,by go_num,rfl,by show _=_;rw[<- HE.out,HE2.out];simp,HX6⟩
         case measure=>simp[intOf];omega
        ·have h:=HE2.out;rw[HE.out,if_neg hz] at h;simp only[Prod.mk.injEq] at h;obtain⟨rfl,rfl,rfl⟩:=h;have h2:=HRs.out;rw[if_neg hz] at h2;simp only[Prod.mk.injEq] at h2;obtain⟨rfl,rfl,rfl⟩:=h2;have h3:=HGo.out;rw[if_neg hz] at h3;simp only[Prod.mk.injEq] at h3;obtain⟨rfl,rfl,rfl⟩:=h3;obtain⟨x0,x1,f0,f1⟩:=K.box2 HA6.out.2.2.2.2;go_wp2;refine bodyPost_ret (v:=.tuple #[.slice none 0 0,.agg #[.int .i64 g1,.int .i64 k]]) (by simp[results,results15,go_sem, *]) rfl ?_;exact⟨_,rfl,⟨none,0,rfl,fun _=>rfl,fun h=>absurd rfl h⟩,(HA6.out.1.setCell (p:=⟨w.heap.size+1,0,none⟩) (by simp) _).setCell (p:=⟨w.heap.size+1,1,none⟩) (by simp) _⟩
       ·have h:=HE.out;rw[List.drop_eq_nil_of_le (by omega)] at h;simp only[Cn.thru,Prod.mk.injEq] at h;obtain⟨rfl,rfl,rfl⟩:=h;have HY:Hid (L.Rd wr (.slice yo y.length yc) .i32 y/\y.length<=4000/\Cn.Og pl s.passes c W wr (.slice uo o.length uc) j o (q,r1,r2)/\Cn.runP pl s.passes (c.drop (j+1)) (o++y)=(q,r1,r2)):=⟨HX.out.1,HX.out.2.1.1,HO.out.below HX.out.2.2,by have:=HRs.out;rw[if_pos rfl] at this;exact this.symm⟩;obtain⟨ao3,vc3,w7,run3,hN⟩:=HY.out.2.2.1.add (by omega) (.slice yo y.length yc) y HY.out.1 HY.out.2.1 HY.out.2.2.2;obtain⟨N3,hN3⟩:=qE ((o++y).length);have HN:Hid (N3=(o++y).length/\Cn.Og pl s.passes c W w7 (.slice ao3 (o++y).length vc3) (j+1) (o++y) (q,r1,r2)):=⟨hN3,hN⟩;rw[<- hN3] at run3;clear hN hN3;clear HY HO HAw HRs HRx HTx HE HX hAt2
        go_wp2_with (at_builtin;refine Lib.wpList_append_run _ rfl _ _ _ _ rfl _ _ rfl rfl _ _ (run3 _) ?_;clear run3)
        go_roundw
        case rel=>exact⟨j+1,o++y,ao3,vc3,by omega,by go_num,by rw[HN.out.1],HN.out.2⟩
        case measure=>simp[intOf];omega
    ·have hjl:j=l.length:=by omega
     have hq:=HO.out.res;rw[List.drop_eq_nil_of_le (by have:=HPs.out.2.2.2;omega)] at hq;simp only[Cn.runP,Prod.mk.injEq] at hq;obtain⟨rfl,rfl,rfl⟩:=hq;have hof:o.length<=16000000:=by have:=HO.out.few;omega
     have p2:=hAt.2.2.2.1;obtain⟨y0,y1,g0,g1'⟩:=K.box2 hAt.2.2.2.2;have HM:=qH hAt;clear hAt
     by_cases q4:4000<o.length
     ·have h:=HGo.out;rw[if_pos rfl,if_pos q4] at h;simp only[Prod.mk.injEq] at h;obtain⟨rfl,rfl,rfl⟩:=h;have q4':(4000:Int)<(o.length:Int):=by omega
      go_wp2
      go_region
      go_wp2;refine bodyPost_ret (v:=.tuple #[.slice none 0 0,.agg #[.int .i64 4,.int .i64 s.passes.length]]) (by simp[results,results15,go_sem, *]) rfl ?_
      exact⟨_,rfl,⟨none,0,rfl,fun _=>rfl,fun h=>absurd rfl h⟩,((HM.out.1.setCell (p:=⟨w.heap.size+1,0,none⟩) (by simp) _).setCell (p:=⟨w.heap.size+1,1,none⟩) (by simp) _).drew⟩
     ·have h:=HGo.out;rw[if_pos rfl,if_neg q4] at h;simp only[Prod.mk.injEq] at h;obtain⟨rfl,rfl,rfl⟩:=h;have q4':¬(4000:Int)<(g.length:Int):=by omega
      go_wp2;refine bodyPost_ret (v:=.tuple #[.slice uo g.length uc,.agg #[.int .i64 0,.int .i64 0]]) (by simp[results,results15,go_sem, *]) rfl ?_
      refine⟨_,rfl,K.za8 (L.Rd.zax HO.out.own) fun hz k hk=> ?_,(HM.out.1.setCell (p:=⟨w.heap.size+1,0,none⟩) (by simp) _).setCell (p:=⟨w.heap.size+1,1,none⟩) (by simp) _⟩;have hne:=K.zpe (L.Rd.zax HO.out.own) HM.out.2.2.2.2 hz k hk;rw[heap_setCell_other _ ⟨w.heap.size+1,1,none⟩ k _ (by simpa using hne),heap_setCell_other _ ⟨w.heap.size+1,0,none⟩ k _ (by simpa using hne)]
  ·have h:(g,g1,g2)=([],z,0):=by rw[<- HG.out,Cn.goF,if_pos (by rw[HE.out]),if_neg (by rw[HZ.out];exact q2),HZ.out]
   simp only[Prod.mk.injEq] at h;obtain⟨rfl,rfl,rfl⟩:=h;go_wp2;refine bodyPost_ret (v:=.tuple #[.slice none 0 0,.agg #[.int .i64 g1,.int .i64 0]]) (by simp[results,results15,go_sem, *]) rfl ?_;exact⟨_,rfl,⟨none,0,rfl,fun _=>rfl,fun h=>absurd rfl h⟩,(HA2.out.1.setCell (p:=⟨w.heap.size+1,0,none⟩) (by simp) _).setCell (p:=⟨w.heap.size+1,1,none⟩) (by simp) _⟩
 ·have h:(g,g1,g2)=([],e1,e2):=by rw[<- HG.out,Cn.goF,if_neg (by rw[HE.out];exact q1),HE.out]
  simp only[Prod.mk.injEq] at h;obtain⟨rfl,rfl,rfl⟩:=h;go_wp2
  go_region
  go_wp2;refine bodyPost_ret (v:=.tuple #[.slice none 0 0,.agg #[.int .i64 g1,.int .i64 g2]]) (by simp[results,results15,go_sem, *]) rfl ?_
  refine⟨_,rfl,⟨none,0,rfl,fun _=>rfl,fun h=>absurd rfl h⟩,?_⟩
  first
   | exact(((HA1.out _).1.setCell (p:=⟨w.heap.size+1,0,none⟩) (by simp) _).setCell (p:=⟨w.heap.size+1,1,none⟩) (by simp) _).drew
   | exact(((HB1.out.setCell (p:=⟨w.heap.size+1,0,none⟩) (by simp) _).setCell (p:=⟨w.heap.size+1,1,none⟩) (by simp) _).alloc (by simp;omega) _).drew
