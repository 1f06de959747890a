import Derived.Test.YthnmmmkeamcfkaaGreatDoorVEach
import Derived.Deep.RegionHeld3
import Derived.Deep.DeepCutAuto
import Derived.Deep.RegionLaw
import Derived.Lib.Walk
import Derived.Lib.AppendZeros
set_option maxHeartbeats 0
set_option maxRecDepth 20000
set_option linter.unusedSimpArgs false
set_option linter.unusedVariables false
namespace Go.Proofs.YthnmmmkeamcfkaaGreatDoor
open Go.Proofs.Tryz
section
open Go.RowKit
namespace V
theorem cells7 {w:World}{b:Nat}{v0 v1 v2 v3 v4 v5 v6:Value}{t:TypeId}(h:w.heap[b]?=some (.cells #[v0,v1,v2,v3,v4,v5,v6] t)) :
  (w.cell? ⟨b,0,none⟩=some v0/\w.cell? ⟨b,1,none⟩=some v1/\w.cell? ⟨b,2,none⟩=some v2/\w.cell? ⟨b,3,none⟩=some v3/\w.cell? ⟨b,4,none⟩=some v4/\w.cell? ⟨b,5,none⟩=some v5/\w.cell? ⟨b,6,none⟩=some v6)/\∀i,w.frozen? ⟨b,i,none⟩=false :=
 ⟨⟨K.zah h rfl,K.zah h rfl,K.zah h rfl,K.zah h rfl,K.zah h rfl,K.zah h rfl,K.zah h rfl⟩,fun i=>frozen_of_row w b i _ _ h⟩
theorem zcq {W:World}{b i:Nat}{c:Array Value}{t:TypeId}(h:W.heap[b]?=some (.cells c t))(v:Value) :
  (W.setCell ⟨b,i,none⟩ v).heap[b]?=some (.cells (c.setIfInBounds i v) t)/\W.grownBy (W.setCell ⟨b,i,none⟩ v) (some b) :=
 ⟨heap_setCell_same W b i _ _ v h,rfl,rfl,rfl,by simp,fun k _ hk=>heap_setCell_other W ⟨b,i,none⟩ k _ fun e=>hk (by rw[e])⟩
theorem zj1 {W:World}{b:Nat}{u0 u1 u2 u3 u4 u5 u6:Value}{t:TypeId}(h:W.heap[b]?=some (.cells #[u0,u1,u2,u3,u4,u5,u6] t))(v0 v1 v2 v3 v4 v5 v6:Value) :
  (((((((W.setCell ⟨b,0,none⟩ v0).setCell ⟨b,1,none⟩ v1).setCell ⟨b,2,none⟩ v2).setCell ⟨b,3,none⟩ v3).setCell ⟨b,4,none⟩ v4).setCell ⟨b,5,none⟩ v5).setCell ⟨b,6,none⟩ v6).heap[b]?=some (.cells #[v0,v1,v2,v3,v4,v5,v6] t)/\W.grownBy (((((((W.setCell ⟨b,0,none⟩ v0).setCell ⟨b,1,none⟩ v1).setCell ⟨b,2,none⟩ v2).setCell ⟨b,3,none⟩ v3).setCell ⟨b,4,none⟩ v4).setCell ⟨b,5,none⟩ v5).setCell ⟨b,6,none⟩ v6) (some b):=by
 obtain⟨e0,g0⟩:=zcq (i:=0) h v0;generalize W.setCell ⟨b,0,none⟩ v0=X0 at *;obtain⟨e1,g1⟩:=zcq (i:=1) e0 v1;generalize X0.setCell ⟨b,1,none⟩ v1=X1 at *;obtain⟨e2,g2⟩:=zcq (i:=2) e1 v2;generalize X1.setCell ⟨b,2,none⟩ v2=X2 at *;obtain⟨e3,g3⟩:=zcq (i:=3) e2 v3;generalize X2.setCell ⟨b,3,none⟩ v3=X3 at *;obtain⟨e4,g4⟩:=zcq (i:=4) e3 v4;generalize X3.setCell ⟨b,4,none⟩ v4=X4 at *;obtain⟨e5,g5⟩:=zcq (i:=5) e4 v5;generalize X4.setCell ⟨b,5,none⟩ v5=X5 at *;obtain⟨e6,g6⟩:=zcq (i:=6) e5 v6;generalize X5.setCell ⟨b,6,none⟩ v6=X6 at *;exact⟨by rw[e6];simp,S.zaa (S.zaa (S.zaa (S.zaa (S.zaa (S.zaa g0 g1) g2) g3) g4) g5) g6⟩
end V
namespace V
def Mn (lo hi:Nat) (W:World) (Q:World->Prop):Prop:=lo<=hi/\∀W',(∀b,lo<=b->b<hi->W'.heap[b]?=W.heap[b]?)->Q W'
theorem flat1:∀ {cs:List (List Value)},(∀c∈cs,c.length=1)->∀j:Nat,cs.flatten[j]?=(cs[j]?).bind (·[0]?)
 | [],_,j=>by simp
 | c::cs,h,j=>by
  have h1:=h c (List.mem_cons_self ..)
  match c,h1 with
  | [u],_ =>
   cases j with
   | zero=>simp
   | succ j =>
    rw[List.flatten_cons,List.singleton_append,List.getElem?_cons_succ,List.getElem?_cons_succ];exact flat1 (fun c hc=>h c (List.mem_cons_of_mem _ hc)) j
theorem zxj {F:Nat}{w:World}{v:Value}{l:List (List S.Sp)}(h:V.SetRow F w v l)(hf:∀s∈l,S.Fit s)(hl:l.length<=1000):∃ao cap,v= .slice ao l.length cap/\∀W',(∀b,F<=b->b<w.heap.size->W'.heap[b]?=w.heap[b]?)->K.Ss W' v l:=by
 obtain⟨cs,own,hcl,hc,hst⟩:=h
 obtain⟨ao,cap,hv,hn⟩:∃ao cap,v= .slice ao l.length cap/\(ao=none->cap=0):=by
  rcases own.2 with ⟨h,h1⟩|⟨g,cap,cur,h,_⟩
  ·exact⟨none,0,by rw[h,h1],fun _=>rfl⟩
  ·exact⟨_,cap,h,fun e=>by cases e⟩
 have hone:∀(j:Nat) s c,l[j]?=some s->cs[j]?=some c->∃u,c= [u]:=fun j s c hs hj=>by
  obtain⟨u,so,sc,h1,_⟩:=(hst j s c hs hj).here;exact⟨u,h1⟩
 refine⟨ao,cap,hv,fun W' hW=> ?_⟩;refine⟨ao,cap,cs.flatten,hv,hn,by omega,⟨?_,fun j u s hu hs=> ?_⟩,fun hne=> ?_⟩
 ·have:=own.1;omega
 ·have hlt:j<cs.length:=by rw[hcl];exact(qL.1 hs).1
  obtain⟨c,hcj⟩:∃c,cs[j]?=some c:=⟨cs[j],by simp⟩;obtain⟨u',so,sc,h1,h2,h3⟩:=(hst j s c hs hcj) W' fun b h1 h2 _=>hW b h1 h2
  have hfl:cs.flatten[j]?=some u':=by
   have hk:=fun c hc'=>(hc c hc').1
   rw[flat1 hk j,hcj,h1];rfl
  rw[hfl] at hu;cases hu;exact⟨⟨so,sc,h2⟩,h3,hf s (List.mem_of_getElem? hs)⟩
 ·rcases own.2 with ⟨_,h1⟩|⟨g,cap',cur,hv',hB,hg,_,_,hsz,htk⟩
  ·exact absurd (List.eq_nil_of_length_eq_zero h1) hne
  ·rw[hv] at hv';cases hv';refine⟨g,0,rfl,fun j u hj=> ?_⟩;have hgl:=(qA.1 hg).1;have e:=hW g hB hgl;rw[World.cell?_of_block (w:=w) (a:=⟨g,0+j,none⟩) e];rw[<- htk] at hj;rw[World.cell?];simp only[show w.heap[g]?=_ from hg];rw[List.getElem?_take] at hj;split at hj
   ·simpa using hj
   ·cases hj
end V
namespace V
def Right (l:List R.Item):Prop:=l.length<=20/\∀x∈l,R.itemE x=0
theorem zqc {l:List R.Item}(h:Right l):∀x∈l,x.kind=2->x.set.length<=17592186044160:=fun x hx hk=>by
 have:=h.2 x hx;unfold R.itemE at this;rw[if_neg (by omega),if_pos hk] at this;have:=(S.zaw.1 this).1;omega
def Ext (A B:World) (rb:Nat):Prop:=A.heap.size<=B.heap.size/\∀b,b<A.heap.size->b≠rb->B.heap[b]?=A.heap[b]?
theorem Ext.trans {A B C:World}{rb:Nat}(h:Ext A B rb)(h':Ext B C rb):Ext A C rb:=⟨Nat.le_trans h.1 h'.1,fun b hb hn=>(h'.2 b (Nat.lt_of_lt_of_le hb h.1) hn).trans (h.2 b hb hn)⟩
theorem zon {X Y:World}{rb:Nat}(z:Below X.heap.size X Y):Ext X Y rb:=⟨z.size,fun b hb _=>z.block b hb⟩
theorem zuy {A:World}{o:Obj}{rb:Nat}:Ext A (A.alloc o) rb:=⟨by simp,fun b hb _=>Below.heap_alloc A o b hb⟩
theorem zx6 {A B:World}{rb:Nat}(h:A.grownBy B (some rb)):Ext A B rb:=⟨h.size,fun b hb hn=>h.block b hb fun e=>hn (Option.some.inj e)⟩
def Made (w:World) (g:ByteArray->List S.Sp) (abe aso aaf bso:List R.Item) (wx:World) (rb:Nat) (st fi:Value) (p1:Option Addr) (p2:Nat) (s1:Option Addr) (s2:Nat) (a1:Option Addr) (a2:Nat) (t1:Option Addr) (t2:Nat) (bcu:Int):Prop :=
 wx.heap[rb]?=some (.cells #[st,fi,.slice p1 abe.length p2,.slice s1 aso.length s2,.slice a1 aaf.length a2,.slice t1 bso.length t2,.int .i64 bcu] 50) /\
 wx.heap[w.heap.size+2]?=some (.cells #[.bool false,.bool false,.slice none 0 0,.slice none 0 0,.slice none 0 0,.slice none 0 0,.int .i64 0] 50)/\w.heap.size+3<=rb/\Below w.heap.size w wx /\
 (∀W',(∀b,w.heap.size+3<=b->b≠rb->b<wx.heap.size->W'.heap[b]?=wx.heap[b]?) ->
  K.Ss W' (.slice p1 abe.length p2) (abe.map (setOf g))/\K.Ss W' (.slice s1 aso.length s2) (aso.map (setOf g))/\K.Ss W' (.slice a1 aaf.length a2) (aaf.map (setOf g))/\L.Rd W' (.slice t1 bso.length t2) .i32 (bso.map (·.rune)))
theorem zwu {w:World}{g:ByteArray->List S.Sp}{abe aso aaf bso:List R.Item}{wx:World}{rb:Nat}{st fi:Value}{p1:Option Addr}{p2:Nat}{s1:Option Addr}{s2:Nat}{a1:Option Addr}{a2:Nat}{t1:Option Addr}{t2:Nat}{bcu:Int}
  (hF:wx.heap[rb]?=some (.cells #[st,fi,.slice p1 abe.length p2,.slice s1 aso.length s2,.slice a1 aaf.length a2,.slice t1 bso.length t2,.int .i64 bcu] 50))
  (h6:wx.heap[w.heap.size+2]?=some (.cells #[.bool false,.bool false,.slice none 0 0,.slice none 0 0,.slice none 0 0,.slice none 0 0,.int .i64 0] 50)) (hrb:w.heap.size+3<=rb) (hB:Below w.heap.size w wx)
  (m1:∀W':World,(∀b,w.heap.size+3<=b->b≠rb->b<wx.heap.size->W'.heap[b]?=wx.heap[b]?)->K.Ss W' (.slice p1 abe.length p2) (abe.map (setOf g)))
  (m2:∀W':World,(∀b,w.heap.size+3<=b->b≠rb->b<wx.heap.size->W'.heap[b]?=wx.heap[b]?)->K.Ss W' (.slice s1 aso.length s2) (aso.map (setOf g)))
  (m3:∀W':World,(∀b,w.heap.size+3<=b->b≠rb->b<wx.heap.size->W'.heap[b]?=wx.heap[b]?)->K.Ss W' (.slice a1 aaf.length a2) (aaf.map (setOf g)))
  (m4:∀W':World,(∀b,w.heap.size+3<=b->b≠rb->b<wx.heap.size->W'.heap[b]?=wx.heap[b]?)->L.Rd W' (.slice t1 bso.length t2) .i32 (bso.map (·.rune))) :
  Hid (Made w g abe aso aaf bso wx rb st fi p1 p2 s1 s2 a1 a2 t1 t2 bcu):=⟨hF,h6,hrb,hB,fun W' hW=>⟨m1 W' hW,m2 W' hW,m3 W' hW,m4 W' hW⟩⟩
theorem goes {w X Y:World}(hX:Below w.heap.size w X)(z:Below X.heap.size X Y):Below w.heap.size w Y:=hX.trans (z.mono hX.size)
theorem zj7 {X Y:World}{o:Obj}(z:Below (X.alloc o).heap.size (X.alloc o) Y):Y.heap[X.heap.size]?=some o:=(K.zbh z).1
theorem ztq {X Y:World}{o:Obj}(z:Below ((X.alloc o).drew).heap.size ((X.alloc o).drew) Y):Y.heap[X.heap.size]?=some o:=(K.zae (w:=(X.alloc o).drew) (heap_alloc_new X o) z)
end V
end
section
open Go.RowKit
theorem V.za5 {t:TypeId}{ops:Array Oper}{o:Oper}{a:Act}{w:World}{K:Act->World->Prop}{Q:Exit->Act->World->Prop}{E:Prop}(hgd:o.guard=none)(s x:Operand)
  (ho:o.op= .call { callee:= .builtin .append,args:=#[s,x],argTypes:=#[t,t] }) (v vx v':Value) (w':World) (hs:a.eval s=v) (hx:a.eval x=vx)
  (hrun:∀ty,(Builtin.append_ #[t,t] ty #[v,vx]).run prog w= .ok v' w') (h:K (a.put o.dst v') w') :
  if Region.wanted o (yielded ops a.tmps)=true then Oper.wp prog o a w K Q else E:=by
 have hw:Region.wanted o (yielded ops a.tmps)=true:=by simp[Region.wanted,hgd]
 rw[if_pos hw];unfold Oper.wp;simp[execOp,ho,resolve,invoke,builtin,hs,hx,hrun,Result.andThen];exact h
theorem zqg (F:Nat)(w:World)(tops:List Nat)(init:List V.Pass)(p:V.Pass)(rvi:List Value)(rv:Value)(X cap:Nat)(h:V.PS F tops w (.slice (some ⟨X,0,none⟩) (init.length+1) cap) (init++ [p]) (rvi++ [rv]))(hli:rvi.length=init.length)(hnm:p.name=⟨#[]⟩)(r:K.Rule)(bo:Option Addr)(bc:Nat)(so:Option Addr)(sc:Nat)(ao:Option Addr)(ac:Nat)(ta:Option Addr)(tc:Nat)(hL:V.Leaf tops w fun W=>K.RuIs W (.agg #[.bool r.start,.bool r.fin,.slice bo r.before.length bc,.slice so r.source.length sc,.slice ao r.after.length ac,.slice ta r.target.length tc,.int .i64 r.cursor]) r)(hF:F<=w.heap.size)(hrl:p.rules.length<=1000)(hil:init.length<=1000) :
  Calls prog 115 #[.slice (some ⟨X,0,none⟩) (init.length+1) cap,.agg #[.bool r.start,.bool r.fin,.slice bo r.before.length bc,.slice so r.source.length sc,.slice ao r.after.length ac,.slice ta r.target.length tc,.int .i64 r.cursor]] w fun e w'=>e= .returned (.slice (some ⟨X,0,none⟩) (init.length+1) cap)/\(∃tops' rv',V.PS F tops' w' (.slice (some ⟨X,0,none⟩) (init.length+1) cap) (init++ [⟨p.name,p.rules++ [r]⟩]) (rvi++ [rv'])/\V.Moves tops w tops' w')/\Below F w w':=by
 obtain⟨wq,hwq⟩:∃wq,wq=w.alloc (.cells #[.bool r.start,.bool r.fin,.slice bo r.before.length bc,.slice so r.source.length sc,.slice ao r.after.length ac,.slice ta r.target.length tc,.int .i64 r.cursor] 50):=⟨_,rfl⟩;have hb0:Below w.heap.size w wq:=by rw[hwq];exact(qR w).alloc qN _
 have PQ:=h.below hb0;have LQ:=hL.step (tops':=tops) hb0.size (fun b hb _=>hb0.block b hb) fun k hk=> .inl hk
 have hbox:wq.heap[w.heap.size]?=some (.cells #[.bool r.start,.bool r.fin,.slice bo r.before.length bc,.slice so r.source.length sc,.slice ao r.after.length ac,.slice ta r.target.length tc,.int .i64 r.cursor] 50):=by rw[hwq];exact heap_alloc_new w _
 have hFq:=Nat.le_trans hF hb0.size;have hBq:=hb0.mono hF;have hMq:V.Moves tops w tops wq:=V.Moves.of_below hb0;obtain⟨nm0,_⟩:=h.cells hli;rw[hnm] at nm0
 have dn:∀o,(w.alloc o).cell? ⟨X,init.length*2,none⟩=some (.string ⟨#[]⟩):=fun o=>by
  have e:=Below.heap_alloc w o X (L.block_lt nm0);rw[World.cell?_of_block (a:=⟨X,init.length*2,none⟩) e];exact nm0
 obtain⟨d0,d1⟩:=PQ.cells hli;have hal:Below wq.heap.size wq (wq.alloc (.cells #[.bool r.start,.bool r.fin,.slice bo r.before.length bc,.slice so r.source.length sc,.slice ao r.after.length ac,.slice ta r.target.length tc,.int .i64 r.cursor] 50)).drew:=((qR wq).alloc qN _).drew;have PA:=PQ.below hal;have hnew:(wq.alloc (.cells #[.bool r.start,.bool r.fin,.slice bo r.before.length bc,.slice so r.source.length sc,.slice ao r.after.length ac,.slice ta r.target.length tc,.int .i64 r.cursor] 50)).drew.heap[wq.heap.size]?=some (.cells #[.bool r.start,.bool r.fin,.slice bo r.before.length bc,.slice so r.source.length sc,.slice ao r.after.length ac,.slice ta r.target.length tc,.int .i64 r.cursor] 50):=heap_alloc_new wq _;obtain⟨rv',W1,hrun,⟨g',c',hrv'⟩,e1,f1,gr1,tops',PF,hBF,hMF⟩:=PA.put hli r [.bool r.start,.bool r.fin,.slice bo r.before.length bc,.slice so r.source.length sc,.slice ao r.after.length ac,.slice ta r.target.length tc,.int .i64 r.cursor] ⟨rfl,fun u hu=>by simp at hu;rcases hu with rfl | rfl | rfl | rfl | rfl | rfl | rfl <;> rfl⟩ (LQ.step hal.size (fun b hb _=>hal.block b hb) fun k hk=> .inl hk) wq.heap.size (fun q u hq=>K.zah hnew (by simpa using hq)) (Nat.le_trans hFq hal.size) hrl;obtain⟨⟨y0,y1,y2,y3,y4,y5,y6⟩,_⟩:=V.cells7 hbox;have HF:Hid (V.PS F tops' (W1.setCell ⟨X,init.length*2+1,none⟩ rv') (.slice (some ⟨X,0,none⟩) (init.length+1) cap) (init++ [⟨p.name,p.rules++ [r]⟩]) (rvi++ [rv'])/\Below F w (W1.setCell ⟨X,init.length*2+1,none⟩ rv')/\V.Moves tops w tops' (W1.setCell ⟨X,init.length*2+1,none⟩ rv')):=⟨PF,(hBq.trans (hal.mono hFq)).trans hBF,(hMq.trans (V.Moves.of_below hal)).trans hMF⟩;subst hrv';have lbq:=(qA.1 hbox).1;have lbX:=L.block_lt d1;have hj0:(0:Int)<=init.length:=by omega
 have hj1:(init.length:Int)<init.length+1:=by omega
 have hjw:IntKind.i64.wrap ((init.length:Int)+1 - 1)=init.length:=by rw[IntKind.wrap_i64];omega
 clear PQ PA hal hnew LQ PF hBF hMF hMq hbox d0 gr1;clear h hL nm0 hb0
 go_enter func115,ntmps115
 go_wp2;rw[<- hwq]
 clear hwq;have HR:=qH hrun;clear hrun
 go_region_law (refine V.za5 (by rfl) (.tmp 32) (.tmp 34) (by rfl) _ _ _ W1 (by rfl) (by rfl) HR.out ?_)
 all_goals
  go_wp2;go_ret
  exact⟨rfl,⟨tops',_,HF.out.1,HF.out.2.2⟩,HF.out.2.1⟩
theorem znc (F:Nat)(w:World)(tops:List Nat)(ps:List V.Pass)(rvs:List Value)(ini:List V.Pass)(pl:V.Pass)(rvl:List Value)(rl:Value)(Y cq:Nat)(hps:ps=ini++ [pl])(hrvs:rvs=rvl++ [rl])(hlr:rvl.length=ini.length)(hnm:¬pl.name.size=0)(h:V.PS F tops w (.slice (some ⟨Y,0,none⟩) (ini.length+1) cq) ps rvs)(r:K.Rule)(bo:Option Addr)(bc:Nat)(so:Option Addr)(sc:Nat)(ao:Option Addr)(ac:Nat)(ta:Option Addr)(tc:Nat)(hL:V.Leaf tops w fun W=>K.RuIs W (.agg #[.bool r.start,.bool r.fin,.slice bo r.before.length bc,.slice so r.source.length sc,.slice ao r.after.length ac,.slice ta r.target.length tc,.int .i64 r.cursor]) r)(hF:F<=w.heap.size)(hil:ps.length<=1000) :
  Calls prog 115 #[.slice (some ⟨Y,0,none⟩) (ini.length+1) cq,.agg #[.bool r.start,.bool r.fin,.slice bo r.before.length bc,.slice so r.source.length sc,.slice ao r.after.length ac,.slice ta r.target.length tc,.int .i64 r.cursor]] w fun e w'=>(∃vp' tops' rvs',e= .returned vp'/\V.PS F tops' w' vp' (ps++ [⟨⟨#[]⟩,[r]⟩]) rvs'/\V.Moves tops w tops' w')/\Below F w w':=by
 have hY:w.cell? ⟨Y,ini.length*2,none⟩=some (.string pl.name):=by
  have h':=h;rw[hps,hrvs] at h';exact(h'.cells hlr).1
 have dn:∀o,(w.alloc o).cell? ⟨Y,ini.length*2,none⟩=some (.string pl.name):=fun o=>by
  have e:=Below.heap_alloc w o Y (L.block_lt hY);rw[World.cell?_of_block (a:=⟨Y,ini.length*2,none⟩) e];exact hY
 have hem:pl.name.toList.isEmpty=false:=by
  rw[ByteArray.toList_eq];cases e:pl.name.data.toList with
  | nil=>exact absurd (show pl.name.data.size=0 by rw[<- Array.length_toList,e];rfl) hnm
  | cons _ _=>rfl
 have hil2:ini.length<=1000:=by rw[hps] at hil;simp at hil;omega
 have hk0:(0:Int)<=ini.length:=by omega
 have hk1:(ini.length:Int)<ini.length+1:=by omega
 have hkw:IntKind.i64.wrap ((ini.length:Int)+1 - 1)=ini.length:=by rw[IntKind.wrap_i64];omega
 have hne0:¬(ini.length:Int)+1=0:=by omega
 obtain⟨w1,hw1⟩:∃w1,w1=w.alloc (.cells #[.bool r.start,.bool r.fin,.slice bo r.before.length bc,.slice so r.source.length sc,.slice ao r.after.length ac,.slice ta r.target.length tc,.int .i64 r.cursor] 50):=⟨_,rfl⟩;have hb1:Below w.heap.size w w1:=by rw[hw1];exact(qR w).alloc qN _
 have hbox1:w1.heap[w.heap.size]?=some (.cells #[.bool r.start,.bool r.fin,.slice bo r.before.length bc,.slice so r.source.length sc,.slice ao r.after.length ac,.slice ta r.target.length tc,.int .i64 r.cursor] 50):=by rw[hw1];exact heap_alloc_new w _
 have hs1:w1.heap.size=w.heap.size+1:=by rw[hw1];simp
 obtain⟨w2,hw2⟩:∃w2,w2=(w.alloc (.cells #[.bool r.start,.bool r.fin,.slice bo r.before.length bc,.slice so r.source.length sc,.slice ao r.after.length ac,.slice ta r.target.length tc,.int .i64 r.cursor] 50)).alloc (.cells #[.string ⟨#[]⟩,.slice none 0 0] 32):=⟨_,rfl⟩;have hw2':w2=w1.alloc (.cells #[.string ⟨#[]⟩,.slice none 0 0] 32):=by rw[hw2,hw1]
 have hb2:Below w1.heap.size w1 w2:=by rw[hw2'];exact(qR w1).alloc qN _
 have hnp:w2.heap[w1.heap.size]?=some (.cells #[.string ⟨#[]⟩,.slice none 0 0] 32):=by rw[hw2'];exact heap_alloc_new w1 _
 have P2:=(h.below hb1).below hb2;have hF2:=Nat.le_trans hF (Nat.le_trans hb1.size hb2.size);obtain⟨vp',wq,hrunP,ownP,grP,hvP⟩:=R.zfb V.elemP w2 0 F (.slice (some ⟨Y,0,none⟩) (ini.length+1) cq) ps.length (V.pcells ps rvs) P2.own ⟨w1.heap.size,0,none⟩ 1 1 [.string ⟨#[]⟩,.slice none 0 0] rfl (fun q u hq=>by rw[L.addr_add,Nat.zero_add];exact K.zah hnp (by simpa using hq)) (fun u hu=>by simp at hu;rcases hu with rfl | rfl <;> rfl) (by omega) hF2;obtain⟨tq,PQ,hmq⟩:=P2.more ⟨#[]⟩ (Nat.zero_le _) ownP grP hvP;have hkq:∀b,b<w2.heap.size->b∉tops->wq.heap[b]?=w2.heap[b]?:=fun b hb hn=>grP.block b hb fun e=>hn (P2.top b (.inl e.symm))
 have hw2s:w2.heap.size=w.heap.size+2:=by rw[hw2'];simp;omega
 have LQ:V.Leaf tq wq fun W=>K.RuIs W (.agg #[.bool r.start,.bool r.fin,.slice bo r.before.length bc,.slice so r.source.length sc,.slice ao r.after.length ac,.slice ta r.target.length tc,.int .i64 r.cursor]) r:=by
  have l2:=hL.step (tops':=tops) (w':=w2) (Nat.le_trans hb1.size hb2.size) (fun b hb _=>(hb2.block b (by omega)).trans (hb1.block b hb)) fun k hk=> .inl hk
  exact l2.moves hmq
 have hntop:w.heap.size∉tops:=fun hm=>by have:=h.lt _ hm;omega
 have hbox:=(hkq _ (by omega) hntop).trans ((hb2.block _ (by omega)).trans hbox1);have hFq:=Nat.le_trans hF2 grP.size;have hMq:=((V.Moves.of_below hb1).trans (V.Moves.of_below hb2)).trans hmq;have hBq:=((hb1.mono hF).trans (hb2.mono (by omega))).grown grP hF2 fun k hk=>(P2.own.lt k hk).1
 obtain⟨X,cap,hvp'⟩:=PQ.slice (by simp);rw[List.length_append] at hvp';have hvp2:vp'= .slice (some ⟨X,0,none⟩) (ps.length+1) cap:=hvp';subst hvp2
 have HRP:Hid (∀ty,(Builtin.append_ #[25,25] ty #[.slice (some ⟨Y,0,none⟩) (ini.length+1) cq,.slice (some ⟨w.heap.size+1,0,none⟩) 1 1]).run prog ((w.alloc (.cells #[.bool r.start,.bool r.fin,.slice bo r.before.length bc,.slice so r.source.length sc,.slice ao r.after.length ac,.slice ta r.target.length tc,.int .i64 r.cursor] 50)).alloc (.cells #[.string ⟨#[]⟩,.slice none 0 0] 32))= .ok (.slice (some ⟨X,0,none⟩) (ps.length+1) cap) wq):=by
  rw[<- hs1,<- hw2];exact fun ty=>hrunP
 obtain⟨init,hinit⟩:∃init,init=ps:=⟨_,rfl⟩;obtain⟨rvi,hrvi⟩:∃rvi,rvi=rvs:=⟨_,rfl⟩;obtain⟨rv,hrv⟩:∃rv:Value,rv= .slice none 0 0:=⟨_,rfl⟩;obtain⟨p,hp⟩:∃p:V.Pass,p=⟨⟨#[]⟩,[]⟩:=⟨_,rfl⟩;have hrl:p.rules.length<=1000:=by rw[hp];simp
 have HFin:Hid (init++ [⟨p.name,p.rules++ [r]⟩]=ps++ [⟨⟨#[]⟩,[r]⟩]):=by show _=_;rw[hinit,hp];rfl
 have hli:rvi.length=init.length:=by rw[hrvi,hinit];exact h.len
 have hil':init.length<=1000:=by rw[hinit];exact hil
 rw[<- hrv,<- hp,<- hinit,<- hrvi] at PQ;rw[<- hinit] at HRP;obtain⟨d0,d1⟩:=PQ.cells hli;have hal:Below wq.heap.size wq (wq.alloc (.cells #[.bool r.start,.bool r.fin,.slice bo r.before.length bc,.slice so r.source.length sc,.slice ao r.after.length ac,.slice ta r.target.length tc,.int .i64 r.cursor] 50)).drew:=((qR wq).alloc qN _).drew;have PA:=PQ.below hal;have hnew:(wq.alloc (.cells #[.bool r.start,.bool r.fin,.slice bo r.before.length bc,.slice so r.source.length sc,.slice ao r.after.length ac,.slice ta r.target.length tc,.int .i64 r.cursor] 50)).drew.heap[wq.heap.size]?=some (.cells #[.bool r.start,.bool r.fin,.slice bo r.before.length bc,.slice so r.source.length sc,.slice ao r.after.length ac,.slice ta r.target.length tc,.int .i64 r.cursor] 50):=heap_alloc_new wq _;obtain⟨rv',W1,hrun,⟨g',c',hrv'⟩,e1,f1,gr1,tops',PF,hBF,hMF⟩:=PA.put hli r [.bool r.start,.bool r.fin,.slice bo r.before.length bc,.slice so r.source.length sc,.slice ao r.after.length ac,.slice ta r.target.length tc,.int .i64 r.cursor] ⟨rfl,fun u hu=>by simp at hu;rcases hu with rfl | rfl | rfl | rfl | rfl | rfl | rfl <;> rfl⟩ (LQ.step hal.size (fun b hb _=>hal.block b hb) fun k hk=> .inl hk) wq.heap.size (fun q u hq=>K.zah hnew (by simpa using hq)) (Nat.le_trans hFq hal.size) hrl;obtain⟨⟨y0,y1,y2,y3,y4,y5,y6⟩,_⟩:=V.cells7 hbox;have HF:Hid (V.PS F tops' (W1.setCell ⟨X,init.length*2+1,none⟩ rv') (.slice (some ⟨X,0,none⟩) (init.length+1) cap) (init++ [⟨p.name,p.rules++ [r]⟩]) (rvi++ [rv'])/\Below F w (W1.setCell ⟨X,init.length*2+1,none⟩ rv')/\V.Moves tops w tops' (W1.setCell ⟨X,init.length*2+1,none⟩ rv')):=⟨PF,(hBq.trans (hal.mono hFq)).trans hBF,(hMq.trans (V.Moves.of_below hal)).trans hMF⟩;subst hrv';have lbq:=(qA.1 hbox).1;have lbX:=L.block_lt d1;have hj0:(0:Int)<=init.length:=by omega
 have hj1:(init.length:Int)<init.length+1:=by omega
 have hjw:IntKind.i64.wrap ((init.length:Int)+1 - 1)=init.length:=by rw[IntKind.wrap_i64];omega
 clear PQ PA hal hnew LQ PF hBF hMF hMq hbox d0 gr1;clear hY hps hrvs hnm h hL hb1 hbox1 hb2 hnp P2 ownP grP hvP hkq hntop hmq hvp' hrunP hw2' hw2 hw1;rw[<- hinit] at hil;clear hp hrv hinit hrvi;have HR:=qH hrun;clear hrun hs1 hw2s
 go_enter func115,ntmps115
 go_wp2_with (at_builtin;first | refine Lib.wpList_append_run _ rfl _ _ _ _ rfl _ _ rfl rfl _ _ (HRP.out _) ?_)
 go_region_law (refine V.za5 (by rfl) (.tmp 32) (.tmp 34) (by rfl) _ _ _ W1 (by rfl) (by rfl) HR.out ?_)
 all_goals
  go_wp2;go_ret
  exact⟨⟨_,tops',_,rfl,HFin.out▸HF.out.1,HF.out.2.2⟩,HF.out.2.1⟩
theorem znd (F:Nat)(w:World)(tops:List Nat)(ps:List V.Pass)(rvs:List Value)(h:V.PS F tops w (.slice none 0 0) ps rvs)(r:K.Rule)(bo:Option Addr)(bc:Nat)(so:Option Addr)(sc:Nat)(ao:Option Addr)(ac:Nat)(ta:Option Addr)(tc:Nat)(hL:V.Leaf tops w fun W=>K.RuIs W (.agg #[.bool r.start,.bool r.fin,.slice bo r.before.length bc,.slice so r.source.length sc,.slice ao r.after.length ac,.slice ta r.target.length tc,.int .i64 r.cursor]) r)(hF:F<=w.heap.size)(hil:ps.length<=1000) :
  Calls prog 115 #[.slice none 0 0,.agg #[.bool r.start,.bool r.fin,.slice bo r.before.length bc,.slice so r.source.length sc,.slice ao r.after.length ac,.slice ta r.target.length tc,.int .i64 r.cursor]] w fun e w'=>(∃vp' tops' rvs',e= .returned vp'/\V.PS F tops' w' vp' (ps++ [⟨⟨#[]⟩,[r]⟩]) rvs'/\V.Moves tops w tops' w')/\Below F w w':=by
 obtain⟨w1,hw1⟩:∃w1,w1=w.alloc (.cells #[.bool r.start,.bool r.fin,.slice bo r.before.length bc,.slice so r.source.length sc,.slice ao r.after.length ac,.slice ta r.target.length tc,.int .i64 r.cursor] 50):=⟨_,rfl⟩;have hb1:Below w.heap.size w w1:=by rw[hw1];exact(qR w).alloc qN _
 have hbox1:w1.heap[w.heap.size]?=some (.cells #[.bool r.start,.bool r.fin,.slice bo r.before.length bc,.slice so r.source.length sc,.slice ao r.after.length ac,.slice ta r.target.length tc,.int .i64 r.cursor] 50):=by rw[hw1];exact heap_alloc_new w _
 have hs1:w1.heap.size=w.heap.size+1:=by rw[hw1];simp
 obtain⟨w2,hw2⟩:∃w2,w2=(w.alloc (.cells #[.bool r.start,.bool r.fin,.slice bo r.before.length bc,.slice so r.source.length sc,.slice ao r.after.length ac,.slice ta r.target.length tc,.int .i64 r.cursor] 50)).alloc (.cells #[.string ⟨#[]⟩,.slice none 0 0] 32):=⟨_,rfl⟩;have hw2':w2=w1.alloc (.cells #[.string ⟨#[]⟩,.slice none 0 0] 32):=by rw[hw2,hw1]
 have hb2:Below w1.heap.size w1 w2:=by rw[hw2'];exact(qR w1).alloc qN _
 have hnp:w2.heap[w1.heap.size]?=some (.cells #[.string ⟨#[]⟩,.slice none 0 0] 32):=by rw[hw2'];exact heap_alloc_new w1 _
 have P2:=(h.below hb1).below hb2;have hF2:=Nat.le_trans hF (Nat.le_trans hb1.size hb2.size);obtain⟨vp',wq,hrunP,ownP,grP,hvP⟩:=R.zfb V.elemP w2 0 F (.slice none 0 0) ps.length (V.pcells ps rvs) P2.own ⟨w1.heap.size,0,none⟩ 1 1 [.string ⟨#[]⟩,.slice none 0 0] rfl (fun q u hq=>by rw[L.addr_add,Nat.zero_add];exact K.zah hnp (by simpa using hq)) (fun u hu=>by simp at hu;rcases hu with rfl | rfl <;> rfl) (by omega) hF2;obtain⟨tq,PQ,hmq⟩:=P2.more ⟨#[]⟩ (Nat.zero_le _) ownP grP hvP;have hkq:∀b,b<w2.heap.size->b∉tops->wq.heap[b]?=w2.heap[b]?:=fun b hb hn=>grP.block b hb fun e=>hn (P2.top b (.inl e.symm))
 have hw2s:w2.heap.size=w.heap.size+2:=by rw[hw2'];simp;omega
 have LQ:V.Leaf tq wq fun W=>K.RuIs W (.agg #[.bool r.start,.bool r.fin,.slice bo r.before.length bc,.slice so r.source.length sc,.slice ao r.after.length ac,.slice ta r.target.length tc,.int .i64 r.cursor]) r:=by
  have l2:=hL.step (tops':=tops) (w':=w2) (Nat.le_trans hb1.size hb2.size) (fun b hb _=>(hb2.block b (by omega)).trans (hb1.block b hb)) fun k hk=> .inl hk
  exact l2.moves hmq
 have hntop:w.heap.size∉tops:=fun hm=>by have:=h.lt _ hm;omega
 have hbox:=(hkq _ (by omega) hntop).trans ((hb2.block _ (by omega)).trans hbox1);have hFq:=Nat.le_trans hF2 grP.size;have hMq:=((V.Moves.of_below hb1).trans (V.Moves.of_below hb2)).trans hmq;have hBq:=((hb1.mono hF).trans (hb2.mono (by omega))).grown grP hF2 fun k hk=>(P2.own.lt k hk).1
 obtain⟨X,cap,hvp'⟩:=PQ.slice (by simp);rw[List.length_append] at hvp';have hvp2:vp'= .slice (some ⟨X,0,none⟩) (ps.length+1) cap:=hvp';subst hvp2
 have HRP:Hid (∀ty,(Builtin.append_ #[25,25] ty #[.slice none 0 0,.slice (some ⟨w.heap.size+1,0,none⟩) 1 1]).run prog ((w.alloc (.cells #[.bool r.start,.bool r.fin,.slice bo r.before.length bc,.slice so r.source.length sc,.slice ao r.after.length ac,.slice ta r.target.length tc,.int .i64 r.cursor] 50)).alloc (.cells #[.string ⟨#[]⟩,.slice none 0 0] 32))= .ok (.slice (some ⟨X,0,none⟩) (ps.length+1) cap) wq):=by
  rw[<- hs1,<- hw2];exact fun ty=>hrunP
 obtain⟨init,hinit⟩:∃init,init=ps:=⟨_,rfl⟩;obtain⟨rvi,hrvi⟩:∃rvi,rvi=rvs:=⟨_,rfl⟩;obtain⟨rv,hrv⟩:∃rv:Value,rv= .slice none 0 0:=⟨_,rfl⟩;obtain⟨p,hp⟩:∃p:V.Pass,p=⟨⟨#[]⟩,[]⟩:=⟨_,rfl⟩;have hrl:p.rules.length<=1000:=by rw[hp];simp
 have HFin:Hid (init++ [⟨p.name,p.rules++ [r]⟩]=ps++ [⟨⟨#[]⟩,[r]⟩]):=by show _=_;rw[hinit,hp];rfl
 have hli:rvi.length=init.length:=by rw[hrvi,hinit];exact h.len
 have hil':init.length<=1000:=by rw[hinit];exact hil
 rw[<- hrv,<- hp,<- hinit,<- hrvi] at PQ;rw[<- hinit] at HRP;obtain⟨d0,d1⟩:=PQ.cells hli;have hal:Below wq.heap.size wq (wq.alloc (.cells #[.bool r.start,.bool r.fin,.slice bo r.before.length bc,.slice so r.source.length sc,.slice ao r.after.length ac,.slice ta r.target.length tc,.int .i64 r.cursor] 50)).drew:=((qR wq).alloc qN _).drew;have PA:=PQ.below hal;have hnew:(wq.alloc (.cells #[.bool r.start,.bool r.fin,.slice bo r.before.length bc,.slice so r.source.length sc,.slice ao r.after.length ac,.slice ta r.target.length tc,.int .i64 r.cursor] 50)).drew.heap[wq.heap.size]?=some (.cells #[.bool r.start,.bool r.fin,.slice bo r.before.length bc,.slice so r.source.length sc,.slice ao r.after.length ac,.slice ta r.target.length tc,.int .i64 r.cursor] 50):=heap_alloc_new wq _;obtain⟨rv',W1,hrun,⟨g',c',hrv'⟩,e1,f1,gr1,tops',PF,hBF,hMF⟩:=PA.put hli r [.bool r.start,.bool r.fin,.slice bo r.before.length bc,.slice so r.source.length sc,.slice ao r.after.length ac,.slice ta r.target.length tc,.int .i64 r.cursor] ⟨rfl,fun u hu=>by simp at hu;rcases hu with rfl | rfl | rfl | rfl | rfl | rfl | rfl <;> rfl⟩ (LQ.step hal.size (fun b hb _=>hal.block b hb) fun k hk=> .inl hk) wq.heap.size (fun q u hq=>K.zah hnew (by simpa using hq)) (Nat.le_trans hFq hal.size) hrl;obtain⟨⟨y0,y1,y2,y3,y4,y5,y6⟩,_⟩:=V.cells7 hbox;have HF:Hid (V.PS F tops' (W1.setCell ⟨X,init.length*2+1,none⟩ rv') (.slice (some ⟨X,0,none⟩) (init.length+1) cap) (init++ [⟨p.name,p.rules++ [r]⟩]) (rvi++ [rv'])/\Below F w (W1.setCell ⟨X,init.length*2+1,none⟩ rv')/\V.Moves tops w tops' (W1.setCell ⟨X,init.length*2+1,none⟩ rv')):=⟨PF,(hBq.trans (hal.mono hFq)).trans hBF,(hMq.trans (V.Moves.of_below hal)).trans hMF⟩;subst hrv';have lbq:=(qA.1 hbox).1;have lbX:=L.block_lt d1;have hj0:(0:Int)<=init.length:=by omega
 have hj1:(init.length:Int)<init.length+1:=by omega
 have hjw:IntKind.i64.wrap ((init.length:Int)+1 - 1)=init.length:=by rw[IntKind.wrap_i64];omega
 clear PQ PA hal hnew LQ PF hBF hMF hMq hbox d0 gr1;clear h hL hb1 hbox1 hb2 hnp P2 ownP grP hvP hkq hntop hmq hvp' hrunP hw2' hw2 hw1;rw[<- hinit] at hil;clear hp hrv hinit hrvi;have HR:=qH hrun;clear hrun hs1 hw2s
 go_enter func115,ntmps115
 go_wp2_with (at_builtin;first | refine Lib.wpList_append_run _ rfl _ _ _ _ rfl _ _ rfl rfl _ _ (HRP.out _) ?_)
 go_region_law (refine V.za5 (by rfl) (.tmp 32) (.tmp 34) (by rfl) _ _ _ W1 (by rfl) (by rfl) HR.out ?_)
 all_goals
  go_wp2;go_ret
  exact⟨⟨_,tops',_,rfl,HFin.out▸HF.out.1,HF.out.2.2⟩,HF.out.2.1⟩
theorem V.zij (init:List V.Pass)(p:V.Pass)(r:K.Rule):V.putP (init++ [p]) r=if p.name.size=0 then init++ [⟨p.name,p.rules++ [r]⟩] else init++ [p]++ [⟨⟨#[]⟩,[r]⟩]:=by
 unfold V.putP;rw[List.getLast?_concat];simp only[List.dropLast_concat]
theorem zwf (F:Nat)(w:World)(tops:List Nat)(vp:Value)(ps:List V.Pass)(rvs:List Value)(h:V.PS F tops w vp ps rvs)(h0:ps= []->vp= .slice none 0 0)(r:K.Rule)(bo:Option Addr)(bc:Nat)(so:Option Addr)(sc:Nat)(ao:Option Addr)(ac:Nat)(ta:Option Addr)(tc:Nat)(hL:V.Leaf tops w fun W=>K.RuIs W (.agg #[.bool r.start,.bool r.fin,.slice bo r.before.length bc,.slice so r.source.length sc,.slice ao r.after.length ac,.slice ta r.target.length tc,.int .i64 r.cursor]) r)(hF:F<=w.heap.size)(hil:ps.length<=1000)(hrl:∀p∈ps,p.rules.length<=1000) :
  Calls prog 115 #[vp,.agg #[.bool r.start,.bool r.fin,.slice bo r.before.length bc,.slice so r.source.length sc,.slice ao r.after.length ac,.slice ta r.target.length tc,.int .i64 r.cursor]] w fun e w'=>(∃vp' tops' rvs',e= .returned vp'/\V.PS F tops' w' vp' (V.putP ps r) rvs'/\V.Moves tops w tops' w')/\Below F w w':=by
 by_cases hps:ps= []
 ·have hvp:=h0 hps;subst hvp;refine(znd F w tops ps rvs h r bo bc so sc ao ac ta tc hL hF hil).mono fun e w' ⟨⟨vp',tops',rvs',he,hp,hm⟩,hb⟩=>⟨⟨vp',tops',rvs',he,?_,hm⟩,hb⟩
  rw[hps] at hp ⊢;exact hp
 ·have hpos:0<ps.length:=by cases ps with | nil=>exact absurd rfl hps | cons _ _=>simp
  obtain⟨init,p,rvi,rv,hp,hrv,hli⟩:=h.snoc hpos;obtain⟨X,cap,hvp⟩:=h.slice hpos;have hlen:ps.length=init.length+1:=by rw[hp];simp
  rw[hlen] at hvp;subst hvp
  by_cases hnm:p.name.size=0
  ·have hnm':p.name=⟨#[]⟩:=by
    have:p.name.data=#[]:=Array.size_eq_zero_iff.1 hnm;cases hq:p.name with
    | mk d=>rw[hq] at this;exact congrArg ByteArray.mk this
   have h':=h;rw[hp,hrv] at h';refine(zqg F w tops init p rvi rv X cap h' hli hnm' r bo bc so sc ao ac ta tc hL hF (hrl p (by rw[hp];simp)) (by omega)).mono fun e w' ⟨he,⟨tops',rv',hps',hm⟩,hb⟩=>⟨⟨_,tops',rvi++ [rv'],he,?_,hm⟩,hb⟩
   rw[hp,V.zij,if_pos hnm];exact hps'
  ·refine(znc F w tops ps rvs init p rvi rv X cap hp hrv hli hnm h r bo bc so sc ao ac ta tc hL hF hil).mono fun e w' ⟨⟨vp',tops',rvs',he,hq,hm⟩,hb⟩=>⟨⟨vp',tops',rvs',he,?_,hm⟩,hb⟩
   rw[hp,V.zij,if_neg hnm];rw[hp] at hq;exact hq
end
section
open Go.RowKit
theorem ztk (w:World)(va vb:Value)(a b:R.Side)(bm:Nat)(g:ByteArray->List S.Sp)(HV:V.Vars w bm g)(RA:R.SdIs w va a)(RB:R.SdIs w vb b)(ha:V.Right a.before/\V.Right a.source/\V.Right a.after)(hb:V.Right b.source)(hfit:∀x,(x∈a.before∨x∈a.source∨x∈a.after)->S.Fit (V.setOf g x)) :
    Calls prog 116 #[va,vb,.func (.func 165) #[] #[.pointer (some ⟨bm,0,none⟩)]] w fun e w'=>∃bo bc so sc ao ac ta tc,e= .returned (.agg #[.bool a.start,.bool a.fin,.slice bo a.before.length bc,.slice so a.source.length sc,.slice ao a.after.length ac,.slice ta b.source.length tc,.int .i64 (V.ruleOf g a b).cursor]) /\
      R.Stays w.heap.size none w' (fun W=>K.RuIs W (.agg #[.bool a.start,.bool a.fin,.slice bo a.before.length bc,.slice so a.source.length sc,.slice ao a.after.length ac,.slice ta b.source.length tc,.int .i64 (V.ruleOf g a b).cursor]) (V.ruleOf g a b))/\Below w.heap.size w w':=by
  obtain⟨pbo,pbc,pso,psc,pao,pac,rfl,A1,A2,A3,hcuA⟩:=RA;obtain⟨qbo,qbc,qso,qsc,qao,qac,rfl,B1,B2,B3,hcuB⟩:=RB
  have HC:Hid (∀X,Below w.heap.size w X->∀(xo:Option Addr) (xc:Nat) (x:List R.Item),R.Its w (.slice xo x.length xc) x->V.Right x->(∀y∈x,S.Fit (V.setOf g y))->Calls prog 166 #[.slice xo x.length xc,.func (.func 165) #[] #[.pointer (some ⟨bm,0,none⟩)]] X fun e w'=>∃yo yc,e= .returned (.slice yo x.length yc)/\V.Mn X.heap.size w'.heap.size w' (fun W=>K.Ss W (.slice yo x.length yc) (x.map (V.setOf g)))/\Below X.heap.size X w'):=fun X hX xo xc x hx hr hf=>by
    refine(zsb X _ x bm g (HV.below hX) (hx.below hX) (by have:=hr.1;omega) (V.zqc hr)).mono fun e w' ⟨v',he,hrow,hb'⟩=> ?_
    obtain⟨yo,yc,hv,hm⟩:=V.zxj hrow (fun s hs=>by obtain⟨y,hy,rfl⟩:=List.mem_map.1 hs;exact hf y hy) (by rw[List.length_map];have:=hr.1;omega);rw[List.length_map] at hv;subst hv;exact⟨yo,yc,he,⟨hb'.size,hm⟩,hb'⟩
  have HT:Hid (∀X,Below w.heap.size w X->Calls prog 167 #[.slice qso b.source.length qsc,.func (.func 168) #[] #[]] X fun e w'=>∃yo yc,e= .returned (.slice yo b.source.length yc)/\V.Mn X.heap.size w'.heap.size w' (fun W=>L.Rd W (.slice yo b.source.length yc) .i32 (b.source.map (·.rune)))/\Below X.heap.size X w'):=fun X hX=>by
    refine(zsc X _ b.source (B2.below hX) (by have:=hb.1;omega)).mono fun e w' ⟨v',he,hown,hb'⟩=> ?_
    have hown2:w'.ownsRow X.heap.size 21 1 v' (b.source.map (·.rune)).length ((b.source.map (·.rune)).map (Value.int .i32)):=by rw[List.length_map,List.map_map];exact hown
    obtain⟨yo,yc,hv,_⟩:=L.Rd.zaz hown2;rw[List.length_map] at hv;subst hv;refine⟨yo,yc,he,⟨hb'.size,fun W' hW=> ?_⟩,hb'⟩
    have h3:W'.ownsRow X.heap.size 21 1 (.slice yo b.source.length yc) (b.source.map (·.rune)).length ((b.source.map (·.rune)).map (Value.int .i32)):=by
      refine⟨hown2.1,?_⟩;rcases hown2.2 with h | ⟨gg,cap,cur,hv,hB,hg,rr⟩
      · exact .inl h
      · exact .inr ⟨gg,cap,cur,hv,hB,by rw[hW gg hB (qA.1 hg).1];exact hg,rr⟩
    exact L.Rd.zaz h3
  have HR:Hid (R.Its w (.slice pbo a.before.length pbc) a.before/\R.Its w (.slice pso a.source.length psc) a.source/\R.Its w (.slice pao a.after.length pac) a.after):=⟨A1,A2,A3⟩;have HF:=qH hfit;have HRi:Hid ((V.Right a.before/\V.Right a.source/\V.Right a.after)/\V.Right b.source):=⟨ha,hb⟩;have HC1:=qH <| fun X hX=>HC.out X hX _ _ _ A1 ha.1 fun y hy=>hfit y (.inl hy)
  have HC2:=qH <| fun X hX=>HC.out X hX _ _ _ A2 ha.2.1 fun y hy=>hfit y (.inr (.inl hy))
  have HC3:=qH <| fun X hX=>HC.out X hX _ _ _ A3 ha.2.2 fun y hy=>hfit y (.inr (.inr hy))
  clear HC hfit A1 A2 A3 B1 B2 B3 HV ha hb HR HF;obtain⟨ast,afi,abe,aso,aaf,acu⟩:=a;obtain⟨bst,bfi,bbe,bso,baf,bcu⟩:=b;simp only at *;obtain⟨W0,hW0⟩:∃W0,W0=((w.alloc (.cells #[.bool ast,.bool afi,.slice pbo abe.length pbc,.slice pso aso.length psc,.slice pao aaf.length pac,.int .i64 acu] 194)).alloc (.cells #[.bool bst,.bool bfi,.slice qbo bbe.length qbc,.slice qso bso.length qsc,.slice qao baf.length qac,.int .i64 bcu] 194)).alloc (.cells #[.bool false,.bool false,.slice none 0 0,.slice none 0 0,.slice none 0 0,.slice none 0 0,.int .i64 0] 50):=⟨_,rfl⟩;have hB0:Below w.heap.size w W0:=by rw[hW0];exact(((qR w).alloc qN _).alloc (by simp) _).alloc (by simp;omega) _
  have hs0:W0.heap.size=w.heap.size+3:=by rw[hW0];simp
  have hh3:W0.heap[w.heap.size]?=some (.cells #[.bool ast,.bool afi,.slice pbo abe.length pbc,.slice pso aso.length psc,.slice pao aaf.length pac,.int .i64 acu] 194):=by
    rw[hW0,Below.heap_alloc _ _ _ (by simp;omega),Below.heap_alloc _ _ _ (by simp)];exact heap_alloc_new w _
  have hh4:W0.heap[w.heap.size+1]?=some (.cells #[.bool bst,.bool bfi,.slice qbo bbe.length qbc,.slice qso bso.length qsc,.slice qao baf.length qac,.int .i64 bcu] 194):=by
    rw[hW0,Below.heap_alloc _ _ _ (by simp)];have h:=heap_alloc_new (w.alloc (.cells #[.bool ast,.bool afi,.slice pbo abe.length pbc,.slice pso aso.length psc,.slice pao aaf.length pac,.int .i64 acu] 194)) (.cells #[.bool bst,.bool bfi,.slice qbo bbe.length qbc,.slice qso bso.length qsc,.slice qao baf.length qac,.int .i64 bcu] 194);rw[show (w.alloc (.cells #[.bool ast,.bool afi,.slice pbo abe.length pbc,.slice pso aso.length psc,.slice pao aaf.length pac,.int .i64 acu] 194)).heap.size=w.heap.size+1 by simp] at h;exact h
  have hh6:W0.heap[w.heap.size+2]?=some (.cells #[.bool false,.bool false,.slice none 0 0,.slice none 0 0,.slice none 0 0,.slice none 0 0,.int .i64 0] 50):=by
    rw[hW0];have h:=heap_alloc_new ((w.alloc (.cells #[.bool ast,.bool afi,.slice pbo abe.length pbc,.slice pso aso.length psc,.slice pao aaf.length pac,.int .i64 acu] 194)).alloc (.cells #[.bool bst,.bool bfi,.slice qbo bbe.length qbc,.slice qso bso.length qsc,.slice qao baf.length qac,.int .i64 bcu] 194)) (.cells #[.bool false,.bool false,.slice none 0 0,.slice none 0 0,.slice none 0 0,.slice none 0 0,.int .i64 0] 50);rw[show ((w.alloc (.cells #[.bool ast,.bool afi,.slice pbo abe.length pbc,.slice pso aso.length psc,.slice pao aaf.length pac,.int .i64 acu] 194)).alloc (.cells #[.bool bst,.bool bfi,.slice qbo bbe.length qbc,.slice qso bso.length qsc,.slice qao baf.length qac,.int .i64 bcu] 194)).heap.size=w.heap.size+2 by simp] at h;exact h
  have q0:=hB0.drew;have k0:Below w.heap.size w W0.drew/\W0.drew.cell? ⟨w.heap.size,0,none⟩=some (.bool ast)/\W0.drew.cell? ⟨w.heap.size,1,none⟩=some (.bool afi)/\W0.drew.cell? ⟨w.heap.size,2,none⟩=some (.slice pbo abe.length pbc)/\W0.drew.cell? ⟨w.heap.size,3,none⟩=some (.slice pso aso.length psc)/\W0.drew.cell? ⟨w.heap.size,4,none⟩=some (.slice pao aaf.length pac)/\W0.drew.cell? ⟨w.heap.size+1,3,none⟩=some (.slice qso bso.length qsc)/\W0.drew.cell? ⟨w.heap.size+1,5,none⟩=some (.int .i64 bcu)/\W0.drew.heap[w.heap.size+2]?=some (.cells #[.bool false,.bool false,.slice none 0 0,.slice none 0 0,.slice none 0 0,.slice none 0 0,.int .i64 0] 50):=⟨q0,K.zah (w:=W0) hh3 rfl,K.zah (w:=W0) hh3 rfl,K.zah (w:=W0) hh3 rfl,K.zah (w:=W0) hh3 rfl,K.zah (w:=W0) hh3 rfl,K.zah (w:=W0) hh4 rfl,K.zah (w:=W0) hh4 rfl,hh6⟩;have HS0:=qH k0
  have SK:Hid (∀X Y:World,(Below w.heap.size w X/\X.cell? ⟨w.heap.size,0,none⟩=some (.bool ast)/\X.cell? ⟨w.heap.size,1,none⟩=some (.bool afi)/\X.cell? ⟨w.heap.size,2,none⟩=some (.slice pbo abe.length pbc)/\X.cell? ⟨w.heap.size,3,none⟩=some (.slice pso aso.length psc)/\X.cell? ⟨w.heap.size,4,none⟩=some (.slice pao aaf.length pac)/\X.cell? ⟨w.heap.size+1,3,none⟩=some (.slice qso bso.length qsc)/\X.cell? ⟨w.heap.size+1,5,none⟩=some (.int .i64 bcu)/\X.heap[w.heap.size+2]?=some (.cells #[.bool false,.bool false,.slice none 0 0,.slice none 0 0,.slice none 0 0,.slice none 0 0,.int .i64 0] 50))->Below X.heap.size X Y->(Below w.heap.size w Y/\Y.cell? ⟨w.heap.size,0,none⟩=some (.bool ast)/\Y.cell? ⟨w.heap.size,1,none⟩=some (.bool afi)/\Y.cell? ⟨w.heap.size,2,none⟩=some (.slice pbo abe.length pbc)/\Y.cell? ⟨w.heap.size,3,none⟩=some (.slice pso aso.length psc)/\Y.cell? ⟨w.heap.size,4,none⟩=some (.slice pao aaf.length pac)/\Y.cell? ⟨w.heap.size+1,3,none⟩=some (.slice qso bso.length qsc)/\Y.cell? ⟨w.heap.size+1,5,none⟩=some (.int .i64 bcu)/\Y.heap[w.heap.size+2]?=some (.cells #[.bool false,.bool false,.slice none 0 0,.slice none 0 0,.slice none 0 0,.slice none 0 0,.int .i64 0] 50))):=fun X Y h z=>by
    obtain⟨h0,h1,h2,h3,h4,h5,h6,h7,h8⟩:=h;exact⟨V.goes h0 z,(z.cell (p:=⟨w.heap.size,0,none⟩) (L.block_lt h1)).trans h1,(z.cell (p:=⟨w.heap.size,1,none⟩) (L.block_lt h1)).trans h2,(z.cell (p:=⟨w.heap.size,2,none⟩) (L.block_lt h1)).trans h3,(z.cell (p:=⟨w.heap.size,3,none⟩) (L.block_lt h1)).trans h4,(z.cell (p:=⟨w.heap.size,4,none⟩) (L.block_lt h1)).trans h5,(z.cell (p:=⟨w.heap.size+1,3,none⟩) (L.block_lt h6)).trans h6,(z.cell (p:=⟨w.heap.size+1,5,none⟩) (L.block_lt h6)).trans h7,K.zae h8 z⟩
  have SA:=qH <| fun X o h=>SK.out X _ h ((qR X).alloc qN o)
  have SD:Hid (∀o:Obj,Below w.heap.size w (W0.alloc o).drew/\(W0.alloc o).drew.cell? ⟨w.heap.size,0,none⟩=some (.bool ast)/\(W0.alloc o).drew.cell? ⟨w.heap.size,1,none⟩=some (.bool afi)/\(W0.alloc o).drew.cell? ⟨w.heap.size,2,none⟩=some (.slice pbo abe.length pbc)/\(W0.alloc o).drew.cell? ⟨w.heap.size,3,none⟩=some (.slice pso aso.length psc)/\(W0.alloc o).drew.cell? ⟨w.heap.size,4,none⟩=some (.slice pao aaf.length pac)/\(W0.alloc o).drew.cell? ⟨w.heap.size+1,3,none⟩=some (.slice qso bso.length qsc)/\(W0.alloc o).drew.cell? ⟨w.heap.size+1,5,none⟩=some (.int .i64 bcu)/\(W0.alloc o).drew.heap[w.heap.size+2]?=some (.cells #[.bool false,.bool false,.slice none 0 0,.slice none 0 0,.slice none 0 0,.slice none 0 0,.int .i64 0] 50)):=fun o=>SA.out W0.drew o HS0.out
  have qD:=fun o=>(SD.out o).1
  have HqD:=qH qD
  have S7:Hid (∀(X:World) (rb:Nat) (v0 v1 v2 v3 v4 v5 v6:Value),(Below w.heap.size w X/\X.cell? ⟨w.heap.size,0,none⟩=some (.bool ast)/\X.cell? ⟨w.heap.size,1,none⟩=some (.bool afi)/\X.cell? ⟨w.heap.size,2,none⟩=some (.slice pbo abe.length pbc)/\X.cell? ⟨w.heap.size,3,none⟩=some (.slice pso aso.length psc)/\X.cell? ⟨w.heap.size,4,none⟩=some (.slice pao aaf.length pac)/\X.cell? ⟨w.heap.size+1,3,none⟩=some (.slice qso bso.length qsc)/\X.cell? ⟨w.heap.size+1,5,none⟩=some (.int .i64 bcu)/\X.heap[w.heap.size+2]?=some (.cells #[.bool false,.bool false,.slice none 0 0,.slice none 0 0,.slice none 0 0,.slice none 0 0,.int .i64 0] 50))->w.heap.size+3<=rb->(Below w.heap.size w (((((((X.setCell ⟨rb,0,none⟩ v0).setCell ⟨rb,1,none⟩ v1).setCell ⟨rb,2,none⟩ v2).setCell ⟨rb,3,none⟩ v3).setCell ⟨rb,4,none⟩ v4).setCell ⟨rb,5,none⟩ v5).setCell ⟨rb,6,none⟩ v6)/\(((((((X.setCell ⟨rb,0,none⟩ v0).setCell ⟨rb,1,none⟩ v1).setCell ⟨rb,2,none⟩ v2).setCell ⟨rb,3,none⟩ v3).setCell ⟨rb,4,none⟩ v4).setCell ⟨rb,5,none⟩ v5).setCell ⟨rb,6,none⟩ v6).cell? ⟨w.heap.size,0,none⟩=some (.bool ast)/\(((((((X.setCell ⟨rb,0,none⟩ v0).setCell ⟨rb,1,none⟩ v1).setCell ⟨rb,2,none⟩ v2).setCell ⟨rb,3,none⟩ v3).setCell ⟨rb,4,none⟩ v4).setCell ⟨rb,5,none⟩ v5).setCell ⟨rb,6,none⟩ v6).cell? ⟨w.heap.size,1,none⟩=some (.bool afi)/\(((((((X.setCell ⟨rb,0,none⟩ v0).setCell ⟨rb,1,none⟩ v1).setCell ⟨rb,2,none⟩ v2).setCell ⟨rb,3,none⟩ v3).setCell ⟨rb,4,none⟩ v4).setCell ⟨rb,5,none⟩ v5).setCell ⟨rb,6,none⟩ v6).cell? ⟨w.heap.size,2,none⟩=some (.slice pbo abe.length pbc)/\(((((((X.setCell ⟨rb,0,none⟩ v0).setCell ⟨rb,1,none⟩ v1).setCell ⟨rb,2,none⟩ v2).setCell ⟨rb,3,none⟩ v3).setCell ⟨rb,4,none⟩ v4).setCell ⟨rb,5,none⟩ v5).setCell ⟨rb,6,none⟩ v6).cell? ⟨w.heap.size,3,none⟩=some (.slice pso aso.length psc)/\(((((((X.setCell ⟨rb,0,none⟩ v0).setCell ⟨rb,1,none⟩ v1).setCell ⟨rb,2,none⟩ v2).setCell ⟨rb,3,none⟩ v3).setCell ⟨rb,4,none⟩ v4).setCell ⟨rb,5,none⟩ v5).setCell ⟨rb,6,none⟩ v6).cell? ⟨w.heap.size,4,none⟩=some (.slice pao aaf.length pac)/\(((((((X.setCell ⟨rb,0,none⟩ v0).setCell ⟨rb,1,none⟩ v1).setCell ⟨rb,2,none⟩ v2).setCell ⟨rb,3,none⟩ v3).setCell ⟨rb,4,none⟩ v4).setCell ⟨rb,5,none⟩ v5).setCell ⟨rb,6,none⟩ v6).cell? ⟨w.heap.size+1,3,none⟩=some (.slice qso bso.length qsc)/\(((((((X.setCell ⟨rb,0,none⟩ v0).setCell ⟨rb,1,none⟩ v1).setCell ⟨rb,2,none⟩ v2).setCell ⟨rb,3,none⟩ v3).setCell ⟨rb,4,none⟩ v4).setCell ⟨rb,5,none⟩ v5).setCell ⟨rb,6,none⟩ v6).cell? ⟨w.heap.size+1,5,none⟩=some (.int .i64 bcu)/\(((((((X.setCell ⟨rb,0,none⟩ v0).setCell ⟨rb,1,none⟩ v1).setCell ⟨rb,2,none⟩ v2).setCell ⟨rb,3,none⟩ v3).setCell ⟨rb,4,none⟩ v4).setCell ⟨rb,5,none⟩ v5).setCell ⟨rb,6,none⟩ v6).heap[w.heap.size+2]?=some (.cells #[.bool false,.bool false,.slice none 0 0,.slice none 0 0,.slice none 0 0,.slice none 0 0,.int .i64 0] 50))):=fun X rb v0 v1 v2 v3 v4 v5 v6 h hrb=>by
    obtain⟨h0,h1,h2,h3,h4,h5,h6,h7,h8⟩:=h
    have oth:∀k,k≠rb->(((((((X.setCell ⟨rb,0,none⟩ v0).setCell ⟨rb,1,none⟩ v1).setCell ⟨rb,2,none⟩ v2).setCell ⟨rb,3,none⟩ v3).setCell ⟨rb,4,none⟩ v4).setCell ⟨rb,5,none⟩ v5).setCell ⟨rb,6,none⟩ v6).heap[k]?=X.heap[k]?:=fun k hk=>by
      rw[heap_setCell_other _ ⟨rb,6,none⟩ k _ hk,heap_setCell_other _ ⟨rb,5,none⟩ k _ hk,heap_setCell_other _ ⟨rb,4,none⟩ k _ hk,heap_setCell_other _ ⟨rb,3,none⟩ k _ hk,heap_setCell_other _ ⟨rb,2,none⟩ k _ hk,heap_setCell_other _ ⟨rb,1,none⟩ k _ hk,heap_setCell_other _ ⟨rb,0,none⟩ k _ hk]
    have c3:=fun i=>World.cell?_of_block (a:=⟨w.heap.size,i,none⟩) (oth w.heap.size (by omega))
    have c4:=fun i=>World.cell?_of_block (a:=⟨w.heap.size+1,i,none⟩) (oth (w.heap.size+1) (by omega))
    have hw:w.heap.size<=rb:=by omega
    refine⟨((((((h0.setCell (p:=⟨rb,0,none⟩) hw _).setCell (p:=⟨rb,1,none⟩) hw _).setCell (p:=⟨rb,2,none⟩) hw _).setCell (p:=⟨rb,3,none⟩) hw _).setCell (p:=⟨rb,4,none⟩) hw _).setCell (p:=⟨rb,5,none⟩) hw _).setCell (p:=⟨rb,6,none⟩) hw _,?_,?_,?_,?_,?_,?_,?_,?_⟩
    · rw[c3];exact h1
    · rw[c3];exact h2
    · rw[c3];exact h3
    · rw[c3];exact h4
    · rw[c3];exact h5
    · rw[c4];exact h6
    · rw[c4];exact h7
    · rw[oth (w.heap.size+2) (by omega)];exact h8
  have hs0a:W0.heap.size<=w.heap.size+3:=by omega
  have hs0b:w.heap.size+3<=W0.heap.size:=by omega
  clear k0 hs0 qD
  go_enter func116,ntmps116
  go_wp2;rw[<- hW0]
  clear hW0
  go_cut [7] (fun v7 wx=>∃rb p1 p2 s1 s2 a1 a2 t1 t2,v7= .pointer (some ⟨rb,0,none⟩)/\Hid (V.Made w g abe aso aaf bso wx rb (.bool ast) (.bool afi) p1 p2 s1 s2 a1 a2 t1 t2 bcu))
  case first =>
    go_region_held3 (fun w'=>Below w.heap.size w w'/\w'.cell? ⟨w.heap.size,0,none⟩=some (.bool ast)/\w'.cell? ⟨w.heap.size,1,none⟩=some (.bool afi)/\w'.cell? ⟨w.heap.size,2,none⟩=some (.slice pbo abe.length pbc)/\w'.cell? ⟨w.heap.size,3,none⟩=some (.slice pso aso.length psc)/\w'.cell? ⟨w.heap.size,4,none⟩=some (.slice pao aaf.length pac)/\w'.cell? ⟨w.heap.size+1,3,none⟩=some (.slice qso bso.length qsc)/\w'.cell? ⟨w.heap.size+1,5,none⟩=some (.int .i64 bcu)/\w'.heap[w.heap.size+2]?=some (.cells #[.bool false,.bool false,.slice none 0 0,.slice none 0 0,.slice none 0 0,.slice none 0 0,.int .i64 0] 50))
      (first | with_reducible exact HS0.out | with_reducible exact k4 | with_reducible exact k3 | with_reducible exact k2 | with_reducible exact k1 | with_reducible exact SA.out _ _ k4 | with_reducible exact SA.out _ _ k3 | with_reducible exact SA.out _ _ k2 | with_reducible exact SA.out _ _ k1 | with_reducible exact SD.out _ | with_reducible exact S7.out _ _ _ _ _ _ _ _ _ k4 (by omega))
      (first
        | (have hy:=z3;clear hy;go_at_call 167;refine(HT.out _ (by first | with_reducible exact q3 | with_reducible exact Below.alloc q3 q3.size _)).mono ?_;rintro e w4 ⟨t1,t2,rfl,m4,z4⟩;have k4:=SK.out _ _ (by first | with_reducible exact k3 | with_reducible exact SA.out _ _ k3) z4;have g4:w.heap.size+3<=w4.heap.size:=(by have h:=z4.size;(try simp at h);omega);first | (have r4:=K.zae r3 z4;obtain⟨⟨y0,y1,y2,y3,y4,y5,y6⟩,ff⟩:=V.cells7 r4) | (have r4:=V.zj7 z4;obtain⟨⟨y0,y1,y2,y3,y4,y5,y6⟩,ff⟩:=V.cells7 r4) | skip)
        | ((fail_if_success (have hz:=z3));have hy:=z2;clear hy;go_at_call 166;refine(HC3.out _ (by first | with_reducible exact q2 | with_reducible exact Below.alloc q2 q2.size _)).mono ?_;rintro e w3 ⟨a1,a2,rfl,m3,z3⟩;have k3:=SK.out _ _ (by first | with_reducible exact k2 | with_reducible exact SA.out _ _ k2) z3;have q3:=k3.1;have g3:w.heap.size+3<=w3.heap.size:=(by have h:=z3.size;(try simp at h);omega);first | (have r3:=K.zae r2 z3) | (have r3:=V.zj7 z3) | skip)
        | ((fail_if_success (have hz:=z2));have hy:=z1;clear hy;go_at_call 166;refine(HC2.out _ (by first | with_reducible exact q1 | with_reducible exact Below.alloc q1 q1.size _)).mono ?_;rintro e w2 ⟨s1,s2,rfl,m2,z2⟩;have k2:=SK.out _ _ (by first | with_reducible exact k1 | with_reducible exact SA.out _ _ k1) z2;have q2:=k2.1;have g2:w.heap.size+3<=w2.heap.size:=(by have h:=z2.size;(try simp at h);omega);first | (have r2:=K.zae r1 z2) | (have r2:=V.zj7 z2) | skip)
        | ((fail_if_success (have hz:=z1));go_at_call 166;refine(HC1.out _ (by first | with_reducible exact q0 | with_reducible exact HqD.out _)).mono ?_;rintro e w1 ⟨p1,p2,rfl,m1,z1⟩;have k1:=SK.out _ _ (by first | with_reducible exact HS0.out | with_reducible exact SD.out _) z1;have q1:=k1.1;have g1:w.heap.size+3<=w1.heap.size:=(by have h:=z1.size;(try simp at h);omega);first | (have r1:=V.ztq z1) | skip)
        | fail)
    all_goals
      have c1:=z1.size;have c2:=z2.size;have c3:=z3.size;have c4:=z4.size
      try simp at c1
      try simp at c2
      try simp at c3
      try simp at c4
      have hb6:=k4.2.2.2.2.2.2.2.2
      first
        | (obtain⟨hF,hG⟩:=V.zj1 r4 (.bool ast) (.bool afi) (.slice p1 abe.length p2) (.slice s1 aso.length s2) (.slice a1 aaf.length a2) (.slice t1 bso.length t2) (.int .i64 bcu)
           have E4:=V.zx6 hG
           have hBx:=k4.1.grown hG k4.1.size (fun q hq=>by have h9:=Option.some.inj hq;omega))
        | (have hF:=heap_alloc_new w4 (.cells #[.bool ast,.bool afi,.slice p1 abe.length p2,.slice s1 aso.length s2,.slice a1 aaf.length a2,.slice t1 bso.length t2,.int .i64 bcu] 50)
           have E4:=V.zuy (A:=w4) (o:= .cells #[.bool ast,.bool afi,.slice p1 abe.length p2,.slice s1 aso.length s2,.slice a1 aaf.length a2,.slice t1 bso.length t2,.int .i64 bcu] 50) (rb:=w4.heap.size)
           have hBx:=k4.1.alloc k4.1.size (.cells #[.bool ast,.bool afi,.slice p1 abe.length p2,.slice s1 aso.length s2,.slice a1 aaf.length a2,.slice t1 bso.length t2,.int .i64 bcu] 50))
      first | (have E3:=V.Ext.trans (V.zuy (A:=w3)) (V.Ext.trans (V.zon z4) E4)) | (have E3:=V.Ext.trans (V.zon z4) E4)
      first | (have E2:=V.Ext.trans (V.zuy (A:=w2)) (V.Ext.trans (V.zon z3) E3)) | (have E2:=V.Ext.trans (V.zon z3) E3)
      first | (have E1:=V.Ext.trans (V.zuy (A:=w1)) (V.Ext.trans (V.zon z2) E2)) | (have E1:=V.Ext.trans (V.zon z2) E2)
      have x1:=E1.1;have x2:=E2.1;have x3:=E3.1;have x4:=E4.1;have h6x:=E4.2 (w.heap.size+2) (by omega) (by omega);rw[hb6] at h6x
      have HM:=V.zwu (g:=g) (abe:=abe) (aso:=aso) (aaf:=aaf) (bso:=bso) hF h6x (by omega) hBx
        (fun W' hW=>m1.2 W' fun b h1 h2=>by
          try simp at h1
          exact(hW b (by omega) (by omega) (by omega)).trans (E1.2 b h2 (by omega)))
        (fun W' hW=>m2.2 W' fun b h1 h2=>by
          try simp at h1
          exact(hW b (by omega) (by omega) (by omega)).trans (E2.2 b h2 (by omega)))
        (fun W' hW=>m3.2 W' fun b h1 h2=>by
          try simp at h1
          exact(hW b (by omega) (by omega) (by omega)).trans (E3.2 b h2 (by omega)))
        (fun W' hW=>m4.2 W' fun b h1 h2=>by
          try simp at h1
          exact(hW b (by omega) (by omega) (by omega)).trans (E4.2 b h2 (by omega)))
      clear E1 E2 E3 E4 hF hBx hb6 h6x c1 c2 c3 c4 x1 x2 x3 x4 m1 m2 m3 m4 z1 z2 z3 z4 k1 k2 k3 k4 q0 q1 q2 q3 g1 g2 g3 g4
      go_wp2_with fail
      go_meet
      case rel=>exact⟨_,p1,p2,s1,s2,a1,a2,t1,t2,rfl,HM⟩
  case rest =>
    obtain⟨rb,p1,p2,s1,s2,a1,a2,t1,t2,rfl,HM⟩:=hcut;obtain⟨⟨y0,y1,y2,y3,y4,y5,y6⟩,ff⟩:=V.cells7 HM.out.1;obtain⟨⟨u0,u1,u2,u3,u4,u5,u6⟩,fu⟩:=V.cells7 HM.out.2.1;have n1:¬rb=w.heap.size+2:=by have:=HM.out.2.2.1;omega
    have n2:¬w.heap.size+2=rb:=by omega
    have hl:=HRi.out.2.1;have hbl:(bso.length:Int)<=20:=by omega
    have hI1:=hcuB.1;have hI2:=hcuB.2
    by_cases hcu:bcu<0
    · go_wp2
      refine bodyPost_ret (v:= .agg #[.bool ast,.bool afi,.slice p1 abe.length p2,.slice s1 aso.length s2,.slice a1 aaf.length a2,.slice t1 bso.length t2,.int .i64 (bso.length:Int)]) (by simp[results,results116,go_sem, *]) rfl ?_;have hcur:(V.ruleOf g ⟨ast,afi,abe,aso,aaf,acu⟩ ⟨bst,bfi,bbe,bso,baf,bcu⟩).cursor=(bso.length:Int):=by unfold V.ruleOf;simp[hcu]
      rw[hcur];obtain⟨e1,g1⟩:=V.zcq (i:=6) HM.out.1 (.int .i64 (bso.length:Int));have h6':(wc.setCell ⟨rb,6,none⟩ (.int .i64 (bso.length:Int))).heap[w.heap.size+2]?=_:=(g1.block _ (qA.1 HM.out.2.1).1 (by simp;omega)).trans HM.out.2.1;obtain⟨e7,g7⟩:=V.zj1 h6' (.bool ast) (.bool afi) (.slice p1 abe.length p2) (.slice s1 aso.length s2) (.slice a1 aaf.length a2) (.slice t1 bso.length t2) (.int .i64 (bso.length:Int));have hBf:=((HM.out.2.2.2.1.grown g1 HM.out.2.2.2.1.size (fun q hq=>by have h9:=Option.some.inj hq;have:=HM.out.2.2.1;omega)).grown g7 (Nat.le_trans HM.out.2.2.2.1.size g1.size) (fun q hq=>by have h9:=Option.some.inj hq;omega));refine⟨p1,p2,s1,s2,a1,a2,t1,t2,rfl,fun W' hW=> ?_,hBf⟩
      have hag:=HM.out.2.2.2.2 W' fun b h1 h2 h3=>by
        rw[hW b (by omega) (by simpa using h3) (by simp),g7.block b (by have:=g1.size;omega) (by simp;omega),g1.block b h3 (by simpa using h2)]
      have he:(V.ruleOf g ⟨ast,afi,abe,aso,aaf,acu⟩ ⟨bst,bfi,bbe,bso,baf,bcu⟩)=⟨ast,afi,abe.map (V.setOf g),aso.map (V.setOf g),aaf.map (V.setOf g),bso.map (·.rune),(bso.length:Int)⟩:=by unfold V.ruleOf;simp[hcu]
      rw[he];refine⟨p1,p2,s1,s2,a1,a2,t1,t2,by simp,?_,?_,?_,?_,by simp;omega,⟨by show (-9223372036854775808:Int)<=(bso.length:Int);omega,by show (bso.length:Int)<=9223372036854775807;omega⟩⟩
      · simpa using hag.1
      · simpa using hag.2.1
      · simpa using hag.2.2.1
      · simpa using hag.2.2.2
    · go_wp2
      refine bodyPost_ret (v:= .agg #[.bool ast,.bool afi,.slice p1 abe.length p2,.slice s1 aso.length s2,.slice a1 aaf.length a2,.slice t1 bso.length t2,.int .i64 bcu]) (by simp[results,results116,go_sem, *]) rfl ?_;have hcur:(V.ruleOf g ⟨ast,afi,abe,aso,aaf,acu⟩ ⟨bst,bfi,bbe,bso,baf,bcu⟩).cursor=bcu:=by show (if bcu<0 then (bso.length:Int) else bcu)=bcu;rw[if_neg (show ¬bcu<0 by omega)]
      rw[hcur];obtain⟨e7,g7⟩:=V.zj1 HM.out.2.1 (.bool ast) (.bool afi) (.slice p1 abe.length p2) (.slice s1 aso.length s2) (.slice a1 aaf.length a2) (.slice t1 bso.length t2) (.int .i64 bcu);have hBf:=HM.out.2.2.2.1.grown g7 HM.out.2.2.2.1.size (fun q hq=>by have h9:=Option.some.inj hq;omega);refine⟨p1,p2,s1,s2,a1,a2,t1,t2,rfl,fun W' hW=> ?_,hBf⟩
      have hag:=HM.out.2.2.2.2 W' fun b h1 h2 h3=>by
        rw[hW b (by omega) (by simpa using h3) (by simp),g7.block b h3 (by simp;omega)]
      have he:(V.ruleOf g ⟨ast,afi,abe,aso,aaf,acu⟩ ⟨bst,bfi,bbe,bso,baf,bcu⟩)=⟨ast,afi,abe.map (V.setOf g),aso.map (V.setOf g),aaf.map (V.setOf g),bso.map (·.rune),bcu⟩:=by unfold V.ruleOf;rw[if_neg (show ¬bcu<0 by omega)]
      rw[he];refine⟨p1,p2,s1,s2,a1,a2,t1,t2,by simp,?_,?_,?_,?_,by simp;omega,hcuB⟩
      · simpa using hag.1
      · simpa using hag.2.1
      · simpa using hag.2.2.1
      · simpa using hag.2.2.2
