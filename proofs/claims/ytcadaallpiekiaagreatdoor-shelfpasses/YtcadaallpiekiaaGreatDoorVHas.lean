import Derived.Test.YtcadaallpiekiaaGreatDoorVRule
import Derived.BigRegion
import Derived.Deep.RegionLaw
import Derived.Lib.Walk
import Derived.Lib.AppendZeros
set_option maxHeartbeats 0
set_option maxRecDepth 20000
set_option linter.unusedSimpArgs false
set_option linter.unusedVariables false
namespace Go.Proofs.YtcadaallpiekiaaGreatDoor
open Go.Proofs.Tryz
section
open Go.RowKit
theorem V.za7 {t:TypeId}{ops:Array Oper}{o:Oper}{a:Act}{w:World}{K:Act->World->Prop}{Q:Exit->Act->World->Prop}{E:Prop}(hgd:o.guard=none)(s x:Operand)
  (ho:o.op=.call { callee:=.builtin .append,args:=#[s,x],argTypes:=#[t,t] }) (v vx v':Value) (w':World) (hs:a.eval s=v) (hx:a.eval x=vx)
  (hrun:∀ty,(Builtin.append_ #[t,t] ty #[v,vx]).run prog w=.ok v' w') (h:K (a.put o.dst v') w') :
  if Region.wanted o (yielded ops a.tmps)=true then Oper.wp prog o a w K Q else E:=by
 have hw:Region.wanted o (yielded ops a.tmps)=true:=by simp[Region.wanted,hgd]
 rw[if_pos hw];unfold Oper.wp;simp[execOp,ho,resolve,invoke,builtin,hs,hx,hrun,Result.andThen];exact h
theorem zpi (F:Nat)(w:World)(tops:List Nat)(init:List V.Pass)(p:V.Pass)(rvi:List Value)(rv:Value)(X cap:Nat)(h:V.PS F tops w (.slice (some ⟨X,0,none⟩) (init.length+1) cap) (init++ [p]) (rvi++ [rv]))(hli:rvi.length=init.length)(hnm:p.name=⟨#[]⟩)(r:K.Rule)(bo:Option Addr)(bc:Nat)(so:Option Addr)(sc:Nat)(ao:Option Addr)(ac:Nat)(ta:Option Addr)(tc:Nat)(hL:V.Leaf tops w fun W=>K.RuIs W (.agg #[.bool r.start,.bool r.fin,.slice bo r.before.length bc,.slice so r.source.length sc,.slice ao r.after.length ac,.slice ta r.target.length tc,.int .i64 r.cursor]) r)(hF:F<=w.heap.size)(hrl:p.rules.length<=1000)(hil:init.length<=1000) :
  Calls prog 57 #[.slice (some ⟨X,0,none⟩) (init.length+1) cap,.agg #[.bool r.start,.bool r.fin,.slice bo r.before.length bc,.slice so r.source.length sc,.slice ao r.after.length ac,.slice ta r.target.length tc,.int .i64 r.cursor]] w fun e w'=>e=.returned (.slice (some ⟨X,0,none⟩) (init.length+1) cap)/\(∃tops' rv',V.PS F tops' w' (.slice (some ⟨X,0,none⟩) (init.length+1) cap) (init++ [⟨p.name,p.rules++ [r]⟩]) (rvi++ [rv'])/\V.Moves tops w tops' w')/\Below F w w':=by
 obtain⟨wq,hwq⟩:=qE (w.alloc (.cells #[.bool r.start,.bool r.fin,.slice bo r.before.length bc,.slice so r.source.length sc,.slice ao r.after.length ac,.slice ta r.target.length tc,.int .i64 r.cursor] 79));have hb0:Bl w wq:=by rw[hwq];exact(qR w).alloc qN _
 have PQ:=h.below hb0;have LQ:=hL.step (tops':=tops) hb0.size (fun b hb _=>hb0.block b hb) fun k hk=> .inl hk
 have hbox:wq.heap[w.heap.size]?=some (.cells #[.bool r.start,.bool r.fin,.slice bo r.before.length bc,.slice so r.source.length sc,.slice ao r.after.length ac,.slice ta r.target.length tc,.int .i64 r.cursor] 79):=by rw[hwq];exact heap_alloc_new w _
 have hFq:=Nat.le_trans hF hb0.size;have hBq:=hb0.mono hF;have hMq:V.Moves tops w tops wq:=V.Moves.of_below hb0;obtain⟨nm0,_⟩:=h.cells hli;rw[hnm] at nm0
 have dn:∀o,(w.alloc o).cell? ⟨X,init.length*2,none⟩=some (.string ⟨#[]⟩):=fun o=>by
  have e:=Below.heap_alloc w o X (L.block_lt nm0);rw[World.cell?_of_block (a:=⟨X,init.length*2,none⟩) e];exact nm0
 obtain⟨d0,d1⟩:=PQ.cells hli;have hal:Bl wq (wq.alloc (.cells #[.bool r.start,.bool r.fin,.slice bo r.before.length bc,.slice so r.source.length sc,.slice ao r.after.length ac,.slice ta r.target.length tc,.int .i64 r.cursor] 79)).drew:=((qR wq).alloc qN _).drew;have PA:=PQ.below hal;have hnew:(wq.alloc (.cells #[.bool r.start,.bool r.fin,.slice bo r.before.length bc,.slice so r.source.length sc,.slice ao r.after.length ac,.slice ta r.target.length tc,.int .i64 r.cursor] 79)).drew.heap[wq.heap.size]?=some (.cells #[.bool r.start,.bool r.fin,.slice bo r.before.length bc,.slice so r.source.length sc,.slice ao r.after.length ac,.slice ta r.target.length tc,.int .i64 r.cursor] 79):=heap_alloc_new wq _;obtain⟨rv',W1,hrun,⟨g',c',hrv'⟩,e1,f1,gr1,tops',PF,hBF,hMF⟩:=PA.put hli r [.bool r.start,.bool r.fin,.slice bo r.before.length bc,.slice so r.source.length sc,.slice ao r.after.length ac,.slice ta r.target.length tc,.int .i64 r.cursor] ⟨rfl,fun u hu=>by simp at hu;rcases hu with rfl|rfl|rfl|rfl|rfl|rfl|rfl <;> rfl⟩ (LQ.step hal.size (fun b hb _=>hal.block b hb) fun k hk=> .inl hk) wq.heap.size (fun q u hq=>K.zad hnew (by simpa using hq)) (Nat.le_trans hFq hal.size) hrl;obtain⟨⟨y0,y1,y2,y3,y4,y5,y6⟩,_⟩:=V.cells7 hbox;have HF:Hid (V.PS F tops' (W1.setCell ⟨X,init.length*2+1,none⟩ rv') (.slice (some ⟨X,0,none⟩) (init.length+1) cap) (init++ [⟨p.name,p.rules++ [r]⟩]) (rvi++ [rv'])/\Below F w (W1.setCell ⟨X,init.length*2+1,none⟩ rv')/\V.Moves tops w tops' (W1.setCell ⟨X,init.length*2+1,none⟩ rv')):=⟨PF,(hBq.trans (hal.mono hFq)).trans hBF,(hMq.trans (V.Moves.of_below hal)).trans hMF⟩;subst hrv';have lbq:=(qA.1 hbox).1;have lbX:=L.block_lt d1;have hj0:(0:Int)<=init.length:=by omega
 have hj1:(init.length:Int)<init.length+1:=by omega
 have hjw:IntKind.i64.wrap ((init.length:Int)+1-1)=init.length:=by rw[IntKind.wrap_i64];omega
 clear PQ PA hal hnew LQ PF hBF hMF hMq hbox d0 gr1;clear h hL nm0 hb0
 go_enter func57,ntmps57
 go_wp2;rw[<- hwq]
 clear hwq;have HR:=qH hrun;clear hrun
 go_region_law (refine V.za7 (by rfl) (.tmp 32) (.tmp 34) (by rfl) _ _ _ W1 (by rfl) (by rfl) HR.out ?_)
 all_goals
  go_wp2;go_ret
  exact⟨rfl,⟨tops',_,HF.out.1,HF.out.2.2⟩,HF.out.2.1⟩
theorem zm1 (F:Nat)(w:World)(tops:List Nat)(ps:List V.Pass)(rvs:List Value)(ini:List V.Pass)(pl:V.Pass)(rvl:List Value)(rl:Value)(Y cq:Nat)(hps:ps=ini++ [pl])(hrvs:rvs=rvl++ [rl])(hlr:rvl.length=ini.length)(hnm:¬pl.name.size=0)(h:V.PS F tops w (.slice (some ⟨Y,0,none⟩) (ini.length+1) cq) ps rvs)(r:K.Rule)(bo:Option Addr)(bc:Nat)(so:Option Addr)(sc:Nat)(ao:Option Addr)(ac:Nat)(ta:Option Addr)(tc:Nat)(hL:V.Leaf tops w fun W=>K.RuIs W (.agg #[.bool r.start,.bool r.fin,.slice bo r.before.length bc,.slice so r.source.length sc,.slice ao r.after.length ac,.slice ta r.target.length tc,.int .i64 r.cursor]) r)(hF:F<=w.heap.size)(hil:ps.length<=1000) :
  Calls prog 57 #[.slice (some ⟨Y,0,none⟩) (ini.length+1) cq,.agg #[.bool r.start,.bool r.fin,.slice bo r.before.length bc,.slice so r.source.length sc,.slice ao r.after.length ac,.slice ta r.target.length tc,.int .i64 r.cursor]] w fun e w'=>(∃vp' tops' rvs',e=.returned vp'/\V.PS F tops' w' vp' (ps++ [⟨⟨#[]⟩,[r]⟩]) rvs'/\V.Moves tops w tops' w')/\Below F w w':=by
 have hY:w.cell? ⟨Y,ini.length*2,none⟩=some (.string pl.name):=by
  have h':=h;rw[hps,hrvs] at h';exact(h'.cells hlr).1
 have dn:∀o,(w.alloc o).cell? ⟨Y,ini.length*2,none⟩=some (.string pl.name):=fun o=>by
  have e:=Below.heap_alloc w o Y (L.block_lt hY);rw[World.cell?_of_block (a:=⟨Y,ini.length*2,none⟩) e];exact hY
 have hem:pl.name.toList.isEmpty=false:=by
  rw[ByteArray.toList_eq];cases e:pl.name.data.toList with
  | nil=>exact absurd (show pl.name.data.size=0 by rw[<- Array.length_toList,e];rfl) hnm
  | cons _ _=>rfl
 have hil2:ini.length<=1000:=by rw[hps] at hil;simp at hil;omega
 have hk0:(0:Int)<=ini.length:=by omega
 have hk1:(ini.length:Int)<ini.length+1:=by omega
 have hkw:IntKind.i64.wrap ((ini.length:Int)+1-1)=ini.length:=by rw[IntKind.wrap_i64];omega
 have hne0:¬(ini.length:Int)+1=0:=by omega
 obtain⟨w1,hw1⟩:=qE (w.alloc (.cells #[.bool r.start,.bool r.fin,.slice bo r.before.length bc,.slice so r.source.length sc,.slice ao r.after.length ac,.slice ta r.target.length tc,.int .i64 r.cursor] 79));have hb1:Bl w w1:=by rw[hw1];exact(qR w).alloc qN _
 have hbox1:w1.heap[w.heap.size]?=some (.cells #[.bool r.start,.bool r.fin,.slice bo r.before.length bc,.slice so r.source.length sc,.slice ao r.after.length ac,.slice ta r.target.length tc,.int .i64 r.cursor] 79):=by rw[hw1];exact heap_alloc_new w _
 have hs1:w1.heap.size=w.heap.size+1:=by rw[hw1];simp
 obtain⟨w2,hw2⟩:=qE ((w.alloc (.cells #[.bool r.start,.bool r.fin,.slice bo r.before.length bc,.slice so r.source.length sc,.slice ao r.after.length ac,.slice ta r.target.length tc,.int .i64 r.cursor] 79)).alloc (.cells #[.string ⟨#[]⟩,.slice none 0 0] 74));have hw2':w2=w1.alloc (.cells #[.string ⟨#[]⟩,.slice none 0 0] 74):=by rw[hw2,hw1]
 have hb2:Bl w1 w2:=by rw[hw2'];exact(qR w1).alloc qN _
 have hnp:w2.heap[w1.heap.size]?=some (.cells #[.string ⟨#[]⟩,.slice none 0 0] 74):=by rw[hw2'];exact heap_alloc_new w1 _
 have P2:=(h.below hb1).below hb2;have hF2:=Nat.le_trans hF (Nat.le_trans hb1.size hb2.size);obtain⟨vp',wq,hrunP,ownP,grP,hvP⟩:=R.zfh V.elemP w2 0 F (.slice (some ⟨Y,0,none⟩) (ini.length+1) cq) ps.length (V.pcells ps rvs) P2.own ⟨w1.heap.size,0,none⟩ 1 1 [.string ⟨#[]⟩,.slice none 0 0] rfl (fun q u hq=>by rw[L.addr_add,Nat.zero_add];exact K.zad hnp (by simpa using hq)) (fun u hu=>by simp at hu;rcases hu with rfl|rfl <;> rfl) (by omega) hF2;obtain⟨tq,PQ,hmq⟩:=P2.more ⟨#[]⟩ (Nat.zero_le _) ownP grP hvP;have hkq:∀b,b<w2.heap.size->b∉tops->wq.heap[b]?=w2.heap[b]?:=fun b hb hn=>grP.block b hb fun e=>hn (P2.top b (.inl e.symm))
 have hw2s:w2.heap.size=w.heap.size+2:=by rw[hw2'];simp;omega
 have LQ:V.Leaf tq wq fun W=>K.RuIs W (.agg #[.bool r.start,.bool r.fin,.slice bo r.before.length bc,.slice so r.source.length sc,.slice ao r.after.length ac,.slice ta r.target.length tc,.int .i64 r.cursor]) r:=by
  have l2:=hL.step (tops':=tops) (w':=w2) (Nat.le_trans hb1.size hb2.size) (fun b hb _=>(hb2.block b (by omega)).trans (hb1.block b hb)) fun k hk=> .inl hk
  exact l2.moves hmq
 have hntop:w.heap.size∉tops:=fun hm=>by have:=h.lt _ hm;omega
 have hbox:=(hkq _ (by omega) hntop).trans ((hb2.block _ (by omega)).trans hbox1);have hFq:=Nat.le_trans hF2 grP.size;have hMq:=((V.Moves.of_below hb1).trans (V.Moves.of_below hb2)).trans hmq;have hBq:=((hb1.mono hF).trans (hb2.mono (by omega))).grown grP hF2 fun k hk=>(P2.own.lt k hk).1
 obtain⟨X,cap,hvp'⟩:=PQ.slice (by simp);rw[List.length_append] at hvp';have hvp2:vp'=.slice (some ⟨X,0,none⟩) (ps.length+1) cap:=hvp';subst hvp2
 have HRP:Hid (∀ty,(Builtin.append_ #[28,28] ty #[.slice (some ⟨Y,0,none⟩) (ini.length+1) cq,.slice (some ⟨w.heap.size+1,0,none⟩) 1 1]).run prog ((w.alloc (.cells #[.bool r.start,.bool r.fin,.slice bo r.before.length bc,.slice so r.source.length sc,.slice ao r.after.length ac,.slice ta r.target.length tc,.int .i64 r.cursor] 79)).alloc (.cells #[.string ⟨#[]⟩,.slice none 0 0] 74))=.ok (.slice (some ⟨X,0,none⟩) (ps.length+1) cap) wq):=by
  rw[<- hs1,<- hw2];exact fun ty=>hrunP
 obtain⟨init,hinit⟩:=qE ps;obtain⟨rvi,hrvi⟩:=qE rvs;obtain⟨rv,hrv⟩:∃rv:Value,rv=.slice none 0 0:=⟨_,rfl⟩;obtain⟨p,hp⟩:∃p:V.Pass,p=⟨⟨#[]⟩,[]⟩:=⟨_,rfl⟩;have hrl:p.rules.length<=1000:=by rw[hp];simp
 have HFin:Hid (init++ [⟨p.name,p.rules++ [r]⟩]=ps++ [⟨⟨#[]⟩,[r]⟩]):=by show _=_;rw[hinit,hp];rfl
 have hli:rvi.length=init.length:=by rw[hrvi,hinit];exact h.len
 have hil':init.length<=1000:=by rw[hinit];exact hil
 rw[<- hrv,<- hp,<- hinit,<- hrvi] at PQ;rw[<- hinit] at HRP;obtain⟨d0,d1⟩:=PQ.cells hli;have hal:Bl wq (wq.alloc (.cells #[.bool r.start,.bool r.fin,.slice bo r.before.length bc,.slice so r.source.length sc,.slice ao r.after.length ac,.slice ta r.target.length tc,.int .i64 r.cursor] 79)).drew:=((qR wq).alloc qN _).drew;have PA:=PQ.below hal;have hnew:(wq.alloc (.cells #[.bool r.start,.bool r.fin,.slice bo r.before.length bc,.slice so r.source.length sc,.slice ao r.after.length ac,.slice ta r.target.length tc,.int .i64 r.cursor] 79)).drew.heap[wq.heap.size]?=some (.cells #[.bool r.start,.bool r.fin,.slice bo r.before.length bc,.slice so r.source.length sc,.slice ao r.after.length ac,.slice ta r.target.length tc,.int .i64 r.cursor] 79):=heap_alloc_new wq _;obtain⟨rv',W1,hrun,⟨g',c',hrv'⟩,e1,f1,gr1,tops',PF,hBF,hMF⟩:=PA.put hli r [.bool r.start,.bool r.fin,.slice bo r.before.length bc,.slice so r.source.length sc,.slice ao r.after.length ac,.slice ta r.target.length tc,.int .i64 r.cursor] ⟨rfl,fun u hu=>by simp at hu;rcases hu with rfl|rfl|rfl|rfl|rfl|rfl|rfl <;> rfl⟩ (LQ.step hal.size (fun b hb _=>hal.block b hb) fun k hk=> .inl hk) wq.heap.size (fun q u hq=>K.zad hnew (by simpa using hq)) (Nat.le_trans hFq hal.size) hrl;obtain⟨⟨y0,y1,y2,y3,y4,y5,y6⟩,_⟩:=V.cells7 hbox;have HF:Hid (V.PS F tops' (W1.setCell ⟨X,init.length*2+1,none⟩ rv') (.slice (some ⟨X,0,none⟩) (init.length+1) cap) (init++ [⟨p.name,p.rules++ [r]⟩]) (rvi++ [rv'])/\Below F w (W1.setCell ⟨X,init.length*2+1,none⟩ rv')/\V.Moves tops w tops' (W1.setCell ⟨X,init.length*2+1,none⟩ rv')):=⟨PF,(hBq.trans (hal.mono hFq)).trans hBF,(hMq.trans (V.Moves.of_below hal)).trans hMF⟩;subst hrv';have lbq:=(qA.1 hbox).1;have lbX:=L.block_lt d1;have hj0:(0:Int)<=init.length:=by omega
 have hj1:(init.length:Int)<init.length+1:=by omega
 have hjw:IntKind.i64.wrap ((init.length:Int)+1-1)=init.length:=by rw[IntKind.wrap_i64];omega
 clear PQ PA hal hnew LQ PF hBF hMF hMq hbox d0 gr1;clear hY hps hrvs hnm h hL hb1 hbox1 hb2 hnp P2 ownP grP hvP hkq hntop hmq hvp' hrunP hw2' hw2 hw1;rw[<- hinit] at hil;clear hp hrv hinit hrvi;have HR:=qH hrun;clear hrun hs1 hw2s
 go_enter func57,ntmps57
 go_wp2_with (at_builtin;first|refine Lib.wpList_append_run _ rfl _ _ _ _ rfl _ _ rfl rfl _ _ (HRP.out _) ?_)
 go_region_law (refine V.za7 (by rfl) (.tmp 32) (.tmp 34) (by rfl) _ _ _ W1 (by rfl) (by rfl) HR.out ?_)
 all_goals
  go_wp2;go_ret
  exact⟨⟨_,tops',_,rfl,HFin.out▸HF.out.1,HF.out.2.2⟩,HF.out.2.1⟩
theorem zm2 (F:Nat)(w:World)(tops:List Nat)(ps:List V.Pass)(rvs:List Value)(h:V.PS F tops w (.slice none 0 0) ps rvs)(r:K.Rule)(bo:Option Addr)(bc:Nat)(so:Option Addr)(sc:Nat)(ao:Option Addr)(ac:Nat)(ta:Option Addr)(tc:Nat)(hL:V.Leaf tops w fun W=>K.RuIs W (.agg #[.bool r.start,.bool r.fin,.slice bo r.before.length bc,.slice so r.source.length sc,.slice ao r.after.length ac,.slice ta r.target.length tc,.int .i64 r.cursor]) r)(hF:F<=w.heap.size)(hil:ps.length<=1000) :
  Calls prog 57 #[.slice none 0 0,.agg #[.bool r.start,.bool r.fin,.slice bo r.before.length bc,.slice so r.source.length sc,.slice ao r.after.length ac,.slice ta r.target.length tc,.int .i64 r.cursor]] w fun e w'=>(∃vp' tops' rvs',e=.returned vp'/\V.PS F tops' w' vp' (ps++ [⟨⟨#[]⟩,[r]⟩]) rvs'/\V.Moves tops w tops' w')/\Below F w w':=by
 obtain⟨w1,hw1⟩:=qE (w.alloc (.cells #[.bool r.start,.bool r.fin,.slice bo r.before.length bc,.slice so r.source.length sc,.slice ao r.after.length ac,.slice ta r.target.length tc,.int .i64 r.cursor] 79));have hb1:Bl w w1:=by rw[hw1];exact(qR w).alloc qN _
 have hbox1:w1.heap[w.heap.size]?=some (.cells #[.bool r.start,.bool r.fin,.slice bo r.before.length bc,.slice so r.source.length sc,.slice ao r.after.length ac,.slice ta r.target.length tc,.int .i64 r.cursor] 79):=by rw[hw1];exact heap_alloc_new w _
 have hs1:w1.heap.size=w.heap.size+1:=by rw[hw1];simp
 obtain⟨w2,hw2⟩:=qE ((w.alloc (.cells #[.bool r.start,.bool r.fin,.slice bo r.before.length bc,.slice so r.source.length sc,.slice ao r.after.length ac,.slice ta r.target.length tc,.int .i64 r.cursor] 79)).alloc (.cells #[.string ⟨#[]⟩,.slice none 0 0] 74));have hw2':w2=w1.alloc (.cells #[.string ⟨#[]⟩,.slice none 0 0] 74):=by rw[hw2,hw1]
 have hb2:Bl w1 w2:=by rw[hw2'];exact(qR w1).alloc qN _
 have hnp:w2.heap[w1.heap.size]?=some (.cells #[.string ⟨#[]⟩,.slice none 0 0] 74):=by rw[hw2'];exact heap_alloc_new w1 _
 have P2:=(h.below hb1).below hb2;have hF2:=Nat.le_trans hF (Nat.le_trans hb1.size hb2.size);obtain⟨vp',wq,hrunP,ownP,grP,hvP⟩:=R.zfh V.elemP w2 0 F (.slice none 0 0) ps.length (V.pcells ps rvs) P2.own ⟨w1.heap.size,0,none⟩ 1 1 [.string ⟨#[]⟩,.slice none 0 0] rfl (fun q u hq=>by rw[L.addr_add,Nat.zero_add];exact K.zad hnp (by simpa using hq)) (fun u hu=>by simp at hu;rcases hu with rfl|rfl <;> rfl) (by omega) hF2;obtain⟨tq,PQ,hmq⟩:=P2.more ⟨#[]⟩ (Nat.zero_le _) ownP grP hvP;have hkq:∀b,b<w2.heap.size->b∉tops->wq.heap[b]?=w2.heap[b]?:=fun b hb hn=>grP.block b hb fun e=>hn (P2.top b (.inl e.symm))
 have hw2s:w2.heap.size=w.heap.size+2:=by rw[hw2'];simp;omega
 have LQ:V.Leaf tq wq fun W=>K.RuIs W (.agg #[.bool r.start,.bool r.fin,.slice bo r.before.length bc,.slice so r.source.length sc,.slice ao r.after.length ac,.slice ta r.target.length tc,.int .i64 r.cursor]) r:=by
  have l2:=hL.step (tops':=tops) (w':=w2) (Nat.le_trans hb1.size hb2.size) (fun b hb _=>(hb2.block b (by omega)).trans (hb1.block b hb)) fun k hk=> .inl hk
  exact l2.moves hmq
 have hntop:w.heap.size∉tops:=fun hm=>by have:=h.lt _ hm;omega
 have hbox:=(hkq _ (by omega) hntop).trans ((hb2.block _ (by omega)).trans hbox1);have hFq:=Nat.le_trans hF2 grP.size;have hMq:=((V.Moves.of_below hb1).trans (V.Moves.of_below hb2)).trans hmq;have hBq:=((hb1.mono hF).trans (hb2.mono (by omega))).grown grP hF2 fun k hk=>(P2.own.lt k hk).1
 obtain⟨X,cap,hvp'⟩:=PQ.slice (by simp);rw[List.length_append] at hvp';have hvp2:vp'=.slice (some ⟨X,0,none⟩) (ps.length+1) cap:=hvp';subst hvp2
 have HRP:Hid (∀ty,(Builtin.append_ #[28,28] ty #[.slice none 0 0,.slice (some ⟨w.heap.size+1,0,none⟩) 1 1]).run prog ((w.alloc (.cells #[.bool r.start,.bool r.fin,.slice bo r.before.length bc,.slice so r.source.length sc,.slice ao r.after.length ac,.slice ta r.target.length tc,.int .i64 r.cursor] 79)).alloc (.cells #[.string ⟨#[]⟩,.slice none 0 0] 74))=.ok (.slice (some ⟨X,0,none⟩) (ps.length+1) cap) wq):=by
  rw[<- hs1,<- hw2];exact fun ty=>hrunP
 obtain⟨init,hinit⟩:=qE ps;obtain⟨rvi,hrvi⟩:=qE rvs;obtain⟨rv,hrv⟩:∃rv:Value,rv=.slice none 0 0:=⟨_,rfl⟩;obtain⟨p,hp⟩:∃p:V.Pass,p=⟨⟨#[]⟩,[]⟩:=⟨_,rfl⟩;have hrl:p.rules.length<=1000:=by rw[hp];simp
 have HFin:Hid (init++ [⟨p.name,p.rules++ [r]⟩]=ps++ [⟨⟨#[]⟩,[r]⟩]):=by show _=_;rw[hinit,hp];rfl
 have hli:rvi.length=init.length:=by rw[hrvi,hinit];exact h.len
 have hil':init.length<=1000:=by rw[hinit];exact hil
 rw[<- hrv,<- hp,<- hinit,<- hrvi] at PQ;rw[<- hinit] at HRP;obtain⟨d0,d1⟩:=PQ.cells hli;have hal:Bl wq (wq.alloc (.cells #[.bool r.start,.bool r.fin,.slice bo r.before.length bc,.slice so r.source.length sc,.slice ao r.after.length ac,.slice ta r.target.length tc,.int .i64 r.cursor] 79)).drew:=((qR wq).alloc qN _).drew;have PA:=PQ.below hal;have hnew:(wq.alloc (.cells #[.bool r.start,.bool r.fin,.slice bo r.before.length bc,.slice so r.source.length sc,.slice ao r.after.length ac,.slice ta r.target.length tc,.int .i64 r.cursor] 79)).drew.heap[wq.heap.size]?=some (.cells #[.bool r.start,.bool r.fin,.slice bo r.before.length bc,.slice so r.source.length sc,.slice ao r.after.length ac,.slice ta r.target.length tc,.int .i64 r.cursor] 79):=heap_alloc_new wq _;obtain⟨rv',W1,hrun,⟨g',c',hrv'⟩,e1,f1,gr1,tops',PF,hBF,hMF⟩:=PA.put hli r [.bool r.start,.bool r.fin,.slice bo r.before.length bc,.slice so r.source.length sc,.slice ao r.after.length ac,.slice ta r.target.length tc,.int .i64 r.cursor] ⟨rfl,fun u hu=>by simp at hu;rcases hu with rfl|rfl|rfl|rfl|rfl|rfl|rfl <;> rfl⟩ (LQ.step hal.size (fun b hb _=>hal.block b hb) fun k hk=> .inl hk) wq.heap.size (fun q u hq=>K.zad hnew (by simpa using hq)) (Nat.le_trans hFq hal.size) hrl;obtain⟨⟨y0,y1,y2,y3,y4,y5,y6⟩,_⟩:=V.cells7 hbox;have HF:Hid (V.PS F tops' (W1.setCell ⟨X,init.length*2+1,none⟩ rv') (.slice (some ⟨X,0,none⟩) (init.length+1) cap) (init++ [⟨p.name,p.rules++ [r]⟩]) (rvi++ [rv'])/\Below F w (W1.setCell ⟨X,init.length*2+1,none⟩ rv')/\V.Moves tops w tops' (W1.setCell ⟨X,init.length*2+1,none⟩ rv')):=⟨PF,(hBq.trans (hal.mono hFq)).trans hBF,(hMq.trans (V.Moves.of_below hal)).trans hMF⟩;subst hrv';have lbq:=(qA.1 hbox).1;have lbX:=L.block_lt d1;have hj0:(0:Int)<=init.length:=by omega
 have hj1:(init.length:Int)<init.length+1:=by omega
 have hjw:IntKind.i64.wrap ((init.length:Int)+1-1)=init.length:=by rw[IntKind.wrap_i64];omega
 clear PQ PA hal hnew LQ PF hBF hMF hMq hbox d0 gr1;clear h hL hb1 hbox1 hb2 hnp P2 ownP grP hvP hkq hntop hmq hvp' hrunP hw2' hw2 hw1;rw[<- hinit] at hil;clear hp hrv hinit hrvi;have HR:=qH hrun;clear hrun hs1 hw2s
 go_enter func57,ntmps57
 go_wp2_with (at_builtin;first|refine Lib.wpList_append_run _ rfl _ _ _ _ rfl _ _ rfl rfl _ _ (HRP.out _) ?_)
 go_region_law (refine V.za7 (by rfl) (.tmp 32) (.tmp 34) (by rfl) _ _ _ W1 (by rfl) (by rfl) HR.out ?_)
 all_goals
  go_wp2;go_ret
  exact⟨⟨_,tops',_,rfl,HFin.out▸HF.out.1,HF.out.2.2⟩,HF.out.2.1⟩
theorem V.zir (init:List V.Pass)(p:V.Pass)(r:K.Rule):V.putP (init++ [p]) r=if p.name.size=0 then init++ [⟨p.name,p.rules++ [r]⟩] else init++ [p]++ [⟨⟨#[]⟩,[r]⟩]:=by
 unfold V.putP;rw[List.getLast?_concat];simp only[List.dropLast_concat]
theorem zt5 (F:Nat)(w:World)(tops:List Nat)(vp:Value)(ps:List V.Pass)(rvs:List Value)(h:V.PS F tops w vp ps rvs)(h0:ps= []->vp=.slice none 0 0)(r:K.Rule)(bo:Option Addr)(bc:Nat)(so:Option Addr)(sc:Nat)(ao:Option Addr)(ac:Nat)(ta:Option Addr)(tc:Nat)(hL:V.Leaf tops w fun W=>K.RuIs W (.agg #[.bool r.start,.bool r.fin,.slice bo r.before.length bc,.slice so r.source.length sc,.slice ao r.after.length ac,.slice ta r.target.length tc,.int .i64 r.cursor]) r)(hF:F<=w.heap.size)(hil:ps.length<=1000)(hrl:∀p∈ps,p.rules.length<=1000) :
  Calls prog 57 #[vp,.agg #[.bool r.start,.bool r.fin,.slice bo r.before.length bc,.slice so r.source.length sc,.slice ao r.after.length ac,.slice ta r.target.length tc,.int .i64 r.cursor]] w fun e w'=>(∃vp' tops' rvs',e=.returned vp'/\V.PS F tops' w' vp' (V.putP ps r) rvs'/\V.Moves tops w tops' w')/\Below F w w':=by
 by_cases hps:ps= []
 ·have hvp:=h0 hps;subst hvp;refine(zm2 F w tops ps rvs h r bo bc so sc ao ac ta tc hL hF hil).mono fun e w' ⟨⟨vp',tops',rvs',he,hp,hm⟩,hb⟩=>⟨⟨vp',tops',rvs',he,?_,hm⟩,hb⟩
  rw[hps] at hp ⊢;exact hp
 ·have hpos:0<ps.length:=by cases ps with|nil=>exact absurd rfl hps|cons _ _=>simp
  obtain⟨init,p,rvi,rv,hp,hrv,hli⟩:=h.snoc hpos;obtain⟨X,cap,hvp⟩:=h.slice hpos;have hlen:ps.length=init.length+1:=by rw[hp];simp
  rw[hlen] at hvp;subst hvp
  by_cases hnm:p.name.size=0
  ·have hnm':p.name=⟨#[]⟩:=by
    have:p.name.data=#[]:=Array.size_eq_zero_iff.1 hnm;cases hq:p.name with
    | mk d=>rw[hq] at this;exact congrArg ByteArray.mk this
   have h':=h;rw[hp,hrv] at h';refine(zpi F w tops init p rvi rv X cap h' hli hnm' r bo bc so sc ao ac ta tc hL hF (hrl p (by rw[hp];simp)) (by omega)).mono fun e w' ⟨he,⟨tops',rv',hps',hm⟩,hb⟩=>⟨⟨_,tops',rvi++ [rv'],he,?_,hm⟩,hb⟩
   rw[hp,V.zir,if_pos hnm];exact hps'
  ·refine(zm1 F w tops ps rvs init p rvi rv X cap hp hrv hli hnm h r bo bc so sc ao ac ta tc hL hF hil).mono fun e w' ⟨⟨vp',tops',rvs',he,hq,hm⟩,hb⟩=>⟨⟨vp',tops',rvs',he,?_,hm⟩,hb⟩
   rw[hp,V.zir,if_neg hnm];rw[hp] at hq;exact hq
theorem zrv (w:World)(va vb:Value)(a b:R.Side)(bm:Nat)(g:ByteArray->List S.Sp)(HV:V.Vars w bm g)(RA:R.SdIs w va a)(RB:R.SdIs w vb b)(ha:V.Right a.before/\V.Right a.source/\V.Right a.after)(hb:V.Right b.source)(hfit:∀x,(x∈a.before∨x∈a.source∨x∈a.after)->S.Fit (V.setOf g x)) :
    Calls prog 58 #[va,vb,.func (.func 91) #[] #[.pointer (some ⟨bm,0,none⟩)]] w fun e w'=>∃bo bc so sc ao ac ta tc,e=.returned (.agg #[.bool a.start,.bool a.fin,.slice bo a.before.length bc,.slice so a.source.length sc,.slice ao a.after.length ac,.slice ta b.source.length tc,.int .i64 (V.ruleOf g a b).cursor]) /\
      R.Stays w.heap.size none w' (fun W=>K.RuIs W (.agg #[.bool a.start,.bool a.fin,.slice bo a.before.length bc,.slice so a.source.length sc,.slice ao a.after.length ac,.slice ta b.source.length tc,.int .i64 (V.ruleOf g a b).cursor]) (V.ruleOf g a b))/\Bl w w':=by
  obtain⟨pbo,pbc,pso,psc,pao,pac,rfl,A1,A2,A3,hcuA⟩:=RA;obtain⟨qbo,qbc,qso,qsc,qao,qac,rfl,B1,B2,B3,hcuB⟩:=RB
  have HC:Hid (∀X,Bl w X->∀(xo:Option Addr) (xc:Nat) (x:List R.Item),R.Its w (.slice xo x.length xc) x->V.Right x->(∀y∈x,S.Fit (V.setOf g y))->Calls prog 92 #[.slice xo x.length xc,.func (.func 91) #[] #[.pointer (some ⟨bm,0,none⟩)]] X fun e w'=>∃yo yc,e=.returned (.slice yo x.length yc)/\V.Mn X.heap.size w'.heap.size w' (fun W=>K.Ss W (.slice yo x.length yc) (x.map (V.setOf g)))/\Bl X w'):=fun X hX xo xc x hx hr hf=>by
    refine(zqp X _ x bm g (HV.below hX) (hx.below hX) (by have:=hr.1;omega) (V.zpb hr)).mono fun e w' ⟨v',he,hrow,hb'⟩=> ?_
    obtain⟨yo,yc,hv,hm⟩:=V.zu6 hrow (fun s hs=>by obtain⟨y,hy,rfl⟩:=List.mem_map.1 hs;exact hf y hy) (by rw[List.length_map];have:=hr.1;omega);rw[List.length_map] at hv;subst hv;exact⟨yo,yc,he,⟨hb'.size,hm⟩,hb'⟩
  have HT:Hid (∀X,Bl w X->Calls prog 93 #[.slice qso b.source.length qsc,.func (.func 94) #[] #[]] X fun e w'=>∃yo yc,e=.returned (.slice yo b.source.length yc)/\V.Mn X.heap.size w'.heap.size w' (fun W=>L.Rd W (.slice yo b.source.length yc) .i32 (b.source.map (·.rune)))/\Bl X w'):=fun X hX=>by
    refine(zqq X _ b.source (B2.below hX) (by have:=hb.1;omega)).mono fun e w' ⟨v',he,hown,hb'⟩=> ?_
    have hown2:w'.ownsRow X.heap.size 21 1 v' (b.source.map (·.rune)).length ((b.source.map (·.rune)).map (Value.int .i32)):=by rw[List.length_map,List.map_map];exact hown
    obtain⟨yo,yc,hv,_⟩:=L.Rd.zax hown2;rw[List.length_map] at hv;subst hv;refine⟨yo,yc,he,⟨hb'.size,fun W' hW=> ?_⟩,hb'⟩
    have h3:W'.ownsRow X.heap.size 21 1 (.slice yo b.source.length yc) (b.source.map (·.rune)).length ((b.source.map (·.rune)).map (Value.int .i32)):=by
      refine⟨hown2.1,?_⟩;rcases hown2.2 with h|⟨gg,cap,cur,hv,hB,hg,rr⟩
      · exact .inl h
      · exact .inr ⟨gg,cap,cur,hv,hB,by rw[hW gg hB (qA.1 hg).1];exact hg,rr⟩
    exact L.Rd.zax h3
  have HR:Hid (R.Its w (.slice pbo a.before.length pbc) a.before/\R.Its w (.slice pso a.source.length psc) a.source/\R.Its w (.slice pao a.after.length pac) a.after):=⟨A1,A2,A3⟩;have HF:=qH hfit;have HRi:Hid ((V.Right a.before/\V.Right a.source/\V.Right a.after)/\V.Right b.source):=⟨ha,hb⟩;have HC1:=qH<|fun X hX=>HC.out X hX _ _ _ A1 ha.1 fun y hy=>hfit y (.inl hy)
  have HC2:=qH<|fun X hX=>HC.out X hX _ _ _ A2 ha.2.1 fun y hy=>hfit y (.inr (.inl hy))
  have HC3:=qH<|fun X hX=>HC.out X hX _ _ _ A3 ha.2.2 fun y hy=>hfit y (.inr (.inr hy))
  clear HC hfit A1 A2 A3 B1 B2 B3 HV ha hb HR HF;obtain⟨ast,afi,abe,aso,aaf,acu⟩:=a;obtain⟨bst,bfi,bbe,bso,baf,bcu⟩:=b;simp only at *;obtain⟨W0,hW0⟩:=qE (((w.alloc (.cells #[.bool ast,.bool afi,.slice pbo abe.length pbc,.slice pso aso.length psc,.slice pao aaf.length pac,.int .i64 acu] 102)).alloc (.cells #[.bool bst,.bool bfi,.slice qbo bbe.length qbc,.slice qso bso.length qsc,.slice qao baf.length qac,.int .i64 bcu] 102)).alloc (.cells #[.bool false,.bool false,.slice none 0 0,.slice none 0 0,.slice none 0 0,.slice none 0 0,.int .i64 0] 79));have hB0:Bl w W0:=by rw[hW0];exact(((qR w).alloc qN _).alloc (by simp) _).alloc (by simp;omega) _
  have hs0:W0.heap.size=w.heap.size+3:=by rw[hW0];simp
  have hh3:W0.heap[w.heap.size]?=some (.cells #[.bool ast,.bool afi,.slice pbo abe.length pbc,.slice pso aso.length psc,.slice pao aaf.length pac,.int .i64 acu] 102):=by
    rw[hW0,Below.heap_alloc _ _ _ (by simp;omega),Below.heap_alloc _ _ _ (by simp)];exact heap_alloc_new w _
  have hh4:W0.heap[w.heap.size+1]?=some (.cells #[.bool bst,.bool bfi,.slice qbo bbe.length qbc,.slice qso bso.length qsc,.slice qao baf.length qac,.int .i64 bcu] 102):=by
    rw[hW0,Below.heap_alloc _ _ _ (by simp)];have h:=heap_alloc_new (w.alloc (.cells #[.bool ast,.bool afi,.slice pbo abe.length pbc,.slice pso aso.length psc,.slice pao aaf.length pac,.int .i64 acu] 102)) (.cells #[.bool bst,.bool bfi,.slice qbo bbe.length qbc,.slice qso bso.length qsc,.slice qao baf.length qac,.int .i64 bcu] 102);rw[show (w.alloc (.cells #[.bool ast,.bool afi,.slice pbo abe.length pbc,.slice pso aso.length psc,.slice pao aaf.length pac,.int .i64 acu] 102)).heap.size=w.heap.size+1 by simp] at h;exact h
  have hh6:W0.heap[w.heap.size+2]?=some (.cells #[.bool false,.bool false,.slice none 0 0,.slice none 0 0,.slice none 0 0,.slice none 0 0,.int .i64 0] 79):=by
    rw[hW0];have h:=heap_alloc_new ((w.alloc (.cells #[.bool ast,.bool afi,.slice pbo abe.length pbc,.slice pso aso.length psc,.slice pao aaf.length pac,.int .i64 acu] 102)).alloc (.cells #[.bool bst,.bool bfi,.slice qbo bbe.length qbc,.slice qso bso.length qsc,.slice qao baf.length qac,.int .i64 bcu] 102)) (.cells #[.bool false,.bool false,.slice none 0 0,.slice none 0 0,.slice none 0 0,.slice none 0 0,.int .i64 0] 79);rw[show ((w.alloc (.cells #[.bool ast,.bool afi,.slice pbo abe.length pbc,.slice pso aso.length psc,.slice pao aaf.length pac,.int .i64 acu] 102)).alloc (.cells #[.bool bst,.bool bfi,.slice qbo bbe.length qbc,.slice qso bso.length qsc,.slice qao baf.length qac,.int .i64 bcu] 102)).heap.size=w.heap.size+2 by simp] at h;exact h
  have q0:=hB0.drew;have k0:Bl w W0.drew/\W0.drew.cell? ⟨w.heap.size,0,none⟩=some (.bool ast)/\W0.drew.cell? ⟨w.heap.size,1,none⟩=some (.bool afi)/\W0.drew.cell? ⟨w.heap.size,2,none⟩=some (.slice pbo abe.length pbc)/\W0.drew.cell? ⟨w.heap.size,3,none⟩=some (.slice pso aso.length psc)/\W0.drew.cell? ⟨w.heap.size,4,none⟩=some (.slice pao aaf.length pac)/\W0.drew.cell? ⟨w.heap.size+1,3,none⟩=some (.slice qso bso.length qsc)/\W0.drew.cell? ⟨w.heap.size+1,5,none⟩=some (.int .i64 bcu)/\W0.drew.heap[w.heap.size+2]?=some (.cells #[.bool false,.bool false,.slice none 0 0,.slice none 0 0,.slice none 0 0,.slice none 0 0,.int .i64 0] 79):=⟨q0,K.zad (w:=W0) hh3 rfl,K.zad (w:=W0) hh3 rfl,K.zad (w:=W0) hh3 rfl,K.zad (w:=W0) hh3 rfl,K.zad (w:=W0) hh3 rfl,K.zad (w:=W0) hh4 rfl,K.zad (w:=W0) hh4 rfl,hh6⟩;have HS0:=qH k0
  have SK:Hid (∀X Y:World,(Bl w X/\X.cell? ⟨w.heap.size,0,none⟩=some (.bool ast)/\X.cell? ⟨w.heap.size,1,none⟩=some (.bool afi)/\X.cell? ⟨w.heap.size,2,none⟩=some (.slice pbo abe.length pbc)/\X.cell? ⟨w.heap.size,3,none⟩=some (.slice pso aso.length psc)/\X.cell? ⟨w.heap.size,4,none⟩=some (.slice pao aaf.length pac)/\X.cell? ⟨w.heap.size+1,3,none⟩=some (.slice qso bso.length qsc)/\X.cell? ⟨w.heap.size+1,5,none⟩=some (.int .i64 bcu)/\X.heap[w.heap.size+2]?=some (.cells #[.bool false,.bool false,.slice none 0 0,.slice none 0 0,.slice none 0 0,.slice none 0 0,.int .i64 0] 79))->Bl X Y->(Bl w Y/\Y.cell? ⟨w.heap.size,0,none⟩=some (.bool ast)/\Y.cell? ⟨w.heap.size,1,none⟩=some (.bool afi)/\Y.cell? ⟨w.heap.size,2,none⟩=some (.slice pbo abe.length pbc)/\Y.cell? ⟨w.heap.size,3,none⟩=some (.slice pso aso.length psc)/\Y.cell? ⟨w.heap.size,4,none⟩=some (.slice pao aaf.length pac)/\Y.cell? ⟨w.heap.size+1,3,none⟩=some (.slice qso bso.length qsc)/\Y.cell? ⟨w.heap.size+1,5,none⟩=some (.int .i64 bcu)/\Y.heap[w.heap.size+2]?=some (.cells #[.bool false,.bool false,.slice none 0 0,.slice none 0 0,.slice none 0 0,.slice none 0 0,.int .i64 0] 79))):=fun X Y h z=>by
    obtain⟨h0,h1,h2,h3,h4,h5,h6,h7,h8⟩:=h;exact⟨V.goes h0 z,(z.cell (p:=⟨w.heap.size,0,none⟩) (L.block_lt h1)).trans h1,(z.cell (p:=⟨w.heap.size,1,none⟩) (L.block_lt h1)).trans h2,(z.cell (p:=⟨w.heap.size,2,none⟩) (L.block_lt h1)).trans h3,(z.cell (p:=⟨w.heap.size,3,none⟩) (L.block_lt h1)).trans h4,(z.cell (p:=⟨w.heap.size,4,none⟩) (L.block_lt h1)).trans h5,(z.cell (p:=⟨w.heap.size+1,3,none⟩) (L.block_lt h6)).trans h6,(z.cell (p:=⟨w.heap.size+1,5,none⟩) (L.block_lt h6)).trans h7,K.zae h8 z⟩
  have SA:=qH<|fun X o h=>SK.out X _ h ((qR X).alloc qN o)
  have SD:Hid (∀o:Obj,Bl w (W0.alloc o).drew/\(W0.alloc o).drew.cell? ⟨w.heap.size,0,none⟩=some (.bool ast)/\(W0.alloc o).drew.cell? ⟨w.heap.size,1,none⟩=some (.bool afi)/\(W0.alloc o).drew.cell? ⟨w.heap.size,2,none⟩=some (.slice pbo abe.length pbc)/\(W0.alloc o).drew.cell? ⟨w.heap.size,3,none⟩=some (.slice pso aso.length psc)/\(W0.alloc o).drew.cell? ⟨w.heap.size,4,none⟩=some (.slice pao aaf.length pac)/\(W0.alloc o).drew.cell? ⟨w.heap.size+1,3,none⟩=some (.slice qso bso.length qsc)/\(W0.alloc o).drew.cell? ⟨w.heap.size+1,5,none⟩=some (.int .i64 bcu)/\(W0.alloc o).drew.heap[w.heap.size+2]?=some (.cells #[.bool false,.bool false,.slice none 0 0,.slice none 0 0,.slice none 0 0,.slice none 0 0,.int .i64 0] 79)):=fun o=>SA.out W0.drew o HS0.out
  have qD:=fun o=>(SD.out o).1
  have HqD:=qH qD
  have S7:Hid (∀(X:World) (rb:Nat) (v0 v1 v2 v3 v4 v5 v6:Value),(Bl w X/\X.cell? ⟨w.heap.size,0,none⟩=some (.bool ast)/\X.cell? ⟨w.heap.size,1,none⟩=some (.bool afi)/\X.cell? ⟨w.heap.size,2,none⟩=some (.slice pbo abe.length pbc)/\X.cell? ⟨w.heap.size,3,none⟩=some (.slice pso aso.length psc)/\X.cell? ⟨w.heap.size,4,none⟩=some (.slice pao aaf.length pac)/\X.cell? ⟨w.heap.size+1,3,none⟩=some (.slice qso bso.length qsc)/\X.cell? ⟨w.heap.size+1,5,none⟩=some (.int .i64 bcu)/\X.heap[w.heap.size+2]?=some (.cells #[.bool false,.bool false,.slice none 0 0,.slice none 0 0,.slice none 0 0,.slice none 0 0,.int .i64 0] 79))->w.heap.size+3<=rb->(Bl w (((((((X.setCell ⟨rb,0,none⟩ v0).setCell ⟨rb,1,none⟩ v1).setCell ⟨rb,2,none⟩ v2).setCell ⟨rb,3,none⟩ v3).setCell ⟨rb,4,none⟩ v4).setCell ⟨rb,5,none⟩ v5).setCell ⟨rb,6,none⟩ v6)/\(((((((X.setCell ⟨rb,0,none⟩ v0).setCell ⟨rb,1,none⟩ v1).setCell ⟨rb,2,none⟩ v2).setCell ⟨rb,3,none⟩ v3).setCell ⟨rb,4,none⟩ v4).setCell ⟨rb,5,none⟩ v5).setCell ⟨rb,6,none⟩ v6).cell? ⟨w.heap.size,0,none⟩=some (.bool ast)/\(((((((X.setCell ⟨rb,0,none⟩ v0).setCell ⟨rb,1,none⟩ v1).setCell ⟨rb,2,none⟩ v2).setCell ⟨rb,3,none⟩ v3).setCell ⟨rb,4,none⟩ v4).setCell ⟨rb,5,none⟩ v5).setCell ⟨rb,6,none⟩ v6).cell? ⟨w.heap.size,1,none⟩=some (.bool afi)/\(((((((X.setCell ⟨rb,0,none⟩ v0).setCell ⟨rb,1,none⟩ v1).setCell ⟨rb,2,none⟩ v2).setCell ⟨rb,3,none⟩ v3).setCell ⟨rb,4,none⟩ v4).setCell ⟨rb,5,none⟩ v5).setCell ⟨rb,6,none⟩ v6).cell? ⟨w.heap.size,2,none⟩=some (.slice pbo abe.length pbc)/\(((((((X.setCell ⟨rb,0,none⟩ v0).setCell ⟨rb,1,none⟩ v1).setCell ⟨rb,2,none⟩ v2).setCell ⟨rb,3,none⟩ v3).setCell ⟨rb,4,none⟩ v4).setCell ⟨rb,5,none⟩ v5).setCell ⟨rb,6,none⟩ v6).cell? ⟨w.heap.size,3,none⟩=some (.slice pso aso.length psc)/\(((((((X.setCell ⟨rb,0,none⟩ v0).setCell ⟨rb,1,none⟩ v1).setCell ⟨rb,2,none⟩ v2).setCell ⟨rb,3,none⟩ v3).setCell ⟨rb,4,none⟩ v4).setCell ⟨rb,5,none⟩ v5).setCell ⟨rb,6,none⟩ v6).cell? ⟨w.heap.size,4,none⟩=some (.slice pao aaf.length pac)/\(((((((X.setCell ⟨rb,0,none⟩ v0).setCell ⟨rb,1,none⟩ v1).setCell ⟨rb,2,none⟩ v2).setCell ⟨rb,3,none⟩ v3).setCell ⟨rb,4,none⟩ v4).setCell ⟨rb,5,none⟩ v5).setCell ⟨rb,6,none⟩ v6).cell? ⟨w.heap.size+1,3,none⟩=some (.slice qso bso.length qsc)/\(((((((X.setCell ⟨rb,0,none⟩ v0).setCell ⟨rb,1,none⟩ v1).setCell ⟨rb,2,none⟩ v2).setCell ⟨rb,3,none⟩ v3).setCell ⟨rb,4,none⟩ v4).setCell ⟨rb,5,none⟩ v5).setCell ⟨rb,6,none⟩ v6).cell? ⟨w.heap.size+1,5,none⟩=some (.int .i64 bcu)/\(((((((X.setCell ⟨rb,0,none⟩ v0).setCell ⟨rb,1,none⟩ v1).setCell ⟨rb,2,none⟩ v2).setCell ⟨rb,3,none⟩ v3).setCell ⟨rb,4,none⟩ v4).setCell ⟨rb,5,none⟩ v5).setCell ⟨rb,6,none⟩ v6).heap[w.heap.size+2]?=some (.cells #[.bool false,.bool false,.slice none 0 0,.slice none 0 0,.slice none 0 0,.slice none 0 0,.int .i64 0] 79))):=fun X rb v0 v1 v2 v3 v4 v5 v6 h hrb=>by
    obtain⟨h0,h1,h2,h3,h4,h5,h6,h7,h8⟩:=h
    have oth:∀k,k≠rb->(((((((X.setCell ⟨rb,0,none⟩ v0).setCell ⟨rb,1,none⟩ v1).setCell ⟨rb,2,none⟩ v2).setCell ⟨rb,3,none⟩ v3).setCell ⟨rb,4,none⟩ v4).setCell ⟨rb,5,none⟩ v5).setCell ⟨rb,6,none⟩ v6).heap[k]?=X.heap[k]?:=fun k hk=>by
      rw[heap_setCell_other _ ⟨rb,6,none⟩ k _ hk,heap_setCell_other _ ⟨rb,5,none⟩ k _ hk,heap_setCell_other _ ⟨rb,4,none⟩ k _ hk,heap_setCell_other _ ⟨rb,3,none⟩ k _ hk,heap_setCell_other _ ⟨rb,2,none⟩ k _ hk,heap_setCell_other _ ⟨rb,1,none⟩ k _ hk,heap_setCell_other _ ⟨rb,0,none⟩ k _ hk]
    have c3:=fun i=>World.cell?_of_block (a:=⟨w.heap.size,i,none⟩) (oth w.heap.size (by omega))
    have c4:=fun i=>World.cell?_of_block (a:=⟨w.heap.size+1,i,none⟩) (oth (w.heap.size+1) (by omega))
    have hw:w.heap.size<=rb:=by omega
    refine⟨((((((h0.setCell (p:=⟨rb,0,none⟩) hw _).setCell (p:=⟨rb,1,none⟩) hw _).setCell (p:=⟨rb,2,none⟩) hw _).setCell (p:=⟨rb,3,none⟩) hw _).setCell (p:=⟨rb,4,none⟩) hw _).setCell (p:=⟨rb,5,none⟩) hw _).setCell (p:=⟨rb,6,none⟩) hw _,?_,?_,?_,?_,?_,?_,?_,?_⟩
    · rw[c3];exact h1
    · rw[c3];exact h2
    · rw[c3];exact h3
    · rw[c3];exact h4
    · rw[c3];exact h5
    · rw[c4];exact h6
    · rw[c4];exact h7
    · rw[oth (w.heap.size+2) (by omega)];exact h8
  have hs0a:W0.heap.size<=w.heap.size+3:=by omega
  have hs0b:w.heap.size+3<=W0.heap.size:=by omega
  clear k0 hs0 qD
  go_enter func58,ntmps58
  go_wp2;rw[<- hW0]
  clear hW0
  go_cut [7] (fun v7 wx=>∃rb p1 p2 s1 s2 a1 a2 t1 t2,v7=.pointer (some ⟨rb,0,none⟩)/\Hid (V.Made w g abe aso aaf bso wx rb (.bool ast) (.bool afi) p1 p2 s1 s2 a1 a2 t1 t2 bcu))
  case first =>
    go_region_held3 (fun w'=>Bl w w'/\w'.cell? ⟨w.heap.size,0,none⟩=some (.bool ast)/\w'.cell? ⟨w.heap.size,1,none⟩=some (.bool afi)/\w'.cell? ⟨w.heap.size,2,none⟩=some (.slice pbo abe.length pbc)/\w'.cell? ⟨w.heap.size,3,none⟩=some (.slice pso aso.length psc)/\w'.cell? ⟨w.heap.size,4,none⟩=some (.slice pao aaf.length pac)/\w'.cell? ⟨w.heap.size+1,3,none⟩=some (.slice qso bso.length qsc)/\w'.cell? ⟨w.heap.size+1,5,none⟩=some (.int .i64 bcu)/\w'.heap[w.heap.size+2]?=some (.cells #[.bool false,.bool false,.slice none 0 0,.slice none 0 0,.slice none 0 0,.slice none 0 0,.int .i64 0] 79))
      (first|with_reducible exact HS0.out|with_reducible exact k4|with_reducible exact k3|with_reducible exact k2|with_reducible exact k1|with_reducible exact SA.out _ _ k4|with_reducible exact SA.out _ _ k3|with_reducible exact SA.out _ _ k2|with_reducible exact SA.out _ _ k1|with_reducible exact SD.out _|with_reducible exact S7.out _ _ _ _ _ _ _ _ _ k4 (by omega))
      (first
        | (have hy:=z3;clear hy;go_at_call 93;refine(HT.out _ (by first|with_reducible exact q3|with_reducible exact Below.alloc q3 q3.size _)).mono ?_;rintro e w4 ⟨t1,t2,rfl,m4,z4⟩;have k4:=SK.out _ _ (by first|with_reducible exact k3|with_reducible exact SA.out _ _ k3) z4;have g4:w.heap.size+3<=w4.heap.size:=(by have h:=z4.size;(try simp at h);omega);first|(have r4:=K.zae r3 z4;obtain⟨⟨y0,y1,y2,y3,y4,y5,y6⟩,ff⟩:=V.cells7 r4)|(have r4:=V.zke z4;obtain⟨⟨y0,y1,y2,y3,y4,y5,y6⟩,ff⟩:=V.cells7 r4)|skip)
        | ((fail_if_success (have hz:=z3));have hy:=z2;clear hy;go_at_call 92;refine(HC3.out _ (by first|with_reducible exact q2|with_reducible exact Below.alloc q2 q2.size _)).mono ?_;rintro e w3 ⟨a1,a2,rfl,m3,z3⟩;have k3:=SK.out _ _ (by first|with_reducible exact k2|with_reducible exact SA.out _ _ k2) z3;have q3:=k3.1;have g3:w.heap.size+3<=w3.heap.size:=(by have h:=z3.size;(try simp at h);omega);first|(have r3:=K.zae r2 z3)|(have r3:=V.zke z3)|skip)
        | ((fail_if_success (have hz:=z2));have hy:=z1;clear hy;go_at_call 92;refine(HC2.out _ (by first|with_reducible exact q1|with_reducible exact Below.alloc q1 q1.size _)).mono ?_;rintro e w2 ⟨s1,s2,rfl,m2,z2⟩;have k2:=SK.out _ _ (by first|with_reducible exact k1|with_reducible exact SA.out _ _ k1) z2;have q2:=k2.1;have g2:w.heap.size+3<=w2.heap.size:=(by have h:=z2.size;(try simp at h);omega);first|(have r2:=K.zae r1 z2)|(have r2:=V.zke z2)|skip)
        | ((fail_if_success (have hz:=z1));go_at_call 92;refine(HC1.out _ (by first|with_reducible exact q0|with_reducible exact HqD.out _)).mono ?_;rintro e w1 ⟨p1,p2,rfl,m1,z1⟩;have k1:=SK.out _ _ (by first|with_reducible exact HS0.out|with_reducible exact SD.out _) z1;have q1:=k1.1;have g1:w.heap.size+3<=w1.heap.size:=(by have h:=z1.size;(try simp at h);omega);first|(have r1:=V.zr2 z1)|skip)
        | fail)
    all_goals
      have c1:=z1.size;have c2:=z2.size;have c3:=z3.size;have c4:=z4.size
      try simp at c1
      try simp at c2
      try simp at c3
      try simp at c4
      have hb6:=k4.2.2.2.2.2.2.2.2
      first
        | (obtain⟨hF,hG⟩:=V.zj6 r4 (.bool ast) (.bool afi) (.slice p1 abe.length p2) (.slice s1 aso.length s2) (.slice a1 aaf.length a2) (.slice t1 bso.length t2) (.int .i64 bcu)
           have E4:=V.zvs hG
           have hBx:=k4.1.grown hG k4.1.size (fun q hq=>by have h9:=Option.some.inj hq;omega))
        | (have hF:=heap_alloc_new w4 (.cells #[.bool ast,.bool afi,.slice p1 abe.length p2,.slice s1 aso.length s2,.slice a1 aaf.length a2,.slice t1 bso.length t2,.int .i64 bcu] 79)
           have E4:=V.zsx (A:=w4) (o:=.cells #[.bool ast,.bool afi,.slice p1 abe.length p2,.slice s1 aso.length s2,.slice a1 aaf.length a2,.slice t1 bso.length t2,.int .i64 bcu] 79) (rb:=w4.heap.size)
           have hBx:=k4.1.alloc k4.1.size (.cells #[.bool ast,.bool afi,.slice p1 abe.length p2,.slice s1 aso.length s2,.slice a1 aaf.length a2,.slice t1 bso.length t2,.int .i64 bcu] 79))
      first|(have E3:=V.Ext.trans (V.zsx (A:=w3)) (V.Ext.trans (V.znv z4) E4))|(have E3:=V.Ext.trans (V.znv z4) E4)
      first|(have E2:=V.Ext.trans (V.zsx (A:=w2)) (V.Ext.trans (V.znv z3) E3))|(have E2:=V.Ext.trans (V.znv z3) E3)
      first|(have E1:=V.Ext.trans (V.zsx (A:=w1)) (V.Ext.trans (V.znv z2) E2))|(have E1:=V.Ext.trans (V.znv z2) E2)
      have x1:=E1.1;have x2:=E2.1;have x3:=E3.1;have x4:=E4.1;have h6x:=E4.2 (w.heap.size+2) (by omega) (by omega);rw[hb6] at h6x
      have HM:=V.zum (g:=g) (abe:=abe) (aso:=aso) (aaf:=aaf) (bso:=bso) hF h6x (by omega) hBx
        (fun W' hW=>m1.2 W' fun b h1 h2=>by
          try simp at h1
          exact(hW b (by omega) (by omega) (by omega)).trans (E1.2 b h2 (by omega)))
        (fun W' hW=>m2.2 W' fun b h1 h2=>by
          try simp at h1
          exact(hW b (by omega) (by omega) (by omega)).trans (E2.2 b h2 (by omega)))
        (fun W' hW=>m3.2 W' fun b h1 h2=>by
          try simp at h1
          exact(hW b (by omega) (by omega) (by omega)).trans (E3.2 b h2 (by omega)))
        (fun W' hW=>m4.2 W' fun b h1 h2=>by
          try simp at h1
          exact(hW b (by omega) (by omega) (by omega)).trans (E4.2 b h2 (by omega)))
      clear E1 E2 E3 E4 hF hBx hb6 h6x c1 c2 c3 c4 x1 x2 x3 x4 m1 m2 m3 m4 z1 z2 z3 z4 k1 k2 k3 k4 q0 q1 q2 q3 g1 g2 g3 g4
      go_wp2_with fail
      go_meet
      case rel=>exact⟨_,p1,p2,s1,s2,a1,a2,t1,t2,rfl,HM⟩
  case rest =>
    obtain⟨rb,p1,p2,s1,s2,a1,a2,t1,t2,rfl,HM⟩:=hcut;obtain⟨⟨y0,y1,y2,y3,y4,y5,y6⟩,ff⟩:=V.cells7 HM.out.1;obtain⟨⟨u0,u1,u2,u3,u4,u5,u6⟩,fu⟩:=V.cells7 HM.out.2.1;have n1:¬rb=w.heap.size+2:=by have:=HM.out.2.2.1;omega
    have n2:¬w.heap.size+2=rb:=by omega
    have hl:=HRi.out.2.1;have hbl:(bso.length:Int)<=20:=by omega
    have hI1:=hcuB.1;have hI2:=hcuB.2
    by_cases hcu:bcu<0
    · go_wp2
      refine bodyPost_ret (v:=.agg #[.bool ast,.bool afi,.slice p1 abe.length p2,.slice s1 aso.length s2,.slice a1 aaf.length a2,.slice t1 bso.length t2,.int .i64 (bso.length:Int)]) (by simp[results,results58,go_sem, *]) rfl ?_;have hcur:(V.ruleOf g ⟨ast,afi,abe,aso,aaf,acu⟩ ⟨bst,bfi,bbe,bso,baf,bcu⟩).cursor=(bso.length:Int):=by unfold V.ruleOf;simp[hcu]
      rw[hcur];obtain⟨e1,g1⟩:=V.zcw (i:=6) HM.out.1 (.int .i64 (bso.length:Int));have h6':(wc.setCell ⟨rb,6,none⟩ (.int .i64 (bso.length:Int))).heap[w.heap.size+2]?=_:=(g1.block _ (qA.1 HM.out.2.1).1 (by simp;omega)).trans HM.out.2.1;obtain⟨e7,g7⟩:=V.zj6 h6' (.bool ast) (.bool afi) (.slice p1 abe.length p2) (.slice s1 aso.length s2) (.slice a1 aaf.length a2) (.slice t1 bso.length t2) (.int .i64 (bso.length:Int));have hBf:=((HM.out.2.2.2.1.grown g1 HM.out.2.2.2.1.size (fun q hq=>by have h9:=Option.some.inj hq;have:=HM.out.2.2.1;omega)).grown g7 (Nat.le_trans HM.out.2.2.2.1.size g1.size) (fun q hq=>by have h9:=Option.some.inj hq;omega));refine⟨p1,p2,s1,s2,a1,a2,t1,t2,rfl,fun W' hW=> ?_,hBf⟩
      have hag:=HM.out.2.2.2.2 W' fun b h1 h2 h3=>by
        rw[hW b (by omega) (by simpa using h3) (by simp),g7.block b (by have:=g1.size;omega) (by simp;omega),g1.block b h3 (by simpa using h2)]
      have he:(V.ruleOf g ⟨ast,afi,abe,aso,aaf,acu⟩ ⟨bst,bfi,bbe,bso,baf,bcu⟩)=⟨ast,afi,abe.map (V.setOf g),aso.map (V.setOf g),aaf.map (V.setOf g),bso.map (·.rune),(bso.length:Int)⟩:=by unfold V.ruleOf;simp[hcu]
      rw[he];refine⟨p1,p2,s1,s2,a1,a2,t1,t2,by simp,?_,?_,?_,?_,by simp;omega,⟨by show (-9223372036854775808:Int)<=(bso.length:Int);omega,by show (bso.length:Int)<=9223372036854775807;omega⟩⟩
      · simpa using hag.1
      · simpa using hag.2.1
      · simpa using hag.2.2.1
      · simpa using hag.2.2.2
    · go_wp2
      refine bodyPost_ret (v:=.agg #[.bool ast,.bool afi,.slice p1 abe.length p2,.slice s1 aso.length s2,.slice a1 aaf.length a2,.slice t1 bso.length t2,.int .i64 bcu]) (by simp[results,results58,go_sem, *]) rfl ?_;have hcur:(V.ruleOf g ⟨ast,afi,abe,aso,aaf,acu⟩ ⟨bst,bfi,bbe,bso,baf,bcu⟩).cursor=bcu:=by show (if bcu<0 then (bso.length:Int) else bcu)=bcu;rw[if_neg (show ¬bcu<0 by omega)]
      rw[hcur];obtain⟨e7,g7⟩:=V.zj6 HM.out.2.1 (.bool ast) (.bool afi) (.slice p1 abe.length p2) (.slice s1 aso.length s2) (.slice a1 aaf.length a2) (.slice t1 bso.length t2) (.int .i64 bcu);have hBf:=HM.out.2.2.2.1.grown g7 HM.out.2.2.2.1.size (fun q hq=>by have h9:=Option.some.inj hq;omega);refine⟨p1,p2,s1,s2,a1,a2,t1,t2,rfl,fun W' hW=> ?_,hBf⟩
      have hag:=HM.out.2.2.2.2 W' fun b h1 h2 h3=>by
        rw[hW b (by omega) (by simpa using h3) (by simp),g7.block b h3 (by simp;omega)]
      have he:(V.ruleOf g ⟨ast,afi,abe,aso,aaf,acu⟩ ⟨bst,bfi,bbe,bso,baf,bcu⟩)=⟨ast,afi,abe.map (V.setOf g),aso.map (V.setOf g),aaf.map (V.setOf g),bso.map (·.rune),bcu⟩:=by unfold V.ruleOf;rw[if_neg (show ¬bcu<0 by omega)]
      rw[he];refine⟨p1,p2,s1,s2,a1,a2,t1,t2,by simp,?_,?_,?_,?_,by simp;omega,hcuB⟩
      · simpa using hag.1
      · simpa using hag.2.1
      · simpa using hag.2.2.1
      · simpa using hag.2.2.2
namespace V
theorem Moves.store {tops:List Nat}(w:World){b:Nat}(i:Nat)(v:Value)(hb:b∈tops):Moves tops w tops (w.setCell ⟨b,i,none⟩ v) :=
 ⟨(R.zak w b i v).size,fun k hk hn=>heap_setCell_other w ⟨b,i,none⟩ k v fun e=>hn (e▸hb),fun k hk=> .inl hk,fun k hk=>hk⟩
theorem PS.store {F:Nat}{tops:List Nat}{w:World}{vp:Value}{ps:List Pass}{rvs:List Value}(h:PS F tops w vp ps rvs){b:Nat}(i:Nat)(v:Value)(hb:b∈tops)(hF:b<F):PS F tops (w.setCell ⟨b,i,none⟩ v) vp ps rvs:=by
 have hm:=Moves.store w i v hb;have ho:∀k,F<=k->(w.setCell ⟨b,i,none⟩ v).heap[k]?=w.heap[k]?:=fun k hk=>heap_setCell_other w ⟨b,i,none⟩ k v (by simp;omega)
 exact⟨h.len,zd0 h.own fun g hg=>ho g (h.own.lt g hg).1,fun j p rv h1 h2=>⟨(h.rows j p rv h1 h2).1.step hm.1 hm.2.1 hm.2.2.1 fun g hg=>ho g (h.rvlt (List.mem_of_getElem? h2) g hg).1,(h.rows j p rv h1 h2).2⟩,h.top,h.apart,h.diff,fun k hk=>Nat.lt_of_lt_of_le (h.lt k hk) hm.1⟩
structure SS (F bs:Nat) (tops:List Nat) (w:World) (s:Script) (vo vp:Value) (rvs:List Value):Prop where
 mem:bs∈tops
 lt:bs<F
 box:w.heap[bs]?=some (.cells #[.bool s.has,vo,vp] 30)
 only:Leaf tops w fun W=>S.Rd W vo s.only
 few:s.only.length<=17592186044160
 one:vo.oneCell'=true
 pas:PS F tops w vp s.passes rvs
 nil:s.passes= []->vp=.slice none 0 0
theorem SS.below {F bs:Nat}{tops:List Nat}{w w':World}{s:Script}{vo vp:Value}{rvs:List Value}(h:SS F bs tops w s vo vp rvs)(hb:Bl w w'):SS F bs tops w' s vo vp rvs :=
 ⟨h.mem,h.lt,(hb.block bs (h.pas.lt bs h.mem)).trans h.box,h.only.moves (Moves.of_below hb),h.few,h.one,h.pas.below hb,h.nil⟩
theorem SS.start (F bs:Nat)(tops:List Nat)(w:World)(hF:bs<F)(hb:w.heap[bs]?=some (.cells #[.bool false,.slice none 0 0,.slice none 0 0] 30))(hm:bs∈tops)(ht:∀k∈tops,k<w.heap.size):SS F bs tops w ⟨false,[],[]⟩ (.slice none 0 0) (.slice none 0 0) [] :=
 ⟨hm,hF,hb,fun W _ _=>S.Rd.nil W,by simp,rfl,PS.start F w tops ht,fun _=>rfl⟩
theorem SS.filter {F bs:Nat}{tops:List Nat}{w:World}{s:Script}{vo vp:Value}{rvs:List Value}(h:SS F bs tops w s vo vp rvs)(vo':Value)(l:List S.Sp)(hl:Leaf tops w fun W=>S.Rd W vo' l)(hn:l.length<=17592186044160)(h1:vo'.oneCell'=true) :
  SS F bs tops ((w.setCell ⟨bs,0,none⟩ (.bool true)).setCell ⟨bs,1,none⟩ vo') ⟨true,l,s.passes⟩ vo' vp rvs:=by
 have b1:=heap_setCell_same w bs 0 _ _ (.bool true) h.box;have b2:=heap_setCell_same _ bs 1 _ _ vo' b1;exact⟨h.mem,h.lt,b2,(hl.moves (Moves.store w 0 _ h.mem)).moves (Moves.store _ 1 _ h.mem),hn,h1,(h.pas.store 0 _ h.mem h.lt).store 1 _ h.mem h.lt,h.nil⟩
theorem SS.passes {F bs:Nat}{tops tops':List Nat}{w w':World}{s:Script}{vo vp vp':Value}{rvs rvs':List Value}{ps:List Pass}(h:SS F bs tops w s vo vp rvs)(hm:Moves tops w tops' w')(hb:Below F w w')(hp:PS F tops' w' vp' ps rvs')(hne:ps≠ []) :
  SS F bs tops' (w'.setCell ⟨bs,2,none⟩ vp') ⟨s.has,s.only,ps⟩ vo vp' rvs':=by
 have hmem:=hm.2.2.2 bs h.mem;have bx:=(hb.block bs h.lt).trans h.box;have b1:=heap_setCell_same w' bs 2 _ _ vp' bx;exact⟨hmem,h.lt,b1,(h.only.moves hm).moves (Moves.store w' 2 _ hmem),h.few,h.one,hp.store 2 _ hmem h.lt,fun e=>absurd e hne⟩
theorem zt6 (ps:List Pass)(r:K.Rule):putP ps r≠ []:=by
 unfold putP;split
 ·split <;> simp
 ·simp
theorem Leaf.zhu {tops:List Nat}{w w':World}{Q:World->Prop}(h:R.Stays w.heap.size none w' Q)(ht:∀k∈tops,k<w.heap.size)(hs:w.heap.size<=w'.heap.size):Leaf tops w' Q :=
 fun W h1 h2=>h W fun b hb1 hb2 _=>h2 b hb2 fun hm=>by have:=ht b hm;omega
end V
end
section
open Go.RowKit Go.Lib
def V.unk (f:ByteArray->Option Value) (x:R.Item):Bool:=decide (x.kind=3)&& !(f x.name).isSome
def V.MapBox (w:World) (bm:Nat) (f:ByteArray->Option Value):Prop:=∃B n,w.cell? ⟨bm,0,none⟩=some (.map (some B))/\V.MapIs w B n f
theorem V.MapBox.below {w w':World}{bm:Nat}{f:ByteArray->Option Value}(h:V.MapBox w bm f)(hb:Bl w w'):V.MapBox w' bm f:=by
 obtain⟨B,n,h1,h2⟩:=h;refine⟨B,n,?_,h2.below hb h2.lt⟩;rw[hb.cell (p:=⟨bm,0,none⟩) (L.block_lt h1)];exact h1
theorem ztq (w:World)(x:R.Item)(so:Option Addr)(sc bm:Nat)(f:ByteArray->Option Value)(HV:V.MapBox w bm f)(hn:x.name.size<=140737488355328) :
  Calls prog 88 #[.agg #[.int .i64 x.kind,.int .i32 x.rune,.slice so x.set.length sc,.string x.name],.pointer (some ⟨bm,0,none⟩)] w fun e w'=>e=.returned (.bool (V.unk f x))/\Bl w w':=by
 obtain⟨B,n,hm,hM⟩:=HV;obtain⟨xk,xr,xs,xn⟩:=x;simp only at hn ⊢;have bA:Bl w (w.alloc (.cells #[.int .i64 xk,.int .i32 xr,.slice so xs.length sc,.string xn] 142)):=(qR w).alloc qN _;have hlook:=(hM.below bA hM.lt).look_ok xn hn;have hbm:=L.block_lt hm;have HbA:Hid _:=bA;clear hM bA;have hV:V.unk f ⟨xk,xr,xs,xn⟩=(decide (xk=3)&& !(f xn).isSome):=rfl;rw[hV];clear hV;generalize (f xn).getD (.slice none 0 0)=gv at hlook;generalize (f xn).isSome=gb at hlook
 by_cases h3:xk=3
 ·subst h3
  go_enter func88,ntmps88
  go_wp2;go_ret
  exact⟨by simp,HbA.out⟩
 ·go_enter func88,ntmps88
  go_wp2;go_ret
  exact⟨by simp[h3],HbA.out⟩
theorem zot (w:World)(v:Value)(l:List R.Item)(bm:Nat)(f:ByteArray->Option Value)(HV:V.MapBox w bm f)(RR:R.Its w v l)(hl:l.length<=140737488355328) :
  Calls prog 140 #[v,.func (.func 88) #[] #[.pointer (some ⟨bm,0,none⟩)]] w fun e w'=>∃i:Int,e=.returned (.int .i64 i)/\decide (0<=i)=l.any (V.unk f)/\Bl w w':=by
 have HR:=qH RR;have HVs:=qH HV;obtain⟨ao,ca,rfl⟩:=RR.len;clear RR HV
 go_enter func140,ntmps140
 go_wp2
 go_loopw [8] (fun i wr=>∃k:Nat,k<=l.length/\i=.int .i64 k/\Hid ((l.take k).any (V.unk f)=false/\Bl w wr)) (fun i _=>l.length-(RowKit.intOf i).toNat)
 case atStart=>exact⟨0,Nat.zero_le _,rfl,by simp,qR w⟩
 case round =>
  obtain⟨k,hk,rfl,HB⟩:=hrel
  by_cases hlt:k<l.length
  ·obtain⟨x,hx⟩:∃x,l[k]?=some x:=⟨l[k],by simp[hlt]⟩;obtain⟨ao',ca',e',hcs⟩:=HR.out.below HB.out.2;cases e';obtain⟨b,off,rfl,hcell⟩:=hcs (by intro h;subst h;simp at hlt);obtain⟨c0,c1,c3,⟨so,sc,c2,r2⟩,hf,hnm⟩:=hcell k x hx;have HL:=qH<|ztq wr x so sc bm f (HVs.out.below HB.out.2) hnm;clear hcell hcs r2 hf hnm
   have HT:Hid ((l.take (k+1)).any (V.unk f)=V.unk f x/\(V.unk f x=true->l.any (V.unk f)=true)):=by
    refine⟨?_,fun h=>List.any_eq_true.2 ⟨x,List.mem_of_getElem? hx,h⟩⟩;rw[List.take_add_one,hx,List.any_append,HB.out.1];simp
   clear hx;generalize V.unk f x=ub at HL HT;obtain⟨xk,xr,xs,xn⟩:=x;simp only at c0 c1 c2 c3 HL
   go_wp2_with fail
   refine HL.out.mono ?_;rintro e w5 ⟨rfl,b5⟩;have HB5:=qH<|HB.out.2.trans (b5.mono HB.out.2.size);clear b5 c0 c1 c2 c3;cases ub
   ·have HT2:=qH HT.out.1;clear HT;go_wp2
    go_roundw
    case rel=>exact⟨k+1,by omega,by go_num,HT2.out,HB5.out⟩
    case measure=>simp[RowKit.intOf];omega
   ·have HT2:=qH<|HT.out.2 rfl;clear HT;go_wp2;go_ret;exact⟨k,rfl,by rw[HT2.out];simp,HB5.out⟩
  ·have hkl:k=l.length:=by omega
   subst hkl;go_wp2;go_ret;exact⟨-1,rfl,by have:=HB.out.1;rw[List.take_length] at this;rw[this];rfl,HB.out.2⟩
theorem ze5 (w:World)(v:Value)(l:List R.Item)(bm:Nat)(f:ByteArray->Option Value)(HV:V.MapBox w bm f)(RR:R.Its w v l)(hl:l.length<=140737488355328) :
  Calls prog 116 #[v,.func (.func 88) #[] #[.pointer (some ⟨bm,0,none⟩)]] w fun e w'=>e=.returned (.bool (l.any (V.unk f)))/\Bl w w':=by
 have h:=zot w v l bm f HV RR hl;obtain⟨aa,ca,rfl⟩:=RR.len;clear RR HV
 go_enter func116,ntmps116
 go_wp2_with fail
 refine h.mono ?_;rintro e w1 ⟨i,rfl,hi,hb⟩;have HI:Hid _:=hi;clear hi;go_wp2;go_ret;exact⟨L.zaj HI.out,hb⟩
def V.unkS (f:ByteArray->Option Value) (s:R.Side):Bool:=s.before.any (V.unk f)||s.source.any (V.unk f)||s.after.any (V.unk f)
theorem zft (w:World)(v:Value)(s:R.Side)(bm:Nat)(f:ByteArray->Option Value)(HV:V.MapBox w bm f)(RR:R.SdIs w v s)(hl:s.before.length<=140737488355328/\s.source.length<=140737488355328/\s.after.length<=140737488355328) :
  Calls prog 90 #[v,.func (.func 88) #[] #[.pointer (some ⟨bm,0,none⟩)]] w fun e w'=>e=.returned (.bool (V.unkS f s))/\Bl w w':=by
 obtain⟨bo,bc,so,sc,ao,ac,rfl,i1,i2,i3,_⟩:=RR;have H1:=qH<|fun W hW=>ze5 W _ s.before bm f (HV.below hW) (i1.below hW) hl.1
 have H2:=qH<|fun W hW=>ze5 W _ s.source bm f (HV.below hW) (i2.below hW) hl.2.1
 have H3:=qH<|fun W hW=>ze5 W _ s.after bm f (HV.below hW) (i3.below hW) hl.2.2
 have hV:V.unkS f s=(s.before.any (V.unk f)||s.source.any (V.unk f)||s.after.any (V.unk f)):=rfl;rw[hV];clear hV i1 i2 i3 hl HV;generalize s.before.any (V.unk f)=u1 at *;generalize s.source.any (V.unk f)=u2 at *;generalize s.after.any (V.unk f)=u3 at *;obtain⟨st,fi,be,sr,af,cu⟩:=s;simp only at H1 H2 H3;have hX:=K.zau (qR (w.alloc (.cells #[.bool st,.bool fi,.slice bo be.length bc,.slice so sr.length sc,.slice ao af.length ac,.int .i64 cu] 102)));have HX:Hid _:=hX;clear hX
 go_enter func90,ntmps90
 go_wp2_with fail
 refine(H1.out _ HX.out.2.1).mono ?_;rintro e w1 ⟨rfl,b1⟩;have B1:=HX.out.2.1.trans (b1.mono HX.out.2.1.size);have y1:=K.zae HX.out.1 b1;have p3:=K.zad (i:=3) y1 rfl;have HY:Hid _:=And.intro y1 B1;clear y1 B1 b1;cases u1
 ·go_wp2_with fail
  refine(H2.out _ HY.out.2).mono ?_;rintro e w2 ⟨rfl,b2⟩;have B2:=HY.out.2.trans (b2.mono HY.out.2.size);have y1:=K.zae HY.out.1 b2;have p4:=K.zad (i:=4) y1 rfl;have HZ:=qH B2;clear y1 B2 b2 p3;cases u2
  ·go_wp2_with fail
   refine(H3.out _ HZ.out).mono ?_;rintro e w3 ⟨rfl,b3⟩;have HB3:=qH<|HZ.out.trans (b3.mono HZ.out.size);clear b3;go_wp2;go_ret;exact⟨by simp,HB3.out⟩
  ·go_wp2;go_ret
   exact⟨by simp,HZ.out⟩
 ·have HB1:=qH HY.out.2;go_wp2;go_ret;exact⟨by simp,HB1.out⟩
