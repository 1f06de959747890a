/-
 The pieces of a text: the document's answer.
-/
import Derived.Test.YtddiojckgjobmaaGreatCnRows
import Derived.Test.YtddiojckgjobmaaGreatMRefT
import Derived.Deep.DeepCutAuto
import Derived.Test.YtddiojckgjobmaaGreatRLib
import Derived.Test.YtddiojckgjobmaaGreatUni2
import Derived.Test.YtddiojckgjobmaaGreatCnGo
import Derived.Test.YtddiojckgjobmaaGreatQCheckR
import Derived.Test.YtddiojckgjobmaaGreatSWrong
import Derived.Test.YtddiojckgjobmaaGreatRows
import Derived.Deep.QuietTactic
import Derived.BigQuiet
import Derived.WalkKit
import Derived.ProofKit
import Derived.OpenShut
import Derived.ShutString
import Derived.ChangeOld
import Derived.Below
import Derived.JoinedCond
import Derived.Deep.SlicePairs
import Derived.Deep.Slices
import Derived.SizedLaws
import Derived.Test.YtddiojckgjobmaaGreatCnMath
set_option maxHeartbeats 0
set_option maxRecDepth 20000
set_option linter.unusedSimpArgs false
set_option linter.unusedVariables false
namespace Go.Proofs.YtddiojckgjobmaaGreat
open Go.RowKit Go.Lib
namespace Cn
structure Pz (s:V.Script) (t:List Int) (oo:Option Addr) (oc:Nat) (po:Option Addr) (pc:Nat) (w wr:World) (vo vm:Value) (l:List (List Int×Value)) (bs:List Bool) (k:Nat):Prop where
 pcs:Pcs (w.heap.size+1) wr vo l
 bools:wr.ownsRow (w.heap.size+1) 4 1 vm bs.length (bs.map Value.bool)
 fst:l.map (·.1)=(cut (inS s) (t.take k)).map (·.1)
 snd:bs=(cut (inS s) (t.take k)).map (·.2)
 bel:Below w.heap.size w wr
 box:wr.heap[w.heap.size]?=some (.cells #[.bool s.has,.slice oo s.only.length oc,.slice po s.passes.length pc] 25)
theorem zb3 {w:World}{F:Nat}{e:TypeId}{k:Nat}{v:Value}{n:Nat}{xs:List Value}(h:w.ownsRow F e k v n xs):∀g,v.ownBlock=some g->∃cur:Array Value,w.heap[g]?=some (.cells cur e):=by
 intro g hg;rcases h.2 with ⟨hv,_⟩|⟨g',cap,cur,hv,_,hx,_⟩
 ·rw[hv] at hg;cases hg
 ·rw[hv] at hg;have e2:g'=g:=by simpa [Value.ownBlock] using hg
  rw[e2] at hx;exact⟨cur,hx⟩
theorem Pz.len {s:V.Script}{t:List Int}{oo:Option Addr}{oc:Nat}{po:Option Addr}{pc:Nat}{w wr:World}{vo vm:Value}{l:List (List Int×Value)}{bs:List Bool}{k:Nat}(h:Pz s t oo oc po pc w wr vo vm l bs k):bs.length=l.length/\l.length<=k:=by
 have h1:=congrArg List.length h.fst;have h2:=congrArg List.length h.snd;have h3:=zi1 (P:=inS s) (t:=t.take k);simp at h1 h2 h3;omega
theorem Pz.below {s:V.Script}{t:List Int}{oo:Option Addr}{oc:Nat}{po:Option Addr}{pc:Nat}{w wr w':World}{vo vm:Value}{l:List (List Int×Value)}{bs:List Bool}{k:Nat}(h:Pz s t oo oc po pc w wr vo vm l bs k)(hb:Below wr.heap.size wr w'):Pz s t oo oc po pc w w' vo vm l bs k :=
 ⟨h.pcs.kept fun g _ hg=>hb.block g hg,Ws.kept1 h.bools fun g hg=>hb.block g (h.bools.lt g hg).2,h.fst,h.snd,h.bel.trans (hb.mono h.bel.size),K.zab h.box hb⟩
theorem zc9 {w:World}{F:Nat}{mo:Option Addr}{n mc:Nat}{bs:List Bool}(h:w.ownsRow F 4 1 (.slice mo n mc) bs.length (bs.map Value.bool)){j:Nat}{b:Bool}(hj:bs[j]?=some b):∃gm,mo=some ⟨gm,0,none⟩/\w.cell? ⟨gm,j,none⟩=some (.bool b):=by
 have hlt:=(qL.1 hj).1;rcases h.2 with ⟨_,h0⟩|⟨g,cap,cur,hv,_,hx,_,_,_,htk⟩
 ·omega
 ·simp only[Value.slice.injEq] at hv;refine⟨g,hv.1,K.zaa hx ?_⟩;rw[Nat.mul_one] at htk;have e:(cur.toList.take bs.length)[j]?=some (.bool b):=by rw[htk,List.getElem?_map,hj];rfl
  rw[List.getElem?_take,if_pos hlt] at e;simpa using e
theorem Pz.more {s:V.Script}{t:List Int}{oo:Option Addr}{oc:Nat}{po:Option Addr}{pc:Nat}{w wr:World}{vo:Value}{mo:Option Addr}{mc:Nat}{l:List (List Int×Value)}{bs:List Bool}{k:Nat}(h:Pz s t oo oc po pc w wr vo (.slice mo l.length mc) l bs k)(hk:k<=4000)(z:Int)(m:Bool)(hn:cut (inS s) (t.take (k+1))=cut (inS s) (t.take k)++ [([z],m)]) :
  ∃ao1 cap1 w1 ao2 cap2 w2,(∀ty,(Builtin.append_ #[61,61] ty #[vo,.slice (some ⟨wr.heap.size+1,0,none⟩) 1 1]).run Tryz.prog ((wr.alloc (.cells #[.int .i32 z] 21)).alloc (.cells #[.slice (some ⟨wr.heap.size,0,none⟩) 1 1] 26))= .ok (.slice ao1 (l.length+1) cap1) w1) /\
   (∀ty,(Builtin.append_ #[62,62] ty #[.slice mo l.length mc,.slice (some ⟨w1.heap.size,0,none⟩) 1 1]).run Tryz.prog (w1.alloc (.cells #[.bool m] 4))= .ok (.slice ao2 (l.length+1) cap2) w2) /\
   ∃l' bs',l'.length=l.length+1/\Pz s t oo oc po pc w w2 (.slice ao1 l'.length cap1) (.slice ao2 l'.length cap2) l' bs' (k+1):=by
 have hlen:=h.len;obtain⟨ao1,cap1,w1,run1,pcs1,kp1,be1⟩:=h.pcs.push (lt_of_block h.box) (by omega) z;have hs1:w.heap.size+1<=w1.heap.size:=Nat.le_trans (lt_of_block h.box) be1.size
 have hbw:w1.ownsRow (w.heap.size+1) 4 1 (.slice mo l.length mc) bs.length (bs.map Value.bool):=Ws.kept1 h.bools fun g hg=>by
  obtain⟨cur,hx⟩:=zb3 h.bools g hg;exact kp1 g _ _ hx (by decide)
 obtain⟨ao2,cap2,w2,run2,own2,kp2,be2⟩:=zi2 hbw hs1 (by omega) m;rw[hlen.1] at run2 own2;have hl1:(l++ [([z],Value.slice (some ⟨wr.heap.size,0,none⟩) 1 1)]).length=l.length+1:=by simp
 have hx1:=(kp1 _ _ _ h.box (by decide)).trans h.box;refine⟨ao1,cap1,w1,ao2,cap2,w2,run1,run2,l++ [([z],.slice (some ⟨wr.heap.size,0,none⟩) 1 1)],bs++ [m],hl1,?_⟩;rw[hl1];refine⟨⟨Ws.kept1 pcs1.row fun g hg=> ?_,fun p hp=>Ws.kept1 (pcs1.each p hp) fun g hg=> ?_,pcs1.apart⟩,?_,?_,?_,(h.bel.trans (be1.mono (by omega))).trans (be2.mono (by omega)),(kp2 _ _ _ hx1 (by decide)).trans hx1⟩
 ·obtain⟨cur,hx⟩:=zb3 pcs1.row g hg;exact kp2 g _ _ hx (by decide)
 ·obtain⟨cur,hx⟩:=zb3 (pcs1.each p hp) g hg;exact kp2 g _ _ hx (by decide)
 ·have e:(bs++ [m]).length=l.length+1:=by simp[hlen.1]
  rw[e];exact own2
 ·rw[hn,List.map_append,List.map_append,h.fst];rfl
 ·rw[hn,List.map_append,<- h.snd];rfl
theorem Pz.join {s:V.Script}{t:List Int}{oo:Option Addr}{oc:Nat}{po:Option Addr}{pc:Nat}{w wr:World}{vo vm:Value}{d:List (List Int×Value)}{x:List Int}{u:Value}{bs:List Bool}{k:Nat}(h:Pz s t oo oc po pc w wr vo vm (d++ [(x,u)]) bs k)(hx4:x.length<=4000)(z:Int){e:List (List Int×Bool)}(hc:cut (inS s) (t.take k)=e++ [(x,true)])(hn:cut (inS s) (t.take (k+1))=e++ [(x++ [z],true)]) :
  ∃g cap uo uc w1,vo= .slice (some ⟨g,0,none⟩) (d.length+1) cap/\wr.cell? ⟨g,d.length,none⟩=some u/\(∃ua ub,u= .slice ua x.length ub) /\
   (∀ty,(Builtin.append_ #[26,26] ty #[u,.slice (some ⟨wr.heap.size,0,none⟩) 1 1]).run Tryz.prog (wr.alloc (.cells #[.int .i32 z] 21))= .ok (.slice uo (x.length+1) uc) w1) /\
   w1.cell? ⟨g,d.length,none⟩=some u/\w1.frozen? ⟨g,d.length,none⟩=false /\
   ∃l',l'.length=d.length+1/\Pz s t oo oc po pc w (w1.setCell ⟨g,d.length,none⟩ (.slice uo (x.length+1) uc)) vo vm l' bs (k+1):=by
 obtain⟨g,cap,uo,uc,w1,h1,h2,h3,h4,h5,h6,h7,h8,h9⟩:=h.pcs.snoc (lt_of_block h.box) hx4 z;refine⟨g,cap,uo,uc,w1,h1,h2,h3,h4,h5,h6,d++ [(x++ [z],.slice uo (x.length+1) uc)],by simp,h7,?_,?_,?_,h.bel.trans (h9.mono (by omega)),(h8 _ _ _ h.box (by decide) (by decide)).trans h.box⟩
 ·refine Ws.kept1 h.bools fun g hg=> ?_
  obtain⟨cur,hx⟩:=zb3 h.bools g hg;exact h8 g _ _ hx (by decide) (by decide)
 ·have h10:=h.fst;rw[hc,List.map_append,List.map_append] at h10;have h11:=List.append_inj_left' h10 rfl;rw[hn,List.map_append,List.map_append,h11];rfl
 ·rw[h.snd,hc,hn,List.map_append,List.map_append];rfl
end Cn
theorem zfj (w:World)(v:Value)(s:V.Script)(h0:V.ScIs w v s)(vt:Value)(t:List Int)(Rt:L.Rd w vt .i32 t)(ht:t.length<=4000) :
  Calls Tryz.prog 35 #[v,vt] w fun e w'=>∃(l:List (List Int×Value)) (vo:Option Addr) (vc:Nat) (mo:Option Addr) (mc:Nat),e= .returned (.tuple #[.slice vo l.length vc,.slice mo l.length mc])/\Cn.Pcs (w.heap.size+1) w' (.slice vo l.length vc) l/\l.map (·.1)=(Cn.cut (Cn.inS s) t).map (·.1)/\w'.ownsRow (w.heap.size+1) 4 1 (.slice mo l.length mc) l.length (((Cn.cut (Cn.inS s) t).map (·.2)).map Value.bool)/\Below w.heap.size w w':=by
 obtain⟨oo,oc,po,pc,rfl,hO,hOl,hP⟩:=h0;have hal:∀o,Below w.heap.size w (w.alloc o):=fun o=>(qR w).alloc qN o
 have HIn:Hid (S.Rd w (.slice oo s.only.length oc) s.only/\L.Rd w vt .i32 t):=⟨hO,Rt⟩;have HZ0:Hid (Cn.Pz s t oo oc po pc w (w.alloc (.cells #[.bool s.has,.slice oo s.only.length oc,.slice po s.passes.length pc] 25)) (.slice none ([]:List (List Int×Value)).length 0) (.slice none ([]:List (List Int×Value)).length 0) [] [] 0):=⟨Cn.Pcs.nil _ _,World.ownsRow_nil _ _ _ _,rfl,rfl,hal _,heap_alloc_new w _⟩;obtain⟨xo,xc,rfl⟩:∃xo xc,vt= .slice xo t.length xc:=by obtain⟨a,c,h,_⟩:=Rt;exact⟨a,c,h⟩
 clear hO hP Rt hal
 go_enter Tryz.func35,Tryz.ntmps35
 go_wp2
 go_loopw [6,7,14] (fun i6 i7 i wr=>∃(k:Nat) (l:List (List Int×Value)) (bs:List Bool) (vo:Option Addr) (vc:Nat) (mo:Option Addr) (mc:Nat),k<=t.length/\i= .int .i64 k/\i6= .slice vo l.length vc/\i7= .slice mo l.length mc/\Hid (Cn.Pz s t oo oc po pc w wr (.slice vo l.length vc) (.slice mo l.length mc) l bs k)) (fun _ _ i _=>t.length - (intOf i).toNat)
 case atStart=>exact⟨0,[],[],none,0,none,0,Nat.zero_le _,rfl,rfl,rfl,HZ0⟩
 case round =>
  obtain⟨k,l,bs,vo,vc,mo,mc,hk,rfl,rfl,rfl,HI⟩:=hrel;have hll:l.length<=4000:=by have:=HI.out.len;omega
  by_cases hlt:k<t.length
  ·obtain⟨z,hz⟩:∃z,t[k]?=some z:=⟨t[k],by simp[hlt]⟩;obtain⟨ao',cap',e',_,hcs⟩:=HIn.out.2.below HI.out.bel qN;cases e';obtain⟨bt,off,rfl,hcell⟩:=hcs (by intro h;subst h;simp at hlt);have c0:=hcell k z hz
   have HSn:Hid (Cn.cut (Cn.inS s) (t.take (k+1))=Cn.snocP (Cn.inS s z) z (Cn.cut (Cn.inS s) (t.take k))):=by
    show _=_;rw[List.take_add_one,hz];exact Cn.zj2
   have kh:wr.cell? ⟨w.heap.size,0,none⟩=some (.bool s.has):=K.zaa (i:=0) HI.out.box rfl;have ko:wr.cell? ⟨w.heap.size,1,none⟩=some (.slice oo s.only.length oc):=K.zaa (i:=1) HI.out.box rfl;have HHs:Hid (Calls Tryz.prog 16 #[.slice oo s.only.length oc,.int .i32 z] wr fun e w'=>e= .returned (.bool (S.memb s.only z))/\Below wr.heap.size wr w'):=zbq wr _ s.only z (HIn.out.1.below HI.out.bel qN) (by omega);clear hcs hcell hz HZ0;obtain⟨m,hm⟩:∃m,m=Cn.inS s z:=⟨_,rfl⟩;rw[<- hm] at HSn;have HM:Hid (m=Cn.inS s z):=hm;clear hm
   go_upto_region 6 with fail
   go_cut [10] (fun v10 wx=>v10= .bool m/\Hid (Cn.Pz s t oo oc po pc w wx (.slice vo l.length vc) (.slice mo l.length mc) l bs k))
   case first =>
    rcases Bool.eq_false_or_eq_true s.has with hh | hh
    rotate_left
    ·rw[hh] at kh;have hm:m=true:=by rw[HM.out,Cn.inS,hh];rfl
     subst hm;clear HHs hh;go_wp2
     go_meet
     case rel=>exact⟨rfl,HI⟩
    ·rw[hh] at kh;have hm:m=S.memb s.only z:=by rw[HM.out,Cn.inS,hh];rfl
     rw[<- hm] at HHs;clear hm hh
     go_wp2_with fail
     refine HHs.out.mono ?_;rintro e w1 ⟨rfl,b1⟩;have HI1:Hid (Cn.Pz s t oo oc po pc w w1 (.slice vo l.length vc) (.slice mo l.length mc) l bs k):=HI.out.below b1;clear b1 HHs;go_wp2
     go_meet
     case rel=>exact⟨rfl,HI1⟩
   case rest =>
    obtain⟨rfl,HC⟩:=hcut;clear HI HHs kh ko c0;have hlen:=HC.out.len
    by_cases hj:m=true/\∃e x,Cn.cut (Cn.inS s) (t.take k)=e++ [(x,true)]
    ·obtain⟨rfl,e,x,hc⟩:=hj;have hn:Cn.cut (Cn.inS s) (t.take (k+1))=e++ [(x++ [z],true)]:=by rw[HSn.out,hc,Cn.zec,if_pos ⟨rfl,rfl⟩]
     have hx4:x.length<=4000:=by
      have h1:=Cn.zey (P:=Cn.inS s) (t:=t.take k) (x,true) (by rw[hc];simp);rw[List.length_take] at h1;simp only at h1;omega
     obtain⟨d,u,rfl⟩:∃d u,l=d++ [(x,u)]:=by
      have h1:=HC.out.fst;rw[hc,List.map_append] at h1;rcases List.eq_nil_or_concat l with hl | ⟨d,⟨x',u⟩,hl⟩
      ·rw[hl] at h1;simp at h1
      ·rw[hl,List.concat_eq_append] at h1;rw[List.map_append] at h1;have h2:=List.append_inj_right' h1 rfl;simp at h2;exact⟨d,u,by rw[hl,List.concat_eq_append,h2]⟩
     obtain⟨g,cap,uo,uc,w1,hv,hu,⟨ua,ub,rfl⟩,run1,hu1,hf1,l',hl',hN⟩:=HC.out.join hx4 z hc hn;have hdl:(d++ [(x,Value.slice ua x.length ub)]).length=d.length+1:=by simp
     rw[hdl] at hv HC hll hlen hN ⊢
     obtain⟨rfl,rfl⟩:vo=some ⟨g,0,none⟩/\vc=cap:=by
      simp only[Value.slice.injEq] at hv;exact⟨hv.1,hv.2.2⟩
     have hbt:bs[d.length]?=some true:=by
      have h1:=HC.out.snd;have h2:=congrArg List.length HC.out.fst;rw[hc] at h1 h2;simp at h2;rw[h1,List.map_append,h2];simp
     obtain⟨gm,rfl,hmc⟩:=Cn.zc9 HC.out.bools hbt;have HN:Hid (l'.length=d.length+1/\Cn.Pz s t oo oc po pc w (w1.setCell ⟨g,d.length,none⟩ (.slice uo (x.length+1) uc)) (.slice (some ⟨g,0,none⟩) (d.length+1) vc) (.slice (some ⟨gm,0,none⟩) (d.length+1) mc) l' bs (k+1)):=⟨hl',hN⟩;clear hv hc hn hN hl' HC hbt HSn HM
     go_wp2_with (at_builtin;refine Lib.wpList_append_run _ rfl _ _ _ _ rfl _ _ rfl rfl _ _ (run1 _) ?_;clear run1)
     go_roundw
     case rel=>exact⟨k+1,l',bs,some ⟨g,0,none⟩,vc,some ⟨gm,0,none⟩,mc,by omega,by go_num,by rw[HN.out.1],by rw[HN.out.1],by rw[HN.out.1];exact HN.out.2⟩
     case measure=>simp[intOf];omega
    ·have hn:Cn.cut (Cn.inS s) (t.take (k+1))=Cn.cut (Cn.inS s) (t.take k)++ [([z],m)]:=by
      rw[HSn.out];rcases List.eq_nil_or_concat (Cn.cut (Cn.inS s) (t.take k)) with h | ⟨e,⟨x,b⟩,h⟩
      ·rw[h];rfl
      ·rw[h,List.concat_eq_append,Cn.zec,if_neg]
       ·simp
       ·rintro ⟨h1,rfl⟩;exact hj ⟨h1,e,x,by rw[h,List.concat_eq_append]⟩
     obtain⟨ao1,cap1,w1,ao2,cap2,w2,run1,run2,l',bs',hl',hN⟩:=HC.out.more (by omega) z m hn;have HN:Hid (l'.length=l.length+1/\Cn.Pz s t oo oc po pc w w2 (.slice ao1 l'.length cap1) (.slice ao2 l'.length cap2) l' bs' (k+1)):=⟨hl',hN⟩;have HHj:Hid (¬(m=true/\∃e x,Cn.cut (Cn.inS s) (t.take k)=e++ [(x,true)])):=hj;clear hn hN hl' hj;cases m with
     | false =>
      clear HC HSn HM HHj
      go_wp2_with (at_builtin;first | (have hq:=run1;clear hq;refine Lib.wpList_append_run _ rfl _ _ _ _ rfl _ _ rfl rfl _ _ (run1 _) ?_;clear run1) | ((fail_if_success (have hq:=run1));refine Lib.wpList_append_run _ rfl _ _ _ _ rfl _ _ rfl rfl _ _ (run2 _) ?_;clear run2) | fail)
      go_roundw
      case rel=>exact⟨k+1,l',bs',ao1,cap1,ao2,cap2,by omega,by go_num,by rw[HN.out.1];(try rfl),by rw[HN.out.1];(try rfl),HN.out.2⟩
      case measure=>simp[intOf];omega
     | true =>
      by_cases hl0:l.length=0
      ·have hl:l= []:=List.eq_nil_of_length_eq_zero hl0;subst hl;clear HC HSn HM HHj
       go_wp2_with (at_builtin;first | (have hq:=run1;clear hq;refine Lib.wpList_append_run _ rfl _ _ _ _ rfl _ _ rfl rfl _ _ (run1 _) ?_;clear run1) | ((fail_if_success (have hq:=run1));refine Lib.wpList_append_run _ rfl _ _ _ _ rfl _ _ rfl rfl _ _ (run2 _) ?_;clear run2) | fail)
       go_roundw
       case rel=>exact⟨k+1,l',bs',ao1,cap1,ao2,cap2,by omega,by go_num,by rw[HN.out.1];(try rfl),by rw[HN.out.1];(try rfl),HN.out.2⟩
       case measure=>simp[intOf];omega
      ·obtain⟨L,hL⟩:∃L,l.length=L+1:=⟨l.length - 1,by omega⟩
       have hbt:bs[L]?=some false:=by
        have hbl:bs.length=L+1:=by omega
        rcases List.eq_nil_or_concat (Cn.cut (Cn.inS s) (t.take k)) with h | ⟨e,⟨x,b⟩,h⟩
        ·have h1:=HC.out.snd;rw[h] at h1;rw[h1] at hbl;simp at hbl
        ·rw[List.concat_eq_append] at h;have h1:=HC.out.snd;rw[h,List.map_append] at h1
         have h2:e.length=L:=by
          rw[h1] at hbl;simpa using hbl
         have hb:b=false:=by
          cases b with
          | false=>rfl
          | true=>exact absurd ⟨rfl,e,x,h⟩ HHj.out
         rw[h1,hb,<- h2];simp
       obtain⟨gm,rfl,hmc⟩:=Cn.zc9 HC.out.bools hbt;have hLi:(l.length:Int) - 1=(L:Int):=by omega
       have hLt:(L:Int)<(l.length:Int):=by omega
       obtain⟨N1,hN1⟩:∃N1,N1=l.length+1:=⟨_,rfl⟩;rw[<- hN1] at HN run1 run2;clear HC HSn HM HHj hbt hL hN1 hl0
       go_wp2_with (at_builtin;first | (have hq:=run1;clear hq;refine Lib.wpList_append_run _ rfl _ _ _ _ rfl _ _ rfl rfl _ _ (run1 _) ?_;clear run1) | ((fail_if_success (have hq:=run1));refine Lib.wpList_append_run _ rfl _ _ _ _ rfl _ _ rfl rfl _ _ (run2 _) ?_;clear run2) | fail)
       go_roundw
       case rel=>exact⟨k+1,l',bs',ao1,cap1,ao2,cap2,by omega,by go_num,by rw[HN.out.1];(try rfl),by rw[HN.out.1];(try rfl),HN.out.2⟩
       case measure=>simp[intOf];omega
  ·have hkl:k=t.length:=by omega
   go_wp2;refine bodyPost_ret (v:= .tuple #[.slice vo l.length vc,.slice mo l.length mc]) (by simp[results,Tryz.results35,go_sem, *]) rfl ?_
   obtain⟨h1,h2,h3,h4,h5,h6⟩:=HI.out;rw[hkl,List.take_length] at h3 h4;have hbs:bs.length=l.length:=HI.out.len.1;rw[hbs,h4] at h2;exact⟨l,vo,vc,mo,mc,rfl,h1,h3,h2,h5⟩
end Go.Proofs.YtddiojckgjobmaaGreat
namespace Go.Proofs.YtddiojckgjobmaaGreat
open Go.RowKit
theorem zeg (s:ByteArray)(w:World) :
  Calls Tryz.prog 34 #[.string s] w fun e w'=>e= .returned (.bool (R.passes s))/\w'=w:=by
 unfold R.passes
 go_enter Tryz.func34,Tryz.ntmps34
 go_wp2
 all_goals go_ret
 all_goals refine⟨L.zae ?_,rfl⟩
 all_goals (rw[Bool.eq_iff_iff];simp;try simp_all)
end Go.Proofs.YtddiojckgjobmaaGreat
namespace Go.Proofs.YtddiojckgjobmaaGreat
open Go.RowKit
theorem zei (w:World)(v:Value)(s:V.Script)(h0:V.ScIs w v s)(hfit:S.Fit s.only) :
  Calls Tryz.prog 23 #[v] w fun e w'=>e= .returned (.agg #[.int .i64 (Cn.wrongF s).1,.int .i64 (Cn.wrongF s).2])/\Below w.heap.size w w':=by
 obtain⟨oo,oc,po,pc,rfl,hO,hOl,hP⟩:=h0;have hPl:=hP.few;have HP:Hid (V.Pas w (.slice po s.passes.length pc) s.passes):=hP;have HSw:Hid (∀X,Below w.heap.size w X->Calls Tryz.prog 14 #[.slice oo s.only.length oc] X fun e w'=>e= .returned (.int .i64 (S.wrongE s.only))/\Below X.heap.size X w'):=fun X hX=>zbm X _ _ (hO.below hX qN) hfit
 obtain⟨⟨o1,o2⟩,HO⟩:∃o,Hid (Cn.wrongF s=o):=⟨_,rfl⟩;rw[HO.out];clear hO hP;have h2:=Cn.zca w (.cells #[.bool s.has,.slice oo s.only.length oc,.slice po s.passes.length pc] 25) (.cells #[.int .i64 0,.int .i64 0] 37);have HX2:Hid (((w.alloc (.cells #[.bool s.has,.slice oo s.only.length oc,.slice po s.passes.length pc] 25)).alloc (.cells #[.int .i64 0,.int .i64 0] 37)).heap[w.heap.size]?=some (.cells #[.bool s.has,.slice oo s.only.length oc,.slice po s.passes.length pc] 25)/\((w.alloc (.cells #[.bool s.has,.slice oo s.only.length oc,.slice po s.passes.length pc] 25)).alloc (.cells #[.int .i64 0,.int .i64 0] 37)).heap[w.heap.size+1]?=some (.cells #[.int .i64 0,.int .i64 0] 37)/\Below w.heap.size w ((w.alloc (.cells #[.bool s.has,.slice oo s.only.length oc,.slice po s.passes.length pc] 25)).alloc (.cells #[.int .i64 0,.int .i64 0] 37))):=h2;clear h2;cases hh:s.has with
 | false =>
  have HS0:Hid (¬(s.has=true/\¬S.wrongE s.only=0)):=fun h=>by
   have:=h.1;rw[hh] at this;cases this
  rw[hh] at HX2;have HX:Hid (_/\_/\_):=HX2.out;clear HX2 HSw
  go_enter Tryz.func23,Tryz.ntmps23
  by_cases hbig:60<s.passes.length
  ·have hw:Cn.wrongF s=(5,0):=by unfold Cn.wrongF;rw[if_neg HS0.out,if_pos hbig]
   rw[HO.out] at hw;cases hw;have hbi:(60:Int)<(s.passes.length:Int):=by omega
   go_wp2;refine bodyPost_ret (v:= .agg #[.int .i64 5,.int .i64 0]) (by simp[results,Tryz.results23,go_sem, *]) rfl ?_
   exact⟨rfl,(Cn.zca w _ _).2.2⟩
  ·have hw:Cn.firstP 0 s.passes=(o1,o2):=by rw[<- HO.out];unfold Cn.wrongF;rw[if_neg HS0.out,if_neg hbig]
   have HF:Hid (Cn.firstP 0 s.passes=(o1,o2)):=hw;have hbi:¬(60:Int)<(s.passes.length:Int):=by omega
   clear hw;go_wp2
   go_loopw [24] (fun i wr=>∃k:Nat,k<=s.passes.length/\i= .int .i64 k/\Hid (Cn.firstP k (s.passes.drop k)=(o1,o2))/\Hid (Below w.heap.size w wr)/\Hid (wr.heap[w.heap.size+1]?=some (.cells #[.int .i64 0,.int .i64 0] 37))) (fun i _=>s.passes.length - (intOf i).toNat)
   case atStart=>exact⟨0,Nat.zero_le _,rfl,HF,HX.out.2.2,HX.out.2.1⟩
   case round =>
    obtain⟨k,hk,rfl,HE,HB,HY⟩:=hrel
    by_cases hlt:k<s.passes.length
    ·obtain⟨p,hp⟩:∃x,s.passes[k]?=some x:=⟨s.passes[k],by simp[hlt]⟩;obtain⟨ao',cap',e',_,hcs⟩:=HP.out.below HB.out;cases e';obtain⟨b,off,rfl,hcell⟩:=hcs (by intro h;rw[h] at hlt;simp at hlt);obtain⟨c0,hn,ro,rc,c1,hr⟩:=hcell k p hp;have HE2:Hid (Cn.firstP k (s.passes.drop k)=if Cn.passE p=0 then Cn.firstP (k+1) (s.passes.drop (k+1)) else (Cn.passE p,(k:Int))):=Cn.zbj hp;have hsz:=HB.out.size;have HW:Hid (∀o,Calls Tryz.prog 33 #[.slice ro p.rules.length rc] (wr.alloc o) fun e w'=>e= .returned (.agg #[.int .i64 (K.rulesF p.rules).1,.int .i64 (K.rulesF p.rules).2])/\Below (wr.alloc o).heap.size (wr.alloc o) w'):=fun o=>zbg _ _ _ (hr.below ((qR wr).alloc qN o))
     have HPa:Hid (∀X,Calls Tryz.prog 34 #[.string p.name] X fun e w'=>e= .returned (.bool (R.passes p.name))/\w'=X):=fun X=>zeg p.name X
     have hrf:=hr.few;have hal:∀o,Below wr.heap.size wr (wr.alloc o):=fun o=>(qR wr).alloc qN o
     have HA:Hid (∀o,Below w.heap.size w (wr.alloc o)/\(wr.alloc o).heap[w.heap.size+1]?=some (.cells #[.int .i64 0,.int .i64 0] 37)):=fun o=>⟨HB.out.trans ((hal o).mono hsz),K.zab HY.out (hal o)⟩
     have hy1:w.heap.size+1<wr.heap.size:=lt_of_block HY.out;clear hp hcell hcs hr;cases h1:(p.name.toList== []) with
     | true =>
      have h1':=eq_of_beq h1;have he:Cn.passE p=(K.rulesF p.rules).1:=by unfold Cn.passE;rw[if_pos h1']
      rw[he] at HE2;obtain⟨⟨r1,r2⟩,hru⟩:∃o,K.rulesF p.rules=o:=⟨_,rfl⟩;rw[hru] at HW HE2;simp only at HW HE2;clear hru he HPa
      go_wp2_with fail
      refine(HW.out _).mono ?_;rintro e w1 ⟨rfl,b1⟩;obtain⟨_,B1,hl1⟩:=K.zao b1;have hY1:w1.heap[w.heap.size+1]?=some (.cells #[.int .i64 0,.int .i64 0] 37):=K.zab HY.out B1;have HB1:Hid (Below w.heap.size w w1):=HB.out.trans (B1.mono hsz);have HY1:Hid (∀o,(w1.alloc o).heap[w.heap.size+1]?=some (.cells #[.int .i64 0,.int .i64 0] 37)/\Below w.heap.size w (w1.alloc o)):=fun o=>⟨K.zab hY1 ((qR w1).alloc qN o),HB1.out.alloc HB1.out.size o⟩
      have k0:∀o,(w1.alloc o).cell? ⟨w.heap.size+1,0,none⟩=some (.int .i64 0):=fun o=>K.zac (K.zaa hY1 rfl) o
      have k1:∀o,(w1.alloc o).cell? ⟨w.heap.size+1,1,none⟩=some (.int .i64 0):=fun o=>K.zac (K.zaa hY1 rfl) o
      have g0:∀o i,(w1.alloc o).frozen? ⟨w.heap.size+1,i,none⟩=false:=fun o i=>K.zad hY1 o i
      obtain⟨x0,x1,f0,f1⟩:=K.box2 hY1;have hy2:w.heap.size+1<w1.heap.size:=lt_of_block hY1;clear b1 B1 hY1
      by_cases hz:r1=0
      ·subst hz;go_wp2
       go_roundw
       case rel=>exact⟨k+1,by omega,by go_num,by show _=_;rw[<- HE.out,HE2.out];simp,(HY1.out _).2,(HY1.out _).1⟩
       case measure=>simp[intOf];omega
      ·go_wp2;refine bodyPost_ret (v:= .agg #[.int .i64 r1,.int .i64 k]) (by simp[results,Tryz.results23,go_sem, *]) rfl ?_
       have h:=HE2.out;rw[HE.out,if_neg hz] at h;cases h;exact⟨rfl,(((HB1.out).setCell (p:=⟨w.heap.size+1,0,none⟩) (by simp) _).setCell (p:=⟨w.heap.size+1,1,none⟩) (by simp) _).alloc (by simp;omega) _⟩
     | false =>
      have h1':¬p.name.toList= []:=by simpa using h1
      have k0:∀o,(wr.alloc o).cell? ⟨w.heap.size+1,0,none⟩=some (.int .i64 0):=fun o=>K.zac (K.zaa HY.out rfl) o
      have k1:∀o,(wr.alloc o).cell? ⟨w.heap.size+1,1,none⟩=some (.int .i64 0):=fun o=>K.zac (K.zaa HY.out rfl) o
      have g0:∀o i,(wr.alloc o).frozen? ⟨w.heap.size+1,i,none⟩=false:=fun o i=>K.zad HY.out o i
      obtain⟨x0,x1,f0,f1⟩:=K.box2 HY.out;cases hps:R.passes p.name with
      | false =>
       have he:Cn.passE p=7:=by unfold Cn.passE;rw[if_neg h1',hps];rfl
       rw[he,HE.out] at HE2;rw[hps] at HPa;have h:=HE2.out;rw[if_neg (by decide)] at h;cases h
       go_wp2_with (go_at_call 34;refine(HPa.out _).mono ?_;rintro e w' ⟨rfl,rfl⟩)
       refine bodyPost_ret (v:= .agg #[.int .i64 7,.int .i64 k]) (by simp[results,Tryz.results23,go_sem, *]) rfl ?_;exact⟨rfl,(((HB.out).setCell (p:=⟨w.heap.size+1,0,none⟩) (by simp) _).setCell (p:=⟨w.heap.size+1,1,none⟩) (by simp) _).alloc (by simp;omega) _⟩
      | true =>
       have he:Cn.passE p=if 0<p.rules.length then 8 else 0:=by unfold Cn.passE;rw[if_neg h1',hps];rfl
       rw[hps] at HPa
       by_cases hz:0<p.rules.length
       ·rw[he,if_pos hz,HE.out] at HE2;have h:=HE2.out;rw[if_neg (by decide)] at h;cases h;have hz':(0:Int)<(p.rules.length:Int):=by omega
        clear he
        go_wp2_with (go_at_call 34;refine(HPa.out _).mono ?_;rintro e w' ⟨rfl,rfl⟩)
        refine bodyPost_ret (v:= .agg #[.int .i64 8,.int .i64 k]) (by simp[results,Tryz.results23,go_sem, *]) rfl ?_;exact⟨rfl,(((HB.out).setCell (p:=⟨w.heap.size+1,0,none⟩) (by simp) _).setCell (p:=⟨w.heap.size+1,1,none⟩) (by simp) _).alloc (by simp;omega) _⟩
       ·rw[he,if_neg hz] at HE2;have hz':¬(0:Int)<(p.rules.length:Int):=by omega
        clear he
        go_wp2_with (go_at_call 34;refine(HPa.out _).mono ?_;rintro e w' ⟨rfl,rfl⟩)
        go_roundw
        case rel=>exact⟨k+1,by omega,by go_num,by show _=_;rw[<- HE.out,HE2.out];simp,(HA.out _).1,(HA.out _).2⟩
        case measure=>simp[intOf];omega
    ·obtain⟨x0,x1,f0,f1⟩:=K.box2 HY.out;have h:=HE.out;rw[List.drop_eq_nil_of_le (by omega)] at h;cases h;go_wp2;refine bodyPost_ret (v:= .agg #[.int .i64 0,.int .i64 0]) (by simp[results,Tryz.results23,go_sem, *]) rfl ?_;exact⟨rfl,((HB.out).setCell (p:=⟨w.heap.size+1,0,none⟩) (by simp) _).setCell (p:=⟨w.heap.size+1,1,none⟩) (by simp) _⟩
 | true =>
  rw[hh] at HX2;have hSw:=HSw.out _ HX2.out.2.2;obtain⟨z,HZ⟩:∃z,Hid (S.wrongE s.only=z):=⟨_,rfl⟩;rw[HZ.out] at hSw
  go_enter Tryz.func23,Tryz.ntmps23
  go_wp2_with fail
  refine hSw.mono ?_;rintro e w1 ⟨rfl,b1⟩;obtain⟨g1,g2,g3⟩:=HX2.out;have HX:Hid (w1.heap[w.heap.size]?=some (.cells #[.bool true,.slice oo s.only.length oc,.slice po s.passes.length pc] 25)/\w1.heap[w.heap.size+1]?=some (.cells #[.int .i64 0,.int .i64 0] 37)/\Below w.heap.size w w1):=⟨K.zab g1 b1,K.zab g2 b1,g3.trans (b1.mono g3.size)⟩;clear g1 g2 g3 b1 hSw HX2 HSw
  by_cases hz:z=0
  ·subst hz;have HS0:Hid (¬(s.has=true/\¬S.wrongE s.only=0)):=fun h=>h.2 HZ.out
   obtain⟨kb,kf,kB⟩:=HX.out;have kp:w1.cell? ⟨w.heap.size,2,none⟩=some (.slice po s.passes.length pc):=K.zaa kb rfl;obtain⟨y0,y1,f0,f1⟩:=K.box2 kf;clear kb kf kB
   by_cases hbig:60<s.passes.length
   ·have hw:Cn.wrongF s=(5,0):=by unfold Cn.wrongF;rw[if_neg HS0.out,if_pos hbig]
    rw[HO.out] at hw;cases hw;have hbi:(60:Int)<(s.passes.length:Int):=by omega
    go_wp2;refine bodyPost_ret (v:= .agg #[.int .i64 5,.int .i64 0]) (by simp[results,Tryz.results23,go_sem, *]) rfl ?_
    exact⟨rfl,((HX.out.2.2).setCell (p:=⟨w.heap.size+1,0,none⟩) (by simp) _).setCell (p:=⟨w.heap.size+1,1,none⟩) (by simp) _⟩
   ·have hw:Cn.firstP 0 s.passes=(o1,o2):=by rw[<- HO.out];unfold Cn.wrongF;rw[if_neg HS0.out,if_neg hbig]
    have HF:Hid (Cn.firstP 0 s.passes=(o1,o2)):=hw;have hbi:¬(60:Int)<(s.passes.length:Int):=by omega
    clear hw y0 y1 f0 f1;go_wp2
    go_loopw [24] (fun i wr=>∃k:Nat,k<=s.passes.length/\i= .int .i64 k/\Hid (Cn.firstP k (s.passes.drop k)=(o1,o2))/\Hid (Below w.heap.size w wr)/\Hid (wr.heap[w.heap.size+1]?=some (.cells #[.int .i64 0,.int .i64 0] 37))) (fun i _=>s.passes.length - (intOf i).toNat)
    case atStart=>exact⟨0,Nat.zero_le _,rfl,HF,HX.out.2.2,HX.out.2.1⟩
    case round =>
     obtain⟨k,hk,rfl,HE,HB,HY⟩:=hrel
     by_cases hlt:k<s.passes.length
     ·obtain⟨p,hp⟩:∃x,s.passes[k]?=some x:=⟨s.passes[k],by simp[hlt]⟩;obtain⟨ao',cap',e',_,hcs⟩:=HP.out.below HB.out;cases e';obtain⟨b,off,rfl,hcell⟩:=hcs (by intro h;rw[h] at hlt;simp at hlt);obtain⟨c0,hn,ro,rc,c1,hr⟩:=hcell k p hp;have HE2:Hid (Cn.firstP k (s.passes.drop k)=if Cn.passE p=0 then Cn.firstP (k+1) (s.passes.drop (k+1)) else (Cn.passE p,(k:Int))):=Cn.zbj hp;have hsz:=HB.out.size;have HW:Hid (∀o,Calls Tryz.prog 33 #[.slice ro p.rules.length rc] (wr.alloc o) fun e w'=>e= .returned (.agg #[.int .i64 (K.rulesF p.rules).1,.int .i64 (K.rulesF p.rules).2])/\Below (wr.alloc o).heap.size (wr.alloc o) w'):=fun o=>zbg _ _ _ (hr.below ((qR wr).alloc qN o))
      have HPa:Hid (∀X,Calls Tryz.prog 34 #[.string p.name] X fun e w'=>e= .returned (.bool (R.passes p.name))/\w'=X):=fun X=>zeg p.name X
      have hrf:=hr.few;have hal:∀o,Below wr.heap.size wr (wr.alloc o):=fun o=>(qR wr).alloc qN o
      have HA:Hid (∀o,Below w.heap.size w (wr.alloc o)/\(wr.alloc o).heap[w.heap.size+1]?=some (.cells #[.int .i64 0,.int .i64 0] 37)):=fun o=>⟨HB.out.trans ((hal o).mono hsz),K.zab HY.out (hal o)⟩
      have hy1:w.heap.size+1<wr.heap.size:=lt_of_block HY.out;clear hp hcell hcs hr;cases h1:(p.name.toList== []) with
      | true =>
       have h1':=eq_of_beq h1;have he:Cn.passE p=(K.rulesF p.rules).1:=by unfold Cn.passE;rw[if_pos h1']
       rw[he] at HE2;obtain⟨⟨r1,r2⟩,hru⟩:∃o,K.rulesF p.rules=o:=⟨_,rfl⟩;rw[hru] at HW HE2;simp only at HW HE2;clear hru he HPa
       go_wp2_with fail
       refine(HW.out _).mono ?_;rintro e w1 ⟨rfl,b1⟩;obtain⟨_,B1,hl1⟩:=K.zao b1;have hY1:w1.heap[w.heap.size+1]?=some (.cells #[.int .i64 0,.int .i64 0] 37):=K.zab HY.out B1;have HB1:Hid (Below w.heap.size w w1):=HB.out.trans (B1.mono hsz);have HY1:Hid (∀o,(w1.alloc o).heap[w.heap.size+1]?=some (.cells #[.int .i64 0,.int .i64 0] 37)/\Below w.heap.size w (w1.alloc o)):=fun o=>⟨K.zab hY1 ((qR w1).alloc qN o),HB1.out.alloc HB1.out.size o⟩
       have k0:∀o,(w1.alloc o).cell? ⟨w.heap.size+1,0,none⟩=some (.int .i64 0):=fun o=>K.zac (K.zaa hY1 rfl) o
       have k1:∀o,(w1.alloc o).cell? ⟨w.heap.size+1,1,none⟩=some (.int .i64 0):=fun o=>K.zac (K.zaa hY1 rfl) o
       have g0:∀o i,(w1.alloc o).frozen? ⟨w.heap.size+1,i,none⟩=false:=fun o i=>K.zad hY1 o i
       obtain⟨x0,x1,f0,f1⟩:=K.box2 hY1;have hy2:w.heap.size+1<w1.heap.size:=lt_of_block hY1;clear b1 B1 hY1
       by_cases hz:r1=0
       ·subst hz;go_wp2
        go_roundw
        case rel=>exact⟨k+1,by omega,by go_num,by show _=_;rw[<- HE.out,HE2.out];simp,(HY1.out _).2,(HY1.out _).1⟩
        case measure=>simp[intOf];omega
       ·go_wp2;refine bodyPost_ret (v:= .agg #[.int .i64 r1,.int .i64 k]) (by simp[results,Tryz.results23,go_sem, *]) rfl ?_
        have h:=HE2.out;rw[HE.out,if_neg hz] at h;cases h;exact⟨rfl,(((HB1.out).setCell (p:=⟨w.heap.size+1,0,none⟩) (by simp) _).setCell (p:=⟨w.heap.size+1,1,none⟩) (by simp) _).alloc (by simp;omega) _⟩
      | false =>
       have h1':¬p.name.toList= []:=by simpa using h1
       have k0:∀o,(wr.alloc o).cell? ⟨w.heap.size+1,0,none⟩=some (.int .i64 0):=fun o=>K.zac (K.zaa HY.out rfl) o
       have k1:∀o,(wr.alloc o).cell? ⟨w.heap.size+1,1,none⟩=some (.int .i64 0):=fun o=>K.zac (K.zaa HY.out rfl) o
       have g0:∀o i,(wr.alloc o).frozen? ⟨w.heap.size+1,i,none⟩=false:=fun o i=>K.zad HY.out o i
       obtain⟨x0,x1,f0,f1⟩:=K.box2 HY.out;cases hps:R.passes p.name with
       | false =>
        have he:Cn.passE p=7:=by unfold Cn.passE;rw[if_neg h1',hps];rfl
        rw[he,HE.out] at HE2;rw[hps] at HPa;have h:=HE2.out;rw[if_neg (by decide)] at h;cases h
        go_wp2_with (go_at_call 34;refine(HPa.out _).mono ?_;rintro e w' ⟨rfl,rfl⟩)
        refine bodyPost_ret (v:= .agg #[.int .i64 7,.int .i64 k]) (by simp[results,Tryz.results23,go_sem, *]) rfl ?_;exact⟨rfl,(((HB.out).setCell (p:=⟨w.heap.size+1,0,none⟩) (by simp) _).setCell (p:=⟨w.heap.size+1,1,none⟩) (by simp) _).alloc (by simp;omega) _⟩
       | true =>
        have he:Cn.passE p=if 0<p.rules.length then 8 else 0:=by unfold Cn.passE;rw[if_neg h1',hps];rfl
        rw[hps] at HPa
        by_cases hz:0<p.rules.length
        ·rw[he,if_pos hz,HE.out] at HE2;have h:=HE2.out;rw[if_neg (by decide)] at h;cases h;have hz':(0:Int)<(p.rules.length:Int):=by omega
         clear he
         go_wp2_with (go_at_call 34;refine(HPa.out _).mono ?_;rintro e w' ⟨rfl,rfl⟩)
         refine bodyPost_ret (v:= .agg #[.int .i64 8,.int .i64 k]) (by simp[results,Tryz.results23,go_sem, *]) rfl ?_;exact⟨rfl,(((HB.out).setCell (p:=⟨w.heap.size+1,0,none⟩) (by simp) _).setCell (p:=⟨w.heap.size+1,1,none⟩) (by simp) _).alloc (by simp;omega) _⟩
        ·rw[he,if_neg hz] at HE2;have hz':¬(0:Int)<(p.rules.length:Int):=by omega
         clear he
         go_wp2_with (go_at_call 34;refine(HPa.out _).mono ?_;rintro e w' ⟨rfl,rfl⟩)
         go_roundw
         case rel=>exact⟨k+1,by omega,by go_num,by show _=_;rw[<- HE.out,HE2.out];simp,(HA.out _).1,(HA.out _).2⟩
         case measure=>simp[intOf];omega
     ·obtain⟨x0,x1,f0,f1⟩:=K.box2 HY.out;have h:=HE.out;rw[List.drop_eq_nil_of_le (by omega)] at h;cases h;go_wp2;refine bodyPost_ret (v:= .agg #[.int .i64 0,.int .i64 0]) (by simp[results,Tryz.results23,go_sem, *]) rfl ?_;exact⟨rfl,((HB.out).setCell (p:=⟨w.heap.size+1,0,none⟩) (by simp) _).setCell (p:=⟨w.heap.size+1,1,none⟩) (by simp) _⟩
  ·have hw:Cn.wrongF s=(z,0):=by unfold Cn.wrongF;rw[if_pos ⟨hh,by rw[HZ.out];exact hz⟩,HZ.out]
   rw[HO.out] at hw;cases hw;obtain⟨y0,y1,f0,f1⟩:=K.box2 HX.out.2.1;go_wp2;refine bodyPost_ret (v:= .agg #[.int .i64 o1,.int .i64 0]) (by simp[results,Tryz.results23,go_sem, *]) rfl ?_;exact⟨rfl,((HX.out.2.2).setCell (p:=⟨w.heap.size+1,0,none⟩) (by simp) _).setCell (p:=⟨w.heap.size+1,1,none⟩) (by simp) _⟩
end Go.Proofs.YtddiojckgjobmaaGreat
namespace Go.Proofs.YtddiojckgjobmaaGreat
open Go.RowKit Go.Lib
namespace Cn
structure Og (pl:Pl) (ps:List V.Pass) (c:List (List Int×Bool)) (W wr:World) (vo:Value) (i:Nat) (o:List Int) (q:List Int×Int×Int):Prop where
 own:wr.ownsRow W.heap.size 21 1 vo o.length (K.ints o)
 few:o.length<=4000*i
 bel:Below W.heap.size W wr
 res:runP pl ps (c.drop i) o=q
theorem Og.below {pl:Pl}{ps:List V.Pass}{c:List (List Int×Bool)}{W wr w':World}{vo:Value}{i:Nat}{o:List Int}{q:List Int×Int×Int}(h:Og pl ps c W wr vo i o q)(hb:Below wr.heap.size wr w'):Og pl ps c W w' vo i o q :=
 ⟨Ws.kept1 h.own fun g hg=>hb.block g (h.own.lt g hg).2,h.few,h.bel.trans (hb.mono h.bel.size),h.res⟩
theorem zjt {F:Nat}{w:World}{vo:Option Addr}{n vc:Nat}{l:List (List Int×Value)}(h:Pcs F w (.slice vo n vc) l){j:Nat}{x:List Int}{u:Value}(hj:l[j]?=some (x,u)):∃gp,vo=some ⟨gp,0,none⟩/\w.cell? ⟨gp,j,none⟩=some u:=by
 have hlt:=(qL.1 hj).1;rcases h.row.2 with ⟨_,h0⟩|⟨g,cap,cur,hv,_,hx,_,_,_,htk⟩
 ·omega
 ·simp only[Value.slice.injEq] at hv;refine⟨g,hv.1,K.zaa hx ?_⟩;rw[Nat.mul_one] at htk;have e:(cur.toList.take l.length)[j]?=some u:=by rw[htk,List.getElem?_map,hj];rfl
  rw[List.getElem?_take,if_pos hlt] at e;simpa using e
theorem zhg {w:World}{F:Nat}{mo:Option Addr}{n mc:Nat}{bs:List Bool}(h:w.ownsRow F 4 1 (.slice mo n mc) n (bs.map Value.bool)){j:Nat}{b:Bool}(hj:bs[j]?=some b):∃gm,mo=some ⟨gm,0,none⟩/\w.cell? ⟨gm,j,none⟩=some (.bool b):=by
 have e:bs.length=n:=by have:=h.1;simpa using this
 subst e;exact zc9 h hj
theorem Og.add {pl:Pl}{ps:List V.Pass}{c:List (List Int×Bool)}{W wr:World}{vo:Value}{i:Nat}{o:List Int}{q:List Int×Int×Int}(h:Og pl ps c W wr vo i o q)(hi:i<=4000)(vx:Value)(y:List Int)(hx:L.Rd wr vx .i32 y)(hy:y.length<=4000)(hr:runP pl ps (c.drop (i+1)) (o++y)=q) :
  ∃ao' vc' w',(∀ty,(Builtin.append_ #[26,26] ty #[vo,vx]).run Tryz.prog wr= .ok (.slice ao' (o++y).length vc') w')/\Og pl ps c W w' (.slice ao' (o++y).length vc') (i+1) (o++y) q:=by
 have hfew:=h.few;obtain⟨v',w',run,own,gr,_⟩:=K.zb9 wr W.heap.size vo o h.own vx y hx (by omega) h.bel.size
 obtain⟨ao',vc',rfl⟩:∃ao cap,v'= .slice ao (o++y).length cap:=by
  rcases own.2 with ⟨hv,h0⟩|⟨g,cap,cur,hv,_⟩
  ·exact⟨none,0,by rw[hv,h0]⟩
  ·exact⟨_,cap,hv⟩
 exact⟨ao',vc',w',run,own,by rw[List.length_append];omega,h.bel.grown gr h.bel.size fun k hk=>(h.own.lt k hk).1,hr⟩
end Cn
theorem zk2 (pl:Cn.Pl)(hpl:Cn.PlOk pl)(w:World)(v:Value)(s:V.Script)(h0:V.ScIs w v s)(hfit:S.Fit s.only)(xo:Option Addr)(xc:Nat)(t:List Int)(Rt:L.Rd w (.slice xo t.length xc) .i32 t)(hcap:t.length<=xc)(ht:t.length<=140737488355328) :
  Calls Tryz.prog 24 #[v,.slice xo t.length xc] w fun e w'=>∃v',e= .returned (.tuple #[v',.agg #[.int .i64 (Cn.goF pl s t).2.1,.int .i64 (Cn.goF pl s t).2.2]])/\L.Rd w' v' .i32 (Cn.goF pl s t).1/\Below w.heap.size w w':=by
 have HWr:Hid (∀X,Below w.heap.size w X->Calls Tryz.prog 23 #[v] X fun e w'=>e= .returned (.agg #[.int .i64 (Cn.wrongF s).1,.int .i64 (Cn.wrongF s).2])/\Below X.heap.size X w'):=fun X hX=>zei X v s (h0.below hX) hfit
 have HTx:Hid (∀X,Below w.heap.size w X->Calls Tryz.prog 15 #[.slice xo t.length xc] X fun e w'=>e= .returned (.int .i64 (K.textE t))/\Below X.heap.size X w'):=fun X hX=>zb4 X _ t (Rt.below hX qN) ht
 obtain⟨⟨g,g1,g2⟩,HG⟩:∃o,Hid (Cn.goF pl s t=o):=⟨_,rfl⟩;rw[HG.out];obtain⟨oo,oc,po,pc,rfl,hO,hOl,hP⟩:=h0;have HIn:Hid (S.Rd w (.slice oo s.only.length oc) s.only/\V.Pas w (.slice po s.passes.length pc) s.passes/\L.Rd w (.slice xo t.length xc) .i32 t/\Cn.PlOk pl):=⟨hO,hP,Rt,hpl⟩;obtain⟨W0,hW0⟩:∃W0,W0=(w.alloc (.cells #[.bool s.has,.slice oo s.only.length oc,.slice po s.passes.length pc] 25)).alloc (.cells #[.int .i64 0,.int .i64 0] 37):=⟨_,rfl⟩;have h2:=Cn.zca w (.cells #[.bool s.has,.slice oo s.only.length oc,.slice po s.passes.length pc] 25) (.cells #[.int .i64 0,.int .i64 0] 37);rw[<- hW0] at h2;have HA0:Hid (Cn.At w W0 (.bool s.has) (.slice oo s.only.length oc) (.slice po s.passes.length pc)):=⟨h2.2.2,K.zaa h2.1 rfl,K.zaa (i:=1) h2.1 rfl,K.zaa (i:=2) h2.1 rfl,h2.2.1⟩;have hWr:=HWr.out W0 HA0.out.1;obtain⟨⟨e1,e2⟩,HE⟩:∃o,Hid (Cn.wrongF s=o):=⟨_,rfl⟩;rw[HE.out] at hWr;have HW1:Hid (Calls Tryz.prog 23 #[.agg #[.bool s.has,.slice oo s.only.length oc,.slice po s.passes.length pc]] W0 fun e w'=>e= .returned (.agg #[.int .i64 e1,.int .i64 e2])/\Below W0.heap.size W0 w'):=hWr;have hPl:=hP.few;have HW0:Hid (W0=(w.alloc (.cells #[.bool s.has,.slice oo s.only.length oc,.slice po s.passes.length pc] 25)).alloc (.cells #[.int .i64 0,.int .i64 0] 37)):=hW0;clear hWr h2 hO hP Rt hpl HWr hW0
 go_enter Tryz.func24,Tryz.ntmps24
 go_wp2_with fail
 rw[<- HW0.out];refine HW1.out.mono ?_;rintro e w1 ⟨rfl,b1⟩;have hA1:=HA0.out.below b1;have HA1:Hid (∀o,Cn.At w (w1.alloc o) (.bool s.has) (.slice oo s.only.length oc) (.slice po s.passes.length pc)):=fun o=>hA1.alloc o
 have hx1:w.heap.size+1<w1.heap.size:=lt_of_block hA1.2.2.2.2;obtain⟨x0,x1,f0,f1⟩:=K.box2 hA1.2.2.2.2;have k0:∀o,(w1.alloc o).cell? ⟨w.heap.size+1,0,none⟩=some (.int .i64 0):=fun o=>K.zac x0 o
 have k1:∀o,(w1.alloc o).cell? ⟨w.heap.size+1,1,none⟩=some (.int .i64 0):=fun o=>K.zac x1 o
 have fz:∀o i,(w1.alloc o).frozen? ⟨w.heap.size+1,i,none⟩=false:=fun o i=>K.zad hA1.2.2.2.2 o i
 have HB1:Hid (Below w.heap.size w w1):=hA1.1;clear b1 hA1 HW1 HA0 HW0
 by_cases q1:e1=0
 ·subst q1;have HTt:Hid (∀o,Calls Tryz.prog 15 #[.slice xo t.length xc] (w1.alloc o) fun e w'=>e= .returned (.int .i64 (K.textE t))/\Below (w1.alloc o).heap.size (w1.alloc o) w'):=fun o=>HTx.out _ (HA1.out o).1
  obtain⟨z,HZ⟩:∃z,Hid (K.textE t=z):=⟨_,rfl⟩;rw[HZ.out] at HTt;clear HTx k0 k1 fz x0 x1 f0 f1
  go_wp2_with fail
  refine(HTt.out _).mono ?_;rintro e w2 ⟨rfl,b2⟩;have hA2:=(HA1.out _).below b2;have HA2:Hid (Cn.At w w2 (.bool s.has) (.slice oo s.only.length oc) (.slice po s.passes.length pc)):=hA2;obtain⟨x0,x1,f0,f1⟩:=K.box2 hA2.2.2.2.2;have hx2:w.heap.size+1<w2.heap.size:=lt_of_block hA2.2.2.2.2;clear b2 hA2 HTt HA1 HB1
  by_cases q2:z=0
  ·subst q2;have hW:=Cn.zcs (s:=s) (by rw[HE.out]);have hT:=Cn.zdr.1 HZ.out
   have HGo:Hid ((g,g1,g2)=if (Cn.runP pl s.passes (Cn.cut (Cn.inS s) t) []).2.1=0 then
    (if 4000<(Cn.runP pl s.passes (Cn.cut (Cn.inS s) t) []).1.length then ([],4,(s.passes.length:Int)) else ((Cn.runP pl s.passes (Cn.cut (Cn.inS s) t) []).1,0,0))
   else ([],(Cn.runP pl s.passes (Cn.cut (Cn.inS s) t) []).2)):=by
    show _=_;rw[<- HG.out,Cn.goF,if_pos (by rw[HE.out]),if_pos HZ.out]
   have HSc:Hid (∀X,Below w.heap.size w X->V.ScIs X (.agg #[.bool s.has,.slice oo s.only.length oc,.slice po s.passes.length pc]) s):=fun X hX=>⟨oo,oc,po,pc,rfl,HIn.out.1.below hX qN,hOl,HIn.out.2.1.below hX⟩
   have HPc:=zfj w2 _ s (HSc.out w2 HA2.out.1) _ t (HIn.out.2.2.1.below HA2.out.1 qN) hT.1;have HPi:Hid (Calls Tryz.prog 35 #[.agg #[.bool s.has,.slice oo s.only.length oc,.slice po s.passes.length pc],.slice xo t.length xc] w2 fun e w'=>∃(l:List (List Int×Value)) (vo:Option Addr) (vc:Nat) (mo:Option Addr) (mc:Nat),e= .returned (.tuple #[.slice vo l.length vc,.slice mo l.length mc])/\Cn.Pcs (w2.heap.size+1) w' (.slice vo l.length vc) l/\l.map (·.1)=(Cn.cut (Cn.inS s) t).map (·.1)/\w'.ownsRow (w2.heap.size+1) 4 1 (.slice mo l.length mc) l.length (((Cn.cut (Cn.inS s) t).map (·.2)).map Value.bool)/\Below w2.heap.size w2 w'):=HPc;have HTr:Hid (Cn.Tx t/\(∀p∈s.passes,Cn.passE p=0)/\s.passes.length<=60):=⟨hT,hW.2.2.1,hW.2.1⟩;obtain⟨c,hc⟩:∃c,c=Cn.cut (Cn.inS s) t:=⟨_,rfl⟩;obtain⟨⟨q,r1,r2⟩,hQ⟩:∃o,Cn.runP pl s.passes c []=o:=⟨_,rfl⟩;rw[<- hc] at HPi HGo;rw[hQ] at HGo;simp only at HGo;have HCt:Hid ((∀q∈c,Cn.Tx q.1)/\c.length<=4000):=⟨fun q hq=>Cn.zk7 hT q (by rw[<- hc];exact hq),by rw[hc];exact Nat.le_trans Cn.zi1 hT.1⟩;have HQ:Hid (Cn.runP pl s.passes c []=(q,r1,r2)):=hQ;have k0:=HA2.out.2.1;have k1:=HA2.out.2.2.1;have k2:=HA2.out.2.2.2.1;clear hc hQ HPc hW hT x0 x1 f0 f1
   go_wp2_with fail
   refine HPi.out.mono ?_;rintro e W ⟨l,vo,vc,mo,mc,rfl,hP1,hP2,hP3,b3⟩;have HAt:Hid (Cn.At w W (.bool s.has) (.slice oo s.only.length oc) (.slice po s.passes.length pc)):=HA2.out.below b3
   have hlc:l.length=c.length:=by
    have:=congrArg List.length hP2;simpa using this
   have hl4:l.length<=4000:=by have:=HCt.out.2;omega
   have HPs:Hid (Cn.Pcs (w2.heap.size+1) W (.slice vo l.length vc) l/\l.map (·.1)=c.map (·.1)/\W.ownsRow (w2.heap.size+1) 4 1 (.slice mo l.length mc) l.length ((c.map (·.2)).map Value.bool)/\l.length=c.length):=⟨hP1,hP2,hP3,hlc⟩;have HOg0:Hid (Cn.Og pl s.passes c W W (.slice none ([]:List Int).length 0) 0 [] (q,r1,r2)):=⟨World.ownsRow_nil _ _ _ _,by simp,qR _,HQ.out⟩;clear hP1 hP2 hP3 b3 HPi k0 k1 k2 hlc HA2;go_wp2
   go_loopw [10,37] (fun i10 i wr=>∃(j:Nat) (o:List Int) (uo:Option Addr) (uc:Nat),j<=l.length/\i= .int .i64 j/\i10= .slice uo o.length uc/\Hid (Cn.Og pl s.passes c W wr (.slice uo o.length uc) j o (q,r1,r2))) (fun _ i _=>l.length - (intOf i).toNat)
   case atStart=>exact⟨0,[],none,0,Nat.zero_le _,rfl,rfl,HOg0⟩
   case round =>
    obtain⟨j,o,uo,uc,hj,rfl,rfl,HO⟩:=hrel;have hAt:=HAt.out.below HO.out.bel;clear HOg0
    by_cases hlt:j<l.length
    ·skip
     obtain⟨⟨x,m⟩,hx⟩:∃x,c[j]?=some x:=⟨c[j]'(by have:=HPs.out.2.2.2;omega),by simp⟩
     obtain⟨u,hu⟩:∃u,l[j]?=some (x,u):=by
      obtain⟨⟨x',u⟩,hl⟩:∃p,l[j]?=some p:=⟨l[j],by simp[hlt]⟩;have h1:(l.map (·.1))[j]?=(c.map (·.1))[j]?:=by rw[HPs.out.2.1]
      rw[List.getElem?_map,List.getElem?_map,hl,hx] at h1;simp at h1;exact⟨u,by rw[hl,h1]⟩
     obtain⟨gp,rfl,hpc⟩:=Cn.zjt HPs.out.1 hu;obtain⟨gm,rfl,hmc⟩:=Cn.zhg HPs.out.2.2.1 (j:=j) (b:=m) (by rw[List.getElem?_map,hx];rfl);have hux:=HPs.out.1.each (x,u) (List.mem_of_getElem? hu)
     obtain⟨ua,ub,rfl⟩:∃ua ub,u= .slice ua x.length ub:=by
      rcases hux.2 with ⟨hv,h0⟩|⟨g,cap,cur,hv,_⟩
      ·exact⟨none,0,by simp only at hv h0;rw[hv,h0]⟩
      ·exact⟨_,_,hv⟩
     have hrx:L.Rd wr (.slice ua x.length ub) .i32 x:=(L.Rd.zaq hux).below HO.out.bel qN;rw[<- HO.out.bel.cell (p:=⟨gp,j,none⟩) (L.block_lt hpc)] at hpc;rw[<- HO.out.bel.cell (p:=⟨gm,j,none⟩) (L.block_lt hmc)] at hmc;have HTx:Hid (Cn.Tx x):=HCt.out.1 (x,m) (List.mem_of_getElem? hx)
     have HRs:Hid ((q,r1,r2)=if m=true then (if (Cn.thru pl 0 s.passes x).2.1=0 then Cn.runP pl s.passes (c.drop (j+1)) (o++(Cn.thru pl 0 s.passes x).1) else ([],(Cn.thru pl 0 s.passes x).2)) else Cn.runP pl s.passes (c.drop (j+1)) (o++x)):=by
      show _=_;rw[<- HO.out.res,Cn.zid hx]
     have HRx:Hid (L.Rd wr (.slice ua x.length ub) .i32 x):=hrx;have kp:=hAt.2.2.2.1;have HAw:Hid (Cn.At w wr (.bool s.has) (.slice oo s.only.length oc) (.slice po s.passes.length pc)):=hAt;clear hux hrx hu hx hAt;cases m with
     | false =>
      have HY0:Hid (L.Rd wr (.slice ua x.length ub) .i32 x/\x.length<=4000/\Cn.Og pl s.passes c W wr (.slice uo o.length uc) j o (q,r1,r2)/\Cn.runP pl s.passes (c.drop (j+1)) (o++x)=(q,r1,r2)):=⟨HRx.out,HTx.out.1,HO.out,by have:=HRs.out;rw[if_neg (by simp)] at this;exact this.symm⟩;obtain⟨y,yo,yc,hy,HY⟩:∃y yo yc,Value.slice ua x.length ub=Value.slice yo y.length yc/\Hid (L.Rd wr (.slice yo y.length yc) .i32 y/\y.length<=4000/\Cn.Og pl s.passes c W wr (.slice uo o.length uc) j o (q,r1,r2)/\Cn.runP pl s.passes (c.drop (j+1)) (o++y)=(q,r1,r2)):=⟨x,ua,ub,rfl,HY0⟩;rw[hy] at hpc;clear hy HY0 HRs HRx HTx;obtain⟨ao3,vc3,w7,run3,hN⟩:=HY.out.2.2.1.add (by omega) (.slice yo y.length yc) y HY.out.1 HY.out.2.1 HY.out.2.2.2;obtain⟨N3,hN3⟩:∃N3,N3=(o++y).length:=⟨_,rfl⟩;have HN:Hid (N3=(o++y).length/\Cn.Og pl s.passes c W w7 (.slice ao3 (o++y).length vc3) (j+1) (o++y) (q,r1,r2)):=⟨hN3,hN⟩;rw[<- hN3] at run3;clear hN hN3;clear HY HO HAw
      go_wp2_with (at_builtin;refine Lib.wpList_append_run _ rfl _ _ _ _ rfl _ _ rfl rfl _ _ (run3 _) ?_;clear run3)
      go_roundw
      case rel=>exact⟨j+1,o++y,ao3,vc3,by omega,by go_num,by rw[HN.out.1],HN.out.2⟩
      case measure=>simp[intOf];omega
     | true =>
      obtain⟨⟨th,t1,t2⟩,hth⟩:∃q,Cn.thru pl 0 s.passes x=q:=⟨_,rfl⟩;rw[hth] at HRs;simp only[if_true] at HRs;have HTh:Hid (Cn.thru pl 0 s.passes x=(th,t1,t2)):=hth;have HTl:Hid (Cn.Tx th):=by have:=Cn.zfa HIn.out.2.2.2.2 (l:=s.passes) (k:=0) HTx.out;rw[hth] at this;exact this
      obtain⟨wo,hwo⟩:∃wo,wo=wr:=⟨_,rfl⟩;rw[<- hwo] at HO HAw HRx hpc hmc kp ⊢;clear hth hwo;go_wp2
      go_loopw [12,49] (fun i12 i wr=>∃(k:Nat) (y:List Int) (yo:Option Addr) (yc:Nat),k<=s.passes.length/\i= .int .i64 k/\i12= .slice yo y.length yc/\Hid (Cn.thru pl k (s.passes.drop k) y=(th,t1,t2))/\Hid (L.Rd wr (.slice yo y.length yc) .i32 y/\Cn.Tx y/\Below wo.heap.size wo wr)) (fun _ i _=>s.passes.length - (intOf i).toNat)
      case atStart=>exact⟨0,x,ua,ub,Nat.zero_le _,rfl,rfl,HTh,⟨HRx.out,HTx.out,qR _⟩⟩
      case round =>
       obtain⟨k,y,yo,yc,hk,rfl,rfl,HE,HX⟩:=hrel;have hAt2:=HAw.out.below HX.out.2.2
       by_cases hkl:k<s.passes.length
       ·obtain⟨p,hp⟩:∃x,s.passes[k]?=some x:=⟨s.passes[k],by simp[hkl]⟩;obtain⟨ao',cap',e',_,hcs⟩:=HIn.out.2.1.below hAt2.1;cases e';obtain⟨b,off,rfl,hcell⟩:=hcs (by intro h;rw[h] at hkl;simp at hkl);obtain⟨c0,hn,ro,rc,c1,hr⟩:=hcell k p hp;have hal:∀o,Below wr.heap.size wr (wr.alloc o):=fun o=>(qR wr).alloc qN o
        have HCp:Hid (∀o,Calls Tryz.prog 36 #[.agg #[.string p.name,.slice ro p.rules.length rc],.slice yo y.length yc] (wr.alloc o) fun e w'=>∃v',e= .returned (.tuple #[v',.int .i64 (Cn.passF pl p y).2])/\L.Rd w' v' .i32 (Cn.passF pl p y).1/\Below (wr.alloc o).heap.size (wr.alloc o) w'):=fun o=>zfk pl HIn.out.2.2.2 _ p ro rc (hr.below (hal o)) (HTr.out.2.1 p (List.mem_of_getElem? hp)) _ y (HX.out.1.below (hal o) qN) HX.out.2.1
        have HE2:Hid (Cn.thru pl k (s.passes.drop k) y=if (Cn.passF pl p y).2=0 then Cn.thru pl (k+1) (s.passes.drop (k+1)) (Cn.passF pl p y).1 else ([],(Cn.passF pl p y).2,(k:Int))):=Cn.zea hp;have HTy:Hid (Cn.Tx (Cn.passF pl p y).1):=Cn.zdy HIn.out.2.2.2.2 HX.out.2.1;obtain⟨⟨y2,z⟩,hq⟩:∃q,Cn.passF pl p y=q:=⟨_,rfl⟩;rw[hq] at HCp HE2 HTy;simp only at HCp HE2 HTy;have HA2:Hid (Cn.At w wr (.bool s.has) (.slice oo s.only.length oc) (.slice (some ⟨b,off,none⟩) s.passes.length pc)):=hAt2;clear hp hcs hcell hr hq hAt2 hal
        go_wp2_with fail
        refine(HCp.out _).mono ?_;rintro e w6 ⟨v6,rfl,d6,b6⟩;obtain⟨va,vb,rfl⟩:∃va vc,v6= .slice va y2.length vc:=by obtain⟨a,c,h,_⟩:=d6;exact⟨a,c,h⟩
        obtain⟨_,B6,s6⟩:=K.zao b6;have HA6:Hid (Cn.At w w6 (.bool s.has) (.slice oo s.only.length oc) (.slice (some ⟨b,off,none⟩) s.passes.length pc)):=HA2.out.below B6;have HX6:Hid (L.Rd w6 (.slice va y2.length vb) .i32 y2/\Cn.Tx y2/\Below wo.heap.size wo w6):=⟨d6,HTy.out,HX.out.2.2.trans (B6.mono HX.out.2.2.size)⟩;clear d6 b6 B6 HCp HX HA2
        by_cases hz:z=0
        ·subst hz;go_wp2
         go_roundw
         case rel=>exact⟨k+1,y2,va,vb,by omega,by go_num,rfl,by show _=_;rw[<- HE.out,HE2.out];simp,HX6⟩
         case measure=>simp[intOf];omega
        ·have h:=HE2.out;rw[HE.out,if_neg hz] at h;simp only[Prod.mk.injEq] at h;obtain⟨rfl,rfl,rfl⟩:=h;have h2:=HRs.out;rw[if_neg hz] at h2;simp only[Prod.mk.injEq] at h2;obtain⟨rfl,rfl,rfl⟩:=h2;have h3:=HGo.out;rw[if_neg hz] at h3;simp only[Prod.mk.injEq] at h3;obtain⟨rfl,rfl,rfl⟩:=h3;obtain⟨x0,x1,f0,f1⟩:=K.box2 HA6.out.2.2.2.2;go_wp2;refine bodyPost_ret (v:= .tuple #[.slice none 0 0,.agg #[.int .i64 g1,.int .i64 k]]) (by simp[results,Tryz.results24,go_sem, *]) rfl ?_;exact⟨_,rfl,⟨none,0,rfl,fun _=>rfl,fun h=>absurd rfl h⟩,(HA6.out.1.setCell (p:=⟨w.heap.size+1,0,none⟩) (by simp) _).setCell (p:=⟨w.heap.size+1,1,none⟩) (by simp) _⟩
       ·have h:=HE.out;rw[List.drop_eq_nil_of_le (by omega)] at h;simp only[Cn.thru,Prod.mk.injEq] at h;obtain⟨rfl,rfl,rfl⟩:=h;have HY:Hid (L.Rd wr (.slice yo y.length yc) .i32 y/\y.length<=4000/\Cn.Og pl s.passes c W wr (.slice uo o.length uc) j o (q,r1,r2)/\Cn.runP pl s.passes (c.drop (j+1)) (o++y)=(q,r1,r2)):=⟨HX.out.1,HX.out.2.1.1,HO.out.below HX.out.2.2,by have:=HRs.out;rw[if_pos rfl] at this;exact this.symm⟩;obtain⟨ao3,vc3,w7,run3,hN⟩:=HY.out.2.2.1.add (by omega) (.slice yo y.length yc) y HY.out.1 HY.out.2.1 HY.out.2.2.2;obtain⟨N3,hN3⟩:∃N3,N3=(o++y).length:=⟨_,rfl⟩;have HN:Hid (N3=(o++y).length/\Cn.Og pl s.passes c W w7 (.slice ao3 (o++y).length vc3) (j+1) (o++y) (q,r1,r2)):=⟨hN3,hN⟩;rw[<- hN3] at run3;clear hN hN3;clear HY HO HAw HRs HRx HTx HE HX hAt2
        go_wp2_with (at_builtin;refine Lib.wpList_append_run _ rfl _ _ _ _ rfl _ _ rfl rfl _ _ (run3 _) ?_;clear run3)
        go_roundw
        case rel=>exact⟨j+1,o++y,ao3,vc3,by omega,by go_num,by rw[HN.out.1],HN.out.2⟩
        case measure=>simp[intOf];omega
    ·have hjl:j=l.length:=by omega
     have hq:=HO.out.res;rw[List.drop_eq_nil_of_le (by have:=HPs.out.2.2.2;omega)] at hq;simp only[Cn.runP,Prod.mk.injEq] at hq;obtain⟨rfl,rfl,rfl⟩:=hq;have hof:o.length<=16000000:=by have:=HO.out.few;omega
     have p2:=hAt.2.2.2.1;obtain⟨y0,y1,g0,g1'⟩:=K.box2 hAt.2.2.2.2;have HM:Hid (Cn.At w wr (.bool s.has) (.slice oo s.only.length oc) (.slice po s.passes.length pc)):=hAt;clear hAt
     by_cases q4:4000<o.length
     ·have h:=HGo.out;rw[if_pos rfl,if_pos q4] at h;simp only[Prod.mk.injEq] at h;obtain⟨rfl,rfl,rfl⟩:=h;have q4':(4000:Int)<(o.length:Int):=by omega
      go_wp2
      go_region
      go_wp2;refine bodyPost_ret (v:= .tuple #[.slice none 0 0,.agg #[.int .i64 4,.int .i64 s.passes.length]]) (by simp[results,Tryz.results24,go_sem, *]) rfl ?_
      exact⟨_,rfl,⟨none,0,rfl,fun _=>rfl,fun h=>absurd rfl h⟩,((HM.out.1.setCell (p:=⟨w.heap.size+1,0,none⟩) (by simp) _).setCell (p:=⟨w.heap.size+1,1,none⟩) (by simp) _).drew⟩
     ·have h:=HGo.out;rw[if_pos rfl,if_neg q4] at h;simp only[Prod.mk.injEq] at h;obtain⟨rfl,rfl,rfl⟩:=h;have q4':¬(4000:Int)<(g.length:Int):=by omega
      go_wp2;refine bodyPost_ret (v:= .tuple #[.slice uo g.length uc,.agg #[.int .i64 0,.int .i64 0]]) (by simp[results,Tryz.results24,go_sem, *]) rfl ?_
      refine⟨_,rfl,K.zaz (L.Rd.zaq HO.out.own) fun hz k hk=> ?_,(HM.out.1.setCell (p:=⟨w.heap.size+1,0,none⟩) (by simp) _).setCell (p:=⟨w.heap.size+1,1,none⟩) (by simp) _⟩;have hne:=K.zjn (L.Rd.zaq HO.out.own) HM.out.2.2.2.2 hz k hk;rw[heap_setCell_other _ ⟨w.heap.size+1,1,none⟩ k _ (by simpa using hne),heap_setCell_other _ ⟨w.heap.size+1,0,none⟩ k _ (by simpa using hne)]
  ·have h:(g,g1,g2)=([],z,0):=by rw[<- HG.out,Cn.goF,if_pos (by rw[HE.out]),if_neg (by rw[HZ.out];exact q2),HZ.out]
   simp only[Prod.mk.injEq] at h;obtain⟨rfl,rfl,rfl⟩:=h;go_wp2;refine bodyPost_ret (v:= .tuple #[.slice none 0 0,.agg #[.int .i64 g1,.int .i64 0]]) (by simp[results,Tryz.results24,go_sem, *]) rfl ?_;exact⟨_,rfl,⟨none,0,rfl,fun _=>rfl,fun h=>absurd rfl h⟩,(HA2.out.1.setCell (p:=⟨w.heap.size+1,0,none⟩) (by simp) _).setCell (p:=⟨w.heap.size+1,1,none⟩) (by simp) _⟩
 ·have h:(g,g1,g2)=([],e1,e2):=by rw[<- HG.out,Cn.goF,if_neg (by rw[HE.out];exact q1),HE.out]
  simp only[Prod.mk.injEq] at h;obtain⟨rfl,rfl,rfl⟩:=h;go_wp2
  go_region
  go_wp2;refine bodyPost_ret (v:= .tuple #[.slice none 0 0,.agg #[.int .i64 g1,.int .i64 g2]]) (by simp[results,Tryz.results24,go_sem, *]) rfl ?_
  refine⟨_,rfl,⟨none,0,rfl,fun _=>rfl,fun h=>absurd rfl h⟩,?_⟩
  first
   | exact(((HA1.out _).1.setCell (p:=⟨w.heap.size+1,0,none⟩) (by simp) _).setCell (p:=⟨w.heap.size+1,1,none⟩) (by simp) _).drew
   | exact(((HB1.out.setCell (p:=⟨w.heap.size+1,0,none⟩) (by simp) _).setCell (p:=⟨w.heap.size+1,1,none⟩) (by simp) _).alloc (by simp;omega) _).drew
end Go.Proofs.YtddiojckgjobmaaGreat
namespace Go.Proofs.YtddiojckgjobmaaGreat
open Go.RowKit
theorem zeb {a b:List Int}{k:Nat}{x y:Int}(h:a.take k=b.take k)(hx:a[k]?=some x)(hy:b[k]?=some y)(e:x=y):a.take (k+1)=b.take (k+1):=by
 rw[List.take_add_one,List.take_add_one,h,hx,hy,e]
theorem zlc (w:World)(va vb:Value)(za zb:List Int)(ha:L.Rd w va .i32 za)(hb:L.Rd w vb .i32 zb)(hla:za.length<=4611686018427387903)(hlb:zb.length<=4611686018427387903) :
  Calls Tryz.prog 8 #[va,vb] w fun e w'=>e= .returned (.bool (decide (za=zb)))/\Below w.heap.size w w':=by
 obtain⟨ao,ca,rfl,_,ha⟩:=ha;obtain⟨bo,cb,rfl,_,hb⟩:=hb
 by_cases hl:za.length=zb.length
 ·go_enter Tryz.func8,Tryz.ntmps8
  go_wp2
  go_loopw [13] (fun i wr=>∃k n:Nat,k<=za.length/\i= .int .i64 k/\za.take k=zb.take k/\wr=w.drewN n) (fun i _=>za.length - (intOf i).toNat)
  case atStart=>exact⟨0,0,Nat.zero_le _,rfl,by simp,rfl⟩
  case round =>
   obtain⟨k,n,hk,rfl,ht,rfl⟩:=hrel
   by_cases hlt:k<za.length
   ·obtain⟨b1,o1,rfl,hc1⟩:=ha (by intro h;subst h;simp at hlt);obtain⟨b2,o2,rfl,hc2⟩:=hb (by intro h;subst h;simp at hl;rw[hl] at hlt;simp at hlt);obtain⟨x,hx⟩:∃x,za[k]?=some x:=⟨za[k],by simp[hlt]⟩;obtain⟨y,hy⟩:∃y,zb[k]?=some y:=⟨zb[k]'(by omega),by simp[show k<zb.length by omega]⟩;have c1:=hc1 k x hx;have c2:=hc2 k y hy;clear hc1 hc2 ha hb;have HX:Hid (za[k]?=some x/\zb[k]?=some y/\za.take k=zb.take k):=⟨hx,hy,ht⟩;clear hx hy ht
    by_cases hxy:x=y
    ·go_wp2
     go_quiet (fail)
     go_wp2
     go_roundw
     case rel=>exact⟨k+1,_,by omega,by go_num,zeb HX.out.2.2 HX.out.1 HX.out.2.1 hxy,rfl⟩
     case measure=>simp[intOf];omega
    ·go_wp2
     go_quiet (fail)
     go_wp2;go_ret
     refine⟨L.zae ?_,below_drewN (below_drewN (qR _) _) _⟩
     have:za≠zb:=by
      intro e;rw[e] at HX;have h1:=HX.out.1;rw[HX.out.2.1] at h1;exact hxy (Option.some.inj h1).symm
     simp[this]
   ·go_wp2;go_ret
    refine⟨L.zae ?_,below_drewN (qR _) _⟩;rw[List.take_of_length_le (by omega),List.take_of_length_le (by omega)] at ht;simp[ht]
 ·go_enter Tryz.func8,Tryz.ntmps8
  go_wp2;go_ret
  refine⟨L.zae ?_,qR _⟩;have:za≠zb:=by intro e;exact hl (by rw[e])
  simp[this]
end Go.Proofs.YtddiojckgjobmaaGreat
namespace Go.Proofs.YtddiojckgjobmaaGreat
open Go.ChangeShapes Go.WideShapes Go.ChangeAt Go.RowKit
theorem Tryz.own:ownKnob Tryz.prog.godebug=none:=by kernel_rfl
theorem Tryz.laidOut:laidOutB Tryz.prog=true:=by kernel_rfl
theorem zdq {H:Type}{enc:TypeId×Value->H}{P:Program}(hl:laidOutB P=true){W W':World}(hb:Below W.heap.size W W') :
  ∀(ts:List TypeId) (vs:List Value) (ds:List (DataW H)) (ps:List MemPlace),ts.all (fun t=>P.readableRec t&&decide (t<P.types.size))=true ->
   DataW.TrodAll enc P W 0 (fun _=>true) true ts vs ds ps->DataW.TrodAll enc P W' 0 (fun b=>decide (b<W.heap.size)) true ts vs ds ps
 | [],[],[],_,_,h=>h
 | t::ts,v::vs,d::ds,ps,hr,h=>by
  simp only[List.all_cons,Bool.and_eq_true,decide_eq_true_eq] at hr;obtain⟨p,q,h0,hq,rfl⟩:=h;have lt0:∀x∈p,x.block<W.heap.size:=by obtain⟨m,hm⟩:=h0;exact DataW.trod_lt m _ _ _ hm
  exact⟨p,q,Below.trod hl hr.1.1 hr.1.2 h0 hb lt0,zdq hl hb ts vs ds q hr.2 hq,rfl⟩
 | [],_::_,_,_,_,h=>by cases h
 | [],[],_::_,_,_,h=>by cases h
 | _::_,[],_,_,_,h=>by cases h
 | _::_,_::_,[],_,_,h=>by cases h
theorem zd2 {H:Type}(d:DataW H):1<=Rows.uptoBulk d:=by
 cases d with
 | lit l=>cases l <;> simp[Rows.uptoBulk]
 | _=>simp[Rows.uptoBulk]
theorem zgf {H:Type}:∀l:List (DataW H),l.length<=Rows.uptoBulkAll l
 | []=>by simp[Rows.uptoBulkAll]
 | x::r=>by have:=zd2 x;have:=zgf r;simp only[Rows.uptoBulkAll,List.length_cons];omega
theorem zj4 {H:Type}{d:DataW H}:∀ {l:List (DataW H)},d∈l->Rows.uptoBulk d<=Rows.uptoBulkAll l
 | x::r,h=>by
  simp only[Rows.uptoBulkAll];rcases List.mem_cons.1 h with rfl | h
  ·omega
  ·have:=zj4 h;omega
theorem zj5 {H:Type}:∀l r:List (DataW H),Rows.uptoBulkAll (l++r)=Rows.uptoBulkAll l+Rows.uptoBulkAll r
 | [],r=>by simp[Rows.uptoBulkAll]
 | x::l,r=>by simp only[List.cons_append,Rows.uptoBulkAll,zj5 l r];omega
theorem zlj {H:Type}{l:List (DataW H)}(hk:Rows.uptoSmall H l=true):Rows.uptoBulkAll l<=1048576:=of_decide_eq_true hk
theorem zkx {H:Type}(s:ByteArray):Rows.uptoBulk (DataW.lit (H:=H) (.string s.data.toList))=s.size+1:=by
 have e:s.data.toList.length=s.size:=by rw[Array.length_toList];rfl
 simp only[Rows.uptoBulk,e]
theorem zdn {H:Type}(elems spare:List (DataW H)):elems.length+1<=Rows.uptoBulk (.slice elems spare):=by
 have:=zgf elems;simp only[Rows.uptoBulk];omega
theorem zlh {H:Type}{enc:TypeId×Value->H}{P:Program}{W:World}{base:Nat}{t e:TypeId}{k:IntKind}{v:Value}{d:DataW H}{p:List MemPlace}
  (ht:P.underlying t=some (.slice e)) (he:P.underlying e=some (.int k)) (hce:P.cellsOf e=1) (hv:Value.okWide P W .any base t v) (h:DataW.Trod enc P W 0 (fun _=>true) true t v d p) :
  ∃zs,L.Rd W v k zs/\(∀n∈zs,(Lit.int k n).wf=true)/\zs.length+1<=Rows.uptoBulk d:=by
 obtain⟨a0,len0,cap0,rfl⟩:=okWide_slice ht hv;obtain⟨fuel,hf⟩:=h;rcases open_ints ht he hce hf with ⟨hcs,hx⟩|⟨x,l,c,zs,hcs,_,hl,hm,hz,hx,hcell,hwz⟩
 ·simp[Value.cells] at hcs;obtain⟨rfl,rfl,rfl⟩:=hcs;exact⟨[],⟨none,0,rfl,fun _=>rfl,fun h=>absurd rfl h⟩,by simp,zd2 _⟩
 ·simp[Value.cells] at hcs;obtain⟨rfl,rfl,rfl⟩:=hcs;simp only[Prod.mk.injEq] at hx;obtain⟨rfl,rfl⟩:=hx;simp only[if_true] at hz;have hlt:(zs.take len0).length=len0:=by rw[List.length_take];omega
  refine⟨zs.take len0,⟨_,cap0,by rw[hlt],fun h=>by simp at h,fun hne=> ?_⟩,fun n hn=>hwz n (List.mem_of_mem_take hn),?_⟩
  ·have h0:0<zs.length:=by
    cases zs with
    | nil=>simp at hne
    | cons=>simp
   obtain⟨b,off,rfl,hc⟩:=ints_at hcell h0;refine⟨b,off,rfl,fun j z hj=> ?_⟩
   have hj2:j<zs.length:=by
    have:=(qL.1 hj).1;rw[hlt] at this;omega
   have h3:=hcell j hj2;rw[L.addr_add] at h3;rw[h3]
   have h4:zs[j]?=some z:=by
    rw[List.getElem?_take] at hj;split at hj
    ·exact hj
    ·simp at hj
   simp[List.getD,h4]
  ·have h5:=zdn (H:=H) (lits k (zs.take len0)) (lits k (zs.drop len0));have h6:(lits (H:=H) k (zs.take len0)).length=(zs.take len0).length:=by simp[lits]
   rw[h6] at h5;exact h5
theorem wf_i32 {n:Int}(h:(Lit.int .i32 n).wf=true): -2147483648<=n/\n<=2147483647:=by
 simp only[Lit.wf,Bool.and_eq_true,decide_eq_true_eq] at h;have e1:IntKind.i32.min= -2147483648:=by decide
 have e2:IntKind.i32.max=2147483647:=by decide
 rw[e1,e2] at h;omega
set_option maxRecDepth 100000 in
theorem zlb {H:Type}{enc:TypeId×Value->H}{W:World}{base:Nat}{v:Value}{d:DataW H}{p:List MemPlace}
  (hv:Value.okWide Tryz.prog W .any base 22 v) (h:DataW.Trod enc Tryz.prog W 0 (fun _=>true) true 22 v d p) :
  ∃l:List S.Sp,S.Rd W v l/\S.Fit l/\l.length+1<=Rows.uptoBulk d/\∀ao n c,v= .slice ao n c->n<=c:=by
 obtain⟨a0,len0,cap0,rfl⟩:=okWide_slice Tryz.underlying22 hv;obtain⟨fuel,hf⟩:=h;obtain⟨f0,f1,hu,o0,o1,t0,t1⟩:∃f0 f1:Field,Tryz.prog.underlying 52=some (.struct #[f0,f1])/\f0.offset=0/\f1.offset=1/\f0.type=21/\f1.type=21:=⟨_,_,Tryz.underlying52,rfl,rfl,rfl,rfl⟩;rcases Go.Deep.open_slice_pairs Tryz.underlying22 hu (by kernel_rfl) o0 o1 (by rw[t0];kernel_rfl) (by rw[t1];kernel_rfl) hf with ⟨hcs,hx⟩|⟨a,len,cap,m,n,V0,V1,D0,D1,P0,P1,hcs,_,hl,hm,hmm,hx,hcell⟩
 ·simp[Value.cells] at hcs;obtain⟨rfl,rfl,rfl⟩:=hcs;exact⟨[],S.Rd.nil W,fun x hx=>by simp at hx,zd2 _,fun ao n c h=>by cases h;exact qN⟩
 ·simp[Value.cells] at hcs;obtain⟨rfl,rfl,rfl⟩:=hcs;simp only[Prod.mk.injEq] at hx;obtain⟨rfl,rfl⟩:=hx;simp only[if_true] at hmm;subst hmm
  have each:∀i,i<len0->∃x1 x2:Int,V0 i= .int .i32 x1/\V1 i= .int .i32 x2/\ -2147483648<=x1/\x1<=2147483647/\ -2147483648<=x2/\x2<=2147483647:=fun i hi=>by
   obtain⟨_,_,h3,h4⟩:=hcell i (by omega);rw[t0] at h3;rw[t1] at h4;obtain⟨x1,e1,_,w1⟩:=DataW.trod_int Tryz.underlying21 h3;obtain⟨x2,e2,_,w2⟩:=DataW.trod_int Tryz.underlying21 h4;have:=wf_i32 w1;have:=wf_i32 w2;exact⟨x1,x2,by simpa using e1,by simpa using e2,by omega,by omega,by omega,by omega⟩
  let g:Nat->S.Sp:=fun i=>(intOf (V0 i),intOf (V1 i))
  have hg:∀i,i<len0->V0 i= .int .i32 (g i).1/\V1 i= .int .i32 (g i).2/\ -2147483648<=(g i).1/\(g i).1<=2147483647/\ -2147483648<=(g i).2/\(g i).2<=2147483647:=fun i hi=>by
   obtain⟨x1,x2,e1,e2,h⟩:=each i hi;simp only[g,e1,e2,intOf];exact⟨trivial,trivial,h⟩
  have hlen:((List.range len0).map g).length=len0:=by simp
  refine⟨(List.range len0).map g,⟨_,m,by rw[hlen],fun h=>by simp at h,fun hne=> ?_⟩,fun x hx=> ?_,?_,fun ao n c h=>by cases h;exact hl⟩
  ·have h0:0<len0:=by
    cases len0 with
    | zero=>simp at hne
    | succ=>omega
   obtain⟨b,off,spot⟩:=a;have c0:=(hcell 0 (by omega)).1;have hsp:spot=none:=by simpa [Addr.add] using World.cell?_spot c0
   subst hsp;refine⟨b,off,rfl,fun j x hj=> ?_⟩
   have hj2:j<len0:=by
    have:=(qL.1 hj).1;rw[hlen] at this;exact this
   have hxj:g j=x:=by
    rw[List.getElem?_map,List.getElem?_range hj2] at hj;simpa using hj
   obtain⟨h3,h4,_⟩:=hcell j (by omega);rw[L.addr_add] at h3 h4;rw[<- Nat.add_assoc] at h4;rw[h3,h4,(hg j hj2).1,(hg j hj2).2.1,hxj];exact⟨rfl,rfl⟩
  ·obtain⟨i,hi,rfl⟩:=List.mem_map.1 hx;exact(hg i (by simpa using hi)).2.2
  ·have h5:=zdn (H:=H) ((List.range len0).map fun i=> .agg [D0 i,D1 i]) ((List.range (m - len0)).map fun j=> .agg [D0 (len0+j),D1 (len0+j)]);simpa using h5
theorem Tryz.bytesI32:Tryz.prog.bytesOf 21=4:=by kernel_rfl
theorem Tryz.bytesSet:Tryz.prog.bytesOf 22=24:=by kernel_rfl
namespace K
theorem wf_i64 {n:Int}(h:(Lit.int .i64 n).wf=true):I64 n:=by
 simp only[Lit.wf,Bool.and_eq_true,decide_eq_true_eq] at h;have e1:IntKind.i64.min= -9223372036854775808:=by decide
 have e2:IntKind.i64.max=9223372036854775807:=by decide
 rw[e1,e2] at h;exact h
theorem zbx {H:Type}{P:Program}{e:TypeId}{d:DataW H}:∀ {l:List (DataW H)},d∈l->∀n∈d.weights P e,n∈DataW.weightsAll P e l
 | x::r,h,n,hn=>by
  simp only[DataW.weightsAll,List.mem_append];rcases List.mem_cons.1 h with rfl | h
  ·exact .inl hn
  ·exact .inr (zbx h n hn)
end K
theorem zfc {H:Type}{enc:TypeId×Value->H}{W:World}{fuel:Nat}{cs:List Value}{x:DataW H×List MemPlace}(h:DataW.trod enc Tryz.prog W 0 (fun _=>true) true fuel 26 cs=some x)(hw:∀n∈x.1.weights Tryz.prog 26,n<=reachBytes) :
  ∃sp c zs,cs= [.slice sp (List.length zs) c]/\L.Rd W (.slice sp zs.length c) .i32 zs/\zs.length<=140737488355328/\zs.length<=c:=by
 rcases open_ints Tryz.underlying26 Tryz.underlying21 (by kernel_rfl) h with ⟨hcs,hx⟩|⟨a,len,cap,zs,hcs,_,hl,hm,hz,hx,hcell,hwz⟩
 ·exact⟨none,0,[],hcs,⟨none,0,rfl,fun _=>rfl,fun h=>absurd rfl h⟩,by simp,by simp⟩
 ·subst hx;simp only[if_true] at hz;have hlt:(zs.take len).length=len:=by rw[List.length_take];omega
  have h1:=hw ((zs.take len).length*4+(zs.drop len).length*4) (by
   simp only[DataW.weights,Tryz.underlying26,Tryz.bytesI32,lits,List.length_map];rw[<- Nat.add_mul]
   exact List.mem_cons_self)
  refine⟨some a,cap,zs.take len,by rw[hcs,hlt],⟨_,cap,rfl,(fun h=>by cases h),fun hne=> ?_⟩,by unfold reachBytes at h1;omega,by omega⟩
  have h0:0<zs.length:=by
   cases zs with
   | nil=>simp at hne
   | cons=>simp
  obtain⟨b,off,rfl,_⟩:=ints_at hcell h0;refine⟨b,off,rfl,fun j z hj=> ?_⟩
  have hj2:j<zs.length:=by
   have:=(qL.1 hj).1;rw[hlt] at this;omega
  have h3:=hcell j hj2;rw[L.addr_add] at h3;rw[h3]
  have h4:zs[j]?=some z:=by
   rw[List.getElem?_take] at hj;split at hj
   ·exact hj
   ·simp at hj
  simp[List.getD,h4]
set_option maxRecDepth 100000 in
theorem zef {H:Type}{enc:TypeId×Value->H}{W:World}{fuel:Nat}{cs:List Value}{x:DataW H×List MemPlace}(h:DataW.trod enc Tryz.prog W 0 (fun _=>true) true fuel 22 cs=some x) :
  ∃u s,cs= [u]/\K.SetIs W u s:=by
 rcases Go.Deep.open_slice Tryz.underlying22 h with ⟨hcs,hx⟩|⟨a,len,cap,m,n,D,Pl,hcs,_,hl,hm,hmm,hx,hcell⟩
 ·exact⟨_,[],hcs,⟨none,0,rfl⟩,S.Rd.nil W,fun x hx=>by cases hx⟩
 ·have hv:Value.okWide Tryz.prog W .any 0 22 (.slice (some a) len cap)∨True:= .inr trivial;subst hcs;obtain⟨f0,f1,hu,o0,o1,t0,t1⟩:∃f0 f1:Field,Tryz.prog.underlying 52=some (.struct #[f0,f1])/\f0.offset=0/\f1.offset=1/\f0.type=21/\f1.type=21:=⟨_,_,Tryz.underlying52,rfl,rfl,rfl,rfl⟩;rcases Go.Deep.open_slice_pairs Tryz.underlying22 hu (by kernel_rfl) o0 o1 (by rw[t0];kernel_rfl) (by rw[t1];kernel_rfl) h with ⟨hcs,hx⟩|⟨a',len',cap',m',n',V0,V1,D0,D1,P0,P1,hcs,_,hl',hm',hmm',hx',hcell'⟩
  ·cases hcs
  ·cases hcs;simp only[if_true] at hmm';subst hmm'
   have each:∀i,i<len->∃x1 x2:Int,V0 i= .int .i32 x1/\V1 i= .int .i32 x2/\ -2147483648<=x1/\x1<=2147483647/\ -2147483648<=x2/\x2<=2147483647:=fun i hi=>by
    obtain⟨_,_,h3,h4⟩:=hcell' i (by omega);rw[t0] at h3;rw[t1] at h4;obtain⟨x1,e1,_,w1⟩:=DataW.trod_int Tryz.underlying21 h3;obtain⟨x2,e2,_,w2⟩:=DataW.trod_int Tryz.underlying21 h4;have:=wf_i32 w1;have:=wf_i32 w2;exact⟨x1,x2,by simpa using e1,by simpa using e2,by omega,by omega,by omega,by omega⟩
   let g:Nat->S.Sp:=fun i=>(intOf (V0 i),intOf (V1 i))
   have hg:∀i,i<len->V0 i= .int .i32 (g i).1/\V1 i= .int .i32 (g i).2/\ -2147483648<=(g i).1/\(g i).1<=2147483647/\ -2147483648<=(g i).2/\(g i).2<=2147483647:=fun i hi=>by
    obtain⟨x1,x2,e1,e2,h⟩:=each i hi;simp only[g,e1,e2,intOf];exact⟨trivial,trivial,h⟩
   have hlen:((List.range len).map g).length=len:=by simp
   refine⟨_,(List.range len).map g,rfl,⟨some a,m',by rw[hlen]⟩,⟨_,m',by rw[hlen],fun h=>by simp at h,fun hne=> ?_⟩,fun x hx=> ?_⟩
   ·have h0:0<len:=by
     cases len with
     | zero=>simp at hne
     | succ=>omega
    obtain⟨b,off,spot⟩:=a;have c0:=(hcell' 0 (by omega)).1;have hsp:spot=none:=by simpa [Addr.add] using World.cell?_spot c0
    subst hsp;refine⟨b,off,rfl,fun j x hj=> ?_⟩
    have hj2:j<len:=by
     have:=(qL.1 hj).1;rw[hlen] at this;exact this
    have hxj:g j=x:=by
     rw[List.getElem?_map,List.getElem?_range hj2] at hj;simpa using hj
    obtain⟨h3,h4,_⟩:=hcell' j (by omega);rw[L.addr_add] at h3 h4;rw[<- Nat.add_assoc] at h4;rw[h3,h4,(hg j hj2).1,(hg j hj2).2.1,hxj];exact⟨rfl,rfl⟩
   ·obtain⟨i,hi,rfl⟩:=List.mem_map.1 hx;exact(hg i (by simpa using hi)).2.2
set_option maxRecDepth 100000 in
theorem zcd {H:Type}{enc:TypeId×Value->H}{W:World}{fuel:Nat}{cs:List Value}{x:DataW H×List MemPlace}(h:DataW.trod enc Tryz.prog W 0 (fun _=>true) true fuel 79 cs=some x)(hw:∀n∈x.1.weights Tryz.prog 79,n<=reachBytes) :
  ∃ao c l,cs= [.slice ao (List.length l) c]/\K.Ss W (.slice ao l.length c) l:=by
 have ce:Tryz.prog.cellsOf 22=1:=by kernel_rfl
 rcases Go.Deep.open_slice Tryz.underlying79 h with ⟨hcs,hx⟩|⟨a,len,cap,m,n,D,Pl,hcs,_,hl,hm,hmm,hx,hcell⟩
 ·exact⟨none,0,[],hcs,none,0,[],rfl,fun _=>rfl,by simp,⟨rfl,fun j u s h=>by cases h⟩,fun h=>absurd rfl h⟩
 ·subst hx;simp only[if_true] at hmm;subst hmm
  have hlen:len<=140737488355328:=by
   have h1:=hw ((((List.range len).map D).length+((List.range (m - len)).map fun j=>D (len+j)).length)*24) (by
    simp only[DataW.weights,Tryz.underlying79,Tryz.bytesSet]
    exact List.mem_cons_self)
   simp only[List.length_map,List.length_range,reachBytes] at h1;omega
  have each:∀i,i<len->∃q:Value×List S.Sp,W.cell? (a.add i)=some q.1/\K.SetIs W q.1 q.2:=fun i hi=>by
   obtain⟨cs',h1,h2⟩:=hcell i (by omega);rw[ce] at h1;obtain⟨_,hlen',hcl⟩:=World.cells?_some h1;obtain⟨u,s,rfl,hs⟩:=zef h2;have e0:=hcl 0 (by omega);rw[Go.Deep.add_add] at e0;exact⟨(u,s),by simpa using e0,hs⟩
  have hne:Inhabited (Value×List S.Sp):=⟨(.nilFunc,[])⟩;obtain⟨q,hq⟩:=Go.Deep.choose_lt each;refine⟨some a,m,(List.range len).map fun i=>(q i).2,by rw[hcs];simp,some a,m,(List.range len).map fun i=>(q i).1,by simp,(fun h=>by cases h),by simpa using hlen,⟨by simp,fun j u s hu hs=> ?_⟩,fun hne=> ?_⟩
  ·have hj:j<len:=by
    have:=(qL.1 hu).1;simpa using this
   rw[List.getElem?_map,List.getElem?_range hj] at hu hs;cases hu;cases hs;exact(hq j hj).2
  ·have h0:0<len:=by
    cases len with
    | zero=>simp at hne
    | succ=>omega
   obtain⟨b,off,spot⟩:=a
   have hsp:spot=none:=by
    have:=(hq 0 h0).1;simpa [Addr.add] using World.cell?_spot this
   subst hsp;refine⟨b,off,rfl,fun j u hu=> ?_⟩
   have hj:j<len:=by
    have:=(qL.1 hu).1;simpa using this
   rw[List.getElem?_map,List.getElem?_range hj] at hu;cases hu;have:=(hq j hj).1;rw[L.addr_add] at this;exact this
set_option maxRecDepth 100000 in
theorem zgv {H:Type}{enc:TypeId×Value->H}{W:World}{fuel:Nat}{v0 v1 v2 v3 v4 v5 v6:Value}{x:DataW H×List MemPlace}(h:DataW.trod enc Tryz.prog W 0 (fun _=>true) true fuel 81 [v0,v1,v2,v3,v4,v5,v6]=some x)(hw:∀n∈x.1.weights Tryz.prog 81,n<=reachBytes) :
  ∃r,K.RuIs W (.agg #[v0,v1,v2,v3,v4,v5,v6]) r:=by
 obtain⟨f0,f1,f2,f3,f4,f5,f6,hu,o0,o1,o2,o3,o4,o5,o6,t0,t1,t2,t3,t4,t5,t6⟩:∃f0 f1 f2 f3 f4 f5 f6:Field,Tryz.prog.underlying 81=some (.struct #[f0,f1,f2,f3,f4,f5,f6])/\f0.offset=0/\f1.offset=1/\f2.offset=2/\f3.offset=3/\f4.offset=4/\f5.offset=5/\f6.offset=6/\f0.type=4/\f1.type=4/\f2.type=79/\f3.type=79/\f4.type=79/\f5.type=26/\f6.type=3:=⟨_,_,_,_,_,_,_,Tryz.underlying81,rfl,rfl,rfl,rfl,rfl,rfl,rfl,rfl,rfl,rfl,rfl,rfl,rfl,rfl⟩;have ci:Tryz.prog.cellsOf 3=1:=by kernel_rfl
 have ci2:Tryz.prog.cellsOf 4=1:=by kernel_rfl
 have ci3:Tryz.prog.cellsOf 79=1:=by kernel_rfl
 have ci4:Tryz.prog.cellsOf 26=1:=by kernel_rfl
 obtain⟨xs,k,hk,hxy,_,hxl,hfl⟩:=DataW.trod_struct hu h
 match xs,hxl with
 | [y0,y1,y2,y3,y4,y5,y6],_ =>
  have g0:=hfl 0 f0 rfl;have g1:=hfl 1 f1 rfl;have g2:=hfl 2 f2 rfl;have g3:=hfl 3 f3 rfl;have g4:=hfl 4 f4 rfl;have g5:=hfl 5 f5 rfl;have g6:=hfl 6 f6 rfl;simp[o0,o1,o2,o3,o4,o5,o6,t0,t1,t2,t3,t4,t5,t6,ci,ci2,ci3,ci4] at g0 g1 g2 g3 g4 g5 g6
  have hD:x.1= .agg [y0.1,y1.1,y2.1,y3.1,y4.1,y5.1,y6.1]:=by
   have:=congrArg Prod.fst hxy;simpa using this
  have hwe:∀(j:Nat) (t:TypeId) (d:DataW H),([4,4,79,79,79,26,3]:List TypeId)[j]?=some t->([y0.1,y1.1,y2.1,y3.1,y4.1,y5.1,y6.1]:List (DataW H))[j]?=some d->∀n∈d.weights Tryz.prog t,n<=reachBytes:=fun j t d h1 h2 n hn=>hw n (by
   rw[hD];simp only[DataW.weights,hu];refine DataW.weights_mem_each (j:=j) (t:=t) (d:=d) ?_ h2 n hn
   simpa [t0,t1,t2,t3,t4,t5,t6] using h1)
  obtain⟨b0,c0,_⟩:=DataW.trod_bool Tryz.underlying4 g0;obtain⟨b1,c1,_⟩:=DataW.trod_bool Tryz.underlying4 g1;obtain⟨a2,n2,l2,c2,r2⟩:=zcd g2 (hwe 2 _ _ rfl rfl);obtain⟨a3,n3,l3,c3,r3⟩:=zcd g3 (hwe 3 _ _ rfl rfl);obtain⟨a4,n4,l4,c4,r4⟩:=zcd g4 (hwe 4 _ _ rfl rfl);obtain⟨a5,n5,l5,c5,r5,q5,_⟩:=zfc g5 (hwe 5 _ _ rfl rfl);obtain⟨x6,c6,_,w6⟩:=DataW.trod_int Tryz.underlying3 g6;simp only[List.cons.injEq,and_true] at c0 c1 c2 c3 c4 c5 c6;subst c0 c1 c2 c3 c4 c5 c6;exact⟨⟨b0,b1,l2,l3,l4,l5,x6⟩,a2,n2,a3,n3,a4,n4,a5,n5,rfl,r2,r3,r4,r5,q5,K.wf_i64 w6⟩
theorem Tryz.bytesRule:Tryz.prog.bytesOf 81=112:=by kernel_rfl
end Go.Proofs.YtddiojckgjobmaaGreat
