import Derived.ArgAppend
import Derived.Deep.Upon
import Derived.Lib.AppendZeros
import Derived.Shelf.SlGeneric
import Derived.Test.YtcadaallpiekiaaGreatDoorShText
set_option maxHeartbeats 0
set_option maxRecDepth 20000
set_option linter.unusedSimpArgs false
set_option linter.unusedVariables false
namespace Go.Proofs.YtcadaallpiekiaaGreatDoor
open Go.Proofs.Tryz
section
open Go.RowKit
theorem Tryz.infoRune:(prog.info? 21).map (fun i=>(i.zero,i.size,i.bytes))=some (some (.int .i32 0),1,4):=by kernel_rfl
end
namespace K
open Go.RowKit
def ints (t:List Int):List Value:=t.map (Value.int .i32)
theorem zcr (t:List Int):(ints t).length=t.length:=by simp[ints]
theorem zl3 (t:List Int):∀v∈ints t,v.oneCell'=true:=fun v hv=>by obtain⟨z,_,rfl⟩:=List.mem_map.1 hv;rfl
theorem zsq {t:List Int}{j:Nat}{v:Value}(h:(ints t)[j]?=some v):∃z,t[j]?=some z/\v=.int .i32 z:=by
 unfold ints at h;rw[List.getElem?_map] at h;cases hz:t[j]? with
 | none=>rw[hz] at h;cases h
 | some z=>rw[hz] at h;cases h;exact⟨z,rfl,rfl⟩
theorem zea (w:World)(B:Nat)(v:Value)(t:List Int)(own:w.ownsRow B 21 1 v t.length (ints t))(vx:Value)(zs:List Int)(hx:L.Rd w vx .i32 zs)(hl:t.length+zs.length<=100000000)(hB:B<=w.heap.size) :
  ∃v' w',(∀ty,(Builtin.append_ #[42,42] ty #[v,vx]).run prog w=.ok v' w')/\w'.ownsRow B 21 1 v' (t++zs).length (ints (t++zs))/\w.grownBy w' v.ownBlock/\(v'.ownBlock=v.ownBlock∨∃k,v'.ownBlock=some k/\w.heap.size<=k):=by
 obtain⟨i0,hi,hz0,hz1,hz2⟩:=info_parts Tryz.infoRune;have he:ints (t++zs)=ints t++ints zs:=by unfold ints;rw[List.map_append]
 have hle:(t++zs).length=t.length+zs.length:=List.length_append
 by_cases h0:zs= []
 ·subst h0;obtain⟨ao,cx,rfl,hn,hc⟩:=hx
  obtain⟨vo,vc,rfl,hvc⟩:∃vo vc,v=.slice vo t.length vc/\t.length<=vc:=by
   rcases own.2 with ⟨h,h1⟩|⟨g,cap,cur,h,_,_,h1,_⟩
   ·exact⟨none,0,by rw[h,h1],by omega⟩
   ·exact⟨_,cap,h,h1⟩
  refine⟨_,w,fun ty=> ?_,by simpa using own,⟨rfl,rfl,rfl,qN,fun _ _ _=>rfl⟩,.inl rfl⟩;refine Go.run_append_nothing (P:=prog) w _ _ ty 21 i0 underlying42 hi vo t.length vc hvc _ ?_;cases ao with
  | none=>exact Go.Src.ofNil w underlying42 cx
  | some ad=>exact Go.Src.ofSlice w underlying42 ad 0 cx [] (by simp) (fun j u h=>by simp at h) (fun u h=>by simp at h)
 ·obtain⟨ao,cx,rfl,_,hcx⟩:=hx;obtain⟨bx,offx,rfl,hcellx⟩:=hcx h0;have hp:=List.length_pos_iff.2 h0
  have hnews:∀j u,(ints zs)[j]?=some u->w.cell? ((⟨bx,offx,none⟩:Addr).add j)=some u:=fun j u hj=>by
   obtain⟨z,hz,rfl⟩:=zsq hj;rw[L.addr_add];exact hcellx j z hz
  have blk:∀(v':Value) (w':World),w'.ownsRow w.heap.size 21 1 v' (t.length+zs.length) (ints t++ints zs)->∃k,v'.ownBlock=some k/\w.heap.size<=k:=fun v' w' h=>by
   rcases h.2 with ⟨_,h1⟩|⟨g,cap,cur,h,hg,_⟩
   ·omega
   ·exact⟨g,by rw[h];rfl,hg⟩
  rw[he,hle];rcases own.2 with ⟨hv,h1⟩|⟨g,cap,cur,hv,hBg,hg,hnc,hcm,hcs,htk⟩
  ·have ht:=List.eq_nil_of_length_eq_zero h1;subst ht hv;obtain⟨v',w',hrun,r1,r2,_⟩:=run_append_own (P:=prog) w w.heap.size 42 0 21 i0 (.int .i32 0) 1 4 underlying42 hi hz0 hz1 hz2 rfl (by decide) (.slice none 0 0) 0 [] (World.ownsRow_nil w _ _ _) ⟨bx,offx,none⟩ zs.length cx (ints zs) (by rw[zcr];omega) hnews (zl3 zs) (by unfold maxLen;simp at hl;omega) (by simp at hl;omega) qN;exact⟨v',w',fun ty=>hrun,L.zbj r1 hB,r2,.inr (blk v' w' r1)⟩
  ·subst hv
   by_cases hf:t.length+zs.length<=cap
   ·obtain⟨w',hrun,r1,r2⟩:=run_append_fits (P:=prog) w B 42 0 21 i0 1 underlying42 hi hz1 g t.length cap (ints t) own ⟨bx,offx,none⟩ zs.length cx (ints zs) (by rw[zcr];omega) hnews (zl3 zs) hf;exact⟨_,w',fun ty=>hrun,r1,r2,.inl rfl⟩
   ·obtain⟨v',w',hrun,r1,r2⟩:=run_append_arg_grows (P:=prog) w 42 0 21 i0 (.int .i32 0) 1 4 underlying42 hi hz0 hz1 hz2 rfl (by decide) ⟨g,0,none⟩ t.length cap (ints t) (by rw[zcr];omega) (fun j u hj=>World.ownsRow.cells own (g:=g) rfl j u hj) ⟨bx,offx,none⟩ zs.length cx (ints zs) (by rw[zcr];omega) hnews (by omega) (by unfold maxLen;omega) (by omega);exact⟨v',w',fun ty=>hrun,L.zbj r1 hB,⟨r2.os,r2.tape,r2.output,r2.size,fun k hk _=>r2.block k hk (by simp)⟩,.inr (blk v' w' r1)⟩
theorem zcy {w:World}{B:Nat}{v:Value}{t:List Int}(h:w.ownsRow B 21 1 v t.length (ints t)):∃ao cap,v=.slice ao t.length cap/\t.length<=cap/\cap<=maxLen:=by
 rcases h.2 with ⟨h,h1⟩|⟨g,cap,cur,h,_,_,h1,h2,_⟩
 ·exact⟨none,0,by rw[h,h1],by omega,by unfold maxLen;omega⟩
 ·exact⟨_,cap,h,h1,h2⟩
theorem zfl {w:World}{B:Nat}{v:Value}{t:List Int}(h:w.ownsRow B 21 1 v t.length (ints t)):L.Rd w v .i32 t:=L.Rd.zax h
end K
section
open Go.RowKit
theorem Cn.app1 {w:World}{B:Nat}{vo:Value}{o:List Int}(own:w.ownsRow B 21 1 vo o.length (K.ints o))(hB:B<=w.heap.size)(hl:o.length<=50000000)(z:Int) :
  ∃ao' vc' w',(∀ty,(Builtin.append_ #[42,42] ty #[vo,.slice (some ⟨w.heap.size,0,none⟩) 1 1]).run prog (w.alloc (.cells #[.int .i32 z] 21))=.ok (.slice ao' (o.length+1) vc') w')/\w'.ownsRow B 21 1 (.slice ao' (o.length+1) vc') (o++ [z]).length (K.ints (o++ [z]))/\(∀b,b<w.heap.size->vo.ownBlock≠some b->w'.heap[b]?=w.heap[b]?)/\w.heap.size<=w'.heap.size/\Below B w w':=by
 have hal:Bl w (w.alloc (.cells #[.int .i32 z] 21)):=(qR w).alloc qN _;have hnew:=heap_alloc_new w (.cells #[.int .i32 z] 21)
 have hrx:L.Rd (w.alloc (.cells #[.int .i32 z] 21)) (.slice (some ⟨w.heap.size,0,none⟩) 1 1) .i32 [z]:=⟨_,_,rfl,fun e=>by (cases e),fun _=>⟨_,0,rfl,fun j y hj=>by
  match j,hj with
  | 0,hj=>cases hj;exact K.zad hnew rfl
  | n+1,hj=>simp at hj⟩⟩
 obtain⟨v',w',run,own',gr,_⟩:=K.zea _ B vo o (own.alloc _) _ [z] hrx (by simp;omega) (by simp;omega);have hlen:(o++ [z]).length=o.length+1:=by simp
 obtain⟨ao',vc',rfl⟩:∃ao cap,v'=.slice ao (o.length+1) cap:=by
  rw[<- hlen];rcases own'.2 with ⟨hv,h0⟩|⟨g,cap,cur,hv,_⟩
  ·exact⟨none,0,by rw[hv,h0]⟩
  ·exact⟨_,cap,hv⟩
 refine⟨ao',vc',w',run,own',fun b hb hne=> ?_,?_,(hal.mono hB).grown gr (by simp;omega) fun k hk=>(own.lt k hk).1⟩
 ·rw[gr.block b (by simp;omega) (fun e=>hne e.symm)];exact hal.block b hb
 ·have:=gr.size;simp at this;omega
theorem K.zal {w:World}{g:Nat}{c:Array Value}{t:TypeId}(h:w.heap[g]?=some (.cells c t))(o:Obj)(i:Nat):(w.alloc o).frozen? ⟨g,i,none⟩=false:=by
 have e:=Below.heap_alloc w o g (qA.1 h).1;rw[World.frozen?,show (w.alloc o).heap[(⟨g,i,none⟩:Addr).block]?=w.heap[g]? from e,h];simp
theorem K.zai {w:World}{a:Addr}{v:Value}(h:w.cell? a=some v)(o:Obj):(w.alloc o).cell? a=some v:=by
 have e:=Below.heap_alloc w o a.block (World.block_lt_of_cell? w a h);rw[World.cell?_of_block e];exact h
end
section
open Go.RowKit Go.Shelf
namespace Al
theorem app {sl e:TypeId}{z:Value}{k y:Nat}(hs:prog.underlying sl=some (.slice e))(hinfo:(prog.info? e).map (fun i=>(i.zero,i.size,i.bytes))=some (some z,k,y))(hzk:z.cells.size=k)(hk:0<k)(hy:y<=100)
  {w:World} {B n:Nat} {vo:Value} {xs:List Value} (own:w.ownsRow B e k vo n xs) (hB:B<=w.heap.size) (hl:n<=1000000) (news:List Value) (hn:news.length=k) (h1:∀u∈news,u.oneCell'=true) :
  ∃ao' vc' w',(∀ty,(Builtin.append_ #[sl,sl] ty #[vo,.slice (some ⟨w.heap.size,0,none⟩) 1 1]).run prog (w.alloc (.cells news.toArray e))=.ok (.slice ao' (n+1) vc') w')/\w'.ownsRow B e k (.slice ao' (n+1) vc') (n+1) (xs++news)/\(∀b,b<w.heap.size->vo.ownBlock≠some b->w'.heap[b]?=w.heap[b]?)/\w.heap.size<=w'.heap.size/\Below B w w':=by
 have hal:Bl w (w.alloc (.cells news.toArray e)):=(qR w).alloc qN _;have hnew:=heap_alloc_new w (.cells news.toArray e);obtain⟨i0,hi,hz0,hz1,hz2⟩:=info_parts hinfo
 have hcells:∀j u,news[j]?=some u->(w.alloc (.cells news.toArray e)).cell? ((⟨w.heap.size,0,none⟩:Addr).add j)=some u:=fun j u hj=>by
  rw[L.addr_add,Nat.zero_add];exact K.zad hnew (by simpa using hj)
 have hyb:(n+1)*y<=140737488355328:=Nat.le_trans (Nat.mul_le_mul (Nat.succ_le_succ hl) hy) (by decide);obtain⟨v',w',run,own',gr,_⟩:=run_append_own (P:=prog) (w.alloc (.cells news.toArray e)) B sl sl e i0 _ k y hs hi hz0 hz1 hz2 hzk hk vo n xs (own.alloc _) ⟨w.heap.size,0,none⟩ 1 1 news (by rw[hn];omega) hcells h1 (by unfold maxLen;omega) hyb (by simp;omega)
 obtain⟨ao',vc',rfl⟩:∃ao cap,v'=.slice ao (n+1) cap:=by
  rcases own'.2 with ⟨hv,h0⟩|⟨g,cap,cur,hv,_⟩
  ·omega
  ·exact⟨_,cap,hv⟩
 refine⟨ao',vc',w',fun ty=>run,own',fun b hb hne=> ?_,?_,(hal.mono hB).grown gr (by simp;omega) fun k hk=>(own.lt k hk).1⟩
 ·rw[gr.block b (by simp;omega) (fun e=>hne e.symm)];exact hal.block b hb
 ·have:=gr.size;simp at this;omega
theorem held {F:Nat}{e:TypeId}{k:Nat}{w w':World}{v:Value}{n:Nat}{xs:List Value}(h:w.ownsRow F e k v n xs)(hb:∀q,v.ownBlock=some q->q<w.heap.size->w'.heap[q]?=w.heap[q]?):w'.ownsRow F e k v n xs:=by
 obtain⟨h1,h2⟩:=h;refine⟨h1,?_⟩;rcases h2 with h2|⟨g,cap,cur,hv,hg,hx,r⟩
 ·exact .inl h2
 ·exact .inr ⟨g,cap,cur,hv,hg,by rw[hb g (by rw[hv];rfl) (lt_of_block hx)];exact hx,r⟩
theorem block {F:Nat}{e:TypeId}{k:Nat}{w:World}{v:Value}{n:Nat}{xs:List Value}(h:w.ownsRow F e k v n xs){q:Nat}(hq:v.ownBlock=some q):F<=q/\∃cs p,w.heap[q]?=some (.cells cs e p):=by
 obtain⟨h1,h2⟩:=h;rcases h2 with ⟨h2,_⟩|⟨g,cap,cur,hv,hg,hx,r⟩
 ·rw[h2] at hq;cases hq
 ·rw[hv] at hq;have hq':some g=some q:=hq;cases hq';exact⟨hg,_,_,hx⟩
theorem lies {F:Nat}{e:TypeId}{k:Nat}{w:World}{v:Value}{n:Nat}{xs:List Value}(h:w.ownsRow F e k v n xs):∃ao cap,v=.slice ao n cap/\(0<n->∃g,ao=some ⟨g,0,none⟩/\g<w.heap.size/\∀j u,xs[j]?=some u->w.cell? ⟨g,j,none⟩=some u):=by
 have h0:=h;obtain⟨h1,h2⟩:=h;rcases h2 with ⟨rfl,h2⟩|⟨g,cap,cur,rfl,hg,hx,r⟩
 ·exact⟨none,0,by rw[h2],fun h=>by omega⟩
 ·refine⟨_,cap,rfl,fun _=>⟨g,rfl,lt_of_block hx,fun j u hu=> ?_⟩⟩;have:=h0.cells (g:=g) rfl j u hu;rw[L.addr_add,Nat.zero_add] at this;exact this
end Al
set_option maxRecDepth 40000
theorem Tryz.infoStr:(prog.info? 9).map (fun i=>(i.zero,i.size,i.bytes))=some (some (.string ⟨#[]⟩),1,16):=by kernel_rfl
namespace Sh
def Ns (w:World) (v:Value) (l:List ByteArray):Prop:=∃ao cap,v=.slice ao l.length cap/\(0<l.length->∃g,ao=some ⟨g,0,none⟩/\g<w.heap.size/\∀(j:Nat) x,l[j]?=some x->w.cell? ⟨g,j,none⟩=some (.string x))
theorem Ns.below {w w':World}{v:Value}{l:List ByteArray}(h:Ns w v l)(hb:Bl w w'):Ns w' v l:=by
 obtain⟨ao,cap,rfl,hc⟩:=h;refine⟨ao,cap,rfl,fun h0=> ?_⟩;obtain⟨g,rfl,hg,hc⟩:=hc h0;exact⟨g,rfl,by have:=hb.size;omega,fun j x hj=>(hb.cell (p:=⟨g,j,none⟩) hg).trans (hc j x hj)⟩
theorem Ns.own {w:World}{F:Nat}{v:Value}{l:List ByteArray}(h:w.ownsRow F 9 1 v l.length (l.map Value.string)):Ns w v l:=by
 obtain⟨ao,cap,rfl,hc⟩:=Al.lies h;refine⟨ao,cap,rfl,fun h0=> ?_⟩;obtain⟨g,rfl,hg,hc⟩:=hc h0;exact⟨g,rfl,hg,fun j x hj=>hc j _ (by rw[List.getElem?_map,hj];rfl)⟩
end Sh
theorem zff (w:World):Calls prog 7 #[] w fun e w'=>∃v,e=.returned v/\Sh.Ns w' v (Sh.row.map fun x=>x.1)/\Bl w w':=by
 have hF:=zfg w;generalize Sh.row=l at hF ⊢
 go_enter func7,ntmps7
 go_wp2_with fail
 refine hF.mono ?_;clear hF;rintro e w1 ⟨v1,rfl,⟨b,rfl,hl,hc⟩,b1⟩;have HC:=qH hc;have HB1:=qH b1;clear hc b1;go_wp2
 go_loopw [1,6] (fun i1 i6 wr=>∃(k:Nat) (ns:List ByteArray) (vo:Option Addr) (vc:Nat),k<=l.length/\i6=.int .i64 k/\i1=.slice vo ns.length vc/\Hid (ns.length=k)/\Hid (ns=(l.take k).map fun x=>x.1)/\Hid (wr.ownsRow w1.heap.size 9 1 (.slice vo ns.length vc) ns.length (ns.map Value.string)/\Bl w1 wr)) (fun _ i6 _=>l.length-(RowKit.intOf i6).toNat)
 case atStart=>exact⟨0,[],none,0,Nat.zero_le _,rfl,rfl,rfl,by show _=_;simp,World.ownsRow_nil _ _ _ _,qR _⟩
 case round =>
  obtain⟨k,ns,vo,vc,hk,rfl,rfl,HK,HNs,HI⟩:=hrel
  by_cases hlt:k<l.length
  ·obtain⟨x,hx⟩:∃x,l[k]?=some x:=⟨l[k],by simp[hlt]⟩;obtain⟨c0,c1⟩:=HC.out k x hx;rw[<- HI.out.2.cell (p:=⟨b,k*2,none⟩) (L.block_lt c0)] at c0;rw[<- HI.out.2.cell (p:=⟨b,k*2+1,none⟩) (L.block_lt c1)] at c1;obtain⟨X,hX⟩:=qE (wr.alloc (.cells #[.string x.1,.string x.2] 56));have hXb:Bl wr X:=by rw[hX];exact(qR wr).alloc qN _
   have ownX:X.ownsRow w1.heap.size 9 1 (.slice vo ns.length vc) ns.length (ns.map Value.string):=by rw[hX];exact HI.out.1.alloc _
   have hBX:=HI.out.2.trans (hXb.mono HI.out.2.size);have hn:=HK.out;obtain⟨ao1,vc1,w4,run1,own4,kp4,sz4,be4⟩:=Al.app (sl:=25) underlying25 Tryz.infoStr rfl (by decide) (by decide) ownX hBX.size (by omega) [.string x.1] rfl (fun u hu=>by simp at hu;subst hu;rfl);have HN:Hid (ns++ [x.1]=(l.take (k+1)).map (fun x=>x.1)/\(ns++ [x.1]).length=ns.length+1/\w4.ownsRow w1.heap.size 9 1 (.slice ao1 (ns.length+1) vc1) (ns.length+1) ((ns++ [x.1]).map Value.string)/\Bl w1 w4):=⟨by rw[List.take_add_one,hx,List.map_append,<- HNs.out];rfl,by simp,by rw[List.map_append];exact own4,hBX.trans be4⟩;obtain⟨x1,x2⟩:=x;simp only at c0 c1 run1 HN hX;rw[hX,show (wr.alloc (.cells #[.string x1,.string x2] 56)).heap.size=wr.heap.size+1 by simp] at run1;have hk2:ns.length+1=k+1:=by omega
   have HK2:=qH hk2;clear hx hX hXb ownX hBX own4 kp4 be4 hn hk2
   go_wp2_with (at_builtin;refine Lib.wpList_append_run _ rfl _ _ _ _ rfl _ _ rfl rfl _ _ (run1 _) ?_;clear run1)
   go_roundw
   case rel=>exact⟨k+1,ns++ [x1],ao1,vc1,by omega,by go_num,by rw[HN.out.2.1],by show _=_;rw[HN.out.2.1];exact HK2.out,HN.out.1,by show _/\_;rw[HN.out.2.1];exact HN.out.2.2⟩
   case measure=>simp[RowKit.intOf];omega
  ·have hke:k=l.length:=by omega
   have hz:=HNs.out;rw[hke,List.take_length] at hz;go_wp2;go_ret;rw[<- hz];exact⟨_,rfl,Sh.Ns.own HI.out.1,HB1.out.trans (HI.out.2.mono HB1.out.size)⟩
