/-
 A row of runes as a list, in a walk that only lets them change their places; classes, and marks held against each other.
-/
import Derived.Test.YtamfgmaipajodaaGreatDoorNmSymP
import Derived.Test.YtamfgmaipajodaaGreatDoorOdP
import Derived.Test.YtamfgmaipajodaaGreatDoorNmIns
import Derived.Test.YtamfgmaipajodaaGreatDoorVLib
import Derived.Test.YtamfgmaipajodaaGreatDoorAlApp
import Derived.Test.YtamfgmaipajodaaGreatDoorCnPiece
set_option maxHeartbeats 0
set_option maxRecDepth 20000
set_option linter.unusedSimpArgs false
set_option linter.unusedVariables false
namespace Go.Proofs.YtamfgmaipajodaaGreatDoor
open Go.RowKit Go.Sort
namespace Od
variable [Ck]
def In (w0:World) (blk off n:Nat) (L:List Int) (w:World):Prop:=L.length=n/\(∃d0:Array Int,Holds Zi.en w0 blk off d0/\d0.size=n)/\Zi.At w0 blk off n L.toArray w/\∀x∈L,ok x
theorem In.start {w:World}{blk off:Nat}{L:List Int}(h:Holds Zi.en w blk off L.toArray)(ho:∀x∈L,ok x):In w blk off L.length L w:=⟨rfl,⟨_,h,by simp⟩,by have:=Zi.At.start h;simpa using this,ho⟩
theorem In.cell {w0 w:World}{blk off n:Nat}{L:List Int}(h:In w0 blk off n L w):∀t,t<n->w.cell? ⟨blk,off+t,none⟩=some (.int .i64 L.toArray[t]!):=by
 obtain⟨hl,⟨d0,h0,hs⟩,ha,_⟩:=h;exact fun t ht=>ha.cell h0 hs ht
theorem In.free {w0 w:World}{blk off n:Nat}{L:List Int}(h:In w0 blk off n L w):∀t,t<n->w.frozen? ⟨blk,off+t,none⟩=false:=by
 obtain⟨hl,⟨d0,h0,hs⟩,ha,_⟩:=h;exact fun t ht=>ha.free h0 hs ht
theorem In.okAt {w0 w:World}{blk off n:Nat}{L:List Int}(h:In w0 blk off n L w){t:Nat}(ht:t<n):ok L.toArray[t]! := by
 have hl:=h.1;rw[Nm.zth (by omega)];exact h.2.2.2 _ (List.getElem_mem _)
theorem In.drew {w0 w:World}{blk off n:Nat}{L:List Int}(h:In w0 blk off n L w)(q:Nat):In w0 blk off n L (w.drewN q):=by
 obtain⟨hl,h0,ha,ho⟩:=h;exact⟨hl,h0,ha.drew q,ho⟩
theorem In.swap {w0 w:World}{blk off n:Nat}{L L':List Int}(h:In w0 blk off n L w){i j:Nat}(hi:i<n)(hj:j<n)(e:swp L.toArray i j=L'.toArray)(q:Nat) :
  In w0 blk off n L' (((w.drewN q).setCell ⟨blk,off+i,none⟩ (.int .i64 L.toArray[j]!)).setCell ⟨blk,off+j,none⟩ (.int .i64 L.toArray[i]!)):=by
 have hi':=h.okAt hi;have hj':=h.okAt hj;obtain⟨hl,h0,ha,ho⟩:=h;have h1:=ha.swap hi hj q;refine⟨by rw[e] at h1;have:=h1.1;simpa using this,h0,by rw[e] at h1;exact h1,fun x hx=> ?_⟩
 have e2:L'=(L.set i L.toArray[j]!).set j L.toArray[i]! := by
  have:=congrArg Array.toList e;unfold swp at this;simpa using this.symm
 rw[e2] at hx;rcases List.mem_or_eq_of_mem_set hx with hx | rfl
 ·rcases List.mem_or_eq_of_mem_set hx with hx | rfl
  ·exact ho x hx
  ·exact hj'
 ·exact hi'
theorem In.of {w0 w:World}{blk off n:Nat}{L L':List Int}(h:In w0 blk off n L w)(e:L=L'):In w0 blk off n L' w:=e▸h
def Con (w0:World) (blk:Nat):Prop:=∀(X:World) (x y:Int),(∀a:Addr,a.block≠blk->X.cell? a=w0.cell? a)->ok x->ok y->Calls Tryz.prog 105 #[.int .i64 x,.int .i64 y,.pointer (some ⟨Ck.kb,0,none⟩)] X fun e w'=>e= .returned (.int .i64 (cmp x y))/\w'=X
end Od
end Go.Proofs.YtamfgmaipajodaaGreatDoor
namespace Go.Proofs.YtamfgmaipajodaaGreatDoor
open Go.RowKit
theorem zo8 (b:Bool)(w:World):Calls Tryz.prog 51 #[.bool b] w fun e w'=>e= .returned (.int .i64 (if b=true then 1 else 0))/\w'=w:=by
 cases b with
 | true =>
  go_enter Tryz.func51,Tryz.ntmps51
  go_wp2;go_ret
  exact⟨by simp,rfl⟩
 | false =>
  go_enter Tryz.func51,Tryz.ntmps51
  go_wp2;go_ret
  exact⟨by simp,rfl⟩
namespace Od
theorem drop_at {l:List Int}{j:Nat}{x:Int}(h:l[j]?=some x):l.drop j=x::l.drop (j+1):=by
 obtain⟨hj,e⟩:=qL.1 h;rw[List.drop_eq_getElem_cons hj,e]
end Od
namespace Od
def KRd (w:World) (g i:Nat) (k:K3):Prop:=∃s1 s2 s3:Value,w.cell? ⟨g,i,none⟩=some s1/\w.cell? ⟨g,i+1,none⟩=some s2/\w.cell? ⟨g,i+2,none⟩=some s3/\L.Rd w s1 .i64 k.1/\L.Rd w s2 .i64 k.2.1/\L.Rd w s3 .i64 k.2.2
def Ks (w:World) (v:Value) (ks:List K3):Prop:=∃ao cap,v= .slice ao ks.length cap/\(ks≠ []->∃g,ao=some ⟨g,0,none⟩/\∀j k,ks[j]?=some k->KRd w g (j*3) k)
end Od
end Go.Proofs.YtamfgmaipajodaaGreatDoor
namespace Go.Proofs.YtamfgmaipajodaaGreatDoor
open Go.RowKit Go.Shelf
theorem Tryz.infoInt:(Tryz.prog.info? 3).map (fun i=>(i.zero,i.size,i.bytes))=some (some (.int .i64 0),1,8):=by kernel_rfl
namespace Od
theorem app {sl e:TypeId}{z:Value}{k y:Nat}(hs:Tryz.prog.underlying sl=some (.slice e))(hinfo:(Tryz.prog.info? e).map (fun i=>(i.zero,i.size,i.bytes))=some (some z,k,y))(hzk:z.cells.size=k)(hk:0<k)(hy:y<=100)
  {w:World} {B n:Nat} {vo:Value} {xs:List Value} (own:w.ownsRow B e k vo n xs) (hB:B<=w.heap.size) (hl:n<=1000000) (news:List Value) (hn:news.length=k) (h1:∀u∈news,u.oneCell'=true) :
  ∃ao' vc' w',(∀ty,(Builtin.append_ #[sl,sl] ty #[vo,.slice (some ⟨w.heap.size,0,none⟩) 1 1]).run Tryz.prog (w.alloc (.cells news.toArray e))= .ok (.slice ao' (n+1) vc') w')/\w'.ownsRow B e k (.slice ao' (n+1) vc') (n+1) (xs++news)/\(∀b,b<w.heap.size->vo.ownBlock≠some b->w'.heap[b]?=w.heap[b]?)/\w.heap.size<=w'.heap.size/\Below B w w'/\((Value.slice ao' (n+1) vc').ownBlock=vo.ownBlock∨∃q,(Value.slice ao' (n+1) vc').ownBlock=some q/\w.heap.size<=q):=by
 have hal:Below w.heap.size w (w.alloc (.cells news.toArray e)):=(qR w).alloc qN _;have hnew:=heap_alloc_new w (.cells news.toArray e);obtain⟨i0,hi,hz0,hz1,hz2⟩:=info_parts hinfo
 have hcells:∀j u,news[j]?=some u->(w.alloc (.cells news.toArray e)).cell? ((⟨w.heap.size,0,none⟩:Addr).add j)=some u:=fun j u hj=>by
  rw[L.addr_add,Nat.zero_add];exact K.zah hnew (by simpa using hj)
 have hyb:(n+1)*y<=140737488355328:=Nat.le_trans (Nat.mul_le_mul (Nat.succ_le_succ hl) hy) (by decide);have hw1:(w.alloc (.cells news.toArray e)).heap.size=w.heap.size+1:=by simp
 have fin:∀(v':Value) (w':World),(∀ty,(Builtin.append_ #[sl,sl] ty #[vo,.slice (some ⟨w.heap.size,0,none⟩) 1 1]).run Tryz.prog (w.alloc (.cells news.toArray e))= .ok v' w')->w'.ownsRow B e k v' (n+1) (xs++news)->(w.alloc (.cells news.toArray e)).grownBy w' vo.ownBlock->(v'.ownBlock=vo.ownBlock∨∃q,v'.ownBlock=some q/\w.heap.size<=q)->∃ao' vc' w',(∀ty,(Builtin.append_ #[sl,sl] ty #[vo,.slice (some ⟨w.heap.size,0,none⟩) 1 1]).run Tryz.prog (w.alloc (.cells news.toArray e))= .ok (.slice ao' (n+1) vc') w')/\w'.ownsRow B e k (.slice ao' (n+1) vc') (n+1) (xs++news)/\(∀b,b<w.heap.size->vo.ownBlock≠some b->w'.heap[b]?=w.heap[b]?)/\w.heap.size<=w'.heap.size/\Below B w w'/\((Value.slice ao' (n+1) vc').ownBlock=vo.ownBlock∨∃q,(Value.slice ao' (n+1) vc').ownBlock=some q/\w.heap.size<=q):=by
  intro v' w' run own' gr hd
  obtain⟨ao',vc',rfl⟩:∃ao cap,v'= .slice ao (n+1) cap:=by
   rcases own'.2 with ⟨hv,h0⟩|⟨g,cap,cur,hv,_⟩
   ·omega
   ·exact⟨_,cap,hv⟩
  refine⟨ao',vc',w',run,own',fun b hb hne=> ?_,?_,(hal.mono hB).grown gr (by simp;omega) fun k hk=>(own.lt k hk).1,hd⟩
  ·rw[gr.block b (by simp;omega) (fun e=>hne e.symm)];exact hal.block b hb
  ·have:=gr.size;simp at this;omega
 have blk:∀(v':Value) (w':World) (G:Nat),w'.ownsRow G e k v' (n+1) (xs++news)->w.heap.size<=G->∃q,v'.ownBlock=some q/\w.heap.size<=q:=fun v' w' G h hG=>by
  rcases h.2 with ⟨_,h1⟩|⟨g,cap,cur,h,hg,_⟩
  ·omega
  ·exact⟨g,by rw[h];rfl,by omega⟩
 rcases own.2 with ⟨hv,h0⟩|⟨g,cap,cur,hv,hBg,hg,hnc,hcm,hcs,htk⟩
 ·subst h0 hv;have hx:xs= []:=List.eq_nil_of_length_eq_zero (by have:=own.1;omega);subst hx;obtain⟨v',w',hrun,r1,r2,_⟩:=run_append_own (P:=Tryz.prog) (w.alloc (.cells news.toArray e)) w.heap.size sl sl e i0 _ k y hs hi hz0 hz1 hz2 hzk hk (.slice none 0 0) 0 [] (World.ownsRow_nil _ _ _ _) ⟨w.heap.size,0,none⟩ 1 1 news (by rw[hn];omega) hcells h1 (by unfold maxLen;omega) hyb (by simp);exact fin v' w' (fun ty=>hrun) (L.zaw r1 hB) r2 (.inr (blk v' w' _ r1 qN))
 ·subst hv
  by_cases hf:n+1<=cap
  ·obtain⟨w',hrun,r1,r2⟩:=run_append_fits (P:=Tryz.prog) (w.alloc (.cells news.toArray e)) B sl sl e i0 k hs hi hz1 g n cap xs (own.alloc _) ⟨w.heap.size,0,none⟩ 1 1 news (by rw[hn];omega) hcells h1 hf;exact fin _ w' (fun ty=>hrun) r1 r2 (.inl rfl)
  ·obtain⟨v',w',hrun,r1,r2⟩:=run_append_arg_grows (P:=Tryz.prog) (w.alloc (.cells news.toArray e)) sl sl e i0 _ k y hs hi hz0 hz1 hz2 hzk hk ⟨g,0,none⟩ n cap xs (by have:=own.1;omega) (fun j u hj=>World.ownsRow.cells (own.alloc _) (g:=g) rfl j u hj) ⟨w.heap.size,0,none⟩ 1 1 news (by rw[hn];omega) hcells (by omega) (by unfold maxLen;omega) hyb;exact fin v' w' (fun ty=>hrun) (L.zaw r1 (by omega)) ⟨r2.os,r2.tape,r2.output,r2.size,fun k hk _=>r2.block k hk (by simp)⟩ (.inr (blk v' w' _ r1 (by omega)))
abbrev longs (l:List Int):List Value:=l.map (Value.int .i64)
abbrev Ow (w:World) (F:Nat) (v:Value) (l:List Int):Prop:=w.ownsRow F 3 1 v l.length (longs l)
theorem Ow.rd {w:World}{F:Nat}{v:Value}{l:List Int}(h:Ow w F v l):L.Rd w v .i64 l:=L.Rd.za1 h
def Apt (a b:Value):Prop:=∀q,a.ownBlock=some q->b.ownBlock≠some q
theorem Apt.symm {a b:Value}(h:Apt a b):Apt b a:=fun q h1 h2=>h q h2 h1
theorem zke (b:Value):Apt (.slice none 0 0) b:=fun q h=>by cases h
theorem push {w:World}{F:Nat}{v:Value}{l:List Int}(own:Ow w F v l)(hF:F<=w.heap.size)(hl:l.length<=100000)(z:Int) :
  ∃v' w',(∀ty,(Builtin.append_ #[45,45] ty #[v,.slice (some ⟨w.heap.size,0,none⟩) 1 1]).run Tryz.prog (w.alloc (.cells #[.int .i64 z] 3))= .ok v' w')/\Ow w' F v' (l++ [z])/\Below F w w'/\(∀b,b<w.heap.size->v.ownBlock≠some b->w'.heap[b]?=w.heap[b]?)/\w.heap.size<=w'.heap.size/\(∀(u:Value) (e:TypeId) (k n:Nat) (xs:List Value) (G:Nat),w.ownsRow G e k u n xs->Apt v u->w'.ownsRow G e k u n xs/\Apt v' u):=by
 obtain⟨ao,cap,w',run,own',kp,sz,be,nw⟩:=app (sl:=45) Tryz.underlying45 Tryz.infoInt rfl (by decide) (by decide) own hF (by omega) [.int .i64 z] rfl (fun u hu=>by simp at hu;subst hu;rfl);refine⟨_,w',run,?_,be,kp,sz,fun u e k n xs G hu ha=>⟨Al.held hu fun q hq hlt=>kp q hlt fun h=>ha q h hq,fun q h1 h2=> ?_⟩⟩
 ·unfold Ow longs;rw[List.map_append,List.length_append];exact own'
 ·rcases nw with h | ⟨p,h,hp⟩
  ·exact ha q (h.symm.trans h1) h2
  ·rw[h] at h1;have:=(hu.lt q h2).2;have:=Option.some.inj h1;omega
structure Tri (w:World) (F:Nat) (a b c:Value) (k:List Int×List Int×List Int):Prop where
 o1:Ow w F a k.1
 o2:Ow w F b k.2.1
 o3:Ow w F c k.2.2
 a12:Apt a b
 a13:Apt a c
 a23:Apt b c
theorem Tri.start (w:World)(F:Nat):Tri w F (.slice none 0 0) (.slice none 0 0) (.slice none 0 0) ([],[],[]):=⟨World.ownsRow_nil _ _ _ _,World.ownsRow_nil _ _ _ _,World.ownsRow_nil _ _ _ _,zke _,zke _,zke _⟩
theorem Tri.push1 {w:World}{F:Nat}{a b c:Value}{k:List Int×List Int×List Int}(h:Tri w F a b c k)(hF:F<=w.heap.size)(hl:k.1.length<=100000)(z:Int) :
  ∃v' w',(∀ty,(Builtin.append_ #[45,45] ty #[a,.slice (some ⟨w.heap.size,0,none⟩) 1 1]).run Tryz.prog (w.alloc (.cells #[.int .i64 z] 3))= .ok v' w')/\Tri w' F v' b c (k.1++ [z],k.2.1,k.2.2)/\Below F w w'/\w.heap.size<=w'.heap.size:=by
 obtain⟨v',w',run,own,be,_,sz,kp⟩:=push h.o1 hF hl z;obtain⟨p1,p2⟩:=kp b _ _ _ _ _ h.o2 h.a12;obtain⟨q1,q2⟩:=kp c _ _ _ _ _ h.o3 h.a13;exact⟨v',w',run,⟨own,p1,q1,p2,q2,h.a23⟩,be,sz⟩
theorem Tri.push2 {w:World}{F:Nat}{a b c:Value}{k:List Int×List Int×List Int}(h:Tri w F a b c k)(hF:F<=w.heap.size)(hl:k.2.1.length<=100000)(z:Int) :
  ∃v' w',(∀ty,(Builtin.append_ #[45,45] ty #[b,.slice (some ⟨w.heap.size,0,none⟩) 1 1]).run Tryz.prog (w.alloc (.cells #[.int .i64 z] 3))= .ok v' w')/\Tri w' F a v' c (k.1,k.2.1++ [z],k.2.2)/\Below F w w'/\w.heap.size<=w'.heap.size:=by
 obtain⟨v',w',run,own,be,_,sz,kp⟩:=push h.o2 hF hl z;obtain⟨p1,p2⟩:=kp a _ _ _ _ _ h.o1 h.a12.symm;obtain⟨q1,q2⟩:=kp c _ _ _ _ _ h.o3 h.a23;exact⟨v',w',run,⟨p1,own,q1,p2.symm,h.a13,q2⟩,be,sz⟩
theorem Tri.push3 {w:World}{F:Nat}{a b c:Value}{k:List Int×List Int×List Int}(h:Tri w F a b c k)(hF:F<=w.heap.size)(hl:k.2.2.length<=100000)(z:Int) :
  ∃v' w',(∀ty,(Builtin.append_ #[45,45] ty #[c,.slice (some ⟨w.heap.size,0,none⟩) 1 1]).run Tryz.prog (w.alloc (.cells #[.int .i64 z] 3))= .ok v' w')/\Tri w' F a b v' (k.1,k.2.1,k.2.2++ [z])/\Below F w w'/\w.heap.size<=w'.heap.size:=by
 obtain⟨v',w',run,own,be,_,sz,kp⟩:=push h.o3 hF hl z;obtain⟨p1,p2⟩:=kp a _ _ _ _ _ h.o1 h.a13.symm;obtain⟨q1,q2⟩:=kp b _ _ _ _ _ h.o2 h.a23.symm;exact⟨v',w',run,⟨p1,q1,own,h.a12,p2.symm,q2.symm⟩,be,sz⟩
theorem Tri.base {w:World}{F G:Nat}{a b c:Value}{k:List Int×List Int×List Int}(h:Tri w F a b c k)(hG:G<=F):Tri w G a b c k:=⟨L.zaw h.o1 hG,L.zaw h.o2 hG,L.zaw h.o3 hG,h.a12,h.a13,h.a23⟩
theorem Tri.below {w w':World}{F:Nat}{a b c:Value}{k:List Int×List Int×List Int}(h:Tri w F a b c k)(hb:Below w.heap.size w w'):Tri w' F a b c k :=
 ⟨L.zat h.o1 hb qN,L.zat h.o2 hb qN,L.zat h.o3 hb qN,h.a12,h.a13,h.a23⟩
end Od
end Go.Proofs.YtamfgmaipajodaaGreatDoor
namespace Go.Proofs.YtamfgmaipajodaaGreatDoor
open Go.RowKit Go.Sort Go.Shelf
theorem zmh (w0 w:World)(blk off n cap a m b:Nat)(P B Q:List Int)(x:Int)(h0:Nm.In w0 blk off n (P++(x::B)++Q) w)(ha:a=P.length)(hm:m=a+1)(hb:b=m+B.length)(hB:Nm.Srt B)(hsz:n<1152921504606846976) :
  Calls Tryz.prog 182 #[.slice (some ⟨blk,off,none⟩) n cap,.int .i64 a,.int .i64 m,.int .i64 b,.func (.func 99) #[] #[]] w fun e w'=>e= .returned (.tuple #[])/\∃S',S'.length=B.length+1/\Nm.Srt S'/\Nm.Eqv (x::B) S'/\Nm.In w0 blk off n (P++S'++Q) w':=by
 have eg:∀args w,(callFunc 99 args).run Tryz.prog w= .ok (.enter 99 args) w:=enters_of Tryz.func99 (by kernel_rfl) rfl;have hlen:(P++(x::B)++Q).length=n:=h0.1;simp only[List.length_append,List.length_cons] at hlen;have hbn:b<=n:=by omega
 have hmb:m<=b:=by omega
 have e1:(m:Int) - (a:Int)=1:=by omega
 have ham:a+1<=m:=by omega
 have hma:m<=a+1:=by omega
 have HL:Hid (a=P.length/\m=a+1/\b=m+B.length/\Nm.Srt B):=⟨ha,hm,hb,hB⟩;obtain⟨G,hG⟩:∃G:Nat->Int,∀t,G t=(P++(x::B)++Q).toArray[t]! := ⟨fun t=>(P++(x::B)++Q).toArray[t]!,fun _=>rfl⟩
 have HGa:Hid (G a=x):=by
  show _=_;rw[hG,Nm.ze4 P (x::B) Q (by omega) (by simp;omega)];simp[ha]
 have HGB:Hid (∀(t k:Nat) (h:k<B.length),t=m+k->G t=B[k]):=fun t k h e0=>by
  have e:P++(x::B)++Q=(P++ [x])++B++Q:=by simp
  rw[hG,e,Nm.ze4 (P++ [x]) B Q (by simp;omega) (by simp;omega)];congr 1;simp;omega
 have HIn:Hid (Nm.In w0 blk off n (P++(x::B)++Q) w):=h0;have HG:Hid (∀t,G t=(P++(x::B)++Q).toArray[t]!):=hG;clear h0 ha hm hb hB hlen hG
 go_enter Tryz.func182,Tryz.ntmps182
 go_wp2
 go_loopw [10,11] (fun vi vj wr=>∃i j:Nat,vi= .int .i64 i/\vj= .int .i64 j/\m<=i/\i<=j/\j<=b/\Hid (Nm.In w0 blk off n (P++(x::B)++Q) wr)/\Hid ((m<i->Nm.cls (G (i - 1))<Nm.cls x)/\(j<b->Nm.cls x<=Nm.cls (G j)))) (fun vi vj _=>(RowKit.intOf vj).toNat - (RowKit.intOf vi).toNat)
 case atStart=>exact⟨m,b,rfl,rfl,qN,hmb,qN,HIn.out,fun h=>absurd h (Nat.lt_irrefl _),fun h=>absurd h (Nat.lt_irrefl _)⟩
 case round =>
  obtain⟨i,j,rfl,rfl,hmi,hij,hjb,HI,HO⟩:=hrel
  by_cases hlt:i<j
  ·obtain⟨c,hc⟩:∃c:Nat,((i:Int)+(j:Int)) / 2=(c:Int):=⟨(i+j) / 2,by omega⟩;have hc1:i<=c:=by omega
   have hc2:c<j:=by omega
   have hcw:∀t,t<n->wr.cell? ⟨blk,off+t,none⟩=some (.int .i32 (G t)):=fun t ht=>by rw[HG.out];exact HI.out.cell t ht
   have ca:wr.cell? ⟨blk,off+a,none⟩=some (.int .i32 x):=by rw[hcw a (by omega),HGa.out]
   obtain⟨y,hy⟩:∃y,y=G c:=⟨_,rfl⟩;have cc:wr.cell? ⟨blk,off+c,none⟩=some (.int .i32 y):=by rw[hcw c (by omega),hy]
   have HY:Hid (y=G c):=hy;have HC:Hid (Nm.cmp y x<0↔Nm.cls y<Nm.cls x):=Nm.zic;clear hcw hy;go_wp2
   by_cases hxy:Nm.cmp y x<0
   ·go_quiet (first | (go_at_call 99;refine Calls.quiet_of_same (zbf _ _ _)))
    go_wp2
    go_roundw
    case rel=>exact⟨c+1,j,by go_num,rfl,by omega,by omega,hjb,HI.out.drew _,fun _=>by rw[Nat.add_sub_cancel,<- HY.out];exact HC.out.1 hxy,HO.out.2⟩
    case measure=>simp[RowKit.intOf];omega
   ·go_quiet (first | (go_at_call 99;refine Calls.quiet_of_same (zbf _ _ _)))
    go_wp2
    go_roundw
    case rel=>exact⟨i,c,rfl,rfl,hmi,by omega,by omega,HI.out.drew _,HO.out.1,fun _=>by rw[<- HY.out];exact Int.not_lt.1 fun h=>hxy (HC.out.2 h)⟩
    case measure=>simp[RowKit.intOf];omega
  ·have hje:j=i:=by omega
   subst hje;have hk:j - m<=B.length:=by have:=HL.out;omega
   have HS:Hid (Nm.Srt (B.take (j - m)++x::B.drop (j - m))/\Nm.Eqv (x::B) (B.take (j - m)++x::B.drop (j - m))):=by
    have hb:=HL.out.2.2.1;refine Nm.zuf HL.out.2.2.2 (Nm.ziz HL.out.2.2.2 hk fun h=> ?_) (Nm.zcw HL.out.2.2.2 fun h=> ?_)
    ·have h1:=HO.out.1 (by omega);rw[HGB.out (j - 1) (j - m - 1) (by omega) (by omega)] at h1;exact h1
    ·have h1:=HO.out.2 (by omega);rw[HGB.out j (j - m) (by omega) (by omega)] at h1;exact h1
   obtain⟨D,hD⟩:∃D,D=B.take (j - m):=⟨_,rfl⟩;obtain⟨R,hR⟩:∃R,R=B.drop (j - m):=⟨_,rfl⟩;have hDl:m+D.length=j:=by rw[hD,List.length_take];omega
   have HB:Hid (B=D++R/\m+D.length=j):=⟨by rw[hD,hR,List.take_append_drop],hDl⟩;rw[<- hD,<- hR] at HS
   have HU:Hid (Nm.In w0 blk off n (Nm.up P D x (R++Q) 0) wr):=by
    show Nm.In _ _ _ _ _ _;rw[Nm.zn1];refine HI.out.of ?_;rw[HB.out.1];simp
   have hDl1:m+D.length<=j:=by omega
   have hDl2:j<=m+D.length:=by omega
   clear HI HO HGB HGa HG HIn hk hD hR hDl;go_wp2
   go_loopw [13] (fun vk wr=>∃t:Nat,vk= .int .i64 ((a+t:Nat):Int)/\t<=D.length/\Hid (Nm.In w0 blk off n (Nm.up P D x (R++Q) t) wr)) (fun vk _=>j - (RowKit.intOf vk).toNat)
   case atStart=>exact⟨0,by simp,Nat.zero_le _,HU.out⟩
   case round =>
    obtain⟨t,rfl,ht,HT⟩:=hrel;clear HU
    by_cases hlt:t<D.length
    ·obtain⟨F,hF⟩:∃F:Nat->Int,∀q,F q=(Nm.up P D x (R++Q) t).toArray[q]! := ⟨fun q=>(Nm.up P D x (R++Q) t).toArray[q]!,fun _=>rfl⟩;obtain⟨k,hk⟩:∃k,k=a+t:=⟨_,rfl⟩;have hk1:k+1<j:=by omega
     have hcw:∀q,q<n->wr.cell? ⟨blk,off+q,none⟩=some (.int .i32 (F q)):=fun q hq=>by rw[hF];exact HT.out.cell q hq
     have hfw:∀q,q<n->wr.frozen? ⟨blk,off+q,none⟩=false:=fun q hq=>HT.out.free q hq
     have HW:Hid (∀q,Nm.In w0 blk off n (Nm.up P D x (R++Q) (t+1)) (((wr.drewN q).setCell ⟨blk,off+k,none⟩ (.int .i32 (F (k+1)))).setCell ⟨blk,off+(k+1),none⟩ (.int .i32 (F k)))):=fun q=>by
      rw[hF,hF];exact HT.out.swap (i:=k) (j:=k+1) (by omega) (by omega) (Nm.ztn P D x (R++Q) hlt (by have:=HL.out.1;omega)) q
     rw[<- hk];have HK:Hid (k=a+t):=hk;clear hF HT hk;go_wp2
     go_region
     all_goals go_wp2
     go_roundw
     case rel=>exact⟨t+1,by have:=HK.out;congr 1;omega,by omega,HW.out 1⟩
     case measure=>have:=HK.out;simp[RowKit.intOf];omega
    ·have e:t=D.length:=by omega
     have HE:Hid (Nm.In w0 blk off n (P++(D++x::R)++Q) wr):=by
      have h:=HT.out;rw[e,Nm.zs7] at h;refine h.of ?_;simp
     clear HT;go_wp2;refine bodyPost_ret (v:= .tuple #[]) (by simp[results,Tryz.results182,go_sem, *]) rfl ?_;refine⟨rfl,_,?_,HS.out.1,HS.out.2,HE.out⟩;rw[HB.out.1];simp;omega
theorem zmg (w0 w:World)(blk off n cap a m b:Nat)(P A Q:List Int)(y:Int)(h0:Nm.In w0 blk off n (P++(A++ [y])++Q) w)(ha:a=P.length)(hm:m=a+A.length)(hb:b=m+1)(h2:2<=A.length)(hA:Nm.Srt A)(hsz:n<1152921504606846976) :
  Calls Tryz.prog 182 #[.slice (some ⟨blk,off,none⟩) n cap,.int .i64 a,.int .i64 m,.int .i64 b,.func (.func 99) #[] #[]] w fun e w'=>e= .returned (.tuple #[])/\∃S',S'.length=A.length+1/\Nm.Srt S'/\Nm.Eqv (A++ [y]) S'/\Nm.In w0 blk off n (P++S'++Q) w':=by
 have eg:∀args w,(callFunc 99 args).run Tryz.prog w= .ok (.enter 99 args) w:=enters_of Tryz.func99 (by kernel_rfl) rfl;have hlen:(P++(A++ [y])++Q).length=n:=h0.1;simp only[List.length_append,List.length_cons,List.length_nil] at hlen;have hmn:m<n:=by omega
 have ham:a+2<=m:=by omega
 have e1:¬((m:Int) - (a:Int)=1):=by omega
 have e2:(b:Int) - (m:Int)=1:=by omega
 have HL:Hid (a=P.length/\m=a+A.length/\b=m+1/\Nm.Srt A):=⟨ha,hm,hb,hA⟩;obtain⟨G,hG⟩:∃G:Nat->Int,∀t,G t=(P++(A++ [y])++Q).toArray[t]! := ⟨fun t=>(P++(A++ [y])++Q).toArray[t]!,fun _=>rfl⟩
 have HGm:Hid (G m=y):=by
  show _=_;have e:P++(A++ [y])++Q=(P++A)++y::Q:=by simp
  rw[hG,e];exact Nm.zfg (P++A) Q y (by simp;omega)
 have HGA:Hid (∀(t k:Nat) (h:k<A.length),t=a+k->G t=A[k]):=fun t k h e0=>by
  have e:P++(A++ [y])++Q=P++A++([y]++Q):=by simp
  rw[hG,e,Nm.ze4 P A ([y]++Q) (by omega) (by omega)];congr 1;omega
 have HIn:Hid (Nm.In w0 blk off n (P++(A++ [y])++Q) w):=h0;have HG:Hid (∀t,G t=(P++(A++ [y])++Q).toArray[t]!):=hG;clear h0 ha hm hb hA hlen hG h2
 go_enter Tryz.func182,Tryz.ntmps182
 go_wp2
 go_loopw [14,15] (fun vi vj wr=>∃i j:Nat,vi= .int .i64 i/\vj= .int .i64 j/\a<=i/\i<=j/\j<=m/\Hid (Nm.In w0 blk off n (P++(A++ [y])++Q) wr)/\Hid ((a<i->Nm.cls (G (i - 1))<=Nm.cls y)/\(j<m->Nm.cls y<Nm.cls (G j)))) (fun vi vj _=>(RowKit.intOf vj).toNat - (RowKit.intOf vi).toNat)
 case atStart=>exact⟨a,m,rfl,rfl,qN,by omega,qN,HIn.out,fun h=>absurd h (Nat.lt_irrefl _),fun h=>absurd h (Nat.lt_irrefl _)⟩
 case round =>
  obtain⟨i,j,rfl,rfl,hai,hij,hjm,HI,HO⟩:=hrel
  by_cases hlt:i<j
  ·obtain⟨c,hc⟩:∃c:Nat,((i:Int)+(j:Int)) / 2=(c:Int):=⟨(i+j) / 2,by omega⟩;have hc1:i<=c:=by omega
   have hc2:c<j:=by omega
   have hcw:∀t,t<n->wr.cell? ⟨blk,off+t,none⟩=some (.int .i32 (G t)):=fun t ht=>by rw[HG.out];exact HI.out.cell t ht
   have cm:wr.cell? ⟨blk,off+m,none⟩=some (.int .i32 y):=by rw[hcw m (by omega),HGm.out]
   obtain⟨x,hx⟩:∃x,x=G c:=⟨_,rfl⟩;have cc:wr.cell? ⟨blk,off+c,none⟩=some (.int .i32 x):=by rw[hcw c (by omega),hx]
   have HY:Hid (x=G c):=hx;have HC:Hid (Nm.cmp y x<0↔Nm.cls y<Nm.cls x):=Nm.zic;clear hcw hx;go_wp2
   by_cases hxy:Nm.cmp y x<0
   ·go_quiet (first | (go_at_call 99;refine Calls.quiet_of_same (zbf _ _ _)))
    go_wp2
    go_roundw
    case rel=>exact⟨i,c,rfl,rfl,hai,by omega,by omega,HI.out.drew _,HO.out.1,fun _=>by rw[<- HY.out];exact HC.out.1 hxy⟩
    case measure=>simp[RowKit.intOf];omega
   ·go_quiet (first | (go_at_call 99;refine Calls.quiet_of_same (zbf _ _ _)))
    go_wp2
    go_roundw
    case rel=>exact⟨c+1,j,by go_num,rfl,by omega,by omega,hjm,HI.out.drew _,fun _=>by rw[Nat.add_sub_cancel,<- HY.out];exact Int.not_lt.1 fun h=>hxy (HC.out.2 h),HO.out.2⟩
    case measure=>simp[RowKit.intOf];omega
  ·have hje:j=i:=by omega
   subst hje;have hk:j - a<=A.length:=by have:=HL.out;omega
   have HS:Hid (Nm.Srt (A.take (j - a)++y::A.drop (j - a))/\Nm.Eqv (A++ [y]) (A.take (j - a)++y::A.drop (j - a))):=by
    have hm:=HL.out.2.1
    have k1:∀u∈A.take (j - a),Nm.cls u<=Nm.cls y:=Nm.zcv HL.out.2.2.2 hk fun h=>by
     have h1:=HO.out.1 (by omega);rw[HGA.out (j - 1) (j - a - 1) (by omega) (by omega)] at h1;exact h1
    have k2:∀u∈A.drop (j - a),Nm.cls y<Nm.cls u:=Nm.zi0 HL.out.2.2.2 fun h=>by
     have h1:=HO.out.2 (by omega);rw[HGA.out j (j - a) (by omega) (by omega)] at h1;exact h1
    refine⟨Nm.zjc (by rw[List.take_append_drop];exact HL.out.2.2.2) k1 k2,?_⟩;have h:=Nm.zjd (D1:=A.take (j - a)) k2;rw[List.take_append_drop] at h;exact h
   obtain⟨E,hE⟩:∃E,E=A.take (j - a):=⟨_,rfl⟩;obtain⟨D,hD⟩:∃D,D=A.drop (j - a):=⟨_,rfl⟩;have hEl:a+E.length=j:=by rw[hE,List.length_take];omega
   have hDl:j+D.length=m:=by have:=HL.out.2.1;rw[hD,List.length_drop];omega
   have HB:Hid (A=E++D/\a+E.length=j):=⟨by rw[hE,hD,List.take_append_drop],hEl⟩;rw[<- hE,<- hD] at HS
   have HU:Hid (Nm.In w0 blk off n (Nm.up (P++E) D y Q D.length) wr):=by
    show Nm.In _ _ _ _ _ _;rw[Nm.zs7];refine HI.out.of ?_;rw[HB.out.1];simp
   have hDl1:j+D.length<=m:=by omega
   have hDl2:m<=j+D.length:=by omega
   clear HI HO HGA HGm HG HIn hk hD hE hEl hDl;go_wp2
   go_loopw [17] (fun vk wr=>∃t:Nat,vk= .int .i64 ((j+t:Nat):Int)/\t<=D.length/\Hid (Nm.In w0 blk off n (Nm.up (P++E) D y Q t) wr)) (fun vk _=>(RowKit.intOf vk).toNat)
   case atStart=>exact⟨D.length,by congr 1;omega,qN,HU.out⟩
   case round =>
    obtain⟨t,rfl,ht,HT⟩:=hrel;clear HU;cases t with
    | succ t =>
     obtain⟨F,hF⟩:∃F:Nat->Int,∀q,F q=(Nm.up (P++E) D y Q (t+1)).toArray[q]! := ⟨fun q=>(Nm.up (P++E) D y Q (t+1)).toArray[q]!,fun _=>rfl⟩;obtain⟨k,hk⟩:∃k,k=j+(t+1):=⟨_,rfl⟩;have hk1:j<k:=by omega
     have hk2:k<=m:=by omega
     have hcw:∀q,q<n->wr.cell? ⟨blk,off+q,none⟩=some (.int .i32 (F q)):=fun q hq=>by rw[hF];exact HT.out.cell q hq
     have hfw:∀q,q<n->wr.frozen? ⟨blk,off+q,none⟩=false:=fun q hq=>HT.out.free q hq
     have HW:Hid (∀q,Nm.In w0 blk off n (Nm.up (P++E) D y Q t) (((wr.drewN q).setCell ⟨blk,off+k,none⟩ (.int .i32 (F (k - 1)))).setCell ⟨blk,off+(k - 1),none⟩ (.int .i32 (F k)))):=fun q=>by
      rw[hF,hF];exact HT.out.swap (i:=k) (j:=k - 1) (by omega) (by omega) (Nm.zto (P++E) D y Q (by omega) (by have:=HL.out.1;have:=HB.out.2;simp;omega)) q
     rw[<- hk];have HK:Hid (k=j+(t+1)):=hk;clear hF HT hk;go_wp2
     go_region
     all_goals go_wp2
     go_roundw
     case rel=>exact⟨t,by have:=HK.out;congr 1;omega,by omega,HW.out 1⟩
     case measure=>have:=HK.out;simp[RowKit.intOf];omega
    | zero =>
     have HE:Hid (Nm.In w0 blk off n (P++(E++y::D)++Q) wr):=by
      have h:=HT.out;rw[Nm.zn1] at h;refine h.of ?_;simp
     clear HT;go_wp2;refine bodyPost_ret (v:= .tuple #[]) (by simp[results,Tryz.results182,go_sem, *]) rfl ?_;refine⟨rfl,_,?_,HS.out.1,HS.out.2,HE.out⟩;rw[HB.out.1];simp;omega
end Go.Proofs.YtamfgmaipajodaaGreatDoor
