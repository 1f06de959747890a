import Derived.Test.YthnmmmkeamcfkaaGreatDoorNmIns
import Derived.Test.YthnmmmkeamcfkaaGreatDoorOdApp
set_option maxHeartbeats 0
set_option linter.unusedSimpArgs false
set_option linter.unusedVariables false
namespace Go.Proofs.YthnmmmkeamcfkaaGreatDoor
open Go.Proofs.Tryz
section
open Go.RowKit Go.Maps Go.WideMaps
namespace Nm
def raw (v:Value):Option (DataW Value×List MemPlace):=some (.held v,[])
def MapG {κ:Type} (kt:TypeId) (kl:κ->Lit) (ok:κ->Prop) (z:Value) (w:World) (B n:Nat) (f:κ->Option Value):Prop :=
 ∃D:DataW Value,w.ownsMap prog kt raw B n D/\IsMap D/\∀s,ok s->Maps.has D (kl s)=(f s).isSome/\D.atKey (kl s) (.held z)= .held ((f s).getD z)
section
variable {κ:Type} {kt:TypeId} {kl:κ->Lit} {ok:κ->Prop} {z:Value}
theorem MapG.made (w:World):MapG kt kl ok z (w.alloc (.map #[] 0)) w.heap.size 0 fun _=>none :=
 ⟨.map [],World.ownsMap_made w _ _ _,⟨[],rfl⟩,fun s _=>⟨rfl,rfl⟩⟩
theorem MapG.lt {w:World}{B n:Nat}{f:κ->Option Value}(h:MapG kt kl ok z w B n f):B<w.heap.size:=by
 obtain⟨D,h1,_⟩:=h;exact h1.lt
theorem MapG.block {w w':World}{B n:Nat}{f:κ->Option Value}(h:MapG kt kl ok z w B n f)(e:w'.heap[B]?=w.heap[B]?):MapG kt kl ok z w' B n f:=by
 obtain⟨D,⟨es,clock,hb,F,hs,hD⟩,h2⟩:=h;exact⟨D,⟨es,clock,e.trans hb,F,hs,hD⟩,h2⟩
theorem MapG.below {w w':World}{B n X:Nat}{f:κ->Option Value}(h:MapG kt kl ok z w B n f)(hb:Below X w w')(hX:B<X):MapG kt kl ok z w' B n f:=h.block (hb.block B hX)
theorem MapG.look_ok {w:World}{B n:Nat}{f:κ->Option Value}(h:MapG kt kl ok z w B n f){t e:TypeId}(K:Keyed prog kt)(ht:prog.underlying t=some (.map kt e))(hz:∀w,(zeroValue e).run prog w= .ok z w)(s:κ)(hs:ok s)(key:Value)(hk:keyOf prog kt key=some (kl s)) :
  (Instr.lookup t (.map (some B)) key true).run prog w= .ok (.tuple #[(f s).getD z,.bool (f s).isSome]) w:=by
 obtain⟨D,h1,h2,h3⟩:=h;obtain⟨v,ps,hrun,hv⟩:=h1.look_ok (t:=t) (e:=e) K ht (hz w) (zd:= .held z) (zp:= []) rfl (key:=key) hk;rw[(h3 s hs).2] at hv;simp only[raw,Option.some.injEq,Prod.mk.injEq,DataW.held.injEq] at hv;rw[hrun,hv.1,(h3 s hs).1]
theorem MapG.put {w:World}{B n:Nat}{f:κ->Option Value}(h:MapG kt kl ok z w B n f){t e:TypeId}(K:Keyed prog kt)(ht:prog.underlying t=some (.map kt e))(hn:n<=140737488355328)(s:κ)(hs:ok s)(key:Value)(hk:keyOf prog kt key=some (kl s))(hlit:∀s,ok s->WideAt.IsKeyLit (kl s))(hinj:∀a b,ok a->ok b->kl a=kl b->a=b) [DecidableEq κ] (v:Value) :
  ∃w',(Instr.mapUpdate t (.map (some B)) key v).run prog w= .ok () w'/\MapG kt kl ok z w' B (n+1) (fun x=>if x=s then some v else f x)/\w.grownBy w' (some B):=by
 obtain⟨D,h1,h2,h3⟩:=h;obtain⟨w',hrun,r1,r2⟩:=h1.update (t:=t) (e:=e) K ht (by unfold maxLen;omega) (key:=key) hk (val:=v) (d:= .held v) (ps:= []) rfl;refine⟨w',hrun,⟨_,r1,h2.put _ _,fun x hx=> ?_⟩,r2⟩
 by_cases e:x=s
 ·subst e;rw[has_put_same h2 (hlit x hx),atKey_put_same h2 (hlit x hx)];simp
 ·have hne:kl x≠kl s:=fun h=>e (hinj x s hx hs h)
  rw[has_put_other hne,atKey_put_other hne,(h3 x hx).1,(h3 x hx).2];simp[e]
end
end Nm
end
section
open Go.RowKit
namespace Nm
theorem zvj (w:World)(z:Int):L.Rd (w.alloc (.cells #[.int .i32 z] 21)) (.slice (some ⟨w.heap.size,0,none⟩) 1 1) .i32 [z]:=by
 have hnew:=heap_alloc_new w (.cells #[.int .i32 z] 21)
 exact⟨_,_,rfl,fun e=>by (cases e),fun _=>⟨_,0,rfl,fun j y hj=>by
  match j,hj with
  | 0,hj=>cases hj;exact K.zah hnew rfl
  | n+1,hj=>simp at hj⟩⟩
theorem za8 {B:Nat}{w0 w:World}(b:Below B w0 w):Below B w0 w.drew:=⟨b.os,b.tape,b.output,b.size,b.block⟩
end Nm
theorem Nm.zhy:∀(n:Nat) (r:Int),(Nm.full n r).length<=n+1
 | 0,r=>by simp[Nm.full]
 | n+1,r=>by
  rw[Nm.full];cases Nm.look Nm.tab r with
  | none=>simp
  | some p=>have:=Nm.zhy n p.1;simp;omega
end
section
open Go.RowKit
set_option maxRecDepth 40000
theorem Tryz.infoPair:(prog.info? 168).map (fun i=>(i.zero,i.size,i.bytes))=some (some (.agg #[.int .i32 0,.int .i32 0,.int .i32 0]),3,12):=by kernel_rfl
namespace Nm
theorem trip {α β:Type}(f:α->β×β×β):∀(l:List α) (j:Nat),(l.flatMap fun x=> [(f x).1,(f x).2.1,(f x).2.2])[j*3]?=(l[j]?).map (fun x=>(f x).1)/\(l.flatMap fun x=> [(f x).1,(f x).2.1,(f x).2.2])[j*3+1]?=(l[j]?).map (fun x=>(f x).2.1)/\(l.flatMap fun x=> [(f x).1,(f x).2.1,(f x).2.2])[j*3+2]?=(l[j]?).map (fun x=>(f x).2.2)
 | [],j=>by simp
 | x::l,0=>by simp
 | x::l,j+1=>by
  have h:=trip f l j;rw[List.flatMap_cons]
  have e:∀i,(([(f x).1,(f x).2.1,(f x).2.2]:List β)++l.flatMap fun x=> [(f x).1,(f x).2.1,(f x).2.2])[(j+1)*3+i]?=(l.flatMap fun x=> [(f x).1,(f x).2.1,(f x).2.2])[j*3+i]?:=fun i=>by
   rw[List.getElem?_append_right (by simp;omega)];congr 1;simp;omega
  have e0:=e 0;simp only[Nat.add_zero] at e0;rw[e0,e 1,e 2];simpa using h
def rcells (l:List (Int×ByteArray×ByteArray)):List Value:=l.flatMap fun x=> [Value.int .i32 x.1,Value.string x.2.1,Value.string x.2.2]
def pcells (l:List Pr):List Value:=l.flatMap fun x=> [Value.int .i32 x.1,Value.int .i32 x.2.1,Value.int .i32 x.2.2]
theorem zka (l:List Pr)(x:Pr):pcells (l++ [x])=pcells l++ [Value.int .i32 x.1,Value.int .i32 x.2.1,Value.int .i32 x.2.2]:=by simp[pcells]
def Rw (w:World) (v:Value) (l:List (Int×ByteArray×ByteArray)):Prop :=
 ∃b,v= .slice (some ⟨b,0,none⟩) l.length l.length/\∀(j:Nat) x,l[j]?=some x->w.cell? ⟨b,j*3,none⟩=some (.int .i32 x.1)/\w.cell? ⟨b,j*3+1,none⟩=some (.string x.2.1)/\w.cell? ⟨b,j*3+2,none⟩=some (.string x.2.2)
def Prs (w:World) (v:Value) (l:List Pr):Prop :=
 ∃b cap,v= .slice (some ⟨b,0,none⟩) l.length cap/\∀(j:Nat) x,l[j]?=some x->w.cell? ⟨b,j*3,none⟩=some (.int .i32 x.1)/\w.cell? ⟨b,j*3+1,none⟩=some (.int .i32 x.2.1)/\w.cell? ⟨b,j*3+2,none⟩=some (.int .i32 x.2.2)
theorem zxg (w:World)(C:Array Value)(t:TypeId)(l:List (Int×ByteArray×ByteArray))(hC:C=(rcells l).toArray)(n:Nat)(hn:n=l.length):Rw (w.alloc (.cells C t)) (.slice (some ⟨w.heap.size,0,none⟩) n n) l:=by
 subst hC hn;refine⟨_,rfl,fun j x hj=> ?_⟩;obtain⟨e0,e1,e2⟩:=trip (fun x:Int×ByteArray×ByteArray=>(Value.int .i32 x.1,Value.string x.2.1,Value.string x.2.2)) l j;rw[hj] at e0 e1 e2;refine⟨?_,?_,?_⟩
 ·rw[World.cell?_alloc_mark w (rcells l).toArray t (0,0) (j*3),List.getElem?_toArray];exact e0
 ·rw[World.cell?_alloc_mark w (rcells l).toArray t (0,0) (j*3+1),List.getElem?_toArray];exact e1
 ·rw[World.cell?_alloc_mark w (rcells l).toArray t (0,0) (j*3+2),List.getElem?_toArray];exact e2
theorem zwh {w:World}{F:Nat}{v:Value}{l:List Pr}(h:w.ownsRow F 168 3 v l.length (pcells l))(h0:l≠ []):Prs w v l:=by
 obtain⟨ao,cap,rfl,hc⟩:=Al.lies h;obtain⟨g,rfl,_,hx⟩:=hc (List.length_pos_iff.2 h0);refine⟨g,cap,rfl,fun j x hj=> ?_⟩;obtain⟨e0,e1,e2⟩:=trip (fun x:Pr=>(Value.int .i32 x.1,Value.int .i32 x.2.1,Value.int .i32 x.2.2)) l j;rw[hj] at e0 e1 e2;exact⟨hx _ _ e0,hx _ _ e1,hx _ _ e2⟩
end Nm
theorem znz (w:World):Calls prog 144 #[] w fun e w'=>∃v,e= .returned v/\Nm.Rw w' v Nm.rowB/\Below w.heap.size w w':=by
 go_enter func144,ntmps144
 go_wp2;go_ret
 exact⟨_,rfl,Nm.zxg w _ _ Nm.rowB (by kernel_rfl) 11 (by decide),(qR w).alloc qN _⟩
end
section
open Go.RowKit Go.Maps Go.Shelf
set_option maxRecDepth 40000
namespace Nm
def klI (r:Int):Lit:= .int .i32 r
def okI (r:Int):Prop:= -2147483648<=r/\r<=2147483647
def pv (p:Pr):Value:= .agg #[.int .i32 p.1,.int .i32 p.2.1,.int .i32 p.2.2]
def zP:Value:= .agg #[.int .i32 0,.int .i32 0,.int .i32 0]
theorem keyedI:Keyed prog 21:=int_keyed underlying21
theorem keyI {r:Int}(h:okI r):keyOf prog 21 (.int .i32 r)=some (klI r):=keyOf_int_mk underlying21 (by unfold okI at h;simp only[Lit.wf,IntKind.min,IntKind.max,IntKind.signed,IntKind.bits,Bool.and_eq_true,decide_eq_true_eq,if_true];omega)
theorem zeroP (w:World):(zeroValue 168).run prog w= .ok zP w:=by kernel_rfl
abbrev MapI (w:World) (B n:Nat) (f:Int->Option Value):Prop:=MapG 21 klI okI zP w B n f
abbrev fv (bm bf:Nat):Value:= .func (.func 92) #[] #[.pointer (some ⟨bm,0,none⟩),.pointer (some ⟨bf,0,none⟩)]
def Part (W:World) (bm bf B:Nat):Prop:=W.heap[bm]?=some (.cells #[.map (some B)] 164)/\W.heap[bf]?=some (.cells #[fv bm bf] 108)/\MapI W B 74 fun r=>(look tab r).map pv
theorem Part.block {W W':World}{bm bf B:Nat}(h:Part W bm bf B)(h1:W'.heap[bm]?=W.heap[bm]?)(h2:W'.heap[bf]?=W.heap[bf]?)(h3:W'.heap[B]?=W.heap[B]?):Part W' bm bf B :=
 ⟨h1.trans h.1,h2.trans h.2.1,h.2.2.block h3⟩
theorem Part.alloc {W:World}{bm bf B:Nat}(h:Part W bm bf B)(o:Obj):Part (W.alloc o) bm bf B :=
 h.block (Below.heap_alloc W o bm (lt_of_block h.1)) (Below.heap_alloc W o bf (lt_of_block h.2.1)) (Below.heap_alloc W o B h.2.2.lt)
theorem app1x {w:World}{B:Nat}{vo:Value}{o:List Int}(own:w.ownsRow B 21 1 vo o.length (K.ints o))(hB:B<=w.heap.size)(hl:o.length<=50000000)(z:Int) :
  ∃v' w',(∀ty,(Builtin.append_ #[33,33] ty #[vo,.slice (some ⟨w.heap.size,0,none⟩) 1 1]).run prog (w.alloc (.cells #[.int .i32 z] 21))= .ok v' w')/\w'.ownsRow B 21 1 v' (o++ [z]).length (K.ints (o++ [z]))/\(∀b,b<w.heap.size->vo.ownBlock≠some b->w'.heap[b]?=w.heap[b]?)/\w.heap.size<=w'.heap.size/\Below B w w'/\(v'.ownBlock=vo.ownBlock∨∃k,v'.ownBlock=some k/\w.heap.size<=k):=by
 have hal:Below w.heap.size w (w.alloc (.cells #[.int .i32 z] 21)):=(qR w).alloc qN _;obtain⟨v',w',run,own',gr,hn⟩:=K.zjl _ B vo o (own.alloc _) _ [z] (zvj w z) (by simp;omega) (by simp;omega);refine⟨v',w',run,own',fun b hb hne=> ?_,?_,(hal.mono hB).grown gr (by simp;omega) fun k hk=>(own.lt k hk).1,hn.imp id fun ⟨k,h1,h2⟩=>⟨k,h1,by simp at h2;omega⟩⟩
 ·rw[gr.block b (by simp;omega) (fun e=>hne e.symm)];exact hal.block b hb
 ·have:=gr.size;simp at this;omega
abbrev Bz (W:World) (bf:Nat) (f:Value) (b:Nat) (x1 x2:Int):Prop:=W.cell? ⟨bf,0,none⟩=some f/\W.cell? ⟨b,0,none⟩=some (.int .i32 x1)/\W.cell? ⟨b,1,none⟩=some (.int .i32 x2)
theorem zdm {W W':World}{b i:Nat}(h:W'.heap[b]?=W.heap[b]?):W'.cell? ⟨b,i,none⟩=W.cell? ⟨b,i,none⟩:=by simp[World.cell?,h]
theorem Bz.move {W W':World}{bf b:Nat}{f:Value}{x1 x2:Int}(h:Bz W bf f b x1 x2)(h1:W'.heap[bf]?=W.heap[bf]?)(h2:W'.heap[b]?=W.heap[b]?):Bz W' bf f b x1 x2 :=
 ⟨(zdm h1).trans h.1,(zdm h2).trans h.2.1,(zdm h2).trans h.2.2⟩
theorem rd1 {W:World}{g:Nat}{z:Int}(h:W.cell? ⟨g,0,none⟩=some (.int .i32 z)):L.Rd W (.slice (some ⟨g,0,none⟩) 1 1) .i32 [z] :=
 ⟨_,_,rfl,fun e=>by (cases e),fun _=>⟨_,0,rfl,fun j y hj=>by
  match j,hj with
  | 0,hj=>cases hj;exact h
  | n+1,hj=>simp at hj⟩⟩
theorem zwz {w w':World}{v:Value}(gr:w.grownBy w' v.ownBlock):∀b,b<w.heap.size->v.ownBlock≠some b->w'.heap[b]?=w.heap[b]?:=fun b hb hne=>gr.block b hb fun e=>hne e.symm
theorem zqz {W:World}{F0 n bx:Nat}{v:Value}{xs cs:List Value}(h:W.ownsRow F0 21 1 v n xs)(hb:W.heap[bx]?=some (.cells cs.toArray 168)):v.ownBlock≠some bx:=fun e=>by
 obtain⟨_,cs',p',h2⟩:=Al.block h e;rw[hb] at h2;simp at h2
theorem zx0 {W:World}{bf bx:Nat}{f:Value}{x1 x2 x3:Int}{t:TypeId}(h1:W.heap[bf]?=some (.cells #[f] t))(h2:W.heap[bx]?=some (.cells #[.int .i32 x1,.int .i32 x2,.int .i32 x3] 168)):Bz W bf f bx x1 x2 :=
 ⟨K.zah (i:=0) h1 rfl,K.zah (i:=0) h2 rfl,K.zah (i:=1) h2 rfl⟩
end Nm
theorem zfk (r:Int)(W:World)(bm bf B F0:Nat)(vo:Value)(o:List Int)(F:Int->List Int)(hlF:∀x,(F x).length<=10)
  (hr:Nm.okI r) (hP:Nm.Part W bm bf B) (hbm:bm<F0) (hbf:bf<F0) (hB:B<F0) (hF0:F0<=W.heap.size) (own:W.ownsRow F0 21 1 vo o.length (K.ints o)) (hol:o.length<=40000)
  (ih:∀p,Nm.look Nm.tab r=some p->∀Y,Nm.Part Y bm bf B->F0<=Y.heap.size->Y.ownsRow F0 21 1 vo o.length (K.ints o)->Calls prog 92 #[vo,.int .i32 p.1,.pointer (some ⟨bm,0,none⟩),.pointer (some ⟨bf,0,none⟩)] Y fun e w'=>∃v',e= .returned v'/\w'.ownsRow F0 21 1 v' (o++F p.1).length (K.ints (o++F p.1))/\Below F0 Y w'/\(∀b,b<Y.heap.size->vo.ownBlock≠some b->w'.heap[b]?=Y.heap[b]?)/\(v'.ownBlock=vo.ownBlock∨∃k,v'.ownBlock=some k/\Y.heap.size<=k))
  (FL:List Int) (hFL:FL=match Nm.look Nm.tab r with | none=> [r] | some p=>F p.1++ [p.2.1]) :
  Calls prog 92 #[vo,.int .i32 r,.pointer (some ⟨bm,0,none⟩),.pointer (some ⟨bf,0,none⟩)] W fun e w'=>∃v',e= .returned v'/\w'.ownsRow F0 21 1 v' (o++FL).length (K.ints (o++FL))/\Below F0 W w'/\(∀b,b<W.heap.size->vo.ownBlock≠some b->w'.heap[b]?=W.heap[b]?)/\(v'.ownBlock=vo.ownBlock∨∃k,v'.ownBlock=some k/\W.heap.size<=k):=by
 have hlk:=hP.2.2.look_ok (t:=164) (e:=168) Nm.keyedI underlying164 Nm.zeroP r hr (.int .i32 r) (Nm.keyI hr);have c0:W.cell? ⟨bm,0,none⟩=some (.map (some B)):=K.zah (i:=0) hP.1 rfl;have HOw:Hid (W.ownsRow F0 21 1 vo o.length (K.ints o)/\o.length<=40000/\F0<=W.heap.size/\bm<F0/\bf<F0/\B<F0):=⟨own,hol,hF0,hbm,hbf,hB⟩;have HP:=qH hP;cases hl:Nm.look Nm.tab r with
 | none =>
  rw[hl] at hlk hFL;simp only[Option.map_none,Option.getD_none,Option.isSome_none] at hlk hFL;subst hFL;have HZ:Nm.zP= .agg #[.int .i32 0,.int .i32 0,.int .i32 0]:=rfl;rw[HZ] at hlk;obtain⟨X,hX⟩:∃X,X=W.alloc (.cells #[.int .i32 0,.int .i32 0,.int .i32 0] 168):=⟨_,rfl⟩;have bX:Below W.heap.size W X:=by rw[hX];exact(qR W).alloc qN _
  obtain⟨v3,w3,run3,own3,kp3,sz3,be3,nw3⟩:=Nm.app1x (L.zao own bX qN) (Nat.le_trans hF0 bX.size) (by omega) r
  have HE:Hid (w3.ownsRow F0 21 1 v3 (o++ [r]).length (K.ints (o++ [r]))/\Below F0 W w3/\(∀b,b<W.heap.size->vo.ownBlock≠some b->w3.heap[b]?=W.heap[b]?)/\(v3.ownBlock=vo.ownBlock∨∃k,v3.ownBlock=some k/\W.heap.size<=k)) :=
   ⟨own3,(bX.mono hF0).trans be3,fun b hb hne=>(kp3 b (Nat.lt_of_lt_of_le hb bX.size) hne).trans (bX.block b hb),nw3.imp id fun ⟨k,h1,h2⟩=>⟨k,h1,Nat.le_trans bX.size h2⟩⟩
  rw[hX] at run3;have hXs:(W.alloc (.cells #[.int .i32 0,.int .i32 0,.int .i32 0] 168)).heap.size=W.heap.size+1:=by simp
  rw[hXs] at run3;clear hX bX own3 kp3 sz3 be3 nw3 hl HOw HP ih hP hlF own HZ hXs hol hF0 hbm hbf hB hr
  go_enter func92,ntmps92
  go_wp2_with (at_builtin;first | refine Lib.wpList_append_run _ rfl _ _ _ _ rfl _ _ rfl rfl _ _ (run3 _) ?_)
  go_ret;exact⟨_,rfl,HE.out⟩
 | some p =>
  rw[hl] at hlk hFL;obtain⟨x1,x2,x3⟩:=p;simp only[Option.map_some,Option.getD_some,Option.isSome_some] at hlk hFL;have HZ:Nm.pv (x1,x2,x3)= .agg #[.int .i32 x1,.int .i32 x2,.int .i32 x3]:=rfl;rw[HZ] at hlk;have hFl:=hlF x1;have ih1:=ih _ hl;simp only at ih1;generalize F x1=fx at hFL hFl ih1;subst hFL;obtain⟨X,hX⟩:∃X,X=W.alloc (.cells #[.int .i32 x1,.int .i32 x2,.int .i32 x3] 168):=⟨_,rfl⟩;have bX:Below W.heap.size W X:=by rw[hX];exact(qR W).alloc qN _
  obtain⟨bx,hbe⟩:∃bx,bx=W.heap.size:=⟨_,rfl⟩;have hbx:X.heap[bx]?=some (.cells #[.int .i32 x1,.int .i32 x2,.int .i32 x3] 168):=by rw[hX,hbe];exact heap_alloc_new W _
  have hPX:Nm.Part X bm bf B:=by rw[hX];exact hP.alloc _
  have ownX:=L.zao own bX qN;have hFX:=Nat.le_trans hF0 bX.size;obtain⟨O2,hO2⟩:∃O2:Obj,O2= .cells #[.int .i32 x2] 21:=⟨_,rfl⟩;have HbX:Hid (X.heap[bx]?=some (.cells #[.int .i32 x1,.int .i32 x2,.int .i32 x3] 168)/\Nm.Part X bm bf B/\Below F0 W X/\W.heap.size<=X.heap.size/\bx=W.heap.size/\bx<X.heap.size):=⟨hbx,hPX,bX.mono hF0,bX.size,hbe,lt_of_block hbx⟩;have HC1:=qH <| ih1 X.drew hPX hFX ownX;have HC2:=qH <| ih1 (X.alloc (.cells #[.int .i32 x2] 21)).drew (hPX.alloc _) (Nat.le_trans hFX (by show X.heap.size<=(X.alloc _).heap.size;simp)) (ownX.alloc _);have HNe:Hid (vo.ownBlock≠some bx):=fun e=>by have:=(own.lt _ e).2;rw[hbe] at this;exact absurd this (Nat.lt_irrefl _)
  have HKd:Hid (Nm.Bz X.drew bf (Nm.fv bm bf) bx x1 x2):=Nm.zx0 hPX.2.1 hbx;have HKD:Hid (Nm.Bz (X.alloc (.cells #[.int .i32 x2] 21)).drew bf (Nm.fv bm bf) bx x1 x2):=Nm.zx0 (hPX.alloc _).2.1 (W:=X.alloc (.cells #[.int .i32 x2] 21)) ((Below.heap_alloc X _ bx (lt_of_block hbx)).trans hbx);have HB1:Hid (X.drew.heap[bx]?=some (.cells [Value.int .i32 x1,.int .i32 x2,.int .i32 x3].toArray 168)):=hbx;have HB2:Hid ((X.alloc (.cells #[.int .i32 x2] 21)).drew.heap[bx]?=some (.cells [Value.int .i32 x1,.int .i32 x2,.int .i32 x3].toArray 168)):=(Below.heap_alloc X _ bx (lt_of_block hbx)).trans hbx
  have HCl:Hid ((X.alloc (.cells #[.int .i32 x2] 21)).drew.cell? ⟨X.heap.size,0,none⟩=some (.int .i32 x2)/\X.heap.size<(X.alloc (.cells #[.int .i32 x2] 21)).drew.heap.size/\vo.ownBlock≠some X.heap.size):=by
   refine⟨K.zah (i:=0) (heap_alloc_new X _) rfl,by show X.heap.size<(X.alloc _).heap.size;simp,fun e=> ?_⟩;have:=(own.lt _ e).2;have:=bX.size;omega
  have HRd:Hid (L.Rd (X.alloc (.cells #[.int .i32 x2] 21)).drew (.slice (some ⟨X.heap.size,0,none⟩) 1 1) .i32 [x2]):=Nm.zvj X x2;have HfL:=qH hFl;have HWX:=qH bX.block;clear hl HZ hlF ih ih1 hFl bX hbx hPX ownX hFX hP own hol hF0 hbm hbf hB hr hO2 HP
  go_enter func92,ntmps92
  go_upto_region 4 with fail
  rw[<- hX,<- hbe];clear hX hbe c0 hlk;have eg:∀args w,(callFunc 92 args).run prog w= .ok (.enter 92 args) w:=enters_of func92 (by kernel_rfl) rfl
  have HE:Hid (∀(Y wd1 w3:World) (vd1 v3:Value),Below F0 W Y->W.heap.size<=Y.heap.size->(∀b,b<W.heap.size->Y.heap[b]?=W.heap[b]?)->Below F0 Y wd1->(∀b,b<Y.heap.size->vo.ownBlock≠some b->wd1.heap[b]?=Y.heap[b]?)->(vd1.ownBlock=vo.ownBlock∨∃k,vd1.ownBlock=some k/\Y.heap.size<=k)->Below F0 wd1 w3->(∀b,b<wd1.heap.size->vd1.ownBlock≠some b->w3.heap[b]?=wd1.heap[b]?)->(v3.ownBlock=vd1.ownBlock∨∃k,v3.ownBlock=some k/\wd1.heap.size<=k)->Below F0 W w3/\(∀b,b<W.heap.size->vo.ownBlock≠some b->w3.heap[b]?=W.heap[b]?)/\(v3.ownBlock=vo.ownBlock∨∃k,v3.ownBlock=some k/\W.heap.size<=k)):=fun Y wd1 w3 vd1 v3 h1 h2 h3 h4 h5 h6 h7 h8 h9=>by
   have hs:=h4.size;refine⟨h1.trans (h4.trans h7),fun b hb hne=> ?_,?_⟩
   ·have hb1:=Nat.lt_of_lt_of_le hb h2;rw[h8 b (Nat.lt_of_lt_of_le hb1 hs) (fun e=>h6.elim (fun h=>hne (h▸e)) fun ⟨k,k1,k2⟩=>by rw[k1] at e;have:=Option.some.inj e;omega),h5 b hb1 hne];exact h3 b hb
   ·rcases h9 with h9 | ⟨k,k1,k2⟩
    ·rcases h6 with h6 | ⟨k,k1,k2⟩
     ·exact .inl (h9.trans h6)
     ·exact .inr ⟨k,h9.trans k1,by omega⟩
    ·exact .inr ⟨k,k1,by omega⟩
  have HY1:Hid (Below F0 W X.drew/\W.heap.size<=X.drew.heap.size/\(∀b,b<W.heap.size->X.drew.heap[b]?=W.heap[b]?)/\F0<=X.drew.heap.size/\bf<F0/\bx<X.drew.heap.size):=⟨Nm.za8 HbX.out.2.2.1,HbX.out.2.2.2.1,HWX.out,Nat.le_trans HOw.out.2.2.1 HbX.out.2.2.2.1,HOw.out.2.2.2.2.1,HbX.out.2.2.2.2.2⟩
  have HY2:Hid (Below F0 W (X.alloc (.cells #[.int .i32 x2] 21)).drew/\W.heap.size<=(X.alloc (.cells #[.int .i32 x2] 21)).drew.heap.size/\(∀b,b<W.heap.size->(X.alloc (.cells #[.int .i32 x2] 21)).drew.heap[b]?=W.heap[b]?)/\F0<=(X.alloc (.cells #[.int .i32 x2] 21)).drew.heap.size/\bf<F0/\bx<(X.alloc (.cells #[.int .i32 x2] 21)).drew.heap.size):=by
   have hs:X.heap.size<=(X.alloc (.cells #[.int .i32 x2] 21)).drew.heap.size:=by show X.heap.size<=(X.alloc _).heap.size;simp
   have h0:=HbX.out.2.2.2.1;have h1:=HOw.out.2.2.1;have h2:=HbX.out.2.2.2.2.2;exact⟨Nm.za8 (HbX.out.2.2.1.alloc (by omega) _),by omega,fun b hb=>(Below.heap_alloc X _ b (by omega)).trans (HWX.out b hb),by omega,HOw.out.2.2.2.2.1,by omega⟩
  have HoL:=qH HOw.out.2.1;clear HbX HWX HOw
  go_region_held3 (fun w'=>w'.cell? ⟨bf,0,none⟩=some (Nm.fv bm bf)/\w'.cell? ⟨bx,0,none⟩=some (.int .i32 x1)/\w'.cell? ⟨bx,1,none⟩=some (.int .i32 x2))
   (first | with_reducible exact HKd.out | with_reducible exact HKD.out | with_reducible exact q1 | with_reducible exact⟨K.zai q1.1 _,K.zai q1.2.1 _,K.zai q1.2.2 _⟩ | with_reducible exact q3 | fail)
   (first
    | (go_at_call 92;with_reducible refine HC1.out.mono ?_;rintro e wd1 ⟨vd1,rfl,own1,b1,kb1,nb1⟩;have hx1:=kb1 bx HY1.out.2.2.2.2.2 HNe.out;have q1:Nm.Bz wd1 bf (Nm.fv bm bf) bx x1 x2:=HKd.out.move (b1.block bf HY1.out.2.2.2.2.1) hx1;have zs:F0<=wd1.heap.size:=Nat.le_trans HY1.out.2.2.2.1 b1.size;obtain⟨v3,w3,runA,own3,kp3,_,be3,nw3⟩:=Nm.app1x own1 zs (by have:=HoL.out;have:=HfL.out;simp;omega) x2;have q3:Nm.Bz w3 bf (Nm.fv bm bf) bx x1 x2:=q1.move (be3.block bf HY1.out.2.2.2.2.1) (kp3 bx (lt_of_block (hx1.trans HB1.out)) (Nm.zqz own1 (hx1.trans HB1.out)));have hfin:=HE.out _ wd1 w3 vd1 v3 HY1.out.1 HY1.out.2.1 HY1.out.2.2.1 b1 kb1 nb1 be3 kp3 nw3)
    | (go_at_call 92;with_reducible refine HC2.out.mono ?_;rintro e wd1 ⟨vd1,rfl,own1,b1,kb1,nb1⟩;have hx1:=kb1 bx HY2.out.2.2.2.2.2 HNe.out;have q1:Nm.Bz wd1 bf (Nm.fv bm bf) bx x1 x2:=HKD.out.move (b1.block bf HY2.out.2.2.2.2.1) hx1;have zs:F0<=wd1.heap.size:=Nat.le_trans HY2.out.2.2.2.1 b1.size;obtain⟨v3,w3,runB,own3,gr3,nw3⟩:=K.zjl wd1 F0 vd1 (o++fx) own1 _ [x2] (Nm.rd1 ((Nm.zdm (kb1 _ HCl.out.2.1 HCl.out.2.2)).trans HCl.out.1)) (by have:=HoL.out;have:=HfL.out;simp;omega) zs;have be3:Below F0 wd1 w3:=(qR wd1).grown gr3 zs (fun k hk=>(own1.lt k hk).1);have kp3:∀b,b<wd1.heap.size->vd1.ownBlock≠some b->w3.heap[b]?=wd1.heap[b]?:=Nm.zwz gr3;have q3:Nm.Bz w3 bf (Nm.fv bm bf) bx x1 x2:=q1.move (be3.block bf HY2.out.2.2.2.2.1) (kp3 bx (lt_of_block (hx1.trans HB2.out)) (Nm.zqz own1 (hx1.trans HB2.out)));have hfin:=HE.out _ wd1 w3 vd1 v3 HY2.out.1 HY2.out.2.1 HY2.out.2.2.1 b1 kb1 nb1 be3 kp3 nw3)
    | (have hz:=runA;clear hz;refine K.za5 (by rfl) (.tmp 25) (.tmp 28) (by rfl) _ _ _ w3 (by rfl) (by rfl) runA ?_)
    | (have hz:=runB;clear hz;refine K.za5 (by rfl) (.tmp 25) (.tmp 28) (by rfl) _ _ _ w3 (by rfl) (by rfl) runB ?_)
    | fail)
  all_goals
   rw[List.append_assoc] at own3;have HG:Hid (w3.ownsRow F0 21 1 v3 (o++(fx++ [x2])).length (K.ints (o++(fx++ [x2])))/\Below F0 W w3/\(∀b,b<W.heap.size->vo.ownBlock≠some b->w3.heap[b]?=W.heap[b]?)/\(v3.ownBlock=vo.ownBlock∨∃k,v3.ownBlock=some k/\W.heap.size<=k)):=⟨own3,hfin⟩;clear hfin own3 q3 q1 own1 b1 kb1 nb1 be3 kp3 nw3 hx1 zs;go_wp2;go_ret;exact⟨_,rfl,HG.out⟩
theorem zfl:∀(n:Nat) (r:Int) (W:World) (bm bf B F0:Nat) (vo:Value) (o:List Int),n<=2->Nm.deep n r->Nm.okI r->Nm.Part W bm bf B->bm<F0->bf<F0->B<F0->F0<=W.heap.size->W.ownsRow F0 21 1 vo o.length (K.ints o)->o.length<=40000 ->
  Calls prog 92 #[vo,.int .i32 r,.pointer (some ⟨bm,0,none⟩),.pointer (some ⟨bf,0,none⟩)] W fun e w'=>∃v',e= .returned v'/\w'.ownsRow F0 21 1 v' (o++Nm.full n r).length (K.ints (o++Nm.full n r))/\Below F0 W w'/\(∀b,b<W.heap.size->vo.ownBlock≠some b->w'.heap[b]?=W.heap[b]?)/\(v'.ownBlock=vo.ownBlock∨∃k,v'.ownBlock=some k/\W.heap.size<=k)
 | 0,r,W,bm,bf,B,F0,vo,o,_,hd,hr,hP,h1,h2,h3,h4,h5,h6=>zfk r W bm bf B F0 vo o (fun _=> []) (fun _=>by simp) hr hP h1 h2 h3 h4 h5 h6 (fun p hp=>by rw[show Nm.look Nm.tab r=none from hd] at hp;cases hp) _ (by rw[show Nm.look Nm.tab r=none from hd];rfl)
 | n+1,r,W,bm,bf,B,F0,vo,o,hn,hd,hr,hP,h1,h2,h3,h4,h5,h6=>zfk r W bm bf B F0 vo o (fun x=>if (Nm.full n x).length<=10 then Nm.full n x else []) (fun x=>by split <;> simp_all) hr hP h1 h2 h3 h4 h5 h6 (fun p hp Y hY hF hO=>by
   rw[if_pos (by have:=Nm.zhy n p.1;omega)];have hb:=Nm.zid p (Nm.zcm hp).1
   exact zfl n p.1 Y bm bf B F0 vo o (by omega) (hd p hp) (by unfold Nm.okI;omega) hY h1 h2 h3 hF hO h6) _ (by
   rw[Nm.full];cases hl:Nm.look Nm.tab r with
   | none=>rfl
   | some p=>simp only;rw[if_pos (by have:=Nm.zhy n p.1;omega)])
end
section
open Go.RowKit
set_option maxRecDepth 40000
namespace Nm
theorem zp9:∀p∈rowB.zip rowL,M.rn p.1.2.1=p.2.2.1/\M.rn p.1.2.2=p.2.2.2/\p.1.1=p.2.1/\p.2.2.1.length=p.2.2.2.length/\p.2.2.1.length<=12/\p.1.2.1.size<=40/\p.1.2.2.size<=40:=by decide +kernel
theorem zv9 {j:Nat}{x:Int×ByteArray×ByteArray}(h:rowB[j]?=some x):∃y,rowL[j]?=some y/\M.rn x.2.1=y.2.1/\M.rn x.2.2=y.2.2/\x.1=y.1/\y.2.1.length=y.2.2.length/\y.2.1.length<=12/\x.2.1.size<=40/\x.2.2.size<=40:=by
 have hj:j<rowL.length:=(qL.1 h).1;refine⟨rowL[j],by simp[hj],?_⟩;have hm:(x,rowL[j])∈rowB.zip rowL:=List.mem_of_getElem? (i:=j) (by rw[List.getElem?_zip_eq_some];exact⟨h,by simp[hj]⟩);exact zp9 _ hm
theorem zwr {y:Int×List Int×List Int}{k:Nat}{a b:Int}(h1:y.2.1[k]?=some a)(h2:y.2.2[k]?=some b):(mk y).take (k+1)=(mk y).take k++ [(a,y.1,b)]:=by
 rw[List.take_add_one];congr 1;unfold mk;have h:(y.2.1.zip y.2.2)[k]?=some (a,b):=by rw[List.getElem?_zip_eq_some];exact⟨h1,h2⟩
 rw[List.getElem?_map,h];rfl
theorem zq8 (y:Int×List Int×List Int)(h:y.2.1.length=y.2.2.length):(mk y).length=y.2.1.length:=by simp[mk];omega
def Pn (wR wr:World) (bx:Nat) (x:Int×ByteArray×ByteArray) (y:Int×List Int×List Int) (vw vo vt:Value) (acc:List Pr):Prop :=
 wr.heap[bx]?=some (.cells #[.int .i32 x.1,.string x.2.1,.string x.2.2] 229)/\wr.ownsRow 0 21 1 vw y.2.2.length (K.ints y.2.2)/\wr.ownsRow 0 21 1 vo y.2.1.length (K.ints y.2.1)/\wr.ownsRow wR.heap.size 168 3 vt acc.length (pcells acc)/\Below wR.heap.size wR wr
theorem Pn.push {wR wr:World}{bx:Nat}{x:Int×ByteArray×ByteArray}{y:Int×List Int×List Int}{vw vo vt:Value}{acc:List Pr}(h:Pn wR wr bx x y vw vo vt acc)(hl:acc.length<=1000)(p:Pr) :
  ∃ao' vc' w',(∀ty,(Builtin.append_ #[165,165] ty #[vt,.slice (some ⟨wr.heap.size,0,none⟩) 1 1]).run prog (wr.alloc (.cells #[.int .i32 p.1,.int .i32 p.2.1,.int .i32 p.2.2] 168))= .ok (.slice ao' (acc.length+1) vc') w')/\Pn wR w' bx x y vw vo (.slice ao' (acc.length+1) vc') (acc++ [p]):=by
 obtain⟨h1,h2,h3,h4,h5⟩:=h;obtain⟨ao1,vc1,w1,run1,own1,kp1,sz1,be1⟩:=Al.app (sl:=165) underlying165 Tryz.infoPair rfl (by decide) (by decide) h4 h5.size (by omega) [.int .i32 p.1,.int .i32 p.2.1,.int .i32 p.2.2] rfl (fun u hu=>by simp at hu;rcases hu with rfl | rfl | rfl <;> rfl);have hk:∀ {e:TypeId} {k:Nat} {v:Value} {n:Nat} {xs:List Value},wr.ownsRow 0 e k v n xs->168≠e->w1.ownsRow 0 e k v n xs:=fun h he=>Al.held h fun q hq hl=>kp1 q hl fun e=>(L.zgl h4 h he).elim (fun h'=>by rw[h'] at hq;cases hq) fun h'=>h' (hq.trans e.symm)
 refine⟨ao1,vc1,w1,run1,⟨?_,hk h2 (by decide),hk h3 (by decide),?_,h5.trans be1⟩⟩
 ·rw[kp1 bx (lt_of_block h1) fun e=> ?_]
  ·exact h1
  ·obtain⟨_,cs,p',hb⟩:=Al.block h4 e;rw[h1] at hb;simp at hb
 ·rw[zka,List.length_append];exact own1
end Nm
theorem zfm (w:World):Calls prog 91 #[] w fun e w'=>∃v,e= .returned v/\Nm.Prs w' v Nm.tab/\Below w.heap.size w w':=by
 have HD:Hid (∀X (s:ByteArray),s.size<=40->Calls prog 10 #[.string s] X fun e w'=>∃v,e= .returned v/\w'.ownsRow (X.heap.size+1) 21 1 v (M.rn s).length (K.ints (M.rn s))/\Below X.heap.size X w'):=fun X s hs=>zcy s X (by omega)
 go_enter func91,ntmps91
 go_wp2_with fail
 refine(znz _).mono ?_;rintro e wR ⟨v,rfl,hRw,bR⟩;obtain⟨b,rfl,hcell⟩:=hRw;have HR:Hid (Nm.Rw wR (.slice (some ⟨b,0,none⟩) Nm.rowB.length Nm.rowB.length) Nm.rowB):=⟨b,rfl,hcell⟩;have HBR:=qH bR;clear hcell bR;rw[show Nm.rowB.length=11 from rfl] at HR ⊢;go_wp2
 go_loopw [1,9] (fun vt vj wr=>∃(j:Nat) (vo:Option Addr) (vc:Nat) (acc:List Nm.Pr),vt= .slice vo acc.length vc/\vj= .int .i64 j/\j<=11/\acc.length<=12*j/\Hid (acc=(Nm.rowL.take j).flatMap Nm.mk)/\Hid (wr.ownsRow wR.heap.size 168 3 (.slice vo acc.length vc) acc.length (Nm.pcells acc)/\Below wR.heap.size wR wr)) (fun _ vj _=>11 - (intOf vj).toNat)
 case atStart=>exact⟨0,none,0,[],rfl,rfl,by omega,by simp,by show _=_;simp,World.ownsRow_nil _ _ _ _,qR _⟩
 case round =>
  obtain⟨j,vo,vc,acc,rfl,rfl,hj,hacc,HA,HO⟩:=hrel
  by_cases hlt:j<11
  ·obtain⟨x,hx⟩:∃x,Nm.rowB[j]?=some x:=⟨Nm.rowB[j]'(show j<Nm.rowB.length from hlt),by simp⟩;obtain⟨y,hy,hy1,hy2,hy3,hy4,hy5,hy6,hy7⟩:=Nm.zv9 hx;obtain⟨b',e',hcell⟩:=HR.out;cases e';obtain⟨c0,c1,c2⟩:=hcell j x hx;rw[<- HO.out.2.cell (p:=⟨b,j*3,none⟩) (L.block_lt c0)] at c0;rw[<- HO.out.2.cell (p:=⟨b,j*3+1,none⟩) (L.block_lt c1)] at c1;rw[<- HO.out.2.cell (p:=⟨b,j*3+2,none⟩) (L.block_lt c2)] at c2;have HY:Hid (Nm.rowL[j]?=some y/\M.rn x.2.1=y.2.1/\M.rn x.2.2=y.2.2/\x.1=y.1/\y.2.1.length=y.2.2.length/\y.2.1.length<=12):=⟨hy,hy1,hy2,hy3,hy4,hy5⟩;have hD1:=HD.out;obtain⟨x1,x2,x3⟩:=x;simp only at hy6 hy7 c0 c1 c2 HY;obtain⟨X,hX⟩:∃X,X=wr.alloc (.cells #[.int .i32 x1,.string x2,.string x3] 229):=⟨_,rfl⟩;have bX:Below wr.heap.size wr X:=by rw[hX];exact(qR wr).alloc qN _
   have hbx:X.heap[wr.heap.size]?=some (.cells #[.int .i32 x1,.string x2,.string x3] 229):=by rw[hX];exact heap_alloc_new wr _
   have HX:Hid (X.heap[wr.heap.size]?=some (.cells #[.int .i32 x1,.string x2,.string x3] 229)/\X.ownsRow wR.heap.size 168 3 (.slice vo acc.length vc) acc.length (Nm.pcells acc)/\Below wR.heap.size wR X):=⟨hbx,L.zao HO.out.1 bX qN,HO.out.2.trans (bX.mono HO.out.2.size)⟩;have k2:X.cell? ⟨wr.heap.size,2,none⟩=some (.string x3):=K.zah hbx rfl
   have HC1:Hid (Calls prog 10 #[.string x3] X fun e w'=>∃v,e= .returned v/\w'.ownsRow (X.heap.size+1) 21 1 v y.2.2.length (K.ints y.2.2)/\Below X.heap.size X w'):=by
    have h:=hD1 X x3 hy7;rw[HY.out.2.2.1] at h;exact h
   have HC2:=qH <| fun X=>by
    have h:=hD1 X x2 hy6;rw[HY.out.2.1] at h;exact h
   clear hx hy hy1 hy2 hy3 hy4 hy5 hD1 hcell bX hbx
   go_wp2_with fail
   rw[<- hX];refine HC1.out.mono ?_;clear hX HC1;rintro e w1 ⟨v1,rfl,own1,b1⟩;have H1:Hid (w1.heap[wr.heap.size]?=some (.cells #[.int .i32 x1,.string x2,.string x3] 229)/\w1.ownsRow 0 21 1 v1 y.2.2.length (K.ints y.2.2)/\w1.ownsRow wR.heap.size 168 3 (.slice vo acc.length vc) acc.length (Nm.pcells acc)/\Below wR.heap.size wR w1):=⟨K.zae HX.out.1 b1,L.zar own1 (Nat.zero_le _),L.zao HX.out.2.1 b1 qN,HX.out.2.2.trans (b1.mono HX.out.2.2.size)⟩;have k1:w1.cell? ⟨wr.heap.size,1,none⟩=some (.string x2):=K.zah H1.out.1 rfl;obtain⟨wo,wc,rfl,hwc,_⟩:=K.zb8 own1;clear k2 c0 c1 c2 HX b1 own1
   go_wp2_with fail
   refine(HC2.out _).mono ?_;clear HC2;rintro e w2 ⟨v2,rfl,own2,b2⟩;have H2:Hid (Nm.Pn wR w2 wr.heap.size (x1,x2,x3) y (.slice wo y.2.2.length wc) v2 (.slice vo acc.length vc) acc):=⟨K.zae H1.out.1 b2,L.zao H1.out.2.1 b2 qN,L.zar own2 (Nat.zero_le _),L.zao H1.out.2.2.1 b2 qN,H1.out.2.2.2.trans (b2.mono H1.out.2.2.2.size)⟩;obtain⟨po,pc,rfl,hpc,_⟩:=K.zb8 own2;obtain⟨n,hn⟩:∃n,n=y.2.1.length:=⟨_,rfl⟩;have HN:Hid (n=y.2.1.length/\n=y.2.2.length):=⟨hn,by rw[hn];exact HY.out.2.2.2.2.1⟩;have hn12:n<=12:=by rw[hn];exact HY.out.2.2.2.2.2
   rw[<- hn,HN.out.2.symm] at H2 ⊢;clear k1 own2 b2 H1 hn hpc hwc HO HR HBR HD
   have HT:Hid (Nm.Pn wR w2 wr.heap.size (x1,x2,x3) y (.slice wo n wc) (.slice po n pc) (.slice vo acc.length vc) (acc++(Nm.mk y).take 0)):=by
    show Nm.Pn _ _ _ _ _ _ _ _ _;rw[List.take_zero,List.append_nil];exact H2.out
   clear H2;obtain⟨bx,hbx⟩:∃bx,bx=wr.heap.size:=⟨_,rfl⟩;rw[<- hbx] at HT ⊢;clear hbx;go_wp2
   go_loopw [1,20] (fun vt vk wz=>∃(k:Nat) (vo:Option Addr) (vc:Nat),vt= .slice vo (acc.length+k) vc/\vk= .int .i64 k/\k<=n/\Hid (Nm.Pn wR wz bx (x1,x2,x3) y (.slice wo n wc) (.slice po n pc) (.slice vo (acc.length+k) vc) (acc++(Nm.mk y).take k))) (fun _ vk _=>12 - (intOf vk).toNat)
   case atStart=>exact⟨0,vo,vc,rfl,rfl,Nat.zero_le _,HT⟩
   case round =>
    obtain⟨k,vo',vc',rfl,rfl,hk,HP⟩:=hrel;clear HT
    by_cases hkn:k<n
    ·obtain⟨a,ha⟩:∃a,y.2.1[k]?=some a:=⟨y.2.1[k]'(by have:=HN.out.1;omega),by simp⟩;obtain⟨c,hc⟩:∃c,y.2.2[k]?=some c:=⟨y.2.2[k]'(by have:=HN.out.2;omega),by simp⟩;obtain⟨p1,p2,p3,p4,p5⟩:=HP.out;obtain⟨q,hq⟩:∃q,q=(acc++(Nm.mk y).take k).length:=⟨_,rfl⟩
     have hlen:(acc++(Nm.mk y).take k).length=acc.length+k:=by
      rw[List.length_append,List.length_take,Nm.zq8 y HY.out.2.2.2.2.1];have:=HN.out.1;omega
     have hd:Nm.Pn wR wr.drew bx (x1,x2,x3) y (.slice wo n wc) (.slice po n pc) (.slice vo' (acc.length+k) vc') (acc++(Nm.mk y).take k):=⟨p1,p2,p3,p4,⟨p5.os,p5.tape,p5.output,p5.size,p5.block⟩⟩;obtain⟨ao1,vc1,w3,run3,hP3⟩:=hd.push (by rw[hlen];omega) (a,x1,c);obtain⟨_,_,e1,l1⟩:=Al.lies p3;obtain⟨_,_,e2,l2⟩:=Al.lies p2;obtain⟨rfl,-,rfl⟩:=Value.slice.inj e1;obtain⟨rfl,-,rfl⟩:=Value.slice.inj e2;obtain⟨g1,rfl,_,d1⟩:=l1 (by have:=HN.out.1;omega);obtain⟨g2,rfl,_,d2⟩:=l2 (by have:=HN.out.2;omega);have s1:=d1 k _ (by unfold K.ints;rw[List.getElem?_map,ha];rfl);have s2:=d2 k _ (by unfold K.ints;rw[List.getElem?_map,hc];rfl);have s3:wr.cell? ⟨bx,0,none⟩=some (.int .i32 x1):=K.zah p1 rfl;rw[hlen] at run3 hP3
     have hstep:acc++(Nm.mk y).take k++ [(a,x1,c)]=acc++(Nm.mk y).take (k+1):=by
      rw[Nm.zwr ha hc,List.append_assoc,HY.out.2.2.2.1]
     rw[hstep] at hP3;have HP3:=qH hP3;have hrun:∀ty,(Builtin.append_ #[165,165] ty #[.slice vo' (acc.length+k) vc',.slice (some ⟨wr.heap.size,0,none⟩) 1 1]).run prog ((wr.alloc (.cells #[.int .i32 a,.int .i32 x1,.int .i32 c] 168)).drew)= .ok (.slice ao1 (acc.length+k+1) vc1) w3:=run3;clear run3 p1 p2 p3 p4 p5 hd e1 e2 l1 l2 d1 d2 ha hc hP3 hstep hlen HP hq
     go_wp2_with fail
     go_region_law (refine K.za5 (by rfl) (.tmp 25) (.tmp 34) (by rfl) _ _ _ w3 (by rfl) (by rfl) hrun ?_)
     all_goals
      go_wp2
      go_roundw
      case rel=>exact⟨k+1,ao1,vc1,rfl,by go_num,by omega,HP3⟩
      case measure=>simp[intOf];omega
    ·have e:k=n:=by omega
     subst e;have hml:((Nm.mk y).take k)=Nm.mk y:=List.take_of_length_le (by rw[Nm.zq8 y HY.out.2.2.2.2.1];have:=HN.out.1;omega);have hal:(acc++Nm.mk y).length=acc.length+k:=by rw[List.length_append,Nm.zq8 y HY.out.2.2.2.2.1,HN.out.1]
     have hF:=HP.out;rw[hml] at hF;obtain⟨_,_,_,f4,f5⟩:=hF;have HF:Hid (wr.ownsRow wR.heap.size 168 3 (.slice vo' (acc++Nm.mk y).length vc') (acc++Nm.mk y).length (Nm.pcells (acc++Nm.mk y))/\Below wR.heap.size wR wr):=⟨by rw[hal] at f4 ⊢;exact f4,f5⟩
     have HA2:Hid (acc++Nm.mk y=(Nm.rowL.take (j+1)).flatMap Nm.mk):=by
      show _=_;rw[List.take_add_one,HY.out.1,List.flatMap_append,<- HA.out];simp
     have HAl:=qH hal;clear hml hal f4 f5 HP;go_wp2
     go_roundw
     case rel=>exact⟨j+1,vo',vc',acc++Nm.mk y,by rw[HAl.out],by go_num,by omega,by rw[HAl.out];omega,HA2,HF⟩
     case measure=>simp[intOf];omega
  ·have e:j=11:=by omega
   subst e
   have hP:Hid (Nm.Prs wr (.slice vo acc.length vc) Nm.tab):=by
    have h1:=HA.out.trans Nm.ztb;have h:=Nm.zwh HO.out.1 (by rw[h1];decide);rw[<- h1];exact h
   have HE:=qH <| HBR.out.trans (HO.out.2.mono HBR.out.size);clear HA HO HR HBR HD;go_wp2;go_ret;exact⟨_,rfl,hP.out,HE.out⟩
