import Derived.Test.YthnmmmkeamcfkaaGreatDoorSMath
import Derived.Deep.SlicePairs
import Derived.Test.YthnmmmkeamcfkaaGreatDoorCards
import Derived.Test.YthnmmmkeamcfkaaGreatDoorTie
import Derived.Deep.DeepHandedRow
import Derived.Lib.LaidTab
import Derived.SevenTiedAt
import Derived.Stop.LaidErr
namespace Go.Proofs.YthnmmmkeamcfkaaGreatDoor
open Go.Proofs.Tryz
section
theorem Tryz.infoSp:(prog.info? 101).map (fun i=>(i.zero,i.size,i.bytes))=some (some (.agg #[.int .i32 0,.int .i32 0]),2,8):=by kernel_rfl
end
namespace S
open Go.RowKit
def enc2 (x:Sp):List Value:= [.int .i32 x.1,.int .i32 x.2]
def cellsOf (l:List Sp):List Value:=l.flatMap enc2
def Fit (l:List Sp):Prop:=∀x∈l,-2147483648<=x.1/\x.1<=2147483647/\ -2147483648<=x.2/\x.2<=2147483647
theorem Fit.zc8 {b:Int}{l:List Sp}(h:Nf b l)(hb:0<=b):Fit l:=fun x hx=>by have:=h.mem hx;omega
theorem Fit.at {l:List Sp}(h:Fit l){j:Nat}{x:Sp}(hj:l[j]?=some x): -2147483648<=x.1/\x.1<=2147483647/\ -2147483648<=x.2/\x.2<=2147483647:=h x (List.mem_of_getElem? hj)
theorem cellsOf_nil:cellsOf []= []:=rfl
theorem zbo (x:Sp)(l:List Sp):cellsOf (x::l)= .int .i32 x.1:: .int .i32 x.2::cellsOf l:=rfl
theorem zbm (l m:List Sp):cellsOf (l++m)=cellsOf l++cellsOf m:=by simp[cellsOf]
theorem zbl (l:List Sp):(cellsOf l).length=l.length*2:=by
 induction l with
 | nil=>rfl
 | cons x l ih=>rw[zbo];simp[ih];omega
theorem zco {l:List Sp}{j:Nat}{x:Sp}(h:l[j]?=some x):(cellsOf l)[j*2]?=some (.int .i32 x.1)/\(cellsOf l)[j*2+1]?=some (.int .i32 x.2):=by
 induction l generalizing j with
 | nil=>simp at h
 | cons y l ih =>
  cases j with
  | zero=>simp at h;subst h;rw[zbo];simp
  | succ j =>
   have:=ih (j:=j) (by simpa using h);rw[zbo,show (j+1)*2=j*2+1+1 by omega,show j*2+1+1+1=(j*2+1)+1+1 by omega];simpa using this
theorem zlc {l:List Sp}{u:Value}(h:u∈cellsOf l):u.oneCell'=true:=by
 simp only[cellsOf,List.mem_flatMap,enc2] at h;obtain⟨x,_,h⟩:=h;simp at h;rcases h with rfl | rfl <;> rfl
theorem zld {l:List Sp}{i:Nat}{u:Value}(h:(cellsOf l)[i]?=some u):∃j x,l[j]?=some x/\((i=j*2/\u= .int .i32 x.1)∨(i=j*2+1/\u= .int .i32 x.2)):=by
 have hlt:i<l.length*2:=by rw[<- zbl];exact(qL.1 h).1
 obtain⟨x,hx⟩:∃x,l[i / 2]?=some x:=⟨l[i / 2]'(by omega),by simp[show i / 2<l.length by omega]⟩;have hg:=zco hx;refine⟨i / 2,x,hx,?_⟩;rcases Nat.mod_two_eq_zero_or_one i with h0 | h0
 ·left
  have e:i=i / 2*2:=by omega
  refine⟨e,?_⟩;have:=hg.1;rw[<- e,h] at this;exact Option.some.inj this
 ·right
  have e:i=i / 2*2+1:=by omega
  refine⟨e,?_⟩;have:=hg.2;rw[<- e,h] at this;exact Option.some.inj this
def Rd (w:World) (v:Value) (l:List Sp):Prop :=
 ∃ao cap,v= .slice ao l.length cap/\(ao=none->cap=0)/\(l≠ []->∃b off,ao=some ⟨b,off,none⟩/\∀j x,l[j]?=some x->w.cell? ⟨b,off+j*2,none⟩=some (.int .i32 x.1)/\w.cell? ⟨b,off+j*2+1,none⟩=some (.int .i32 x.2))
theorem Rd.nil (w:World):Rd w (.slice none 0 0) []:=⟨none,0,rfl,fun _=>rfl,fun h=>absurd rfl h⟩
theorem Rd.za4 {w:World}{B:Nat}{e:TypeId}{v:Value}{l:List Sp}(h:w.ownsRow B e 2 v l.length (cellsOf l)):Rd w v l:=by
 have hc:=fun g hg=>World.ownsRow.cells h (g:=g) hg
 rcases h.2 with ⟨rfl,h0⟩|⟨g,cap,cur,rfl,h0⟩
 ·have:l= []:=by simpa using h0
  subst this;exact Rd.nil w
 ·refine⟨_,cap,rfl,fun h=>by simp at h,fun _=>⟨g,0,rfl,fun j x hj=> ?_⟩⟩;have hg:=zco hj;have h1:=hc g rfl _ _ hg.1;have h2:=hc g rfl _ _ hg.2;rw[L.addr_add] at h1 h2;exact⟨h1,h2⟩
theorem Rd.cells {w w':World}{v:Value}{l:List Sp}(h:Rd w v l)(hc:∀b o u,w.cell? ⟨b,o,none⟩=some u->(∃ao n c,v= .slice ao n c/\∃a,ao=some a/\a.block=b)->w'.cell? ⟨b,o,none⟩=some u):Rd w' v l:=by
 obtain⟨ao,cap,rfl,hn,h⟩:=h;refine⟨ao,cap,rfl,hn,fun hz=> ?_⟩;obtain⟨b,off,rfl,hcl⟩:=h hz;refine⟨b,off,rfl,fun j x hj=> ?_⟩;have h1:=hcl j x hj;exact⟨hc _ _ _ h1.1 ⟨_,_,_,rfl,_,rfl,rfl⟩,hc _ _ _ h1.2 ⟨_,_,_,rfl,_,rfl,rfl⟩⟩
theorem Rd.below {w w':World}{v:Value}{l:List Sp}{B:Nat}(h:Rd w v l)(hb:Below B w w')(hB:w.heap.size<=B):Rd w' v l :=
 h.cells fun b o u hu _=>by
  have:=L.block_lt hu;rw[hb.cell (p:=⟨b,o,none⟩) (by show b<B;omega)];exact hu
theorem Rd.grown {w w':World}{v:Value}{l:List Sp}{row:Option Nat}(h:Rd w v l)(hg:w.grownBy w' row)(hne:∀g,row=some g->v.ownBlock≠some g):Rd w' v l :=
 h.cells fun b o u hu hv=>by
  have:=L.block_lt hu;obtain⟨ao,n,c,rfl,a,rfl,rfl⟩:=hv;rw[World.cell?_of_block (a:=⟨a.block,o,none⟩) (hg.block a.block this fun e=>hne _ e.symm rfl)];exact hu
theorem Rd.block {w:World}{v:Value}{l:List Sp}(h:Rd w v l)(hl:l≠ []):∃g,v.ownBlock=some g/\g<w.heap.size:=by
 obtain⟨ao,cap,rfl,hn,h⟩:=h;obtain⟨b,off,rfl,hc⟩:=h hl;obtain⟨x,hx⟩:∃x,l[0]?=some x:=⟨l[0]'(List.length_pos_iff.2 hl),by simp[List.length_pos_iff.2 hl]⟩;exact⟨b,rfl,L.block_lt (hc 0 x hx).1⟩
theorem Rd.kept {w0 w w':World}{v:Value}{l:List Sp}{row:Option Nat}(h0:Rd w0 v l)(h:Rd w v l)(hg:w.grownBy w' row)(hr:∀g,row=some g->w0.heap.size<=g):Rd w' v l:=by
 by_cases hl:l= []
 ·subst hl;obtain⟨ao,cap,rfl,hn,_⟩:=h;exact⟨ao,cap,rfl,hn,fun h=>absurd rfl h⟩
 ·obtain⟨b,hb,hlt⟩:=h0.block hl;exact h.grown hg fun g hg' e=>by rw[hb] at e;cases e;have:=hr _ hg';omega
theorem Rd.len {w:World}{v:Value}{l:List Sp}(h:Rd w v l):∃ao cap,v= .slice ao l.length cap:=by
 obtain⟨ao,cap,rfl,_⟩:=h;exact⟨ao,cap,rfl⟩
theorem boxed {wr w1:World}{a b:Value}{t:TypeId}(h:Below (wr.alloc (.cells #[a,b] t)).heap.size (wr.alloc (.cells #[a,b] t)) w1) :
  (w1.cell? ⟨wr.heap.size,0,none⟩=some a/\w1.cell? ⟨wr.heap.size,1,none⟩=some b)/\(∀bb o u,wr.cell? ⟨bb,o,none⟩=some u->w1.cell? ⟨bb,o,none⟩=some u)/\wr.heap.size<w1.heap.size/\Below wr.heap.size wr w1:=by
 have hs:=h.size;have e:(wr.alloc (.cells #[a,b] t)).heap.size=wr.heap.size+1:=by simp
 have hb:=((qR wr).alloc qN _).trans (h.mono (by omega));refine⟨⟨?_,?_⟩,?_,by omega,hb⟩
 ·rw[h.cell (p:=⟨wr.heap.size,0,none⟩) (by show wr.heap.size<_;omega),World.cell?_alloc_at _ _ _ _ (by simp)];rfl
 ·rw[h.cell (p:=⟨wr.heap.size,1,none⟩) (by show wr.heap.size<_;omega),World.cell?_alloc_at _ _ _ _ (by simp)];rfl
 ·intro bb o u hu;rw[hb.cell (p:=⟨bb,o,none⟩) (L.block_lt hu)];exact hu
theorem zaa {w w1 w2:World}{r:Option Nat}(h:w.grownBy w1 r)(h':w1.grownBy w2 r):w.grownBy w2 r :=
 ⟨h'.os.trans h.os,h'.tape.trans h.tape,h'.output.trans h.output,Nat.le_trans h.size h'.size,fun k hk hne=>(h'.block k (Nat.lt_of_lt_of_le hk h.size) hne).trans (h.block k hk hne)⟩
theorem zay (w:World)(r:Option Nat):w.grownBy w r:=⟨rfl,rfl,rfl,qN,fun _ _ _=>rfl⟩
theorem zaf {w w1:World}{r:Option Nat}(h:Below w.heap.size w w1):w.grownBy w1 r:=⟨h.os,h.tape,h.output,h.size,fun k hk _=>h.block k hk⟩
theorem zej {w:World}{base:Nat}{e:TypeId}{size:Nat}{v:Value}{n:Nat}{xs:List Value}(h:w.ownsRow base e size v n xs)(q:Nat):(w.drewN q).ownsRow base e size v n xs:=h
def num (w:World) (b:Nat):Nat:=(intOf ((w.cell? ⟨b,0,none⟩).getD undef)).toNat
def Bx (w:World) (b:Nat) (t:TypeId) (v:Value):Prop:=w.heap[b]?=some (.cells #[v] t)
theorem Bx.cell {w:World}{b:Nat}{t:TypeId}{v:Value}(h:Bx w b t v):w.cell? ⟨b,0,none⟩=some v:=by simp[World.cell?,Bx] at h ⊢;rw[h];rfl
theorem Bx.num {w:World}{b:Nat}{t:TypeId}{k:Nat}(h:Bx w b t (.int .i64 k)):num w b=k:=by unfold S.num;rw[h.cell];rfl
theorem Bx.free {w:World}{b:Nat}{t:TypeId}{v:Value}(h:Bx w b t v):w.frozen? ⟨b,0,none⟩=false:=by simp[World.frozen?,Bx] at h ⊢;rw[h];rfl
theorem Bx.lt {w:World}{b:Nat}{t:TypeId}{v:Value}(h:Bx w b t v):b<w.heap.size:=lt_of_block h
theorem Bx.set {w:World}{b:Nat}{t:TypeId}{v:Value}(h:Bx w b t v)(u:Value):Bx (w.setCell ⟨b,0,none⟩ u) b t u:=by
 have:=heap_setCell_same w b 0 #[v] t u h;exact this
theorem Bx.new (w:World)(t:TypeId)(v:Value):Bx (w.alloc (.cells #[v] t)) w.heap.size t v:=by
 unfold Bx;exact Array.getElem?_push_size
theorem Bx.below {w w':World}{B b:Nat}{t:TypeId}{v:Value}(h:Bx w b t v)(hb:Below B w w')(hB:b<B):Bx w' b t v:=by
 unfold Bx;rw[hb.block b hB];exact h
theorem Bx.grown {w w':World}{b:Nat}{t:TypeId}{v:Value}{r:Option Nat}(h:Bx w b t v)(hg:w.grownBy w' r)(hr:r≠some b):Bx w' b t v:=by
 unfold Bx;rw[hg.block b h.lt (fun e=>hr e.symm)];exact h
end S
section
open Go.ChangeShapes Go.WideShapes Go.ChangeAt Go.RowKit
theorem wf_i32 {n:Int}(h:(Lit.int .i32 n).wf=true): -2147483648<=n/\n<=2147483647:=by
 simp only[Lit.wf,Bool.and_eq_true,decide_eq_true_eq] at h;have e1:IntKind.i32.min= -2147483648:=by decide
 have e2:IntKind.i32.max=2147483647:=by decide
 rw[e1,e2] at h;omega
set_option maxRecDepth 100000 in
theorem zsv {H:Type}{enc:TypeId×Value->H}{W:World}{base:Nat}{v:Value}{d:DataW H}{p:List MemPlace}
  (hv:Value.okWide prog W .any base 24 v) (h:DataW.Trod enc prog W 0 (fun _=>true) true 24 v d p) :
  ∃l:List S.Sp,S.Rd W v l/\S.Fit l/\l.length+1<=Rows.uptoBulk d/\∀ao n c,v= .slice ao n c->n<=c:=by
 obtain⟨a0,len0,cap0,rfl⟩:=okWide_slice underlying24 hv;obtain⟨fuel,hf⟩:=h;obtain⟨f0,f1,hu,o0,o1,t0,t1⟩:∃f0 f1:Field,prog.underlying 101=some (.struct #[f0,f1])/\f0.offset=0/\f1.offset=1/\f0.type=21/\f1.type=21:=⟨_,_,underlying101,rfl,rfl,rfl,rfl⟩;rcases Go.Deep.open_slice_pairs underlying24 hu (by kernel_rfl) o0 o1 (by rw[t0];kernel_rfl) (by rw[t1];kernel_rfl) hf with ⟨hcs,hx⟩|⟨a,len,cap,m,n,V0,V1,D0,D1,P0,P1,hcs,_,hl,hm,hmm,hx,hcell⟩
 ·simp[Value.cells] at hcs;obtain⟨rfl,rfl,rfl⟩:=hcs;exact⟨[],S.Rd.nil W,fun x hx=>by simp at hx,zmj _,fun ao n c h=>by cases h;exact qN⟩
 ·simp[Value.cells] at hcs;obtain⟨rfl,rfl,rfl⟩:=hcs;simp only[Prod.mk.injEq] at hx;obtain⟨rfl,rfl⟩:=hx;simp only[if_true] at hmm;subst hmm
  have each:∀i,i<len0->∃x1 x2:Int,V0 i= .int .i32 x1/\V1 i= .int .i32 x2/\ -2147483648<=x1/\x1<=2147483647/\ -2147483648<=x2/\x2<=2147483647:=fun i hi=>by
   obtain⟨_,_,h3,h4⟩:=hcell i (by omega);rw[t0] at h3;rw[t1] at h4;obtain⟨x1,e1,_,w1⟩:=DataW.trod_int underlying21 h3;obtain⟨x2,e2,_,w2⟩:=DataW.trod_int underlying21 h4;have:=wf_i32 w1;have:=wf_i32 w2;exact⟨x1,x2,by simpa using e1,by simpa using e2,by omega,by omega,by omega,by omega⟩
  let g:Nat->S.Sp:=fun i=>(intOf (V0 i),intOf (V1 i))
  have hg:∀i,i<len0->V0 i= .int .i32 (g i).1/\V1 i= .int .i32 (g i).2/\ -2147483648<=(g i).1/\(g i).1<=2147483647/\ -2147483648<=(g i).2/\(g i).2<=2147483647:=fun i hi=>by
   obtain⟨x1,x2,e1,e2,h⟩:=each i hi;simp only[g,e1,e2,intOf];exact⟨trivial,trivial,h⟩
  have hlen:((List.range len0).map g).length=len0:=by simp
  refine⟨(List.range len0).map g,⟨_,m,by rw[hlen],fun h=>by simp at h,fun hne=> ?_⟩,fun x hx=> ?_,?_,fun ao n c h=>by cases h;exact hl⟩
  ·have h0:0<len0:=by
    cases len0 with
    | zero=>simp at hne
    | succ=>omega
   obtain⟨b,off,spot⟩:=a;have c0:=(hcell 0 (by omega)).1;have hsp:spot=none:=by simpa [Addr.add] using World.cell?_spot c0
   subst hsp;refine⟨b,off,rfl,fun j x hj=> ?_⟩
   have hj2:j<len0:=by
    have:=(qL.1 hj).1;rw[hlen] at this;exact this
   have hxj:g j=x:=by
    rw[List.getElem?_map,List.getElem?_range hj2] at hj;simpa using hj
   obtain⟨h3,h4,_⟩:=hcell j (by omega);rw[L.addr_add] at h3 h4;rw[<- Nat.add_assoc] at h4;rw[h3,h4,(hg j hj2).1,(hg j hj2).2.1,hxj];exact⟨rfl,rfl⟩
  ·obtain⟨i,hi,rfl⟩:=List.mem_map.1 hx;exact(hg i (by simpa using hi)).2.2
  ·have h5:=zom (H:=H) ((List.range len0).map fun i=> .agg [D0 i,D1 i]) ((List.range (m - len0)).map fun j=> .agg [D0 (len0+j),D1 (len0+j)]);simpa using h5
def tab64:List Int:= [0,1,56,2,57,49,28,3,61,58,42,50,38,29,17,4,62,47,59,36,45,43,51,22,53,39,33,30,24,18,12,5,63,55,48,27,60,41,37,16,46,35,44,21,52,32,23,11,54,26,40,15,34,20,31,10,25,14,19,9,13,8,7,6]
def pow10Cells:Array Value:=#[.int .u64 1,.int .u64 10,.int .u64 100,.int .u64 1000,.int .u64 10000,.int .u64 100000,.int .u64 1000000,.int .u64 10000000,.int .u64 100000000,.int .u64 1000000000,.int .u64 10000000000,.int .u64 100000000000,.int .u64 1000000000000,.int .u64 10000000000000,.int .u64 100000000000000,.int .u64 1000000000000000,.int .u64 10000000000000000,.int .u64 100000000000000000,.int .u64 1000000000000000000,.int .u64 10000000000000000000]
def tab32Cells:Array Value:=#[.int .u8 0,.int .u8 1,.int .u8 28,.int .u8 2,.int .u8 29,.int .u8 14,.int .u8 24,.int .u8 3,.int .u8 30,.int .u8 22,.int .u8 20,.int .u8 15,.int .u8 25,.int .u8 17,.int .u8 4,.int .u8 8,.int .u8 31,.int .u8 27,.int .u8 13,.int .u8 23,.int .u8 21,.int .u8 19,.int .u8 16,.int .u8 7,.int .u8 26,.int .u8 12,.int .u8 18,.int .u8 6,.int .u8 11,.int .u8 5,.int .u8 10,.int .u8 9]
def tab64Cells:Array Value:=#[.int .u8 0,.int .u8 1,.int .u8 56,.int .u8 2,.int .u8 57,.int .u8 49,.int .u8 28,.int .u8 3,.int .u8 61,.int .u8 58,.int .u8 42,.int .u8 50,.int .u8 38,.int .u8 29,.int .u8 17,.int .u8 4,.int .u8 62,.int .u8 47,.int .u8 59,.int .u8 36,.int .u8 45,.int .u8 43,.int .u8 51,.int .u8 22,.int .u8 53,.int .u8 39,.int .u8 33,.int .u8 30,.int .u8 24,.int .u8 18,.int .u8 12,.int .u8 5,.int .u8 63,.int .u8 55,.int .u8 48,.int .u8 27,.int .u8 60,.int .u8 41,.int .u8 37,.int .u8 16,.int .u8 46,.int .u8 35,.int .u8 44,.int .u8 21,.int .u8 52,.int .u8 32,.int .u8 23,.int .u8 11,.int .u8 54,.int .u8 26,.int .u8 40,.int .u8 15,.int .u8 34,.int .u8 20,.int .u8 31,.int .u8 10,.int .u8 25,.int .u8 14,.int .u8 19,.int .u8 9,.int .u8 13,.int .u8 8,.int .u8 7,.int .u8 6]
def relay (cs:Array Value):Obj->Obj
 | .cells _ t frozen=> .cells cs t frozen
 | o=>o
end
section
theorem qH {p:Prop}(h:p):Go.RowKit.Hid p:=h
