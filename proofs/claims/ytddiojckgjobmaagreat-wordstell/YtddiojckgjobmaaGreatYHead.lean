/-
 What sets.Has answers of right sets: by the span that sort.Search finds.
-/
import Derived.Test.YtddiojckgjobmaaGreatSWrong
import Derived.RegionTactic
import Derived.Laws.ResultCell
import Derived.Shelf.SlSorted.Search
import Derived.Shelf.SlGeneric
import Derived.Shelf.Lay
import Derived.Ground.SlsoProg
import Derived.Test.YtddiojckgjobmaaGreatCnMath
set_option maxHeartbeats 0
namespace Go.Proofs
open Go.Shelf Go.RowKit Go.Lib Go.Sort
shelf_lay SlLaysO.n16 Slso 16 at Tryz as Tryz.search
end Go.Proofs
namespace Go.Proofs.YtddiojckgjobmaaGreat
open Go.RowKit Go.Lib Go.Sort
theorem zbd (n:Nat)(p:Nat->Bool)(hm:∀a b,a<=b->b<n->p a=true->p b=true):∃c,c<=n/\(List.range n).countP (fun i=> !p i)=c/\(∀i,i<c->p i=false)/\(∀i,c<=i->i<n->p i=true):=by
 induction n with
 | zero=>exact⟨0,qN,by simp,fun i h=>by omega,fun i h1 h2=>by omega⟩
 | succ n ih =>
  obtain⟨c,h1,h2,h3,h4⟩:=ih fun a b hab hb h=>hm a b hab (by omega) h
  rw[List.range_succ,List.countP_append,h2];cases hp:p n with
  | true=>exact⟨c,by omega,by simp[hp],h3,fun i ha hb=>by
    by_cases e:i=n
    ·subst e;exact hp
    ·exact h4 i ha (by omega)⟩
  | false =>
   have hc:c=n:=by
    by_cases e:c=n
    ·exact e
    ·have:=hm c n h1 (by omega) (h4 c qN (by omega));rw[hp] at this;cases this
   subst hc
   exact⟨c+1,qN,by simp[hp],fun i hi=>by
    by_cases e:i=c
    ·subst e;exact hp
    ·exact h3 i (by omega),fun i ha hb=>by omega⟩
theorem zfz (ba bx:Nat)(v:Value)(l:List S.Sp)(r:Int)(i:Nat)(x:S.Sp)(W:World)(hx:l[i]?=some x)(R:S.Rd W v l)(hl:l.length<=200)
  (ha:W.cell? ⟨ba,0,none⟩=some v) (hr:W.cell? ⟨bx,0,none⟩=some (.int .i32 r)) :
  Calls Tryz.prog 53 (#[.int .i64 i]++#[.pointer (some ⟨ba,0,none⟩),.pointer (some ⟨bx,0,none⟩)]) W fun e w'=>e= .returned (.bool (decide (r<=x.2)))/\∃q os,w'=grow (W.drewN q) os:=by
 obtain⟨ao,cap,rfl,hn,hc⟩:=R;have hlt:=(qL.1 hx).1;obtain⟨b,off,rfl,hcell⟩:=hc (by intro h;subst h;simp at hx);have c2:=(hcell i x hx).2;have hiz:(i:Int)<(l.length:Int):=by omega
 obtain⟨x1,x2⟩:=x;simp only at c2 ⊢;clear hcell hc hx
 go_enter Tryz.func53,Tryz.ntmps53
 go_wp2
 go_quiet (fail)
 go_wp2;go_ret
 exact⟨rfl,_,#[],by rw[grow_empty]⟩
theorem zko {l:List S.Sp}{r:Int}{c:Nat}(N:S.Nf 0 l)(h1:∀i x,i<c->l[i]?=some x->x.2<r) :
  (l.length<=c->S.memb l r=false)/\(∀x,l[c]?=some x->r<x.1->S.memb l r=false)/\(∀x,l[c]?=some x->x.1<=r->r<=x.2->S.memb l r=true) :=
 ⟨fun h=>S.zks h h1 (Int.le_refl _),fun _ hx h=>S.zkr N h1 hx (Int.le_refl _) h,fun x hx h2 h3=>S.za0.2 ⟨x,List.mem_of_getElem? hx,h2,h3⟩⟩
theorem zdv {fn:Func}{p u:Tmp}(h:fn.results=#[.cell p 52,.tmp u])(tmps:Array Value)(w:World)(g:Nat)(y1 y2:Int)(bv:Value)(hg:w.heap[g]?=some (.cells #[.int .i32 y1,.int .i32 y2] 52))
  (hp:tmps.getD p undef= .pointer (some ⟨g,0,none⟩)) (hu:tmps.getD u undef=bv):(results fn tmps).run Tryz.prog w= .ok (.tuple #[.agg #[.int .i32 y1,.int .i32 y2],bv]) w:=by
 have hl:=run_loadVar_row (P:=Tryz.prog) w g 52 52 #[.int .i32 y1,.int .i32 y2] (0,0) _ hg Tryz.underlying52 rfl (by kernel_rfl);rw[results_cell_tmp h,hp,hu];simp[asAddr,Result.andThen,hl]
theorem ze9 (w:World)(g:Nat)(a b y1 y2:Value)(t:TypeId)(hg:w.heap[g]?=some (.cells #[a,b] t)):((w.setCell ⟨g,0,none⟩ y1).setCell ⟨g,1,none⟩ y2).heap[g]?=some (.cells #[y1,y2] t):=by
 have h1:=heap_setCell_same w g 0 #[a,b] t y1 hg;have h2:=heap_setCell_same _ g 1 _ t y2 h1;exact h2
theorem zhi (w:World)(v:Value)(l:List S.Sp)(r:Int)(R:S.Rd w v l)(N:S.Nf 0 l)(hl:l.length<=200) :
  Calls Tryz.prog 40 #[v,.int .i32 r] w fun e w'=>∃y:S.Sp,e= .returned (.tuple #[.agg #[.int .i32 y.1,.int .i32 y.2],.bool (S.memb l r)])/\(S.memb l r=true->y∈l/\y.1<=r/\r<=y.2)/\Below w.heap.size w w':=by
 obtain⟨aa,ca,rfl⟩:=R.len;obtain⟨W0,hW0⟩:∃W0,W0=((w.alloc (.cells #[.slice aa l.length ca] 22)).alloc (.cells #[.int .i32 r] 21)).alloc (.cells #[.int .i32 0,.int .i32 0] 52):=⟨_,rfl⟩;have hsize:W0.heap.size=w.heap.size+3:=by rw[hW0];simp
 have hbw:Below w.heap.size w W0:=by
  rw[hW0];exact(((qR w).alloc qN _).alloc (by simp) _).alloc (by simp;omega) _
 have x1:S.Bx W0 w.heap.size 22 (.slice aa l.length ca):=by
  rw[hW0];exact((S.Bx.new w _ _).below (B:=w.heap.size+1) ((qR _).alloc (by simp) _) (by omega)).below (B:=w.heap.size+1) ((qR _).alloc (by simp) _) (by omega)
 have x2:S.Bx W0 (w.heap.size+1) 21 (.int .i32 r):=by
  rw[hW0];have h:=S.Bx.new (w.alloc (.cells #[.slice aa l.length ca] 22)) 21 (.int .i32 r);rw[World.size_alloc] at h;exact h.below (B:=w.heap.size+2) ((qR _).alloc (by simp) _) (by omega)
 have x3:W0.heap[w.heap.size+2]?=some (.cells #[.int .i32 0,.int .i32 0] 52):=by
  rw[hW0];have h:((w.alloc (.cells #[.slice aa l.length ca] 22)).alloc (.cells #[.int .i32 r] 21)).heap.size=w.heap.size+2:=by simp
  rw[<- h];exact Array.getElem?_push_size
 have R0:S.Rd W0 (.slice aa l.length ca) l:=R.below hbw qN
 have hpm:∀a b,a<=b->b<l.length->decide (r<=(l[a]?.getD (0,0)).2)=true->decide (r<=(l[b]?.getD (0,0)).2)=true:=by
  intro a b hab hb h
  by_cases e:a=b
  ·subst e;exact h
  ·obtain⟨x,hx⟩:∃x,l[a]?=some x:=⟨l[a]'(by omega),by simp[show a<l.length by omega]⟩;obtain⟨y,hy⟩:∃y,l[b]?=some y:=⟨l[b],by simp[hb]⟩;have h1:=N.rise (show a<b by omega) hx hy;have h2:=N.mem (List.mem_of_getElem? hy);rw[hx] at h;rw[hy];simp at h ⊢;omega
 have eg:∀args w,(callFunc 53 args).run Tryz.prog w= .ok (.enter 53 args) w:=enters_of Tryz.func53 (by kernel_rfl) rfl
 have hS:=Any.sort_Search Tryz.search 53 #[.pointer (some ⟨w.heap.size,0,none⟩),.pointer (some ⟨w.heap.size+1,0,none⟩)] l.length (fun i=>decide (r<=(l[i]?.getD (0,0)).2)) W0 eg (by omega)
  (fun m os i hi=>by
   obtain⟨x,hx⟩:∃x,l[i]?=some x:=⟨l[i],by simp[hi]⟩;have hb:=below_grown_sl W0.heap.size W0 m os qN;have h:=zfz w.heap.size (w.heap.size+1) (.slice aa l.length ca) l r i x (grow (W0.drewN m) os) hx (R0.below hb qN) hl (x1.below hb (by omega)).cell (x2.below hb (by omega)).cell;rw[hx]
   exact h) hpm
 obtain⟨c,hcl,hce,hc1,hc2⟩:=zbd l.length (fun i=>decide (r<=(l[i]?.getD (0,0)).2)) hpm;rw[hce] at hS;change Calls Tryz.prog 52 _ _ _ at hS
 have hM:=zko (r:=r) (c:=c) N (fun i x hi hx=>by
  have:=hc1 i hi;rw[hx] at this;simp at this
  exact this)
 have hM4:∀x,l[c]?=some x->r<=x.2:=fun x hx=>by
  have:=hc2 c qN (qL.1 hx).1;rw[hx] at this;simpa using this
 have HM:Hid _:=hM;have HM4:Hid (∀x,l[c]?=some x->r<=x.2):=hM4;have HR0:Hid (S.Rd W0 (.slice aa l.length ca) l):=R0;have HX:Hid (S.Bx W0 w.heap.size 22 (.slice aa l.length ca)/\S.Bx W0 (w.heap.size+1) 21 (.int .i32 r)/\W0.heap[w.heap.size+2]?=some (.cells #[.int .i32 0,.int .i32 0] 52)/\Below w.heap.size w W0/\W0.heap.size=w.heap.size+3):=⟨x1,x2,x3,hbw,hsize⟩;clear hM hM4 R0 x1 x2 x3 hbw hsize hpm hce hc1 hc2 R;generalize hmm:S.memb l r=mm at *;clear hmm
 go_enter Tryz.func40,Tryz.ntmps40
 go_wp2_with fail
 rw[<- hW0];refine hS.mono ?_;clear hS hW0;rintro e W1 ⟨rfl,q,os,hW1⟩;have hb1:=below_grown_sl W0.heap.size W0 q os qN;rw[<- hW1] at hb1;clear hW1;obtain⟨x1,x2,x3,hbw,hsize⟩:=HX.out;have e1:=(x1.below hb1 (by omega)).cell;have e2:=(x2.below hb1 (by omega)).cell;have e3:W1.heap[w.heap.size+2]?=some (.cells #[.int .i32 0,.int .i32 0] 52):=by rw[hb1.block _ (by omega)];exact x3
 have hW1s:=hb1.size;have R1:S.Rd W1 (.slice aa l.length ca) l:=HR0.out.below hb1 qN;have BW:Hid (Below w.heap.size w W1):=hbw.trans (hb1.mono (by omega));have f1:W1.cell? ⟨w.heap.size+2,0,none⟩=some (.int .i32 0):=by simp[World.cell?,e3]
 have f2:W1.cell? ⟨w.heap.size+2,1,none⟩=some (.int .i32 0):=by simp[World.cell?,e3]
 have f3:W1.frozen? ⟨w.heap.size+2,0,none⟩=false:=by simp[World.frozen?,e3]
 have f4:W1.frozen? ⟨w.heap.size+2,1,none⟩=false:=by simp[World.frozen?,e3]
 have E3:Hid (W1.heap[w.heap.size+1+1]?=some (.cells #[.int .i32 0,.int .i32 0] 52)):=e3;clear x1 x2 x3 hb1 HX HR0 hbw hsize e3
 by_cases hcl2:c=l.length
 ·have h1:=HM.out.1 (by omega);subst h1;subst hcl2;clear R1;go_wp2
  go_quiet (fail)
  go_wp2
  (try simp only[Exit.inBlock,Exit.then])
  refine bodyPost_ret (zdv rfl _ _ (w.heap.size+1+1) 0 0 (.bool false) (ze9 (W1.drewN nq) (w.heap.size+1+1) _ _ _ _ 52 E3.out) rfl rfl) rfl ?_;exact⟨(0,0),rfl,fun h=>(by cases h),((below_drewN BW.out _).setCell (by show w.heap.size<=w.heap.size+1+1;omega) _).setCell (by show w.heap.size<=w.heap.size+1+1;omega) _⟩
 ·have hlt:c<l.length:=by omega
  obtain⟨ao',cap',he,_,hc⟩:=R1;simp only[Value.slice.injEq] at he;obtain⟨rfl,_,rfl⟩:=he;obtain⟨b,off,rfl,hcell⟩:=hc (by intro h;subst h;simp at hlt);obtain⟨x,hx⟩:∃x,l[c]?=some x:=⟨l[c],by simp[hlt]⟩;have c1:=(hcell c x hx).1;have c2:=(hcell c x hx).2;have hci:((c:Int)==(l.length:Int))=false:=by simp;omega
  have HX:Hid (l[c]?=some x):=hx;have hx2:=HM4.out x hx;obtain⟨y1,y2⟩:=x;simp only at c1 c2 hx2;have h1:=HM.out.2.1 _ hx;have h2:=HM.out.2.2 _ hx;simp only at h1 h2;clear hcell hc hx HM HM4 hcl2
  by_cases hlow:r<y1
  ·have:=h1 hlow;subst this;clear h1 h2;go_wp2
   go_quiet (fail)
   go_wp2
   (try simp only[Exit.inBlock,Exit.then])
   refine bodyPost_ret (zdv rfl _ _ (w.heap.size+1+1) 0 0 (.bool false) (ze9 (W1.drewN nq) (w.heap.size+1+1) _ _ _ _ 52 E3.out) rfl rfl) rfl ?_;exact⟨(0,0),rfl,fun h=>(by cases h),((below_drewN BW.out _).setCell (by show w.heap.size<=w.heap.size+1+1;omega) _).setCell (by show w.heap.size<=w.heap.size+1+1;omega) _⟩
  ·have:=h2 (by omega) hx2;subst this;clear h1 h2;go_wp2
   go_quiet (fail)
   go_wp2
   (try simp only[Exit.inBlock,Exit.then])
   refine bodyPost_ret (zdv rfl _ _ (w.heap.size+1+1) y1 y2 (.bool true) (ze9 (W1.drewN nq) (w.heap.size+1+1) _ _ _ _ 52 E3.out) rfl rfl) rfl ?_;exact⟨y1,y2,rfl,⟨List.mem_of_getElem? HX.out,by omega,by omega⟩,((below_drewN BW.out _).setCell (by show w.heap.size<=w.heap.size+1+1;omega) _).setCell (by show w.heap.size<=w.heap.size+1+1;omega) _⟩
theorem zd1 (w:World)(v:Value)(l:List S.Sp)(r:Int)(R:S.Rd w v l)(N:S.Nf 0 l)(hl:l.length<=200) :
  Calls Tryz.prog 27 #[v,.int .i32 r] w fun e w'=>e= .returned (.bool (S.memb l r))/\Below w.heap.size w w':=by
 have h:=zhi w v l r R N hl;obtain⟨aa,ca,rfl⟩:=R.len;clear R N;generalize S.memb l r=mm at *
 go_enter Tryz.func27,Tryz.ntmps27
 go_wp2_with fail
 refine h.mono ?_;clear h;rintro e w1 ⟨⟨y1,y2⟩,rfl,_,hb⟩;simp only;go_wp2;go_ret;exact⟨rfl,hb.alloc hb.size _⟩
end Go.Proofs.YtddiojckgjobmaaGreat
namespace Go.Proofs.YtddiojckgjobmaaGreat.K
open Go.Proofs.YtddiojckgjobmaaGreat.S
def headS (r:Rule):List Sp:=r.source.headD []
def firstsL (l:List Rule):List Sp:=l.flatMap headS
end Go.Proofs.YtddiojckgjobmaaGreat.K
