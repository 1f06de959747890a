import Derived.Test.YtcadaallpiekiaaGreatDoorMWrong
import Derived.Shelf.SlSorted.Search
import Derived.Ground.SlsoProg
import Derived.Deep.RegionWith
set_option maxHeartbeats 0
set_option maxRecDepth 20000
set_option linter.unusedSimpArgs false
set_option linter.unusedVariables false
namespace Go.Proofs.YtcadaallpiekiaaGreatDoor
open Go.Proofs.Tryz
section
open Go.RowKit
theorem zek (w:World)(v:Value)(l:List K.Rule)(R0:V.Rus w v l) :
  Calls prog 102 #[v] w fun e w'=>e=.returned (.agg #[.int .i64 (K.rulesF l).1,.int .i64 (K.rulesF l).2])/\Bl w w':=by
 have HR:=qH R0;have hfew:=R0.few;obtain⟨ao,cap,rfl⟩:=R0.len;clear R0;have HA:=qH<|fun o=>(qR w).alloc qN o
 unfold K.rulesF
 by_cases hbig:200<l.length
 ·rw[if_pos hbig]
  go_enter func102,ntmps102
  go_wp2;refine bodyPost_ret (v:=.agg #[.int .i64 5,.int .i64 0]) (by simp[results,results102,go_sem]) rfl ?_
  exact⟨rfl,HA.out _⟩
 ·rw[if_neg hbig];obtain⟨⟨o1,o2⟩,HO⟩:∃o,Hid (K.firstR 0 l=o):=⟨_,rfl⟩;rw[HO.out]
  go_enter func102,ntmps102
  go_wp2
  go_loopw [12] (fun i wr=>∃k:Nat,k<=l.length/\i=.int .i64 k/\Hid (K.firstR k (l.drop k)=(o1,o2))/\Hid (Bl w wr)/\Hid (wr.heap[w.heap.size]?=some (.cells #[.int .i64 0,.int .i64 0] 36))) (fun i _=>l.length-(intOf i).toNat)
  case atStart=>exact⟨0,Nat.zero_le _,rfl,HO,HA.out _,heap_alloc_new w _⟩
  case round =>
   obtain⟨k,hk,rfl,HE,HB,HX⟩:=hrel;have hX:=HX.out
   by_cases hlt:k<l.length
   ·obtain⟨p,hp⟩:∃x,l[k]?=some x:=⟨l[k],by simp[hlt]⟩;obtain⟨ao',cap',e',_,hcs⟩:=HR.out.below HB.out;cases e';obtain⟨b,off,rfl,hcell⟩:=hcs (by intro h;subst h;simp at hlt);obtain⟨bo,bc,so,sc,ao,ac,tgo,tc,c0,c1,c2,c3,c4,c5,c6,hP⟩:=hcell k p hp;have HE2:=qH<|K.zfx hp;have hsz:=HB.out.size;have HW:=qH<|fun o=>zni _ _ p (V.zgn hP (R.Keeps.alloc wr o))
    obtain⟨z,HZ⟩:∃z,Hid (K.ruleE p=z):=⟨_,rfl⟩;rw[HZ.out] at HW HE2;clear hp hcell hcs hP hX;obtain⟨st,fi,be,sou,af,ta,cu⟩:=p;simp only at c0 c1 c2 c3 c4 c5 c6 HW
    go_wp2_with fail
    refine(HW.out _).mono ?_;rintro e w1 ⟨rfl,b1⟩;obtain⟨_,B1,hl1⟩:=K.zau b1
    have hX1:w1.heap[w.heap.size]?=some (.cells #[.int .i64 0,.int .i64 0] 36):=by
     rw[B1.block _ (qA.1 HX.out).1];exact HX.out
    have HB1:=qH<|HB.out.trans (B1.mono hsz);have HX1:Hid _:=hX1;obtain⟨x0,x1,f0,f1⟩:=K.box2 hX1;clear b1 B1 hX1
    by_cases hz:z=0
    ·subst hz;go_wp2
     go_roundw
     case rel=>exact⟨k+1,by omega,by go_num,by show _=_;rw[<- HE.out,HE2.out];simp,HB1,HX1⟩
     case measure=>simp[intOf];omega
    ·go_wp2;refine bodyPost_ret (v:=.agg #[.int .i64 z,.int .i64 k]) (by simp[results,results102,go_sem, *]) rfl ?_
     have h:=HE2.out;rw[HE.out,if_neg hz] at h;cases h;exact⟨rfl,(HB1.out.setCell (p:=⟨w.heap.size,0,none⟩) qN _).setCell (p:=⟨w.heap.size,1,none⟩) qN _⟩
   ·obtain⟨x0,x1,f0,f1⟩:=K.box2 hX;have h:=HE.out;rw[List.drop_eq_nil_of_le (by omega)] at h;cases h;go_wp2;refine bodyPost_ret (v:=.agg #[.int .i64 0,.int .i64 0]) (by simp[results,results102,go_sem, *]) rfl ?_;exact⟨rfl,(HB.out.setCell (p:=⟨w.heap.size,0,none⟩) qN _).setCell (p:=⟨w.heap.size,1,none⟩) qN _⟩
end
section
open Go.RowKit Go.Shelf
namespace K
theorem Rus.rule {w:World}{ao:Option Addr}{n cap:Nat}{l:List Rule}(h:V.Rus w (.slice ao n cap) l){j:Nat}{p:Rule}(hp:l[j]?=some p) :
  ∃b off bo bc so sc ao2 ac tgo tc,ao=some ⟨b,off,none⟩ /\
   w.cell? ⟨b,off+j*7,none⟩=some (.bool p.start)/\w.cell? ⟨b,off+j*7+1,none⟩=some (.bool p.fin)/\w.cell? ⟨b,off+j*7+2,none⟩=some (.slice bo p.before.length bc)/\w.cell? ⟨b,off+j*7+3,none⟩=some (.slice so p.source.length sc)/\w.cell? ⟨b,off+j*7+4,none⟩=some (.slice ao2 p.after.length ac)/\w.cell? ⟨b,off+j*7+5,none⟩=some (.slice tgo p.target.length tc)/\w.cell? ⟨b,off+j*7+6,none⟩=some (.int .i64 p.cursor) /\
   RuIs w (.agg #[.bool p.start,.bool p.fin,.slice bo p.before.length bc,.slice so p.source.length sc,.slice ao2 p.after.length ac,.slice tgo p.target.length tc,.int .i64 p.cursor]) p:=by
 obtain⟨ao',cap',e',_,hcs⟩:=h;cases e';obtain⟨b,off,rfl,hcell⟩:=hcs (by intro h;subst h;simp at hp);obtain⟨bo,bc,so,sc,ao,ac,tgo,tc,h⟩:=hcell j p hp;exact⟨b,off,bo,bc,so,sc,ao,ac,tgo,tc,rfl,h⟩
theorem zfs {r:Rule}{s:List S.Sp}(h:r.source[0]?=some s):headS r=s:=by
 unfold headS;cases hq:r.source with
 | nil=>rw[hq] at h;simp at h
 | cons y l=>rw[hq] at h;simpa using h
theorem zcb {r:Rule}(h:ruleE r=0):S.Nf 0 (headS r)/\(headS r).length<=200:=by
 obtain⟨_,h2,_,h4,_⟩:=zas h;obtain⟨s,hs⟩:∃s,r.source[0]?=some s:=⟨r.source[0],by simp⟩;rw[zfs hs];exact h2.2 s (List.mem_of_getElem? hs)
end K
end
end Go.Proofs.YtcadaallpiekiaaGreatDoor
namespace Go.Proofs
open Go.Shelf Go.RowKit Go.Lib Go.Sort
shelf_lay SlLaysO.n16 Slso 16 at Tryz as Tryz.search
end Go.Proofs
namespace Go.Proofs.YtcadaallpiekiaaGreatDoor
open Go.Proofs.Tryz
section
open Go.RowKit Go.Lib Go.Sort
theorem zcg (n:Nat)(p:Nat->Bool)(hm:∀a b,a<=b->b<n->p a=true->p b=true):∃c,c<=n/\(List.range n).countP (fun i=> !p i)=c/\(∀i,i<c->p i=false)/\(∀i,c<=i->i<n->p i=true):=by
 induction n with
 | zero=>exact⟨0,qN,by simp,fun i h=>by omega,fun i h1 h2=>by omega⟩
 | succ n ih =>
  obtain⟨c,h1,h2,h3,h4⟩:=ih fun a b hab hb h=>hm a b hab (by omega) h
  rw[List.range_succ,List.countP_append,h2];cases hp:p n with
  | true=>exact⟨c,by omega,by simp[hp],h3,fun i ha hb=>by
    by_cases e:i=n
    ·subst e;exact hp
    ·exact h4 i ha (by omega)⟩
  | false =>
   have hc:c=n:=by
    by_cases e:c=n
    ·exact e
    ·have:=hm c n h1 (by omega) (h4 c qN (by omega));rw[hp] at this;cases this
   subst hc
   exact⟨c+1,qN,by simp[hp],fun i hi=>by
    by_cases e:i=c
    ·subst e;exact hp
    ·exact h3 i (by omega),fun i ha hb=>by omega⟩
theorem zli (ba bx:Nat)(v:Value)(l:List S.Sp)(r:Int)(i:Nat)(x:S.Sp)(W:World)(hx:l[i]?=some x)(R:S.Rd W v l)(hl:l.length<=200)
  (ha:W.cell? ⟨ba,0,none⟩=some v) (hr:W.cell? ⟨bx,0,none⟩=some (.int .i32 r)) :
  Calls prog 126 (#[.int .i64 i]++#[.pointer (some ⟨ba,0,none⟩),.pointer (some ⟨bx,0,none⟩)]) W fun e w'=>e=.returned (.bool (decide (r<=x.2)))/\∃q os,w'=grow (W.drewN q) os:=by
 obtain⟨ao,cap,rfl,hn,hc⟩:=R;have hlt:=(qL.1 hx).1;obtain⟨b,off,rfl,hcell⟩:=hc (by intro h;subst h;simp at hx);have c2:=(hcell i x hx).2;have hiz:(i:Int)<(l.length:Int):=by omega
 obtain⟨x1,x2⟩:=x;simp only at c2 ⊢;clear hcell hc hx
 go_enter func126,ntmps126
 go_wp2
 go_quiet (fail)
 go_wp2;go_ret
 exact⟨rfl,_,#[],by rw[grow_empty]⟩
theorem zuk {l:List S.Sp}{r:Int}{c:Nat}(N:S.Nf 0 l)(h1:∀i x,i<c->l[i]?=some x->x.2<r) :
  (l.length<=c->S.memb l r=false)/\(∀x,l[c]?=some x->r<x.1->S.memb l r=false)/\(∀x,l[c]?=some x->x.1<=r->r<=x.2->S.memb l r=true) :=
 ⟨fun h=>S.zqn h h1 (Int.le_refl _),fun _ hx h=>S.zkz N h1 hx (Int.le_refl _) h,fun x hx h2 h3=>S.za9.2 ⟨x,List.mem_of_getElem? hx,h2,h3⟩⟩
theorem zho {fn:Func}{p u:Tmp}(h:fn.results=#[.cell p 113,.tmp u])(tmps:Array Value)(w:World)(g:Nat)(y1 y2:Int)(bv:Value)(hg:w.heap[g]?=some (.cells #[.int .i32 y1,.int .i32 y2] 113))
  (hp:tmps.getD p undef=.pointer (some ⟨g,0,none⟩)) (hu:tmps.getD u undef=bv):(results fn tmps).run prog w=.ok (.tuple #[.agg #[.int .i32 y1,.int .i32 y2],bv]) w:=by
 have hl:=run_loadVar_row (P:=prog) w g 113 113 #[.int .i32 y1,.int .i32 y2] (0,0) _ hg underlying113 rfl (by kernel_rfl);rw[results_cell_tmp h,hp,hu];simp[asAddr,Result.andThen,hl]
theorem zjy (w:World)(g:Nat)(a b y1 y2:Value)(t:TypeId)(hg:w.heap[g]?=some (.cells #[a,b] t)):((w.setCell ⟨g,0,none⟩ y1).setCell ⟨g,1,none⟩ y2).heap[g]?=some (.cells #[y1,y2] t):=by
 have h1:=heap_setCell_same w g 0 #[a,b] t y1 hg;have h2:=heap_setCell_same _ g 1 _ t y2 h1;exact h2
theorem zn4 (w:World)(v:Value)(l:List S.Sp)(r:Int)(R:S.Rd w v l)(N:S.Nf 0 l)(hl:l.length<=200) :
  Calls prog 106 #[v,.int .i32 r] w fun e w'=>∃y:S.Sp,e=.returned (.tuple #[.agg #[.int .i32 y.1,.int .i32 y.2],.bool (S.memb l r)])/\(S.memb l r=true->y∈l/\y.1<=r/\r<=y.2)/\Bl w w':=by
 obtain⟨aa,ca,rfl⟩:=R.len;obtain⟨W0,hW0⟩:=qE (((w.alloc (.cells #[.slice aa l.length ca] 27)).alloc (.cells #[.int .i32 r] 21)).alloc (.cells #[.int .i32 0,.int .i32 0] 113));have hsize:W0.heap.size=w.heap.size+3:=by rw[hW0];simp
 have hbw:Bl w W0:=by
  rw[hW0];exact(((qR w).alloc qN _).alloc (by simp) _).alloc (by simp;omega) _
 have x1:S.Bx W0 w.heap.size 27 (.slice aa l.length ca):=by
  rw[hW0];exact((S.Bx.new w _ _).below (B:=w.heap.size+1) ((qR _).alloc (by simp) _) (by omega)).below (B:=w.heap.size+1) ((qR _).alloc (by simp) _) (by omega)
 have x2:S.Bx W0 (w.heap.size+1) 21 (.int .i32 r):=by
  rw[hW0];have h:=S.Bx.new (w.alloc (.cells #[.slice aa l.length ca] 27)) 21 (.int .i32 r);rw[World.size_alloc] at h;exact h.below (B:=w.heap.size+2) ((qR _).alloc (by simp) _) (by omega)
 have x3:W0.heap[w.heap.size+2]?=some (.cells #[.int .i32 0,.int .i32 0] 113):=by
  rw[hW0];have h:((w.alloc (.cells #[.slice aa l.length ca] 27)).alloc (.cells #[.int .i32 r] 21)).heap.size=w.heap.size+2:=by simp
  rw[<- h];exact Array.getElem?_push_size
 have R0:=R.below hbw qN
 have hpm:∀a b,a<=b->b<l.length->decide (r<=(l[a]?.getD (0,0)).2)=true->decide (r<=(l[b]?.getD (0,0)).2)=true:=by
  intro a b hab hb h
  by_cases e:a=b
  ·subst e;exact h
  ·obtain⟨x,hx⟩:∃x,l[a]?=some x:=⟨l[a]'(by omega),by simp[show a<l.length by omega]⟩;obtain⟨y,hy⟩:∃y,l[b]?=some y:=⟨l[b],by simp[hb]⟩;have h1:=N.rise (show a<b by omega) hx hy;have h2:=N.mem (List.mem_of_getElem? hy);rw[hx] at h;rw[hy];simp at h ⊢;omega
 have eg:∀args w,(callFunc 126 args).run prog w=.ok (.enter 126 args) w:=enters_of func126 (by kernel_rfl) rfl
 have hS:=Any.sort_Search Tryz.search 126 #[.pointer (some ⟨w.heap.size,0,none⟩),.pointer (some ⟨w.heap.size+1,0,none⟩)] l.length (fun i=>decide (r<=(l[i]?.getD (0,0)).2)) W0 eg (by omega)
  (fun m os i hi=>by
   obtain⟨x,hx⟩:∃x,l[i]?=some x:=⟨l[i],by simp[hi]⟩;have hb:=below_grown_sl W0.heap.size W0 m os qN;have h:=zli w.heap.size (w.heap.size+1) (.slice aa l.length ca) l r i x (grow (W0.drewN m) os) hx (R0.below hb qN) hl (x1.below hb (by omega)).cell (x2.below hb (by omega)).cell;rw[hx]
   exact h) hpm
 obtain⟨c,hcl,hce,hc1,hc2⟩:=zcg l.length (fun i=>decide (r<=(l[i]?.getD (0,0)).2)) hpm;rw[hce] at hS;change Calls prog 125 _ _ _ at hS
 have hM:=zuk (r:=r) (c:=c) N (fun i x hi hx=>by
  have:=hc1 i hi;rw[hx] at this;simp at this
  exact this)
 have hM4:∀x,l[c]?=some x->r<=x.2:=fun x hx=>by
  have:=hc2 c qN (qL.1 hx).1;rw[hx] at this;simpa using this
 have HM:Hid _:=hM;have HM4:=qH hM4;have HR0:=qH R0;have HX:Hid (S.Bx W0 w.heap.size 27 (.slice aa l.length ca)/\S.Bx W0 (w.heap.size+1) 21 (.int .i32 r)/\W0.heap[w.heap.size+2]?=some (.cells #[.int .i32 0,.int .i32 0] 113)/\Bl w W0/\W0.heap.size=w.heap.size+3):=⟨x1,x2,x3,hbw,hsize⟩;clear hM hM4 R0 x1 x2 x3 hbw hsize hpm hce hc1 hc2 R;generalize hmm:S.memb l r=mm at *;clear hmm
 go_enter func106,ntmps106
 go_wp2_with fail
 rw[<- hW0];refine hS.mono ?_;clear hS hW0;rintro e W1 ⟨rfl,q,os,hW1⟩;have hb1:=below_grown_sl W0.heap.size W0 q os qN;rw[<- hW1] at hb1;clear hW1;obtain⟨x1,x2,x3,hbw,hsize⟩:=HX.out;have e1:=(x1.below hb1 (by omega)).cell;have e2:=(x2.below hb1 (by omega)).cell;have e3:W1.heap[w.heap.size+2]?=some (.cells #[.int .i32 0,.int .i32 0] 113):=by rw[hb1.block _ (by omega)];exact x3
 have hW1s:=hb1.size;have R1:=HR0.out.below hb1 qN;have BW:=qH<|hbw.trans (hb1.mono (by omega));have f1:W1.cell? ⟨w.heap.size+2,0,none⟩=some (.int .i32 0):=by simp[World.cell?,e3]
 have f2:W1.cell? ⟨w.heap.size+2,1,none⟩=some (.int .i32 0):=by simp[World.cell?,e3]
 have f3:W1.frozen? ⟨w.heap.size+2,0,none⟩=false:=by simp[World.frozen?,e3]
 have f4:W1.frozen? ⟨w.heap.size+2,1,none⟩=false:=by simp[World.frozen?,e3]
 have E3:Hid (W1.heap[w.heap.size+1+1]?=some (.cells #[.int .i32 0,.int .i32 0] 113)):=e3;clear x1 x2 x3 hb1 HX HR0 hbw hsize e3
 by_cases hcl2:c=l.length
 ·have h1:=HM.out.1 (by omega);subst h1;subst hcl2;clear R1;go_wp2
  go_quiet (fail)
  go_wp2
  (try simp only[Exit.inBlock,Exit.then])
  refine bodyPost_ret (zho rfl _ _ (w.heap.size+1+1) 0 0 (.bool false) (zjy (W1.drewN nq) (w.heap.size+1+1) _ _ _ _ 113 E3.out) rfl rfl) rfl ?_;exact⟨(0,0),rfl,fun h=>(by cases h),((below_drewN BW.out _).setCell (by show w.heap.size<=w.heap.size+1+1;omega) _).setCell (by show w.heap.size<=w.heap.size+1+1;omega) _⟩
 ·have hlt:c<l.length:=by omega
  obtain⟨ao',cap',he,_,hc⟩:=R1;simp only[Value.slice.injEq] at he;obtain⟨rfl,_,rfl⟩:=he;obtain⟨b,off,rfl,hcell⟩:=hc (by intro h;subst h;simp at hlt);obtain⟨x,hx⟩:∃x,l[c]?=some x:=⟨l[c],by simp[hlt]⟩;have c1:=(hcell c x hx).1;have c2:=(hcell c x hx).2;have hci:((c:Int)==(l.length:Int))=false:=by simp;omega
  have HX:=qH hx;have hx2:=HM4.out x hx;obtain⟨y1,y2⟩:=x;simp only at c1 c2 hx2;have h1:=HM.out.2.1 _ hx;have h2:=HM.out.2.2 _ hx;simp only at h1 h2;clear hcell hc hx HM HM4 hcl2
  by_cases hlow:r<y1
  ·have:=h1 hlow;subst this;clear h1 h2;go_wp2
   go_quiet (fail)
   go_wp2
   (try simp only[Exit.inBlock,Exit.then])
   refine bodyPost_ret (zho rfl _ _ (w.heap.size+1+1) 0 0 (.bool false) (zjy (W1.drewN nq) (w.heap.size+1+1) _ _ _ _ 113 E3.out) rfl rfl) rfl ?_;exact⟨(0,0),rfl,fun h=>(by cases h),((below_drewN BW.out _).setCell (by show w.heap.size<=w.heap.size+1+1;omega) _).setCell (by show w.heap.size<=w.heap.size+1+1;omega) _⟩
  ·have:=h2 (by omega) hx2;subst this;clear h1 h2;go_wp2
   go_quiet (fail)
   go_wp2
   (try simp only[Exit.inBlock,Exit.then])
   refine bodyPost_ret (zho rfl _ _ (w.heap.size+1+1) y1 y2 (.bool true) (zjy (W1.drewN nq) (w.heap.size+1+1) _ _ _ _ 113 E3.out) rfl rfl) rfl ?_;exact⟨y1,y2,rfl,⟨List.mem_of_getElem? HX.out,by omega,by omega⟩,((below_drewN BW.out _).setCell (by show w.heap.size<=w.heap.size+1+1;omega) _).setCell (by show w.heap.size<=w.heap.size+1+1;omega) _⟩
theorem zkw (w:World)(v:Value)(l:List S.Sp)(r:Int)(R:S.Rd w v l)(N:S.Nf 0 l)(hl:l.length<=200) :
  Calls prog 79 #[v,.int .i32 r] w fun e w'=>e=.returned (.bool (S.memb l r))/\Bl w w':=by
 have h:=zn4 w v l r R N hl;obtain⟨aa,ca,rfl⟩:=R.len;clear R N;generalize S.memb l r=mm at *
 go_enter func79,ntmps79
 go_wp2_with fail
 refine h.mono ?_;clear h;rintro e w1 ⟨⟨y1,y2⟩,rfl,_,hb⟩;simp only;go_wp2;go_ret;exact⟨rfl,hb.alloc hb.size _⟩
end
section
open Go.RowKit Go.Shelf
theorem Tryz.infoIntJ:(prog.info? 3).map (fun i=>(i.zero,i.size,i.bytes))=some (some (.int .i64 0),1,8):=by kernel_rfl
namespace J
def which (f:K.Rule->Bool):Nat->List K.Rule->List Int
 | _,[]=> []
 | i,r::l=>(if f r then [(i:Int)] else [])++which f (i+1) l
theorem zh7 (f:K.Rule->Bool)(a b:List K.Rule):∀i,which f i (a++b)=which f i a++which f (i+a.length) b:=by
 induction a with
 | nil=>intro i;simp[which]
 | cons x a ih=>intro i;simp only[List.cons_append,which,ih,List.append_assoc,List.length_cons];rw[show i+1+a.length=i+(a.length+1) by omega]
theorem zgc {f:K.Rule->Bool}{l:List K.Rule}{k:Nat}{r:K.Rule}(h:l[k]?=some r):which f 0 (l.take (k+1))=which f 0 (l.take k)++(if f r then [(k:Int)] else []):=by
 have hk:=(qL.1 h).1;rw[List.take_add_one,h,zh7];simp[which,Nat.min_eq_left (Nat.le_of_lt hk)]
theorem zcv (f:K.Rule->Bool)(l:List K.Rule):∀i,(which f i l).length<=l.length:=by
 induction l with
 | nil=>intro i;simp[which]
 | cons x l ih =>
  intro i;have:=ih (i+1);simp only[which,List.length_append,List.length_cons];split <;> simp <;> omega
end J
theorem zkt (w:World)(va:Value)(r:K.Rule)(low:Int)(bx:Nat)(Ra:K.RuIs w va r)(hr:K.ruleE r=0)(hc:w.heap[bx]?=some (.cells #[.int .i32 low] 21)) :
  Calls prog 210 (#[va]++#[.pointer (some ⟨bx,0,none⟩)]) w fun e w'=>e=.returned (.bool (S.memb (K.headS r) low))/\Bl w w':=by
 have hbl:=(qA.1 hc).1;have x0:∀o,(w.alloc o).cell? ⟨bx,0,none⟩=some (.int .i32 low):=fun o=>K.zai (K.zad (i:=0) hc rfl) o
 obtain⟨s,hs⟩:∃s,r.source[0]?=some s:=⟨r.source[0]'(K.zas hr).2.2.2.1,by simp⟩;have hok:=K.zcb hr;rw[K.zfs hs] at hok ⊢;obtain⟨bo,bc,so,sc,ao,ac,tt,tc,rfl,_,hS,_⟩:=Ra;have hsl:=(K.zas hr).2.2.2.1;obtain⟨gb,go,s2,c2,rfl,hc0,hr0,_⟩:=hS.at hs;rw[Nat.add_zero] at hc0;have hcc:=fun o=>K.zai hc0 o
 have HH:Hid (∀o W,Below (w.alloc o).heap.size (w.alloc o) W->Calls prog 79 #[.slice s2 s.length c2,.int .i32 low] W fun e w'=>e=.returned (.bool (S.memb s low))/\Bl w w'):=fun o W hW=>by
  have hB:=((qR w).alloc qN o).trans (hW.mono (by simp));exact(zkw W _ s low (hr0.below hB qN) hok.1 hok.2).mono fun e w' ⟨h1,h2⟩=>⟨h1,hB.trans (h2.mono hB.size)⟩
 clear hc hs hok hS hr0 hc0 hr;show Calls prog 210 #[_,.pointer (some ⟨bx,0,none⟩)] w _
 go_enter func210,ntmps210
 go_wp2_with fail
 go_region_with (go_at_call 79;refine(HH.out _ _ (by first|exact qR _|exact(qR _).drew)).mono ?_;rintro e w1 ⟨rfl,z1⟩)
 all_goals go_wp2
 all_goals go_ret
 all_goals exact⟨rfl,by assumption⟩
theorem znk (w:World)(v:Value)(l:List K.Rule)(R0:V.Rus w v l)(hl:l.length<=200)(g:Nat)(cb:Array Value)(P:K.Rule->Bool)(eg:∀args w,(callFunc g args).run prog w=.ok (.enter g args) w)
  (hh:∀W r u,Bl w W->r∈l->K.RuIs W u r->Calls prog g (#[u]++cb) W fun e w'=>e=.returned (.bool (P r))/\Bl W w') :
  Calls prog 211 #[v,.func (.func g) #[] cb] w fun e w'=>∃v',e=.returned v'/\w'.ownsRow w.heap.size 3 1 v' (J.which P 0 l).length ((J.which P 0 l).map (Value.int .i64))/\Bl w w':=by
 have HR:=qH R0;obtain⟨i0,hi,hz0,hz1,hz2⟩:=info_parts Tryz.infoIntJ;obtain⟨ao,cap,rfl⟩:=R0.len;have HF:=qH hh;clear R0 hh
 go_enter func211,ntmps211
 go_wp2_with fail
 go_loopw [5,10] (fun vo i wr=>∃k:Nat,k<=l.length/\i=.int .i64 k/\Hid (wr.ownsRow w.heap.size 3 1 vo (J.which P 0 (l.take k)).length ((J.which P 0 (l.take k)).map (Value.int .i64))/\Bl w wr)) (fun _ i _=>l.length-(RowKit.intOf i).toNat)
 case atStart=>exact⟨0,Nat.zero_le _,rfl,World.ownsRow_nil _ _ _ _,qR _⟩
 case round =>
  obtain⟨k,hk,rfl,HO⟩:=hrel;have hwr:=HO.out.2.size
  by_cases hlt:k<l.length
  ·obtain⟨p,hp⟩:∃x,l[k]?=some x:=⟨l[k],by simp[hlt]⟩;obtain⟨ba,oa,bo,bc,so,sc,ao2,ac,tt,tc,rfl,a0,a1,a2,a3,a4,a5,a6,hP⟩:=K.Rus.rule (HR.out.below HO.out.2) hp;have HT:Hid (J.which P 0 (l.take (k+1))=J.which P 0 (l.take k)++(if P p then [(k:Int)] else [])):=J.zgc hp
   have HC:Hid (∀o,Calls prog g (#[.agg #[.bool p.start,.bool p.fin,.slice bo p.before.length bc,.slice so p.source.length sc,.slice ao2 p.after.length ac,.slice tt p.target.length tc,.int .i64 p.cursor]]++cb) (wr.alloc o) fun e w'=>e=.returned (.bool (P p))/\(w'.ownsRow w.heap.size 3 1 u5 (J.which P 0 (l.take k)).length ((J.which P 0 (l.take k)).map (Value.int .i64))/\Bl w w')):=fun o=>by
    have hB:=(qR wr).alloc qN o;refine(HF.out (wr.alloc o) p _ (HO.out.2.trans (hB.mono hwr)) (List.mem_of_getElem? hp) (hP.below hB)).mono fun e w' ⟨h1,h2⟩=>⟨h1,L.zby (HO.out.1.alloc o) h2 qN,?_⟩
    exact(HO.out.2.trans (hB.mono hwr)).trans (h2.mono (by simp;omega))
   have hlen:=J.zcv P (l.take k) 0;rw[List.length_take] at hlen;generalize hZ:P p=z at HT HC;clear hp hP hZ;obtain⟨st,fi,be,sou,af,ta,cu⟩:=p;simp only at a0 a1 a2 a3 a4 a5 a6 HC;generalize hU:J.which P 0 (l.take k)=U at HT HC hlen;clear hU HO
   go_wp2_with fail
   refine(HC.out _).mono ?_;rintro e w3 ⟨rfl,own3,b3⟩;have HO3:=qH own3;have HB3:=qH b3;have hw3:=b3.size
   have hblk:Hid (∀g,u5.ownBlock=some g->w.heap.size<=g):=fun g hg=>by
    obtain⟨_,⟨rfl,_⟩|⟨g',cap',cur',rfl,hb',_⟩⟩:=own3
    ·cases hg
    ·cases hg;exact hb'
   clear own3 b3 a0 a1 a2 a3 a4 a5 a6 HC;cases z with
   | false =>
    go_wp2
    go_roundw
    case rel =>
     refine⟨k+1,by omega,by go_num,?_⟩;rw[HT.out,if_neg (by decide),List.append_nil];exact⟨HO3.out,HB3.out⟩
    case measure=>simp[RowKit.intOf];omega
   | true =>
    go_wp2_with (at_builtin;go_must (refine wpList_append_own _ rfl _ _ 88 rfl w.heap.size 3 i0 (.int .i64 0) 1 8 underlying88 hi hz0 hz1 hz2 rfl (by decide) _ _ _ rfl (HO3.out.alloc _) ⟨w3.heap.size,0,none⟩ 1 1 [.int .i64 (k:Int)] rfl rfl (cell_one_new _ _ _) (fun x hx=>by simp at hx;subst hx;rfl) (by unfold maxLen;omega) (by omega) (by simp;omega) ?_;intro v' w4 hown' hgrow4 hnil4))
    have HX4:Hid (w4.ownsRow w.heap.size 3 1 v' (U.length+1) (U.map (Value.int .i64)++ [.int .i64 (k:Int)])/\Bl w w4):=⟨hown',Below.grown (HB3.out.alloc hw3 _) hgrow4 (by simp;omega) (fun j hj=>hblk.out j hj)⟩
    go_roundw
    case rel =>
     refine⟨k+1,by omega,by go_num,?_⟩;rw[HT.out,if_pos trivial,List.length_append,List.map_append];exact HX4.out
    case measure=>simp[RowKit.intOf];omega
  ·have hke:k=l.length:=by omega
   subst hke;rw[List.take_length] at HO;go_wp2;go_ret;exact⟨_,rfl,HO.out⟩
theorem Tryz.infoHead:(prog.info? 154).map (fun i=>(i.zero,i.size,i.bytes))=some (some (.agg #[.int .i32 0,.int .i32 0,.slice none 0 0]),3,32):=by kernel_rfl
namespace J
abbrev Hd:=Int×Int×List Int
def cells (ps:List (Hd×Value)):List Value:=ps.flatMap fun p=> [.int .i32 p.1.1,.int .i32 p.1.2.1,p.2]
theorem zc1 (a b:List (Hd×Value)):cells (a++b)=cells a++cells b:=by simp[cells]
theorem zez (a:List (Hd×Value)):(cells a).length=a.length*3:=by
 induction a with
 | nil=>rfl
 | cons x a ih=>unfold cells at ih ⊢;rw[List.flatMap_cons,List.length_append,ih];simp;omega
def Own (F:Nat) (w:World) (v:Value) (hs:List Hd):Prop :=
 ∃ps:List (Hd×Value),ps.map (·.1)=hs/\w.ownsRow F 154 3 v hs.length (cells ps)/\∀p∈ps,w.ownsRow F 3 1 p.2 p.1.2.2.length (p.1.2.2.map (Value.int .i64))
theorem Own.nil (F:Nat)(w:World):Own F w (.slice none 0 0) []:=⟨[],rfl,World.ownsRow_nil _ _ _ _,fun p hp=>by cases hp⟩
theorem Own.below {F:Nat}{w w':World}{v:Value}{hs:List Hd}(h:Own F w v hs)(hb:Bl w w'):Own F w' v hs:=by
 obtain⟨ps,h1,h2,h3⟩:=h;exact⟨ps,h1,L.zby h2 hb qN,fun p hp=>L.zby (h3 p hp) hb qN⟩
theorem Own.base {F F':Nat}{w:World}{v:Value}{hs:List Hd}(h:Own F w v hs)(hf:F'<=F):Own F' w v hs:=by
 obtain⟨ps,h1,h2,h3⟩:=h;exact⟨ps,h1,L.zbj h2 hf,fun p hp=>L.zbj (h3 p hp) hf⟩
theorem kept {F:Nat}{e:TypeId}{k:Nat}{w w':World}{v:Value}{n:Nat}{xs:List Value}(h:w.ownsRow F e k v n xs)(hb:∀g,F<=g->w'.heap[g]?=w.heap[g]?):w'.ownsRow F e k v n xs:=by
 obtain⟨h1,h2⟩:=h;refine⟨h1,?_⟩;rcases h2 with h2|⟨g,cap,cur,hv,hg,hx,r⟩
 ·exact .inl h2
 ·exact .inr ⟨g,cap,cur,hv,hg,by rw[hb g hg];exact hx,r⟩
theorem Own.kept {F:Nat}{w w':World}{v:Value}{hs:List Hd}(h:Own F w v hs)(hb:∀g,F<=g->w'.heap[g]?=w.heap[g]?):Own F w' v hs:=by
 obtain⟨ps,h1,h2,h3⟩:=h;exact⟨ps,h1,J.kept h2 hb,fun p hp=>J.kept (h3 p hp) hb⟩
theorem three (W:World)(a b:Int)(r:Value):∀j u,([Value.int .i32 a,.int .i32 b,r]:List Value)[j]?=some u->(W.alloc (.cells #[.int .i32 a,.int .i32 b,r] 154)).cell? ((⟨W.heap.size,0,none⟩:Addr).add j)=some u:=by
 intro j u hj
 have e:(W.alloc (.cells #[.int .i32 a,.int .i32 b,r] 154)).heap[W.heap.size]?=some (.cells #[.int .i32 a,.int .i32 b,r] 154):=by
  show (W.heap.push _)[W.heap.size]?=_;exact Array.getElem?_push_size
 rw[L.addr_add,Nat.zero_add]
 match j,hj with
 | 0,hj=>exact K.zad e (by simpa using hj)
 | 1,hj=>exact K.zad e (by simpa using hj)
 | 2,hj=>exact K.zad e (by simpa using hj)
 | n+3,hj=>simp at hj
theorem one_cell {F:Nat}{e:TypeId}{k:Nat}{w:World}{v:Value}{n:Nat}{xs:List Value}(h:w.ownsRow F e k v n xs):v.oneCell'=true:=by
 obtain⟨_,⟨rfl,_⟩|⟨g,cap,cur,rfl,_⟩⟩:=h <;> rfl
theorem Own.push {F:Nat}{w0 w:World}{v:Value}{hs:List Hd}(h:Own F w v hs)(hB:Below F w0 w)(hF:F<=w.heap.size)(hl:hs.length<=2000000)(a b:Int)(rs:List Int)(r:Value)(hr:w.ownsRow F 3 1 r rs.length (rs.map (Value.int .i64))) :
  ∃v' w',(Builtin.append_ #[123,123] 123 #[v,.slice (some ⟨w.heap.size,0,none⟩) 1 1]).run prog (w.alloc (.cells #[.int .i32 a,.int .i32 b,r] 154))=.ok v' w'/\Own F w' v' (hs++ [(a,b,rs)])/\Below F w0 w':=by
 obtain⟨i0,hi,hz0,hz1,hz2⟩:=info_parts Tryz.infoHead;obtain⟨ps,h1,h2,h3⟩:=h
 obtain⟨v',w',hrun,own,gr,_⟩:=run_append_own (P:=prog) (w.alloc (.cells #[.int .i32 a,.int .i32 b,r] 154)) F 123 123 154 i0 _ 3 32 underlying123 hi hz0 hz1 hz2 rfl (by decide) v hs.length (cells ps) (h2.alloc _) ⟨w.heap.size,0,none⟩ 1 1 [.int .i32 a,.int .i32 b,r] rfl (three w a b r)
  (fun u hu=>by simp at hu;rcases hu with rfl|rfl|rfl;rfl;rfl;exact one_cell hr) (by unfold maxLen;omega) (by omega) (by simp;omega)
 refine⟨v',w',hrun,⟨ps++ [((a,b,rs),r)],by simp[h1],?_,fun p hp=> ?_⟩,L.zm4 hB h2 qN hF gr⟩
 ·rw[zc1,List.length_append];exact own
 ·rcases List.mem_append.1 hp with hp|hp
  ·exact L.zel h2 (h3 p hp) (by decide) gr
  ·simp at hp;subst hp;exact L.zel h2 hr (by decide) gr
theorem za7 {t:TypeId}{ops:Array Oper}{o:Oper}{a:Act}{w:World}{K:Act->World->Prop}{Q:Exit->Act->World->Prop}{E:Prop}(hgd:o.guard=none)(s x:Operand)
  (ho:o.op=.call { callee:=.builtin .append,args:=#[s,x],argTypes:=#[t,t] }) (v vx v':Value) (w':World) (hs:a.eval s=v) (hx:a.eval x=vx)
  (hrun:(Builtin.append_ #[t,t] o.type #[v,vx]).run prog w=.ok v' w') (h:K (a.put o.dst v') w') :
  if Region.wanted o (yielded ops a.tmps)=true then Oper.wp prog o a w K Q else E:=by
 have hw:Region.wanted o (yielded ops a.tmps)=true:=by simp[Region.wanted,hgd]
 rw[if_pos hw];unfold Oper.wp;simp[execOp,ho,resolve,invoke,builtin,hs,hx,hrun,Result.andThen];exact h
def begins (l:List K.Rule) (q:Int):List Int:=which (fun r=>S.memb (K.headS r) q) 0 l
def headAt (f:Int->List Int) (c:List Int) (k:Nat):Hd:=(c.getD k 0,c.getD (k+1) 0-1,f (c.getD k 0))
def heads (f:Int->List Int) (c:List Int) (n:Nat):List Hd:=(List.range n).map (headAt f c)
theorem zeq (f:Int->List Int)(c:List Int)(n:Nat):heads f c (n+1)=heads f c n++ [headAt f c n]:=by simp[heads,List.range_succ]
theorem zbk (f:Int->List Int)(c:List Int)(n:Nat):(heads f c n).length=n:=by simp[heads]
end J
