import Derived.Test.YtcadaallpiekiaaGreatDoorTAlnum
import Derived.Laws.Bits64b
import Derived.Laws.ResultCell
import Derived.Lib.MinMax
set_option maxHeartbeats 0
set_option maxRecDepth 20000
namespace Go.Proofs.YtcadaallpiekiaaGreatDoor
open Go.Proofs.Tryz
section
open Go.RowKit
theorem zdw (r:Int)(w:World) :
  Calls prog 49 #[.int .i32 r] w fun e w'=>e=.returned (.bool (M.right r))/\w'=w:=by
 go_enter func49,ntmps49
 go_wp2
 all_goals go_ret
 all_goals refine⟨L.zaj ?_,rfl⟩
 all_goals (unfold M.right;rw[Bool.eq_iff_iff];simp;try omega)
theorem zuq (w:World)(cb tb cap p:Nat)(ao:Option Addr)(l:List Int)(C:T.Cur w cb tb cap ao l p) :
  Calls prog 206 #[.pointer (some ⟨cb,0,none⟩)] w (T.Ends w cb tb cap ao l (T.esc l p) T.isRune):=by
 have hlen:=C.len;have HC:=qH C;clear C;obtain⟨o,HO⟩:∃o,Hid (T.esc l p=o):=⟨_,rfl⟩;rw[HO.out]
 go_enter func206,ntmps206
 go_wp2_with fail
 refine(zbq _ cb tb cap p ao l 117 HC.out).mono ?_;rintro e w1 ⟨rfl,b1⟩;have HC1:=qH<|HC.out.below b1;have HG1:Hid (w.grownBy w1 (some cb)):=S.zaf b1;clear b1
 by_cases h1:T.see l p=117
 ·go_wp2_with fail
  refine(zuf _ cb tb cap p ao l HC1.out h1).mono ?_;intro e w2 h;have ho:T.num l p=o:=by rw[<- HO.out];unfold T.esc;rw[if_pos h1]
  rw[ho] at h;cases o with
  | ok a q =>
   obtain⟨v,rfl,rfl,C2,g2⟩:=h;go_wp2;go_ret;exact⟨_,rfl,rfl,C2,S.zaa HG1.out g2⟩
  | bad er q =>
   obtain⟨rfl,g2⟩:=h;unfold T.thrown;go_wp2;exact⟨rfl,rfl,S.zaa HG1.out g2⟩
 ·go_wp2_with fail
  refine(zaq _ cb tb cap p ao l 110 (by decide) HC1.out).mono ?_;rintro e w2 ⟨rfl,C2,g2⟩;have HG2:=qH<|S.zaa HG1.out g2;clear g2
  by_cases h2:T.see l p=110
  ·rw[if_pos h2] at C2;go_wp2;go_ret;rw[<- HO.out];unfold T.esc;rw[if_neg h1,if_pos h2];exact⟨_,rfl,rfl,C2,HG2.out⟩
  ·rw[if_neg h2] at C2;have HC2:=qH C2;clear C2
   go_wp2_with fail
   refine(zaq _ cb tb cap p ao l 116 (by decide) HC2.out).mono ?_;rintro e w3 ⟨rfl,C3,g3⟩;have HG3:=qH<|S.zaa HG2.out g3;clear g3
   by_cases h3:T.see l p=116
   ·rw[if_pos h3] at C3;go_wp2;go_ret;rw[<- HO.out];unfold T.esc;rw[if_neg h1,if_neg h2,if_pos h3];exact⟨_,rfl,rfl,C3,HG3.out⟩
   ·rw[if_neg h3] at C3;have HC3:=qH C3;clear C3
    go_wp2_with fail
    refine(zd7 _ cb tb cap p ao l HC3.out).mono ?_;rintro e w4 ⟨rfl,b4⟩;have C4:=HC3.out.below b4;have c4:=C4.cell1;have HC4:=qH C4;have HG4:=qH<|S.zaa HG3.out (S.zaf b4);clear b4 C4
    by_cases h4:T.see l p= -1
    ·go_wp2_with (go_at_call 29;refine(zaw _ 2 p).mono ?_;unfold T.thrown;rintro e w5 ⟨rfl,rfl⟩)
     refine⟨rfl,?_⟩;rw[<- HO.out];unfold T.esc;rw[if_neg h1,if_neg h2,if_neg h3,if_pos (.inl h4)];exact⟨rfl,HG4.out⟩
    ·go_wp2_with fail
     refine(za6 _ cb tb cap p 0 ao l HC4.out (by omega)).mono ?_;rintro e w5 ⟨rfl,b5⟩;rw[Nat.add_zero];have C5:=HC4.out.below b5;have c5:=C5.cell1;have HC5:=qH C5;have HG5:=qH<|S.zaa HG4.out (S.zaf b5);clear b5 C5 c4
     go_wp2_with fail
     refine(zq4 _ _).mono ?_;rintro e w6 ⟨rfl,rfl⟩
     by_cases h5:T.alnum (T.see l p)=true
     ·go_wp2_with (go_at_call 29;refine(zaw _ 2 p).mono ?_;unfold T.thrown;rintro e w7 ⟨rfl,rfl⟩)
      refine⟨rfl,?_⟩;rw[<- HO.out];unfold T.esc;rw[if_neg h1,if_neg h2,if_neg h3,if_pos (.inr h5)];exact⟨rfl,HG5.out⟩
     ·go_wp2_with fail
      refine(zhf _ cb tb cap p ao l HC5.out (HC5.out.inside h4)).mono ?_;rintro e w7 ⟨rfl,C7,g7⟩;go_wp2;go_ret;rw[<- HO.out];unfold T.esc;rw[if_neg h1,if_neg h2,if_neg h3,if_neg (by simp[h4,h5])];exact⟨_,rfl,rfl,C7,S.zaa HG5.out g7⟩
theorem zlc (w:World)(cb tb cap p:Nat)(ao:Option Addr)(l:List Int)(C:T.Cur w cb tb cap ao l p) :
  Calls prog 187 #[.pointer (some ⟨cb,0,none⟩)] w (T.Ends w cb tb cap ao l (T.chr l p) T.isRune):=by
 have hlen:=C.len;have HC:=qH C;clear C;obtain⟨o,HO⟩:∃o,Hid (T.chr l p=o):=⟨_,rfl⟩;rw[HO.out]
 go_enter func187,ntmps187
 go_wp2_with fail
 refine(zaq _ cb tb cap p ao l 92 (by decide) HC.out).mono ?_;rintro e w1 ⟨rfl,C1,g1⟩;have HG1:=qH g1;clear g1
 by_cases h1:T.see l p=92
 ·rw[if_pos h1] at C1
  go_wp2_with fail
  refine(zuq _ cb tb cap (p+1) ao l C1).mono ?_;intro e w2 h;have ho:T.esc l (p+1)=o:=by rw[<- HO.out];unfold T.chr;rw[if_pos h1]
  rw[ho] at h;cases o with
  | ok a q =>
   obtain⟨v,rfl,rfl,C2,g2⟩:=h;go_wp2;go_ret;exact⟨_,rfl,rfl,C2,S.zaa HG1.out g2⟩
  | bad er q =>
   obtain⟨rfl,g2⟩:=h;unfold T.thrown;go_wp2;exact⟨rfl,rfl,S.zaa HG1.out g2⟩
 ·rw[if_neg h1] at C1
  go_wp2_with fail
  refine(zht _ cb tb cap p ao l C1).mono ?_;rintro e w2 ⟨rfl,b2⟩;have C2:=C1.below b2;have c2:=C2.cell1;have HC2:=qH C2;have HG2:=qH<|S.zaa HG1.out (S.zaf b2);clear C1 C2 b2
  by_cases h2:T.ordy (T.see l p)=true
  ·go_wp2_with fail
   refine(zhf _ cb tb cap p ao l HC2.out (HC2.out.inside (by intro h;rw[h] at h2;revert h2;decide))).mono ?_;rintro e w3 ⟨rfl,C3,g3⟩;go_wp2;go_ret;rw[<- HO.out];unfold T.chr;rw[if_neg h1,if_pos h2];exact⟨_,rfl,rfl,C3,S.zaa HG2.out g3⟩
  ·go_wp2_with (go_at_call 29;refine(zaw _ 2 p).mono ?_;unfold T.thrown;rintro e w3 ⟨rfl,rfl⟩)
   refine⟨rfl,?_⟩;rw[<- HO.out];unfold T.chr;rw[if_neg h1,if_neg h2];exact⟨rfl,HG2.out⟩
theorem zhp {fn:Func}{p:Tmp}(h:fn.results=#[.cell p 113])(tmps:Array Value)(w:World)(g:Nat)(y1 y2:Int)(hg:w.heap[g]?=some (.cells #[.int .i32 y1,.int .i32 y2] 113))
  (hp:tmps.getD p undef=.pointer (some ⟨g,0,none⟩)):(results fn tmps).run prog w=.ok (.agg #[.int .i32 y1,.int .i32 y2]) w:=by
 have hl:=run_loadVar_row (P:=prog) w g 113 113 #[.int .i32 y1,.int .i32 y2] (0,0) _ hg underlying113 rfl (by kernel_rfl)
 have e:(results fn tmps).run prog w=((asAddr (tmps.getD p undef)).run prog w).andThen fun a w₁ => (loadVar 113 a).run prog w₁ := by
  simp only[results,h];simp[Sem.run_bind,Result.andThen]
 rw[e,hp];simp[asAddr,Result.andThen,hl]
theorem zbl (r:Int)(w:World) :
  Calls prog 188 #[.int .i32 r] w fun e w'=>e=.returned (.agg #[.int .i32 r,.int .i32 r])/\Bl w w':=by
 go_enter func188,ntmps188
 go_wp2;refine bodyPost_ret (zhp rfl _ _ w.heap.size r r (heap_alloc_new w _) rfl) rfl ?_
 exact⟨rfl,(qR w).alloc qN _⟩
theorem zds (w:World)(g:Nat)(a b y1 y2:Value)(t:TypeId)(hg:w.heap[g]?=some (.cells #[a,b] t)):((w.setCell ⟨g,0,none⟩ y1).setCell ⟨g,1,none⟩ y2).heap[g]?=some (.cells #[y1,y2] t):=by
 have h1:=heap_setCell_same w g 0 #[a,b] t y1 hg;have h2:=heap_setCell_same _ g 1 _ t y2 h1;exact h2
theorem zch {w:World}{g:Nat}{a b:Value}{t:TypeId}(hg:w.heap[g]?=some (.cells #[a,b] t)):w.cell? ⟨g,0,none⟩=some a/\w.cell? ⟨g,1,none⟩=some b/\w.frozen? ⟨g,0,none⟩=false/\w.frozen? ⟨g,1,none⟩=false:=by
 refine⟨?_,?_,?_,?_⟩
 ·rw[World.cell?];simp[hg]
 ·rw[World.cell?];simp[hg]
 ·rw[World.frozen?];simp[hg]
 ·rw[World.frozen?];simp[hg]
theorem zqh {w w1:World}{g cb:Nat}(y1 y2:Value)(h:w.grownBy w1 (some cb))(hg:w.heap.size<=g):w.grownBy ((w1.setCell ⟨g,0,none⟩ y1).setCell ⟨g,1,none⟩ y2) (some cb):=by
 refine⟨h.os,h.tape,h.output,by simpa using h.size,fun k hk hne=> ?_⟩;rw[heap_setCell_other _ ⟨g,1,none⟩ k _ (fun e=>by simp at e;omega),heap_setCell_other _ ⟨g,0,none⟩ k _ (fun e=>by simp at e;omega)];exact h.block k hk hne
theorem T.Cur.two {w:World}{cb tb cap p:Nat}{ao:Option Addr}{l:List Int}(C:T.Cur w cb tb cap ao l p){g:Nat}(y1 y2:Value)(hne:g≠cb)(ht:l≠ []->g≠tb):T.Cur ((w.setCell ⟨g,0,none⟩ y1).setCell ⟨g,1,none⟩ y2) cb tb cap ao l p:=by
 refine⟨?_,C.txt,fun j z hj=> ?_,C.ne,C.le,C.len,C.cp,C.rt⟩
 ·obtain⟨t,hb⟩:=C.blk;exact⟨t,by rw[heap_setCell_other _ ⟨g,1,none⟩ cb _ (Ne.symm hne),heap_setCell_other _ ⟨g,0,none⟩ cb _ (Ne.symm hne)];exact hb⟩
 ·have hn:=ht (by intro h;subst h;simp at hj);rw[World.cell?_setCell_other _ _ _ _ (fun e=>hn (congrArg Addr.block e)),World.cell?_setCell_other _ _ _ _ (fun e=>hn (congrArg Addr.block e))];exact C.rd j z hj
theorem T.Cur.zou {w:World}{cb tb cap p:Nat}{ao:Option Addr}{l:List Int}(C:T.Cur w cb tb cap ao l p)(h:l≠ []):tb<w.heap.size:=by
 cases l with
 | nil=>exact absurd rfl h
 | cons z l=>exact L.block_lt (C.rd 0 z rfl)
def T.isSpan (x:S.Sp) (v:Value) (_:World):Prop:=v=.agg #[.int .i32 x.1,.int .i32 x.2]
theorem zrp (w:World)(cb tb cap p:Nat)(ao:Option Addr)(l:List Int)(C:T.Cur w cb tb cap ao l p) :
  Calls prog 168 #[.pointer (some ⟨cb,0,none⟩)] w (T.Ends w cb tb cap ao l (T.span l p) T.isSpan):=by
 have hlen:=C.len;have HC:=qH C;clear C;obtain⟨o,HO⟩:∃o,Hid (T.span l p=o):=⟨_,rfl⟩;rw[HO.out]
 go_enter func168,ntmps168
 go_wp2_with fail
 have bW:=(qR w).alloc qN (.cells #[.int .i32 0,.int .i32 0] 113);have hxW:(w.alloc (.cells #[.int .i32 0,.int .i32 0] 113)).heap[w.heap.size]?=some (.cells #[.int .i32 0,.int .i32 0] 113):=heap_alloc_new w _;have CW:=HC.out.below bW;have GW:w.grownBy _ (some cb):=S.zaf bW;have HNe:Hid (w.heap.size≠cb):=by have:=HC.out.lt;show _≠_;omega
 have HNt:Hid (l≠ []->w.heap.size≠tb):=fun h=>by have:=HC.out.zou h;omega
 refine(zlc _ cb tb cap p ao l CW).mono ?_;generalize w.alloc (.cells #[.int .i32 0,.int .i32 0] 113)=W0 at bW hxW CW GW;clear bW CW;intro e w1 h;cases hc:T.chr l p with
 | bad er q =>
  rw[hc] at h;obtain⟨rfl,g1⟩:=h;unfold T.thrown;go_wp2;refine⟨rfl,?_⟩;rw[<- HO.out];unfold T.span;rw[hc];exact⟨rfl,S.zaa GW g1⟩
 | ok lo q =>
  rw[hc] at h;obtain⟨v,rfl,rfl,C1,g1⟩:=h
  have HX1:Hid (w1.heap[w.heap.size]?=some (.cells #[.int .i32 0,.int .i32 0] 113)):=by
   show _=_;rw[g1.block _ (qA.1 hxW).1 (by simpa using HNe.out)];exact hxW
  have HG1:=qH<|S.zaa GW g1;have HHc:Hid _:=hc;clear hc g1 GW hxW
  go_wp2_with fail
  refine(zbq _ cb tb cap q ao l 45 C1).mono ?_;rintro e w2 ⟨rfl,b2⟩;have C2:=C1.below b2
  have HX2:Hid (w2.heap[w.heap.size]?=some (.cells #[.int .i32 0,.int .i32 0] 113)):=by
   show _=_;rw[b2.block _ (qA.1 HX1.out).1];exact HX1.out
  have HG2:=qH<|S.zaa HG1.out (S.zaf b2);clear C1 b2 HX1 HG1;have HC2:=qH C2;clear C2
  by_cases h1:T.see l q=45
  ·go_wp2_with fail
   refine(za6 _ cb tb cap q 1 ao l HC2.out (by omega)).mono ?_;rintro e w3 ⟨rfl,b3⟩;have C3:=HC2.out.below b3
   have HX3:Hid (w3.heap[w.heap.size]?=some (.cells #[.int .i32 0,.int .i32 0] 113)):=by
    show _=_;rw[b3.block _ (qA.1 HX2.out).1];exact HX2.out
   have HG3:=qH<|S.zaa HG2.out (S.zaf b3);clear b3 HX2 HG2;have HC3:=qH C3;clear C3
   by_cases h2:T.see l (q+1)=91
   ·go_wp2_with fail
    refine(zbl lo _).mono ?_;rintro e w4 ⟨rfl,b4⟩;have C4:=HC3.out.below b4;have HX4:w4.heap[w.heap.size]?=some (.cells #[.int .i32 0,.int .i32 0] 113):=by rw[b4.block _ (qA.1 HX3.out).1];exact HX3.out
    obtain⟨x0,x1,y0,y1⟩:=zch HX4;have HG4:=qH<|S.zaa HG3.out (S.zaf b4);have HX4':Hid _:=HX4;have HC4:=qH C4;clear b4 C4 HX4;go_wp2;refine bodyPost_ret (zhp rfl _ _ w.heap.size lo lo (zds w4 w.heap.size _ _ _ _ 113 HX4'.out) rfl) rfl ?_;rw[<- HO.out];unfold T.span;rw[HHc.out];simp only;rw[if_pos (.inr h2)];exact⟨_,rfl,rfl,HC4.out.two _ _ HNe.out HNt.out,zqh _ _ HG4.out qN⟩
   ·go_wp2_with fail
    refine(za0 _ cb tb cap q ao l 45 (by decide) HC3.out h1).mono ?_;rintro e w4 ⟨rfl,C4,g4⟩
    have HX4:Hid (w4.heap[w.heap.size]?=some (.cells #[.int .i32 0,.int .i32 0] 113)):=by
     show _=_;rw[g4.block _ (qA.1 HX3.out).1 (by simpa using HNe.out)];exact HX3.out
    have HG4:=qH<|S.zaa HG3.out g4;have c4:=C4.cell1;have HC4:=qH C4;clear g4 C4 HX3 HG3 HC3;have hq4:=HC4.out.le
    go_wp2_with fail
    refine(zlc _ cb tb cap (q+1) ao l HC4.out).mono ?_;intro e w5 h;cases hc:T.chr l (q+1) with
    | bad er r =>
     rw[hc] at h;obtain⟨rfl,g5⟩:=h;unfold T.thrown;go_wp2;refine⟨rfl,?_⟩;rw[<- HO.out];unfold T.span;rw[HHc.out];simp only;rw[if_neg (by simp[h1,h2]),hc];exact⟨rfl,S.zaa HG4.out g5⟩
    | ok hi r =>
     rw[hc] at h;obtain⟨v,rfl,rfl,C5,g5⟩:=h
     have HX5:w5.heap[w.heap.size]?=some (.cells #[.int .i32 0,.int .i32 0] 113):=by
      rw[g5.block _ (qA.1 HX4.out).1 (by simpa using HNe.out)];exact HX4.out
     obtain⟨x0,x1,y0,y1⟩:=zch HX5;have HG5:=qH<|S.zaa HG4.out g5;have HX5':Hid _:=HX5;have HC5:=qH C5;have HHd:Hid _:=hc;clear g5 C5 HX5 hc
     by_cases hlt:hi<lo
     ·go_wp2_with (go_at_call 29;refine(zaw _ 3 (q+1)).mono ?_;unfold T.thrown;rintro e w6 ⟨rfl,rfl⟩)
      refine⟨rfl,?_⟩;rw[<- HO.out];unfold T.span;rw[HHc.out];simp only;rw[if_neg (by simp[h1,h2]),HHd.out];simp only;rw[if_pos hlt];exact⟨rfl,HG5.out⟩
     ·go_wp2;refine bodyPost_ret (zhp rfl _ _ w.heap.size lo hi (zds w5 w.heap.size _ _ _ _ 113 HX5'.out) rfl) rfl ?_
      rw[<- HO.out];unfold T.span;rw[HHc.out];simp only;rw[if_neg (by simp[h1,h2]),HHd.out];simp only;rw[if_neg (by omega)];exact⟨_,rfl,rfl,HC5.out.two _ _ HNe.out HNt.out,zqh _ _ HG5.out qN⟩
  ·go_wp2_with fail
   refine(zbl lo _).mono ?_;rintro e w4 ⟨rfl,b4⟩;have C4:=HC2.out.below b4;have HX4:w4.heap[w.heap.size]?=some (.cells #[.int .i32 0,.int .i32 0] 113):=by rw[b4.block _ (qA.1 HX2.out).1];exact HX2.out
   obtain⟨x0,x1,y0,y1⟩:=zch HX4;have HG4:=qH<|S.zaa HG2.out (S.zaf b4);have HX4':Hid _:=HX4;have HC4:=qH C4;clear b4 C4 HX4;go_wp2;refine bodyPost_ret (zhp rfl _ _ w.heap.size lo lo (zds w4 w.heap.size _ _ _ _ 113 HX4'.out) rfl) rfl ?_;rw[<- HO.out];unfold T.span;rw[HHc.out];simp only;rw[if_pos (.inl h1)];exact⟨_,rfl,rfl,HC4.out.two _ _ HNe.out HNt.out,zqh _ _ HG4.out qN⟩
theorem zak (W:World)(b:Nat)(v:Value):W.grownBy (W.setCell ⟨b,0,none⟩ v) (some b):=⟨rfl,rfl,rfl,by simp,fun k _ hk=>heap_setCell_other W ⟨b,0,none⟩ k v (fun e=>hk (by simp[e]))⟩
theorem ze8 (W:World)(bn bs:Nat)(v:Value)(l:List S.Sp)(j:Nat)(r:Int)(hne:bn≠bs)(hv:l≠ []->v.ownBlock≠some bn)(R:S.Rd W v l)(N:S.Nf 0 l)(hj:j<=l.length)(hl:l.length<=200)
  (X:S.Bx W bn 3 (.int .i64 j)) (Y:S.Bx W bs 27 v) (hp:S.Past l j r) (h1:r<=1114111) :
  Calls prog 208 #[.int .i32 r,.pointer (some ⟨bn,0,none⟩),.pointer (some ⟨bs,0,none⟩)] W fun e w' =>
   ∃(last:Int) (j':Nat),e=.returned (.tuple #[.bool (S.memb l r),.int .i32 last])/\r<=last/\last<=1114111/\(∀q,r<=q->q<=last->S.memb l q=S.memb l r)/\j'<=l.length/\S.Bx w' bn 3 (.int .i64 j')/\S.Past l j' r/\W.grownBy w' (some bn):=by
 obtain⟨ao,cap,rfl,hn,hc⟩:=R;have HC:Hid _:=hc;have HX:=qH X;have HY:=qH Y;clear hc X Y
 go_enter func208,ntmps208
 go_wp2
 go_loopw [] (fun wr=>∃k:Nat,k<=l.length/\Hid (S.Bx wr bn 3 (.int .i64 k))/\Hid (S.Past l k r)/\Hid (W.grownBy wr (some bn))) (fun wr=>l.length-S.num wr bn)
 case atStart=>exact⟨j,hj,HX,hp,S.zat _ _⟩
 case round =>
  obtain⟨k,hk,HB,HP,HG⟩:=hrel;have e1:=HB.out.cell;have e2:=HB.out.free;have e3:=(HY.out.grown HG.out (by simp;omega)).cell;have hnum:=HB.out.num
  by_cases hlt:k<l.length
  ·obtain⟨b,off,rfl,hcell⟩:=HC.out (by intro h;subst h;simp at hlt);obtain⟨x,hx⟩:∃x,l[k]?=some x:=⟨l[k],by simp[hlt]⟩;have hb:b≠bn:=fun e=>hv (by intro h;subst h;simp at hlt) (by simp[Value.ownBlock,e])
   have cc:∀o u,W.cell? ⟨b,o,none⟩=some u->wr.cell? ⟨b,o,none⟩=some u:=fun o u hu=>by
    rw[World.cell?_of_block (a:=⟨b,o,none⟩) (HG.out.block b (L.block_lt hu) (by simpa using hb))];exact hu
   have c1:=cc _ _ (hcell k x hx).1;have c2:=cc _ _ (hcell k x hx).2;have hm:=N.mem (List.mem_of_getElem? hx);have HX:=qH hx;obtain⟨x1,x2⟩:=x;simp only at c1 c2 hm;clear hcell hx cc
   by_cases hlow:x2<r
   ·have HB2:Hid (S.Bx (wr.setCell ⟨bn,0,none⟩ (.int .i64 ((k:Int)+1))) bn 3 (.int .i64 (k+1:Nat))):=HB.out.set _;have HG2:Hid (W.grownBy (wr.setCell ⟨bn,0,none⟩ (.int .i64 ((k:Int)+1))) (some bn)):=S.zaa HG.out (zak _ _ _);go_wp2
    go_roundw
    case rel=>exact⟨k+1,by omega,HB2,HP.out.step HX.out hlow,HG2⟩
    case measure=>rw[HB2.out.num,hnum];omega
   ·by_cases hr:r<x1
    ·have HM:=qH<|S.zkz N HP.out HX.out (Int.le_refl _) hr;go_wp2
     go_quiet (fail)
     go_wp2
     go_ret2
     refine⟨x1-1,k,by rw[HM.out];rfl,by omega,by omega,fun q h2 h3=> ?_,hk,HB.out,HP.out,S.zaa HG.out (S.zaf (below_drewN (qR _) _))⟩;rw[HM.out];exact S.zkz N HP.out HX.out h2 (by simp only;omega)
    ·have HM:Hid (S.memb l r=true):=S.za9.2 ⟨_,List.mem_of_getElem? HX.out,by simp only;omega,by simp only;omega⟩;go_wp2
     go_quiet (fail)
     go_wp2
     go_ret2
     refine⟨x2,k,by rw[HM.out];rfl,by omega,by omega,fun q h2 h3=> ?_,hk,HB.out,HP.out,S.zaa HG.out (S.zaf (below_drewN (qR _) _))⟩;rw[HM.out];exact S.za9.2 ⟨_,List.mem_of_getElem? HX.out,by simp only;omega,by simp only;omega⟩
  ·have HM:Hid (∀q,r<=q->S.memb l q=false):=fun q hq=>S.zqn (by omega) HP.out hq
   have hkl:(k:Int)=l.length:=by omega
   go_wp2
   go_ret2
   refine⟨1114111,k,by rw[HM.out r (Int.le_refl _)];rfl,by omega,by omega,fun q h2 h3=> ?_,hk,HB.out,HP.out,HG.out⟩;rw[HM.out q h2,HM.out r (Int.le_refl _)]
theorem zdt (w:World)(ao:Option Addr)(n c:Nat) :
  Calls prog 190 #[.slice ao n c] w fun e w'=>e=.returned (.func (.func 208) #[] #[.pointer (some ⟨w.heap.size+1,0,none⟩),.pointer (some ⟨w.heap.size,0,none⟩)])/\Bl w w'/\w'.heap.size=w.heap.size+2/\S.Bx w' (w.heap.size+1) 3 (.int .i64 0)/\S.Bx w' w.heap.size 27 (.slice ao n c):=by
 go_enter func190,ntmps190
 go_wp2;go_ret
 have h1:Bl w (w.alloc (.cells #[.slice ao n c] 27)):=(qR w).alloc qN _;refine⟨rfl,h1.alloc (by simp) _,by simp,?_,?_⟩
 ·have:=S.Bx.new (w.alloc (.cells #[.slice ao n c] 27)) 3 (.int .i64 0);simpa using this
 ·exact(S.Bx.new w 27 (.slice ao n c)).below (B:=w.heap.size+1) ((qR _).alloc (by simp) _) (by omega)
theorem zqv (w:World)(b:Nat)(e1 e2:Int)(c1:w.cell? ⟨b,0,none⟩=some (.int .i64 e1))(c2:w.cell? ⟨b,1,none⟩=some (.int .i64 e2)) :
  Calls prog 189 #[.slice (some ⟨b,0,none⟩) 2 2] w fun e w'=>e=.returned (.int .i64 (if e1≠0 then e1 else e2))/\w'=w:=by
 by_cases h1:e1=0
 ·subst h1;simp only[ne_eq,not_true_eq_false,if_false]
  by_cases h2:e2=0
  ·subst h2
   go_enter func189,ntmps189
   go_wp2;refine wp_loop_rounds 3 ?_
   rw[rounds_succ];go_wp2;rw[rounds_succ];go_wp2;rw[rounds_succ];go_wp2;go_ret;exact⟨rfl,rfl⟩
  ·go_enter func189,ntmps189
   go_wp2;refine wp_loop_rounds 3 ?_
   rw[rounds_succ];go_wp2;rw[rounds_succ];go_wp2;go_ret;exact⟨rfl,rfl⟩
 ·rw[if_pos h1]
  go_enter func189,ntmps189
  go_wp2;refine wp_loop_rounds 3 ?_
  rw[rounds_succ];go_wp2;go_ret;exact⟨rfl,rfl⟩
theorem zcj (w:World)(a b:Value)(t:TypeId)(bl:Nat)(hb:bl=w.heap.size)(j:Nat)(u:Value)(h: [a,b][j]?=some u):(w.alloc (.cells #[a,b] t)).cell? ((⟨bl,0,none⟩:Addr).add j)=some u:=by
 subst hb;rw[L.addr_add]
 match j,h with
 | 0,h=>simp at h;subst h;rw[World.cell?_alloc_at _ _ _ _ (by simp)];rfl
 | 1,h=>simp at h;subst h;rw[World.cell?_alloc_at _ _ _ _ (by simp)];rfl
 | j+2,h=>simp at h
theorem cellsOf_set (m:List S.Sp)(p:S.Sp)(q:Int):(S.cellsOf (m++ [p])).set (m.length*2+1) (.int .i32 q)=S.cellsOf (m++ [(p.1,q)]):=by
 rw[S.zbo,S.zbo,List.set_append_right _ _ (by rw[S.zbn];omega),S.zbn];rw[show m.length*2+1-m.length*2=1 by omega];rfl
theorem zsm (w:World)(B:Nat)(v:Value)(s:List S.Sp)(x:S.Sp)(own:w.ownsRow B 113 2 v s.length (S.cellsOf s))(hB:B<=w.heap.size)(hs:∀p∈s,p.2<=1114111/\0<=p.2)(hl:s.length<=17592186044160)
  (hx: -2147483648<=x.1/\x.1<=2147483647/\ -2147483648<=x.2/\x.2<=2147483647) :
  Calls prog 191 #[v,.agg #[.int .i32 x.1,.int .i32 x.2]] w fun e w'=>∃v',e=.returned v'/\w'.ownsRow B 113 2 v' (S.joinF s x).length (S.cellsOf (S.joinF s x))/\w.grownBy w' v.ownBlock:=by
 obtain⟨x1,x2⟩:=x;simp only at hx ⊢;obtain⟨i0,hi,hz0,hz1,hz2⟩:=info_parts Tryz.infoSp
 have hv:∃ao cap,v=.slice ao s.length cap:=by
  rcases own.2 with ⟨h,h0⟩|⟨g,cap,cur,h,_⟩
  ·exact⟨none,0,by rw[h0,h]⟩
  ·exact⟨_,cap,h⟩
 obtain⟨ao,cap,rfl⟩:=hv;have OW:=qH own
 have CL:Hid (∀g,ao=some g->g=⟨g.block,0,none⟩/\∀j u,(S.cellsOf s)[j]?=some u->w.cell? ⟨g.block,j,none⟩=some u):=by
  intro g hg;subst hg;rcases own.2 with ⟨h,h0⟩|⟨g',cap',cur,h,_⟩
  ·cases h
  ·cases h;refine⟨rfl,fun j u hj=> ?_⟩;have:=own.cells (g:=g') rfl j u hj;rw[L.addr_add] at this;simpa using this
 clear own;rcases S.zed s with rfl|⟨m,p,rfl⟩
 ·rw[S.zfq]
  go_enter func191,ntmps191
  go_wp2
  go_quiet (fail)
  go_wp2_with (at_builtin;go_must (refine wpList_append_own _ rfl _ _ 27 rfl B 113 i0 (.agg #[.int .i32 0,.int .i32 0]) 2 8 underlying27 hi hz0 hz1 hz2 rfl (by decide) _ _ _ rfl ((S.zen (OW.out.alloc _) _).alloc _) ⟨w.heap.size+1,0,none⟩ 1 1 [.int .i32 x1,.int .i32 x2] rfl rfl (fun j u hj=>zcj _ _ _ _ _ (by simp) j u hj) (fun x hx=>by simp at hx;rcases hx with rfl|rfl <;> rfl) (by unfold maxLen;simp) (by simp) (by simp;omega) ?_;intro v' w3 hown' hgrow3 hnil3))
  go_ret;refine⟨v',rfl,by simpa [S.zbo,S.zbp,S.cellsOf_nil] using hown',?_⟩
  exact S.zaa (S.zaf (below_drewN ((qR w).alloc qN _) _)) (S.zaa (S.zaf ((qR _).alloc qN _)) hgrow3)
 ·rw[S.zep];obtain⟨p1,p2⟩:=p;have hp:=hs (p1,p2) (by simp);simp only at hp ⊢;cases ao with
  | none =>
   have:=OW.out.1;rcases OW.out.2 with ⟨_,h0⟩|⟨g,cap,cur,h,_⟩
   ·simp at h0
   ·cases h
  | some g =>
   obtain⟨hg,hcl⟩:=CL.out g rfl;obtain⟨gb,go,gv⟩:=g;simp only at hg hcl;cases hg;have hgl:m[m.length]?=none:=by simp
   have e1:(m++ [(p1,p2)])[m.length]?=some (p1,p2):=by simp
   have c2:=hcl _ _ (S.zct e1).2;simp only at c2;have hgb:=L.block_lt c2;have hne:gb≠w.heap.size:=by omega
   have hlen:(m++ [(p1,p2)]).length=m.length+1:=by simp
   generalize hN:(m++ [(p1,p2)]).length=N at *;subst hlen;have hx2:(m.length:Int)<(m.length:Int)+1:=by omega
   clear CL hcl e1 hgl;have HN:Hid _:=hN;clear hN;have OWa:Hid (∀o,(w.alloc o).ownsRow B 113 2 (.slice (some ⟨gb,0,none⟩) (m.length+1) cap) (m.length+1) (S.cellsOf (m++ [(p1,p2)]))):=fun o=>OW.out.alloc o
   have hg0:decide ((m.length:Int)<0)=false:=by simp
   by_cases hc:p2+1<x1
   ·rw[if_pos hc]
    go_enter func191,ntmps191
    go_wp2;have HQ:=S.boxed (wr:=w) (t:=113) (a:=.int .i32 x1) (b:=.int .i32 x2) (qR _)
    have OW1:=OWa.out (.cells #[.int .i32 x1,.int .i32 x2] 113);generalize w.alloc (.cells #[.int .i32 x1,.int .i32 x2] 113)=w1 at HQ OW1 ⊢;obtain⟨⟨d1,d2⟩,hold,hs1,hbl⟩:=HQ
    replace c2:=hold _ _ _ c2
    have HBL:=qH hbl;have hfz:w1.frozen? ⟨gb,m.length*2+1,none⟩=false:=World.ownsRow.frozenAt OW1 _
    replace OW1:Hid (w1.ownsRow B 113 2 (.slice (some ⟨gb,0,none⟩) (m.length+1) cap) (m.length+1) (S.cellsOf (m++ [(p1,p2)]))):=OW1
    clear hold hbl
    go_quiet (fail)
    go_wp2_with (at_builtin;go_must (refine wpList_append_own _ rfl _ _ 27 rfl B 113 i0 (.agg #[.int .i32 0,.int .i32 0]) 2 8 underlying27 hi hz0 hz1 hz2 rfl (by decide) _ _ _ rfl ((S.zen OW1.out _).alloc _) ⟨w1.heap.size,0,none⟩ 1 1 [.int .i32 x1,.int .i32 x2] rfl rfl (fun j u hj=>zcj _ _ _ _ _ (by simp) j u hj) (fun x hx=>by simp at hx;rcases hx with rfl|rfl <;> rfl) (by unfold maxLen;omega) (by omega) (by simp;omega) ?_;intro v' w3 hown' hgrow3 hnil3))
    go_ret;refine⟨v',rfl,by simpa [S.zbo,S.zbp,S.cellsOf_nil] using hown',?_⟩
    exact S.zaa (S.zaf (below_drewN HBL.out _)) (S.zaa (S.zaf ((qR _).alloc qN _)) hgrow3)
   ·rw[if_neg hc]
    go_enter func191,ntmps191
    go_wp2;have HQ:=S.boxed (wr:=w) (t:=113) (a:=.int .i32 x1) (b:=.int .i32 x2) (qR _)
    have OW1:=OWa.out (.cells #[.int .i32 x1,.int .i32 x2] 113);generalize w.alloc (.cells #[.int .i32 x1,.int .i32 x2] 113)=w1 at HQ OW1 ⊢;obtain⟨⟨d1,d2⟩,hold,hs1,hbl⟩:=HQ
    replace c2:=hold _ _ _ c2
    have HBL:=qH hbl;have hfz:w1.frozen? ⟨gb,m.length*2+1,none⟩=false:=World.ownsRow.frozenAt OW1 _
    replace OW1:Hid (w1.ownsRow B 113 2 (.slice (some ⟨gb,0,none⟩) (m.length+1) cap) (m.length+1) (S.cellsOf (m++ [(p1,p2)]))):=OW1
    clear hold hbl
    go_quiet (fail)
    go_wp2
    go_region
    have hst:=World.ownsRow.stored (S.zen OW1.out (nq+1)) (m.length*2+1) (.int .i32 (max p2 x2));rw[cellsOf_set] at hst;have HST:Hid _:=hst;clear hst;go_wp2;go_ret;refine⟨_,rfl,by simpa using HST.out.1,?_⟩;exact S.zaa (S.zaf (below_drewN HBL.out _)) HST.out.2
theorem zrl (w:World)(v:Value)(s:List S.Sp)(R:S.Rd w v s)(hl:s.length<=4611686018427387903) :
  Calls prog 192 #[v] w fun e w'=>∃v',e=.returned (.tuple #[v',.int .i64 (S.fewE s)])/\S.Rd w' v' (S.fewL s)/\w'=w/\(v'=v∨v'=.slice none 0 0):=by
 have R0:=R;obtain⟨ao,cap,rfl,hn,hc⟩:=R;have HR:Hid _:=R0;clear hc R0;unfold S.fewE S.fewL
 by_cases hbig:200<s.length
 ·rw[if_pos hbig,if_pos hbig]
  go_enter func192,ntmps192
  go_wp2
  go_ret2
  exact⟨_,rfl,S.Rd.nil w,rfl,.inr rfl⟩
 ·rw[if_neg hbig,if_neg hbig]
  go_enter func192,ntmps192
  go_wp2
  go_ret2
  exact⟨_,rfl,HR.out,rfl,.inl rfl⟩
