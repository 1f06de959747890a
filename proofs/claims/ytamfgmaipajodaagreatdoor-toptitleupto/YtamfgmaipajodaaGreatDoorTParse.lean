/-
 What sets.Wrong and the document's Wrong answer of any spans.
-/
import Derived.Test.YtamfgmaipajodaaGreatDoorRows
import Derived.Test.YtamfgmaipajodaaGreatDoorSLib
import Derived.Deep.QuietTactic
import Derived.BigQuiet
import Derived.Test.YtamfgmaipajodaaGreatDoorRStay
import Derived.RegionTactic
import Derived.Shelf.Lay
import Derived.Shelf.Small.Utf8
import Derived.Shelf.Small.Strs
import Derived.Shelf.Strings.Search1
import Derived.Shelf.Strings.Runes
import Derived.Lib.OthersKept
import Derived.WalkMore
import Derived.Test.YtamfgmaipajodaaGreatDoorRName
import Derived.Lib.ConvBytes
import Derived.Lib.AtoiErrMem
set_option maxHeartbeats 0
namespace Go.Proofs.YtamfgmaipajodaaGreatDoor
open Go.RowKit
theorem zcx (w:World)(x:S.Sp) :
  Calls Tryz.prog 116 #[.agg #[.int .i32 x.1,.int .i32 x.2]] w fun e w'=>e= .returned (.bool (S.bad x))/\Below w.heap.size w w':=by
 obtain⟨x1,x2⟩:=x;unfold S.bad
 by_cases h1:x1<0
 ·go_enter Tryz.func116,Tryz.ntmps116
  go_wp2;go_ret
  exact⟨by simp[h1],(qR w).alloc qN _⟩
 ·by_cases h2:1114111<x2
  ·go_enter Tryz.func116,Tryz.ntmps116
   go_wp2;go_ret
   exact⟨by simp,(qR w).alloc qN _⟩
  ·by_cases h3:x2<x1
   ·go_enter Tryz.func116,Tryz.ntmps116
    go_wp2;go_ret
    exact⟨by simp,(qR w).alloc qN _⟩
   ·go_enter Tryz.func116,Tryz.ntmps116
    go_wp2;go_ret
    exact⟨by simp[h1,h2,h3],(qR w).alloc qN _⟩
theorem zee {l:List S.Sp}{k:Nat}{x:S.Sp}{b:Int}(hx:l[k]?=some x):S.wgo b (l.drop k)=if S.bad x=true then 3 else if x.1<b then 2 else S.wgo (x.2+2) (l.drop (k+1)):=by
 have hlt:=(qL.1 hx).1;rw[List.drop_eq_getElem_cons hlt];have:l[k]=x:=by rw[List.getElem?_eq_getElem hlt] at hx;exact Option.some.inj hx
 rw[this];rfl
theorem zbq (w:World)(v:Value)(l:List S.Sp)(R:S.Rd w v l)(hf:S.Fit l) :
  Calls Tryz.prog 64 #[v] w fun e w'=>e= .returned (.int .i64 (S.wrongE l))/\Below w.heap.size w w':=by
 obtain⟨ao,cap,rfl,hn,hc⟩:=R;unfold S.wrongE
 by_cases hbig:200<l.length
 ·rw[if_pos hbig]
  go_enter Tryz.func64,Tryz.ntmps64
  go_wp2;go_ret
  exact⟨rfl,qR w⟩
 ·rw[if_neg hbig]
  go_enter Tryz.func64,Tryz.ntmps64
  go_wp2
  go_loopw [10] (fun i wr=>∃k:Nat,k<=l.length/\i= .int .i64 k/\Hid (∃b,S.wgo 0 l=S.wgo b (l.drop k)/\(k=0->b=0)/\∀p,0<k->l[k-1]?=some p->b=p.2+2/\p.2<=1114111)/\Hid (Below w.heap.size w wr)) (fun i _=>l.length - (intOf i).toNat)
  case atStart=>exact⟨0,Nat.zero_le _,rfl,⟨0,by simp,fun _=>rfl,fun p h=>absurd h (Nat.lt_irrefl _)⟩,qR w⟩
  case round =>
   obtain⟨k,hk,rfl,HW,HB⟩:=hrel
   by_cases hlt:k<l.length
   ·obtain⟨b,off,rfl,hcell⟩:=hc (by intro h;subst h;simp at hlt);obtain⟨x,hx⟩:∃x,l[k]?=some x:=⟨l[k],by simp[hlt]⟩;have c0:=hcell k x hx;have hb:=L.block_lt c0.1;have cc:∀o,wr.cell? ⟨b,o,none⟩=w.cell? ⟨b,o,none⟩:=fun o=>HB.out.cell (p:=⟨b,o,none⟩) hb
    have c1:=c0.1;have c2:=c0.2;rw[<- cc] at c1 c2;have HX:Hid (l[k]?=some x):=hx;have fx:=hf.at hx;have hsz:=HB.out.size;obtain⟨x1,x2⟩:=x;simp only at c1 c2 fx;clear c0 hx;cases hbad:S.bad (x1,x2) with
    | true =>
     have HR:Hid (S.bad (x1,x2)=true):=hbad;clear hbad cc hcell hc
     go_wp2_with (go_at_call 116;go_must (refine(zcx _ (x1,x2)).mono ?_;rintro e w1 ⟨rfl,HB1⟩;rw[HR.out]))
     go_ret;obtain⟨bb,he,_⟩:=HW.out
     refine⟨?_,?_⟩
     ·rw[he,zee HX.out,HR.out];rfl
     ·exact(HB.out.alloc hsz _).trans (HB1.mono (by simp;omega))
    | false =>
     have HR:Hid (S.bad (x1,x2)=false):=hbad;have hok:=S.bad_false.1 hbad;simp only at hok;clear hbad;cases k with
     | zero =>
      clear cc hcell hc;simp only[Nat.zero_mul,Nat.add_zero] at c1 c2
      go_wp2_with (go_at_call 116;go_must (refine(zcx _ (x1,x2)).mono ?_;rintro e w1 ⟨rfl,HB1⟩;rw[HR.out]))
      obtain⟨⟨d1,d2⟩,_,hs1,hb1⟩:=S.boxed HB1;have HB2:Hid (Below w.heap.size w w1):=HB.out.trans (hb1.mono hsz);clear HB1 hb1
      go_quiet (fail)
      go_wp2
      go_roundw
      case rel =>
       obtain⟨bb,he,h0,_⟩:=HW.out;refine⟨1,by omega,by go_num,⟨x2+2,?_,fun h=>by omega,fun p _ hp=> ?_⟩,below_drewN HB2.out _⟩
       ·rw[he,zee HX.out,HR.out,h0 trivial,if_neg (by simp),if_neg (by simp;omega)]
       ·have h1:=HX.out;rw[hp] at h1;cases h1;exact⟨rfl,by omega⟩
      case measure=>simp[intOf];omega
     | succ m =>
      obtain⟨p,hp⟩:∃p,l[m]?=some p:=⟨l[m]'(by omega),by simp[show m<l.length by omega]⟩;have c3:=(hcell m p hp).2;rw[<- cc] at c3;have fp:=hf.at hp;have HP:Hid (l[m]?=some p):=hp;obtain⟨p1,p2⟩:=p;simp only at c3 fp;clear cc hcell hc hp
      go_wp2_with (go_at_call 116;go_must (refine(zcx _ (x1,x2)).mono ?_;rintro e w1 ⟨rfl,HB1⟩;rw[HR.out]))
      obtain⟨⟨d1,d2⟩,hold,hs1,hb1⟩:=S.boxed HB1
      replace c3:=hold _ _ _ c3
      have HB2:Hid (Below w.heap.size w w1):=HB.out.trans (hb1.mono hsz);obtain⟨bb,he,_,hpp⟩:=HW.out;obtain⟨rfl,hp2⟩:=hpp _ (Nat.succ_pos _) HP.out;simp only at hp2;have HE:Hid (S.wgo 0 l=S.wgo (p2+2) (l.drop (m+1))):=he;clear HB1 hb1 hold he hpp HW
      by_cases hlow:x1<p2+2
      ·go_quiet (fail)
       go_wp2;go_ret
       refine⟨?_,below_drewN HB2.out _⟩;rw[HE.out,zee HX.out,HR.out,if_neg (by simp),if_pos hlow];rfl
      ·go_quiet (fail)
       go_wp2
       go_roundw
       case rel =>
        refine⟨m+1+1,by omega,by go_num,⟨x2+2,?_,fun h=>by omega,fun p _ hp=> ?_⟩,below_drewN HB2.out _⟩
        ·rw[HE.out,zee HX.out,HR.out,if_neg (by simp),if_neg hlow]
        ·have h1:=HX.out;have hp:l[m+1]?=some p:=hp;rw[hp] at h1;cases h1;exact⟨rfl,by omega⟩
       case measure=>simp[intOf];omega
   ·go_wp2;go_ret
    refine⟨?_,HB.out⟩;obtain⟨b,he,_⟩:=HW.out;rw[he,List.drop_eq_nil_of_le (by omega)];rfl
end Go.Proofs.YtamfgmaipajodaaGreatDoor
namespace Go.Proofs.YtamfgmaipajodaaGreatDoor
open Go.RowKit
structure T.Cur (w:World) (cb tb cap:Nat) (ao:Option Addr) (l:List Int) (p:Nat):Prop where
 blk:∃ty,w.heap[cb]?=some (.cells #[.slice ao l.length cap,.int .i64 p] ty)
 txt:l≠ []->ao=some ⟨tb,0,none⟩
 rd:∀j z,l[j]?=some z->w.cell? ⟨tb,j,none⟩=some (.int .i32 z)
 ne:tb≠cb
 le:p<=l.length
 len:l.length<=16000
 cp:l.length<=cap
 rt:∀z∈l,M.right z=true
namespace T.Cur
variable {w w':World} {cb tb cap p:Nat} {ao:Option Addr} {l:List Int}
theorem cell0 (h:T.Cur w cb tb cap ao l p):w.cell? ⟨cb,0,none⟩=some (.slice ao l.length cap):=by obtain⟨_,hb⟩:=h.blk;rw[World.cell?];simp[hb]
theorem cell1 (h:T.Cur w cb tb cap ao l p):w.cell? ⟨cb,1,none⟩=some (.int .i64 p):=by obtain⟨_,hb⟩:=h.blk;rw[World.cell?];simp[hb]
theorem frz1 (h:T.Cur w cb tb cap ao l p):w.frozen? ⟨cb,1,none⟩=false:=by obtain⟨_,hb⟩:=h.blk;rw[World.frozen?];simp[hb]
theorem lt (h:T.Cur w cb tb cap ao l p):cb<w.heap.size:=by obtain⟨_,hb⟩:=h.blk;exact(qA.1 hb).1
theorem drewN (h:T.Cur w cb tb cap ao l p)(k:Nat):T.Cur (w.drewN k) cb tb cap ao l p:=⟨h.blk,h.txt,h.rd,h.ne,h.le,h.len,h.cp,h.rt⟩
theorem kept (h:T.Cur w cb tb cap ao l p)(hg:w.grownBy w' none):T.Cur w' cb tb cap ao l p :=
 ⟨by obtain⟨t,hb⟩:=h.blk;exact⟨t,by rw[hg.block cb h.lt (by simp)];exact hb⟩,h.txt,fun j z hj=>by
  have h1:=h.rd j z hj
  rw[World.cell?_of_block (a:=⟨tb,j,none⟩) (hg.block tb (L.block_lt h1) (by simp))];exact h1,h.ne,h.le,h.len,h.cp,h.rt⟩
theorem below (h:T.Cur w cb tb cap ao l p)(hb:Below w.heap.size w w'):T.Cur w' cb tb cap ao l p:=h.kept (S.zad hb)
theorem set (h:T.Cur w cb tb cap ao l p){q:Nat}(hq:q<=l.length):T.Cur (w.setCell ⟨cb,1,none⟩ (.int .i64 q)) cb tb cap ao l q:=by
 refine⟨?_,h.txt,fun j z hj=> ?_,h.ne,hq,h.len,h.cp,h.rt⟩
 ·obtain⟨t,hb⟩:=h.blk;exact⟨t,by simp[World.setCell,Array.getElem?_modify,hb]⟩
 ·rw[World.cell?_setCell_other _ _ _ _ (by simp[Ne.symm h.ne])];exact h.rd j z hj
theorem zok (h:T.Cur w cb tb cap ao l p)(q:Nat):T.see l q= -1∨M.right (T.see l q)=true:=by
 by_cases hq:q<l.length
 ·exact .inr (h.rt _ (List.mem_of_getElem? (T.zeb hq)))
 ·exact .inl (T.zfu (by omega))
theorem inside (_:T.Cur w cb tb cap ao l p)(hs:T.see l p≠ -1):p<l.length:=by
 apply Classical.byContradiction;intro hn;exact hs (T.zfu (by omega))
end T.Cur
def T.pos (w:World) (b:Nat):Nat:=(intOf ((w.cell? ⟨b,1,none⟩).getD undef)).toNat
theorem T.Cur.pos {w:World}{cb tb cap p:Nat}{ao:Option Addr}{l:List Int}(h:T.Cur w cb tb cap ao l p):T.pos w cb=p:=by
 unfold T.pos;rw[h.cell1];simp[intOf]
theorem zcs (w:World)(b:Nat)(j:Nat)(v:Value):w.grownBy (w.setCell ⟨b,j,none⟩ v) (some b) :=
 ⟨rfl,rfl,rfl,by simp,fun k _ hk=>heap_setCell_other w ⟨b,j,none⟩ k v (fun e=>hk (by simp[e]))⟩
theorem zbx (w:World)(k:Nat)(r:Option Nat):w.grownBy (w.drewN k) r:=⟨rfl,rfl,rfl,qN,fun _ _ _=>rfl⟩
theorem za3 (w:World)(cb tb cap p n:Nat)(ao:Option Addr)(l:List Int)(C:T.Cur w cb tb cap ao l p)(hn:n<=1) :
  Calls Tryz.prog 153 #[.pointer (some ⟨cb,0,none⟩),.int .i64 n] w fun e w'=>e= .returned (.int .i32 (T.see l (p+n)))/\Below w.heap.size w w':=by
 have c0:=C.cell0;have c1:=C.cell1;have hle:=C.le;have hlen:=C.len;have hcp:=C.cp
 by_cases hlt:p+n<l.length
 ·have hs:=T.zeb hlt;have hcz:=C.rd _ _ hs;have hao:=C.txt (by intro h;subst h;simp at hlt);subst hao;generalize T.see l (p+n)=z at hcz;clear C hs;have g1:¬((l.length:Int) - (p:Int)<=(n:Int)):=by omega
  have g3:(0:Int)<=(p:Int)+(n:Int):=by omega
  have g4:(p:Int)+(n:Int)<(l.length:Int):=by omega
  have g5:((p:Int)+(n:Int)).toNat=p+n:=by omega
  go_enter Tryz.func153,Tryz.ntmps153
  go_wp2
  go_quiet (fail)
  go_wp2
  go_quiet (fail)
  go_wp2;go_ret
  exact⟨rfl,below_drewN (below_drewN (qR _) _) _⟩
 ·rw[T.zfu (by omega)];clear C;have g1:((l.length:Int) - (p:Int)<=(n:Int)):=by omega
  go_enter Tryz.func153,Tryz.ntmps153
  go_wp2
  go_quiet (fail)
  go_wp2;go_ret
  exact⟨rfl,below_drewN (qR _) _⟩
theorem zbn (w:World)(cb tb cap p:Nat)(ao:Option Addr)(l:List Int)(r:Int)(C:T.Cur w cb tb cap ao l p) :
  Calls Tryz.prog 152 #[.pointer (some ⟨cb,0,none⟩),.int .i32 r] w fun e w'=>e= .returned (.bool (decide (T.see l p=r)))/\Below w.heap.size w w':=by
 go_enter Tryz.func152,Tryz.ntmps152
 go_wp2_with (go_at_call 153;refine(za3 _ cb tb cap p 0 ao l C (by omega)).mono ?_;rintro e w1 ⟨rfl,b1⟩)
 go_ret;exact⟨rfl,b1⟩
theorem zdr (w:World)(cb tb cap p:Nat)(ao:Option Addr)(l:List Int)(C:T.Cur w cb tb cap ao l p) :
  Calls Tryz.prog 108 #[.pointer (some ⟨cb,0,none⟩)] w fun e w'=>e= .returned (.bool (decide (T.see l p= -1)))/\Below w.heap.size w w':=by
 go_enter Tryz.func108,Tryz.ntmps108
 go_wp2_with (go_at_call 153;refine(za3 _ cb tb cap p 0 ao l C (by omega)).mono ?_;rintro e w1 ⟨rfl,b1⟩)
 go_ret;exact⟨rfl,b1⟩
def T.thrown (e:Int) (p:Nat):Ending:= .panicked [{ v:= .iface 38 (.agg #[.int .i64 e,.int .i64 p]),recovered:=false }]
theorem zaq {a:Value}(w:World)(e:Int)(p:Nat) :
  Calls Tryz.prog 60 #[a,.int .i64 e,.int .i64 p] w fun e' w'=>e'=T.thrown e p/\w'=w:=by
 go_enter Tryz.func60,Tryz.ntmps60
 go_wp2;exact⟨rfl,rfl,rfl⟩
theorem zgk (w:World)(cb tb cap p:Nat)(ao:Option Addr)(l:List Int)(C:T.Cur w cb tb cap ao l p)(hp:p<l.length) :
  Calls Tryz.prog 278 #[.pointer (some ⟨cb,0,none⟩)] w fun e w'=>e= .returned (.int .i32 (T.see l p))/\T.Cur w' cb tb cap ao l (p+1)/\w.grownBy w' (some cb):=by
 go_enter Tryz.func278,Tryz.ntmps278
 go_wp2_with (go_at_call 153;refine(za3 _ cb tb cap p 0 ao l C (by omega)).mono ?_;rintro e w1 ⟨rfl,b1⟩;have C1:=C.below b1;have c1:=C1.cell1;have f1:=C1.frz1;have hlen:=C1.len;have HC:Hid (T.Cur w1 cb tb cap ao l p):=C1;clear C1)
 go_ret;exact⟨rfl,HC.out.set (q:=p+1) (by omega),S.zaa (S.zad b1) (zcs _ _ _ _)⟩
theorem zan (w:World)(cb tb cap p:Nat)(ao:Option Addr)(l:List Int)(r:Int)(hr:r≠ -1)(C:T.Cur w cb tb cap ao l p) :
  Calls Tryz.prog 151 #[.pointer (some ⟨cb,0,none⟩),.int .i32 r] w fun e w'=>e= .returned (.bool (decide (T.see l p=r)))/\T.Cur w' cb tb cap ao l (if T.see l p=r then p+1 else p)/\w.grownBy w' (some cb):=by
 by_cases h:T.see l p=r
 ·have hp:p<l.length:=by
   apply Classical.byContradiction;intro hn;rw[T.zfu (by omega)] at h;exact hr h.symm
  rw[if_pos h]
  go_enter Tryz.func151,Tryz.ntmps151
  go_wp2_with (go_at_call 152;refine(zbn _ cb tb cap p ao l r C).mono ?_;rintro e w1 ⟨rfl,b1⟩;have C1:=C.below b1;have c1:=C1.cell1;have f1:=C1.frz1;have hlen:=C1.len;have HC:Hid (T.Cur w1 cb tb cap ao l p):=C1;clear C1)
  go_ret;exact⟨L.zak (by simp[h]),HC.out.set (q:=p+1) (by omega),S.zaa (S.zad b1) (zcs _ _ _ _)⟩
 ·rw[if_neg h]
  go_enter Tryz.func151,Tryz.ntmps151
  go_wp2_with (go_at_call 152;refine(zbn _ cb tb cap p ao l r C).mono ?_;rintro e w1 ⟨rfl,b1⟩)
  go_ret;exact⟨L.zak (by simp[h]),C.below b1,S.zad b1⟩
theorem zay (w:World)(cb tb cap p:Nat)(ao:Option Addr)(l:List Int)(r:Int)(hr:r≠ -1)(C:T.Cur w cb tb cap ao l p)(h:T.see l p=r) :
  Calls Tryz.prog 155 #[.pointer (some ⟨cb,0,none⟩),.int .i32 r] w fun e w'=>e= .returned (.tuple #[])/\T.Cur w' cb tb cap ao l (p+1)/\w.grownBy w' (some cb):=by
 go_enter Tryz.func155,Tryz.ntmps155
 go_wp2_with (go_at_call 151;refine(zan _ cb tb cap p ao l r hr C).mono ?_;rintro e w1 ⟨rfl,C1,g1⟩;rw[if_pos h] at C1)
 go_end0
 exact⟨rfl,C1,g1⟩
theorem zbs (w:World)(cb tb cap p:Nat)(ao:Option Addr)(l:List Int)(r:Int)(hr:r≠ -1)(C:T.Cur w cb tb cap ao l p)(h:T.see l p≠r) :
  Calls Tryz.prog 155 #[.pointer (some ⟨cb,0,none⟩),.int .i32 r] w fun e w'=>e=T.thrown 2 p/\w.grownBy w' (some cb):=by
 go_enter Tryz.func155,Tryz.ntmps155
 go_wp2_with (first
  | (go_at_call 151;refine(zan _ cb tb cap p ao l r hr C).mono ?_;rintro e w1 ⟨rfl,C1,g1⟩;rw[if_neg h] at C1;have c1:=C1.cell1)
  | (go_at_call 60;refine(zaq _ 2 p).mono ?_;rintro e w2 ⟨rfl,rfl⟩;unfold T.thrown))
 exact⟨rfl,rfl,g1⟩
end Go.Proofs.YtamfgmaipajodaaGreatDoor
namespace Go.Proofs.YtamfgmaipajodaaGreatDoor
open Go.Shelf Go.RowKit
shelf_lay Lays.n119 Nm 119 at Tryz as Tryz.lays119
shelf_lay Lays.n137 Nm 137 at Tryz as Tryz.lays137
shelf_lay Lays.n151 Nm 151 at Tryz as Tryz.lays151
def T.bts (s:ByteArray):List Int:=s.data.toList.map fun b=>(b.toNat:Int)
theorem ze7:∀(l:List UInt8) (c:UInt8),-1<=Lib.indexByte l c/\(0<=Lib.indexByte l c↔c∈l)
 | [],c=>by simp[Lib.indexByte]
 | b::l,c=>by
  have ih:=ze7 l c;unfold Lib.indexByte
  by_cases h:b=c
  ·simp[h]
  ·have hb:(b==c)=false:=by simp[h]
   rw[hb];simp only[Bool.false_eq_true,if_false]
   by_cases h1:Lib.indexByte l c= -1
   ·have hn:c∉l:=fun hm=>by have:=ih.2.2 hm;omega
    simp[h1,hn,Ne.symm h]
   ·have hb1:(Lib.indexByte l c== -1)=false:=by simp[h1]
    rw[hb1];simp only[Bool.false_eq_true,if_false];refine⟨by omega,fun _=>by simp[ih.2.1 (by omega)],fun _=>by omega⟩
theorem index_none {l:List UInt8}{c:UInt8}(h:c∉l):Lib.indexByte l c= -1:=by
 have:=ze7 l c;have h1:¬ 0<=Lib.indexByte l c:=fun h0=>h (this.2.1 h0)
 omega
theorem zfl (s:ByteArray)(r:Int)(w:World)(h0:0<=r)(h1:r<128) :
  Calls Tryz.prog 202 #[.string s,.int .i32 r] w fun e w'=>e= .returned (.bool (decide (r∈T.bts s)))/\Below w.heap.size w w':=by
 refine(Any.strings_ContainsRune_ascii Tryz.lays151 s r w h0 h1).mono ?_;rintro e w' ⟨rfl,rfl⟩;refine⟨L.zak ?_,qR _⟩;rw[decide_eq_decide,(ze7 _ _).2];unfold T.bts;rw[List.mem_map];constructor
 ·intro h;refine⟨_,h,?_⟩;have:r.toNat.toUInt8.toNat=r.toNat:=by simp;omega
  omega
 ·rintro ⟨b,hb,rfl⟩;simpa using hb
theorem zva {s:ByteArray}{r:Int}(hA:∀b∈s.data.toList,b.toNat<128)(h:r<0∨128<=r):r∉T.bts s:=by
 unfold T.bts;rw[List.mem_map];rintro ⟨b,hb,rfl⟩;have:=hA b hb;omega
theorem zj4 (s:ByteArray)(r:Int)(w:World)(hA:∀b∈s.data.toList,b.toNat<128)(hr:r<0∨128<=r)
  (h:Calls Tryz.prog 218 #[.string s,.int .i32 r] w fun e w'=>e= .returned (.int .i64 (-1))/\Below w.heap.size w w') :
  Calls Tryz.prog 202 #[.string s,.int .i32 r] w fun e w'=>e= .returned (.bool (decide (r∈T.bts s)))/\Below w.heap.size w w':=by
 rw[decide_eq_false (zva hA hr)]
 go_enter Tryz.func202,Tryz.ntmps202
 go_wp2_with (go_at_call 218;refine h.mono ?_;rintro e w1 ⟨rfl,b1⟩)
 go_ret;exact⟨rfl,b1⟩
set_option maxRecDepth 100000 in
theorem zh3 (s:ByteArray)(r:Int)(w:World)(hv:Lib.validRune r=false)(hr:r<0∨128<=r)(hne:r≠65533) :
  Calls Tryz.prog 218 #[.string s,.int .i32 r] w fun e w'=>e= .returned (.int .i64 (-1))/\Below w.heap.size w w':=by
 have hne':(r==65533)=false:=by simp[hne]
 go_enter Tryz.func218,Tryz.ntmps218
 go_wp2_with (go_at_call 234;refine(Any.utf8_ValidRune Tryz.lays119 r _).mono ?_;rintro e w1 ⟨rfl,rfl⟩;rw[hv])
 all_goals go_ret
 all_goals exact⟨rfl,qR _⟩
theorem zux {s:ByteArray}{i j:Nat}{b:UInt8}(h:b∈(s.extract i j).data.toList):b∈s.data.toList:=by
 have:(s.extract i j).data.toList=(s.data.toList.drop i).take (j - i):=by simp[ByteArray.data_extract]
 rw[this] at h;exact List.mem_of_mem_drop (List.mem_of_mem_take h)
theorem zs2 (s:ByteArray)(c:Int)(w:World) :
  Calls Tryz.prog 233 #[.string s,.int .u8 c] w fun e w'=>e= .returned (.int .i64 (Lib.indexByte s.data.toList c.toNat.toUInt8))/\w'=w:=Any.strings_IndexByte Tryz.lays137 s c w
theorem ztd {s:ByteArray}(hA:∀b∈s.data.toList,b.toNat<128)(k:Nat)(h:k<s.size):s[k].toNat<128:=hA _ (by
 have:s[k]=s.data.toList[k]'(by simpa using h):=by simp[ByteArray.getElem_eq_getElem_data]
 rw[this];exact List.getElem_mem _)
set_option maxRecDepth 100000 in
theorem zm3 (s:ByteArray)(w:World)(hA:∀b∈s.data.toList,b.toNat<128) :
  Calls Tryz.prog 218 #[.string s,.int .i32 65533] w fun e w'=>e= .returned (.int .i64 (-1))/\Below w.heap.size w w':=by
 have HA:Hid _:=hA;clear hA
 go_enter Tryz.func218,Tryz.ntmps218
 go_wp2
 go_loopw [5] (fun _ wr=>∃pos:Nat,wr.heap[w.heap.size]?=some (.stringIter s pos)/\Hid (Below w.heap.size w wr)) (fun _ wr=>s.size - wr.iterPos w.heap.size)
 case atStart=>exact⟨0,World.iter_heap w s 0,(qR _).alloc qN _⟩
 case round =>
  obtain⟨pos,hit,hbw⟩:=hrel;have hpos0:=iterPos_of hit
  by_cases hp:pos<s.size
  ·have ha:=ztd HA.out pos hp;have hnx:∀ty,(Instr.next (.pointer (some ⟨w.heap.size,0,none⟩)) true ty).run Tryz.prog wr=_:=fun ty=>Lib.run_next_ascii_at wr w.heap.size s pos ty hit hp ha
   have hit2:=Lib.iterAt_heap wr w.heap.size s pos (pos+1) hit;have hbw2:Hid _:=Lib.below_iterAt hbw.out (k:=w.heap.size) qN s (pos+1);have hne:(((s[pos]'hp).toNat:Int)==65533)=false:=by simp;omega
   generalize wr.iterAt w.heap.size s (pos+1)=W1 at hnx hit2 hbw2;generalize ((s[pos]'hp).toNat:Int)=z at hnx hne;clear hit hbw ha;go_wp2
   go_roundw
   case rel=>exact⟨_,hit2,hbw2⟩
   case measure=>rw[iterPos_of hit2,hpos0];omega
  ·have hnx:∀ty,(Instr.next (.pointer (some ⟨w.heap.size,0,none⟩)) true ty).run Tryz.prog wr=_:=fun ty=>Lib.run_next_end_at wr w.heap.size s pos ty hit hp
   go_wp2;go_ret
   exact⟨rfl,hbw.out⟩
theorem zr9 (r:Nat):128<=(UInt8.ofNat (128+r % 64)).toNat:=by
 have:=M.u8 (128+r % 64) (by omega);omega
set_option maxRecDepth 100000 in
theorem zss (r:Nat)(h:M.right (r:Int)=true)(hr:128<=r):∃(a:List UInt8) (c:UInt8),Utf8.encode (r:Int)=⟨(a++ [c]).toArray⟩/\1<=a.length/\a.length<=3/\128<=c.toNat:=by
 have hb:=M.zkr h;have he:=M.zec r h;have hd:Utf8.encode (r:Int)=⟨(M.enc (r:Int)).toArray⟩:=by unfold M.enc;simp
 have h1:=zr9 r;rw[hd,he,if_neg (by omega)]
 by_cases h2:r<2048
 ·rw[if_pos h2];exact⟨[UInt8.ofNat (192+r / 64)],_,by simp only[List.cons_append,List.nil_append],by simp,by simp,h1⟩
 ·rw[if_neg h2]
  by_cases h3:r<65536
  ·rw[if_pos h3];exact⟨[UInt8.ofNat (224+r / 4096),UInt8.ofNat (128+r / 64 % 64)],_,by simp only[List.cons_append,List.nil_append],by simp,by simp,h1⟩
  ·rw[if_neg h3];exact⟨[UInt8.ofNat (240+r / 262144),UInt8.ofNat (128+r / 4096 % 64),UInt8.ofNat (128+r / 64 % 64)],_,by simp only[List.cons_append,List.nil_append],by simp,by simp,h1⟩
theorem zr8 (a:List UInt8)(c:UInt8)(t:ByteArray)(ht:t=⟨(a++ [c]).toArray⟩):t.size=a.length+1/\∀hk:a.length<t.size,t[a.length]'hk=c:=by
 subst ht;refine⟨by show (a++ [c]).toArray.size=_;simp,fun hk=> ?_⟩;show (a++ [c]).toArray[a.length]'_=c;simp
set_option maxRecDepth 100000 in
theorem zm2 (s:ByteArray)(r:Int)(w:World)(hA:∀b∈s.data.toList,b.toNat<128)(hR:M.right r=true)(hv:Lib.validRune r=true)(hr:128<=r)(hne:r≠65533) :
  Calls Tryz.prog 218 #[.string s,.int .i32 r] w fun e w'=>e= .returned (.int .i64 (-1))/\Below w.heap.size w w':=by
 have HA:Hid _:=hA;clear hA;obtain⟨r,rfl⟩:∃n:Nat,r=(n:Int):=⟨r.toNat,by omega⟩;have hne':((r:Int)==65533)=false:=by simp[hne]
 obtain⟨a,c,he,ha1,ha2,hc⟩:=zss r hR (by omega);obtain⟨hsz,hget⟩:=zr8 a c _ he;have HE:Hid _:=he;clear he;have h0:¬(r:Int)<128:=by omega
 go_enter Tryz.func218,Tryz.ntmps218
 go_wp2_with (go_at_call 234;refine(Any.utf8_ValidRune Tryz.lays119 r _).mono ?_;rintro e w1 ⟨rfl,rfl⟩;rw[hv])
 go_step3
 go_wp2
 go_loopw [9] (fun i wr=>i= .int .i64 a.length/\wr=w1) (fun _ _=>0)
 case atStart=>exact⟨rfl,rfl⟩
 case round =>
  obtain⟨rfl,rfl⟩:=hrel
  by_cases hlt:a.length<s.size
  ·have hb:=ztd HA.out a.length hlt;have q1:(a.length:Int)+1<=(s.size:Int):=by omega
   have q0:IntKind.i64.wrap ((a.length:Int)+1)=(a.length:Int)+1:=by
    have h3:a.length=1∨a.length=2∨a.length=3:=by omega
    rcases h3 with h | h | h <;> rw[h] <;> rfl
   have q2:(0:Int)<=(a.length:Int)+1:=by omega
   have q3:((a.length:Int)+1).toNat=a.length+1:=by omega
   have hx:Hid ((((s[a.length]'hlt).toNat:Int) != (c.toNat:Int))=true):=by show _=_;simp;omega
   go_wp2
   go_step3
   go_wp2
   go_quiet (fail)
   rw[hx.out];clear hb hx;go_wp2;have hlt2:a.length<(Utf8.encode (r:Int)).size:=by rw[hsz];omega
   have hix:∀w,(Instr.index 9 (.string (Utf8.encode (r:Int))) (.int .i64 a.length)).run Tryz.prog w= .ok (.int .u8 c.toNat) w:=by
    intro w;have:=hget hlt2;have h9:=Tryz.underlying9;have q4:(a.length:Int)<(a.length:Int)+1:=by omega
    simp[go_sem,hsz,this,h9,q4]
   have hno:Lib.indexByte (s.extract (a.length+1) s.size).data.toList ((c.toNat:Int).toNat.toUInt8)= -1:=by
    apply index_none;intro hm;have:=HA.out _ (zux hm);simp at this;omega
   go_region_with (first | (go_at_call 233;refine(zs2 _ _ _).mono ?_;rintro e w2 ⟨rfl,rfl⟩;rw[hno]))
   all_goals go_wp2
   rw[Exit.noGoto_ret];change Exit.noGoto (Exit.inBlock 0 _) Exit.ret _ _;rw[Exit.noGoto_ret];simp only[Exit.inBlock,Exit.then];rw[Exit.noGoto_ret];go_ret;exact⟨rfl,below_drewN (qR _) _⟩
  ·go_wp2;rw[Exit.noGoto_ret]
   go_ret;exact⟨rfl,qR _⟩
theorem zia (s:ByteArray)(r:Int)(w:World)(hA:∀b∈s.data.toList,b.toNat<128)(hr:r= -1∨M.right r=true) :
  Calls Tryz.prog 202 #[.string s,.int .i32 r] w fun e w'=>e= .returned (.bool (decide (r∈T.bts s)))/\Below w.heap.size w w':=by
 by_cases h:0<=r/\r<128
 ·exact zfl s r w h.1 h.2
 ·have h':r<0∨128<=r:=by omega
  refine zj4 s r w hA h' ?_
  by_cases h1:r=65533
  ·subst h1;exact zm3 s w hA
  ·rcases hr with rfl | hR
   ·exact zh3 s (-1) w (by decide) h' h1
   ·have h0:0<=r:=by unfold M.right at hR;exact(of_decide_eq_true hR).1
    cases hv:Lib.validRune r with
    | true=>exact zm2 s r w hA hR hv (by omega) h1
    | false=>exact zh3 s r w hv h' h1
end Go.Proofs.YtamfgmaipajodaaGreatDoor
namespace Go.Proofs.YtamfgmaipajodaaGreatDoor
open Go.RowKit
theorem zfh (s:ByteArray)(w:World)(cb tb cap p:Nat)(ao:Option Addr)(l:List Int)(C:T.Cur w cb tb cap ao l p)(hA:∀b∈s.data.toList,b.toNat<128) :
  Calls Tryz.prog 184 #[.pointer (some ⟨cb,0,none⟩),.string s] w fun e w'=>e= .returned (.bool (decide (T.see l p∈T.bts s)))/\Below w.heap.size w w':=by
 have hr:=C.zok p
 go_enter Tryz.func184,Tryz.ntmps184
 go_wp2_with fail
 refine(za3 _ cb tb cap p 0 ao l C (by omega)).mono ?_;rintro e w1 ⟨rfl,b1⟩;rw[Nat.add_zero]
 go_wp2_with fail
 refine(zia s _ _ hA hr).mono ?_;rintro e w2 ⟨rfl,b2⟩;go_wp2;go_ret;exact⟨rfl,b1.trans (b2.mono b1.size)⟩
theorem zqp (w:World)(cb tb cap p:Nat)(ao:Option Addr)(l:List Int)(C:T.Cur w cb tb cap ao l p) :
  Calls Tryz.prog 184 #[.pointer (some ⟨cb,0,none⟩),.string { data:=#[32,9,10] }] w fun e w'=>e= .returned (.bool (T.blank (T.see l p)))/\Below w.heap.size w w' :=
 zfh { data:=#[32,9,10] } w cb tb cap p ao l C (by decide)
theorem zsh (w:World)(cb tb cap p:Nat)(ao:Option Addr)(l:List Int)(C:T.Cur w cb tb cap ao l p) :
  Calls Tryz.prog 184 #[.pointer (some ⟨cb,0,none⟩),.string { data:=#[48,49,50,51,52,53,54,55,56,57,97,98,99,100,101,102,65,66,67,68,69,70] }] w fun e w'=>e= .returned (.bool (T.hexd (T.see l p)))/\Below w.heap.size w w' :=
 zfh _ w cb tb cap p ao l C (by decide)
theorem zrd (w:World)(cb tb cap p:Nat)(ao:Option Addr)(l:List Int)(C:T.Cur w cb tb cap ao l p) :
  Calls Tryz.prog 184 #[.pointer (some ⟨cb,0,none⟩),.string { data:=#[32,9,10,91,93,38,45,94,92,58,36,40,41,123,125,60,62,124,59,35,39,34,61,44] }] w fun e w'=>e= .returned (.bool (decide (T.see l p∈T.specials)))/\Below w.heap.size w w' :=
 zfh _ w cb tb cap p ao l C (by decide)
theorem zgt (w:World)(cb tb cap p:Nat)(ao:Option Addr)(l:List Int)(C:T.Cur w cb tb cap ao l p) :
  Calls Tryz.prog 259 #[.pointer (some ⟨cb,0,none⟩)] w fun e w'=>e= .returned (.bool (T.ordy (T.see l p)))/\Below w.heap.size w w':=by
 unfold T.ordy
 go_enter Tryz.func259,Tryz.ntmps259
 go_wp2_with fail
 refine(zdr _ cb tb cap p ao l C).mono ?_;rintro e w1 ⟨rfl,b1⟩;have C1:=C.below b1
 by_cases h:T.see l p= -1
 ·go_wp2;go_ret
  exact⟨L.zak (by simp[h]),b1⟩
 ·go_wp2_with (go_at_call 184;refine(zrd _ cb tb cap p ao l C1).mono ?_;rintro e w2 ⟨rfl,b2⟩)
  go_ret;exact⟨L.zak (by simp[h]),b1.trans (b2.mono b1.size)⟩
theorem zbh (w:World)(cb tb cap p:Nat)(ao:Option Addr)(l:List Int)(C:T.Cur w cb tb cap ao l p) :
  Calls Tryz.prog 150 #[.pointer (some ⟨cb,0,none⟩)] w fun e w'=>e= .returned (.tuple #[])/\T.Cur w' cb tb cap ao l (T.skipW T.blank l p)/\w.grownBy w' (some cb):=by
 have hlen:=C.len
 go_enter Tryz.func150,Tryz.ntmps150
 go_wp2
 go_loopw [3] (fun _ wr=>∃q:Nat,p<=q/\Hid (∀i,p<=i->i<q->T.blank (T.see l i)=true)/\Hid (T.Cur wr cb tb cap ao l q)/\Hid (w.grownBy wr (some cb))) (fun _ wr=>l.length - T.pos wr cb)
 case atStart=>exact⟨p,qN,fun i h1 h2=>by omega,C,S.zav _ _⟩
 case round =>
  obtain⟨q,hq,HA,HC,HG⟩:=hrel;have hpos:=HC.out.pos;have HP:Hid _:=hpos;clear hpos;have hql:=HC.out.le
  go_wp2_with fail
  refine(zqp _ cb tb cap q ao l HC.out).mono ?_;rintro e w1 ⟨rfl,b1⟩;have C1:=HC.out.below b1;have c1:=C1.cell1;have f1:=C1.frz1;have HC1:Hid (T.Cur w1 cb tb cap ao l q):=C1;clear C1
  by_cases hb:T.blank (T.see l q)=true
  ·have hlt:q<l.length:=HC.out.inside (by intro h;rw[h] at hb;revert hb;decide);go_wp2
   go_roundw
   case rel =>
    refine⟨q+1,by omega,fun i h1 h2=> ?_,HC1.out.set (q:=q+1) (by omega),S.zaa HG.out (S.zaa (S.zad b1) (zcs _ _ _ _))⟩
    by_cases e:i=q
    ·rw[e];exact hb
    ·exact HA.out i h1 (by omega)
   case measure =>
    have h1:T.pos (w1.setCell ⟨cb,1,none⟩ (.int .i64 ((q:Int)+1))) cb=q+1:=(HC1.out.set (q:=q+1) (by omega)).pos;rw[h1,HP.out];omega
  ·have hb':T.blank (T.see l q)=false:=by simpa using hb
   go_wp2
   go_end0
   rw[T.zb9 hq hql HA.out hb' (by decide)];exact⟨rfl,HC1.out,S.zaa HG.out (S.zad b1)⟩
end Go.Proofs.YtamfgmaipajodaaGreatDoor
namespace Go.Proofs.YtamfgmaipajodaaGreatDoor
open Go.RowKit
theorem zhx (c:Int)(w:World) :
  Calls Tryz.prog 312 #[.int .u8 c] w fun e w'=>e= .returned (.int .u8 (bits .or .u8 c 32))/\w'=w:=by
 go_enter Tryz.func312,Tryz.ntmps312
 go_wp2;go_ret
 exact⟨rfl,rfl⟩
theorem zkw:∀c:Fin 6,bits .or .u8 ((97+c.1:Nat):Int) 32=((97+c.1:Nat):Int)/\bits .or .u8 ((65+c.1:Nat):Int) 32=((97+c.1:Nat):Int):=by decide +kernel
theorem zb5 {r:Int}(h:T.hexd r=true):(48<=r/\r<=57)∨(97<=r/\r<=102)∨(65<=r/\r<=70):=by
 unfold T.hexd T.hexes at h;simp only[List.mem_cons,List.not_mem_nil,or_false,decide_eq_true_eq] at h;omega
theorem pow16 {k:Nat}(h:k<=5):(16:Int) ^ k<=1048576:=by
 have h6:k=0∨k=1∨k=2∨k=3∨k=4∨k=5:=by omega
 rcases h6 with rfl | rfl | rfl | rfl | rfl | rfl <;> decide
theorem zp1 (l:List Int)(h:∀r∈l,T.hexd r=true):∀k,0<=T.hexN (l.take k)/\T.hexN (l.take k)<16 ^ k:=by
 intro k
 induction k with
 | zero=>simp[T.hexN]
 | succ k ih =>
  have h4:(16:Int) ^ (k+1)=16*16 ^ k:=by rw[Int.pow_succ];omega
  rw[List.take_add_one];cases hk:l[k]? with
  | none=>simp only[Option.toList_none,List.append_nil];omega
  | some r =>
   have h2:=zb5 (h r (List.mem_of_getElem? hk));have h3:0<=T.hexOne r/\T.hexOne r<=15:=by unfold T.hexOne;split <;> (try split) <;> omega
   simp only[Option.toList_some];rw[T.zh4];omega
set_option maxRecDepth 100000 in
theorem parseUint16 (s:ByteArray)(w:World)(hs:s.size<=6)(h0:s.size≠0)(hx:∀b∈s.data.toList,T.hexd (b.toNat:Int)=true) :
  Calls Tryz.prog 306 #[.string s,.int .i64 16,.int .i64 32] w fun e w'=>e= .returned (.tuple #[.int .u64 (T.hexN (T.bts s)),.nilIface])/\Below w.heap.size w w':=by
 have hemp:s.toList.isEmpty=false:=by
  rw[<- decide_eq_emptyBytes];exact decide_eq_false (fun h=>h0 (by rw[h];rfl))
 have hcv:=Lib.run_convert_string_bytes (P:=Tryz.prog) w 9 357 5 s (u:= .string) Tryz.underlying9 Tryz.underlying357 Tryz.underlying5;have hB:∀j,j<s.size->(Lib.bytesWorld w 5 s).cell? ⟨w.heap.size,j,none⟩=some (.int .u8 (s.data.toList.getD j 0).toNat):=fun j hj=>Lib.bytesWorld_cell w 5 s j hj
 have HBel:Hid (Below w.heap.size w (Lib.bytesWorld w 5 s)):=Lib.bytesWorld_below w 5 s;obtain⟨W1,hW1⟩:∃W1,W1=Lib.bytesWorld w 5 s:=⟨_,rfl⟩;rw[<- hW1] at hcv hB HBel;clear hW1;have hLn:s.data.toList.length=s.size:=by simp
 have HN:Hid (∀k,0<=T.hexN ((T.bts s).take k)/\T.hexN ((T.bts s).take k)<16 ^ k):=zp1 (T.bts s) fun r hr=>by
  unfold T.bts at hr;rw[List.mem_map] at hr;obtain⟨b,hb,rfl⟩:=hr;exact hx b hb
 have HB':Hid _:=hB;have HX:Hid (∀b∈s.data.toList,T.hexd (b.toNat:Int)=true):=hx;have HLn:Hid _:=hLn;clear hB hx hLn
 go_enter Tryz.func306,Tryz.ntmps306
 go_wp2
 go_loop [12,13,101] (fun vu vn vi=>∃(k:Nat) (a:Int),vu= .bool false/\vn= .int .u64 a/\vi= .int .i64 k/\k<=s.size/\Hid (a=T.hexN ((T.bts s).take k)))
  (fun _ _ vi=>s.size - (intOf vi).toNat)
 case atStart=>exact⟨0,0,rfl,rfl,rfl,by omega,rfl⟩
 case round =>
  obtain⟨k,a,rfl,rfl,rfl,hk,HH⟩:=hrel
  by_cases hkn:k<s.size
  ·have hc:=HB'.out k hkn;have hbd:=HN.out k;rw[<- HH.out] at hbd;have hp:=pow16 (k:=k) (by omega);have a0:0<=a:=hbd.1;have a1:a<1048576:=by omega
   clear hbd hp;have hget:s.data.toList.getD k 0=s.data.toList[k]'(by have:=HLn.out;omega):=by simp[List.getD,List.getElem?_eq_getElem (show k<s.data.toList.length by have:=HLn.out;omega)]
   have hm:s.data.toList[k]'(by have:=HLn.out;omega)∈s.data.toList:=List.getElem_mem _
   have HT:Hid ((T.bts s).take (k+1)=(T.bts s).take k++ [((s.data.toList[k]'(by have:=HLn.out;omega)).toNat:Int)]):=by
    show _=_;rw[List.take_add_one];unfold T.bts;rw[List.getElem?_map,List.getElem?_eq_getElem (by have:=HLn.out;omega)];rfl
   rw[hget] at hc;have hd:=zb5 (HX.out _ hm);clear hget hm;generalize (s.data.toList[k]'(by have:=HLn.out;omega))=c at hc hd HT
   have HS:Hid (T.hexN ((T.bts s).take (k+1))=16*a+T.hexOne (c.toNat:Int)):=by
    show _=_;rw[HT.out,T.zh4,HH.out]
   generalize (c.toNat:Int)=z at hc hd HS;rcases hd with hd | hd | hd
   ·have HV:Hid (T.hexOne z=z - 48):=by show _=_;unfold T.hexOne;rw[if_pos (by omega)]
    have hd0:=hd.1;have hd1:=hd.2;have h95:(z==95)=false:=by simp;omega
    go_wp2;refine⟨⟨k+1,a*16+(z - 48),rfl,rfl,(by first | rfl | (congr 1;omega)),by omega,?_⟩,by simp[intOf];omega⟩
    show _=_;rw[HS.out,HV.out];omega
   ·have HV:Hid (T.hexOne z=z - 87):=by show _=_;unfold T.hexOne;rw[if_neg (by omega),if_neg (by omega)]
    have hor:bits .or .u8 z 32=z:=by
     have:=(zkw ⟨(z - 97).toNat,by omega⟩).1;have e:((97+(z - 97).toNat:Nat):Int)=z:=by omega
     rw[e] at this;exact this
    have hd0:=hd.1;have hd1:=hd.2;have h95:(z==95)=false:=by simp;omega
    go_wp2_with (go_at_call 312;refine(zhx _ _).mono ?_;rintro e w' ⟨rfl,rfl⟩;rw[hor])
    refine⟨⟨k+1,a*16+(z - 87),rfl,(by first | rfl | (congr 1;omega)),(by first | rfl | (congr 1;omega)),by omega,?_⟩,by simp[intOf];omega⟩;show _=_;rw[HS.out,HV.out];omega
   ·have HV:Hid (T.hexOne z=z - 55):=by show _=_;unfold T.hexOne;rw[if_neg (by omega),if_pos (by omega)]
    have hor:bits .or .u8 z 32=z+32:=by
     have:=(zkw ⟨(z - 65).toNat,by omega⟩).2;have e:((65+(z - 65).toNat:Nat):Int)=z:=by omega
     have e2:((97+(z - 65).toNat:Nat):Int)=z+32:=by omega
     rw[e,e2] at this;exact this
    have hd0:=hd.1;have hd1:=hd.2;have h95:(z==95)=false:=by simp;omega
    go_wp2_with (go_at_call 312;refine(zhx _ _).mono ?_;rintro e w' ⟨rfl,rfl⟩;rw[hor])
    refine⟨⟨k+1,a*16+(z - 55),rfl,(by first | rfl | (congr 1;omega)),(by first | rfl | (congr 1;omega)),by omega,?_⟩,by simp[intOf];omega⟩;show _=_;rw[HS.out,HV.out];omega
  ·have hkk:k=s.size:=by omega
   subst hkk;go_wp2
   go_ret2
   refine⟨?_,HBel.out⟩;rw[HH.out,List.take_of_length_le (by unfold T.bts;simp)];rfl
theorem zf7 (s:ByteArray)(hs:s.size<=6)(hx:∀b∈s.data.toList,T.hexd (b.toNat:Int)=true):0<=T.hexN (T.bts s)/\T.hexN (T.bts s)<16777216:=by
 have h:=zp1 (T.bts s) (fun r hr=>by
  unfold T.bts at hr;rw[List.mem_map] at hr;obtain⟨b,hb,rfl⟩:=hr
  exact hx b hb) 6
 rw[List.take_of_length_le (by unfold T.bts;simp;exact hs)] at h;have h6:(16:Int) ^ 6=16777216:=by decide
 omega
set_option maxRecDepth 100000 in
theorem parseInt16 (s:ByteArray)(w:World)(hs:s.size<=6)(h0:s.size≠0)(hx:∀b∈s.data.toList,T.hexd (b.toNat:Int)=true) :
  Calls Tryz.prog 298 #[.string s,.int .i64 16,.int .i64 32] w fun e w'=>e= .returned (.tuple #[.int .i64 (T.hexN (T.bts s)),.nilIface])/\Below w.heap.size w w':=by
 have hemp:s.toList.isEmpty=false:=by
  rw[<- decide_eq_emptyBytes];exact decide_eq_false (fun h=>h0 (by rw[h];rfl))
 have hbd:=zf7 s hs hx;have hp:0<s.size:=by omega
 have hq:(0:Int)<(s.size:Int):=by omega
 have hd:=zb5 (hx (s[0]'hp) (by
  have:s[0]'hp=s.data.toList[0]'(by simpa using hp):=by simp[ByteArray.getElem_eq_getElem_data]
  rw[this];exact List.getElem_mem _))
 have e43:(((s[0]'hp).toNat:Int)==43)=false:=by simp;omega
 have e45:(((s[0]'hp).toNat:Int)==45)=false:=by simp;omega
 have HX:Hid _:=hx;have HP:Hid (Calls Tryz.prog 306 #[.string s,.int .i64 16,.int .i64 32] w fun e w'=>e= .returned (.tuple #[.int .u64 (T.hexN (T.bts s)),.nilIface])/\Below w.heap.size w w'):=parseUint16 s w hs h0 hx;generalize T.hexN (T.bts s)=n at hbd HP;have n0:=hbd.1;have n1:=hbd.2;have n2:n<2147483648:=by omega
 clear hd hbd hx
 go_enter Tryz.func298,Tryz.ntmps298
 go_wp2_with (go_at_call 306;refine HP.out.mono ?_;rintro e w1 ⟨rfl,b1⟩)
 all_goals go_ret2
 all_goals exact⟨rfl,b1⟩
theorem zo2 (s:ByteArray)(w:World)(hs:s.size<=6)(h0:s.size≠0)(hx:∀b∈s.data.toList,T.hexd (b.toNat:Int)=true) :
  Calls Tryz.prog 286 #[.string s,.int .i64 16,.int .i64 32] w fun e w'=>e= .returned (.tuple #[.int .i64 (T.hexN (T.bts s)),.nilIface])/\Below w.heap.size w w':=by
 have HP:Hid (Calls Tryz.prog 298 #[.string s,.int .i64 16,.int .i64 32] w fun e w'=>e= .returned (.tuple #[.int .i64 (T.hexN (T.bts s)),.nilIface])/\Below w.heap.size w w'):=parseInt16 s w hs h0 hx;generalize T.hexN (T.bts s)=n at HP;clear hx
 go_enter Tryz.func286,Tryz.ntmps286
 go_wp2_with (go_at_call 298;refine HP.out.mono ?_;rintro e w1 ⟨rfl,b1⟩)
 go_ret2
 exact⟨rfl,b1⟩
end Go.Proofs.YtamfgmaipajodaaGreatDoor
