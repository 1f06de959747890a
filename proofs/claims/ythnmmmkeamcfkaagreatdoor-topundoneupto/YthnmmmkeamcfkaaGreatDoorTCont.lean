import Derived.Test.YthnmmmkeamcfkaaGreatDoorRStay
import Derived.Deep.QuietTactic
import Derived.BigQuiet
import Derived.RegionTactic
import Derived.Shelf.Lay
import Derived.Shelf.Small.Utf8
import Derived.Shelf.Small.Strs
import Derived.Shelf.Strings.Search1
import Derived.Shelf.Strings.Runes
import Derived.WalkMore
set_option maxHeartbeats 0
namespace Go.Proofs.YthnmmmkeamcfkaaGreatDoor
open Go.Proofs.Tryz
section
open Go.RowKit
theorem zbc (r:Int)(w:World) :
  Calls prog 222 #[.int .i32 r] w fun e w'=>e= .returned (.bool (R.letter r))/\w'=w:=by
 go_enter func222,ntmps222
 go_wp2
 all_goals go_ret
 all_goals refine⟨L.zaj ?_,rfl⟩
 all_goals (unfold R.letter;rw[Bool.eq_iff_iff];simp;try omega)
theorem zd5 (r:Int)(w:World) :
  Calls prog 223 #[.int .i32 r] w fun e w'=>e= .returned (.bool (R.digit r))/\w'=w:=by
 go_enter func223,ntmps223
 go_wp2
 all_goals go_ret
 all_goals refine⟨L.zaj ?_,rfl⟩
 all_goals (unfold R.digit;rw[Bool.eq_iff_iff];simp;try omega)
theorem zv7 (L:List UInt8)(h:128<=M.bt L 0):128<=(M.d0 L).1:=by
 unfold M.d0 Lib.decodeN
 repeat' split
 all_goals simp only
 all_goals omega
theorem zrg {l:List UInt8}{k:Nat}{b:UInt8}(hx:l[k]?=some b):R.goodFrom k (l.drop k)=(R.good k b&&R.goodFrom (k+1) (l.drop (k+1))):=by
 have hlt:=(qL.1 hx).1;rw[List.drop_eq_getElem_cons hlt];have:l[k]=b:=by rw[List.getElem?_eq_getElem hlt] at hx;exact Option.some.inj hx
 rw[this];rfl
theorem zv1 {i:Nat}{b:UInt8}(h:128<=b.toNat):R.good i b=false:=by
 unfold R.good R.letter R.digit;rw[Bool.eq_false_iff];simp;omega
theorem zdx (s:ByteArray)(w:World) :
  Calls prog 196 #[.string s] w fun e w'=>e= .returned (.bool (R.named s))/\Below w.heap.size w w':=by
 obtain⟨o,HO⟩:∃o,Hid (R.named s=o):=⟨_,rfl⟩;rw[HO.out];have HLn:Hid (s.data.toList.length=s.size):=by show _=_;simp
 go_enter func196,ntmps196
 go_wp2
 go_loopw [3] (fun _ wr=>∃pos:Nat,wr.heap[w.heap.size]?=some (.stringIter s pos)/\Hid (Below w.heap.size w wr)/\Hid (R.goodFrom 0 s.data.toList=R.goodFrom pos (s.data.toList.drop pos))) (fun _ wr=>s.size - wr.iterPos w.heap.size)
 case atStart=>exact⟨0,World.iter_heap w s 0,(qR _).alloc qN _,rfl⟩
 case round =>
  obtain⟨pos,hit,HB,HG⟩:=hrel;have hpos0:=iterPos_of hit
  by_cases hp:pos<s.size
  ·have hnx:∀ty,(Instr.next (.pointer (some ⟨w.heap.size,0,none⟩)) true ty).run prog wr=_:=fun ty=>Lib.run_next_any_at wr w.heap.size s pos ty hit hp
   have hwd:=M.width_pos s pos hp;have hit2:=Lib.iterAt_heap wr w.heap.size s pos (pos+(Utf8.decode s pos).2) hit;have HB2:=qH <| Lib.below_iterAt HB.out (k:=w.heap.size) qN s (pos+(Utf8.decode s pos).2);obtain⟨b,hb⟩:∃b,s.data.toList[pos]?=some b:=⟨s.data.toList[pos]'(by have:=HLn.out;omega),by rw[List.getElem?_eq_getElem]⟩;have hb0:M.bt (s.data.toList.drop pos) 0=b.toNat:=by simp[M.bt,hb]
   have hg:=zrg hb;rw[<- HG.out] at hg;have HH:Hid _:=hg
   have HD:Hid ((b.toNat<128->Utf8.decode s pos=(b.toNat,1))/\(128<=b.toNat->128<=(Utf8.decode s pos).1)):=by
    refine⟨fun h=> ?_,fun h=> ?_⟩
    ·rw[M.zgb];unfold M.d0 Lib.decodeN;rw[hb0,if_pos h]
    ·rw[M.zgb];exact zv7 _ (by rw[hb0];exact h)
   clear hg hb hb0 hit;generalize hW:wr.iterAt w.heap.size s (pos+(Utf8.decode s pos).2)=W1 at hnx hit2 HB2;clear hW;obtain⟨⟨r,wd⟩,hrw⟩:∃x,x=Utf8.decode s pos:=⟨_,rfl⟩;rw[<- hrw] at hnx hwd hit2 HD;clear hrw;simp only at hnx hwd hit2
   by_cases h128:b.toNat<128
   ·have e1:=HD.out.1 h128;simp only[Prod.mk.injEq] at e1;obtain⟨rfl,rfl⟩:=e1;cases hl:R.letter (b.toNat:Int) with
    | true =>
     have HL:=qH hl;clear hl
     go_wp2_with (go_at_call 222;refine(zbc _ _).mono ?_;rintro e w1 ⟨rfl,rfl⟩;rw[HL.out])
     go_roundw
     case rel=>exact⟨_,hit2,HB2,by show _=_;rw[HH.out];unfold R.good;rw[HL.out];simp⟩
     case measure=>rw[iterPos_of hit2,hpos0];omega
    | false =>
     have HL:=qH hl;clear hl
     by_cases h0:pos=0
     ·subst h0
      go_wp2_with (go_at_call 222;refine(zbc _ _).mono ?_;rintro e w1 ⟨rfl,rfl⟩;rw[HL.out])
      go_ret;refine⟨L.zaj ?_,HB2.out⟩
      rw[<- HO.out];unfold R.named;rw[HH.out];unfold R.good;rw[HL.out];simp
     ·cases hd:R.digit (b.toNat:Int) with
      | true =>
       have HDg:=qH hd;clear hd
       go_wp2_with (first
        | (go_at_call 222;refine(zbc _ _).mono ?_;rintro e w1 ⟨rfl,rfl⟩;rw[HL.out])
        | (go_at_call 223;refine(zd5 _ _).mono ?_;rintro e w1 ⟨rfl,rfl⟩;rw[HDg.out]))
       go_roundw
       case rel=>exact⟨_,hit2,HB2,by show _=_;rw[HH.out];unfold R.good;rw[HL.out,HDg.out];simp[h0]⟩
       case measure=>rw[iterPos_of hit2,hpos0];omega
      | false =>
       have HDg:=qH hd;clear hd
       go_wp2_with (first
        | (go_at_call 222;refine(zbc _ _).mono ?_;rintro e w1 ⟨rfl,rfl⟩;rw[HL.out])
        | (go_at_call 223;refine(zd5 _ _).mono ?_;rintro e w1 ⟨rfl,rfl⟩;rw[HDg.out]))
       go_ret;refine⟨L.zaj ?_,HB2.out⟩
       rw[<- HO.out];unfold R.named;rw[HH.out];unfold R.good;rw[HL.out,HDg.out];simp
   ·have e1:=HD.out.2 (by omega);simp only at e1;have HL:Hid (R.letter (r:Int)=false):=by show _=_;unfold R.letter;rw[Bool.eq_false_iff];simp;omega
    have HDg:Hid (R.digit (r:Int)=false):=by show _=_;unfold R.digit;rw[Bool.eq_false_iff];simp;omega
    have HN:Hid (false=o):=by show _=_;rw[<- HO.out];unfold R.named;rw[HH.out,zv1 (by omega)];simp
    by_cases h0:pos=0
    ·subst h0
     go_wp2_with (go_at_call 222;refine(zbc _ _).mono ?_;rintro e w1 ⟨rfl,rfl⟩;rw[HL.out])
     go_ret;exact⟨L.zaj HN.out,HB2.out⟩
    ·go_wp2_with (first
      | (go_at_call 222;refine(zbc _ _).mono ?_;rintro e w1 ⟨rfl,rfl⟩;rw[HL.out])
      | (go_at_call 223;refine(zd5 _ _).mono ?_;rintro e w1 ⟨rfl,rfl⟩;rw[HDg.out]))
     go_ret;exact⟨L.zaj HN.out,HB2.out⟩
  ·have hnx:∀ty,(Instr.next (.pointer (some ⟨w.heap.size,0,none⟩)) true ty).run prog wr=_:=fun ty=>Lib.run_next_end_at wr w.heap.size s pos ty hit hp
   have HE:Hid (R.goodFrom 0 s.data.toList=true):=by
    show _=_;rw[HG.out,List.drop_eq_nil_of_le (by have:=HLn.out;omega)];rfl
   by_cases h0:s.size=0
   ·have hs:s=⟨#[]⟩:=by
     have:s.data=#[]:=Array.eq_empty_of_size_eq_zero h0;cases s;simp_all
    subst hs;go_wp2;go_ret;refine⟨L.zaj ?_,HB.out⟩;rw[<- HO.out];rfl
   ·have hemp:s.toList.isEmpty=false:=by
     rw[<- decide_eq_emptyBytes];exact decide_eq_false (fun h=>h0 (by rw[h];rfl))
    go_wp2;go_ret
    refine⟨L.zaj ?_,HB.out⟩;rw[<- HO.out];unfold R.named;rw[HE.out,Bool.eq_iff_iff];simp;omega
theorem zei (s:ByteArray)(w:World) :
  Calls prog 197 #[.string s] w fun e w'=>e= .returned (.bool (R.passes s))/\w'=w:=by
 unfold R.passes
 go_enter func197,ntmps197
 go_wp2
 all_goals go_ret
 all_goals refine⟨L.zaj ?_,rfl⟩
 all_goals simp_all
end
section
open Go.RowKit
theorem zc7 (w:World)(x:S.Sp) :
  Calls prog 117 #[.agg #[.int .i32 x.1,.int .i32 x.2]] w fun e w'=>e= .returned (.bool (S.bad x))/\Below w.heap.size w w':=by
 obtain⟨x1,x2⟩:=x;unfold S.bad
 by_cases h1:x1<0
 ·go_enter func117,ntmps117
  go_wp2;go_ret
  exact⟨by simp[h1],(qR w).alloc qN _⟩
 ·by_cases h2:1114111<x2
  ·go_enter func117,ntmps117
   go_wp2;go_ret
   exact⟨by simp,(qR w).alloc qN _⟩
  ·by_cases h3:x2<x1
   ·go_enter func117,ntmps117
    go_wp2;go_ret
    exact⟨by simp,(qR w).alloc qN _⟩
   ·go_enter func117,ntmps117
    go_wp2;go_ret
    exact⟨by simp[h1,h2,h3],(qR w).alloc qN _⟩
theorem ze3 {l:List S.Sp}{k:Nat}{x:S.Sp}{b:Int}(hx:l[k]?=some x):S.wgo b (l.drop k)=if S.bad x=true then 3 else if x.1<b then 2 else S.wgo (x.2+2) (l.drop (k+1)):=by
 have hlt:=(qL.1 hx).1;rw[List.drop_eq_getElem_cons hlt];have:l[k]=x:=by rw[List.getElem?_eq_getElem hlt] at hx;exact Option.some.inj hx
 rw[this];rfl
theorem zby (w:World)(v:Value)(l:List S.Sp)(R:S.Rd w v l)(hf:S.Fit l) :
  Calls prog 62 #[v] w fun e w'=>e= .returned (.int .i64 (S.wrongE l))/\Below w.heap.size w w':=by
 obtain⟨ao,cap,rfl,hn,hc⟩:=R;unfold S.wrongE
 by_cases hbig:200<l.length
 ·rw[if_pos hbig]
  go_enter func62,ntmps62
  go_wp2;go_ret
  exact⟨rfl,qR w⟩
 ·rw[if_neg hbig]
  go_enter func62,ntmps62
  go_wp2
  go_loopw [10] (fun i wr=>∃k:Nat,k<=l.length/\i= .int .i64 k/\Hid (∃b,S.wgo 0 l=S.wgo b (l.drop k)/\(k=0->b=0)/\∀p,0<k->l[k-1]?=some p->b=p.2+2/\p.2<=1114111)/\Hid (Below w.heap.size w wr)) (fun i _=>l.length - (intOf i).toNat)
  case atStart=>exact⟨0,Nat.zero_le _,rfl,⟨0,by simp,fun _=>rfl,fun p h=>absurd h (Nat.lt_irrefl _)⟩,qR w⟩
  case round =>
   obtain⟨k,hk,rfl,HW,HB⟩:=hrel
   by_cases hlt:k<l.length
   ·obtain⟨b,off,rfl,hcell⟩:=hc (by intro h;subst h;simp at hlt);obtain⟨x,hx⟩:∃x,l[k]?=some x:=⟨l[k],by simp[hlt]⟩;have c0:=hcell k x hx;have hb:=L.block_lt c0.1;have cc:=fun o=>HB.out.cell (p:=⟨b,o,none⟩) hb
    have c1:=c0.1;have c2:=c0.2;rw[<- cc] at c1 c2;have HX:=qH hx;have fx:=hf.at hx;have hsz:=HB.out.size;obtain⟨x1,x2⟩:=x;simp only at c1 c2 fx;clear c0 hx;cases hbad:S.bad (x1,x2) with
    | true =>
     have HR:=qH hbad;clear hbad cc hcell hc
     go_wp2_with (go_at_call 117;go_must (refine(zc7 _ (x1,x2)).mono ?_;rintro e w1 ⟨rfl,HB1⟩;rw[HR.out]))
     go_ret;obtain⟨bb,he,_⟩:=HW.out
     refine⟨?_,?_⟩
     ·rw[he,ze3 HX.out,HR.out];rfl
     ·exact(HB.out.alloc hsz _).trans (HB1.mono (by simp;omega))
    | false =>
     have HR:=qH hbad;have hok:=S.bad_false.1 hbad;simp only at hok;clear hbad;cases k with
     | zero =>
      clear cc hcell hc;simp only[Nat.zero_mul,Nat.add_zero] at c1 c2
      go_wp2_with (go_at_call 117;go_must (refine(zc7 _ (x1,x2)).mono ?_;rintro e w1 ⟨rfl,HB1⟩;rw[HR.out]))
      obtain⟨⟨d1,d2⟩,_,hs1,hb1⟩:=S.boxed HB1;have HB2:=qH <| HB.out.trans (hb1.mono hsz);clear HB1 hb1
      go_quiet (fail)
      go_wp2
      go_roundw
      case rel =>
       obtain⟨bb,he,h0,_⟩:=HW.out;refine⟨1,by omega,by go_num,⟨x2+2,?_,fun h=>by omega,fun p _ hp=> ?_⟩,below_drewN HB2.out _⟩
       ·rw[he,ze3 HX.out,HR.out,h0 trivial,if_neg (by simp),if_neg (by simp;omega)]
       ·have h1:=HX.out;rw[hp] at h1;cases h1;exact⟨rfl,by omega⟩
      case measure=>simp[intOf];omega
     | succ m =>
      obtain⟨p,hp⟩:∃p,l[m]?=some p:=⟨l[m]'(by omega),by simp[show m<l.length by omega]⟩;have c3:=(hcell m p hp).2;rw[<- cc] at c3;have fp:=hf.at hp;have HP:=qH hp;obtain⟨p1,p2⟩:=p;simp only at c3 fp;clear cc hcell hc hp
      go_wp2_with (go_at_call 117;go_must (refine(zc7 _ (x1,x2)).mono ?_;rintro e w1 ⟨rfl,HB1⟩;rw[HR.out]))
      obtain⟨⟨d1,d2⟩,hold,hs1,hb1⟩:=S.boxed HB1
      replace c3:=hold _ _ _ c3
      have HB2:=qH <| HB.out.trans (hb1.mono hsz);obtain⟨bb,he,_,hpp⟩:=HW.out;obtain⟨rfl,hp2⟩:=hpp _ (Nat.succ_pos _) HP.out;simp only at hp2;have HE:Hid (S.wgo 0 l=S.wgo (p2+2) (l.drop (m+1))):=he;clear HB1 hb1 hold he hpp HW
      by_cases hlow:x1<p2+2
      ·go_quiet (fail)
       go_wp2;go_ret
       refine⟨?_,below_drewN HB2.out _⟩;rw[HE.out,ze3 HX.out,HR.out,if_neg (by simp),if_pos hlow];rfl
      ·go_quiet (fail)
       go_wp2
       go_roundw
       case rel =>
        refine⟨m+1+1,by omega,by go_num,⟨x2+2,?_,fun h=>by omega,fun p _ hp=> ?_⟩,below_drewN HB2.out _⟩
        ·rw[HE.out,ze3 HX.out,HR.out,if_neg (by simp),if_neg hlow]
        ·have h1:=HX.out;have hp:l[m+1]?=some p:=hp;rw[hp] at h1;cases h1;exact⟨rfl,by omega⟩
       case measure=>simp[intOf];omega
   ·go_wp2;go_ret
    refine⟨?_,HB.out⟩;obtain⟨b,he,_⟩:=HW.out;rw[he,List.drop_eq_nil_of_le (by omega)];rfl
end
section
open Go.RowKit
structure T.Cur (w:World) (cb tb cap:Nat) (ao:Option Addr) (l:List Int) (p:Nat):Prop where
 blk:∃ty,w.heap[cb]?=some (.cells #[.slice ao l.length cap,.int .i64 p] ty)
 txt:l≠ []->ao=some ⟨tb,0,none⟩
 rd:∀j z,l[j]?=some z->w.cell? ⟨tb,j,none⟩=some (.int .i32 z)
 ne:tb≠cb
 le:p<=l.length
 len:l.length<=16000
 cp:l.length<=cap
 rt:∀z∈l,M.right z=true
namespace T.Cur
variable {w w':World} {cb tb cap p:Nat} {ao:Option Addr} {l:List Int}
theorem cell0 (h:T.Cur w cb tb cap ao l p):w.cell? ⟨cb,0,none⟩=some (.slice ao l.length cap):=by obtain⟨_,hb⟩:=h.blk;rw[World.cell?];simp[hb]
theorem cell1 (h:T.Cur w cb tb cap ao l p):w.cell? ⟨cb,1,none⟩=some (.int .i64 p):=by obtain⟨_,hb⟩:=h.blk;rw[World.cell?];simp[hb]
theorem frz1 (h:T.Cur w cb tb cap ao l p):w.frozen? ⟨cb,1,none⟩=false:=by obtain⟨_,hb⟩:=h.blk;rw[World.frozen?];simp[hb]
theorem lt (h:T.Cur w cb tb cap ao l p):cb<w.heap.size:=by obtain⟨_,hb⟩:=h.blk;exact(qA.1 hb).1
theorem drewN (h:T.Cur w cb tb cap ao l p)(k:Nat):T.Cur (w.drewN k) cb tb cap ao l p:=⟨h.blk,h.txt,h.rd,h.ne,h.le,h.len,h.cp,h.rt⟩
theorem kept (h:T.Cur w cb tb cap ao l p)(hg:w.grownBy w' none):T.Cur w' cb tb cap ao l p :=
 ⟨by obtain⟨t,hb⟩:=h.blk;exact⟨t,by rw[hg.block cb h.lt (by simp)];exact hb⟩,h.txt,fun j z hj=>by
  have h1:=h.rd j z hj
  rw[World.cell?_of_block (a:=⟨tb,j,none⟩) (hg.block tb (L.block_lt h1) (by simp))];exact h1,h.ne,h.le,h.len,h.cp,h.rt⟩
theorem below (h:T.Cur w cb tb cap ao l p)(hb:Below w.heap.size w w'):T.Cur w' cb tb cap ao l p:=h.kept (S.zaf hb)
theorem set (h:T.Cur w cb tb cap ao l p){q:Nat}(hq:q<=l.length):T.Cur (w.setCell ⟨cb,1,none⟩ (.int .i64 q)) cb tb cap ao l q:=by
 refine⟨?_,h.txt,fun j z hj=> ?_,h.ne,hq,h.len,h.cp,h.rt⟩
 ·obtain⟨t,hb⟩:=h.blk;exact⟨t,by simp[World.setCell,Array.getElem?_modify,hb]⟩
 ·rw[World.cell?_setCell_other _ _ _ _ (by simp[Ne.symm h.ne])];exact h.rd j z hj
theorem zp0 (h:T.Cur w cb tb cap ao l p)(q:Nat):T.see l q= -1∨M.right (T.see l q)=true:=by
 by_cases hq:q<l.length
 ·exact .inr (h.rt _ (List.mem_of_getElem? (T.zev hq)))
 ·exact .inl (T.zds (by omega))
theorem inside (_:T.Cur w cb tb cap ao l p)(hs:T.see l p≠ -1):p<l.length:=by
 apply Classical.byContradiction;intro hn;exact hs (T.zds (by omega))
end T.Cur
def T.pos (w:World) (b:Nat):Nat:=(intOf ((w.cell? ⟨b,1,none⟩).getD undef)).toNat
theorem T.Cur.pos {w:World}{cb tb cap p:Nat}{ao:Option Addr}{l:List Int}(h:T.Cur w cb tb cap ao l p):T.pos w cb=p:=by
 unfold T.pos;rw[h.cell1];simp[intOf]
theorem zc4 (w:World)(b:Nat)(j:Nat)(v:Value):w.grownBy (w.setCell ⟨b,j,none⟩ v) (some b) :=
 ⟨rfl,rfl,rfl,by simp,fun k _ hk=>heap_setCell_other w ⟨b,j,none⟩ k v (fun e=>hk (by simp[e]))⟩
theorem zb5 (w:World)(k:Nat)(r:Option Nat):w.grownBy (w.drewN k) r:=⟨rfl,rfl,rfl,qN,fun _ _ _=>rfl⟩
theorem za7 (w:World)(cb tb cap p n:Nat)(ao:Option Addr)(l:List Int)(C:T.Cur w cb tb cap ao l p)(hn:n<=1) :
  Calls prog 158 #[.pointer (some ⟨cb,0,none⟩),.int .i64 n] w fun e w'=>e= .returned (.int .i32 (T.see l (p+n)))/\Below w.heap.size w w':=by
 have c0:=C.cell0;have c1:=C.cell1;have hle:=C.le;have hlen:=C.len;have hcp:=C.cp
 by_cases hlt:p+n<l.length
 ·have hs:=T.zev hlt;have hcz:=C.rd _ _ hs;have hao:=C.txt (by intro h;subst h;simp at hlt);subst hao;generalize T.see l (p+n)=z at hcz;clear C hs;have g1:¬((l.length:Int) - (p:Int)<=(n:Int)):=by omega
  have g3:(0:Int)<=(p:Int)+(n:Int):=by omega
  have g4:(p:Int)+(n:Int)<(l.length:Int):=by omega
  have g5:((p:Int)+(n:Int)).toNat=p+n:=by omega
  go_enter func158,ntmps158
  go_wp2
  go_quiet (fail)
  go_wp2
  go_quiet (fail)
  go_wp2;go_ret
  exact⟨rfl,below_drewN (below_drewN (qR _) _) _⟩
 ·rw[T.zds (by omega)];clear C;have g1:((l.length:Int) - (p:Int)<=(n:Int)):=by omega
  go_enter func158,ntmps158
  go_wp2
  go_quiet (fail)
  go_wp2;go_ret
  exact⟨rfl,below_drewN (qR _) _⟩
theorem zbp (w:World)(cb tb cap p:Nat)(ao:Option Addr)(l:List Int)(r:Int)(C:T.Cur w cb tb cap ao l p) :
  Calls prog 157 #[.pointer (some ⟨cb,0,none⟩),.int .i32 r] w fun e w'=>e= .returned (.bool (decide (T.see l p=r)))/\Below w.heap.size w w':=by
 go_enter func157,ntmps157
 go_wp2_with (go_at_call 158;refine(za7 _ cb tb cap p 0 ao l C (by omega)).mono ?_;rintro e w1 ⟨rfl,b1⟩)
 go_ret;exact⟨rfl,b1⟩
theorem zd4 (w:World)(cb tb cap p:Nat)(ao:Option Addr)(l:List Int)(C:T.Cur w cb tb cap ao l p) :
  Calls prog 109 #[.pointer (some ⟨cb,0,none⟩)] w fun e w'=>e= .returned (.bool (decide (T.see l p= -1)))/\Below w.heap.size w w':=by
 go_enter func109,ntmps109
 go_wp2_with (go_at_call 158;refine(za7 _ cb tb cap p 0 ao l C (by omega)).mono ?_;rintro e w1 ⟨rfl,b1⟩)
 go_ret;exact⟨rfl,b1⟩
def T.thrown (e:Int) (p:Nat):Ending:= .panicked [{ v:= .iface 38 (.agg #[.int .i64 e,.int .i64 p]),recovered:=false }]
theorem zav {a:Value}(w:World)(e:Int)(p:Nat) :
  Calls prog 58 #[a,.int .i64 e,.int .i64 p] w fun e' w'=>e'=T.thrown e p/\w'=w:=by
 go_enter func58,ntmps58
 go_wp2;exact⟨rfl,rfl,rfl⟩
theorem zhh (w:World)(cb tb cap p:Nat)(ao:Option Addr)(l:List Int)(C:T.Cur w cb tb cap ao l p)(hp:p<l.length) :
  Calls prog 287 #[.pointer (some ⟨cb,0,none⟩)] w fun e w'=>e= .returned (.int .i32 (T.see l p))/\T.Cur w' cb tb cap ao l (p+1)/\w.grownBy w' (some cb):=by
 go_enter func287,ntmps287
 go_wp2_with (go_at_call 158;refine(za7 _ cb tb cap p 0 ao l C (by omega)).mono ?_;rintro e w1 ⟨rfl,b1⟩;have C1:=C.below b1;have c1:=C1.cell1;have f1:=C1.frz1;have hlen:=C1.len;have HC:Hid (T.Cur w1 cb tb cap ao l p):=C1;clear C1)
 go_ret;exact⟨rfl,HC.out.set (q:=p+1) (by omega),S.zaa (S.zaf b1) (zc4 _ _ _ _)⟩
theorem zas (w:World)(cb tb cap p:Nat)(ao:Option Addr)(l:List Int)(r:Int)(hr:r≠ -1)(C:T.Cur w cb tb cap ao l p) :
  Calls prog 156 #[.pointer (some ⟨cb,0,none⟩),.int .i32 r] w fun e w'=>e= .returned (.bool (decide (T.see l p=r)))/\T.Cur w' cb tb cap ao l (if T.see l p=r then p+1 else p)/\w.grownBy w' (some cb):=by
 by_cases h:T.see l p=r
 ·have hp:p<l.length:=by
   apply Classical.byContradiction;intro hn;rw[T.zds (by omega)] at h;exact hr h.symm
  rw[if_pos h]
  go_enter func156,ntmps156
  go_wp2_with (go_at_call 157;refine(zbp _ cb tb cap p ao l r C).mono ?_;rintro e w1 ⟨rfl,b1⟩;have C1:=C.below b1;have c1:=C1.cell1;have f1:=C1.frz1;have hlen:=C1.len;have HC:Hid (T.Cur w1 cb tb cap ao l p):=C1;clear C1)
  go_ret;exact⟨L.zaj (by simp[h]),HC.out.set (q:=p+1) (by omega),S.zaa (S.zaf b1) (zc4 _ _ _ _)⟩
 ·rw[if_neg h]
  go_enter func156,ntmps156
  go_wp2_with (go_at_call 157;refine(zbp _ cb tb cap p ao l r C).mono ?_;rintro e w1 ⟨rfl,b1⟩)
  go_ret;exact⟨L.zaj (by simp[h]),C.below b1,S.zaf b1⟩
theorem za1 (w:World)(cb tb cap p:Nat)(ao:Option Addr)(l:List Int)(r:Int)(hr:r≠ -1)(C:T.Cur w cb tb cap ao l p)(h:T.see l p=r) :
  Calls prog 160 #[.pointer (some ⟨cb,0,none⟩),.int .i32 r] w fun e w'=>e= .returned (.tuple #[])/\T.Cur w' cb tb cap ao l (p+1)/\w.grownBy w' (some cb):=by
 go_enter func160,ntmps160
 go_wp2_with (go_at_call 156;refine(zas _ cb tb cap p ao l r hr C).mono ?_;rintro e w1 ⟨rfl,C1,g1⟩;rw[if_pos h] at C1)
 go_end0
 exact⟨rfl,C1,g1⟩
theorem zb0 (w:World)(cb tb cap p:Nat)(ao:Option Addr)(l:List Int)(r:Int)(hr:r≠ -1)(C:T.Cur w cb tb cap ao l p)(h:T.see l p≠r) :
  Calls prog 160 #[.pointer (some ⟨cb,0,none⟩),.int .i32 r] w fun e w'=>e=T.thrown 2 p/\w.grownBy w' (some cb):=by
 go_enter func160,ntmps160
 go_wp2_with (first
  | (go_at_call 156;refine(zas _ cb tb cap p ao l r hr C).mono ?_;rintro e w1 ⟨rfl,C1,g1⟩;rw[if_neg h] at C1;have c1:=C1.cell1)
  | (go_at_call 58;refine(zav _ 2 p).mono ?_;rintro e w2 ⟨rfl,rfl⟩;unfold T.thrown))
 exact⟨rfl,rfl,g1⟩
end
section
open Go.Shelf Go.RowKit
shelf_lay Lays.n119 Nm 119 at Tryz as Tryz.lays119
shelf_lay Lays.n137 Nm 137 at Tryz as Tryz.lays137
shelf_lay Lays.n151 Nm 151 at Tryz as Tryz.lays151
def T.bts (s:ByteArray):List Int:=s.data.toList.map fun b=>(b.toNat:Int)
theorem zf2:∀(l:List UInt8) (c:UInt8),-1<=Lib.indexByte l c/\(0<=Lib.indexByte l c↔c∈l)
 | [],c=>by simp[Lib.indexByte]
 | b::l,c=>by
  have ih:=zf2 l c;unfold Lib.indexByte
  by_cases h:b=c
  ·simp[h]
  ·have hb:(b==c)=false:=by simp[h]
   rw[hb];simp only[Bool.false_eq_true,if_false]
   by_cases h1:Lib.indexByte l c= -1
   ·have hn:c∉l:=fun hm=>by have:=ih.2.2 hm;omega
    simp[h1,hn,Ne.symm h]
   ·have hb1:(Lib.indexByte l c== -1)=false:=by simp[h1]
    rw[hb1];simp only[Bool.false_eq_true,if_false];refine⟨by omega,fun _=>by simp[ih.2.1 (by omega)],fun _=>by omega⟩
theorem index_none {l:List UInt8}{c:UInt8}(h:c∉l):Lib.indexByte l c= -1:=by
 have:=zf2 l c;have h1:¬ 0<=Lib.indexByte l c:=fun h0=>h (this.2.1 h0)
 omega
theorem zgi (s:ByteArray)(r:Int)(w:World)(h0:0<=r)(h1:r<128) :
  Calls prog 215 #[.string s,.int .i32 r] w fun e w'=>e= .returned (.bool (decide (r∈T.bts s)))/\Below w.heap.size w w':=by
 refine(Any.strings_ContainsRune_ascii Tryz.lays151 s r w h0 h1).mono ?_;rintro e w' ⟨rfl,rfl⟩;refine⟨L.zaj ?_,qR _⟩;rw[decide_eq_decide,(zf2 _ _).2];unfold T.bts;rw[List.mem_map];constructor
 ·intro h;refine⟨_,h,?_⟩;have:r.toNat.toUInt8.toNat=r.toNat:=by simp;omega
  omega
 ·rintro ⟨b,hb,rfl⟩;simpa using hb
theorem zwd {s:ByteArray}{r:Int}(hA:∀b∈s.data.toList,b.toNat<128)(h:r<0∨128<=r):r∉T.bts s:=by
 unfold T.bts;rw[List.mem_map];rintro ⟨b,hb,rfl⟩;have:=hA b hb;omega
theorem zk7 (s:ByteArray)(r:Int)(w:World)(hA:∀b∈s.data.toList,b.toNat<128)(hr:r<0∨128<=r)
  (h:Calls prog 238 #[.string s,.int .i32 r] w fun e w'=>e= .returned (.int .i64 (-1))/\Below w.heap.size w w') :
  Calls prog 215 #[.string s,.int .i32 r] w fun e w'=>e= .returned (.bool (decide (r∈T.bts s)))/\Below w.heap.size w w':=by
 rw[decide_eq_false (zwd hA hr)]
 go_enter func215,ntmps215
 go_wp2_with (go_at_call 238;refine h.mono ?_;rintro e w1 ⟨rfl,b1⟩)
 go_ret;exact⟨rfl,b1⟩
set_option maxRecDepth 100000 in
theorem zi3 (s:ByteArray)(r:Int)(w:World)(hv:Lib.validRune r=false)(hr:r<0∨128<=r)(hne:r≠65533) :
  Calls prog 238 #[.string s,.int .i32 r] w fun e w'=>e= .returned (.int .i64 (-1))/\Below w.heap.size w w':=by
 have hne':(r==65533)=false:=by simp[hne]
 go_enter func238,ntmps238
 go_wp2_with (go_at_call 255;refine(Any.utf8_ValidRune Tryz.lays119 r _).mono ?_;rintro e w1 ⟨rfl,rfl⟩;rw[hv])
 all_goals go_ret
 all_goals exact⟨rfl,qR _⟩
theorem zv3 {s:ByteArray}{i j:Nat}{b:UInt8}(h:b∈(s.extract i j).data.toList):b∈s.data.toList:=by
 have:(s.extract i j).data.toList=(s.data.toList.drop i).take (j - i):=by simp[ByteArray.data_extract]
 rw[this] at h;exact List.mem_of_mem_drop (List.mem_of_mem_take h)
theorem zuk (s:ByteArray)(c:Int)(w:World) :
  Calls prog 254 #[.string s,.int .u8 c] w fun e w'=>e= .returned (.int .i64 (Lib.indexByte s.data.toList c.toNat.toUInt8))/\w'=w:=Any.strings_IndexByte Tryz.lays137 s c w
theorem zuw {s:ByteArray}(hA:∀b∈s.data.toList,b.toNat<128)(k:Nat)(h:k<s.size):s[k].toNat<128:=hA _ (by
 have:s[k]=s.data.toList[k]'(by simpa using h):=by simp[ByteArray.getElem_eq_getElem_data]
 rw[this];exact List.getElem_mem _)
set_option maxRecDepth 100000 in
theorem zn6 (s:ByteArray)(w:World)(hA:∀b∈s.data.toList,b.toNat<128) :
  Calls prog 238 #[.string s,.int .i32 65533] w fun e w'=>e= .returned (.int .i64 (-1))/\Below w.heap.size w w':=by
 have HA:Hid _:=hA;clear hA
 go_enter func238,ntmps238
 go_wp2
 go_loopw [5] (fun _ wr=>∃pos:Nat,wr.heap[w.heap.size]?=some (.stringIter s pos)/\Hid (Below w.heap.size w wr)) (fun _ wr=>s.size - wr.iterPos w.heap.size)
 case atStart=>exact⟨0,World.iter_heap w s 0,(qR _).alloc qN _⟩
 case round =>
  obtain⟨pos,hit,hbw⟩:=hrel;have hpos0:=iterPos_of hit
  by_cases hp:pos<s.size
  ·have ha:=zuw HA.out pos hp;have hnx:∀ty,(Instr.next (.pointer (some ⟨w.heap.size,0,none⟩)) true ty).run prog wr=_:=fun ty=>Lib.run_next_ascii_at wr w.heap.size s pos ty hit hp ha
   have hit2:=Lib.iterAt_heap wr w.heap.size s pos (pos+1) hit;have hbw2:Hid _:=Lib.below_iterAt hbw.out (k:=w.heap.size) qN s (pos+1);have hne:(((s[pos]'hp).toNat:Int)==65533)=false:=by simp;omega
   generalize wr.iterAt w.heap.size s (pos+1)=W1 at hnx hit2 hbw2;generalize ((s[pos]'hp).toNat:Int)=z at hnx hne;clear hit hbw ha;go_wp2
   go_roundw
   case rel=>exact⟨_,hit2,hbw2⟩
   case measure=>rw[iterPos_of hit2,hpos0];omega
  ·have hnx:∀ty,(Instr.next (.pointer (some ⟨w.heap.size,0,none⟩)) true ty).run prog wr=_:=fun ty=>Lib.run_next_end_at wr w.heap.size s pos ty hit hp
   go_wp2;go_ret
   exact⟨rfl,hbw.out⟩
theorem ztt (r:Nat):128<=(UInt8.ofNat (128+r % 64)).toNat:=by
 have:=M.u8 (128+r % 64) (by omega);omega
set_option maxRecDepth 100000 in
theorem zt9 (r:Nat)(h:M.right (r:Int)=true)(hr:128<=r):∃(a:List UInt8) (c:UInt8),Utf8.encode (r:Int)=⟨(a++ [c]).toArray⟩/\1<=a.length/\a.length<=3/\128<=c.toNat:=by
 have hb:=M.zl0 h;have he:=M.ze0 r h;have hd:Utf8.encode (r:Int)=⟨(M.enc (r:Int)).toArray⟩:=by unfold M.enc;simp
 have h1:=ztt r;rw[hd,he,if_neg (by omega)]
 by_cases h2:r<2048
 ·rw[if_pos h2];exact⟨[UInt8.ofNat (192+r / 64)],_,by simp only[List.cons_append,List.nil_append],by simp,by simp,h1⟩
 ·rw[if_neg h2]
  by_cases h3:r<65536
  ·rw[if_pos h3];exact⟨[UInt8.ofNat (224+r / 4096),UInt8.ofNat (128+r / 64 % 64)],_,by simp only[List.cons_append,List.nil_append],by simp,by simp,h1⟩
  ·rw[if_neg h3];exact⟨[UInt8.ofNat (240+r / 262144),UInt8.ofNat (128+r / 4096 % 64),UInt8.ofNat (128+r / 64 % 64)],_,by simp only[List.cons_append,List.nil_append],by simp,by simp,h1⟩
theorem zts (a:List UInt8)(c:UInt8)(t:ByteArray)(ht:t=⟨(a++ [c]).toArray⟩):t.size=a.length+1/\∀hk:a.length<t.size,t[a.length]'hk=c:=by
 subst ht;refine⟨by show (a++ [c]).toArray.size=_;simp,fun hk=> ?_⟩;show (a++ [c]).toArray[a.length]'_=c;simp
set_option maxRecDepth 100000 in
theorem zn5 (s:ByteArray)(r:Int)(w:World)(hA:∀b∈s.data.toList,b.toNat<128)(hR:M.right r=true)(hv:Lib.validRune r=true)(hr:128<=r)(hne:r≠65533) :
  Calls prog 238 #[.string s,.int .i32 r] w fun e w'=>e= .returned (.int .i64 (-1))/\Below w.heap.size w w':=by
 have HA:Hid _:=hA;clear hA;obtain⟨r,rfl⟩:∃n:Nat,r=(n:Int):=⟨r.toNat,by omega⟩;have hne':((r:Int)==65533)=false:=by simp[hne]
 obtain⟨a,c,he,ha1,ha2,hc⟩:=zt9 r hR (by omega);obtain⟨hsz,hget⟩:=zts a c _ he;have HE:Hid _:=he;clear he;have h0:¬(r:Int)<128:=by omega
 go_enter func238,ntmps238
 go_wp2_with (go_at_call 255;refine(Any.utf8_ValidRune Tryz.lays119 r _).mono ?_;rintro e w1 ⟨rfl,rfl⟩;rw[hv])
 go_step3
 go_wp2
 go_loopw [9] (fun i wr=>i= .int .i64 a.length/\wr=w1) (fun _ _=>0)
 case atStart=>exact⟨rfl,rfl⟩
 case round =>
  obtain⟨rfl,rfl⟩:=hrel
  by_cases hlt:a.length<s.size
  ·have hb:=zuw HA.out a.length hlt;have q1:(a.length:Int)+1<=(s.size:Int):=by omega
   have q0:IntKind.i64.wrap ((a.length:Int)+1)=(a.length:Int)+1:=by
    have h3:a.length=1∨a.length=2∨a.length=3:=by omega
    rcases h3 with h | h | h <;> rw[h] <;> rfl
   have q2:(0:Int)<=(a.length:Int)+1:=by omega
   have q3:((a.length:Int)+1).toNat=a.length+1:=by omega
   have hx:Hid ((((s[a.length]'hlt).toNat:Int) != (c.toNat:Int))=true):=by show _=_;simp;omega
   go_wp2
   go_step3
   go_wp2
   go_quiet (fail)
   rw[hx.out];clear hb hx;go_wp2;have hlt2:a.length<(Utf8.encode (r:Int)).size:=by rw[hsz];omega
   have hix:∀w,(Instr.index 9 (.string (Utf8.encode (r:Int))) (.int .i64 a.length)).run prog w= .ok (.int .u8 c.toNat) w:=by
    intro w;have:=hget hlt2;have h9:=underlying9;have q4:(a.length:Int)<(a.length:Int)+1:=by omega
    simp[go_sem,hsz,this,h9,q4]
   have hno:Lib.indexByte (s.extract (a.length+1) s.size).data.toList ((c.toNat:Int).toNat.toUInt8)= -1:=by
    apply index_none;intro hm;have:=HA.out _ (zv3 hm);simp at this;omega
   go_region_with (first | (go_at_call 254;refine(zuk _ _ _).mono ?_;rintro e w2 ⟨rfl,rfl⟩;rw[hno]))
   all_goals go_wp2
   rw[Exit.noGoto_ret];change Exit.noGoto (Exit.inBlock 0 _) Exit.ret _ _;rw[Exit.noGoto_ret];simp only[Exit.inBlock,Exit.then];rw[Exit.noGoto_ret];go_ret;exact⟨rfl,below_drewN (qR _) _⟩
  ·go_wp2;rw[Exit.noGoto_ret]
   go_ret;exact⟨rfl,qR _⟩
theorem zjd (s:ByteArray)(r:Int)(w:World)(hA:∀b∈s.data.toList,b.toNat<128)(hr:r= -1∨M.right r=true) :
  Calls prog 215 #[.string s,.int .i32 r] w fun e w'=>e= .returned (.bool (decide (r∈T.bts s)))/\Below w.heap.size w w':=by
 by_cases h:0<=r/\r<128
 ·exact zgi s r w h.1 h.2
 ·have h':r<0∨128<=r:=by omega
  refine zk7 s r w hA h' ?_
  by_cases h1:r=65533
  ·subst h1;exact zn6 s w hA
  ·rcases hr with rfl | hR
   ·exact zi3 s (-1) w (by decide) h' h1
   ·have h0:0<=r:=by unfold M.right at hR;exact(of_decide_eq_true hR).1
    cases hv:Lib.validRune r with
    | true=>exact zn5 s r w hA hR hv (by omega) h1
    | false=>exact zi3 s r w hv h' h1
