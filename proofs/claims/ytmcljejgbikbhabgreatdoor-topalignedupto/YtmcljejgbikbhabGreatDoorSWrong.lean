/-
 Sets in texts, at the level of bytes; what is read of texts that are put together of what Print writes.
-/
import Derived.Test.YtmcljejgbikbhabGreatDoorTBack
import Derived.Laws.Strings
import Derived.Test.YtmcljejgbikbhabGreatDoorRows
import Derived.Test.YtmcljejgbikbhabGreatDoorSLib
import Derived.Deep.QuietTactic
import Derived.BigQuiet
set_option maxHeartbeats 0
namespace Go.Proofs.YtmcljejgbikbhabGreatDoor.T
open S (Sp)
def bytesR (l:List Int):List UInt8:=l.flatMap M.enc
def rightL (l:List Int):Prop:=∀r∈l,M.right r=true
theorem zer {r:Int}(h:M.right r=true):((r.toNat:Nat):Int)=r:=by
 unfold M.right at h;have:=of_decide_eq_true h;omega
theorem zkc {l:List Int}(h:rightL l):M.rn ⟨(bytesR l).toArray⟩=l:=by
 have e:bytesR l=(l.map Int.toNat).flatMap fun r:Nat=>M.enc (r:Int):=by
  unfold bytesR
  induction l with
  | nil=>rfl
  | cons x l ih =>
   simp only[List.flatMap_cons,List.map_cons];rw[ih fun r hr=>h r (List.mem_cons_of_mem _ hr),zer (h x List.mem_cons_self)]
 have hr:∀r∈l.map Int.toNat,M.right ((r:Nat):Int)=true:=fun r hr=>by
  obtain⟨x,hx,rfl⟩:=List.mem_map.1 hr;rw[zer (h x hx)];exact h x hx
 have h1:=(M.zrv _ hr).1;rw[M.ztb];show (M.ru (bytesR l)).map (fun x=>((x.1:Nat):Int))=l;rw[e];have h2:=congrArg (List.map fun r:Nat=>(r:Int)) h1;rw[List.map_map] at h2;rw[show ((fun r:Nat=>(r:Int))∘fun x:Nat×Nat=>x.1)=(fun x:Nat×Nat=>((x.1:Nat):Int)) from rfl] at h2;rw[h2,List.map_map];clear h1 h2 hr e
 induction l with
 | nil=>rfl
 | cons x l ih =>
  rw[List.map_cons,ih fun r hr=>h r (List.mem_cons_of_mem _ hr)];congr 1;exact zer (h x List.mem_cons_self)
theorem ziv {r:Int}(h0:0<=r)(h:r<128):M.right r=true:=by unfold M.right;simp;omega
/-! what is read of texts put together -/
end Go.Proofs.YtmcljejgbikbhabGreatDoor.T
namespace Go.Proofs.YtmcljejgbikbhabGreatDoor.R
open S (Sp)
open T (Out see skipW cut zgd zhb zka znu znt zsa zlj zfo)
/-! what is left of things by their kinds -/
def bareI (x:Item):Item:=if x.kind=1 then runeI x.rune else if x.kind=2 then setI x.set else if x.kind=3 then varI x.name else ⟨x.kind,0,[],⟨#[]⟩⟩
def bareS (s:Side):Side:=⟨s.start,s.fin,s.before.map bareI,s.source.map bareI,s.after.map bareI,s.cursor⟩
def bareP (p:Part):Part :=
 ⟨p.kind,if p.kind=1∨p.kind=4 then p.name else ⟨#[]⟩,if p.kind=1∨p.kind=3 then p.set else [],if p.kind=2 then p.dir else 0,if p.kind=2 then bareS p.left else noSide,if p.kind=2 then bareS p.right else noSide⟩
/-! the runes of what is written -/
def nameR (n:ByteArray):List Int:=n.data.toList.map fun b=>(b.toNat:Int)
def itemR (x:Item):List Int :=
 if x.kind=2 then T.prtR x.set
 else if x.kind=3 then 36::nameR x.name
 else T.quoR x.rune
def barR:List Int:= [124,32]
def itemsR:List Item->Int->List Int
 | [],c=>if c=0 then barR else []
 | x::l,c=>(if c=0 then barR else [])++(itemR x++ [32])++itemsR l (c - 1)
def sideR (s:Side):List Int :=
 (if s.start=true then [94,32] else [])++itemsR s.before (-1)++(if s.start=true∨0<s.before.length then [123,32] else []) ++
  itemsR s.source s.cursor++(if s.fin=true∨0<s.after.length then [125,32] else [])++itemsR s.after (-1)++(if s.fin=true then [36,32] else [])
def arrowR (d:Int):List Int:=if d=1 then [62] else if d=2 then [60] else [60,62]
def wordsR (p:Part):List Int :=
 if p.kind=1 then (36::nameR p.name)++ [32]++ [61,32]++(T.prtR p.set++ [32])
 else if p.kind=3 then [58,58,32]++(T.prtR p.set++ [32])
 else if p.kind=4 then [58,58,32]++(nameR p.name++ [32])
 else if p.kind=2 then sideR p.left++(arrowR p.dir++ [32])++sideR p.right
 else []
def partR (p:Part):List Int:=wordsR p++ [59,10]
def printR (l:List Part):List Int:=l.flatMap partR
theorem zi8 {x:Item}(h:itemE x=0):(x.kind=1/\M.right x.rune=true)∨(x.kind=2/\S.wrongE x.set=0)∨(x.kind=3/\named x.name=true):=by
 unfold itemE at h
 by_cases h1:x.kind=1
 ·rw[if_pos h1] at h
  by_cases h2:M.right x.rune=true
  ·exact .inl ⟨h1,h2⟩
  ·rw[if_neg h2] at h;cases h
 ·rw[if_neg h1] at h
  by_cases h2:x.kind=2
  ·rw[if_pos h2] at h;exact .inr (.inl ⟨h2,h⟩)
  ·rw[if_neg h2] at h
   by_cases h3:x.kind=3
   ·rw[if_pos h3] at h
    by_cases h4:named x.name=true
    ·exact .inr (.inr ⟨h3,h4⟩)
    ·rw[if_neg h4] at h;cases h
   ·rw[if_neg h3] at h;cases h
theorem zex {p:Part}(h:partE p=0):(p.kind=1/\named p.name=true/\S.wrongE p.set=0)∨(p.kind=3/\S.wrongE p.set=0)∨(p.kind=4/\passes p.name=true)∨(p.kind=2/\ruleE p=0):=by
 unfold partE at h
 by_cases h1:p.kind=1
 ·rw[if_pos h1] at h
  by_cases h2:named p.name=true
  ·rw[if_pos h2] at h;exact .inl ⟨h1,h2,h⟩
  ·rw[if_neg h2] at h;cases h
 ·rw[if_neg h1] at h
  by_cases h2:p.kind=3
  ·rw[if_pos h2] at h;exact .inr (.inl ⟨h2,h⟩)
  ·rw[if_neg h2] at h
   by_cases h3:p.kind=4
   ·rw[if_pos h3] at h
    by_cases h4:passes p.name=true
    ·exact .inr (.inr (.inl ⟨h3,h4⟩))
    ·rw[if_neg h4] at h;cases h
   ·rw[if_neg h3] at h
    by_cases h4:p.kind=2
    ·rw[if_pos h4] at h;exact .inr (.inr (.inr ⟨h4,h⟩))
    ·rw[if_neg h4] at h;cases h
/-! names -/
theorem zih {r:Int}(h:wordy r=true):48<=r/\r<=122:=by
 unfold wordy letter digit at h;simp only[Bool.or_eq_true,Bool.and_eq_true,decide_eq_true_eq] at h;omega
theorem zhr {r:Int}(h:letter r=true):wordy r=true:=by unfold wordy;rw[h];rfl
/-! gaps -/
def bl (m:List Int):Prop:=∀x∈m,T.blank x=true
/-! items -/
def stops (a:Int) (r:List Int):Prop:=a=123∨a=125∨a=62∨a=60∨a=59∨(a=36/\∃r',r=32::r')
end Go.Proofs.YtmcljejgbikbhabGreatDoor.R
namespace Go.Proofs.YtmcljejgbikbhabGreatDoor
open Go.RowKit
theorem za6 (r:Int)(w:World) :
  Calls Tryz.prog 125 #[.int .i32 r] w fun e w'=>e= .returned (.bool (R.letter r))/\w'=w:=by
 go_enter Tryz.func125,Tryz.ntmps125
 go_wp2
 all_goals go_ret
 all_goals refine⟨L.zak ?_,rfl⟩
 all_goals (unfold R.letter;rw[Bool.eq_iff_iff];simp;try omega)
theorem zdn (r:Int)(w:World) :
  Calls Tryz.prog 126 #[.int .i32 r] w fun e w'=>e= .returned (.bool (R.digit r))/\w'=w:=by
 go_enter Tryz.func126,Tryz.ntmps126
 go_wp2
 all_goals go_ret
 all_goals refine⟨L.zak ?_,rfl⟩
 all_goals (unfold R.digit;rw[Bool.eq_iff_iff];simp;try omega)
theorem zsz (L:List UInt8)(h:128<=M.bt L 0):128<=(M.d0 L).1:=by
 unfold M.d0 Lib.decodeN
 repeat' split
 all_goals simp only
 all_goals omega
theorem zo3 {l:List UInt8}{k:Nat}{b:UInt8}(hx:l[k]?=some b):R.goodFrom k (l.drop k)=(R.good k b&&R.goodFrom (k+1) (l.drop (k+1))):=by
 have hlt:=(qL.1 hx).1;rw[List.drop_eq_getElem_cons hlt];have:l[k]=b:=by rw[List.getElem?_eq_getElem hlt] at hx;exact Option.some.inj hx
 rw[this];rfl
theorem zst {i:Nat}{b:UInt8}(h:128<=b.toNat):R.good i b=false:=by
 unfold R.good R.letter R.digit;rw[Bool.eq_false_iff];simp;omega
theorem zdh (s:ByteArray)(w:World) :
  Calls Tryz.prog 99 #[.string s] w fun e w'=>e= .returned (.bool (R.named s))/\Below w.heap.size w w':=by
 obtain⟨o,HO⟩:∃o,Hid (R.named s=o):=⟨_,rfl⟩;rw[HO.out];have HLn:Hid (s.data.toList.length=s.size):=by show _=_;simp
 go_enter Tryz.func99,Tryz.ntmps99
 go_wp2
 go_loopw [3] (fun _ wr=>∃pos:Nat,wr.heap[w.heap.size]?=some (.stringIter s pos)/\Hid (Below w.heap.size w wr)/\Hid (R.goodFrom 0 s.data.toList=R.goodFrom pos (s.data.toList.drop pos))) (fun _ wr=>s.size - wr.iterPos w.heap.size)
 case atStart=>exact⟨0,World.iter_heap w s 0,(qR _).alloc qN _,rfl⟩
 case round =>
  obtain⟨pos,hit,HB,HG⟩:=hrel;have hpos0:=iterPos_of hit
  by_cases hp:pos<s.size
  ·have hnx:∀ty,(Instr.next (.pointer (some ⟨w.heap.size,0,none⟩)) true ty).run Tryz.prog wr=_:=fun ty=>Lib.run_next_any_at wr w.heap.size s pos ty hit hp
   have hwd:=M.width_pos s pos hp;have hit2:=Lib.iterAt_heap wr w.heap.size s pos (pos+(Utf8.decode s pos).2) hit;have HB2:Hid (Below w.heap.size w (wr.iterAt w.heap.size s (pos+(Utf8.decode s pos).2))):=Lib.below_iterAt HB.out (k:=w.heap.size) qN s (pos+(Utf8.decode s pos).2);obtain⟨b,hb⟩:∃b,s.data.toList[pos]?=some b:=⟨s.data.toList[pos]'(by have:=HLn.out;omega),by rw[List.getElem?_eq_getElem]⟩;have hb0:M.bt (s.data.toList.drop pos) 0=b.toNat:=by simp[M.bt,hb]
   have hg:=zo3 hb;rw[<- HG.out] at hg;have HH:Hid _:=hg
   have HD:Hid ((b.toNat<128->Utf8.decode s pos=(b.toNat,1))/\(128<=b.toNat->128<=(Utf8.decode s pos).1)):=by
    refine⟨fun h=> ?_,fun h=> ?_⟩
    ·rw[M.ze9];unfold M.d0 Lib.decodeN;rw[hb0,if_pos h]
    ·rw[M.ze9];exact zsz _ (by rw[hb0];exact h)
   clear hg hb hb0 hit;generalize hW:wr.iterAt w.heap.size s (pos+(Utf8.decode s pos).2)=W1 at hnx hit2 HB2;clear hW;obtain⟨⟨r,wd⟩,hrw⟩:∃x,x=Utf8.decode s pos:=⟨_,rfl⟩;rw[<- hrw] at hnx hwd hit2 HD;clear hrw;simp only at hnx hwd hit2
   by_cases h128:b.toNat<128
   ·have e1:=HD.out.1 h128;simp only[Prod.mk.injEq] at e1;obtain⟨rfl,rfl⟩:=e1;cases hl:R.letter (b.toNat:Int) with
    | true =>
     have HL:Hid (R.letter (b.toNat:Int)=true):=hl;clear hl
     go_wp2_with (go_at_call 125;refine(za6 _ _).mono ?_;rintro e w1 ⟨rfl,rfl⟩;rw[HL.out])
     go_roundw
     case rel=>exact⟨_,hit2,HB2,by show _=_;rw[HH.out];unfold R.good;rw[HL.out];simp⟩
     case measure=>rw[iterPos_of hit2,hpos0];omega
    | false =>
     have HL:Hid (R.letter (b.toNat:Int)=false):=hl;clear hl
     by_cases h0:pos=0
     ·subst h0
      go_wp2_with (go_at_call 125;refine(za6 _ _).mono ?_;rintro e w1 ⟨rfl,rfl⟩;rw[HL.out])
      go_ret;refine⟨L.zak ?_,HB2.out⟩
      rw[<- HO.out];unfold R.named;rw[HH.out];unfold R.good;rw[HL.out];simp
     ·cases hd:R.digit (b.toNat:Int) with
      | true =>
       have HDg:Hid (R.digit (b.toNat:Int)=true):=hd;clear hd
       go_wp2_with (first
        | (go_at_call 125;refine(za6 _ _).mono ?_;rintro e w1 ⟨rfl,rfl⟩;rw[HL.out])
        | (go_at_call 126;refine(zdn _ _).mono ?_;rintro e w1 ⟨rfl,rfl⟩;rw[HDg.out]))
       go_roundw
       case rel=>exact⟨_,hit2,HB2,by show _=_;rw[HH.out];unfold R.good;rw[HL.out,HDg.out];simp[h0]⟩
       case measure=>rw[iterPos_of hit2,hpos0];omega
      | false =>
       have HDg:Hid (R.digit (b.toNat:Int)=false):=hd;clear hd
       go_wp2_with (first
        | (go_at_call 125;refine(za6 _ _).mono ?_;rintro e w1 ⟨rfl,rfl⟩;rw[HL.out])
        | (go_at_call 126;refine(zdn _ _).mono ?_;rintro e w1 ⟨rfl,rfl⟩;rw[HDg.out]))
       go_ret;refine⟨L.zak ?_,HB2.out⟩
       rw[<- HO.out];unfold R.named;rw[HH.out];unfold R.good;rw[HL.out,HDg.out];simp
   ·have e1:=HD.out.2 (by omega);simp only at e1;have HL:Hid (R.letter (r:Int)=false):=by show _=_;unfold R.letter;rw[Bool.eq_false_iff];simp;omega
    have HDg:Hid (R.digit (r:Int)=false):=by show _=_;unfold R.digit;rw[Bool.eq_false_iff];simp;omega
    have HN:Hid (false=o):=by show _=_;rw[<- HO.out];unfold R.named;rw[HH.out,zst (by omega)];simp
    by_cases h0:pos=0
    ·subst h0
     go_wp2_with (go_at_call 125;refine(za6 _ _).mono ?_;rintro e w1 ⟨rfl,rfl⟩;rw[HL.out])
     go_ret;exact⟨L.zak HN.out,HB2.out⟩
    ·go_wp2_with (first
      | (go_at_call 125;refine(za6 _ _).mono ?_;rintro e w1 ⟨rfl,rfl⟩;rw[HL.out])
      | (go_at_call 126;refine(zdn _ _).mono ?_;rintro e w1 ⟨rfl,rfl⟩;rw[HDg.out]))
     go_ret;exact⟨L.zak HN.out,HB2.out⟩
  ·have hnx:∀ty,(Instr.next (.pointer (some ⟨w.heap.size,0,none⟩)) true ty).run Tryz.prog wr=_:=fun ty=>Lib.run_next_end_at wr w.heap.size s pos ty hit hp
   have HE:Hid (R.goodFrom 0 s.data.toList=true):=by
    show _=_;rw[HG.out,List.drop_eq_nil_of_le (by have:=HLn.out;omega)];rfl
   by_cases h0:s.size=0
   ·have hs:s=⟨#[]⟩:=by
     have:s.data=#[]:=Array.eq_empty_of_size_eq_zero h0;cases s;simp_all
    subst hs;go_wp2;go_ret;refine⟨L.zak ?_,HB.out⟩;rw[<- HO.out];rfl
   ·have hemp:s.toList.isEmpty=false:=by
     rw[<- decide_eq_emptyBytes];exact decide_eq_false (fun h=>h0 (by rw[h];rfl))
    go_wp2;go_ret
    refine⟨L.zak ?_,HB.out⟩;rw[<- HO.out];unfold R.named;rw[HE.out,Bool.eq_iff_iff];simp;omega
theorem zdw (s:ByteArray)(w:World) :
  Calls Tryz.prog 100 #[.string s] w fun e w'=>e= .returned (.bool (R.passes s))/\w'=w:=by
 unfold R.passes
 go_enter Tryz.func100,Tryz.ntmps100
 go_wp2
 all_goals go_ret
 all_goals refine⟨L.zak ?_,rfl⟩
 all_goals simp_all
end Go.Proofs.YtmcljejgbikbhabGreatDoor
namespace Go.Proofs.YtmcljejgbikbhabGreatDoor
open Go.RowKit
theorem zcv (w:World)(x:S.Sp) :
  Calls Tryz.prog 55 #[.agg #[.int .i32 x.1,.int .i32 x.2]] w fun e w'=>e= .returned (.bool (S.bad x))/\Below w.heap.size w w':=by
 obtain⟨x1,x2⟩:=x;unfold S.bad
 by_cases h1:x1<0
 ·go_enter Tryz.func55,Tryz.ntmps55
  go_wp2;go_ret
  exact⟨by simp[h1],(qR w).alloc qN _⟩
 ·by_cases h2:1114111<x2
  ·go_enter Tryz.func55,Tryz.ntmps55
   go_wp2;go_ret
   exact⟨by simp,(qR w).alloc qN _⟩
  ·by_cases h3:x2<x1
   ·go_enter Tryz.func55,Tryz.ntmps55
    go_wp2;go_ret
    exact⟨by simp,(qR w).alloc qN _⟩
   ·go_enter Tryz.func55,Tryz.ntmps55
    go_wp2;go_ret
    exact⟨by simp[h1,h2,h3],(qR w).alloc qN _⟩
theorem zd9 {l:List S.Sp}{k:Nat}{x:S.Sp}{b:Int}(hx:l[k]?=some x):S.wgo b (l.drop k)=if S.bad x=true then 3 else if x.1<b then 2 else S.wgo (x.2+2) (l.drop (k+1)):=by
 have hlt:=(qL.1 hx).1;rw[List.drop_eq_getElem_cons hlt];have:l[k]=x:=by rw[List.getElem?_eq_getElem hlt] at hx;exact Option.some.inj hx
 rw[this];rfl
theorem zb2 (w:World)(v:Value)(l:List S.Sp)(R:S.Rd w v l)(hf:S.Fit l) :
  Calls Tryz.prog 32 #[v] w fun e w'=>e= .returned (.int .i64 (S.wrongE l))/\Below w.heap.size w w':=by
 obtain⟨ao,cap,rfl,hn,hc⟩:=R;unfold S.wrongE
 by_cases hbig:200<l.length
 ·rw[if_pos hbig]
  go_enter Tryz.func32,Tryz.ntmps32
  go_wp2;go_ret
  exact⟨rfl,qR w⟩
 ·rw[if_neg hbig]
  go_enter Tryz.func32,Tryz.ntmps32
  go_wp2
  go_loopw [10] (fun i wr=>∃k:Nat,k<=l.length/\i= .int .i64 k/\Hid (∃b,S.wgo 0 l=S.wgo b (l.drop k)/\(k=0->b=0)/\∀p,0<k->l[k-1]?=some p->b=p.2+2/\p.2<=1114111)/\Hid (Below w.heap.size w wr)) (fun i _=>l.length - (intOf i).toNat)
  case atStart=>exact⟨0,Nat.zero_le _,rfl,⟨0,by simp,fun _=>rfl,fun p h=>absurd h (Nat.lt_irrefl _)⟩,qR w⟩
  case round =>
   obtain⟨k,hk,rfl,HW,HB⟩:=hrel
   by_cases hlt:k<l.length
   ·obtain⟨b,off,rfl,hcell⟩:=hc (by intro h;subst h;simp at hlt);obtain⟨x,hx⟩:∃x,l[k]?=some x:=⟨l[k],by simp[hlt]⟩;have c0:=hcell k x hx;have hb:=L.block_lt c0.1;have cc:∀o,wr.cell? ⟨b,o,none⟩=w.cell? ⟨b,o,none⟩:=fun o=>HB.out.cell (p:=⟨b,o,none⟩) hb
    have c1:=c0.1;have c2:=c0.2;rw[<- cc] at c1 c2;have HX:Hid (l[k]?=some x):=hx;have fx:=hf.at hx;have hsz:=HB.out.size;obtain⟨x1,x2⟩:=x;simp only at c1 c2 fx;clear c0 hx;cases hbad:S.bad (x1,x2) with
    | true =>
     have HR:Hid (S.bad (x1,x2)=true):=hbad;clear hbad cc hcell hc
     go_wp2_with (go_at_call 55;go_must (refine(zcv _ (x1,x2)).mono ?_;rintro e w1 ⟨rfl,HB1⟩;rw[HR.out]))
     go_ret;obtain⟨bb,he,_⟩:=HW.out
     refine⟨?_,?_⟩
     ·rw[he,zd9 HX.out,HR.out];rfl
     ·exact(HB.out.alloc hsz _).trans (HB1.mono (by simp;omega))
    | false =>
     have HR:Hid (S.bad (x1,x2)=false):=hbad;have hok:=S.bad_false.1 hbad;simp only at hok;clear hbad;cases k with
     | zero =>
      clear cc hcell hc;simp only[Nat.zero_mul,Nat.add_zero] at c1 c2
      go_wp2_with (go_at_call 55;go_must (refine(zcv _ (x1,x2)).mono ?_;rintro e w1 ⟨rfl,HB1⟩;rw[HR.out]))
      obtain⟨⟨d1,d2⟩,_,hs1,hb1⟩:=S.boxed HB1;have HB2:Hid (Below w.heap.size w w1):=HB.out.trans (hb1.mono hsz);clear HB1 hb1
      go_quiet (fail)
      go_wp2
      go_roundw
      case rel =>
       obtain⟨bb,he,h0,_⟩:=HW.out;refine⟨1,by omega,by go_num,⟨x2+2,?_,fun h=>by omega,fun p _ hp=> ?_⟩,below_drewN HB2.out _⟩
       ·rw[he,zd9 HX.out,HR.out,h0 trivial,if_neg (by simp),if_neg (by simp;omega)]
       ·have h1:=HX.out;rw[hp] at h1;cases h1;exact⟨rfl,by omega⟩
      case measure=>simp[intOf];omega
     | succ m =>
      obtain⟨p,hp⟩:∃p,l[m]?=some p:=⟨l[m]'(by omega),by simp[show m<l.length by omega]⟩;have c3:=(hcell m p hp).2;rw[<- cc] at c3;have fp:=hf.at hp;have HP:Hid (l[m]?=some p):=hp;obtain⟨p1,p2⟩:=p;simp only at c3 fp;clear cc hcell hc hp
      go_wp2_with (go_at_call 55;go_must (refine(zcv _ (x1,x2)).mono ?_;rintro e w1 ⟨rfl,HB1⟩;rw[HR.out]))
      obtain⟨⟨d1,d2⟩,hold,hs1,hb1⟩:=S.boxed HB1
      replace c3:=hold _ _ _ c3
      have HB2:Hid (Below w.heap.size w w1):=HB.out.trans (hb1.mono hsz);obtain⟨bb,he,_,hpp⟩:=HW.out;obtain⟨rfl,hp2⟩:=hpp _ (Nat.succ_pos _) HP.out;simp only at hp2;have HE:Hid (S.wgo 0 l=S.wgo (p2+2) (l.drop (m+1))):=he;clear HB1 hb1 hold he hpp HW
      by_cases hlow:x1<p2+2
      ·go_quiet (fail)
       go_wp2;go_ret
       refine⟨?_,below_drewN HB2.out _⟩;rw[HE.out,zd9 HX.out,HR.out,if_neg (by simp),if_pos hlow];rfl
      ·go_quiet (fail)
       go_wp2
       go_roundw
       case rel =>
        refine⟨m+1+1,by omega,by go_num,⟨x2+2,?_,fun h=>by omega,fun p _ hp=> ?_⟩,below_drewN HB2.out _⟩
        ·rw[HE.out,zd9 HX.out,HR.out,if_neg (by simp),if_neg hlow]
        ·have h1:=HX.out;have hp:l[m+1]?=some p:=hp;rw[hp] at h1;cases h1;exact⟨rfl,by omega⟩
       case measure=>simp[intOf];omega
   ·go_wp2;go_ret
    refine⟨?_,HB.out⟩;obtain⟨b,he,_⟩:=HW.out;rw[he,List.drop_eq_nil_of_le (by omega)];rfl
end Go.Proofs.YtmcljejgbikbhabGreatDoor
