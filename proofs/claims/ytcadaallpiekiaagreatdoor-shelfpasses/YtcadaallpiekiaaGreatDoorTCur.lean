import Derived.Test.YtcadaallpiekiaaGreatDoorTBack
import Derived.Laws.Strings
import Derived.Deep.QuietTactic
import Derived.BigQuiet
import Derived.RegionTactic
set_option maxHeartbeats 0
namespace Go.Proofs.YtcadaallpiekiaaGreatDoor
open Go.Proofs.Tryz
namespace T
open S (Sp)
def bytesR (l:List Int):List UInt8:=l.flatMap M.enc
def rightL (l:List Int):Prop:=∀r∈l,M.right r=true
theorem zfk {r:Int}(h:M.right r=true):((r.toNat:Nat):Int)=r:=by
 unfold M.right at h;have:=of_decide_eq_true h;omega
theorem zc3 {l:List Int}(h:rightL l):M.rn ⟨(bytesR l).toArray⟩=l:=by
 have e:bytesR l=(l.map Int.toNat).flatMap fun r:Nat=>M.enc (r:Int):=by
  unfold bytesR
  induction l with
  | nil=>rfl
  | cons x l ih =>
   simp only[List.flatMap_cons,List.map_cons];rw[ih fun r hr=>h r (List.mem_cons_of_mem _ hr),zfk (h x List.mem_cons_self)]
 have hr:∀r∈l.map Int.toNat,M.right ((r:Nat):Int)=true:=fun r hr=>by
  obtain⟨x,hx,rfl⟩:=List.mem_map.1 hr;rw[zfk (h x hx)];exact h x hx
 have h1:=(M.ztf _ hr).1;rw[M.zu8];show (M.ru (bytesR l)).map (fun x=>((x.1:Nat):Int))=l;rw[e];have h2:=congrArg (List.map fun r:Nat=>(r:Int)) h1;rw[List.map_map] at h2;rw[show ((fun r:Nat=>(r:Int))∘fun x:Nat×Nat=>x.1)=(fun x:Nat×Nat=>((x.1:Nat):Int)) from rfl] at h2;rw[h2,List.map_map];clear h1 h2 hr e
 induction l with
 | nil=>rfl
 | cons x l ih =>
  rw[List.map_cons,ih fun r hr=>h r (List.mem_cons_of_mem _ hr)];congr 1;exact zfk (h x List.mem_cons_self)
theorem zkb {r:Int}(h0:0<=r)(h:r<128):M.right r=true:=by unfold M.right;simp;omega
/-! what is read of texts put together -/
end T
namespace R
open S (Sp)
open T (Out see skipW cut zhh zid zlr zo1 zo0 ztv zms zgg)
/-! what is left of things by their kinds -/
def bareI (x:Item):Item:=if x.kind=1 then runeI x.rune else if x.kind=2 then setI x.set else if x.kind=3 then varI x.name else ⟨x.kind,0,[],⟨#[]⟩⟩
def bareS (s:Side):Side:=⟨s.start,s.fin,s.before.map bareI,s.source.map bareI,s.after.map bareI,s.cursor⟩
def bareP (p:Part):Part :=
 ⟨p.kind,if p.kind=1∨p.kind=4 then p.name else ⟨#[]⟩,if p.kind=1∨p.kind=3 then p.set else [],if p.kind=2 then p.dir else 0,if p.kind=2 then bareS p.left else noSide,if p.kind=2 then bareS p.right else noSide⟩
/-! the runes of what is written -/
def nameR (n:ByteArray):List Int:=n.data.toList.map fun b=>(b.toNat:Int)
def itemR (x:Item):List Int :=
 if x.kind=2 then T.prtR x.set
 else if x.kind=3 then 36::nameR x.name
 else T.quoR x.rune
def barR:List Int:= [124,32]
def itemsR:List Item->Int->List Int
 | [],c=>if c=0 then barR else []
 | x::l,c=>(if c=0 then barR else [])++(itemR x++ [32])++itemsR l (c-1)
def sideR (s:Side):List Int :=
 (if s.start=true then [94,32] else [])++itemsR s.before (-1)++(if s.start=true∨0<s.before.length then [123,32] else []) ++
  itemsR s.source s.cursor++(if s.fin=true∨0<s.after.length then [125,32] else [])++itemsR s.after (-1)++(if s.fin=true then [36,32] else [])
def arrowR (d:Int):List Int:=if d=1 then [62] else if d=2 then [60] else [60,62]
def wordsR (p:Part):List Int :=
 if p.kind=1 then (36::nameR p.name)++ [32]++ [61,32]++(T.prtR p.set++ [32])
 else if p.kind=3 then [58,58,32]++(T.prtR p.set++ [32])
 else if p.kind=4 then [58,58,32]++(nameR p.name++ [32])
 else if p.kind=2 then sideR p.left++(arrowR p.dir++ [32])++sideR p.right
 else []
def partR (p:Part):List Int:=wordsR p++ [59,10]
def printR (l:List Part):List Int:=l.flatMap partR
theorem zkv {x:Item}(h:itemE x=0):(x.kind=1/\M.right x.rune=true)∨(x.kind=2/\S.wrongE x.set=0)∨(x.kind=3/\named x.name=true):=by
 unfold itemE at h
 by_cases h1:x.kind=1
 ·rw[if_pos h1] at h
  by_cases h2:M.right x.rune=true
  ·exact .inl ⟨h1,h2⟩
  ·rw[if_neg h2] at h;cases h
 ·rw[if_neg h1] at h
  by_cases h2:x.kind=2
  ·rw[if_pos h2] at h;exact .inr (.inl ⟨h2,h⟩)
  ·rw[if_neg h2] at h
   by_cases h3:x.kind=3
   ·rw[if_pos h3] at h
    by_cases h4:named x.name=true
    ·exact .inr (.inr ⟨h3,h4⟩)
    ·rw[if_neg h4] at h;cases h
   ·rw[if_neg h3] at h;cases h
theorem zcn {p:Part}(h:partE p=0):(p.kind=1/\named p.name=true/\S.wrongE p.set=0)∨(p.kind=3/\S.wrongE p.set=0)∨(p.kind=4/\passes p.name=true)∨(p.kind=2/\ruleE p=0):=by
 unfold partE at h
 by_cases h1:p.kind=1
 ·rw[if_pos h1] at h
  by_cases h2:named p.name=true
  ·rw[if_pos h2] at h;exact .inl ⟨h1,h2,h⟩
  ·rw[if_neg h2] at h;cases h
 ·rw[if_neg h1] at h
  by_cases h2:p.kind=3
  ·rw[if_pos h2] at h;exact .inr (.inl ⟨h2,h⟩)
  ·rw[if_neg h2] at h
   by_cases h3:p.kind=4
   ·rw[if_pos h3] at h
    by_cases h4:passes p.name=true
    ·exact .inr (.inr (.inl ⟨h3,h4⟩))
    ·rw[if_neg h4] at h;cases h
   ·rw[if_neg h3] at h
    by_cases h4:p.kind=2
    ·rw[if_pos h4] at h;exact .inr (.inr (.inr ⟨h4,h⟩))
    ·rw[if_neg h4] at h;cases h
/-! names -/
theorem zjv {r:Int}(h:wordy r=true):48<=r/\r<=122:=by
 unfold wordy letter digit at h;simp only[Bool.or_eq_true,Bool.and_eq_true,decide_eq_true_eq] at h;omega
theorem zi4 {r:Int}(h:letter r=true):wordy r=true:=by unfold wordy;rw[h];rfl
/-! gaps -/
def bl (m:List Int):Prop:=∀x∈m,T.blank x=true
/-! items -/
def stops (a:Int) (r:List Int):Prop:=a=123∨a=125∨a=62∨a=60∨a=59∨(a=36/\∃r',r=32::r')
end R
section
open Go.RowKit
theorem zbc (r:Int)(w:World) :
  Calls prog 136 #[.int .i32 r] w fun e w'=>e=.returned (.bool (R.letter r))/\w'=w:=by
 go_enter func136,ntmps136
 go_wp2
 all_goals go_ret
 all_goals refine⟨L.zaj ?_,rfl⟩
 all_goals (unfold R.letter;rw[Bool.eq_iff_iff];simp;try omega)
theorem zd8 (r:Int)(w:World) :
  Calls prog 137 #[.int .i32 r] w fun e w'=>e=.returned (.bool (R.digit r))/\w'=w:=by
 go_enter func137,ntmps137
 go_wp2
 all_goals go_ret
 all_goals refine⟨L.zaj ?_,rfl⟩
 all_goals (unfold R.digit;rw[Bool.eq_iff_iff];simp;try omega)
theorem zut (L:List UInt8)(h:128<=M.bt L 0):128<=(M.d0 L).1:=by
 unfold M.d0 Lib.decodeN
 repeat' split
 all_goals simp only
 all_goals omega
theorem zqd {l:List UInt8}{k:Nat}{b:UInt8}(hx:l[k]?=some b):R.goodFrom k (l.drop k)=(R.good k b&&R.goodFrom (k+1) (l.drop (k+1))):=by
 have hlt:=(qL.1 hx).1;rw[List.drop_eq_getElem_cons hlt];have:l[k]=b:=by rw[List.getElem?_eq_getElem hlt] at hx;exact Option.some.inj hx
 rw[this];rfl
theorem zuo {i:Nat}{b:UInt8}(h:128<=b.toNat):R.good i b=false:=by
 unfold R.good R.letter R.digit;rw[Bool.eq_false_iff];simp;omega
theorem zd1 (s:ByteArray)(w:World) :
  Calls prog 113 #[.string s] w fun e w'=>e=.returned (.bool (R.named s))/\Bl w w':=by
 obtain⟨o,HO⟩:∃o,Hid (R.named s=o):=⟨_,rfl⟩;rw[HO.out];have HLn:Hid (s.data.toList.length=s.size):=by show _=_;simp
 go_enter func113,ntmps113
 go_wp2
 go_loopw [3] (fun _ wr=>∃pos:Nat,wr.heap[w.heap.size]?=some (.stringIter s pos)/\Hid (Bl w wr)/\Hid (R.goodFrom 0 s.data.toList=R.goodFrom pos (s.data.toList.drop pos))) (fun _ wr=>s.size-wr.iterPos w.heap.size)
 case atStart=>exact⟨0,World.iter_heap w s 0,(qR _).alloc qN _,rfl⟩
 case round =>
  obtain⟨pos,hit,HB,HG⟩:=hrel;have hpos0:=iterPos_of hit
  by_cases hp:pos<s.size
  ·have hnx:∀ty,(Instr.next (.pointer (some ⟨w.heap.size,0,none⟩)) true ty).run prog wr=_:=fun ty=>Lib.run_next_any_at wr w.heap.size s pos ty hit hp
   have hwd:=M.width_pos s pos hp;have hit2:=Lib.iterAt_heap wr w.heap.size s pos (pos+(Utf8.decode s pos).2) hit;have HB2:=qH<|Lib.below_iterAt HB.out (k:=w.heap.size) qN s (pos+(Utf8.decode s pos).2);obtain⟨b,hb⟩:∃b,s.data.toList[pos]?=some b:=⟨s.data.toList[pos]'(by have:=HLn.out;omega),by rw[List.getElem?_eq_getElem]⟩;have hb0:M.bt (s.data.toList.drop pos) 0=b.toNat:=by simp[M.bt,hb]
   have hg:=zqd hb;rw[<- HG.out] at hg;have HH:Hid _:=hg
   have HD:Hid ((b.toNat<128->Utf8.decode s pos=(b.toNat,1))/\(128<=b.toNat->128<=(Utf8.decode s pos).1)):=by
    refine⟨fun h=> ?_,fun h=> ?_⟩
    ·rw[M.zf2];unfold M.d0 Lib.decodeN;rw[hb0,if_pos h]
    ·rw[M.zf2];exact zut _ (by rw[hb0];exact h)
   clear hg hb hb0 hit;generalize hW:wr.iterAt w.heap.size s (pos+(Utf8.decode s pos).2)=W1 at hnx hit2 HB2;clear hW;obtain⟨⟨r,wd⟩,hrw⟩:∃x,x=Utf8.decode s pos:=⟨_,rfl⟩;rw[<- hrw] at hnx hwd hit2 HD;clear hrw;simp only at hnx hwd hit2
   by_cases h128:b.toNat<128
   ·have e1:=HD.out.1 h128;simp only[Prod.mk.injEq] at e1;obtain⟨rfl,rfl⟩:=e1;cases hl:R.letter (b.toNat:Int) with
    | true =>
     have HL:=qH hl;clear hl
     go_wp2_with (go_at_call 136;refine(zbc _ _).mono ?_;rintro e w1 ⟨rfl,rfl⟩;rw[HL.out])
     go_roundw
     case rel=>exact⟨_,hit2,HB2,by show _=_;rw[HH.out];unfold R.good;rw[HL.out];simp⟩
     case measure=>rw[iterPos_of hit2,hpos0];omega
    | false =>
     have HL:=qH hl;clear hl
     by_cases h0:pos=0
     ·subst h0
      go_wp2_with (go_at_call 136;refine(zbc _ _).mono ?_;rintro e w1 ⟨rfl,rfl⟩;rw[HL.out])
      go_ret;refine⟨L.zaj ?_,HB2.out⟩
      rw[<- HO.out];unfold R.named;rw[HH.out];unfold R.good;rw[HL.out];simp
     ·cases hd:R.digit (b.toNat:Int) with
      | true =>
       have HDg:=qH hd;clear hd
       go_wp2_with (first
        | (go_at_call 136;refine(zbc _ _).mono ?_;rintro e w1 ⟨rfl,rfl⟩;rw[HL.out])
        | (go_at_call 137;refine(zd8 _ _).mono ?_;rintro e w1 ⟨rfl,rfl⟩;rw[HDg.out]))
       go_roundw
       case rel=>exact⟨_,hit2,HB2,by show _=_;rw[HH.out];unfold R.good;rw[HL.out,HDg.out];simp[h0]⟩
       case measure=>rw[iterPos_of hit2,hpos0];omega
      | false =>
       have HDg:=qH hd;clear hd
       go_wp2_with (first
        | (go_at_call 136;refine(zbc _ _).mono ?_;rintro e w1 ⟨rfl,rfl⟩;rw[HL.out])
        | (go_at_call 137;refine(zd8 _ _).mono ?_;rintro e w1 ⟨rfl,rfl⟩;rw[HDg.out]))
       go_ret;refine⟨L.zaj ?_,HB2.out⟩
       rw[<- HO.out];unfold R.named;rw[HH.out];unfold R.good;rw[HL.out,HDg.out];simp
   ·have e1:=HD.out.2 (by omega);simp only at e1;have HL:Hid (R.letter (r:Int)=false):=by show _=_;unfold R.letter;rw[Bool.eq_false_iff];simp;omega
    have HDg:Hid (R.digit (r:Int)=false):=by show _=_;unfold R.digit;rw[Bool.eq_false_iff];simp;omega
    have HN:Hid (false=o):=by show _=_;rw[<- HO.out];unfold R.named;rw[HH.out,zuo (by omega)];simp
    by_cases h0:pos=0
    ·subst h0
     go_wp2_with (go_at_call 136;refine(zbc _ _).mono ?_;rintro e w1 ⟨rfl,rfl⟩;rw[HL.out])
     go_ret;exact⟨L.zaj HN.out,HB2.out⟩
    ·go_wp2_with (first
      | (go_at_call 136;refine(zbc _ _).mono ?_;rintro e w1 ⟨rfl,rfl⟩;rw[HL.out])
      | (go_at_call 137;refine(zd8 _ _).mono ?_;rintro e w1 ⟨rfl,rfl⟩;rw[HDg.out]))
     go_ret;exact⟨L.zaj HN.out,HB2.out⟩
  ·have hnx:∀ty,(Instr.next (.pointer (some ⟨w.heap.size,0,none⟩)) true ty).run prog wr=_:=fun ty=>Lib.run_next_end_at wr w.heap.size s pos ty hit hp
   have HE:Hid (R.goodFrom 0 s.data.toList=true):=by
    show _=_;rw[HG.out,List.drop_eq_nil_of_le (by have:=HLn.out;omega)];rfl
   by_cases h0:s.size=0
   ·have hs:s=⟨#[]⟩:=by
     have:s.data=#[]:=Array.eq_empty_of_size_eq_zero h0;cases s;simp_all
    subst hs;go_wp2;go_ret;refine⟨L.zaj ?_,HB.out⟩;rw[<- HO.out];rfl
   ·have hemp:s.toList.isEmpty=false:=by
     rw[<- decide_eq_emptyBytes];exact decide_eq_false (fun h=>h0 (by rw[h];rfl))
    go_wp2;go_ret
    refine⟨L.zaj ?_,HB.out⟩;rw[<- HO.out];unfold R.named;rw[HE.out,Bool.eq_iff_iff];simp;omega
theorem zem (s:ByteArray)(w:World) :
  Calls prog 114 #[.string s] w fun e w'=>e=.returned (.bool (R.passes s))/\w'=w:=by
 unfold R.passes
 go_enter func114,ntmps114
 go_wp2
 all_goals go_ret
 all_goals refine⟨L.zaj ?_,rfl⟩
 all_goals simp_all
theorem zdg (w:World)(x:S.Sp) :
  Calls prog 101 #[.agg #[.int .i32 x.1,.int .i32 x.2]] w fun e w'=>e=.returned (.bool (S.bad x))/\Bl w w':=by
 obtain⟨x1,x2⟩:=x;unfold S.bad
 by_cases h1:x1<0
 ·go_enter func101,ntmps101
  go_wp2;go_ret
  exact⟨by simp[h1],(qR w).alloc qN _⟩
 ·by_cases h2:1114111<x2
  ·go_enter func101,ntmps101
   go_wp2;go_ret
   exact⟨by simp,(qR w).alloc qN _⟩
  ·by_cases h3:x2<x1
   ·go_enter func101,ntmps101
    go_wp2;go_ret
    exact⟨by simp,(qR w).alloc qN _⟩
   ·go_enter func101,ntmps101
    go_wp2;go_ret
    exact⟨by simp[h1,h2,h3],(qR w).alloc qN _⟩
theorem zb2 {l:List S.Sp}{k:Nat}{x:S.Sp}{b:Int}(hx:l[k]?=some x):S.wgo b (l.drop k)=if S.bad x=true then 3 else if x.1<b then 2 else S.wgo (x.2+2) (l.drop (k+1)):=by
 have hlt:=(qL.1 hx).1;rw[List.drop_eq_getElem_cons hlt];have:l[k]=x:=by rw[List.getElem?_eq_getElem hlt] at hx;exact Option.some.inj hx
 rw[this];rfl
theorem zcc (w:World)(v:Value)(l:List S.Sp)(R:S.Rd w v l)(hf:S.Fit l) :
  Calls prog 73 #[v] w fun e w'=>e=.returned (.int .i64 (S.wrongE l))/\Bl w w':=by
 obtain⟨ao,cap,rfl,hn,hc⟩:=R;unfold S.wrongE
 by_cases hbig:200<l.length
 ·rw[if_pos hbig]
  go_enter func73,ntmps73
  go_wp2;go_ret
  exact⟨rfl,qR w⟩
 ·rw[if_neg hbig]
  go_enter func73,ntmps73
  go_wp2
  go_loopw [10] (fun i wr=>∃k:Nat,k<=l.length/\i=.int .i64 k/\Hid (∃b,S.wgo 0 l=S.wgo b (l.drop k)/\(k=0->b=0)/\∀p,0<k->l[k-1]?=some p->b=p.2+2/\p.2<=1114111)/\Hid (Bl w wr)) (fun i _=>l.length-(intOf i).toNat)
  case atStart=>exact⟨0,Nat.zero_le _,rfl,⟨0,by simp,fun _=>rfl,fun p h=>absurd h (Nat.lt_irrefl _)⟩,qR w⟩
  case round =>
   obtain⟨k,hk,rfl,HW,HB⟩:=hrel
   by_cases hlt:k<l.length
   ·obtain⟨b,off,rfl,hcell⟩:=hc (by intro h;subst h;simp at hlt);obtain⟨x,hx⟩:∃x,l[k]?=some x:=⟨l[k],by simp[hlt]⟩;have c0:=hcell k x hx;have hb:=L.block_lt c0.1;have cc:=fun o=>HB.out.cell (p:=⟨b,o,none⟩) hb
    have c1:=c0.1;have c2:=c0.2;rw[<- cc] at c1 c2;have HX:=qH hx;have fx:=hf.at hx;have hsz:=HB.out.size;obtain⟨x1,x2⟩:=x;simp only at c1 c2 fx;clear c0 hx;cases hbad:S.bad (x1,x2) with
    | true =>
     have HR:=qH hbad;clear hbad cc hcell hc
     go_wp2_with (go_at_call 101;go_must (refine(zdg _ (x1,x2)).mono ?_;rintro e w1 ⟨rfl,HB1⟩;rw[HR.out]))
     go_ret;obtain⟨bb,he,_⟩:=HW.out
     refine⟨?_,?_⟩
     ·rw[he,zb2 HX.out,HR.out];rfl
     ·exact(HB.out.alloc hsz _).trans (HB1.mono (by simp;omega))
    | false =>
     have HR:=qH hbad;have hok:=S.bad_false.1 hbad;simp only at hok;clear hbad;cases k with
     | zero =>
      clear cc hcell hc;simp only[Nat.zero_mul,Nat.add_zero] at c1 c2
      go_wp2_with (go_at_call 101;go_must (refine(zdg _ (x1,x2)).mono ?_;rintro e w1 ⟨rfl,HB1⟩;rw[HR.out]))
      obtain⟨⟨d1,d2⟩,_,hs1,hb1⟩:=S.boxed HB1;have HB2:=qH<|HB.out.trans (hb1.mono hsz);clear HB1 hb1
      go_quiet (fail)
      go_wp2
      go_roundw
      case rel =>
       obtain⟨bb,he,h0,_⟩:=HW.out;refine⟨1,by omega,by go_num,⟨x2+2,?_,fun h=>by omega,fun p _ hp=> ?_⟩,below_drewN HB2.out _⟩
       ·rw[he,zb2 HX.out,HR.out,h0 trivial,if_neg (by simp),if_neg (by simp;omega)]
       ·have h1:=HX.out;rw[hp] at h1;cases h1;exact⟨rfl,by omega⟩
      case measure=>simp[intOf];omega
     | succ m =>
      obtain⟨p,hp⟩:∃p,l[m]?=some p:=⟨l[m]'(by omega),by simp[show m<l.length by omega]⟩;have c3:=(hcell m p hp).2;rw[<- cc] at c3;have fp:=hf.at hp;have HP:=qH hp;obtain⟨p1,p2⟩:=p;simp only at c3 fp;clear cc hcell hc hp
      go_wp2_with (go_at_call 101;go_must (refine(zdg _ (x1,x2)).mono ?_;rintro e w1 ⟨rfl,HB1⟩;rw[HR.out]))
      obtain⟨⟨d1,d2⟩,hold,hs1,hb1⟩:=S.boxed HB1
      replace c3:=hold _ _ _ c3
      have HB2:=qH<|HB.out.trans (hb1.mono hsz);obtain⟨bb,he,_,hpp⟩:=HW.out;obtain⟨rfl,hp2⟩:=hpp _ (Nat.succ_pos _) HP.out;simp only at hp2;have HE:Hid (S.wgo 0 l=S.wgo (p2+2) (l.drop (m+1))):=he;clear HB1 hb1 hold he hpp HW
      by_cases hlow:x1<p2+2
      ·go_quiet (fail)
       go_wp2;go_ret
       refine⟨?_,below_drewN HB2.out _⟩;rw[HE.out,zb2 HX.out,HR.out,if_neg (by simp),if_pos hlow];rfl
      ·go_quiet (fail)
       go_wp2
       go_roundw
       case rel =>
        refine⟨m+1+1,by omega,by go_num,⟨x2+2,?_,fun h=>by omega,fun p _ hp=> ?_⟩,below_drewN HB2.out _⟩
        ·rw[HE.out,zb2 HX.out,HR.out,if_neg (by simp),if_neg hlow]
        ·have h1:=HX.out;have hp:l[m+1]?=some p:=hp;rw[hp] at h1;cases h1;exact⟨rfl,by omega⟩
       case measure=>simp[intOf];omega
   ·go_wp2;go_ret
    refine⟨?_,HB.out⟩;obtain⟨b,he,_⟩:=HW.out;rw[he,List.drop_eq_nil_of_le (by omega)];rfl
structure T.Cur (w:World) (cb tb cap:Nat) (ao:Option Addr) (l:List Int) (p:Nat):Prop where
 blk:∃ty,w.heap[cb]?=some (.cells #[.slice ao l.length cap,.int .i64 p] ty)
 txt:l≠ []->ao=some ⟨tb,0,none⟩
 rd:∀j z,l[j]?=some z->w.cell? ⟨tb,j,none⟩=some (.int .i32 z)
 ne:tb≠cb
 le:p<=l.length
 len:l.length<=16000
 cp:l.length<=cap
 rt:∀z∈l,M.right z=true
namespace T.Cur
variable {w w':World} {cb tb cap p:Nat} {ao:Option Addr} {l:List Int}
theorem cell0 (h:T.Cur w cb tb cap ao l p):w.cell? ⟨cb,0,none⟩=some (.slice ao l.length cap):=by obtain⟨_,hb⟩:=h.blk;rw[World.cell?];simp[hb]
theorem cell1 (h:T.Cur w cb tb cap ao l p):w.cell? ⟨cb,1,none⟩=some (.int .i64 p):=by obtain⟨_,hb⟩:=h.blk;rw[World.cell?];simp[hb]
theorem frz1 (h:T.Cur w cb tb cap ao l p):w.frozen? ⟨cb,1,none⟩=false:=by obtain⟨_,hb⟩:=h.blk;rw[World.frozen?];simp[hb]
theorem lt (h:T.Cur w cb tb cap ao l p):cb<w.heap.size:=by obtain⟨_,hb⟩:=h.blk;exact(qA.1 hb).1
theorem drewN (h:T.Cur w cb tb cap ao l p)(k:Nat):T.Cur (w.drewN k) cb tb cap ao l p:=⟨h.blk,h.txt,h.rd,h.ne,h.le,h.len,h.cp,h.rt⟩
theorem kept (h:T.Cur w cb tb cap ao l p)(hg:w.grownBy w' none):T.Cur w' cb tb cap ao l p :=
 ⟨by obtain⟨t,hb⟩:=h.blk;exact⟨t,by rw[hg.block cb h.lt (by simp)];exact hb⟩,h.txt,fun j z hj=>by
  have h1:=h.rd j z hj
  rw[World.cell?_of_block (a:=⟨tb,j,none⟩) (hg.block tb (L.block_lt h1) (by simp))];exact h1,h.ne,h.le,h.len,h.cp,h.rt⟩
theorem below (h:T.Cur w cb tb cap ao l p)(hb:Bl w w'):T.Cur w' cb tb cap ao l p:=h.kept (S.zaf hb)
theorem set (h:T.Cur w cb tb cap ao l p){q:Nat}(hq:q<=l.length):T.Cur (w.setCell ⟨cb,1,none⟩ (.int .i64 q)) cb tb cap ao l q:=by
 refine⟨?_,h.txt,fun j z hj=> ?_,h.ne,hq,h.len,h.cp,h.rt⟩
 ·obtain⟨t,hb⟩:=h.blk;exact⟨t,by simp[World.setCell,Array.getElem?_modify,hb]⟩
 ·rw[World.cell?_setCell_other _ _ _ _ (by simp[Ne.symm h.ne])];exact h.rd j z hj
theorem zo4 (h:T.Cur w cb tb cap ao l p)(q:Nat):T.see l q= -1∨M.right (T.see l q)=true:=by
 by_cases hq:q<l.length
 ·exact .inr (h.rt _ (List.mem_of_getElem? (T.zew hq)))
 ·exact .inl (T.zgj (by omega))
theorem inside (_:T.Cur w cb tb cap ao l p)(hs:T.see l p≠ -1):p<l.length:=by
 apply Classical.byContradiction;intro hn;exact hs (T.zgj (by omega))
end T.Cur
def T.pos (w:World) (b:Nat):Nat:=(intOf ((w.cell? ⟨b,1,none⟩).getD undef)).toNat
theorem T.Cur.pos {w:World}{cb tb cap p:Nat}{ao:Option Addr}{l:List Int}(h:T.Cur w cb tb cap ao l p):T.pos w cb=p:=by
 unfold T.pos;rw[h.cell1];simp[intOf]
theorem zdc (w:World)(b:Nat)(j:Nat)(v:Value):w.grownBy (w.setCell ⟨b,j,none⟩ v) (some b) :=
 ⟨rfl,rfl,rfl,by simp,fun k _ hk=>heap_setCell_other w ⟨b,j,none⟩ k v (fun e=>hk (by simp[e]))⟩
theorem zb6 (w:World)(k:Nat)(r:Option Nat):w.grownBy (w.drewN k) r:=⟨rfl,rfl,rfl,qN,fun _ _ _=>rfl⟩
theorem za6 (w:World)(cb tb cap p n:Nat)(ao:Option Addr)(l:List Int)(C:T.Cur w cb tb cap ao l p)(hn:n<=1) :
  Calls prog 84 #[.pointer (some ⟨cb,0,none⟩),.int .i64 n] w fun e w'=>e=.returned (.int .i32 (T.see l (p+n)))/\Bl w w':=by
 have c0:=C.cell0;have c1:=C.cell1;have hle:=C.le;have hlen:=C.len;have hcp:=C.cp
 by_cases hlt:p+n<l.length
 ·have hs:=T.zew hlt;have hcz:=C.rd _ _ hs;have hao:=C.txt (by intro h;subst h;simp at hlt);subst hao;generalize T.see l (p+n)=z at hcz;clear C hs;have g1:¬((l.length:Int)-(p:Int)<=(n:Int)):=by omega
  have g3:(0:Int)<=(p:Int)+(n:Int):=by omega
  have g4:(p:Int)+(n:Int)<(l.length:Int):=by omega
  have g5:((p:Int)+(n:Int)).toNat=p+n:=by omega
  go_enter func84,ntmps84
  go_wp2
  go_quiet (fail)
  go_wp2
  go_quiet (fail)
  go_wp2;go_ret
  exact⟨rfl,below_drewN (below_drewN (qR _) _) _⟩
 ·rw[T.zgj (by omega)];clear C;have g1:((l.length:Int)-(p:Int)<=(n:Int)):=by omega
  go_enter func84,ntmps84
  go_wp2
  go_quiet (fail)
  go_wp2;go_ret
  exact⟨rfl,below_drewN (qR _) _⟩
theorem zbq (w:World)(cb tb cap p:Nat)(ao:Option Addr)(l:List Int)(r:Int)(C:T.Cur w cb tb cap ao l p) :
  Calls prog 83 #[.pointer (some ⟨cb,0,none⟩),.int .i32 r] w fun e w'=>e=.returned (.bool (decide (T.see l p=r)))/\Bl w w':=by
 go_enter func83,ntmps83
 go_wp2_with (go_at_call 84;refine(za6 _ cb tb cap p 0 ao l C (by omega)).mono ?_;rintro e w1 ⟨rfl,b1⟩)
 go_ret;exact⟨rfl,b1⟩
theorem zd7 (w:World)(cb tb cap p:Nat)(ao:Option Addr)(l:List Int)(C:T.Cur w cb tb cap ao l p) :
  Calls prog 51 #[.pointer (some ⟨cb,0,none⟩)] w fun e w'=>e=.returned (.bool (decide (T.see l p= -1)))/\Bl w w':=by
 go_enter func51,ntmps51
 go_wp2_with (go_at_call 84;refine(za6 _ cb tb cap p 0 ao l C (by omega)).mono ?_;rintro e w1 ⟨rfl,b1⟩)
 go_ret;exact⟨rfl,b1⟩
def T.thrown (e:Int) (p:Nat):Ending:=.panicked [{ v:=.iface 36 (.agg #[.int .i64 e,.int .i64 p]),recovered:=false }]
theorem zaw {a:Value}(w:World)(e:Int)(p:Nat) :
  Calls prog 29 #[a,.int .i64 e,.int .i64 p] w fun e' w'=>e'=T.thrown e p/\w'=w:=by
 go_enter func29,ntmps29
 go_wp2;exact⟨rfl,rfl,rfl⟩
theorem zhf (w:World)(cb tb cap p:Nat)(ao:Option Addr)(l:List Int)(C:T.Cur w cb tb cap ao l p)(hp:p<l.length) :
  Calls prog 207 #[.pointer (some ⟨cb,0,none⟩)] w fun e w'=>e=.returned (.int .i32 (T.see l p))/\T.Cur w' cb tb cap ao l (p+1)/\w.grownBy w' (some cb):=by
 go_enter func207,ntmps207
 go_wp2_with (go_at_call 84;refine(za6 _ cb tb cap p 0 ao l C (by omega)).mono ?_;rintro e w1 ⟨rfl,b1⟩;have C1:=C.below b1;have c1:=C1.cell1;have f1:=C1.frz1;have hlen:=C1.len;have HC:Hid (T.Cur w1 cb tb cap ao l p):=C1;clear C1)
 go_ret;exact⟨rfl,HC.out.set (q:=p+1) (by omega),S.zaa (S.zaf b1) (zdc _ _ _ _)⟩
theorem zaq (w:World)(cb tb cap p:Nat)(ao:Option Addr)(l:List Int)(r:Int)(hr:r≠ -1)(C:T.Cur w cb tb cap ao l p) :
  Calls prog 82 #[.pointer (some ⟨cb,0,none⟩),.int .i32 r] w fun e w'=>e=.returned (.bool (decide (T.see l p=r)))/\T.Cur w' cb tb cap ao l (if T.see l p=r then p+1 else p)/\w.grownBy w' (some cb):=by
 by_cases h:T.see l p=r
 ·have hp:p<l.length:=by
   apply Classical.byContradiction;intro hn;rw[T.zgj (by omega)] at h;exact hr h.symm
  rw[if_pos h]
  go_enter func82,ntmps82
  go_wp2_with (go_at_call 83;refine(zbq _ cb tb cap p ao l r C).mono ?_;rintro e w1 ⟨rfl,b1⟩;have C1:=C.below b1;have c1:=C1.cell1;have f1:=C1.frz1;have hlen:=C1.len;have HC:Hid (T.Cur w1 cb tb cap ao l p):=C1;clear C1)
  go_ret;exact⟨L.zaj (by simp[h]),HC.out.set (q:=p+1) (by omega),S.zaa (S.zaf b1) (zdc _ _ _ _)⟩
 ·rw[if_neg h]
  go_enter func82,ntmps82
  go_wp2_with (go_at_call 83;refine(zbq _ cb tb cap p ao l r C).mono ?_;rintro e w1 ⟨rfl,b1⟩)
  go_ret;exact⟨L.zaj (by simp[h]),C.below b1,S.zaf b1⟩
theorem za0 (w:World)(cb tb cap p:Nat)(ao:Option Addr)(l:List Int)(r:Int)(hr:r≠ -1)(C:T.Cur w cb tb cap ao l p)(h:T.see l p=r) :
  Calls prog 86 #[.pointer (some ⟨cb,0,none⟩),.int .i32 r] w fun e w'=>e=.returned (.tuple #[])/\T.Cur w' cb tb cap ao l (p+1)/\w.grownBy w' (some cb):=by
 go_enter func86,ntmps86
 go_wp2_with (go_at_call 82;refine(zaq _ cb tb cap p ao l r hr C).mono ?_;rintro e w1 ⟨rfl,C1,g1⟩;rw[if_pos h] at C1)
 go_end0
 exact⟨rfl,C1,g1⟩
theorem zb0 (w:World)(cb tb cap p:Nat)(ao:Option Addr)(l:List Int)(r:Int)(hr:r≠ -1)(C:T.Cur w cb tb cap ao l p)(h:T.see l p≠r) :
  Calls prog 86 #[.pointer (some ⟨cb,0,none⟩),.int .i32 r] w fun e w'=>e=T.thrown 2 p/\w.grownBy w' (some cb):=by
 go_enter func86,ntmps86
 go_wp2_with (first
  | (go_at_call 82;refine(zaq _ cb tb cap p ao l r hr C).mono ?_;rintro e w1 ⟨rfl,C1,g1⟩;rw[if_neg h] at C1;have c1:=C1.cell1)
  | (go_at_call 29;refine(zaw _ 2 p).mono ?_;rintro e w2 ⟨rfl,rfl⟩;unfold T.thrown))
 exact⟨rfl,rfl,g1⟩
