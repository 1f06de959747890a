/-
 A text that is read: its cursor, and the small steps.
-/
import Derived.Test.YtmcljejgbikbhaaGreatDoorRMath
import Derived.Test.YtmcljejgbikbhaaGreatDoorSWrong
import Derived.RegionTactic
import Derived.Shelf.Lay
import Derived.Shelf.Small.Utf8
import Derived.Shelf.Small.Strs
import Derived.Shelf.Strings.Search1
import Derived.Shelf.Strings.Runes
import Derived.Lib.OthersKept
import Derived.WalkMore
namespace Go.Proofs.YtmcljejgbikbhaaGreatDoor
open Go.RowKit
structure T.Cur (w:World) (cb tb cap:Nat) (ao:Option Addr) (l:List Int) (p:Nat):Prop where
 blk:∃ty,w.heap[cb]?=some (.cells #[.slice ao l.length cap,.int .i64 p] ty)
 txt:l≠ []->ao=some ⟨tb,0,none⟩
 rd:∀j z,l[j]?=some z->w.cell? ⟨tb,j,none⟩=some (.int .i32 z)
 ne:tb≠cb
 le:p<=l.length
 len:l.length<=16000
 cp:l.length<=cap
 rt:∀z∈l,M.right z=true
namespace T.Cur
variable {w w':World} {cb tb cap p:Nat} {ao:Option Addr} {l:List Int}
theorem cell0 (h:T.Cur w cb tb cap ao l p):w.cell? ⟨cb,0,none⟩=some (.slice ao l.length cap):=by obtain⟨_,hb⟩:=h.blk;rw[World.cell?];simp[hb]
theorem cell1 (h:T.Cur w cb tb cap ao l p):w.cell? ⟨cb,1,none⟩=some (.int .i64 p):=by obtain⟨_,hb⟩:=h.blk;rw[World.cell?];simp[hb]
theorem frz1 (h:T.Cur w cb tb cap ao l p):w.frozen? ⟨cb,1,none⟩=false:=by obtain⟨_,hb⟩:=h.blk;rw[World.frozen?];simp[hb]
theorem lt (h:T.Cur w cb tb cap ao l p):cb<w.heap.size:=by obtain⟨_,hb⟩:=h.blk;exact(Array.getElem?_eq_some_iff.1 hb).1
theorem drewN (h:T.Cur w cb tb cap ao l p)(k:Nat):T.Cur (w.drewN k) cb tb cap ao l p:=⟨h.blk,h.txt,h.rd,h.ne,h.le,h.len,h.cp,h.rt⟩
theorem kept (h:T.Cur w cb tb cap ao l p)(hg:w.grownBy w' none):T.Cur w' cb tb cap ao l p :=
 ⟨by obtain⟨t,hb⟩:=h.blk;exact⟨t,by rw[hg.block cb h.lt (by simp)];exact hb⟩,h.txt,fun j z hj=>by
  have h1:=h.rd j z hj
  rw[World.cell?_of_block (a:=⟨tb,j,none⟩) (hg.block tb (L.block_lt h1) (by simp))];exact h1,h.ne,h.le,h.len,h.cp,h.rt⟩
theorem below (h:T.Cur w cb tb cap ao l p)(hb:Below w.heap.size w w'):T.Cur w' cb tb cap ao l p:=h.kept (S.grown_below hb)
theorem set (h:T.Cur w cb tb cap ao l p){q:Nat}(hq:q<=l.length):T.Cur (w.setCell ⟨cb,1,none⟩ (.int .i64 q)) cb tb cap ao l q:=by
 refine⟨?_,h.txt,fun j z hj=> ?_,h.ne,hq,h.len,h.cp,h.rt⟩
 ·obtain⟨t,hb⟩:=h.blk;exact⟨t,by simp[World.setCell,Array.getElem?_modify,hb]⟩
 ·rw[World.cell?_setCell_other _ _ _ _ (by simp[Ne.symm h.ne])];exact h.rd j z hj
theorem see_right (h:T.Cur w cb tb cap ao l p)(q:Nat):T.see l q= -1∨M.right (T.see l q)=true:=by
 by_cases hq:q<l.length
 ·exact .inr (h.rt _ (List.mem_of_getElem? (T.see_lt hq)))
 ·exact .inl (T.see_ge (by omega))
theorem inside (_:T.Cur w cb tb cap ao l p)(hs:T.see l p≠ -1):p<l.length:=by
 apply Classical.byContradiction
 intro hn
 exact hs (T.see_ge (by omega))
end T.Cur
def T.pos (w:World) (b:Nat):Nat:=(intOf ((w.cell? ⟨b,1,none⟩).getD undef)).toNat
theorem T.Cur.pos {w:World}{cb tb cap p:Nat}{ao:Option Addr}{l:List Int}(h:T.Cur w cb tb cap ao l p):T.pos w cb=p:=by
 unfold T.pos;rw[h.cell1];simp[intOf]
theorem fr_set (w:World)(b:Nat)(j:Nat)(v:Value):w.grownBy (w.setCell ⟨b,j,none⟩ v) (some b) :=
 ⟨rfl,rfl,rfl,by simp,fun k _ hk=>heap_setCell_other w ⟨b,j,none⟩ k v (fun e=>hk (by simp[e]))⟩
theorem fr_drewN (w:World)(k:Nat)(r:Option Nat):w.grownBy (w.drewN k) r:=⟨rfl,rfl,rfl,Nat.le_refl _,fun _ _ _=>rfl⟩
set_option maxHeartbeats 1000000 in
theorem ahead_any (w:World)(cb tb cap p n:Nat)(ao:Option Addr)(l:List Int)(C:T.Cur w cb tb cap ao l p)(hn:n<=1) :
  Calls Tryz.prog 121 #[.pointer (some ⟨cb,0,none⟩),.int .i64 n] w fun e w'=>e= .returned (.int .i32 (T.see l (p+n)))/\Below w.heap.size w w':=by
 have c0:=C.cell0
 have c1:=C.cell1
 have hle:=C.le
 have hlen:=C.len
 have hcp:=C.cp
 by_cases hlt:p+n<l.length
 ·have hs:=T.see_lt hlt
  have hcz:=C.rd _ _ hs
  have hao:=C.txt (by intro h;subst h;simp at hlt)
  subst hao
  generalize T.see l (p+n)=z at hcz
  clear C hs
  have g1:¬((l.length:Int) - (p:Int)<=(n:Int)):=by omega
  have g3:(0:Int)<=(p:Int)+(n:Int):=by omega
  have g4:(p:Int)+(n:Int)<(l.length:Int):=by omega
  have g5:((p:Int)+(n:Int)).toNat=p+n:=by omega
  go_enter Tryz.func121,Tryz.ntmps121
  go_wp2
  go_quiet (fail)
  go_wp2
  go_quiet (fail)
  go_wp2
  go_ret
  exact⟨rfl,below_drewN (below_drewN (Below.refl _ _) _) _⟩
 ·rw[T.see_ge (by omega)]
  clear C
  have g1:((l.length:Int) - (p:Int)<=(n:Int)):=by omega
  go_enter Tryz.func121,Tryz.ntmps121
  go_wp2
  go_quiet (fail)
  go_wp2
  go_ret
  exact⟨rfl,below_drewN (Below.refl _ _) _⟩
theorem is_any (w:World)(cb tb cap p:Nat)(ao:Option Addr)(l:List Int)(r:Int)(C:T.Cur w cb tb cap ao l p) :
  Calls Tryz.prog 120 #[.pointer (some ⟨cb,0,none⟩),.int .i32 r] w fun e w'=>e= .returned (.bool (decide (T.see l p=r)))/\Below w.heap.size w w':=by
 go_enter Tryz.func120,Tryz.ntmps120
 go_wp2_with (go_at_call 121;refine(ahead_any _ cb tb cap p 0 ao l C (by omega)).mono ?_;rintro e w1 ⟨rfl,b1⟩)
 go_ret
 exact⟨rfl,b1⟩
theorem done_any (w:World)(cb tb cap p:Nat)(ao:Option Addr)(l:List Int)(C:T.Cur w cb tb cap ao l p) :
  Calls Tryz.prog 71 #[.pointer (some ⟨cb,0,none⟩)] w fun e w'=>e= .returned (.bool (decide (T.see l p= -1)))/\Below w.heap.size w w':=by
 go_enter Tryz.func71,Tryz.ntmps71
 go_wp2_with (go_at_call 121;refine(ahead_any _ cb tb cap p 0 ao l C (by omega)).mono ?_;rintro e w1 ⟨rfl,b1⟩)
 go_ret
 exact⟨rfl,b1⟩
def T.thrown (e:Int) (p:Nat):Ending:= .panicked [{ v:= .iface 33 (.agg #[.int .i64 e,.int .i64 p]),recovered:=false }]
theorem fail_any {a:Value}(w:World)(e:Int)(p:Nat) :
  Calls Tryz.prog 38 #[a,.int .i64 e,.int .i64 p] w fun e' w'=>e'=T.thrown e p/\w'=w:=by
 go_enter Tryz.func38,Tryz.ntmps38
 go_wp2
 exact⟨rfl,rfl,rfl⟩
set_option maxHeartbeats 1000000 in
theorem take_any (w:World)(cb tb cap p:Nat)(ao:Option Addr)(l:List Int)(C:T.Cur w cb tb cap ao l p)(hp:p<l.length) :
  Calls Tryz.prog 292 #[.pointer (some ⟨cb,0,none⟩)] w fun e w'=>e= .returned (.int .i32 (T.see l p))/\T.Cur w' cb tb cap ao l (p+1)/\w.grownBy w' (some cb):=by
 go_enter Tryz.func292,Tryz.ntmps292
 go_wp2_with (go_at_call 121;refine(ahead_any _ cb tb cap p 0 ao l C (by omega)).mono ?_;rintro e w1 ⟨rfl,b1⟩;have C1:=C.below b1;have c1:=C1.cell1;have f1:=C1.frz1;have hlen:=C1.len;have HC:Hid (T.Cur w1 cb tb cap ao l p):=C1;clear C1)
 go_ret
 exact⟨rfl,HC.out.set (q:=p+1) (by omega),S.grown_trans (S.grown_below b1) (fr_set _ _ _ _)⟩
set_option maxHeartbeats 1000000 in
theorem skip_any (w:World)(cb tb cap p:Nat)(ao:Option Addr)(l:List Int)(r:Int)(hr:r≠ -1)(C:T.Cur w cb tb cap ao l p) :
  Calls Tryz.prog 119 #[.pointer (some ⟨cb,0,none⟩),.int .i32 r] w fun e w'=>e= .returned (.bool (decide (T.see l p=r)))/\T.Cur w' cb tb cap ao l (if T.see l p=r then p+1 else p)/\w.grownBy w' (some cb):=by
 by_cases h:T.see l p=r
 ·have hp:p<l.length:=by
   apply Classical.byContradiction
   intro hn
   rw[T.see_ge (by omega)] at h
   exact hr h.symm
  rw[if_pos h]
  go_enter Tryz.func119,Tryz.ntmps119
  go_wp2_with (go_at_call 120;refine(is_any _ cb tb cap p ao l r C).mono ?_;rintro e w1 ⟨rfl,b1⟩;have C1:=C.below b1;have c1:=C1.cell1;have f1:=C1.frz1;have hlen:=C1.len;have HC:Hid (T.Cur w1 cb tb cap ao l p):=C1;clear C1)
  go_ret
  exact⟨L.ret_bool (by simp[h]),HC.out.set (q:=p+1) (by omega),S.grown_trans (S.grown_below b1) (fr_set _ _ _ _)⟩
 ·rw[if_neg h]
  go_enter Tryz.func119,Tryz.ntmps119
  go_wp2_with (go_at_call 120;refine(is_any _ cb tb cap p ao l r C).mono ?_;rintro e w1 ⟨rfl,b1⟩)
  go_ret
  exact⟨L.ret_bool (by simp[h]),C.below b1,S.grown_below b1⟩
theorem need_yes (w:World)(cb tb cap p:Nat)(ao:Option Addr)(l:List Int)(r:Int)(hr:r≠ -1)(C:T.Cur w cb tb cap ao l p)(h:T.see l p=r) :
  Calls Tryz.prog 123 #[.pointer (some ⟨cb,0,none⟩),.int .i32 r] w fun e w'=>e= .returned (.tuple #[])/\T.Cur w' cb tb cap ao l (p+1)/\w.grownBy w' (some cb):=by
 go_enter Tryz.func123,Tryz.ntmps123
 go_wp2_with (go_at_call 119;refine(skip_any _ cb tb cap p ao l r hr C).mono ?_;rintro e w1 ⟨rfl,C1,g1⟩;rw[if_pos h] at C1)
 go_end0
 exact⟨rfl,C1,g1⟩
theorem need_no (w:World)(cb tb cap p:Nat)(ao:Option Addr)(l:List Int)(r:Int)(hr:r≠ -1)(C:T.Cur w cb tb cap ao l p)(h:T.see l p≠r) :
  Calls Tryz.prog 123 #[.pointer (some ⟨cb,0,none⟩),.int .i32 r] w fun e w'=>e=T.thrown 2 p/\w.grownBy w' (some cb):=by
 go_enter Tryz.func123,Tryz.ntmps123
 go_wp2_with (first
  | (go_at_call 119;refine(skip_any _ cb tb cap p ao l r hr C).mono ?_;rintro e w1 ⟨rfl,C1,g1⟩;rw[if_neg h] at C1;have c1:=C1.cell1)
  | (go_at_call 38;refine(fail_any _ 2 p).mono ?_;rintro e w2 ⟨rfl,rfl⟩;unfold T.thrown))
 exact⟨rfl,rfl,g1⟩
end Go.Proofs.YtmcljejgbikbhaaGreatDoor
namespace Go.Proofs.YtmcljejgbikbhaaGreatDoor
open Go.Shelf Go.RowKit
shelf_lay Lays.n119 Nm 119 at Tryz as Tryz.lays119
shelf_lay Lays.n137 Nm 137 at Tryz as Tryz.lays137
shelf_lay Lays.n151 Nm 151 at Tryz as Tryz.lays151
def T.bts (s:ByteArray):List Int:=s.data.toList.map fun b=>(b.toNat:Int)
theorem index_mem:∀(l:List UInt8) (c:UInt8),-1<=Lib.indexByte l c/\(0<=Lib.indexByte l c↔c∈l)
 | [],c=>by simp[Lib.indexByte]
 | b::l,c=>by
  have ih:=index_mem l c
  unfold Lib.indexByte
  by_cases h:b=c
  ·simp[h]
  ·have hb:(b==c)=false:=by simp[h]
   rw[hb]
   simp only[Bool.false_eq_true,if_false]
   by_cases h1:Lib.indexByte l c= -1
   ·have hn:c∉l:=fun hm=>by have:=ih.2.2 hm;omega
    simp[h1,hn,Ne.symm h]
   ·have hb1:(Lib.indexByte l c== -1)=false:=by simp[h1]
    rw[hb1]
    simp only[Bool.false_eq_true,if_false]
    refine⟨by omega,fun _=>by simp[ih.2.1 (by omega)],fun _=>by omega⟩
theorem index_none {l:List UInt8}{c:UInt8}(h:c∉l):Lib.indexByte l c= -1:=by
 have:=index_mem l c
 have h1:¬ 0<=Lib.indexByte l c:=fun h0=>h (this.2.1 h0)
 omega
theorem contains_ascii (s:ByteArray)(r:Int)(w:World)(h0:0<=r)(h1:r<128) :
  Calls Tryz.prog 205 #[.string s,.int .i32 r] w fun e w'=>e= .returned (.bool (decide (r∈T.bts s)))/\Below w.heap.size w w':=by
 refine(Any.strings_ContainsRune_ascii Tryz.lays151 s r w h0 h1).mono ?_
 rintro e w' ⟨rfl,rfl⟩
 refine⟨L.ret_bool ?_,Below.refl _ _⟩
 rw[decide_eq_decide,(index_mem _ _).2]
 unfold T.bts
 rw[List.mem_map]
 constructor
 ·intro h
  refine⟨_,h,?_⟩
  have:r.toNat.toUInt8.toNat=r.toNat:=by simp;omega
  omega
 ·rintro ⟨b,hb,rfl⟩
  simpa using hb
theorem bts_big {s:ByteArray}{r:Int}(hA:∀b∈s.data.toList,b.toNat<128)(h:r<0∨128<=r):r∉T.bts s:=by
 unfold T.bts
 rw[List.mem_map]
 rintro ⟨b,hb,rfl⟩
 have:=hA b hb
 omega
theorem contains_of (s:ByteArray)(r:Int)(w:World)(hA:∀b∈s.data.toList,b.toNat<128)(hr:r<0∨128<=r)
  (h:Calls Tryz.prog 227 #[.string s,.int .i32 r] w fun e w'=>e= .returned (.int .i64 (-1))/\Below w.heap.size w w') :
  Calls Tryz.prog 205 #[.string s,.int .i32 r] w fun e w'=>e= .returned (.bool (decide (r∈T.bts s)))/\Below w.heap.size w w':=by
 rw[decide_eq_false (bts_big hA hr)]
 go_enter Tryz.func205,Tryz.ntmps205
 go_wp2_with (go_at_call 227;refine h.mono ?_;rintro e w1 ⟨rfl,b1⟩)
 go_ret
 exact⟨rfl,b1⟩
set_option maxRecDepth 100000 in
set_option maxHeartbeats 2000000 in
theorem index_bad (s:ByteArray)(r:Int)(w:World)(hv:Lib.validRune r=false)(hr:r<0∨128<=r)(hne:r≠65533) :
  Calls Tryz.prog 227 #[.string s,.int .i32 r] w fun e w'=>e= .returned (.int .i64 (-1))/\Below w.heap.size w w':=by
 have hne':(r==65533)=false:=by simp[hne]
 go_enter Tryz.func227,Tryz.ntmps227
 go_wp2_with (go_at_call 243;refine(Any.utf8_ValidRune Tryz.lays119 r _).mono ?_;rintro e w1 ⟨rfl,rfl⟩;rw[hv])
 all_goals go_ret
 all_goals exact⟨rfl,Below.refl _ _⟩
theorem ext_mem {s:ByteArray}{i j:Nat}{b:UInt8}(h:b∈(s.extract i j).data.toList):b∈s.data.toList:=by
 have:(s.extract i j).data.toList=(s.data.toList.drop i).take (j - i):=by simp[ByteArray.data_extract]
 rw[this] at h
 exact List.mem_of_mem_drop (List.mem_of_mem_take h)
theorem byte_any (s:ByteArray)(c:Int)(w:World) :
  Calls Tryz.prog 242 #[.string s,.int .u8 c] w fun e w'=>e= .returned (.int .i64 (Lib.indexByte s.data.toList c.toNat.toUInt8))/\w'=w:=Any.strings_IndexByte Tryz.lays137 s c w
theorem get_lt {s:ByteArray}(hA:∀b∈s.data.toList,b.toNat<128)(k:Nat)(h:k<s.size):s[k].toNat<128:=hA _ (by
 have:s[k]=s.data.toList[k]'(by simpa using h):=by simp[ByteArray.getElem_eq_getElem_data]
 rw[this];exact List.getElem_mem _)
set_option maxRecDepth 100000 in
set_option maxHeartbeats 2000000 in
theorem index_fffd (s:ByteArray)(w:World)(hA:∀b∈s.data.toList,b.toNat<128) :
  Calls Tryz.prog 227 #[.string s,.int .i32 65533] w fun e w'=>e= .returned (.int .i64 (-1))/\Below w.heap.size w w':=by
 have HA:Hid _:=hA
 clear hA
 go_enter Tryz.func227,Tryz.ntmps227
 go_wp2
 go_loopw [5] (fun _ wr=>∃pos:Nat,wr.heap[w.heap.size]?=some (.stringIter s pos)/\Hid (Below w.heap.size w wr)) (fun _ wr=>s.size - wr.iterPos w.heap.size)
 case atStart=>exact⟨0,World.iter_heap w s 0,(Below.refl _ _).alloc (Nat.le_refl _) _⟩
 case round =>
  obtain⟨pos,hit,hbw⟩:=hrel
  have hpos0:=iterPos_of hit
  by_cases hp:pos<s.size
  ·have ha:=get_lt HA.out pos hp
   have hnx:∀ty,(Instr.next (.pointer (some ⟨w.heap.size,0,none⟩)) true ty).run Tryz.prog wr=_:=fun ty=>Lib.run_next_ascii_at wr w.heap.size s pos ty hit hp ha
   have hit2:=Lib.iterAt_heap wr w.heap.size s pos (pos+1) hit
   have hbw2:Hid _:=Lib.below_iterAt hbw.out (k:=w.heap.size) (Nat.le_refl _) s (pos+1)
   have hne:(((s[pos]'hp).toNat:Int)==65533)=false:=by simp;omega
   generalize wr.iterAt w.heap.size s (pos+1)=W1 at hnx hit2 hbw2
   generalize ((s[pos]'hp).toNat:Int)=z at hnx hne
   clear hit hbw ha
   go_wp2
   go_roundw
   case rel=>exact⟨_,hit2,hbw2⟩
   case measure=>rw[iterPos_of hit2,hpos0];omega
  ·have hnx:∀ty,(Instr.next (.pointer (some ⟨w.heap.size,0,none⟩)) true ty).run Tryz.prog wr=_:=fun ty=>Lib.run_next_end_at wr w.heap.size s pos ty hit hp
   go_wp2
   go_ret
   exact⟨rfl,hbw.out⟩
theorem last_big (r:Nat):128<=(UInt8.ofNat (128+r % 64)).toNat:=by
 have:=M.u8 (128+r % 64) (by omega)
 omega
set_option maxRecDepth 100000 in
theorem enc_last (r:Nat)(h:M.right (r:Int)=true)(hr:128<=r):∃(a:List UInt8) (c:UInt8),Utf8.encode (r:Int)=⟨(a++ [c]).toArray⟩/\1<=a.length/\a.length<=3/\128<=c.toNat:=by
 have hb:=M.right_bd h
 have he:=M.enc_eq r h
 have hd:Utf8.encode (r:Int)=⟨(M.enc (r:Int)).toArray⟩:=by unfold M.enc;simp
 have h1:=last_big r
 rw[hd,he,if_neg (by omega)]
 by_cases h2:r<2048
 ·rw[if_pos h2];exact⟨[UInt8.ofNat (192+r / 64)],_,by simp only[List.cons_append,List.nil_append],by simp,by simp,h1⟩
 ·rw[if_neg h2]
  by_cases h3:r<65536
  ·rw[if_pos h3];exact⟨[UInt8.ofNat (224+r / 4096),UInt8.ofNat (128+r / 64 % 64)],_,by simp only[List.cons_append,List.nil_append],by simp,by simp,h1⟩
  ·rw[if_neg h3];exact⟨[UInt8.ofNat (240+r / 262144),UInt8.ofNat (128+r / 4096 % 64),UInt8.ofNat (128+r / 64 % 64)],_,by simp only[List.cons_append,List.nil_append],by simp,by simp,h1⟩
theorem last_get (a:List UInt8)(c:UInt8)(t:ByteArray)(ht:t=⟨(a++ [c]).toArray⟩):t.size=a.length+1/\∀hk:a.length<t.size,t[a.length]'hk=c:=by
 subst ht
 refine⟨by show (a++ [c]).toArray.size=_;simp,fun hk=> ?_⟩
 show (a++ [c]).toArray[a.length]'_=c
 simp
set_option maxRecDepth 100000 in
set_option maxHeartbeats 2000000 in
theorem index_wide (s:ByteArray)(r:Int)(w:World)(hA:∀b∈s.data.toList,b.toNat<128)(hR:M.right r=true)(hv:Lib.validRune r=true)(hr:128<=r)(hne:r≠65533) :
  Calls Tryz.prog 227 #[.string s,.int .i32 r] w fun e w'=>e= .returned (.int .i64 (-1))/\Below w.heap.size w w':=by
 have HA:Hid _:=hA
 clear hA
 obtain⟨r,rfl⟩:∃n:Nat,r=(n:Int):=⟨r.toNat,by omega⟩
 have hne':((r:Int)==65533)=false:=by simp[hne]
 obtain⟨a,c,he,ha1,ha2,hc⟩:=enc_last r hR (by omega)
 obtain⟨hsz,hget⟩:=last_get a c _ he
 have HE:Hid _:=he
 clear he
 have h0:¬(r:Int)<128:=by omega
 go_enter Tryz.func227,Tryz.ntmps227
 go_wp2_with (go_at_call 243;refine(Any.utf8_ValidRune Tryz.lays119 r _).mono ?_;rintro e w1 ⟨rfl,rfl⟩;rw[hv])
 go_step3
 go_wp2
 go_loopw [9] (fun i wr=>i= .int .i64 a.length/\wr=w1) (fun _ _=>0)
 case atStart=>exact⟨rfl,rfl⟩
 case round =>
  obtain⟨rfl,rfl⟩:=hrel
  by_cases hlt:a.length<s.size
  ·have hb:=get_lt HA.out a.length hlt
   have q1:(a.length:Int)+1<=(s.size:Int):=by omega
   have q0:IntKind.i64.wrap ((a.length:Int)+1)=(a.length:Int)+1:=by
    have h3:a.length=1∨a.length=2∨a.length=3:=by omega
    rcases h3 with h | h | h <;> rw[h] <;> rfl
   have q2:(0:Int)<=(a.length:Int)+1:=by omega
   have q3:((a.length:Int)+1).toNat=a.length+1:=by omega
   have hx:Hid ((((s[a.length]'hlt).toNat:Int) != (c.toNat:Int))=true):=by show _=_;simp;omega
   go_wp2
   go_step3
   go_wp2
   go_quiet (fail)
   rw[hx.out]
   clear hb hx
   go_wp2
   have hlt2:a.length<(Utf8.encode (r:Int)).size:=by rw[hsz];omega
   have hix:∀w,(Instr.index 9 (.string (Utf8.encode (r:Int))) (.int .i64 a.length)).run Tryz.prog w= .ok (.int .u8 c.toNat) w:=by
    intro w
    have:=hget hlt2
    have h9:=Tryz.underlying9
    have q4:(a.length:Int)<(a.length:Int)+1:=by omega
    simp[go_sem,hsz,this,h9,q4]
   have hno:Lib.indexByte (s.extract (a.length+1) s.size).data.toList ((c.toNat:Int).toNat.toUInt8)= -1:=by
    apply index_none
    intro hm
    have:=HA.out _ (ext_mem hm)
    simp at this
    omega
   go_region_with (first | (go_at_call 242;refine(byte_any _ _ _).mono ?_;rintro e w2 ⟨rfl,rfl⟩;rw[hno]))
   all_goals go_wp2
   rw[Exit.noGoto_ret]
   change Exit.noGoto (Exit.inBlock 0 _) Exit.ret _ _
   rw[Exit.noGoto_ret]
   simp only[Exit.inBlock,Exit.then]
   rw[Exit.noGoto_ret]
   go_ret
   exact⟨rfl,below_drewN (Below.refl _ _) _⟩
  ·go_wp2
   rw[Exit.noGoto_ret]
   go_ret
   exact⟨rfl,Below.refl _ _⟩
theorem contains_any (s:ByteArray)(r:Int)(w:World)(hA:∀b∈s.data.toList,b.toNat<128)(hr:r= -1∨M.right r=true) :
  Calls Tryz.prog 205 #[.string s,.int .i32 r] w fun e w'=>e= .returned (.bool (decide (r∈T.bts s)))/\Below w.heap.size w w':=by
 by_cases h:0<=r/\r<128
 ·exact contains_ascii s r w h.1 h.2
 ·have h':r<0∨128<=r:=by omega
  refine contains_of s r w hA h' ?_
  by_cases h1:r=65533
  ·subst h1;exact index_fffd s w hA
  ·rcases hr with rfl | hR
   ·exact index_bad s (-1) w (by decide) h' h1
   ·have h0:0<=r:=by unfold M.right at hR;exact(of_decide_eq_true hR).1
    cases hv:Lib.validRune r with
    | true=>exact index_wide s r w hA hR hv (by omega) h1
    | false=>exact index_bad s r w hv h' h1
end Go.Proofs.YtmcljejgbikbhaaGreatDoor
namespace Go.Proofs.YtmcljejgbikbhaaGreatDoor
open Go.RowKit
theorem among_any (s:ByteArray)(w:World)(cb tb cap p:Nat)(ao:Option Addr)(l:List Int)(C:T.Cur w cb tb cap ao l p)(hA:∀b∈s.data.toList,b.toNat<128) :
  Calls Tryz.prog 170 #[.pointer (some ⟨cb,0,none⟩),.string s] w fun e w'=>e= .returned (.bool (decide (T.see l p∈T.bts s)))/\Below w.heap.size w w':=by
 have hr:=C.see_right p
 go_enter Tryz.func170,Tryz.ntmps170
 go_wp2_with fail
 refine(ahead_any _ cb tb cap p 0 ao l C (by omega)).mono ?_
 rintro e w1 ⟨rfl,b1⟩
 rw[Nat.add_zero]
 go_wp2_with fail
 refine(contains_any s _ _ hA hr).mono ?_
 rintro e w2 ⟨rfl,b2⟩
 go_wp2
 go_ret
 exact⟨rfl,b1.trans (b2.mono b1.size)⟩
theorem blank_any (w:World)(cb tb cap p:Nat)(ao:Option Addr)(l:List Int)(C:T.Cur w cb tb cap ao l p) :
  Calls Tryz.prog 170 #[.pointer (some ⟨cb,0,none⟩),.string { data:=#[32,9,10] }] w fun e w'=>e= .returned (.bool (T.blank (T.see l p)))/\Below w.heap.size w w' :=
 among_any { data:=#[32,9,10] } w cb tb cap p ao l C (by decide)
theorem hexd_any (w:World)(cb tb cap p:Nat)(ao:Option Addr)(l:List Int)(C:T.Cur w cb tb cap ao l p) :
  Calls Tryz.prog 170 #[.pointer (some ⟨cb,0,none⟩),.string { data:=#[48,49,50,51,52,53,54,55,56,57,97,98,99,100,101,102,65,66,67,68,69,70] }] w fun e w'=>e= .returned (.bool (T.hexd (T.see l p)))/\Below w.heap.size w w' :=
 among_any _ w cb tb cap p ao l C (by decide)
theorem spec_any (w:World)(cb tb cap p:Nat)(ao:Option Addr)(l:List Int)(C:T.Cur w cb tb cap ao l p) :
  Calls Tryz.prog 170 #[.pointer (some ⟨cb,0,none⟩),.string { data:=#[32,9,10,91,93,38,45,94,92,58,36,40,41,123,125,60,62,124,59,35,39,34,61,44] }] w fun e w'=>e= .returned (.bool (decide (T.see l p∈T.specials)))/\Below w.heap.size w w' :=
 among_any _ w cb tb cap p ao l C (by decide)
theorem ordy_any (w:World)(cb tb cap p:Nat)(ao:Option Addr)(l:List Int)(C:T.Cur w cb tb cap ao l p) :
  Calls Tryz.prog 271 #[.pointer (some ⟨cb,0,none⟩)] w fun e w'=>e= .returned (.bool (T.ordy (T.see l p)))/\Below w.heap.size w w':=by
 unfold T.ordy
 go_enter Tryz.func271,Tryz.ntmps271
 go_wp2_with fail
 refine(done_any _ cb tb cap p ao l C).mono ?_
 rintro e w1 ⟨rfl,b1⟩
 have C1:=C.below b1
 by_cases h:T.see l p= -1
 ·go_wp2
  go_ret
  exact⟨L.ret_bool (by simp[h]),b1⟩
 ·go_wp2_with (go_at_call 170;refine(spec_any _ cb tb cap p ao l C1).mono ?_;rintro e w2 ⟨rfl,b2⟩)
  go_ret
  exact⟨L.ret_bool (by simp[h]),b1.trans (b2.mono b1.size)⟩
set_option maxHeartbeats 1000000 in
theorem blanks_any (w:World)(cb tb cap p:Nat)(ao:Option Addr)(l:List Int)(C:T.Cur w cb tb cap ao l p) :
  Calls Tryz.prog 118 #[.pointer (some ⟨cb,0,none⟩)] w fun e w'=>e= .returned (.tuple #[])/\T.Cur w' cb tb cap ao l (T.skipW T.blank l p)/\w.grownBy w' (some cb):=by
 have hlen:=C.len
 go_enter Tryz.func118,Tryz.ntmps118
 go_wp2
 go_loopw [3] (fun _ wr=>∃q:Nat,p<=q/\Hid (∀i,p<=i->i<q->T.blank (T.see l i)=true)/\Hid (T.Cur wr cb tb cap ao l q)/\Hid (w.grownBy wr (some cb))) (fun _ wr=>l.length - T.pos wr cb)
 case atStart=>exact⟨p,Nat.le_refl _,fun i h1 h2=>by omega,C,S.grown_refl _ _⟩
 case round =>
  obtain⟨q,hq,HA,HC,HG⟩:=hrel
  have hpos:=HC.out.pos
  have HP:Hid _:=hpos
  clear hpos
  have hql:=HC.out.le
  go_wp2_with fail
  refine(blank_any _ cb tb cap q ao l HC.out).mono ?_
  rintro e w1 ⟨rfl,b1⟩
  have C1:=HC.out.below b1
  have c1:=C1.cell1
  have f1:=C1.frz1
  have HC1:Hid (T.Cur w1 cb tb cap ao l q):=C1
  clear C1
  by_cases hb:T.blank (T.see l q)=true
  ·have hlt:q<l.length:=HC.out.inside (by intro h;rw[h] at hb;revert hb;decide)
   go_wp2
   go_roundw
   case rel =>
    refine⟨q+1,by omega,fun i h1 h2=> ?_,HC1.out.set (q:=q+1) (by omega),S.grown_trans HG.out (S.grown_trans (S.grown_below b1) (fr_set _ _ _ _))⟩
    by_cases e:i=q
    ·rw[e];exact hb
    ·exact HA.out i h1 (by omega)
   case measure =>
    have h1:T.pos (w1.setCell ⟨cb,1,none⟩ (.int .i64 ((q:Int)+1))) cb=q+1:=(HC1.out.set (q:=q+1) (by omega)).pos
    rw[h1,HP.out]
    omega
  ·have hb':T.blank (T.see l q)=false:=by simpa using hb
   go_wp2
   go_end0
   rw[T.skipW_eq hq hql HA.out hb' (by decide)]
   exact⟨rfl,HC1.out,S.grown_trans HG.out (S.grown_below b1)⟩
end Go.Proofs.YtmcljejgbikbhaaGreatDoor
