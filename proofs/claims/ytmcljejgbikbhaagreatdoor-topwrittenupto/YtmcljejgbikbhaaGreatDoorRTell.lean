/-
 What scriptref1.Same answers of two slices of runes: whether they read as the same list.
-/
import Derived.Test.YtmcljejgbikbhaaGreatDoorRows
import Derived.Test.YtmcljejgbikbhaaGreatDoorSLib
import Derived.Deep.QuietTactic
import Derived.BigQuiet
import Derived.Test.YtmcljejgbikbhaaGreatDoorTQuote
import Derived.Shelf.Lay
import Derived.Shelf.Strings.Builder1
import Derived.Test.YtmcljejgbikbhaaGreatDoorRWrong3
set_option maxHeartbeats 0
namespace Go.Proofs.YtmcljejgbikbhaaGreatDoor
open Go.RowKit
theorem zik {a b:List Int}{k:Nat}{x y:Int}(h:a.take k=b.take k)(hx:a[k]?=some x)(hy:b[k]?=some y)(e:x=y):a.take (k+1)=b.take (k+1):=by
 rw[List.take_add_one,List.take_add_one,h,hx,hy,e]
theorem zps (w:World)(va vb:Value)(za zb:List Int)(ha:L.Rd w va .i32 za)(hb:L.Rd w vb .i32 zb)(hla:za.length<=4611686018427387903)(hlb:zb.length<=4611686018427387903) :
  Calls Tryz.prog 17 #[va,vb] w fun e w'=>e= .returned (.bool (decide (za=zb)))/\Below w.heap.size w w':=by
 obtain⟨ao,ca,rfl,_,ha⟩:=ha;obtain⟨bo,cb,rfl,_,hb⟩:=hb
 by_cases hl:za.length=zb.length
 ·go_enter Tryz.func17,Tryz.ntmps17
  go_wp2
  go_loopw [13] (fun i wr=>∃k n:Nat,k<=za.length/\i= .int .i64 k/\za.take k=zb.take k/\wr=w.drewN n) (fun i _=>za.length - (intOf i).toNat)
  case atStart=>exact⟨0,0,Nat.zero_le _,rfl,by simp,rfl⟩
  case round =>
   obtain⟨k,n,hk,rfl,ht,rfl⟩:=hrel
   by_cases hlt:k<za.length
   ·obtain⟨b1,o1,rfl,hc1⟩:=ha (by intro h;subst h;simp at hlt);obtain⟨b2,o2,rfl,hc2⟩:=hb (by intro h;subst h;simp at hl;rw[hl] at hlt;simp at hlt);obtain⟨x,hx⟩:∃x,za[k]?=some x:=⟨za[k],by simp[hlt]⟩;obtain⟨y,hy⟩:∃y,zb[k]?=some y:=⟨zb[k]'(by omega),by simp[show k<zb.length by omega]⟩;have c1:=hc1 k x hx;have c2:=hc2 k y hy;clear hc1 hc2 ha hb;have HX:Hid (za[k]?=some x/\zb[k]?=some y/\za.take k=zb.take k):=⟨hx,hy,ht⟩;clear hx hy ht
    by_cases hxy:x=y
    ·go_wp2
     go_quiet (fail)
     go_wp2
     go_roundw
     case rel=>exact⟨k+1,_,by omega,by go_num,zik HX.out.2.2 HX.out.1 HX.out.2.1 hxy,rfl⟩
     case measure=>simp[intOf];omega
    ·go_wp2
     go_quiet (fail)
     go_wp2;go_ret
     refine⟨L.zam ?_,below_drewN (below_drewN (qR _) _) _⟩
     have:za≠zb:=by
      intro e;rw[e] at HX;have h1:=HX.out.1;rw[HX.out.2.1] at h1;exact hxy (Option.some.inj h1).symm
     simp[this]
   ·go_wp2;go_ret
    refine⟨L.zam ?_,below_drewN (qR _) _⟩;rw[List.take_of_length_le (by omega),List.take_of_length_le (by omega)] at ht;simp[ht]
 ·go_enter Tryz.func17,Tryz.ntmps17
  go_wp2;go_ret
  refine⟨L.zam ?_,qR _⟩;have:za≠zb:=by intro e;exact hl (by rw[e])
  simp[this]
end Go.Proofs.YtmcljejgbikbhaaGreatDoor
namespace Go.Proofs.YtmcljejgbikbhaaGreatDoor
open Go.Shelf Go.RowKit
shelf_lay Lays.n169 Nm 169 at Tryz as Tryz.lays169
theorem bx169:Builder.Extra Tryz.prog Tryz.lays169_ren where
 sizeBuilder:=by kernel_rfl
 liesBuilder:=by kernel_rfl
 t5:=Tryz.underlying5
 a5:=Tryz.isAgg5
 z5:=Tryz.sizeOf5
 v5:=Tryz.zeroValue5
 infoByte:=by kernel_rfl
 cellsByte:=by kernel_rfl
 sizeByte:=by kernel_rfl
 neB5:=by decide
set_option maxRecDepth 100000 in
theorem zof (b:Nat)(w:World)(h0:w.cell? ⟨b,0,none⟩=some (.pointer (some ⟨b,0,none⟩))) :
  Calls Tryz.prog 74 #[.pointer (some ⟨b,0,none⟩)] w fun e w'=>e= .returned (.tuple #[])/\w'=w:=by
 obtain⟨j,hj,_⟩:=Option.map_eq_some_iff.1 bx169.sizeBuilder
 go_enter Tryz.func74,Tryz.ntmps74
 go_wp2;rw[Lib.run_neq_ptr_same w _ Tryz.underlying95 hj]
 go_wp2
 go_end0
 exact⟨rfl,rfl⟩
set_option maxRecDepth 100000 in
theorem zle (b:Nat)(w:World)(h0:w.cell? ⟨b,0,none⟩=some (.pointer none))(hsh:w.shape? b=some (98,2))(hfz:w.frozen? ⟨b,0,none⟩=false) :
  Calls Tryz.prog 74 #[.pointer (some ⟨b,0,none⟩)] w fun e w'=>e= .returned (.tuple #[])/\w'=w.setCell ⟨b,0,none⟩ (.pointer (some ⟨b,0,none⟩)):=by
 obtain⟨j,hj,hjs⟩:=Option.map_eq_some_iff.1 bx169.sizeBuilder
 go_enter Tryz.func74,Tryz.ntmps74
 go_wp2;rw[Lib.run_to_unsafe w ⟨b,0,none⟩ Tryz.underlying95 Tryz.underlying197 hj (by rw[hjs];decide) hsh (Nat.zero_lt_succ 1)]
 simp only[Result.andThen];rw[Oper.upon_value];go_wp2;rw[run_callFunc_extern Tryz.func127 (by kernel_rfl) (by kernel_rfl) (by kernel_rfl) (e:=Extern.AbiNoEscape.same) (by kernel_rfl)];rw[Lib.run_noEscape];simp only[Result.andThen];rw[Oper.upon_value];go_wp2;rw[Lib.run_from_unsafe w ⟨b,0,none⟩ Tryz.underlying197 Tryz.underlying95 hj hsh bx169.liesBuilder];simp only[Result.andThen];rw[Oper.upon_value];go_wp2
 go_end0
 exact⟨rfl,rfl⟩
theorem zjr (B b:Nat)(bs:List Value)(w:World)(h:Lib.IsBuilder 98 5 B b bs w) :
  Calls Tryz.prog 74 #[.pointer (some ⟨b,0,none⟩)] w fun e w'=>e= .returned (.tuple #[])/\(Lib.BuilderAt 98 5 B b (.pointer (some ⟨b,0,none⟩)) bs w'/\Below B w w'/\Lib.OthersKept 5 (some b) w w'):=by
 rcases h with h | h
 ·refine(zle b w h.cell0 h.shape h.frozen0).mono ?_;rintro e w' ⟨rfl,rfl⟩;exact⟨rfl,h.used _,(Below.refl B w).setCell (p:=⟨b,0,none⟩) h.1 _,(Lib.OthersKept.refl _ _ w).setCell ⟨b,0,none⟩ rfl _⟩
 ·refine(zof b w h.cell0).mono ?_;rintro e w' ⟨rfl,rfl⟩;exact⟨rfl,h,Below.refl B _,Lib.OthersKept.refl _ _ _⟩
theorem zi0 {w:World}{B:Nat}{e:TypeId}{v:Value}{n:Nat}{xs:List Value}(h:w.ownsRow B e 1 v n xs):∀g,v.ownBlock=some g->∃c,w.heap[g]?=some (.cells c e (0,0)):=by
 intro g hg;rcases h.2 with ⟨rfl,_⟩|⟨g',cap,cur,rfl,_,hgg,_⟩
 ·simp[Value.ownBlock] at hg
 ·simp[Value.ownBlock] at hg;subst hg;exact⟨cur,hgg⟩
def T.Bd (B b:Nat) (l:List UInt8) (w:World):Prop:=Lib.IsBuilder 98 5 B b (Lib.byteCells l) w/\B<=w.heap.size
theorem T.Bd.below {B b:Nat}{l:List UInt8}{w w':World}(h:T.Bd B b l w)(hb:Below w.heap.size w w'):T.Bd B b l w':=by
 have key:∀p bs,Lib.BuilderAt 98 5 B b p bs w->Lib.BuilderAt 98 5 B b p bs w':=by
  rintro p bs ⟨hB,v,hbk,hown,hne⟩;refine⟨hB,v,?_,L.zc7 hown hb qN,hne⟩;rw[hb.block b (qA.1 hbk).1];exact hbk
 exact⟨h.1.imp (key _ _) (key _ _),Nat.le_trans h.2 hb.size⟩
theorem zum (w:World):T.Bd w.heap.size w.heap.size [] (w.alloc (.cells #[.pointer none,.slice none 0 0] 98)):=⟨Lib.fresh_isBuilder _ _ w,by simp⟩
theorem zic (B b:Nat)(l:List UInt8)(c:Int)(c':UInt8)(hcc:c=c'.toNat)(w:World)(h:T.Bd B b l w)(hl:l.length<=1000000000000) :
  Calls Tryz.prog 43 #[.pointer (some ⟨b,0,none⟩),.int .u8 c] w fun e w'=>e= .returned .nilIface/\T.Bd B b (l++ [c']) w'/\Below B w w'/\Lib.OthersKept 5 (some b) w w':=by
 subst hcc;obtain⟨i0,hi,hz0,hz1,hz2⟩:=info_parts bx169.infoByte;have HL:Hid ((Lib.byteCells l).length=l.length):=Lib.byteCells_length l;have hBw:=h.2
 go_enter Tryz.func43,Tryz.ntmps43
 go_wp2_with (go_at_call 74;refine(zjr B b _ _ h.1).mono ?_)
 rintro e w1 ⟨rfl,h1,hb1,hk1⟩;have HK:Hid (Lib.OthersKept 5 (some b) w w1):=hk1;clear hk1;obtain⟨hB,v,hbk,hown,hne⟩:=h1;have c0:w1.cell? ⟨b,0,none⟩=some (.pointer (some ⟨b,0,none⟩)):=by rw[Lib.cell_of_heap hbk];rfl
 have c1:w1.cell? ⟨b,1,none⟩=some v:=by rw[Lib.cell_of_heap hbk];rfl
 go_wp2_with (at_builtin;refine wpList_append_own _ rfl _ _ 96 rfl B 5 i0 (.int .u8 0) 1 1 Tryz.underlying96 hi hz0 hz1 hz2 rfl (by decide) _ _ _ rfl (hown.alloc _) ⟨w1.heap.size,0,none⟩ 1 1 [.int .u8 c'.toNat] rfl rfl ?c1 ?c2 ?c3 ?c4 ?c5 ?_)
 case c1 =>
  intro j u hj
  match j,hj with
  | 0,hj=>simp at hj;subst hj;simp[Addr.add]
 case c2=>intro u hu;simp at hu;subst hu;rfl
 case c3=>have:=HL.out;unfold maxLen;omega
 case c4=>have:=HL.out;omega
 case c5=>have:=hb1.size;simp;omega
 intro v' w2 hown' hgrow _
 have hlt:b<w1.heap.size:=by
  rcases Nat.lt_or_ge b w1.heap.size with h' | h'
  ·exact h'
  ·simp[Array.getElem?_eq_none h'] at hbk
 have hb2:w2.heap[b]?=some (.cells #[.pointer (some ⟨b,0,none⟩),v] 98 (0,0)):=by
  rw[hgrow.block b (by simp;omega) (fun e=>hne e.symm),Lib.alloc_old w1 _ b hlt];exact hbk
 have d0:w2.cell? ⟨b,0,none⟩=some (.pointer (some ⟨b,0,none⟩)):=by rw[Lib.cell_of_heap hb2];rfl
 have d1:w2.cell? ⟨b,1,none⟩=some v:=by rw[Lib.cell_of_heap hb2];rfl
 have f1:w2.frozen? ⟨b,1,none⟩=false:=Lib.frozen_of_heap hb2 1
 obtain⟨g,cap,rfl⟩:∃g cap,v'= .slice (some ⟨g,0,none⟩) ((Lib.byteCells l).length+1) cap:=by
  rcases hown'.2 with ⟨_,h0⟩|⟨g,cap,cur,hv,_⟩
  ·omega
  ·exact⟨g,cap,hv⟩
 have HO:Hid _:=hown';clear hown';go_wp2;go_ret;have hbl:=((hb1.alloc (by have:=hb1.size;omega) _).grown hgrow (by have:=hb1.size;simp;omega) (fun k hk=>(hown.lt k hk).1)).setCell (p:=⟨b,1,none⟩) hB (.slice (some ⟨g,0,none⟩) ((Lib.byteCells l).length+1) cap);have hcells:Lib.byteCells (l++ [c'])=Lib.byteCells l++ [.int .u8 c'.toNat]:=by simp[Lib.byteCells]
 refine⟨rfl,⟨.inr ?_,Nat.le_trans hBw hbl.size⟩,hbl,((HK.out.alloc _).grown hgrow fun g' hg'=> ?_).setCell ⟨b,1,none⟩ rfl _⟩
 rotate_left
 ·obtain⟨c,hc⟩:=zi0 hown g' hg';exact⟨c,(0,0),by rw[Lib.alloc_old _ _ _ (qA.1 hc).1];exact hc⟩
 rw[hcells];exact Lib.BuilderAt.put (T:=98) (e:=5) hB hb2 (bs':=Lib.byteCells l++ [.int .u8 c'.toNat]) (by rw[List.length_append];exact HO.out) (by decide)
theorem zeg (B b:Nat)(l m:List UInt8)(w:World)(h:T.Bd B b l w)(hl:l.length+m.length<=1000000000000) :
  Calls Tryz.prog 42 #[.pointer (some ⟨b,0,none⟩),.string ⟨m.toArray⟩] w fun e w'=>(∃v,e= .returned v)/\T.Bd B b (l++m) w'/\Below B w w'/\Lib.OthersKept 5 (some b) w w':=by
 obtain⟨i0,hi,hz0,hz1,hz2⟩:=info_parts bx169.infoByte;have HL:Hid ((Lib.byteCells l).length=l.length):=Lib.byteCells_length l;have hsz:(⟨m.toArray⟩:ByteArray).size=m.length:=by show m.toArray.size=_;simp
 have hBw:=h.2;generalize hs:(⟨m.toArray⟩:ByteArray)=s at hsz ⊢;have HS:Hid (s.size=m.length):=hsz;clear hsz
 go_enter Tryz.func42,Tryz.ntmps42
 go_wp2_with (go_at_call 74;refine(zjr B b _ _ h.1).mono ?_)
 rintro e w1 ⟨rfl,h1,hb1,hk1⟩;have HK:Hid (Lib.OthersKept 5 (some b) w w1):=hk1;clear hk1;obtain⟨hB,v,hbk,hown,hne⟩:=h1;have c0:w1.cell? ⟨b,0,none⟩=some (.pointer (some ⟨b,0,none⟩)):=by rw[Lib.cell_of_heap hbk];rfl
 have c1:w1.cell? ⟨b,1,none⟩=some v:=by rw[Lib.cell_of_heap hbk];rfl
 go_wp2_with (at_builtin;refine Lib.wpList_append_own_string _ rfl _ _ 96 9 rfl B 5 i0 Tryz.underlying96 Tryz.underlying9 hi hz0 hz1 hz2 _ _ _ rfl hown s rfl ?c3 ?c4 ?c5 ?_)
 case c3=>have:=HL.out;have:=HS.out;unfold maxLen;omega
 case c4=>have:=HL.out;have:=HS.out;omega
 case c5=>have:=hb1.size;omega
 intro v' w2 hown' hgrow _
 have hlt:b<w1.heap.size:=by
  rcases Nat.lt_or_ge b w1.heap.size with h' | h'
  ·exact h'
  ·simp[Array.getElem?_eq_none h'] at hbk
 have hb2:w2.heap[b]?=some (.cells #[.pointer (some ⟨b,0,none⟩),v] 98 (0,0)):=by
  rw[hgrow.block b hlt (fun e=>hne e.symm)];exact hbk
 have d0:w2.cell? ⟨b,0,none⟩=some (.pointer (some ⟨b,0,none⟩)):=by rw[Lib.cell_of_heap hb2];rfl
 have d1:w2.cell? ⟨b,1,none⟩=some v:=by rw[Lib.cell_of_heap hb2];rfl
 have f1:w2.frozen? ⟨b,1,none⟩=false:=Lib.frozen_of_heap hb2 1
 obtain⟨ao,n',cap,rfl⟩:∃ao n' cap,v'= .slice ao n' cap:=by
  rcases hown'.2 with ⟨hv,_⟩|⟨g,cap,cur,hv,_⟩
  ·exact⟨_,_,_,hv⟩
  ·exact⟨_,_,_,hv⟩
 have HO:Hid _:=hown';clear hown';go_wp2
 go_ret2
 have hbl:=(hb1.grown hgrow (by have:=hb1.size;omega) (fun k hk=>(hown.lt k hk).1)).setCell (p:=⟨b,1,none⟩) hB (.slice ao n' cap);have hcells:Lib.byteCells (l++m)=Lib.byteCells l++Lib.strCells s:=by subst hs;simp[Lib.byteCells,Lib.strCells]
 refine⟨⟨_,rfl⟩,⟨.inr ?_,Nat.le_trans hBw hbl.size⟩,hbl,(HK.out.grown hgrow fun g' hg'=> ?_).setCell ⟨b,1,none⟩ rfl _⟩
 rotate_left
 ·obtain⟨c,hc⟩:=zi0 hown g' hg';exact⟨c,(0,0),hc⟩
 rw[hcells];exact Lib.BuilderAt.put (T:=98) (e:=5) hB hb2 (bs':=Lib.byteCells l++Lib.strCells s) (by rw[List.length_append,Lib.strCells_length];exact HO.out) (by decide)
theorem zrq (B b:Nat)(l:List UInt8)(w:World)(h:T.Bd B b l w) :
  Calls Tryz.prog 45 #[.pointer (some ⟨b,0,none⟩)] w fun e w'=>e= .returned (.string ⟨l.toArray⟩)/\Below B w w' :=
 Any.Builder_String_any Tryz.lays169 bx169 B b l w h.1 h.2
theorem zkl {r:Int}(h:T.plain r=true):M.right r=true:=by
 unfold T.plain T.alnum at h;unfold M.right at h ⊢;simp only[Bool.or_eq_true,Bool.and_eq_true,decide_eq_true_eq] at h ⊢;omega
theorem zrf {r:Int}(h:M.right r=true):(M.enc r).length<=4:=by
 obtain⟨n,rfl⟩:∃n:Nat,r=(n:Int):=⟨r.toNat,by unfold M.right at h;have:=of_decide_eq_true h;omega⟩;rw[M.zde n h];split
 ·simp
 ·split
  ·simp
  ·split <;> simp
theorem zko {x:S.Sp}(h1:x.1<=1114111)(h2:x.2<=1114111):(T.one x).length<=21/\(T.quo x.1).length<=10/\(T.quo x.2).length<=10:=by
 have hq:∀r:Int,r<=1114111->(T.quo r).length<=10:=by
  intro r hr;unfold T.quo;split
  ·rename_i h
   have:=zrf (zkl h);omega
  ·have:=T.zfb (n:=r.toNat) (k:=5) (by omega);simp;omega
 have ha:=hq _ h1;have hb:=hq _ h2;refine⟨?_,ha,hb⟩;unfold T.one;split
 ·simp;omega
 ·simp;omega
theorem zjd {l:List S.Sp}(h:∀x∈l,x.1<=1114111/\x.2<=1114111):(T.inner l).length<=21*l.length:=by
 induction l with
 | nil=>simp[T.inner]
 | cons x l ih =>
  have h1:=zko (h x (by simp)).1 (h x (by simp)).2;have h2:=ih fun y hy=>h y (by simp[hy])
  simp only[T.inner,List.flatMap_cons,List.length_append,List.length_cons] at h2 ⊢;omega
def T.prE (l:List S.Sp):Value:= .tuple #[.string ⟨(if S.wrongE l=0 then T.prt l else []).toArray⟩,.int .i64 (S.wrongE l)]
theorem zp5 (w:World)(v:Value)(l:List S.Sp)(R:S.Rd w v l)(hf:S.Fit l)(hT:T.Tz w) :
  Calls Tryz.prog 128 #[v] w fun e w'=>e= .returned (T.prE l)/\Below w.heap.size w w':=by
 have HR:Hid (S.Rd w v l):=R;obtain⟨ao,cap,rfl⟩:=R.len;clear R
 by_cases hw:S.wrongE l=0
 ·have hn:=S.zax.1 hw
  go_enter Tryz.func128,Tryz.ntmps128
  go_wp2_with (go_at_call 60;refine(zbu _ _ l HR.out hf).mono ?_;rintro e w1 ⟨rfl,b1⟩;rw[hw])
  have HI:Hid (∀k,(T.inner (l.take k)).length<=4200):=fun k=>by
   have h:=zjd (l:=l.take k) fun x hx=>by have:=hn.2.mem (List.mem_of_mem_take hx);omega
   rw[List.length_take] at h;omega
  have H0:Hid (T.Bd w1.heap.size w1.heap.size [] _):=zum w1;refine(zic w1.heap.size w1.heap.size [] 91 91 rfl _ H0.out (by simp)).mono ?_;rintro e w2 ⟨rfl,d2,b2,k2⟩;have HB2:Hid (Below w1.heap.size w1 w2):=((qR w1).alloc qN _).trans b2;have HD2:Hid (T.Bd w1.heap.size w1.heap.size [91] w2):=d2;clear d2 b2 k2 H0;go_wp2
  go_loopw [16] (fun i wr=>∃k:Nat,k<=l.length/\i= .int .i64 k/\Hid (T.Bd w1.heap.size w1.heap.size (91::T.inner (l.take k)) wr)/\Hid (Below w1.heap.size w1 wr)) (fun i _=>l.length - (intOf i).toNat)
  case atStart=>exact⟨0,Nat.zero_le _,rfl,HD2,HB2⟩
  case round =>
   obtain⟨k,hk,rfl,HD,HB⟩:=hrel
   by_cases hlt:k<l.length
   ·obtain⟨x,hx⟩:∃x,l[k]?=some x:=⟨l[k],by simp[hlt]⟩;have hxm:=hn.2.mem (List.mem_of_getElem? hx);have hbw:Below w.heap.size w wr:=b1.trans (HB.out.mono b1.size);obtain⟨ao',cap',e',hnil,hcs⟩:=HR.out.below hbw qN;cases e';obtain⟨bb,off,rfl,hcell⟩:=hcs (by intro h;subst h;simp at hlt);have c1:=(hcell k x hx).1;have c2:=(hcell k x hx).2;clear hcell hnil;have HX:Hid (l[k]?=some x):=hx;clear hx;obtain⟨x1,x2⟩:=x;simp only at c1 c2 hxm;have HTr:Hid (T.Tz wr):=hT.below hbw hT.lt;have hw1:w1.heap.size<=wr.heap.size:=HB.out.size;have HW:Hid (w1.heap.size≠wr.heap.size):=fun e=>by have:=HD.out.1;rcases this with h | h <;> (have:=h.lt;omega)
    have HLen:=HI.out k;have HLn:Hid ((T.inner (l.take k)).length<=4200):=HLen;clear HLen;have hq:=zko (x:=(x1,x2)) (by simp only;omega) (by simp only;omega);simp only at hq;have HQ:Hid _:=hq;clear hq
    have HTk:Hid (T.inner (l.take (k+1))=T.inner (l.take k)++T.one (x1,x2)):=by
     show _=_;rw[List.take_add_one,HX.out];exact T.zn3 _ _
    go_wp2_with fail
    have bW:=(qR wr).alloc qN (.cells #[.int .i32 x1,.int .i32 x2] 125);have hxW:(wr.alloc (.cells #[.int .i32 x1,.int .i32 x2] 125)).heap[wr.heap.size]?=some (.cells #[.int .i32 x1,.int .i32 x2] 125):=heap_alloc_new wr _;have hsW:(wr.alloc (.cells #[.int .i32 x1,.int .i32 x2] 125)).heap.size=wr.heap.size+1:=by simp
    have DW:=HD.out.below bW;have TW:=HTr.out.below bW HTr.out.lt;have BW:=HB.out.trans (bW.mono hw1);refine(zfu x1 (by omega) (by omega) _ TW).mono ?_;generalize wr.alloc (.cells #[.int .i32 x1,.int .i32 x2] 125)=W' at bW hxW hsW DW TW BW;rintro e w3 ⟨rfl,b3⟩;have d3:=DW.below b3;have hx3:w3.heap[wr.heap.size]?=some (.cells #[.int .i32 x1,.int .i32 x2] 125):=by rw[b3.block _ (by omega)];exact hxW
    have B3:=BW.trans (b3.mono (by omega));have T3:=TW.below b3 TW.lt;clear DW b3 bW hxW BW;have HS3:Hid _:=hsW;clear hsW
    go_wp2_with fail
    refine(zeg _ _ _ (T.quo x1) w3 d3 (by simp only[List.length_cons];have:=HLn.out;have:=HQ.out;omega)).mono ?_;rintro e w4 ⟨⟨v4,rfl⟩,d4,b4,k4⟩;have hx4:=k4 _ _ hx3 (fun e=>HW.out (Option.some.inj e).symm) (fun c fz h=>by cases h);have B4:=B3.trans b4;have T4:=T3.below b4 (by have:=T.Tz.lt hT;have:=b1.size;omega);have cx1:w4.cell? ⟨wr.heap.size,0,none⟩=some (.int .i32 x1):=by rw[Lib.cell_of_heap hx4];rfl
    have cx2:w4.cell? ⟨wr.heap.size,1,none⟩=some (.int .i32 x2):=by rw[Lib.cell_of_heap hx4];rfl
    have HD4:Hid (T.Bd _ _ _ w4):=d4;have HX4:Hid _:=hx4;have HT4:Hid (T.Tz w4):=T4;have HB4:Hid (Below _ w1 w4):=B4;clear d4 hx4 T4 B4 hx3 B3 T3 d3 k4 b4
    by_cases hgt:x1<x2
    ·go_wp2_with fail
     refine(zic _ _ _ 45 45 rfl w4 HD4.out (by simp only[List.length_cons,List.length_append];have:=HLn.out;have:=HQ.out;omega)).mono ?_;rintro e w5 ⟨rfl,d5,b5,k5⟩;have hx5:=k5 _ _ HX4.out (fun e=>HW.out (Option.some.inj e).symm) (fun c fz h=>by cases h);have B5:=HB4.out.trans b5;have T5:=HT4.out.below b5 (by have:=T.Tz.lt hT;have:=b1.size;omega);have dx2:w5.cell? ⟨wr.heap.size,1,none⟩=some (.int .i32 x2):=by rw[Lib.cell_of_heap hx5];rfl
     clear HD4 HX4 HT4 HB4 cx1 cx2 k5 b5 hx5;have HD5:Hid (T.Bd _ _ _ w5):=d5;have HT5:Hid (T.Tz w5):=T5;have HB5:Hid (Below _ w1 w5):=B5;clear d5 T5 B5
     go_wp2_with fail
     refine(zfu x2 (by omega) (by omega) _ HT5.out).mono ?_;rintro e w6 ⟨rfl,b6⟩;have d6:=HD5.out.below b6;have HB6:Hid (Below _ w1 w6):=HB5.out.trans (b6.mono HB5.out.size);clear b6
     go_wp2_with fail
     refine(zeg _ _ _ (T.quo x2) w6 d6 (by simp only[List.length_cons,List.length_append];have:=HLn.out;have:=HQ.out;simp;omega)).mono ?_;rintro e w7 ⟨⟨v7,rfl⟩,d7,b7,k7⟩;have HB7:Hid (Below _ w1 w7):=HB6.out.trans b7;have HD7:Hid (T.Bd _ _ _ w7):=d7;clear d7 k7 b7 d6;go_wp2
     go_roundw
     case rel =>
      refine⟨k+1,by omega,by go_num,?_,HB7⟩;show T.Bd _ _ _ _;rw[HTk.out];unfold T.one;rw[if_pos hgt];have h:=HD7.out;simp only[List.cons_append,List.append_assoc,List.nil_append] at h ⊢;exact h
     case measure=>simp[intOf];omega
    ·go_wp2
     go_roundw
     case rel =>
      refine⟨k+1,by omega,by go_num,?_,HB4⟩;show T.Bd _ _ _ _;rw[HTk.out];unfold T.one;rw[if_neg (by simp only;omega),List.append_nil];exact HD4.out
     case measure=>simp[intOf];omega
   ·have hke:k=l.length:=by omega
    have hd:=HD.out;rw[hke,List.take_length] at hd;have HD':Hid (T.Bd _ _ _ wr):=hd;clear hd;have HIl:=HI.out l.length;rw[List.take_length] at HIl;have HI':Hid _:=HIl;clear HIl
    go_wp2_with fail
    refine(zic _ _ _ 93 93 rfl wr HD'.out (by simp only[List.length_cons];have:=HI'.out;omega)).mono ?_;rintro e w4 ⟨rfl,d4,b4,k4⟩;clear k4
    go_wp2_with fail
    refine(zrq _ _ _ w4 d4).mono ?_;rintro e w5 ⟨rfl,b5⟩;go_wp2
    go_ret2
    refine⟨?_,b1.trans (((HB.out.trans b4).trans b5).mono b1.size)⟩;unfold T.prE;rw[hw,if_pos rfl];rfl
 ·go_enter Tryz.func128,Tryz.ntmps128
  go_wp2_with (go_at_call 60;refine(zbu _ _ l HR.out hf).mono ?_;rintro e w1 ⟨rfl,b1⟩)
  go_ret2
  refine⟨?_,b1⟩;unfold T.prE;rw[if_neg hw];rfl
end Go.Proofs.YtmcljejgbikbhaaGreatDoor
namespace Go.Proofs.YtmcljejgbikbhaaGreatDoor
open Go.RowKit
set_option maxRecDepth 20000
set_option linter.unusedSimpArgs false
set_option linter.unusedVariables false
theorem zav {e:TypeId}{b:Option Nat}{w w':World}(h:Below w.heap.size w w'):Lib.OthersKept e b w w':=fun k o hk _ _=>by
 rw[h.block k (qA.1 hk).1];exact hk
structure R.Env (w0:World) (B:Nat) (w:World):Prop where
 tz:T.Tz w0
 le:w0.heap.size<=B
 bel:Below w0.heap.size w0 w
 now:B<=w.heap.size
theorem R.Env.next {w0 w w':World}{B:Nat}(h:R.Env w0 B w)(hb:Below B w w'):R.Env w0 B w':=⟨h.tz,h.le,h.bel.trans (hb.mono h.le),Nat.le_trans h.now hb.size⟩
theorem R.Env.tzw {w0 w:World}{B:Nat}(h:R.Env w0 B w):T.Tz w:=h.tz.below h.bel h.tz.lt
theorem R.Env.after {w0 w w':World}{B:Nat}(h:R.Env w0 B w)(hb:Below w.heap.size w w'):R.Env w0 B w':=h.next (hb.mono h.now)
def R.Told (B b:Nat) (l:List UInt8) (w:World) (e:Ending) (w':World):Prop :=
 e= .returned (.tuple #[])/\T.Bd B b l w'/\Below B w w'/\Lib.OthersKept 5 (some b) w w'
theorem zfo (w:World)(v:Value)(l:List S.Sp)(R0:S.Rd w v l)(hf:S.Fit l)(hT:T.Tz w) :
  Calls Tryz.prog 75 #[v] w fun e w'=>e= .returned (.string ⟨(R.setB l).toArray⟩)/\Below w.heap.size w w':=by
 have HP:Hid (Calls Tryz.prog 128 #[v] w fun e w'=>e= .returned (T.prE l)/\Below w.heap.size w w'):=zp5 w v l R0 hf hT;obtain⟨ao,cap,rfl⟩:=R0.len;have he:T.prE l= .tuple #[.string ⟨(R.setB l).toArray⟩,.int .i64 (S.wrongE l)]:=rfl;rw[he] at HP;generalize (⟨(R.setB l).toArray⟩:ByteArray)=s at *;generalize S.wrongE l=z at *;clear R0 hf hT he
 go_enter Tryz.func75,Tryz.ntmps75
 go_wp2_with fail
 refine HP.out.mono ?_;rintro e w1 ⟨rfl,b1⟩;go_wp2;go_ret;exact⟨rfl,b1⟩
theorem dollar (n:ByteArray):(⟨#[36]⟩:ByteArray)++n=⟨(36::n.data.toList).toArray⟩:=by
 apply ByteArray.ext;apply Array.toList_inj.1;simp
theorem zcs {n:ByteArray}(h:R.named n=true):1<=n.size/\n.size<=20:=by
 unfold R.named at h;simp only[Bool.and_eq_true,decide_eq_true_eq] at h;omega
theorem zqx {x:R.Item}(h:R.itemE x=0):(x.kind=1/\M.right x.rune=true)∨(x.kind=2/\S.wrongE x.set=0)∨(x.kind=3/\R.named x.name=true):=by
 unfold R.itemE at h;split at h
 ·rename_i h1
  split at h
  ·rename_i h2;exact .inl ⟨h1,h2⟩
  ·cases h
 ·split at h
  ·rename_i h1;exact .inr (.inl ⟨h1,h⟩)
  ·split at h
   ·rename_i h1
    split at h
    ·rename_i h2;exact .inr (.inr ⟨h1,h2⟩)
    ·cases h
   ·cases h
theorem zjc (w:World)(x:R.Item)(so:Option Addr)(sc:Nat)(R0:S.Rd w (.slice so x.set.length sc) x.set)(hf:S.Fit x.set)(hx:R.itemE x=0)(hT:T.Tz w) :
  Calls Tryz.prog 180 #[.agg #[.int .i64 x.kind,.int .i32 x.rune,.slice so x.set.length sc,.string x.name]] w fun e w'=>e= .returned (.string ⟨(R.itemB x).toArray⟩)/\Below w.heap.size w w':=by
 have ho:=zqx hx;obtain⟨k,r,s,n⟩:=x;simp only at R0 hf ho ⊢;have HA:Hid (∀o,Below w.heap.size w (w.alloc o)):=fun o=>(qR w).alloc qN o
 have HS:Hid (∀o,Calls Tryz.prog 75 #[.slice so s.length sc] (w.alloc o) fun e w'=>e= .returned (.string ⟨(R.setB s).toArray⟩)/\Below (w.alloc o).heap.size (w.alloc o) w'):=fun o =>
  zfo _ _ s (R.zcr R0 (R.Keeps.alloc w o)) hf (hT.below (HA.out o) hT.lt)
 have HT:Hid (∀o,T.Tz (w.alloc o)):=fun o=>hT.below (HA.out o) hT.lt
 clear R0 hf hx hT;rcases ho with ⟨rfl,hr⟩|⟨rfl,hw⟩|⟨rfl,hn⟩
 ·have hb:0<=r/\r<=1114111:=by unfold M.right at hr;have:=of_decide_eq_true hr;omega
  have e1:R.itemB ⟨1,r,s,n⟩=T.quo r:=by simp[R.itemB]
  rw[e1];generalize hq:(⟨(T.quo r).toArray⟩:ByteArray)=t
  have HQ:Hid (∀o,Calls Tryz.prog 179 #[.int .i32 r] (w.alloc o) fun e w'=>e= .returned (.string t)/\Below (w.alloc o).heap.size (w.alloc o) w'):=fun o=>by
   rw[<- hq];exact zfu r hb.1 hb.2 _ (HT.out o)
  clear hq e1
  go_enter Tryz.func180,Tryz.ntmps180
  go_wp2_with fail
  refine(HQ.out _).mono ?_;rintro e w1 ⟨rfl,b1⟩;obtain⟨_,B1,_⟩:=R.zbl b1;have HB1:Hid (Below w.heap.size w w1):=B1;clear b1 B1;go_wp2;go_ret;exact⟨rfl,HB1.out⟩
 ·have e1:R.itemB ⟨2,r,s,n⟩=R.setB s:=by simp[R.itemB]
  rw[e1];generalize (⟨(R.setB s).toArray⟩:ByteArray)=t at *;clear e1
  go_enter Tryz.func180,Tryz.ntmps180
  go_wp2_with fail
  refine(HS.out _).mono ?_;rintro e w1 ⟨rfl,b1⟩;obtain⟨_,B1,_⟩:=R.zbl b1;have HB1:Hid (Below w.heap.size w w1):=B1;clear b1 B1;go_wp2;go_ret;exact⟨rfl,HB1.out⟩
 ·have e1:R.itemB ⟨3,r,s,n⟩=36::n.data.toList:=by simp[R.itemB]
  have hn2:=zcs hn;rw[e1,<- dollar];have g1:¬ 9223372036854775807<1+n.size:=by omega
  go_enter Tryz.func180,Tryz.ntmps180
  go_wp2;go_ret
  exact⟨rfl,HA.out _⟩
theorem zrr (d:Int)(w:World) :
  Calls Tryz.prog 77 #[.int .i64 d] w fun e w'=>e= .returned (.string ⟨(R.arrowB d).toArray⟩)/\w'=w:=by
 unfold R.arrowB
 by_cases h1:d=1
 ·subst h1
  go_enter Tryz.func77,Tryz.ntmps77
  go_wp2;go_ret
  exact⟨rfl,rfl⟩
 ·by_cases h2:d=2
  ·subst h2
   go_enter Tryz.func77,Tryz.ntmps77
   go_wp2;go_ret
   exact⟨rfl,rfl⟩
  ·rw[if_neg h1,if_neg h2]
   go_enter Tryz.func77,Tryz.ntmps77
   go_wp2;go_ret
   exact⟨rfl,rfl⟩
theorem zau (B b:Nat)(l m:List UInt8)(w:World)(h:T.Bd B b l w)(hl:l.length+m.length<=1000000000) :
  Calls Tryz.prog 41 #[.string ⟨m.toArray⟩,.pointer (some ⟨b,0,none⟩)] w (R.Told B b (l++(m++ [32])) w):=by
 have HW:Hid (Calls Tryz.prog 42 #[.pointer (some ⟨b,0,none⟩),.string ⟨m.toArray⟩] w fun e w'=>(∃v,e= .returned v)/\T.Bd B b (l++m) w'/\Below B w w'/\Lib.OthersKept 5 (some b) w w'):=zeg B b l m w h (by omega);have HB:Hid (∀w1,T.Bd B b (l++m) w1->Calls Tryz.prog 43 #[.pointer (some ⟨b,0,none⟩),.int .u8 32] w1 fun e w'=>e= .returned .nilIface/\T.Bd B b ((l++m)++ [32]) w'/\Below B w1 w'/\Lib.OthersKept 5 (some b) w1 w'):=fun w1 h1=>zic B b _ 32 32 rfl w1 h1 (by rw[List.length_append];omega)
 generalize (⟨m.toArray⟩:ByteArray)=s at *;clear h hl
 go_enter Tryz.func41,Tryz.ntmps41
 go_wp2_with fail
 refine HW.out.mono ?_;rintro e w1 ⟨⟨v1,rfl⟩,d1,b1,k1⟩
 go_wp2_with fail
 refine(HB.out w1 d1).mono ?_;rintro e w2 ⟨rfl,d2,b2,k2⟩;go_wp2
 go_end0
 rw[List.append_assoc] at d2;exact⟨rfl,d2,b1.trans b2,k1.trans k2⟩
theorem zkw {l:List R.Item}{k:Nat}{x:R.Item}{c:Int}(hx:l[k]?=some x):R.itemsB (l.drop k) (c - k)=(if (k:Int)=c then R.bar else [])++(R.itemB x++ [32])++R.itemsB (l.drop (k+1)) (c - (k+1:Nat)):=by
 have hlt:=(qL.1 hx).1;rw[List.drop_eq_getElem_cons hlt];have:l[k]=x:=by rw[List.getElem?_eq_getElem hlt] at hx;exact Option.some.inj hx
 rw[this,R.itemsB];have e:c - ((k+1:Nat):Int)=c - k - 1:=by omega
 rw[e]
 by_cases h:(k:Int)=c
 ·rw[if_pos h,if_pos (by omega)]
 ·rw[if_neg h,if_neg (by omega)]
theorem zcp (w0:World)(B b:Nat)(w:World)(v:Value)(l:List R.Item)(c:Int)(t:List UInt8)(E:R.Env w0 B w)(R0:R.Its w0 v l)(hl:l.length<=20)(hok:∀x∈l,R.itemE x=0)(hb:T.Bd B b t w)(hc: -1<=c)(hlen:t.length+(R.itemsB l c).length<=1000000000) :
  Calls Tryz.prog 129 #[v,.int .i64 c,.func (.func 41) #[] #[.pointer (some ⟨b,0,none⟩)]] w (R.Told B b (t++R.itemsB l c) w):=by
 have eg:∀args w,(callFunc 41 args).run Tryz.prog w= .ok (.enter 41 args) w:=enters_of Tryz.func41 (by kernel_rfl) rfl;have HR:Hid (R.Its w0 v l):=R0;obtain⟨ao,cap,rfl⟩:=R0.len;have HE:Hid (R.Env w0 B w):=E;have HBd:Hid (T.Bd B b t w):=hb;have HOk:Hid (∀x∈l,R.itemE x=0):=hok;obtain⟨o,HO⟩:∃o,Hid (R.itemsB l c=o):=⟨_,rfl⟩;rw[HO.out] at hlen ⊢;have HLen:Hid (t.length+o.length<=1000000000):=hlen;clear R0 E hb hok hlen
 go_enter Tryz.func129,Tryz.ntmps129
 go_wp2
 go_loopw [10] (fun i wr=>∃(k:Nat) (m:List UInt8),k<=l.length/\i= .int .i64 k/\Hid (m++R.itemsB (l.drop k) (c - k)=o)/\Hid (T.Bd B b (t++m) wr)/\Hid (Below B w wr)/\Hid (Lib.OthersKept 5 (some b) w wr)) (fun i _=>l.length - (intOf i).toNat)
 case atStart=>exact⟨0,[],Nat.zero_le _,rfl,by show _=_;rw[<- HO.out];simp,by show T.Bd B b (t++ []) w;rw[List.append_nil];exact HBd.out,qR _,Lib.OthersKept.refl _ _ _⟩
 case round =>
  obtain⟨k,m,hk,rfl,HM,HD,HB,HK⟩:=hrel;have HEr:Hid (R.Env w0 B wr):=HE.out.next HB.out
  by_cases hlt:k<l.length
  ·obtain⟨x,hx⟩:∃x,l[k]?=some x:=⟨l[k],by simp[hlt]⟩;obtain⟨ao',cap',e',hcs⟩:=HR.out;cases e';obtain⟨bb,off,rfl,hcell⟩:=hcs (by intro h;subst h;simp at hlt);obtain⟨c0,c1,c3,⟨so,sc,c2,r2⟩,hf,_⟩:=hcell k x hx;have kk:=R.Keeps.of_below HEr.out.bel qN
   replace c0:=kk _ _ _ c0
   replace c1:=kk _ _ _ c1
   replace c2:=kk _ _ _ c2
   replace c3:=kk _ _ _ c3
   clear kk;have hix:=HOk.out x (List.mem_of_getElem? hx);have HS:=zkw (c:=c) hx;have HTx:Hid (∀w1,R.Env w0 B w1->Calls Tryz.prog 180 #[.agg #[.int .i64 x.kind,.int .i32 x.rune,.slice so x.set.length sc,.string x.name]] w1 fun e w'=>e= .returned (.string ⟨(R.itemB x).toArray⟩)/\Below w1.heap.size w1 w'):=fun w1 h1=>zjc w1 x so sc (r2.below h1.bel qN) hf hix h1.tzw
   rw[HS] at HM;have HM1:Hid (m++((if (k:Int)=c then R.bar else [])++(R.itemB x++ [32])++R.itemsB (l.drop (k+1)) (c - (k+1:Nat)))=o):=HM;clear HM HS hx hcell hcs r2 hf hix;obtain⟨ib,HIB⟩:∃ib,Hid (R.itemB x=ib):=⟨_,rfl⟩;rw[HIB.out] at HTx HM1;obtain⟨rest,HRe⟩:∃r,Hid (R.itemsB (l.drop (k+1)) (c - (k+1:Nat))=r):=⟨_,rfl⟩;rw[HRe.out] at HM1
   have HL1:Hid (((k:Int)=c->t.length+m.length+2+ib.length+1<=1000000000)/\t.length+m.length+ib.length+1<=1000000000):=by
    have h1:=congrArg List.length HM1.out;have h2:=HLen.out;simp only[List.length_append,List.length_singleton] at h1;refine⟨fun hk=> ?_,by omega⟩;rw[if_pos hk] at h1;simp only[R.bar,List.length_cons,List.length_nil] at h1;omega
   obtain⟨xk,xr,xs,xn⟩:=x;simp only at c0 c1 c2 c3 HTx;have bW:=(qR wr).alloc qN (.cells #[.int .i64 xk,.int .i32 xr,.slice so xs.length sc,.string xn] 218);have hxW:(wr.alloc (.cells #[.int .i64 xk,.int .i32 xr,.slice so xs.length sc,.string xn] 218)).heap[wr.heap.size]?=some (.cells #[.int .i64 xk,.int .i32 xr,.slice so xs.length sc,.string xn] 218):=heap_alloc_new wr _;have HDW:Hid (T.Bd B b (t++m) (wr.alloc (.cells #[.int .i64 xk,.int .i32 xr,.slice so xs.length sc,.string xn] 218))):=HD.out.below bW;have HBW:Hid (Below wr.heap.size wr (wr.alloc (.cells #[.int .i64 xk,.int .i32 xr,.slice so xs.length sc,.string xn] 218))):=bW;have HXW:Hid _:=hxW
   have HNe:Hid (some wr.heap.size≠some b):=fun e=>by
    have h1:=HD.out.1;have h2:=Option.some.inj e;rcases h1 with h | h <;> (have:=h.lt;omega)
   have HBN:Hid (B<=wr.heap.size):=HEr.out.now;clear bW hxW
   by_cases hkc:(k:Int)=c
   ·subst hkc
    go_wp2_with fail
    refine(zau B b _ [124] _ HDW.out (by have:=HL1.out.1 (by trivial);simp only[List.length_append,List.length_singleton];omega)).mono ?_;generalize wr.alloc (.cells #[.int .i64 xk,.int .i32 xr,.slice so xs.length sc,.string xn] 218)=W at HDW HBW HXW;rintro e w1 ⟨rfl,d1,b1,k1⟩;have hx1:=k1 _ _ HXW.out HNe.out (fun c fz h=>by cases h);have p0:=R.zab (i:=0) hx1 rfl;have p1:=R.zab (i:=1) hx1 rfl;have p2:=R.zab (i:=2) hx1 rfl;have p3:=R.zab (i:=3) hx1 rfl;have HD1:Hid (T.Bd B b ((t++m)++([124]++ [32])) w1):=d1;have HB1:Hid (Below B wr w1):=(HBW.out.mono HBN.out).trans b1;have HK1:Hid (Lib.OthersKept 5 (some b) wr w1):=(zav HBW.out).trans k1
    have HT1:Hid (Calls Tryz.prog 180 #[.agg #[.int .i64 xk,.int .i32 xr,.slice so xs.length sc,.string xn]] w1 fun e w'=>e= .returned (.string ⟨ib.toArray⟩)/\Below w1.heap.size w1 w'):=by
     exact HTx.out w1 (HEr.out.next HB1.out)
    clear d1 b1 k1 hx1 HXW HDW
    go_wp2_with fail
    refine HT1.out.mono ?_;rintro e w2 ⟨rfl,b2⟩;have HD2:=HD1.out.below b2;have HD2':Hid (T.Bd B b ((t++m)++([124]++ [32])) w2):=HD2;have HB2:Hid (Below B wr w2):=HB1.out.trans (b2.mono (Nat.le_trans HBN.out HB1.out.size));have HK2:Hid (Lib.OthersKept 5 (some b) wr w2):=HK1.out.trans (zav b2);clear b2 HD2
    go_wp2_with fail
    refine(zau B b _ ib _ HD2'.out (by have:=HL1.out.1 (by trivial);simp only[List.length_append,List.length_singleton];omega)).mono ?_;rintro e w3 ⟨rfl,d3,b3,k3⟩;have HD3:Hid (T.Bd B b (((t++m)++([124]++ [32]))++(ib++ [32])) w3):=d3;have HB3:Hid (Below B wr w3):=HB2.out.trans b3;have HK3:Hid (Lib.OthersKept 5 (some b) wr w3):=HK2.out.trans k3;clear d3 b3 k3;go_wp2
    go_roundw
    case rel =>
     refine⟨k+1,m++R.bar++(ib++ [32]),by omega,by go_num,?_,?_,HB.out.trans HB3.out,HK.out.trans HK3.out⟩
     ·show _=_;rw[HRe.out,<- HM1.out];simp
     ·show T.Bd B b _ w3;have h:=HD3.out;unfold R.bar;simp only[List.append_assoc,List.cons_append,List.nil_append] at h ⊢;exact h
    case measure=>simp[intOf];omega
   ·have hkc':((k:Int)==c)=false:=by simp[hkc]
    go_wp2_with fail
    refine(HTx.out _ (HEr.out.after HBW.out)).mono ?_;generalize wr.alloc (.cells #[.int .i64 xk,.int .i32 xr,.slice so xs.length sc,.string xn] 218)=W at HDW HBW HXW;rintro e w2 ⟨rfl,b2⟩;have HD2':Hid (T.Bd B b (t++m) w2):=HDW.out.below b2;have HB2:Hid (Below B wr w2):=(HBW.out.mono HBN.out).trans (b2.mono (Nat.le_trans HBN.out HBW.out.size));have HK2:Hid (Lib.OthersKept 5 (some b) wr w2):=(zav HBW.out).trans (zav b2);clear b2
    go_wp2_with fail
    refine(zau B b _ ib _ HD2'.out (by have:=HL1.out.2;simp only[List.length_append,List.length_singleton];omega)).mono ?_;rintro e w3 ⟨rfl,d3,b3,k3⟩;have HD3:Hid (T.Bd B b ((t++m)++(ib++ [32])) w3):=d3;have HB3:Hid (Below B wr w3):=HB2.out.trans b3;have HK3:Hid (Lib.OthersKept 5 (some b) wr w3):=HK2.out.trans k3;clear d3 b3 k3;go_wp2
    go_roundw
    case rel =>
     refine⟨k+1,m++(ib++ [32]),by omega,by go_num,?_,?_,HB.out.trans HB3.out,HK.out.trans HK3.out⟩
     ·show _=_;rw[HRe.out,<- HM1.out,if_neg hkc];simp
     ·show T.Bd B b _ w3;rw[<- List.append_assoc];exact HD3.out
    case measure=>simp[intOf];omega
  ·have hke:k=l.length:=by omega
   have hm:=HM.out;rw[List.drop_eq_nil_of_le (by omega),R.itemsB] at hm
   by_cases hcl:c=(l.length:Int)
   ·have hcl':(c==(l.length:Int))=true:=by simp[hcl]
    rw[if_pos (by omega)] at hm;have HM2:Hid (m++R.bar=o):=hm;clear hm
    go_wp2_with fail
    refine(zau B b _ [124] _ HD.out (by
     have h1:=congrArg List.length HM2.out;have h2:=HLen.out;simp only[R.bar,List.length_append,List.length_cons,List.length_nil] at h1 ⊢
     omega)).mono ?_
    rintro e w3 ⟨rfl,d3,b3,k3⟩;go_wp2
    go_end0
    refine⟨rfl,?_,HB.out.trans b3,HK.out.trans k3⟩;rw[<- HM2.out];unfold R.bar;simp only[List.append_assoc,List.cons_append,List.nil_append] at d3 ⊢;exact d3
   ·have hcl':(c==(l.length:Int))=false:=by simp[hcl]
    rw[if_neg (by omega),List.append_nil] at hm;go_wp2
    go_end0
    refine⟨rfl,?_,HB.out,HK.out⟩;rw[<- hm];exact HD.out
end Go.Proofs.YtmcljejgbikbhaaGreatDoor
