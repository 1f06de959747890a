import Derived.Test.YthnmmmkeamcfkaaGreatDoorXText
import Derived.Deep.DrawnRows
set_option maxHeartbeats 0
namespace Go.Proofs.YthnmmmkeamcfkaaGreatDoor
open Go.Proofs.Tryz
section
open Go.RowKit
namespace Gm
def Told (B:Gm.Bs) (g:Nat) (w:World) (A Z:List Int) (w':World):Prop:=(∃ao cur,Tx B g ao cur A Z w')/\Gm.Fr B w w'
theorem Tx.size {B:Gm.Bs}{g:Nat}{ao:Option Addr}{cur A Z:List Int}{w:World}(h:Tx B g ao cur A Z w):B.b<=w.heap.size:=by have:=h.box.lt;have:=h.hB.1;omega
theorem Tx.drew {B:Gm.Bs}{g:Nat}{ao:Option Addr}{cur A Z:List Int}{w:World}(h:Tx B g ao cur A Z w)(q:Nat):Tx B g ao cur A Z (w.drewN q):=h.kept fun _ _=>rfl
theorem Tx.told {B:Gm.Bs}{g:Nat}{ao:Option Addr}{cur A Z:List Int}{w w':World}(h:Tx B g ao cur A Z w')(hb:Gm.Fr B w w'):Told B g w A Z w':=⟨⟨ao,cur,h⟩,hb⟩
theorem Tx.same {B:Gm.Bs}{g:Nat}{ao:Option Addr}{cur A Z:List Int}{w:World}(h:Tx B g ao cur A Z w)(q:Nat):Told B g w A Z (w.drewN q):=(h.drew q).told (Gm.Fr.drewN (Gm.Fr.refl _ _) _)
theorem Tx.del {B:Gm.Bs}{g:Nat}{ao:Option Addr}{cur A Z:List Int}{w:World}(h:Tx B g ao cur A Z w)(k:Nat)(hk:k<=Z.length):Tx B g ao cur A (Z.drop k) (w.setCell ⟨g,2,none⟩ (.int .i64 ((cur.length - Z.length:Nat)+k:Int))):=by
 have hf:=h.fit;have hm:=h.most;have hw:=h.few;have hl:(Z.drop k).length=Z.length - k:=by simp
 refine⟨h.hB,?_,h.room.block fun r hr=>heap_setCell_other _ _ _ _ (h.ne r hr),h.ne,by omega,h.most,by omega,h.ahead,?_⟩
 ·have:=h.box.set2 (.int .i64 ((cur.length - Z.length:Nat)+k:Int));rw[hl];have e:((cur.length - Z.length:Nat)+k:Int)=(cur.length - (Z.length - k):Nat):=by omega
  rw[e] at this ⊢;exact this
 ·rw[hl];have:=h.behind
  conv=>lhs;rw[this]
  rw[List.drop_drop];congr 1;omega
theorem Tx.back {B:Gm.Bs}{g:Nat}{ao:Option Addr}{cur A Z:List Int}{w:World}(h:Tx B g ao cur A Z w)(k:Nat)(hk:k<=A.length):Tx B g ao cur (A.take (A.length - k)) Z (w.setCell ⟨g,1,none⟩ (.int .i64 ((A.length:Int) - k))):=by
 have hf:=h.fit;have hm:=h.most;have hw:=h.few;have hl:(A.take (A.length - k)).length=A.length - k:=by simp
 refine⟨h.hB,?_,h.room.block fun r hr=>heap_setCell_other _ _ _ _ (h.ne r hr),h.ne,by omega,h.most,by omega,?_,h.behind⟩
 ·have:=h.box.set1 (.int .i64 ((A.length:Int) - k));rw[hl];have e:((A.length:Int) - k)=(A.length - k:Nat):=by omega
  rw[e] at this ⊢;exact this
 ·rw[hl];exact(congrArg (List.take (A.length - k)) h.ahead).trans (by rw[List.take_take];congr 1;omega)
end Gm
theorem zww (w:World)(B:Gm.Bs)(g:Nat)(ao:Option Addr)(cur A Z:List Int)(h:Gm.Tx B g ao cur A Z w)(k:Nat)(hn:k<=Z.length) :
  Calls prog 253 #[.pointer (some ⟨g,0,none⟩),.int .i64 k] w fun e w'=>e= .returned (.int .i64 0)/\Gm.Told B g w A (Z.drop k) w':=by
 have hf:=h.fit;have hm:=h.most;have H:Hid _:=h;clear h
 go_enter func253,ntmps253
 go_wp2_with (go_at_call 232;refine(zep _ g ao _ _ _ H.out.box hm (by omega)).mono ?_;rintro e w' ⟨rfl,q,rfl⟩;rw[show cur.length - (cur.length - Z.length)=Z.length by omega];have X:=H.out.drew q;have c2:=X.box.c2;have f2:=X.box.free 2;have HX:Hid _:=X;clear X;have HB:Hid (Gm.Fr B w (w.drewN q)):=(Gm.Fr.drewN (Gm.Fr.refl _ _) _);generalize w.drewN q=w1 at *)
 go_ret;exact⟨rfl,(HX.out.del k hn).told (Gm.za9 HB.out HX.out.hB _)⟩
end
section
open Go.RowKit
attribute [local go_sem ↓] Go.wp_at_zero Go.wp_at_succ
namespace Gm
theorem zfg {L cs:List Int}{off k:Nat}(hl:off<=L.length)(h:k<=off):(splice L off cs).take k=L.take k:=by
 unfold splice;rw[List.take_append_of_le_length (by rw[List.length_take];omega),List.take_take];congr 1;omega
theorem zfi {L cs:List Int}{off k:Nat}(hl:off<=L.length)(h:off+cs.length<=k):(splice L off cs).drop k=L.drop k:=by
 unfold splice;rw[List.drop_append,List.drop_append,List.drop_drop,List.length_take,List.drop_eq_nil_of_le (by rw[List.length_take];omega),List.drop_eq_nil_of_le (by omega)];simp only[List.nil_append];congr 1;omega
theorem zfh {L cs:List Int}{off:Nat}(hl:off<=L.length):(splice L off cs).drop off=cs++L.drop (off+cs.length):=by
 unfold splice;rw[List.drop_append,List.length_take,List.drop_eq_nil_of_le (by rw[List.length_take];omega),show off - min off L.length=0 by omega];simp
theorem zff {L cs:List Int}{off:Nat}(hl:off<=L.length):(splice L off cs).take (off+cs.length)=L.take off++cs:=by
 unfold splice;rw[List.take_append,List.length_take,List.take_of_length_le (by rw[List.length_take];omega),show off+cs.length - min off L.length=cs.length by omega];simp
theorem zon {B:Gm.Bs}{w0 w:World}(b:Gm.Fr B w0 w):Gm.Fr B w0 w.drew:=b.drew
theorem zmi (w:World)(B:Gm.Bs)(r:Nat){cur:List Int}(hR:Room B w (some ⟨r,0,none⟩) cur)(off:Nat)(zs:List Int)(ad:Addr)(sLen sCap dLen dCap:Nat)(hn:zs.length=Nat.min sLen dLen)
  (hc:∀j z,zs[j]?=some z->w.cell? (ad.add j)=some (.int .i32 z)) (hfit:off+zs.length<=cur.length) :
  ∃W,(∀ty,(Builtin.copy_ #[33,33] ty #[.slice (some ⟨r,off,none⟩) dLen dCap,.slice (some ad) sLen sCap]).run prog w.drew= .ok (goInt zs.length) W)/\Room B W (some ⟨r,0,none⟩) (splice cur off zs)/\w.drew.grownBy W (some r):=by
 rcases hR with ⟨h,_⟩|⟨r',hr,hBr,hg⟩
 ·cases h
 cases hr;have hg':w.drew.heap[r]?=some (.cells (cur.map (Value.int .i32)).toArray 21 (0,0)):=hg
 have hrun:=fun ty=>run_copy_row (P:=prog) w.drew 33 33 ty 21 r off dLen dCap ad sLen sCap _ _ (zs.map (Value.int .i32)) underlying33 Tryz.sizeI32 hg' (by simpa using hn) (fun j v hj=>by
  rw[List.getElem?_map] at hj;cases hz:zs[j]? with
  | none=>rw[hz] at hj;simp at hj
  | some z=>rw[hz] at hj;simp at hj;subst hj;exact hc j z hz) (by simpa using hfit) (fun v hv=>by obtain⟨z,_,rfl⟩:=List.mem_map.1 hv;rfl)
 obtain⟨W,hW⟩:∃W,W=w.drew.setRow r ((cur.map (Value.int .i32)).toArray.toList.take off++zs.map (Value.int .i32)++(cur.map (Value.int .i32)).toArray.toList.drop (off+zs.length)).toArray:=⟨_,rfl⟩;refine⟨W,fun ty=> ?_,.inr ⟨r,rfl,hBr,?_⟩,?_⟩
 ·have:=hrun ty;rw[List.length_map,<- hW] at this;exact this
 ·have:=setRow_heap w.drew r _ ((cur.map (Value.int .i32)).toArray.toList.take off++zs.map (Value.int .i32)++(cur.map (Value.int .i32)).toArray.toList.drop (off+zs.length)).toArray _ _ hg';rw[<- hW] at this;simpa [splice,List.map_take,List.map_drop] using this
 ·rw[hW];exact⟨rfl,rfl,rfl,by simp[World.setRow],fun k _ hk=>setRow_other _ r k _ (fun e=>hk (by rw[e]))⟩
theorem zpj {B:Gm.Bs}{g:Nat}{w W:World}{A Z:List Int}{x y:Int}(h:Told B g w A Z (W.setCell ⟨g,1,none⟩ (.int .i64 y)))(e:x=y):Told B g w A Z (W.setCell ⟨g,1,none⟩ (.int .i64 x)):=e▸h
theorem Tx.stay {B:Gm.Bs}{g:Nat}{ao:Option Addr}{cur A Z:List Int}{w w2:World}(h:Tx B g ao cur A Z w)(hX:Bx3 w2 g (.slice ao cur.length cur.length) (.int .i64 A.length) (.int .i64 (cur.length - Z.length:Nat)))(hR:Room B w2 ao cur) :
  Tx B g ao cur A Z (w2.setCell ⟨g,1,none⟩ (.int .i64 A.length)) :=
 ⟨h.hB,hX.set1 _,hR.block fun r' hr=>heap_setCell_other _ _ _ _ (h.ne r' hr),h.ne,h.fit,h.most,h.few,h.ahead,h.behind⟩
theorem keep3 {w w':World}{g r:Nat}{v0 v1 v2:Value}(h:Bx3 w g v0 v1 v2)(hg:w.drew.grownBy w' (some r))(hne:r≠g):(w'.cell? ⟨g,0,none⟩=some v0/\w'.cell? ⟨g,1,none⟩=some v1)/\w'.cell? ⟨g,2,none⟩=some v2 :=
 have hb:Bx3 w' g v0 v1 v2:=h.block (hg.block g h.lt (fun e=>hne (by cases e;rfl)))
 ⟨⟨hb.c0,hb.c1⟩,hb.c2⟩
end Gm
namespace Gm
theorem Tx.left {B:Gm.Bs}{g r:Nat}{cur A Z:List Int}{w w2:World}{k T:Nat}(h:Tx B g (some ⟨r,0,none⟩) cur A Z w)(hk:k<A.length)(hT:T+A.length+Z.length=cur.length+k)
  (hR:Room B w2 (some ⟨r,0,none⟩) (splice cur T (A.drop k))) (hX:Bx3 w2 g (.slice (some ⟨r,0,none⟩) cur.length cur.length) (.int .i64 A.length) (.int .i64 T)) :
  Tx B g (some ⟨r,0,none⟩) (splice cur T (A.drop k)) (A.take k) (A.drop k++Z) (w2.setCell ⟨g,1,none⟩ (.int .i64 k)):=by
 have hf:=h.fit;have hm:=h.most;have hw:=h.few;have hd:(A.drop k).length=A.length - k:=by simp
 have ht:(A.take k).length=k:=by rw[List.length_take];omega
 have hl:(splice cur T (A.drop k)).length=cur.length:=length_splice _ _ _ (by omega);have hz:cur.length - (A.drop k++Z).length=T:=by rw[List.length_append,hd];omega
 refine⟨h.hB,?_,hR.block fun r' hr=>heap_setCell_other _ _ _ _ (h.ne r' hr),h.ne,by rw[hl,ht,List.length_append];omega,by omega,by rw[ht,List.length_append];omega,?_,?_⟩
 ·rw[hl,ht,hz];exact hX.set1 _
 ·rw[ht,zfg (by omega) (by omega)];have:=congrArg (List.take k) h.ahead;rw[List.take_take] at this;rw[this];congr 1;omega
 ·rw[hl,hz,zfh (by omega),hd];congr 1;have:=h.behind;rw[this];have e:(cur.drop (cur.length - Z.length)).length=Z.length:=by rw[<- this]
  rw[show T+(A.length - k)=cur.length - Z.length by omega]
end Gm
theorem ziv (w:World)(B:Gm.Bs)(g r:Nat)(cur A Z:List Int)(h:Gm.Tx B g (some ⟨r,0,none⟩) cur A Z w)(k:Nat)(hk:k<A.length) :
  Calls prog 231 #[.pointer (some ⟨g,0,none⟩),.int .i64 k] w fun e w'=>e= .returned (.int .i64 0)/\Gm.Told B g w (A.take k) (A.drop k++Z) w':=by
 have hf:=h.fit;have hm:=h.most;have hw:=h.few;have H:Hid _:=h;obtain⟨T,hT⟩:∃T:Nat,T=cur.length - Z.length - (A.length - k):=⟨_,rfl⟩;have e1:IntKind.i64.wrap (↑A.length - ↑k)= ↑A.length - ↑k:=by rw[IntKind.wrap_i64];omega
 have e2:IntKind.i64.wrap (↑(cur.length - Z.length) - (↑A.length - ↑k))=(T:Int):=by rw[IntKind.wrap_i64];omega
 have HT:Hid (T+A.length+Z.length=cur.length+k):=by show _=_;omega
 have hT1:T<cur.length:=by omega
 have hT2:(0:Int)<=T:=by omega
 have hT3:(T:Int)<=cur.length:=by omega
 have hT4:¬cur.length=T:=by omega
 have hk1:¬cur.length=k:=by omega
 have hk2:(0:Int)<=k:=by omega
 have hk3:(k:Int)<=A.length:=by omega
 have hk4:(A.length:Int)<=cur.length:=by omega
 clear h hT
 go_enter func231,ntmps231
 go_wp2_with (go_at_call 211;refine(zcm _ g _ _ _ _ H.out.box hm (by omega) (by omega)).mono ?_;rintro e w' ⟨rfl,q,rfl⟩;rw[show (A.length+(cur.length - (cur.length - Z.length)))=A.length+Z.length by omega];have X:=H.out.drew q;have c0:=X.box.c0;have c1:=X.box.c1;have c2:=X.box.c2;have f2:=X.box.free 2;have f1:=X.box.free 1;have HX:Hid _:=X;clear X;have HB:Hid (Gm.Fr B w (w.drewN q)):=(Gm.Fr.drewN (Gm.Fr.refl _ _) _);generalize w.drewN q=w1 at *)
 obtain⟨W2,hW2⟩:∃W2,W2=(w1.setCell ⟨g,2,none⟩ (.int .i64 T)).drew:=⟨_,rfl⟩;have X2:Gm.Bx3 W2 g (.slice (some ⟨r,0,none⟩) cur.length cur.length) (.int .i64 A.length) (.int .i64 T):=by rw[hW2];exact HX.out.box.set2 _
 have HR2:Hid (Gm.Room B W2 (some ⟨r,0,none⟩) cur):=by rw[hW2];exact HX.out.room.block fun r' hr=>heap_setCell_other _ _ _ _ (HX.out.ne r' hr)
 have HB2:Hid (Gm.Fr B w W2):=by rw[hW2];exact Gm.zon (Gm.za9 HB.out HX.out.hB _)
 have HW2:=qH hW2;clear hW2
 go_region
 rw[<- HW2.out];have d0:=X2.c0;have d1:=X2.c1;have d2:=X2.c2;have g1:=X2.free 1;have HX2:=qH X2;have hne:=HX.out.ne r rfl;have hlA:(A.drop k).length=A.length - k:=by simp
 have HG:Hid (∀j z,(A.drop k)[j]?=some z->W2.cell? ⟨r,k+j,none⟩=some (.int .i32 z)):=fun j z hj=>by
  refine HR2.out.cell rfl ?_;rw[List.getElem?_drop] at hj;have h1:=(qL.1 hj).1;have h2:=congrArg (fun l=>l[k+j]?) HX.out.ahead;rw[h2,List.getElem?_take] at hj;simpa [h1] using hj
 have HN:Hid ((A.drop k).length=Nat.min (A.length - k) (cur.length - T)):=by show _=min _ _;have:=HT.out;omega
 have HF:Hid (T+(A.drop k).length<=cur.length):=by show _<=_;have:=HT.out;omega
 clear HW2 c0 c1 c2 f2 f1 X2 hlA;go_wp2
 go_region_held3 (fun w'=>(w'.cell? ⟨g,0,none⟩=some (.slice (some ⟨r,0,none⟩) cur.length cur.length)/\w'.cell? ⟨g,1,none⟩=some (.int .i64 A.length))/\w'.cell? ⟨g,2,none⟩=some (.int .i64 T)) (first | exact Gm.keep3 HX2.out hg3 hne | go_keep) ((refine Gm.zb7 (by rfl) (.tmp 40) (.tmp 50) 33 33 (by rfl) 21 underlying33 Tryz.sizeI32 _ _ _ _ _ _ (by rfl) (by rfl) B (some ⟨r,0,none⟩) cur (HR2.out.block fun _ _=>rfl) T (A.drop k) HN.out (fun _ r' hr'=>by cases hr';exact⟨rfl,r,k,rfl,fun j z hj=>HG.out j z hj⟩) HF.out ?_;intro w3 hR3 hg3))
 have X3:=HX2.out.block (hg3.block g HX2.out.lt (fun e=>hne (by cases e;rfl)));have HB3:=qH <| HB2.out.drew.grown hg3 (by have:=HX2.out.lt;have:=HX.out.hB.1;show B.b<=W2.heap.size;omega) fun j e=>by cases e;exact(HR2.out.lt r rfl).1
 have HX3:=qH X3;have HR3:=qH hR3;have g1':=X3.free 1;have d1':=X3.c1;clear X3 hR3 hg3 d0 d1 d2 g1;go_wp2;go_ret;exact⟨rfl,(HX.out.left hk HT.out HR3.out HX3.out).told (Gm.za9 HB3.out HX.out.hB _)⟩
namespace Gm
theorem Tx.right {B:Gm.Bs}{g:Nat}{ao:Option Addr}{cur A Z:List Int}{w w2:World}{k m:Nat}(h:Tx B g ao cur A Z w)(hk:k=A.length+m)(hm:m<=Z.length)
  (hR:Room B w2 ao (splice cur A.length (Z.take m))) (hX:Bx3 w2 g (.slice ao cur.length cur.length) (.int .i64 A.length) (.int .i64 (cur.length - Z.length+m:Nat))) :
  Tx B g ao (splice cur A.length (Z.take m)) (A++Z.take m) (Z.drop m) (w2.setCell ⟨g,1,none⟩ (.int .i64 k)):=by
 have hf:=h.fit;have hmo:=h.most;have hw:=h.few;have ht:(Z.take m).length=m:=by rw[List.length_take];omega
 have hd:(Z.drop m).length=Z.length - m:=by simp
 have hl:(splice cur A.length (Z.take m)).length=cur.length:=length_splice _ _ _ (by omega);have ha:(A++Z.take m).length=k:=by rw[List.length_append,ht];omega
 have hz:cur.length - (Z.drop m).length=cur.length - Z.length+m:=by omega
 refine⟨h.hB,?_,hR.block fun r' hr=>heap_setCell_other _ _ _ _ (h.ne r' hr),h.ne,by omega,by omega,by omega,?_,?_⟩
 ·rw[hl,ha,hz];exact hX.set1 _
 ·have e:=zff (L:=cur) (cs:=Z.take m) (off:=A.length) (by omega);rw[ht,<- hk] at e;rw[ha,e,<- h.ahead]
 ·rw[hl,hz,zfi (by omega) (by omega),<- List.drop_drop];exact congrArg (List.drop m) h.behind
end Gm
theorem copy0 (dp sp:Option Addr)(c1 sl c2:Nat)(ty:TypeId)(w:World):(Builtin.copy_ #[33,33] ty #[.slice dp 0 c1,.slice sp sl c2]).run prog w= .ok (goInt 0) w :=
 run_copy_none w _ _ _ 21 _ _ _ _ _ _ underlying33 Tryz.sizeI32 (by simp)
theorem ziu (w:World)(B:Gm.Bs)(g:Nat)(ao:Option Addr)(cur A Z:List Int)(h:Gm.Tx B g ao cur A Z w) :
  Calls prog 231 #[.pointer (some ⟨g,0,none⟩),.int .i64 A.length] w fun e w'=>e= .returned (.int .i64 0)/\Gm.Told B g w A Z w':=by
 have hf:=h.fit;have hm:=h.most;have hw:=h.few;have H:=qH h;obtain⟨T,hT⟩:∃T:Nat,T=cur.length - Z.length:=⟨_,rfl⟩;have HT:=qH hT;have e2:IntKind.i64.wrap (T:Int)=(T:Int):=by rw[IntKind.wrap_i64];omega
 have hT2:(0:Int)<=T:=by omega
 have hT3:(T:Int)<=cur.length:=by omega
 have hA2:(0:Int)<=A.length:=by omega
 have hk4:(A.length:Int)<=cur.length:=by omega
 have hk5:¬(A.length+Z.length:Int)<A.length:=by omega
 have HL:Hid (A.length+(cur.length - (cur.length - Z.length))=A.length+Z.length):=by show _=_;omega
 have hcopy:=copy0;clear h hT
 go_enter func231,ntmps231
 go_wp2_with (go_at_call 211;refine(zcm _ g ao _ _ _ H.out.box hm (by omega) (by omega)).mono ?_;rintro e w' ⟨rfl,q,rfl⟩;rw[HL.out];have X:=H.out.drew q;have c0:=X.box.c0;have c1:=X.box.c1;have c2:=X.box.c2;have f2:=X.box.free 2;have f1:=X.box.free 1;rw[<- HT.out] at c2;have HX:Hid (Gm.Tx B g ao cur A Z (w.drewN q)):=X;clear X;have HB:Hid (Gm.Fr B w (w.drewN q)):=(Gm.Fr.drewN (Gm.Fr.refl _ _) _);generalize w.drewN q=w1 at *)
 obtain⟨W2,hW2⟩:∃W2,W2=(w1.setCell ⟨g,2,none⟩ (.int .i64 T)).drew:=⟨_,rfl⟩;have X2:Gm.Bx3 W2 g (.slice ao cur.length cur.length) (.int .i64 A.length) (.int .i64 T):=by rw[hW2];exact HX.out.box.set2 _
 have HX2:=qH X2;have HR2:Hid (Gm.Room B W2 ao cur):=by rw[hW2];exact HX.out.room.block fun r' hr=>heap_setCell_other _ _ _ _ (HX.out.ne r' hr)
 have HB2:Hid (Gm.Fr B w W2):=by rw[hW2];exact(Gm.za9 HB.out HX.out.hB _).drew
 have HW2:=qH hW2;clear hW2
 go_region
 rw[<- HW2.out];have d1:=X2.c1;have g1:=X2.free 1;clear HW2 c0 c1 c2 f2 f1 X2;have HE:=qH <| (HX.out.stay (by have:=HX2.out;rw[HT.out] at this;exact this) HR2.out).told (Gm.za9 HB2.out HX.out.hB _);go_wp2
 all_goals
  go_ret;exact⟨rfl,Gm.zpj HE.out (by omega)⟩
theorem zg0 (w:World)(B:Gm.Bs)(g r:Nat)(cur A Z:List Int)(h:Gm.Tx B g (some ⟨r,0,none⟩) cur A Z w)(k m:Nat)(hk:k=A.length+m)(hmz:m<=Z.length)(hm0:0<m) :
  Calls prog 231 #[.pointer (some ⟨g,0,none⟩),.int .i64 k] w fun e w'=>e= .returned (.int .i64 0)/\Gm.Told B g w (A++Z.take m) (Z.drop m) w':=by
 have hf:=h.fit;have hm:=h.most;have hw:=h.few;have H:=qH h;obtain⟨T,hT⟩:∃T:Nat,T=cur.length - Z.length:=⟨_,rfl⟩;have HT:=qH hT;have HK:=qH hk;obtain⟨T',hT'⟩:∃T':Nat,T'=T+m:=⟨_,rfl⟩;have HT':=qH hT';have e2:IntKind.i64.wrap (↑T+ ↑m)=(T':Int):=by rw[IntKind.wrap_i64];omega
 have hT2:(0:Int)<=T:=by omega
 have hT3:(T:Int)<=cur.length:=by omega
 have hT4:¬cur.length=T:=by omega
 have hA2:(0:Int)<=A.length:=by omega
 have hA4:¬cur.length=A.length:=by omega
 have hk2:(0:Int)<=k:=by omega
 have hk3:(A.length:Int)<=k:=by omega
 have hk4:(k:Int)<=cur.length:=by omega
 have hk5:¬(A.length+Z.length:Int)<k:=by omega
 have hk6:¬(k:Int)<A.length:=by omega
 have HL:Hid (A.length+(cur.length - (cur.length - Z.length))=A.length+Z.length):=by show _=_;omega
 have hne:=h.ne r rfl
 have HT5:Hid ((Z.take m).length=m/\m=Nat.min (cur.length - T) (k - A.length)/\A.length+m<=cur.length):=by
  refine⟨?_,?_,by omega⟩
  ·rw[List.length_take];omega
  ·show _=min _ _;omega
 clear h hT hk hT'
 go_enter func231,ntmps231
 go_wp2_with (go_at_call 211;refine(zcm _ g _ _ _ _ H.out.box hm (by omega) (by omega)).mono ?_;rintro e w' ⟨rfl,q,rfl⟩;rw[HL.out];have X:=H.out.drew q;have c0:=X.box.c0;have c1:=X.box.c1;have c2:=X.box.c2;have f2:=X.box.free 2;have f1:=X.box.free 1;rw[<- HT.out] at c2;have HX:Hid (Gm.Tx B g (some ⟨r,0,none⟩) cur A Z (w.drewN q)):=X;clear X;have HB:Hid (Gm.Fr B w (w.drewN q)):=(Gm.Fr.drewN (Gm.Fr.refl _ _) _);generalize w.drewN q=w1 at *)
 have HG:∀j z,(Z.take m)[j]?=some z->w1.cell? ⟨r,T+j,none⟩=some (.int .i32 z):=fun j z hj=>by
  refine HX.out.room.cell rfl ?_;rw[List.getElem?_take] at hj;split at hj
  ·have h2:=congrArg (fun l=>l[j]?) HX.out.behind;rw[h2,List.getElem?_drop,<- HT.out] at hj;exact hj
  ·cases hj
 obtain⟨W3,hcopy,hR3,hg3⟩:=Gm.zmi w1 B r (HX.out.room) A.length (Z.take m) ⟨r,T,none⟩ (cur.length - T) (cur.length - T) (k - A.length) (cur.length - A.length) (by rw[HT5.out.1];exact HT5.out.2.1) (fun j z hj=>by rw[L.addr_add];exact HG j z hj) (by rw[HT5.out.1];exact HT5.out.2.2);rw[HT5.out.1] at hcopy;have X3:=HX.out.box.block (hg3.block g HX.out.box.lt (fun e=>hne (by cases e;rfl)));have HB3:=qH <| HB.out.drew.grown hg3 (by have:=HX.out.box.lt;have:=HX.out.hB.1;show B.b<=w1.heap.size;omega) fun j e=>by cases e;exact(HX.out.room.lt r rfl).1
 have HR3:=qH hR3;have d0:=X3.c0;have d1:=X3.c1;have d2:=X3.c2;have h2:=X3.free 2;rw[<- HT.out] at d2;obtain⟨W2,hW2⟩:∃W2,W2=(W3.setCell ⟨g,2,none⟩ (.int .i64 T')):=⟨_,rfl⟩;have X2:Gm.Bx3 W2 g (.slice (some ⟨r,0,none⟩) cur.length cur.length) (.int .i64 A.length) (.int .i64 T'):=by rw[hW2];exact X3.set2 _
 have HX2:=qH X2;have HR2:Hid (Gm.Room B W2 (some ⟨r,0,none⟩) (splice cur A.length (Z.take m))):=by rw[hW2];exact HR3.out.block fun r' hr=>heap_setCell_other _ _ _ _ (HX.out.ne r' hr)
 have HB2:Hid (Gm.Fr B w W2):=by rw[hW2];exact(Gm.za9 HB3.out HX.out.hB _)
 have HW2:=qH hW2;clear hW2 X3 hR3 hg3 HG
 go_region
 rw[<- HW2.out];have k1:=X2.c1;have g1:=X2.free 1;clear HW2 c0 c1 c2 f2 f1 X2 d0 d1 d2 h2 hcopy;go_wp2;go_ret;exact⟨rfl,(HX.out.right HK.out hmz HR2.out (by have:=HX2.out;rw[HT'.out,HT.out] at this;exact this)).told (Gm.za9 HB2.out HX.out.hB _)⟩
end
section
open Go.RowKit
attribute [local go_sem ↓] Go.wp_at_zero Go.wp_at_succ
namespace Gm
def Wide (B:Gm.Bs) (g:Nat) (w:World) (A Z:List Int) (n:Nat) (w':World):Prop:=(∃ao cur,Tx B g ao cur A Z w'/\A.length+n+Z.length<=cur.length)/\Gm.Fr B w w'
theorem zl9 (w:World)(n:Nat)(hn:n<=8000):∃W,(∀kl kc,(Instr.makeSlice 33 (.int kl (n:Int)) (.int kc (n:Int))).run prog w= .ok (.slice (some ⟨w.heap.size,0,none⟩) n n) W)/\W.heap[w.heap.size]?=some (.cells ((List.replicate n (0:Int)).map (Value.int .i32)).toArray 21 (0,0))/\Below w.heap.size w W/\W.heap.size=w.heap.size+1:=by
 obtain⟨i0,hi,hz0,hz1,hz2⟩:=info_parts Tryz.infoI32;have hr:=fun kl kc=>run_make (P:=prog) w 33 21 i0 (.int .i32 0) underlying33 hi hz0 kl kc n n (by omega) (Int.le_refl _) (by rw[hz2];omega) (by omega)
 simp only[Int.toNat_natCast] at hr;refine⟨_,hr,?_,(qR w).alloc qN _,by simp⟩;have h1:=Go.heap_alloc_new w (.cells (madeCells (Value.int .i32 0).cells (n*i0.size)) 21);rw[h1,hz1,Nat.mul_one]
 have e:madeCells (Value.int .i32 0).cells n=((List.replicate n (0:Int)).map (Value.int .i32)).toArray:=by
  have:=toList_madeCells_one (Value.int .i32 0) n;rw[List.map_replicate,<- this];simp[Value.cells]
 rw[e]
theorem zpb {B:Gm.Bs}{g n N x y:Nat}{w W:World}{A Z:List Int}{v:Value}(h:Wide B g w A Z n ((W.setCell ⟨g,0,none⟩ (.slice (some ⟨N,0,none⟩) y y)).setCell ⟨g,2,none⟩ v))(e:x=y):Wide B g w A Z n ((W.setCell ⟨g,0,none⟩ (.slice (some ⟨N,0,none⟩) x x)).setCell ⟨g,2,none⟩ v):=e▸h
theorem Tx.apart {B:Gm.Bs}{g N:Nat}{ao:Option Addr}{cur A Z:List Int}{w w':World}(h:Tx B g ao cur A Z w)(e:∀k,k<w.heap.size->k≠N->w'.heap[k]?=w.heap[k]?)(hg:g≠N)(hr:∀r,ao=some ⟨r,0,none⟩->r≠N):Tx B g ao cur A Z w' :=
 ⟨h.hB,h.box.block (e g h.box.lt hg),h.room.block fun r h'=>e r (h.room.lt r h').2 (hr r h'),h.ne,h.fit,h.most,h.few,h.ahead,h.behind⟩
theorem Bx3.toT {w:World}{g T n:Nat}{v0 v1:Value}(h:Bx3 w g v0 v1 (.int .i64 n))(e:T=n):Bx3 w g v0 v1 (.int .i64 T):=e▸h
theorem Tx.cellsA {B:Gm.Bs}{g:Nat}{ao:Option Addr}{cur A Z:List Int}{w:World}(h:Tx B g ao cur A Z w):0<A.length->∃b so,ao=some ⟨b,so,none⟩/\∀j z,A[j]?=some z->w.drew.cell? ⟨b,so+j,none⟩=some (.int .i32 z):=fun h0=>by
 obtain⟨r,hr⟩:=h.room.some (by have:=h.fit;omega);refine⟨r,0,hr,fun j z hj=> ?_⟩;rw[Nat.zero_add];have h1:=(qL.1 hj).1;have h2:=congrArg (fun l=>l[j]?) h.ahead;rw[h2,List.getElem?_take,if_pos h1] at hj;exact h.room.cell hr hj
theorem Tx.cellsZ {B:Gm.Bs}{g:Nat}{ao:Option Addr}{cur A Z:List Int}{w:World}(h:Tx B g ao cur A Z w){T:Nat}(hT:T=cur.length - Z.length):0<Z.length->∃r,ao=some ⟨r,0,none⟩/\∀j z,Z[j]?=some z->w.drew.cell? ⟨r,T+j,none⟩=some (.int .i32 z):=fun h0=>by
 obtain⟨r,hr⟩:=h.room.some (by have:=h.fit;omega);refine⟨r,hr,fun j z hj=> ?_⟩;have h2:=congrArg (fun l=>l[j]?) h.behind;rw[h2,List.getElem?_drop,<- hT] at hj;exact h.room.cell hr hj
theorem Tx.wide {B:Gm.Bs}{g N S:Nat}{ao:Option Addr}{cur A Z:List Int}{w w2:World}{v0 v2:Value}(h:Tx B g ao cur A Z w)(hS:A.length+Z.length<=S)(hS8:S<=8000)(hN:B.ok N)(hNg:N≠g)
  (hR:Room ⟨0,[]⟩ w2 (some ⟨N,0,none⟩) (splice (splice (List.replicate S 0) 0 A) (S - Z.length) Z)) (hX:Bx3 w2 g v0 (.int .i64 A.length) v2) :
  Tx B g (some ⟨N,0,none⟩) (splice (splice (List.replicate S 0) 0 A) (S - Z.length) Z) A Z ((w2.setCell ⟨g,0,none⟩ (.slice (some ⟨N,0,none⟩) S S)).setCell ⟨g,2,none⟩ (.int .i64 (S - Z.length:Nat))):=by
 have h0:(splice (List.replicate S (0:Int)) 0 A).length=S:=by rw[length_splice _ _ _ (by rw[List.length_replicate];omega),List.length_replicate]
 have hl:(splice (splice (List.replicate S (0:Int)) 0 A) (S - Z.length) Z).length=S:=by rw[length_splice _ _ _ (by omega)];exact h0
 refine⟨h.hB,?_,?_,fun r hr=>by cases hr;exact hNg,by omega,by omega,h.few,?_,?_⟩
 ·rw[hl];exact(hX.set0 _).set2 _
 ·rcases hR with ⟨hh,_⟩|⟨r,hr,hB,hb⟩
  ·cases hh
  ·cases hr;exact .inr ⟨N,rfl,hN,by rw[heap_setCell_other _ _ _ _ hNg,heap_setCell_other _ _ _ _ hNg];exact hb⟩
 ·rw[zfg (by omega) (by omega)];have:=zff (L:=List.replicate S (0:Int)) (cs:=A) (off:=0) (by omega);simpa using this.symm
 ·rw[hl,zfh (by omega),List.drop_eq_nil_of_le (by omega),List.append_nil]
end Gm
theorem zo8 (w:World)(B:Gm.Bs)(g:Nat)(ao:Option Addr)(cur A Z:List Int)(h:Gm.Tx B g ao cur A Z w)(n:Nat)(hn:A.length+n+Z.length<=cur.length) :
  Calls prog 250 #[.pointer (some ⟨g,0,none⟩),.int .i64 n] w fun e w'=>e= .returned (.tuple #[])/\Gm.Wide B g w A Z n w':=by
 have hf:=h.fit;have hm:=h.most;have c1:=h.box.c1;have c2:=h.box.c2;have H:=qH h;clear h
 go_enter func250,ntmps250
 go_wp2
 go_quiet (fail)
 go_wp2
 (try simp only[Exit.inBlock,Exit.then])
 refine bodyPost_ret (results_none rfl _ _ _) rfl ?_;exact⟨rfl,⟨ao,cur,H.out.drew _,hn⟩,Gm.Fr.drewN (Gm.Fr.refl _ _) _⟩
theorem zo9 (w:World)(B:Gm.Bs)(g:Nat)(ao:Option Addr)(cur A Z:List Int)(h:Gm.Tx B g ao cur A Z w)(n:Nat)(hn:¬A.length+n+Z.length<=cur.length)(h4:A.length+Z.length+n<=4000)(hmB:∀j∈B.m,j<w.heap.size) :
  Calls prog 250 #[.pointer (some ⟨g,0,none⟩),.int .i64 n] w fun e w'=>e= .returned (.tuple #[])/\Gm.Wide B g w A Z n w':=by
 have hf:=h.fit;have hm:=h.most;have hw:=h.few;have c1:=h.box.c1;have c2:=h.box.c2;have H:=qH h;obtain⟨T,hT⟩:∃T:Nat,T=cur.length - Z.length:=⟨_,rfl⟩;have HT:=qH hT;rw[<- hT] at c2;have HL:Hid (A.length+(cur.length - (cur.length - Z.length))=A.length+Z.length):=by show _=_;omega
 have HZ:Hid (cur.length - (cur.length - Z.length)=Z.length):=by show _=_;omega
 obtain⟨S,hS⟩:∃S:Nat,S=2*(A.length+Z.length+n):=⟨_,rfl⟩;have HS:=qH hS;have e1:(2:Int)*(↑A.length+ ↑Z.length+ ↑n)=(S:Int):=by omega
 have hT1:¬(n:Int)<=T - A.length:=by omega
 have hAT:A.length<=T:=by omega
 have hTc:T<=cur.length:=by omega
 have hS8:S<=8000:=by omega
 clear h hT hS
 go_enter func250,ntmps250
 go_wp2
 go_quiet (fail)
 go_wp2_with fail
 refine(zcm _ g ao _ _ _ (H.out.drew nq).box hm (by omega) (by omega)).mono ?_;rintro e w' ⟨rfl,q,rfl⟩;rw[HL.out];have HX1:=qH <| (H.out.drew nq).drew q;have HB1:Hid (Gm.Fr B w ((w.drewN nq).drewN q)):=Gm.Fr.drewN (Gm.Fr.drewN (Gm.Fr.refl _ _) _) _;generalize ((w.drewN nq).drewN q)=w1 at *;obtain⟨W,hmk,hblk,hbW,hsW⟩:=Gm.zl9 w1 S hS8;have HBW:=qH <| HB1.out.trans (Gm.Fr.of_below hbW (by have:=HX1.out.hB.1;have:=HX1.out.box.lt;omega));have hmw1:∀j∈B.m,j<w1.heap.size:=fun j hj=>by have:=HB1.out.size;have:=hmB j hj;omega
 obtain⟨N,hN⟩:∃N,N=w1.heap.size:=⟨_,rfl⟩;rw[<- hN] at hmk hblk hbW hsW hmw1;have hgN:g<N:=by rw[hN];exact HX1.out.box.lt
 have HXW:=qH <| HX1.out.kept fun k hk=>hbW.block k (by omega)
 have hBN:B.ok N:=⟨by have:=HX1.out.hB.1;omega,fun h=>by have:=hmw1 N h;omega⟩;clear hmw1;have hBNb:=hBN.1;have HRW:Hid (Gm.Room ⟨0,[]⟩ W (some ⟨N,0,none⟩) (List.replicate S 0)):= .inr ⟨N,rfl,⟨Nat.zero_le _,by simp⟩,hblk⟩;have HrN:Hid (∀r,ao=some ⟨r,0,none⟩->r<N):=fun r hr=>by rw[hN];exact(HX1.out.room.lt r hr).2
 have d0:=HXW.out.box.c0;have d1:=HXW.out.box.c1;have d2:=HXW.out.box.c2;rw[<- HT.out] at d2;have hNW:N<W.heap.size:=by omega
 clear hblk hbW hsW hN c1 c2 HX1 HB1 H;have hA0:(0:Int)<=A.length:=by omega
 have hA1:(A.length:Int)<=cur.length:=by omega
 have HA:Hid (A.length=Nat.min A.length S):=by show _=min _ _;have:=HS.out;omega
 have HFA:Hid (0+A.length<=(List.replicate S (0:Int)).length):=by show _<=_;rw[List.length_replicate];have:=HS.out;omega
 have HSA:=qH HXW.out.cellsA;go_wp2;clear hmk
 go_region_held3 (fun w'=>(w'.cell? ⟨g,0,none⟩=some (.slice ao cur.length cur.length)/\w'.cell? ⟨g,1,none⟩=some (.int .i64 A.length))/\w'.cell? ⟨g,2,none⟩=some (.int .i64 T)) (first | exact Gm.keep3 (Gm.Bx3.toT HXW.out.box HT.out) hg3 (Nat.ne_of_gt hgN) | go_keep) ((refine Gm.zb7 (by rfl) (.tmp 23) (.tmp 32) 33 33 (by rfl) 21 underlying33 Tryz.sizeI32 _ _ _ _ _ _ (by rfl) (by rfl) ⟨0,[]⟩ (some ⟨N,0,none⟩) (List.replicate S 0) (HRW.out.block fun _ _=>rfl) 0 A HA.out (fun h0 r' hr'=>by cases hr';exact⟨rfl,HSA.out h0⟩) HFA.out ?_;intro w3 hR3 hg3))
 have HX3:=qH <| HXW.out.apart (fun k hk hne=>hg3.block k hk (fun e=>hne (by cases e;rfl))) (Nat.ne_of_lt hgN) (fun r hr=>Nat.ne_of_lt (HrN.out r hr));have HB3:=qH <| HBW.out.drew.grown hg3 (by show B.b<=W.heap.size;omega) fun j e=>by cases e;exact hBN
 have HR3:=qH hR3;have hs3:N<w3.heap.size:=by have:=hg3.size;have:W.drew.heap.size=W.heap.size:=rfl;omega
 clear hR3 hg3 d0 d1 d2 HXW HBW HRW HA HFA HSA hNW
 go_wp2_with fail
 refine(zep _ g ao _ _ _ HX3.out.box hm (by omega)).mono ?_;rintro e w' ⟨rfl,q,rfl⟩;rw[HZ.out];have HX4:=qH <| HX3.out.drew q;have HB4:Hid (Gm.Fr B w (w3.drewN q)):=Gm.Fr.drewN HB3.out _;have HR4:Hid (Gm.Room ⟨0,[]⟩ (w3.drewN q) (some ⟨N,0,none⟩) (splice (List.replicate S 0) 0 A)):=HR3.out.block fun _ _=>rfl
 have hs4:N<(w3.drewN q).heap.size:=hs3;generalize w3.drewN q=w4 at *;have d0:=HX4.out.box.c0;have d1:=HX4.out.box.c1;have d2:=HX4.out.box.c2;rw[<- HT.out] at d2;obtain⟨T',hT'⟩:∃T':Nat,T'=S - Z.length:=⟨_,rfl⟩;have HT':=qH hT';have e3:(S:Int) - Z.length=(T':Int):=by have:=HS.out;omega
 have hT'0:(0:Int)<=T':=by omega
 have hT'1:(T':Int)<=S:=by omega
 have hT0:(0:Int)<=T:=by omega
 have hTc':(T:Int)<=cur.length:=by omega
 have HZm:Hid (Z.length=Nat.min (cur.length - T) (S - T')):=by show _=min _ _;have:=HT.out;have:=HS.out;omega
 have HFZ:Hid (T'+Z.length<=(splice (List.replicate S (0:Int)) 0 A).length):=by
  show _<=_;have:=HS.out;rw[length_splice _ _ _ (by rw[List.length_replicate];omega),List.length_replicate];omega
 have HSZ:=qH <| HX4.out.cellsZ HT.out;have HTT:Hid ((0<Z.length->¬S=T')/\(0<Z.length->¬cur.length=T)):=by have:=HT.out;have:=HS.out;exact⟨fun _=>by omega,fun _=>by omega⟩
 clear hT' HX3 HB3 HR3 hs3;go_wp2
 go_region_held3 (fun w'=>(w'.cell? ⟨g,0,none⟩=some (.slice ao cur.length cur.length)/\w'.cell? ⟨g,1,none⟩=some (.int .i64 A.length))/\w'.cell? ⟨g,2,none⟩=some (.int .i64 T)) (first | exact Gm.keep3 (Gm.Bx3.toT HX4.out.box HT.out) hg5 (Nat.ne_of_gt hgN) | go_keep) ((refine Gm.zb7 (by rfl) (.tmp 41) (.tmp 50) 33 33 (by rfl) 21 underlying33 Tryz.sizeI32 _ _ _ _ _ _ (by rfl) (by rfl) ⟨0,[]⟩ (some ⟨N,0,none⟩) (splice (List.replicate S 0) 0 A) (HR4.out.block fun _ _=>rfl) T' Z HZm.out (fun h0 r' hr'=>by cases hr';obtain⟨r1,hr1,hc1⟩:=HSZ.out h0;rw[if_neg (HTT.out.1 h0),if_neg (HTT.out.2 h0),hr1];exact⟨rfl,r1,T,by rw[Option.map_some,L.addr_add,Nat.zero_add],hc1⟩) HFZ.out ?_;intro w5 hR5 hg5))
 have HX5:=qH <| HX4.out.apart (fun k hk hne=>hg5.block k hk (fun e=>hne (by cases e;rfl))) (Nat.ne_of_lt hgN) (fun r hr=>Nat.ne_of_lt (HrN.out r hr));have HB5:=qH <| HB4.out.drew.grown hg5 (by show B.b<=w4.heap.size;omega) fun j e=>by cases e;exact hBN
 have HR5:Hid (Gm.Room ⟨0,[]⟩ w5 (some ⟨N,0,none⟩) (splice (splice (List.replicate S 0) 0 A) (S - Z.length) Z)):=by have:=hR5;rw[HT'.out] at this;exact this
 have HE:Hid (Gm.Wide B g w A Z n ((w5.setCell ⟨g,0,none⟩ (.slice (some ⟨N,0,none⟩) S S)).setCell ⟨g,2,none⟩ (.int .i64 T'))):=by
  have hs:=HS.out;have hX:=HX5.out.wide (N:=N) (S:=S) (by omega) hS8 hBN (Nat.ne_of_gt hgN) HR5.out HX5.out.box;rw[HT'.out];refine⟨⟨_,_,hX,?_⟩,Gm.za9 (Gm.za9 HB5.out HX5.out.hB _) HX5.out.hB _⟩;rw[length_splice _ _ _ (by rw[length_splice _ _ _ (by rw[List.length_replicate];omega),List.length_replicate];omega),length_splice _ _ _ (by rw[List.length_replicate];omega),List.length_replicate];omega
 have f0:=HX5.out.box.free 0;have f2:=HX5.out.box.free 2;have k0:=HX5.out.box.c0;have k2:=HX5.out.box.c2;clear hR5 hg5 d0 d1 d2 HX4 HB4 HR4 HZm HFZ HSZ HTT;go_wp2
 all_goals
  (try simp only[Exit.inBlock,Exit.then])
  first
   | refine bodyPost_end (results_none rfl _ _ _) rfl ?_
   | refine bodyPost_ret (results_none rfl _ _ _) rfl ?_
  exact⟨rfl,Gm.zpb HE.out (by omega)⟩
theorem zpa (w:World)(B:Gm.Bs)(g:Nat)(ao:Option Addr)(cur A Z:List Int)(h:Gm.Tx B g ao cur A Z w)(n:Nat)(h4:A.length+Z.length+n<=4000)(hmB:∀j∈B.m,j<w.heap.size) :
  Calls prog 250 #[.pointer (some ⟨g,0,none⟩),.int .i64 n] w fun e w'=>e= .returned (.tuple #[])/\Gm.Wide B g w A Z n w':=by
 by_cases hn:A.length+n+Z.length<=cur.length
 ·exact zo8 w B g ao cur A Z h n hn
 ·exact zo9 w B g ao cur A Z h n hn h4 hmB
end
section
open Go.RowKit
attribute [local go_sem ↓] Go.wp_at_zero Go.wp_at_succ
namespace Gm
theorem copy00 (dp sp:Option Addr)(dl c1 c2:Nat)(ty:TypeId)(w:World):(Builtin.copy_ #[33,33] ty #[.slice dp dl c1,.slice sp 0 c2]).run prog w= .ok (goInt 0) w :=
 run_copy_none w _ _ _ 21 _ _ _ _ _ _ underlying33 Tryz.sizeI32 (by simp)
theorem Told.drew {B:Gm.Bs}{g:Nat}{w W:World}{A Z:List Int}(h:Told B g w A Z W):Told B g w A Z W.drew:=⟨h.1.imp fun _ ⟨cur,hX⟩=>⟨cur,hX.kept fun _ _=>rfl⟩,h.2.drew⟩
theorem Tx.put {B:Gm.Bs}{g:Nat}{ao:Option Addr}{cur A Z R:List Int}{w w2:World}(h:Tx B g ao cur A Z w)(hn:A.length+R.length+Z.length<=cur.length)(h4:A.length+Z.length+R.length<=4000)
  (hR:Room B w2 ao (splice cur A.length R)) (hX:Bx3 w2 g (.slice ao cur.length cur.length) (.int .i64 A.length) (.int .i64 (cur.length - Z.length:Nat))) :
  Tx B g ao (splice cur A.length R) (A++R) Z (w2.setCell ⟨g,1,none⟩ (.int .i64 (A.length+R.length:Nat))):=by
 have hf:=h.fit;have hmo:=h.most;have hl:(splice cur A.length R).length=cur.length:=length_splice _ _ _ (by omega);have ha:(A++R).length=A.length+R.length:=List.length_append;refine⟨h.hB,?_,hR.block fun r' hr=>heap_setCell_other _ _ _ _ (h.ne r' hr),h.ne,by omega,by omega,by omega,?_,?_⟩
 ·rw[hl,ha];exact hX.set1 _
 ·rw[ha,zff (by omega),<- h.ahead]
 ·rw[hl,zfi (by omega) (by omega)];exact h.behind
end Gm
theorem zvn (w:World)(B:Gm.Bs)(g:Nat)(ao:Option Addr)(cur A Z:List Int)(h:Gm.Tx B g ao cur A Z w)(sp:Option Addr)(n c:Nat)(hn:n<=maxLen)(h4:4000<A.length+Z.length+n) :
  Calls prog 230 #[.pointer (some ⟨g,0,none⟩),.slice sp n c] w fun e w'=>e= .returned (.int .i64 4)/\Gm.Told B g w A Z w':=by
 unfold maxLen at hn;have hf:=h.fit;have hm:=h.most;have hw:=h.few;have H:=qH h;have HL:Hid (A.length+(cur.length - (cur.length - Z.length))=A.length+Z.length):=by show _=_;omega
 clear h
 go_enter func230,ntmps230
 go_wp2_with (go_at_call 211;refine(zcm _ g ao _ _ _ H.out.box hm (by omega) (by omega)).mono ?_;rintro e w' ⟨rfl,q,rfl⟩;rw[HL.out])
 go_ret;exact⟨rfl,H.out.same q⟩
theorem zuv (w:World)(B:Gm.Bs)(g:Nat)(ao:Option Addr)(cur A Z:List Int)(h:Gm.Tx B g ao cur A Z w)(v:Value)(R:List Int)(hv:∀w',Gm.Fr B w w'->L.Rd w' v .i32 R)(h4:A.length+Z.length+R.length<=4000)(hmB:∀j∈B.m,j<w.heap.size) :
  Calls prog 230 #[.pointer (some ⟨g,0,none⟩),v] w fun e w'=>e= .returned (.int .i64 0)/\Gm.Told B g w (A++R) Z w':=by
 obtain⟨sp,c,rfl,_⟩:=hv w (Gm.Fr.refl _ _);have hf:=h.fit;have hm:=h.most;have hw:=h.few;have H:=qH h;have HL:Hid (A.length+(cur.length - (cur.length - Z.length))=A.length+Z.length):=by show _=_;omega
 have HV:=qH hv;clear h hv
 go_enter func230,ntmps230
 go_wp2_with fail
 refine(zcm _ g ao _ _ _ H.out.box hm (by omega) (by omega)).mono ?_;rintro e w' ⟨rfl,q,rfl⟩;rw[HL.out]
 go_wp2_with fail
 refine(zpa _ B g ao cur A Z (H.out.drew q) R.length h4 hmB).mono ?_;rintro e w1 ⟨rfl,⟨ao1,cur1,X1,hn1⟩,b1⟩;have HX:=qH X1;have HB:=qH <| (Gm.Fr.drewN (Gm.Fr.refl _ _) _).trans b1;have hf1:=X1.fit;have hm1:=X1.most;have c0:=X1.box.c0;have c1:=X1.box.c1;have c2:=X1.box.c2;have f1:=X1.box.free 1;obtain⟨T,hT⟩:∃T:Nat,T=cur1.length - Z.length:=⟨_,rfl⟩;have HT:=qH hT;rw[<- hT] at c2;have hT0:(A.length:Int)<=T:=by omega
 have hT1:(T:Int)<=cur1.length:=by omega
 have hA0:(0:Int)<=A.length:=by omega
 clear b1 X1 H hT
 by_cases h0:R= []
 ·subst h0;have hcopy:=Gm.copy00;have e1:IntKind.i64.wrap (A.length:Int)=A.length:=by rw[IntKind.wrap_i64];omega
  obtain⟨W2,hW2⟩:∃W2,W2=(w1.setCell ⟨g,1,none⟩ (.int .i64 A.length)).drew:=⟨_,rfl⟩
  have HE:Hid (Gm.Told B g w (A++ []) Z W2):=by
   rw[hW2];have hX:=HX.out.put (R:= []) (by rw[List.length_nil];omega) (by rw[List.length_nil];omega) (by simpa [splice] using HX.out.room) HX.out.box;exact(hX.told (Gm.za9 HB.out HX.out.hB _)).drew
  have HW2:=qH hW2;clear hW2;go_wp2
  go_region
  rw[<- HW2.out];clear HW2 hcopy;go_wp2
  all_goals
   go_ret;exact⟨rfl,by have:=HE.out;rw[List.append_nil] at this;exact this⟩
 ·obtain⟨r,hr⟩:=HX.out.room.some (by have:=List.length_pos_iff.2 h0;omega);subst hr;have hne:=HX.out.ne r rfl;have hp:=List.length_pos_iff.2 h0;obtain⟨sp',c',hsl,_,hce⟩:=HV.out w1 HB.out;cases hsl;obtain⟨b,off,rfl,hcell⟩:=hce h0;obtain⟨F,hF⟩:∃F:Nat,F=A.length+R.length:=⟨_,rfl⟩;have HF:=qH hF;have e1:IntKind.i64.wrap (↑A.length+ ↑R.length)=(F:Int):=by rw[IntKind.wrap_i64];omega
  have hA4:¬cur1.length=A.length:=by omega
  obtain⟨W3,hcopy,hR3,hg3⟩:=Gm.zmi w1 B r HX.out.room A.length R ⟨b,off,none⟩ R.length c (T - A.length) (cur1.length - A.length) (by have:=HT.out;show _=min _ _;omega) (fun j z hj=>by rw[L.addr_add];exact hcell j z hj) (by omega);have X3:=HX.out.box.block (hg3.block g HX.out.box.lt (fun e=>hne (by cases e;rfl)));have HB3:=qH <| HB.out.drew.grown hg3 (by have:=HX.out.box.lt;have:=HX.out.hB.1;show B.b<=w1.heap.size;omega) fun j e=>by cases e;exact(HX.out.room.lt r rfl).1
  have HE:Hid (Gm.Told B g w (A++R) Z (W3.setCell ⟨g,1,none⟩ (.int .i64 F))):=by
   rw[HF.out];exact(HX.out.put hn1 h4 hR3 X3).told (Gm.za9 HB3.out HX.out.hB _)
  have d0:=X3.c0;have d1:=X3.c1;have d2:=X3.c2;have g1:=X3.free 1;rw[<- HT.out] at d2;clear X3 hR3 hg3 hF hcell hce;go_wp2
  go_region
  clear hcopy;go_wp2
  all_goals
   go_ret;exact⟨rfl,HE.out⟩
