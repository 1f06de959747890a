import Derived.Laws.CopyOwn
import Derived.Deep.QuietTactic
import Derived.BigQuiet
import Derived.Deep.RegionHeld3
import Derived.Deep.DrawnRows
import Derived.Test.YtcadaallpiekiaaGreatDoorKBox
import Derived.BigRegion
set_option maxHeartbeats 0
namespace Go.Proofs.YtcadaallpiekiaaGreatDoor
open Go.Proofs.Tryz
namespace G
structure Ed where
 kind:Int
 n:Int
 runes:List Int
abbrev St:=List Int×List Int
def step (e:Ed) (s:St):Int×St :=
 if e.kind=1 then
  if e.n<0∨(s.1.length+s.2.length:Int)<e.n then (3,s) else (0,(s.1++s.2).take e.n.toNat,(s.1++s.2).drop e.n.toNat)
 else if e.kind=2 then
  if 4000<(s.1.length+s.2.length+e.runes.length:Int) then (4,s) else (0,s.1++e.runes,s.2)
 else if e.kind=3 then
  if e.n<0∨(s.2.length:Int)<e.n then (3,s) else (0,s.1,s.2.drop e.n.toNat)
 else if e.kind=4 then
  if e.n<0∨(s.1.length:Int)<e.n then (3,s) else (0,s.1.take (s.1.length-e.n.toNat),s.2)
 else (1,s)
def play:Nat->List Ed->St->Int×Nat×St
 | _,[],s=>(0,0,s)
 | k,e::l,s=>if (step e s).1=0 then play (k+1) l (step e s).2 else ((step e s).1,k,s)
theorem zdz (k:Nat)(l:List Ed)(s:St)(h:l.length<=k):play k (l.drop k) s=(0,0,s):=by
 rw[List.drop_eq_nil_of_le h];rfl
end G
section
theorem Tryz.sizeI32:(prog.info? 21).map (·.size)=some 1:=by kernel_rfl
end
namespace Gm
open Go.RowKit
structure Bs where
 b:Nat
 m:List Nat
def Bs.ok (B:Bs) (k:Nat):Prop:=B.b<=k/\k∉B.m
def Fr (B:Bs) (w w':World):Prop:=Below B.b w w'/\(∀j∈B.m,j<w.heap.size->w'.heap[j]?=w.heap[j]?)
theorem Fr.refl (B:Bs)(w:World):Fr B w w:=⟨qR _,fun _ _ _=>rfl⟩
theorem Fr.trans {B:Bs}{w w1 w2:World}(h:Fr B w w1)(h':Fr B w1 w2):Fr B w w2:=⟨h.1.trans h'.1,fun j hj hm=>(h'.2 j hj (by have:=h.1.size;omega)).trans (h.2 j hj hm)⟩
theorem Fr.drew {B:Bs}{w w1:World}(h:Fr B w w1):Fr B w w1.drew:=⟨h.1.drew,h.2⟩
theorem Fr.drewN {B:Bs}{w w1:World}(h:Fr B w w1)(q:Nat):Fr B w (w1.drewN q):=⟨below_drewN h.1 q,h.2⟩
theorem Fr.setCell {B:Bs}{w w1:World}{p:Addr}(h:Fr B w w1)(hB:B.ok p.block)(v:Value):Fr B w (w1.setCell p v):=⟨h.1.setCell hB.1 v,fun j hj hm=>(heap_setCell_other w1 p j v (fun e=>hB.2 (e▸hj))).trans (h.2 j hj hm)⟩
theorem Fr.of_below {B:Bs}{w w1:World}(h:Bl w w1)(hb:B.b<=w.heap.size):Fr B w w1:=⟨h.mono hb,fun _ _ hm=>h.block _ hm⟩
theorem Fr.grown {B:Bs}{w w1 w2:World}{r:Option Nat}(h:Fr B w w1)(hg:w1.grownBy w2 r)(hs:B.b<=w1.heap.size)(hr:∀k,r=some k->B.ok k):Fr B w w2 :=
 ⟨h.1.grown hg hs fun k hk=>(hr k hk).1,fun j hj hm=>(hg.block j (by have:=h.1.size;omega) (fun e=>(hr j e.symm).2 hj)).trans (h.2 j hj hm)⟩
theorem Fr.size {B:Bs}{w w1:World}(h:Fr B w w1):w.heap.size<=w1.heap.size:=h.1.size
theorem Fr.below {B:Bs}{w w1:World}(h:Fr B w w1):Below B.b w w1:=h.1
def Room (B:Gm.Bs) (w:World) (ao:Option Addr) (cur:List Int):Prop :=
 (ao=none/\cur= [])∨∃r,ao=some ⟨r,0,none⟩/\B.ok r/\w.heap[r]?=some (.cells (cur.map (Value.int .i32)).toArray 21 (0,0))
def Bx3 (w:World) (g:Nat) (v0 v1 v2:Value):Prop:=w.heap[g]?=some (.cells #[v0,v1,v2] 211 (0,0))
theorem Bx3.c0 {w:World}{g:Nat}{v0 v1 v2:Value}(h:Bx3 w g v0 v1 v2):w.cell? ⟨g,0,none⟩=some v0:=by simp[World.cell?,Bx3] at h ⊢;rw[h];rfl
theorem Bx3.c1 {w:World}{g:Nat}{v0 v1 v2:Value}(h:Bx3 w g v0 v1 v2):w.cell? ⟨g,1,none⟩=some v1:=by simp[World.cell?,Bx3] at h ⊢;rw[h];rfl
theorem Bx3.c2 {w:World}{g:Nat}{v0 v1 v2:Value}(h:Bx3 w g v0 v1 v2):w.cell? ⟨g,2,none⟩=some v2:=by simp[World.cell?,Bx3] at h ⊢;rw[h];rfl
theorem Bx3.free {w:World}{g:Nat}{v0 v1 v2:Value}(h:Bx3 w g v0 v1 v2)(i:Nat):w.frozen? ⟨g,i,none⟩=false:=frozen_of_row w g i _ _ h
theorem Bx3.set0 {w:World}{g:Nat}{v0 v1 v2:Value}(h:Bx3 w g v0 v1 v2)(u:Value):Bx3 (w.setCell ⟨g,0,none⟩ u) g u v1 v2:=heap_setCell_same w g 0 _ _ u h
theorem Bx3.set1 {w:World}{g:Nat}{v0 v1 v2:Value}(h:Bx3 w g v0 v1 v2)(u:Value):Bx3 (w.setCell ⟨g,1,none⟩ u) g v0 u v2:=heap_setCell_same w g 1 _ _ u h
theorem Bx3.set2 {w:World}{g:Nat}{v0 v1 v2:Value}(h:Bx3 w g v0 v1 v2)(u:Value):Bx3 (w.setCell ⟨g,2,none⟩ u) g v0 v1 u:=heap_setCell_same w g 2 _ _ u h
theorem Bx3.block {w w':World}{g:Nat}{v0 v1 v2:Value}(h:Bx3 w g v0 v1 v2)(e:w'.heap[g]?=w.heap[g]?):Bx3 w' g v0 v1 v2:=e.trans h
theorem Bx3.lt {w:World}{g:Nat}{v0 v1 v2:Value}(h:Bx3 w g v0 v1 v2):g<w.heap.size:=lt_of_block h
structure Tx (B:Gm.Bs) (g:Nat) (ao:Option Addr) (cur A Z:List Int) (w:World):Prop where
 hB:B.ok g
 box:Bx3 w g (.slice ao cur.length cur.length) (.int .i64 A.length) (.int .i64 (cur.length-Z.length:Nat))
 room:Room B w ao cur
 ne:∀r,ao=some ⟨r,0,none⟩->r≠g
 fit:A.length+Z.length<=cur.length
 most:cur.length<=8000
 few:A.length+Z.length<=4000
 ahead:A=cur.take A.length
 behind:Z=cur.drop (cur.length-Z.length)
theorem Room.block {B:Gm.Bs}{w w':World}{ao:Option Addr}{cur:List Int}(h:Room B w ao cur)(e:∀r,ao=some ⟨r,0,none⟩->w'.heap[r]?=w.heap[r]?):Room B w' ao cur:=by
 rcases h with h|⟨r,h1,h2,h3⟩
 ·exact .inl h
 ·exact .inr ⟨r,h1,h2,(e r h1).trans h3⟩
theorem Room.lt {B:Gm.Bs}{w:World}{ao:Option Addr}{cur:List Int}(h:Room B w ao cur)(r:Nat)(e:ao=some ⟨r,0,none⟩):B.ok r/\r<w.heap.size:=by
 rcases h with h|⟨r',h1,h2,h3⟩
 ·rw[h.1] at e;cases e
 ·rw[h1] at e;cases e;exact⟨h2,lt_of_block h3⟩
theorem Room.cell {B:Gm.Bs}{w:World}{ao:Option Addr}{cur:List Int}(h:Room B w ao cur){r j:Nat}{z:Int}(e:ao=some ⟨r,0,none⟩)(hj:cur[j]?=some z):w.cell? ⟨r,j,none⟩=some (.int .i32 z):=by
 rcases h with h|⟨r',h1,h2,h3⟩
 ·rw[h.1] at e;cases e
 ·rw[h1] at e;cases e;simp[World.cell?,h3,hj]
theorem Room.some {B:Gm.Bs}{w:World}{ao:Option Addr}{cur:List Int}(h:Room B w ao cur)(h0:0<cur.length):∃r,ao=some ⟨r,0,none⟩:=by
 rcases h with h|⟨r,h1,_⟩
 ·rw[h.2] at h0;simp at h0
 ·exact⟨r,h1⟩
theorem Tx.kept {B:Gm.Bs}{g:Nat}{ao:Option Addr}{cur A Z:List Int}{w w':World}(h:Tx B g ao cur A Z w)(e:∀k,k<w.heap.size->w'.heap[k]?=w.heap[k]?):Tx B g ao cur A Z w' :=
 ⟨h.hB,h.box.block (e g h.box.lt),h.room.block fun r hr=>e r (h.room.lt r hr).2,h.ne,h.fit,h.most,h.few,h.ahead,h.behind⟩
theorem zbb {B:Gm.Bs}{g i:Nat}{w0 w:World}(hb:Gm.Fr B w0 w)(hB:B.ok g)(v:Value):Gm.Fr B w0 (w.setCell ⟨g,i,none⟩ v):=hb.setCell hB v
theorem zb8 {P:Program}{ops:Array Oper}{o:Oper}{a:Act}{w:World}{K:Act->World->Prop}{Q:Exit->Act->World->Prop}{E:Prop}(hgd:o.guard=none)(d s:Operand)(dT sT:TypeId)
  (ho:o.op=.call { callee:=.builtin .copy,args:=#[d,s],argTypes:=#[dT,sT] }) (elem:TypeId) (hu:P.underlying dT=some (.slice elem)) (hsz:(P.info? elem).map (·.size)=some 1)
  (dp sp:Option Addr) (dLen dCap sLen sCap:Nat) (hd:a.eval d=.slice dp dLen dCap) (hs:a.eval s=.slice sp sLen sCap)
  (B:Gm.Bs) (ao:Option Addr) (cur:List Int) (hR:Room B w ao cur) (off:Nat) (zs:List Int) (hn:zs.length=Nat.min sLen dLen)
  (hpos:0<zs.length->∀r,ao=some ⟨r,0,none⟩->dp=some ⟨r,off,none⟩/\∃b so,sp=some ⟨b,so,none⟩/\∀j z,zs[j]?=some z->w.cell? ⟨b,so+j,none⟩=some (.int .i32 z))
  (hfit:off+zs.length<=cur.length)
  (h:∀w',Room B w' ao (splice cur off zs)->w.grownBy w' (Value.slice ao 0 0).ownBlock->K (a.put o.dst (goInt zs.length)) w') :
  if Region.wanted o (yielded ops a.tmps)=true then Oper.wp P o a w K Q else E:=by
 have hw:Region.wanted o (yielded ops a.tmps)=true:=by simp[Region.wanted,hgd]
 rw[if_pos hw]
 by_cases h0:zs.length=0
 ·obtain rfl:zs= []:=List.eq_nil_of_length_eq_zero h0;have hrun:=run_copy_none (P:=P) w dT sT o.type elem dp sp dLen dCap sLen sCap hu hsz (by simpa using hn.symm);unfold Oper.wp;simp[execOp,ho,resolve,invoke,builtin,hd,hs,hrun,Result.andThen];exact h w (by simpa [splice] using hR) ⟨rfl,rfl,rfl,qN,fun _ _ _=>rfl⟩
 ·rcases hR with ⟨_,rfl⟩|⟨r,hr,hBr,hg⟩
  ·rw[List.length_nil] at hfit;omega
  obtain⟨rfl,b,so,rfl,hc⟩:=hpos (by omega) r hr
  have hrun:=run_copy_row (P:=P) w dT sT o.type elem r off dLen dCap ⟨b,so,none⟩ sLen sCap _ _ (zs.map (Value.int .i32)) hu hsz hg (by simpa using hn) (fun j v hj=>by
   rw[List.getElem?_map] at hj;cases hz:zs[j]? with
   | none=>rw[hz] at hj;simp at hj
   | some z=>rw[hz] at hj;simp at hj;subst hj;rw[L.addr_add];exact hc j z hz) (by simpa using hfit) (fun v hv=>by obtain⟨z,_,rfl⟩:=List.mem_map.1 hv;rfl)
  unfold Oper.wp;simp[execOp,ho,resolve,invoke,builtin,hd,hs,hrun,Result.andThen];refine h _ (.inr ⟨r,hr,hBr,?_⟩) ⟨rfl,rfl,rfl,by simp[World.setRow],fun k _ hk=>setRow_other w r k _ (fun e=>hk (by rw[e,hr];rfl))⟩;have:=setRow_heap w r _ ((((cur.map (Value.int .i32)).toArray.toList.take off)++((zs.map (Value.int .i32))++(cur.map (Value.int .i32)).toArray.toList.drop (off+(zs.map (Value.int .i32)).length)))).toArray _ _ hg;simpa [splice,List.map_take,List.map_drop] using this
end Gm
section
open Go.RowKit
theorem zet (w:World)(g:Nat)(ao:Option Addr)(n t:Nat)(v1:Value)(h:Gm.Bx3 w g (.slice ao n n) v1 (.int .i64 t))(hn:n<=8000)(ht:t<=n) :
  Calls prog 198 #[.pointer (some ⟨g,0,none⟩)] w fun e w'=>e=.returned (.int .i64 (n-t:Nat))/\∃q,w'=w.drewN q:=by
 have c0:=h.c0;have c2:=h.c2
 go_enter func198,ntmps198
 go_wp2
 go_quiet (fail)
 go_wp2;go_ret
 exact⟨L.zdf (by omega),_,rfl⟩
theorem zcq (w:World)(g:Nat)(ao:Option Addr)(n f t:Nat)(h:Gm.Bx3 w g (.slice ao n n) (.int .i64 f) (.int .i64 t))(hn:n<=8000)(ht:t<=n)(hf:f<=n) :
  Calls prog 176 #[.pointer (some ⟨g,0,none⟩)] w fun e w'=>e=.returned (.int .i64 (f+(n-t):Nat))/\∃q,w'=w.drewN q:=by
 have c1:=h.c1;have H:Hid _:=h;clear h
 go_enter func176,ntmps176
 go_wp2
 go_quiet ((go_at_call 198;exact Calls.quiet_of (zet _ g ao n t _ H.out hn ht)))
 go_wp2;go_ret
 exact⟨L.zdf (by omega),_,rfl⟩
theorem zc8 (w:World)(g f:Nat)(v0 v2:Value)(h:Gm.Bx3 w g v0 (.int .i64 f) v2) :
  Calls prog 177 #[.pointer (some ⟨g,0,none⟩)] w fun e w'=>e=.returned (.int .i64 f)/\w'=w:=by
 have c1:=h.c1
 go_enter func177,ntmps177
 go_wp2;go_ret
 exact⟨rfl,rfl⟩
namespace Gm
def Told (B:Gm.Bs) (g:Nat) (w:World) (A Z:List Int) (w':World):Prop:=(∃ao cur,Tx B g ao cur A Z w')/\Gm.Fr B w w'
theorem Tx.size {B:Gm.Bs}{g:Nat}{ao:Option Addr}{cur A Z:List Int}{w:World}(h:Tx B g ao cur A Z w):B.b<=w.heap.size:=by have:=h.box.lt;have:=h.hB.1;omega
theorem Tx.drew {B:Gm.Bs}{g:Nat}{ao:Option Addr}{cur A Z:List Int}{w:World}(h:Tx B g ao cur A Z w)(q:Nat):Tx B g ao cur A Z (w.drewN q):=h.kept fun _ _=>rfl
theorem Tx.told {B:Gm.Bs}{g:Nat}{ao:Option Addr}{cur A Z:List Int}{w w':World}(h:Tx B g ao cur A Z w')(hb:Gm.Fr B w w'):Told B g w A Z w':=⟨⟨ao,cur,h⟩,hb⟩
theorem Tx.same {B:Gm.Bs}{g:Nat}{ao:Option Addr}{cur A Z:List Int}{w:World}(h:Tx B g ao cur A Z w)(q:Nat):Told B g w A Z (w.drewN q):=(h.drew q).told (Gm.Fr.drewN (Gm.Fr.refl _ _) _)
theorem Tx.del {B:Gm.Bs}{g:Nat}{ao:Option Addr}{cur A Z:List Int}{w:World}(h:Tx B g ao cur A Z w)(k:Nat)(hk:k<=Z.length):Tx B g ao cur A (Z.drop k) (w.setCell ⟨g,2,none⟩ (.int .i64 ((cur.length-Z.length:Nat)+k:Int))):=by
 have hf:=h.fit;have hm:=h.most;have hw:=h.few;have hl:(Z.drop k).length=Z.length-k:=by simp
 refine⟨h.hB,?_,h.room.block fun r hr=>heap_setCell_other _ _ _ _ (h.ne r hr),h.ne,by omega,h.most,by omega,h.ahead,?_⟩
 ·have:=h.box.set2 (.int .i64 ((cur.length-Z.length:Nat)+k:Int));rw[hl];have e:((cur.length-Z.length:Nat)+k:Int)=(cur.length-(Z.length-k):Nat):=by omega
  rw[e] at this ⊢;exact this
 ·rw[hl];have:=h.behind
  conv=>lhs;rw[this]
  rw[List.drop_drop];congr 1;omega
end Gm
theorem zvf (w:World)(B:Gm.Bs)(g:Nat)(ao:Option Addr)(cur A Z:List Int)(h:Gm.Tx B g ao cur A Z w)(k:Nat)(hn:k<=Z.length) :
  Calls prog 216 #[.pointer (some ⟨g,0,none⟩),.int .i64 k] w fun e w'=>e=.returned (.int .i64 0)/\Gm.Told B g w A (Z.drop k) w':=by
 have hf:=h.fit;have hm:=h.most;have H:Hid _:=h;clear h
 go_enter func216,ntmps216
 go_wp2_with (go_at_call 198;refine(zet _ g ao _ _ _ H.out.box hm (by omega)).mono ?_;rintro e w' ⟨rfl,q,rfl⟩;rw[show cur.length-(cur.length-Z.length)=Z.length by omega];have X:=H.out.drew q;have c2:=X.box.c2;have f2:=X.box.free 2;have HX:Hid _:=X;clear X;have HB:Hid (Gm.Fr B w (w.drewN q)):=(Gm.Fr.drewN (Gm.Fr.refl _ _) _);generalize w.drewN q=w1 at *)
 go_ret;exact⟨rfl,(HX.out.del k hn).told (Gm.zbb HB.out HX.out.hB _)⟩
attribute [local go_sem ↓] Go.wp_at_zero Go.wp_at_succ
namespace Gm
theorem zfa {L cs:List Int}{off k:Nat}(hl:off<=L.length)(h:k<=off):(splice L off cs).take k=L.take k:=by
 unfold splice;rw[List.take_append_of_le_length (by rw[List.length_take];omega),List.take_take];congr 1;omega
theorem zfc {L cs:List Int}{off k:Nat}(hl:off<=L.length)(h:off+cs.length<=k):(splice L off cs).drop k=L.drop k:=by
 unfold splice;rw[List.drop_append,List.drop_append,List.drop_drop,List.length_take,List.drop_eq_nil_of_le (by rw[List.length_take];omega),List.drop_eq_nil_of_le (by omega)];simp only[List.nil_append];congr 1;omega
theorem zfb {L cs:List Int}{off:Nat}(hl:off<=L.length):(splice L off cs).drop off=cs++L.drop (off+cs.length):=by
 unfold splice;rw[List.drop_append,List.length_take,List.drop_eq_nil_of_le (by rw[List.length_take];omega),show off-min off L.length=0 by omega];simp
theorem ze9 {L cs:List Int}{off:Nat}(hl:off<=L.length):(splice L off cs).take (off+cs.length)=L.take off++cs:=by
 unfold splice;rw[List.take_append,List.length_take,List.take_of_length_le (by rw[List.length_take];omega),show off+cs.length-min off L.length=cs.length by omega];simp
theorem zn3 {B:Gm.Bs}{w0 w:World}(b:Gm.Fr B w0 w):Gm.Fr B w0 w.drew:=b.drew
theorem zma (w:World)(B:Gm.Bs)(r:Nat){cur:List Int}(hR:Room B w (some ⟨r,0,none⟩) cur)(off:Nat)(zs:List Int)(ad:Addr)(sLen sCap dLen dCap:Nat)(hn:zs.length=Nat.min sLen dLen)
  (hc:∀j z,zs[j]?=some z->w.cell? (ad.add j)=some (.int .i32 z)) (hfit:off+zs.length<=cur.length) :
  ∃W,(∀ty,(Builtin.copy_ #[42,42] ty #[.slice (some ⟨r,off,none⟩) dLen dCap,.slice (some ad) sLen sCap]).run prog w.drew=.ok (goInt zs.length) W)/\Room B W (some ⟨r,0,none⟩) (splice cur off zs)/\w.drew.grownBy W (some r):=by
 rcases hR with ⟨h,_⟩|⟨r',hr,hBr,hg⟩
 ·cases h
 cases hr;have hg':w.drew.heap[r]?=some (.cells (cur.map (Value.int .i32)).toArray 21 (0,0)):=hg
 have hrun:=fun ty=>run_copy_row (P:=prog) w.drew 42 42 ty 21 r off dLen dCap ad sLen sCap _ _ (zs.map (Value.int .i32)) underlying42 Tryz.sizeI32 hg' (by simpa using hn) (fun j v hj=>by
  rw[List.getElem?_map] at hj;cases hz:zs[j]? with
  | none=>rw[hz] at hj;simp at hj
  | some z=>rw[hz] at hj;simp at hj;subst hj;exact hc j z hz) (by simpa using hfit) (fun v hv=>by obtain⟨z,_,rfl⟩:=List.mem_map.1 hv;rfl)
 obtain⟨W,hW⟩:=qE (w.drew.setRow r ((cur.map (Value.int .i32)).toArray.toList.take off++zs.map (Value.int .i32)++(cur.map (Value.int .i32)).toArray.toList.drop (off+zs.length)).toArray);refine⟨W,fun ty=> ?_,.inr ⟨r,rfl,hBr,?_⟩,?_⟩
 ·have:=hrun ty;rw[List.length_map,<- hW] at this;exact this
 ·have:=setRow_heap w.drew r _ ((cur.map (Value.int .i32)).toArray.toList.take off++zs.map (Value.int .i32)++(cur.map (Value.int .i32)).toArray.toList.drop (off+zs.length)).toArray _ _ hg';rw[<- hW] at this;simpa [splice,List.map_take,List.map_drop] using this
 ·rw[hW];exact⟨rfl,rfl,rfl,by simp[World.setRow],fun k _ hk=>setRow_other _ r k _ (fun e=>hk (by rw[e]))⟩
theorem zov {B:Gm.Bs}{g:Nat}{w W:World}{A Z:List Int}{x y:Int}(h:Told B g w A Z (W.setCell ⟨g,1,none⟩ (.int .i64 y)))(e:x=y):Told B g w A Z (W.setCell ⟨g,1,none⟩ (.int .i64 x)):=e▸h
theorem Tx.stay {B:Gm.Bs}{g:Nat}{ao:Option Addr}{cur A Z:List Int}{w w2:World}(h:Tx B g ao cur A Z w)(hX:Bx3 w2 g (.slice ao cur.length cur.length) (.int .i64 A.length) (.int .i64 (cur.length-Z.length:Nat)))(hR:Room B w2 ao cur) :
  Tx B g ao cur A Z (w2.setCell ⟨g,1,none⟩ (.int .i64 A.length)) :=
 ⟨h.hB,hX.set1 _,hR.block fun r' hr=>heap_setCell_other _ _ _ _ (h.ne r' hr),h.ne,h.fit,h.most,h.few,h.ahead,h.behind⟩
theorem keep3 {w w':World}{g r:Nat}{v0 v1 v2:Value}(h:Bx3 w g v0 v1 v2)(hg:w.drew.grownBy w' (some r))(hne:r≠g):(w'.cell? ⟨g,0,none⟩=some v0/\w'.cell? ⟨g,1,none⟩=some v1)/\w'.cell? ⟨g,2,none⟩=some v2 :=
 have hb:Bx3 w' g v0 v1 v2:=h.block (hg.block g h.lt (fun e=>hne (by cases e;rfl)))
 ⟨⟨hb.c0,hb.c1⟩,hb.c2⟩
end Gm
namespace Gm
theorem Tx.left {B:Gm.Bs}{g r:Nat}{cur A Z:List Int}{w w2:World}{k T:Nat}(h:Tx B g (some ⟨r,0,none⟩) cur A Z w)(hk:k<A.length)(hT:T+A.length+Z.length=cur.length+k)
  (hR:Room B w2 (some ⟨r,0,none⟩) (splice cur T (A.drop k))) (hX:Bx3 w2 g (.slice (some ⟨r,0,none⟩) cur.length cur.length) (.int .i64 A.length) (.int .i64 T)) :
  Tx B g (some ⟨r,0,none⟩) (splice cur T (A.drop k)) (A.take k) (A.drop k++Z) (w2.setCell ⟨g,1,none⟩ (.int .i64 k)):=by
 have hf:=h.fit;have hm:=h.most;have hw:=h.few;have hd:(A.drop k).length=A.length-k:=by simp
 have ht:(A.take k).length=k:=by rw[List.length_take];omega
 have hl:(splice cur T (A.drop k)).length=cur.length:=length_splice _ _ _ (by omega);have hz:cur.length-(A.drop k++Z).length=T:=by rw[List.length_append,hd];omega
 refine⟨h.hB,?_,hR.block fun r' hr=>heap_setCell_other _ _ _ _ (h.ne r' hr),h.ne,by rw[hl,ht,List.length_append];omega,by omega,by rw[ht,List.length_append];omega,?_,?_⟩
 ·rw[hl,ht,hz];exact hX.set1 _
 ·rw[ht,zfa (by omega) (by omega)];have:=congrArg (List.take k) h.ahead;rw[List.take_take] at this;rw[this];congr 1;omega
 ·rw[hl,hz,zfb (by omega),hd];congr 1;have:=h.behind;rw[this];have e:(cur.drop (cur.length-Z.length)).length=Z.length:=by rw[<- this]
  rw[show T+(A.length-k)=cur.length-Z.length by omega]
end Gm
theorem ziz (w:World)(B:Gm.Bs)(g r:Nat)(cur A Z:List Int)(h:Gm.Tx B g (some ⟨r,0,none⟩) cur A Z w)(k:Nat)(hk:k<A.length) :
  Calls prog 197 #[.pointer (some ⟨g,0,none⟩),.int .i64 k] w fun e w'=>e=.returned (.int .i64 0)/\Gm.Told B g w (A.take k) (A.drop k++Z) w':=by
 have hf:=h.fit;have hm:=h.most;have hw:=h.few;have H:Hid _:=h;obtain⟨T,hT⟩:∃T:Nat,T=cur.length-Z.length-(A.length-k):=⟨_,rfl⟩;have e1:IntKind.i64.wrap (↑A.length - ↑k)= ↑A.length - ↑k:=by rw[IntKind.wrap_i64];omega
 have e2:IntKind.i64.wrap (↑(cur.length-Z.length)-(↑A.length - ↑k))=(T:Int):=by rw[IntKind.wrap_i64];omega
 have HT:Hid (T+A.length+Z.length=cur.length+k):=by show _=_;omega
 have hT1:T<cur.length:=by omega
 have hT2:(0:Int)<=T:=by omega
 have hT3:(T:Int)<=cur.length:=by omega
 have hT4:¬cur.length=T:=by omega
 have hk1:¬cur.length=k:=by omega
 have hk2:(0:Int)<=k:=by omega
 have hk3:(k:Int)<=A.length:=by omega
 have hk4:(A.length:Int)<=cur.length:=by omega
 clear h hT
 go_enter func197,ntmps197
 go_wp2_with (go_at_call 176;refine(zcq _ g _ _ _ _ H.out.box hm (by omega) (by omega)).mono ?_;rintro e w' ⟨rfl,q,rfl⟩;rw[show (A.length+(cur.length-(cur.length-Z.length)))=A.length+Z.length by omega];have X:=H.out.drew q;have c0:=X.box.c0;have c1:=X.box.c1;have c2:=X.box.c2;have f2:=X.box.free 2;have f1:=X.box.free 1;have HX:Hid _:=X;clear X;have HB:Hid (Gm.Fr B w (w.drewN q)):=(Gm.Fr.drewN (Gm.Fr.refl _ _) _);generalize w.drewN q=w1 at *)
 obtain⟨W2,hW2⟩:=qE ((w1.setCell ⟨g,2,none⟩ (.int .i64 T)).drew);have X2:Gm.Bx3 W2 g (.slice (some ⟨r,0,none⟩) cur.length cur.length) (.int .i64 A.length) (.int .i64 T):=by rw[hW2];exact HX.out.box.set2 _
 have HR2:Hid (Gm.Room B W2 (some ⟨r,0,none⟩) cur):=by rw[hW2];exact HX.out.room.block fun r' hr=>heap_setCell_other _ _ _ _ (HX.out.ne r' hr)
 have HB2:Hid (Gm.Fr B w W2):=by rw[hW2];exact Gm.zn3 (Gm.zbb HB.out HX.out.hB _)
 have HW2:=qH hW2;clear hW2
 go_region
 rw[<- HW2.out];have d0:=X2.c0;have d1:=X2.c1;have d2:=X2.c2;have g1:=X2.free 1;have HX2:=qH X2;have hne:=HX.out.ne r rfl;have hlA:(A.drop k).length=A.length-k:=by simp
 have HG:Hid (∀j z,(A.drop k)[j]?=some z->W2.cell? ⟨r,k+j,none⟩=some (.int .i32 z)):=fun j z hj=>by
  refine HR2.out.cell rfl ?_;rw[List.getElem?_drop] at hj;have h1:=(qL.1 hj).1;have h2:=congrArg (fun l=>l[k+j]?) HX.out.ahead;rw[h2,List.getElem?_take] at hj;simpa [h1] using hj
 have HN:Hid ((A.drop k).length=Nat.min (A.length-k) (cur.length-T)):=by show _=min _ _;have:=HT.out;omega
 have HF:Hid (T+(A.drop k).length<=cur.length):=by show _<=_;have:=HT.out;omega
 clear HW2 c0 c1 c2 f2 f1 X2 hlA;go_wp2
 go_region_held3 (fun w'=>(w'.cell? ⟨g,0,none⟩=some (.slice (some ⟨r,0,none⟩) cur.length cur.length)/\w'.cell? ⟨g,1,none⟩=some (.int .i64 A.length))/\w'.cell? ⟨g,2,none⟩=some (.int .i64 T)) (first|exact Gm.keep3 HX2.out hg3 hne|go_keep) ((refine Gm.zb8 (by rfl) (.tmp 40) (.tmp 50) 42 42 (by rfl) 21 underlying42 Tryz.sizeI32 _ _ _ _ _ _ (by rfl) (by rfl) B (some ⟨r,0,none⟩) cur (HR2.out.block fun _ _=>rfl) T (A.drop k) HN.out (fun _ r' hr'=>by cases hr';exact⟨rfl,r,k,rfl,fun j z hj=>HG.out j z hj⟩) HF.out ?_;intro w3 hR3 hg3))
 have X3:=HX2.out.block (hg3.block g HX2.out.lt (fun e=>hne (by cases e;rfl)));have HB3:=qH<|HB2.out.drew.grown hg3 (by have:=HX2.out.lt;have:=HX.out.hB.1;show B.b<=W2.heap.size;omega) fun j e=>by cases e;exact(HR2.out.lt r rfl).1
 have HX3:=qH X3;have HR3:=qH hR3;have g1':=X3.free 1;have d1':=X3.c1;clear X3 hR3 hg3 d0 d1 d2 g1;go_wp2;go_ret;exact⟨rfl,(HX.out.left hk HT.out HR3.out HX3.out).told (Gm.zbb HB3.out HX.out.hB _)⟩
namespace Gm
theorem Tx.right {B:Gm.Bs}{g:Nat}{ao:Option Addr}{cur A Z:List Int}{w w2:World}{k m:Nat}(h:Tx B g ao cur A Z w)(hk:k=A.length+m)(hm:m<=Z.length)
  (hR:Room B w2 ao (splice cur A.length (Z.take m))) (hX:Bx3 w2 g (.slice ao cur.length cur.length) (.int .i64 A.length) (.int .i64 (cur.length-Z.length+m:Nat))) :
  Tx B g ao (splice cur A.length (Z.take m)) (A++Z.take m) (Z.drop m) (w2.setCell ⟨g,1,none⟩ (.int .i64 k)):=by
 have hf:=h.fit;have hmo:=h.most;have hw:=h.few;have ht:(Z.take m).length=m:=by rw[List.length_take];omega
 have hd:(Z.drop m).length=Z.length-m:=by simp
 have hl:(splice cur A.length (Z.take m)).length=cur.length:=length_splice _ _ _ (by omega);have ha:(A++Z.take m).length=k:=by rw[List.length_append,ht];omega
 have hz:cur.length-(Z.drop m).length=cur.length-Z.length+m:=by omega
 refine⟨h.hB,?_,hR.block fun r' hr=>heap_setCell_other _ _ _ _ (h.ne r' hr),h.ne,by omega,by omega,by omega,?_,?_⟩
 ·rw[hl,ha,hz];exact hX.set1 _
 ·have e:=ze9 (L:=cur) (cs:=Z.take m) (off:=A.length) (by omega);rw[ht,<- hk] at e;rw[ha,e,<- h.ahead]
 ·rw[hl,hz,zfc (by omega) (by omega),<- List.drop_drop];exact congrArg (List.drop m) h.behind
end Gm
theorem copy0 (dp sp:Option Addr)(c1 sl c2:Nat)(ty:TypeId)(w:World):(Builtin.copy_ #[42,42] ty #[.slice dp 0 c1,.slice sp sl c2]).run prog w=.ok (goInt 0) w :=
 run_copy_none w _ _ _ 21 _ _ _ _ _ _ underlying42 Tryz.sizeI32 (by simp)
theorem ziy (w:World)(B:Gm.Bs)(g:Nat)(ao:Option Addr)(cur A Z:List Int)(h:Gm.Tx B g ao cur A Z w) :
  Calls prog 197 #[.pointer (some ⟨g,0,none⟩),.int .i64 A.length] w fun e w'=>e=.returned (.int .i64 0)/\Gm.Told B g w A Z w':=by
 have hf:=h.fit;have hm:=h.most;have hw:=h.few;have H:=qH h;obtain⟨T,hT⟩:∃T:Nat,T=cur.length-Z.length:=⟨_,rfl⟩;have HT:=qH hT;have e2:IntKind.i64.wrap (T:Int)=(T:Int):=by rw[IntKind.wrap_i64];omega
 have hT2:(0:Int)<=T:=by omega
 have hT3:(T:Int)<=cur.length:=by omega
 have hA2:(0:Int)<=A.length:=by omega
 have hk4:(A.length:Int)<=cur.length:=by omega
 have hk5:¬(A.length+Z.length:Int)<A.length:=by omega
 have HL:Hid (A.length+(cur.length-(cur.length-Z.length))=A.length+Z.length):=by show _=_;omega
 have hcopy:=copy0;clear h hT
 go_enter func197,ntmps197
 go_wp2_with (go_at_call 176;refine(zcq _ g ao _ _ _ H.out.box hm (by omega) (by omega)).mono ?_;rintro e w' ⟨rfl,q,rfl⟩;rw[HL.out];have X:=H.out.drew q;have c0:=X.box.c0;have c1:=X.box.c1;have c2:=X.box.c2;have f2:=X.box.free 2;have f1:=X.box.free 1;rw[<- HT.out] at c2;have HX:Hid (Gm.Tx B g ao cur A Z (w.drewN q)):=X;clear X;have HB:Hid (Gm.Fr B w (w.drewN q)):=(Gm.Fr.drewN (Gm.Fr.refl _ _) _);generalize w.drewN q=w1 at *)
 obtain⟨W2,hW2⟩:=qE ((w1.setCell ⟨g,2,none⟩ (.int .i64 T)).drew);have X2:Gm.Bx3 W2 g (.slice ao cur.length cur.length) (.int .i64 A.length) (.int .i64 T):=by rw[hW2];exact HX.out.box.set2 _
 have HX2:=qH X2;have HR2:Hid (Gm.Room B W2 ao cur):=by rw[hW2];exact HX.out.room.block fun r' hr=>heap_setCell_other _ _ _ _ (HX.out.ne r' hr)
 have HB2:Hid (Gm.Fr B w W2):=by rw[hW2];exact(Gm.zbb HB.out HX.out.hB _).drew
 have HW2:=qH hW2;clear hW2
 go_region
 rw[<- HW2.out];have d1:=X2.c1;have g1:=X2.free 1;clear HW2 c0 c1 c2 f2 f1 X2;have HE:=qH<|(HX.out.stay (by have:=HX2.out;rw[HT.out] at this;exact this) HR2.out).told (Gm.zbb HB2.out HX.out.hB _);go_wp2
 all_goals
  go_ret;exact⟨rfl,Gm.zov HE.out (by omega)⟩
theorem zgy (w:World)(B:Gm.Bs)(g r:Nat)(cur A Z:List Int)(h:Gm.Tx B g (some ⟨r,0,none⟩) cur A Z w)(k m:Nat)(hk:k=A.length+m)(hmz:m<=Z.length)(hm0:0<m) :
  Calls prog 197 #[.pointer (some ⟨g,0,none⟩),.int .i64 k] w fun e w'=>e=.returned (.int .i64 0)/\Gm.Told B g w (A++Z.take m) (Z.drop m) w':=by
 have hf:=h.fit;have hm:=h.most;have hw:=h.few;have H:=qH h;obtain⟨T,hT⟩:∃T:Nat,T=cur.length-Z.length:=⟨_,rfl⟩;have HT:=qH hT;have HK:=qH hk;obtain⟨T',hT'⟩:∃T':Nat,T'=T+m:=⟨_,rfl⟩;have HT':=qH hT';have e2:IntKind.i64.wrap (↑T+ ↑m)=(T':Int):=by rw[IntKind.wrap_i64];omega
 have hT2:(0:Int)<=T:=by omega
 have hT3:(T:Int)<=cur.length:=by omega
 have hT4:¬cur.length=T:=by omega
 have hA2:(0:Int)<=A.length:=by omega
 have hA4:¬cur.length=A.length:=by omega
 have hk2:(0:Int)<=k:=by omega
 have hk3:(A.length:Int)<=k:=by omega
 have hk4:(k:Int)<=cur.length:=by omega
 have hk5:¬(A.length+Z.length:Int)<k:=by omega
 have hk6:¬(k:Int)<A.length:=by omega
 have HL:Hid (A.length+(cur.length-(cur.length-Z.length))=A.length+Z.length):=by show _=_;omega
 have hne:=h.ne r rfl
 have HT5:Hid ((Z.take m).length=m/\m=Nat.min (cur.length-T) (k-A.length)/\A.length+m<=cur.length):=by
  refine⟨?_,?_,by omega⟩
  ·rw[List.length_take];omega
  ·show _=min _ _;omega
 clear h hT hk hT'
 go_enter func197,ntmps197
 go_wp2_with (go_at_call 176;refine(zcq _ g _ _ _ _ H.out.box hm (by omega) (by omega)).mono ?_;rintro e w' ⟨rfl,q,rfl⟩;rw[HL.out];have X:=H.out.drew q;have c0:=X.box.c0;have c1:=X.box.c1;have c2:=X.box.c2;have f2:=X.box.free 2;have f1:=X.box.free 1;rw[<- HT.out] at c2;have HX:Hid (Gm.Tx B g (some ⟨r,0,none⟩) cur A Z (w.drewN q)):=X;clear X;have HB:Hid (Gm.Fr B w (w.drewN q)):=(Gm.Fr.drewN (Gm.Fr.refl _ _) _);generalize w.drewN q=w1 at *)
 have HG:∀j z,(Z.take m)[j]?=some z->w1.cell? ⟨r,T+j,none⟩=some (.int .i32 z):=fun j z hj=>by
  refine HX.out.room.cell rfl ?_;rw[List.getElem?_take] at hj;split at hj
  ·have h2:=congrArg (fun l=>l[j]?) HX.out.behind;rw[h2,List.getElem?_drop,<- HT.out] at hj;exact hj
  ·cases hj
 obtain⟨W3,hcopy,hR3,hg3⟩:=Gm.zma w1 B r (HX.out.room) A.length (Z.take m) ⟨r,T,none⟩ (cur.length-T) (cur.length-T) (k-A.length) (cur.length-A.length) (by rw[HT5.out.1];exact HT5.out.2.1) (fun j z hj=>by rw[L.addr_add];exact HG j z hj) (by rw[HT5.out.1];exact HT5.out.2.2);rw[HT5.out.1] at hcopy;have X3:=HX.out.box.block (hg3.block g HX.out.box.lt (fun e=>hne (by cases e;rfl)));have HB3:=qH<|HB.out.drew.grown hg3 (by have:=HX.out.box.lt;have:=HX.out.hB.1;show B.b<=w1.heap.size;omega) fun j e=>by cases e;exact(HX.out.room.lt r rfl).1
 have HR3:=qH hR3;have d0:=X3.c0;have d1:=X3.c1;have d2:=X3.c2;have h2:=X3.free 2;rw[<- HT.out] at d2;obtain⟨W2,hW2⟩:=qE ((W3.setCell ⟨g,2,none⟩ (.int .i64 T')));have X2:Gm.Bx3 W2 g (.slice (some ⟨r,0,none⟩) cur.length cur.length) (.int .i64 A.length) (.int .i64 T'):=by rw[hW2];exact X3.set2 _
 have HX2:=qH X2;have HR2:Hid (Gm.Room B W2 (some ⟨r,0,none⟩) (splice cur A.length (Z.take m))):=by rw[hW2];exact HR3.out.block fun r' hr=>heap_setCell_other _ _ _ _ (HX.out.ne r' hr)
 have HB2:Hid (Gm.Fr B w W2):=by rw[hW2];exact(Gm.zbb HB3.out HX.out.hB _)
 have HW2:=qH hW2;clear hW2 X3 hR3 hg3 HG
 go_region
 rw[<- HW2.out];have k1:=X2.c1;have g1:=X2.free 1;clear HW2 c0 c1 c2 f2 f1 X2 d0 d1 d2 h2 hcopy;go_wp2;go_ret;exact⟨rfl,(HX.out.right HK.out hmz HR2.out (by have:=HX2.out;rw[HT'.out,HT.out] at this;exact this)).told (Gm.zbb HB2.out HX.out.hB _)⟩
