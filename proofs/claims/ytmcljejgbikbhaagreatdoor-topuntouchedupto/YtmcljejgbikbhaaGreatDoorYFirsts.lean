/-
 slices.ContainsFunc, slices.Clone, cmp.Compare and slices.SortFunc, as sets.Of calls them.
-/
import Derived.Test.YtmcljejgbikbhaaGreatDoorSWrong
import Derived.Shelf.SlSortCmp.NoneTotal
import Derived.Shelf.SlGeneric
import Derived.Shelf.Lay
import Derived.Ground.SlsfProg
import Derived.Test.YtmcljejgbikbhaaGreatDoorTBits
import Derived.Test.YtmcljejgbikbhaaGreatDoorYIdx
import Derived.Test.YtmcljejgbikbhaaGreatDoorVBad
import Derived.Test.YtmcljejgbikbhaaGreatDoorYRus
namespace Go.Proofs
open Go.Shelf Go.RowKit Go.Lib Go.Sort
shelf_lay_g SlLaysF0.n6 Slsf 6 at Tryz 91 as Tryz.sortSp
end Go.Proofs
namespace Go.Proofs.YtmcljejgbikbhaaGreatDoor
open Go.RowKit Go.Lib Go.Sort
set_option maxHeartbeats 1000000 in
theorem indexf_any (w:World)(v:Value)(l:List S.Sp)(R:S.Rd w v l)(hl:l.length<=17592186044160) :
  Calls Tryz.prog 134 #[v,.func (.func 89) #[] #[]] w fun e w'=>∃i:Int,e= .returned (.int .i64 i)/\decide (0<=i)=l.any S.bad/\Below w.heap.size w w':=by
 obtain⟨ao,cap,rfl,hn,hc⟩:=R
 have eg:∀args w,(callFunc 89 args).run Tryz.prog w= .ok (.enter 89 args) w:=enters_of Tryz.func89 (by kernel_rfl) rfl
 go_enter Tryz.func134,Tryz.ntmps134
 go_wp2
 go_loopw [8] (fun i wr=>∃k:Nat,k<=l.length/\i= .int .i64 k/\Hid ((l.take k).any S.bad=false)/\Hid (Below w.heap.size w wr)) (fun i _=>l.length - (intOf i).toNat)
 case atStart=>exact⟨0,Nat.zero_le _,rfl,by show (l.take 0).any S.bad=false;simp,Below.refl _ w⟩
 case round =>
  obtain⟨k,hk,rfl,HW,HB⟩:=hrel
  by_cases hlt:k<l.length
  ·obtain⟨b,off,rfl,hcell⟩:=hc (by intro h;subst h;simp at hlt)
   obtain⟨x,hx⟩:∃x,l[k]?=some x:=⟨l[k],by simp[hlt]⟩
   have c0:=hcell k x hx
   have hb:=L.block_lt c0.1
   have c1:=c0.1
   have c2:=c0.2
   rw[<- HB.out.cell (p:=⟨b,_,none⟩) hb] at c1 c2
   have HX:Hid (l[k]?=some x):=hx
   have hsz:=HB.out.size
   have hob:=outside_any wr x
   obtain⟨x1,x2⟩:=x
   simp only at c1 c2 hob
   clear c0 hx hcell hc
   cases hbad:S.bad (x1,x2) with
   | true =>
    rw[hbad] at hob
    have HR:Hid (S.bad (x1,x2)=true):=hbad
    clear hbad
    go_wp2_with fail
    refine hob.mono ?_
    rintro e w1 ⟨rfl,HB1⟩
    go_wp2
    go_ret
    refine⟨k,rfl,?_,HB.out.trans (HB1.mono hsz)⟩
    have:l.any S.bad=true:=List.any_eq_true.2 ⟨_,List.mem_of_getElem? HX.out,HR.out⟩
    rw[this];simp
   | false =>
    rw[hbad] at hob
    have HR:Hid (S.bad (x1,x2)=false):=hbad
    clear hbad
    go_wp2_with fail
    refine hob.mono ?_
    rintro e w1 ⟨rfl,HB1⟩
    go_wp2
    go_roundw
    case rel =>
     refine⟨k+1,by omega,by go_num,?_,HB.out.trans (HB1.mono hsz)⟩
     show (l.take (k+1)).any S.bad=false
     rw[List.take_add_one,HX.out,List.any_append,HW.out]
     simp[HR.out]
    case measure=>simp[intOf];omega
  ·go_wp2
   go_ret
   refine⟨-1,rfl,?_,HB.out⟩
   have h:=HW.out
   rw[List.take_of_length_le (by omega)] at h
   rw[h]
   rfl
set_option maxHeartbeats 400000 in
theorem containsf_any (w:World)(v:Value)(l:List S.Sp)(R:S.Rd w v l)(hl:l.length<=17592186044160) :
  Calls Tryz.prog 88 #[v,.func (.func 89) #[] #[]] w fun e w'=>e= .returned (.bool (l.any S.bad))/\Below w.heap.size w w':=by
 have h:=indexf_any w v l R hl
 obtain⟨aa,ca,rfl⟩:=R.len
 clear R
 go_enter Tryz.func88,Tryz.ntmps88
 go_wp2_with fail
 refine h.mono ?_
 rintro e w1 ⟨i,rfl,hi,hb⟩
 have HI:Hid _:=hi
 clear hi
 go_wp2
 go_ret
 exact⟨L.ret_bool HI.out,hb⟩
set_option maxHeartbeats 1000000 in
theorem clone_any (w:World)(v:Value)(l:List S.Sp)(R:S.Rd w v l)(hl:l.length<=17592186044160) :
  Calls Tryz.prog 90 #[v] w fun e w'=>∃v',e= .returned v'/\w'.ownsRow w.heap.size 125 2 v' l.length (S.cellsOf l)/\Below w.heap.size w w':=by
 obtain⟨ao,cap,rfl,hn,hc⟩:=R
 obtain⟨i0,hi,hz0,hz1,hz2⟩:=info_parts Tryz.infoSp
 have q22:∀(w:World) (a:Option Addr) (n c n' c':Nat),(binOp .eql 23 (.slice a n c) (.slice none n' c')).run Tryz.prog w= .ok (.bool a.isNone) w:=fun w a n c n' c'=>Lib.run_eql_slice_nil w _ _ a n c n' c' Tryz.underlying23
 cases ao with
 | none =>
  have h0:l= []:=by
   cases l with
   | nil=>rfl
   | cons z zs=>obtain⟨b,off,h,_⟩:=hc (by simp);simp at h
  subst h0
  have:=hn rfl
  subst this
  clear hc
  go_enter Tryz.func90,Tryz.ntmps90
  go_wp2
  go_ret
  exact⟨_,rfl,World.ownsRow_nil _ _ _ _,Below.refl _ _⟩
 | some ad =>
  have HC:Hid (∀j u,(S.cellsOf l)[j]?=some u->w.cell? (ad.add j)=some u):=by
   intro j u hj
   obtain⟨i,x,hx,hor⟩:=S.cellsOf_inv hj
   obtain⟨b,off,hao,hcell⟩:=hc (by intro h;subst h;simp at hx)
   simp at hao
   subst hao
   have h1:=hcell i x hx
   rw[L.addr_add]
   rcases hor with ⟨rfl,rfl⟩|⟨rfl,rfl⟩
   ·exact h1.1
   ·exact h1.2
  clear hc
  have OW:Hid ((w.alloc (.cells #[] 125)).ownsRow w.heap.size 125 2 (.slice (some ⟨w.heap.size,0,none⟩) 0 0) 0 []):=World.ownsRow_made w #[] 0 (Nat.le_refl _) (Nat.zero_le _) (by simp)
  go_enter Tryz.func90,Tryz.ntmps90
  go_wp2_with (at_builtin;go_must (refine wpList_append_own _ rfl _ _ 23 rfl w.heap.size 125 i0 (.agg #[.int .i32 0,.int .i32 0]) 2 8 Tryz.underlying23 hi hz0 hz1 hz2 rfl (by decide) _ _ _ rfl OW.out ad l.length cap (S.cellsOf l) rfl (S.cellsOf_length l) (fun j u hj=>Lib.cell?_alloc_some _ (HC.out j u hj)) (fun u hu=>S.cellsOf_one hu) (by unfold maxLen;omega) (by omega) (by simp) ?_;intro v' w3 hown' hgrow3 hnil3))
  go_ret
  refine⟨v',rfl,by simpa using hown',?_⟩
  exact((Below.refl _ w).alloc (Nat.le_refl _) _).grown hgrow3 (by simp) (fun k hk=>(OW.out.lt k hk).1)
set_option maxHeartbeats 400000 in
theorem isnan_any (w:World)(x:Int):Calls Tryz.prog 137 #[.int .i32 x] w fun e w'=>e= .returned (.bool false)/\w'=w:=by
 go_enter Tryz.func137,Tryz.ntmps137
 go_wp2
 go_ret
 exact⟨by simp,rfl⟩
def cmpf (x y:S.Sp):Int:=if x.1<y.1 then -1 else if y.1<x.1 then 1 else 0
set_option maxHeartbeats 400000 in
theorem compare_any (w:World)(x y:Int):Calls Tryz.prog 93 #[.int .i32 x,.int .i32 y] w fun e w'=>e= .returned (.int .i64 (if x<y then -1 else if y<x then 1 else 0))/\w'=w:=by
 by_cases h1:x<y
 ·rw[if_pos h1]
  go_enter Tryz.func93,Tryz.ntmps93
  go_wp2_with (go_at_call 137;refine(isnan_any _ _).mono ?_;rintro e w' ⟨rfl,rfl⟩)
  go_ret
  exact⟨rfl,rfl⟩
 ·rw[if_neg h1]
  by_cases h2:y<x
  ·rw[if_pos h2]
   go_enter Tryz.func93,Tryz.ntmps93
   go_wp2_with (go_at_call 137;refine(isnan_any _ _).mono ?_;rintro e w' ⟨rfl,rfl⟩)
   go_ret
   exact⟨rfl,rfl⟩
  ·rw[if_neg h2]
   go_enter Tryz.func93,Tryz.ntmps93
   go_wp2_with (go_at_call 137;refine(isnan_any _ _).mono ?_;rintro e w' ⟨rfl,rfl⟩)
   go_ret
   exact⟨rfl,rfl⟩
set_option maxHeartbeats 400000 in
theorem of1_any (W:World)(x1 x2 y1 y2:Int):Calls Tryz.prog 92 #[.agg #[.int .i32 x1,.int .i32 x2],.agg #[.int .i32 y1,.int .i32 y2]] W fun e w'=>e= .returned (.int .i64 (cmpf (x1,x2) (y1,y2)))/\∃q os',w'=grow (W.drewN q) os':=by
 have hcon:=fun W'=>compare_any W' x1 y1
 change ∀W',Calls Tryz.prog 93 _ _ (fun e w'=>e= .returned (.int .i64 (cmpf (x1,x2) (y1,y2)))/\w'=W') at hcon
 generalize cmpf (x1,x2) (y1,y2)=r at hcon ⊢
 go_enter Tryz.func92,Tryz.ntmps92
 go_wp2_with (go_at_call 93;refine(hcon _).mono ?_;rintro e w' ⟨rfl,rfl⟩)
 go_ret
 exact⟨rfl,0,_,by rw[alloc_eq_grow,alloc_eq_grow,grow_grow];rfl⟩
theorem ltOf_cmpf (x y:S.Sp):ltOf cmpf x y=decide (x.1<y.1):=by
 unfold ltOf cmpf
 by_cases h1:x.1<y.1
 ·simp[h1]
 ·by_cases h2:y.1<x.1 <;> simp[h1,h2]
theorem swo_cmpf:SWO (ltOf cmpf) where
 irrefl x:=by rw[ltOf_cmpf];simp
 trans x y z h1 h2:=by rw[ltOf_cmpf] at *;simp at *;omega
 ntrans x y z h1 h2:=by rw[ltOf_cmpf] at *;simp at *;omega
end Go.Proofs.YtmcljejgbikbhaaGreatDoor
namespace Go.Proofs.YtmcljejgbikbhaaGreatDoor
open Go.RowKit
theorem few_any (w:World)(v:Value)(s:List S.Sp)(R:S.Rd w v s)(hl:s.length<=4611686018427387903) :
  Calls Tryz.prog 95 #[v] w fun e w'=>∃v',e= .returned (.tuple #[v',.int .i64 (S.fewE s)])/\S.Rd w' v' (S.fewL s)/\w'=w:=by
 have R0:=R
 obtain⟨ao,cap,rfl,hn,hc⟩:=R
 have HR:Hid _:=R0
 clear hc R0
 unfold S.fewE S.fewL
 by_cases hbig:200<s.length
 ·rw[if_pos hbig,if_pos hbig]
  go_enter Tryz.func95,Tryz.ntmps95
  go_wp2
  go_ret2
  exact⟨_,rfl,S.Rd.nil w,rfl⟩
 ·rw[if_neg hbig,if_neg hbig]
  go_enter Tryz.func95,Tryz.ntmps95
  go_wp2
  go_ret2
  exact⟨_,rfl,HR.out,rfl⟩
def Tells (w:World) (ea eb:Int) (P:Int->Bool) (e:Ending) (w':World):Prop :=
 ∃v,e= .returned (.tuple #[v,.int .i64 (S.resE ea eb P)])/\S.Rd w' v (S.resL ea eb P)/\Below w.heap.size w w'/\(ea=0->eb=0->∃s,S.Is P s)
end Go.Proofs.YtmcljejgbikbhaaGreatDoor
namespace Go.Proofs.YtmcljejgbikbhaaGreatDoor
open Go.RowKit Go.Lib Go.Sort
theorem memb_takeO {l:List S.Sp}{k:Nat}{x:S.Sp}{r:Int}(hx:l[k]?=some x):S.memb (l.take (k+1)) r=(S.memb (l.take k) r||(decide (x.1<=r)&&decide (r<=x.2))):=by
 rw[List.take_add_one,hx,S.memb_append];simp[S.memb_cons,S.memb_nil]
theorem holds_of_owns {w:World}{B g cap:Nat}{l:List S.Sp}(own:w.ownsRow B 125 2 (.slice (some ⟨g,0,none⟩) l.length cap) l.length (S.cellsOf l)):HoldsK S.enc2 2 w g 0 l.toArray:=by
 intro t ht
 rw[size_flatK] at ht
 simp only[List.size_toArray] at ht
 have h1:=World.ownsRow.cellAt own t (by omega)
 refine⟨?_,?_⟩
 ·rw[Nat.zero_add,h1,get_flatK _ _ _ _ (by simpa using ht)]
  obtain⟨x,hx⟩:∃x,l[t / 2]?=some x:=⟨l[t / 2]'(by omega),by simp[show t / 2<l.length by omega]⟩
  have hx2:l.toArray[t / 2]! =x:=by
   rw[List.getElem!_toArray,List.getElem!_eq_getElem?_getD,hx];rfl
  have hg:=S.cellsOf_get hx
  rw[hx2]
  rcases Nat.mod_two_eq_zero_or_one t with h0 | h0
  ·rw[h0,show t=t / 2*2 by omega,hg.1];rfl
  ·rw[h0,show t=t / 2*2+1 by omega,hg.2];rfl
 ·rw[Nat.zero_add];exact World.ownsRow.frozenAt own t
theorem rd_of_holds {w:World}{g cap:Nat}{d:Array S.Sp}(h:HoldsK S.enc2 2 w g 0 d):S.Rd w (.slice (some ⟨g,0,none⟩) d.toList.length cap) d.toList:=by
 refine⟨_,cap,rfl,fun h=>by simp at h,fun _=>⟨g,0,rfl,fun j x hj=> ?_⟩⟩
 have hlt:j<d.size:=by have:=(List.getElem?_eq_some_iff.1 hj).1;simpa using this
 have hx:d[j]! =x:=by
  rw[getElem!_pos d j hlt]
  rw[Array.getElem?_toList,Array.getElem?_eq_getElem hlt] at hj
  exact Option.some.inj hj
 have c1:=(h.cell (i:=j) (c:=0) hlt (by omega)).1
 have c2:=(h.cell (i:=j) (c:=1) hlt (by omega)).1
 rw[hx] at c1 c2
 exact⟨c1,c2⟩
theorem sort_grown (w:World)(g n:Nat)(d:Array S.Sp)(os:Array Obj):w.grownBy (sortWorldK S.enc2 2 w g 0 n d os) (some g):=by
 refine⟨rfl,rfl,rfl,?_,fun k hk hne=> ?_⟩
 ·simp[sortWorldK,putRowK,Sort.ahead,grow,putRow,mapBlock]
 ·have hg:g≠k:=fun e=>hne (by rw[e])
  show ((mapBlock (Sort.ahead w n) g _).heap++os)[k]?=w.heap[k]?
  rw[Array.getElem?_append_left (by simp[mapBlock,Sort.ahead];exact hk)]
  simp[mapBlock,Sort.ahead,Array.getElem?_modify,hg]
set_option maxHeartbeats 400000 in
theorem sortf_any (w:World)(B:Nat)(v:Value)(l:List S.Sp)(own:w.ownsRow B 125 2 v l.length (S.cellsOf l))(hl:l.length<=17592186044160) :
  Calls Tryz.prog 91 #[v,.func (.func 92) #[] #[]] w fun e w'=>e= .returned (.tuple #[])/\∃l':List S.Sp,l'.Perm l/\l'.Pairwise (fun x y=>x.1<=y.1)/\S.Rd w' v l'/\w.grownBy w' v.ownBlock:=by
 rcases own.2 with ⟨rfl,h0⟩|⟨g,cap,cur,rfl,hg⟩
 ·have:l= []:=by simpa using h0
  subst this
  have h:=AnyF.slices_SortFunc_none Tryz.sortSp none 0 (.func (.func 92) #[] #[]) w
  change Calls Tryz.prog 91 _ _ _ at h
  refine h.mono ?_
  rintro e w' ⟨rfl,rfl⟩
  exact⟨rfl,[],List.Perm.refl _,List.Pairwise.nil,S.Rd.nil _,S.grown_refl _ _⟩
 ·have hgl:g<w.heap.size:=lt_of_block hg.2.1
  have eg:∀args w,(callFunc 92 args).run Tryz.prog w= .ok (.enter 92 args) w:=enters_of Tryz.func92 (by kernel_rfl) rfl
  have hH:=holds_of_owns own
  have h:=AnyQ.slices_SortFunc Tryz.sortSp 2 Tryz.isAgg125 Tryz.sizeOf125 S.enc2 (fun _=>rfl) (fun x v hv=>by simp[S.enc2] at hv;rcases hv with rfl | rfl <;> rfl) cmpf swo_cmpf 92 #[] g 0 cap l.toArray w eg
   (fun _ _ _ _ x y=>of1_any _ x.1 x.2 y.1 y.2) hH hgl (by simp;omega)
  change Calls Tryz.prog 91 _ _ _ at h
  rw[List.size_toArray] at h
  refine h.mono ?_
  rintro e w' ⟨rfl,d',n,os,hp,hs,rfl⟩
  have hsz:d'.size=l.length:=by have:=hp.1;simpa using this
  have hH2:HoldsK S.enc2 2 (sortWorldK S.enc2 2 w g 0 n d' os) g 0 d' :=
   holdsK_grow S.enc2 2 _ os g 0 d' (by rw[size_putRowK];exact hgl) (holdsK_putRowK S.enc2 2 _ g 0 l.toArray d' hH (by simpa using hsz))
  refine⟨rfl,d'.toList,?_,?_,?_,sort_grown w g n d' os⟩
  ·have:=hp.2.2
   have h2:(List.take l.length d'.toList).Perm l:=by simpa using this
   rwa [List.take_of_length_le (by simp[hsz])] at h2
  ·rw[List.pairwise_iff_getElem]
   intro i j hi hj hij
   have:=hs i j (Nat.zero_le _) hij (by simpa [hsz] using hj)
   rw[ltOf_cmpf] at this
   simp only[Array.length_toList] at hi hj
   rw[getElem!_pos d' j hj,getElem!_pos d' i hi] at this
   simp at this
   simpa using this
  ·have:=rd_of_holds (cap:=cap) hH2
   rw[Array.length_toList,hsz] at this
   exact this
theorem memb_perm {l m:List S.Sp}(h:l.Perm m)(r:Int):S.memb l r=S.memb m r:=by
 apply S.bool_eq
 rw[S.memb_iff,S.memb_iff]
 exact⟨fun ⟨x,hx,h1⟩=>⟨x,h.mem_iff.1 hx,h1⟩,fun ⟨x,hx,h1⟩=>⟨x,h.mem_iff.2 hx,h1⟩⟩
structure Joined (l':List S.Sp) (k:Nat) (s:List S.Sp):Prop where
 nf:S.Nf 0 s
 mem:∀q,S.memb s q=S.memb (l'.take k) q
 last:∀p,s.getLast?=some p->∃x∈l'.take k,p.1=x.1
 len:s.length<=k
theorem Joined.step {l':List S.Sp}{k:Nat}{s:List S.Sp}{x:S.Sp}(h:Joined l' k s)(hs:l'.Pairwise (fun x y=>x.1<=y.1))(hx:l'[k]?=some x)(hb:S.bad x=false):Joined l' (k+1) (S.joinF s x):=by
 have hok:=S.bad_false.1 hb
 have hlt:=(List.getElem?_eq_some_iff.1 hx).1
 have hj:=S.joinF_nf (x:=x) h.nf hok.1 hok.2.1 hok.2.2 fun p hp=>by
  obtain⟨y,hy,he⟩:=h.last p hp
  rw[he]
  obtain⟨i,hi⟩:=List.getElem?_of_mem hy
  rw[List.getElem?_take] at hi
  split at hi
  ·rename_i hik
   have hil:=(List.getElem?_eq_some_iff.1 hi).1
   have:=(List.pairwise_iff_getElem.1 hs) i k hil hlt hik
   rw[List.getElem?_eq_getElem hil] at hi
   rw[List.getElem?_eq_getElem hlt] at hx
   cases hi;cases hx
   exact this
  ·cases hi
 refine⟨hj.1,fun q=> ?_,fun p hp=> ?_,?_⟩
 ·rw[hj.2,h.mem,memb_takeO hx]
 ·obtain⟨q,hq,hor⟩:=S.joinF_last (s:=s) (x:=x)
  rw[hp] at hq
  cases hq
  rw[List.take_add_one,hx]
  rcases hor with h1 | ⟨p',hp',h1⟩
  ·exact⟨x,by simp,h1⟩
  ·obtain⟨y,hy,he⟩:=h.last p' hp'
   exact⟨y,by simp[hy],h1.trans he⟩
 ·have:=S.joinF_length s x
  have:=h.len
  omega
set_option maxHeartbeats 1000000 in
theorem of_any (w:World)(v:Value)(l:List S.Sp)(R:S.Rd w v l)(hl:l.length<=17592186044160) :
  Calls Tryz.prog 52 #[v] w (Tells w (if l.any S.bad=true then 3 else 0) 0 (S.memb l)):=by
 have hcf:=containsf_any w v l R hl
 obtain⟨aa,ca,rfl⟩:=R.len
 cases hbad:l.any S.bad with
 | true =>
  rw[hbad] at hcf
  rw[if_pos rfl]
  clear hbad
  go_enter Tryz.func52,Tryz.ntmps52
  go_wp2_with fail
  refine hcf.mono ?_
  clear hcf R
  rintro e w1 ⟨rfl,hb1⟩
  go_wp2
  go_ret2
  exact⟨_,by unfold S.resE;simp;rfl,by unfold S.resL;simp;exact S.Rd.nil _,hb1,fun h=>absurd h (by decide)⟩
 | false =>
  rw[hbad] at hcf
  have HBAD:Hid (l.any S.bad=false):=hbad
  clear hbad
  have HR:Hid (S.Rd w (.slice aa l.length ca) l):=R
  clear R
  simp only[Bool.false_eq_true,if_false]
  go_enter Tryz.func52,Tryz.ntmps52
  go_wp2_with fail
  refine hcf.mono ?_
  clear hcf
  rintro e w1 ⟨rfl,hb1⟩
  have hcl:=clone_any w1 _ l (HR.out.below hb1 (Nat.le_refl _)) hl
  have BW1:Hid (Below w.heap.size w w1):=hb1
  have hsz1:=hb1.size
  clear hb1
  go_wp2_with fail
  refine hcl.mono ?_
  clear hcl
  rintro e w2 ⟨v2,rfl,own2,hb2⟩
  have hso:=sortf_any w2 _ v2 l own2 hl
  have hv2:∃ao cap,v2= .slice ao l.length cap:=by
   rcases own2.2 with ⟨h,h0⟩|⟨g,cap,cur,h,_⟩
   ·exact⟨none,0,by rw[h,h0]⟩
   ·exact⟨_,_,h⟩
  have BW2:Hid (Below w.heap.size w w2):=BW1.out.trans (hb2.mono hsz1)
  have hsz2:=hb2.size
  have HO2:Hid (∀k,v2.ownBlock=some k->w1.heap.size<=k/\k<w2.heap.size):=fun k hk=>own2.lt k hk
  clear hb2 own2
  obtain⟨ao,cap,rfl⟩:=hv2
  go_wp2_with fail
  refine hso.mono ?_
  clear hso
  rintro e w3 ⟨rfl,l',hperm,hsort,R3,G3⟩
  have BW3:Hid (Below w.heap.size w w3):=Below.grown BW2.out G3 (by omega) (fun k hk=>by have:=HO2.out k hk;omega)
  have hl':l'.length=l.length:=hperm.length_eq
  have HP:Hid (l'.Perm l):=hperm
  have HS:Hid (l'.Pairwise (fun x y=>x.1<=y.1)):=hsort
  have HR3:Hid (S.Rd w3 (.slice ao l.length cap) l'):=R3
  have hsz3:=G3.size
  clear G3 R3 hsort hperm
  obtain⟨ao',cap',he,_,hc⟩:=HR3.out
  simp only[Value.slice.injEq] at he
  obtain⟨rfl,_,rfl⟩:=he
  have HL:Hid (l'.length=l.length):=hl'
  clear hl'
  go_wp2
  go_loopw [5,16] (fun vo i wr=>∃(k:Nat) (s:List S.Sp),k<=l.length/\i= .int .i64 k/\Hid (wr.ownsRow w3.heap.size 125 2 vo s.length (S.cellsOf s))/\Hid (Joined l' k s)/\Hid (Below w3.heap.size w3 wr)) (fun _ i _=>l.length - (intOf i).toNat)
  case atStart=>exact⟨0,[],Nat.zero_le _,rfl,World.ownsRow_nil _ _ _ _,⟨trivial,fun q=>by simp,fun p hp=>by simp at hp,by simp⟩,Below.refl _ _⟩
  case round =>
   obtain⟨k,s,hk,rfl,HO,HJ,HB⟩:=hrel
   have hsr:=HB.out.size
   by_cases hlt:k<l.length
   ·have hlt':k<l'.length:=by rw[HL.out];exact hlt
    obtain⟨b,off,rfl,hcell⟩:=hc (by intro h;subst h;simp at hlt')
    obtain⟨x,hx⟩:∃x,l'[k]?=some x:=⟨l'[k],by simp[hlt']⟩
    clear hlt'
    have c0:=hcell k x hx
    have hb:=L.block_lt c0.1
    have c1:=c0.1
    have c2:=c0.2
    rw[<- HB.out.cell (p:=⟨b,_,none⟩) hb] at c1 c2
    have hbx:S.bad x=false:=by
     cases h:S.bad x with
     | false=>rfl
     | true =>
      have:l.any S.bad=true:=List.any_eq_true.2 ⟨x,HP.out.mem_iff.1 (List.mem_of_getElem? hx),h⟩
      rw[HBAD.out] at this;cases this
    have hok:=S.bad_false.1 hbx
    have HJ2:Hid (Joined l' (k+1) (S.joinF s x)):=HJ.out.step HS.out hx hbx
    obtain⟨x1,x2⟩:=x
    have HOa:Hid (∀o,(wr.alloc o).ownsRow w3.heap.size 125 2 _ s.length (S.cellsOf s)):=fun o=>HO.out.alloc o
    have hjo:=join_any (wr.alloc (.cells #[.int .i32 x1,.int .i32 x2] 125)) w3.heap.size _ s (x1,x2) (HOa.out _) (by simp;omega) (fun p hp=>by have:=HJ.out.nf.mem hp;omega) (by have:=HJ.out.len;omega) (by simp only at hok ⊢;omega)
    have HB2:Hid (∀o,Below w3.heap.size w3 (wr.alloc o)):=fun o=>HB.out.alloc hsr o
    simp only at c1 c2
    clear c0 hx hcell hbx hc HJ
    go_wp2_with fail
    refine hjo.mono ?_
    clear hjo
    rintro e w4 ⟨v4,rfl,own4,G4⟩
    have HO4:Hid _:=own4
    have HB4:Hid (Below w3.heap.size w3 w4):=Below.grown (HB2.out _) G4 (by simp;omega) (fun j hj=>((HOa.out (.cells #[.int .i32 x1,.int .i32 x2] 125)).lt j hj).1)
    clear own4 G4
    go_wp2
    go_roundw
    case rel=>exact⟨k+1,_,by omega,by go_num,HO4,HJ2,HB4⟩
    case measure=>simp[intOf];omega
   ·have hkl:k=l'.length:=by rw[HL.out];omega
    have hfew:=few_any wr _ s (S.Rd.of_owns HO.out) (by have:=HJ.out.len;omega)
    have HIS:Hid (S.Is (S.memb l) s):=⟨HJ.out.nf,fun q=>by rw[HJ.out.mem,hkl,List.take_length,memb_perm HP.out]⟩
    clear hkl
    generalize hfe:S.fewE s=fe at hfew ⊢
    have HFE:Hid (S.fewE s=fe):=hfe
    clear hfe
    go_wp2_with fail
    refine hfew.mono ?_
    clear hfew
    rintro e w9 ⟨v9,rfl,R9,rfl⟩
    have HR9:Hid (S.Rd w9 v9 (S.fewL s)):=R9
    clear R9
    go_wp2
    go_ret2
    refine⟨v9,?_,?_,BW3.out.trans (HB.out.mono (by omega)),fun _ _=>⟨s,HIS.out⟩⟩
    ·unfold S.resE
     rw[S.nf_eq HIS.out,<- HFE.out]
     simp
    ·unfold S.resL
     rw[S.nf_eq HIS.out]
     simpa using HR9.out
end Go.Proofs.YtmcljejgbikbhaaGreatDoor
namespace Go.Proofs.YtmcljejgbikbhaaGreatDoor
open Go.RowKit Go.Shelf
set_option maxRecDepth 20000
set_option linter.unusedSimpArgs false
set_option linter.unusedVariables false
theorem S.wpList_append_sp {w:World}{ops:Array Oper}{rest:List Oper}{o:Oper}{a:Act}{Q:Exit->Act->World->Prop}(hgd:o.guard=none)(s x:Operand)
  (ho:o.op= .call { callee:= .builtin .append,args:=#[s,x],argTypes:=#[23,23] })
  (base:Nat) (v:Value) (ys:List S.Sp) (hs:a.eval s=v) (hown:w.ownsRow base 125 2 v ys.length (S.cellsOf ys))
  (vx:Value) (zs:List S.Sp) (hx:a.eval x=vx) (hrd:S.Rd w vx zs) (hl:ys.length+zs.length<=1000000) (hbase:base<=w.heap.size)
  (h:∀v' w',w'.ownsRow base 125 2 v' (ys++zs).length (S.cellsOf (ys++zs))->w.grownBy w' v.ownBlock->wpList Tryz.prog ops Q rest (a.put o.dst v') w'):wpList Tryz.prog ops Q (o::rest) a w:=by
 obtain⟨i0,hi,hz0,hz1,hz2⟩:=info_parts Tryz.infoSp
 obtain⟨ao,cap,rfl,hn,hc⟩:=hrd
 cases ao with
 | none =>
  have h0:zs= []:=by
   cases zs with
   | nil=>rfl
   | cons z zs=>obtain⟨b,off,h,_⟩:=hc (by simp);simp at h
  subst h0
  have:=hn rfl
  subst this
  refine wpList_append_own_none hgd s x 23 ho base 125 i0 2 Tryz.underlying23 hi v ys.length (S.cellsOf ys) hs hown hx ?_
  refine h v w ?_ ⟨rfl,rfl,rfl,Nat.le_refl _,fun _ _ _=>rfl⟩
  rw[List.append_nil];exact hown
 | some ad =>
  refine wpList_append_own w hgd s x 23 ho base 125 i0 (.agg #[.int .i32 0,.int .i32 0]) 2 8 Tryz.underlying23 hi hz0 hz1 hz2 rfl (by decide) v ys.length (S.cellsOf ys) hs hown ad zs.length cap (S.cellsOf zs) hx (S.cellsOf_length zs) ?_ (fun u hu=>S.cellsOf_one hu) (by unfold maxLen;omega) (by omega) hbase (fun v' w' h1 h2 _=>h v' w' (by rw[List.length_append,S.cellsOf_append];exact h1) h2)
  intro j u hj
  obtain⟨q,y,hq,hor⟩:=S.cellsOf_inv hj
  obtain⟨b,off,hao,hcell⟩:=hc (by intro h;subst h;simp at hq)
  simp at hao
  subst hao
  have:=hcell q y hq
  rw[L.addr_add]
  rcases hor with ⟨rfl,rfl⟩|⟨rfl,rfl⟩
  ·exact this.1
  ·rw[<- Nat.add_assoc];exact this.2
namespace K
noncomputable def firstsF (l:List Rule):List S.Sp×Int×Int:=if (rulesF l).1=0 then (S.resL 0 0 (S.memb (firstsL l)),S.resE 0 0 (S.memb (firstsL l)),0) else ([],rulesF l)
theorem firstsF_zero {l:List Rule}(h:(firstsF l).2.1=0):(rulesF l).1=0/\(firstsF l).2.2=0/\S.resE 0 0 (S.memb (firstsL l))=0/\(firstsF l).1=S.resL 0 0 (S.memb (firstsL l)):=by
 unfold firstsF at h ⊢
 by_cases h0:(rulesF l).1=0
 ·rw[if_pos h0] at h ⊢;exact⟨h0,rfl,h,rfl⟩
 ·rw[if_neg h0] at h;exact absurd h h0
theorem res_set {P:Int->Bool}(hex:∃s,S.Is P s)(h:S.resE 0 0 P=0):S.Is P (S.resL 0 0 P)/\(S.resL 0 0 P).length<=200:=by
 have hi:=S.nf_is hex
 unfold S.resE S.fewE at h
 unfold S.resL S.fewL
 simp only[ne_eq,not_true_eq_false,if_false] at h ⊢
 by_cases hl:200<(S.nf P).length
 ·rw[if_pos hl] at h;exact absurd h (by decide)
 ·rw[if_neg hl];exact⟨hi,by omega⟩
theorem firstsL_take {l:List Rule}{k:Nat}{r:Rule}(h:l[k]?=some r):firstsL (l.take (k+1))=firstsL (l.take k)++headS r:=by
 unfold firstsL;rw[List.take_add_one,h,List.flatMap_append];simp
theorem firstsL_bad {l:List Rule}(hE:∀r∈l,ruleE r=0):(firstsL l).any S.bad=false:=by
 rw[List.any_eq_false]
 intro x hx
 obtain⟨r,hr,hx⟩:=List.mem_flatMap.1 hx
 have:=S.bad_false.2 ((head_ok (hE r hr)).1.mem hx)
 simp[this]
theorem firstsL_len {l:List Rule}(hE:∀r∈l,ruleE r=0):(firstsL l).length<=200*l.length:=by
 induction l with
 | nil=>simp[firstsL]
 | cons x l ih =>
  have h1:=(head_ok (hE x (List.mem_cons_self ..))).2
  have h2:=ih fun r hr=>hE r (List.mem_cons_of_mem _ hr)
  unfold firstsL at h2 ⊢
  rw[List.flatMap_cons,List.length_append,List.length_cons]
  omega
end K
set_option maxHeartbeats 4000000 in
theorem yFirsts_any (w:World)(v:Value)(l:List K.Rule)(R0:V.Rus w v l) :
  Calls Tryz.prog 22 #[v] w fun e w'=>∃v',e= .returned (.tuple #[v',.agg #[.int .i64 (K.firstsF l).2.1,.int .i64 (K.firstsF l).2.2]])/\S.Rd w' v' (K.firstsF l).1/\Below w.heap.size w w'/\((K.rulesF l).1=0->∃s,S.Is (S.memb (K.firstsL l)) s):=by
 have HA:Hid (∀o,Below w.heap.size w (w.alloc o)):=fun o=>(Below.refl _ w).alloc (Nat.le_refl _) o
 have HC:Hid (∀o,Calls Tryz.prog 48 #[v] (w.alloc o) fun e w'=>e= .returned (.agg #[.int .i64 (K.rulesF l).1,.int .i64 (K.rulesF l).2])/\Below (w.alloc o).heap.size (w.alloc o) w'):=fun o=>qWrong_any _ _ l (R0.below (HA.out o))
 have HE:Hid ((K.rulesF l).1=0->l.length<=200/\∀r∈l,K.ruleE r=0):=fun h=>⟨(K.rulesF_zero h).1,(K.rulesF_zero h).2.1⟩
 have HR:Hid (V.Rus w v l):=R0
 obtain⟨ao,cap,rfl⟩:=R0.len
 obtain⟨⟨o0,o1,o2⟩,HO⟩:∃o,Hid (K.firstsF l=o):=⟨_,rfl⟩
 rw[HO.out]
 unfold K.firstsF at HO
 obtain⟨⟨e1,e2⟩,he⟩:∃o,K.rulesF l=o:=⟨_,rfl⟩
 rw[he] at HC HE HO ⊢
 simp only at HC HE HO ⊢
 clear he R0
 go_enter Tryz.func22,Tryz.ntmps22
 go_wp2_with fail
 refine(HC.out _).mono ?_
 rintro e w1 ⟨rfl,b1⟩
 obtain⟨h1,B1,s1⟩:=K.one_box b1
 have HB1:Hid (Below w.heap.size w w1):=B1
 have HX1:Hid (w1.heap[w.heap.size]?=some (.cells #[.int .i64 0,.int .i64 0] 33)):=h1
 obtain⟨x0,x1,f0,f1⟩:=K.box2 h1
 have k0:∀o,(w1.alloc o).cell? ⟨w.heap.size,0,none⟩=some (.int .i64 0):=fun o=>K.alloc_cell x0 o
 have k1:∀o,(w1.alloc o).cell? ⟨w.heap.size,1,none⟩=some (.int .i64 0):=fun o=>K.alloc_cell x1 o
 have g0:∀o,(w1.alloc o).frozen? ⟨w.heap.size,0,none⟩=false:=fun o=>K.alloc_free h1 o 0
 have g1:∀o,(w1.alloc o).frozen? ⟨w.heap.size,1,none⟩=false:=fun o=>K.alloc_free h1 o 1
 have HB2:Hid (∀o,Below w.heap.size w (w1.alloc o)):=fun o=>HB1.out.alloc (by omega) o
 clear b1 B1 HC x0 x1 f0 f1 h1
 by_cases q:e1=0
 ·subst q
  have ho:=HO.out
  rw[if_pos rfl] at ho
  obtain⟨hl,hE⟩:=HE.out rfl
  have HE2:Hid (∀r∈l,K.ruleE r=0):=hE
  have HBad:Hid ((K.firstsL l).any S.bad=false):=K.firstsL_bad hE
  have HO2:Hid ((S.resL 0 0 (S.memb (K.firstsL l)),S.resE 0 0 (S.memb (K.firstsL l)),(0:Int))=(o0,o1,o2)):=ho
  clear hE HE HO ho
  obtain⟨X,hX⟩:∃X,X=w1.alloc (.cells #[.int .i64 0,.int .i64 e2] 33):=⟨_,rfl⟩
  have HXX:Hid (X=w1.alloc (.cells #[.int .i64 0,.int .i64 e2] 33)):=hX
  have HBX:Hid (Below w.heap.size w X):=by show Below _ _ _;rw[hX];exact HB2.out _
  have hXs:w.heap.size<X.heap.size:=by rw[hX];simp;omega
  have HXb:Hid (X.heap[w.heap.size]?=some (.cells #[.int .i64 0,.int .i64 0] 33)):=by
   show X.heap[w.heap.size]?=_
   rw[hX,Below.heap_alloc w1 _ w.heap.size (by omega)];exact HX1.out
  clear hX k0 k1 g0 g1
  go_wp2
  go_loopw [5,18] (fun vo i wr=>∃k:Nat,k<=l.length/\i= .int .i64 k/\Hid (wr.ownsRow X.heap.size 125 2 vo (K.firstsL (l.take k)).length (S.cellsOf (K.firstsL (l.take k))))/\Hid (Below X.heap.size X wr)) (fun _ i _=>l.length - (intOf i).toNat)
  case atStart=>exact⟨0,Nat.zero_le _,rfl,World.ownsRow_nil _ _ _ _,by show Below _ _ _;rw[<- HXX.out];exact Below.refl _ _⟩
  case round =>
   obtain⟨k,hk,rfl,HOw,HB⟩:=hrel
   have hwr:=HB.out.size
   by_cases hlt:k<l.length
   ·obtain⟨p,hp⟩:∃x,l[k]?=some x:=⟨l[k],by simp[hlt]⟩
    have HBw:Hid (Below w.heap.size w wr):=HBX.out.trans (HB.out.mono (by omega))
    obtain⟨ba,oa,bo,bc,so,sc,ao2,ac,tgo,tc,rfl,a0,a1,a2,a3,a4,a5,a6,hP⟩:=K.Rus.rule (HR.out.below HBw.out) hp
    have hep:=HE2.out p (List.mem_of_getElem? hp)
    have hsp:=(K.ruleE_zero hep).2.2.2.1
    obtain⟨s,hs⟩:∃s,p.source[0]?=some s:=⟨p.source[0],by simp⟩
    have hhd:=K.head_at hs
    have hok:=K.head_ok hep
    rw[hhd] at hok
    have hlen:=K.firstsL_len (l:=l.take k) fun r hr=>HE2.out r (List.mem_of_mem_take hr)
    rw[List.length_take] at hlen
    have HF:Hid (K.firstsL (l.take (k+1))=K.firstsL (l.take k)++s):=by show _=_;rw[K.firstsL_take hp,hhd]
    obtain⟨bo',bc',so',sc',ao',ac',tgo',tc',hv,_,hS,_⟩:=hP
    have hv2:=Value.agg.inj hv
    simp only[Array.mk.injEq,List.cons.injEq,Value.slice.injEq,true_and,and_true] at hv2
    obtain⟨_,⟨rfl,rfl⟩,_⟩:=hv2
    obtain⟨gb,go,s2,c2,rfl,hc0,hr0,_⟩:=hS.at hs
    rw[Nat.add_zero] at hc0
    have hgb:=L.block_lt hc0
    have HRd:Hid (∀o,S.Rd (wr.alloc o) (.slice s2 s.length c2) s):=fun o=>hr0.below ((Below.refl _ wr).alloc (Nat.le_refl _) o) (Nat.le_refl _)
    have hcc:∀o,(wr.alloc o).cell? ⟨gb,go,none⟩=some (.slice s2 s.length c2):=fun o=>K.alloc_cell hc0 o
    have HOa:Hid (∀o,(wr.alloc o).ownsRow X.heap.size 125 2 u5 (K.firstsL (l.take k)).length (S.cellsOf (K.firstsL (l.take k)))):=fun o=>HOw.out.alloc o
    have HBal:Hid (∀o,Below X.heap.size X (wr.alloc o)):=fun o=>HB.out.alloc hwr o
    have hl2:(K.firstsL (l.take k)).length+s.length<=1000000:=by have:=hok.2;omega
    clear hp hep hs hhd hok hv hS hr0 hc0 hlen
    obtain⟨st,fi,be,sou,af,ta,cu⟩:=p
    simp only at a0 a1 a2 a3 a4 a5 a6 hsp
    go_wp2_with (at_builtin;go_must (refine S.wpList_append_sp rfl _ _ rfl X.heap.size _ _ rfl (HOa.out _) _ s rfl (HRd.out _) hl2 (by simp;omega) ?_;intro v' w4 hown' hgrow4;have HX4:Hid (w4.ownsRow X.heap.size 125 2 v' (K.firstsL (l.take k)++s).length (S.cellsOf (K.firstsL (l.take k)++s))/\Below X.heap.size X w4):=⟨hown',Below.grown (HBal.out _) hgrow4 (by simp;omega) (fun j hj=>(HOw.out.lt _ hj).1)⟩;clear hown' hgrow4))
    go_roundw
    case rel=>exact⟨k+1,by omega,by go_num,by rw[HF.out];exact HX4.out.1,HX4.out.2⟩
    case measure=>simp[intOf];omega
   ·have hkl:k=l.length:=by omega
    subst hkl
    rw[List.take_length] at HOw
    have hlen:=K.firstsL_len HE2.out
    have hof:=of_any wr _ (K.firstsL l) (S.Rd.of_owns HOw.out) (by omega)
    rw[HBad.out,if_neg (by decide)] at hof
    have hcut:∃ao n c,u5= .slice ao n c:=by
     obtain⟨a,c,h,_⟩:=S.Rd.of_owns HOw.out
     exact⟨a,_,c,h⟩
    obtain⟨ua,un,uc,rfl⟩:=hcut
    have HP:Hid (∀q,S.memb (K.firstsL l) q=S.memb (K.firstsL l) q):=fun _=>rfl
    go_wp2_with fail
    refine hof.mono ?_
    rintro e w5 ⟨v5,rfl,R5,b5,hex⟩
    have ho:=HO2.out
    simp only[Prod.mk.injEq] at ho
    obtain⟨q0,q1,q2⟩:=ho
    subst q2
    rw[q0] at R5
    rw[q1]
    obtain⟨va,vn,vc,rfl⟩:∃a n c,v5= .slice a n c:=by obtain⟨a,c,h,_⟩:=R5;exact⟨a,_,c,h⟩
    have HB5:Hid (Below X.heap.size X w5):=HB.out.trans (b5.mono hwr)
    have hx5:=K.blk_below HXb.out HB5.out
    obtain⟨x0,x1,f0,f1⟩:=K.box2 hx5
    have HR5:Hid (∀u u',S.Rd ((w5.setCell ⟨w.heap.size,0,none⟩ u).setCell ⟨w.heap.size,1,none⟩ u') (.slice va vn vc) o0):=fun u u'=>by
     by_cases hz:o0= []
     ·subst hz
      obtain⟨a,c,h,hn,_⟩:=R5
      exact⟨a,c,h,hn,fun h=>absurd rfl h⟩
     ·refine R5.cells fun b o uu hu hv=> ?_
      obtain⟨ao9,n9,c9,hv9,a9,ha9,hb9⟩:=hv
      have hne:b≠w.heap.size:=fun e=>by
       obtain⟨aa,cc,hh,_,hcell⟩:=R5
       obtain⟨b',off',hbb,hcl⟩:=hcell hz
       cases hh
       cases hv9
       rw[hbb] at ha9
       cases ha9
       simp only at hb9
       obtain⟨y,hy⟩:∃y,o0[0]?=some y:=⟨o0[0]'(List.length_pos_iff.2 hz),by simp⟩
       have h1:=(hcl 0 y hy).1
       rw[hb9,e,World.cell?] at h1
       simp only[show w5.heap[w.heap.size]?=_ from hx5] at h1
       simp at h1
       have hlt:=(List.getElem?_eq_some_iff.1 h1).1
       match off',h1 with
       | 0,h1=>simp at h1
       | 1,h1=>simp at h1
       | n+2,_=>simp at hlt;omega
      have e1:((w5.setCell ⟨w.heap.size,0,none⟩ u).setCell ⟨w.heap.size,1,none⟩ u').heap[b]?=w5.heap[b]?:=by
       rw[heap_setCell_other _ ⟨w.heap.size,1,none⟩ b _ hne,heap_setCell_other _ ⟨w.heap.size,0,none⟩ b _ hne]
      rw[World.cell?_of_block (a:=⟨b,o,none⟩) e1];exact hu
    have HEx:Hid (∃s,S.Is (S.memb (K.firstsL l)) s):=hex rfl rfl
    clear hof hex R5 b5 hx5 HP
    go_wp2
    refine bodyPost_ret (v:= .tuple #[.slice va vn vc,.agg #[.int .i64 o1,.int .i64 0]]) (by simp[results,Tryz.results22,go_sem, *]) rfl ?_
    exact⟨_,rfl,HR5.out _ _,((HBX.out.trans (HB5.out.mono (by omega))).setCell (p:=⟨w.heap.size,0,none⟩) (Nat.le_refl _) _).setCell (p:=⟨w.heap.size,1,none⟩) (Nat.le_refl _) _,HEx.out⟩
 ·have ho:=HO.out
  rw[if_neg q] at ho
  cases ho
  go_wp2
  go_region
  go_wp2
  refine bodyPost_ret (v:= .tuple #[.slice none 0 0,.agg #[.int .i64 o1,.int .i64 o2]]) (by simp[results,Tryz.results22,go_sem, *]) rfl ?_
  exact⟨_,rfl,S.Rd.nil _,(((HB2.out _).setCell (p:=⟨w.heap.size,0,none⟩) (Nat.le_refl _) _).setCell (p:=⟨w.heap.size,1,none⟩) (Nat.le_refl _) _).drew,fun h=>absurd h q⟩
end Go.Proofs.YtmcljejgbikbhaaGreatDoor
