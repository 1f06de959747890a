import Derived.Test.YtcadaallpiekiaaGreatDoorSEdgeB
import Derived.Test.YtcadaallpiekiaaGreatDoorQRef
import Derived.Test.YtcadaallpiekiaaGreatDoorCnLetR
set_option maxHeartbeats 0
set_option maxRecDepth 20000
set_option linter.unusedSimpArgs false
set_option linter.unusedVariables false
namespace Go.Proofs.YtcadaallpiekiaaGreatDoor
open Go.Proofs.Tryz
section
open Go.RowKit
attribute [local go_sem ↓] Go.wp_at_zero Go.wp_at_succ
theorem zr3 (W:World)(B bo g cap:Nat)(zs:List Int)(r:Int)(X:S.Bx W bo 42 (.slice (some ⟨g,0,none⟩) zs.length cap))(own:W.ownsRow B 21 1 (.slice (some ⟨g,0,none⟩) zs.length cap) zs.length (zs.map (Value.int .i32)))(hbo:bo<W.heap.size)(hB:B<=W.heap.size)
  (hl:zs.length<=1099511627776) (hyp:¬(1114111<r∨zs[S.lowF zs r]?=some r)/\S.lowF zs r=zs.length/\cap≠zs.length) :
  Calls prog 117 #[.int .i32 r,.pointer (some ⟨bo,0,none⟩)] W fun e w'=>e=.returned (.tuple #[])/\∃g' cap',S.Bx w' bo 42 (.slice (some ⟨g',0,none⟩) (S.insF zs r).length cap')/\w'.ownsRow B 21 1 (.slice (some ⟨g',0,none⟩) (S.insF zs r).length cap') (S.insF zs r).length ((S.insF zs r).map (Value.int .i32))/\W.grownBy w' (some bo):=by
 obtain⟨i0,hi,hz0,hz1,hz2⟩:=info_parts Tryz.infoI32;have cb:=X.cell;have fb:=X.free;have HX:Hid _:=X;have HO:=qH own
 have hcap:zs.length<=cap:=by
  rcases own.2 with ⟨h,_⟩|⟨g',cap',cur,h,_,_,h1,_⟩
  ·cases h
  ·cases h;exact h1
 have HC:Hid (∀j z,zs[j]?=some z->W.cell? ⟨g,j,none⟩=some (.int .i32 z)):=fun j z hj=>by
  have:=own.cells (g:=g) rfl j (.int .i32 z) (by simp[hj]);rw[L.addr_add] at this;simpa using this
 have hg:=own.lt g rfl;have HY:Hid _:=hyp;clear X own hyp
 go_enter func117,ntmps117
 go_wp2
 go_loopw [3] (fun kv wr=>∃k:Nat,k<=zs.length/\kv=.int .i64 k/\wr=W/\Hid (∀i z,i<k->zs[i]?=some z->z<r)) (fun kv _=>zs.length-(intOf kv).toNat)
 case atStart=>exact⟨0,Nat.zero_le _,rfl,rfl,fun i z h=>absurd h (Nat.not_lt_zero _)⟩
 case round =>
  obtain⟨k,hk,rfl,rfl,HP⟩:=hrel
  by_cases hlt:k<zs.length
  ·obtain⟨z,hz⟩:∃z,zs[k]?=some z:=⟨zs[k],by simp[hlt]⟩;have cz:=HC.out k z hz;have HZ:=qH hz;clear hz
   by_cases hzr:z<r
   ·go_wp2
    go_roundw
    case rel =>
     refine⟨k+1,by omega,by go_num,trivial,fun i y hi hy=> ?_⟩
     by_cases e:i=k
     ·subst e;rw[HZ.out] at hy;cases hy;exact hzr
     ·exact HP.out i y (by omega) hy
    case measure=>simp[intOf];omega
   ·have hlow:=S.zc0 HP.out hk fun y hy=>by rw[HZ.out] at hy;cases hy;exact hzr
    have HLow:Hid _:=hlow;clear hlow;exfalso;have h:=HY.out.2.1;rw[HLow.out] at h;omega
  ·have hke:k=zs.length:=by omega
   have hlow:=S.zc0 HP.out hk fun y hy=>by rw[hke] at hy;simp at hy
   have HLow:Hid _:=hlow;have HCo:Hid (zs[k]?=none):=by show _=_;rw[hke];simp
   clear hlow;have hr:¬ 1114111<r:=fun h=>HY.out.1 (.inl h)
   have HKe:Hid (zs.length<=k):=by show _<=_;omega
   have HCond:Hid (¬(1114111<r∨zs[k]?=some r)):=fun h=>HY.out.1 (by rw[HLow.out];exact h)
   have hck:¬cap=k:=by have:=HY.out.2.2;omega
   clear hke;go_wp2;have HLen:Hid ((zs.take k).length=k/\(zs.drop k).length=zs.length-k):=⟨by rw[List.length_take];omega,List.length_drop⟩;have hk0:(0:Int)<=(k:Int):=by omega
   have hk1':(k:Int)<=(zs.length:Int):=by omega
   have hk2':(k:Int)<=(cap:Int):=by omega
   have hk3':(zs.length:Int)<=(cap:Int):=by omega
   have OM1:Hid (∀X:World,wr.heap.size<=X.heap.size->(X.alloc (.cells #[] 21)).ownsRow wr.heap.size 21 1 (.slice (some ⟨X.heap.size,0,none⟩) 0 0) 0 []):=fun X hX=>World.ownsRow_made X #[] 0 hX (Nat.zero_le _) (by simp)
   have OM2:Hid (((wr.alloc (.cells #[.int .i32 r] 21)).alloc (.cells #[] 21)).ownsRow wr.heap.size 21 1 (.slice (some ⟨wr.heap.size+1,0,none⟩) 0 0) 0 []):=by
    have h:=OM1.out (wr.alloc (.cells #[.int .i32 r] 21)) (by simp);rw[World.size_alloc] at h;exact h
   have hbl:bo<wr.heap.size:=by omega
   have KA1:Hid (∀o,((wr.alloc o).drew.cell? ⟨bo,0,none⟩=some (.slice (some ⟨g,0,none⟩) zs.length cap)/\(wr.alloc o).drew.frozen? ⟨bo,0,none⟩=false)/\Bl wr (wr.alloc o).drew):=fun o=>⟨⟨zay cb o,za4 fb hbl o⟩,below_drewN ((qR wr).alloc qN _) 1⟩
   have KA2:Hid (∀o o',(((wr.alloc o).alloc o').drew.cell? ⟨bo,0,none⟩=some (.slice (some ⟨g,0,none⟩) zs.length cap)/\((wr.alloc o).alloc o').drew.frozen? ⟨bo,0,none⟩=false)/\Bl wr ((wr.alloc o).alloc o').drew):=fun o o'=>⟨⟨zay (zay cb o) o',za4 (za4 fb hbl o) (by simp;omega) o'⟩,below_drewN (((qR wr).alloc qN _).alloc (by simp) _) 1⟩
   have HIns:Hid _:=zkl hk HLow.out HCond.out;have hne0:bo≠wr.heap.size:=by omega
   have hne00:bo≠wr.heap.size+1:=by omega
   go_region_law
    (first
     | (refine zar (W0:=wr) (b:=bo) (vb:=.slice (some ⟨g,0,none⟩) zs.length cap) (by rfl) (.tmp 34) (.tmp 37) _ (by rfl) 21 i0 _ 1 4 underlying42 hi hz0 hz1 hz2 rfl (by decide) _ 0 [] (by rfl) (by first|exact zbi (OM1.out wr qN) rfl|exact zbi ((OM1.out wr qN).alloc (.cells #[.int .i32 r] 21)) rfl|exact zbi OM2.out rfl)
         ⟨g,0,none⟩ k cap ((zs.take k).map (Value.int .i32)) (by rfl) (by rw[List.length_map,HLen.out.1,Nat.mul_one]) (zec HC.out (by first|exact(KA1.out _).2|exact(KA2.out _ _).2) k) (fun x hx=>by obtain⟨z,_,rfl⟩:=List.mem_map.1 hx;rfl)
         (by unfold maxLen;omega) (by omega) (by first|exact KA1.out _|exact KA2.out _ _) hbl ?_;intro v1 w1 hown1 hgrow1 kp1 bl1;have kc1:=kp1.1;have kf1:=kp1.2;have ka1:∀o,(w1.alloc o).cell? ⟨bo,0,none⟩=some (.slice (some ⟨g,0,none⟩) zs.length cap):=fun o=>zay kp1.1 o)
     | (refine zar (W0:=wr) (b:=bo) (vb:=.slice (some ⟨g,0,none⟩) zs.length cap) (by rfl) (.tmp 38) (.tmp 40) _ (by rfl) 21 i0 _ 1 4 underlying42 hi hz0 hz1 hz2 rfl (by decide) _ _ _ (by rfl) (hown1.alloc _)
         ⟨w1.heap.size,0,none⟩ 1 1 [.int .i32 r] (by rfl) (by rfl) (one_cell (zcu _ _ _)) (fun x hx=>by simp at hx;subst hx;rfl)
         (by unfold maxLen;omega) (by omega) ⟨⟨zay kp1.1 _,za4 kp1.2 (by have:=bl1.size;omega) _⟩,bl1.alloc bl1.size _⟩ hbl ?_;intro v2 w2 hown2 hgrow2 kp2 bl2;have kc2:=kp2.1;have kf2:=kp2.2)
     | (refine zar (W0:=wr) (b:=bo) (vb:=.slice (some ⟨g,0,none⟩) zs.length cap) (by rfl) (.tmp 38) (.tmp 40) _ (by rfl) 21 i0 _ 1 4 underlying42 hi hz0 hz1 hz2 rfl (by decide) _ _ _ (by rfl) hown1
         ⟨wr.heap.size+1,0,none⟩ 1 1 [.int .i32 r] (by rfl) (by rfl) (one_cell (by rw[hgrow1.cell_far _ (by simp <;> omega) (fun e=>by change some (wr.heap.size+1)=some wr.heap.size at e;simp at e)];simp)) (fun x hx=>by simp at hx;subst hx;rfl)
         (by unfold maxLen;omega) (by omega) ⟨kp1,bl1⟩ hbl ?_;intro v2 w2 hown2 hgrow2 kp2 bl2;have kc2:=kp2.1;have kf2:=kp2.2)
     | (refine zar (W0:=wr) (b:=bo) (vb:=.slice (some ⟨g,0,none⟩) zs.length cap) (by rfl) (.tmp 38) (.tmp 40) _ (by rfl) 21 i0 _ 1 4 underlying42 hi hz0 hz1 hz2 rfl (by decide) _ _ _ (by rfl) hown1
         ⟨wr.heap.size,0,none⟩ 1 1 [.int .i32 r] (by rfl) (by rfl) (one_cell (by rw[hgrow1.cell_far _ (by simp <;> omega) (fun e=>by change some wr.heap.size=some (wr.heap.size+1) at e;simp at e)];simp)) (fun x hx=>by simp at hx;subst hx;rfl)
         (by unfold maxLen;omega) (by omega) ⟨kp1,bl1⟩ hbl ?_;intro v2 w2 hown2 hgrow2 kp2 bl2;have kc2:=kp2.1;have kf2:=kp2.2)
     | (refine zck (W0:=wr) (b:=bo) (vb:=.slice (some ⟨g,0,none⟩) zs.length cap) (by rfl) (.tmp 41) (.tmp 44) _ (by rfl) 21 i0 _ 1 4 underlying42 hi hz0 hz1 hz2 rfl (by decide) _ _ _ (by rfl) hown2
         ⟨g,k,none⟩ (zs.length-k) (cap-k) ((zs.drop k).map (Value.int .i32)) (by rfl) (by rw[List.length_map,HLen.out.2,Nat.mul_one]) (zg4 HC.out bl2 k) (fun x hx=>by obtain⟨z,_,rfl⟩:=List.mem_map.1 hx;rfl)
         (by unfold maxLen;omega) (by omega) ⟨kp2,bl2⟩ hbl (S.insF zs r).length ((S.insF zs r).map (Value.int .i32)) HIns.out.1 HIns.out.2.1 HIns.out.2.2 ?_;intro g3 cap3 w3 hown3 kp3 bl3;have kc3:=kp3.1;have kf3:=kp3.2))
   all_goals go_wp2
   all_goals go_end0
   all_goals exact⟨rfl,zkm HX.out hbo hB hown3 bl3⟩
theorem zsy (W:World)(B bo g cap:Nat)(zs:List Int)(r:Int)(X:S.Bx W bo 42 (.slice (some ⟨g,0,none⟩) zs.length cap))(own:W.ownsRow B 21 1 (.slice (some ⟨g,0,none⟩) zs.length cap) zs.length (zs.map (Value.int .i32)))(hbo:bo<W.heap.size)(hB:B<=W.heap.size)
  (hl:zs.length<=1099511627776) :
  Calls prog 117 #[.int .i32 r,.pointer (some ⟨bo,0,none⟩)] W fun e w'=>e=.returned (.tuple #[])/\∃g' cap',S.Bx w' bo 42 (.slice (some ⟨g',0,none⟩) (S.insF zs r).length cap')/\w'.ownsRow B 21 1 (.slice (some ⟨g',0,none⟩) (S.insF zs r).length cap') (S.insF zs r).length ((S.insF zs r).map (Value.int .i32))/\W.grownBy w' (some bo):=by
 by_cases h:1114111<r∨zs[S.lowF zs r]?=some r
 ·exact zu9 W B bo g cap zs r X own hbo hB hl h
 ·by_cases h1:S.lowF zs r<zs.length
  ·exact zt3 W B bo g cap zs r X own hbo hB hl ⟨h,h1⟩
  ·have h2:S.lowF zs r=zs.length:=by have:=S.zp2 zs r;omega
   by_cases h3:cap=zs.length
   ·exact zr4 W B bo g cap zs r X own hbo hB hl ⟨h,h2,h3⟩
   ·exact zr3 W B bo g cap zs r X own hbo hB hl ⟨h,h2,h3⟩
end
section
open Go.RowKit
structure Holds (w wr:World) (bo:Nat) (D:List Int):Prop where
 box:∃g cap,S.Bx wr bo 42 (.slice (some ⟨g,0,none⟩) (D.foldl S.insF [0]).length cap)/\wr.ownsRow w.heap.size 21 1 (.slice (some ⟨g,0,none⟩) (D.foldl S.insF [0]).length cap) (D.foldl S.insF [0]).length ((D.foldl S.insF [0]).map (Value.int .i32))
 below:Bl w wr
 lt:bo<wr.heap.size
theorem Holds.alloc {w wr:World}{bo:Nat}{D:List Int}(h:Holds w wr bo D)(o:Obj):Holds w (wr.alloc o) bo D:=by
 obtain⟨g,cap,x,own⟩:=h.box;have hb:Bl wr (wr.alloc o):=(qR wr).alloc qN _;exact⟨⟨g,cap,x.below hb h.lt,own.alloc o⟩,h.below.alloc h.below.size o,by have:=h.lt;simp;omega⟩
theorem Holds.len {w wr:World}{bo:Nat}{D:List Int}(_:Holds w wr bo D):(D.foldl S.insF [0]).length<=1+D.length:=by
 have:=(S.zfw D [0] (by simp)).2.2;simpa using this
theorem ziq {w wr:World}{bo:Nat}{D:List Int}(h:Holds w wr bo D)(hbo:w.heap.size<=bo)(hl:∀d∈D,0<=d)(r:Int) :
  Calls prog 117 #[.int .i32 r,.pointer (some ⟨bo,0,none⟩)] wr fun e w'=>e=.returned (.tuple #[])/\Holds w w' bo (D++ [r])/\wr.grownBy w' (some bo):=by
 obtain⟨g,cap,x,own⟩:=h.box;have hlen:=S.zl4 D hl;refine(zsy wr w.heap.size bo g cap _ r x own h.lt h.below.size (by omega)).mono ?_;rintro e w' ⟨rfl,g',cap',x',own',hg⟩;have e:(D++ [r]).foldl S.insF [0]=S.insF (D.foldl S.insF [0]) r:=by rw[List.foldl_append];rfl
 refine⟨rfl,⟨⟨g',cap',by rw[e];exact x',by rw[e];exact own'⟩,Below.grown h.below hg h.below.size (fun k hk=>by cases hk;exact hbo),Nat.lt_of_lt_of_le h.lt hg.size⟩,hg⟩
theorem zje {l:List S.Sp}{j:Nat}{x:S.Sp}(hx:l[j]?=some x):S.edgesOf (l.take (j+1))=S.edgesOf (l.take j)++ [x.1]++ [x.2+1]:=by
 unfold S.edgesOf;rw[List.take_add_one,hx,List.flatMap_append];simp
theorem znx {ls:List (List S.Sp)}{i:Nat}{l:List S.Sp}(hl:ls[i]?=some l):(ls.take (i+1)).flatMap S.edgesOf=(ls.take i).flatMap S.edgesOf++S.edgesOf l:=by
 rw[List.take_add_one,hl,List.flatMap_append];simp
theorem zqo (w:World)(ao:Option Addr)(cp b:Nat)(vs:List Value)(hao:vs≠ []->ao=some ⟨b,0,none⟩)(ls:List (List S.Sp))(hlen:vs.length=ls.length)(hl:ls.length<=1000)(hv:∀(i:Nat) v,vs[i]?=some v->w.cell? ⟨b,i,none⟩=some v)
  (hR:∀(i:Nat) v l,vs[i]?=some v->ls[i]?=some l->S.Rd w v l) (hb:∀l∈ls,l.any S.bad=false) (hsz:∀l∈ls,l.length<=17592186043904) :
  Calls prog 96 #[.slice ao vs.length cp] w fun e w'=>∃v,e=.returned v/\L.Rd w' v .i32 (S.edgesF ls)/\Bl w w':=by
 have HR:Hid _:=hR;have HV:Hid _:=hv;have HLen:=qH hlen;have HBad:=qH hb;have HSz:=qH hsz;have hl3:vs.length<=1000:=by omega
 clear hR hv hlen hb hsz;have e55:∀args w,(callFunc 117 args).run prog w=.ok (.enter 117 args) w:=enters_of func117 (by kernel_rfl) rfl
 go_enter func96,ntmps96
 go_wp2
 have HH0:Hid (Holds w ((w.alloc (.cells #[.int .i32 0] 21)).alloc (.cells #[.slice (some ⟨w.heap.size,0,none⟩) 1 1] 42)) (w.heap.size+1) []):=by
  have x:=S.Bx.new (w.alloc (.cells #[.int .i32 0] 21)) 42 (.slice (some ⟨w.heap.size,0,none⟩) 1 1);rw[World.size_alloc] at x;have own:=(World.ownsRow_lit (base:=w.heap.size) (e:=21) (size:=1) w #[.int .i32 0] 1 qN (by decide) rfl).alloc (.cells #[.slice (some ⟨w.heap.size,0,none⟩) 1 1] 42);exact⟨⟨w.heap.size,1,x,by simpa using own⟩,((qR w).alloc qN _).alloc (by simp) _,by simp⟩
 have hs0:((w.alloc (.cells #[.int .i32 0] 21)).alloc (.cells #[.slice (some ⟨w.heap.size,0,none⟩) 1 1] 42)).heap.size=w.heap.size+2:=by simp
 have HBW0:=qH HH0.out.below;clear hs0
 go_loopw [13] (fun iv wr=>∃i:Nat,i<=vs.length/\iv=.int .i64 i/\Hid (Holds w wr (w.heap.size+1) ((ls.take i).flatMap S.edgesOf))) (fun iv _=>vs.length-(intOf iv).toNat)
 case atStart=>exact⟨0,Nat.zero_le _,rfl,by simpa using HH0⟩
 case round =>
  obtain⟨i,hi,rfl,HI⟩:=hrel
  by_cases hlt:i<vs.length
  ·obtain rfl:=hao (by intro h;rw[h] at hlt;simp at hlt);obtain⟨v,hv⟩:∃v,vs[i]?=some v:=⟨vs[i],by simp[hlt]⟩;obtain⟨l,hl'⟩:∃l,ls[i]?=some l:=⟨ls[i]'(by rw[<- HLen.out];exact hlt),by simp[show i<ls.length by rw[<- HLen.out];exact hlt]⟩;have c1:=HV.out i v hv;have hbl:=L.block_lt c1;rw[<- HI.out.below.cell (p:=⟨b,i,none⟩) hbl] at c1;have R:=HR.out i v l hv hl';have hlb:=HSz.out l (List.mem_of_getElem? hl');have hbad:=HBad.out l (List.mem_of_getElem? hl');have HBl:=qH hbad;have HL:=qH hl'
   have hD:Hid (∀d∈(ls.take i).flatMap S.edgesOf,0<=d):=fun d hd=>by
    obtain⟨m,hm,hd⟩:=List.mem_flatMap.1 hd;exact S.zf1 (HBad.out m (List.mem_of_mem_take hm)) d hd
   generalize hDD:(ls.take i).flatMap S.edgesOf=D at *;have HD:=qH hDD;obtain⟨ao,cap,rfl,hn,hc⟩:=R;clear hv hl' hDD hn hbad;go_wp2
   go_loopw [19] (fun jv wr2=>∃j:Nat,j<=l.length/\jv=.int .i64 j/\Hid (Holds w wr2 (w.heap.size+1) (D++S.edgesOf (l.take j)))) (fun jv _=>l.length-(intOf jv).toNat)
   case atStart=>exact⟨0,Nat.zero_le _,rfl,by simpa [S.edgesOf] using HI⟩
   case round =>
    obtain⟨j,hj,rfl,HJ⟩:=hrel
    by_cases hltj:j<l.length
    ·obtain⟨bb,off,rfl,hcell⟩:=hc (by intro h;subst h;simp at hltj);obtain⟨x,hx⟩:∃x,l[j]?=some x:=⟨l[j],by simp[hltj]⟩;have c0:=hcell j x hx;have hb:=L.block_lt c0.1;have d1:=c0.1;have d2:=c0.2;rw[<- HJ.out.below.cell (p:=⟨bb,_,none⟩) hb] at d1 d2;have hok:=S.bad_false.1 (by simpa using (List.any_eq_false.1 HBl.out) x (List.mem_of_getElem? hx));have HT:Hid _:=zje hx
     have hE:Hid (∀d∈D++S.edgesOf (l.take j),0<=d):=fun d hd=>by
      rcases List.mem_append.1 hd with hd|hd
      ·exact hD.out d hd
      ·refine S.zf1 (l:=l.take j) (List.any_eq_false.2 fun y hy=>(List.any_eq_false.1 HBl.out) y (List.mem_of_mem_take hy)) d hd
     generalize hEE:D++S.edgesOf (l.take j)=E at *;have HEE:=qH hEE;have HJa:Hid (∀o,Holds w (World.alloc _ o) (w.heap.size+1) E):=fun o=>HJ.out.alloc o
     have hlt3:=HJ.out.lt;obtain⟨x1,x2⟩:=x;simp only at d1 d2 hok HT;clear c0 hx hcell hEE;have hp1:=ziq (HJa.out (.cells #[.int .i32 x1,.int .i32 x2] 113)) (by omega) hE.out x1
     go_wp2_with fail
     refine hp1.mono ?_;clear hp1;rintro e w3 ⟨rfl,H3,G3⟩;have HQ:=S.boxed (wr:=wr) (t:=113) (a:=.int .i32 x1) (b:=.int .i32 x2) (qR _);have f2:=HQ.1.2;have hlt4:=HQ.2.2.1;have f3:=f2;rw[<- World.cell?_of_block (w':=w3) (G3.block _ hlt4 (by simp;omega))] at f3;have HH3:=qH H3;clear HQ f2 H3 G3;have hp2:=ziq HH3.out (by omega) (fun d hd=>by rcases List.mem_append.1 hd with hd|hd;exact hE.out d hd;simp at hd;omega) (x2+1)
     go_wp2_with fail
     refine hp2.mono ?_;clear hp2;rintro e w4 ⟨rfl,H4,G4⟩;have HH4:=qH H4;clear H4 G4;go_wp2
     go_roundw
     case rel =>
      refine⟨j+1,by omega,by go_num,?_⟩;show Holds _ _ _ _;rw[HT.out,<- List.append_assoc,<- List.append_assoc,HEE.out];exact HH4.out
     case measure=>simp[intOf];omega
    ·have hje:l.take j=l:=List.take_of_length_le (by omega)
     have HN:Hid (Holds w wr (w.heap.size+1) ((ls.take (i+1)).flatMap S.edgesOf)):=by
      have h:=HJ.out;rw[hje] at h;show Holds _ _ _ _;rw[znx HL.out,HD.out];exact h
     clear hje;go_wp2
     go_roundw
     case rel=>exact⟨i+1,by omega,by go_num,HN⟩
     case measure=>simp[intOf];omega
  ·have hie:ls.take i=ls:=List.take_of_length_le (by rw[<- HLen.out];omega);have h:=HI.out;rw[hie] at h;obtain⟨g,cap,x,own⟩:=h.box;have cx:=x.cell;have HO:Hid _:=own;have HBl:=qH h.below;clear own x h hie;go_wp2;go_ret;exact⟨_,rfl,L.Rd.zax HO.out,HBl.out⟩
end
section
open Go.RowKit Go.Shelf
theorem Tryz.infoSetJ:(prog.info? 27).map (fun i=>(i.zero,i.size,i.bytes))=some (some (.slice none 0 0),1,24):=by kernel_rfl
theorem J.zom {t:TypeId}{w:World}{ops:Array Oper}{rest:List Oper}{o:Oper}{a:Act}{Q:Exit->Act->World->Prop}(hgd:o.guard=none)(s x:Operand)
  (ho:o.op=.call { callee:=.builtin .append,args:=#[s,x],argTypes:=#[t,t] }) (v vx v':Value) (w':World) (hs:a.eval s=v) (hx:a.eval x=vx)
  (hrun:(Builtin.append_ #[t,t] o.type #[v,vx]).run prog w=.ok v' w') (h:wpList prog ops Q rest (a.put o.dst v') w'):wpList prog ops Q (o::rest) a w :=
 wpList_plain hgd fun K hK=>by
  unfold Oper.wp;simp[execOp,ho,resolve,invoke,builtin,hs,hx,hrun,Result.andThen];exact hK _ _ h
def J.Fst (w:World) (l:List K.Rule) (us:List Value):Prop:=us.length=l.length/\∀(i:Nat) u r,us[i]?=some u->l[i]?=some r->S.Rd w u (K.headS r)
theorem zio (w:World)(v:Value)(l:List K.Rule)(R0:V.Rus w v l) :
  Calls prog 68 #[v] w fun e w'=>∃(v':Value) (o:List J.Hd×Int×Int),J.Comp l o/\e=.returned (.tuple #[v',.agg #[.int .i64 o.2.1,.int .i64 o.2.2]])/\J.Own w.heap.size w' v' o.1/\Bl w w':=by
 have HA:=qH<|fun o=>(qR w).alloc qN o
 have HC:=qH<|fun o=>zcm _ _ l (R0.below (HA.out o))
 have HE:Hid ((K.rulesF l).1=0->l.length<=200/\∀r∈l,K.ruleE r=0):=fun h=>⟨(K.zba h).1,(K.zba h).2.1⟩
 have HR:=qH R0;have HN:Hid ((K.rulesF l).1≠0->J.Comp l ([],K.rulesF l)):=fun h=> .inl ⟨h,rfl⟩
 have HY:Hid ((K.rulesF l).1=0->∀c,J.Cuts l c->∀o,((400<c.length-1/\o=([],5,0))∨(c.length-1<=400/\o=(J.heads (J.begins l) c (c.length-1),0,0)))->J.Comp l o):=fun h c hc o ho=> .inr ⟨h,c,hc,hc.two,ho⟩
 obtain⟨ao,cap,rfl⟩:=R0.len;obtain⟨⟨e1,e2⟩,he⟩:∃o,K.rulesF l=o:=⟨_,rfl⟩;rw[he] at HC HE HN HY;simp only at HC HE HN HY;clear he R0
 go_enter func68,ntmps68
 go_wp2_with fail
 refine(HC.out _).mono ?_;rintro e w1 ⟨rfl,b1⟩;obtain⟨h1,B1,s1⟩:=K.zau b1;have HB1:=qH B1;have HX1:Hid (w1.heap[w.heap.size]?=some (.cells #[.int .i64 0,.int .i64 0] 36)):=h1;obtain⟨x0,x1,f0,f1⟩:=K.box2 h1;have k0:=fun o=>K.zai x0 o
 have k1:=fun o=>K.zai x1 o
 have g0:=fun o=>K.zal h1 o 0
 have g1:=fun o=>K.zal h1 o 1
 have HB2:=qH<|fun o=>HB1.out.alloc (by omega) o
 clear b1 B1 HC x0 x1 f0 f1 h1
 by_cases q:e1=0
 ·subst q;obtain⟨hl,hE⟩:=HE.out rfl;have HE2:=qH hE;have HY2:=qH<|HY.out rfl;obtain⟨i0,hi,hz0,hz1,hz2⟩:=info_parts Tryz.infoSetJ;clear hE HE HN HY;obtain⟨X,hX⟩:=qE (w1.alloc (.cells #[.int .i64 0,.int .i64 e2] 36));have HXX:=qH hX;have HBX:Hid (Bl w X):=by show Below _ _ _;rw[hX];exact HB2.out _
  have hXs:w.heap.size<X.heap.size:=by rw[hX];simp;omega
  have HXb:Hid (X.heap[w.heap.size]?=some (.cells #[.int .i64 0,.int .i64 0] 36)):=by
   show X.heap[w.heap.size]?=_;rw[hX,Below.heap_alloc w1 _ w.heap.size (by omega)];exact HX1.out
  clear hX k0 k1 g0 g1
  go_wp2_with fail
  go_loopw [5,20] (fun vo i wr=>∃k:Nat,k<=l.length/\i=.int .i64 k/\∃us:List Value,Hid (wr.ownsRow X.heap.size 27 1 vo us.length us/\J.Fst w (l.take k) us/\Bl X wr)) (fun _ i _=>l.length-(RowKit.intOf i).toNat)
  case atStart=>exact⟨0,Nat.zero_le _,rfl,[],World.ownsRow_nil _ _ _ _,⟨rfl,fun i u r h=>by simp at h⟩,by rw[<- HXX.out];exact qR _⟩
  case round =>
   obtain⟨k,hk,rfl,us,HO⟩:=hrel;have hwr:=HO.out.2.2.size
   by_cases hlt:k<l.length
   ·obtain⟨p,hp⟩:∃x,l[k]?=some x:=⟨l[k],by simp[hlt]⟩;have HBw:=qH<|HBX.out.trans (HO.out.2.2.mono (by omega));obtain⟨ba,oa,bo,bc,so,sc,ao2,ac,tt,tc,rfl,a0,a1,a2,a3,a4,a5,a6,hP⟩:=K.Rus.rule HR.out hp;have lift:∀b o x,w.cell? ⟨b,o,none⟩=some x->wr.cell? ⟨b,o,none⟩=some x:=fun b o x h=>by rw[(L.bcell HBw.out).1 b o (L.block_lt h)];exact h
    replace a3:=lift _ _ _ a3
    have hep:=HE2.out p (List.mem_of_getElem? hp);have hsp:=(K.zas hep).2.2.2.1;obtain⟨s,hs⟩:∃s,p.source[0]?=some s:=⟨p.source[0],by simp⟩;have hhd:=K.zfs hs;obtain⟨bo',bc',so',sc',ao',ac',tt',tc',hv,_,hS,_⟩:=hP;have hv2:=Value.agg.inj hv;simp only[Array.mk.injEq,List.cons.injEq,Value.slice.injEq,true_and,and_true] at hv2;obtain⟨⟨rfl,rfl⟩,⟨rfl,rfl⟩,⟨rfl,rfl⟩,rfl,rfl⟩:=hv2;obtain⟨gb,go,s2,c2,rfl,hc0,hr0,_⟩:=hS.at hs;rw[Nat.add_zero] at hc0
    replace hc0:=lift _ _ _ hc0
    have HFs:Hid (J.Fst w (l.take (k+1)) (us++ [.slice s2 s.length c2])):=by
     obtain⟨h1,h2⟩:=HO.out.2.1;refine⟨by rw[List.length_append,h1,List.take_add_one,hp];simp,fun i u r hu hr=> ?_⟩;rw[List.getElem?_take] at hr;split at hr
     ·rename_i hik
      rw[List.getElem?_append] at hu;split at hu
      ·rename_i hiu
       refine h2 i u r hu ?_;rw[List.getElem?_take,if_pos (by rw[h1,List.length_take] at hiu;omega)];exact hr
      ·rename_i hiu
       have hik2:i=k:=by rw[h1,List.length_take] at hiu;omega
       subst hik2;have h3:us.length=i:=by rw[h1,List.length_take];omega
       rw[h3,Nat.sub_self] at hu;simp at hu;subst hu;rw[hp] at hr;cases hr;rw[hhd];exact hr0
     ·cases hr
    have hul:us.length<=200:=by have:=HO.out.2.1.1;rw[List.length_take] at this;omega
    have HOa:=qH<|fun o=>HO.out.1.alloc o
    have HBa:=qH<|fun o=>HO.out.2.2.alloc hwr o
    have hblk:Hid (∀g,u5.ownBlock=some g->X.heap.size<=g):=fun g hg=>by
     obtain⟨_,⟨rfl,_⟩|⟨g',cap',cur',rfl,hb',_⟩⟩:=HO.out.1
     ·cases hg
     ·cases hg;exact hb'
    clear hp hep hs hhd hv hS hr0 lift a0 a1 a2 a4 a5 a6 HO;obtain⟨st,fi,be,sou,af,ta,cu⟩:=p;simp only at a3 hsp
    go_wp2_with (at_builtin;go_must (refine wpList_append_own _ rfl _ _ 77 rfl X.heap.size 27 i0 (.slice none 0 0) 1 24 underlying77 hi hz0 hz1 hz2 rfl (by decide) _ _ _ rfl (HOa.out _) ⟨wr.heap.size,0,none⟩ 1 1 [.slice s2 s.length c2] rfl rfl (cell_one_new _ _ _) (fun x hx=>by simp at hx;subst hx;rfl) (by unfold maxLen;omega) (by omega) (by simp;omega) ?_;intro v' w4 hown' hgrow4 hnil4))
    have HX4:Hid (w4.ownsRow X.heap.size 27 1 v' (us++ [Value.slice s2 s.length c2]).length (us++ [Value.slice s2 s.length c2])/\Bl X w4):=⟨by rw[List.length_append];exact hown',Below.grown (HBa.out _) hgrow4 (by simp;omega) (fun j hj=>hblk.out j hj)⟩
    go_roundw
    case rel=>exact⟨k+1,by omega,by go_num,_,HX4.out.1,HFs.out,HX4.out.2⟩
    case measure=>simp[RowKit.intOf];omega
   ·have hke:k=l.length:=by omega
    subst hke;rw[List.take_length] at HO;have HBw:=qH<|HBX.out.trans (HO.out.2.2.mono (by omega));obtain⟨hc,hc0⟩:=J.zuu HE2.out;have hul:=HO.out.2.1.1
    obtain⟨uo,uc,g,rfl,hug,huv⟩:∃uo uc g,u5=.slice uo us.length uc/\(us≠ []->uo=some ⟨g,0,none⟩)/\∀(i:Nat) v,us[i]?=some v->wr.cell? ⟨g,i,none⟩=some v:=by
     have h:=HO.out.1;obtain⟨h1,⟨rfl,h0⟩|⟨g,k,cur,rfl,hb,hx,hn,hm,hs,ht⟩⟩:=h
     ·have:=List.length_eq_zero_iff.1 h0;subst this;exact⟨none,0,0,rfl,fun h=>absurd rfl h,fun i v h=>by simp at h⟩
     ·refine⟨_,k,g,rfl,fun _=>rfl,fun i v hv=> ?_⟩;have hlt':=(qL.1 hv).1;rw[HO.out.1.cellAt i (by omega)];exact hv
    have hbad:∀s∈l.map K.headS,s.any S.bad=false:=fun s hs=>by
     obtain⟨r,hr,rfl⟩:=List.mem_map.1 hs;rw[List.any_eq_false];intro x hx;have:=S.bad_false.2 ((K.zcb (HE2.out r hr)).1.mem hx);simp[this]
    have hEd:=zqo wr uo uc g us hug (l.map K.headS) (by rw[List.length_map];exact hul) (by rw[List.length_map];omega) huv
     (fun i v s hv hs=>by
      rw[List.getElem?_map] at hs;cases hr:l[i]? with
      | none=>rw[hr] at hs;cases hs
      | some r =>
       rw[hr] at hs;cases hs
       exact(HO.out.2.1.2 i v r hv hr).below HBw.out qN) hbad
     (fun s hs=>by
      obtain⟨r,hr,rfl⟩:=List.mem_map.1 hs;have:=(K.zcb (HE2.out r hr)).2
      omega)
    obtain⟨D,hD⟩:=qE (S.edgesF (l.map K.headS));rw[<- hD] at hEd hc hc0
    have HEd:Hid (Calls prog 96 #[.slice uo us.length uc] wr fun e w'=>∃dp dc,e=.returned (.slice dp D.length dc)/\L.Rd w' (.slice dp D.length dc) .i32 D/\Bl wr w'):=by
     refine hEd.mono ?_;rintro e w' ⟨v',h1,h2,h3⟩;obtain⟨dp,dc,rfl,_⟩:=id h2;exact⟨dp,dc,h1,h2,h3⟩
    have HCu:=qH hc;have hDl:D.length<=1114112:=by rw[hD];exact S.zny hbad
    have hxw:=K.zae HXb.out HO.out.2.2;have HXw:=qH hxw;clear hEd hbad hug huv hul hD HO hc hc0 hxw
    go_wp2_with fail
    go_at_call 96
    refine HEd.out.mono ?_;rintro e Y ⟨dp,dc,rfl,rD,bY⟩;have HBY:=qH<|HBw.out.trans (bY.mono HBw.out.size);have HRD:=qH rD;have HYb:=qH<|K.zae HXw.out bY;have hYs:=(qA.1 HYb.out).1;obtain⟨c,hcD⟩:=qE (D++ [1114112]);rw[<- hcD] at HCu
    have HGet:Hid (∀k,k<D.length->D[k]?=some (c.getD k 0)):=fun k hk=>by
     rw[hcD];simp[List.getD,List.getElem?_append,hk]
    have hcl:c.length=D.length+1:=by rw[hcD];simp
    have HCl:=qH hcl;clear rD bY HEd HXw hcD hcl
    have HFew:Hid (∀q,(J.begins l q).length<=4611686018427387903):=fun q=>by
     have h2:=J.zcv (fun r=>S.memb (K.headS r) q) l 0;unfold J.begins;omega
    go_wp2_with fail
    go_loopw [7,37] (fun vo i wr=>∃k:Nat,k<=D.length/\i=.int .i64 k/\Hid (J.Own Y.heap.size wr vo (J.part (J.begins l) c k)/\Bl Y wr)) (fun _ i _=>D.length-(RowKit.intOf i).toNat)
    case atStart=>exact⟨0,Nat.zero_le _,rfl,J.Own.nil _ _,qR _⟩
    case round =>
     obtain⟨k,hk,rfl,HO⟩:=hrel;have hwr:=HO.out.2.size
     by_cases hlt:k<D.length
     ·have HBw:=qH<|HBY.out.trans (HO.out.2.mono (by omega));obtain⟨dp',dc',h9,_,hcs⟩:=HRD.out.below HO.out.2 qN;cases h9;obtain⟨db,df,rfl,hcell⟩:=hcs (by intro h;rw[h] at hlt;simp at hlt);have y0:=hcell k _ (HGet.out k hlt);have hBg:=zmz wr _ l (HR.out.below HBw.out) hl HE2.out (c.getD k 0);have r1:=J.mem_range HE2.out ((HCu.out.2 _).1 (HCu.out.get (k:=k) (by have:=HCl.out;omega)))
      have HBg:Hid (Calls prog 97 #[.slice ao l.length cap,.int .i32 (c.getD k 0)] wr fun e w'=>∃go gc,e=.returned (.slice go (J.begins l (c.getD k 0)).length gc)/\w'.ownsRow Y.heap.size 3 1 (.slice go (J.begins l (c.getD k 0)).length gc) (J.begins l (c.getD k 0)).length ((J.begins l (c.getD k 0)).map (Value.int .i64))/\J.Own Y.heap.size w' u7 (J.part (J.begins l) c k)/\Bl Y w'):=by
       refine hBg.mono ?_;rintro e w' ⟨v',h1,h2,h3⟩
       obtain⟨go,gc,rfl⟩:∃a b,v'=.slice a (J.begins l (c.getD k 0)).length b:=by
        obtain⟨a,b,h,_⟩:=L.Rd.zax h2;exact⟨a,b,h⟩
       exact⟨go,gc,h1,L.zbj h2 hwr,HO.out.1.below h3,HO.out.2.trans (h3.mono hwr)⟩
      have HPs:Hid (∀m,k=m+1->(c.getD k 0-1=c.getD (m+1) 0-1)/\decide (J.begins l (c.getD m 0)=J.begins l (c.getD k 0))=false):=fun m hm=>by
       refine⟨by rw[hm],decide_eq_false ?_⟩;rw[hm];exact HCu.out.diff HE2.out (by have:=HCl.out;omega)
      have hPl:=J.zsa (J.begins l) c k;clear hcs hcell hBg HO;generalize hck:c.getD k 0=q at y0 HBg r1 HPs;have HCk:=qH hck;have HPl:=qH hPl;clear hck hPl;obtain⟨r2,r3⟩:=r1;generalize hbl:J.begins l q=bl at HBg HPs;have HBl:=qH hbl;clear hbl
      go_wp2_with fail
      go_at_call 97
      refine HBg.out.mono ?_;rintro e w3 ⟨go,gc,rfl,own3,hO3,b3⟩;have HB3:=qH b3;have hw3:=b3.size;have HOw3:=qH own3;have HO3:=qH hO3;clear own3 hO3 b3 y0 HBg;cases k with
      | zero =>
       obtain⟨uo9,uc9,hu9⟩:=HO3.out.len;rw[HPl.out] at hu9;subst hu9;obtain⟨v4,w4,run4,own4,b4⟩:=HO3.out.push HB3.out hw3 (by rw[HPl.out];omega) q 1114111 bl (.slice go bl.length gc) HOw3.out
       have HX4:Hid (J.Own Y.heap.size w4 v4 (J.part (J.begins l) c 1)/\Bl Y w4):=by
        refine⟨?_,b4⟩;have e:J.part (J.begins l) c 1=J.part (J.begins l) c 0++ [(q,1114111,bl)]:=by rw[<- HBl.out,<- HCk.out];rfl
        rw[e];exact own4
       clear own4 b4 HO3 HOw3 HPs HPl
       go_wp2_with (at_builtin;go_must (refine J.zom rfl (.tmp 66) (.tmp 70) rfl (.slice uo9 0 uc9) (.slice (some ⟨w3.heap.size,0,none⟩) 1 1) v4 w4 rfl rfl run4 ?_))
       go_roundw
       case rel=>exact⟨1,by omega,by go_num,HX4.out⟩
       case measure=>simp[RowKit.intOf];omega
      | succ m =>
       obtain⟨hp1,hp2⟩:=HPs.out m rfl;have hpart:J.part (J.begins l) c (m+1)=J.heads (J.begins l) c m++ [(c.getD m 0,1114111,J.begins l (c.getD m 0))]:=rfl;rw[hpart] at HO3;obtain⟨X9,cap9,hu9,hF9,_⟩:=HO3.out.high;rw[J.zbk] at hu9;subst hu9;obtain⟨X',off',ro,rc,h9,_,_,cr,hrr⟩:=HO3.out.rd.at (k:=m) (p:=(c.getD m 0,1114111,J.begins l (c.getD m 0))) (by rw[List.getElem?_append_right (by rw[J.zbk];omega),J.zbk];simp);cases h9;simp only at cr hrr;rw[Nat.zero_add] at cr;have h9:=zki w3 _ _ _ _ hrr (L.Rd.zax HOw3.out) (HFew.out _) (by rw[<- HBl.out];exact HFew.out _);rw[hp2] at h9;have HQ:Hid (c.getD m 0=c.getD m 0/\q-1=c.getD (m+1) 0-1):=⟨rfl,hp1⟩;generalize hbm:J.begins l (c.getD m 0)=bm at cr h9 HO3
       have H9:Hid (Calls prog 98 #[.slice ro bm.length rc,.slice go bl.length gc] w3 fun e w'=>e=.returned (.bool false)/\w'.cell? ⟨X9,m*3+1,none⟩=some (.int .i32 1114111)/\w'.frozen? ⟨X9,m*3+1,none⟩=false /\
         ∃v4 w4,(Builtin.append_ #[123,123] 123 #[.slice (some ⟨X9,0,none⟩) (m+1) cap9,.slice (some ⟨w'.heap.size,0,none⟩) 1 1]).run prog ((w'.setCell ⟨X9,m*3+1,none⟩ (.int .i32 (q-1))).alloc (.cells #[.int .i32 q,.int .i32 1114111,.slice go bl.length gc] 154))=.ok v4 w4/\J.Own Y.heap.size w4 v4 (J.heads (J.begins l) c m++ [(c.getD m 0,q-1,bm)]++ [(q,1114111,bl)])/\Bl Y w4):=by
        refine h9.mono ?_;rintro e w' ⟨h1,n,rfl⟩;have hd:Bl w3 (w3.drewN n):=below_drewN (qR _) _;obtain⟨X2,cap2,hu2,hF2,d1,d2,d3⟩:=(HO3.out.below hd).high;rw[J.zbk] at hu2 d1 d2 d3;cases hu2;obtain⟨o5,k5⟩:=d3 (q-1);have hB5:Bl Y ((w3.drewN n).setCell ⟨X9,m*3+1,none⟩ (.int .i32 (q-1))):=(HB3.out.trans (hd.mono hw3)).setCell (p:=⟨X9,m*3+1,none⟩) hF9 _;obtain⟨v4,w4,r4,o4,B4⟩:=o5.push hB5 hB5.size (by rw[List.length_append,J.zbk];simp;omega) q 1114111 bl (.slice go bl.length gc) (k5 _ _ _ (L.zby HOw3.out hd qN));refine⟨h1,d1,d2,v4,w4,?_,o4,B4⟩;have hsz:((w3.drewN n).setCell ⟨X9,m*3+1,none⟩ (.int .i32 (q-1))).heap.size=(w3.drewN n).heap.size:=by simp
        rw[hsz] at r4;exact r4
       have HEq:Hid (J.heads (J.begins l) c m++ [(c.getD m 0,q-1,bm)]++ [(q,1114111,bl)]=J.part (J.begins l) c (m+2)):=by
        show _=_;rw[J.part,J.zeq,J.headAt,HCk.out,HBl.out,hbm]
       clear h9 hrr hp1 hp2 HO3 HOw3 HPs HPl hpart hbm
       go_wp2_with fail
       go_at_call 98
       refine H9.out.mono ?_;rintro e w5 ⟨rfl,d1,d2,v4,w4,run4,o4,b4⟩;have HX4:Hid (J.Own Y.heap.size w4 v4 (J.part (J.begins l) c (m+2))/\Bl Y w4):=⟨by rw[<- HEq.out];exact o4,b4⟩;clear o4 b4 H9 cr HEq
       go_wp2_with (at_builtin;go_must (refine J.zom rfl (.tmp 66) (.tmp 70) rfl (.slice (some ⟨X9,0,none⟩) (m+1) cap9) (.slice (some ⟨w5.heap.size,0,none⟩) 1 1) v4 w4 rfl rfl run4 ?_))
       go_roundw
       case rel=>exact⟨m+2,by omega,by go_num,HX4.out⟩
       case measure=>simp[RowKit.intOf];omega
     ·have hke:k=D.length:=by omega
      subst hke;have hpe:=J.zsb HCu.out HE2.out (J.begins l);rw[show c.length-1=D.length by have:=HCl.out;omega] at hpe;rw[hpe] at HO;obtain⟨uo9,uc9,hu9⟩:=HO.out.1.len;rw[J.zbk] at hu9;subst hu9;have hx5:=K.zae HYb.out HO.out.2;obtain⟨x0,x1,f0,f1⟩:=K.box2 hx5;have HBf:Hid (∀u u',Bl w ((wr.setCell ⟨w.heap.size,0,none⟩ u).setCell ⟨w.heap.size,1,none⟩ u')):=fun u u'=>(((HBY.out).trans (HO.out.2.mono (by omega))).setCell (p:=⟨w.heap.size,0,none⟩) qN _).setCell (p:=⟨w.heap.size,1,none⟩) qN _
      clear hx5 hpe
      by_cases hm:400<D.length
      ·have HOo:=qH<|HY2.out c HCu.out _ (.inl ⟨by have:=HCl.out;omega,rfl⟩);go_wp2;refine bodyPost_ret (v:=.tuple #[.slice none 0 0,.agg #[.int .i64 5,.int .i64 0]]) (by simp[results,results68,go_sem, *]) rfl ?_;exact⟨_,_,HOo.out,rfl,J.Own.nil _ _,HBf.out _ _⟩
      ·have HOo:=qH<|HY2.out c HCu.out _ (.inr ⟨by have:=HCl.out;omega,by rw[show c.length-1=D.length by have:=HCl.out;omega]⟩)
       have HFin:Hid (∀u u',J.Own w.heap.size ((wr.setCell ⟨w.heap.size,0,none⟩ u).setCell ⟨w.heap.size,1,none⟩ u') (.slice uo9 D.length uc9) (J.heads (J.begins l) c D.length)):=fun u u'=>by
        refine(HO.out.1.kept fun g hg=> ?_).base (by omega);have hne:g≠w.heap.size:=by omega
        rw[heap_setCell_other _ ⟨w.heap.size,1,none⟩ g _ hne,heap_setCell_other _ ⟨w.heap.size,0,none⟩ g _ hne]
       clear HO;go_wp2;refine bodyPost_ret (v:=.tuple #[.slice uo9 D.length uc9,.agg #[.int .i64 0,.int .i64 0]]) (by simp[results,results68,go_sem, *]) rfl ?_;exact⟨_,_,HOo.out,rfl,HFin.out _ _,HBf.out _ _⟩
 ·have HNN:=qH<|HN.out q;go_wp2
  go_region
  go_wp2;refine bodyPost_ret (v:=.tuple #[.slice none 0 0,.agg #[.int .i64 e1,.int .i64 e2]]) (by simp[results,results68,go_sem, *]) rfl ?_
  exact⟨_,([],e1,e2),HNN.out,rfl,J.Own.nil _ _,(((HB2.out _).setCell (p:=⟨w.heap.size,0,none⟩) qN _).setCell (p:=⟨w.heap.size,1,none⟩) qN _).drew⟩
end
section
open Go.RowKit Go.Lib
theorem zkk (pl:Cn.Pl)(hpl:Cn.PlOk pl)(w:World)(p:V.Pass)(ro:Option Addr)(rc:Nat)(R0:V.Rus w (.slice ro p.rules.length rc) p.rules)(hp:Cn.passE p=0)(vt:Value)(t:List Int)(Rt:L.Rd w vt .i32 t)(ht:Cn.Tx t) :
  Calls prog 40 #[.agg #[.string p.name,.slice ro p.rules.length rc],vt] w fun e w'=>∃v',e=.returned (.tuple #[v',.int .i64 (Cn.passF pl p t).2])/\L.Rd w' v' .i32 (Cn.passF pl p t).1/\Bl w w':=by
 have HRt:=qH Rt;have HTx:=qH ht.range;have hl4:=ht.1;obtain⟨xo,xc,rfl⟩:∃xo xc,vt=.slice xo t.length xc:=by obtain⟨a,c,h,_⟩:=Rt;exact⟨a,c,h⟩
 have hal:=fun o=>(qR w).alloc qN o
 have HA:Hid (Bl w (w.alloc (.cells #[.string p.name,.slice ro p.rules.length rc] 74))/\(w.alloc (.cells #[.string p.name,.slice ro p.rules.length rc] 74)).heap[w.heap.size]?=some (.cells #[.string p.name,.slice ro p.rules.length rc] 74)):=⟨hal _,heap_alloc_new w _⟩;unfold Cn.passF;cases h1:(p.name.toList== []) with
 | true =>
  have h1':=eq_of_beq h1;rw[if_pos h1'];have hru:(K.rulesF p.rules).1=0:=by unfold Cn.passE at hp;rwa [if_pos h1'] at hp
  have hte:=Cn.zeb.2 ht;have HC:=qH<|fun X hX=>zio X _ p.rules (R0.below hX)
  have HT:Hid (∀X,Bl w X->Calls prog 38 #[.slice xo t.length xc] X fun e w'=>e=.returned (.int .i64 0)/\Bl X w'):=fun X hX=>by rw[<- hte];exact zfm X _ t (Rt.below hX qN) (by omega)
  have HR:=qH<|fun X hX=>zpg X _ p.rules (R0.below hX) _ t (Rt.below hX qN) (by omega)
  have HPl:Hid (∀o,J.Comp p.rules o->(¬o.2.1=0->pl p.rules t=([],o.2.1))/\(o.2.1=0->pl p.rules t=((K.runF p.rules t).1.1,(K.runF p.rules t).2.1))):=fun o ho=>Cn.zt9 hpl hru hte ho
  obtain⟨⟨q,q1⟩,hq⟩:∃q,pl p.rules t=q:=⟨_,rfl⟩;rw[hq] at HPl ⊢;obtain⟨⟨⟨rt,rs,rp⟩,re,ra⟩,hrun⟩:∃o,K.runF p.rules t=o:=⟨_,rfl⟩;rw[hrun] at HPl HR;simp only at HPl HR ⊢;have hC:=HC.out _ HA.out.1;clear hq hrun hru hte R0 Rt ht hpl hp HC
  go_enter func40,ntmps40
  go_wp2_with fail
  refine hC.mono ?_;rintro e w1 ⟨v1,⟨hs,o1,o2⟩,hcomp,rfl,_,b1⟩;obtain⟨hv1,B1,s1⟩:=K.zau b1;have HB1:=qH<|fun o=>B1.alloc B1.size o
  have hor:=HPl.out _ hcomp;simp only at hor;have k0:∀o,(w1.alloc o).cell? ⟨w.heap.size,0,none⟩=some (.string p.name):=fun o=>K.zai (K.zad (i:=0) hv1 rfl) o
  have k1:∀o,(w1.alloc o).cell? ⟨w.heap.size,1,none⟩=some (.slice ro p.rules.length rc):=fun o=>K.zai (K.zad (i:=1) hv1 rfl) o
  clear b1 hC hv1 B1 hcomp
  by_cases hz:o1=0
  ·subst hz;have hq:=hor.2 rfl;simp only[Prod.mk.injEq] at hq;obtain⟨rfl,rfl⟩:=hq;have HRo:=qH<|fun o=>HR.out _ (HB1.out o)
   clear hor HPl HR HT
   go_wp2_with fail
   refine(HRo.out _).mono ?_;rintro e w2 ⟨v2,rfl,d2,b2⟩;obtain⟨va,vc,rfl⟩:∃va vc,v2=.slice va q.length vc:=by obtain⟨a,c,h,_⟩:=d2;exact⟨a,c,h⟩
   have HD:Hid (L.Rd w2 (.slice va q.length vc) .i32 q/\Bl w w2):=⟨d2,(HB1.out _).trans (b2.mono (HB1.out _).size)⟩;clear d2 b2 HRo k0 k1;go_wp2
   go_region
   go_wp2;refine bodyPost_ret (v:=.tuple #[.slice va q.length vc,.int .i64 q1]) (by simp[results,results40,go_sem, *]) rfl ?_
   have hB:∀x y,Bl w2 ((w2.alloc x).alloc y).drew:=fun x y=>(((qR w2).alloc qN _).alloc (by simp) _).drew
   exact⟨_,rfl,HD.out.1.below (hB _ _) qN,HD.out.2.trans ((hB _ _).mono HD.out.2.size)⟩
  ·have hq:=hor.1 hz;simp only[Prod.mk.injEq] at hq;obtain⟨rfl,rfl⟩:=hq;have HTo:=qH<|fun o=>HT.out _ (HB1.out o)
   clear hor HPl HR HT
   go_wp2_with fail
   refine(HTo.out _).mono ?_;rintro e w2 ⟨rfl,b2⟩;obtain⟨h9,B2,s2⟩:=K.zau b2;have HD:=qH<|(HB1.out _).trans (b2.mono (HB1.out _).size);obtain⟨y0,y1,_,_⟩:=K.box2 h9;clear b2 B2 HTo k0 k1;go_wp2
   go_region
   go_wp2;refine bodyPost_ret (v:=.tuple #[.slice none 0 0,.int .i64 q1]) (by simp[results,results40,go_sem, *]) rfl ?_
   exact⟨_,rfl,⟨none,0,rfl,fun _=>rfl,fun h=>absurd rfl h⟩,HD.out.drew⟩
 | false =>
  have h1':¬p.name.toList= []:=by simpa using h1
  rw[if_neg h1'];clear hp R0 Rt;cases h2:(p.name.toList== [117,112,112,101,114]) with
  | true =>
   have h2':=eq_of_beq h2;rw[if_pos h2'];clear h1' h2';simp only
   go_enter func40,ntmps40
   go_wp2
   go_loopw [10,45] (fun i10 i wr=>∃(k:Nat) (o:List Int) (vo:Option Addr) (vc:Nat),k<=t.length/\i=.int .i64 k/\i10=.slice vo o.length vc/\Hid (o=(t.take k).map Cn.up/\wr.ownsRow (w.heap.size+1) 21 1 (.slice vo o.length vc) o.length (K.ints o)/\Bl w wr/\wr.heap[w.heap.size]?=some (.cells #[.string p.name,.slice ro p.rules.length rc] 74))/\o.length<=4000) (fun _ i _=>t.length-(intOf i).toNat)
   case atStart=>exact⟨0,[],none,0,Nat.zero_le _,rfl,rfl,⟨by simp,World.ownsRow_nil _ _ _ _,HA.out.1,HA.out.2⟩,by simp⟩
   case round =>
    obtain⟨k,o,vo,vc,hk,rfl,rfl,HI,hol⟩:=hrel;have kn:wr.cell? ⟨w.heap.size,0,none⟩=some (.string p.name):=K.zad (i:=0) HI.out.2.2.2 rfl
    by_cases hlt:k<t.length
    ·obtain⟨z,hz⟩:∃z,t[k]?=some z:=⟨t[k],by simp[hlt]⟩;obtain⟨ao',cap',e',_,hcs⟩:=HRt.out.below HI.out.2.2.1 qN;cases e';obtain⟨bt,off,rfl,hcell⟩:=hcs (by intro h;subst h;simp at hlt);have c0:=hcell k z hz;have hws:w.heap.size+1<=wr.heap.size:=lt_of_block HI.out.2.2.2;have run0:=Cn.app1 HI.out.2.1 hws (by omega) (Cn.up z);obtain⟨ao1,vc1,w1,run1,own1,kp1,sz1,be1⟩:=run0
     have hol2:o.length+1<=4000:=by
      have h1:=HI.out.1;have h2:o.length=k:=by rw[h1];simp;omega
      omega
     have HN:Hid (o++ [(Cn.up z)]=(t.take (k+1)).map Cn.up/\w1.ownsRow (w.heap.size+1) 21 1 (.slice ao1 (o.length+1) vc1) (o++ [(Cn.up z)]).length (K.ints (o++ [(Cn.up z)]))/\Bl w w1/\w1.heap[w.heap.size]?=some (.cells #[.string p.name,.slice ro p.rules.length rc] 74)/\(o++ [(Cn.up z)]).length=o.length+1):=by
      refine⟨by rw[HI.out.1,List.take_add_one,hz];simp,own1,HI.out.2.2.1.trans (be1.mono (by omega)),?_,by simp⟩;rw[kp1 _ (by omega) (fun e=>by have:=(HI.out.2.1.lt _ e).1;omega)];exact HI.out.2.2.2
     have HC:=qH<|zmv z (by have:=HTx.out z (List.mem_of_getElem? hz);omega) (by have:=HTx.out z (List.mem_of_getElem? hz);omega) wr;clear hcs hcell hz own1 kp1 be1;generalize Cn.up z=y at HC run1 HN
     go_wp2_with (first|(go_at_call 70;refine HC.out.mono ?_;rintro e w' ⟨rfl,rfl⟩)|(at_builtin;refine Lib.wpList_append_run _ rfl _ _ _ _ rfl _ _ rfl rfl _ _ (run1 _) ?_;clear run1))
     go_roundw
     case rel=>exact⟨k+1,o++ [y],ao1,vc1,by omega,by go_num,by rw[HN.out.2.2.2.2],⟨HN.out.1,by rw[HN.out.2.2.2.2];have:=HN.out.2.1;rw[HN.out.2.2.2.2] at this;exact this,HN.out.2.2.1,HN.out.2.2.2.1⟩,by rw[HN.out.2.2.2.2];omega⟩
     case measure=>simp[intOf];omega
    ·go_wp2;refine bodyPost_ret (v:=.tuple #[.slice vo o.length vc,.int .i64 0]) (by simp[results,results40,go_sem, *]) rfl ?_
     have hkl:k=t.length:=by omega
     obtain⟨h1,h2,h3,h4⟩:=HI.out;rw[hkl,List.take_length] at h1;refine⟨_,rfl,?_,h3⟩;rw[<- h1];exact L.Rd.zax h2
  | false =>
   have h2':¬p.name.toList= [117,112,112,101,114]:=by simpa using h2
   rw[if_neg h2'];cases h3:(p.name.toList== [108,111,119,101,114]) with
   | true =>
    have h3':=eq_of_beq h3;rw[if_pos h3'];clear h1' h2' h3';simp only
    go_enter func40,ntmps40
    go_wp2
    go_loopw [10,45] (fun i10 i wr=>∃(k:Nat) (o:List Int) (vo:Option Addr) (vc:Nat),k<=t.length/\i=.int .i64 k/\i10=.slice vo o.length vc/\Hid (o=(t.take k).map Cn.low/\wr.ownsRow (w.heap.size+1) 21 1 (.slice vo o.length vc) o.length (K.ints o)/\Bl w wr/\wr.heap[w.heap.size]?=some (.cells #[.string p.name,.slice ro p.rules.length rc] 74))/\o.length<=4000) (fun _ i _=>t.length-(intOf i).toNat)
    case atStart=>exact⟨0,[],none,0,Nat.zero_le _,rfl,rfl,⟨by simp,World.ownsRow_nil _ _ _ _,HA.out.1,HA.out.2⟩,by simp⟩
    case round =>
     obtain⟨k,o,vo,vc,hk,rfl,rfl,HI,hol⟩:=hrel;have kn:wr.cell? ⟨w.heap.size,0,none⟩=some (.string p.name):=K.zad (i:=0) HI.out.2.2.2 rfl
     by_cases hlt:k<t.length
     ·obtain⟨z,hz⟩:∃z,t[k]?=some z:=⟨t[k],by simp[hlt]⟩;obtain⟨ao',cap',e',_,hcs⟩:=HRt.out.below HI.out.2.2.1 qN;cases e';obtain⟨bt,off,rfl,hcell⟩:=hcs (by intro h;subst h;simp at hlt);have c0:=hcell k z hz;have hws:w.heap.size+1<=wr.heap.size:=lt_of_block HI.out.2.2.2;have run0:=Cn.app1 HI.out.2.1 hws (by omega) (Cn.low z);obtain⟨ao1,vc1,w1,run1,own1,kp1,sz1,be1⟩:=run0
      have hol2:o.length+1<=4000:=by
       have h1:=HI.out.1;have h2:o.length=k:=by rw[h1];simp;omega
       omega
      have HN:Hid (o++ [(Cn.low z)]=(t.take (k+1)).map Cn.low/\w1.ownsRow (w.heap.size+1) 21 1 (.slice ao1 (o.length+1) vc1) (o++ [(Cn.low z)]).length (K.ints (o++ [(Cn.low z)]))/\Bl w w1/\w1.heap[w.heap.size]?=some (.cells #[.string p.name,.slice ro p.rules.length rc] 74)/\(o++ [(Cn.low z)]).length=o.length+1):=by
       refine⟨by rw[HI.out.1,List.take_add_one,hz];simp,own1,HI.out.2.2.1.trans (be1.mono (by omega)),?_,by simp⟩;rw[kp1 _ (by omega) (fun e=>by have:=(HI.out.2.1.lt _ e).1;omega)];exact HI.out.2.2.2
      have HC:=qH<|zmw z (by have:=HTx.out z (List.mem_of_getElem? hz);omega) (by have:=HTx.out z (List.mem_of_getElem? hz);omega) wr;clear hcs hcell hz own1 kp1 be1;generalize Cn.low z=y at HC run1 HN
      go_wp2_with (first|(go_at_call 71;refine HC.out.mono ?_;rintro e w' ⟨rfl,rfl⟩)|(at_builtin;refine Lib.wpList_append_run _ rfl _ _ _ _ rfl _ _ rfl rfl _ _ (run1 _) ?_;clear run1))
      go_roundw
      case rel=>exact⟨k+1,o++ [y],ao1,vc1,by omega,by go_num,by rw[HN.out.2.2.2.2],⟨HN.out.1,by rw[HN.out.2.2.2.2];have:=HN.out.2.1;rw[HN.out.2.2.2.2] at this;exact this,HN.out.2.2.1,HN.out.2.2.2.1⟩,by rw[HN.out.2.2.2.2];omega⟩
      case measure=>simp[intOf];omega
     ·go_wp2;refine bodyPost_ret (v:=.tuple #[.slice vo o.length vc,.int .i64 0]) (by simp[results,results40,go_sem, *]) rfl ?_
      have hkl:k=t.length:=by omega
      obtain⟨h1,h2,h3,h4⟩:=HI.out;rw[hkl,List.take_length] at h1;refine⟨_,rfl,?_,h3⟩;rw[<- h1];exact L.Rd.zax h2
   | false =>
    have h3':¬p.name.toList= [108,111,119,101,114]:=by simpa using h3
    rw[if_neg h3'];cases h4:(p.name.toList== [110,117,108,108]) with
    | true =>
     have h4':=eq_of_beq h4;rw[if_pos h4'];clear h1' h2' h3' h4';simp only
     go_enter func40,ntmps40
     go_wp2
     go_loopw [10,45] (fun i10 i wr=>∃(k:Nat) (o:List Int) (vo:Option Addr) (vc:Nat),k<=t.length/\i=.int .i64 k/\i10=.slice vo o.length vc/\Hid (o=t.take k/\wr.ownsRow (w.heap.size+1) 21 1 (.slice vo o.length vc) o.length (K.ints o)/\Bl w wr/\wr.heap[w.heap.size]?=some (.cells #[.string p.name,.slice ro p.rules.length rc] 74))/\o.length<=4000) (fun _ i _=>t.length-(intOf i).toNat)
     case atStart=>exact⟨0,[],none,0,Nat.zero_le _,rfl,rfl,⟨by simp,World.ownsRow_nil _ _ _ _,HA.out.1,HA.out.2⟩,by simp⟩
     case round =>
      obtain⟨k,o,vo,vc,hk,rfl,rfl,HI,hol⟩:=hrel;have kn:wr.cell? ⟨w.heap.size,0,none⟩=some (.string p.name):=K.zad (i:=0) HI.out.2.2.2 rfl
      by_cases hlt:k<t.length
      ·obtain⟨z,hz⟩:∃z,t[k]?=some z:=⟨t[k],by simp[hlt]⟩;obtain⟨ao',cap',e',_,hcs⟩:=HRt.out.below HI.out.2.2.1 qN;cases e';obtain⟨bt,off,rfl,hcell⟩:=hcs (by intro h;subst h;simp at hlt);have c0:=hcell k z hz;have hws:w.heap.size+1<=wr.heap.size:=lt_of_block HI.out.2.2.2;have run0:=Cn.app1 HI.out.2.1 hws (by omega) z;obtain⟨ao1,vc1,w1,run1,own1,kp1,sz1,be1⟩:=run0
       have hol2:o.length+1<=4000:=by
        have h1:=HI.out.1;have h2:o.length=k:=by rw[h1];simp;omega
        omega
       have HN:Hid (o++ [z]=t.take (k+1)/\w1.ownsRow (w.heap.size+1) 21 1 (.slice ao1 (o.length+1) vc1) (o++ [z]).length (K.ints (o++ [z]))/\Bl w w1/\w1.heap[w.heap.size]?=some (.cells #[.string p.name,.slice ro p.rules.length rc] 74)/\(o++ [z]).length=o.length+1):=by
        refine⟨by rw[HI.out.1,List.take_add_one,hz];simp,own1,HI.out.2.2.1.trans (be1.mono (by omega)),?_,by simp⟩;rw[kp1 _ (by omega) (fun e=>by have:=(HI.out.2.1.lt _ e).1;omega)];exact HI.out.2.2.2
       clear hcs hcell hz own1 kp1 be1
       go_wp2_with (at_builtin;refine Lib.wpList_append_run _ rfl _ _ _ _ rfl _ _ rfl rfl _ _ (run1 _) ?_;clear run1)
       go_roundw
       case rel=>exact⟨k+1,o++ [z],ao1,vc1,by omega,by go_num,by rw[HN.out.2.2.2.2],⟨HN.out.1,by rw[HN.out.2.2.2.2];have:=HN.out.2.1;rw[HN.out.2.2.2.2] at this;exact this,HN.out.2.2.1,HN.out.2.2.2.1⟩,by rw[HN.out.2.2.2.2];omega⟩
       case measure=>simp[intOf];omega
      ·go_wp2;refine bodyPost_ret (v:=.tuple #[.slice vo o.length vc,.int .i64 0]) (by simp[results,results40,go_sem, *]) rfl ?_
       have hkl:k=t.length:=by omega
       obtain⟨h1,h2,h3,h4⟩:=HI.out;rw[hkl,List.take_length] at h1;refine⟨_,rfl,?_,h3⟩;rw[<- h1];exact L.Rd.zax h2
    | false =>
     have h4':¬p.name.toList= [110,117,108,108]:=by simpa using h4
     rw[if_neg h4'];clear h1' h2' h3' h4';simp only
     go_enter func40,ntmps40
     go_wp2
     go_loopw [10,45] (fun i10 i wr=>∃k:Nat,k<=t.length/\i=.int .i64 k/\i10=.slice none 0 0/\Hid (Bl w wr/\wr.heap[w.heap.size]?=some (.cells #[.string p.name,.slice ro p.rules.length rc] 74))) (fun _ i _=>t.length-(intOf i).toNat)
     case atStart=>exact⟨0,Nat.zero_le _,rfl,rfl,HA⟩
     case round =>
      obtain⟨k,hk,rfl,rfl,HI⟩:=hrel;have kn:wr.cell? ⟨w.heap.size,0,none⟩=some (.string p.name):=K.zad (i:=0) HI.out.2 rfl
      by_cases hlt:k<t.length
      ·obtain⟨z,hz⟩:∃z,t[k]?=some z:=⟨t[k],by simp[hlt]⟩;obtain⟨ao',cap',e',_,hcs⟩:=HRt.out.below HI.out.1 qN;cases e';obtain⟨bt,off,rfl,hcell⟩:=hcs (by intro h;subst h;simp at hlt);have c0:=hcell k z hz;clear hcs hcell hz;go_wp2
       go_roundw
       case rel=>exact⟨k+1,by omega,by go_num,rfl,HI⟩
       case measure=>simp[intOf];omega
      ·go_wp2;refine bodyPost_ret (v:=.tuple #[.slice none 0 0,.int .i64 0]) (by simp[results,results40,go_sem, *]) rfl ?_
       exact⟨_,rfl,⟨none,0,rfl,fun _=>rfl,fun h=>absurd rfl h⟩,HI.out.1⟩
