import Derived.Test.YthnmmmkeamcfkaaGreatDoorZPivot3
import Derived.Sort.Walk7a
import Derived.Shelf.Small.Bits
import Derived.Sort.WalkA14
import Derived.Sort.LotD1
set_option maxHeartbeats 0
set_option maxRecDepth 20000
set_option linter.unusedSimpArgs false
set_option linter.unusedVariables false
namespace Go.Proofs.YthnmmmkeamcfkaaGreatDoor
open Go.Proofs.Tryz
section
open Go.RowKit Go.Sort
theorem Z.mix (x:Nat)(y:Int)(hx:x<18446744073709551616)(h0:0<=y)(h1:y<18446744073709551616):∃v:Nat,v<18446744073709551616/\bits .xor .u64 (x:Int) y=(v:Int):=by
 obtain⟨n,rfl⟩:=Int.eq_ofNat_of_zero_le h0;exact⟨_,Nat.xor_lt_two_pow (n:=64) (by omega) (by omega),bits_xor_u64_nat x n hx (by omega)⟩
theorem zov (w:World)(rb X:Nat)(hX:X<18446744073709551616)(hs:w.heap[rb]?=some (.cells #[.int .u64 X] 345)) :
  Calls prog 304 #[.pointer (some ⟨rb,0,none⟩)] w fun e w'=>∃v:Nat,v<18446744073709551616/\e= .returned (.int .u64 v)/\∃k,w'=(w.setCell ⟨rb,0,none⟩ (.int .u64 v)).drewN k:=by
 have c0:w.cell? ⟨rb,0,none⟩=some (.int .u64 X):=K.zad (i:=0) hs rfl;have f0:w.frozen? ⟨rb,0,none⟩=false:=frozen_of_row w _ _ _ _ hs;clear hs;obtain⟨p,hp,e1⟩:=Z.mix X (IntKind.u64.wrap ((X:Int)*8192)) hX (by rw[IntKind.wrap_u64];omega) (by rw[IntKind.wrap_u64];omega);obtain⟨q,hq,e2⟩:=Z.mix p ((p:Int) / 128) hp (by omega) (by omega);obtain⟨v,hv,e3⟩:=Z.mix q (IntKind.u64.wrap ((q:Int)*131072)) hq (by rw[IntKind.wrap_u64];omega) (by rw[IntKind.wrap_u64];omega);have ss:=setCell_setCell w rb 0
 go_enter func304,ntmps304
 go_wp2
 go_region
 all_goals go_wp2
 all_goals go_region
 all_goals go_wp2
 all_goals go_region
 all_goals go_wp2
 all_goals go_ret
 all_goals exact⟨v,hv,rfl,3,rfl⟩
end
section
open Go.Shelf Go.RowKit Go.Sort
shelf_lay Lays.n125 Nm 125 at Tryz as Tryz.lays125
theorem Z.above (n:Nat)(h0:0<n):n<2 ^ bitsLen n/\2 ^ bitsLen n<=2*n:=by
 refine⟨(bitsLen_le_iff n _).1 qN,?_⟩;cases hk:bitsLen n with
 | zero=>simp;omega
 | succ k =>
  have h:¬n<2 ^ k:=fun h=>by
   have:=(bitsLen_le_iff n k).2 h;omega
  rw[Nat.pow_succ];omega
theorem zmm (n:Nat)(h0:0<n)(hn:n<1152921504606846976)(w:World) :
  Calls prog 303 #[.int .i64 n] w fun e w'=>∃k:Nat,n<2 ^ k/\2 ^ k<=2*n/\e= .returned (.int .u64 ((2 ^ k:Nat):Int))/\w'=w:=by
 have hl:=Z.above n h0;have e0:=bitLen_eq n (by omega);generalize bitsLen n=k at hl e0
 have hk:k<=62:=by
  refine Nat.le_of_not_lt fun h=> ?_
  have:(2:Nat) ^ 63<=2 ^ k:=Nat.pow_le_pow_right (by decide) h;omega
 have hL:Hid (∀w,Calls prog 284 #[.int .u64 (n:Int)] w fun e w'=>e= .returned (.int .i64 (k:Int))/\w'=w):=fun w=>by
  have h:=Any.bits_Len Tryz.lays125 (n:Int) w (by omega) (by omega);rw[Int.toNat_natCast,e0] at h;exact h
 have hp:=wrap_two_pow k hk;have HE:=qH hl;have hsh:((1 <<< k:Nat):Int)=((2 ^ k:Nat):Int):=by rw[Nat.one_shiftLeft]
 clear hl e0
 go_enter func303,ntmps303
 go_wp2_with (first | (go_at_call 284;refine(hL.out _).mono ?_;rintro e w' ⟨rfl,rfl⟩))
 go_ret;exact⟨k,HE.out.1,HE.out.2,(by show Ending.returned (.int .u64 ((2:Int) ^ k))=_;rw[show (((2 ^ k:Nat)):Int)=(2:Int) ^ k by push_cast;rfl]),rfl⟩
end
section
open Go.RowKit Go.Sort
namespace Z
theorem Top.set {w wr:World}{blk off rb:Nat}{d:Array Int}(h:Go.Sort.At en w blk off d wr)(hr:w.heap.size<=rb)(v:Value):Go.Sort.At en w blk off d (wr.setCell ⟨rb,0,none⟩ v):=by
 obtain⟨n,os,rfl⟩:=h;refine⟨n,os.modify (rb - w.heap.size) (onCells (·.setIfInBounds 0 v)),?_⟩;rw[setCell_eq,mapBlock_grow_new _ _ _ _ (by simpa using hr)];simp
theorem Top.alloc {w:World}{blk off:Nat}{d:Array Int}(h:Holds en w blk off d)(o:Obj):Go.Sort.At en w blk off d (w.alloc o):=⟨0,#[o],by rw[ahead_zero,putRow_self en w blk off d h,alloc_eq_grow]⟩
theorem Top.swap {w wr:World}{blk off:Nat}{d0 e:Array Int}(h:Go.Sort.At en w blk off e wr)(h0:Holds en w blk off d0)(hs:e.size=d0.size)(hb:blk<w.heap.size){i j:Nat}(hi:i<e.size)(hj:j<e.size)(q:Nat) :
  Go.Sort.At en w blk off (swp e i j) (((wr.drewN q).setCell ⟨blk,off+i,none⟩ (.int .i32 e[j]!)).setCell ⟨blk,off+j,none⟩ (.int .i32 e[i]!)):=by
 have h1:Z.At wr blk off e.size (swp e i j) _:=(Z.At.start (h.holds h0 hs hb).1).swap hi hj q;exact h.step hb (size_swp _ _ _) h1.2
def Br (w:World) (blk off a n:Nat) (d e:Array Int) (wr:World):Prop:=Go.Sort.At en w blk off e wr/\PermIn a (a+n) d e/\∃X:Nat,X<18446744073709551616/\wr.heap[w.heap.size]?=some (.cells #[.int .u64 X] 345)
theorem Br.next {w wr:World}{blk off a n:Nat}{d e:Array Int}(h:Br w blk off a n d e wr)(v k:Nat)(hv:v<18446744073709551616):Br w blk off a n d e ((wr.setCell ⟨w.heap.size,0,none⟩ (.int .u64 v)).drewN k):=by
 obtain⟨h1,h2,X,hX,h3⟩:=h;exact⟨(Top.set h1 qN _).ahead k,h2,v,hv,heap_setCell_same wr w.heap.size 0 _ _ _ h3⟩
theorem Br.swap {w wr:World}{blk off a n:Nat}{d e:Array Int}(h:Br w blk off a n d e wr)(h0:Holds en w blk off d)(hb:blk<w.heap.size)(hn:a+n<=d.size){i j:Nat}(hi:a<=i/\i<a+n)(hj:a<=j/\j<a+n)(q:Nat) :
  Br w blk off a n d (swp e i j) (((wr.drewN q).setCell ⟨blk,off+i,none⟩ (.int .i32 e[j]!)).setCell ⟨blk,off+j,none⟩ (.int .i32 e[i]!)):=by
 obtain⟨h1,h2,X,hX,h3⟩:=h;have hs:=h2.1;refine⟨Top.swap h1 h0 hs hb (by omega) (by omega) q,permIn_trans _ _ _ _ _ h2 (swp_permIn e a (a+n) i j hi.1 hi.2 hj.1 hj.2 (by omega)),X,hX,?_⟩;rw[heap_setCell_other _ _ _ _ (show w.heap.size≠blk by omega),heap_setCell_other _ _ _ _ (show w.heap.size≠blk by omega)];exact h3
theorem zw2 (v M:Nat)(h0:0<M):v &&& (M - 1)<M:=Nat.lt_of_le_of_lt Nat.and_le_right (by omega)
end Z
theorem zmo (w:World)(blk off cap a n:Nat)(d:Array Int)(hH:Holds Z.en w blk off d)(hn:a+n<=d.size)(h8:8<=n)(hsz:d.size<1152921504606846976) :
  Calls prog 291 #[.slice (some ⟨blk,off,none⟩) d.size cap,.int .i64 a,.int .i64 ((a+n:Nat):Int)] w fun e w'=>e= .returned (.tuple #[])/\∃d',PermIn a (a+n) d d'/\Go.Sort.At Z.en w blk off d' w':=by
 have hbl:blk<w.heap.size:=World.block_lt_of_cell? w _ (hH 0 (by omega)).1;have hne:¬blk=w.heap.size:=by omega
 have HH:=qH hH;have HS:Hid (Z.Br w blk off a n d d (w.alloc (.cells #[.int .u64 n] 345))):=⟨Z.Top.alloc hH _,permIn_refl _ _ _,n,by omega,(by show (w.heap.push _)[w.heap.size]?=_;exact Array.getElem?_push_size)⟩;clear hH;obtain⟨q,hq⟩:∃q,4*q<=n/\n<=4*q+3:=⟨n / 4,by omega⟩;obtain⟨i0,hi0⟩:∃i0,a+q*2<=i0+1/\i0+1<=a+q*2:=⟨a+q*2 - 1,by omega⟩;have hP:=qH <| zmm n (by omega) (by omega)
 go_enter func291,ntmps291
 go_wp2_with fail
 rw[show ((a:Int)+n - a)=(n:Int) by omega]
 go_at_call 303
 refine(hP.out _).mono ?_;rintro _ w1 ⟨k,hk1,hk2,rfl,rfl⟩;generalize 2 ^ k=M at hk1 hk2
 go_wp2_with fail
 rw[show ((n:Int) / 4)=(q:Int) by omega,show ((a:Int)+q*2 - 1)=(i0:Int) by omega]
 go_loopw [9] (fun v9 wr=>∃(i:Nat) (e:Array Int),v9= .int .i64 i/\i0<=i/\i<=i0+3/\Hid (Z.Br w blk off a n d e wr)) (fun v9 _=>i0+3 - (RowKit.intOf v9).toNat)
 case atStart=>exact⟨i0,d,rfl,qN,by omega,HS.out⟩
 case round =>
  obtain⟨i,e,rfl,hi1,hi2,HB⟩:=hrel;clear HS
  by_cases hlt:i<i0+3
  ·obtain⟨_,_,X,hX,hbx⟩:=HB.out;have hN:Hid (∀W,W=wr->Calls prog 304 #[.pointer (some ⟨w.heap.size,0,none⟩)] W fun e w'=>∃v:Nat,v<18446744073709551616/\e= .returned (.int .u64 v)/\∃k,w'=(W.setCell ⟨w.heap.size,0,none⟩ (.int .u64 v)).drewN k):=fun W hW=>by subst hW;exact zov W w.heap.size X hX hbx
   clear hbx
   go_wp2_with fail
   go_at_call 304
   refine(hN.out _ rfl).mono ?_;rintro _ w2 ⟨v,hv,rfl,k2,hw2⟩;have HB2:Hid (Z.Br w blk off a n d e w2):=by rw[hw2];exact HB.out.next v k2 hv
   clear hw2 hN HB;obtain⟨o,ho,ho1⟩:∃o:Nat,bits .and .u64 (v:Int) ((M:Int) - 1)=(o:Int)/\o<M:=⟨v &&& (M - 1),by rw[show ((M:Int) - 1)=((M - 1:Nat):Int) by omega,bits_and_u64_nat _ _ hv (by omega)],Z.zw2 v M (by omega)⟩
   go_upto_if 43 with fail
   go_cut [10] (fun v10 wx=>∃c:Nat,v10= .int .i64 c/\c<n/\wx=w2)
   case first =>
    by_cases hc:n<=o
    ·go_wp2
     go_meet
     case rel=>exact⟨o - n,by congr 1;omega,by omega,rfl⟩
    ·go_wp2
     go_meet
     case rel=>exact⟨o,rfl,by omega,rfl⟩
   case rest =>
    obtain⟨c,rfl,hc,rfl⟩:=hcut;clear ho ho1;have hes:=HB2.out.2.1.1;have HES:=qH hes;clear hes;obtain⟨G,hG⟩:∃G:Nat->Int,∀t,G t=e[t]! := ⟨fun t=>e[t]!,fun _=>rfl⟩;have hcw:∀t,t<d.size->wc.cell? ⟨blk,off+t,none⟩=some (.int .i32 (G t)):=fun t ht=>by rw[hG];exact((HB2.out.1.holds HH.out HES.out hbl).1 t (by have:=HES.out;omega)).1
    have hfw:∀t,t<d.size->wc.frozen? ⟨blk,off+t,none⟩=false:=fun t ht=>((HB2.out.1.holds HH.out HES.out hbl).1 t (by have:=HES.out;omega)).2
    have hsw:=HB2.out.swap HH.out hbl hn (i:=i) (j:=a+c) (by omega) (by omega) 1;rw[<- hG,<- hG] at hsw;have HSw:=qH hsw;clear hsw hG HB2;obtain⟨v',x1⟩:∃v',((wc.setCell ⟨blk,off+i,none⟩ (.int .i32 (G (a+c)))).drew).cell? ⟨blk,off+(a+c),none⟩=some v':=cell?_setCell_some (w:=wc) (p:=⟨blk,off+i,none⟩) (x:= .int .i32 (G (a+c))) (q:=⟨blk,off+(a+c),none⟩) (hcw (a+c) (by omega));have x2:((wc.setCell ⟨blk,off+i,none⟩ (.int .i32 (G (a+c)))).drew).frozen? ⟨blk,off+(a+c),none⟩=false:=(World.frozen?_setCell _ _ _ _).trans (hfw (a+c) (by omega))
    go_wp2_with fail
    go_region
    all_goals go_wp2
    go_roundw
    case rel=>exact⟨i+1,_,by go_num,by omega,by omega,HSw.out⟩
    case measure=>simp[RowKit.intOf];omega
  ·go_wp2
   go_end0
   exact⟨rfl,e,HB.out.2.1,HB.out.1⟩
end
section
open Go.RowKit Go.Sort
theorem zse (w:World)(blk off cap a b:Nat)(d:Array Int)(h0:Holds Z.en w blk off d)(hab:a<=b)(hb:b<=d.size)(hsz:d.size<4611686018427387904) :
  Calls prog 289 #[.slice (some ⟨blk,off,none⟩) d.size cap,.int .i64 a,.int .i64 b] w fun e w'=>e= .returned (.tuple #[])/\Z.At w blk off d.size (insertionSort ltInt d a b) w':=by
 have H0:=qH h0;have HS:=qH <| Z.At.start h0;clear h0
 go_enter func289,ntmps289
 go_wp2
 go_loopw [6] (fun vi wr=>∃(i:Nat) (e:Array Int),vi= .int .i64 i/\a<i/\i<=b+1/\Hid (Z.At w blk off d.size e wr/\insOuter ltInt a b i e=insOuter ltInt a b (a+1) d)) (fun vi _=>b+1 - (RowKit.intOf vi).toNat)
 case atStart=>exact⟨a+1,d,by go_num,by omega,by omega,HS.out,rfl⟩
 case round =>
  obtain⟨i,e,rfl,hai,hib,HE⟩:=hrel;clear HS
  by_cases hlt:i<b
  ·go_wp2
   go_loopw [7] (fun vj w2=>∃(j:Nat) (f:Array Int),vj= .int .i64 j/\a<=j/\j<=i/\Hid (Z.At w blk off d.size f w2/\insInner ltInt a j f=insInner ltInt a i e)) (fun vj _=>(RowKit.intOf vj).toNat)
   case atStart=>exact⟨i,e,rfl,by omega,qN,HE.out.1,rfl⟩
   case round =>
    obtain⟨j,f,rfl,haj,hji,HF⟩:=hrel;obtain⟨G,hG⟩:∃G:Nat->Int,∀t,G t=f[t]! := ⟨fun t=>f[t]!,fun _=>rfl⟩;have hcw:∀t,t<d.size->wr.cell? ⟨blk,off+t,none⟩=some (.int .i32 (G t)):=fun t ht=>by rw[hG];exact HF.out.1.cell H0.out rfl ht
    have hfw:∀t,t<d.size->wr.frozen? ⟨blk,off+t,none⟩=false:=fun t ht=>HF.out.1.free H0.out rfl ht
    have HG:=qH hG;have HOut:Hid ((j<=a∨ltInt f[j]! f[j - 1]! = false)->∀q,Z.At w blk off d.size f (wr.drewN q)/\insOuter ltInt a b (i+1) f=insOuter ltInt a b (a+1) d):=fun hs q=>⟨HF.out.1.drew q,by rw[<- HE.out.2,insOuter_go _ _ _ _ _ hlt,<- HF.out.2,insInner_stop _ _ _ _ hs]⟩
    clear hG;go_wp2
    by_cases hja:a<j
    ·go_quiet (first | (go_at_call 295;refine Calls.quiet_of_same (zaq _ _ _)))
     go_wp2
     ·have hl:ltInt (G j) (G (j - 1))=true:=by assumption
      go_region
      all_goals go_wp2
      go_roundw
      case rel =>
       refine⟨j - 1,swp f j (j - 1),by congr 1;omega,by omega,by omega,?_,?_⟩
       ·have:=HF.out.1.swap (i:=j) (j:=j - 1) (by omega) (by omega) (nq+1);rw[HG.out,HG.out];exact this
       ·rw[<- HF.out.2,insInner_go ltInt a j f hja (by rw[<- HG.out,<- HG.out];exact hl)]
      case measure=>simp[RowKit.intOf];omega
     ·have hl:ltInt (G j) (G (j - 1))=false:=by assumption
      go_roundw
      case rel=>exact⟨i+1,f,by go_num,by omega,by omega,HOut.out (.inr (by rw[<- HG.out,<- HG.out];exact hl)) nq⟩
      case measure=>simp[RowKit.intOf];omega
    ·go_quiet (first | (go_at_call 295;refine Calls.quiet_of_same (zaq _ _ _)))
     go_wp2
     go_roundw
     case rel=>exact⟨i+1,f,by go_num,by omega,by omega,HOut.out (.inl (by omega)) nq⟩
     case measure=>simp[RowKit.intOf];omega
  ·go_wp2
   go_end0
   exact⟨rfl,by unfold insertionSort;rw[<- HE.out.2,insOuter_stop _ _ _ _ _ hlt];exact HE.out.1⟩
