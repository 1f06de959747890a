import Derived.Test.YtcadaallpiekiaaGreatDoorZNext
import Derived.Shelf.Small.Bits
import Derived.Sort.WalkA14
import Derived.Sort.LotD1
import Derived.Deep.CutBlock
import Derived.Sort.WalkA6
import Derived.Sort.WalkC4
set_option maxHeartbeats 0
set_option maxRecDepth 20000
set_option linter.unusedSimpArgs false
set_option linter.unusedVariables false
namespace Go.Proofs.YtcadaallpiekiaaGreatDoor
open Go.Proofs.Tryz
section
open Go.Shelf Go.RowKit Go.Sort
shelf_lay Lays.n125 Nm 125 at Tryz as Tryz.lays125
theorem Z.above (n:Nat)(h0:0<n):n<2 ^ bitsLen n/\2 ^ bitsLen n<=2*n:=by
 refine⟨(bitsLen_le_iff n _).1 qN,?_⟩;cases hk:bitsLen n with
 | zero=>simp;omega
 | succ k =>
  have h:¬n<2 ^ k:=fun h=>by
   have:=(bitsLen_le_iff n k).2 h;omega
  rw[Nat.pow_succ];omega
theorem zmc (n:Nat)(h0:0<n)(hn:n<1152921504606846976)(w:World) :
  Calls prog 244 #[.int .i64 n] w fun e w'=>∃k:Nat,n<2 ^ k/\2 ^ k<=2*n/\e=.returned (.int .u64 ((2 ^ k:Nat):Int))/\w'=w:=by
 have hl:=Z.above n h0;have e0:=bitLen_eq n (by omega);generalize bitsLen n=k at hl e0
 have hk:k<=62:=by
  refine Nat.le_of_not_lt fun h=> ?_
  have:(2:Nat) ^ 63<=2 ^ k:=Nat.pow_le_pow_right (by decide) h;omega
 have hL:Hid (∀w,Calls prog 224 #[.int .u64 (n:Int)] w fun e w'=>e=.returned (.int .i64 (k:Int))/\w'=w):=fun w=>by
  have h:=Any.bits_Len Tryz.lays125 (n:Int) w (by omega) (by omega);rw[Int.toNat_natCast,e0] at h;exact h
 have hp:=wrap_two_pow k hk;have HE:=qH hl;have hsh:((1 <<< k:Nat):Int)=((2 ^ k:Nat):Int):=by rw[Nat.one_shiftLeft]
 clear hl e0
 go_enter func244,ntmps244
 go_wp2_with (first|(go_at_call 224;refine(hL.out _).mono ?_;rintro e w' ⟨rfl,rfl⟩))
 go_ret;exact⟨k,HE.out.1,HE.out.2,(by show Ending.returned (.int .u64 ((2:Int) ^ k))=_;rw[show (((2 ^ k:Nat)):Int)=(2:Int) ^ k by push_cast;rfl]),rfl⟩
end
section
open Go.RowKit Go.Sort
namespace Z
theorem Top.set {w wr:World}{blk off rb:Nat}{d:Array Int}(h:Go.Sort.At en w blk off d wr)(hr:w.heap.size<=rb)(v:Value):Go.Sort.At en w blk off d (wr.setCell ⟨rb,0,none⟩ v):=by
 obtain⟨n,os,rfl⟩:=h;refine⟨n,os.modify (rb-w.heap.size) (onCells (·.setIfInBounds 0 v)),?_⟩;rw[setCell_eq,mapBlock_grow_new _ _ _ _ (by simpa using hr)];simp
theorem Top.alloc {w:World}{blk off:Nat}{d:Array Int}(h:Holds en w blk off d)(o:Obj):Go.Sort.At en w blk off d (w.alloc o):=⟨0,#[o],by rw[ahead_zero,putRow_self en w blk off d h,alloc_eq_grow]⟩
theorem Top.swap {w wr:World}{blk off:Nat}{d0 e:Array Int}(h:Go.Sort.At en w blk off e wr)(h0:Holds en w blk off d0)(hs:e.size=d0.size)(hb:blk<w.heap.size){i j:Nat}(hi:i<e.size)(hj:j<e.size)(q:Nat) :
  Go.Sort.At en w blk off (swp e i j) (((wr.drewN q).setCell ⟨blk,off+i,none⟩ (.int .i32 e[j]!)).setCell ⟨blk,off+j,none⟩ (.int .i32 e[i]!)):=by
 have h1:Z.At wr blk off e.size (swp e i j) _:=(Z.At.start (h.holds h0 hs hb).1).swap hi hj q;exact h.step hb (size_swp _ _ _) h1.2
def Br (w:World) (blk off a n:Nat) (d e:Array Int) (wr:World):Prop:=Go.Sort.At en w blk off e wr/\PermIn a (a+n) d e/\∃X:Nat,X<18446744073709551616/\wr.heap[w.heap.size]?=some (.cells #[.int .u64 X] 278)
theorem Br.next {w wr:World}{blk off a n:Nat}{d e:Array Int}(h:Br w blk off a n d e wr)(v k:Nat)(hv:v<18446744073709551616):Br w blk off a n d e ((wr.setCell ⟨w.heap.size,0,none⟩ (.int .u64 v)).drewN k):=by
 obtain⟨h1,h2,X,hX,h3⟩:=h;exact⟨(Top.set h1 qN _).ahead k,h2,v,hv,heap_setCell_same wr w.heap.size 0 _ _ _ h3⟩
theorem Br.swap {w wr:World}{blk off a n:Nat}{d e:Array Int}(h:Br w blk off a n d e wr)(h0:Holds en w blk off d)(hb:blk<w.heap.size)(hn:a+n<=d.size){i j:Nat}(hi:a<=i/\i<a+n)(hj:a<=j/\j<a+n)(q:Nat) :
  Br w blk off a n d (swp e i j) (((wr.drewN q).setCell ⟨blk,off+i,none⟩ (.int .i32 e[j]!)).setCell ⟨blk,off+j,none⟩ (.int .i32 e[i]!)):=by
 obtain⟨h1,h2,X,hX,h3⟩:=h;have hs:=h2.1;refine⟨Top.swap h1 h0 hs hb (by omega) (by omega) q,permIn_trans _ _ _ _ _ h2 (swp_permIn e a (a+n) i j hi.1 hi.2 hj.1 hj.2 (by omega)),X,hX,?_⟩;rw[heap_setCell_other _ _ _ _ (show w.heap.size≠blk by omega),heap_setCell_other _ _ _ _ (show w.heap.size≠blk by omega)];exact h3
theorem zvk (v M:Nat)(h0:0<M):v &&& (M-1)<M:=Nat.lt_of_le_of_lt Nat.and_le_right (by omega)
end Z
theorem zme (w:World)(blk off cap a n:Nat)(d:Array Int)(hH:Holds Z.en w blk off d)(hn:a+n<=d.size)(h8:8<=n)(hsz:d.size<1152921504606846976) :
  Calls prog 229 #[.slice (some ⟨blk,off,none⟩) d.size cap,.int .i64 a,.int .i64 ((a+n:Nat):Int)] w fun e w'=>e=.returned (.tuple #[])/\∃d',PermIn a (a+n) d d'/\Go.Sort.At Z.en w blk off d' w':=by
 have hbl:blk<w.heap.size:=World.block_lt_of_cell? w _ (hH 0 (by omega)).1;have hne:¬blk=w.heap.size:=by omega
 have HH:=qH hH;have HS:Hid (Z.Br w blk off a n d d (w.alloc (.cells #[.int .u64 n] 278))):=⟨Z.Top.alloc hH _,permIn_refl _ _ _,n,by omega,(by show (w.heap.push _)[w.heap.size]?=_;exact Array.getElem?_push_size)⟩;clear hH;obtain⟨q,hq⟩:∃q,4*q<=n/\n<=4*q+3:=⟨n / 4,by omega⟩;obtain⟨i0,hi0⟩:∃i0,a+q*2<=i0+1/\i0+1<=a+q*2:=⟨a+q*2-1,by omega⟩;have hP:=qH<|zmc n (by omega) (by omega)
 go_enter func229,ntmps229
 go_wp2_with fail
 rw[show ((a:Int)+n-a)=(n:Int) by omega]
 go_at_call 244
 refine(hP.out _).mono ?_;rintro _ w1 ⟨k,hk1,hk2,rfl,rfl⟩;generalize 2 ^ k=M at hk1 hk2
 go_wp2_with fail
 rw[show ((n:Int) / 4)=(q:Int) by omega,show ((a:Int)+q*2-1)=(i0:Int) by omega]
 go_loopw [9] (fun v9 wr=>∃(i:Nat) (e:Array Int),v9=.int .i64 i/\i0<=i/\i<=i0+3/\Hid (Z.Br w blk off a n d e wr)) (fun v9 _=>i0+3-(RowKit.intOf v9).toNat)
 case atStart=>exact⟨i0,d,rfl,qN,by omega,HS.out⟩
 case round =>
  obtain⟨i,e,rfl,hi1,hi2,HB⟩:=hrel;clear HS
  by_cases hlt:i<i0+3
  ·obtain⟨_,_,X,hX,hbx⟩:=HB.out;have hN:Hid (∀W,W=wr->Calls prog 245 #[.pointer (some ⟨w.heap.size,0,none⟩)] W fun e w'=>∃v:Nat,v<18446744073709551616/\e=.returned (.int .u64 v)/\∃k,w'=(W.setCell ⟨w.heap.size,0,none⟩ (.int .u64 v)).drewN k):=fun W hW=>by subst hW;exact zoa W w.heap.size X hX hbx
   clear hbx
   go_wp2_with fail
   go_at_call 245
   refine(hN.out _ rfl).mono ?_;rintro _ w2 ⟨v,hv,rfl,k2,hw2⟩;have HB2:Hid (Z.Br w blk off a n d e w2):=by rw[hw2];exact HB.out.next v k2 hv
   clear hw2 hN HB;obtain⟨o,ho,ho1⟩:∃o:Nat,bits .and .u64 (v:Int) ((M:Int)-1)=(o:Int)/\o<M:=⟨v &&& (M-1),by rw[show ((M:Int)-1)=((M-1:Nat):Int) by omega,bits_and_u64_nat _ _ hv (by omega)],Z.zvk v M (by omega)⟩
   go_upto_if 43 with fail
   go_cut [10] (fun v10 wx=>∃c:Nat,v10=.int .i64 c/\c<n/\wx=w2)
   case first =>
    by_cases hc:n<=o
    ·go_wp2
     go_meet
     case rel=>exact⟨o-n,by congr 1;omega,by omega,rfl⟩
    ·go_wp2
     go_meet
     case rel=>exact⟨o,rfl,by omega,rfl⟩
   case rest =>
    obtain⟨c,rfl,hc,rfl⟩:=hcut;clear ho ho1;have hes:=HB2.out.2.1.1;have HES:=qH hes;clear hes;obtain⟨G,hG⟩:∃G:Nat->Int,∀t,G t=e[t]! := ⟨fun t=>e[t]!,fun _=>rfl⟩;have hcw:∀t,t<d.size->wc.cell? ⟨blk,off+t,none⟩=some (.int .i32 (G t)):=fun t ht=>by rw[hG];exact((HB2.out.1.holds HH.out HES.out hbl).1 t (by have:=HES.out;omega)).1
    have hfw:∀t,t<d.size->wc.frozen? ⟨blk,off+t,none⟩=false:=fun t ht=>((HB2.out.1.holds HH.out HES.out hbl).1 t (by have:=HES.out;omega)).2
    have hsw:=HB2.out.swap HH.out hbl hn (i:=i) (j:=a+c) (by omega) (by omega) 1;rw[<- hG,<- hG] at hsw;have HSw:=qH hsw;clear hsw hG HB2;obtain⟨v',x1⟩:∃v',((wc.setCell ⟨blk,off+i,none⟩ (.int .i32 (G (a+c)))).drew).cell? ⟨blk,off+(a+c),none⟩=some v':=cell?_setCell_some (w:=wc) (p:=⟨blk,off+i,none⟩) (x:=.int .i32 (G (a+c))) (q:=⟨blk,off+(a+c),none⟩) (hcw (a+c) (by omega));have x2:((wc.setCell ⟨blk,off+i,none⟩ (.int .i32 (G (a+c)))).drew).frozen? ⟨blk,off+(a+c),none⟩=false:=(World.frozen?_setCell _ _ _ _).trans (hfw (a+c) (by omega))
    go_wp2_with fail
    go_region
    all_goals go_wp2
    go_roundw
    case rel=>exact⟨i+1,_,by go_num,by omega,by omega,HSw.out⟩
    case measure=>simp[RowKit.intOf];omega
  ·go_wp2
   go_end0
   exact⟨rfl,e,HB.out.2.1,HB.out.1⟩
theorem zrb (w:World)(blk off cap a b:Nat)(d:Array Int)(h0:Holds Z.en w blk off d)(hab:a<=b)(hb:b<=d.size)(hsz:d.size<4611686018427387904) :
  Calls prog 227 #[.slice (some ⟨blk,off,none⟩) d.size cap,.int .i64 a,.int .i64 b] w fun e w'=>e=.returned (.tuple #[])/\Z.At w blk off d.size (insertionSort ltInt d a b) w':=by
 have H0:=qH h0;have HS:=qH<|Z.At.start h0;clear h0
 go_enter func227,ntmps227
 go_wp2
 go_loopw [6] (fun vi wr=>∃(i:Nat) (e:Array Int),vi=.int .i64 i/\a<i/\i<=b+1/\Hid (Z.At w blk off d.size e wr/\insOuter ltInt a b i e=insOuter ltInt a b (a+1) d)) (fun vi _=>b+1-(RowKit.intOf vi).toNat)
 case atStart=>exact⟨a+1,d,by go_num,by omega,by omega,HS.out,rfl⟩
 case round =>
  obtain⟨i,e,rfl,hai,hib,HE⟩:=hrel;clear HS
  by_cases hlt:i<b
  ·go_wp2
   go_loopw [7] (fun vj w2=>∃(j:Nat) (f:Array Int),vj=.int .i64 j/\a<=j/\j<=i/\Hid (Z.At w blk off d.size f w2/\insInner ltInt a j f=insInner ltInt a i e)) (fun vj _=>(RowKit.intOf vj).toNat)
   case atStart=>exact⟨i,e,rfl,by omega,qN,HE.out.1,rfl⟩
   case round =>
    obtain⟨j,f,rfl,haj,hji,HF⟩:=hrel;obtain⟨G,hG⟩:∃G:Nat->Int,∀t,G t=f[t]! := ⟨fun t=>f[t]!,fun _=>rfl⟩;have hcw:∀t,t<d.size->wr.cell? ⟨blk,off+t,none⟩=some (.int .i32 (G t)):=fun t ht=>by rw[hG];exact HF.out.1.cell H0.out rfl ht
    have hfw:∀t,t<d.size->wr.frozen? ⟨blk,off+t,none⟩=false:=fun t ht=>HF.out.1.free H0.out rfl ht
    have HG:=qH hG;have HOut:Hid ((j<=a∨ltInt f[j]! f[j-1]! = false)->∀q,Z.At w blk off d.size f (wr.drewN q)/\insOuter ltInt a b (i+1) f=insOuter ltInt a b (a+1) d):=fun hs q=>⟨HF.out.1.drew q,by rw[<- HE.out.2,insOuter_go _ _ _ _ _ hlt,<- HF.out.2,insInner_stop _ _ _ _ hs]⟩
    clear hG;go_wp2
    by_cases hja:a<j
    ·go_quiet (first|(go_at_call 233;refine Calls.quiet_of_same (zao _ _ _)))
     go_wp2
     ·have hl:ltInt (G j) (G (j-1))=true:=by assumption
      go_region
      all_goals go_wp2
      go_roundw
      case rel =>
       refine⟨j-1,swp f j (j-1),by congr 1;omega,by omega,by omega,?_,?_⟩
       ·have:=HF.out.1.swap (i:=j) (j:=j-1) (by omega) (by omega) (nq+1);rw[HG.out,HG.out];exact this
       ·rw[<- HF.out.2,insInner_go ltInt a j f hja (by rw[<- HG.out,<- HG.out];exact hl)]
      case measure=>simp[RowKit.intOf];omega
     ·have hl:ltInt (G j) (G (j-1))=false:=by assumption
      go_roundw
      case rel=>exact⟨i+1,f,by go_num,by omega,by omega,HOut.out (.inr (by rw[<- HG.out,<- HG.out];exact hl)) nq⟩
      case measure=>simp[RowKit.intOf];omega
    ·go_quiet (first|(go_at_call 233;refine Calls.quiet_of_same (zao _ _ _)))
     go_wp2
     go_roundw
     case rel=>exact⟨i+1,f,by go_num,by omega,by omega,HOut.out (.inl (by omega)) nq⟩
     case measure=>simp[RowKit.intOf];omega
  ·go_wp2
   go_end0
   exact⟨rfl,by unfold insertionSort;rw[<- HE.out.2,insOuter_stop _ _ _ _ _ hlt];exact HE.out.1⟩
theorem zh3 (w:World)(blk off cap a b:Nat)(d:Array Int)(h0:Holds Z.en w blk off d)(hab:a<b)(hb:b<=d.size)(hsz:d.size<1152921504606846976) :
  Calls prog 232 #[.slice (some ⟨blk,off,none⟩) d.size cap,.int .i64 a,.int .i64 b] w fun e w'=>e=.returned (.bool (partialInsertionSort ltInt d a b).2)/\Z.At w blk off d.size (partialInsertionSort ltInt d a b).1 w':=by
 have H0:=qH h0;have HS:=qH<|Z.At.start h0;clear h0
 go_enter func232,ntmps232
 go_wp2
 go_loopw [7,8] (fun v7 v8 wr=>∃(i s:Nat) (e:Array Int),v7=.int .i64 i/\v8=.int .i64 s/\s<=5/\a<i/\i<=b/\Hid (Z.At w blk off d.size e wr/\partialIns ltInt a b (5-s) i e=partialIns ltInt a b 5 (a+1) d)) (fun _ v8 _=>5-(RowKit.intOf v8).toNat)
 case atStart=>exact⟨a+1,0,d,by go_num,rfl,by omega,by omega,by omega,HS.out,rfl⟩
 case round =>
  obtain⟨i,s,e,rfl,rfl,hs5,hai,hib,HE⟩:=hrel;clear HS
  by_cases hs:s<5
  ·go_upto_block 2 with fail
   go_cut [7] (fun v7 wx=>∃k:Nat,v7=.int .i64 k/\i<=k/\k<=b/\Hid (Z.At w blk off d.size e wx/\scanSorted ltInt e b i=k))
   case first =>
    go_wp2
    go_loopw [7] (fun v7 wx=>∃k:Nat,v7=.int .i64 k/\i<=k/\k<=b/\Hid (Z.At w blk off d.size e wx/\scanSorted ltInt e b k=scanSorted ltInt e b i)) (fun v7 _=>b-(RowKit.intOf v7).toNat)
    case atStart=>exact⟨i,rfl,qN,hib,HE.out.1,rfl⟩
    case round =>
     obtain⟨k,rfl,hik,hkb,HK⟩:=hrel;obtain⟨G,hG⟩:∃G:Nat->Int,∀t,G t=e[t]! := ⟨fun t=>e[t]!,fun _=>rfl⟩;have hcw:∀t,t<d.size->wr.cell? ⟨blk,off+t,none⟩=some (.int .i32 (G t)):=fun t ht=>by rw[hG];exact HK.out.1.cell H0.out rfl ht
     have HG:=qH hG;clear hG
     by_cases hk:k<b
     ·go_wp2
      go_quiet (first|(go_at_call 233;refine Calls.quiet_of_same (zao _ _ _)))
      cases hl:ltInt (G k) (G (k-1)) with
      | false =>
       go_wp2
       go_roundw
       case rel=>exact⟨k+1,by go_num,by omega,by omega,HK.out.1.drew _,by rw[<- HK.out.2,scanSorted_go ltInt e b k hk (by rw[<- HG.out,<- HG.out];exact hl)]⟩
       case measure=>simp[RowKit.intOf];omega
      | true =>
       go_wp2
       go_meet
       case rel=>exact⟨k,rfl,hik,hkb,HK.out.1.drew _,by rw[<- HK.out.2,scanSorted_stop ltInt e b k (.inr (by rw[<- HG.out,<- HG.out];exact hl))]⟩
     ·go_wp2
      go_quiet (first|(go_at_call 233;refine Calls.quiet_of_same (zao _ _ _)))
      go_wp2
      go_meet
      case rel=>exact⟨k,rfl,hik,hkb,HK.out.1.drew _,by rw[<- HK.out.2,scanSorted_stop ltInt e b k (.inl hk)]⟩
   case rest =>
    obtain⟨k,rfl,hik,hkb,HK⟩:=hcut
    by_cases hkb2:k=b
    ·subst hkb2;go_wp2;go_ret
     have h5:partialInsertionSort ltInt d a k=(e,true):=by
      unfold Sort.partialInsertionSort;rw[<- HE.out.2,pi_true ltInt a k s i e hs HK.out.2]
     rw[h5];exact⟨rfl,HK.out.1⟩
    ·by_cases h50:b-a<50
     ·go_wp2;go_ret
      have h5:partialInsertionSort ltInt d a b=(e,false):=by
       unfold Sort.partialInsertionSort;rw[<- HE.out.2,pi_short ltInt a b s i e hs (by rw[HK.out.2];exact hkb2) h50]
      rw[h5];exact⟨rfl,HK.out.1⟩
     ·have HP:Hid (partialIns ltInt a b (5-(s+1)) k (fixUp ltInt b k (fixDown ltInt a k (swp e k (k-1))))=partialIns ltInt a b 5 (a+1) d):=by
       show _=_;rw[<- HE.out.2,pi_go ltInt a b s i k e hs HK.out.2 hkb2 h50]
      obtain⟨f,hf⟩:=qE (swp e k (k-1));obtain⟨G,hG⟩:∃G:Nat->Int,∀t,G t=e[t]! := ⟨fun t=>e[t]!,fun _=>rfl⟩;have hcw:∀t,t<d.size->wc.cell? ⟨blk,off+t,none⟩=some (.int .i32 (G t)):=fun t ht=>by rw[hG];exact HK.out.1.cell H0.out rfl ht
      have hfw:∀t,t<d.size->wc.frozen? ⟨blk,off+t,none⟩=false:=fun t ht=>HK.out.1.free H0.out rfl ht
      have hsw:=HK.out.1.swap (i:=k) (j:=k-1) (by omega) (by omega) 1;rw[<- hG,<- hG,<- hf] at hsw;rw[<- hf] at HP;have HSw:Hid (∀X,X=((wc.setCell ⟨blk,off+k,none⟩ (.int .i32 (G (k-1)))).setCell ⟨blk,off+(k-1),none⟩ (.int .i32 (G k))).drew->Z.At w blk off d.size f X):=fun X hX=>by rw[hX];exact hsw
      clear hsw hG hf HK HE
      go_wp2_with fail
      go_region
      go_upto_if 61 with fail
      go_cut [] (fun wx=>Hid (Z.At w blk off d.size (fixDown ltInt a k f) wx))
      case first =>
       by_cases h2:2<=k-a
       ·go_wp2
        go_loopw [9] (fun v9 wx=>∃(j:Nat) (g:Array Int),v9=.int .i64 j/\j<k/\Hid (Z.At w blk off d.size g wx/\shiftDown ltInt j g=shiftDown ltInt (k-1) f)) (fun v9 _=>(RowKit.intOf v9).toNat)
        case atStart=>exact⟨k-1,f,by congr 1;omega,by omega,HSw.out _ rfl,rfl⟩
        case round =>
         obtain⟨j,g,rfl,hjk,HG2⟩:=hrel;clear hcw hfw HSw;have HF:Hid (∀g',shiftDown ltInt (k-1) f=g'->fixDown ltInt a k f=g'):=fun g' hg=>by unfold fixDown;rw[if_pos h2,hg]
         cases j with
         | zero =>
          go_wp2
          go_meet
          case rel=>rw[HF.out g (HG2.out.2.symm.trans (shiftDown_stop ltInt 0 g (.inl rfl)))];exact HG2.out.1
         | succ m =>
          rw[show ((m+1:Nat):Int)=(m:Int)+1 by omega];obtain⟨G',hG⟩:∃G:Nat->Int,∀t,G t=g[t]! := ⟨fun t=>g[t]!,fun _=>rfl⟩;have hcw:∀t,t<d.size->wr.cell? ⟨blk,off+t,none⟩=some (.int .i32 (G' t)):=fun t ht=>by rw[hG];exact HG2.out.1.cell H0.out rfl ht
          have hfw:∀t,t<d.size->wr.frozen? ⟨blk,off+t,none⟩=false:=fun t ht=>HG2.out.1.free H0.out rfl ht
          have HG:=qH hG;clear hG;go_wp2
          go_quiet (first|(go_at_call 233;refine Calls.quiet_of_same (zao _ _ _)))
          cases hl:ltInt (G' (m+1)) (G' m) with
          | false =>
           go_wp2
           go_meet
           case rel =>
            rw[HF.out g (HG2.out.2.symm.trans (shiftDown_stop ltInt (m+1) g (.inr (by rw[Nat.add_sub_cancel,<- HG.out,<- HG.out];exact hl))))];exact HG2.out.1.drew _
          | true =>
           have HSd:Hid (shiftDown ltInt (m+1) g=shiftDown ltInt m (swp g (m+1) m)):=shiftDown_go ltInt (m+1) g (by omega) (by rw[Nat.add_sub_cancel,<- HG.out,<- HG.out];exact hl);have hsw:=HG2.out.1.swap (i:=m+1) (j:=m) (by omega) (by omega) (nq+1);rw[<- HG.out,<- HG.out] at hsw;have HSw:=qH hsw;clear hsw
           go_wp2_with fail
           go_region
           all_goals go_wp2
           go_roundw
           case rel=>exact⟨m,swp g (m+1) m,by congr 1,by omega,HSw.out,by rw[<- HG2.out.2,HSd.out]⟩
           case measure=>simp[RowKit.intOf]
       ·go_wp2
        go_meet
        case rel=>unfold fixDown;rw[if_neg h2];exact HSw.out _ rfl
      case rest =>
       clear HSw hcw hfw;obtain⟨f2,hf2⟩:=qE (fixDown ltInt a k f);rw[<- hf2] at hcut HP;have HC:Hid (Z.At w blk off d.size f2 wc):=hcut;clear hcut hf2;have HEnd:Hid (∀(g:Array Int) (X:World),fixUp ltInt b k f2=g->Z.At w blk off d.size g X->Z.At w blk off d.size g X/\partialIns ltInt a b (5-(s+1)) k g=partialIns ltInt a b 5 (a+1) d):=fun g X hg hX=>⟨hX,by rw[<- hg];exact HP.out⟩
       have hs6:((s:Int)+1)=((s+1:Nat):Int):=by omega
       have HS6:=qH hs6;clear hs6
       ·by_cases h2:2<=b-k
        ·go_wp2
         go_loopw [10] (fun v10 wx=>∃(j:Nat) (g:Array Int),v10=.int .i64 j/\k<j/\j<=b/\Hid (Z.At w blk off d.size g wx/\shiftUp ltInt b j g=shiftUp ltInt b (k+1) f2)) (fun v10 _=>b-(RowKit.intOf v10).toNat)
         case atStart=>exact⟨k+1,f2,by go_num,by omega,by omega,HC.out,rfl⟩
         case round =>
          obtain⟨j,g,rfl,hkj,hjb,HG2⟩:=hrel;clear HC;have HF:Hid (∀g',shiftUp ltInt b (k+1) f2=g'->fixUp ltInt b k f2=g'):=fun g' hg=>by unfold fixUp;rw[if_pos h2,hg]
          by_cases hj:j<b
          ·obtain⟨G',hG⟩:∃G:Nat->Int,∀t,G t=g[t]! := ⟨fun t=>g[t]!,fun _=>rfl⟩;have hcw:∀t,t<d.size->wr.cell? ⟨blk,off+t,none⟩=some (.int .i32 (G' t)):=fun t ht=>by rw[hG];exact HG2.out.1.cell H0.out rfl ht
           have hfw:∀t,t<d.size->wr.frozen? ⟨blk,off+t,none⟩=false:=fun t ht=>HG2.out.1.free H0.out rfl ht
           have HG:=qH hG;clear hG;go_wp2
           go_quiet (first|(go_at_call 233;refine Calls.quiet_of_same (zao _ _ _)))
           cases hl:ltInt (G' j) (G' (j-1)) with
           | false =>
            go_wp2
            go_roundw
            case rel=>exact⟨k,s+1,g,rfl,by rw[HS6.out],by omega,by omega,by omega,HEnd.out g _ (HF.out g (HG2.out.2.symm.trans (shiftUp_stop ltInt b j g (.inr (by rw[<- HG.out,<- HG.out];exact hl))))) (HG2.out.1.drew _)⟩
            case measure=>simp[RowKit.intOf];omega
           | true =>
            have HSd:=qH<|shiftUp_go ltInt b j g hj (by rw[<- HG.out,<- HG.out];exact hl);have hsw:=HG2.out.1.swap (i:=j) (j:=j-1) (by omega) (by omega) (nq+1);rw[<- HG.out,<- HG.out] at hsw;have HSw:=qH hsw;clear hsw
            go_wp2_with fail
            go_region
            all_goals go_wp2
            go_roundw
            case rel=>exact⟨j+1,swp g j (j-1),by go_num,by omega,by omega,HSw.out,by rw[<- HG2.out.2,HSd.out]⟩
            case measure=>simp[RowKit.intOf];omega
          ·go_wp2
           go_roundw
           case rel=>exact⟨k,s+1,g,rfl,by rw[HS6.out],by omega,by omega,by omega,HEnd.out g _ (HF.out g (HG2.out.2.symm.trans (shiftUp_stop ltInt b j g (.inl hj)))) HG2.out.1⟩
           case measure=>simp[RowKit.intOf];omega
        ·go_wp2
         go_roundw
         case rel=>exact⟨k,s+1,f2,rfl,by rw[HS6.out],by omega,by omega,by omega,HEnd.out f2 _ (by unfold fixUp;rw[if_neg h2]) HC.out⟩
         case measure=>simp[RowKit.intOf];omega
  ·obtain rfl:s=5:=by omega
   go_wp2;go_ret
   have h5:(e,false)=partialInsertionSort ltInt d a b:=HE.out.2;rw[<- h5];exact⟨rfl,HE.out.1⟩
theorem zq7 (w:World)(blk off cap a b p:Nat)(d:Array Int)(h0:Holds Z.en w blk off d)(hap:a<=p)(hpb:p<b)(hb:b<=d.size)(hsz:d.size<1152921504606846976) :
  Calls prog 234 #[.slice (some ⟨blk,off,none⟩) d.size cap,.int .i64 a,.int .i64 b,.int .i64 p] w fun e w'=>e=.returned (.int .i64 ((partitionEqual ltInt d a b p).1:Nat))/\Z.At w blk off d.size (partitionEqual ltInt d a b p).2 w':=by
 have H0:=qH h0;have hS:=Z.At.start h0;clear h0;obtain⟨G,hG⟩:∃G:Nat->Int,∀t,G t=d[t]! := ⟨fun t=>d[t]!,fun _=>rfl⟩;have hcw:∀t,t<d.size->w.cell? ⟨blk,off+t,none⟩=some (.int .i32 (G t)):=fun t ht=>by rw[hG];exact hS.cell H0.out rfl ht
 have hfw:∀t,t<d.size->w.frozen? ⟨blk,off+t,none⟩=false:=fun t ht=>hS.free H0.out rfl ht
 have hsw:=hS.swap (i:=a) (j:=p) (by omega) (by omega) 1;rw[<- hG,<- hG] at hsw;have HSw:Hid (∀X,X=((w.setCell ⟨blk,off+a,none⟩ (.int .i32 (G p))).setCell ⟨blk,off+p,none⟩ (.int .i32 (G a))).drew->Z.At w blk off d.size (swp d a p) X):=fun X hX=>by rw[hX];exact hsw
 obtain⟨v',x1⟩:∃v',((w.setCell ⟨blk,off+a,none⟩ (.int .i32 (G p))).drew).cell? ⟨blk,off+p,none⟩=some v':=cell?_setCell_some (w:=w) (p:=⟨blk,off+a,none⟩) (x:=.int .i32 (G p)) (q:=⟨blk,off+p,none⟩) (hcw p (by omega));have x2:((w.setCell ⟨blk,off+a,none⟩ (.int .i32 (G p))).drew).frozen? ⟨blk,off+p,none⟩=false:=(World.frozen?_setCell _ _ _ _).trans (hfw p (by omega));clear hsw hG hS
 go_enter func234,ntmps234
 go_wp2_with fail
 go_region
 go_wp2
 go_loopw [9,10] (fun v9 v10 wr=>∃(i j:Nat) (e:Array Int),v9=.int .i64 i/\v10=.int .i64 j/\a<i/\i<=j+1/\j<b/\Hid (Z.At w blk off d.size e wr/\partEqLoop ltInt a i j e=partitionEqual ltInt d a b p)) (fun v9 v10 _=>(RowKit.intOf v10+1-RowKit.intOf v9).toNat)
 case atStart=>exact⟨a+1,b-1,swp d a p,by go_num,by congr 1;omega,by omega,by omega,by omega,HSw.out _ rfl,rfl⟩
 case round =>
  obtain⟨i,j,e,rfl,rfl,hai,hij,hjb,HE⟩:=hrel;clear hcw hfw HSw x1 x2
  go_upto_block 2 with fail
  go_cut [9] (fun v9 wx=>∃k:Nat,v9=.int .i64 k/\i<=k/\k<=j+1/\Hid (Z.At w blk off d.size e wx/\k=scanUp (fun x=> !ltInt e[a]! x) e j i))
  case first =>
   go_wp2
   go_loopw [9] (fun v9 wx=>∃k:Nat,v9=.int .i64 k/\i<=k/\k<=j+1/\Hid (Z.At w blk off d.size e wx/\scanUp (fun x=> !ltInt e[a]! x) e j k=scanUp (fun x=> !ltInt e[a]! x) e j i)) (fun v9 _=>j+1-(RowKit.intOf v9).toNat)
   case atStart=>exact⟨i,rfl,qN,hij,HE.out.1,rfl⟩
   case round =>
    obtain⟨k,rfl,hik,hkj,HK⟩:=hrel;obtain⟨G',hG⟩:∃G:Nat->Int,∀t,G t=e[t]! := ⟨fun t=>e[t]!,fun _=>rfl⟩;have hcw:∀t,t<d.size->wr.cell? ⟨blk,off+t,none⟩=some (.int .i32 (G' t)):=fun t ht=>by rw[hG];exact HK.out.1.cell H0.out rfl ht
    have HG:=qH hG;clear hG
    by_cases hk:k<=j
    ·go_wp2
     go_quiet (first|(go_at_call 233;refine Calls.quiet_of_same (zao _ _ _)))
     cases hl:ltInt (G' a) (G' k) with
     | false =>
      go_wp2
      go_roundw
      case rel=>exact⟨k+1,by go_num,by omega,by omega,HK.out.1.drew _,by rw[<- HK.out.2,scanUp_go (fun x=> !ltInt e[a]! x) e j k hk (by rw[<- HG.out,<- HG.out,hl];rfl)]⟩
      case measure=>simp[RowKit.intOf];omega
     | true =>
      go_wp2
      go_meet
      case rel=>exact⟨k,rfl,hik,hkj,HK.out.1.drew _,by rw[<- HK.out.2,scanUp_end (fun x=> !ltInt e[a]! x) e j k (.inr (by rw[<- HG.out,<- HG.out,hl];rfl))]⟩
    ·go_wp2
     go_quiet (first|(go_at_call 233;refine Calls.quiet_of_same (zao _ _ _)))
     go_wp2
     go_meet
     case rel=>exact⟨k,rfl,hik,hkj,HK.out.1.drew _,by rw[<- HK.out.2,scanUp_end (fun x=> !ltInt e[a]! x) e j k (.inl hk)]⟩
  case rest =>
   obtain⟨k,rfl,hik,hkj,HK⟩:=hcut
   go_upto_block 4 with fail
   go_cut [10] (fun v10 wx=>∃l:Nat,v10=.int .i64 l/\l<=j/\k<=l+1/\Hid (Z.At w blk off d.size e wx/\l=scanDown (fun x=>ltInt e[a]! x) e k j))
   case first =>
    go_wp2
    go_loopw [10] (fun v10 wx=>∃l:Nat,v10=.int .i64 l/\l<=j/\k<=l+1/\Hid (Z.At w blk off d.size e wx/\scanDown (fun x=>ltInt e[a]! x) e k l=scanDown (fun x=>ltInt e[a]! x) e k j)) (fun v10 _=>(RowKit.intOf v10).toNat)
    case atStart=>exact⟨j,rfl,qN,hkj,HK.out.1,rfl⟩
    case round =>
     obtain⟨l,rfl,hlj,hkl,HL⟩:=hrel;obtain⟨G',hG⟩:∃G:Nat->Int,∀t,G t=e[t]! := ⟨fun t=>e[t]!,fun _=>rfl⟩;have hcw:∀t,t<d.size->wr.cell? ⟨blk,off+t,none⟩=some (.int .i32 (G' t)):=fun t ht=>by rw[hG];exact HL.out.1.cell H0.out rfl ht
     have HG:=qH hG;clear hG
     by_cases hk:k<=l
     ·go_wp2
      go_quiet (first|(go_at_call 233;refine Calls.quiet_of_same (zao _ _ _)))
      cases hl:ltInt (G' a) (G' l) with
      | true =>
       go_wp2
       go_roundw
       case rel=>exact⟨l-1,by congr 1;omega,by omega,by omega,HL.out.1.drew _,by rw[<- HL.out.2,scanDown_go (fun x=>ltInt e[a]! x) e k l hk (by omega) (by rw[<- HG.out,<- HG.out,hl])]⟩
       case measure=>simp[RowKit.intOf];omega
      | false =>
       go_wp2
       go_meet
       case rel=>exact⟨l,rfl,hlj,hkl,HL.out.1.drew _,by rw[<- HL.out.2,scanDown_end (fun x=>ltInt e[a]! x) e k l (.inr (by rw[<- HG.out,<- HG.out,hl]))]⟩
     ·go_wp2
      go_quiet (first|(go_at_call 233;refine Calls.quiet_of_same (zao _ _ _)))
      go_wp2
      go_meet
      case rel=>exact⟨l,rfl,hlj,hkl,HL.out.1.drew _,by rw[<- HL.out.2,scanDown_end (fun x=>ltInt e[a]! x) e k l (.inl hk)]⟩
   case rest =>
    obtain⟨l,rfl,hlj,hkl,HL⟩:=hcut
    by_cases hkl2:l<k
    ·have HB:Hid (partitionEqual ltInt d a b p=(k,e)):=by
      show _=_;rw[<- HE.out.2,partEq_break ltInt a i j e HK.out.2 HL.out.2 hkl2]
     clear HE HK;go_wp2;go_ret;rw[HB.out];exact⟨rfl,HL.out.1⟩
    ·have HB:Hid (partEqLoop ltInt a (k+1) (l-1) (swp e k l)=partitionEqual ltInt d a b p):=by
      show _=_;rw[<- HE.out.2,partEq_go ltInt a i j e HK.out.2 HL.out.2 (by omega)]
     have hlt3:=scans_lt ltInt a i j e (by omega) HK.out.2 HL.out.2 (by omega);obtain⟨G',hG⟩:∃G:Nat->Int,∀t,G t=e[t]! := ⟨fun t=>e[t]!,fun _=>rfl⟩;have hcw:∀t,t<d.size->wc.cell? ⟨blk,off+t,none⟩=some (.int .i32 (G' t)):=fun t ht=>by rw[hG];exact HL.out.1.cell H0.out rfl ht
     have hfw:∀t,t<d.size->wc.frozen? ⟨blk,off+t,none⟩=false:=fun t ht=>HL.out.1.free H0.out rfl ht
     have hsw:=HL.out.1.swap (i:=k) (j:=l) (by omega) (by omega) 1;rw[<- hG,<- hG] at hsw;have HSw:Hid (∀X,X=((wc.setCell ⟨blk,off+k,none⟩ (.int .i32 (G' l))).setCell ⟨blk,off+l,none⟩ (.int .i32 (G' k))).drew->Z.At w blk off d.size (swp e k l) X):=fun X hX=>by rw[hX];exact hsw
     clear hsw hG HE HK HL
     go_wp2_with fail
     go_region
     all_goals go_wp2
     go_roundw
     case rel=>exact⟨k+1,l-1,swp e k l,by go_num,by congr 1;omega,by omega,by omega,by omega,HSw.out _ rfl,HB.out⟩
     case measure=>simp[RowKit.intOf];omega
