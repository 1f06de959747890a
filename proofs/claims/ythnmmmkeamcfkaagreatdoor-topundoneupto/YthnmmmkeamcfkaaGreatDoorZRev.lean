import Derived.Test.YthnmmmkeamcfkaaGreatDoorZIns
import Derived.Deep.CutBlock
import Derived.Sort.WalkA6
import Derived.Sort.WalkC4
set_option maxHeartbeats 0
set_option maxRecDepth 20000
set_option linter.unusedSimpArgs false
set_option linter.unusedVariables false
namespace Go.Proofs.YthnmmmkeamcfkaaGreatDoor
open Go.Proofs.Tryz
section
open Go.RowKit Go.Sort
theorem zh7 (w:World)(blk off cap a b:Nat)(d:Array Int)(h0:Holds Z.en w blk off d)(hab:a<b)(hb:b<=d.size)(hsz:d.size<1152921504606846976) :
  Calls prog 294 #[.slice (some ⟨blk,off,none⟩) d.size cap,.int .i64 a,.int .i64 b] w fun e w'=>e= .returned (.bool (partialInsertionSort ltInt d a b).2)/\Z.At w blk off d.size (partialInsertionSort ltInt d a b).1 w':=by
 have H0:=qH h0;have HS:=qH <| Z.At.start h0;clear h0
 go_enter func294,ntmps294
 go_wp2
 go_loopw [7,8] (fun v7 v8 wr=>∃(i s:Nat) (e:Array Int),v7= .int .i64 i/\v8= .int .i64 s/\s<=5/\a<i/\i<=b/\Hid (Z.At w blk off d.size e wr/\partialIns ltInt a b (5 - s) i e=partialIns ltInt a b 5 (a+1) d)) (fun _ v8 _=>5 - (RowKit.intOf v8).toNat)
 case atStart=>exact⟨a+1,0,d,by go_num,rfl,by omega,by omega,by omega,HS.out,rfl⟩
 case round =>
  obtain⟨i,s,e,rfl,rfl,hs5,hai,hib,HE⟩:=hrel;clear HS
  by_cases hs:s<5
  ·go_upto_block 2 with fail
   go_cut [7] (fun v7 wx=>∃k:Nat,v7= .int .i64 k/\i<=k/\k<=b/\Hid (Z.At w blk off d.size e wx/\scanSorted ltInt e b i=k))
   case first =>
    go_wp2
    go_loopw [7] (fun v7 wx=>∃k:Nat,v7= .int .i64 k/\i<=k/\k<=b/\Hid (Z.At w blk off d.size e wx/\scanSorted ltInt e b k=scanSorted ltInt e b i)) (fun v7 _=>b - (RowKit.intOf v7).toNat)
    case atStart=>exact⟨i,rfl,qN,hib,HE.out.1,rfl⟩
    case round =>
     obtain⟨k,rfl,hik,hkb,HK⟩:=hrel;obtain⟨G,hG⟩:∃G:Nat->Int,∀t,G t=e[t]! := ⟨fun t=>e[t]!,fun _=>rfl⟩;have hcw:∀t,t<d.size->wr.cell? ⟨blk,off+t,none⟩=some (.int .i32 (G t)):=fun t ht=>by rw[hG];exact HK.out.1.cell H0.out rfl ht
     have HG:=qH hG;clear hG
     by_cases hk:k<b
     ·go_wp2
      go_quiet (first | (go_at_call 295;refine Calls.quiet_of_same (zaq _ _ _)))
      cases hl:ltInt (G k) (G (k - 1)) with
      | false =>
       go_wp2
       go_roundw
       case rel=>exact⟨k+1,by go_num,by omega,by omega,HK.out.1.drew _,by rw[<- HK.out.2,scanSorted_go ltInt e b k hk (by rw[<- HG.out,<- HG.out];exact hl)]⟩
       case measure=>simp[RowKit.intOf];omega
      | true =>
       go_wp2
       go_meet
       case rel=>exact⟨k,rfl,hik,hkb,HK.out.1.drew _,by rw[<- HK.out.2,scanSorted_stop ltInt e b k (.inr (by rw[<- HG.out,<- HG.out];exact hl))]⟩
     ·go_wp2
      go_quiet (first | (go_at_call 295;refine Calls.quiet_of_same (zaq _ _ _)))
      go_wp2
      go_meet
      case rel=>exact⟨k,rfl,hik,hkb,HK.out.1.drew _,by rw[<- HK.out.2,scanSorted_stop ltInt e b k (.inl hk)]⟩
   case rest =>
    obtain⟨k,rfl,hik,hkb,HK⟩:=hcut
    by_cases hkb2:k=b
    ·subst hkb2;go_wp2;go_ret
     have h5:partialInsertionSort ltInt d a k=(e,true):=by
      unfold Sort.partialInsertionSort;rw[<- HE.out.2,pi_true ltInt a k s i e hs HK.out.2]
     rw[h5];exact⟨rfl,HK.out.1⟩
    ·by_cases h50:b - a<50
     ·go_wp2;go_ret
      have h5:partialInsertionSort ltInt d a b=(e,false):=by
       unfold Sort.partialInsertionSort;rw[<- HE.out.2,pi_short ltInt a b s i e hs (by rw[HK.out.2];exact hkb2) h50]
      rw[h5];exact⟨rfl,HK.out.1⟩
     ·have HP:Hid (partialIns ltInt a b (5 - (s+1)) k (fixUp ltInt b k (fixDown ltInt a k (swp e k (k - 1))))=partialIns ltInt a b 5 (a+1) d):=by
       show _=_;rw[<- HE.out.2,pi_go ltInt a b s i k e hs HK.out.2 hkb2 h50]
      obtain⟨f,hf⟩:∃f,f=swp e k (k - 1):=⟨_,rfl⟩;obtain⟨G,hG⟩:∃G:Nat->Int,∀t,G t=e[t]! := ⟨fun t=>e[t]!,fun _=>rfl⟩;have hcw:∀t,t<d.size->wc.cell? ⟨blk,off+t,none⟩=some (.int .i32 (G t)):=fun t ht=>by rw[hG];exact HK.out.1.cell H0.out rfl ht
      have hfw:∀t,t<d.size->wc.frozen? ⟨blk,off+t,none⟩=false:=fun t ht=>HK.out.1.free H0.out rfl ht
      have hsw:=HK.out.1.swap (i:=k) (j:=k - 1) (by omega) (by omega) 1;rw[<- hG,<- hG,<- hf] at hsw;rw[<- hf] at HP;have HSw:Hid (∀X,X=((wc.setCell ⟨blk,off+k,none⟩ (.int .i32 (G (k - 1)))).setCell ⟨blk,off+(k - 1),none⟩ (.int .i32 (G k))).drew->Z.At w blk off d.size f X):=fun X hX=>by rw[hX];exact hsw
      clear hsw hG hf HK HE
      go_wp2_with fail
      go_region
      go_upto_if 61 with fail
      go_cut [] (fun wx=>Hid (Z.At w blk off d.size (fixDown ltInt a k f) wx))
      case first =>
       by_cases h2:2<=k - a
       ·go_wp2
        go_loopw [9] (fun v9 wx=>∃(j:Nat) (g:Array Int),v9= .int .i64 j/\j<k/\Hid (Z.At w blk off d.size g wx/\shiftDown ltInt j g=shiftDown ltInt (k - 1) f)) (fun v9 _=>(RowKit.intOf v9).toNat)
        case atStart=>exact⟨k - 1,f,by congr 1;omega,by omega,HSw.out _ rfl,rfl⟩
        case round =>
         obtain⟨j,g,rfl,hjk,HG2⟩:=hrel;clear hcw hfw HSw;have HF:Hid (∀g',shiftDown ltInt (k - 1) f=g'->fixDown ltInt a k f=g'):=fun g' hg=>by unfold fixDown;rw[if_pos h2,hg]
         cases j with
         | zero =>
          go_wp2
          go_meet
          case rel=>rw[HF.out g (HG2.out.2.symm.trans (shiftDown_stop ltInt 0 g (.inl rfl)))];exact HG2.out.1
         | succ m =>
          rw[show ((m+1:Nat):Int)=(m:Int)+1 by omega];obtain⟨G',hG⟩:∃G:Nat->Int,∀t,G t=g[t]! := ⟨fun t=>g[t]!,fun _=>rfl⟩;have hcw:∀t,t<d.size->wr.cell? ⟨blk,off+t,none⟩=some (.int .i32 (G' t)):=fun t ht=>by rw[hG];exact HG2.out.1.cell H0.out rfl ht
          have hfw:∀t,t<d.size->wr.frozen? ⟨blk,off+t,none⟩=false:=fun t ht=>HG2.out.1.free H0.out rfl ht
          have HG:=qH hG;clear hG;go_wp2
          go_quiet (first | (go_at_call 295;refine Calls.quiet_of_same (zaq _ _ _)))
          cases hl:ltInt (G' (m+1)) (G' m) with
          | false =>
           go_wp2
           go_meet
           case rel =>
            rw[HF.out g (HG2.out.2.symm.trans (shiftDown_stop ltInt (m+1) g (.inr (by rw[Nat.add_sub_cancel,<- HG.out,<- HG.out];exact hl))))];exact HG2.out.1.drew _
          | true =>
           have HSd:Hid (shiftDown ltInt (m+1) g=shiftDown ltInt m (swp g (m+1) m)):=shiftDown_go ltInt (m+1) g (by omega) (by rw[Nat.add_sub_cancel,<- HG.out,<- HG.out];exact hl);have hsw:=HG2.out.1.swap (i:=m+1) (j:=m) (by omega) (by omega) (nq+1);rw[<- HG.out,<- HG.out] at hsw;have HSw:=qH hsw;clear hsw
           go_wp2_with fail
           go_region
           all_goals go_wp2
           go_roundw
           case rel=>exact⟨m,swp g (m+1) m,by congr 1,by omega,HSw.out,by rw[<- HG2.out.2,HSd.out]⟩
           case measure=>simp[RowKit.intOf]
       ·go_wp2
        go_meet
        case rel=>unfold fixDown;rw[if_neg h2];exact HSw.out _ rfl
      case rest =>
       clear HSw hcw hfw;obtain⟨f2,hf2⟩:∃f2,f2=fixDown ltInt a k f:=⟨_,rfl⟩;rw[<- hf2] at hcut HP;have HC:Hid (Z.At w blk off d.size f2 wc):=hcut;clear hcut hf2;have HEnd:Hid (∀(g:Array Int) (X:World),fixUp ltInt b k f2=g->Z.At w blk off d.size g X->Z.At w blk off d.size g X/\partialIns ltInt a b (5 - (s+1)) k g=partialIns ltInt a b 5 (a+1) d):=fun g X hg hX=>⟨hX,by rw[<- hg];exact HP.out⟩
       have hs6:((s:Int)+1)=((s+1:Nat):Int):=by omega
       have HS6:=qH hs6;clear hs6
       ·by_cases h2:2<=b - k
        ·go_wp2
         go_loopw [10] (fun v10 wx=>∃(j:Nat) (g:Array Int),v10= .int .i64 j/\k<j/\j<=b/\Hid (Z.At w blk off d.size g wx/\shiftUp ltInt b j g=shiftUp ltInt b (k+1) f2)) (fun v10 _=>b - (RowKit.intOf v10).toNat)
         case atStart=>exact⟨k+1,f2,by go_num,by omega,by omega,HC.out,rfl⟩
         case round =>
          obtain⟨j,g,rfl,hkj,hjb,HG2⟩:=hrel;clear HC;have HF:Hid (∀g',shiftUp ltInt b (k+1) f2=g'->fixUp ltInt b k f2=g'):=fun g' hg=>by unfold fixUp;rw[if_pos h2,hg]
          by_cases hj:j<b
          ·obtain⟨G',hG⟩:∃G:Nat->Int,∀t,G t=g[t]! := ⟨fun t=>g[t]!,fun _=>rfl⟩;have hcw:∀t,t<d.size->wr.cell? ⟨blk,off+t,none⟩=some (.int .i32 (G' t)):=fun t ht=>by rw[hG];exact HG2.out.1.cell H0.out rfl ht
           have hfw:∀t,t<d.size->wr.frozen? ⟨blk,off+t,none⟩=false:=fun t ht=>HG2.out.1.free H0.out rfl ht
           have HG:=qH hG;clear hG;go_wp2
           go_quiet (first | (go_at_call 295;refine Calls.quiet_of_same (zaq _ _ _)))
           cases hl:ltInt (G' j) (G' (j - 1)) with
           | false =>
            go_wp2
            go_roundw
            case rel=>exact⟨k,s+1,g,rfl,by rw[HS6.out],by omega,by omega,by omega,HEnd.out g _ (HF.out g (HG2.out.2.symm.trans (shiftUp_stop ltInt b j g (.inr (by rw[<- HG.out,<- HG.out];exact hl))))) (HG2.out.1.drew _)⟩
            case measure=>simp[RowKit.intOf];omega
           | true =>
            have HSd:=qH <| shiftUp_go ltInt b j g hj (by rw[<- HG.out,<- HG.out];exact hl);have hsw:=HG2.out.1.swap (i:=j) (j:=j - 1) (by omega) (by omega) (nq+1);rw[<- HG.out,<- HG.out] at hsw;have HSw:=qH hsw;clear hsw
            go_wp2_with fail
            go_region
            all_goals go_wp2
            go_roundw
            case rel=>exact⟨j+1,swp g j (j - 1),by go_num,by omega,by omega,HSw.out,by rw[<- HG2.out.2,HSd.out]⟩
            case measure=>simp[RowKit.intOf];omega
          ·go_wp2
           go_roundw
           case rel=>exact⟨k,s+1,g,rfl,by rw[HS6.out],by omega,by omega,by omega,HEnd.out g _ (HF.out g (HG2.out.2.symm.trans (shiftUp_stop ltInt b j g (.inl hj)))) HG2.out.1⟩
           case measure=>simp[RowKit.intOf];omega
        ·go_wp2
         go_roundw
         case rel=>exact⟨k,s+1,f2,rfl,by rw[HS6.out],by omega,by omega,by omega,HEnd.out f2 _ (by unfold fixUp;rw[if_neg h2]) HC.out⟩
         case measure=>simp[RowKit.intOf];omega
  ·obtain rfl:s=5:=by omega
   go_wp2;go_ret
   have h5:(e,false)=partialInsertionSort ltInt d a b:=HE.out.2;rw[<- h5];exact⟨rfl,HE.out.1⟩
end
section
open Go.RowKit Go.Sort
theorem zsa (w:World)(blk off cap a b p:Nat)(d:Array Int)(h0:Holds Z.en w blk off d)(hap:a<=p)(hpb:p<b)(hb:b<=d.size)(hsz:d.size<1152921504606846976) :
  Calls prog 296 #[.slice (some ⟨blk,off,none⟩) d.size cap,.int .i64 a,.int .i64 b,.int .i64 p] w fun e w'=>e= .returned (.int .i64 ((partitionEqual ltInt d a b p).1:Nat))/\Z.At w blk off d.size (partitionEqual ltInt d a b p).2 w':=by
 have H0:=qH h0;have hS:=Z.At.start h0;clear h0;obtain⟨G,hG⟩:∃G:Nat->Int,∀t,G t=d[t]! := ⟨fun t=>d[t]!,fun _=>rfl⟩;have hcw:∀t,t<d.size->w.cell? ⟨blk,off+t,none⟩=some (.int .i32 (G t)):=fun t ht=>by rw[hG];exact hS.cell H0.out rfl ht
 have hfw:∀t,t<d.size->w.frozen? ⟨blk,off+t,none⟩=false:=fun t ht=>hS.free H0.out rfl ht
 have hsw:=hS.swap (i:=a) (j:=p) (by omega) (by omega) 1;rw[<- hG,<- hG] at hsw;have HSw:Hid (∀X,X=((w.setCell ⟨blk,off+a,none⟩ (.int .i32 (G p))).setCell ⟨blk,off+p,none⟩ (.int .i32 (G a))).drew->Z.At w blk off d.size (swp d a p) X):=fun X hX=>by rw[hX];exact hsw
 obtain⟨v',x1⟩:∃v',((w.setCell ⟨blk,off+a,none⟩ (.int .i32 (G p))).drew).cell? ⟨blk,off+p,none⟩=some v':=cell?_setCell_some (w:=w) (p:=⟨blk,off+a,none⟩) (x:= .int .i32 (G p)) (q:=⟨blk,off+p,none⟩) (hcw p (by omega));have x2:((w.setCell ⟨blk,off+a,none⟩ (.int .i32 (G p))).drew).frozen? ⟨blk,off+p,none⟩=false:=(World.frozen?_setCell _ _ _ _).trans (hfw p (by omega));clear hsw hG hS
 go_enter func296,ntmps296
 go_wp2_with fail
 go_region
 go_wp2
 go_loopw [9,10] (fun v9 v10 wr=>∃(i j:Nat) (e:Array Int),v9= .int .i64 i/\v10= .int .i64 j/\a<i/\i<=j+1/\j<b/\Hid (Z.At w blk off d.size e wr/\partEqLoop ltInt a i j e=partitionEqual ltInt d a b p)) (fun v9 v10 _=>(RowKit.intOf v10+1 - RowKit.intOf v9).toNat)
 case atStart=>exact⟨a+1,b - 1,swp d a p,by go_num,by congr 1;omega,by omega,by omega,by omega,HSw.out _ rfl,rfl⟩
 case round =>
  obtain⟨i,j,e,rfl,rfl,hai,hij,hjb,HE⟩:=hrel;clear hcw hfw HSw x1 x2
  go_upto_block 2 with fail
  go_cut [9] (fun v9 wx=>∃k:Nat,v9= .int .i64 k/\i<=k/\k<=j+1/\Hid (Z.At w blk off d.size e wx/\k=scanUp (fun x=> !ltInt e[a]! x) e j i))
  case first =>
   go_wp2
   go_loopw [9] (fun v9 wx=>∃k:Nat,v9= .int .i64 k/\i<=k/\k<=j+1/\Hid (Z.At w blk off d.size e wx/\scanUp (fun x=> !ltInt e[a]! x) e j k=scanUp (fun x=> !ltInt e[a]! x) e j i)) (fun v9 _=>j+1 - (RowKit.intOf v9).toNat)
   case atStart=>exact⟨i,rfl,qN,hij,HE.out.1,rfl⟩
   case round =>
    obtain⟨k,rfl,hik,hkj,HK⟩:=hrel;obtain⟨G',hG⟩:∃G:Nat->Int,∀t,G t=e[t]! := ⟨fun t=>e[t]!,fun _=>rfl⟩;have hcw:∀t,t<d.size->wr.cell? ⟨blk,off+t,none⟩=some (.int .i32 (G' t)):=fun t ht=>by rw[hG];exact HK.out.1.cell H0.out rfl ht
    have HG:=qH hG;clear hG
    by_cases hk:k<=j
    ·go_wp2
     go_quiet (first | (go_at_call 295;refine Calls.quiet_of_same (zaq _ _ _)))
     cases hl:ltInt (G' a) (G' k) with
     | false =>
      go_wp2
      go_roundw
      case rel=>exact⟨k+1,by go_num,by omega,by omega,HK.out.1.drew _,by rw[<- HK.out.2,scanUp_go (fun x=> !ltInt e[a]! x) e j k hk (by rw[<- HG.out,<- HG.out,hl];rfl)]⟩
      case measure=>simp[RowKit.intOf];omega
     | true =>
      go_wp2
      go_meet
      case rel=>exact⟨k,rfl,hik,hkj,HK.out.1.drew _,by rw[<- HK.out.2,scanUp_end (fun x=> !ltInt e[a]! x) e j k (.inr (by rw[<- HG.out,<- HG.out,hl];rfl))]⟩
    ·go_wp2
     go_quiet (first | (go_at_call 295;refine Calls.quiet_of_same (zaq _ _ _)))
     go_wp2
     go_meet
     case rel=>exact⟨k,rfl,hik,hkj,HK.out.1.drew _,by rw[<- HK.out.2,scanUp_end (fun x=> !ltInt e[a]! x) e j k (.inl hk)]⟩
  case rest =>
   obtain⟨k,rfl,hik,hkj,HK⟩:=hcut
   go_upto_block 4 with fail
   go_cut [10] (fun v10 wx=>∃l:Nat,v10= .int .i64 l/\l<=j/\k<=l+1/\Hid (Z.At w blk off d.size e wx/\l=scanDown (fun x=>ltInt e[a]! x) e k j))
   case first =>
    go_wp2
    go_loopw [10] (fun v10 wx=>∃l:Nat,v10= .int .i64 l/\l<=j/\k<=l+1/\Hid (Z.At w blk off d.size e wx/\scanDown (fun x=>ltInt e[a]! x) e k l=scanDown (fun x=>ltInt e[a]! x) e k j)) (fun v10 _=>(RowKit.intOf v10).toNat)
    case atStart=>exact⟨j,rfl,qN,hkj,HK.out.1,rfl⟩
    case round =>
     obtain⟨l,rfl,hlj,hkl,HL⟩:=hrel;obtain⟨G',hG⟩:∃G:Nat->Int,∀t,G t=e[t]! := ⟨fun t=>e[t]!,fun _=>rfl⟩;have hcw:∀t,t<d.size->wr.cell? ⟨blk,off+t,none⟩=some (.int .i32 (G' t)):=fun t ht=>by rw[hG];exact HL.out.1.cell H0.out rfl ht
     have HG:=qH hG;clear hG
     by_cases hk:k<=l
     ·go_wp2
      go_quiet (first | (go_at_call 295;refine Calls.quiet_of_same (zaq _ _ _)))
      cases hl:ltInt (G' a) (G' l) with
      | true =>
       go_wp2
       go_roundw
       case rel=>exact⟨l - 1,by congr 1;omega,by omega,by omega,HL.out.1.drew _,by rw[<- HL.out.2,scanDown_go (fun x=>ltInt e[a]! x) e k l hk (by omega) (by rw[<- HG.out,<- HG.out,hl])]⟩
       case measure=>simp[RowKit.intOf];omega
      | false =>
       go_wp2
       go_meet
       case rel=>exact⟨l,rfl,hlj,hkl,HL.out.1.drew _,by rw[<- HL.out.2,scanDown_end (fun x=>ltInt e[a]! x) e k l (.inr (by rw[<- HG.out,<- HG.out,hl]))]⟩
     ·go_wp2
      go_quiet (first | (go_at_call 295;refine Calls.quiet_of_same (zaq _ _ _)))
      go_wp2
      go_meet
      case rel=>exact⟨l,rfl,hlj,hkl,HL.out.1.drew _,by rw[<- HL.out.2,scanDown_end (fun x=>ltInt e[a]! x) e k l (.inl hk)]⟩
   case rest =>
    obtain⟨l,rfl,hlj,hkl,HL⟩:=hcut
    by_cases hkl2:l<k
    ·have HB:Hid (partitionEqual ltInt d a b p=(k,e)):=by
      show _=_;rw[<- HE.out.2,partEq_break ltInt a i j e HK.out.2 HL.out.2 hkl2]
     clear HE HK;go_wp2;go_ret;rw[HB.out];exact⟨rfl,HL.out.1⟩
    ·have HB:Hid (partEqLoop ltInt a (k+1) (l - 1) (swp e k l)=partitionEqual ltInt d a b p):=by
      show _=_;rw[<- HE.out.2,partEq_go ltInt a i j e HK.out.2 HL.out.2 (by omega)]
     have hlt3:=scans_lt ltInt a i j e (by omega) HK.out.2 HL.out.2 (by omega);obtain⟨G',hG⟩:∃G:Nat->Int,∀t,G t=e[t]! := ⟨fun t=>e[t]!,fun _=>rfl⟩;have hcw:∀t,t<d.size->wc.cell? ⟨blk,off+t,none⟩=some (.int .i32 (G' t)):=fun t ht=>by rw[hG];exact HL.out.1.cell H0.out rfl ht
     have hfw:∀t,t<d.size->wc.frozen? ⟨blk,off+t,none⟩=false:=fun t ht=>HL.out.1.free H0.out rfl ht
     have hsw:=HL.out.1.swap (i:=k) (j:=l) (by omega) (by omega) 1;rw[<- hG,<- hG] at hsw;have HSw:Hid (∀X,X=((wc.setCell ⟨blk,off+k,none⟩ (.int .i32 (G' l))).setCell ⟨blk,off+l,none⟩ (.int .i32 (G' k))).drew->Z.At w blk off d.size (swp e k l) X):=fun X hX=>by rw[hX];exact hsw
     clear hsw hG HE HK HL
     go_wp2_with fail
     go_region
     all_goals go_wp2
     go_roundw
     case rel=>exact⟨k+1,l - 1,swp e k l,by go_num,by congr 1;omega,by omega,by omega,by omega,HSw.out _ rfl,HB.out⟩
     case measure=>simp[RowKit.intOf];omega
end
section
open Go.RowKit Go.Sort
theorem zou (w:World)(blk off cap a b p:Nat)(d:Array Int)(h0:Holds Z.en w blk off d)(hap:a<=p)(hpb:p<b)(hb:b<=d.size)(hsz:d.size<1152921504606846976) :
  Calls prog 297 #[.slice (some ⟨blk,off,none⟩) d.size cap,.int .i64 a,.int .i64 b,.int .i64 p] w fun e w'=>e= .returned (.tuple #[.int .i64 ((partition ltInt d a b p).1:Nat),.bool (partition ltInt d a b p).2.1])/\Z.At w blk off d.size (partition ltInt d a b p).2.2 w':=by
 have H0:=qH h0;have hS:=Z.At.start h0;clear h0;obtain⟨G,hG⟩:∃G:Nat->Int,∀t,G t=d[t]! := ⟨fun t=>d[t]!,fun _=>rfl⟩;have hcw:∀t,t<d.size->w.cell? ⟨blk,off+t,none⟩=some (.int .i32 (G t)):=fun t ht=>by rw[hG];exact hS.cell H0.out rfl ht
 have hfw:∀t,t<d.size->w.frozen? ⟨blk,off+t,none⟩=false:=fun t ht=>hS.free H0.out rfl ht
 have hsw:=hS.swap (i:=a) (j:=p) (by omega) (by omega) 1;rw[<- hG,<- hG] at hsw;obtain⟨e,he⟩:∃e,e=swp d a p:=⟨_,rfl⟩;rw[<- he] at hsw;have HD:=qH he;have HSw:Hid (∀X,X=((w.setCell ⟨blk,off+a,none⟩ (.int .i32 (G p))).setCell ⟨blk,off+p,none⟩ (.int .i32 (G a))).drew->Z.At w blk off d.size e X):=fun X hX=>by rw[hX];exact hsw
 obtain⟨v',x1⟩:∃v',((w.setCell ⟨blk,off+a,none⟩ (.int .i32 (G p))).drew).cell? ⟨blk,off+p,none⟩=some v':=cell?_setCell_some (w:=w) (p:=⟨blk,off+a,none⟩) (x:= .int .i32 (G p)) (q:=⟨blk,off+p,none⟩) (hcw p (by omega));have x2:((w.setCell ⟨blk,off+a,none⟩ (.int .i32 (G p))).drew).frozen? ⟨blk,off+p,none⟩=false:=(World.frozen?_setCell _ _ _ _).trans (hfw p (by omega));obtain⟨i,hi⟩:∃i,i=a+1:=⟨_,rfl⟩;obtain⟨j,hj⟩:∃j,j=b - 1:=⟨_,rfl⟩;have hai:a<i:=by omega
 have hij:i<=j+1:=by omega
 have hjb:j<b:=by omega
 have e1:((a:Int)+1)=(i:Int):=by omega
 have e2:((b:Int) - 1)=(j:Int):=by omega
 have HI:=qH hi;have HJ:=qH hj;clear hsw hG hS hi hj he
 go_enter func297,ntmps297
 go_wp2_with fail
 go_region
 go_upto_block 0 with fail
 have HE:=qH <| HSw.out _ rfl;clear hcw hfw HSw x1 x2 e1 e2
 go_upto_block 0 with fail
 go_cut [10] (fun v10 wx=>∃k:Nat,v10= .int .i64 k/\i<=k/\k<=j+1/\Hid (Z.At w blk off d.size e wx/\k=scanUp (fun x=>ltInt x e[a]!) e j i))
 case first =>
  go_wp2
  go_loopw [10] (fun v10 wx=>∃k:Nat,v10= .int .i64 k/\i<=k/\k<=j+1/\Hid (Z.At w blk off d.size e wx/\scanUp (fun x=>ltInt x e[a]!) e j k=scanUp (fun x=>ltInt x e[a]!) e j i)) (fun v10 _=>j+1 - (RowKit.intOf v10).toNat)
  case atStart=>exact⟨i,rfl,qN,hij,HE.out,rfl⟩
  case round =>
   obtain⟨k,rfl,hik,hkj,HK⟩:=hrel;obtain⟨G',hG⟩:∃G:Nat->Int,∀t,G t=e[t]! := ⟨fun t=>e[t]!,fun _=>rfl⟩;have hcw:∀t,t<d.size->wr.cell? ⟨blk,off+t,none⟩=some (.int .i32 (G' t)):=fun t ht=>by rw[hG];exact HK.out.1.cell H0.out rfl ht
   have HG:=qH hG;clear hG
   by_cases hk:k<=j
   ·go_wp2
    go_quiet (first | (go_at_call 295;refine Calls.quiet_of_same (zaq _ _ _)))
    cases hl:ltInt (G' k) (G' a) with
    | true =>
     go_wp2
     go_roundw
     case rel=>exact⟨k+1,by go_num,by omega,by omega,HK.out.1.drew _,by rw[<- HK.out.2,scanUp_go (fun x=>ltInt x e[a]!) e j k hk (by rw[<- HG.out,<- HG.out,hl])]⟩
     case measure=>simp[RowKit.intOf];omega
    | false =>
     go_wp2
     go_meet
     case rel=>exact⟨k,rfl,hik,hkj,HK.out.1.drew _,by rw[<- HK.out.2,scanUp_end (fun x=>ltInt x e[a]!) e j k (.inr (by rw[<- HG.out,<- HG.out,hl]))]⟩
   ·go_wp2
    go_quiet (first | (go_at_call 295;refine Calls.quiet_of_same (zaq _ _ _)))
    go_wp2
    go_meet
    case rel=>exact⟨k,rfl,hik,hkj,HK.out.1.drew _,by rw[<- HK.out.2,scanUp_end (fun x=>ltInt x e[a]!) e j k (.inl hk)]⟩
 case rest =>
  obtain⟨k,rfl,hik,hkj,HK⟩:=hcut
  go_upto_block 2 with fail
  go_cut [11] (fun v11 wx=>∃l:Nat,v11= .int .i64 l/\l<=j/\k<=l+1/\Hid (Z.At w blk off d.size e wx/\l=scanDown (fun x=> !ltInt x e[a]!) e k j))
  case first =>
   go_wp2
   go_loopw [11] (fun v11 wx=>∃l:Nat,v11= .int .i64 l/\l<=j/\k<=l+1/\Hid (Z.At w blk off d.size e wx/\scanDown (fun x=> !ltInt x e[a]!) e k l=scanDown (fun x=> !ltInt x e[a]!) e k j)) (fun v11 _=>(RowKit.intOf v11).toNat)
   case atStart=>exact⟨j,rfl,qN,hkj,HK.out.1,rfl⟩
   case round =>
    obtain⟨l,rfl,hlj,hkl,HL⟩:=hrel;obtain⟨G',hG⟩:∃G:Nat->Int,∀t,G t=e[t]! := ⟨fun t=>e[t]!,fun _=>rfl⟩;have hcw:∀t,t<d.size->wr.cell? ⟨blk,off+t,none⟩=some (.int .i32 (G' t)):=fun t ht=>by rw[hG];exact HL.out.1.cell H0.out rfl ht
    have HG:=qH hG;clear hG
    by_cases hk:k<=l
    ·go_wp2
     go_quiet (first | (go_at_call 295;refine Calls.quiet_of_same (zaq _ _ _)))
     cases hl:ltInt (G' l) (G' a) with
     | false =>
      go_wp2
      go_roundw
      case rel=>exact⟨l - 1,by congr 1;omega,by omega,by omega,HL.out.1.drew _,by rw[<- HL.out.2,scanDown_go (fun x=> !ltInt x e[a]!) e k l hk (by omega) (by rw[<- HG.out,<- HG.out,hl];rfl)]⟩
      case measure=>simp[RowKit.intOf];omega
     | true =>
      go_wp2
      go_meet
      case rel=>exact⟨l,rfl,hlj,hkl,HL.out.1.drew _,by rw[<- HL.out.2,scanDown_end (fun x=> !ltInt x e[a]!) e k l (.inr (by rw[<- HG.out,<- HG.out,hl];rfl))]⟩
    ·go_wp2
     go_quiet (first | (go_at_call 295;refine Calls.quiet_of_same (zaq _ _ _)))
     go_wp2
     go_meet
     case rel=>exact⟨l,rfl,hlj,hkl,HL.out.1.drew _,by rw[<- HL.out.2,scanDown_end (fun x=> !ltInt x e[a]!) e k l (.inl hk)]⟩
  case rest =>
   obtain⟨l,rfl,hlj,hkl,HL⟩:=hcut
   by_cases hkl2:l<k
   ·have HB:=qH <| part_first_break ltInt d a b p HI.out HJ.out HD.out HK.out.2 HL.out.2 hkl2;obtain⟨G',hG⟩:∃G:Nat->Int,∀t,G t=e[t]! := ⟨fun t=>e[t]!,fun _=>rfl⟩;have hcw:∀t,t<d.size->wc.cell? ⟨blk,off+t,none⟩=some (.int .i32 (G' t)):=fun t ht=>by rw[hG];exact HL.out.1.cell H0.out rfl ht
    have hfw:∀t,t<d.size->wc.frozen? ⟨blk,off+t,none⟩=false:=fun t ht=>HL.out.1.free H0.out rfl ht
    have hsw:=HL.out.1.swap (i:=l) (j:=a) (by omega) (by omega) 1;rw[<- hG,<- hG] at hsw;have HSw:Hid (∀X,X=((wc.setCell ⟨blk,off+l,none⟩ (.int .i32 (G' a))).setCell ⟨blk,off+a,none⟩ (.int .i32 (G' l))).drew->Z.At w blk off d.size (swp e l a) X):=fun X hX=>by rw[hX];exact hsw
    obtain⟨v',x1⟩:∃v',((wc.setCell ⟨blk,off+l,none⟩ (.int .i32 (G' a))).drew).cell? ⟨blk,off+a,none⟩=some v':=cell?_setCell_some (w:=wc) (p:=⟨blk,off+l,none⟩) (x:= .int .i32 (G' a)) (q:=⟨blk,off+a,none⟩) (hcw a (by omega));have x2:((wc.setCell ⟨blk,off+l,none⟩ (.int .i32 (G' a))).drew).frozen? ⟨blk,off+a,none⟩=false:=(World.frozen?_setCell _ _ _ _).trans (hfw a (by omega));clear hsw hG;clear HE HK HL HI HJ HD
    go_wp2_with fail
    go_region
    go_wp2;refine bodyPost_ret (v:= .tuple #[.int .i64 l,.bool true]) (by simp[results,results297,go_sem, *]) rfl ?_
    rw[HB.out];exact⟨rfl,HSw.out _ rfl⟩
   ·have HP0:=qH <| part_first_go ltInt d a b p HI.out HJ.out HD.out HK.out.2 HL.out.2 (by omega);have hlt3:=part_scans_lt ltInt a i j e (by omega) HK.out.2 HL.out.2 (by omega);obtain⟨G',hG⟩:∃G:Nat->Int,∀t,G t=e[t]! := ⟨fun t=>e[t]!,fun _=>rfl⟩;have hcw:∀t,t<d.size->wc.cell? ⟨blk,off+t,none⟩=some (.int .i32 (G' t)):=fun t ht=>by rw[hG];exact HL.out.1.cell H0.out rfl ht
    have hfw:∀t,t<d.size->wc.frozen? ⟨blk,off+t,none⟩=false:=fun t ht=>HL.out.1.free H0.out rfl ht
    have hsw:=HL.out.1.swap (i:=k) (j:=l) (by omega) (by omega) 1;rw[<- hG,<- hG] at hsw;have HSw:Hid (∀X,X=((wc.setCell ⟨blk,off+k,none⟩ (.int .i32 (G' l))).setCell ⟨blk,off+l,none⟩ (.int .i32 (G' k))).drew->Z.At w blk off d.size (swp e k l) X):=fun X hX=>by rw[hX];exact hsw
    clear hsw hG;obtain⟨i0,hi0⟩:∃i0,i0=k+1:=⟨_,rfl⟩;obtain⟨j0,hj0⟩:∃j0,j0=l - 1:=⟨_,rfl⟩;obtain⟨e0,he0⟩:∃e0,e0=swp e k l:=⟨_,rfl⟩;rw[<- hi0,<- hj0,<- he0] at HP0;rw[<- he0] at HSw;have HP:=qH HP0.out;have HI0:=qH hi0;have HJ0:=qH hj0;clear HE HK HL HI HJ HD HP0 hi0 hj0 he0
    go_wp2_with fail
    go_region
    go_wp2
    go_loopw [10,11] (fun v10 v11 wr=>∃(i j:Nat) (e:Array Int),v10= .int .i64 i/\v11= .int .i64 j/\a<i/\i<=j+1/\j<b/\Hid (Z.At w blk off d.size e wr/\partLoop ltInt a i j e=partLoop ltInt a i0 j0 e0)) (fun v10 v11 _=>(RowKit.intOf v11+1 - RowKit.intOf v10).toNat)
    case atStart=>exact⟨i0,j0,e0,by rw[HI0.out];go_num,by rw[HJ0.out];congr 1;omega,by have:=HI0.out;omega,by have:=HI0.out;have:=HJ0.out;omega,by have:=HJ0.out;omega,HSw.out _ rfl,rfl⟩
    case round =>
     clear hcw hfw HSw HI0 HJ0 hlt3 hkl2 hkl hlj hik hkj hij hai hjb;obtain⟨i,j,e,rfl,rfl,hai,hij,hjb,HEE⟩:=hrel;have HE:=qH HEE.out.1;have HE2:=qH HEE.out.2;clear HEE
     go_upto_block 6 with fail
     go_cut [10] (fun v10 wx=>∃k:Nat,v10= .int .i64 k/\i<=k/\k<=j+1/\Hid (Z.At w blk off d.size e wx/\k=scanUp (fun x=>ltInt x e[a]!) e j i))
     case first =>
      go_wp2
      go_loopw [10] (fun v10 wx=>∃k:Nat,v10= .int .i64 k/\i<=k/\k<=j+1/\Hid (Z.At w blk off d.size e wx/\scanUp (fun x=>ltInt x e[a]!) e j k=scanUp (fun x=>ltInt x e[a]!) e j i)) (fun v10 _=>j+1 - (RowKit.intOf v10).toNat)
      case atStart=>exact⟨i,rfl,qN,hij,HE.out,rfl⟩
      case round =>
       obtain⟨k,rfl,hik,hkj,HK⟩:=hrel;obtain⟨G',hG⟩:∃G:Nat->Int,∀t,G t=e[t]! := ⟨fun t=>e[t]!,fun _=>rfl⟩;have hcw:∀t,t<d.size->wr.cell? ⟨blk,off+t,none⟩=some (.int .i32 (G' t)):=fun t ht=>by rw[hG];exact HK.out.1.cell H0.out rfl ht
       have HG:=qH hG;clear hG
       by_cases hk:k<=j
       ·go_wp2
        go_quiet (first | (go_at_call 295;refine Calls.quiet_of_same (zaq _ _ _)))
        cases hl:ltInt (G' k) (G' a) with
        | true =>
         go_wp2
         go_roundw
         case rel=>exact⟨k+1,by go_num,by omega,by omega,HK.out.1.drew _,by rw[<- HK.out.2,scanUp_go (fun x=>ltInt x e[a]!) e j k hk (by rw[<- HG.out,<- HG.out,hl])]⟩
         case measure=>simp[RowKit.intOf];omega
        | false =>
         go_wp2
         go_meet
         case rel=>exact⟨k,rfl,hik,hkj,HK.out.1.drew _,by rw[<- HK.out.2,scanUp_end (fun x=>ltInt x e[a]!) e j k (.inr (by rw[<- HG.out,<- HG.out,hl]))]⟩
       ·go_wp2
        go_quiet (first | (go_at_call 295;refine Calls.quiet_of_same (zaq _ _ _)))
        go_wp2
        go_meet
        case rel=>exact⟨k,rfl,hik,hkj,HK.out.1.drew _,by rw[<- HK.out.2,scanUp_end (fun x=>ltInt x e[a]!) e j k (.inl hk)]⟩
     case rest =>
      obtain⟨k,rfl,hik,hkj,HK⟩:=hcut
      go_upto_block 8 with fail
      go_cut [11] (fun v11 wx=>∃l:Nat,v11= .int .i64 l/\l<=j/\k<=l+1/\Hid (Z.At w blk off d.size e wx/\l=scanDown (fun x=> !ltInt x e[a]!) e k j))
      case first =>
       go_wp2
       go_loopw [11] (fun v11 wx=>∃l:Nat,v11= .int .i64 l/\l<=j/\k<=l+1/\Hid (Z.At w blk off d.size e wx/\scanDown (fun x=> !ltInt x e[a]!) e k l=scanDown (fun x=> !ltInt x e[a]!) e k j)) (fun v11 _=>(RowKit.intOf v11).toNat)
       case atStart=>exact⟨j,rfl,qN,hkj,HK.out.1,rfl⟩
       case round =>
        obtain⟨l,rfl,hlj,hkl,HL⟩:=hrel;obtain⟨G',hG⟩:∃G:Nat->Int,∀t,G t=e[t]! := ⟨fun t=>e[t]!,fun _=>rfl⟩;have hcw:∀t,t<d.size->wr.cell? ⟨blk,off+t,none⟩=some (.int .i32 (G' t)):=fun t ht=>by rw[hG];exact HL.out.1.cell H0.out rfl ht
        have HG:=qH hG;clear hG
        by_cases hk:k<=l
        ·go_wp2
         go_quiet (first | (go_at_call 295;refine Calls.quiet_of_same (zaq _ _ _)))
         cases hl:ltInt (G' l) (G' a) with
         | false =>
          go_wp2
          go_roundw
          case rel=>exact⟨l - 1,by congr 1;omega,by omega,by omega,HL.out.1.drew _,by rw[<- HL.out.2,scanDown_go (fun x=> !ltInt x e[a]!) e k l hk (by omega) (by rw[<- HG.out,<- HG.out,hl];rfl)]⟩
          case measure=>simp[RowKit.intOf];omega
         | true =>
          go_wp2
          go_meet
          case rel=>exact⟨l,rfl,hlj,hkl,HL.out.1.drew _,by rw[<- HL.out.2,scanDown_end (fun x=> !ltInt x e[a]!) e k l (.inr (by rw[<- HG.out,<- HG.out,hl];rfl))]⟩
        ·go_wp2
         go_quiet (first | (go_at_call 295;refine Calls.quiet_of_same (zaq _ _ _)))
         go_wp2
         go_meet
         case rel=>exact⟨l,rfl,hlj,hkl,HL.out.1.drew _,by rw[<- HL.out.2,scanDown_end (fun x=> !ltInt x e[a]!) e k l (.inl hk)]⟩
      case rest =>
       obtain⟨l,rfl,hlj,hkl,HL⟩:=hcut
       by_cases hkl2:l<k
       ·have HB:Hid (partition ltInt d a b p=(l,false,swp e l a)):=by
         show _=_;rw[HP.out,<- HE2.out,part_break ltInt a i j e HK.out.2 HL.out.2 hkl2]
        obtain⟨G',hG⟩:∃G:Nat->Int,∀t,G t=e[t]! := ⟨fun t=>e[t]!,fun _=>rfl⟩;have hcw:∀t,t<d.size->wc.cell? ⟨blk,off+t,none⟩=some (.int .i32 (G' t)):=fun t ht=>by rw[hG];exact HL.out.1.cell H0.out rfl ht
        have hfw:∀t,t<d.size->wc.frozen? ⟨blk,off+t,none⟩=false:=fun t ht=>HL.out.1.free H0.out rfl ht
        have hsw:=HL.out.1.swap (i:=l) (j:=a) (by omega) (by omega) 1;rw[<- hG,<- hG] at hsw;have HSw:Hid (∀X,X=((wc.setCell ⟨blk,off+l,none⟩ (.int .i32 (G' a))).setCell ⟨blk,off+a,none⟩ (.int .i32 (G' l))).drew->Z.At w blk off d.size (swp e l a) X):=fun X hX=>by rw[hX];exact hsw
        obtain⟨v',x1⟩:∃v',((wc.setCell ⟨blk,off+l,none⟩ (.int .i32 (G' a))).drew).cell? ⟨blk,off+a,none⟩=some v':=cell?_setCell_some (w:=wc) (p:=⟨blk,off+l,none⟩) (x:= .int .i32 (G' a)) (q:=⟨blk,off+a,none⟩) (hcw a (by omega));have x2:((wc.setCell ⟨blk,off+l,none⟩ (.int .i32 (G' a))).drew).frozen? ⟨blk,off+a,none⟩=false:=(World.frozen?_setCell _ _ _ _).trans (hfw a (by omega));clear hsw hG;clear HE HK HL HP HE2
        go_wp2_with fail
        go_region
        go_wp2;refine bodyPost_ret (v:= .tuple #[.int .i64 l,.bool false]) (by simp[results,results297,go_sem, *]) rfl ?_
        rw[HB.out];exact⟨rfl,HSw.out _ rfl⟩
       ·have HB:Hid (partLoop ltInt a (k+1) (l - 1) (swp e k l)=partLoop ltInt a i0 j0 e0):=by
         show _=_;rw[<- HE2.out,part_go ltInt a i j e HK.out.2 HL.out.2 (by omega)]
        have hlt3:=part_scans_lt ltInt a i j e (by omega) HK.out.2 HL.out.2 (by omega);obtain⟨G',hG⟩:∃G:Nat->Int,∀t,G t=e[t]! := ⟨fun t=>e[t]!,fun _=>rfl⟩;have hcw:∀t,t<d.size->wc.cell? ⟨blk,off+t,none⟩=some (.int .i32 (G' t)):=fun t ht=>by rw[hG];exact HL.out.1.cell H0.out rfl ht
        have hfw:∀t,t<d.size->wc.frozen? ⟨blk,off+t,none⟩=false:=fun t ht=>HL.out.1.free H0.out rfl ht
        have hsw:=HL.out.1.swap (i:=k) (j:=l) (by omega) (by omega) 1;rw[<- hG,<- hG] at hsw;have HSw:Hid (∀X,X=((wc.setCell ⟨blk,off+k,none⟩ (.int .i32 (G' l))).setCell ⟨blk,off+l,none⟩ (.int .i32 (G' k))).drew->Z.At w blk off d.size (swp e k l) X):=fun X hX=>by rw[hX];exact hsw
        clear hsw hG;clear HE HK HL HE2
        go_wp2_with fail
        go_region
        all_goals go_wp2
        go_roundw
        case rel=>exact⟨k+1,l - 1,swp e k l,by go_num,by congr 1;omega,by omega,by omega,by omega,HSw.out _ rfl,HB.out⟩
        case measure=>simp[RowKit.intOf];omega
end
section
open Go.RowKit Go.Sort
theorem zr9 (w:World)(blk off cap a b:Nat)(d:Array Int)(h0:Holds Z.en w blk off d)(hab:a<b)(hb:b<=d.size)(hsz:d.size<4611686018427387904) :
  Calls prog 293 #[.slice (some ⟨blk,off,none⟩) d.size cap,.int .i64 a,.int .i64 b] w fun e w'=>e= .returned (.tuple #[])/\Z.At w blk off d.size (reverseRange d a b) w':=by
 have H0:=qH h0;have HS:=qH <| Z.At.start h0;clear h0
 go_enter func293,ntmps293
 go_wp2
 go_loopw [6,7] (fun vi vj wr=>∃(i j:Nat) (e:Array Int),vi= .int .i64 i/\vj= .int .i64 j/\a<=i/\i<=j+1/\j<b/\Hid (Z.At w blk off d.size e wr/\reverseLoop i j e=reverseLoop a (b - 1) d)) (fun vi _ _=>b - (RowKit.intOf vi).toNat)
 case atStart=>exact⟨a,b - 1,d,rfl,by congr 1;omega,qN,by omega,by omega,HS.out,rfl⟩
 case round =>
  obtain⟨i,j,e,rfl,rfl,hai,hij,hjb,HE⟩:=hrel;clear HS
  by_cases hlt:i<j
  ·have ci:=HE.out.1.cell H0.out rfl (j:=i) (by omega);have cj:=HE.out.1.cell H0.out rfl (j:=j) (by omega);have fi:=HE.out.1.free H0.out rfl (j:=i) (by omega);have fj:=HE.out.1.free H0.out rfl (j:=j) (by omega);have hsw:=HE.out.1.swap (i:=i) (j:=j) (by omega) (by omega) 1;generalize hx:e[i]! = x at ci hsw;generalize hy:e[j]! = y at cj hsw;have HW:=qH hsw;clear hsw hx hy H0
   go_wp2_with fail
   go_region
   go_wp2
   go_roundw
   case rel =>
    refine⟨i+1,j - 1,swp e i j,by go_num,by congr 1;omega,by omega,by omega,by omega,HW.out,?_⟩;have h:=HE.out.2;rw[reverseLoop,if_pos hlt] at h;exact h
   case measure=>simp[RowKit.intOf];omega
  ·go_wp2
   go_end0
   refine⟨rfl,?_⟩;have h:=HE.out.2;rw[reverseLoop,if_neg hlt] at h;unfold reverseRange;rw[<- h];exact HE.out.1
