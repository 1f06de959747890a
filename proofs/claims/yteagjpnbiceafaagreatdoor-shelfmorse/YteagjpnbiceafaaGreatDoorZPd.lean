/-
 Runes that are sorted: those that are the same as one, ahead of those that are more.
-/
import Derived.Test.YteagjpnbiceafaaGreatDoorZPart
import Derived.Sort.WalkC4
import Derived.Test.YteagjpnbiceafaaGreatDoorZHeap2
import Derived.BigRegion
import Derived.Sort.AssemblyPlain
set_option maxHeartbeats 0
set_option maxRecDepth 20000
set_option linter.unusedSimpArgs false
set_option linter.unusedVariables false
namespace Go.Proofs.YteagjpnbiceafaaGreatDoor
open Go.RowKit Go.Sort
theorem zpb (w:World)(blk off cap a b p:Nat)(d:Array Int)(h0:Holds Z.en w blk off d)(hap:a<=p)(hpb:p<b)(hb:b<=d.size)(hsz:d.size<1152921504606846976) :
  Calls Tryz.prog 238 #[.slice (some ⟨blk,off,none⟩) d.size cap,.int .i64 a,.int .i64 b,.int .i64 p] w fun e w'=>e= .returned (.int .i64 ((partitionEqual ltInt d a b p).1:Nat))/\Z.At w blk off d.size (partitionEqual ltInt d a b p).2 w':=by
 have H0:Hid (Holds Z.en w blk off d):=h0;have hS:Z.At w blk off d.size d w:=Z.At.start h0;clear h0;obtain⟨G,hG⟩:∃G:Nat->Int,∀t,G t=d[t]! := ⟨fun t=>d[t]!,fun _=>rfl⟩;have hcw:∀t,t<d.size->w.cell? ⟨blk,off+t,none⟩=some (.int .i32 (G t)):=fun t ht=>by rw[hG];exact hS.cell H0.out rfl ht
 have hfw:∀t,t<d.size->w.frozen? ⟨blk,off+t,none⟩=false:=fun t ht=>hS.free H0.out rfl ht
 have hsw:=hS.swap (i:=a) (j:=p) (by omega) (by omega) 1;rw[<- hG,<- hG] at hsw;have HSw:Hid (∀X,X=((w.setCell ⟨blk,off+a,none⟩ (.int .i32 (G p))).setCell ⟨blk,off+p,none⟩ (.int .i32 (G a))).drew->Z.At w blk off d.size (swp d a p) X):=fun X hX=>by rw[hX];exact hsw
 obtain⟨v',x1⟩:∃v',((w.setCell ⟨blk,off+a,none⟩ (.int .i32 (G p))).drew).cell? ⟨blk,off+p,none⟩=some v':=cell?_setCell_some (w:=w) (p:=⟨blk,off+a,none⟩) (x:= .int .i32 (G p)) (q:=⟨blk,off+p,none⟩) (hcw p (by omega));have x2:((w.setCell ⟨blk,off+a,none⟩ (.int .i32 (G p))).drew).frozen? ⟨blk,off+p,none⟩=false:=(World.frozen?_setCell _ _ _ _).trans (hfw p (by omega));clear hsw hG hS
 go_enter Tryz.func238,Tryz.ntmps238
 go_wp2_with fail
 go_region
 go_wp2
 go_loopw [9,10] (fun v9 v10 wr=>∃(i j:Nat) (e:Array Int),v9= .int .i64 i/\v10= .int .i64 j/\a<i/\i<=j+1/\j<b/\Hid (Z.At w blk off d.size e wr/\partEqLoop ltInt a i j e=partitionEqual ltInt d a b p)) (fun v9 v10 _=>(RowKit.intOf v10+1 - RowKit.intOf v9).toNat)
 case atStart=>exact⟨a+1,b - 1,swp d a p,by go_num,by congr 1;omega,by omega,by omega,by omega,HSw.out _ rfl,rfl⟩
 case round =>
  obtain⟨i,j,e,rfl,rfl,hai,hij,hjb,HE⟩:=hrel;clear hcw hfw HSw x1 x2
  go_upto_block 2 with fail
  go_cut [9] (fun v9 wx=>∃k:Nat,v9= .int .i64 k/\i<=k/\k<=j+1/\Hid (Z.At w blk off d.size e wx/\k=scanUp (fun x=> !ltInt e[a]! x) e j i))
  case first =>
   go_wp2
   go_loopw [9] (fun v9 wx=>∃k:Nat,v9= .int .i64 k/\i<=k/\k<=j+1/\Hid (Z.At w blk off d.size e wx/\scanUp (fun x=> !ltInt e[a]! x) e j k=scanUp (fun x=> !ltInt e[a]! x) e j i)) (fun v9 _=>j+1 - (RowKit.intOf v9).toNat)
   case atStart=>exact⟨i,rfl,qN,hij,HE.out.1,rfl⟩
   case round =>
    obtain⟨k,rfl,hik,hkj,HK⟩:=hrel;obtain⟨G',hG⟩:∃G:Nat->Int,∀t,G t=e[t]! := ⟨fun t=>e[t]!,fun _=>rfl⟩;have hcw:∀t,t<d.size->wr.cell? ⟨blk,off+t,none⟩=some (.int .i32 (G' t)):=fun t ht=>by rw[hG];exact HK.out.1.cell H0.out rfl ht
    have HG:Hid (∀t,G' t=e[t]!):=hG;clear hG
    by_cases hk:k<=j
    ·go_wp2
     go_quiet (first | (go_at_call 237;refine Calls.quiet_of_same (zam _ _ _)))
     cases hl:ltInt (G' a) (G' k) with
     | false =>
      go_wp2
      go_roundw
      case rel=>exact⟨k+1,by go_num,by omega,by omega,HK.out.1.drew _,by rw[<- HK.out.2,scanUp_go (fun x=> !ltInt e[a]! x) e j k hk (by rw[<- HG.out,<- HG.out,hl];rfl)]⟩
      case measure=>simp[RowKit.intOf];omega
     | true =>
      go_wp2
      go_meet
      case rel=>exact⟨k,rfl,hik,hkj,HK.out.1.drew _,by rw[<- HK.out.2,scanUp_end (fun x=> !ltInt e[a]! x) e j k (.inr (by rw[<- HG.out,<- HG.out,hl];rfl))]⟩
    ·go_wp2
     go_quiet (first | (go_at_call 237;refine Calls.quiet_of_same (zam _ _ _)))
     go_wp2
     go_meet
     case rel=>exact⟨k,rfl,hik,hkj,HK.out.1.drew _,by rw[<- HK.out.2,scanUp_end (fun x=> !ltInt e[a]! x) e j k (.inl hk)]⟩
  case rest =>
   obtain⟨k,rfl,hik,hkj,HK⟩:=hcut
   go_upto_block 4 with fail
   go_cut [10] (fun v10 wx=>∃l:Nat,v10= .int .i64 l/\l<=j/\k<=l+1/\Hid (Z.At w blk off d.size e wx/\l=scanDown (fun x=>ltInt e[a]! x) e k j))
   case first =>
    go_wp2
    go_loopw [10] (fun v10 wx=>∃l:Nat,v10= .int .i64 l/\l<=j/\k<=l+1/\Hid (Z.At w blk off d.size e wx/\scanDown (fun x=>ltInt e[a]! x) e k l=scanDown (fun x=>ltInt e[a]! x) e k j)) (fun v10 _=>(RowKit.intOf v10).toNat)
    case atStart=>exact⟨j,rfl,qN,hkj,HK.out.1,rfl⟩
    case round =>
     obtain⟨l,rfl,hlj,hkl,HL⟩:=hrel;obtain⟨G',hG⟩:∃G:Nat->Int,∀t,G t=e[t]! := ⟨fun t=>e[t]!,fun _=>rfl⟩;have hcw:∀t,t<d.size->wr.cell? ⟨blk,off+t,none⟩=some (.int .i32 (G' t)):=fun t ht=>by rw[hG];exact HL.out.1.cell H0.out rfl ht
     have HG:Hid (∀t,G' t=e[t]!):=hG;clear hG
     by_cases hk:k<=l
     ·go_wp2
      go_quiet (first | (go_at_call 237;refine Calls.quiet_of_same (zam _ _ _)))
      cases hl:ltInt (G' a) (G' l) with
      | true =>
       go_wp2
       go_roundw
       case rel=>exact⟨l - 1,by congr 1;omega,by omega,by omega,HL.out.1.drew _,by rw[<- HL.out.2,scanDown_go (fun x=>ltInt e[a]! x) e k l hk (by omega) (by rw[<- HG.out,<- HG.out,hl])]⟩
       case measure=>simp[RowKit.intOf];omega
      | false =>
       go_wp2
       go_meet
       case rel=>exact⟨l,rfl,hlj,hkl,HL.out.1.drew _,by rw[<- HL.out.2,scanDown_end (fun x=>ltInt e[a]! x) e k l (.inr (by rw[<- HG.out,<- HG.out,hl]))]⟩
     ·go_wp2
      go_quiet (first | (go_at_call 237;refine Calls.quiet_of_same (zam _ _ _)))
      go_wp2
      go_meet
      case rel=>exact⟨l,rfl,hlj,hkl,HL.out.1.drew _,by rw[<- HL.out.2,scanDown_end (fun x=>ltInt e[a]! x) e k l (.inl hk)]⟩
   case rest =>
    obtain⟨l,rfl,hlj,hkl,HL⟩:=hcut
    by_cases hkl2:l<k
    ·have HB:Hid (partitionEqual ltInt d a b p=(k,e)):=by
      show _=_;rw[<- HE.out.2,partEq_break ltInt a i j e HK.out.2 HL.out.2 hkl2]
     clear HE HK;go_wp2;go_ret;rw[HB.out];exact⟨rfl,HL.out.1⟩
    ·have HB:Hid (partEqLoop ltInt a (k+1) (l - 1) (swp e k l)=partitionEqual ltInt d a b p):=by
      show _=_;rw[<- HE.out.2,partEq_go ltInt a i j e HK.out.2 HL.out.2 (by omega)]
     have hlt3:=scans_lt ltInt a i j e (by omega) HK.out.2 HL.out.2 (by omega);obtain⟨G',hG⟩:∃G:Nat->Int,∀t,G t=e[t]! := ⟨fun t=>e[t]!,fun _=>rfl⟩;have hcw:∀t,t<d.size->wc.cell? ⟨blk,off+t,none⟩=some (.int .i32 (G' t)):=fun t ht=>by rw[hG];exact HL.out.1.cell H0.out rfl ht
     have hfw:∀t,t<d.size->wc.frozen? ⟨blk,off+t,none⟩=false:=fun t ht=>HL.out.1.free H0.out rfl ht
     have hsw:=HL.out.1.swap (i:=k) (j:=l) (by omega) (by omega) 1;rw[<- hG,<- hG] at hsw;have HSw:Hid (∀X,X=((wc.setCell ⟨blk,off+k,none⟩ (.int .i32 (G' l))).setCell ⟨blk,off+l,none⟩ (.int .i32 (G' k))).drew->Z.At w blk off d.size (swp e k l) X):=fun X hX=>by rw[hX];exact hsw
     clear hsw hG HE HK HL
     go_wp2_with fail
     go_region
     all_goals go_wp2
     go_roundw
     case rel=>exact⟨k+1,l - 1,swp e k l,by go_num,by congr 1;omega,by omega,by omega,by omega,HSw.out _ rfl,HB.out⟩
     case measure=>simp[RowKit.intOf];omega
end Go.Proofs.YteagjpnbiceafaaGreatDoor
namespace Go.Proofs.YteagjpnbiceafaaGreatDoor
open Go.RowKit Go.Sort
theorem zmm (w:World)(blk off cap a b p:Nat)(d:Array Int)(h0:Holds Z.en w blk off d)(hap:a<=p)(hpb:p<b)(hb:b<=d.size)(hsz:d.size<1152921504606846976) :
  Calls Tryz.prog 239 #[.slice (some ⟨blk,off,none⟩) d.size cap,.int .i64 a,.int .i64 b,.int .i64 p] w fun e w'=>e= .returned (.tuple #[.int .i64 ((partition ltInt d a b p).1:Nat),.bool (partition ltInt d a b p).2.1])/\Z.At w blk off d.size (partition ltInt d a b p).2.2 w':=by
 have H0:Hid (Holds Z.en w blk off d):=h0;have hS:Z.At w blk off d.size d w:=Z.At.start h0;clear h0;obtain⟨G,hG⟩:∃G:Nat->Int,∀t,G t=d[t]! := ⟨fun t=>d[t]!,fun _=>rfl⟩;have hcw:∀t,t<d.size->w.cell? ⟨blk,off+t,none⟩=some (.int .i32 (G t)):=fun t ht=>by rw[hG];exact hS.cell H0.out rfl ht
 have hfw:∀t,t<d.size->w.frozen? ⟨blk,off+t,none⟩=false:=fun t ht=>hS.free H0.out rfl ht
 have hsw:=hS.swap (i:=a) (j:=p) (by omega) (by omega) 1;rw[<- hG,<- hG] at hsw;obtain⟨e,he⟩:∃e,e=swp d a p:=⟨_,rfl⟩;rw[<- he] at hsw;have HD:Hid (e=swp d a p):=he;have HSw:Hid (∀X,X=((w.setCell ⟨blk,off+a,none⟩ (.int .i32 (G p))).setCell ⟨blk,off+p,none⟩ (.int .i32 (G a))).drew->Z.At w blk off d.size e X):=fun X hX=>by rw[hX];exact hsw
 obtain⟨v',x1⟩:∃v',((w.setCell ⟨blk,off+a,none⟩ (.int .i32 (G p))).drew).cell? ⟨blk,off+p,none⟩=some v':=cell?_setCell_some (w:=w) (p:=⟨blk,off+a,none⟩) (x:= .int .i32 (G p)) (q:=⟨blk,off+p,none⟩) (hcw p (by omega));have x2:((w.setCell ⟨blk,off+a,none⟩ (.int .i32 (G p))).drew).frozen? ⟨blk,off+p,none⟩=false:=(World.frozen?_setCell _ _ _ _).trans (hfw p (by omega));obtain⟨i,hi⟩:∃i,i=a+1:=⟨_,rfl⟩;obtain⟨j,hj⟩:∃j,j=b - 1:=⟨_,rfl⟩;have hai:a<i:=by omega
 have hij:i<=j+1:=by omega
 have hjb:j<b:=by omega
 have e1:((a:Int)+1)=(i:Int):=by omega
 have e2:((b:Int) - 1)=(j:Int):=by omega
 have HI:Hid (i=a+1):=hi;have HJ:Hid (j=b - 1):=hj;clear hsw hG hS hi hj he
 go_enter Tryz.func239,Tryz.ntmps239
 go_wp2_with fail
 go_region
 go_upto_block 0 with fail
 have HE:Hid (Z.At w blk off d.size e (((w.setCell ⟨blk,off+a,none⟩ (.int .i32 (G p))).setCell ⟨blk,off+p,none⟩ (.int .i32 (G a))).drew)):=HSw.out _ rfl;clear hcw hfw HSw x1 x2 e1 e2
 go_upto_block 0 with fail
 go_cut [10] (fun v10 wx=>∃k:Nat,v10= .int .i64 k/\i<=k/\k<=j+1/\Hid (Z.At w blk off d.size e wx/\k=scanUp (fun x=>ltInt x e[a]!) e j i))
 case first =>
  go_wp2
  go_loopw [10] (fun v10 wx=>∃k:Nat,v10= .int .i64 k/\i<=k/\k<=j+1/\Hid (Z.At w blk off d.size e wx/\scanUp (fun x=>ltInt x e[a]!) e j k=scanUp (fun x=>ltInt x e[a]!) e j i)) (fun v10 _=>j+1 - (RowKit.intOf v10).toNat)
  case atStart=>exact⟨i,rfl,qN,hij,HE.out,rfl⟩
  case round =>
   obtain⟨k,rfl,hik,hkj,HK⟩:=hrel;obtain⟨G',hG⟩:∃G:Nat->Int,∀t,G t=e[t]! := ⟨fun t=>e[t]!,fun _=>rfl⟩;have hcw:∀t,t<d.size->wr.cell? ⟨blk,off+t,none⟩=some (.int .i32 (G' t)):=fun t ht=>by rw[hG];exact HK.out.1.cell H0.out rfl ht
   have HG:Hid (∀t,G' t=e[t]!):=hG;clear hG
   by_cases hk:k<=j
   ·go_wp2
    go_quiet (first | (go_at_call 237;refine Calls.quiet_of_same (zam _ _ _)))
    cases hl:ltInt (G' k) (G' a) with
    | true =>
     go_wp2
     go_roundw
     case rel=>exact⟨k+1,by go_num,by omega,by omega,HK.out.1.drew _,by rw[<- HK.out.2,scanUp_go (fun x=>ltInt x e[a]!) e j k hk (by rw[<- HG.out,<- HG.out,hl])]⟩
     case measure=>simp[RowKit.intOf];omega
    | false =>
     go_wp2
     go_meet
     case rel=>exact⟨k,rfl,hik,hkj,HK.out.1.drew _,by rw[<- HK.out.2,scanUp_end (fun x=>ltInt x e[a]!) e j k (.inr (by rw[<- HG.out,<- HG.out,hl]))]⟩
   ·go_wp2
    go_quiet (first | (go_at_call 237;refine Calls.quiet_of_same (zam _ _ _)))
    go_wp2
    go_meet
    case rel=>exact⟨k,rfl,hik,hkj,HK.out.1.drew _,by rw[<- HK.out.2,scanUp_end (fun x=>ltInt x e[a]!) e j k (.inl hk)]⟩
 case rest =>
  obtain⟨k,rfl,hik,hkj,HK⟩:=hcut
  go_upto_block 2 with fail
  go_cut [11] (fun v11 wx=>∃l:Nat,v11= .int .i64 l/\l<=j/\k<=l+1/\Hid (Z.At w blk off d.size e wx/\l=scanDown (fun x=> !ltInt x e[a]!) e k j))
  case first =>
   go_wp2
   go_loopw [11] (fun v11 wx=>∃l:Nat,v11= .int .i64 l/\l<=j/\k<=l+1/\Hid (Z.At w blk off d.size e wx/\scanDown (fun x=> !ltInt x e[a]!) e k l=scanDown (fun x=> !ltInt x e[a]!) e k j)) (fun v11 _=>(RowKit.intOf v11).toNat)
   case atStart=>exact⟨j,rfl,qN,hkj,HK.out.1,rfl⟩
   case round =>
    obtain⟨l,rfl,hlj,hkl,HL⟩:=hrel;obtain⟨G',hG⟩:∃G:Nat->Int,∀t,G t=e[t]! := ⟨fun t=>e[t]!,fun _=>rfl⟩;have hcw:∀t,t<d.size->wr.cell? ⟨blk,off+t,none⟩=some (.int .i32 (G' t)):=fun t ht=>by rw[hG];exact HL.out.1.cell H0.out rfl ht
    have HG:Hid (∀t,G' t=e[t]!):=hG;clear hG
    by_cases hk:k<=l
    ·go_wp2
     go_quiet (first | (go_at_call 237;refine Calls.quiet_of_same (zam _ _ _)))
     cases hl:ltInt (G' l) (G' a) with
     | false =>
      go_wp2
      go_roundw
      case rel=>exact⟨l - 1,by congr 1;omega,by omega,by omega,HL.out.1.drew _,by rw[<- HL.out.2,scanDown_go (fun x=> !ltInt x e[a]!) e k l hk (by omega) (by rw[<- HG.out,<- HG.out,hl];rfl)]⟩
      case measure=>simp[RowKit.intOf];omega
     | true =>
      go_wp2
      go_meet
      case rel=>exact⟨l,rfl,hlj,hkl,HL.out.1.drew _,by rw[<- HL.out.2,scanDown_end (fun x=> !ltInt x e[a]!) e k l (.inr (by rw[<- HG.out,<- HG.out,hl];rfl))]⟩
    ·go_wp2
     go_quiet (first | (go_at_call 237;refine Calls.quiet_of_same (zam _ _ _)))
     go_wp2
     go_meet
     case rel=>exact⟨l,rfl,hlj,hkl,HL.out.1.drew _,by rw[<- HL.out.2,scanDown_end (fun x=> !ltInt x e[a]!) e k l (.inl hk)]⟩
  case rest =>
   obtain⟨l,rfl,hlj,hkl,HL⟩:=hcut
   by_cases hkl2:l<k
   ·have HB:Hid (partition ltInt d a b p=(l,true,swp e l a)):=part_first_break ltInt d a b p HI.out HJ.out HD.out HK.out.2 HL.out.2 hkl2;obtain⟨G',hG⟩:∃G:Nat->Int,∀t,G t=e[t]! := ⟨fun t=>e[t]!,fun _=>rfl⟩;have hcw:∀t,t<d.size->wc.cell? ⟨blk,off+t,none⟩=some (.int .i32 (G' t)):=fun t ht=>by rw[hG];exact HL.out.1.cell H0.out rfl ht
    have hfw:∀t,t<d.size->wc.frozen? ⟨blk,off+t,none⟩=false:=fun t ht=>HL.out.1.free H0.out rfl ht
    have hsw:=HL.out.1.swap (i:=l) (j:=a) (by omega) (by omega) 1;rw[<- hG,<- hG] at hsw;have HSw:Hid (∀X,X=((wc.setCell ⟨blk,off+l,none⟩ (.int .i32 (G' a))).setCell ⟨blk,off+a,none⟩ (.int .i32 (G' l))).drew->Z.At w blk off d.size (swp e l a) X):=fun X hX=>by rw[hX];exact hsw
    obtain⟨v',x1⟩:∃v',((wc.setCell ⟨blk,off+l,none⟩ (.int .i32 (G' a))).drew).cell? ⟨blk,off+a,none⟩=some v':=cell?_setCell_some (w:=wc) (p:=⟨blk,off+l,none⟩) (x:= .int .i32 (G' a)) (q:=⟨blk,off+a,none⟩) (hcw a (by omega));have x2:((wc.setCell ⟨blk,off+l,none⟩ (.int .i32 (G' a))).drew).frozen? ⟨blk,off+a,none⟩=false:=(World.frozen?_setCell _ _ _ _).trans (hfw a (by omega));clear hsw hG;clear HE HK HL HI HJ HD
    go_wp2_with fail
    go_region
    go_wp2;refine bodyPost_ret (v:= .tuple #[.int .i64 l,.bool true]) (by simp[results,Tryz.results239,go_sem, *]) rfl ?_
    rw[HB.out];exact⟨rfl,HSw.out _ rfl⟩
   ·have HP0:Hid (partition ltInt d a b p=((partLoop ltInt a (k+1) (l - 1) (swp e k l)).1,false,swp (partLoop ltInt a (k+1) (l - 1) (swp e k l)).2 (partLoop ltInt a (k+1) (l - 1) (swp e k l)).1 a)):=part_first_go ltInt d a b p HI.out HJ.out HD.out HK.out.2 HL.out.2 (by omega);have hlt3:=part_scans_lt ltInt a i j e (by omega) HK.out.2 HL.out.2 (by omega);obtain⟨G',hG⟩:∃G:Nat->Int,∀t,G t=e[t]! := ⟨fun t=>e[t]!,fun _=>rfl⟩;have hcw:∀t,t<d.size->wc.cell? ⟨blk,off+t,none⟩=some (.int .i32 (G' t)):=fun t ht=>by rw[hG];exact HL.out.1.cell H0.out rfl ht
    have hfw:∀t,t<d.size->wc.frozen? ⟨blk,off+t,none⟩=false:=fun t ht=>HL.out.1.free H0.out rfl ht
    have hsw:=HL.out.1.swap (i:=k) (j:=l) (by omega) (by omega) 1;rw[<- hG,<- hG] at hsw;have HSw:Hid (∀X,X=((wc.setCell ⟨blk,off+k,none⟩ (.int .i32 (G' l))).setCell ⟨blk,off+l,none⟩ (.int .i32 (G' k))).drew->Z.At w blk off d.size (swp e k l) X):=fun X hX=>by rw[hX];exact hsw
    clear hsw hG;obtain⟨i0,hi0⟩:∃i0,i0=k+1:=⟨_,rfl⟩;obtain⟨j0,hj0⟩:∃j0,j0=l - 1:=⟨_,rfl⟩;obtain⟨e0,he0⟩:∃e0,e0=swp e k l:=⟨_,rfl⟩;rw[<- hi0,<- hj0,<- he0] at HP0;rw[<- he0] at HSw;have HP:Hid (partition ltInt d a b p=((partLoop ltInt a i0 j0 e0).1,false,swp (partLoop ltInt a i0 j0 e0).2 (partLoop ltInt a i0 j0 e0).1 a)):=HP0.out;have HI0:Hid (i0=k+1):=hi0;have HJ0:Hid (j0=l - 1):=hj0;clear HE HK HL HI HJ HD HP0 hi0 hj0 he0
    go_wp2_with fail
    go_region
    go_wp2
    go_loopw [10,11] (fun v10 v11 wr=>∃(i j:Nat) (e:Array Int),v10= .int .i64 i/\v11= .int .i64 j/\a<i/\i<=j+1/\j<b/\Hid (Z.At w blk off d.size e wr/\partLoop ltInt a i j e=partLoop ltInt a i0 j0 e0)) (fun v10 v11 _=>(RowKit.intOf v11+1 - RowKit.intOf v10).toNat)
    case atStart=>exact⟨i0,j0,e0,by rw[HI0.out];go_num,by rw[HJ0.out];congr 1;omega,by have:=HI0.out;omega,by have:=HI0.out;have:=HJ0.out;omega,by have:=HJ0.out;omega,HSw.out _ rfl,rfl⟩
    case round =>
     clear hcw hfw HSw HI0 HJ0 hlt3 hkl2 hkl hlj hik hkj hij hai hjb;obtain⟨i,j,e,rfl,rfl,hai,hij,hjb,HEE⟩:=hrel;have HE:Hid (Z.At w blk off d.size e wr):=HEE.out.1;have HE2:Hid (partLoop ltInt a i j e=partLoop ltInt a i0 j0 e0):=HEE.out.2;clear HEE
     go_upto_block 6 with fail
     go_cut [10] (fun v10 wx=>∃k:Nat,v10= .int .i64 k/\i<=k/\k<=j+1/\Hid (Z.At w blk off d.size e wx/\k=scanUp (fun x=>ltInt x e[a]!) e j i))
     case first =>
      go_wp2
      go_loopw [10] (fun v10 wx=>∃k:Nat,v10= .int .i64 k/\i<=k/\k<=j+1/\Hid (Z.At w blk off d.size e wx/\scanUp (fun x=>ltInt x e[a]!) e j k=scanUp (fun x=>ltInt x e[a]!) e j i)) (fun v10 _=>j+1 - (RowKit.intOf v10).toNat)
      case atStart=>exact⟨i,rfl,qN,hij,HE.out,rfl⟩
      case round =>
       obtain⟨k,rfl,hik,hkj,HK⟩:=hrel;obtain⟨G',hG⟩:∃G:Nat->Int,∀t,G t=e[t]! := ⟨fun t=>e[t]!,fun _=>rfl⟩;have hcw:∀t,t<d.size->wr.cell? ⟨blk,off+t,none⟩=some (.int .i32 (G' t)):=fun t ht=>by rw[hG];exact HK.out.1.cell H0.out rfl ht
       have HG:Hid (∀t,G' t=e[t]!):=hG;clear hG
       by_cases hk:k<=j
       ·go_wp2
        go_quiet (first | (go_at_call 237;refine Calls.quiet_of_same (zam _ _ _)))
        cases hl:ltInt (G' k) (G' a) with
        | true =>
         go_wp2
         go_roundw
         case rel=>exact⟨k+1,by go_num,by omega,by omega,HK.out.1.drew _,by rw[<- HK.out.2,scanUp_go (fun x=>ltInt x e[a]!) e j k hk (by rw[<- HG.out,<- HG.out,hl])]⟩
         case measure=>simp[RowKit.intOf];omega
        | false =>
         go_wp2
         go_meet
         case rel=>exact⟨k,rfl,hik,hkj,HK.out.1.drew _,by rw[<- HK.out.2,scanUp_end (fun x=>ltInt x e[a]!) e j k (.inr (by rw[<- HG.out,<- HG.out,hl]))]⟩
       ·go_wp2
        go_quiet (first | (go_at_call 237;refine Calls.quiet_of_same (zam _ _ _)))
        go_wp2
        go_meet
        case rel=>exact⟨k,rfl,hik,hkj,HK.out.1.drew _,by rw[<- HK.out.2,scanUp_end (fun x=>ltInt x e[a]!) e j k (.inl hk)]⟩
     case rest =>
      obtain⟨k,rfl,hik,hkj,HK⟩:=hcut
      go_upto_block 8 with fail
      go_cut [11] (fun v11 wx=>∃l:Nat,v11= .int .i64 l/\l<=j/\k<=l+1/\Hid (Z.At w blk off d.size e wx/\l=scanDown (fun x=> !ltInt x e[a]!) e k j))
      case first =>
       go_wp2
       go_loopw [11] (fun v11 wx=>∃l:Nat,v11= .int .i64 l/\l<=j/\k<=l+1/\Hid (Z.At w blk off d.size e wx/\scanDown (fun x=> !ltInt x e[a]!) e k l=scanDown (fun x=> !ltInt x e[a]!) e k j)) (fun v11 _=>(RowKit.intOf v11).toNat)
       case atStart=>exact⟨j,rfl,qN,hkj,HK.out.1,rfl⟩
       case round =>
        obtain⟨l,rfl,hlj,hkl,HL⟩:=hrel;obtain⟨G',hG⟩:∃G:Nat->Int,∀t,G t=e[t]! := ⟨fun t=>e[t]!,fun _=>rfl⟩;have hcw:∀t,t<d.size->wr.cell? ⟨blk,off+t,none⟩=some (.int .i32 (G' t)):=fun t ht=>by rw[hG];exact HL.out.1.cell H0.out rfl ht
        have HG:Hid (∀t,G' t=e[t]!):=hG;clear hG
        by_cases hk:k<=l
        ·go_wp2
         go_quiet (first | (go_at_call 237;refine Calls.quiet_of_same (zam _ _ _)))
         cases hl:ltInt (G' l) (G' a) with
         | false =>
          go_wp2
          go_roundw
          case rel=>exact⟨l - 1,by congr 1;omega,by omega,by omega,HL.out.1.drew _,by rw[<- HL.out.2,scanDown_go (fun x=> !ltInt x e[a]!) e k l hk (by omega) (by rw[<- HG.out,<- HG.out,hl];rfl)]⟩
          case measure=>simp[RowKit.intOf];omega
         | true =>
          go_wp2
          go_meet
          case rel=>exact⟨l,rfl,hlj,hkl,HL.out.1.drew _,by rw[<- HL.out.2,scanDown_end (fun x=> !ltInt x e[a]!) e k l (.inr (by rw[<- HG.out,<- HG.out,hl];rfl))]⟩
        ·go_wp2
         go_quiet (first | (go_at_call 237;refine Calls.quiet_of_same (zam _ _ _)))
         go_wp2
         go_meet
         case rel=>exact⟨l,rfl,hlj,hkl,HL.out.1.drew _,by rw[<- HL.out.2,scanDown_end (fun x=> !ltInt x e[a]!) e k l (.inl hk)]⟩
      case rest =>
       obtain⟨l,rfl,hlj,hkl,HL⟩:=hcut
       by_cases hkl2:l<k
       ·have HB:Hid (partition ltInt d a b p=(l,false,swp e l a)):=by
         show _=_;rw[HP.out,<- HE2.out,part_break ltInt a i j e HK.out.2 HL.out.2 hkl2]
        obtain⟨G',hG⟩:∃G:Nat->Int,∀t,G t=e[t]! := ⟨fun t=>e[t]!,fun _=>rfl⟩;have hcw:∀t,t<d.size->wc.cell? ⟨blk,off+t,none⟩=some (.int .i32 (G' t)):=fun t ht=>by rw[hG];exact HL.out.1.cell H0.out rfl ht
        have hfw:∀t,t<d.size->wc.frozen? ⟨blk,off+t,none⟩=false:=fun t ht=>HL.out.1.free H0.out rfl ht
        have hsw:=HL.out.1.swap (i:=l) (j:=a) (by omega) (by omega) 1;rw[<- hG,<- hG] at hsw;have HSw:Hid (∀X,X=((wc.setCell ⟨blk,off+l,none⟩ (.int .i32 (G' a))).setCell ⟨blk,off+a,none⟩ (.int .i32 (G' l))).drew->Z.At w blk off d.size (swp e l a) X):=fun X hX=>by rw[hX];exact hsw
        obtain⟨v',x1⟩:∃v',((wc.setCell ⟨blk,off+l,none⟩ (.int .i32 (G' a))).drew).cell? ⟨blk,off+a,none⟩=some v':=cell?_setCell_some (w:=wc) (p:=⟨blk,off+l,none⟩) (x:= .int .i32 (G' a)) (q:=⟨blk,off+a,none⟩) (hcw a (by omega));have x2:((wc.setCell ⟨blk,off+l,none⟩ (.int .i32 (G' a))).drew).frozen? ⟨blk,off+a,none⟩=false:=(World.frozen?_setCell _ _ _ _).trans (hfw a (by omega));clear hsw hG;clear HE HK HL HP HE2
        go_wp2_with fail
        go_region
        go_wp2;refine bodyPost_ret (v:= .tuple #[.int .i64 l,.bool false]) (by simp[results,Tryz.results239,go_sem, *]) rfl ?_
        rw[HB.out];exact⟨rfl,HSw.out _ rfl⟩
       ·have HB:Hid (partLoop ltInt a (k+1) (l - 1) (swp e k l)=partLoop ltInt a i0 j0 e0):=by
         show _=_;rw[<- HE2.out,part_go ltInt a i j e HK.out.2 HL.out.2 (by omega)]
        have hlt3:=part_scans_lt ltInt a i j e (by omega) HK.out.2 HL.out.2 (by omega);obtain⟨G',hG⟩:∃G:Nat->Int,∀t,G t=e[t]! := ⟨fun t=>e[t]!,fun _=>rfl⟩;have hcw:∀t,t<d.size->wc.cell? ⟨blk,off+t,none⟩=some (.int .i32 (G' t)):=fun t ht=>by rw[hG];exact HL.out.1.cell H0.out rfl ht
        have hfw:∀t,t<d.size->wc.frozen? ⟨blk,off+t,none⟩=false:=fun t ht=>HL.out.1.free H0.out rfl ht
        have hsw:=HL.out.1.swap (i:=k) (j:=l) (by omega) (by omega) 1;rw[<- hG,<- hG] at hsw;have HSw:Hid (∀X,X=((wc.setCell ⟨blk,off+k,none⟩ (.int .i32 (G' l))).setCell ⟨blk,off+l,none⟩ (.int .i32 (G' k))).drew->Z.At w blk off d.size (swp e k l) X):=fun X hX=>by rw[hX];exact hsw
        clear hsw hG;clear HE HK HL HE2
        go_wp2_with fail
        go_region
        all_goals go_wp2
        go_roundw
        case rel=>exact⟨k+1,l - 1,swp e k l,by go_num,by congr 1;omega,by omega,by omega,by omega,HSw.out _ rfl,HB.out⟩
        case measure=>simp[RowKit.intOf];omega
end Go.Proofs.YteagjpnbiceafaaGreatDoor
namespace Go.Proofs.YteagjpnbiceafaaGreatDoor
open Go.RowKit Go.Sort
theorem zpa (w:World)(blk off cap a b:Nat)(d:Array Int)(h0:Holds Z.en w blk off d)(hab:a<b)(hb:b<=d.size)(hsz:d.size<4611686018427387904) :
  Calls Tryz.prog 235 #[.slice (some ⟨blk,off,none⟩) d.size cap,.int .i64 a,.int .i64 b] w fun e w'=>e= .returned (.tuple #[])/\Z.At w blk off d.size (reverseRange d a b) w':=by
 have H0:Hid (Holds Z.en w blk off d):=h0;have HS:Hid (Z.At w blk off d.size d w):=Z.At.start h0;clear h0
 go_enter Tryz.func235,Tryz.ntmps235
 go_wp2
 go_loopw [6,7] (fun vi vj wr=>∃(i j:Nat) (e:Array Int),vi= .int .i64 i/\vj= .int .i64 j/\a<=i/\i<=j+1/\j<b/\Hid (Z.At w blk off d.size e wr/\reverseLoop i j e=reverseLoop a (b - 1) d)) (fun vi _ _=>b - (RowKit.intOf vi).toNat)
 case atStart=>exact⟨a,b - 1,d,rfl,by congr 1;omega,qN,by omega,by omega,HS.out,rfl⟩
 case round =>
  obtain⟨i,j,e,rfl,rfl,hai,hij,hjb,HE⟩:=hrel;clear HS
  by_cases hlt:i<j
  ·have ci:=HE.out.1.cell H0.out rfl (j:=i) (by omega);have cj:=HE.out.1.cell H0.out rfl (j:=j) (by omega);have fi:=HE.out.1.free H0.out rfl (j:=i) (by omega);have fj:=HE.out.1.free H0.out rfl (j:=j) (by omega);have hsw:=HE.out.1.swap (i:=i) (j:=j) (by omega) (by omega) 1;generalize hx:e[i]! = x at ci hsw;generalize hy:e[j]! = y at cj hsw;have HW:Hid (Z.At w blk off d.size (swp e i j) ((((wr.drewN 1)).setCell ⟨blk,off+i,none⟩ (.int .i32 y)).setCell ⟨blk,off+j,none⟩ (.int .i32 x))):=hsw;clear hsw hx hy H0
   go_wp2_with fail
   go_region
   go_wp2
   go_roundw
   case rel =>
    refine⟨i+1,j - 1,swp e i j,by go_num,by congr 1;omega,by omega,by omega,by omega,HW.out,?_⟩;have h:=HE.out.2;rw[reverseLoop,if_pos hlt] at h;exact h
   case measure=>simp[RowKit.intOf];omega
  ·go_wp2
   go_end0
   refine⟨rfl,?_⟩;have h:=HE.out.2;rw[reverseLoop,if_neg hlt] at h;unfold reverseRange;rw[<- h];exact HE.out.1
namespace Z
def Fin (w:World) (blk off a b:Nat) (d R:Array Int) (wr:World):Prop:=Go.Sort.At en w blk off R wr/\PermIn a b d R/\SortedIn ltInt a b R
def Pd (w:World) (blk off a b:Nat) (d:Array Int) (a' b':Nat) (e:Array Int) (wr:World):Prop :=
 Go.Sort.At en w blk off e wr/\e.size=d.size/\Sort.Below ltInt a' b' e/\∀R,PermIn a' b' e R->SortedIn ltInt a' b' R->PermIn a b d R/\SortedIn ltInt a b R
theorem Pd.start {w:World}{blk off a b:Nat}{d:Array Int}(h:Holds en w blk off d)(hB:Sort.Below ltInt a b d):Pd w blk off a b d a b d w:=⟨Sort.At.refl h,rfl,hB,fun _ h1 h2=>⟨h1,h2⟩⟩
theorem Pd.perm {w wr w2:World}{blk off a b a' b':Nat}{d e e2:Array Int}(h:Pd w blk off a b d a' b' e wr)(hb:b'<=d.size)(hp:PermIn a' b' e e2)(h2:Go.Sort.At en w blk off e2 w2):Pd w blk off a b d a' b' e2 w2 :=
 ⟨h2,hp.1.trans h.2.1,h.2.2.1.perm (by have:=h.2.1;omega) hp,fun R h3 h4=>h.2.2.2 R (permIn_trans _ _ _ _ _ hp h3) h4⟩
theorem Pd.fin {w wr w2:World}{blk off a b a' b':Nat}{d e R:Array Int}(h:Pd w blk off a b d a' b' e wr)(hp:PermIn a' b' e R)(hs:SortedIn ltInt a' b' R)(h2:Go.Sort.At en w blk off R w2):Fin w blk off a b d R w2 :=
 ⟨h2,(h.2.2.2 R hp hs).1,(h.2.2.2 R hp hs).2⟩
theorem Pd.holds {w wr:World}{blk off a b a' b':Nat}{d e:Array Int}(h:Pd w blk off a b d a' b' e wr)(h0:Holds en w blk off d)(hbl:blk<w.heap.size):Holds en wr blk off e:=(h.1.holds h0 h.2.1 hbl).1
theorem Pd.to {w wr w2:World}{blk off a b a' b':Nat}{d e e2:Array Int}(h:Pd w blk off a b d a' b' e wr)(hbl:blk<w.heap.size)(h2:Z.At wr blk off e.size e2 w2):Go.Sort.At en w blk off e2 w2:=h.1.step hbl h2.1 h2.2
end Z
theorem zrp (w wr:World)(blk off cap a b a' b':Nat)(d e:Array Int)(h0:Holds Z.en w blk off d)(hbl:blk<w.heap.size)(h:Z.Pd w blk off a b d a' b' e wr)(hab:a'<=b')(hb:b'<=d.size)(hsz:d.size<1152921504606846976) :
  Calls Tryz.prog 231 #[.slice (some ⟨blk,off,none⟩) d.size cap,.int .i64 a',.int .i64 b'] wr fun x w'=>x= .returned (.tuple #[])/\∃R,Z.Fin w blk off a b d R w':=by
 have hs:=h.2.1;have hh:=zpf wr blk off cap a' b' e (h.holds h0 hbl) hab (by omega) (by omega);rw[hs] at hh;refine hh.mono fun x w' ⟨h1,h2⟩=> ?_
 rw[<- hs] at h2;obtain⟨p1,p2⟩:=insertionSort_holds (lt:=ltInt) swo_ltInt e a' b' hab (by omega);exact⟨h1,_,h.fin p1 p2 (h.to hbl h2)⟩
theorem zpg (w wr:World)(blk off cap a b a' b':Nat)(d e:Array Int)(h0:Holds Z.en w blk off d)(hbl:blk<w.heap.size)(h:Z.Pd w blk off a b d a' b' e wr)(hab:a'<b')(hb:b'<=d.size)(hsz:d.size<1152921504606846976) :
  Calls Tryz.prog 232 #[.slice (some ⟨blk,off,none⟩) d.size cap,.int .i64 a',.int .i64 b'] wr fun x w'=>x= .returned (.tuple #[])/\∃R,Z.Fin w blk off a b d R w':=by
 have hs:=h.2.1;have hh:=zmo wr blk off cap a' b' e (h.holds h0 hbl) hab (by omega) (by omega);rw[hs] at hh;refine hh.mono fun x w' ⟨h1,h2⟩=> ?_
 rw[<- hs] at h2;obtain⟨p1,p2⟩:=heapSort_holds (lt:=ltInt) swo_ltInt e a' b' (by omega) (by omega);exact⟨h1,_,h.fin p1 p2 (h.to hbl h2)⟩
theorem zmp (w wr:World)(blk off cap a b a' b':Nat)(d e:Array Int)(h0:Holds Z.en w blk off d)(hbl:blk<w.heap.size)(h:Z.Pd w blk off a b d a' b' e wr)(hab:a'+8<=b')(hb:b'<=d.size)(hsz:d.size<1152921504606846976) :
  Calls Tryz.prog 233 #[.slice (some ⟨blk,off,none⟩) d.size cap,.int .i64 a',.int .i64 b'] wr fun x w'=>x= .returned (.tuple #[])/\∃e2,Z.Pd w blk off a b d a' b' e2 w':=by
 have hs:=h.2.1;obtain⟨n,rfl⟩:∃n,b'=a'+n:=⟨b' - a',by omega⟩;have hh:=zkt wr blk off cap a' n e (h.holds h0 hbl) (by omega) (by omega) (by omega);rw[hs] at hh;refine hh.mono fun x w' ⟨h1,d',h2,h3⟩=>⟨h1,d',h.perm hb h2 ?_⟩
 exact h.1.stepG hbl h2.1 h3
theorem zml (w wr:World)(blk off cap a b a' b':Nat)(d e:Array Int)(h0:Holds Z.en w blk off d)(hbl:blk<w.heap.size)(h:Z.Pd w blk off a b d a' b' e wr)(hab:a'+8<=b')(hb:b'<=d.size)(hsz:d.size<1152921504606846976) :
  Calls Tryz.prog 234 #[.slice (some ⟨blk,off,none⟩) d.size cap,.int .i64 a',.int .i64 b'] wr fun x w'=>∃p c:Nat,a'<=p/\p<b'/\c<=2/\x= .returned (.tuple #[.int .i64 p,.int .i64 c])/\Z.Pd w blk off a b d a' b' e w':=by
 have hs:=h.2.1;obtain⟨n,rfl⟩:∃n,b'=a'+n:=⟨b' - a',by omega⟩;have hh:=zks wr blk off cap a' n e (h.holds h0 hbl) (by omega) (by omega) (by omega);rw[hs] at hh;refine hh.mono fun x w' ⟨p,c,h1,h2,h3,h4,h5⟩=>⟨p,c,h1,h2,h3,h4,?_⟩
 exact⟨h.1.same h0 hs hbl h5,h.2⟩
theorem zrn (w wr:World)(blk off cap a b a' b':Nat)(d e:Array Int)(h0:Holds Z.en w blk off d)(hbl:blk<w.heap.size)(h:Z.Pd w blk off a b d a' b' e wr)(hab:a'<b')(hb:b'<=d.size)(hsz:d.size<1152921504606846976) :
  Calls Tryz.prog 235 #[.slice (some ⟨blk,off,none⟩) d.size cap,.int .i64 a',.int .i64 b'] wr fun x w'=>x= .returned (.tuple #[])/\∃e2,Z.Pd w blk off a b d a' b' e2 w':=by
 have hs:=h.2.1;have hh:=zpa wr blk off cap a' b' e (h.holds h0 hbl) hab (by omega) (by omega);rw[hs] at hh;refine hh.mono fun x w' ⟨h1,h2⟩=> ?_
 rw[<- hs] at h2;exact⟨h1,_,h.perm hb (reverseRange_holds e a' b' (by omega) (by omega)) (h.to hbl h2)⟩
theorem zh7 (w wr:World)(blk off cap a b a' b':Nat)(d e:Array Int)(h0:Holds Z.en w blk off d)(hbl:blk<w.heap.size)(h:Z.Pd w blk off a b d a' b' e wr)(hab:a'<b')(hb:b'<=d.size)(hsz:d.size<1152921504606846976) :
  Calls Tryz.prog 236 #[.slice (some ⟨blk,off,none⟩) d.size cap,.int .i64 a',.int .i64 b'] wr fun x w'=>∃(β:Bool) (e2:Array Int),x= .returned (.bool β)/\Z.Pd w blk off a b d a' b' e2 w'/\(β=true->Z.Fin w blk off a b d e2 w'):=by
 have hs:=h.2.1;have hh:=zgz wr blk off cap a' b' e (h.holds h0 hbl) hab (by omega) (by omega);rw[hs] at hh;refine hh.mono fun x w' ⟨h1,h2⟩=> ?_
 rw[<- hs] at h2;obtain⟨p1,p2⟩:=partialInsertionSort_holds (lt:=ltInt) swo_ltInt e a' b' hab (by omega) h.2.2.1;exact⟨_,_,h1,h.perm hb p1 (h.to hbl h2),fun hβ=>h.fin p1 (p2 hβ) (h.to hbl h2)⟩
theorem zro (w wr:World)(blk off cap a b a' b' p:Nat)(d e:Array Int)(h0:Holds Z.en w blk off d)(hbl:blk<w.heap.size)(h:Z.Pd w blk off a b d a' b' e wr)(hp1:a'<=p)(hp2:p<b')(hb:b'<=d.size)(hsz:d.size<1152921504606846976)(ha:0<a')(hl:ltInt e[a' - 1]! e[p]! = false) :
  Calls Tryz.prog 238 #[.slice (some ⟨blk,off,none⟩) d.size cap,.int .i64 a',.int .i64 b',.int .i64 p] wr fun x w'=>∃(m:Nat) (e2:Array Int),a'<m/\m<=b'/\x= .returned (.int .i64 m)/\Z.Pd w blk off a b d m b' e2 w':=by
 have hs:=h.2.1;have hh:=zpb wr blk off cap a' b' p e (h.holds h0 hbl) hp1 hp2 (by omega) (by omega);rw[hs] at hh;refine hh.mono fun x w' ⟨h1,h2⟩=> ?_
 rw[<- hs] at h2;obtain⟨q1,q2,q3,q4,q5⟩:=round_eq (lt:=ltInt) swo_ltInt (partitionEqual_holds ltInt) ha hp1 hp2 (by omega) h.2.2.1 hl (Prod.eta (partitionEqual ltInt e a' b' p)).symm;exact⟨_,_,q1,q2,h1,h.to hbl h2,q3.trans hs,q4,fun R r1 r2=>h.2.2.2 R (q5 R r1 r2).1 (q5 R r1 r2).2⟩
def Z.Pt (w:World) (blk off a b:Nat) (d:Array Int) (a' b' m:Nat) (e:Array Int) (wr:World):Prop :=
 Go.Sort.At Z.en w blk off e wr/\e.size=d.size/\Sort.Below ltInt a' m e/\Sort.Below ltInt (m+1) b' e /\
 (∀(L:Array Int) (w':World),Z.Fin wr blk off a' m e L w'->Z.Pd w blk off a b d (m+1) b' L w') /\
 (∀(L:Array Int) (w':World),Z.Fin wr blk off (m+1) b' e L w'->Z.Pd w blk off a b d a' m L w')
theorem zpd (w wr:World)(blk off cap a b a' b' p:Nat)(d e:Array Int)(h0:Holds Z.en w blk off d)(hbl:blk<w.heap.size)(h:Z.Pd w blk off a b d a' b' e wr)(hp1:a'<=p)(hp2:p<b')(hb:b'<=d.size)(hsz:d.size<1152921504606846976) :
  Calls Tryz.prog 239 #[.slice (some ⟨blk,off,none⟩) d.size cap,.int .i64 a',.int .i64 b',.int .i64 p] wr fun x w'=>∃(m:Nat) (β:Bool) (e2:Array Int),a'<=m/\m<b'/\x= .returned (.tuple #[.int .i64 m,.bool β])/\Z.Pt w blk off a b d a' b' m e2 w':=by
 have hs:=h.2.1;have hh:=zmm wr blk off cap a' b' p e (h.holds h0 hbl) hp1 hp2 (by omega) (by omega);rw[hs] at hh;refine hh.mono fun x w' ⟨h1,h2⟩=> ?_
 rw[<- hs] at h2;obtain⟨q1,q2,q3,q4,q5,q6,q7⟩:=round_part (lt:=ltInt) swo_ltInt (partition_holds ltInt) hp1 hp2 (by omega) h.2.2.1 (show partition ltInt e a' b' p=((partition ltInt e a' b' p).1,(partition ltInt e a' b' p).2.1,(partition ltInt e a' b' p).2.2) from rfl);have h3:=h.to hbl h2;refine⟨_,_,_,q1,q2,h1,h3,q3.trans hs,q4,q5,fun L w2 hf=> ?_,fun L w2 hf=> ?_⟩
 ·obtain⟨r1,r2⟩:=q6 L hf.2.1 hf.2.2;exact⟨h3.stepG hbl hf.2.1.1 hf.1,hf.2.1.1.trans (q3.trans hs),r1,fun R s1 s2=>h.2.2.2 R (r2 R s1 s2).1 (r2 R s1 s2).2⟩
 ·obtain⟨r1,r2⟩:=q7 L hf.2.1 hf.2.2;exact⟨h3.stepG hbl hf.2.1.1 hf.1,hf.2.1.1.trans (q3.trans hs),r1,fun R s1 s2=>h.2.2.2 R (r2 R s1 s2).1 (r2 R s1 s2).2⟩
end Go.Proofs.YteagjpnbiceafaaGreatDoor
