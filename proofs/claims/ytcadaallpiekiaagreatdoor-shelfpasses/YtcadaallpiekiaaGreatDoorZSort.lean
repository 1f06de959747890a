import Derived.Test.YtcadaallpiekiaaGreatDoorZPeq
import Derived.Sort.AssemblyPlain
import Derived.Shelf.SlicesE.Compact
import Derived.Laws.AppendOwn
set_option maxHeartbeats 0
set_option maxRecDepth 20000
set_option linter.unusedSimpArgs false
set_option linter.unusedVariables false
namespace Go.Proofs.YtcadaallpiekiaaGreatDoor
open Go.Proofs.Tryz
section
open Go.RowKit Go.Sort
theorem zn9 (w:World)(blk off cap a b p:Nat)(d:Array Int)(h0:Holds Z.en w blk off d)(hap:a<=p)(hpb:p<b)(hb:b<=d.size)(hsz:d.size<1152921504606846976) :
  Calls prog 235 #[.slice (some ⟨blk,off,none⟩) d.size cap,.int .i64 a,.int .i64 b,.int .i64 p] w fun e w'=>e=.returned (.tuple #[.int .i64 ((partition ltInt d a b p).1:Nat),.bool (partition ltInt d a b p).2.1])/\Z.At w blk off d.size (partition ltInt d a b p).2.2 w':=by
 have H0:=qH h0;have hS:=Z.At.start h0;clear h0;obtain⟨G,hG⟩:∃G:Nat->Int,∀t,G t=d[t]! := ⟨fun t=>d[t]!,fun _=>rfl⟩;have hcw:∀t,t<d.size->w.cell? ⟨blk,off+t,none⟩=some (.int .i32 (G t)):=fun t ht=>by rw[hG];exact hS.cell H0.out rfl ht
 have hfw:∀t,t<d.size->w.frozen? ⟨blk,off+t,none⟩=false:=fun t ht=>hS.free H0.out rfl ht
 have hsw:=hS.swap (i:=a) (j:=p) (by omega) (by omega) 1;rw[<- hG,<- hG] at hsw;obtain⟨e,he⟩:=qE (swp d a p);rw[<- he] at hsw;have HD:=qH he;have HSw:Hid (∀X,X=((w.setCell ⟨blk,off+a,none⟩ (.int .i32 (G p))).setCell ⟨blk,off+p,none⟩ (.int .i32 (G a))).drew->Z.At w blk off d.size e X):=fun X hX=>by rw[hX];exact hsw
 obtain⟨v',x1⟩:∃v',((w.setCell ⟨blk,off+a,none⟩ (.int .i32 (G p))).drew).cell? ⟨blk,off+p,none⟩=some v':=cell?_setCell_some (w:=w) (p:=⟨blk,off+a,none⟩) (x:=.int .i32 (G p)) (q:=⟨blk,off+p,none⟩) (hcw p (by omega));have x2:((w.setCell ⟨blk,off+a,none⟩ (.int .i32 (G p))).drew).frozen? ⟨blk,off+p,none⟩=false:=(World.frozen?_setCell _ _ _ _).trans (hfw p (by omega));obtain⟨i,hi⟩:=qE (a+1);obtain⟨j,hj⟩:=qE (b-1);have hai:a<i:=by omega
 have hij:i<=j+1:=by omega
 have hjb:j<b:=by omega
 have e1:((a:Int)+1)=(i:Int):=by omega
 have e2:((b:Int)-1)=(j:Int):=by omega
 have HI:=qH hi;have HJ:=qH hj;clear hsw hG hS hi hj he
 go_enter func235,ntmps235
 go_wp2_with fail
 go_region
 go_upto_block 0 with fail
 have HE:=qH<|HSw.out _ rfl;clear hcw hfw HSw x1 x2 e1 e2
 go_upto_block 0 with fail
 go_cut [10] (fun v10 wx=>∃k:Nat,v10=.int .i64 k/\i<=k/\k<=j+1/\Hid (Z.At w blk off d.size e wx/\k=scanUp (fun x=>ltInt x e[a]!) e j i))
 case first =>
  go_wp2
  go_loopw [10] (fun v10 wx=>∃k:Nat,v10=.int .i64 k/\i<=k/\k<=j+1/\Hid (Z.At w blk off d.size e wx/\scanUp (fun x=>ltInt x e[a]!) e j k=scanUp (fun x=>ltInt x e[a]!) e j i)) (fun v10 _=>j+1-(RowKit.intOf v10).toNat)
  case atStart=>exact⟨i,rfl,qN,hij,HE.out,rfl⟩
  case round =>
   obtain⟨k,rfl,hik,hkj,HK⟩:=hrel;obtain⟨G',hG⟩:∃G:Nat->Int,∀t,G t=e[t]! := ⟨fun t=>e[t]!,fun _=>rfl⟩;have hcw:∀t,t<d.size->wr.cell? ⟨blk,off+t,none⟩=some (.int .i32 (G' t)):=fun t ht=>by rw[hG];exact HK.out.1.cell H0.out rfl ht
   have HG:=qH hG;clear hG
   by_cases hk:k<=j
   ·go_wp2
    go_quiet (first|(go_at_call 233;refine Calls.quiet_of_same (zao _ _ _)))
    cases hl:ltInt (G' k) (G' a) with
    | true =>
     go_wp2
     go_roundw
     case rel=>exact⟨k+1,by go_num,by omega,by omega,HK.out.1.drew _,by rw[<- HK.out.2,scanUp_go (fun x=>ltInt x e[a]!) e j k hk (by rw[<- HG.out,<- HG.out,hl])]⟩
     case measure=>simp[RowKit.intOf];omega
    | false =>
     go_wp2
     go_meet
     case rel=>exact⟨k,rfl,hik,hkj,HK.out.1.drew _,by rw[<- HK.out.2,scanUp_end (fun x=>ltInt x e[a]!) e j k (.inr (by rw[<- HG.out,<- HG.out,hl]))]⟩
   ·go_wp2
    go_quiet (first|(go_at_call 233;refine Calls.quiet_of_same (zao _ _ _)))
    go_wp2
    go_meet
    case rel=>exact⟨k,rfl,hik,hkj,HK.out.1.drew _,by rw[<- HK.out.2,scanUp_end (fun x=>ltInt x e[a]!) e j k (.inl hk)]⟩
 case rest =>
  obtain⟨k,rfl,hik,hkj,HK⟩:=hcut
  go_upto_block 2 with fail
  go_cut [11] (fun v11 wx=>∃l:Nat,v11=.int .i64 l/\l<=j/\k<=l+1/\Hid (Z.At w blk off d.size e wx/\l=scanDown (fun x=> !ltInt x e[a]!) e k j))
  case first =>
   go_wp2
   go_loopw [11] (fun v11 wx=>∃l:Nat,v11=.int .i64 l/\l<=j/\k<=l+1/\Hid (Z.At w blk off d.size e wx/\scanDown (fun x=> !ltInt x e[a]!) e k l=scanDown (fun x=> !ltInt x e[a]!) e k j)) (fun v11 _=>(RowKit.intOf v11).toNat)
   case atStart=>exact⟨j,rfl,qN,hkj,HK.out.1,rfl⟩
   case round =>
    obtain⟨l,rfl,hlj,hkl,HL⟩:=hrel;obtain⟨G',hG⟩:∃G:Nat->Int,∀t,G t=e[t]! := ⟨fun t=>e[t]!,fun _=>rfl⟩;have hcw:∀t,t<d.size->wr.cell? ⟨blk,off+t,none⟩=some (.int .i32 (G' t)):=fun t ht=>by rw[hG];exact HL.out.1.cell H0.out rfl ht
    have HG:=qH hG;clear hG
    by_cases hk:k<=l
    ·go_wp2
     go_quiet (first|(go_at_call 233;refine Calls.quiet_of_same (zao _ _ _)))
     cases hl:ltInt (G' l) (G' a) with
     | false =>
      go_wp2
      go_roundw
      case rel=>exact⟨l-1,by congr 1;omega,by omega,by omega,HL.out.1.drew _,by rw[<- HL.out.2,scanDown_go (fun x=> !ltInt x e[a]!) e k l hk (by omega) (by rw[<- HG.out,<- HG.out,hl];rfl)]⟩
      case measure=>simp[RowKit.intOf];omega
     | true =>
      go_wp2
      go_meet
      case rel=>exact⟨l,rfl,hlj,hkl,HL.out.1.drew _,by rw[<- HL.out.2,scanDown_end (fun x=> !ltInt x e[a]!) e k l (.inr (by rw[<- HG.out,<- HG.out,hl];rfl))]⟩
    ·go_wp2
     go_quiet (first|(go_at_call 233;refine Calls.quiet_of_same (zao _ _ _)))
     go_wp2
     go_meet
     case rel=>exact⟨l,rfl,hlj,hkl,HL.out.1.drew _,by rw[<- HL.out.2,scanDown_end (fun x=> !ltInt x e[a]!) e k l (.inl hk)]⟩
  case rest =>
   obtain⟨l,rfl,hlj,hkl,HL⟩:=hcut
   by_cases hkl2:l<k
   ·have HB:=qH<|part_first_break ltInt d a b p HI.out HJ.out HD.out HK.out.2 HL.out.2 hkl2;obtain⟨G',hG⟩:∃G:Nat->Int,∀t,G t=e[t]! := ⟨fun t=>e[t]!,fun _=>rfl⟩;have hcw:∀t,t<d.size->wc.cell? ⟨blk,off+t,none⟩=some (.int .i32 (G' t)):=fun t ht=>by rw[hG];exact HL.out.1.cell H0.out rfl ht
    have hfw:∀t,t<d.size->wc.frozen? ⟨blk,off+t,none⟩=false:=fun t ht=>HL.out.1.free H0.out rfl ht
    have hsw:=HL.out.1.swap (i:=l) (j:=a) (by omega) (by omega) 1;rw[<- hG,<- hG] at hsw;have HSw:Hid (∀X,X=((wc.setCell ⟨blk,off+l,none⟩ (.int .i32 (G' a))).setCell ⟨blk,off+a,none⟩ (.int .i32 (G' l))).drew->Z.At w blk off d.size (swp e l a) X):=fun X hX=>by rw[hX];exact hsw
    obtain⟨v',x1⟩:∃v',((wc.setCell ⟨blk,off+l,none⟩ (.int .i32 (G' a))).drew).cell? ⟨blk,off+a,none⟩=some v':=cell?_setCell_some (w:=wc) (p:=⟨blk,off+l,none⟩) (x:=.int .i32 (G' a)) (q:=⟨blk,off+a,none⟩) (hcw a (by omega));have x2:((wc.setCell ⟨blk,off+l,none⟩ (.int .i32 (G' a))).drew).frozen? ⟨blk,off+a,none⟩=false:=(World.frozen?_setCell _ _ _ _).trans (hfw a (by omega));clear hsw hG;clear HE HK HL HI HJ HD
    go_wp2_with fail
    go_region
    go_wp2;refine bodyPost_ret (v:=.tuple #[.int .i64 l,.bool true]) (by simp[results,results235,go_sem, *]) rfl ?_
    rw[HB.out];exact⟨rfl,HSw.out _ rfl⟩
   ·have HP0:=qH<|part_first_go ltInt d a b p HI.out HJ.out HD.out HK.out.2 HL.out.2 (by omega);have hlt3:=part_scans_lt ltInt a i j e (by omega) HK.out.2 HL.out.2 (by omega);obtain⟨G',hG⟩:∃G:Nat->Int,∀t,G t=e[t]! := ⟨fun t=>e[t]!,fun _=>rfl⟩;have hcw:∀t,t<d.size->wc.cell? ⟨blk,off+t,none⟩=some (.int .i32 (G' t)):=fun t ht=>by rw[hG];exact HL.out.1.cell H0.out rfl ht
    have hfw:∀t,t<d.size->wc.frozen? ⟨blk,off+t,none⟩=false:=fun t ht=>HL.out.1.free H0.out rfl ht
    have hsw:=HL.out.1.swap (i:=k) (j:=l) (by omega) (by omega) 1;rw[<- hG,<- hG] at hsw;have HSw:Hid (∀X,X=((wc.setCell ⟨blk,off+k,none⟩ (.int .i32 (G' l))).setCell ⟨blk,off+l,none⟩ (.int .i32 (G' k))).drew->Z.At w blk off d.size (swp e k l) X):=fun X hX=>by rw[hX];exact hsw
    clear hsw hG;obtain⟨i0,hi0⟩:=qE (k+1);obtain⟨j0,hj0⟩:=qE (l-1);obtain⟨e0,he0⟩:=qE (swp e k l);rw[<- hi0,<- hj0,<- he0] at HP0;rw[<- he0] at HSw;have HP:=qH HP0.out;have HI0:=qH hi0;have HJ0:=qH hj0;clear HE HK HL HI HJ HD HP0 hi0 hj0 he0
    go_wp2_with fail
    go_region
    go_wp2
    go_loopw [10,11] (fun v10 v11 wr=>∃(i j:Nat) (e:Array Int),v10=.int .i64 i/\v11=.int .i64 j/\a<i/\i<=j+1/\j<b/\Hid (Z.At w blk off d.size e wr/\partLoop ltInt a i j e=partLoop ltInt a i0 j0 e0)) (fun v10 v11 _=>(RowKit.intOf v11+1-RowKit.intOf v10).toNat)
    case atStart=>exact⟨i0,j0,e0,by rw[HI0.out];go_num,by rw[HJ0.out];congr 1;omega,by have:=HI0.out;omega,by have:=HI0.out;have:=HJ0.out;omega,by have:=HJ0.out;omega,HSw.out _ rfl,rfl⟩
    case round =>
     clear hcw hfw HSw HI0 HJ0 hlt3 hkl2 hkl hlj hik hkj hij hai hjb;obtain⟨i,j,e,rfl,rfl,hai,hij,hjb,HEE⟩:=hrel;have HE:=qH HEE.out.1;have HE2:=qH HEE.out.2;clear HEE
     go_upto_block 6 with fail
     go_cut [10] (fun v10 wx=>∃k:Nat,v10=.int .i64 k/\i<=k/\k<=j+1/\Hid (Z.At w blk off d.size e wx/\k=scanUp (fun x=>ltInt x e[a]!) e j i))
     case first =>
      go_wp2
      go_loopw [10] (fun v10 wx=>∃k:Nat,v10=.int .i64 k/\i<=k/\k<=j+1/\Hid (Z.At w blk off d.size e wx/\scanUp (fun x=>ltInt x e[a]!) e j k=scanUp (fun x=>ltInt x e[a]!) e j i)) (fun v10 _=>j+1-(RowKit.intOf v10).toNat)
      case atStart=>exact⟨i,rfl,qN,hij,HE.out,rfl⟩
      case round =>
       obtain⟨k,rfl,hik,hkj,HK⟩:=hrel;obtain⟨G',hG⟩:∃G:Nat->Int,∀t,G t=e[t]! := ⟨fun t=>e[t]!,fun _=>rfl⟩;have hcw:∀t,t<d.size->wr.cell? ⟨blk,off+t,none⟩=some (.int .i32 (G' t)):=fun t ht=>by rw[hG];exact HK.out.1.cell H0.out rfl ht
       have HG:=qH hG;clear hG
       by_cases hk:k<=j
       ·go_wp2
        go_quiet (first|(go_at_call 233;refine Calls.quiet_of_same (zao _ _ _)))
        cases hl:ltInt (G' k) (G' a) with
        | true =>
         go_wp2
         go_roundw
         case rel=>exact⟨k+1,by go_num,by omega,by omega,HK.out.1.drew _,by rw[<- HK.out.2,scanUp_go (fun x=>ltInt x e[a]!) e j k hk (by rw[<- HG.out,<- HG.out,hl])]⟩
         case measure=>simp[RowKit.intOf];omega
        | false =>
         go_wp2
         go_meet
         case rel=>exact⟨k,rfl,hik,hkj,HK.out.1.drew _,by rw[<- HK.out.2,scanUp_end (fun x=>ltInt x e[a]!) e j k (.inr (by rw[<- HG.out,<- HG.out,hl]))]⟩
       ·go_wp2
        go_quiet (first|(go_at_call 233;refine Calls.quiet_of_same (zao _ _ _)))
        go_wp2
        go_meet
        case rel=>exact⟨k,rfl,hik,hkj,HK.out.1.drew _,by rw[<- HK.out.2,scanUp_end (fun x=>ltInt x e[a]!) e j k (.inl hk)]⟩
     case rest =>
      obtain⟨k,rfl,hik,hkj,HK⟩:=hcut
      go_upto_block 8 with fail
      go_cut [11] (fun v11 wx=>∃l:Nat,v11=.int .i64 l/\l<=j/\k<=l+1/\Hid (Z.At w blk off d.size e wx/\l=scanDown (fun x=> !ltInt x e[a]!) e k j))
      case first =>
       go_wp2
       go_loopw [11] (fun v11 wx=>∃l:Nat,v11=.int .i64 l/\l<=j/\k<=l+1/\Hid (Z.At w blk off d.size e wx/\scanDown (fun x=> !ltInt x e[a]!) e k l=scanDown (fun x=> !ltInt x e[a]!) e k j)) (fun v11 _=>(RowKit.intOf v11).toNat)
       case atStart=>exact⟨j,rfl,qN,hkj,HK.out.1,rfl⟩
       case round =>
        obtain⟨l,rfl,hlj,hkl,HL⟩:=hrel;obtain⟨G',hG⟩:∃G:Nat->Int,∀t,G t=e[t]! := ⟨fun t=>e[t]!,fun _=>rfl⟩;have hcw:∀t,t<d.size->wr.cell? ⟨blk,off+t,none⟩=some (.int .i32 (G' t)):=fun t ht=>by rw[hG];exact HL.out.1.cell H0.out rfl ht
        have HG:=qH hG;clear hG
        by_cases hk:k<=l
        ·go_wp2
         go_quiet (first|(go_at_call 233;refine Calls.quiet_of_same (zao _ _ _)))
         cases hl:ltInt (G' l) (G' a) with
         | false =>
          go_wp2
          go_roundw
          case rel=>exact⟨l-1,by congr 1;omega,by omega,by omega,HL.out.1.drew _,by rw[<- HL.out.2,scanDown_go (fun x=> !ltInt x e[a]!) e k l hk (by omega) (by rw[<- HG.out,<- HG.out,hl];rfl)]⟩
          case measure=>simp[RowKit.intOf];omega
         | true =>
          go_wp2
          go_meet
          case rel=>exact⟨l,rfl,hlj,hkl,HL.out.1.drew _,by rw[<- HL.out.2,scanDown_end (fun x=> !ltInt x e[a]!) e k l (.inr (by rw[<- HG.out,<- HG.out,hl];rfl))]⟩
        ·go_wp2
         go_quiet (first|(go_at_call 233;refine Calls.quiet_of_same (zao _ _ _)))
         go_wp2
         go_meet
         case rel=>exact⟨l,rfl,hlj,hkl,HL.out.1.drew _,by rw[<- HL.out.2,scanDown_end (fun x=> !ltInt x e[a]!) e k l (.inl hk)]⟩
      case rest =>
       obtain⟨l,rfl,hlj,hkl,HL⟩:=hcut
       by_cases hkl2:l<k
       ·have HB:Hid (partition ltInt d a b p=(l,false,swp e l a)):=by
         show _=_;rw[HP.out,<- HE2.out,part_break ltInt a i j e HK.out.2 HL.out.2 hkl2]
        obtain⟨G',hG⟩:∃G:Nat->Int,∀t,G t=e[t]! := ⟨fun t=>e[t]!,fun _=>rfl⟩;have hcw:∀t,t<d.size->wc.cell? ⟨blk,off+t,none⟩=some (.int .i32 (G' t)):=fun t ht=>by rw[hG];exact HL.out.1.cell H0.out rfl ht
        have hfw:∀t,t<d.size->wc.frozen? ⟨blk,off+t,none⟩=false:=fun t ht=>HL.out.1.free H0.out rfl ht
        have hsw:=HL.out.1.swap (i:=l) (j:=a) (by omega) (by omega) 1;rw[<- hG,<- hG] at hsw;have HSw:Hid (∀X,X=((wc.setCell ⟨blk,off+l,none⟩ (.int .i32 (G' a))).setCell ⟨blk,off+a,none⟩ (.int .i32 (G' l))).drew->Z.At w blk off d.size (swp e l a) X):=fun X hX=>by rw[hX];exact hsw
        obtain⟨v',x1⟩:∃v',((wc.setCell ⟨blk,off+l,none⟩ (.int .i32 (G' a))).drew).cell? ⟨blk,off+a,none⟩=some v':=cell?_setCell_some (w:=wc) (p:=⟨blk,off+l,none⟩) (x:=.int .i32 (G' a)) (q:=⟨blk,off+a,none⟩) (hcw a (by omega));have x2:((wc.setCell ⟨blk,off+l,none⟩ (.int .i32 (G' a))).drew).frozen? ⟨blk,off+a,none⟩=false:=(World.frozen?_setCell _ _ _ _).trans (hfw a (by omega));clear hsw hG;clear HE HK HL HP HE2
        go_wp2_with fail
        go_region
        go_wp2;refine bodyPost_ret (v:=.tuple #[.int .i64 l,.bool false]) (by simp[results,results235,go_sem, *]) rfl ?_
        rw[HB.out];exact⟨rfl,HSw.out _ rfl⟩
       ·have HB:Hid (partLoop ltInt a (k+1) (l-1) (swp e k l)=partLoop ltInt a i0 j0 e0):=by
         show _=_;rw[<- HE2.out,part_go ltInt a i j e HK.out.2 HL.out.2 (by omega)]
        have hlt3:=part_scans_lt ltInt a i j e (by omega) HK.out.2 HL.out.2 (by omega);obtain⟨G',hG⟩:∃G:Nat->Int,∀t,G t=e[t]! := ⟨fun t=>e[t]!,fun _=>rfl⟩;have hcw:∀t,t<d.size->wc.cell? ⟨blk,off+t,none⟩=some (.int .i32 (G' t)):=fun t ht=>by rw[hG];exact HL.out.1.cell H0.out rfl ht
        have hfw:∀t,t<d.size->wc.frozen? ⟨blk,off+t,none⟩=false:=fun t ht=>HL.out.1.free H0.out rfl ht
        have hsw:=HL.out.1.swap (i:=k) (j:=l) (by omega) (by omega) 1;rw[<- hG,<- hG] at hsw;have HSw:Hid (∀X,X=((wc.setCell ⟨blk,off+k,none⟩ (.int .i32 (G' l))).setCell ⟨blk,off+l,none⟩ (.int .i32 (G' k))).drew->Z.At w blk off d.size (swp e k l) X):=fun X hX=>by rw[hX];exact hsw
        clear hsw hG;clear HE HK HL HE2
        go_wp2_with fail
        go_region
        all_goals go_wp2
        go_roundw
        case rel=>exact⟨k+1,l-1,swp e k l,by go_num,by congr 1;omega,by omega,by omega,by omega,HSw.out _ rfl,HB.out⟩
        case measure=>simp[RowKit.intOf];omega
theorem zq6 (w:World)(blk off cap a b:Nat)(d:Array Int)(h0:Holds Z.en w blk off d)(hab:a<b)(hb:b<=d.size)(hsz:d.size<4611686018427387904) :
  Calls prog 231 #[.slice (some ⟨blk,off,none⟩) d.size cap,.int .i64 a,.int .i64 b] w fun e w'=>e=.returned (.tuple #[])/\Z.At w blk off d.size (reverseRange d a b) w':=by
 have H0:=qH h0;have HS:=qH<|Z.At.start h0;clear h0
 go_enter func231,ntmps231
 go_wp2
 go_loopw [6,7] (fun vi vj wr=>∃(i j:Nat) (e:Array Int),vi=.int .i64 i/\vj=.int .i64 j/\a<=i/\i<=j+1/\j<b/\Hid (Z.At w blk off d.size e wr/\reverseLoop i j e=reverseLoop a (b-1) d)) (fun vi _ _=>b-(RowKit.intOf vi).toNat)
 case atStart=>exact⟨a,b-1,d,rfl,by congr 1;omega,qN,by omega,by omega,HS.out,rfl⟩
 case round =>
  obtain⟨i,j,e,rfl,rfl,hai,hij,hjb,HE⟩:=hrel;clear HS
  by_cases hlt:i<j
  ·have ci:=HE.out.1.cell H0.out rfl (j:=i) (by omega);have cj:=HE.out.1.cell H0.out rfl (j:=j) (by omega);have fi:=HE.out.1.free H0.out rfl (j:=i) (by omega);have fj:=HE.out.1.free H0.out rfl (j:=j) (by omega);have hsw:=HE.out.1.swap (i:=i) (j:=j) (by omega) (by omega) 1;generalize hx:e[i]! = x at ci hsw;generalize hy:e[j]! = y at cj hsw;have HW:=qH hsw;clear hsw hx hy H0
   go_wp2_with fail
   go_region
   go_wp2
   go_roundw
   case rel =>
    refine⟨i+1,j-1,swp e i j,by go_num,by congr 1;omega,by omega,by omega,by omega,HW.out,?_⟩;have h:=HE.out.2;rw[reverseLoop,if_pos hlt] at h;exact h
   case measure=>simp[RowKit.intOf];omega
  ·go_wp2
   go_end0
   refine⟨rfl,?_⟩;have h:=HE.out.2;rw[reverseLoop,if_neg hlt] at h;unfold reverseRange;rw[<- h];exact HE.out.1
namespace Z
def Fin (w:World) (blk off a b:Nat) (d R:Array Int) (wr:World):Prop:=Go.Sort.At en w blk off R wr/\PermIn a b d R/\SortedIn ltInt a b R
def Pd (w:World) (blk off a b:Nat) (d:Array Int) (a' b':Nat) (e:Array Int) (wr:World):Prop :=
 Go.Sort.At en w blk off e wr/\e.size=d.size/\Sort.Below ltInt a' b' e/\∀R,PermIn a' b' e R->SortedIn ltInt a' b' R->PermIn a b d R/\SortedIn ltInt a b R
theorem Pd.start {w:World}{blk off a b:Nat}{d:Array Int}(h:Holds en w blk off d)(hB:Sort.Below ltInt a b d):Pd w blk off a b d a b d w:=⟨Sort.At.refl h,rfl,hB,fun _ h1 h2=>⟨h1,h2⟩⟩
theorem Pd.perm {w wr w2:World}{blk off a b a' b':Nat}{d e e2:Array Int}(h:Pd w blk off a b d a' b' e wr)(hb:b'<=d.size)(hp:PermIn a' b' e e2)(h2:Go.Sort.At en w blk off e2 w2):Pd w blk off a b d a' b' e2 w2 :=
 ⟨h2,hp.1.trans h.2.1,h.2.2.1.perm (by have:=h.2.1;omega) hp,fun R h3 h4=>h.2.2.2 R (permIn_trans _ _ _ _ _ hp h3) h4⟩
theorem Pd.fin {w wr w2:World}{blk off a b a' b':Nat}{d e R:Array Int}(h:Pd w blk off a b d a' b' e wr)(hp:PermIn a' b' e R)(hs:SortedIn ltInt a' b' R)(h2:Go.Sort.At en w blk off R w2):Fin w blk off a b d R w2 :=
 ⟨h2,(h.2.2.2 R hp hs).1,(h.2.2.2 R hp hs).2⟩
theorem Pd.holds {w wr:World}{blk off a b a' b':Nat}{d e:Array Int}(h:Pd w blk off a b d a' b' e wr)(h0:Holds en w blk off d)(hbl:blk<w.heap.size):Holds en wr blk off e:=(h.1.holds h0 h.2.1 hbl).1
theorem Pd.to {w wr w2:World}{blk off a b a' b':Nat}{d e e2:Array Int}(h:Pd w blk off a b d a' b' e wr)(hbl:blk<w.heap.size)(h2:Z.At wr blk off e.size e2 w2):Go.Sort.At en w blk off e2 w2:=h.1.step hbl h2.1 h2.2
end Z
theorem ztn (w wr:World)(blk off cap a b a' b':Nat)(d e:Array Int)(h0:Holds Z.en w blk off d)(hbl:blk<w.heap.size)(h:Z.Pd w blk off a b d a' b' e wr)(hab:a'<=b')(hb:b'<=d.size)(hsz:d.size<1152921504606846976) :
  Calls prog 227 #[.slice (some ⟨blk,off,none⟩) d.size cap,.int .i64 a',.int .i64 b'] wr fun x w'=>x=.returned (.tuple #[])/\∃R,Z.Fin w blk off a b d R w':=by
 have hs:=h.2.1;have hh:=zrb wr blk off cap a' b' e (h.holds h0 hbl) hab (by omega) (by omega);rw[hs] at hh;refine hh.mono fun x w' ⟨h1,h2⟩=> ?_
 rw[<- hs] at h2;obtain⟨p1,p2⟩:=insertionSort_holds (lt:=ltInt) swo_ltInt e a' b' hab (by omega);exact⟨h1,_,h.fin p1 p2 (h.to hbl h2)⟩
theorem zrc (w wr:World)(blk off cap a b a' b':Nat)(d e:Array Int)(h0:Holds Z.en w blk off d)(hbl:blk<w.heap.size)(h:Z.Pd w blk off a b d a' b' e wr)(hab:a'<b')(hb:b'<=d.size)(hsz:d.size<1152921504606846976) :
  Calls prog 228 #[.slice (some ⟨blk,off,none⟩) d.size cap,.int .i64 a',.int .i64 b'] wr fun x w'=>x=.returned (.tuple #[])/\∃R,Z.Fin w blk off a b d R w':=by
 have hs:=h.2.1;have hh:=zob wr blk off cap a' b' e (h.holds h0 hbl) hab (by omega) (by omega);rw[hs] at hh;refine hh.mono fun x w' ⟨h1,h2⟩=> ?_
 rw[<- hs] at h2;obtain⟨p1,p2⟩:=heapSort_holds (lt:=ltInt) swo_ltInt e a' b' (by omega) (by omega);exact⟨h1,_,h.fin p1 p2 (h.to hbl h2)⟩
theorem zoc (w wr:World)(blk off cap a b a' b':Nat)(d e:Array Int)(h0:Holds Z.en w blk off d)(hbl:blk<w.heap.size)(h:Z.Pd w blk off a b d a' b' e wr)(hab:a'+8<=b')(hb:b'<=d.size)(hsz:d.size<1152921504606846976) :
  Calls prog 229 #[.slice (some ⟨blk,off,none⟩) d.size cap,.int .i64 a',.int .i64 b'] wr fun x w'=>x=.returned (.tuple #[])/\∃e2,Z.Pd w blk off a b d a' b' e2 w':=by
 have hs:=h.2.1;obtain⟨n,rfl⟩:∃n,b'=a'+n:=⟨b'-a',by omega⟩;have hh:=zme wr blk off cap a' n e (h.holds h0 hbl) (by omega) (by omega) (by omega);rw[hs] at hh;refine hh.mono fun x w' ⟨h1,d',h2,h3⟩=>⟨h1,d',h.perm hb h2 ?_⟩
 exact h.1.stepG hbl h2.1 h3
theorem zn8 (w wr:World)(blk off cap a b a' b':Nat)(d e:Array Int)(h0:Holds Z.en w blk off d)(hbl:blk<w.heap.size)(h:Z.Pd w blk off a b d a' b' e wr)(hab:a'+8<=b')(hb:b'<=d.size)(hsz:d.size<1152921504606846976) :
  Calls prog 230 #[.slice (some ⟨blk,off,none⟩) d.size cap,.int .i64 a',.int .i64 b'] wr fun x w'=>∃p c:Nat,a'<=p/\p<b'/\c<=2/\x=.returned (.tuple #[.int .i64 p,.int .i64 c])/\Z.Pd w blk off a b d a' b' e w':=by
 have hs:=h.2.1;obtain⟨n,rfl⟩:∃n,b'=a'+n:=⟨b'-a',by omega⟩;have hh:=zmd wr blk off cap a' n e (h.holds h0 hbl) (by omega) (by omega) (by omega);rw[hs] at hh;refine hh.mono fun x w' ⟨p,c,h1,h2,h3,h4,h5⟩=>⟨p,c,h1,h2,h3,h4,?_⟩
 exact⟨h.1.same h0 hs hbl h5,h.2⟩
theorem ztl (w wr:World)(blk off cap a b a' b':Nat)(d e:Array Int)(h0:Holds Z.en w blk off d)(hbl:blk<w.heap.size)(h:Z.Pd w blk off a b d a' b' e wr)(hab:a'<b')(hb:b'<=d.size)(hsz:d.size<1152921504606846976) :
  Calls prog 231 #[.slice (some ⟨blk,off,none⟩) d.size cap,.int .i64 a',.int .i64 b'] wr fun x w'=>x=.returned (.tuple #[])/\∃e2,Z.Pd w blk off a b d a' b' e2 w':=by
 have hs:=h.2.1;have hh:=zq6 wr blk off cap a' b' e (h.holds h0 hbl) hab (by omega) (by omega);rw[hs] at hh;refine hh.mono fun x w' ⟨h1,h2⟩=> ?_
 rw[<- hs] at h2;exact⟨h1,_,h.perm hb (reverseRange_holds e a' b' (by omega) (by omega)) (h.to hbl h2)⟩
theorem zjo (w wr:World)(blk off cap a b a' b':Nat)(d e:Array Int)(h0:Holds Z.en w blk off d)(hbl:blk<w.heap.size)(h:Z.Pd w blk off a b d a' b' e wr)(hab:a'<b')(hb:b'<=d.size)(hsz:d.size<1152921504606846976) :
  Calls prog 232 #[.slice (some ⟨blk,off,none⟩) d.size cap,.int .i64 a',.int .i64 b'] wr fun x w'=>∃(β:Bool) (e2:Array Int),x=.returned (.bool β)/\Z.Pd w blk off a b d a' b' e2 w'/\(β=true->Z.Fin w blk off a b d e2 w'):=by
 have hs:=h.2.1;have hh:=zh3 wr blk off cap a' b' e (h.holds h0 hbl) hab (by omega) (by omega);rw[hs] at hh;refine hh.mono fun x w' ⟨h1,h2⟩=> ?_
 rw[<- hs] at h2;obtain⟨p1,p2⟩:=partialInsertionSort_holds (lt:=ltInt) swo_ltInt e a' b' hab (by omega) h.2.2.1;exact⟨_,_,h1,h.perm hb p1 (h.to hbl h2),fun hβ=>h.fin p1 (p2 hβ) (h.to hbl h2)⟩
theorem ztm (w wr:World)(blk off cap a b a' b' p:Nat)(d e:Array Int)(h0:Holds Z.en w blk off d)(hbl:blk<w.heap.size)(h:Z.Pd w blk off a b d a' b' e wr)(hp1:a'<=p)(hp2:p<b')(hb:b'<=d.size)(hsz:d.size<1152921504606846976)(ha:0<a')(hl:ltInt e[a'-1]! e[p]! = false) :
  Calls prog 234 #[.slice (some ⟨blk,off,none⟩) d.size cap,.int .i64 a',.int .i64 b',.int .i64 p] wr fun x w'=>∃(m:Nat) (e2:Array Int),a'<m/\m<=b'/\x=.returned (.int .i64 m)/\Z.Pd w blk off a b d m b' e2 w':=by
 have hs:=h.2.1;have hh:=zq7 wr blk off cap a' b' p e (h.holds h0 hbl) hp1 hp2 (by omega) (by omega);rw[hs] at hh;refine hh.mono fun x w' ⟨h1,h2⟩=> ?_
 rw[<- hs] at h2;obtain⟨q1,q2,q3,q4,q5⟩:=round_eq (lt:=ltInt) swo_ltInt (partitionEqual_holds ltInt) ha hp1 hp2 (by omega) h.2.2.1 hl (Prod.eta (partitionEqual ltInt e a' b' p)).symm;exact⟨_,_,q1,q2,h1,h.to hbl h2,q3.trans hs,q4,fun R r1 r2=>h.2.2.2 R (q5 R r1 r2).1 (q5 R r1 r2).2⟩
def Z.Pt (w:World) (blk off a b:Nat) (d:Array Int) (a' b' m:Nat) (e:Array Int) (wr:World):Prop :=
 Go.Sort.At Z.en w blk off e wr/\e.size=d.size/\Sort.Below ltInt a' m e/\Sort.Below ltInt (m+1) b' e /\
 (∀(L:Array Int) (w':World),Z.Fin wr blk off a' m e L w'->Z.Pd w blk off a b d (m+1) b' L w') /\
 (∀(L:Array Int) (w':World),Z.Fin wr blk off (m+1) b' e L w'->Z.Pd w blk off a b d a' m L w')
theorem zq9 (w wr:World)(blk off cap a b a' b' p:Nat)(d e:Array Int)(h0:Holds Z.en w blk off d)(hbl:blk<w.heap.size)(h:Z.Pd w blk off a b d a' b' e wr)(hp1:a'<=p)(hp2:p<b')(hb:b'<=d.size)(hsz:d.size<1152921504606846976) :
  Calls prog 235 #[.slice (some ⟨blk,off,none⟩) d.size cap,.int .i64 a',.int .i64 b',.int .i64 p] wr fun x w'=>∃(m:Nat) (β:Bool) (e2:Array Int),a'<=m/\m<b'/\x=.returned (.tuple #[.int .i64 m,.bool β])/\Z.Pt w blk off a b d a' b' m e2 w':=by
 have hs:=h.2.1;have hh:=zn9 wr blk off cap a' b' p e (h.holds h0 hbl) hp1 hp2 (by omega) (by omega);rw[hs] at hh;refine hh.mono fun x w' ⟨h1,h2⟩=> ?_
 rw[<- hs] at h2;obtain⟨q1,q2,q3,q4,q5,q6,q7⟩:=round_part (lt:=ltInt) swo_ltInt (partition_holds ltInt) hp1 hp2 (by omega) h.2.2.1 (show partition ltInt e a' b' p=((partition ltInt e a' b' p).1,(partition ltInt e a' b' p).2.1,(partition ltInt e a' b' p).2.2) from rfl);have h3:=h.to hbl h2;refine⟨_,_,_,q1,q2,h1,h3,q3.trans hs,q4,q5,fun L w2 hf=> ?_,fun L w2 hf=> ?_⟩
 ·obtain⟨r1,r2⟩:=q6 L hf.2.1 hf.2.2;exact⟨h3.stepG hbl hf.2.1.1 hf.1,hf.2.1.1.trans (q3.trans hs),r1,fun R s1 s2=>h.2.2.2 R (r2 R s1 s2).1 (r2 R s1 s2).2⟩
 ·obtain⟨r1,r2⟩:=q7 L hf.2.1 hf.2.2;exact⟨h3.stepG hbl hf.2.1.1 hf.1,hf.2.1.1.trans (q3.trans hs),r1,fun R s1 s2=>h.2.2.2 R (r2 R s1 s2).1 (r2 R s1 s2).2⟩
theorem zq8 (N:Nat):∀(w:World) (blk off cap a b lim:Nat) (d:Array Int),b-a<=N->Holds Z.en w blk off d->blk<w.heap.size->Sort.Below ltInt a b d->a<=b->b<=d.size->d.size<1152921504606846976->lim<1152921504606846976 ->
  Calls prog 223 #[.slice (some ⟨blk,off,none⟩) d.size cap,.int .i64 a,.int .i64 b,.int .i64 lim] w fun x w'=>x=.returned (.tuple #[])/\∃R,Z.Fin w blk off a b d R w':=by
 induction N using Nat.strongRecOn with
 | ind N ih=> ?_
 intro w blk off cap a b lim d hN hH hbl hB hab hb hsz hlim;have HH:=qH hH;have HS:=qH<|Z.Pd.start hH hB
 have IH:Hid (∀(w:World) (a' b' lim:Nat) (e:Array Int),b'-a'<b-a->Holds Z.en w blk off e->blk<w.heap.size->Sort.Below ltInt a' b' e->a'<=b'->b'<=e.size->e.size=d.size->lim<1152921504606846976 ->
   Calls prog 223 #[.slice (some ⟨blk,off,none⟩) d.size cap,.int .i64 a',.int .i64 b',.int .i64 lim] w fun x w'=>x=.returned (.tuple #[])/\∃R,Z.Fin w blk off a' b' e R w'):=fun w a' b' lim e h1 h2 h3 h4 h5 h6 h7 h8=>by
  have:=ih (b'-a') (by omega) w blk off cap a' b' lim e qN h2 h3 h4 h5 h6 (by omega) h8;rw[h7] at this;exact this
 clear hH hB ih hN
 go_enter func223,ntmps223
 go_wp2_with fail
 go_loopw [1,2,3,8,9] (fun v1 v2 v3 v8 v9 wr=>∃(a' b' l:Nat) (wb wp:Bool) (e:Array Int),v1=.int .i64 a'/\v2=.int .i64 b'/\v3=.int .i64 l/\v8=.bool wb/\v9=.bool wp/\a<=a'/\a'<=b'/\b'<=b/\l<1152921504606846976/\Hid (Z.Pd w blk off a b d a' b' e wr)) (fun v1 v2 _ _ _ _=>(RowKit.intOf v2-RowKit.intOf v1).toNat)
 case atStart=>exact⟨a,b,lim,true,true,d,rfl,rfl,rfl,rfl,rfl,qN,hab,qN,hlim,HS.out⟩
 case round =>
  obtain⟨a',b',l,wb,wp,e,rfl,rfl,rfl,rfl,rfl,ha1,hab1,hb1,hl1,HP⟩:=hrel;clear HS
  by_cases h12:b'-a'<=12
  ·go_wp2_with fail
   go_at_call 227
   refine(ztn w wr blk off cap a b a' b' d e HH.out hbl HP.out hab1 (by omega) hsz).mono ?_;rintro _ w2 ⟨rfl,hR⟩
   go_wp2_with fail
   refine bodyPost_ret (v:=.tuple #[]) (by simp[results,results223,go_sem, *]) rfl ?_;exact⟨rfl,hR⟩
  ·by_cases hl0:l=0
   ·subst hl0
    go_wp2_with fail
    go_at_call 228
    refine(zrc w wr blk off cap a b a' b' d e HH.out hbl HP.out (by omega) (by omega) hsz).mono ?_;rintro _ w2 ⟨rfl,hR⟩
    go_wp2_with fail
    refine bodyPost_ret (v:=.tuple #[]) (by simp[results,results223,go_sem, *]) rfl ?_;exact⟨rfl,hR⟩
   ·go_upto_if 35 with fail
    go_cut [3] (fun v3 wx=>∃(l:Nat) (e:Array Int),v3=.int .i64 l/\l<1152921504606846976/\Hid (Z.Pd w blk off a b d a' b' e wx))
    case first =>
     cases wb with
     | true =>
      go_wp2_with fail
      go_meet
      case rel=>exact⟨l,e,rfl,hl1,HP.out⟩
     | false =>
      go_wp2_with fail
      go_at_call 229
      refine(zoc w wr blk off cap a b a' b' d e HH.out hbl HP.out (by omega) (by omega) hsz).mono ?_;rintro _ w2 ⟨rfl,e2,h2⟩;have H2:=qH h2;clear h2 HP
      go_wp2_with fail
      go_meet
      case rel=>exact⟨l-1,e2,by congr 1;omega,by omega,H2.out⟩
    case rest =>
     clear HP hl0 hl1;obtain⟨l,e,rfl,hl1,HP⟩:=hcut
     go_wp2_with fail
     go_at_call 230
     refine(zn8 w wc blk off cap a b a' b' d e HH.out hbl HP.out (by omega) (by omega) hsz).mono ?_;rintro _ w2 ⟨p,c,hp1,hp2,hc,rfl,h2⟩;have H2:=qH h2;clear h2 HP
     go_upto_if 50 with fail
     go_cut [11,12] (fun v11 v12 wx=>∃(p c:Nat) (e:Array Int),v11=.int .i64 p/\v12=.int .i64 c/\a'<=p/\p<b'/\c<=2/\Hid (Z.Pd w blk off a b d a' b' e wx))
     case first =>
      by_cases hc2:c=2
      ·subst hc2
       go_wp2_with fail
       go_at_call 231
       refine(ztl w w2 blk off cap a b a' b' d e HH.out hbl H2.out (by omega) (by omega) hsz).mono ?_;rintro _ w3 ⟨rfl,e2,h3⟩;have H3:=qH h3;clear h3 H2
       go_wp2_with fail
       go_meet
       case rel=>exact⟨b'-1-(p-a'),1,e2,by congr 1;omega,rfl,by omega,by omega,by omega,H3.out⟩
      ·go_wp2_with fail
       go_meet
       case rel=>exact⟨p,c,e,rfl,rfl,hp1,hp2,hc,H2.out⟩
     case rest =>
      clear H2 hp1 hp2 hc;obtain⟨p,c,e,rfl,rfl,hp1,hp2,hc,HP⟩:=hcut
      go_upto_region 15 with fail
      go_cut [68] (fun v68 wx=>∃ β:Bool,v68=.bool β/\wx=wc)
      case first =>
       cases wb <;> cases wp <;> (by_cases hc1:c=1) <;> go_wp2_with fail
       all_goals go_meet
       all_goals exact⟨_,rfl,rfl⟩
      case rest =>
       obtain⟨β,rfl,hwc⟩:=hcut;rw[hwc]
       go_upto_if 68 with fail
       go_cut [] (fun wx=>∃e:Array Int,Hid (Z.Pd w blk off a b d a' b' e wx))
       case first =>
        cases β with
        | false =>
         go_wp2_with fail
         go_meet
         case rel=>exact⟨e,HP.out⟩
        | true =>
         go_wp2_with fail
         go_at_call 232
         refine(zjo w _ blk off cap a b a' b' d e HH.out hbl HP.out (by omega) (by omega) hsz).mono ?_;rintro _ w3 ⟨β,e2,rfl,h3,h4⟩;have H3:=qH h3;have H4:=qH h4;clear h3 h4 HP;cases β with
         | true =>
          go_wp2_with fail
          refine bodyPost_ret (v:=.tuple #[]) (by simp[results,results223,go_sem, *]) rfl ?_;exact⟨rfl,e2,H4.out trivial⟩
         | false =>
          go_wp2_with fail
          go_meet
          case rel=>exact⟨e2,H3.out⟩
       case rest =>
        clear HP hwc;obtain⟨e,HP⟩:=hcut;obtain⟨G,hG⟩:∃G:Nat->Int,∀t,G t=e[t]! := ⟨fun t=>e[t]!,fun _=>rfl⟩;have hcw:∀t,t<d.size->wc.cell? ⟨blk,off+t,none⟩=some (.int .i32 (G t)):=fun t ht=>by rw[hG];exact(HP.out.holds HH.out hbl t (by have:=HP.out.2.1;omega)).1
        have HG:=qH hG;clear hG
        go_upto_region 17 with fail
        go_cut [87] (fun v87 wx=>∃ β:Bool,v87=.bool β/\Hid (Z.Pd w blk off a b d a' b' e wx/\(β=true->0<a'/\ltInt e[a'-1]! e[p]! = false)))
        case first =>
         by_cases ha0:0<a'
         ·go_quiet (first|(go_at_call 233;refine Calls.quiet_of_same (zao _ _ _)))
          go_wp2_with fail
          go_meet
          case rel=>exact⟨_,rfl,⟨HP.out.1.ahead _,HP.out.2⟩,fun hβ=>⟨ha0,by rw[<- HG.out,<- HG.out];simpa using hβ⟩⟩
         ·go_quiet (first|(go_at_call 233;refine Calls.quiet_of_same (zao _ _ _)))
          go_wp2_with fail
          go_meet
          case rel=>exact⟨false,rfl,⟨HP.out.1.ahead _,HP.out.2⟩,fun hβ=>by cases hβ⟩
        case rest =>
         clear HP hcw HG;obtain⟨β,rfl,HP⟩:=hcut;cases β with
         | true =>
          obtain⟨ha0,hle⟩:=HP.out.2 rfl;have HL:=qH hle;clear hle
          go_wp2_with fail
          go_at_call 234
          refine(ztm w _ blk off cap a b a' b' p d e HH.out hbl HP.out.1 hp1 hp2 (by omega) hsz ha0 HL.out).mono ?_;rintro _ w3 ⟨m,e2,hm1,hm2,rfl,h3⟩;have H3:=qH h3;clear h3 HP HL
          go_wp2_with fail
          go_roundw
          case rel=>exact⟨m,b',l,wb,wp,e2,rfl,rfl,rfl,rfl,rfl,by omega,by omega,hb1,hl1,H3.out⟩
          case measure=>simp[RowKit.intOf];omega
         | false =>
          go_wp2_with fail
          go_at_call 235
          refine(zq9 w _ blk off cap a b a' b' p d e HH.out hbl HP.out.1 hp1 hp2 (by omega) hsz).mono ?_;rintro _ w3 ⟨m,γ,e2,hm1,hm2,rfl,h3⟩;have H3:=qH h3;clear h3 HP;have HM:=qH<|(by omega:((m:Int)+1)=((m+1:Nat):Int))
          by_cases hlr:m-a'<b'-m
          ·go_wp2_with fail
           go_at_call 223
           refine(IH.out w3 a' m l e2 (by omega) (H3.out.1.holds HH.out H3.out.2.1 hbl).1 (H3.out.1.holds HH.out H3.out.2.1 hbl).2 H3.out.2.2.1 hm1 (by have:=H3.out.2.1;omega) H3.out.2.1 hl1).mono ?_;rintro _ w4 ⟨rfl,R,h4⟩;have H4:=qH<|H3.out.2.2.2.2.1 R w4 h4;clear h4 H3
           go_wp2_with fail
           go_roundw
           case rel=>exact⟨m+1,b',l,_,γ,R,by go_num,rfl,rfl,rfl,rfl,by omega,by omega,hb1,hl1,H4.out⟩
           case measure=>simp[RowKit.intOf];omega
          ·go_wp2_with fail
           rw[HM.out]
           go_at_call 223
           refine(IH.out w3 (m+1) b' l e2 (by omega) (H3.out.1.holds HH.out H3.out.2.1 hbl).1 (H3.out.1.holds HH.out H3.out.2.1 hbl).2 H3.out.2.2.2.1 (by omega) (by have:=H3.out.2.1;omega) H3.out.2.1 hl1).mono ?_;rintro _ w4 ⟨rfl,R,h4⟩;have H4:=qH<|H3.out.2.2.2.2.2 R w4 h4;clear h4 H3
           go_wp2_with fail
           go_roundw
           case rel=>exact⟨a',m,l,_,γ,R,rfl,rfl,rfl,rfl,rfl,ha1,hm1,by omega,hl1,H4.out⟩
           case measure=>simp[RowKit.intOf];omega
end
section
open Go.Shelf Go.RowKit Go.Sort Go.Lib
theorem zn6 (w:World)(blk off cap:Nat)(d:Array Int)(hH:Holds Z.en w blk off d)(h0:0<d.size)(hsz:d.size<1152921504606846976) :
  Calls prog 219 #[.slice (some ⟨blk,off,none⟩) d.size cap] w fun x w'=>x=.returned (.tuple #[])/\∃R,Z.Fin w blk off 0 d.size d R w':=by
 have hbl:blk<w.heap.size:=World.block_lt_of_cell? w _ (hH 0 (by omega)).1;obtain⟨n,hn⟩:=qE d.size;have e0:=bitLen_eq n (by omega);have hk:=(bitsLen_le_iff n 62).2 (by omega)
 have hL:Hid (∀w,Calls prog 224 #[.int .u64 (n:Int)] w fun e w'=>e=.returned (.int .i64 (bitsLen n:Int))/\w'=w):=fun w=>by
  have h:=Any.bits_Len Tryz.lays125 (n:Int) w (by omega) (by omega);rw[Int.toNat_natCast,e0] at h;exact h
 have hP:Hid (Calls prog 223 #[.slice (some ⟨blk,off,none⟩) n cap,.int .i64 0,.int .i64 n,.int .i64 (bitsLen n:Int)] w fun x w'=>x=.returned (.tuple #[])/\∃R,Z.Fin w blk off 0 n d R w'):=by
  rw[hn];exact zq8 d.size w blk off cap 0 d.size (bitsLen d.size) d (by omega) hH hbl (.inl rfl) (by omega) qN hsz (by rw[<- hn];omega)
 rw[<- hn];have hn62:n<1152921504606846976:=by omega
 generalize bitsLen n=k at hL hP hk;clear hn hsz h0 e0 hH
 go_enter func219,ntmps219
 go_wp2_with fail
 go_at_call 224
 refine(hL.out _).mono ?_;rintro _ _ ⟨rfl,rfl⟩
 go_wp2_with fail
 go_at_call 223
 refine hP.out.mono ?_;rintro _ w2 ⟨rfl,hR⟩
 go_wp2_with fail
 go_end0
 exact⟨rfl,hR⟩
namespace Z
abbrev ints (t:List Int):List Value:=t.map (Value.int .i32)
theorem holds_of_block {w:World}{g:Nat}{cur:Array Value}{e:TypeId}{t:List Int}(hb:w.heap[g]?=some (.cells cur e (0,0)))(ht:cur.toList.take t.length=ints t):Holds en w g 0 t.toArray:=by
 intro j hj;have hj':j<t.length:=by simpa using hj
 refine⟨?_,by simp[World.frozen?,hb]⟩;have h1:(cur.toList.take t.length)[j]?=(ints t)[j]?:=by rw[ht]
 rw[List.getElem?_take_of_lt hj'] at h1;simp only[World.cell?,hb,Nat.zero_add];simp only[Option.isSome_none,Bool.false_eq_true,if_false];rw[<- Array.getElem?_toList,h1];simp[hj']
theorem zrn (cur:Array Value)(ts:List Int)(m:Nat)(hm:m<=ts.length)(h:ts.length<=cur.size):(putCells en 0 ts.toArray cur).toList.take m=ints (ts.take m):=by
 apply List.ext_getElem?;intro j
 by_cases hj:j<m
 ·have h1:j<ts.length:=by omega
  have h2:j<cur.size:=by omega
  rw[List.getElem?_take_of_lt hj,Array.getElem?_toList];simp[putCells,hj,h1,h2]
 ·rw[List.getElem?_take_eq_none (by omega),List.getElem?_eq_none (by simp;omega)]
theorem heap_put {w:World}{g n:Nat}{os:Array Obj}{cur:Array Value}{e:TypeId}{fr:Nat×Nat}(d:Array Int)(hb:w.heap[g]?=some (.cells cur e fr)):(grow (putRow en (Sort.ahead w n) g 0 d) os).heap[g]?=some (.cells (putCells en 0 d cur) e fr):=by
 have hg:=(qA.1 hb).1;rw[heap_grow_old _ _ (by simpa using hg)];simp[putRow,mapBlock,Sort.ahead,Array.getElem?_modify,hb,onCells]
theorem zja {w:World}{g n:Nat}{os:Array Obj}(d:Array Int):w.grownBy (grow (putRow en (Sort.ahead w n) g 0 d) os) (some g):=by
 refine⟨rfl,rfl,rfl,by simp,fun k hk hne=> ?_⟩;rw[heap_grow_old _ _ (by simpa using hk)];have:g≠k:=fun e=>hne (by rw[e])
 simp[putRow,mapBlock,Sort.ahead,Array.getElem?_modify,this]
theorem zlw {w:World}{base g cap n m:Nat}{e:TypeId}{os:Array Obj}{cur:Array Value}{ts:List Int}(hm:m<=ts.length)(hbase:base<=g)(hb:w.heap[g]?=some (.cells cur e (0,0)))(h1:ts.length<=cap)(h2:cap<=maxLen)(h3:cur.size=cap*1) :
  (grow (putRow en (Sort.ahead w n) g 0 ts.toArray) os).ownsRow base e 1 (.slice (some ⟨g,0,none⟩) m cap) m (ints (ts.take m)) :=
 ⟨by simp[hm],.inr ⟨g,cap,_,rfl,hbase,heap_put _ hb,by omega,h2,by simp[putCells,h3],by rw[Nat.mul_one];exact zrn cur ts m hm (by omega)⟩⟩
theorem uniq (d:Array Int)(hs:SortedIn ltInt 0 d.size d):∀m,m<=d.size->(compactUpTo d m).Pairwise (· < ·)/\(∀x,x∈compactUpTo d m↔∃j,j<m/\d[j]! = x):=by
 intro m
 induction m with
 | zero=>intro _;simp[compactUpTo]
 | succ m ih =>
  intro hm;obtain⟨h1,h2⟩:=ih (by omega);rw[compactUpTo_succ]
  have hle:=fun i hi=>by
   have:=hs i m (by omega) hi (by omega);simp[ltInt] at this;omega
  by_cases hk:keeps d m=true
  ·rw[if_pos hk];refine⟨?_,fun x=> ?_⟩
   ·rw[List.pairwise_append];refine⟨h1,by simp,fun x hx y hy=> ?_⟩;obtain⟨j,hj,rfl⟩:=(h2 x).1 hx;simp at hy;subst hy;have hm0:m≠0:=by omega
    simp[keeps,hm0] at hk;have e1:=hle (m-1) (by omega)
    have e2:d[j]! <= d[m-1]! := by
     by_cases hjm:j=m-1
     ·rw[hjm];exact Int.le_refl _
     ·have:=hs j (m-1) (by omega) (by omega) (by omega);simp[ltInt] at this;omega
    omega
   ·rw[List.mem_append,h2,List.mem_singleton];constructor
    ·rintro (⟨j,hj,rfl⟩|rfl)
     ·exact⟨j,by omega,rfl⟩
     ·exact⟨m,by omega,rfl⟩
    ·rintro ⟨j,hj,rfl⟩
     by_cases hjm:j=m
     ·subst hjm;exact .inr rfl
     ·exact .inl ⟨j,by omega,rfl⟩
  ·rw[if_neg hk,List.append_nil];refine⟨h1,fun x=> ?_⟩;rw[h2];simp[keeps] at hk;constructor
   ·rintro ⟨j,hj,rfl⟩;exact⟨j,by omega,rfl⟩
   ·rintro ⟨j,hj,rfl⟩
    by_cases hjm:j=m
    ·subst hjm;exact⟨j-1,by omega,hk.2.symm⟩
    ·exact⟨j,by omega,rfl⟩
theorem zu3 (d:Array Int)(m:Nat):(compactUpTo d m).length<=m:=by
 unfold compactUpTo;rw[List.length_map];exact Nat.le_trans (List.length_filter_le _ _) (by simp)
end Z
shelf_lay_g SlLaysE.n43 Slgn 43 at Tryz 220 as Tryz.compactR
theorem zn5 (w:World)(base:Nat)(v:Value)(t:List Int)(own:w.ownsRow base 21 1 v t.length (Z.ints t))(h0:t≠ [])(hsz:t.length<1152921504606846976) :
  Calls prog 219 #[v] w fun x w'=>x=.returned (.tuple #[])/\∃R:Array Int,R.size=t.length/\SortedIn ltInt 0 R.size R/\(∀x,x∈R.toList↔x∈t)/\w'.ownsRow base 21 1 v t.length (Z.ints R.toList)/\w.grownBy w' v.ownBlock:=by
 obtain⟨_,⟨rfl,hn⟩|⟨g,cap,cur,rfl,hbase,hb,h1,h2,h3,h4⟩⟩:=own
 ·exact absurd (List.length_eq_zero_iff.1 hn) h0
 have hl:=List.length_pos_iff.2 h0;rw[Nat.mul_one] at h4;have hh:=zn6 w g 0 cap t.toArray (Z.holds_of_block hb h4) (by simpa using hl) (by simpa using hsz);simp only[List.size_toArray] at hh;refine hh.mono ?_;rintro x w' ⟨hx,R,⟨n,os,rfl⟩,hP,hS⟩;have hs:R.size=t.length:=by simpa using hP.1
 refine⟨hx,R,hs,by rw[hs];exact hS,fun y=> ?_,?_,Z.zja _⟩
 ·have hp:=hP.2.2;have e1:(t.toArray.extract 0 t.length).toList=t:=by simp
  have e2:(R.extract 0 t.length).toList=R.toList:=by rw[<- hs];simp
  rw[e1,e2] at hp;exact hp.mem_iff
 ·have h:=Z.zlw (w:=w) (base:=base) (g:=g) (cap:=cap) (n:=n) (m:=t.length) (os:=os) (ts:=R.toList) (by simp[hs]) hbase hb (by simp[hs];omega) h2 h3;rw[List.take_of_length_le (by simp[hs])] at h;simpa using h
theorem zh4 (w:World)(base:Nat)(v:Value)(R:Array Int)(own:w.ownsRow base 21 1 v R.size (Z.ints R.toList))(h0:0<R.size)(hS:SortedIn ltInt 0 R.size R) :
  Calls prog 220 #[v] w fun x w'=>∃(v':Value) (c:List Int),x=.returned v'/\c.Pairwise (· < ·)/\(∀y,y∈c↔y∈R.toList)/\w'.ownsRow base 21 1 v' c.length (Z.ints c)/\w.grownBy w' v.ownBlock/\v'.ownBlock=v.ownBlock:=by
 obtain⟨_,⟨rfl,hn⟩|⟨g,cap,cur,rfl,hbase,hb,h1,h2,h3,h4⟩⟩:=own
 ·omega
 rw[Nat.mul_one] at h4
 have hH:Holds Z.en w g 0 R:=by
  have:=Z.holds_of_block (t:=R.toList) hb (by simpa using h4);simpa using this
 have hh:=AnyE.slices_Compact Tryz.compactR Z.en (fun x=>rfl) (EqlAt.intD _ _ _) (NeqAt.intD _ _ _) (0:Int) (fun w=>by rfl) g 0 cap R w hH (by unfold maxLen at h2;omega) h1;refine hh.mono ?_;rintro x w' ⟨hx,q,hw⟩;obtain⟨u1,u2⟩:=Z.uniq R hS R.size qN;have hlen:=Z.zu3 R R.size;refine⟨_,compactUpTo R R.size,hx,u1,fun y=> ?_,?_,?_,rfl⟩
 ·rw[u2];constructor
  ·rintro ⟨j,hj,rfl⟩;rw[getElem!_pos R j hj];exact Array.getElem_mem_toList hj
  ·intro hy;obtain⟨j,hj,rfl⟩:=List.getElem_of_mem hy;have hj':j<R.size:=by simpa using hj
   exact⟨j,hj',by rw[getElem!_pos R j hj'];simp⟩
 ·have h:=Z.zlw (w:=w) (base:=base) (g:=g) (cap:=cap) (n:=q) (m:=(compactUpTo R R.size).length) (os:=#[]) (ts:=compactUpTo R R.size++List.replicate (R.size-(compactUpTo R R.size).length) (0:Int)) (by simp) hbase hb (by simp;omega) h2 h3;rw[List.take_left',grow_empty,<- hw] at h
  ·exact h
  ·rfl
 ·have h:=Z.zja (w:=w) (g:=g) (n:=q) (os:=#[]) (compactUpTo R R.size++List.replicate (R.size-(compactUpTo R R.size).length) (0:Int)).toArray;rw[grow_empty,<- hw] at h;exact h
