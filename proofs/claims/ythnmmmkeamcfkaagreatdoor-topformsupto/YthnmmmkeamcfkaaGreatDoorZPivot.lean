import Derived.Sort.WalkA
import Derived.Sort.WalkB12
import Derived.BigGuard
import Derived.BigCall
import Derived.CellFam
import Derived.Deep.Draws
import Derived.Test.YthnmmmkeamcfkaaGreatDoorVForth
set_option maxHeartbeats 0
set_option maxRecDepth 20000
set_option linter.unusedSimpArgs false
set_option linter.unusedVariables false
namespace Go.Proofs.YthnmmmkeamcfkaaGreatDoor
open Go.Proofs.Tryz
section
open Go.RowKit Go.Sort
namespace Z
abbrev en:Int->Value:=Value.int .i32
def At (w:World) (blk off n0:Nat) (d:Array Int) (wr:World):Prop:=d.size=n0/\∃n,wr=putRow en (Sort.ahead w n) blk off d
theorem At.start {w:World}{blk off:Nat}{d:Array Int}(h:Holds en w blk off d):At w blk off d.size d w:=⟨rfl,0,(putRow_self en w blk off d h).symm⟩
theorem At.cell {w wr:World}{blk off n0:Nat}{d0 d:Array Int}(h:At w blk off n0 d wr)(h0:Holds en w blk off d0)(hn:d0.size=n0){j:Nat}(hj:j<n0):wr.cell? ⟨blk,off+j,none⟩=some (.int .i32 d[j]!):=by
 obtain⟨hs,n,rfl⟩:=h;exact cell?_putRow en _ blk off d0 d (holds_ahead en w n blk off d0 h0) (by omega) j (by omega)
theorem At.free {w wr:World}{blk off n0:Nat}{d0 d:Array Int}(h:At w blk off n0 d wr)(h0:Holds en w blk off d0)(hn:d0.size=n0){j:Nat}(hj:j<n0):wr.frozen? ⟨blk,off+j,none⟩=false:=by
 obtain⟨hs,n,rfl⟩:=h;rw[frozen?_putRow];exact(holds_ahead en w n blk off d0 h0 j (by omega)).2
theorem At.drew {w wr:World}{blk off n0:Nat}{d:Array Int}(h:At w blk off n0 d wr)(q:Nat):At w blk off n0 d (wr.drewN q):=by
 obtain⟨hs,n,rfl⟩:=h;exact⟨hs,n+q,putRow_drewN en w n q blk off d⟩
theorem At.swap {w wr:World}{blk off n0:Nat}{d:Array Int}(h:At w blk off n0 d wr){i j:Nat}(hi:i<n0)(hj:j<n0)(q:Nat):At w blk off n0 (swp d i j) (((wr.drewN q).setCell ⟨blk,off+i,none⟩ (.int .i32 d[j]!)).setCell ⟨blk,off+j,none⟩ (.int .i32 d[i]!)):=by
 obtain⟨hs,n,rfl⟩:=h;exact⟨by rw[size_swp];exact hs,n+q,swap_worldA en w n q blk off d i j (by omega) (by omega)⟩
theorem At.holds {w wr:World}{blk off n0:Nat}{d0 d:Array Int}(h:At w blk off n0 d wr)(h0:Holds en w blk off d0)(hn:d0.size=n0):Holds en wr blk off d:=by
 obtain⟨hs,n,rfl⟩:=h;exact holds_putRow en _ blk off d0 d (holds_ahead en w n blk off d0 h0) (by omega)
theorem At.trans {w w1 w2:World}{blk off n0:Nat}{d e:Array Int}(h:At w blk off n0 d w1)(h':At w1 blk off n0 e w2):At w blk off n0 e w2:=by
 obtain⟨hs,n,rfl⟩:=h;obtain⟨hs',m,rfl⟩:=h';exact⟨hs',n+m,putRow_ahead_putRow en w n m blk off d e (by omega)⟩
theorem At.size {w wr:World}{blk off n0:Nat}{d:Array Int}(h:At w blk off n0 d wr):d.size=n0:=h.1
end Z
end
section
open Go.RowKit Go.Sort
theorem zst (w:World)(x:Int):Calls prog 307 #[.int .i32 x] w fun e w'=>e= .returned (.bool false)/\w'=w:=by
 go_enter func307,ntmps307
 go_wp2;go_ret
 exact⟨by simp,rfl⟩
theorem zam (w:World)(x y:Int):Calls prog 295 #[.int .i32 x,.int .i32 y] w fun e w'=>e= .returned (.bool (ltInt x y))/\w'=w:=by
 go_enter func295,ntmps295
 go_wp2_with (go_at_call 307;refine(zst _ _).mono ?_;rintro e w' ⟨rfl,rfl⟩)
 go_ret;exact⟨rfl,rfl⟩
end
section
open Go.RowKit Go.Sort
namespace Z
theorem zp3 {hi first r:Nat}{d:Array Int}(h:hi<=2*r+1):siftDown ltInt hi first r d=d:=by
 rw[siftDown,dif_pos h]
theorem zm7 {hi first r:Nat}{d:Array Int}(h:2*r+1+1<hi)(hl:ltInt d[first+(2*r+1)]! d[first+(2*r+1)+1]! = true) :
  siftDown ltInt hi first r d=if ltInt d[first+r]! d[first+(2*r+2)]! = true then siftDown ltInt hi first (2*r+2) (swp d (first+r) (first+(2*r+2))) else d:=by
 rw[siftDown,dif_neg (by omega)];simp only[h,decide_true,hl,Bool.and_self,if_true,Bool.not_eq_true']
 by_cases hx:ltInt d[first+r]! d[first+(2*r+2)]! = true
 ·rw[if_neg (by simp[hx]),dif_pos trivial,if_pos hx]
 ·rw[if_pos (by simpa using hx),if_neg hx]
theorem zih {hi first r:Nat}{d:Array Int}(h0:2*r+1<hi)(h:¬ 2*r+1+1<hi∨ltInt d[first+(2*r+1)]! d[first+(2*r+1)+1]! = false) :
  siftDown ltInt hi first r d=if ltInt d[first+r]! d[first+(2*r+1)]! = true then siftDown ltInt hi first (2*r+1) (swp d (first+r) (first+(2*r+1))) else d:=by
 rw[siftDown,dif_neg (by omega)]
 have hc:(decide (2*r+1+1<hi)&&ltInt d[first+(2*r+1)]! d[first+(2*r+1)+1]!)=false:=by
  rcases h with h | h
  ·simp[h]
  ·simp[h]
 rw[if_neg (by rw[hc];simp)]
 by_cases hx:ltInt d[first+r]! d[first+(2*r+1)]! = true
 ·rw[if_neg (by simp[hx]),if_pos hx]
 ·rw[if_pos (by simpa using hx),if_neg hx]
end Z
theorem zox (w:World)(blk off cap lo hi first:Nat)(d:Array Int)(h0:Holds Z.en w blk off d)(hb:first+hi<=d.size)(hsz:d.size<1152921504606846976)(hlo:lo<=d.size) :
  Calls prog 302 #[.slice (some ⟨blk,off,none⟩) d.size cap,.int .i64 lo,.int .i64 hi,.int .i64 first] w fun e w'=>e= .returned (.tuple #[])/\Z.At w blk off d.size (siftDown ltInt hi first lo d) w':=by
 have H0:=qH h0;have HS:=qH <| Z.At.start h0;clear h0
 go_enter func302,ntmps302
 go_wp2
 go_loopw [8] (fun vr wr=>∃(r:Nat) (e:Array Int),vr= .int .i64 r/\r<=d.size/\Hid (Z.At w blk off d.size e wr/\siftDown ltInt hi first r e=siftDown ltInt hi first lo d)) (fun vr _=>d.size - (RowKit.intOf vr).toNat)
 case atStart=>exact⟨lo,d,rfl,hlo,HS.out,rfl⟩
 case round =>
  obtain⟨r,e,rfl,hr,HE⟩:=hrel;clear HS
  by_cases hc:2*r+1<hi
  ·obtain⟨G,hG⟩:∃G:Nat->Int,∀t,G t=e[t]! := ⟨fun t=>e[t]!,fun _=>rfl⟩;have hcw:∀t,t<d.size->wr.cell? ⟨blk,off+t,none⟩=some (.int .i32 (G t)):=fun t ht=>by rw[hG];exact HE.out.1.cell H0.out rfl ht
   have hfw:∀t,t<d.size->wr.frozen? ⟨blk,off+t,none⟩=false:=fun t ht=>HE.out.1.free H0.out rfl ht
   have HG:=qH hG;clear hG;have h0z:¬((hi:Int)<=2*(r:Int)+1):=by omega
   by_cases h1:2*r+1+1<hi
   ·have h1z:2*(r:Int)+1+1<(hi:Int):=by omega
    go_wp2
    go_quiet (first | (go_at_call 295;refine Calls.quiet_of_same (zam _ _ _)))
    go_wp2
    ·have hl:ltInt (G (first+2*r+1)) (G (first+2*r+2))=true:=by assumption
     obtain⟨w2,hw2⟩:∃w2,w2=wr.drewN nq:=⟨_,rfl⟩;have HA2:Hid (Z.At w blk off d.size e w2):=by show Z.At w blk off d.size e w2;rw[hw2];exact HE.out.1.drew nq
     have hcw2:∀t,t<d.size->w2.cell? ⟨blk,off+t,none⟩=some (.int .i32 (G t)):=fun t ht=>by rw[HG.out];exact HA2.out.cell H0.out rfl ht
     have hfw2:∀t,t<d.size->w2.frozen? ⟨blk,off+t,none⟩=false:=fun t ht=>HA2.out.free H0.out rfl ht
     have HEq:Hid (siftDown ltInt hi first r e=if ltInt (G (first+r)) (G (first+2*r+2))=true then siftDown ltInt hi first (2*r+2) (swp e (first+r) (first+(2*r+2))) else e):=by
      show _=_;rw[HG.out,HG.out,<- Nat.add_assoc first];exact Z.zm7 h1 (by rw[<- HG.out,<- HG.out];exact hl)
     rw[<- hw2];clear hcw hfw hw2
     go_quiet (first | (go_at_call 295;refine Calls.quiet_of_same (zam _ _ _)))
     go_wp2
     ·have hx:ltInt (G (first+r)) (G (first+2*r+2))=false:=by
       have h:(!ltInt (G (first+r)) (G (first+2*r+2)))=true:=by assumption
       simpa using h
      refine bodyPost_ret (v:= .tuple #[]) (by simp[results,results302,go_sem]) rfl ?_;refine⟨rfl,?_⟩;rw[<- HE.out.2,HEq.out,hx];exact HA2.out.drew _
     ·have hx:ltInt (G (first+r)) (G (first+2*r+2))=true:=by
       have h:(!ltInt (G (first+r)) (G (first+2*r+2)))=false:=by assumption
       simpa using h
      go_region
      all_goals go_wp2
      go_roundw
      case rel =>
       refine⟨2*r+2,swp e (first+r) (first+(2*r+2)),by congr 1 <;> omega,by omega,?_,?_⟩
       ·have:=HA2.out.swap (i:=first+r) (j:=first+(2*r+2)) (by omega) (by omega) (nq+1);rw[HG.out,HG.out];simpa only[Nat.add_assoc] using this
       ·rw[<- HE.out.2,HEq.out,if_pos hx]
      case measure=>simp[RowKit.intOf];omega
    ·have hl:ltInt (G (first+2*r+1)) (G (first+2*r+2))=false:=by assumption
     obtain⟨w2,hw2⟩:∃w2,w2=wr.drewN nq:=⟨_,rfl⟩;have HA2:Hid (Z.At w blk off d.size e w2):=by show Z.At w blk off d.size e w2;rw[hw2];exact HE.out.1.drew nq
     have hcw2:∀t,t<d.size->w2.cell? ⟨blk,off+t,none⟩=some (.int .i32 (G t)):=fun t ht=>by rw[HG.out];exact HA2.out.cell H0.out rfl ht
     have hfw2:∀t,t<d.size->w2.frozen? ⟨blk,off+t,none⟩=false:=fun t ht=>HA2.out.free H0.out rfl ht
     have HEq:Hid (siftDown ltInt hi first r e=if ltInt (G (first+r)) (G (first+2*r+1))=true then siftDown ltInt hi first (2*r+1) (swp e (first+r) (first+(2*r+1))) else e):=by
      show _=_;rw[HG.out,HG.out,<- Nat.add_assoc first];exact Z.zih hc (.inr (by rw[<- HG.out,<- HG.out];exact hl))
     rw[<- hw2];clear hcw hfw hw2
     go_quiet (first | (go_at_call 295;refine Calls.quiet_of_same (zam _ _ _)))
     go_wp2
     ·have hx:ltInt (G (first+r)) (G (first+2*r+1))=false:=by
       have h:(!ltInt (G (first+r)) (G (first+2*r+1)))=true:=by assumption
       simpa using h
      refine bodyPost_ret (v:= .tuple #[]) (by simp[results,results302,go_sem]) rfl ?_;refine⟨rfl,?_⟩;rw[<- HE.out.2,HEq.out,hx];exact HA2.out.drew _
     ·have hx:ltInt (G (first+r)) (G (first+2*r+1))=true:=by
       have h:(!ltInt (G (first+r)) (G (first+2*r+1)))=false:=by assumption
       simpa using h
      go_region
      all_goals go_wp2
      go_roundw
      case rel =>
       refine⟨2*r+1,swp e (first+r) (first+(2*r+1)),by congr 1 <;> omega,by omega,?_,?_⟩
       ·have:=HA2.out.swap (i:=first+r) (j:=first+(2*r+1)) (by omega) (by omega) (nq+1);rw[HG.out,HG.out];simpa only[Nat.add_assoc] using this
       ·rw[<- HE.out.2,HEq.out,if_pos hx]
      case measure=>simp[RowKit.intOf];omega
   ·have h1z:decide (2*(r:Int)+1+1<(hi:Int))=false:=decide_eq_false (by omega);go_wp2
    go_quiet (first | (go_at_call 295;refine Calls.quiet_of_same (zam _ _ _)))
    go_wp2;obtain⟨w2,hw2⟩:∃w2,w2=wr.drewN nq:=⟨_,rfl⟩
    have HA2:Hid (Z.At w blk off d.size e w2):=by show Z.At w blk off d.size e w2;rw[hw2];exact HE.out.1.drew nq
    have hcw2:∀t,t<d.size->w2.cell? ⟨blk,off+t,none⟩=some (.int .i32 (G t)):=fun t ht=>by rw[HG.out];exact HA2.out.cell H0.out rfl ht
    have hfw2:∀t,t<d.size->w2.frozen? ⟨blk,off+t,none⟩=false:=fun t ht=>HA2.out.free H0.out rfl ht
    have HEq:Hid (siftDown ltInt hi first r e=if ltInt (G (first+r)) (G (first+2*r+1))=true then siftDown ltInt hi first (2*r+1) (swp e (first+r) (first+(2*r+1))) else e):=by
     show _=_;rw[HG.out,HG.out,<- Nat.add_assoc first];exact Z.zih hc (.inl h1)
    rw[<- hw2];clear hcw hfw hw2
    go_quiet (first | (go_at_call 295;refine Calls.quiet_of_same (zam _ _ _)))
    go_wp2
    ·have hx:ltInt (G (first+r)) (G (first+2*r+1))=false:=by
      have h:(!ltInt (G (first+r)) (G (first+2*r+1)))=true:=by assumption
      simpa using h
     refine bodyPost_ret (v:= .tuple #[]) (by simp[results,results302,go_sem]) rfl ?_;refine⟨rfl,?_⟩;rw[<- HE.out.2,HEq.out,hx];exact HA2.out.drew _
    ·have hx:ltInt (G (first+r)) (G (first+2*r+1))=true:=by
      have h:(!ltInt (G (first+r)) (G (first+2*r+1)))=false:=by assumption
      simpa using h
     go_region
     all_goals go_wp2
     go_roundw
     case rel =>
      refine⟨2*r+1,swp e (first+r) (first+(2*r+1)),by congr 1 <;> omega,by omega,?_,?_⟩
      ·have:=HA2.out.swap (i:=first+r) (j:=first+(2*r+1)) (by omega) (by omega) (nq+1);rw[HG.out,HG.out];simpa only[Nat.add_assoc] using this
      ·rw[<- HE.out.2,HEq.out,if_pos hx]
     case measure=>simp[RowKit.intOf];omega
  ·have hc2:hi<=2*r+1:=by omega
   have h0z:(hi:Int)<=2*(r:Int)+1:=by omega
   go_wp2
   go_end0
   refine⟨rfl,?_⟩;rw[<- HE.out.2,Z.zp3 hc2];exact HE.out.1
end
section
open Go.RowKit Go.Sort
theorem zlg (w wr:World)(blk off cap n0 lo hi first:Nat)(d0 e:Array Int)(h0:Holds Z.en w blk off d0)(hn:d0.size=n0)(h:Z.At w blk off n0 e wr)(hb:first+hi<=n0)(hsz:n0<1152921504606846976)(hlo:lo<=n0) :
  Calls prog 302 #[.slice (some ⟨blk,off,none⟩) n0 cap,.int .i64 lo,.int .i64 hi,.int .i64 first] wr fun x w'=>x= .returned (.tuple #[])/\Z.At w blk off n0 (siftDown ltInt hi first lo e) w':=by
 have hs:=h.1;have hh:=zox wr blk off cap lo hi first e (h.holds h0 hn) (by omega) (by omega) (by omega)
 rw[hs] at hh;exact hh.mono fun x w' ⟨h1,h2⟩=>⟨h1,h.trans h2⟩
theorem zo1 (w:World)(blk off cap a b:Nat)(d:Array Int)(h0:Holds Z.en w blk off d)(hab:a<b)(hb:b<=d.size)(hsz:d.size<1152921504606846976) :
  Calls prog 290 #[.slice (some ⟨blk,off,none⟩) d.size cap,.int .i64 a,.int .i64 b] w fun e w'=>e= .returned (.tuple #[])/\Z.At w blk off d.size (heapSort ltInt d a b) w':=by
 have H0:=qH h0;have HS:=qH <| Z.At.start h0;clear h0;obtain⟨H,hH⟩:∃H,a+H<=b/\b<=a+H:=⟨b - a,by omega⟩;obtain⟨q,hq⟩:∃q,2*q+1<=H/\H<=2*q+2:=⟨(H - 1) / 2,by omega⟩
 have HE:Hid (heapSort ltInt d a b=heapPop ltInt a H (heapBuild ltInt H a (q+1) d)):=by
  show _=_;unfold heapSort;rw[show b - a=H by omega,show (H - 1) / 2=q by omega]
 go_enter func290,ntmps290
 go_wp2;rw[show ((b:Int) - a)=(H:Int) by omega,show (((H:Int) - 1) / 2)=(q:Int) by omega]
 go_loopw [9] (fun vi wr=>∃(k:Nat) (e:Array Int),vi= .int .i64 ((k:Int) - 1)/\k<=q+1/\Hid (Z.At w blk off d.size e wr/\heapBuild ltInt H a k e=heapBuild ltInt H a (q+1) d)) (fun vi _=>(RowKit.intOf vi+1).toNat)
 case atStart=>exact⟨q+1,d,by congr 1;omega,qN,HS.out,rfl⟩
 case round =>
  obtain⟨k,e,rfl,hk,HK⟩:=hrel;clear HS;cases k with
  | succ m =>
   rw[show (((m+1:Nat):Int) - 1)=(m:Int) by omega];have hsift:=zlg w wr blk off cap d.size m H a d e H0.out rfl HK.out.1 (by omega) hsz (by omega);have HSi:=qH hsift;clear hsift
   go_wp2_with fail
   refine HSi.out.mono ?_;rintro x w1 ⟨rfl,h1⟩;have H1:=qH h1;clear h1 HSi;go_wp2
   go_roundw
   case rel=>exact⟨m,siftDown ltInt H a m e,rfl,by omega,H1.out,by rw[<- HK.out.2];rfl⟩
   case measure=>simp[RowKit.intOf]
  | zero =>
   have HK2:Hid (Z.At w blk off d.size e wr/\e=heapBuild ltInt H a (q+1) d):=⟨HK.out.1,HK.out.2⟩;clear HK;rw[show (((0:Nat):Int) - 1)=(-1:Int) from rfl];go_wp2
   go_loopw [10] (fun vi wq=>∃(k:Nat) (f:Array Int),vi= .int .i64 ((k:Int) - 1)/\k<=H/\Hid (Z.At w blk off d.size f wq/\heapPop ltInt a k f=heapPop ltInt a H e)) (fun vi _=>(RowKit.intOf vi+1).toNat)
   case atStart=>exact⟨H,e,rfl,qN,HK2.out.1,rfl⟩
   case round =>
    obtain⟨k,f,rfl,hk2,HF⟩:=hrel;cases k with
    | succ m =>
     rw[show (((m+1:Nat):Int) - 1)=(m:Int) by omega];obtain⟨G,hG⟩:∃G:Nat->Int,∀t,G t=f[t]! := ⟨fun t=>f[t]!,fun _=>rfl⟩;have hcw:∀t,t<d.size->wr.cell? ⟨blk,off+t,none⟩=some (.int .i32 (G t)):=fun t ht=>by rw[hG];exact HF.out.1.cell H0.out rfl ht
     have hfw:∀t,t<d.size->wr.frozen? ⟨blk,off+t,none⟩=false:=fun t ht=>HF.out.1.free H0.out rfl ht
     have hsw:=HF.out.1.swap (i:=a) (j:=a+m) (by omega) (by omega) 1;rw[<- hG,<- hG] at hsw;have HSw:=qH hsw;have HG:=qH hG;clear hsw hG
     have x1:((wr.setCell ⟨blk,off+a,none⟩ (.int .i32 (G (a+m)))).drew).cell? ⟨blk,off+(a+m),none⟩=some (.int .i32 (G (a+m))):=by
      show (wr.setCell ⟨blk,off+a,none⟩ (.int .i32 (G (a+m)))).cell? ⟨blk,off+(a+m),none⟩=_
      by_cases hm:m=0
      ·subst hm;obtain⟨c,ty,fr,hb1,hc1⟩:=cells_of_cell? (hcw a (by omega));have hlt:=(qA.1 hc1).1;rw[setCell_eq,cell?_mapBlock wr blk _ _ hb1];simp[hlt]
      ·rw[World.cell?_setCell_other _ _ _ _ (by simp[hm])];exact hcw (a+m) (by omega)
     have x2:((wr.setCell ⟨blk,off+a,none⟩ (.int .i32 (G (a+m)))).drew).frozen? ⟨blk,off+(a+m),none⟩=false:=(World.frozen?_setCell _ _ _ _).trans (hfw (a+m) (by omega))
     have HX:Hid (∀X,X=((wr.setCell ⟨blk,off+a,none⟩ (.int .i32 (G (a+m)))).setCell ⟨blk,off+(a+m),none⟩ (.int .i32 (G a))).drew->Calls prog 302 #[.slice (some ⟨blk,off,none⟩) d.size cap,.int .i64 0,.int .i64 m,.int .i64 a] X fun x w'=>x= .returned (.tuple #[])/\Z.At w blk off d.size (siftDown ltInt m a 0 (swp f a (a+m))) w'):=fun X hX=>by
      have hat:Z.At w blk off d.size (swp f a (a+m)) X:=by rw[hX];exact HSw.out
      exact zlg w X blk off cap d.size 0 m a d _ H0.out rfl hat (by omega) hsz (by omega)
     clear HSw
     go_wp2_with fail
     go_region
     go_wp2_with fail
     refine(HX.out _ rfl).mono ?_;rintro x w1 ⟨rfl,h1⟩;have H1:=qH h1;clear h1 HX x1 x2 hcw hfw;go_wp2
     go_roundw
     case rel=>exact⟨m,_,rfl,by omega,H1.out,by rw[<- HF.out.2];rfl⟩
     case measure=>simp[RowKit.intOf]
    | zero =>
     go_wp2
     go_end0
     refine⟨rfl,?_⟩;rw[HE.out,<- HK2.out.2,<- HF.out.2];exact HF.out.1
end
section
open Go.RowKit Go.Sort
namespace Z
def Sb (sb:Nat) (w w':World):Prop:=RowKit.Below sb w w'/\(∀b,¬b=sb->w'.heap[b]?=w.heap[b]?)/\(w'.heap.size=w.heap.size/\w.drawn<=w'.drawn)/\∃s,w'.heap[sb]?=some (.cells #[.int .i64 s] 3)
theorem Sb.refl {sb:Nat}{w:World}{s:Int}(h:w.heap[sb]?=some (.cells #[.int .i64 s] 3)):Sb sb w w:=⟨qR _,fun _ _=>rfl,⟨rfl,qN⟩,s,h⟩
theorem Sb.drew {sb:Nat}{w w':World}(h:Sb sb w w')(q:Nat):Sb sb w (w'.drewN q):=⟨below_drewN h.1 q,h.2.1,⟨h.2.2.1.1,Nat.le_trans h.2.2.1.2 (show w'.drawn<=w'.drawn+q from Nat.le_add_right _ _)⟩,h.2.2.2⟩
theorem Sb.set {sb:Nat}{w w':World}(h:Sb sb w w')(s:Int):Sb sb w (w'.setCell ⟨sb,0,none⟩ (.int .i64 s)):=by
 obtain⟨h1,h2,h3,t,h4⟩:=h;exact⟨h1.setCell (p:=⟨sb,0,none⟩) qN _,fun b hb=>(heap_setCell_other w' ⟨sb,0,none⟩ b _ hb).trans (h2 b hb),⟨by simp[h3.1],h3.2⟩,s,heap_setCell_same w' sb 0 _ _ _ h4⟩
theorem Sb.trans {sb:Nat}{w w1 w2:World}(h:Sb sb w w1)(h':Sb sb w1 w2):Sb sb w w2:=⟨h.1.trans h'.1,fun b hb=>(h'.2.1 b hb).trans (h.2.1 b hb),⟨h'.2.2.1.1.trans h.2.2.1.1,Nat.le_trans h.2.2.1.2 h'.2.2.1.2⟩,h'.2.2.2⟩
theorem Sb.holds {sb blk off:Nat}{w w':World}{d:Array Int}(h:Sb sb w w')(hH:Holds en w blk off d)(hne:¬blk=sb):Holds en w' blk off d:=fun j hj=>by
 obtain⟨h1,h2⟩:=hH j hj;have e:=h.2.1 blk hne;refine⟨by rw[World.cell?_of_block (a:=⟨blk,off+j,none⟩) e];exact h1,?_⟩;rw[<- h2];unfold World.frozen?;simp only[e]
end Z
theorem zjo (w:World)(blk off cap a b sb:Nat)(s:Int)(d:Array Int)(hH:Holds Z.en w blk off d)(ha:a<d.size)(hb:b<d.size)(hsz:d.size<1152921504606846976)(hne:¬blk=sb)(hs:w.heap[sb]?=some (.cells #[.int .i64 s] 3)) :
  Calls prog 309 #[.slice (some ⟨blk,off,none⟩) d.size cap,.int .i64 a,.int .i64 b,.pointer (some ⟨sb,0,none⟩)] w fun e w'=>(e= .returned (.tuple #[.int .i64 a,.int .i64 b])∨e= .returned (.tuple #[.int .i64 b,.int .i64 a]))/\Z.Sb sb w w':=by
 obtain⟨ca,fa⟩:=hH a ha;obtain⟨cb,fb⟩:=hH b hb;generalize d[a]! = x at ca;generalize d[b]! = y at cb;have HS:=qH <| Z.Sb.refl hs;have c0:w.cell? ⟨sb,0,none⟩=some (.int .i64 s):=K.zah (i:=0) hs rfl;have f0:w.frozen? ⟨sb,0,none⟩=false:=frozen_of_row w _ _ _ _ hs;clear hH fa fb hs
 go_enter func309,ntmps309
 go_wp2
 go_quiet (first | (go_at_call 295;refine Calls.quiet_of_same (zam _ _ _)))
 go_wp2
 ·refine bodyPost_ret (v:= .tuple #[.int .i64 b,.int .i64 a]) (by simp[results,results309,go_sem, *]) rfl ?_;exact⟨.inr rfl,(HS.out.drew _).set _⟩
 ·refine bodyPost_ret (v:= .tuple #[.int .i64 a,.int .i64 b]) (by simp[results,results309,go_sem, *]) rfl ?_;exact⟨.inl rfl,HS.out.drew _⟩
