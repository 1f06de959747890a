import Derived.Test.YthnmmmkeamcfkaaGreatDoorZRev
import Derived.Sort.AssemblyPlain
import Derived.Shelf.SlicesE.Compact
import Derived.Laws.AppendOwn
set_option maxHeartbeats 0
set_option maxRecDepth 20000
set_option linter.unusedSimpArgs false
set_option linter.unusedVariables false
namespace Go.Proofs.YthnmmmkeamcfkaaGreatDoor
open Go.Proofs.Tryz
section
open Go.RowKit Go.Sort
namespace Z
def Fin (w:World) (blk off a b:Nat) (d R:Array Int) (wr:World):Prop:=Go.Sort.At en w blk off R wr/\PermIn a b d R/\SortedIn ltInt a b R
def Pd (w:World) (blk off a b:Nat) (d:Array Int) (a' b':Nat) (e:Array Int) (wr:World):Prop :=
 Go.Sort.At en w blk off e wr/\e.size=d.size/\Sort.Below ltInt a' b' e/\∀R,PermIn a' b' e R->SortedIn ltInt a' b' R->PermIn a b d R/\SortedIn ltInt a b R
theorem Pd.start {w:World}{blk off a b:Nat}{d:Array Int}(h:Holds en w blk off d)(hB:Sort.Below ltInt a b d):Pd w blk off a b d a b d w:=⟨Sort.At.refl h,rfl,hB,fun _ h1 h2=>⟨h1,h2⟩⟩
theorem Pd.perm {w wr w2:World}{blk off a b a' b':Nat}{d e e2:Array Int}(h:Pd w blk off a b d a' b' e wr)(hb:b'<=d.size)(hp:PermIn a' b' e e2)(h2:Go.Sort.At en w blk off e2 w2):Pd w blk off a b d a' b' e2 w2 :=
 ⟨h2,hp.1.trans h.2.1,h.2.2.1.perm (by have:=h.2.1;omega) hp,fun R h3 h4=>h.2.2.2 R (permIn_trans _ _ _ _ _ hp h3) h4⟩
theorem Pd.fin {w wr w2:World}{blk off a b a' b':Nat}{d e R:Array Int}(h:Pd w blk off a b d a' b' e wr)(hp:PermIn a' b' e R)(hs:SortedIn ltInt a' b' R)(h2:Go.Sort.At en w blk off R w2):Fin w blk off a b d R w2 :=
 ⟨h2,(h.2.2.2 R hp hs).1,(h.2.2.2 R hp hs).2⟩
theorem Pd.holds {w wr:World}{blk off a b a' b':Nat}{d e:Array Int}(h:Pd w blk off a b d a' b' e wr)(h0:Holds en w blk off d)(hbl:blk<w.heap.size):Holds en wr blk off e:=(h.1.holds h0 h.2.1 hbl).1
theorem Pd.to {w wr w2:World}{blk off a b a' b':Nat}{d e e2:Array Int}(h:Pd w blk off a b d a' b' e wr)(hbl:blk<w.heap.size)(h2:Z.At wr blk off e.size e2 w2):Go.Sort.At en w blk off e2 w2:=h.1.step hbl h2.1 h2.2
end Z
theorem zu4 (w wr:World)(blk off cap a b a' b':Nat)(d e:Array Int)(h0:Holds Z.en w blk off d)(hbl:blk<w.heap.size)(h:Z.Pd w blk off a b d a' b' e wr)(hab:a'<=b')(hb:b'<=d.size)(hsz:d.size<1152921504606846976) :
  Calls prog 289 #[.slice (some ⟨blk,off,none⟩) d.size cap,.int .i64 a',.int .i64 b'] wr fun x w'=>x= .returned (.tuple #[])/\∃R,Z.Fin w blk off a b d R w':=by
 have hs:=h.2.1;have hh:=zse wr blk off cap a' b' e (h.holds h0 hbl) hab (by omega) (by omega);rw[hs] at hh;refine hh.mono fun x w' ⟨h1,h2⟩=> ?_
 rw[<- hs] at h2;obtain⟨p1,p2⟩:=insertionSort_holds (lt:=ltInt) swo_ltInt e a' b' hab (by omega);exact⟨h1,_,h.fin p1 p2 (h.to hbl h2)⟩
theorem zsf (w wr:World)(blk off cap a b a' b':Nat)(d e:Array Int)(h0:Holds Z.en w blk off d)(hbl:blk<w.heap.size)(h:Z.Pd w blk off a b d a' b' e wr)(hab:a'<b')(hb:b'<=d.size)(hsz:d.size<1152921504606846976) :
  Calls prog 290 #[.slice (some ⟨blk,off,none⟩) d.size cap,.int .i64 a',.int .i64 b'] wr fun x w'=>x= .returned (.tuple #[])/\∃R,Z.Fin w blk off a b d R w':=by
 have hs:=h.2.1;have hh:=zow wr blk off cap a' b' e (h.holds h0 hbl) hab (by omega) (by omega);rw[hs] at hh;refine hh.mono fun x w' ⟨h1,h2⟩=> ?_
 rw[<- hs] at h2;obtain⟨p1,p2⟩:=heapSort_holds (lt:=ltInt) swo_ltInt e a' b' (by omega) (by omega);exact⟨h1,_,h.fin p1 p2 (h.to hbl h2)⟩
theorem zox (w wr:World)(blk off cap a b a' b':Nat)(d e:Array Int)(h0:Holds Z.en w blk off d)(hbl:blk<w.heap.size)(h:Z.Pd w blk off a b d a' b' e wr)(hab:a'+8<=b')(hb:b'<=d.size)(hsz:d.size<1152921504606846976) :
  Calls prog 291 #[.slice (some ⟨blk,off,none⟩) d.size cap,.int .i64 a',.int .i64 b'] wr fun x w'=>x= .returned (.tuple #[])/\∃e2,Z.Pd w blk off a b d a' b' e2 w':=by
 have hs:=h.2.1;obtain⟨n,rfl⟩:∃n,b'=a'+n:=⟨b' - a',by omega⟩;have hh:=zmo wr blk off cap a' n e (h.holds h0 hbl) (by omega) (by omega) (by omega);rw[hs] at hh;refine hh.mono fun x w' ⟨h1,d',h2,h3⟩=>⟨h1,d',h.perm hb h2 ?_⟩
 exact h.1.stepG hbl h2.1 h3
theorem zot (w wr:World)(blk off cap a b a' b':Nat)(d e:Array Int)(h0:Holds Z.en w blk off d)(hbl:blk<w.heap.size)(h:Z.Pd w blk off a b d a' b' e wr)(hab:a'+8<=b')(hb:b'<=d.size)(hsz:d.size<1152921504606846976) :
  Calls prog 292 #[.slice (some ⟨blk,off,none⟩) d.size cap,.int .i64 a',.int .i64 b'] wr fun x w'=>∃p c:Nat,a'<=p/\p<b'/\c<=2/\x= .returned (.tuple #[.int .i64 p,.int .i64 c])/\Z.Pd w blk off a b d a' b' e w':=by
 have hs:=h.2.1;obtain⟨n,rfl⟩:∃n,b'=a'+n:=⟨b' - a',by omega⟩;have hh:=zmn wr blk off cap a' n e (h.holds h0 hbl) (by omega) (by omega) (by omega);rw[hs] at hh;refine hh.mono fun x w' ⟨p,c,h1,h2,h3,h4,h5⟩=>⟨p,c,h1,h2,h3,h4,?_⟩
 exact⟨h.1.same h0 hs hbl h5,h.2⟩
theorem zu1 (w wr:World)(blk off cap a b a' b':Nat)(d e:Array Int)(h0:Holds Z.en w blk off d)(hbl:blk<w.heap.size)(h:Z.Pd w blk off a b d a' b' e wr)(hab:a'<b')(hb:b'<=d.size)(hsz:d.size<1152921504606846976) :
  Calls prog 293 #[.slice (some ⟨blk,off,none⟩) d.size cap,.int .i64 a',.int .i64 b'] wr fun x w'=>x= .returned (.tuple #[])/\∃e2,Z.Pd w blk off a b d a' b' e2 w':=by
 have hs:=h.2.1;have hh:=zr9 wr blk off cap a' b' e (h.holds h0 hbl) hab (by omega) (by omega);rw[hs] at hh;refine hh.mono fun x w' ⟨h1,h2⟩=> ?_
 rw[<- hs] at h2;exact⟨h1,_,h.perm hb (reverseRange_holds e a' b' (by omega) (by omega)) (h.to hbl h2)⟩
theorem zjl (w wr:World)(blk off cap a b a' b':Nat)(d e:Array Int)(h0:Holds Z.en w blk off d)(hbl:blk<w.heap.size)(h:Z.Pd w blk off a b d a' b' e wr)(hab:a'<b')(hb:b'<=d.size)(hsz:d.size<1152921504606846976) :
  Calls prog 294 #[.slice (some ⟨blk,off,none⟩) d.size cap,.int .i64 a',.int .i64 b'] wr fun x w'=>∃(β:Bool) (e2:Array Int),x= .returned (.bool β)/\Z.Pd w blk off a b d a' b' e2 w'/\(β=true->Z.Fin w blk off a b d e2 w'):=by
 have hs:=h.2.1;have hh:=zh7 wr blk off cap a' b' e (h.holds h0 hbl) hab (by omega) (by omega);rw[hs] at hh;refine hh.mono fun x w' ⟨h1,h2⟩=> ?_
 rw[<- hs] at h2;obtain⟨p1,p2⟩:=partialInsertionSort_holds (lt:=ltInt) swo_ltInt e a' b' hab (by omega) h.2.2.1;exact⟨_,_,h1,h.perm hb p1 (h.to hbl h2),fun hβ=>h.fin p1 (p2 hβ) (h.to hbl h2)⟩
theorem zu3 (w wr:World)(blk off cap a b a' b' p:Nat)(d e:Array Int)(h0:Holds Z.en w blk off d)(hbl:blk<w.heap.size)(h:Z.Pd w blk off a b d a' b' e wr)(hp1:a'<=p)(hp2:p<b')(hb:b'<=d.size)(hsz:d.size<1152921504606846976)(ha:0<a')(hl:ltInt e[a' - 1]! e[p]! = false) :
  Calls prog 296 #[.slice (some ⟨blk,off,none⟩) d.size cap,.int .i64 a',.int .i64 b',.int .i64 p] wr fun x w'=>∃(m:Nat) (e2:Array Int),a'<m/\m<=b'/\x= .returned (.int .i64 m)/\Z.Pd w blk off a b d m b' e2 w':=by
 have hs:=h.2.1;have hh:=zsa wr blk off cap a' b' p e (h.holds h0 hbl) hp1 hp2 (by omega) (by omega);rw[hs] at hh;refine hh.mono fun x w' ⟨h1,h2⟩=> ?_
 rw[<- hs] at h2;obtain⟨q1,q2,q3,q4,q5⟩:=round_eq (lt:=ltInt) swo_ltInt (partitionEqual_holds ltInt) ha hp1 hp2 (by omega) h.2.2.1 hl (Prod.eta (partitionEqual ltInt e a' b' p)).symm;exact⟨_,_,q1,q2,h1,h.to hbl h2,q3.trans hs,q4,fun R r1 r2=>h.2.2.2 R (q5 R r1 r2).1 (q5 R r1 r2).2⟩
def Z.Pt (w:World) (blk off a b:Nat) (d:Array Int) (a' b' m:Nat) (e:Array Int) (wr:World):Prop :=
 Go.Sort.At Z.en w blk off e wr/\e.size=d.size/\Sort.Below ltInt a' m e/\Sort.Below ltInt (m+1) b' e /\
 (∀(L:Array Int) (w':World),Z.Fin wr blk off a' m e L w'->Z.Pd w blk off a b d (m+1) b' L w') /\
 (∀(L:Array Int) (w':World),Z.Fin wr blk off (m+1) b' e L w'->Z.Pd w blk off a b d a' m L w')
theorem zsc (w wr:World)(blk off cap a b a' b' p:Nat)(d e:Array Int)(h0:Holds Z.en w blk off d)(hbl:blk<w.heap.size)(h:Z.Pd w blk off a b d a' b' e wr)(hp1:a'<=p)(hp2:p<b')(hb:b'<=d.size)(hsz:d.size<1152921504606846976) :
  Calls prog 297 #[.slice (some ⟨blk,off,none⟩) d.size cap,.int .i64 a',.int .i64 b',.int .i64 p] wr fun x w'=>∃(m:Nat) (β:Bool) (e2:Array Int),a'<=m/\m<b'/\x= .returned (.tuple #[.int .i64 m,.bool β])/\Z.Pt w blk off a b d a' b' m e2 w':=by
 have hs:=h.2.1;have hh:=zou wr blk off cap a' b' p e (h.holds h0 hbl) hp1 hp2 (by omega) (by omega);rw[hs] at hh;refine hh.mono fun x w' ⟨h1,h2⟩=> ?_
 rw[<- hs] at h2;obtain⟨q1,q2,q3,q4,q5,q6,q7⟩:=round_part (lt:=ltInt) swo_ltInt (partition_holds ltInt) hp1 hp2 (by omega) h.2.2.1 (show partition ltInt e a' b' p=((partition ltInt e a' b' p).1,(partition ltInt e a' b' p).2.1,(partition ltInt e a' b' p).2.2) from rfl);have h3:=h.to hbl h2;refine⟨_,_,_,q1,q2,h1,h3,q3.trans hs,q4,q5,fun L w2 hf=> ?_,fun L w2 hf=> ?_⟩
 ·obtain⟨r1,r2⟩:=q6 L hf.2.1 hf.2.2;exact⟨h3.stepG hbl hf.2.1.1 hf.1,hf.2.1.1.trans (q3.trans hs),r1,fun R s1 s2=>h.2.2.2 R (r2 R s1 s2).1 (r2 R s1 s2).2⟩
 ·obtain⟨r1,r2⟩:=q7 L hf.2.1 hf.2.2;exact⟨h3.stepG hbl hf.2.1.1 hf.1,hf.2.1.1.trans (q3.trans hs),r1,fun R s1 s2=>h.2.2.2 R (r2 R s1 s2).1 (r2 R s1 s2).2⟩
end
section
open Go.RowKit Go.Sort
theorem zsb (N:Nat):∀(w:World) (blk off cap a b lim:Nat) (d:Array Int),b - a<=N->Holds Z.en w blk off d->blk<w.heap.size->Sort.Below ltInt a b d->a<=b->b<=d.size->d.size<1152921504606846976->lim<1152921504606846976 ->
  Calls prog 283 #[.slice (some ⟨blk,off,none⟩) d.size cap,.int .i64 a,.int .i64 b,.int .i64 lim] w fun x w'=>x= .returned (.tuple #[])/\∃R,Z.Fin w blk off a b d R w':=by
 induction N using Nat.strongRecOn with
 | ind N ih=> ?_
 intro w blk off cap a b lim d hN hH hbl hB hab hb hsz hlim;have HH:=qH hH;have HS:=qH <| Z.Pd.start hH hB
 have IH:Hid (∀(w:World) (a' b' lim:Nat) (e:Array Int),b' - a'<b - a->Holds Z.en w blk off e->blk<w.heap.size->Sort.Below ltInt a' b' e->a'<=b'->b'<=e.size->e.size=d.size->lim<1152921504606846976 ->
   Calls prog 283 #[.slice (some ⟨blk,off,none⟩) d.size cap,.int .i64 a',.int .i64 b',.int .i64 lim] w fun x w'=>x= .returned (.tuple #[])/\∃R,Z.Fin w blk off a' b' e R w'):=fun w a' b' lim e h1 h2 h3 h4 h5 h6 h7 h8=>by
  have:=ih (b' - a') (by omega) w blk off cap a' b' lim e qN h2 h3 h4 h5 h6 (by omega) h8;rw[h7] at this;exact this
 clear hH hB ih hN
 go_enter func283,ntmps283
 go_wp2_with fail
 go_loopw [1,2,3,8,9] (fun v1 v2 v3 v8 v9 wr=>∃(a' b' l:Nat) (wb wp:Bool) (e:Array Int),v1= .int .i64 a'/\v2= .int .i64 b'/\v3= .int .i64 l/\v8= .bool wb/\v9= .bool wp/\a<=a'/\a'<=b'/\b'<=b/\l<1152921504606846976/\Hid (Z.Pd w blk off a b d a' b' e wr)) (fun v1 v2 _ _ _ _=>(RowKit.intOf v2 - RowKit.intOf v1).toNat)
 case atStart=>exact⟨a,b,lim,true,true,d,rfl,rfl,rfl,rfl,rfl,qN,hab,qN,hlim,HS.out⟩
 case round =>
  obtain⟨a',b',l,wb,wp,e,rfl,rfl,rfl,rfl,rfl,ha1,hab1,hb1,hl1,HP⟩:=hrel;clear HS
  by_cases h12:b' - a'<=12
  ·go_wp2_with fail
   go_at_call 289
   refine(zu4 w wr blk off cap a b a' b' d e HH.out hbl HP.out hab1 (by omega) hsz).mono ?_;rintro _ w2 ⟨rfl,hR⟩
   go_wp2_with fail
   refine bodyPost_ret (v:= .tuple #[]) (by simp[results,results283,go_sem, *]) rfl ?_;exact⟨rfl,hR⟩
  ·by_cases hl0:l=0
   ·subst hl0
    go_wp2_with fail
    go_at_call 290
    refine(zsf w wr blk off cap a b a' b' d e HH.out hbl HP.out (by omega) (by omega) hsz).mono ?_;rintro _ w2 ⟨rfl,hR⟩
    go_wp2_with fail
    refine bodyPost_ret (v:= .tuple #[]) (by simp[results,results283,go_sem, *]) rfl ?_;exact⟨rfl,hR⟩
   ·go_upto_if 35 with fail
    go_cut [3] (fun v3 wx=>∃(l:Nat) (e:Array Int),v3= .int .i64 l/\l<1152921504606846976/\Hid (Z.Pd w blk off a b d a' b' e wx))
    case first =>
     cases wb with
     | true =>
      go_wp2_with fail
      go_meet
      case rel=>exact⟨l,e,rfl,hl1,HP.out⟩
     | false =>
      go_wp2_with fail
      go_at_call 291
      refine(zox w wr blk off cap a b a' b' d e HH.out hbl HP.out (by omega) (by omega) hsz).mono ?_;rintro _ w2 ⟨rfl,e2,h2⟩;have H2:=qH h2;clear h2 HP
      go_wp2_with fail
      go_meet
      case rel=>exact⟨l - 1,e2,by congr 1;omega,by omega,H2.out⟩
    case rest =>
     clear HP hl0 hl1;obtain⟨l,e,rfl,hl1,HP⟩:=hcut
     go_wp2_with fail
     go_at_call 292
     refine(zot w wc blk off cap a b a' b' d e HH.out hbl HP.out (by omega) (by omega) hsz).mono ?_;rintro _ w2 ⟨p,c,hp1,hp2,hc,rfl,h2⟩;have H2:=qH h2;clear h2 HP
     go_upto_if 50 with fail
     go_cut [11,12] (fun v11 v12 wx=>∃(p c:Nat) (e:Array Int),v11= .int .i64 p/\v12= .int .i64 c/\a'<=p/\p<b'/\c<=2/\Hid (Z.Pd w blk off a b d a' b' e wx))
     case first =>
      by_cases hc2:c=2
      ·subst hc2
       go_wp2_with fail
       go_at_call 293
       refine(zu1 w w2 blk off cap a b a' b' d e HH.out hbl H2.out (by omega) (by omega) hsz).mono ?_;rintro _ w3 ⟨rfl,e2,h3⟩;have H3:=qH h3;clear h3 H2
       go_wp2_with fail
       go_meet
       case rel=>exact⟨b' - 1 - (p - a'),1,e2,by congr 1;omega,rfl,by omega,by omega,by omega,H3.out⟩
      ·go_wp2_with fail
       go_meet
       case rel=>exact⟨p,c,e,rfl,rfl,hp1,hp2,hc,H2.out⟩
     case rest =>
      clear H2 hp1 hp2 hc;obtain⟨p,c,e,rfl,rfl,hp1,hp2,hc,HP⟩:=hcut
      go_upto_region 15 with fail
      go_cut [68] (fun v68 wx=>∃ β:Bool,v68= .bool β/\wx=wc)
      case first =>
       cases wb <;> cases wp <;> (by_cases hc1:c=1) <;> go_wp2_with fail
       all_goals go_meet
       all_goals exact⟨_,rfl,rfl⟩
      case rest =>
       obtain⟨β,rfl,hwc⟩:=hcut;rw[hwc]
       go_upto_if 68 with fail
       go_cut [] (fun wx=>∃e:Array Int,Hid (Z.Pd w blk off a b d a' b' e wx))
       case first =>
        cases β with
        | false =>
         go_wp2_with fail
         go_meet
         case rel=>exact⟨e,HP.out⟩
        | true =>
         go_wp2_with fail
         go_at_call 294
         refine(zjl w _ blk off cap a b a' b' d e HH.out hbl HP.out (by omega) (by omega) hsz).mono ?_;rintro _ w3 ⟨β,e2,rfl,h3,h4⟩;have H3:=qH h3;have H4:=qH h4;clear h3 h4 HP;cases β with
         | true =>
          go_wp2_with fail
          refine bodyPost_ret (v:= .tuple #[]) (by simp[results,results283,go_sem, *]) rfl ?_;exact⟨rfl,e2,H4.out trivial⟩
         | false =>
          go_wp2_with fail
          go_meet
          case rel=>exact⟨e2,H3.out⟩
       case rest =>
        clear HP hwc;obtain⟨e,HP⟩:=hcut;obtain⟨G,hG⟩:∃G:Nat->Int,∀t,G t=e[t]! := ⟨fun t=>e[t]!,fun _=>rfl⟩;have hcw:∀t,t<d.size->wc.cell? ⟨blk,off+t,none⟩=some (.int .i32 (G t)):=fun t ht=>by rw[hG];exact(HP.out.holds HH.out hbl t (by have:=HP.out.2.1;omega)).1
        have HG:=qH hG;clear hG
        go_upto_region 17 with fail
        go_cut [87] (fun v87 wx=>∃ β:Bool,v87= .bool β/\Hid (Z.Pd w blk off a b d a' b' e wx/\(β=true->0<a'/\ltInt e[a' - 1]! e[p]! = false)))
        case first =>
         by_cases ha0:0<a'
         ·go_quiet (first | (go_at_call 295;refine Calls.quiet_of_same (zaq _ _ _)))
          go_wp2_with fail
          go_meet
          case rel=>exact⟨_,rfl,⟨HP.out.1.ahead _,HP.out.2⟩,fun hβ=>⟨ha0,by rw[<- HG.out,<- HG.out];simpa using hβ⟩⟩
         ·go_quiet (first | (go_at_call 295;refine Calls.quiet_of_same (zaq _ _ _)))
          go_wp2_with fail
          go_meet
          case rel=>exact⟨false,rfl,⟨HP.out.1.ahead _,HP.out.2⟩,fun hβ=>by cases hβ⟩
        case rest =>
         clear HP hcw HG;obtain⟨β,rfl,HP⟩:=hcut;cases β with
         | true =>
          obtain⟨ha0,hle⟩:=HP.out.2 rfl;have HL:=qH hle;clear hle
          go_wp2_with fail
          go_at_call 296
          refine(zu3 w _ blk off cap a b a' b' p d e HH.out hbl HP.out.1 hp1 hp2 (by omega) hsz ha0 HL.out).mono ?_;rintro _ w3 ⟨m,e2,hm1,hm2,rfl,h3⟩;have H3:=qH h3;clear h3 HP HL
          go_wp2_with fail
          go_roundw
          case rel=>exact⟨m,b',l,wb,wp,e2,rfl,rfl,rfl,rfl,rfl,by omega,by omega,hb1,hl1,H3.out⟩
          case measure=>simp[RowKit.intOf];omega
         | false =>
          go_wp2_with fail
          go_at_call 297
          refine(zsc w _ blk off cap a b a' b' p d e HH.out hbl HP.out.1 hp1 hp2 (by omega) hsz).mono ?_;rintro _ w3 ⟨m,γ,e2,hm1,hm2,rfl,h3⟩;have H3:=qH h3;clear h3 HP;have HM:=qH <| (by omega:((m:Int)+1)=((m+1:Nat):Int))
          by_cases hlr:m - a'<b' - m
          ·go_wp2_with fail
           go_at_call 283
           refine(IH.out w3 a' m l e2 (by omega) (H3.out.1.holds HH.out H3.out.2.1 hbl).1 (H3.out.1.holds HH.out H3.out.2.1 hbl).2 H3.out.2.2.1 hm1 (by have:=H3.out.2.1;omega) H3.out.2.1 hl1).mono ?_;rintro _ w4 ⟨rfl,R,h4⟩;have H4:=qH <| H3.out.2.2.2.2.1 R w4 h4;clear h4 H3
           go_wp2_with fail
           go_roundw
           case rel=>exact⟨m+1,b',l,_,γ,R,by go_num,rfl,rfl,rfl,rfl,by omega,by omega,hb1,hl1,H4.out⟩
           case measure=>simp[RowKit.intOf];omega
          ·go_wp2_with fail
           rw[HM.out]
           go_at_call 283
           refine(IH.out w3 (m+1) b' l e2 (by omega) (H3.out.1.holds HH.out H3.out.2.1 hbl).1 (H3.out.1.holds HH.out H3.out.2.1 hbl).2 H3.out.2.2.2.1 (by omega) (by have:=H3.out.2.1;omega) H3.out.2.1 hl1).mono ?_;rintro _ w4 ⟨rfl,R,h4⟩;have H4:=qH <| H3.out.2.2.2.2.2 R w4 h4;clear h4 H3
           go_wp2_with fail
           go_roundw
           case rel=>exact⟨a',m,l,_,γ,R,rfl,rfl,rfl,rfl,rfl,ha1,hm1,by omega,hl1,H4.out⟩
           case measure=>simp[RowKit.intOf];omega
end
section
open Go.Shelf Go.RowKit Go.Sort Go.Lib
theorem zor (w:World)(blk off cap:Nat)(d:Array Int)(hH:Holds Z.en w blk off d)(h0:0<d.size)(hsz:d.size<1152921504606846976) :
  Calls prog 267 #[.slice (some ⟨blk,off,none⟩) d.size cap] w fun x w'=>x= .returned (.tuple #[])/\∃R,Z.Fin w blk off 0 d.size d R w':=by
 have hbl:blk<w.heap.size:=World.block_lt_of_cell? w _ (hH 0 (by omega)).1;obtain⟨n,hn⟩:∃n,n=d.size:=⟨_,rfl⟩;have e0:=bitLen_eq n (by omega);have hk:=(bitsLen_le_iff n 62).2 (by omega)
 have hL:Hid (∀w,Calls prog 284 #[.int .u64 (n:Int)] w fun e w'=>e= .returned (.int .i64 (bitsLen n:Int))/\w'=w):=fun w=>by
  have h:=Any.bits_Len Tryz.lays125 (n:Int) w (by omega) (by omega);rw[Int.toNat_natCast,e0] at h;exact h
 have hP:Hid (Calls prog 283 #[.slice (some ⟨blk,off,none⟩) n cap,.int .i64 0,.int .i64 n,.int .i64 (bitsLen n:Int)] w fun x w'=>x= .returned (.tuple #[])/\∃R,Z.Fin w blk off 0 n d R w'):=by
  rw[hn];exact zsb d.size w blk off cap 0 d.size (bitsLen d.size) d (by omega) hH hbl (.inl rfl) (by omega) qN hsz (by rw[<- hn];omega)
 rw[<- hn];have hn62:n<1152921504606846976:=by omega
 generalize bitsLen n=k at hL hP hk;clear hn hsz h0 e0 hH
 go_enter func267,ntmps267
 go_wp2_with fail
 go_at_call 284
 refine(hL.out _).mono ?_;rintro _ _ ⟨rfl,rfl⟩
 go_wp2_with fail
 go_at_call 283
 refine hP.out.mono ?_;rintro _ w2 ⟨rfl,hR⟩
 go_wp2_with fail
 go_end0
 exact⟨rfl,hR⟩
namespace Z
abbrev ints (t:List Int):List Value:=t.map (Value.int .i32)
theorem holds_of_block {w:World}{g:Nat}{cur:Array Value}{e:TypeId}{t:List Int}(hb:w.heap[g]?=some (.cells cur e (0,0)))(ht:cur.toList.take t.length=ints t):Holds en w g 0 t.toArray:=by
 intro j hj;have hj':j<t.length:=by simpa using hj
 refine⟨?_,by simp[World.frozen?,hb]⟩;have h1:(cur.toList.take t.length)[j]?=(ints t)[j]?:=by rw[ht]
 rw[List.getElem?_take_of_lt hj'] at h1;simp only[World.cell?,hb,Nat.zero_add];simp only[Option.isSome_none,Bool.false_eq_true,if_false];rw[<- Array.getElem?_toList,h1];simp[hj']
theorem zsq (cur:Array Value)(ts:List Int)(m:Nat)(hm:m<=ts.length)(h:ts.length<=cur.size):(putCells en 0 ts.toArray cur).toList.take m=ints (ts.take m):=by
 apply List.ext_getElem?;intro j
 by_cases hj:j<m
 ·have h1:j<ts.length:=by omega
  have h2:j<cur.size:=by omega
  rw[List.getElem?_take_of_lt hj,Array.getElem?_toList];simp[putCells,hj,h1,h2]
 ·rw[List.getElem?_take_eq_none (by omega),List.getElem?_eq_none (by simp;omega)]
theorem heap_put {w:World}{g n:Nat}{os:Array Obj}{cur:Array Value}{e:TypeId}{fr:Nat×Nat}(d:Array Int)(hb:w.heap[g]?=some (.cells cur e fr)):(grow (putRow en (Sort.ahead w n) g 0 d) os).heap[g]?=some (.cells (putCells en 0 d cur) e fr):=by
 have hg:=(qA.1 hb).1;rw[heap_grow_old _ _ (by simpa using hg)];simp[putRow,mapBlock,Sort.ahead,Array.getElem?_modify,hb,onCells]
theorem zi6 {w:World}{g n:Nat}{os:Array Obj}(d:Array Int):w.grownBy (grow (putRow en (Sort.ahead w n) g 0 d) os) (some g):=by
 refine⟨rfl,rfl,rfl,by simp,fun k hk hne=> ?_⟩;rw[heap_grow_old _ _ (by simpa using hk)];have:g≠k:=fun e=>hne (by rw[e])
 simp[putRow,mapBlock,Sort.ahead,Array.getElem?_modify,this]
theorem zl5 {w:World}{base g cap n m:Nat}{e:TypeId}{os:Array Obj}{cur:Array Value}{ts:List Int}(hm:m<=ts.length)(hbase:base<=g)(hb:w.heap[g]?=some (.cells cur e (0,0)))(h1:ts.length<=cap)(h2:cap<=maxLen)(h3:cur.size=cap*1) :
  (grow (putRow en (Sort.ahead w n) g 0 ts.toArray) os).ownsRow base e 1 (.slice (some ⟨g,0,none⟩) m cap) m (ints (ts.take m)) :=
 ⟨by simp[hm],.inr ⟨g,cap,_,rfl,hbase,heap_put _ hb,by omega,h2,by simp[putCells,h3],by rw[Nat.mul_one];exact zsq cur ts m hm (by omega)⟩⟩
theorem uniq (d:Array Int)(hs:SortedIn ltInt 0 d.size d):∀m,m<=d.size->(compactUpTo d m).Pairwise (· < ·)/\(∀x,x∈compactUpTo d m↔∃j,j<m/\d[j]! = x):=by
 intro m
 induction m with
 | zero=>intro _;simp[compactUpTo]
 | succ m ih =>
  intro hm;obtain⟨h1,h2⟩:=ih (by omega);rw[compactUpTo_succ]
  have hle:=fun i hi=>by
   have:=hs i m (by omega) hi (by omega);simp[ltInt] at this;omega
  by_cases hk:keeps d m=true
  ·rw[if_pos hk];refine⟨?_,fun x=> ?_⟩
   ·rw[List.pairwise_append];refine⟨h1,by simp,fun x hx y hy=> ?_⟩;obtain⟨j,hj,rfl⟩:=(h2 x).1 hx;simp at hy;subst hy;have hm0:m≠0:=by omega
    simp[keeps,hm0] at hk;have e1:=hle (m - 1) (by omega)
    have e2:d[j]! <= d[m - 1]! := by
     by_cases hjm:j=m - 1
     ·rw[hjm];exact Int.le_refl _
     ·have:=hs j (m - 1) (by omega) (by omega) (by omega);simp[ltInt] at this;omega
    omega
   ·rw[List.mem_append,h2,List.mem_singleton];constructor
    ·rintro (⟨j,hj,rfl⟩ | rfl)
     ·exact⟨j,by omega,rfl⟩
     ·exact⟨m,by omega,rfl⟩
    ·rintro ⟨j,hj,rfl⟩
     by_cases hjm:j=m
     ·subst hjm;exact .inr rfl
     ·exact .inl ⟨j,by omega,rfl⟩
  ·rw[if_neg hk,List.append_nil];refine⟨h1,fun x=> ?_⟩;rw[h2];simp[keeps] at hk;constructor
   ·rintro ⟨j,hj,rfl⟩;exact⟨j,by omega,rfl⟩
   ·rintro ⟨j,hj,rfl⟩
    by_cases hjm:j=m
    ·subst hjm;exact⟨j - 1,by omega,hk.2.symm⟩
    ·exact⟨j,by omega,rfl⟩
theorem zwg (d:Array Int)(m:Nat):(compactUpTo d m).length<=m:=by
 unfold compactUpTo;rw[List.length_map];exact Nat.le_trans (List.length_filter_le _ _) (by simp)
end Z
shelf_lay_g SlLaysE.n43 Slgn 43 at Tryz 268 as Tryz.compactR
theorem zoq (w:World)(base:Nat)(v:Value)(t:List Int)(own:w.ownsRow base 21 1 v t.length (Z.ints t))(h0:t≠ [])(hsz:t.length<1152921504606846976) :
  Calls prog 267 #[v] w fun x w'=>x= .returned (.tuple #[])/\∃R:Array Int,R.size=t.length/\SortedIn ltInt 0 R.size R/\(∀x,x∈R.toList↔x∈t)/\w'.ownsRow base 21 1 v t.length (Z.ints R.toList)/\w.grownBy w' v.ownBlock:=by
 obtain⟨_,⟨rfl,hn⟩|⟨g,cap,cur,rfl,hbase,hb,h1,h2,h3,h4⟩⟩:=own
 ·exact absurd (List.length_eq_zero_iff.1 hn) h0
 have hl:=List.length_pos_iff.2 h0;rw[Nat.mul_one] at h4;have hh:=zor w g 0 cap t.toArray (Z.holds_of_block hb h4) (by simpa using hl) (by simpa using hsz);simp only[List.size_toArray] at hh;refine hh.mono ?_;rintro x w' ⟨hx,R,⟨n,os,rfl⟩,hP,hS⟩;have hs:R.size=t.length:=by simpa using hP.1
 refine⟨hx,R,hs,by rw[hs];exact hS,fun y=> ?_,?_,Z.zi6 _⟩
 ·have hp:=hP.2.2;have e1:(t.toArray.extract 0 t.length).toList=t:=by simp
  have e2:(R.extract 0 t.length).toList=R.toList:=by rw[<- hs];simp
  rw[e1,e2] at hp;exact hp.mem_iff
 ·have h:=Z.zl5 (w:=w) (base:=base) (g:=g) (cap:=cap) (n:=n) (m:=t.length) (os:=os) (ts:=R.toList) (by simp[hs]) hbase hb (by simp[hs];omega) h2 h3;rw[List.take_of_length_le (by simp[hs])] at h;simpa using h
theorem zh8 (w:World)(base:Nat)(v:Value)(R:Array Int)(own:w.ownsRow base 21 1 v R.size (Z.ints R.toList))(h0:0<R.size)(hS:SortedIn ltInt 0 R.size R) :
  Calls prog 268 #[v] w fun x w'=>∃(v':Value) (c:List Int),x= .returned v'/\c.Pairwise (· < ·)/\(∀y,y∈c↔y∈R.toList)/\w'.ownsRow base 21 1 v' c.length (Z.ints c)/\w.grownBy w' v.ownBlock/\v'.ownBlock=v.ownBlock:=by
 obtain⟨_,⟨rfl,hn⟩|⟨g,cap,cur,rfl,hbase,hb,h1,h2,h3,h4⟩⟩:=own
 ·omega
 rw[Nat.mul_one] at h4
 have hH:Holds Z.en w g 0 R:=by
  have:=Z.holds_of_block (t:=R.toList) hb (by simpa using h4);simpa using this
 have hh:=AnyE.slices_Compact Tryz.compactR Z.en (fun x=>rfl) (EqlAt.intD _ _ _) (NeqAt.intD _ _ _) (0:Int) (fun w=>by rfl) g 0 cap R w hH (by unfold maxLen at h2;omega) h1;refine hh.mono ?_;rintro x w' ⟨hx,q,hw⟩;obtain⟨u1,u2⟩:=Z.uniq R hS R.size qN;have hlen:=Z.zwg R R.size;refine⟨_,compactUpTo R R.size,hx,u1,fun y=> ?_,?_,?_,rfl⟩
 ·rw[u2];constructor
  ·rintro ⟨j,hj,rfl⟩;rw[getElem!_pos R j hj];exact Array.getElem_mem_toList hj
  ·intro hy;obtain⟨j,hj,rfl⟩:=List.getElem_of_mem hy;have hj':j<R.size:=by simpa using hj
   exact⟨j,hj',by rw[getElem!_pos R j hj'];simp⟩
 ·have h:=Z.zl5 (w:=w) (base:=base) (g:=g) (cap:=cap) (n:=q) (m:=(compactUpTo R R.size).length) (os:=#[]) (ts:=compactUpTo R R.size++List.replicate (R.size - (compactUpTo R R.size).length) (0:Int)) (by simp) hbase hb (by simp;omega) h2 h3;rw[List.take_left',grow_empty,<- hw] at h
  ·exact h
  ·rfl
 ·have h:=Z.zi6 (w:=w) (g:=g) (n:=q) (os:=#[]) (compactUpTo R R.size++List.replicate (R.size - (compactUpTo R R.size).length) (0:Int)).toArray;rw[grow_empty,<- hw] at h;exact h
end
section
open Go.RowKit Go.Shelf
namespace J
def ends (s:List S.Sp):List Int:=s.flatMap fun x=> [x.1,x.2+1]
def edgesL (l:List K.Rule):List Int:= [0,1114112]++l.flatMap fun r=>ends (K.headS r)
theorem zro {s:List S.Sp}{k:Nat}{x:S.Sp}(h:s[k]?=some x):ends (s.take (k+1))=ends (s.take k)++ [x.1,x.2+1]:=by
 unfold ends;rw[List.take_add_one,h,List.flatMap_append];simp
theorem zk5 {l:List K.Rule}{k:Nat}{r:K.Rule}(h:l[k]?=some r):edgesL (l.take (k+1))=edgesL (l.take k)++ends (K.headS r):=by
 unfold edgesL;rw[List.take_add_one,h,List.flatMap_append,List.append_assoc];simp
theorem zme (s:List S.Sp):(ends s).length=2*s.length:=by
 unfold ends
 induction s with
 | nil=>rfl
 | cons x s ih=>rw[List.flatMap_cons,List.length_append,ih];simp;omega
theorem zg9 {l:List K.Rule}(hE:∀r∈l,K.ruleE r=0):(edgesL l).length<=2+400*l.length:=by
 induction l with
 | nil=>simp[edgesL]
 | cons x l ih =>
  have h1:=(K.zf4 (hE x (List.mem_cons_self ..))).2;have h2:=ih fun r hr=>hE r (List.mem_cons_of_mem _ hr)
  have h3:=zme (K.headS x);unfold edgesL at h2 ⊢;rw[List.length_append,show ([0,1114112]:List Int).length=2 from rfl] at h2 ⊢;rw[List.flatMap_cons,List.length_append,List.length_cons];omega
theorem two (W:World)(a b:Int):L.Rd (W.alloc (.cells #[.int .i32 a,.int .i32 b] 21)) (.slice (some ⟨W.heap.size,0,none⟩) 2 2) .i32 [a,b]:=by
 refine⟨_,_,rfl,by simp,fun _=>⟨W.heap.size,0,rfl,fun j x hj=> ?_⟩⟩
 have e:(W.alloc (.cells #[.int .i32 a,.int .i32 b] 21)).heap[W.heap.size]?=some (.cells #[.int .i32 a,.int .i32 b] 21):=by
  show (W.heap.push _)[W.heap.size]?=_;exact Array.getElem?_push_size
 match j,hj with
 | 0,hj=>exact K.zad e (by simpa using hj)
 | 1,hj=>exact K.zad e (by simpa using hj)
 | n+2,hj=>simp at hj
theorem own2 (w:World):(w.alloc (.cells #[.int .i32 0,.int .i32 1114112] 21)).ownsRow w.heap.size 21 1 (.slice (some ⟨w.heap.size,0,none⟩) 2 2) (edgesL []).length (Z.ints (edgesL [])):=by
 refine⟨rfl,.inr ⟨w.heap.size,2,#[.int .i32 0,.int .i32 1114112],rfl,qN,?_,qN,by unfold maxLen;omega,rfl,rfl⟩⟩;show (w.heap.push _)[w.heap.size]?=_;exact Array.getElem?_push_size
end J
theorem zn2 (w:World)(v:Value)(l:List K.Rule)(R0:V.Rus w v l)(hl:l.length<=200)(hE:∀r∈l,K.ruleE r=0) :
  Calls prog 247 #[v] w fun e w'=>∃(v':Value) (c:List Int),e= .returned v'/\c.Pairwise (· < ·)/\(∀y,y∈c↔y∈J.edgesL l)/\w'.ownsRow w.heap.size 21 1 v' c.length (Z.ints c)/\Below w.heap.size w w':=by
 have HR:=qH R0;have HE:=qH hE;obtain⟨i0,hi,hz0,hz1,hz2⟩:=info_parts Tryz.infoI32;obtain⟨ao,cap,rfl⟩:=R0.len;clear R0 hE
 go_enter func247,ntmps247
 go_wp2_with fail
 go_loopw [3,11] (fun vo i wr=>∃k:Nat,k<=l.length/\i= .int .i64 k/\Hid (wr.ownsRow w.heap.size 21 1 vo (J.edgesL (l.take k)).length (Z.ints (J.edgesL (l.take k)))/\Below w.heap.size w wr)) (fun _ i _=>l.length - (RowKit.intOf i).toNat)
 case atStart=>exact⟨0,Nat.zero_le _,rfl,J.own2 w,(qR w).alloc qN _⟩
 case round =>
  obtain⟨k,hk,rfl,HO⟩:=hrel;have hwr:=HO.out.2.size
  by_cases hlt:k<l.length
  ·obtain⟨p,hp⟩:∃x,l[k]?=some x:=⟨l[k],by simp[hlt]⟩;obtain⟨ba,oa,bo,bc,so,sc,ao2,ac,tt,tc,rfl,a0,a1,a2,a3,a4,a5,a6,hP⟩:=K.Rus.rule HR.out hp;have lift:∀b o x,w.cell? ⟨b,o,none⟩=some x->wr.cell? ⟨b,o,none⟩=some x:=fun b o x h=>by rw[(L.bcell HO.out.2).1 b o (L.block_lt h)];exact h
   replace a0:=lift _ _ _ a0
   replace a1:=lift _ _ _ a1
   replace a2:=lift _ _ _ a2
   replace a3:=lift _ _ _ a3
   replace a4:=lift _ _ _ a4
   replace a5:=lift _ _ _ a5
   replace a6:=lift _ _ _ a6
   have hep:=HE.out p (List.mem_of_getElem? hp);have hsp:=(K.zal hep).2.2.2.1;obtain⟨s,hs⟩:∃s,p.source[0]?=some s:=⟨p.source[0],by simp⟩;have hhd:=K.zh2 hs;have hok:=K.zf4 hep;rw[hhd] at hok;have hlen:=J.zg9 (l:=l.take k) fun r hr=>HE.out r (List.mem_of_mem_take hr)
   rw[List.length_take] at hlen;have HF:Hid (J.edgesL (l.take (k+1))=J.edgesL (l.take k)++J.ends s):=by show _=_;rw[J.zk5 hp,hhd]
   obtain⟨bo',bc',so',sc',ao',ac',tt',tc',hv,_,hS,_⟩:=hP;have hv2:=Value.agg.inj hv;simp only[Array.mk.injEq,List.cons.injEq,Value.slice.injEq,true_and,and_true] at hv2;obtain⟨⟨rfl,rfl⟩,⟨rfl,rfl⟩,⟨rfl,rfl⟩,rfl,rfl⟩:=hv2;obtain⟨gb,go,s2,c2,rfl,hc0,hr0,_⟩:=hS.at hs;rw[Nat.add_zero] at hc0;have HRd:=qH hr0
   replace hc0:=lift _ _ _ hc0
   have HNf:=qH hok.1;have hcc:=fun o=>K.zai hc0 o
   obtain⟨T,hT⟩:∃T,T=J.edgesL (l.take k):=⟨_,rfl⟩;rw[<- hT] at HF HO hlen;have HOa:Hid (∀o,(wr.alloc o).ownsRow w.heap.size 21 1 u3 T.length (Z.ints T)/\Below w.heap.size w (wr.alloc o)/\Below wr.heap.size wr (wr.alloc o)):=fun o=>⟨HO.out.1.alloc o,HO.out.2.alloc hwr o,(qR wr).alloc qN o⟩
   have hsl:=hok.2;clear hp hep hs hhd hok hv hS hr0 hc0 hT lift;obtain⟨st,fi,be,sou,af,ta,cu⟩:=p;simp only at a0 a1 a2 a3 a4 a5 a6 hsp
   go_wp2_with fail
   go_loopw [3,20] (fun vo i wx=>∃q:Nat,q<=s.length/\i= .int .i64 q/\Hid (wx.ownsRow w.heap.size 21 1 vo (T++J.ends (s.take q)).length (Z.ints (T++J.ends (s.take q)))/\Below w.heap.size w wx)) (fun _ i _=>s.length - (RowKit.intOf i).toNat)
   case atStart =>
    refine⟨0,Nat.zero_le _,rfl,?_,(HOa.out _).2.1⟩;simp only[List.take_zero,J.ends,List.flatMap_nil,List.append_nil];exact(HOa.out _).1
   case round =>
    obtain⟨q,hq,rfl,HQ⟩:=hrel;have hw2:=HQ.out.2.size;clear HOa hcc a0 a1 a2 a3 a4 a5 a6
    by_cases hqs:q<s.length
    ·obtain⟨x,hx⟩:∃x,s[q]?=some x:=⟨s[q],by simp[hqs]⟩;have hxr:=HNf.out.mem (List.mem_of_getElem? hx);have HX:Hid (T++J.ends (s.take (q+1))=T++J.ends (s.take q)++ [x.1,x.2+1]):=by show _=_;rw[J.zro hx,List.append_assoc]
     obtain⟨a9,c9,e9,_,hc9⟩:=HRd.out.below HQ.out.2 qN;cases e9;obtain⟨sb,sf,rfl,hcell⟩:=hc9 (by intro h;subst h;simp at hx);obtain⟨y0,y1⟩:=hcell q x hx;have hl3:=J.zme (s.take q);rw[List.length_take] at hl3;have HBx:=qH <| fun o o'=>((qR wr).alloc qN o).alloc (by simp) o'
     have HOx:=qH <| fun o o'=>(HQ.out.1.alloc o).alloc o'
     have h63:(T++J.ends (s.take q)).length+2<=200000:=by rw[List.length_append];omega
     obtain⟨x1,x2⟩:=x;simp only at hxr y0 y1 HX;generalize hU:T++J.ends (s.take q)=U at HX HOx h63 HQ;clear hU hl3;have HQB:=qH HQ.out.2
     have hblk:Hid (∀g,u3.ownBlock=some g->w.heap.size<=g):=fun g hg=>by
      obtain⟨_,⟨rfl,_⟩|⟨g',cap',cur',rfl,hb',_⟩⟩:=HQ.out.1
      ·cases hg
      ·cases hg;exact hb'
     have HTw:=qH <| fun o=>by
      have:=J.two (wr.alloc o) x1 (x2+1);rw[show (wr.alloc o).heap.size=wr.heap.size+1 by simp] at this;exact this
     obtain⟨hx1,hx2,hx3⟩:=hxr;clear HQ hcell hx hc9
     go_wp2_with (at_builtin;go_must (refine L.za2 rfl _ _ 33 rfl w.heap.size 21 i0 .i32 4 underlying33 hi hz0 hz1 hz2 _ _ _ rfl (HOx.out _ _) _ [x1,x2+1] rfl (HTw.out _) (by unfold maxLen;simp;omega) (by simp;omega) (by simp;omega) ?_;intro v' w4 own4 grown4))
     have HX4:Hid (w4.ownsRow w.heap.size 21 1 v' (T++J.ends (s.take (q+1))).length (Z.ints (T++J.ends (s.take (q+1))))/\Below w.heap.size w w4):=by
      refine⟨?_,Below.grown (HQB.out.trans ((HBx.out _ _).mono hw2)) grown4 (by simp;omega) (fun j hj=>hblk.out j hj)⟩;rw[HX.out,List.length_append,Z.ints,List.map_append];exact own4
     go_roundw
     case rel=>exact⟨q+1,by omega,by go_num,HX4.out⟩
     case measure=>simp[RowKit.intOf];omega
    ·have hqe:q=s.length:=by omega
     subst hqe;rw[List.take_length,<- HF.out] at HQ
     go_wp2_with fail
     go_roundw
     case rel=>exact⟨k+1,by omega,by go_num,HQ.out⟩
     case measure=>simp[RowKit.intOf];omega
  ·have hke:k=l.length:=by omega
   subst hke;rw[List.take_length] at HO;have hlen:=J.zg9 HE.out;have hne:J.edgesL l≠ []:=by simp[J.edgesL]
   have hso:=zoq wr w.heap.size u3 (J.edgesL l) HO.out.1 hne (by omega);have HSo:=qH hso
   have hblk:Hid (∀g,u3.ownBlock=some g->w.heap.size<=g):=fun g hg=>by
    obtain⟨_,⟨rfl,_⟩|⟨g',cap',cur',rfl,hb',_⟩⟩:=HO.out.1
    ·cases hg
    ·cases hg;exact hb'
   have hpos:=List.length_pos_iff.2 hne;clear hso
   go_wp2_with fail
   go_at_call 267
   refine HSo.out.mono ?_;rintro _ w2 ⟨rfl,R,hR,hS,hM,own2,gr2⟩;have hB2:=Below.grown HO.out.2 gr2 hwr (fun j hj=>hblk.out j hj);rw[<- hR] at own2;have hco:=zh8 w2 w.heap.size u3 R own2 (by omega) hS;have HCo:=qH hco;have HM:=qH hM;have HB2:=qH hB2;clear hco hM hB2 own2 gr2 HSo hS hR
   go_wp2_with fail
   go_at_call 268
   refine HCo.out.mono ?_;rintro _ w3 ⟨v',c,rfl,hp,hm,own3,gr3,hv'⟩;have HF:Hid (c.Pairwise (· < ·)/\(∀y,y∈c↔y∈J.edgesL l)/\w3.ownsRow w.heap.size 21 1 v' c.length (Z.ints c)/\Below w.heap.size w w3):=⟨hp,fun y=>(hm y).trans (HM.out y),own3,Below.grown HB2.out gr3 HB2.out.size (fun j hj=>hblk.out j hj)⟩;clear hp hm own3 gr3 hv' HCo
   go_wp2_with fail
   go_ret;exact⟨v',c,rfl,HF.out⟩
