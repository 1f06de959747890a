import Derived.Test.YtcadaallpiekiaaGreatDoorZHeap
import Derived.Sort.Walk13a
import Derived.Sort.Walk7a
set_option maxHeartbeats 0
set_option maxRecDepth 20000
set_option linter.unusedSimpArgs false
set_option linter.unusedVariables false
namespace Go.Proofs.YtcadaallpiekiaaGreatDoor
open Go.Proofs.Tryz
section
open Go.RowKit Go.Sort
theorem zln (w wr:World)(blk off cap n0 lo hi first:Nat)(d0 e:Array Int)(h0:Holds Z.en w blk off d0)(hn:d0.size=n0)(h:Z.At w blk off n0 e wr)(hb:first+hi<=n0)(hsz:n0<1152921504606846976)(hlo:lo<=n0) :
  Calls prog 243 #[.slice (some ⟨blk,off,none⟩) n0 cap,.int .i64 lo,.int .i64 hi,.int .i64 first] wr fun x w'=>x=.returned (.tuple #[])/\Z.At w blk off n0 (siftDown ltInt hi first lo e) w':=by
 have hs:=h.1;have hh:=zn7 wr blk off cap lo hi first e (h.holds h0 hn) (by omega) (by omega) (by omega)
 rw[hs] at hh;exact hh.mono fun x w' ⟨h1,h2⟩=>⟨h1,h.trans h2⟩
theorem zob (w:World)(blk off cap a b:Nat)(d:Array Int)(h0:Holds Z.en w blk off d)(hab:a<b)(hb:b<=d.size)(hsz:d.size<1152921504606846976) :
  Calls prog 228 #[.slice (some ⟨blk,off,none⟩) d.size cap,.int .i64 a,.int .i64 b] w fun e w'=>e=.returned (.tuple #[])/\Z.At w blk off d.size (heapSort ltInt d a b) w':=by
 have H0:=qH h0;have HS:=qH<|Z.At.start h0;clear h0;obtain⟨H,hH⟩:∃H,a+H<=b/\b<=a+H:=⟨b-a,by omega⟩;obtain⟨q,hq⟩:∃q,2*q+1<=H/\H<=2*q+2:=⟨(H-1) / 2,by omega⟩
 have HE:Hid (heapSort ltInt d a b=heapPop ltInt a H (heapBuild ltInt H a (q+1) d)):=by
  show _=_;unfold heapSort;rw[show b-a=H by omega,show (H-1) / 2=q by omega]
 go_enter func228,ntmps228
 go_wp2;rw[show ((b:Int)-a)=(H:Int) by omega,show (((H:Int)-1) / 2)=(q:Int) by omega]
 go_loopw [9] (fun vi wr=>∃(k:Nat) (e:Array Int),vi=.int .i64 ((k:Int)-1)/\k<=q+1/\Hid (Z.At w blk off d.size e wr/\heapBuild ltInt H a k e=heapBuild ltInt H a (q+1) d)) (fun vi _=>(RowKit.intOf vi+1).toNat)
 case atStart=>exact⟨q+1,d,by congr 1;omega,qN,HS.out,rfl⟩
 case round =>
  obtain⟨k,e,rfl,hk,HK⟩:=hrel;clear HS;cases k with
  | succ m =>
   rw[show (((m+1:Nat):Int)-1)=(m:Int) by omega];have hsift:=zln w wr blk off cap d.size m H a d e H0.out rfl HK.out.1 (by omega) hsz (by omega);have HSi:=qH hsift;clear hsift
   go_wp2_with fail
   refine HSi.out.mono ?_;rintro x w1 ⟨rfl,h1⟩;have H1:=qH h1;clear h1 HSi;go_wp2
   go_roundw
   case rel=>exact⟨m,siftDown ltInt H a m e,rfl,by omega,H1.out,by rw[<- HK.out.2];rfl⟩
   case measure=>simp[RowKit.intOf]
  | zero =>
   have HK2:Hid (Z.At w blk off d.size e wr/\e=heapBuild ltInt H a (q+1) d):=⟨HK.out.1,HK.out.2⟩;clear HK;rw[show (((0:Nat):Int)-1)=(-1:Int) from rfl];go_wp2
   go_loopw [10] (fun vi wq=>∃(k:Nat) (f:Array Int),vi=.int .i64 ((k:Int)-1)/\k<=H/\Hid (Z.At w blk off d.size f wq/\heapPop ltInt a k f=heapPop ltInt a H e)) (fun vi _=>(RowKit.intOf vi+1).toNat)
   case atStart=>exact⟨H,e,rfl,qN,HK2.out.1,rfl⟩
   case round =>
    obtain⟨k,f,rfl,hk2,HF⟩:=hrel;cases k with
    | succ m =>
     rw[show (((m+1:Nat):Int)-1)=(m:Int) by omega];obtain⟨G,hG⟩:∃G:Nat->Int,∀t,G t=f[t]! := ⟨fun t=>f[t]!,fun _=>rfl⟩;have hcw:∀t,t<d.size->wr.cell? ⟨blk,off+t,none⟩=some (.int .i32 (G t)):=fun t ht=>by rw[hG];exact HF.out.1.cell H0.out rfl ht
     have hfw:∀t,t<d.size->wr.frozen? ⟨blk,off+t,none⟩=false:=fun t ht=>HF.out.1.free H0.out rfl ht
     have hsw:=HF.out.1.swap (i:=a) (j:=a+m) (by omega) (by omega) 1;rw[<- hG,<- hG] at hsw;have HSw:=qH hsw;have HG:=qH hG;clear hsw hG
     have x1:((wr.setCell ⟨blk,off+a,none⟩ (.int .i32 (G (a+m)))).drew).cell? ⟨blk,off+(a+m),none⟩=some (.int .i32 (G (a+m))):=by
      show (wr.setCell ⟨blk,off+a,none⟩ (.int .i32 (G (a+m)))).cell? ⟨blk,off+(a+m),none⟩=_
      by_cases hm:m=0
      ·subst hm;obtain⟨c,ty,fr,hb1,hc1⟩:=cells_of_cell? (hcw a (by omega));have hlt:=(qA.1 hc1).1;rw[setCell_eq,cell?_mapBlock wr blk _ _ hb1];simp[hlt]
      ·rw[World.cell?_setCell_other _ _ _ _ (by simp[hm])];exact hcw (a+m) (by omega)
     have x2:((wr.setCell ⟨blk,off+a,none⟩ (.int .i32 (G (a+m)))).drew).frozen? ⟨blk,off+(a+m),none⟩=false:=(World.frozen?_setCell _ _ _ _).trans (hfw (a+m) (by omega))
     have HX:Hid (∀X,X=((wr.setCell ⟨blk,off+a,none⟩ (.int .i32 (G (a+m)))).setCell ⟨blk,off+(a+m),none⟩ (.int .i32 (G a))).drew->Calls prog 243 #[.slice (some ⟨blk,off,none⟩) d.size cap,.int .i64 0,.int .i64 m,.int .i64 a] X fun x w'=>x=.returned (.tuple #[])/\Z.At w blk off d.size (siftDown ltInt m a 0 (swp f a (a+m))) w'):=fun X hX=>by
      have hat:Z.At w blk off d.size (swp f a (a+m)) X:=by rw[hX];exact HSw.out
      exact zln w X blk off cap d.size 0 m a d _ H0.out rfl hat (by omega) hsz (by omega)
     clear HSw
     go_wp2_with fail
     go_region
     go_wp2_with fail
     refine(HX.out _ rfl).mono ?_;rintro x w1 ⟨rfl,h1⟩;have H1:=qH h1;clear h1 HX x1 x2 hcw hfw;go_wp2
     go_roundw
     case rel=>exact⟨m,_,rfl,by omega,H1.out,by rw[<- HF.out.2];rfl⟩
     case measure=>simp[RowKit.intOf]
    | zero =>
     go_wp2
     go_end0
     refine⟨rfl,?_⟩;rw[HE.out,<- HK2.out.2,<- HF.out.2];exact HF.out.1
namespace Z
def Sb (sb:Nat) (w w':World):Prop:=RowKit.Below sb w w'/\(∀b,¬b=sb->w'.heap[b]?=w.heap[b]?)/\(w'.heap.size=w.heap.size/\w.drawn<=w'.drawn)/\∃s,w'.heap[sb]?=some (.cells #[.int .i64 s] 3)
theorem Sb.refl {sb:Nat}{w:World}{s:Int}(h:w.heap[sb]?=some (.cells #[.int .i64 s] 3)):Sb sb w w:=⟨qR _,fun _ _=>rfl,⟨rfl,qN⟩,s,h⟩
theorem Sb.drew {sb:Nat}{w w':World}(h:Sb sb w w')(q:Nat):Sb sb w (w'.drewN q):=⟨below_drewN h.1 q,h.2.1,⟨h.2.2.1.1,Nat.le_trans h.2.2.1.2 (show w'.drawn<=w'.drawn+q from Nat.le_add_right _ _)⟩,h.2.2.2⟩
theorem Sb.set {sb:Nat}{w w':World}(h:Sb sb w w')(s:Int):Sb sb w (w'.setCell ⟨sb,0,none⟩ (.int .i64 s)):=by
 obtain⟨h1,h2,h3,t,h4⟩:=h;exact⟨h1.setCell (p:=⟨sb,0,none⟩) qN _,fun b hb=>(heap_setCell_other w' ⟨sb,0,none⟩ b _ hb).trans (h2 b hb),⟨by simp[h3.1],h3.2⟩,s,heap_setCell_same w' sb 0 _ _ _ h4⟩
theorem Sb.trans {sb:Nat}{w w1 w2:World}(h:Sb sb w w1)(h':Sb sb w1 w2):Sb sb w w2:=⟨h.1.trans h'.1,fun b hb=>(h'.2.1 b hb).trans (h.2.1 b hb),⟨h'.2.2.1.1.trans h.2.2.1.1,Nat.le_trans h.2.2.1.2 h'.2.2.1.2⟩,h'.2.2.2⟩
theorem Sb.holds {sb blk off:Nat}{w w':World}{d:Array Int}(h:Sb sb w w')(hH:Holds en w blk off d)(hne:¬blk=sb):Holds en w' blk off d:=fun j hj=>by
 obtain⟨h1,h2⟩:=hH j hj;have e:=h.2.1 blk hne;refine⟨by rw[World.cell?_of_block (a:=⟨blk,off+j,none⟩) e];exact h1,?_⟩;rw[<- h2];unfold World.frozen?;simp only[e]
end Z
theorem zjq (w:World)(blk off cap a b sb:Nat)(s:Int)(d:Array Int)(hH:Holds Z.en w blk off d)(ha:a<d.size)(hb:b<d.size)(hsz:d.size<1152921504606846976)(hne:¬blk=sb)(hs:w.heap[sb]?=some (.cells #[.int .i64 s] 3)) :
  Calls prog 254 #[.slice (some ⟨blk,off,none⟩) d.size cap,.int .i64 a,.int .i64 b,.pointer (some ⟨sb,0,none⟩)] w fun e w'=>(e=.returned (.tuple #[.int .i64 a,.int .i64 b])∨e=.returned (.tuple #[.int .i64 b,.int .i64 a]))/\Z.Sb sb w w':=by
 obtain⟨ca,fa⟩:=hH a ha;obtain⟨cb,fb⟩:=hH b hb;generalize d[a]! = x at ca;generalize d[b]! = y at cb;have HS:=qH<|Z.Sb.refl hs;have c0:w.cell? ⟨sb,0,none⟩=some (.int .i64 s):=K.zad (i:=0) hs rfl;have f0:w.frozen? ⟨sb,0,none⟩=false:=frozen_of_row w _ _ _ _ hs;clear hH fa fb hs
 go_enter func254,ntmps254
 go_wp2
 go_quiet (first|(go_at_call 233;refine Calls.quiet_of_same (zao _ _ _)))
 go_wp2
 ·refine bodyPost_ret (v:=.tuple #[.int .i64 b,.int .i64 a]) (by simp[results,results254,go_sem, *]) rfl ?_;exact⟨.inr rfl,(HS.out.drew _).set _⟩
 ·refine bodyPost_ret (v:=.tuple #[.int .i64 a,.int .i64 b]) (by simp[results,results254,go_sem, *]) rfl ?_;exact⟨.inl rfl,HS.out.drew _⟩
theorem zdd (w0 w:World)(blk off cap a b sb:Nat)(d:Array Int)(hH:Holds Z.en w0 blk off d)(ha:a<d.size)(hb:b<d.size)(hsz:d.size<1152921504606846976)(hne:¬blk=sb)(hs:Z.Sb sb w0 w) :
  Calls prog 254 #[.slice (some ⟨blk,off,none⟩) d.size cap,.int .i64 a,.int .i64 b,.pointer (some ⟨sb,0,none⟩)] w fun e w'=>∃x y:Nat,(x=a/\y=b∨x=b/\y=a)/\e=.returned (.tuple #[.int .i64 x,.int .i64 y])/\Z.Sb sb w0 w':=by
 obtain⟨s,hs4⟩:=hs.2.2.2;refine(zjq w blk off cap a b sb s d (hs.holds hH hne) ha hb hsz hne hs4).mono ?_;rintro e w' ⟨h|h,h2⟩
 ·exact⟨a,b,.inl ⟨rfl,rfl⟩,h,hs.trans h2⟩
 ·exact⟨b,a,.inr ⟨rfl,rfl⟩,h,hs.trans h2⟩
theorem zde (w0 w:World)(blk off cap a b c sb:Nat)(d:Array Int)(hH:Holds Z.en w0 blk off d)(ha:a<d.size)(hb:b<d.size)(hc:c<d.size)(hsz:d.size<1152921504606846976)(hne:¬blk=sb)(hs:Z.Sb sb w0 w) :
  Calls prog 247 #[.slice (some ⟨blk,off,none⟩) d.size cap,.int .i64 a,.int .i64 b,.int .i64 c,.pointer (some ⟨sb,0,none⟩)] w fun e w'=>∃x:Nat,(x=a∨x=b∨x=c)/\e=.returned (.int .i64 x)/\Z.Sb sb w0 w':=by
 have HH:=qH hH;have HS:=qH hs;clear hH hs
 go_enter func247,ntmps247
 go_wp2_with fail
 go_at_call 254
 refine Calls.mono (zdd w0 _ blk off cap a b sb d HH.out ha hb hsz hne ?_) ?_
 ·first|exact HS.out|exact HS.out.drew _
 rintro _ w1 ⟨a1,b1,h1,rfl,hs1⟩;have HS1:=qH hs1;have ha1:a1<d.size:=by omega
 have hb1:b1<d.size:=by omega
 have H1:=qH h1;clear hs1 h1 HS
 go_wp2_with fail
 go_at_call 254
 refine Calls.mono (zdd w0 _ blk off cap b1 c sb d HH.out hb1 hc hsz hne ?_) ?_
 ·first|exact HS1.out|exact HS1.out.drew _
 rintro _ w2 ⟨b2,c2,h2,rfl,hs2⟩;have HS2:=qH hs2;have hb2:b2<d.size:=by omega
 have H2:=qH h2;clear hs2 h2 HS1
 go_wp2_with fail
 go_at_call 254
 refine Calls.mono (zdd w0 _ blk off cap a1 b2 sb d HH.out ha1 hb2 hsz hne ?_) ?_
 ·first|exact HS2.out|exact HS2.out.drew _
 rintro _ w3 ⟨a3,b3,h3,rfl,hs3⟩;have HS3:=qH hs3;have H3:=qH h3;clear hs3 h3 HS2;go_wp2;refine bodyPost_ret (v:=.int .i64 b3) (by simp[results,results247,go_sem, *]) rfl ?_;have e1:=H1.out;have e2:=H2.out;have e3:=H3.out;exact⟨b3,by omega,rfl,HS3.out⟩
theorem zci (w0 w:World)(blk off cap a sb:Nat)(d:Array Int)(hH:Holds Z.en w0 blk off d)(ha:1<=a/\a+1<d.size)(hsz:d.size<1152921504606846976)(hne:¬blk=sb)(hs:Z.Sb sb w0 w) :
  Calls prog 246 #[.slice (some ⟨blk,off,none⟩) d.size cap,.int .i64 a,.pointer (some ⟨sb,0,none⟩)] w fun e w'=>∃x:Nat,(a<=x+1/\x<=a+1)/\e=.returned (.int .i64 x)/\Z.Sb sb w0 w':=by
 have HH:=qH hH;have HS:=qH hs;clear hH hs;obtain⟨p,hp⟩:∃p,p+1<=a/\a<=p+1:=⟨a-1,by omega⟩;obtain⟨q,hq⟩:∃q,a+1<=q/\q<=a+1:=⟨a+1,by omega⟩
 go_enter func246,ntmps246
 go_wp2_with fail
 rw[show ((a:Int)-1)=(p:Int) by omega,show ((a:Int)+1)=(q:Int) by omega]
 go_at_call 247
 refine Calls.mono (zde w0 _ blk off cap p a q sb d HH.out (by omega) (by omega) (by omega) hsz hne ?_) ?_
 ·first|exact HS.out|exact HS.out.drew _
 rintro _ w1 ⟨x,h1,rfl,hs1⟩;have HS1:=qH hs1;have H1:Hid (a<=x+1/\x<=a+1):=by show _/\_;omega
 clear hs1 h1 HS;go_wp2;refine bodyPost_ret (v:=.int .i64 x) (by simp[results,results246,go_sem, *]) rfl ?_;exact⟨x,H1.out,rfl,HS1.out⟩
theorem Z.grown {w w':World}(h:RowKit.Below w.heap.size w w')(hd:w.drawn<=w'.drawn):∃m os,w'=grow (Sort.ahead w m) os:=by
 obtain⟨h1,h2,h3,h4,h5⟩:=h;refine⟨w'.drawn-w.drawn,w'.heap.extract w.heap.size w'.heap.size,?_⟩;obtain⟨hp,tp,dr,os,out⟩:=w';simp only at h1 h2 h3 h4 h5 hd;subst h1 h2 h3;have e1:w.drawn+(dr-w.drawn)=dr:=by omega
 have e2:w.heap++hp.extract w.heap.size hp.size=hp:=by
  refine Array.ext_getElem? fun i=> ?_
  rw[Array.getElem?_append];split
  ·exact(h5 i (by assumption)).symm
  ·rw[Array.getElem?_extract];split
   ·congr 1;omega
   ·exact(Array.getElem?_eq_none (by omega)).symm
 simp only[grow,Sort.ahead,e1,e2]
theorem zmd (w:World)(blk off cap a n:Nat)(d:Array Int)(hH:Holds Z.en w blk off d)(hn:a+n<=d.size)(h8:8<=n)(hsz:d.size<1152921504606846976) :
  Calls prog 230 #[.slice (some ⟨blk,off,none⟩) d.size cap,.int .i64 a,.int .i64 ((a+n:Nat):Int)] w fun e w'=>∃p h:Nat,a<=p/\p<a+n/\h<=2/\e=.returned (.tuple #[.int .i64 p,.int .i64 h])/\∃m os,w'=grow (Sort.ahead w m) os:=by
 have hbl:blk<w.heap.size:=World.block_lt_of_cell? w _ (hH 0 (by omega)).1;have hne:¬blk=w.heap.size:=by omega
 have HH:=qH hH
 have hA:Holds Z.en (w.alloc (.cells #[.int .i64 0] 3)) blk off d:=fun j hj=>by
  obtain⟨h1,h2⟩:=hH j hj;refine⟨K.zai h1 _,?_⟩;rw[<- h2];have e:(w.alloc (.cells #[.int .i64 0] 3)).heap[blk]?=w.heap[blk]?:=Below.heap_alloc w _ blk hbl;unfold World.frozen?;simp only[e]
 have hSA:Z.Sb w.heap.size (w.alloc (.cells #[.int .i64 0] 3)) (w.alloc (.cells #[.int .i64 0] 3)):=Z.Sb.refl (s:=0) (by show (w.heap.push _)[w.heap.size]?=_;exact Array.getElem?_push_size);have HA:=qH hA;have HS:=qH hSA;have HB:Hid (∀w',Z.Sb w.heap.size (w.alloc (.cells #[.int .i64 0] 3)) w'->∃m os,w'=grow (Sort.ahead w m) os):=fun w' h=>Z.grown (((qR _).alloc qN _).trans h.1) h.2.2.1.2
 clear hH hA hSA;obtain⟨q,hq⟩:∃q,4*q<=n/\n<=4*q+3:=⟨n / 4,by omega⟩
 go_enter func230,ntmps230
 go_wp2_with fail
 all_goals (rw[show ((a:Int)+n-a)=(n:Int) by omega,show ((n:Int) / 4)=(q:Int) by omega])
 ·obtain⟨i0,hi0⟩:∃i0,a+q<=i0/\i0<=a+q:=⟨a+q,by omega⟩;obtain⟨j0,hj0⟩:∃i0,a+q*2<=i0/\i0<=a+q*2:=⟨a+q*2,by omega⟩;obtain⟨k0,hk0⟩:∃i0,a+q*3<=i0/\i0<=a+q*3:=⟨a+q*3,by omega⟩;rw[show ((a:Int)+q)=(i0:Int) by omega,show ((a:Int)+q*2)=(j0:Int) by omega,show ((a:Int)+q*3)=(k0:Int) by omega]
  go_at_call 246
  refine Calls.mono (zci (w.alloc (.cells #[.int .i64 0] 3)) _ blk off cap i0 w.heap.size d HA.out (by omega) hsz hne ?_) ?_
  ·first|exact HS.out|exact HS.out.drew _
  rintro _ w1 ⟨x1,h1,rfl,hs1⟩;have HS1:=qH hs1;have hx1:a<=x1/\x1<a+n:=by omega
  clear hs1 h1 HS
  go_wp2_with fail
  go_at_call 246
  refine Calls.mono (zci (w.alloc (.cells #[.int .i64 0] 3)) _ blk off cap j0 w.heap.size d HA.out (by omega) hsz hne ?_) ?_
  ·first|exact HS1.out|exact HS1.out.drew _
  rintro _ w2 ⟨x2,h2,rfl,hs2⟩;have HS2:=qH hs2;have hx2:a<=x2/\x2<a+n:=by omega
  clear hs2 h2 HS1
  go_wp2_with fail
  go_at_call 246
  refine Calls.mono (zci (w.alloc (.cells #[.int .i64 0] 3)) _ blk off cap k0 w.heap.size d HA.out (by omega) hsz hne ?_) ?_
  ·first|exact HS2.out|exact HS2.out.drew _
  rintro _ w3 ⟨x3,h3,rfl,hs3⟩;have HS3:=qH hs3;have hx3:a<=x3/\x3<a+n:=by omega
  clear hs3 h3 HS2
  go_wp2_with fail
  go_at_call 247
  refine Calls.mono (zde (w.alloc (.cells #[.int .i64 0] 3)) _ blk off cap x1 x2 x3 w.heap.size d HA.out (by omega) (by omega) (by omega) hsz hne ?_) ?_
  ·first|exact HS3.out|exact HS3.out.drew _
  rintro _ w4 ⟨x,h4,rfl,hs4⟩;have HS4:=qH hs4;have hx:a<=x/\x<a+n:=by omega
  clear hs4 h4 HS3;obtain⟨s,hs⟩:=HS4.out.2.2.2;have c0:w4.cell? ⟨w.heap.size,0,none⟩=some (.int .i64 s):=K.zad (i:=0) hs rfl;clear hs;have HF:=qH<|HB.out _ HS4.out;clear HS4 HB HA HH;go_wp2
  ·refine bodyPost_ret (v:=.tuple #[.int .i64 x,.int .i64 ((1:Nat):Int)]) (by simp[results,results230,go_sem, *]) rfl ?_;exact⟨x,1,by omega,by omega,by omega,rfl,HF.out⟩
  ·refine bodyPost_ret (v:=.tuple #[.int .i64 x,.int .i64 ((2:Nat):Int)]) (by simp[results,results230,go_sem, *]) rfl ?_;exact⟨x,2,by omega,by omega,by omega,rfl,HF.out⟩
  ·refine bodyPost_ret (v:=.tuple #[.int .i64 x,.int .i64 ((0:Nat):Int)]) (by simp[results,results230,go_sem, *]) rfl ?_;exact⟨x,0,by omega,by omega,by omega,rfl,HF.out⟩
 ·obtain⟨i0,hi0⟩:∃i0,a+q<=i0/\i0<=a+q:=⟨a+q,by omega⟩;obtain⟨j0,hj0⟩:∃i0,a+q*2<=i0/\i0<=a+q*2:=⟨a+q*2,by omega⟩;obtain⟨k0,hk0⟩:∃i0,a+q*3<=i0/\i0<=a+q*3:=⟨a+q*3,by omega⟩;rw[show ((a:Int)+q)=(i0:Int) by omega,show ((a:Int)+q*2)=(j0:Int) by omega,show ((a:Int)+q*3)=(k0:Int) by omega]
  go_at_call 247
  refine Calls.mono (zde (w.alloc (.cells #[.int .i64 0] 3)) _ blk off cap i0 j0 k0 w.heap.size d HA.out (by omega) (by omega) (by omega) hsz hne ?_) ?_
  ·first|exact HS.out|exact HS.out.drew _
  rintro _ w4 ⟨x,h4,rfl,hs4⟩;have HS4:=qH hs4;have hx:a<=x/\x<a+n:=by omega
  clear hs4 h4 HS;obtain⟨s,hs⟩:=HS4.out.2.2.2;have c0:w4.cell? ⟨w.heap.size,0,none⟩=some (.int .i64 s):=K.zad (i:=0) hs rfl;clear hs;have HF:=qH<|HB.out _ HS4.out;clear HS4 HB HA HH;go_wp2
  ·refine bodyPost_ret (v:=.tuple #[.int .i64 x,.int .i64 ((1:Nat):Int)]) (by simp[results,results230,go_sem, *]) rfl ?_;exact⟨x,1,by omega,by omega,by omega,rfl,HF.out⟩
  ·refine bodyPost_ret (v:=.tuple #[.int .i64 x,.int .i64 ((2:Nat):Int)]) (by simp[results,results230,go_sem, *]) rfl ?_;exact⟨x,2,by omega,by omega,by omega,rfl,HF.out⟩
  ·refine bodyPost_ret (v:=.tuple #[.int .i64 x,.int .i64 ((0:Nat):Int)]) (by simp[results,results230,go_sem, *]) rfl ?_;exact⟨x,0,by omega,by omega,by omega,rfl,HF.out⟩
theorem Z.mix (x:Nat)(y:Int)(hx:x<18446744073709551616)(h0:0<=y)(h1:y<18446744073709551616):∃v:Nat,v<18446744073709551616/\bits .xor .u64 (x:Int) y=(v:Int):=by
 obtain⟨n,rfl⟩:=Int.eq_ofNat_of_zero_le h0;exact⟨_,Nat.xor_lt_two_pow (n:=64) (by omega) (by omega),bits_xor_u64_nat x n hx (by omega)⟩
theorem zoa (w:World)(rb X:Nat)(hX:X<18446744073709551616)(hs:w.heap[rb]?=some (.cells #[.int .u64 X] 278)) :
  Calls prog 245 #[.pointer (some ⟨rb,0,none⟩)] w fun e w'=>∃v:Nat,v<18446744073709551616/\e=.returned (.int .u64 v)/\∃k,w'=(w.setCell ⟨rb,0,none⟩ (.int .u64 v)).drewN k:=by
 have c0:w.cell? ⟨rb,0,none⟩=some (.int .u64 X):=K.zad (i:=0) hs rfl;have f0:w.frozen? ⟨rb,0,none⟩=false:=frozen_of_row w _ _ _ _ hs;clear hs;obtain⟨p,hp,e1⟩:=Z.mix X (IntKind.u64.wrap ((X:Int)*8192)) hX (by rw[IntKind.wrap_u64];omega) (by rw[IntKind.wrap_u64];omega);obtain⟨q,hq,e2⟩:=Z.mix p ((p:Int) / 128) hp (by omega) (by omega);obtain⟨v,hv,e3⟩:=Z.mix q (IntKind.u64.wrap ((q:Int)*131072)) hq (by rw[IntKind.wrap_u64];omega) (by rw[IntKind.wrap_u64];omega);have ss:=setCell_setCell w rb 0
 go_enter func245,ntmps245
 go_wp2
 go_region
 all_goals go_wp2
 all_goals go_region
 all_goals go_wp2
 all_goals go_region
 all_goals go_wp2
 all_goals go_ret
 all_goals exact⟨v,hv,rfl,3,rfl⟩
