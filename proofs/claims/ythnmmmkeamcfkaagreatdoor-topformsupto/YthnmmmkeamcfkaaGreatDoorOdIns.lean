import Derived.Test.YthnmmmkeamcfkaaGreatDoorOdP
set_option maxHeartbeats 0
set_option maxRecDepth 20000
set_option linter.unusedSimpArgs false
set_option linter.unusedVariables false
namespace Go.Proofs.YthnmmmkeamcfkaaGreatDoor
open Go.Proofs.Tryz
section
open Go.RowKit Go.Sort
namespace Zi
abbrev en:Int->Value:=Value.int .i64
def At (w:World) (blk off n0:Nat) (d:Array Int) (wr:World):Prop:=d.size=n0/\∃n,wr=putRow en (Sort.ahead w n) blk off d
theorem At.start {w:World}{blk off:Nat}{d:Array Int}(h:Holds en w blk off d):At w blk off d.size d w:=⟨rfl,0,(putRow_self en w blk off d h).symm⟩
theorem At.cell {w wr:World}{blk off n0:Nat}{d0 d:Array Int}(h:At w blk off n0 d wr)(h0:Holds en w blk off d0)(hn:d0.size=n0){j:Nat}(hj:j<n0):wr.cell? ⟨blk,off+j,none⟩=some (.int .i64 d[j]!):=by
 obtain⟨hs,n,rfl⟩:=h;exact cell?_putRow en _ blk off d0 d (holds_ahead en w n blk off d0 h0) (by omega) j (by omega)
theorem At.free {w wr:World}{blk off n0:Nat}{d0 d:Array Int}(h:At w blk off n0 d wr)(h0:Holds en w blk off d0)(hn:d0.size=n0){j:Nat}(hj:j<n0):wr.frozen? ⟨blk,off+j,none⟩=false:=by
 obtain⟨hs,n,rfl⟩:=h;rw[frozen?_putRow];exact(holds_ahead en w n blk off d0 h0 j (by omega)).2
theorem At.drew {w wr:World}{blk off n0:Nat}{d:Array Int}(h:At w blk off n0 d wr)(q:Nat):At w blk off n0 d (wr.drewN q):=by
 obtain⟨hs,n,rfl⟩:=h;exact⟨hs,n+q,putRow_drewN en w n q blk off d⟩
theorem At.swap {w wr:World}{blk off n0:Nat}{d:Array Int}(h:At w blk off n0 d wr){i j:Nat}(hi:i<n0)(hj:j<n0)(q:Nat):At w blk off n0 (swp d i j) (((wr.drewN q).setCell ⟨blk,off+i,none⟩ (.int .i64 d[j]!)).setCell ⟨blk,off+j,none⟩ (.int .i64 d[i]!)):=by
 obtain⟨hs,n,rfl⟩:=h;exact⟨by rw[size_swp];exact hs,n+q,swap_worldA en w n q blk off d i j (by omega) (by omega)⟩
theorem At.holds {w wr:World}{blk off n0:Nat}{d0 d:Array Int}(h:At w blk off n0 d wr)(h0:Holds en w blk off d0)(hn:d0.size=n0):Holds en wr blk off d:=by
 obtain⟨hs,n,rfl⟩:=h;exact holds_putRow en _ blk off d0 d (holds_ahead en w n blk off d0 h0) (by omega)
theorem At.trans {w w1 w2:World}{blk off n0:Nat}{d e:Array Int}(h:At w blk off n0 d w1)(h':At w1 blk off n0 e w2):At w blk off n0 e w2:=by
 obtain⟨hs,n,rfl⟩:=h;obtain⟨hs',m,rfl⟩:=h';exact⟨hs',n+m,putRow_ahead_putRow en w n m blk off d e (by omega)⟩
theorem At.far {w wr:World}{blk off n0:Nat}{d:Array Int}(h:At w blk off n0 d wr){a:Addr}(ha:a.block≠blk):wr.cell? a=w.cell? a:=by
 obtain⟨hs,n,rfl⟩:=h;exact(cell?_putRow_other en _ blk off d a (.inl ha)).trans rfl
theorem At.size {w wr:World}{blk off n0:Nat}{d:Array Int}(h:At w blk off n0 d wr):d.size=n0:=h.1
end Zi
end
namespace Nm
open Go.Sort
theorem zch {B:List Int}(h:Srt B){i j:Nat}(hij:i<=j)(hj:j<B.length):cls (B[i]'(by omega))<=cls B[j]:=by
 by_cases e:i=j
 ·subst e;exact Int.le_refl _
 ·exact List.pairwise_iff_getElem.1 h i j (by omega) hj (by omega)
theorem zc7 {B:List Int}{k:Nat}{c:Int}(h:Srt B)(hk:k<=B.length)(h1:∀(h:0<k),cls (B[k - 1]'(by omega))<c):∀u∈B.take k,cls u<c:=by
 intro u hu;obtain⟨i,hi,rfl⟩:=List.getElem_of_mem hu;rw[List.length_take] at hi;rw[List.getElem_take];exact Int.lt_of_le_of_lt (zch h (j:=k - 1) (by omega) (by omega)) (h1 (by omega))
theorem zbb {B:List Int}{k:Nat}{c:Int}(h:Srt B)(hk:k<=B.length)(h1:∀(h:0<k),cls (B[k - 1]'(by omega))<=c):∀u∈B.take k,cls u<=c:=by
 intro u hu;obtain⟨i,hi,rfl⟩:=List.getElem_of_mem hu;rw[List.length_take] at hi;rw[List.getElem_take];exact Int.le_trans (zch h (j:=k - 1) (by omega) (by omega)) (h1 (by omega))
theorem zbc {B:List Int}{k:Nat}{c:Int}(h:Srt B)(h1:∀(h:k<B.length),c<=cls B[k]):∀u∈B.drop k,c<=cls u:=by
 intro u hu;obtain⟨i,hi,rfl⟩:=List.getElem_of_mem hu;rw[List.length_drop] at hi;rw[List.getElem_drop];exact Int.le_trans (h1 (by omega)) (zch h (by omega) (by omega))
theorem zc8 {B:List Int}{k:Nat}{c:Int}(h:Srt B)(h1:∀(h:k<B.length),c<cls B[k]):∀u∈B.drop k,c<cls u:=by
 intro u hu;obtain⟨i,hi,rfl⟩:=List.getElem_of_mem hu;rw[List.length_drop] at hi;rw[List.getElem_drop];exact Int.lt_of_lt_of_le (h1 (by omega)) (zch h (by omega) (by omega))
def up (P D:List Int) (x:Int) (R:List Int) (t:Nat):List Int:=P++(D.take t++x::(D.drop t++R))
theorem zg6 (P D:List Int)(x:Int)(R:List Int):up P D x R 0=P++x::(D++R):=by simp[up]
theorem zli (P D:List Int)(x:Int)(R:List Int):up P D x R D.length=P++(D++x::R):=by simp[up]
theorem zvf (P D:List Int)(x:Int)(R:List Int){t:Nat}(h:t<=D.length):(up P D x R t).length=P.length+D.length+1+R.length:=by unfold up;simp;omega
theorem zpi (P D:List Int)(x:Int)(R:List Int){t k:Nat}(h:t<D.length)(hk:k=P.length+t):swp (up P D x R t).toArray k (k+1)=(up P D x R (t+1)).toArray:=by
 unfold up;rw[List.drop_eq_getElem_cons h,List.take_add_one,List.getElem?_eq_getElem h];have e:=zj0 (P++D.take t) [] (D.drop (t+1)++R) x D[t] (i:=k) (j:=k+1) (by simp;omega) (by simp;omega);simp only[List.append_assoc,List.cons_append,List.nil_append,Option.toList_some] at e ⊢;exact e
theorem zpj (P D:List Int)(x:Int)(R:List Int){t k:Nat}(h:t<D.length)(hk:k=P.length+t+1):swp (up P D x R (t+1)).toArray k (k - 1)=(up P D x R t).toArray:=by
 unfold up;rw[List.drop_eq_getElem_cons h,List.take_add_one,List.getElem?_eq_getElem h];have e:=zha (P++D.take t) [] (D.drop (t+1)++R) D[t] x (i:=k - 1) (j:=k) (by simp;omega) (by simp;omega);simp only[List.append_assoc,List.cons_append,List.nil_append,Option.toList_some] at e ⊢;exact e
theorem zb3 (P B Q:List Int){t:Nat}(h1:P.length<=t)(h2:t<P.length+B.length):(P++B++Q).toArray[t]! = B[t - P.length]'(by omega):=by
 rw[zvt (by simp;omega)];rw[List.getElem_append_left (by simp;omega),List.getElem_append_right h1]
theorem zkd {B:List Int}{x:Int}{k:Nat}(h:Srt B)(h1:∀u∈B.take k,cls u<cls x)(h2:∀u∈B.drop k,cls x<=cls u):Srt (B.take k++x::B.drop k)/\Eqv (x::B) (B.take k++x::B.drop k):=by
 rw[<- List.take_append_drop k B] at h;obtain⟨a,b,c⟩:=h.parts;refine⟨Srt.app a (List.pairwise_cons.2 ⟨h2,b⟩) fun u hu v hv=> ?_,?_⟩
 ·rcases List.mem_cons.1 hv with rfl | hv
  ·have:=h1 u hu;omega
  ·exact c u hu v hv
 ·have e:x::B= [x]++B.take k++B.drop k:=by simp
  have e2:B.take k++x::B.drop k=B.take k++ [x]++B.drop k:=by simp
  rw[e,e2];exact(Eqv.rot (U:= [x]) fun u hu y hy=>by simp at hu;subst hu;exact h1 y hy).app (Eqv.refl _)
theorem four {A B:List Int}{s e:Nat}(hA:Srt A)(hB:Srt B)(h1:∀u∈A.take s,∀v∈B.drop e,cls u<=cls v)(h2:∀u∈A.drop s,∀v∈B.take e,cls v<cls u){S1 S2:List Int}(k1:Srt S1)(k2:Srt S2)(q1:Eqv (A.take s++B.take e) S1)(q2:Eqv (A.drop s++B.drop e) S2):Srt (S1++S2)/\Eqv (A++B) (S1++S2):=by
 rw[<- List.take_append_drop s A] at hA;rw[<- List.take_append_drop e B] at hB;obtain⟨_,_,ca⟩:=hA.parts;obtain⟨_,_,cb⟩:=hB.parts;refine⟨Srt.app k1 k2 fun u hu v hv=> ?_,?_⟩
 ·have hu':=q1.symm.mem hu;have hv':=q2.symm.mem hv;rcases List.mem_append.1 hu' with a | a <;> rcases List.mem_append.1 hv' with b | b
  ·exact ca u a v b
  ·exact h1 u a v b
  ·have:=h2 v b u a;omega
  ·exact cb u a v b
 ·have e0:A++B=A.take s++((A.drop s++B.take e)++B.drop e):=by
   rw[List.append_assoc,List.take_append_drop e B,<- List.append_assoc,List.take_append_drop s A]
  rw[e0];have h3:Eqv (A.take s++((A.drop s++B.take e)++B.drop e)) (A.take s++((B.take e++A.drop s)++B.drop e)):=(Eqv.refl _).app ((Eqv.rot h2).app (Eqv.refl _));refine h3.trans ?_;have e1:A.take s++((B.take e++A.drop s)++B.drop e)=(A.take s++B.take e)++(A.drop s++B.drop e):=by simp
  rw[e1];exact q1.app q2
end Nm
section
open Go.RowKit Go.Sort
namespace Od
variable [Ck]
def In (w0:World) (blk off n:Nat) (L:List Int) (w:World):Prop:=L.length=n/\(∃d0:Array Int,Holds Zi.en w0 blk off d0/\d0.size=n)/\Zi.At w0 blk off n L.toArray w/\∀x∈L,ok x
theorem In.start {w:World}{blk off:Nat}{L:List Int}(h:Holds Zi.en w blk off L.toArray)(ho:∀x∈L,ok x):In w blk off L.length L w:=⟨rfl,⟨_,h,by simp⟩,by have:=Zi.At.start h;simpa using this,ho⟩
theorem In.cell {w0 w:World}{blk off n:Nat}{L:List Int}(h:In w0 blk off n L w):∀t,t<n->w.cell? ⟨blk,off+t,none⟩=some (.int .i64 L.toArray[t]!):=by
 obtain⟨hl,⟨d0,h0,hs⟩,ha,_⟩:=h;exact fun t ht=>ha.cell h0 hs ht
theorem In.free {w0 w:World}{blk off n:Nat}{L:List Int}(h:In w0 blk off n L w):∀t,t<n->w.frozen? ⟨blk,off+t,none⟩=false:=by
 obtain⟨hl,⟨d0,h0,hs⟩,ha,_⟩:=h;exact fun t ht=>ha.free h0 hs ht
theorem In.okAt {w0 w:World}{blk off n:Nat}{L:List Int}(h:In w0 blk off n L w){t:Nat}(ht:t<n):ok L.toArray[t]! := by
 have hl:=h.1;rw[Nm.zvt (by omega)];exact h.2.2.2 _ (List.getElem_mem _)
theorem In.drew {w0 w:World}{blk off n:Nat}{L:List Int}(h:In w0 blk off n L w)(q:Nat):In w0 blk off n L (w.drewN q):=by
 obtain⟨hl,h0,ha,ho⟩:=h;exact⟨hl,h0,ha.drew q,ho⟩
theorem In.swap {w0 w:World}{blk off n:Nat}{L L':List Int}(h:In w0 blk off n L w){i j:Nat}(hi:i<n)(hj:j<n)(e:swp L.toArray i j=L'.toArray)(q:Nat) :
  In w0 blk off n L' (((w.drewN q).setCell ⟨blk,off+i,none⟩ (.int .i64 L.toArray[j]!)).setCell ⟨blk,off+j,none⟩ (.int .i64 L.toArray[i]!)):=by
 have hi':=h.okAt hi;have hj':=h.okAt hj;obtain⟨hl,h0,ha,ho⟩:=h;have h1:=ha.swap hi hj q;refine⟨by rw[e] at h1;have:=h1.1;simpa using this,h0,by rw[e] at h1;exact h1,fun x hx=> ?_⟩
 have e2:L'=(L.set i L.toArray[j]!).set j L.toArray[i]! := by
  have:=congrArg Array.toList e;unfold swp at this;simpa using this.symm
 rw[e2] at hx;rcases List.mem_or_eq_of_mem_set hx with hx | rfl
 ·rcases List.mem_or_eq_of_mem_set hx with hx | rfl
  ·exact ho x hx
  ·exact hj'
 ·exact hi'
theorem In.of {w0 w:World}{blk off n:Nat}{L L':List Int}(h:In w0 blk off n L w)(e:L=L'):In w0 blk off n L' w:=e▸h
def Con (w0:World) (blk:Nat):Prop:=∀(X:World) (x y:Int),(∀a:Addr,a.block≠blk->X.cell? a=w0.cell? a)->ok x->ok y->Calls prog 102 #[.int .i64 x,.int .i64 y,.pointer (some ⟨Ck.kb,0,none⟩)] X fun e w'=>e= .returned (.int .i64 (cmp x y))/\w'=X
theorem In.con {w0 w:World}{blk off n:Nat}{L:List Int}(HK:Con w0 blk)(h:In w0 blk off n L w){x y:Int}(hx:ok x)(hy:ok y)(X:World)(hX:X.heap=w.heap):Calls prog 102 #[.int .i64 x,.int .i64 y,.pointer (some ⟨Ck.kb,0,none⟩)] X fun e w'=>e= .returned (.int .i64 (cmp x y))/\w'=X :=
 HK X x y (fun a ha=>by rw[show X.cell? a=w.cell? a by simp only[World.cell?,hX]];exact h.2.2.1.far ha) hx hy
end Od
end
section
open Go.RowKit Go.Sort
theorem zqt [Od.Ck] (w0 w:World)(blk off n cap a b k:Nat)(cv:Value)(P U M V Q:List Int)(h0:Od.In w0 blk off n (P++U++M++V++Q) w)(ha:a=P.length)(hb:b=P.length+U.length+M.length)(hk:U.length=k)(hv:V.length=k)(hsz:n<1152921504606846976) :
  Calls prog 208 #[.slice (some ⟨blk,off,none⟩) n cap,.int .i64 a,.int .i64 b,.int .i64 k,cv] w fun e w'=>e= .returned (.tuple #[])/\Od.In w0 blk off n (P++V++M++U++Q) w':=by
 have hlen:=h0.1;simp only[List.length_append] at hlen;have hbn:b+k<=n:=by omega
 have hab:a+k<=b:=by omega
 have HL:Hid (a=P.length/\b=P.length+U.length+M.length/\U.length=k/\V.length=k/\b+k<=n/\a+k<=b):=⟨ha,hb,hk,hv,hbn,hab⟩
 have HS:Hid (Od.In w0 blk off n (Nm.ex P U M V Q 0) w):=by
  show Od.In _ _ _ _ _ _;rw[Nm.zr7];exact h0
 clear h0 ha hb hk hv hlen
 go_enter func208,ntmps208
 go_wp2
 go_loopw [10] (fun vi wr=>∃i:Nat,vi= .int .i64 i/\i<=k/\Hid (Od.In w0 blk off n (Nm.ex P U M V Q i) wr)) (fun vi _=>k - (RowKit.intOf vi).toNat)
 case atStart=>exact⟨0,rfl,Nat.zero_le _,HS.out⟩
 case round =>
  obtain⟨i,rfl,hi,HE⟩:=hrel;clear HS
  by_cases hlt:i<k
  ·obtain⟨G,hG⟩:∃G:Nat->Int,∀t,G t=(Nm.ex P U M V Q i).toArray[t]! := ⟨fun t=>(Nm.ex P U M V Q i).toArray[t]!,fun _=>rfl⟩;have hcw:∀t,t<n->wr.cell? ⟨blk,off+t,none⟩=some (.int .i64 (G t)):=fun t ht=>by rw[hG];exact HE.out.cell t ht
   have hfw:=fun t ht=>HE.out.free t ht
   have HSw:Hid (∀q,Od.In w0 blk off n (Nm.ex P U M V Q (i+1)) (((wr.drewN q).setCell ⟨blk,off+(a+i),none⟩ (.int .i64 (G (b+i)))).setCell ⟨blk,off+(b+i),none⟩ (.int .i64 (G (a+i))))):=fun q=>by
    rw[hG,hG];exact HE.out.swap (by omega) (by omega) (Nm.zr8 P U M V Q (by have:=HL.out;omega) (by have:=HL.out;omega) HL.out.1 HL.out.2.1) q
   have hne:¬(a+i=b+i):=by omega
   clear hG HE;go_wp2
   go_region
   all_goals go_wp2
   go_roundw
   case rel=>exact⟨i+1,by go_num,by omega,HSw.out 1⟩
   case measure=>simp[RowKit.intOf];omega
  ·have e:i=k:=by omega
   subst e;go_wp2
   go_end0
   refine⟨rfl,?_⟩;have h:=HE.out;rw[Nm.zvo P U M V Q HL.out.2.2.1 HL.out.2.2.2.1] at h;exact h
theorem zqw [Od.Ck] (w0 w:World)(blk off n cap a m b:Nat)(cv:Value)(P U V Q:List Int)(h0:Od.In w0 blk off n (P++U++V++Q) w)(ha:a=P.length)(hm:m=P.length+U.length)(hb:b=P.length+U.length+V.length)(hu:0<U.length)(hv:0<V.length)(hsz:n<1152921504606846976) :
  Calls prog 188 #[.slice (some ⟨blk,off,none⟩) n cap,.int .i64 a,.int .i64 m,.int .i64 b,cv] w fun e w'=>e= .returned (.tuple #[])/\Od.In w0 blk off n (P++V++U++Q) w':=by
 have hlen:=h0.1;simp only[List.length_append] at hlen;have HSw:=qH <| fun X a b k P U M V Q h1 h2 h3 h4 h5=>zqt w0 X blk off n cap a b k cv P U M V Q h1 h2 h3 h4 h5 hsz
 obtain⟨i0,hi0⟩:∃i,U.length=i:=⟨_,rfl⟩;obtain⟨j0,hj0⟩:∃j,V.length=j:=⟨_,rfl⟩;have e1:(m:Int) - (a:Int)=(i0:Int):=by omega
 have e2:(b:Int) - (m:Int)=(j0:Int):=by omega
 have hmn:m+j0<=n:=by omega
 have him:i0<=m:=by omega
 have hi0p:0<i0:=by omega
 have hj0p:0<j0:=by omega
 have HS:Hid (∃P' U' V' Q':List Int,Od.In w0 blk off n (P'++U'++V'++Q') w/\U'.length=i0/\V'.length=j0/\m=P'.length+U'.length/\P'++V'++U'++Q'=P++V++U++Q):=⟨P,U,V,Q,h0,hi0,hj0,hm,rfl⟩;obtain⟨T,hT⟩:∃T,T=P++V++U++Q:=⟨_,rfl⟩;rw[<- hT] at HS ⊢;clear h0 ha hm hb hu hv hlen hi0 hj0 hT
 go_enter func188,ntmps188
 go_wp2
 go_loopw [10,11] (fun vi vj wr=>∃i j:Nat,vi= .int .i64 i/\vj= .int .i64 j/\0<i/\0<j/\i<=m/\m+j<=n/\Hid (∃P U V Q:List Int,Od.In w0 blk off n (P++U++V++Q) wr/\U.length=i/\V.length=j/\m=P.length+U.length/\P++V++U++Q=T)) (fun vi vj _=>(RowKit.intOf vi).toNat+(RowKit.intOf vj).toNat)
 case atStart=>exact⟨i0,j0,rfl,rfl,hi0p,hj0p,him,hmn,HS.out⟩
 case round =>
  obtain⟨i,j,rfl,rfl,hi,hj,him',hmn',HE⟩:=hrel;clear HS e1 e2 hi0p hj0p him hmn
  by_cases hij:i=j
  ·obtain⟨P',U',V',Q',h1,h2,h3,h4,h5⟩:=HE.out
   have hC:Calls prog 208 #[.slice (some ⟨blk,off,none⟩) n cap,.int .i64 ((m:Int) - (i:Int)),.int .i64 m,.int .i64 i,cv] wr fun e w'=>e= .returned (.tuple #[])/\Od.In w0 blk off n T w':=by
    have h:=HSw.out wr (m - i) m i P' U' [] V' Q' (by simpa using h1) (by omega) (by simp;omega) h2 (by omega);rw[List.append_nil,h5] at h;rw[show (m:Int) - (i:Int)=((m - i:Nat):Int) by omega];exact h
   have HC:=qH hC;clear hC HE HSw h1 h2 h3 h4 h5;subst hij
   go_wp2_with fail
   refine HC.out.mono ?_;rintro e w1 ⟨rfl,h6⟩;have H6:=qH h6;clear h6 HC;go_wp2
   go_end0
   exact⟨rfl,H6.out⟩
  ·by_cases hgt:j<i
   ·obtain⟨P',U',V',Q',h1,h2,h3,h4,h5⟩:=HE.out
    have hC:Calls prog 208 #[.slice (some ⟨blk,off,none⟩) n cap,.int .i64 ((m:Int) - (i:Int)),.int .i64 m,.int .i64 j,cv] wr fun e w'=>e= .returned (.tuple #[])/\Od.In w0 blk off n (P'++V'++U'.drop j++U'.take j++Q') w':=by
     have h:=HSw.out wr (m - i) m j P' (U'.take j) (U'.drop j) V' Q' (by rw[List.append_assoc P',List.take_append_drop];exact h1) (by omega) (by simp;omega) (by simp;omega) h3;rw[show (m:Int) - (i:Int)=((m - i:Nat):Int) by omega];exact h
    have HC:=qH hC;have HX:Hid (∀w',Od.In w0 blk off n (P'++V'++U'.drop j++U'.take j++Q') w'->∃P U V Q:List Int,Od.In w0 blk off n (P++U++V++Q) w'/\U.length=i - j/\V.length=j/\m=P.length+U.length/\P++V++U++Q=T):=fun w' hw=>⟨P'++V',U'.drop j,U'.take j,Q',hw,by simp;omega,by simp;omega,by simp;omega,by rw[<- h5,List.append_assoc (P'++V'),List.take_append_drop]⟩
    clear hC HE h1 h2 h3 h4 h5
    go_wp2_with fail
    refine HC.out.mono ?_;rintro e w1 ⟨rfl,h6⟩;have H6:=HX.out w1 h6;have H7:=qH H6;clear H6 h6 HC HX;go_wp2
    go_roundw
    case rel=>exact⟨i - j,j,by congr 1;omega,rfl,by omega,hj,by omega,hmn',H7.out⟩
    case measure=>simp[RowKit.intOf];omega
   ·obtain⟨P',U',V',Q',h1,h2,h3,h4,h5⟩:=HE.out
    have hC:Calls prog 208 #[.slice (some ⟨blk,off,none⟩) n cap,.int .i64 ((m:Int) - (i:Int)),.int .i64 ((m:Int)+(j:Int) - (i:Int)),.int .i64 i,cv] wr fun e w'=>e= .returned (.tuple #[])/\Od.In w0 blk off n (P'++V'.drop (j - i)++V'.take (j - i)++U'++Q') w':=by
     have h:=HSw.out wr (m - i) (m+j - i) i P' U' (V'.take (j - i)) (V'.drop (j - i)) Q' (by rw[List.append_assoc (P'++U'),List.take_append_drop];exact h1) (by omega) (by simp;omega) h2 (by simp;omega);rw[show (m:Int) - (i:Int)=((m - i:Nat):Int) by omega,show (m:Int)+(j:Int) - (i:Int)=((m+j - i:Nat):Int) by omega];exact h
    have HC:=qH hC;have HX:Hid (∀w',Od.In w0 blk off n (P'++V'.drop (j - i)++V'.take (j - i)++U'++Q') w'->∃P U V Q:List Int,Od.In w0 blk off n (P++U++V++Q) w'/\U.length=i/\V.length=j - i/\m=P.length+U.length/\P++V++U++Q=T):=fun w' hw=>⟨P',V'.drop (j - i),V'.take (j - i),U'++Q',by rw[<- List.append_assoc];exact hw,by simp;omega,by simp;omega,by simp;omega,by rw[<- h5,List.append_assoc P' (V'.take (j - i)),List.take_append_drop];simp⟩
    have h7:i<j:=by omega
    clear hC HE h1 h2 h3 h4 h5
    go_wp2_with fail
    refine HC.out.mono ?_;rintro e w1 ⟨rfl,h6⟩;have H6:=HX.out w1 h6;have H7:=qH H6;clear H6 h6 HC HX;go_wp2
    go_roundw
    case rel=>exact⟨i,j - i,rfl,by congr 1;omega,hi,by omega,him',by omega,H7.out⟩
    case measure=>simp[RowKit.intOf];omega
end
section
open Go.RowKit Go.Sort Go.Shelf
namespace Od
variable [Ck]
theorem zc9 {D1 D2:List Int}{x:Int}(h:Srt (D1++D2))(h1:∀u∈D1,cls u<=cls x)(h2:∀u∈D2,cls x<cls u):Srt (D1++x::D2):=by
 obtain⟨a,b,c⟩:=h.parts;refine Srt.app a (List.pairwise_cons.2 ⟨fun u hu=>by have:=h2 u hu;omega,b⟩) fun u hu v hv=> ?_
 rcases List.mem_cons.1 hv with rfl | hv
 ·exact h1 u hu
 ·exact c u hu v hv
theorem zda {D1 D2:List Int}{x:Int}(h2:∀u∈D2,cls x<cls u):Eqv (D1++D2++ [x]) (D1++x::D2):=by
 rw[List.append_assoc];exact(Eqv.refl D1).app (Eqv.rot (U:=D2) (V:= [x]) fun u hu y hy=>by simp at hy;subst hy;exact h2 u hu)
def Ins (w0:World) (blk off n a b:Nat) (P S Q:List Int) (i:Nat) (wr:World):Prop :=
 ∃D R:List Int,In w0 blk off n (P++(D++(R++Q))) wr/\D.length+R.length=S.length/\(i<=b->a+D.length=i)/\(b<i->R= [])/\Srt D/\Eqv S (D++R)
def InsJ (w0:World) (blk off n a:Nat) (P D R Q:List Int) (x:Int) (j:Nat) (wr:World):Prop :=
 ∃D1 D2:List Int,D=D1++D2/\a+D1.length=j/\(∀u∈D2,cls x<cls u)/\In w0 blk off n (P++(D1++x::(D2++(R++Q)))) wr
end Od
theorem zio [Od.Ck] (w0 w:World)(blk off n cap a b:Nat)(P S Q:List Int)(HK:Hid (Od.Con w0 blk))(h0:Od.In w0 blk off n (P++S++Q) w)(ha:a=P.length)(hb:b=P.length+S.length)(hsz:n<1152921504606846976) :
  Calls prog 149 #[.slice (some ⟨blk,off,none⟩) n cap,.int .i64 a,.int .i64 b,.func (.func 102) #[] #[.pointer (some ⟨Od.Ck.kb,0,none⟩)]] w fun e w'=>e= .returned (.tuple #[])/\∃S',S'.length=S.length/\Od.Srt S'/\Od.Eqv S S'/\Od.In w0 blk off n (P++S'++Q) w':=by
 have eg:∀args w,(callFunc 102 args).run prog w= .ok (.enter 102 args) w:=enters_of func102 (by kernel_rfl) rfl;have hlen:=h0.1;simp only[List.length_append] at hlen;have hbn:b<=n:=by omega
 have hab:a<=b:=by omega
 have HL:Hid (a=P.length/\b=P.length+S.length/\P.length+S.length+Q.length=n):=⟨ha,hb,hlen⟩
 have HS:Hid (Od.Ins w0 blk off n a b P S Q (a+1) w):=by
  show Od.Ins _ _ _ _ _ _ _ _ _ _ _;cases S with
  | nil=>exact⟨[],[],by simpa using h0,rfl,fun h=>by simp at hb;omega,fun _=>rfl,Od.Srt.nil,Od.Eqv.refl _⟩
  | cons x S=>exact⟨[x],S,by simpa using h0,by simp;omega,fun _=>rfl,fun h=>by simp at hb;omega,Od.Srt.one x,Od.Eqv.refl _⟩
 clear h0 ha hb hlen
 go_enter func149,ntmps149
 go_wp2
 go_loopw [8] (fun vi wr=>∃i:Nat,vi= .int .i64 i/\a<i/\i<=b+1/\Hid (Od.Ins w0 blk off n a b P S Q i wr)) (fun vi _=>b+1 - (RowKit.intOf vi).toNat)
 case atStart=>exact⟨a+1,by go_num,by omega,by omega,HS.out⟩
 case round =>
  obtain⟨i,rfl,hai,hib,HE⟩:=hrel;clear HS
  by_cases hlt:i<b
  ·obtain⟨D,R,h1,h2,h3,h4,h5,h6⟩:=HE.out
   obtain⟨x,R',rfl⟩:∃x R',R=x::R':=by
    cases R with
    | nil=>exfalso;have:=h3 (by omega);have:=HL.out;simp at h2;omega
    | cons x R'=>exact⟨x,R',rfl⟩
   have HD:Hid (D.length+R'.length+1=S.length/\a+D.length=i/\Od.Srt D/\Od.Eqv S (D++x::R')):=⟨by simp at h2;omega,h3 (by omega),h5,h6⟩;have HJ:Hid (Od.InsJ w0 blk off n a P D R' Q x i wr):=⟨D,[],by simp,HD.out.2.1,fun u hu=>by (cases hu),by simpa using h1⟩
   have HNx:Hid (∀(D1 D2:List Int) (X:World),D=D1++D2->(∀u∈D1,Od.cls u<=Od.cls x)->(∀u∈D2,Od.cls x<Od.cls u)->Od.In w0 blk off n (P++(D1++x::(D2++(R'++Q)))) X->Od.Ins w0 blk off n a b P S Q (i+1) X):=fun D1 D2 X e k1 k2 k3=>by
    obtain⟨d1,d2,d3,d4⟩:=HD.out;have hl:=congrArg List.length e;rw[List.length_append] at hl;refine⟨D1++x::D2,R',by simpa using k3,by simp;omega,fun _=>by simp;omega,fun h=>by omega,Od.zc9 (e▸d3) k1 k2,d4.trans ?_⟩;have h7:=(Od.zda (D1:=D1) k2).app (Od.Eqv.refl R');rw[<- e] at h7;simpa using h7
   have HDs:=qH h5;clear h1 h2 h3 h4 h5 h6 HE HD;go_wp2
   go_loopw [9] (fun vj w2=>∃j:Nat,vj= .int .i64 j/\a<=j/\j<=i/\Hid (Od.InsJ w0 blk off n a P D R' Q x j w2)) (fun vj _=>(RowKit.intOf vj).toNat)
   case atStart=>exact⟨i,rfl,by omega,qN,HJ.out⟩
   case round =>
    obtain⟨j,rfl,haj,hji,HF⟩:=hrel;clear HJ;obtain⟨D1,D2,hD,hj,hD2,hin⟩:=HF.out;obtain⟨G,hG⟩:∃G:Nat->Int,∀t,G t=(P++(D1++x::(D2++(R'++Q)))).toArray[t]! := ⟨fun t=>(P++(D1++x::(D2++(R'++Q)))).toArray[t]!,fun _=>rfl⟩;have hcw:∀t,t<n->wr.cell? ⟨blk,off+t,none⟩=some (.int .i64 (G t)):=fun t ht=>by rw[hG];exact hin.cell t ht
    have hfw:=fun t ht=>hin.free t ht
    have hGx:G j=x:=by
     rw[hG];have:=Nm.zc4 (P++D1) (D2++(R'++Q)) x (i:=j) (by have:=HL.out.1;simp;omega);simpa using this
    have HIn:=qH hin
    by_cases hja:a<j
    ·obtain⟨D0,y,rfl⟩:∃D0 y,D1=D0++ [y]:=by
      rcases List.eq_nil_or_concat D1 with e | ⟨D0,y,e⟩
      ·subst e;simp at hj;omega
      ·exact⟨D0,y,by simpa using e⟩
     have hl0:a+D0.length+1=j:=by simp at hj;omega
     have hGy:G (j - 1)=y:=by
      rw[hG];have:=Nm.zc4 (P++D0) (x::(D2++(R'++Q))) y (i:=j - 1) (by have:=HL.out.1;simp;omega);simpa using this
     have HW:Hid (Od.cls x<Od.cls y->∀q,Od.InsJ w0 blk off n a P D R' Q x (j - 1) (((wr.drewN q).setCell ⟨blk,off+j,none⟩ (.int .i64 y)).setCell ⟨blk,off+(j - 1),none⟩ (.int .i64 x))):=fun hxy q=>by
      refine⟨D0,y::D2,by rw[hD];simp,by omega,fun u hu=> ?_,?_⟩
      ·rcases List.mem_cons.1 hu with rfl | hu
       ·exact hxy
       ·exact hD2 u hu
      ·have e:=Nm.zha (P++D0) [] (D2++(R'++Q)) y x (i:=j - 1) (j:=j) (by have:=HL.out.1;simp;omega) (by have:=HL.out.1;simp;omega);have e2:P++(D0++ [y]++x::(D2++(R'++Q)))=P++D0++y::([]++x::(D2++(R'++Q))):=by simp
       have h:=(HIn.out.of e2).swap (i:=j) (j:=j - 1) (by omega) (by omega) e q;rw[<- e2,<- hG,<- hG,hGx,hGy] at h;simpa using h
     have HX:Hid (¬Od.cls x<Od.cls y->∀q,Od.Ins w0 blk off n a b P S Q (i+1) (wr.drewN q)):=fun hxy q=>HNx.out _ _ _ hD (fun u hu=>by
      have hs:=hD▸HDs.out;rcases List.mem_append.1 hu with h | h
      ·have:=(hs.parts.1).ahead h;omega
      ·simp at h;subst h;omega) hD2 (HIn.out.drew q)
     have HC:Hid (Od.cmp x y<0↔Od.cls x<Od.cls y):=Od.zd7;have hcm:=HIn.out.con HK.out (x:=x) (y:=y) (by rw[<- hGx,hG];exact HIn.out.okAt (by omega)) (by rw[<- hGy,hG];exact HIn.out.okAt (by omega));clear hG HF hin HIn hD hD2 hj HNx;go_wp2
     by_cases hxy:Od.cmp x y<0
     ·go_quiet (first | (go_at_call 102;refine Calls.quiet_of_same (hcm _ (by first | rfl | simp))))
      go_wp2
      go_region
      all_goals go_wp2
      go_roundw
      case rel=>exact⟨j - 1,by congr 1;omega,by omega,by omega,HW.out (HC.out.1 hxy) _⟩
      case measure=>simp[RowKit.intOf];omega
     ·go_quiet (first | (go_at_call 102;refine Calls.quiet_of_same (hcm _ (by first | rfl | simp))))
      go_wp2
      go_roundw
      case rel=>exact⟨i+1,by go_num,by omega,by omega,HX.out (Int.not_lt.1 fun h=>hxy (HC.out.2 h)) _⟩
      case measure=>simp[RowKit.intOf];omega
    ·have e0:D1= []:=List.eq_nil_of_length_eq_zero (by omega);have HX:=qH <| fun q=>HNx.out _ _ _ hD (fun u hu=>by rw[e0] at hu;cases hu) hD2 (HIn.out.drew q)
     clear hG HF hin HIn hD hD2 hj HNx e0;go_wp2
     go_quiet (first | (go_at_call 102;refine Calls.quiet_of_same (hcm _ (by first | rfl | simp))))
     go_wp2
     go_roundw
     case rel=>exact⟨i+1,by go_num,by omega,by omega,HX.out _⟩
     case measure=>simp[RowKit.intOf];omega
  ·go_wp2
   go_end0
   obtain⟨D,R,h1,h2,h3,h4,h5,h6⟩:=HE.out
   have hR:R= []:=by
    by_cases h:b<i
    ·exact h4 h
    ·have:=h3 (by omega);have:=HL.out;exact List.eq_nil_of_length_eq_zero (by omega)
   subst hR;simp only[List.append_nil,List.nil_append] at h1 h6;exact⟨rfl,D,by simpa using h2,h5,h6,by simpa using h1⟩
