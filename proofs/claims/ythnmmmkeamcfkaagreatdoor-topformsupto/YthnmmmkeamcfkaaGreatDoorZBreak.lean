import Derived.Test.YthnmmmkeamcfkaaGreatDoorZPivot
import Derived.Sort.Walk13a
import Derived.Sort.Walk7a
import Derived.Shelf.Small.Bits
import Derived.Sort.WalkA14
import Derived.Sort.LotD1
set_option maxHeartbeats 0
set_option maxRecDepth 20000
set_option linter.unusedSimpArgs false
set_option linter.unusedVariables false
namespace Go.Proofs.YthnmmmkeamcfkaaGreatDoor
open Go.Proofs.Tryz
section
open Go.RowKit Go.Sort
theorem zc5 (w0 w:World)(blk off cap a b sb:Nat)(d:Array Int)(hH:Holds Z.en w0 blk off d)(ha:a<d.size)(hb:b<d.size)(hsz:d.size<1152921504606846976)(hne:¬blk=sb)(hs:Z.Sb sb w0 w) :
  Calls prog 309 #[.slice (some ⟨blk,off,none⟩) d.size cap,.int .i64 a,.int .i64 b,.pointer (some ⟨sb,0,none⟩)] w fun e w'=>∃x y:Nat,(x=a/\y=b∨x=b/\y=a)/\e= .returned (.tuple #[.int .i64 x,.int .i64 y])/\Z.Sb sb w0 w':=by
 obtain⟨s,hs4⟩:=hs.2.2.2;refine(zjo w blk off cap a b sb s d (hs.holds hH hne) ha hb hsz hne hs4).mono ?_;rintro e w' ⟨h | h,h2⟩
 ·exact⟨a,b,.inl ⟨rfl,rfl⟩,h,hs.trans h2⟩
 ·exact⟨b,a,.inr ⟨rfl,rfl⟩,h,hs.trans h2⟩
theorem zc6 (w0 w:World)(blk off cap a b c sb:Nat)(d:Array Int)(hH:Holds Z.en w0 blk off d)(ha:a<d.size)(hb:b<d.size)(hc:c<d.size)(hsz:d.size<1152921504606846976)(hne:¬blk=sb)(hs:Z.Sb sb w0 w) :
  Calls prog 306 #[.slice (some ⟨blk,off,none⟩) d.size cap,.int .i64 a,.int .i64 b,.int .i64 c,.pointer (some ⟨sb,0,none⟩)] w fun e w'=>∃x:Nat,(x=a∨x=b∨x=c)/\e= .returned (.int .i64 x)/\Z.Sb sb w0 w':=by
 have HH:=qH hH;have HS:=qH hs;clear hH hs
 go_enter func306,ntmps306
 go_wp2_with fail
 go_at_call 309
 refine Calls.mono (zc5 w0 _ blk off cap a b sb d HH.out ha hb hsz hne ?_) ?_
 ·first | exact HS.out | exact HS.out.drew _
 rintro _ w1 ⟨a1,b1,h1,rfl,hs1⟩;have HS1:=qH hs1;have ha1:a1<d.size:=by omega
 have hb1:b1<d.size:=by omega
 have H1:=qH h1;clear hs1 h1 HS
 go_wp2_with fail
 go_at_call 309
 refine Calls.mono (zc5 w0 _ blk off cap b1 c sb d HH.out hb1 hc hsz hne ?_) ?_
 ·first | exact HS1.out | exact HS1.out.drew _
 rintro _ w2 ⟨b2,c2,h2,rfl,hs2⟩;have HS2:=qH hs2;have hb2:b2<d.size:=by omega
 have H2:=qH h2;clear hs2 h2 HS1
 go_wp2_with fail
 go_at_call 309
 refine Calls.mono (zc5 w0 _ blk off cap a1 b2 sb d HH.out ha1 hb2 hsz hne ?_) ?_
 ·first | exact HS2.out | exact HS2.out.drew _
 rintro _ w3 ⟨a3,b3,h3,rfl,hs3⟩;have HS3:=qH hs3;have H3:=qH h3;clear hs3 h3 HS2;go_wp2;refine bodyPost_ret (v:= .int .i64 b3) (by simp[results,results306,go_sem, *]) rfl ?_;have e1:=H1.out;have e2:=H2.out;have e3:=H3.out;exact⟨b3,by omega,rfl,HS3.out⟩
theorem zcg (w0 w:World)(blk off cap a sb:Nat)(d:Array Int)(hH:Holds Z.en w0 blk off d)(ha:1<=a/\a+1<d.size)(hsz:d.size<1152921504606846976)(hne:¬blk=sb)(hs:Z.Sb sb w0 w) :
  Calls prog 305 #[.slice (some ⟨blk,off,none⟩) d.size cap,.int .i64 a,.pointer (some ⟨sb,0,none⟩)] w fun e w'=>∃x:Nat,(a<=x+1/\x<=a+1)/\e= .returned (.int .i64 x)/\Z.Sb sb w0 w':=by
 have HH:=qH hH;have HS:=qH hs;clear hH hs;obtain⟨p,hp⟩:∃p,p+1<=a/\a<=p+1:=⟨a - 1,by omega⟩;obtain⟨q,hq⟩:∃q,a+1<=q/\q<=a+1:=⟨a+1,by omega⟩
 go_enter func305,ntmps305
 go_wp2_with fail
 rw[show ((a:Int) - 1)=(p:Int) by omega,show ((a:Int)+1)=(q:Int) by omega]
 go_at_call 306
 refine Calls.mono (zc6 w0 _ blk off cap p a q sb d HH.out (by omega) (by omega) (by omega) hsz hne ?_) ?_
 ·first | exact HS.out | exact HS.out.drew _
 rintro _ w1 ⟨x,h1,rfl,hs1⟩;have HS1:=qH hs1;have H1:Hid (a<=x+1/\x<=a+1):=by show _/\_;omega
 clear hs1 h1 HS;go_wp2;refine bodyPost_ret (v:= .int .i64 x) (by simp[results,results305,go_sem, *]) rfl ?_;exact⟨x,H1.out,rfl,HS1.out⟩
end
section
open Go.RowKit Go.Sort
theorem Z.grown {w w':World}(h:RowKit.Below w.heap.size w w')(hd:w.drawn<=w'.drawn):∃m os,w'=grow (Sort.ahead w m) os:=by
 obtain⟨h1,h2,h3,h4,h5⟩:=h;refine⟨w'.drawn - w.drawn,w'.heap.extract w.heap.size w'.heap.size,?_⟩;obtain⟨hp,tp,dr,os,out⟩:=w';simp only at h1 h2 h3 h4 h5 hd;subst h1 h2 h3;have e1:w.drawn+(dr - w.drawn)=dr:=by omega
 have e2:w.heap++hp.extract w.heap.size hp.size=hp:=by
  refine Array.ext_getElem? fun i=> ?_
  rw[Array.getElem?_append];split
  ·exact(h5 i (by assumption)).symm
  ·rw[Array.getElem?_extract];split
   ·congr 1;omega
   ·exact(Array.getElem?_eq_none (by omega)).symm
 simp only[grow,Sort.ahead,e1,e2]
theorem zmn (w:World)(blk off cap a n:Nat)(d:Array Int)(hH:Holds Z.en w blk off d)(hn:a+n<=d.size)(h8:8<=n)(hsz:d.size<1152921504606846976) :
  Calls prog 292 #[.slice (some ⟨blk,off,none⟩) d.size cap,.int .i64 a,.int .i64 ((a+n:Nat):Int)] w fun e w'=>∃p h:Nat,a<=p/\p<a+n/\h<=2/\e= .returned (.tuple #[.int .i64 p,.int .i64 h])/\∃m os,w'=grow (Sort.ahead w m) os:=by
 have hbl:blk<w.heap.size:=World.block_lt_of_cell? w _ (hH 0 (by omega)).1;have hne:¬blk=w.heap.size:=by omega
 have HH:=qH hH
 have hA:Holds Z.en (w.alloc (.cells #[.int .i64 0] 3)) blk off d:=fun j hj=>by
  obtain⟨h1,h2⟩:=hH j hj;refine⟨K.zai h1 _,?_⟩;rw[<- h2];have e:(w.alloc (.cells #[.int .i64 0] 3)).heap[blk]?=w.heap[blk]?:=Below.heap_alloc w _ blk hbl;unfold World.frozen?;simp only[e]
 have hSA:Z.Sb w.heap.size (w.alloc (.cells #[.int .i64 0] 3)) (w.alloc (.cells #[.int .i64 0] 3)):=Z.Sb.refl (s:=0) (by show (w.heap.push _)[w.heap.size]?=_;exact Array.getElem?_push_size);have HA:=qH hA;have HS:=qH hSA;have HB:Hid (∀w',Z.Sb w.heap.size (w.alloc (.cells #[.int .i64 0] 3)) w'->∃m os,w'=grow (Sort.ahead w m) os):=fun w' h=>Z.grown (((qR _).alloc qN _).trans h.1) h.2.2.1.2
 clear hH hA hSA;obtain⟨q,hq⟩:∃q,4*q<=n/\n<=4*q+3:=⟨n / 4,by omega⟩
 go_enter func292,ntmps292
 go_wp2_with fail
 all_goals (rw[show ((a:Int)+n - a)=(n:Int) by omega,show ((n:Int) / 4)=(q:Int) by omega])
 ·obtain⟨i0,hi0⟩:∃i0,a+q<=i0/\i0<=a+q:=⟨a+q,by omega⟩;obtain⟨j0,hj0⟩:∃i0,a+q*2<=i0/\i0<=a+q*2:=⟨a+q*2,by omega⟩;obtain⟨k0,hk0⟩:∃i0,a+q*3<=i0/\i0<=a+q*3:=⟨a+q*3,by omega⟩;rw[show ((a:Int)+q)=(i0:Int) by omega,show ((a:Int)+q*2)=(j0:Int) by omega,show ((a:Int)+q*3)=(k0:Int) by omega]
  go_at_call 305
  refine Calls.mono (zcg (w.alloc (.cells #[.int .i64 0] 3)) _ blk off cap i0 w.heap.size d HA.out (by omega) hsz hne ?_) ?_
  ·first | exact HS.out | exact HS.out.drew _
  rintro _ w1 ⟨x1,h1,rfl,hs1⟩;have HS1:=qH hs1;have hx1:a<=x1/\x1<a+n:=by omega
  clear hs1 h1 HS
  go_wp2_with fail
  go_at_call 305
  refine Calls.mono (zcg (w.alloc (.cells #[.int .i64 0] 3)) _ blk off cap j0 w.heap.size d HA.out (by omega) hsz hne ?_) ?_
  ·first | exact HS1.out | exact HS1.out.drew _
  rintro _ w2 ⟨x2,h2,rfl,hs2⟩;have HS2:=qH hs2;have hx2:a<=x2/\x2<a+n:=by omega
  clear hs2 h2 HS1
  go_wp2_with fail
  go_at_call 305
  refine Calls.mono (zcg (w.alloc (.cells #[.int .i64 0] 3)) _ blk off cap k0 w.heap.size d HA.out (by omega) hsz hne ?_) ?_
  ·first | exact HS2.out | exact HS2.out.drew _
  rintro _ w3 ⟨x3,h3,rfl,hs3⟩;have HS3:=qH hs3;have hx3:a<=x3/\x3<a+n:=by omega
  clear hs3 h3 HS2
  go_wp2_with fail
  go_at_call 306
  refine Calls.mono (zc6 (w.alloc (.cells #[.int .i64 0] 3)) _ blk off cap x1 x2 x3 w.heap.size d HA.out (by omega) (by omega) (by omega) hsz hne ?_) ?_
  ·first | exact HS3.out | exact HS3.out.drew _
  rintro _ w4 ⟨x,h4,rfl,hs4⟩;have HS4:=qH hs4;have hx:a<=x/\x<a+n:=by omega
  clear hs4 h4 HS3;obtain⟨s,hs⟩:=HS4.out.2.2.2;have c0:w4.cell? ⟨w.heap.size,0,none⟩=some (.int .i64 s):=K.zah (i:=0) hs rfl;clear hs;have HF:=qH <| HB.out _ HS4.out;clear HS4 HB HA HH;go_wp2
  ·refine bodyPost_ret (v:= .tuple #[.int .i64 x,.int .i64 ((1:Nat):Int)]) (by simp[results,results292,go_sem, *]) rfl ?_;exact⟨x,1,by omega,by omega,by omega,rfl,HF.out⟩
  ·refine bodyPost_ret (v:= .tuple #[.int .i64 x,.int .i64 ((2:Nat):Int)]) (by simp[results,results292,go_sem, *]) rfl ?_;exact⟨x,2,by omega,by omega,by omega,rfl,HF.out⟩
  ·refine bodyPost_ret (v:= .tuple #[.int .i64 x,.int .i64 ((0:Nat):Int)]) (by simp[results,results292,go_sem, *]) rfl ?_;exact⟨x,0,by omega,by omega,by omega,rfl,HF.out⟩
 ·obtain⟨i0,hi0⟩:∃i0,a+q<=i0/\i0<=a+q:=⟨a+q,by omega⟩;obtain⟨j0,hj0⟩:∃i0,a+q*2<=i0/\i0<=a+q*2:=⟨a+q*2,by omega⟩;obtain⟨k0,hk0⟩:∃i0,a+q*3<=i0/\i0<=a+q*3:=⟨a+q*3,by omega⟩;rw[show ((a:Int)+q)=(i0:Int) by omega,show ((a:Int)+q*2)=(j0:Int) by omega,show ((a:Int)+q*3)=(k0:Int) by omega]
  go_at_call 306
  refine Calls.mono (zc6 (w.alloc (.cells #[.int .i64 0] 3)) _ blk off cap i0 j0 k0 w.heap.size d HA.out (by omega) (by omega) (by omega) hsz hne ?_) ?_
  ·first | exact HS.out | exact HS.out.drew _
  rintro _ w4 ⟨x,h4,rfl,hs4⟩;have HS4:=qH hs4;have hx:a<=x/\x<a+n:=by omega
  clear hs4 h4 HS;obtain⟨s,hs⟩:=HS4.out.2.2.2;have c0:w4.cell? ⟨w.heap.size,0,none⟩=some (.int .i64 s):=K.zah (i:=0) hs rfl;clear hs;have HF:=qH <| HB.out _ HS4.out;clear HS4 HB HA HH;go_wp2
  ·refine bodyPost_ret (v:= .tuple #[.int .i64 x,.int .i64 ((1:Nat):Int)]) (by simp[results,results292,go_sem, *]) rfl ?_;exact⟨x,1,by omega,by omega,by omega,rfl,HF.out⟩
  ·refine bodyPost_ret (v:= .tuple #[.int .i64 x,.int .i64 ((2:Nat):Int)]) (by simp[results,results292,go_sem, *]) rfl ?_;exact⟨x,2,by omega,by omega,by omega,rfl,HF.out⟩
  ·refine bodyPost_ret (v:= .tuple #[.int .i64 x,.int .i64 ((0:Nat):Int)]) (by simp[results,results292,go_sem, *]) rfl ?_;exact⟨x,0,by omega,by omega,by omega,rfl,HF.out⟩
end
section
open Go.RowKit Go.Sort
theorem Z.mix (x:Nat)(y:Int)(hx:x<18446744073709551616)(h0:0<=y)(h1:y<18446744073709551616):∃v:Nat,v<18446744073709551616/\bits .xor .u64 (x:Int) y=(v:Int):=by
 obtain⟨n,rfl⟩:=Int.eq_ofNat_of_zero_le h0;exact⟨_,Nat.xor_lt_two_pow (n:=64) (by omega) (by omega),bits_xor_u64_nat x n hx (by omega)⟩
theorem zo0 (w:World)(rb X:Nat)(hX:X<18446744073709551616)(hs:w.heap[rb]?=some (.cells #[.int .u64 X] 345)) :
  Calls prog 304 #[.pointer (some ⟨rb,0,none⟩)] w fun e w'=>∃v:Nat,v<18446744073709551616/\e= .returned (.int .u64 v)/\∃k,w'=(w.setCell ⟨rb,0,none⟩ (.int .u64 v)).drewN k:=by
 have c0:w.cell? ⟨rb,0,none⟩=some (.int .u64 X):=K.zah (i:=0) hs rfl;have f0:w.frozen? ⟨rb,0,none⟩=false:=frozen_of_row w _ _ _ _ hs;clear hs;obtain⟨p,hp,e1⟩:=Z.mix X (IntKind.u64.wrap ((X:Int)*8192)) hX (by rw[IntKind.wrap_u64];omega) (by rw[IntKind.wrap_u64];omega);obtain⟨q,hq,e2⟩:=Z.mix p ((p:Int) / 128) hp (by omega) (by omega);obtain⟨v,hv,e3⟩:=Z.mix q (IntKind.u64.wrap ((q:Int)*131072)) hq (by rw[IntKind.wrap_u64];omega) (by rw[IntKind.wrap_u64];omega);have ss:=setCell_setCell w rb 0
 go_enter func304,ntmps304
 go_wp2
 go_region
 all_goals go_wp2
 all_goals go_region
 all_goals go_wp2
 all_goals go_region
 all_goals go_wp2
 all_goals go_ret
 all_goals exact⟨v,hv,rfl,3,rfl⟩
end
section
open Go.Shelf Go.RowKit Go.Sort
shelf_lay Lays.n125 Nm 125 at Tryz as Tryz.lays125
theorem Z.above (n:Nat)(h0:0<n):n<2 ^ bitsLen n/\2 ^ bitsLen n<=2*n:=by
 refine⟨(bitsLen_le_iff n _).1 qN,?_⟩;cases hk:bitsLen n with
 | zero=>simp;omega
 | succ k =>
  have h:¬n<2 ^ k:=fun h=>by
   have:=(bitsLen_le_iff n k).2 h;omega
  rw[Nat.pow_succ];omega
theorem zmm (n:Nat)(h0:0<n)(hn:n<1152921504606846976)(w:World) :
  Calls prog 303 #[.int .i64 n] w fun e w'=>∃k:Nat,n<2 ^ k/\2 ^ k<=2*n/\e= .returned (.int .u64 ((2 ^ k:Nat):Int))/\w'=w:=by
 have hl:=Z.above n h0;have e0:=bitLen_eq n (by omega);generalize bitsLen n=k at hl e0
 have hk:k<=62:=by
  refine Nat.le_of_not_lt fun h=> ?_
  have:(2:Nat) ^ 63<=2 ^ k:=Nat.pow_le_pow_right (by decide) h;omega
 have hL:Hid (∀w,Calls prog 284 #[.int .u64 (n:Int)] w fun e w'=>e= .returned (.int .i64 (k:Int))/\w'=w):=fun w=>by
  have h:=Any.bits_Len Tryz.lays125 (n:Int) w (by omega) (by omega);rw[Int.toNat_natCast,e0] at h;exact h
 have hp:=wrap_two_pow k hk;have HE:=qH hl;have hsh:((1 <<< k:Nat):Int)=((2 ^ k:Nat):Int):=by rw[Nat.one_shiftLeft]
 clear hl e0
 go_enter func303,ntmps303
 go_wp2_with (first | (go_at_call 284;refine(hL.out _).mono ?_;rintro e w' ⟨rfl,rfl⟩))
 go_ret;exact⟨k,HE.out.1,HE.out.2,(by show Ending.returned (.int .u64 ((2:Int) ^ k))=_;rw[show (((2 ^ k:Nat)):Int)=(2:Int) ^ k by push_cast;rfl]),rfl⟩
end
section
open Go.RowKit Go.Sort
namespace Z
theorem Top.set {w wr:World}{blk off rb:Nat}{d:Array Int}(h:Go.Sort.At en w blk off d wr)(hr:w.heap.size<=rb)(v:Value):Go.Sort.At en w blk off d (wr.setCell ⟨rb,0,none⟩ v):=by
 obtain⟨n,os,rfl⟩:=h;refine⟨n,os.modify (rb - w.heap.size) (onCells (·.setIfInBounds 0 v)),?_⟩;rw[setCell_eq,mapBlock_grow_new _ _ _ _ (by simpa using hr)];simp
theorem Top.alloc {w:World}{blk off:Nat}{d:Array Int}(h:Holds en w blk off d)(o:Obj):Go.Sort.At en w blk off d (w.alloc o):=⟨0,#[o],by rw[ahead_zero,putRow_self en w blk off d h,alloc_eq_grow]⟩
theorem Top.swap {w wr:World}{blk off:Nat}{d0 e:Array Int}(h:Go.Sort.At en w blk off e wr)(h0:Holds en w blk off d0)(hs:e.size=d0.size)(hb:blk<w.heap.size){i j:Nat}(hi:i<e.size)(hj:j<e.size)(q:Nat) :
  Go.Sort.At en w blk off (swp e i j) (((wr.drewN q).setCell ⟨blk,off+i,none⟩ (.int .i32 e[j]!)).setCell ⟨blk,off+j,none⟩ (.int .i32 e[i]!)):=by
 have h1:Z.At wr blk off e.size (swp e i j) _:=(Z.At.start (h.holds h0 hs hb).1).swap hi hj q;exact h.step hb (size_swp _ _ _) h1.2
def Br (w:World) (blk off a n:Nat) (d e:Array Int) (wr:World):Prop:=Go.Sort.At en w blk off e wr/\PermIn a (a+n) d e/\∃X:Nat,X<18446744073709551616/\wr.heap[w.heap.size]?=some (.cells #[.int .u64 X] 345)
theorem Br.next {w wr:World}{blk off a n:Nat}{d e:Array Int}(h:Br w blk off a n d e wr)(v k:Nat)(hv:v<18446744073709551616):Br w blk off a n d e ((wr.setCell ⟨w.heap.size,0,none⟩ (.int .u64 v)).drewN k):=by
 obtain⟨h1,h2,X,hX,h3⟩:=h;exact⟨(Top.set h1 qN _).ahead k,h2,v,hv,heap_setCell_same wr w.heap.size 0 _ _ _ h3⟩
theorem Br.swap {w wr:World}{blk off a n:Nat}{d e:Array Int}(h:Br w blk off a n d e wr)(h0:Holds en w blk off d)(hb:blk<w.heap.size)(hn:a+n<=d.size){i j:Nat}(hi:a<=i/\i<a+n)(hj:a<=j/\j<a+n)(q:Nat) :
  Br w blk off a n d (swp e i j) (((wr.drewN q).setCell ⟨blk,off+i,none⟩ (.int .i32 e[j]!)).setCell ⟨blk,off+j,none⟩ (.int .i32 e[i]!)):=by
 obtain⟨h1,h2,X,hX,h3⟩:=h;have hs:=h2.1;refine⟨Top.swap h1 h0 hs hb (by omega) (by omega) q,permIn_trans _ _ _ _ _ h2 (swp_permIn e a (a+n) i j hi.1 hi.2 hj.1 hj.2 (by omega)),X,hX,?_⟩;rw[heap_setCell_other _ _ _ _ (show w.heap.size≠blk by omega),heap_setCell_other _ _ _ _ (show w.heap.size≠blk by omega)];exact h3
theorem zx2 (v M:Nat)(h0:0<M):v &&& (M - 1)<M:=Nat.lt_of_le_of_lt Nat.and_le_right (by omega)
end Z
theorem zmo (w:World)(blk off cap a n:Nat)(d:Array Int)(hH:Holds Z.en w blk off d)(hn:a+n<=d.size)(h8:8<=n)(hsz:d.size<1152921504606846976) :
  Calls prog 291 #[.slice (some ⟨blk,off,none⟩) d.size cap,.int .i64 a,.int .i64 ((a+n:Nat):Int)] w fun e w'=>e= .returned (.tuple #[])/\∃d',PermIn a (a+n) d d'/\Go.Sort.At Z.en w blk off d' w':=by
 have hbl:blk<w.heap.size:=World.block_lt_of_cell? w _ (hH 0 (by omega)).1;have hne:¬blk=w.heap.size:=by omega
 have HH:=qH hH;have HS:Hid (Z.Br w blk off a n d d (w.alloc (.cells #[.int .u64 n] 345))):=⟨Z.Top.alloc hH _,permIn_refl _ _ _,n,by omega,(by show (w.heap.push _)[w.heap.size]?=_;exact Array.getElem?_push_size)⟩;clear hH;obtain⟨q,hq⟩:∃q,4*q<=n/\n<=4*q+3:=⟨n / 4,by omega⟩;obtain⟨i0,hi0⟩:∃i0,a+q*2<=i0+1/\i0+1<=a+q*2:=⟨a+q*2 - 1,by omega⟩;have hP:=qH <| zmm n (by omega) (by omega)
 go_enter func291,ntmps291
 go_wp2_with fail
 rw[show ((a:Int)+n - a)=(n:Int) by omega]
 go_at_call 303
 refine(hP.out _).mono ?_;rintro _ w1 ⟨k,hk1,hk2,rfl,rfl⟩;generalize 2 ^ k=M at hk1 hk2
 go_wp2_with fail
 rw[show ((n:Int) / 4)=(q:Int) by omega,show ((a:Int)+q*2 - 1)=(i0:Int) by omega]
 go_loopw [9] (fun v9 wr=>∃(i:Nat) (e:Array Int),v9= .int .i64 i/\i0<=i/\i<=i0+3/\Hid (Z.Br w blk off a n d e wr)) (fun v9 _=>i0+3 - (RowKit.intOf v9).toNat)
 case atStart=>exact⟨i0,d,rfl,qN,by omega,HS.out⟩
 case round =>
  obtain⟨i,e,rfl,hi1,hi2,HB⟩:=hrel;clear HS
  by_cases hlt:i<i0+3
  ·obtain⟨_,_,X,hX,hbx⟩:=HB.out;have hN:Hid (∀W,W=wr->Calls prog 304 #[.pointer (some ⟨w.heap.size,0,none⟩)] W fun e w'=>∃v:Nat,v<18446744073709551616/\e= .returned (.int .u64 v)/\∃k,w'=(W.setCell ⟨w.heap.size,0,none⟩ (.int .u64 v)).drewN k):=fun W hW=>by subst hW;exact zo0 W w.heap.size X hX hbx
   clear hbx
   go_wp2_with fail
   go_at_call 304
   refine(hN.out _ rfl).mono ?_;rintro _ w2 ⟨v,hv,rfl,k2,hw2⟩;have HB2:Hid (Z.Br w blk off a n d e w2):=by rw[hw2];exact HB.out.next v k2 hv
   clear hw2 hN HB;obtain⟨o,ho,ho1⟩:∃o:Nat,bits .and .u64 (v:Int) ((M:Int) - 1)=(o:Int)/\o<M:=⟨v &&& (M - 1),by rw[show ((M:Int) - 1)=((M - 1:Nat):Int) by omega,bits_and_u64_nat _ _ hv (by omega)],Z.zx2 v M (by omega)⟩
   go_upto_if 43 with fail
   go_cut [10] (fun v10 wx=>∃c:Nat,v10= .int .i64 c/\c<n/\wx=w2)
   case first =>
    by_cases hc:n<=o
    ·go_wp2
     go_meet
     case rel=>exact⟨o - n,by congr 1;omega,by omega,rfl⟩
    ·go_wp2
     go_meet
     case rel=>exact⟨o,rfl,by omega,rfl⟩
   case rest =>
    obtain⟨c,rfl,hc,rfl⟩:=hcut;clear ho ho1;have hes:=HB2.out.2.1.1;have HES:=qH hes;clear hes;obtain⟨G,hG⟩:∃G:Nat->Int,∀t,G t=e[t]! := ⟨fun t=>e[t]!,fun _=>rfl⟩;have hcw:∀t,t<d.size->wc.cell? ⟨blk,off+t,none⟩=some (.int .i32 (G t)):=fun t ht=>by rw[hG];exact((HB2.out.1.holds HH.out HES.out hbl).1 t (by have:=HES.out;omega)).1
    have hfw:∀t,t<d.size->wc.frozen? ⟨blk,off+t,none⟩=false:=fun t ht=>((HB2.out.1.holds HH.out HES.out hbl).1 t (by have:=HES.out;omega)).2
    have hsw:=HB2.out.swap HH.out hbl hn (i:=i) (j:=a+c) (by omega) (by omega) 1;rw[<- hG,<- hG] at hsw;have HSw:=qH hsw;clear hsw hG HB2;obtain⟨v',x1⟩:∃v',((wc.setCell ⟨blk,off+i,none⟩ (.int .i32 (G (a+c)))).drew).cell? ⟨blk,off+(a+c),none⟩=some v':=cell?_setCell_some (w:=wc) (p:=⟨blk,off+i,none⟩) (x:= .int .i32 (G (a+c))) (q:=⟨blk,off+(a+c),none⟩) (hcw (a+c) (by omega));have x2:((wc.setCell ⟨blk,off+i,none⟩ (.int .i32 (G (a+c)))).drew).frozen? ⟨blk,off+(a+c),none⟩=false:=(World.frozen?_setCell _ _ _ _).trans (hfw (a+c) (by omega))
    go_wp2_with fail
    go_region
    all_goals go_wp2
    go_roundw
    case rel=>exact⟨i+1,_,by go_num,by omega,by omega,HSw.out⟩
    case measure=>simp[RowKit.intOf];omega
  ·go_wp2
   go_end0
   exact⟨rfl,e,HB.out.2.1,HB.out.1⟩
