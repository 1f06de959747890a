import Derived.Test.YthnmmmkeamcfkaaGreatDoorOdIns
set_option maxHeartbeats 0
set_option maxRecDepth 20000
set_option linter.unusedSimpArgs false
set_option linter.unusedVariables false
namespace Go.Proofs.YthnmmmkeamcfkaaGreatDoor
open Go.Proofs.Tryz
section
open Go.RowKit Go.Sort Go.Shelf
theorem znv (w0 w:World)(blk off n cap a m b:Nat)(P B Q:List Int)(x:Int)(h0:Nm.In w0 blk off n (P++(x::B)++Q) w)(ha:a=P.length)(hm:m=a+1)(hb:b=m+B.length)(hB:Nm.Srt B)(hsz:n<1152921504606846976) :
  Calls prog 186 #[.slice (some ⟨blk,off,none⟩) n cap,.int .i64 a,.int .i64 m,.int .i64 b,.func (.func 94) #[] #[]] w fun e w'=>e= .returned (.tuple #[])/\∃S',S'.length=B.length+1/\Nm.Srt S'/\Nm.Eqv (x::B) S'/\Nm.In w0 blk off n (P++S'++Q) w':=by
 have eg:∀args w,(callFunc 94 args).run prog w= .ok (.enter 94 args) w:=enters_of func94 (by kernel_rfl) rfl;have hlen:=h0.1;simp only[List.length_append,List.length_cons] at hlen;have hbn:b<=n:=by omega
 have hmb:m<=b:=by omega
 have e1:(m:Int) - (a:Int)=1:=by omega
 have ham:a+1<=m:=by omega
 have hma:m<=a+1:=by omega
 have HL:Hid (a=P.length/\m=a+1/\b=m+B.length/\Nm.Srt B):=⟨ha,hm,hb,hB⟩;obtain⟨G,hG⟩:∃G:Nat->Int,∀t,G t=(P++(x::B)++Q).toArray[t]! := ⟨fun t=>(P++(x::B)++Q).toArray[t]!,fun _=>rfl⟩
 have HGa:Hid (G a=x):=by
  show _=_;rw[hG,Nm.zb3 P (x::B) Q (by omega) (by simp;omega)];simp[ha]
 have HGB:Hid (∀(t k:Nat) (h:k<B.length),t=m+k->G t=B[k]):=fun t k h e0=>by
  have e:P++(x::B)++Q=(P++ [x])++B++Q:=by simp
  rw[hG,e,Nm.zb3 (P++ [x]) B Q (by simp;omega) (by simp;omega)];congr 1;simp;omega
 have HIn:=qH h0;have HG:=qH hG;clear h0 ha hm hb hB hlen hG
 go_enter func186,ntmps186
 go_wp2
 go_loopw [10,11] (fun vi vj wr=>∃i j:Nat,vi= .int .i64 i/\vj= .int .i64 j/\m<=i/\i<=j/\j<=b/\Hid (Nm.In w0 blk off n (P++(x::B)++Q) wr)/\Hid ((m<i->Nm.cls (G (i - 1))<Nm.cls x)/\(j<b->Nm.cls x<=Nm.cls (G j)))) (fun vi vj _=>(RowKit.intOf vj).toNat - (RowKit.intOf vi).toNat)
 case atStart=>exact⟨m,b,rfl,rfl,qN,hmb,qN,HIn.out,fun h=>absurd h (Nat.lt_irrefl _),fun h=>absurd h (Nat.lt_irrefl _)⟩
 case round =>
  obtain⟨i,j,rfl,rfl,hmi,hij,hjb,HI,HO⟩:=hrel
  by_cases hlt:i<j
  ·obtain⟨c,hc⟩:∃c:Nat,((i:Int)+(j:Int)) / 2=(c:Int):=⟨(i+j) / 2,by omega⟩;have hc1:i<=c:=by omega
   have hc2:c<j:=by omega
   have hcw:∀t,t<n->wr.cell? ⟨blk,off+t,none⟩=some (.int .i32 (G t)):=fun t ht=>by rw[HG.out];exact HI.out.cell t ht
   have ca:wr.cell? ⟨blk,off+a,none⟩=some (.int .i32 x):=by rw[hcw a (by omega),HGa.out]
   obtain⟨y,hy⟩:∃y,y=G c:=⟨_,rfl⟩;have cc:wr.cell? ⟨blk,off+c,none⟩=some (.int .i32 y):=by rw[hcw c (by omega),hy]
   have HY:=qH hy;have HC:Hid (Nm.cmp y x<0↔Nm.cls y<Nm.cls x):=Nm.zd7;clear hcw hy;go_wp2
   by_cases hxy:Nm.cmp y x<0
   ·go_quiet (first | (go_at_call 94;refine Calls.quiet_of_same (zbi _ _ _)))
    go_wp2
    go_roundw
    case rel=>exact⟨c+1,j,by go_num,rfl,by omega,by omega,hjb,HI.out.drew _,fun _=>by rw[Nat.add_sub_cancel,<- HY.out];exact HC.out.1 hxy,HO.out.2⟩
    case measure=>simp[RowKit.intOf];omega
   ·go_quiet (first | (go_at_call 94;refine Calls.quiet_of_same (zbi _ _ _)))
    go_wp2
    go_roundw
    case rel=>exact⟨i,c,rfl,rfl,hmi,by omega,by omega,HI.out.drew _,HO.out.1,fun _=>by rw[<- HY.out];exact Int.not_lt.1 fun h=>hxy (HC.out.2 h)⟩
    case measure=>simp[RowKit.intOf];omega
  ·have hje:j=i:=by omega
   subst hje;have hk:j - m<=B.length:=by have:=HL.out;omega
   have HS:Hid (Nm.Srt (B.take (j - m)++x::B.drop (j - m))/\Nm.Eqv (x::B) (B.take (j - m)++x::B.drop (j - m))):=by
    have hb:=HL.out.2.2.1;refine Nm.zkd HL.out.2.2.2 (Nm.zc7 HL.out.2.2.2 hk fun h=> ?_) (Nm.zbc HL.out.2.2.2 fun h=> ?_)
    ·have h1:=HO.out.1 (by omega);rw[HGB.out (j - 1) (j - m - 1) (by omega) (by omega)] at h1;exact h1
    ·have h1:=HO.out.2 (by omega);rw[HGB.out j (j - m) (by omega) (by omega)] at h1;exact h1
   obtain⟨D,hD⟩:∃D,D=B.take (j - m):=⟨_,rfl⟩;obtain⟨R,hR⟩:∃R,R=B.drop (j - m):=⟨_,rfl⟩;have hDl:m+D.length=j:=by rw[hD,List.length_take];omega
   have HB:Hid (B=D++R/\m+D.length=j):=⟨by rw[hD,hR,List.take_append_drop],hDl⟩;rw[<- hD,<- hR] at HS
   have HU:Hid (Nm.In w0 blk off n (Nm.up P D x (R++Q) 0) wr):=by
    show Nm.In _ _ _ _ _ _;rw[Nm.zg6];refine HI.out.of ?_;rw[HB.out.1];simp
   have hDl1:m+D.length<=j:=by omega
   have hDl2:j<=m+D.length:=by omega
   clear HI HO HGB HGa HG HIn hk hD hR hDl;go_wp2
   go_loopw [13] (fun vk wr=>∃t:Nat,vk= .int .i64 ((a+t:Nat):Int)/\t<=D.length/\Hid (Nm.In w0 blk off n (Nm.up P D x (R++Q) t) wr)) (fun vk _=>j - (RowKit.intOf vk).toNat)
   case atStart=>exact⟨0,by simp,Nat.zero_le _,HU.out⟩
   case round =>
    obtain⟨t,rfl,ht,HT⟩:=hrel;clear HU
    by_cases hlt:t<D.length
    ·obtain⟨F,hF⟩:∃F:Nat->Int,∀q,F q=(Nm.up P D x (R++Q) t).toArray[q]! := ⟨fun q=>(Nm.up P D x (R++Q) t).toArray[q]!,fun _=>rfl⟩;obtain⟨k,hk⟩:∃k,k=a+t:=⟨_,rfl⟩;have hk1:k+1<j:=by omega
     have hcw:∀q,q<n->wr.cell? ⟨blk,off+q,none⟩=some (.int .i32 (F q)):=fun q hq=>by rw[hF];exact HT.out.cell q hq
     have hfw:=fun q hq=>HT.out.free q hq
     have HW:Hid (∀q,Nm.In w0 blk off n (Nm.up P D x (R++Q) (t+1)) (((wr.drewN q).setCell ⟨blk,off+k,none⟩ (.int .i32 (F (k+1)))).setCell ⟨blk,off+(k+1),none⟩ (.int .i32 (F k)))):=fun q=>by
      rw[hF,hF];exact HT.out.swap (i:=k) (j:=k+1) (by omega) (by omega) (Nm.zpi P D x (R++Q) hlt (by have:=HL.out.1;omega)) q
     rw[<- hk];have HK:=qH hk;clear hF HT hk;go_wp2
     go_region
     all_goals go_wp2
     go_roundw
     case rel=>exact⟨t+1,by have:=HK.out;congr 1;omega,by omega,HW.out 1⟩
     case measure=>have:=HK.out;simp[RowKit.intOf];omega
    ·have e:t=D.length:=by omega
     have HE:Hid (Nm.In w0 blk off n (P++(D++x::R)++Q) wr):=by
      have h:=HT.out;rw[e,Nm.zli] at h;refine h.of ?_;simp
     clear HT;go_wp2;refine bodyPost_ret (v:= .tuple #[]) (by simp[results,results186,go_sem, *]) rfl ?_;refine⟨rfl,_,?_,HS.out.1,HS.out.2,HE.out⟩;rw[HB.out.1];simp;omega
theorem znu (w0 w:World)(blk off n cap a m b:Nat)(P A Q:List Int)(y:Int)(h0:Nm.In w0 blk off n (P++(A++ [y])++Q) w)(ha:a=P.length)(hm:m=a+A.length)(hb:b=m+1)(h2:2<=A.length)(hA:Nm.Srt A)(hsz:n<1152921504606846976) :
  Calls prog 186 #[.slice (some ⟨blk,off,none⟩) n cap,.int .i64 a,.int .i64 m,.int .i64 b,.func (.func 94) #[] #[]] w fun e w'=>e= .returned (.tuple #[])/\∃S',S'.length=A.length+1/\Nm.Srt S'/\Nm.Eqv (A++ [y]) S'/\Nm.In w0 blk off n (P++S'++Q) w':=by
 have eg:∀args w,(callFunc 94 args).run prog w= .ok (.enter 94 args) w:=enters_of func94 (by kernel_rfl) rfl;have hlen:=h0.1;simp only[List.length_append,List.length_cons,List.length_nil] at hlen;have hmn:m<n:=by omega
 have ham:a+2<=m:=by omega
 have e1:¬((m:Int) - (a:Int)=1):=by omega
 have e2:(b:Int) - (m:Int)=1:=by omega
 have HL:Hid (a=P.length/\m=a+A.length/\b=m+1/\Nm.Srt A):=⟨ha,hm,hb,hA⟩;obtain⟨G,hG⟩:∃G:Nat->Int,∀t,G t=(P++(A++ [y])++Q).toArray[t]! := ⟨fun t=>(P++(A++ [y])++Q).toArray[t]!,fun _=>rfl⟩
 have HGm:Hid (G m=y):=by
  show _=_;have e:P++(A++ [y])++Q=(P++A)++y::Q:=by simp
  rw[hG,e];exact Nm.zc4 (P++A) Q y (by simp;omega)
 have HGA:Hid (∀(t k:Nat) (h:k<A.length),t=a+k->G t=A[k]):=fun t k h e0=>by
  have e:P++(A++ [y])++Q=P++A++([y]++Q):=by simp
  rw[hG,e,Nm.zb3 P A ([y]++Q) (by omega) (by omega)];congr 1;omega
 have HIn:=qH h0;have HG:=qH hG;clear h0 ha hm hb hA hlen hG h2
 go_enter func186,ntmps186
 go_wp2
 go_loopw [14,15] (fun vi vj wr=>∃i j:Nat,vi= .int .i64 i/\vj= .int .i64 j/\a<=i/\i<=j/\j<=m/\Hid (Nm.In w0 blk off n (P++(A++ [y])++Q) wr)/\Hid ((a<i->Nm.cls (G (i - 1))<=Nm.cls y)/\(j<m->Nm.cls y<Nm.cls (G j)))) (fun vi vj _=>(RowKit.intOf vj).toNat - (RowKit.intOf vi).toNat)
 case atStart=>exact⟨a,m,rfl,rfl,qN,by omega,qN,HIn.out,fun h=>absurd h (Nat.lt_irrefl _),fun h=>absurd h (Nat.lt_irrefl _)⟩
 case round =>
  obtain⟨i,j,rfl,rfl,hai,hij,hjm,HI,HO⟩:=hrel
  by_cases hlt:i<j
  ·obtain⟨c,hc⟩:∃c:Nat,((i:Int)+(j:Int)) / 2=(c:Int):=⟨(i+j) / 2,by omega⟩;have hc1:i<=c:=by omega
   have hc2:c<j:=by omega
   have hcw:∀t,t<n->wr.cell? ⟨blk,off+t,none⟩=some (.int .i32 (G t)):=fun t ht=>by rw[HG.out];exact HI.out.cell t ht
   have cm:wr.cell? ⟨blk,off+m,none⟩=some (.int .i32 y):=by rw[hcw m (by omega),HGm.out]
   obtain⟨x,hx⟩:∃x,x=G c:=⟨_,rfl⟩;have cc:wr.cell? ⟨blk,off+c,none⟩=some (.int .i32 x):=by rw[hcw c (by omega),hx]
   have HY:=qH hx;have HC:Hid (Nm.cmp y x<0↔Nm.cls y<Nm.cls x):=Nm.zd7;clear hcw hx;go_wp2
   by_cases hxy:Nm.cmp y x<0
   ·go_quiet (first | (go_at_call 94;refine Calls.quiet_of_same (zbi _ _ _)))
    go_wp2
    go_roundw
    case rel=>exact⟨i,c,rfl,rfl,hai,by omega,by omega,HI.out.drew _,HO.out.1,fun _=>by rw[<- HY.out];exact HC.out.1 hxy⟩
    case measure=>simp[RowKit.intOf];omega
   ·go_quiet (first | (go_at_call 94;refine Calls.quiet_of_same (zbi _ _ _)))
    go_wp2
    go_roundw
    case rel=>exact⟨c+1,j,by go_num,rfl,by omega,by omega,hjm,HI.out.drew _,fun _=>by rw[Nat.add_sub_cancel,<- HY.out];exact Int.not_lt.1 fun h=>hxy (HC.out.2 h),HO.out.2⟩
    case measure=>simp[RowKit.intOf];omega
  ·have hje:j=i:=by omega
   subst hje;have hk:j - a<=A.length:=by have:=HL.out;omega
   have HS:Hid (Nm.Srt (A.take (j - a)++y::A.drop (j - a))/\Nm.Eqv (A++ [y]) (A.take (j - a)++y::A.drop (j - a))):=by
    have hm:=HL.out.2.1
    have k1:=Nm.zbb HL.out.2.2.2 hk fun h=>by
     have h1:=HO.out.1 (by omega);rw[HGA.out (j - 1) (j - a - 1) (by omega) (by omega)] at h1;exact h1
    have k2:∀u∈A.drop (j - a),Nm.cls y<Nm.cls u:=Nm.zc8 HL.out.2.2.2 fun h=>by
     have h1:=HO.out.2 (by omega);rw[HGA.out j (j - a) (by omega) (by omega)] at h1;exact h1
    refine⟨Nm.zc9 (by rw[List.take_append_drop];exact HL.out.2.2.2) k1 k2,?_⟩;have h:=Nm.zda (D1:=A.take (j - a)) k2;rw[List.take_append_drop] at h;exact h
   obtain⟨E,hE⟩:∃E,E=A.take (j - a):=⟨_,rfl⟩;obtain⟨D,hD⟩:∃D,D=A.drop (j - a):=⟨_,rfl⟩;have hEl:a+E.length=j:=by rw[hE,List.length_take];omega
   have hDl:j+D.length=m:=by have:=HL.out.2.1;rw[hD,List.length_drop];omega
   have HB:Hid (A=E++D/\a+E.length=j):=⟨by rw[hE,hD,List.take_append_drop],hEl⟩;rw[<- hE,<- hD] at HS
   have HU:Hid (Nm.In w0 blk off n (Nm.up (P++E) D y Q D.length) wr):=by
    show Nm.In _ _ _ _ _ _;rw[Nm.zli];refine HI.out.of ?_;rw[HB.out.1];simp
   have hDl1:j+D.length<=m:=by omega
   have hDl2:m<=j+D.length:=by omega
   clear HI HO HGA HGm HG HIn hk hD hE hEl hDl;go_wp2
   go_loopw [17] (fun vk wr=>∃t:Nat,vk= .int .i64 ((j+t:Nat):Int)/\t<=D.length/\Hid (Nm.In w0 blk off n (Nm.up (P++E) D y Q t) wr)) (fun vk _=>(RowKit.intOf vk).toNat)
   case atStart=>exact⟨D.length,by congr 1;omega,qN,HU.out⟩
   case round =>
    obtain⟨t,rfl,ht,HT⟩:=hrel;clear HU;cases t with
    | succ t =>
     obtain⟨F,hF⟩:∃F:Nat->Int,∀q,F q=(Nm.up (P++E) D y Q (t+1)).toArray[q]! := ⟨fun q=>(Nm.up (P++E) D y Q (t+1)).toArray[q]!,fun _=>rfl⟩;obtain⟨k,hk⟩:∃k,k=j+(t+1):=⟨_,rfl⟩;have hk1:j<k:=by omega
     have hk2:k<=m:=by omega
     have hcw:∀q,q<n->wr.cell? ⟨blk,off+q,none⟩=some (.int .i32 (F q)):=fun q hq=>by rw[hF];exact HT.out.cell q hq
     have hfw:=fun q hq=>HT.out.free q hq
     have HW:Hid (∀q,Nm.In w0 blk off n (Nm.up (P++E) D y Q t) (((wr.drewN q).setCell ⟨blk,off+k,none⟩ (.int .i32 (F (k - 1)))).setCell ⟨blk,off+(k - 1),none⟩ (.int .i32 (F k)))):=fun q=>by
      rw[hF,hF];exact HT.out.swap (i:=k) (j:=k - 1) (by omega) (by omega) (Nm.zpj (P++E) D y Q (by omega) (by have:=HL.out.1;have:=HB.out.2;simp;omega)) q
     rw[<- hk];have HK:=qH hk;clear hF HT hk;go_wp2
     go_region
     all_goals go_wp2
     go_roundw
     case rel=>exact⟨t,by have:=HK.out;congr 1;omega,by omega,HW.out 1⟩
     case measure=>have:=HK.out;simp[RowKit.intOf];omega
    | zero =>
     have HE:Hid (Nm.In w0 blk off n (P++(E++y::D)++Q) wr):=by
      have h:=HT.out;rw[Nm.zg6] at h;refine h.of ?_;simp
     clear HT;go_wp2;refine bodyPost_ret (v:= .tuple #[]) (by simp[results,results186,go_sem, *]) rfl ?_;refine⟨rfl,_,?_,HS.out.1,HS.out.2,HE.out⟩;rw[HB.out.1];simp;omega
end
section
open Go.RowKit Go.Sort Go.Shelf
namespace Nm
def Mg (w0:World) (blk off n:Nat) (P A B Q:List Int) (w':World):Prop:=∃S',S'.length=A.length+B.length/\Srt S'/\Eqv (A++B) S'/\In w0 blk off n (P++S'++Q) w'
end Nm
theorem znt (N:Nat)(w0 w:World)(blk off n cap a m b:Nat)(P A B Q:List Int)(h0:Nm.In w0 blk off n (P++(A++B)++Q) w)(ha:a=P.length)(hm:m=a+A.length)(hb:b=m+B.length)(hA2:2<=A.length)(hB2:2<=B.length)(hA:Nm.Srt A)(hB:Nm.Srt B)(hsz:n<1152921504606846976)(hN:A.length+B.length<=N+1)
  (ih:∀(X:World) (a m b:Nat) (P A B Q:List Int),Nm.In w0 blk off n (P++(A++B)++Q) X->a=P.length->m=a+A.length->b=m+B.length->1<=A.length->1<=B.length->A.length+B.length<=N->Nm.Srt A->Nm.Srt B->Calls prog 186 #[.slice (some ⟨blk,off,none⟩) n cap,.int .i64 a,.int .i64 m,.int .i64 b,.func (.func 94) #[] #[]] X fun e w'=>e= .returned (.tuple #[])/\Nm.Mg w0 blk off n P A B Q w') :
  Calls prog 186 #[.slice (some ⟨blk,off,none⟩) n cap,.int .i64 a,.int .i64 m,.int .i64 b,.func (.func 94) #[] #[]] w fun e w'=>e= .returned (.tuple #[])/\Nm.Mg w0 blk off n P A B Q w':=by
 have eg:∀args w,(callFunc 94 args).run prog w= .ok (.enter 94 args) w:=enters_of func94 (by kernel_rfl) rfl;have hlen:=h0.1;simp only[List.length_append] at hlen;have hbn:b<=n:=by omega
 have ham:a+2<=m:=by omega
 have hmb:m+2<=b:=by omega
 have e1:¬((m:Int) - (a:Int)=1):=by omega
 have e2:¬((b:Int) - (m:Int)=1):=by omega
 obtain⟨d,hd⟩:∃d:Nat,((a:Int)+(b:Int)) / 2=(d:Int):=⟨(a+b) / 2,by omega⟩;have hd1:2*d<=a+b:=by omega
 have hd2:a+b<=2*d+1:=by omega
 have HIh:=qH ih;have HL:Hid (a=P.length/\m=a+A.length/\b=m+B.length/\Nm.Srt A/\Nm.Srt B/\A.length+B.length<=N+1):=⟨ha,hm,hb,hA,hB,hN⟩;obtain⟨G,hG⟩:∃G:Nat->Int,∀t,G t=(P++(A++B)++Q).toArray[t]! := ⟨fun t=>(P++(A++B)++Q).toArray[t]!,fun _=>rfl⟩
 have HGA:Hid (∀(t k:Nat) (h:k<A.length),t=a+k->G t=A[k]):=fun t k h e0=>by
  have e:P++(A++B)++Q=P++A++(B++Q):=by simp
  rw[hG,e,Nm.zb3 P A (B++Q) (by omega) (by omega)];congr 1;omega
 have HGB:Hid (∀(t k:Nat) (h:k<B.length),t=m+k->G t=B[k]):=fun t k h e0=>by
  have e:P++(A++B)++Q=(P++A)++B++Q:=by simp
  rw[hG,e,Nm.zb3 (P++A) B Q (by simp;omega) (by simp;omega)];congr 1;simp;omega
 have HIn:=qH h0;have HG:=qH hG
 obtain⟨s0,r0,hs0⟩:∃s0 r0:Nat,(d<m->s0+b=d+m/\r0=d)/\(¬d<m->s0=a/\r0=m):=by
  by_cases h:d<m
  ·exact⟨d+m - b,d,fun _=>⟨by omega,rfl⟩,fun h'=>absurd h h'⟩
  ·exact⟨a,m,fun h'=>absurd h' h,fun _=>⟨rfl,rfl⟩⟩
 have HS0:=qH hs0
 have hq:a<=s0/\s0<=r0/\r0<=m/\d+m<=s0+b/\r0<=d/\(s0=a∨s0+b=d+m)/\(r0=m∨r0=d):=by
  by_cases h:d<m
  ·have:=hs0.1 h;omega
  ·have:=hs0.2 h;omega
 obtain⟨q1,q2,q3,q4,q5,q6,q7⟩:=hq;have HQ:Hid ((s0=a∨s0+b=d+m)/\(r0=m∨r0=d)):=⟨q6,q7⟩;clear h0 ha hm hb hA hB hG hN ih hA2 hB2 hs0 q6 q7
 go_enter func186,ntmps186
 go_upto_if 140 with fail
 go_cut [20,21] (fun v20 v21 wx=>wx=w/\v20= .int .i64 (s0:Int)/\v21= .int .i64 (r0:Int))
 case first=>as_aux_lemma =>
  by_cases h:d<m
  ·obtain⟨h1,h2⟩:=HS0.out.1 h;have e3:(d:Int)+(m:Int) - (b:Int)=(s0:Int):=by omega
   subst h2
   go_wp2_with fail
   go_meet
   case rel=>exact⟨rfl,rfl,rfl⟩
  ·obtain⟨h1,h2⟩:=HS0.out.2 h;subst h1 h2
   go_wp2_with fail
   go_meet
   case rel=>exact⟨rfl,rfl,rfl⟩
 case rest =>
  obtain⟨rfl,rfl,rfl⟩:=hcut;clear HS0;have hdm:d+m<=2*n:=by omega
  have hdm2:m<=r0+(b - m)+m:=by omega
  go_wp2
  go_loopw [20,21] (fun vi vj wr=>∃i j:Nat,vi= .int .i64 i/\vj= .int .i64 j/\s0<=i/\i<=j/\j<=r0/\Hid (Nm.In w0 blk off n (P++(A++B)++Q) wr)/\Hid ((s0<i->Nm.cls (G (i - 1))<=Nm.cls (G (d+m - i)))/\(j<r0->Nm.cls (G (d+m - 1 - j))<Nm.cls (G j)))) (fun vi vj _=>(RowKit.intOf vj).toNat - (RowKit.intOf vi).toNat)
  case atStart=>exact⟨s0,r0,rfl,rfl,qN,q2,qN,HIn.out,fun h=>absurd h (Nat.lt_irrefl _),fun h=>absurd h (Nat.lt_irrefl _)⟩
  case round =>
   obtain⟨i,j,rfl,rfl,hsi,hij,hjr,HI,HO⟩:=hrel
   by_cases hlt:i<j
   ·as_aux_lemma =>
    obtain⟨c,hc⟩:∃c:Nat,((i:Int)+(j:Int)) / 2=(c:Int):=⟨(i+j) / 2,by omega⟩;have hc1:i<=c:=by omega
    have hc2:c<j:=by omega
    obtain⟨k,hk⟩:∃k:Nat,(d:Int)+(m:Int) - 1 - (c:Int)=(k:Int):=⟨d+m - 1 - c,by omega⟩;have hcw:∀t,t<n->wr.cell? ⟨blk,off+t,none⟩=some (.int .i32 (G t)):=fun t ht=>by rw[HG.out];exact HI.out.cell t ht
    obtain⟨x,hx⟩:∃x,x=G k:=⟨_,rfl⟩;obtain⟨y,hy⟩:∃y,y=G c:=⟨_,rfl⟩;have ck:wr.cell? ⟨blk,off+k,none⟩=some (.int .i32 x):=by rw[hcw k (by omega),hx]
    have cc:wr.cell? ⟨blk,off+c,none⟩=some (.int .i32 y):=by rw[hcw c (by omega),hy]
    have hkn:k<n:=by omega
    have HY:Hid (x=G k/\y=G c/\k=d+m - 1 - c):=⟨hx,hy,by omega⟩;have HC:Hid (Nm.cmp x y<0↔Nm.cls x<Nm.cls y):=Nm.zd7;clear hcw hx hy;go_wp2
    by_cases hxy:Nm.cmp x y<0
    ·go_quiet (first | (go_at_call 94;refine Calls.quiet_of_same (zbi _ _ _)))
     go_wp2
     go_roundw
     case rel=>exact⟨i,c,rfl,rfl,hsi,by omega,by omega,HI.out.drew _,HO.out.1,fun _=>by obtain⟨h1,h2,h3⟩:=HY.out;rw[<- h3,<- h1,<- h2];exact HC.out.1 hxy⟩
     case measure=>simp[RowKit.intOf];omega
    ·go_quiet (first | (go_at_call 94;refine Calls.quiet_of_same (zbi _ _ _)))
     go_wp2
     go_roundw
     case rel=>exact⟨c+1,j,by go_num,rfl,by omega,by omega,hjr,HI.out.drew _,fun _=>by obtain⟨h1,h2,h3⟩:=HY.out;rw[show d+m - (c+1)=k by omega,Nat.add_sub_cancel,<- h1,<- h2];exact Int.not_lt.1 fun h=>hxy (HC.out.2 h),HO.out.2⟩
     case measure=>simp[RowKit.intOf];omega
   ·have hje:j=i:=by omega
    subst hje;obtain⟨e,he⟩:∃e:Nat,(d:Int)+(m:Int) - (j:Int)=(e:Int):=⟨d+m - j,by omega⟩;have he1:m<=e:=by omega
    have he2:e<=b:=by omega
    have he3:e+j<=d+m:=by omega
    have he4:d+m<=e+j:=by omega
    have HF:Hid ((∀u∈A.take (j - a),∀v∈B.drop (e - m),Nm.cls u<=Nm.cls v)/\(∀u∈A.drop (j - a),∀v∈B.take (e - m),Nm.cls v<Nm.cls u)):=by
     obtain⟨g1,g2,g3,g4,g5,g6⟩:=HL.out
     as_aux_lemma =>
     refine⟨fun u hu v hv=> ?_,fun u hu v hv=> ?_⟩
     ·by_cases h:s0<j
      ·have h1:=HO.out.1 h;have hul:=List.length_pos_of_mem hu;have hvl:=List.length_pos_of_mem hv;rw[List.length_take] at hul;rw[List.length_drop] at hvl;rw[HGA.out (j - 1) (j - a - 1) (by omega) (by omega),HGB.out (d+m - j) (e - m) (by omega) (by omega)] at h1;have k1:=Nm.zbb g4 (k:=j - a) (by omega) (fun _=>Int.le_refl (Nm.cls (A[j - a - 1]'(by omega)))) u hu;have k2:=Nm.zbc g5 (k:=e - m) (c:=Nm.cls (B[e - m]'(by omega))) (fun _=>Int.le_refl _) v hv;omega
      ·have hj:j=s0:=by omega
       rcases HQ.out.1 with h1 | h1
       ·rw[show j - a=0 by omega,List.take_zero] at hu;cases hu
       ·rw[List.drop_eq_nil_of_le (by omega)] at hv;cases hv
     ·by_cases h:j<r0
      ·have h1:=HO.out.2 h;have hul:=List.length_pos_of_mem hu;have hvl:=List.length_pos_of_mem hv;rw[List.length_drop] at hul;rw[List.length_take] at hvl;rw[HGA.out j (j - a) (by omega) (by omega),HGB.out (d+m - 1 - j) (e - m - 1) (by omega) (by omega)] at h1;have k1:=Nm.zbb g5 (k:=e - m) (by omega) (fun _=>Int.le_refl (Nm.cls (B[e - m - 1]'(by omega)))) v hv;have k2:=Nm.zbc g4 (k:=j - a) (c:=Nm.cls (A[j - a]'(by omega))) (fun _=>Int.le_refl _) u hu;omega
      ·have hj:j=r0:=by omega
       rcases HQ.out.2 with h1 | h1
       ·rw[List.drop_eq_nil_of_le (by omega)] at hu;cases hu
       ·rw[show e - m=0 by omega,List.take_zero] at hv;cases hv
    obtain⟨A1,hA1⟩:∃A1,A1=A.take (j - a):=⟨_,rfl⟩;obtain⟨A2,hA2⟩:∃A2,A2=A.drop (j - a):=⟨_,rfl⟩;obtain⟨B1,hB1⟩:∃B1,B1=B.take (e - m):=⟨_,rfl⟩;obtain⟨B2,hB2⟩:∃B2,B2=B.drop (e - m):=⟨_,rfl⟩
    have HP:Hid (A=A1++A2/\B=B1++B2/\a+A1.length=j/\j+A2.length=m/\m+B1.length=e/\e+B2.length=b/\P.length=a):=by
     obtain⟨g1,g2,g3,g4,g5,g6⟩:=HL.out;refine⟨by rw[hA1,hA2,List.take_append_drop],by rw[hB1,hB2,List.take_append_drop],?_,?_,?_,?_,g1.symm⟩
     ·rw[hA1,List.length_take];omega
     ·rw[hA2,List.length_drop];omega
     ·rw[hB1,List.length_take];omega
     ·rw[hB2,List.length_drop];omega
    have HSr:Hid (Nm.Srt A1/\Nm.Srt A2/\Nm.Srt B1/\Nm.Srt B2):=by
     obtain⟨g1,g2,g3,g4,g5,g6⟩:=HL.out;rw[HP.out.1] at g4;rw[HP.out.2.1] at g5;exact⟨g4.parts.1,g4.parts.2.1,g5.parts.1,g5.parts.2.1⟩
    have HFin:Hid (∀S1 S2 X,Nm.Srt S1->Nm.Srt S2->Nm.Eqv (A1++B1) S1->Nm.Eqv (A2++B2) S2->S1.length=A1.length+B1.length->S2.length=A2.length+B2.length->Nm.In w0 blk off n (P++S1++S2++Q) X->Nm.Mg w0 blk off n P A B Q X):=fun S1 S2 X k1 k2 k3 k4 k5 k6 k7=>by
     rw[hA1,hB1] at k3;rw[hA2,hB2] at k4;have h:=Nm.four HL.out.2.2.2.1 HL.out.2.2.2.2.1 HF.out.1 HF.out.2 k1 k2 k3 k4;refine⟨S1++S2,?_,h.1,h.2,k7.of (by simp)⟩;have p1:=congrArg List.length HP.out.1;have p2:=congrArg List.length HP.out.2.1;rw[List.length_append] at p1 p2 ⊢;omega
    have HI2:Hid (Nm.In w0 blk off n (P++A1++A2++B1++(B2++Q)) wr):=by
     refine HI.out.of ?_;rw[HP.out.1,HP.out.2.1];simp
    have HN1:Hid (A1.length+B1.length<=N/\A2.length+B2.length<=N):=by
     obtain⟨p1,p2,p3,p4,p5,p6,p7⟩:=HP.out;have:=HL.out.2.2.2.2.2;have x1:=congrArg List.length p1;have x2:=congrArg List.length p2;rw[List.length_append] at x1 x2;exact⟨by omega,by omega⟩
    have HR:Hid (∀(X:World) (a m b:Nat) (P U V Q:List Int),Nm.In w0 blk off n (P++U++V++Q) X->a=P.length->m=P.length+U.length->b=P.length+U.length+V.length->0<U.length->0<V.length->Calls prog 206 #[.slice (some ⟨blk,off,none⟩) n cap,.int .i64 a,.int .i64 m,.int .i64 b,.func (.func 94) #[] #[]] X fun e w'=>e= .returned (.tuple #[])/\Nm.In w0 blk off n (P++V++U++Q) w'):=fun X a m b P U V Q k1 k2 k3 k4 k5 k6=>zq4 w0 X blk off n cap a m b _ P U V Q k1 k2 k3 k4 k5 k6 hsz
    have haj:a<=j:=by omega
    have hjm:j<=m:=by omega
    have hA1l:¬a<j->A1= []:=fun h=>List.eq_nil_of_length_eq_zero (by have:=HP.out;omega)
    have hA2l:¬j<m->A2= []:=fun h=>List.eq_nil_of_length_eq_zero (by have:=HP.out;omega)
    have hB1l:¬m<e->B1= []:=fun h=>List.eq_nil_of_length_eq_zero (by have:=HP.out;omega)
    have hB2l:¬e<b->B2= []:=fun h=>List.eq_nil_of_length_eq_zero (by have:=HP.out;omega)
    have HNil:Hid ((¬a<j->A1= [])/\(¬j<m->A2= [])/\(¬m<e->B1= [])/\(¬e<b->B2= [])):=⟨hA1l,hA2l,hB1l,hB2l⟩;clear HI HO HGA HGB HG HIn HF HQ hA1 hA2 hB1 hB2 hA1l hA2l hB1l hB2l;obtain⟨t1,ht1⟩:∃t1:Bool,t1=(decide (j<m)&&decide (m<e)):=⟨_,rfl⟩;obtain⟨t2,ht2⟩:∃t2:Bool,t2=(decide (a<j)&&decide (j<d)):=⟨_,rfl⟩;have HT1:=qH ht1;have HT2:=qH ht2;clear ht1 ht2
    go_upto_region 39 with fail
    go_cut [185] (fun v wx=>v= .bool t1/\Hid (Nm.In w0 blk off n (P++A1++A2++B1++(B2++Q)) wx))
    case first=>as_aux_lemma =>
     by_cases h1:j<m
     ·by_cases h2:m<e
      ·have h3:t1=true:=by rw[HT1.out];simp[h1,h2]
       subst h3
       go_wp2_with fail
       go_meet
       case rel=>exact⟨rfl,HI2⟩
      ·have h3:t1=false:=by rw[HT1.out];simp[h2]
       subst h3
       go_wp2_with fail
       go_meet
       case rel=>exact⟨rfl,HI2⟩
     ·have h3:t1=false:=by rw[HT1.out];simp[h1]
      subst h3
      go_wp2_with fail
      go_meet
      case rel=>exact⟨rfl,HI2⟩
    case rest =>
    obtain⟨hv,hX⟩:=hcut;subst hv;have HI2:Hid (Nm.In w0 blk off n (P++A1++A2++B1++(B2++Q)) wc):=hX;clear hX
    go_upto_if 185 with fail
    go_cut [] (fun wx=>Hid (Nm.In w0 blk off n (P++(A1++B1)++(A2++B2)++Q) wx))
    case first=>as_aux_lemma =>
     cases t1 with
     | true =>
      have h12:j<m/\m<e:=by have h:=HT1.out;simpa using h.symm
      have hC:=HR.out wc j m e (P++A1) A2 B1 (B2++Q) HI2.out (by have:=HP.out;simp;omega) (by have:=HP.out;simp;omega) (by have:=HP.out;simp;omega) (by have:=HP.out;omega) (by have:=HP.out;omega);clear HR HIh HFin HNil
      go_wp2_with fail
      refine hC.mono ?_;rintro x w1 ⟨rfl,h6⟩;have H6:Hid (Nm.In w0 blk off n (P++(A1++B1)++(A2++B2)++Q) w1):=by refine h6.of ?_;simp
      clear h6 hC
      go_wp2_with fail
      go_meet
      case rel=>exact H6
     | false =>
      have H6:Hid (Nm.In w0 blk off n (P++(A1++B1)++(A2++B2)++Q) wc):=by
       refine HI2.out.of ?_;have h:¬(j<m/\m<e):=by have h:=HT1.out;simpa using h.symm
       by_cases h1:j<m
       ·rw[HNil.out.2.2.1 fun h2=>h ⟨h1,h2⟩];simp
       ·rw[HNil.out.2.1 h1];simp
      clear HR HIh HFin HNil
      go_wp2_with fail
      go_meet
      case rel=>exact H6
    case rest =>
    have HI3:Hid (Nm.In w0 blk off n (P++(A1++B1)++(A2++B2)++Q) wc):=hcut;clear hcut HI2 HR HT1
    go_upto_region 41 with fail
    go_cut [199] (fun v wx=>v= .bool t2/\Hid (Nm.In w0 blk off n (P++(A1++B1)++(A2++B2)++Q) wx))
    case first=>as_aux_lemma =>
     by_cases h1:a<j
     ·by_cases h2:j<d
      ·have h3:t2=true:=by rw[HT2.out];simp[h1,h2]
       subst h3
       go_wp2_with fail
       go_meet
       case rel=>exact⟨rfl,HI3⟩
      ·have h3:t2=false:=by rw[HT2.out];simp[h2]
       subst h3
       go_wp2_with fail
       go_meet
       case rel=>exact⟨rfl,HI3⟩
     ·have h3:t2=false:=by rw[HT2.out];simp[h1]
      subst h3
      go_wp2_with fail
      go_meet
      case rel=>exact⟨rfl,HI3⟩
    case rest =>
    obtain⟨hv,hX⟩:=hcut;subst hv;have HI3:Hid (Nm.In w0 blk off n (P++(A1++B1)++(A2++B2)++Q) wc):=hX;clear hX
    go_upto_if 199 with fail
    go_cut [] (fun wx=>Hid (∃S1,S1.length=A1.length+B1.length/\Nm.Srt S1/\Nm.Eqv (A1++B1) S1/\Nm.In w0 blk off n (P++S1++(A2++B2)++Q) wx))
    case first=>as_aux_lemma =>
     cases t2 with
     | true =>
      have h12:a<j/\j<d:=by have h:=HT2.out;simpa using h.symm
      have hC:=HIh.out wc a j d P A1 B1 ((A2++B2)++Q) (HI3.out.of (by simp)) (by have:=HP.out;omega) (by have:=HP.out;omega) (by have:=HP.out;omega) (by have:=HP.out;omega) (by have:=HP.out;omega) HN1.out.1 HSr.out.1 HSr.out.2.2.1;clear HIh HFin HNil
      go_wp2_with fail
      refine hC.mono ?_;rintro x w1 ⟨rfl,S1,k1,k2,k3,k4⟩;have H6:Hid (∃S1,S1.length=A1.length+B1.length/\Nm.Srt S1/\Nm.Eqv (A1++B1) S1/\Nm.In w0 blk off n (P++S1++(A2++B2)++Q) w1):=⟨S1,k1,k2,k3,k4.of (by simp)⟩;clear k1 k2 k3 k4 hC
      go_wp2_with fail
      go_meet
      case rel=>exact H6
     | false =>
      have H6:Hid (∃S1,S1.length=A1.length+B1.length/\Nm.Srt S1/\Nm.Eqv (A1++B1) S1/\Nm.In w0 blk off n (P++S1++(A2++B2)++Q) wc):=by
       have h:¬(a<j/\j<d):=by have h:=HT2.out;simpa using h.symm
       refine⟨A1++B1,by simp,?_,Nm.Eqv.refl _,HI3.out⟩
       by_cases h1:a<j
       ·rw[HNil.out.2.2.1 (by omega),List.append_nil];exact HSr.out.1
       ·rw[HNil.out.1 h1,List.nil_append];exact HSr.out.2.2.1
      clear HIh HFin HNil
      go_wp2_with fail
      go_meet
      case rel=>exact H6
    case rest=>as_aux_lemma =>
    obtain⟨S1,k1,k2,k3,k4⟩:=hcut.out;have HI4:=qH k4;have HS1:Hid (S1.length=A1.length+B1.length/\Nm.Srt S1/\Nm.Eqv (A1++B1) S1):=⟨k1,k2,k3⟩;clear k1 k2 k3 k4 hcut HI3 HT2
    by_cases h1:d<e
    ·by_cases h2:e<b
     ·have hC:=HIh.out wc d e b (P++S1) A2 B2 Q (HI4.out.of (by simp)) (by have:=HP.out;have:=HS1.out.1;simp;omega) (by have:=HP.out;omega) (by have:=HP.out;omega) (by have:=HP.out;omega) (by have:=HP.out;omega) HN1.out.2 HSr.out.2.1 HSr.out.2.2.2;clear HIh HNil
      go_wp2_with fail
      refine hC.mono ?_;rintro x w1 ⟨rfl,S2,k1,k2,k3,k4⟩;have H6:=qH <| HFin.out S1 S2 w1 HS1.out.2.1 k2 HS1.out.2.2 k3 HS1.out.1 k1 k4;clear k1 k2 k3 k4 hC;go_wp2
      go_end0
      exact⟨rfl,H6.out⟩
     ·have H6:=qH <| HFin.out S1 (A2++B2) wc HS1.out.2.1 (by rw[HNil.out.2.2.2 h2,List.append_nil];exact HSr.out.2.1) HS1.out.2.2 (Nm.Eqv.refl _) HS1.out.1 (by simp) HI4.out;clear HIh HNil;go_wp2
      go_end0
      exact⟨rfl,H6.out⟩
    ·have H6:=qH <| HFin.out S1 (A2++B2) wc HS1.out.2.1 (by rw[HNil.out.2.1 (by omega),List.nil_append];exact HSr.out.2.2.2) HS1.out.2.2 (Nm.Eqv.refl _) HS1.out.1 (by simp) HI4.out;clear HIh HNil;go_wp2
     go_end0
     exact⟨rfl,H6.out⟩
theorem zir (w0:World)(blk off n cap:Nat)(hsz:n<1152921504606846976):∀(N:Nat) (w:World) (a m b:Nat) (P A B Q:List Int),Nm.In w0 blk off n (P++(A++B)++Q) w->a=P.length->m=a+A.length->b=m+B.length->1<=A.length->1<=B.length->A.length+B.length<=N->Nm.Srt A->Nm.Srt B ->
  Calls prog 186 #[.slice (some ⟨blk,off,none⟩) n cap,.int .i64 a,.int .i64 m,.int .i64 b,.func (.func 94) #[] #[]] w fun e w'=>e= .returned (.tuple #[])/\Nm.Mg w0 blk off n P A B Q w':=by
 intro N
 induction N with
 | zero=>intro w a m b P A B Q _ _ _ _ h1 _ h2;omega
 | succ N ih =>
  intro w a m b P A B Q h0 ha hm hb hA1 hB1 hN hA hB
  by_cases h1:A.length=1
  ·obtain⟨x,rfl⟩:=List.length_eq_one_iff.1 h1;refine(znv w0 w blk off n cap a m b P B Q x h0 ha hm hb hB hsz).mono fun e w' ⟨e1,S',k1,k2,k3,k4⟩=>⟨e1,S',by rw[k1];simp;omega,k2,k3,k4⟩
  ·by_cases h2:B.length=1
   ·obtain⟨y,rfl⟩:=List.length_eq_one_iff.1 h2;exact znu w0 w blk off n cap a m b P A Q y h0 ha hm hb (by omega) hA hsz
   ·exact znt N w0 w blk off n cap a m b P A B Q h0 ha hm hb (by omega) (by omega) hA hB hsz hN ih
end
section
open Go.RowKit Go.Sort Go.Shelf
namespace Nm
def Chk (bs:Nat) (Cs:List (List Int)):Prop:=∀C∈Cs,C.length=bs/\Srt C
theorem Chk.nil (bs:Nat):Chk bs []:=fun C hC=>by cases hC
theorem Chk.snoc {bs:Nat}{Cs:List (List Int)}{C:List Int}(h:Chk bs Cs)(h1:C.length=bs)(h2:Srt C):Chk bs (Cs++ [C]):=fun D hD=>by
 rcases List.mem_append.1 hD with h3 | h3
 ·exact h D h3
 ·simp at h3;subst h3;exact⟨h1,h2⟩
theorem za9 (Cs:List (List Int))(C:List Int):(Cs++ [C]).flatten=Cs.flatten++C:=by simp
def Ph1 (w0:World) (blk off n:Nat) (L0:List Int) (a:Nat) (wr:World):Prop:=∃Cs R,In w0 blk off n (Cs.flatten++R) wr/\Chk 20 Cs/\Cs.flatten.length=a/\Eqv L0 (Cs.flatten++R)
def Ph2 (w0:World) (blk off n:Nat) (L0:List Int) (bs:Nat) (wr:World):Prop:=∃Cs T,In w0 blk off n (Cs.flatten++T) wr/\Chk bs Cs/\Srt T/\T.length<bs/\Eqv L0 (Cs.flatten++T)
def Ph3 (w0:World) (blk off n:Nat) (L0:List Int) (bs a:Nat) (wr:World):Prop:=∃Ds Cs T,In w0 blk off n (Ds.flatten++(Cs.flatten++T)) wr/\Chk (2*bs) Ds/\Chk bs Cs/\Srt T/\T.length<bs/\Ds.flatten.length=a/\Eqv L0 (Ds.flatten++(Cs.flatten++T))
theorem Ph2.start {w0:World}{blk off n:Nat}{L0:List Int}{bs:Nat}{wr:World}(h:Ph2 w0 blk off n L0 bs wr):Ph3 w0 blk off n L0 bs 0 wr:=by
 obtain⟨Cs,T,h1,h2,h3,h4,h5⟩:=h;exact⟨[],Cs,T,by simpa using h1,Chk.nil _,h2,h3,h4,rfl,by simpa using h5⟩
theorem Ph3.over {w0:World}{blk off n:Nat}{L0:List Int}{bs a:Nat}{wr:World}(h:Ph3 w0 blk off n L0 bs a wr)(hb:0<bs)(hn:n<=a+bs):Ph2 w0 blk off n L0 (2*bs) wr:=by
 obtain⟨Ds,Cs,T,h1,h2,h3,h4,h5,h6,h7⟩:=h;have hl:=h1.1;simp only[List.length_append,h6] at hl;cases Cs with
 | nil=>exact⟨Ds,T,by simpa using h1,h2,h4,by omega,by simpa using h7⟩
 | cons C Cs =>
  have hC:=h3 C List.mem_cons_self;simp only[List.flatten_cons,List.length_append,hC.1] at hl;have e1:Cs.flatten= []:=List.eq_nil_of_length_eq_zero (by omega);have e2:T= []:=List.eq_nil_of_length_eq_zero (by omega);subst e2;exact⟨Ds,C,by simpa [e1] using h1,h2,hC.2,by rw[hC.1];omega,by simpa [e1] using h7⟩
theorem Ph2.done {w0:World}{blk off n:Nat}{L0:List Int}{bs:Nat}{wr:World}(h:Ph2 w0 blk off n L0 bs wr)(hb:0<bs)(hn:n<=bs):∃S',Srt S'/\Eqv L0 S'/\In w0 blk off n S' wr:=by
 obtain⟨Cs,T,h1,h2,h3,h4,h5⟩:=h;have hl:=h1.1;simp only[List.length_append] at hl;cases Cs with
 | nil=>exact⟨T,h3,by simpa using h5,by simpa using h1⟩
 | cons C Cs =>
  have hC:=h2 C List.mem_cons_self;simp only[List.flatten_cons,List.length_append,hC.1] at hl;have e1:Cs.flatten= []:=List.eq_nil_of_length_eq_zero (by omega);have e2:T= []:=List.eq_nil_of_length_eq_zero (by omega);subst e2;exact⟨C,hC.2,by simpa [e1] using h5,by simpa [e1] using h1⟩
end Nm
theorem znx {w0:World}{blk off n cap:Nat}{L0:List Int}{a:Nat}{wr:World}(hsz:n<1152921504606846976)(h:Nm.Ph1 w0 blk off n L0 a wr)(hn:a+20<=n) :
  Calls prog 185 #[.slice (some ⟨blk,off,none⟩) n cap,.int .i64 (a:Nat),.int .i64 ((a+20:Nat):Int),.func (.func 94) #[] #[]] wr fun e w'=>e= .returned (.tuple #[])/\Nm.Ph1 w0 blk off n L0 (a+20) w':=by
 obtain⟨Cs,R,h1,h2,h3,h4⟩:=h;have hl:=h1.1;simp only[List.length_append] at hl;refine(ziu w0 wr blk off n cap a (a+20) Cs.flatten (R.take 20) (R.drop 20) (h1.of (by rw[List.append_assoc,List.take_append_drop])) h3.symm (by rw[List.length_take];omega) hsz).mono fun e w' ⟨e1,S',k1,k2,k3,k4⟩=>⟨e1,Cs++ [S'],R.drop 20,k4.of (by rw[Nm.za9]),h2.snoc (by rw[k1,List.length_take];omega) k2,?_,?_⟩
 ·rw[Nm.za9,List.length_append,k1,List.length_take];omega
 ·rw[Nm.za9];refine h4.trans ?_;have:=(Nm.Eqv.refl Cs.flatten).app (k3.app (Nm.Eqv.refl (R.drop 20)));rw[List.take_append_drop] at this;rw[List.append_assoc];exact this
theorem znw {w0:World}{blk off n cap:Nat}{L0:List Int}{a:Nat}{wr:World}(hsz:n<1152921504606846976)(h:Nm.Ph1 w0 blk off n L0 a wr)(hn:n<a+20) :
  Calls prog 185 #[.slice (some ⟨blk,off,none⟩) n cap,.int .i64 (a:Nat),.int .i64 (n:Nat),.func (.func 94) #[] #[]] wr fun e w'=>e= .returned (.tuple #[])/\Nm.Ph2 w0 blk off n L0 20 w':=by
 obtain⟨Cs,R,h1,h2,h3,h4⟩:=h;have hl:=h1.1;simp only[List.length_append] at hl;refine(ziu w0 wr blk off n cap a n Cs.flatten R [] (h1.of (by simp)) h3.symm (by omega) hsz).mono fun e w' ⟨e1,S',k1,k2,k3,k4⟩=>⟨e1,Cs,S',k4.of (by simp),h2,k2,by omega,h4.trans ((Nm.Eqv.refl _).app k3)⟩
theorem zq3 {w0:World}{blk off n cap:Nat}{L0:List Int}{bs a:Nat}{wr:World}(hsz:n<1152921504606846976)(h:Nm.Ph3 w0 blk off n L0 bs a wr)(hb:0<bs)(hn:a+2*bs<=n) :
  Calls prog 186 #[.slice (some ⟨blk,off,none⟩) n cap,.int .i64 (a:Nat),.int .i64 ((a+bs:Nat):Int),.int .i64 ((a+2*bs:Nat):Int),.func (.func 94) #[] #[]] wr fun e w'=>e= .returned (.tuple #[])/\Nm.Ph3 w0 blk off n L0 bs (a+2*bs) w':=by
 obtain⟨Ds,Cs,T,h1,h2,h3,h4,h5,h6,h7⟩:=h;have hl:=h1.1;simp only[List.length_append,h6] at hl
 match Cs,h1,h3,h7,hl with
 | [],h1,h3,h7,hl=>simp at hl;omega
 | [C],h1,h3,h7,hl =>
  have hC:=h3 C List.mem_cons_self;simp[hC.1] at hl;omega
 | C::D::Cs,h1,h3,h7,hl =>
  have hC:=h3 C List.mem_cons_self;have hD:=h3 D (List.mem_cons_of_mem _ List.mem_cons_self);refine(zir w0 blk off n cap hsz (C.length+D.length) wr a (a+bs) (a+2*bs) Ds.flatten C D (Cs.flatten++T) (h1.of (by simp)) h6.symm (by have:=hC.1;omega) (by have:=hD.1;omega) (by have:=hC.1;omega) (by have:=hD.1;omega) qN hC.2 hD.2).mono fun e w' ⟨e1,S',k1,k2,k3,k4⟩=>⟨e1,Ds++ [S'],Cs,T,k4.of (by simp),h2.snoc (by have:=hC.1;have:=hD.1;omega) k2,fun E hE=>h3 E (List.mem_cons_of_mem _ (List.mem_cons_of_mem _ hE)),h4,h5,?_,?_⟩
  ·rw[Nm.za9,List.length_append,k1,hC.1,hD.1];omega
  ·rw[Nm.za9];refine h7.trans ?_;have:=(Nm.Eqv.refl Ds.flatten).app (k3.app (Nm.Eqv.refl (Cs.flatten++T)));simpa using this
theorem zq2 {w0:World}{blk off n cap:Nat}{L0:List Int}{bs a:Nat}{wr:World}(hsz:n<1152921504606846976)(h:Nm.Ph3 w0 blk off n L0 bs a wr)(hb:0<bs)(hn:n<a+2*bs)(hm:a+bs<n) :
  Calls prog 186 #[.slice (some ⟨blk,off,none⟩) n cap,.int .i64 (a:Nat),.int .i64 ((a+bs:Nat):Int),.int .i64 (n:Nat),.func (.func 94) #[] #[]] wr fun e w'=>e= .returned (.tuple #[])/\Nm.Ph2 w0 blk off n L0 (2*bs) w':=by
 obtain⟨Ds,Cs,T,h1,h2,h3,h4,h5,h6,h7⟩:=h;have hl:=h1.1;simp only[List.length_append,h6] at hl
 match Cs,h1,h3,h7,hl with
 | [],h1,h3,h7,hl=>simp at hl;omega
 | C::D::Cs,h1,h3,h7,hl =>
  have hC:=h3 C List.mem_cons_self;have hD:=h3 D (List.mem_cons_of_mem _ List.mem_cons_self);simp[hC.1,hD.1] at hl;omega
 | [C],h1,h3,h7,hl =>
  have hC:=h3 C List.mem_cons_self;simp only[List.flatten_cons,List.flatten_nil,List.append_nil,hC.1] at hl;refine(zir w0 blk off n cap hsz (C.length+T.length) wr a (a+bs) n Ds.flatten C T [] (h1.of (by simp)) h6.symm (by rw[hC.1]) (by omega) (by rw[hC.1];omega) (by omega) qN hC.2 h4).mono fun e w' ⟨e1,S',k1,k2,k3,k4⟩=>⟨e1,Ds,S',k4.of (by simp),h2,k2,by rw[k1,hC.1];omega,h7.trans ?_⟩
  have:=(Nm.Eqv.refl Ds.flatten).app k3;simpa using this
theorem zis (w:World)(blk off n cap:Nat)(L:List Int)(h0:Holds Z.en w blk off L.toArray)(hn:L.length=n)(hsz:n<1152921504606846976) :
  Calls prog 145 #[.slice (some ⟨blk,off,none⟩) n cap,.int .i64 n,.func (.func 94) #[] #[]] w fun e w'=>e= .returned (.tuple #[])/\∃S',Nm.Srt S'/\Nm.Eqv L S'/\Nm.In w blk off n S' w':=by
 have HS:Hid (Nm.Ph1 w blk off n L 0 w):=by
  have h:=Nm.In.start h0;rw[hn] at h;exact⟨[],L,by simpa using h,Nm.Chk.nil _,rfl,by simpa using Nm.Eqv.refl L⟩
 clear h0 hn;have H1:Hid (∀(a:Nat) X,Nm.Ph1 w blk off n L a X->a+20<=n->Calls prog 185 #[.slice (some ⟨blk,off,none⟩) n cap,.int .i64 (a:Nat),.int .i64 ((a+20:Nat):Int),.func (.func 94) #[] #[]] X fun e w'=>e= .returned (.tuple #[])/\Nm.Ph1 w blk off n L (a+20) w'):=fun a X h1 h2=>znx hsz h1 h2
 have H2:Hid (∀(a:Nat) X,Nm.Ph1 w blk off n L a X->n<a+20->Calls prog 185 #[.slice (some ⟨blk,off,none⟩) n cap,.int .i64 (a:Nat),.int .i64 (n:Nat),.func (.func 94) #[] #[]] X fun e w'=>e= .returned (.tuple #[])/\Nm.Ph2 w blk off n L 20 w'):=fun a X h1 h2=>znw hsz h1 h2
 have H3:Hid (∀(bs a:Nat) X,Nm.Ph3 w blk off n L bs a X->0<bs->a+2*bs<=n->Calls prog 186 #[.slice (some ⟨blk,off,none⟩) n cap,.int .i64 (a:Nat),.int .i64 ((a+bs:Nat):Int),.int .i64 ((a+2*bs:Nat):Int),.func (.func 94) #[] #[]] X fun e w'=>e= .returned (.tuple #[])/\Nm.Ph3 w blk off n L bs (a+2*bs) w'):=fun bs a X h1 h2 h3=>zq3 hsz h1 h2 h3
 have H4:Hid (∀(bs a:Nat) X,Nm.Ph3 w blk off n L bs a X->0<bs->n<a+2*bs->a+bs<n->Calls prog 186 #[.slice (some ⟨blk,off,none⟩) n cap,.int .i64 (a:Nat),.int .i64 ((a+bs:Nat):Int),.int .i64 (n:Nat),.func (.func 94) #[] #[]] X fun e w'=>e= .returned (.tuple #[])/\Nm.Ph2 w blk off n L (2*bs) w'):=fun bs a X h1 h2 h3 h4=>zq2 hsz h1 h2 h3 h4
 go_enter func145,ntmps145
 go_wp2
 go_loopw [7,8] (fun va vb wr=>∃a:Nat,va= .int .i64 a/\vb= .int .i64 ((a+20:Nat):Int)/\a<=n/\Hid (Nm.Ph1 w blk off n L a wr)) (fun va _ _=>n - (RowKit.intOf va).toNat)
 case atStart=>exact⟨0,rfl,rfl,Nat.zero_le _,HS.out⟩
 case round =>
  obtain⟨a,rfl,rfl,ha,HP⟩:=hrel;clear HS
  by_cases hlt:a+20<=n
  ·have hC:=qH <| H1.out a wr HP.out hlt;clear H1 H2 H3 H4 HP;obtain⟨b,hb⟩:∃b,b=a+20:=⟨_,rfl⟩;rw[<- hb] at hC hlt ⊢;have HB:=qH hb;have hb1:a<b:=by omega
   clear hb
   go_wp2_with fail
   refine hC.out.mono ?_;rintro e w1 ⟨rfl,h⟩;have HP1:=qH h;clear h hC;go_wp2
   go_roundw
   case rel=>exact⟨b,rfl,by go_num,hlt,HP1.out⟩
   case measure=>simp[RowKit.intOf];omega
  ·have hC:=qH <| H2.out a wr HP.out (by omega);clear H1 H2 HP
   go_wp2_with fail
   refine hC.out.mono ?_;rintro e w1 ⟨rfl,h⟩;have HP2:=qH h;clear h hC;go_wp2
   go_loopw [6] (fun vb wr=>∃bs:Nat,vb= .int .i64 bs/\0<bs/\bs<=2*n+20/\Hid (Nm.Ph2 w blk off n L bs wr)) (fun vb _=>2*n+20 - (RowKit.intOf vb).toNat)
   case atStart=>exact⟨20,rfl,by omega,by omega,HP2.out⟩
   case round =>
    obtain⟨bs,rfl,hb0,hb1,HQ⟩:=hrel;clear HP2
    by_cases hbn:bs<n
    ·have HQ3:=qH HQ.out.start;clear HQ;go_wp2
     go_loopw [7,8] (fun va vb wr=>∃a:Nat,va= .int .i64 a/\vb= .int .i64 ((a+2*bs:Nat):Int)/\a<=n/\Hid (Nm.Ph3 w blk off n L bs a wr)) (fun va _ _=>n - (RowKit.intOf va).toNat)
     case atStart=>exact⟨0,rfl,by first | (congr 1;done) | (congr 1;omega),Nat.zero_le _,HQ3.out⟩
     case round =>
      obtain⟨a',rfl,rfl,ha',HP⟩:=hrel;clear HQ3
      by_cases hlt:a'+2*bs<=n
      ·have hC:=qH <| H3.out bs a' wr HP.out hb0 hlt;clear H3 H4 HP;obtain⟨b,hb⟩:∃b,b=a'+2*bs:=⟨_,rfl⟩;rw[<- hb] at hC hlt ⊢;have HB:=qH hb;have hb2:a'<b:=by omega
       obtain⟨m,hm'⟩:∃m,m=a'+bs:=⟨_,rfl⟩;have e1:(a':Int)+(bs:Int)=(m:Int):=by omega
       rw[<- hm'] at hC;have hmn:m<=n:=by omega
       clear hb hm'
       go_wp2_with fail
       refine hC.out.mono ?_;rintro e w1 ⟨rfl,h⟩;have HP1:=qH h;clear h hC;go_wp2
       go_roundw
       case rel=>exact⟨b,rfl,by first | (congr 1;done) | (congr 1;omega),hlt,HP1.out⟩
       case measure=>simp[RowKit.intOf];omega
      ·by_cases hm:a'+bs<n
       ·have hC:=qH <| H4.out bs a' wr HP.out hb0 (by omega) hm;clear H3 H4 HP;obtain⟨m,hm'⟩:∃m,m=a'+bs:=⟨_,rfl⟩;have e1:(a':Int)+(bs:Int)=(m:Int):=by omega
        rw[<- hm'] at hC hm;clear hm'
        go_wp2_with fail
        refine hC.out.mono ?_;rintro e w1 ⟨rfl,h⟩;have HP1:=qH h;clear h hC;go_wp2
        go_roundw
        case rel=>exact⟨2*bs,by first | (congr 1;done) | (congr 1;omega),by omega,by omega,HP1.out⟩
        case measure=>simp[RowKit.intOf];omega
       ·have HP1:=qH <| HP.out.over hb0 (by omega);clear H3 H4 HP;go_wp2
        go_roundw
        case rel=>exact⟨2*bs,by first | (congr 1;done) | (congr 1;omega),by omega,by omega,HP1.out⟩
        case measure=>simp[RowKit.intOf];omega
    ·have HD:=qH <| HQ.out.done hb0 (by omega);clear HQ H3 H4;go_wp2
     go_end0
     exact⟨rfl,HD.out⟩
theorem zny (w:World)(blk off n cap:Nat)(L:List Int)(h0:Holds Z.en w blk off L.toArray)(hn:L.length=n)(hsz:n<1152921504606846976) :
  Calls prog 93 #[.slice (some ⟨blk,off,none⟩) n cap,.func (.func 94) #[] #[]] w fun e w'=>e= .returned (.tuple #[])/\∃S',Nm.Srt S'/\Nm.Eqv L S'/\Nm.In w blk off n S' w':=by
 have hC:=qH <| zis w blk off n cap L h0 hn hsz;clear h0 hn
 go_enter func93,ntmps93
 go_wp2_with fail
 refine hC.out.mono ?_;rintro e w1 ⟨rfl,h⟩;have HD:=qH h;clear h hC;go_wp2
 go_end0
 exact⟨rfl,HD.out⟩
end
namespace Nm
open Go.RowKit Go.Sort
theorem zkc {w:World}{F0 g n cap:Nat}{D M R:List Int}(h:w.ownsRow F0 21 1 (.slice (some ⟨g,0,none⟩) n cap) n (K.ints (D++M++R))) :
  Holds Z.en w g D.length M.toArray/\∀(w':World) (M':List Int),Z.At w g D.length M.length M'.toArray w'->w'.ownsRow F0 21 1 (.slice (some ⟨g,0,none⟩) n cap) n (K.ints (D++M'++R))/\Below F0 w w':=by
 obtain⟨hx,h2⟩:=h;rcases h2 with ⟨e0,_⟩|⟨g',cap',cur,e0,hb,hg,hn,hm,hs,ht⟩
 ·cases e0
 ·injection e0 with e1 _ e3;injection e1 with e1;injection e1 with e1;subst e1;subst e3
  have hlen:D.length+M.length+R.length=n:=by
   have:=hx;simp[K.ints] at this;omega
  have hcur:∀k,k<n->cur[k]?=(K.ints (D++M++R))[k]?:=fun k hk=>by
   rw[<- ht,List.getElem?_take,if_pos (by omega),Array.getElem?_toList]
  refine⟨fun j hj=> ?_,fun w' M' hA=> ?_⟩
  ·have hj':j<M.length:=by simpa using hj
   refine⟨?_,frozen_of_row w g _ _ _ hg⟩;have h3:=hcur (D.length+j) (by omega)
   have h4:(K.ints (D++M++R))[D.length+j]?=some (.int .i32 M[j]):=by
    unfold K.ints;rw[List.getElem?_map,List.append_assoc,List.getElem?_append_right (by omega),Nat.add_sub_cancel_left,List.getElem?_append_left hj',List.getElem?_eq_getElem hj'];rfl
   rw[World.cell?];simp only[hg];rw[h3,h4];simp[hj']
  ·obtain⟨hsz,q,rfl⟩:=hA;have hml:M'.length=M.length:=by simpa using hsz
   refine⟨⟨by simp[K.ints];omega,.inr ⟨g,cap,putCells Z.en D.length M'.toArray cur,rfl,hb,?_,hn,hm,by simpa [putCells] using hs,?_⟩⟩,?_⟩
   ·simp[putRow,mapBlock,Sort.ahead,Array.getElem?_modify,hg,onCells]
   ·apply List.ext_getElem?;intro k;rw[List.getElem?_take]
    by_cases hk:k<n*1
    ·rw[if_pos hk,Array.getElem?_toList];have hk':k<n:=by omega
     have h3:=hcur k hk';have hkc:k<cur.size:=by omega
     simp only[putCells,Array.getElem?_mapIdx];rw[h3];unfold K.ints;simp only[List.getElem?_map]
     by_cases h1:k<D.length
     ·rw[List.append_assoc,List.getElem?_append_left h1,List.append_assoc,List.getElem?_append_left h1,List.getElem?_eq_getElem h1];simp[show ¬(D.length<=k) by omega]
     ·by_cases h2:k<D.length+M.length
      ·rw[List.append_assoc,List.getElem?_append_right (by omega),List.getElem?_append_left (by omega),List.append_assoc,List.getElem?_append_right (by omega),List.getElem?_append_left (by omega),List.getElem?_eq_getElem (show k - D.length<M.length by omega),List.getElem?_eq_getElem (show k - D.length<M'.length by omega)];simp only[Option.map_some];rw[if_pos ⟨by omega,by simp;omega⟩];simp[show k - D.length<M'.length by omega]
      ·rw[List.append_assoc,List.getElem?_append_right (by omega),List.getElem?_append_right (by omega),List.append_assoc,List.getElem?_append_right (by omega),List.getElem?_append_right (by omega),hml];cases R[k - D.length - M.length]? with
       | none=>rfl
       | some z =>
        simp only[Option.map_some];rw[if_neg (by simp;omega)]
    ·rw[if_neg hk,List.getElem?_eq_none (by simp[K.ints];omega)]
   ·refine⟨rfl,rfl,rfl,by simp[putRow,mapBlock,Sort.ahead],fun k hk=> ?_⟩;simp only[putRow,mapBlock,Sort.ahead,Array.getElem?_modify];rw[if_neg (by omega)]
end Nm
section
open Go.RowKit Go.Sort Go.Shelf
namespace Nm
def lenOf:Value->Nat
 | .slice _ n _=>n
 | _=>0
theorem zb7 (xo:Option Addr)(N xc j:Nat)(hj:j<=xc)(w':World):(Instr.slice 33 (.slice xo N xc) none (some (.int .i64 (j:Int))) none).run prog w'= .ok (.slice xo j xc) w':=by
 have a2:(j:Int)<=xc:=by omega
 have a3:(0:Int)<=j:=by omega
 go_simp
theorem zbd (xo:Option Addr)(N xc i:Nat)(h:i<=N)(hc:N<=xc)(w':World):(Instr.slice 33 (.slice xo N xc) (some (.int .i64 (i:Int))) none none).run prog w'= .ok (.slice (if xc=i then xo else Option.map (fun x=>x.add i) xo) (N - i) (xc - i)) w':=by
 have a1:(i:Int)<=N:=by omega
 have a2:(N:Int)<=xc:=by omega
 have a3:(0:Int)<=i:=by omega
 go_simp
def Sm (w wr:World) (F0 g n cap:Nat) (L:List Int) (k:Nat):Prop :=
 ∃D:List Int,D.length=k/\wr.ownsRow F0 21 1 (.slice (some ⟨g,0,none⟩) n cap) n (K.ints (D++L.drop k))/\Below F0 w wr/\(k<n->Ends D)/\L.foldl insR []=(L.drop k).foldl insR D
end Nm
theorem nmSmEmpty (w:World)(a:Option Addr)(c:Nat):Calls prog 47 #[.slice a 0 c] w fun e w'=>e= .returned (.tuple #[])/\w'=w:=by
 go_enter func47,ntmps47
 go_wp2
 go_loopw [0] (fun vl wr=>vl= .slice a 0 c/\wr=w) (fun _ _=>0)
 case atStart=>exact⟨rfl,rfl⟩
 case round =>
  obtain⟨rfl,rfl⟩:=hrel;go_wp2
  go_end0
  exact⟨rfl,rfl⟩
theorem nmSmSome (w:World)(F0 g n cap:Nat)(ls:List Int)(own:w.ownsRow F0 21 1 (.slice (some ⟨g,0,none⟩) n cap) n (K.ints ls))(hn:ls.length=n)(hl:n<=1000000)(hc:n<=cap)(hcm:cap<=maxLen) :
  Calls prog 47 #[.slice (some ⟨g,0,none⟩) n cap] w fun e w'=>e= .returned (.tuple #[])/\w'.ownsRow F0 21 1 (.slice (some ⟨g,0,none⟩) n cap) n (K.ints (ls.foldl Nm.insR []))/\Below F0 w w':=by
 have HS:Hid (Nm.Sm w w F0 g n cap ls 0):=⟨[],rfl,by simpa using own,qR _,fun _=> .inl rfl,rfl⟩;have HN:=qH hn;have hcm2:cap<=9223372036854775807:=by unfold maxLen at hcm;omega
 clear own hn hcm
 go_enter func47,ntmps47
 go_wp2
 go_loopw [0] (fun vl wr=>∃(k:Nat) (ad:Option Addr) (c r:Nat),vl= .slice ad r c/\k+r=n/\r<=c/\c<=cap/\Hid (0<r->ad=some ⟨g,k,none⟩)/\Hid (Nm.Sm w wr F0 g n cap ls k)) (fun vl _=>Nm.lenOf vl)
 case atStart=>exact⟨0,_,cap,n,rfl,by omega,hc,qN,fun _=>rfl,HS.out⟩
 case round =>
  obtain⟨k,ad,c,r,rfl,hkr,hrc,hcc,HA,HM⟩:=hrel;clear HS
  by_cases h0:0<r
  ·have ha:=HA.out h0;subst ha;obtain⟨D,hD,hO,hB,hE,hF⟩:=HM.out;have hdl:(ls.drop k).length=r:=by rw[List.length_drop,HN.out];omega
   obtain⟨m,hm⟩:∃m,m=Nm.lead (ls.drop k):=⟨_,rfl⟩;have hmr:m<=r:=by rw[hm,<- hdl];exact Nm.zkk _
   have hRd:L.Rd wr (.slice (some ⟨g,k,none⟩) r c) .i32 (ls.drop k):=⟨_,_,by rw[hdl],fun e=>by (cases e),fun _=>⟨g,k,rfl,fun j z hj=>by
    have h:=hO.cells (g:=g) rfl (k+j) (.int .i32 z) (by unfold K.ints;rw[List.getElem?_map,List.getElem?_append_right (by omega),show k+j - D.length=j by omega,hj];rfl);rw[L.addr_add,Nat.zero_add] at h
    exact h⟩⟩
   have HMk:Hid (Calls prog 49 #[.slice (some ⟨g,k,none⟩) r c] wr fun e w'=>e= .returned (.int .i64 (m:Nat))/\Below wr.heap.size wr w'):=by
    rw[hm];exact zdf wr _ (ls.drop k) hRd (by omega)
   have hsl1:=Nm.zb7 (some ⟨g,k,none⟩) r c m (by omega);obtain⟨i,hi⟩:∃i,i=min (m+1) r:=⟨_,rfl⟩;have hir:i<=r:=by omega
   have hi0:0<i:=by omega
   have hsl2:=Nm.zbd (some ⟨g,k,none⟩) r c i hir hrc;obtain⟨ad2,had2⟩:∃ad2,ad2=(if c=i then (some ⟨g,k,none⟩:Option Addr) else Option.map (fun x:Addr=>x.add i) (some ⟨g,k,none⟩)):=⟨_,rfl⟩;rw[<- had2] at hsl2
   have HAd2:Hid (ad2=(if c=i then (some ⟨g,k,none⟩:Option Addr) else some ⟨g,k+i,none⟩)):=by
    show _=_;rw[had2,Option.map_some,L.addr_add]
   have HAd:Hid (0<r - i->ad2=some ⟨g,k+i,none⟩):=fun h=>by rw[had2,if_neg (by omega),Option.map_some,L.addr_add]
   have HSo:Hid (∀w1,Below wr.heap.size wr w1->Calls prog 93 #[.slice (some ⟨g,k,none⟩) m c,.func (.func 94) #[] #[]] w1 fun e w'=>e= .returned (.tuple #[])/\Nm.Sm w w' F0 g n cap ls (k+i)):=fun w1 b1=>by
    have hO1:=L.zao hO b1 qN;have hB1:=hB.trans (b1.mono (Nat.le_trans (by have:=(hO.lt g rfl);omega) qN));have hsp:ls.drop k=(ls.drop k).take m++(ls.drop k).drop m:=(List.take_append_drop m _).symm;rw[hsp,<- List.append_assoc] at hO1;obtain⟨k1,k2⟩:=Nm.zkc hO1;have hMl:((ls.drop k).take m).length=m:=by rw[List.length_take];omega
    rw[hD] at k1 k2;refine(zny w1 g k m c ((ls.drop k).take m) k1 hMl (by omega)).mono fun e w' ⟨e1,S',s1,s2,s3⟩=>⟨e1,?_⟩
    obtain⟨s4,_,s5⟩:=s3;rw[hMl] at k2;obtain⟨o2,b2⟩:=k2 w' S' s5;have hmk:(ls.drop k).take m=(ls.drop k).takeWhile Nm.isM:=by rw[hm];exact Nm.zfp _
    have hS:=Nm.zlk (by rw[hmk];exact Nm.zb5 _) s1 s2
    have hfold:(ls.drop k).foldl Nm.insR D=((ls.drop k).drop m).foldl Nm.insR (D++S'):=by
     conv=>lhs;rw[hsp]
     rw[List.foldl_append,Nm.zl7 (hE (by omega)),hS]
    by_cases h1:m<r
    ·obtain⟨x,t,hx⟩:∃x t,(ls.drop k).drop m=x::t:=by
      cases h:(ls.drop k).drop m with
      | nil =>
       have h2:((ls.drop k).drop m).length=r - m:=by rw[List.length_drop,hdl]
       rw[h] at h2;simp at h2;omega
      | cons x t=>exact⟨x,t,rfl⟩
     have hx0:Nm.cls x=0:=by
      rw[hm,Nm.zca] at hx;exact Nm.zsd hx
     have ei:i=m+1:=by omega
     have ht:ls.drop (k+i)=t:=by
      have:ls.drop (k+i)=((ls.drop k).drop m).drop 1:=by rw[List.drop_drop,List.drop_drop,ei]
      rw[this,hx];rfl
     refine⟨D++S'++ [x],by simp;omega,?_,hB1.trans b2,fun _=> .inr ⟨D++S',x,rfl,hx0⟩,?_⟩
     ·rw[ht];rw[hx] at o2;have e:D++S'++ [x]++t=D++S'++(x::t):=by simp
      rw[e];exact o2
     ·rw[ht,hF,hfold,hx,List.foldl_cons,Nm.zi5 hx0]
    ·have em:m=r:=by omega
     have ei:i=r:=by omega
     have hx:(ls.drop k).drop m= []:=List.drop_eq_nil_of_le (by omega);have ht:ls.drop (k+i)= []:=List.drop_eq_nil_of_le (by rw[HN.out];omega);refine⟨D++S',by simp;omega,?_,hB1.trans b2,fun h=>by omega,?_⟩
     ·rw[ht,List.append_nil];rw[hx,List.append_nil] at o2;exact o2
     ·rw[ht,hF,hfold,hx]
   have hmz:(m:Int)+1<=r∨(r:Int)<m+1:=by omega
   have HI:=qH hi;clear hD hO hB hE hF hdl hm hRd had2 HM HA hi
   go_wp2_with fail
   refine HMk.out.mono ?_;clear HMk;rintro e w1 ⟨rfl,b1⟩;have hSo:=HSo.out w1 b1;clear HSo b1
   go_wp2_with fail
   refine hSo.mono ?_;clear hSo;rintro e w2 ⟨rfl,hSm⟩;have HSm:=qH hSm;clear hSm
   have HMi:Hid ((min ((m:Int)+1) (r:Int)).toNat=i):=by
    show _=_;rw[HI.out];omega
   clear hsl2;go_wp2
   go_roundw
   case rel=>exact⟨k+i,ad2,c - i,r - i,by rw[HMi.out,HAd2.out],by omega,by omega,by omega,HAd,HSm⟩
   case measure =>
    simp only[Nm.lenOf];rw[HMi.out];omega
  ·have e:r=0:=by omega
   subst e;have hkn:k=n:=by omega
   have HE:Hid (wr.ownsRow F0 21 1 (.slice (some ⟨g,0,none⟩) n cap) n (K.ints (ls.foldl Nm.insR []))/\Below F0 w wr):=by
    obtain⟨D,hD,hO,hB,hE,hF⟩:=HM.out;rw[List.drop_eq_nil_of_le (by rw[HN.out];omega)] at hO hF;rw[List.append_nil] at hO;rw[hF];exact⟨hO,hB⟩
   clear HM HA;go_wp2
   go_end0
   exact⟨rfl,HE.out⟩
