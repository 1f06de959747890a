import Derived.Test.YthnmmmkeamcfkaaGreatDoorOdSymP
import Derived.OwnWalk
set_option maxHeartbeats 0
set_option maxRecDepth 20000
set_option linter.unusedSimpArgs false
set_option linter.unusedVariables false
namespace Go.Proofs.YthnmmmkeamcfkaaGreatDoor
open Go.Proofs.Tryz
section
open Go.RowKit Go.Sort Go.Shelf
theorem znp [Od.Ck] (w0 w:World)(blk off n cap a m b:Nat)(P B Q:List Int)(x:Int)(HK:Hid (Od.Con w0 blk))(h0:Od.In w0 blk off n (P++(x::B)++Q) w)(ha:a=P.length)(hm:m=a+1)(hb:b=m+B.length)(hB:Od.Srt B)(hsz:n<1152921504606846976) :
  Calls prog 150 #[.slice (some ⟨blk,off,none⟩) n cap,.int .i64 a,.int .i64 m,.int .i64 b,.func (.func 102) #[] #[.pointer (some ⟨Od.Ck.kb,0,none⟩)]] w fun e w'=>e= .returned (.tuple #[])/\∃S',S'.length=B.length+1/\Od.Srt S'/\Od.Eqv (x::B) S'/\Od.In w0 blk off n (P++S'++Q) w':=by
 have eg:∀args w,(callFunc 102 args).run prog w= .ok (.enter 102 args) w:=enters_of func102 (by kernel_rfl) rfl;have hlen:=h0.1;simp only[List.length_append,List.length_cons] at hlen;have hbn:b<=n:=by omega
 have hmb:m<=b:=by omega
 have e1:(m:Int) - (a:Int)=1:=by omega
 have ham:a+1<=m:=by omega
 have hma:m<=a+1:=by omega
 have HL:Hid (a=P.length/\m=a+1/\b=m+B.length/\Od.Srt B):=⟨ha,hm,hb,hB⟩;obtain⟨G,hG⟩:∃G:Nat->Int,∀t,G t=(P++(x::B)++Q).toArray[t]! := ⟨fun t=>(P++(x::B)++Q).toArray[t]!,fun _=>rfl⟩
 have HGa:Hid (G a=x):=by
  show _=_;rw[hG,Nm.zb3 P (x::B) Q (by omega) (by simp;omega)];simp[ha]
 have HGB:Hid (∀(t k:Nat) (h:k<B.length),t=m+k->G t=B[k]):=fun t k h e0=>by
  have e:P++(x::B)++Q=(P++ [x])++B++Q:=by simp
  rw[hG,e,Nm.zb3 (P++ [x]) B Q (by simp;omega) (by simp;omega)];congr 1;simp;omega
 have HIn:=qH h0;have HG:=qH hG;clear h0 ha hm hb hB hlen hG
 go_enter func150,ntmps150
 go_wp2
 go_loopw [10,11] (fun vi vj wr=>∃i j:Nat,vi= .int .i64 i/\vj= .int .i64 j/\m<=i/\i<=j/\j<=b/\Hid (Od.In w0 blk off n (P++(x::B)++Q) wr)/\Hid ((m<i->Od.cls (G (i - 1))<Od.cls x)/\(j<b->Od.cls x<=Od.cls (G j)))) (fun vi vj _=>(RowKit.intOf vj).toNat - (RowKit.intOf vi).toNat)
 case atStart=>exact⟨m,b,rfl,rfl,qN,hmb,qN,HIn.out,fun h=>absurd h (Nat.lt_irrefl _),fun h=>absurd h (Nat.lt_irrefl _)⟩
 case round =>
  obtain⟨i,j,rfl,rfl,hmi,hij,hjb,HI,HO⟩:=hrel
  by_cases hlt:i<j
  ·obtain⟨c,hc⟩:∃c:Nat,((i:Int)+(j:Int)) / 2=(c:Int):=⟨(i+j) / 2,by omega⟩;have hc1:i<=c:=by omega
   have hc2:c<j:=by omega
   have hcw:∀t,t<n->wr.cell? ⟨blk,off+t,none⟩=some (.int .i64 (G t)):=fun t ht=>by rw[HG.out];exact HI.out.cell t ht
   have ca:wr.cell? ⟨blk,off+a,none⟩=some (.int .i64 x):=by rw[hcw a (by omega),HGa.out]
   obtain⟨y,hy⟩:∃y,y=G c:=⟨_,rfl⟩;have cc:wr.cell? ⟨blk,off+c,none⟩=some (.int .i64 y):=by rw[hcw c (by omega),hy]
   have HY:=qH hy;have HC:Hid (Od.cmp y x<0↔Od.cls y<Od.cls x):=Od.zd7;have hcm:=HI.out.con HK.out (x:=y) (y:=x) (by rw[hy,HG.out];exact HI.out.okAt (by omega)) (by rw[<- HGa.out,HG.out];exact HI.out.okAt (by omega));clear hcw hy;go_wp2
   by_cases hxy:Od.cmp y x<0
   ·go_quiet (first | (go_at_call 102;refine Calls.quiet_of_same (hcm _ (by first | rfl | simp))))
    go_wp2
    go_roundw
    case rel=>exact⟨c+1,j,by go_num,rfl,by omega,by omega,hjb,HI.out.drew _,fun _=>by rw[Nat.add_sub_cancel,<- HY.out];exact HC.out.1 hxy,HO.out.2⟩
    case measure=>simp[RowKit.intOf];omega
   ·go_quiet (first | (go_at_call 102;refine Calls.quiet_of_same (hcm _ (by first | rfl | simp))))
    go_wp2
    go_roundw
    case rel=>exact⟨i,c,rfl,rfl,hmi,by omega,by omega,HI.out.drew _,HO.out.1,fun _=>by rw[<- HY.out];exact Int.not_lt.1 fun h=>hxy (HC.out.2 h)⟩
    case measure=>simp[RowKit.intOf];omega
  ·have hje:j=i:=by omega
   subst hje;have hk:j - m<=B.length:=by have:=HL.out;omega
   have HS:Hid (Od.Srt (B.take (j - m)++x::B.drop (j - m))/\Od.Eqv (x::B) (B.take (j - m)++x::B.drop (j - m))):=by
    have hb:=HL.out.2.2.1;refine Od.zkd HL.out.2.2.2 (Od.zc7 HL.out.2.2.2 hk fun h=> ?_) (Od.zbc HL.out.2.2.2 fun h=> ?_)
    ·have h1:=HO.out.1 (by omega);rw[HGB.out (j - 1) (j - m - 1) (by omega) (by omega)] at h1;exact h1
    ·have h1:=HO.out.2 (by omega);rw[HGB.out j (j - m) (by omega) (by omega)] at h1;exact h1
   obtain⟨D,hD⟩:∃D,D=B.take (j - m):=⟨_,rfl⟩;obtain⟨R,hR⟩:∃R,R=B.drop (j - m):=⟨_,rfl⟩;have hDl:m+D.length=j:=by rw[hD,List.length_take];omega
   have HB:Hid (B=D++R/\m+D.length=j):=⟨by rw[hD,hR,List.take_append_drop],hDl⟩;rw[<- hD,<- hR] at HS
   have HU:Hid (Od.In w0 blk off n (Nm.up P D x (R++Q) 0) wr):=by
    show Od.In _ _ _ _ _ _;rw[Nm.zg6];refine HI.out.of ?_;rw[HB.out.1];simp
   have hDl1:m+D.length<=j:=by omega
   have hDl2:j<=m+D.length:=by omega
   clear HI HO HGB HGa HG HIn hk hD hR hDl;go_wp2
   go_loopw [13] (fun vk wr=>∃t:Nat,vk= .int .i64 ((a+t:Nat):Int)/\t<=D.length/\Hid (Od.In w0 blk off n (Nm.up P D x (R++Q) t) wr)) (fun vk _=>j - (RowKit.intOf vk).toNat)
   case atStart=>exact⟨0,by simp,Nat.zero_le _,HU.out⟩
   case round =>
    obtain⟨t,rfl,ht,HT⟩:=hrel;clear HU
    by_cases hlt:t<D.length
    ·obtain⟨F,hF⟩:∃F:Nat->Int,∀q,F q=(Nm.up P D x (R++Q) t).toArray[q]! := ⟨fun q=>(Nm.up P D x (R++Q) t).toArray[q]!,fun _=>rfl⟩;obtain⟨k,hk⟩:∃k,k=a+t:=⟨_,rfl⟩;have hk1:k+1<j:=by omega
     have hcw:∀q,q<n->wr.cell? ⟨blk,off+q,none⟩=some (.int .i64 (F q)):=fun q hq=>by rw[hF];exact HT.out.cell q hq
     have hfw:=fun q hq=>HT.out.free q hq
     have HW:Hid (∀q,Od.In w0 blk off n (Nm.up P D x (R++Q) (t+1)) (((wr.drewN q).setCell ⟨blk,off+k,none⟩ (.int .i64 (F (k+1)))).setCell ⟨blk,off+(k+1),none⟩ (.int .i64 (F k)))):=fun q=>by
      rw[hF,hF];exact HT.out.swap (i:=k) (j:=k+1) (by omega) (by omega) (Nm.zpi P D x (R++Q) hlt (by have:=HL.out.1;omega)) q
     rw[<- hk];have HK:=qH hk;clear hF HT hk;go_wp2
     go_region
     all_goals go_wp2
     go_roundw
     case rel=>exact⟨t+1,by have:=HK.out;congr 1;omega,by omega,HW.out 1⟩
     case measure=>have:=HK.out;simp[RowKit.intOf];omega
    ·have e:t=D.length:=by omega
     have HE:Hid (Od.In w0 blk off n (P++(D++x::R)++Q) wr):=by
      have h:=HT.out;rw[e,Nm.zli] at h;refine h.of ?_;simp
     clear HT;go_wp2;refine bodyPost_ret (v:= .tuple #[]) (by simp[results,results150,go_sem, *]) rfl ?_;refine⟨rfl,_,?_,HS.out.1,HS.out.2,HE.out⟩;rw[HB.out.1];simp;omega
theorem zno [Od.Ck] (w0 w:World)(blk off n cap a m b:Nat)(P A Q:List Int)(y:Int)(HK:Hid (Od.Con w0 blk))(h0:Od.In w0 blk off n (P++(A++ [y])++Q) w)(ha:a=P.length)(hm:m=a+A.length)(hb:b=m+1)(h2:2<=A.length)(hA:Od.Srt A)(hsz:n<1152921504606846976) :
  Calls prog 150 #[.slice (some ⟨blk,off,none⟩) n cap,.int .i64 a,.int .i64 m,.int .i64 b,.func (.func 102) #[] #[.pointer (some ⟨Od.Ck.kb,0,none⟩)]] w fun e w'=>e= .returned (.tuple #[])/\∃S',S'.length=A.length+1/\Od.Srt S'/\Od.Eqv (A++ [y]) S'/\Od.In w0 blk off n (P++S'++Q) w':=by
 have eg:∀args w,(callFunc 102 args).run prog w= .ok (.enter 102 args) w:=enters_of func102 (by kernel_rfl) rfl;have hlen:=h0.1;simp only[List.length_append,List.length_cons,List.length_nil] at hlen;have hmn:m<n:=by omega
 have ham:a+2<=m:=by omega
 have e1:¬((m:Int) - (a:Int)=1):=by omega
 have e2:(b:Int) - (m:Int)=1:=by omega
 have HL:Hid (a=P.length/\m=a+A.length/\b=m+1/\Od.Srt A):=⟨ha,hm,hb,hA⟩;obtain⟨G,hG⟩:∃G:Nat->Int,∀t,G t=(P++(A++ [y])++Q).toArray[t]! := ⟨fun t=>(P++(A++ [y])++Q).toArray[t]!,fun _=>rfl⟩
 have HGm:Hid (G m=y):=by
  show _=_;have e:P++(A++ [y])++Q=(P++A)++y::Q:=by simp
  rw[hG,e];exact Nm.zc4 (P++A) Q y (by simp;omega)
 have HGA:Hid (∀(t k:Nat) (h:k<A.length),t=a+k->G t=A[k]):=fun t k h e0=>by
  have e:P++(A++ [y])++Q=P++A++([y]++Q):=by simp
  rw[hG,e,Nm.zb3 P A ([y]++Q) (by omega) (by omega)];congr 1;omega
 have HIn:=qH h0;have HG:=qH hG;clear h0 ha hm hb hA hlen hG h2
 go_enter func150,ntmps150
 go_wp2
 go_loopw [14,15] (fun vi vj wr=>∃i j:Nat,vi= .int .i64 i/\vj= .int .i64 j/\a<=i/\i<=j/\j<=m/\Hid (Od.In w0 blk off n (P++(A++ [y])++Q) wr)/\Hid ((a<i->Od.cls (G (i - 1))<=Od.cls y)/\(j<m->Od.cls y<Od.cls (G j)))) (fun vi vj _=>(RowKit.intOf vj).toNat - (RowKit.intOf vi).toNat)
 case atStart=>exact⟨a,m,rfl,rfl,qN,by omega,qN,HIn.out,fun h=>absurd h (Nat.lt_irrefl _),fun h=>absurd h (Nat.lt_irrefl _)⟩
 case round =>
  obtain⟨i,j,rfl,rfl,hai,hij,hjm,HI,HO⟩:=hrel
  by_cases hlt:i<j
  ·obtain⟨c,hc⟩:∃c:Nat,((i:Int)+(j:Int)) / 2=(c:Int):=⟨(i+j) / 2,by omega⟩;have hc1:i<=c:=by omega
   have hc2:c<j:=by omega
   have hcw:∀t,t<n->wr.cell? ⟨blk,off+t,none⟩=some (.int .i64 (G t)):=fun t ht=>by rw[HG.out];exact HI.out.cell t ht
   have cm:wr.cell? ⟨blk,off+m,none⟩=some (.int .i64 y):=by rw[hcw m (by omega),HGm.out]
   obtain⟨x,hx⟩:∃x,x=G c:=⟨_,rfl⟩;have cc:wr.cell? ⟨blk,off+c,none⟩=some (.int .i64 x):=by rw[hcw c (by omega),hx]
   have HY:=qH hx;have HC:Hid (Od.cmp y x<0↔Od.cls y<Od.cls x):=Od.zd7;have hcm:=HI.out.con HK.out (x:=y) (y:=x) (by rw[<- HGm.out,HG.out];exact HI.out.okAt (by omega)) (by rw[hx,HG.out];exact HI.out.okAt (by omega));clear hcw hx;go_wp2
   by_cases hxy:Od.cmp y x<0
   ·go_quiet (first | (go_at_call 102;refine Calls.quiet_of_same (hcm _ (by first | rfl | simp))))
    go_wp2
    go_roundw
    case rel=>exact⟨i,c,rfl,rfl,hai,by omega,by omega,HI.out.drew _,HO.out.1,fun _=>by rw[<- HY.out];exact HC.out.1 hxy⟩
    case measure=>simp[RowKit.intOf];omega
   ·go_quiet (first | (go_at_call 102;refine Calls.quiet_of_same (hcm _ (by first | rfl | simp))))
    go_wp2
    go_roundw
    case rel=>exact⟨c+1,j,by go_num,rfl,by omega,by omega,hjm,HI.out.drew _,fun _=>by rw[Nat.add_sub_cancel,<- HY.out];exact Int.not_lt.1 fun h=>hxy (HC.out.2 h),HO.out.2⟩
    case measure=>simp[RowKit.intOf];omega
  ·have hje:j=i:=by omega
   subst hje;have hk:j - a<=A.length:=by have:=HL.out;omega
   have HS:Hid (Od.Srt (A.take (j - a)++y::A.drop (j - a))/\Od.Eqv (A++ [y]) (A.take (j - a)++y::A.drop (j - a))):=by
    have hm:=HL.out.2.1
    have k1:=Od.zbb HL.out.2.2.2 hk fun h=>by
     have h1:=HO.out.1 (by omega);rw[HGA.out (j - 1) (j - a - 1) (by omega) (by omega)] at h1;exact h1
    have k2:∀u∈A.drop (j - a),Od.cls y<Od.cls u:=Od.zc8 HL.out.2.2.2 fun h=>by
     have h1:=HO.out.2 (by omega);rw[HGA.out j (j - a) (by omega) (by omega)] at h1;exact h1
    refine⟨Od.zc9 (by rw[List.take_append_drop];exact HL.out.2.2.2) k1 k2,?_⟩;have h:=Od.zda (D1:=A.take (j - a)) k2;rw[List.take_append_drop] at h;exact h
   obtain⟨E,hE⟩:∃E,E=A.take (j - a):=⟨_,rfl⟩;obtain⟨D,hD⟩:∃D,D=A.drop (j - a):=⟨_,rfl⟩;have hEl:a+E.length=j:=by rw[hE,List.length_take];omega
   have hDl:j+D.length=m:=by have:=HL.out.2.1;rw[hD,List.length_drop];omega
   have HB:Hid (A=E++D/\a+E.length=j):=⟨by rw[hE,hD,List.take_append_drop],hEl⟩;rw[<- hE,<- hD] at HS
   have HU:Hid (Od.In w0 blk off n (Nm.up (P++E) D y Q D.length) wr):=by
    show Od.In _ _ _ _ _ _;rw[Nm.zli];refine HI.out.of ?_;rw[HB.out.1];simp
   have hDl1:j+D.length<=m:=by omega
   have hDl2:m<=j+D.length:=by omega
   clear HI HO HGA HGm HG HIn hk hD hE hEl hDl;go_wp2
   go_loopw [17] (fun vk wr=>∃t:Nat,vk= .int .i64 ((j+t:Nat):Int)/\t<=D.length/\Hid (Od.In w0 blk off n (Nm.up (P++E) D y Q t) wr)) (fun vk _=>(RowKit.intOf vk).toNat)
   case atStart=>exact⟨D.length,by congr 1;omega,qN,HU.out⟩
   case round =>
    obtain⟨t,rfl,ht,HT⟩:=hrel;clear HU;cases t with
    | succ t =>
     obtain⟨F,hF⟩:∃F:Nat->Int,∀q,F q=(Nm.up (P++E) D y Q (t+1)).toArray[q]! := ⟨fun q=>(Nm.up (P++E) D y Q (t+1)).toArray[q]!,fun _=>rfl⟩;obtain⟨k,hk⟩:∃k,k=j+(t+1):=⟨_,rfl⟩;have hk1:j<k:=by omega
     have hk2:k<=m:=by omega
     have hcw:∀q,q<n->wr.cell? ⟨blk,off+q,none⟩=some (.int .i64 (F q)):=fun q hq=>by rw[hF];exact HT.out.cell q hq
     have hfw:=fun q hq=>HT.out.free q hq
     have HW:Hid (∀q,Od.In w0 blk off n (Nm.up (P++E) D y Q t) (((wr.drewN q).setCell ⟨blk,off+k,none⟩ (.int .i64 (F (k - 1)))).setCell ⟨blk,off+(k - 1),none⟩ (.int .i64 (F k)))):=fun q=>by
      rw[hF,hF];exact HT.out.swap (i:=k) (j:=k - 1) (by omega) (by omega) (Nm.zpj (P++E) D y Q (by omega) (by have:=HL.out.1;have:=HB.out.2;simp;omega)) q
     rw[<- hk];have HK:=qH hk;clear hF HT hk;go_wp2
     go_region
     all_goals go_wp2
     go_roundw
     case rel=>exact⟨t,by have:=HK.out;congr 1;omega,by omega,HW.out 1⟩
     case measure=>have:=HK.out;simp[RowKit.intOf];omega
    | zero =>
     have HE:Hid (Od.In w0 blk off n (P++(E++y::D)++Q) wr):=by
      have h:=HT.out;rw[Nm.zg6] at h;refine h.of ?_;simp
     clear HT;go_wp2;refine bodyPost_ret (v:= .tuple #[]) (by simp[results,results150,go_sem, *]) rfl ?_;refine⟨rfl,_,?_,HS.out.1,HS.out.2,HE.out⟩;rw[HB.out.1];simp;omega
end
section
open Go.RowKit Go.Sort Go.Shelf
namespace Od
variable [Ck]
def Mg (w0:World) (blk off n:Nat) (P A B Q:List Int) (w':World):Prop:=∃S',S'.length=A.length+B.length/\Srt S'/\Eqv (A++B) S'/\In w0 blk off n (P++S'++Q) w'
end Od
theorem znn [Od.Ck] (N:Nat)(w0 w:World)(blk off n cap a m b:Nat)(P A B Q:List Int)(HK:Hid (Od.Con w0 blk))(h0:Od.In w0 blk off n (P++(A++B)++Q) w)(ha:a=P.length)(hm:m=a+A.length)(hb:b=m+B.length)(hA2:2<=A.length)(hB2:2<=B.length)(hA:Od.Srt A)(hB:Od.Srt B)(hsz:n<1152921504606846976)(hN:A.length+B.length<=N+1)
  (ih:∀(X:World) (a m b:Nat) (P A B Q:List Int),Od.In w0 blk off n (P++(A++B)++Q) X->a=P.length->m=a+A.length->b=m+B.length->1<=A.length->1<=B.length->A.length+B.length<=N->Od.Srt A->Od.Srt B->Calls prog 150 #[.slice (some ⟨blk,off,none⟩) n cap,.int .i64 a,.int .i64 m,.int .i64 b,.func (.func 102) #[] #[.pointer (some ⟨Od.Ck.kb,0,none⟩)]] X fun e w'=>e= .returned (.tuple #[])/\Od.Mg w0 blk off n P A B Q w') :
  Calls prog 150 #[.slice (some ⟨blk,off,none⟩) n cap,.int .i64 a,.int .i64 m,.int .i64 b,.func (.func 102) #[] #[.pointer (some ⟨Od.Ck.kb,0,none⟩)]] w fun e w'=>e= .returned (.tuple #[])/\Od.Mg w0 blk off n P A B Q w':=by
 have eg:∀args w,(callFunc 102 args).run prog w= .ok (.enter 102 args) w:=enters_of func102 (by kernel_rfl) rfl;have hlen:=h0.1;simp only[List.length_append] at hlen;have hbn:b<=n:=by omega
 have ham:a+2<=m:=by omega
 have hmb:m+2<=b:=by omega
 have e1:¬((m:Int) - (a:Int)=1):=by omega
 have e2:¬((b:Int) - (m:Int)=1):=by omega
 obtain⟨d,hd⟩:∃d:Nat,((a:Int)+(b:Int)) / 2=(d:Int):=⟨(a+b) / 2,by omega⟩;have hd1:2*d<=a+b:=by omega
 have hd2:a+b<=2*d+1:=by omega
 have HIh:=qH ih;have HL:Hid (a=P.length/\m=a+A.length/\b=m+B.length/\Od.Srt A/\Od.Srt B/\A.length+B.length<=N+1):=⟨ha,hm,hb,hA,hB,hN⟩;obtain⟨G,hG⟩:∃G:Nat->Int,∀t,G t=(P++(A++B)++Q).toArray[t]! := ⟨fun t=>(P++(A++B)++Q).toArray[t]!,fun _=>rfl⟩
 have HGA:Hid (∀(t k:Nat) (h:k<A.length),t=a+k->G t=A[k]):=fun t k h e0=>by
  have e:P++(A++B)++Q=P++A++(B++Q):=by simp
  rw[hG,e,Nm.zb3 P A (B++Q) (by omega) (by omega)];congr 1;omega
 have HGB:Hid (∀(t k:Nat) (h:k<B.length),t=m+k->G t=B[k]):=fun t k h e0=>by
  have e:P++(A++B)++Q=(P++A)++B++Q:=by simp
  rw[hG,e,Nm.zb3 (P++A) B Q (by simp;omega) (by simp;omega)];congr 1;simp;omega
 have HIn:=qH h0;have HG:=qH hG
 obtain⟨s0,r0,hs0⟩:∃s0 r0:Nat,(d<m->s0+b=d+m/\r0=d)/\(¬d<m->s0=a/\r0=m):=by
  by_cases h:d<m
  ·exact⟨d+m - b,d,fun _=>⟨by omega,rfl⟩,fun h'=>absurd h h'⟩
  ·exact⟨a,m,fun h'=>absurd h' h,fun _=>⟨rfl,rfl⟩⟩
 have HS0:=qH hs0
 have hq:a<=s0/\s0<=r0/\r0<=m/\d+m<=s0+b/\r0<=d/\(s0=a∨s0+b=d+m)/\(r0=m∨r0=d):=by
  by_cases h:d<m
  ·have:=hs0.1 h;omega
  ·have:=hs0.2 h;omega
 obtain⟨q1,q2,q3,q4,q5,q6,q7⟩:=hq;have HQ:Hid ((s0=a∨s0+b=d+m)/\(r0=m∨r0=d)):=⟨q6,q7⟩;clear h0 ha hm hb hA hB hG hN ih hA2 hB2 hs0 q6 q7
 go_enter func150,ntmps150
 go_upto_if 140 with fail
 go_cut [20,21] (fun v20 v21 wx=>wx=w/\v20= .int .i64 (s0:Int)/\v21= .int .i64 (r0:Int))
 case first=>as_aux_lemma =>
  by_cases h:d<m
  ·obtain⟨h1,h2⟩:=HS0.out.1 h;have e3:(d:Int)+(m:Int) - (b:Int)=(s0:Int):=by omega
   subst h2
   go_wp2_with fail
   go_meet
   case rel=>exact⟨rfl,rfl,rfl⟩
  ·obtain⟨h1,h2⟩:=HS0.out.2 h;subst h1 h2
   go_wp2_with fail
   go_meet
   case rel=>exact⟨rfl,rfl,rfl⟩
 case rest =>
  obtain⟨rfl,rfl,rfl⟩:=hcut;clear HS0;have hdm:d+m<=2*n:=by omega
  have hdm2:m<=r0+(b - m)+m:=by omega
  go_wp2
  go_loopw [20,21] (fun vi vj wr=>∃i j:Nat,vi= .int .i64 i/\vj= .int .i64 j/\s0<=i/\i<=j/\j<=r0/\Hid (Od.In w0 blk off n (P++(A++B)++Q) wr)/\Hid ((s0<i->Od.cls (G (i - 1))<=Od.cls (G (d+m - i)))/\(j<r0->Od.cls (G (d+m - 1 - j))<Od.cls (G j)))) (fun vi vj _=>(RowKit.intOf vj).toNat - (RowKit.intOf vi).toNat)
  case atStart=>exact⟨s0,r0,rfl,rfl,qN,q2,qN,HIn.out,fun h=>absurd h (Nat.lt_irrefl _),fun h=>absurd h (Nat.lt_irrefl _)⟩
  case round =>
   obtain⟨i,j,rfl,rfl,hsi,hij,hjr,HI,HO⟩:=hrel
   by_cases hlt:i<j
   ·as_aux_lemma =>
    obtain⟨c,hc⟩:∃c:Nat,((i:Int)+(j:Int)) / 2=(c:Int):=⟨(i+j) / 2,by omega⟩;have hc1:i<=c:=by omega
    have hc2:c<j:=by omega
    obtain⟨k,hk⟩:∃k:Nat,(d:Int)+(m:Int) - 1 - (c:Int)=(k:Int):=⟨d+m - 1 - c,by omega⟩;have hcw:∀t,t<n->wr.cell? ⟨blk,off+t,none⟩=some (.int .i64 (G t)):=fun t ht=>by rw[HG.out];exact HI.out.cell t ht
    obtain⟨x,hx⟩:∃x,x=G k:=⟨_,rfl⟩;obtain⟨y,hy⟩:∃y,y=G c:=⟨_,rfl⟩;have ck:wr.cell? ⟨blk,off+k,none⟩=some (.int .i64 x):=by rw[hcw k (by omega),hx]
    have cc:wr.cell? ⟨blk,off+c,none⟩=some (.int .i64 y):=by rw[hcw c (by omega),hy]
    have hkn:k<n:=by omega
    have HY:Hid (x=G k/\y=G c/\k=d+m - 1 - c):=⟨hx,hy,by omega⟩;have HC:Hid (Od.cmp x y<0↔Od.cls x<Od.cls y):=Od.zd7;have hcm:=HI.out.con HK.out (x:=x) (y:=y) (by rw[hx,HG.out];exact HI.out.okAt (by omega)) (by rw[hy,HG.out];exact HI.out.okAt (by omega));clear hcw hx hy;go_wp2
    by_cases hxy:Od.cmp x y<0
    ·go_quiet (first | (go_at_call 102;refine Calls.quiet_of_same (hcm _ (by first | rfl | simp))))
     go_wp2
     go_roundw
     case rel=>exact⟨i,c,rfl,rfl,hsi,by omega,by omega,HI.out.drew _,HO.out.1,fun _=>by obtain⟨h1,h2,h3⟩:=HY.out;rw[<- h3,<- h1,<- h2];exact HC.out.1 hxy⟩
     case measure=>simp[RowKit.intOf];omega
    ·go_quiet (first | (go_at_call 102;refine Calls.quiet_of_same (hcm _ (by first | rfl | simp))))
     go_wp2
     go_roundw
     case rel=>exact⟨c+1,j,by go_num,rfl,by omega,by omega,hjr,HI.out.drew _,fun _=>by obtain⟨h1,h2,h3⟩:=HY.out;rw[show d+m - (c+1)=k by omega,Nat.add_sub_cancel,<- h1,<- h2];exact Int.not_lt.1 fun h=>hxy (HC.out.2 h),HO.out.2⟩
     case measure=>simp[RowKit.intOf];omega
   ·have hje:j=i:=by omega
    subst hje;obtain⟨e,he⟩:∃e:Nat,(d:Int)+(m:Int) - (j:Int)=(e:Int):=⟨d+m - j,by omega⟩;have he1:m<=e:=by omega
    have he2:e<=b:=by omega
    have he3:e+j<=d+m:=by omega
    have he4:d+m<=e+j:=by omega
    have HF:Hid ((∀u∈A.take (j - a),∀v∈B.drop (e - m),Od.cls u<=Od.cls v)/\(∀u∈A.drop (j - a),∀v∈B.take (e - m),Od.cls v<Od.cls u)):=by
     obtain⟨g1,g2,g3,g4,g5,g6⟩:=HL.out
     as_aux_lemma =>
     refine⟨fun u hu v hv=> ?_,fun u hu v hv=> ?_⟩
     ·by_cases h:s0<j
      ·have h1:=HO.out.1 h;have hul:=List.length_pos_of_mem hu;have hvl:=List.length_pos_of_mem hv;rw[List.length_take] at hul;rw[List.length_drop] at hvl;rw[HGA.out (j - 1) (j - a - 1) (by omega) (by omega),HGB.out (d+m - j) (e - m) (by omega) (by omega)] at h1;have k1:=Od.zbb g4 (k:=j - a) (by omega) (fun _=>Int.le_refl (Od.cls (A[j - a - 1]'(by omega)))) u hu;have k2:=Od.zbc g5 (k:=e - m) (c:=Od.cls (B[e - m]'(by omega))) (fun _=>Int.le_refl _) v hv;omega
      ·have hj:j=s0:=by omega
       rcases HQ.out.1 with h1 | h1
       ·rw[show j - a=0 by omega,List.take_zero] at hu;cases hu
       ·rw[List.drop_eq_nil_of_le (by omega)] at hv;cases hv
     ·by_cases h:j<r0
      ·have h1:=HO.out.2 h;have hul:=List.length_pos_of_mem hu;have hvl:=List.length_pos_of_mem hv;rw[List.length_drop] at hul;rw[List.length_take] at hvl;rw[HGA.out j (j - a) (by omega) (by omega),HGB.out (d+m - 1 - j) (e - m - 1) (by omega) (by omega)] at h1;have k1:=Od.zbb g5 (k:=e - m) (by omega) (fun _=>Int.le_refl (Od.cls (B[e - m - 1]'(by omega)))) v hv;have k2:=Od.zbc g4 (k:=j - a) (c:=Od.cls (A[j - a]'(by omega))) (fun _=>Int.le_refl _) u hu;omega
      ·have hj:j=r0:=by omega
       rcases HQ.out.2 with h1 | h1
       ·rw[List.drop_eq_nil_of_le (by omega)] at hu;cases hu
       ·rw[show e - m=0 by omega,List.take_zero] at hv;cases hv
    obtain⟨A1,hA1⟩:∃A1,A1=A.take (j - a):=⟨_,rfl⟩;obtain⟨A2,hA2⟩:∃A2,A2=A.drop (j - a):=⟨_,rfl⟩;obtain⟨B1,hB1⟩:∃B1,B1=B.take (e - m):=⟨_,rfl⟩;obtain⟨B2,hB2⟩:∃B2,B2=B.drop (e - m):=⟨_,rfl⟩
    have HP:Hid (A=A1++A2/\B=B1++B2/\a+A1.length=j/\j+A2.length=m/\m+B1.length=e/\e+B2.length=b/\P.length=a):=by
     obtain⟨g1,g2,g3,g4,g5,g6⟩:=HL.out;refine⟨by rw[hA1,hA2,List.take_append_drop],by rw[hB1,hB2,List.take_append_drop],?_,?_,?_,?_,g1.symm⟩
     ·rw[hA1,List.length_take];omega
     ·rw[hA2,List.length_drop];omega
     ·rw[hB1,List.length_take];omega
     ·rw[hB2,List.length_drop];omega
    have HSr:Hid (Od.Srt A1/\Od.Srt A2/\Od.Srt B1/\Od.Srt B2):=by
     obtain⟨g1,g2,g3,g4,g5,g6⟩:=HL.out;rw[HP.out.1] at g4;rw[HP.out.2.1] at g5;exact⟨g4.parts.1,g4.parts.2.1,g5.parts.1,g5.parts.2.1⟩
    have HFin:Hid (∀S1 S2 X,Od.Srt S1->Od.Srt S2->Od.Eqv (A1++B1) S1->Od.Eqv (A2++B2) S2->S1.length=A1.length+B1.length->S2.length=A2.length+B2.length->Od.In w0 blk off n (P++S1++S2++Q) X->Od.Mg w0 blk off n P A B Q X):=fun S1 S2 X k1 k2 k3 k4 k5 k6 k7=>by
     rw[hA1,hB1] at k3;rw[hA2,hB2] at k4;have h:=Od.four HL.out.2.2.2.1 HL.out.2.2.2.2.1 HF.out.1 HF.out.2 k1 k2 k3 k4;refine⟨S1++S2,?_,h.1,h.2,k7.of (by simp)⟩;have p1:=congrArg List.length HP.out.1;have p2:=congrArg List.length HP.out.2.1;rw[List.length_append] at p1 p2 ⊢;omega
    have HI2:Hid (Od.In w0 blk off n (P++A1++A2++B1++(B2++Q)) wr):=by
     refine HI.out.of ?_;rw[HP.out.1,HP.out.2.1];simp
    have HN1:Hid (A1.length+B1.length<=N/\A2.length+B2.length<=N):=by
     obtain⟨p1,p2,p3,p4,p5,p6,p7⟩:=HP.out;have:=HL.out.2.2.2.2.2;have x1:=congrArg List.length p1;have x2:=congrArg List.length p2;rw[List.length_append] at x1 x2;exact⟨by omega,by omega⟩
    have HR:Hid (∀(X:World) (a m b:Nat) (P U V Q:List Int),Od.In w0 blk off n (P++U++V++Q) X->a=P.length->m=P.length+U.length->b=P.length+U.length+V.length->0<U.length->0<V.length->Calls prog 188 #[.slice (some ⟨blk,off,none⟩) n cap,.int .i64 a,.int .i64 m,.int .i64 b,.func (.func 102) #[] #[.pointer (some ⟨Od.Ck.kb,0,none⟩)]] X fun e w'=>e= .returned (.tuple #[])/\Od.In w0 blk off n (P++V++U++Q) w'):=fun X a m b P U V Q k1 k2 k3 k4 k5 k6=>zqw w0 X blk off n cap a m b _ P U V Q k1 k2 k3 k4 k5 k6 hsz
    have haj:a<=j:=by omega
    have hjm:j<=m:=by omega
    have hA1l:¬a<j->A1= []:=fun h=>List.eq_nil_of_length_eq_zero (by have:=HP.out;omega)
    have hA2l:¬j<m->A2= []:=fun h=>List.eq_nil_of_length_eq_zero (by have:=HP.out;omega)
    have hB1l:¬m<e->B1= []:=fun h=>List.eq_nil_of_length_eq_zero (by have:=HP.out;omega)
    have hB2l:¬e<b->B2= []:=fun h=>List.eq_nil_of_length_eq_zero (by have:=HP.out;omega)
    have HNil:Hid ((¬a<j->A1= [])/\(¬j<m->A2= [])/\(¬m<e->B1= [])/\(¬e<b->B2= [])):=⟨hA1l,hA2l,hB1l,hB2l⟩;clear HI HO HGA HGB HG HIn HF HQ hA1 hA2 hB1 hB2 hA1l hA2l hB1l hB2l;obtain⟨t1,ht1⟩:∃t1:Bool,t1=(decide (j<m)&&decide (m<e)):=⟨_,rfl⟩;obtain⟨t2,ht2⟩:∃t2:Bool,t2=(decide (a<j)&&decide (j<d)):=⟨_,rfl⟩;have HT1:=qH ht1;have HT2:=qH ht2;clear ht1 ht2
    go_upto_region 39 with fail
    go_cut [185] (fun v wx=>v= .bool t1/\Hid (Od.In w0 blk off n (P++A1++A2++B1++(B2++Q)) wx))
    case first=>as_aux_lemma =>
     by_cases h1:j<m
     ·by_cases h2:m<e
      ·have h3:t1=true:=by rw[HT1.out];simp[h1,h2]
       subst h3
       go_wp2_with fail
       go_meet
       case rel=>exact⟨rfl,HI2⟩
      ·have h3:t1=false:=by rw[HT1.out];simp[h2]
       subst h3
       go_wp2_with fail
       go_meet
       case rel=>exact⟨rfl,HI2⟩
     ·have h3:t1=false:=by rw[HT1.out];simp[h1]
      subst h3
      go_wp2_with fail
      go_meet
      case rel=>exact⟨rfl,HI2⟩
    case rest =>
    obtain⟨hv,hX⟩:=hcut;subst hv;have HI2:Hid (Od.In w0 blk off n (P++A1++A2++B1++(B2++Q)) wc):=hX;clear hX
    go_upto_if 185 with fail
    go_cut [] (fun wx=>Hid (Od.In w0 blk off n (P++(A1++B1)++(A2++B2)++Q) wx))
    case first=>as_aux_lemma =>
     cases t1 with
     | true =>
      have h12:j<m/\m<e:=by have h:=HT1.out;simpa using h.symm
      have hC:=HR.out wc j m e (P++A1) A2 B1 (B2++Q) HI2.out (by have:=HP.out;simp;omega) (by have:=HP.out;simp;omega) (by have:=HP.out;simp;omega) (by have:=HP.out;omega) (by have:=HP.out;omega);clear HR HIh HFin HNil
      go_wp2_with fail
      refine hC.mono ?_;rintro x w1 ⟨rfl,h6⟩;have H6:Hid (Od.In w0 blk off n (P++(A1++B1)++(A2++B2)++Q) w1):=by refine h6.of ?_;simp
      clear h6 hC
      go_wp2_with fail
      go_meet
      case rel=>exact H6
     | false =>
      have H6:Hid (Od.In w0 blk off n (P++(A1++B1)++(A2++B2)++Q) wc):=by
       refine HI2.out.of ?_;have h:¬(j<m/\m<e):=by have h:=HT1.out;simpa using h.symm
       by_cases h1:j<m
       ·rw[HNil.out.2.2.1 fun h2=>h ⟨h1,h2⟩];simp
       ·rw[HNil.out.2.1 h1];simp
      clear HR HIh HFin HNil
      go_wp2_with fail
      go_meet
      case rel=>exact H6
    case rest =>
    have HI3:Hid (Od.In w0 blk off n (P++(A1++B1)++(A2++B2)++Q) wc):=hcut;clear hcut HI2 HR HT1
    go_upto_region 41 with fail
    go_cut [199] (fun v wx=>v= .bool t2/\Hid (Od.In w0 blk off n (P++(A1++B1)++(A2++B2)++Q) wx))
    case first=>as_aux_lemma =>
     by_cases h1:a<j
     ·by_cases h2:j<d
      ·have h3:t2=true:=by rw[HT2.out];simp[h1,h2]
       subst h3
       go_wp2_with fail
       go_meet
       case rel=>exact⟨rfl,HI3⟩
      ·have h3:t2=false:=by rw[HT2.out];simp[h2]
       subst h3
       go_wp2_with fail
       go_meet
       case rel=>exact⟨rfl,HI3⟩
     ·have h3:t2=false:=by rw[HT2.out];simp[h1]
      subst h3
      go_wp2_with fail
      go_meet
      case rel=>exact⟨rfl,HI3⟩
    case rest =>
    obtain⟨hv,hX⟩:=hcut;subst hv;have HI3:Hid (Od.In w0 blk off n (P++(A1++B1)++(A2++B2)++Q) wc):=hX;clear hX
    go_upto_if 199 with fail
    go_cut [] (fun wx=>Hid (∃S1,S1.length=A1.length+B1.length/\Od.Srt S1/\Od.Eqv (A1++B1) S1/\Od.In w0 blk off n (P++S1++(A2++B2)++Q) wx))
    case first=>as_aux_lemma =>
     cases t2 with
     | true =>
      have h12:a<j/\j<d:=by have h:=HT2.out;simpa using h.symm
      have hC:=HIh.out wc a j d P A1 B1 ((A2++B2)++Q) (HI3.out.of (by simp)) (by have:=HP.out;omega) (by have:=HP.out;omega) (by have:=HP.out;omega) (by have:=HP.out;omega) (by have:=HP.out;omega) HN1.out.1 HSr.out.1 HSr.out.2.2.1;clear HIh HFin HNil
      go_wp2_with fail
      refine hC.mono ?_;rintro x w1 ⟨rfl,S1,k1,k2,k3,k4⟩;have H6:Hid (∃S1,S1.length=A1.length+B1.length/\Od.Srt S1/\Od.Eqv (A1++B1) S1/\Od.In w0 blk off n (P++S1++(A2++B2)++Q) w1):=⟨S1,k1,k2,k3,k4.of (by simp)⟩;clear k1 k2 k3 k4 hC
      go_wp2_with fail
      go_meet
      case rel=>exact H6
     | false =>
      have H6:Hid (∃S1,S1.length=A1.length+B1.length/\Od.Srt S1/\Od.Eqv (A1++B1) S1/\Od.In w0 blk off n (P++S1++(A2++B2)++Q) wc):=by
       have h:¬(a<j/\j<d):=by have h:=HT2.out;simpa using h.symm
       refine⟨A1++B1,by simp,?_,Od.Eqv.refl _,HI3.out⟩
       by_cases h1:a<j
       ·rw[HNil.out.2.2.1 (by omega),List.append_nil];exact HSr.out.1
       ·rw[HNil.out.1 h1,List.nil_append];exact HSr.out.2.2.1
      clear HIh HFin HNil
      go_wp2_with fail
      go_meet
      case rel=>exact H6
    case rest=>as_aux_lemma =>
    obtain⟨S1,k1,k2,k3,k4⟩:=hcut.out;have HI4:=qH k4;have HS1:Hid (S1.length=A1.length+B1.length/\Od.Srt S1/\Od.Eqv (A1++B1) S1):=⟨k1,k2,k3⟩;clear k1 k2 k3 k4 hcut HI3 HT2
    by_cases h1:d<e
    ·by_cases h2:e<b
     ·have hC:=HIh.out wc d e b (P++S1) A2 B2 Q (HI4.out.of (by simp)) (by have:=HP.out;have:=HS1.out.1;simp;omega) (by have:=HP.out;omega) (by have:=HP.out;omega) (by have:=HP.out;omega) (by have:=HP.out;omega) HN1.out.2 HSr.out.2.1 HSr.out.2.2.2;clear HIh HNil
      go_wp2_with fail
      refine hC.mono ?_;rintro x w1 ⟨rfl,S2,k1,k2,k3,k4⟩;have H6:=qH <| HFin.out S1 S2 w1 HS1.out.2.1 k2 HS1.out.2.2 k3 HS1.out.1 k1 k4;clear k1 k2 k3 k4 hC;go_wp2
      go_end0
      exact⟨rfl,H6.out⟩
     ·have H6:=qH <| HFin.out S1 (A2++B2) wc HS1.out.2.1 (by rw[HNil.out.2.2.2 h2,List.append_nil];exact HSr.out.2.1) HS1.out.2.2 (Od.Eqv.refl _) HS1.out.1 (by simp) HI4.out;clear HIh HNil;go_wp2
      go_end0
      exact⟨rfl,H6.out⟩
    ·have H6:=qH <| HFin.out S1 (A2++B2) wc HS1.out.2.1 (by rw[HNil.out.2.1 (by omega),List.nil_append];exact HSr.out.2.2.2) HS1.out.2.2 (Od.Eqv.refl _) HS1.out.1 (by simp) HI4.out;clear HIh HNil;go_wp2
     go_end0
     exact⟨rfl,H6.out⟩
theorem zil [Od.Ck] (w0:World)(blk off n cap:Nat)(hsz:n<1152921504606846976)(HK:Hid (Od.Con w0 blk)):∀(N:Nat) (w:World) (a m b:Nat) (P A B Q:List Int),Od.In w0 blk off n (P++(A++B)++Q) w->a=P.length->m=a+A.length->b=m+B.length->1<=A.length->1<=B.length->A.length+B.length<=N->Od.Srt A->Od.Srt B ->
  Calls prog 150 #[.slice (some ⟨blk,off,none⟩) n cap,.int .i64 a,.int .i64 m,.int .i64 b,.func (.func 102) #[] #[.pointer (some ⟨Od.Ck.kb,0,none⟩)]] w fun e w'=>e= .returned (.tuple #[])/\Od.Mg w0 blk off n P A B Q w':=by
 intro N
 induction N with
 | zero=>intro w a m b P A B Q _ _ _ _ h1 _ h2;omega
 | succ N ih =>
  intro w a m b P A B Q h0 ha hm hb hA1 hB1 hN hA hB
  by_cases h1:A.length=1
  ·obtain⟨x,rfl⟩:=List.length_eq_one_iff.1 h1;refine(znp w0 w blk off n cap a m b P B Q x HK h0 ha hm hb hB hsz).mono fun e w' ⟨e1,S',k1,k2,k3,k4⟩=>⟨e1,S',by rw[k1];simp;omega,k2,k3,k4⟩
  ·by_cases h2:B.length=1
   ·obtain⟨y,rfl⟩:=List.length_eq_one_iff.1 h2;exact zno w0 w blk off n cap a m b P A Q y HK h0 ha hm hb (by omega) hA hsz
   ·exact znn N w0 w blk off n cap a m b P A B Q HK h0 ha hm hb (by omega) (by omega) hA hB hsz hN ih
end
section
open Go.RowKit Go.Sort Go.Shelf
namespace Od
variable [Ck]
def Chk (bs:Nat) (Cs:List (List Int)):Prop:=∀C∈Cs,C.length=bs/\Srt C
theorem Chk.nil (bs:Nat):Chk bs []:=fun C hC=>by cases hC
theorem Chk.snoc {bs:Nat}{Cs:List (List Int)}{C:List Int}(h:Chk bs Cs)(h1:C.length=bs)(h2:Srt C):Chk bs (Cs++ [C]):=fun D hD=>by
 rcases List.mem_append.1 hD with h3 | h3
 ·exact h D h3
 ·simp at h3;subst h3;exact⟨h1,h2⟩
def Ph1 (w0:World) (blk off n:Nat) (L0:List Int) (a:Nat) (wr:World):Prop:=∃Cs R,In w0 blk off n (Cs.flatten++R) wr/\Chk 20 Cs/\Cs.flatten.length=a/\Eqv L0 (Cs.flatten++R)
def Ph2 (w0:World) (blk off n:Nat) (L0:List Int) (bs:Nat) (wr:World):Prop:=∃Cs T,In w0 blk off n (Cs.flatten++T) wr/\Chk bs Cs/\Srt T/\T.length<bs/\Eqv L0 (Cs.flatten++T)
def Ph3 (w0:World) (blk off n:Nat) (L0:List Int) (bs a:Nat) (wr:World):Prop:=∃Ds Cs T,In w0 blk off n (Ds.flatten++(Cs.flatten++T)) wr/\Chk (2*bs) Ds/\Chk bs Cs/\Srt T/\T.length<bs/\Ds.flatten.length=a/\Eqv L0 (Ds.flatten++(Cs.flatten++T))
theorem Ph2.start {w0:World}{blk off n:Nat}{L0:List Int}{bs:Nat}{wr:World}(h:Ph2 w0 blk off n L0 bs wr):Ph3 w0 blk off n L0 bs 0 wr:=by
 obtain⟨Cs,T,h1,h2,h3,h4,h5⟩:=h;exact⟨[],Cs,T,by simpa using h1,Chk.nil _,h2,h3,h4,rfl,by simpa using h5⟩
theorem Ph3.over {w0:World}{blk off n:Nat}{L0:List Int}{bs a:Nat}{wr:World}(h:Ph3 w0 blk off n L0 bs a wr)(hb:0<bs)(hn:n<=a+bs):Ph2 w0 blk off n L0 (2*bs) wr:=by
 obtain⟨Ds,Cs,T,h1,h2,h3,h4,h5,h6,h7⟩:=h;have hl:=h1.1;simp only[List.length_append,h6] at hl;cases Cs with
 | nil=>exact⟨Ds,T,by simpa using h1,h2,h4,by omega,by simpa using h7⟩
 | cons C Cs =>
  have hC:=h3 C List.mem_cons_self;simp only[List.flatten_cons,List.length_append,hC.1] at hl;have e1:Cs.flatten= []:=List.eq_nil_of_length_eq_zero (by omega);have e2:T= []:=List.eq_nil_of_length_eq_zero (by omega);subst e2;exact⟨Ds,C,by simpa [e1] using h1,h2,hC.2,by rw[hC.1];omega,by simpa [e1] using h7⟩
theorem Ph2.done {w0:World}{blk off n:Nat}{L0:List Int}{bs:Nat}{wr:World}(h:Ph2 w0 blk off n L0 bs wr)(hb:0<bs)(hn:n<=bs):∃S',Srt S'/\Eqv L0 S'/\In w0 blk off n S' wr:=by
 obtain⟨Cs,T,h1,h2,h3,h4,h5⟩:=h;have hl:=h1.1;simp only[List.length_append] at hl;cases Cs with
 | nil=>exact⟨T,h3,by simpa using h5,by simpa using h1⟩
 | cons C Cs =>
  have hC:=h2 C List.mem_cons_self;simp only[List.flatten_cons,List.length_append,hC.1] at hl;have e1:Cs.flatten= []:=List.eq_nil_of_length_eq_zero (by omega);have e2:T= []:=List.eq_nil_of_length_eq_zero (by omega);subst e2;exact⟨C,hC.2,by simpa [e1] using h5,by simpa [e1] using h1⟩
end Od
theorem znr [Od.Ck] {w0:World}{blk off n cap:Nat}{L0:List Int}{a:Nat}{wr:World}(hsz:n<1152921504606846976)(HK:Hid (Od.Con w0 blk))(h:Od.Ph1 w0 blk off n L0 a wr)(hn:a+20<=n) :
  Calls prog 149 #[.slice (some ⟨blk,off,none⟩) n cap,.int .i64 (a:Nat),.int .i64 ((a+20:Nat):Int),.func (.func 102) #[] #[.pointer (some ⟨Od.Ck.kb,0,none⟩)]] wr fun e w'=>e= .returned (.tuple #[])/\Od.Ph1 w0 blk off n L0 (a+20) w':=by
 obtain⟨Cs,R,h1,h2,h3,h4⟩:=h;have hl:=h1.1;simp only[List.length_append] at hl;refine(zio w0 wr blk off n cap a (a+20) Cs.flatten (R.take 20) (R.drop 20) HK (h1.of (by rw[List.append_assoc,List.take_append_drop])) h3.symm (by rw[List.length_take];omega) hsz).mono fun e w' ⟨e1,S',k1,k2,k3,k4⟩=>⟨e1,Cs++ [S'],R.drop 20,k4.of (by rw[Nm.za9]),h2.snoc (by rw[k1,List.length_take];omega) k2,?_,?_⟩
 ·rw[Nm.za9,List.length_append,k1,List.length_take];omega
 ·rw[Nm.za9];refine h4.trans ?_;have:=(Od.Eqv.refl Cs.flatten).app (k3.app (Od.Eqv.refl (R.drop 20)));rw[List.take_append_drop] at this;rw[List.append_assoc];exact this
theorem znq [Od.Ck] {w0:World}{blk off n cap:Nat}{L0:List Int}{a:Nat}{wr:World}(hsz:n<1152921504606846976)(HK:Hid (Od.Con w0 blk))(h:Od.Ph1 w0 blk off n L0 a wr)(hn:n<a+20) :
  Calls prog 149 #[.slice (some ⟨blk,off,none⟩) n cap,.int .i64 (a:Nat),.int .i64 (n:Nat),.func (.func 102) #[] #[.pointer (some ⟨Od.Ck.kb,0,none⟩)]] wr fun e w'=>e= .returned (.tuple #[])/\Od.Ph2 w0 blk off n L0 20 w':=by
 obtain⟨Cs,R,h1,h2,h3,h4⟩:=h;have hl:=h1.1;simp only[List.length_append] at hl;refine(zio w0 wr blk off n cap a n Cs.flatten R [] HK (h1.of (by simp)) h3.symm (by omega) hsz).mono fun e w' ⟨e1,S',k1,k2,k3,k4⟩=>⟨e1,Cs,S',k4.of (by simp),h2,k2,by omega,h4.trans ((Od.Eqv.refl _).app k3)⟩
theorem zqv [Od.Ck] {w0:World}{blk off n cap:Nat}{L0:List Int}{bs a:Nat}{wr:World}(hsz:n<1152921504606846976)(HK:Hid (Od.Con w0 blk))(h:Od.Ph3 w0 blk off n L0 bs a wr)(hb:0<bs)(hn:a+2*bs<=n) :
  Calls prog 150 #[.slice (some ⟨blk,off,none⟩) n cap,.int .i64 (a:Nat),.int .i64 ((a+bs:Nat):Int),.int .i64 ((a+2*bs:Nat):Int),.func (.func 102) #[] #[.pointer (some ⟨Od.Ck.kb,0,none⟩)]] wr fun e w'=>e= .returned (.tuple #[])/\Od.Ph3 w0 blk off n L0 bs (a+2*bs) w':=by
 obtain⟨Ds,Cs,T,h1,h2,h3,h4,h5,h6,h7⟩:=h;have hl:=h1.1;simp only[List.length_append,h6] at hl
 match Cs,h1,h3,h7,hl with
 | [],h1,h3,h7,hl=>simp at hl;omega
 | [C],h1,h3,h7,hl =>
  have hC:=h3 C List.mem_cons_self;simp[hC.1] at hl;omega
 | C::D::Cs,h1,h3,h7,hl =>
  have hC:=h3 C List.mem_cons_self;have hD:=h3 D (List.mem_cons_of_mem _ List.mem_cons_self);refine(zil w0 blk off n cap hsz HK (C.length+D.length) wr a (a+bs) (a+2*bs) Ds.flatten C D (Cs.flatten++T) (h1.of (by simp)) h6.symm (by have:=hC.1;omega) (by have:=hD.1;omega) (by have:=hC.1;omega) (by have:=hD.1;omega) qN hC.2 hD.2).mono fun e w' ⟨e1,S',k1,k2,k3,k4⟩=>⟨e1,Ds++ [S'],Cs,T,k4.of (by simp),h2.snoc (by have:=hC.1;have:=hD.1;omega) k2,fun E hE=>h3 E (List.mem_cons_of_mem _ (List.mem_cons_of_mem _ hE)),h4,h5,?_,?_⟩
  ·rw[Nm.za9,List.length_append,k1,hC.1,hD.1];omega
  ·rw[Nm.za9];refine h7.trans ?_;have:=(Od.Eqv.refl Ds.flatten).app (k3.app (Od.Eqv.refl (Cs.flatten++T)));simpa using this
theorem zqu [Od.Ck] {w0:World}{blk off n cap:Nat}{L0:List Int}{bs a:Nat}{wr:World}(hsz:n<1152921504606846976)(HK:Hid (Od.Con w0 blk))(h:Od.Ph3 w0 blk off n L0 bs a wr)(hb:0<bs)(hn:n<a+2*bs)(hm:a+bs<n) :
  Calls prog 150 #[.slice (some ⟨blk,off,none⟩) n cap,.int .i64 (a:Nat),.int .i64 ((a+bs:Nat):Int),.int .i64 (n:Nat),.func (.func 102) #[] #[.pointer (some ⟨Od.Ck.kb,0,none⟩)]] wr fun e w'=>e= .returned (.tuple #[])/\Od.Ph2 w0 blk off n L0 (2*bs) w':=by
 obtain⟨Ds,Cs,T,h1,h2,h3,h4,h5,h6,h7⟩:=h;have hl:=h1.1;simp only[List.length_append,h6] at hl
 match Cs,h1,h3,h7,hl with
 | [],h1,h3,h7,hl=>simp at hl;omega
 | C::D::Cs,h1,h3,h7,hl =>
  have hC:=h3 C List.mem_cons_self;have hD:=h3 D (List.mem_cons_of_mem _ List.mem_cons_self);simp[hC.1,hD.1] at hl;omega
 | [C],h1,h3,h7,hl =>
  have hC:=h3 C List.mem_cons_self;simp only[List.flatten_cons,List.flatten_nil,List.append_nil,hC.1] at hl;refine(zil w0 blk off n cap hsz HK (C.length+T.length) wr a (a+bs) n Ds.flatten C T [] (h1.of (by simp)) h6.symm (by rw[hC.1]) (by omega) (by rw[hC.1];omega) (by omega) qN hC.2 h4).mono fun e w' ⟨e1,S',k1,k2,k3,k4⟩=>⟨e1,Ds,S',k4.of (by simp),h2,k2,by rw[k1,hC.1];omega,h7.trans ?_⟩
  have:=(Od.Eqv.refl Ds.flatten).app k3;simpa using this
theorem zim [Od.Ck] (w:World)(blk off n cap:Nat)(L:List Int)(HK:Hid (Od.Con w blk))(hok:∀x∈L,Od.ok x)(h0:Holds Zi.en w blk off L.toArray)(hn:L.length=n)(hsz:n<1152921504606846976) :
  Calls prog 101 #[.slice (some ⟨blk,off,none⟩) n cap,.int .i64 n,.func (.func 102) #[] #[.pointer (some ⟨Od.Ck.kb,0,none⟩)]] w fun e w'=>e= .returned (.tuple #[])/\∃S',Od.Srt S'/\Od.Eqv L S'/\Od.In w blk off n S' w':=by
 have HS:Hid (Od.Ph1 w blk off n L 0 w):=by
  have h:=Od.In.start h0 hok;rw[hn] at h;exact⟨[],L,by simpa using h,Od.Chk.nil _,rfl,by simpa using Od.Eqv.refl L⟩
 clear h0 hn hok;have H1:Hid (∀(a:Nat) X,Od.Ph1 w blk off n L a X->a+20<=n->Calls prog 149 #[.slice (some ⟨blk,off,none⟩) n cap,.int .i64 (a:Nat),.int .i64 ((a+20:Nat):Int),.func (.func 102) #[] #[.pointer (some ⟨Od.Ck.kb,0,none⟩)]] X fun e w'=>e= .returned (.tuple #[])/\Od.Ph1 w blk off n L (a+20) w'):=fun a X h1 h2=>znr hsz HK h1 h2
 have H2:Hid (∀(a:Nat) X,Od.Ph1 w blk off n L a X->n<a+20->Calls prog 149 #[.slice (some ⟨blk,off,none⟩) n cap,.int .i64 (a:Nat),.int .i64 (n:Nat),.func (.func 102) #[] #[.pointer (some ⟨Od.Ck.kb,0,none⟩)]] X fun e w'=>e= .returned (.tuple #[])/\Od.Ph2 w blk off n L 20 w'):=fun a X h1 h2=>znq hsz HK h1 h2
 have H3:Hid (∀(bs a:Nat) X,Od.Ph3 w blk off n L bs a X->0<bs->a+2*bs<=n->Calls prog 150 #[.slice (some ⟨blk,off,none⟩) n cap,.int .i64 (a:Nat),.int .i64 ((a+bs:Nat):Int),.int .i64 ((a+2*bs:Nat):Int),.func (.func 102) #[] #[.pointer (some ⟨Od.Ck.kb,0,none⟩)]] X fun e w'=>e= .returned (.tuple #[])/\Od.Ph3 w blk off n L bs (a+2*bs) w'):=fun bs a X h1 h2 h3=>zqv hsz HK h1 h2 h3
 have H4:Hid (∀(bs a:Nat) X,Od.Ph3 w blk off n L bs a X->0<bs->n<a+2*bs->a+bs<n->Calls prog 150 #[.slice (some ⟨blk,off,none⟩) n cap,.int .i64 (a:Nat),.int .i64 ((a+bs:Nat):Int),.int .i64 (n:Nat),.func (.func 102) #[] #[.pointer (some ⟨Od.Ck.kb,0,none⟩)]] X fun e w'=>e= .returned (.tuple #[])/\Od.Ph2 w blk off n L (2*bs) w'):=fun bs a X h1 h2 h3 h4=>zqu hsz HK h1 h2 h3 h4
 go_enter func101,ntmps101
 go_wp2
 go_loopw [7,8] (fun va vb wr=>∃a:Nat,va= .int .i64 a/\vb= .int .i64 ((a+20:Nat):Int)/\a<=n/\Hid (Od.Ph1 w blk off n L a wr)) (fun va _ _=>n - (RowKit.intOf va).toNat)
 case atStart=>exact⟨0,rfl,rfl,Nat.zero_le _,HS.out⟩
 case round =>
  obtain⟨a,rfl,rfl,ha,HP⟩:=hrel;clear HS
  by_cases hlt:a+20<=n
  ·have hC:=qH <| H1.out a wr HP.out hlt;clear H1 H2 H3 H4 HP;obtain⟨b,hb⟩:∃b,b=a+20:=⟨_,rfl⟩;rw[<- hb] at hC hlt ⊢;have HB:=qH hb;have hb1:a<b:=by omega
   clear hb
   go_wp2_with fail
   refine hC.out.mono ?_;rintro e w1 ⟨rfl,h⟩;have HP1:=qH h;clear h hC;go_wp2
   go_roundw
   case rel=>exact⟨b,rfl,by go_num,hlt,HP1.out⟩
   case measure=>simp[RowKit.intOf];omega
  ·have hC:=qH <| H2.out a wr HP.out (by omega);clear H1 H2 HP
   go_wp2_with fail
   refine hC.out.mono ?_;rintro e w1 ⟨rfl,h⟩;have HP2:=qH h;clear h hC;go_wp2
   go_loopw [6] (fun vb wr=>∃bs:Nat,vb= .int .i64 bs/\0<bs/\bs<=2*n+20/\Hid (Od.Ph2 w blk off n L bs wr)) (fun vb _=>2*n+20 - (RowKit.intOf vb).toNat)
   case atStart=>exact⟨20,rfl,by omega,by omega,HP2.out⟩
   case round =>
    obtain⟨bs,rfl,hb0,hb1,HQ⟩:=hrel;clear HP2
    by_cases hbn:bs<n
    ·have HQ3:=qH HQ.out.start;clear HQ;go_wp2
     go_loopw [7,8] (fun va vb wr=>∃a:Nat,va= .int .i64 a/\vb= .int .i64 ((a+2*bs:Nat):Int)/\a<=n/\Hid (Od.Ph3 w blk off n L bs a wr)) (fun va _ _=>n - (RowKit.intOf va).toNat)
     case atStart=>exact⟨0,rfl,by first | (congr 1;done) | (congr 1;omega),Nat.zero_le _,HQ3.out⟩
     case round =>
      obtain⟨a',rfl,rfl,ha',HP⟩:=hrel;clear HQ3
      by_cases hlt:a'+2*bs<=n
      ·have hC:=qH <| H3.out bs a' wr HP.out hb0 hlt;clear H3 H4 HP;obtain⟨b,hb⟩:∃b,b=a'+2*bs:=⟨_,rfl⟩;rw[<- hb] at hC hlt ⊢;have HB:=qH hb;have hb2:a'<b:=by omega
       obtain⟨m,hm'⟩:∃m,m=a'+bs:=⟨_,rfl⟩;have e1:(a':Int)+(bs:Int)=(m:Int):=by omega
       rw[<- hm'] at hC;have hmn:m<=n:=by omega
       clear hb hm'
       go_wp2_with fail
       refine hC.out.mono ?_;rintro e w1 ⟨rfl,h⟩;have HP1:=qH h;clear h hC;go_wp2
       go_roundw
       case rel=>exact⟨b,rfl,by first | (congr 1;done) | (congr 1;omega),hlt,HP1.out⟩
       case measure=>simp[RowKit.intOf];omega
      ·by_cases hm:a'+bs<n
       ·have hC:=qH <| H4.out bs a' wr HP.out hb0 (by omega) hm;clear H3 H4 HP;obtain⟨m,hm'⟩:∃m,m=a'+bs:=⟨_,rfl⟩;have e1:(a':Int)+(bs:Int)=(m:Int):=by omega
        rw[<- hm'] at hC hm;clear hm'
        go_wp2_with fail
        refine hC.out.mono ?_;rintro e w1 ⟨rfl,h⟩;have HP1:=qH h;clear h hC;go_wp2
        go_roundw
        case rel=>exact⟨2*bs,by first | (congr 1;done) | (congr 1;omega),by omega,by omega,HP1.out⟩
        case measure=>simp[RowKit.intOf];omega
       ·have HP1:=qH <| HP.out.over hb0 (by omega);clear H3 H4 HP;go_wp2
        go_roundw
        case rel=>exact⟨2*bs,by first | (congr 1;done) | (congr 1;omega),by omega,by omega,HP1.out⟩
        case measure=>simp[RowKit.intOf];omega
    ·have HD:=qH <| HQ.out.done hb0 (by omega);clear HQ H3 H4;go_wp2
     go_end0
     exact⟨rfl,HD.out⟩
theorem zns [Od.Ck] (w:World)(blk off n cap:Nat)(L:List Int)(HK:Hid (Od.Con w blk))(hok:∀x∈L,Od.ok x)(h0:Holds Zi.en w blk off L.toArray)(hn:L.length=n)(hsz:n<1152921504606846976) :
  Calls prog 51 #[.slice (some ⟨blk,off,none⟩) n cap,.func (.func 102) #[] #[.pointer (some ⟨Od.Ck.kb,0,none⟩)]] w fun e w'=>e= .returned (.tuple #[])/\∃S',Od.Srt S'/\Od.Eqv L S'/\Od.In w blk off n S' w':=by
 have hC:=qH <| zim w blk off n cap L HK hok h0 hn hsz;clear h0 hn
 go_enter func51,ntmps51
 go_wp2_with fail
 refine hC.out.mono ?_;rintro e w1 ⟨rfl,h⟩;have HD:=qH h;clear h hC;go_wp2
 go_end0
 exact⟨rfl,HD.out⟩
end
namespace Od
open Go.RowKit Go.Sort
theorem zkc {w:World}{F0 g n cap:Nat}{D M R:List Int}(h:w.ownsRow F0 3 1 (.slice (some ⟨g,0,none⟩) n cap) n (Od.longs (D++M++R))) :
  Holds Zi.en w g D.length M.toArray/\∀(w':World) (M':List Int),Zi.At w g D.length M.length M'.toArray w'->w'.ownsRow F0 3 1 (.slice (some ⟨g,0,none⟩) n cap) n (Od.longs (D++M'++R))/\Below F0 w w':=by
 obtain⟨hx,h2⟩:=h;rcases h2 with ⟨e0,_⟩|⟨g',cap',cur,e0,hb,hg,hn,hm,hs,ht⟩
 ·cases e0
 ·injection e0 with e1 _ e3;injection e1 with e1;injection e1 with e1;subst e1;subst e3
  have hlen:D.length+M.length+R.length=n:=by
   have:=hx;simp[Od.longs] at this;omega
  have hcur:∀k,k<n->cur[k]?=(Od.longs (D++M++R))[k]?:=fun k hk=>by
   rw[<- ht,List.getElem?_take,if_pos (by omega),Array.getElem?_toList]
  refine⟨fun j hj=> ?_,fun w' M' hA=> ?_⟩
  ·have hj':j<M.length:=by simpa using hj
   refine⟨?_,frozen_of_row w g _ _ _ hg⟩;have h3:=hcur (D.length+j) (by omega)
   have h4:(Od.longs (D++M++R))[D.length+j]?=some (.int .i64 M[j]):=by
    unfold Od.longs;rw[List.getElem?_map,List.append_assoc,List.getElem?_append_right (by omega),Nat.add_sub_cancel_left,List.getElem?_append_left hj',List.getElem?_eq_getElem hj'];rfl
   rw[World.cell?];simp only[hg];rw[h3,h4];simp[hj']
  ·obtain⟨hsz,q,rfl⟩:=hA;have hml:M'.length=M.length:=by simpa using hsz
   refine⟨⟨by simp[Od.longs];omega,.inr ⟨g,cap,putCells Zi.en D.length M'.toArray cur,rfl,hb,?_,hn,hm,by simpa [putCells] using hs,?_⟩⟩,?_⟩
   ·simp[putRow,mapBlock,Sort.ahead,Array.getElem?_modify,hg,onCells]
   ·apply List.ext_getElem?;intro k;rw[List.getElem?_take]
    by_cases hk:k<n*1
    ·rw[if_pos hk,Array.getElem?_toList];have hk':k<n:=by omega
     have h3:=hcur k hk';have hkc:k<cur.size:=by omega
     simp only[putCells,Array.getElem?_mapIdx];rw[h3];unfold Od.longs;simp only[List.getElem?_map]
     by_cases h1:k<D.length
     ·rw[List.append_assoc,List.getElem?_append_left h1,List.append_assoc,List.getElem?_append_left h1,List.getElem?_eq_getElem h1];simp[show ¬(D.length<=k) by omega]
     ·by_cases h2:k<D.length+M.length
      ·rw[List.append_assoc,List.getElem?_append_right (by omega),List.getElem?_append_left (by omega),List.append_assoc,List.getElem?_append_right (by omega),List.getElem?_append_left (by omega),List.getElem?_eq_getElem (show k - D.length<M.length by omega),List.getElem?_eq_getElem (show k - D.length<M'.length by omega)];simp only[Option.map_some];rw[if_pos ⟨by omega,by simp;omega⟩];simp[show k - D.length<M'.length by omega]
      ·rw[List.append_assoc,List.getElem?_append_right (by omega),List.getElem?_append_right (by omega),List.append_assoc,List.getElem?_append_right (by omega),List.getElem?_append_right (by omega),hml];cases R[k - D.length - M.length]? with
       | none=>rfl
       | some z =>
        simp only[Option.map_some];rw[if_neg (by simp;omega)]
    ·rw[if_neg hk,List.getElem?_eq_none (by simp[Od.longs];omega)]
   ·refine⟨rfl,rfl,rfl,by simp[putRow,mapBlock,Sort.ahead],fun k hk=> ?_⟩;simp only[putRow,mapBlock,Sort.ahead,Array.getElem?_modify];rw[if_neg (by omega)]
end Od
section
open Go.RowKit
namespace Od
theorem zr5 {n j:Nat}{L:List Int}(hL:L.length=n)(hj:j<n)(h:L.take j=places j):(L.set j (j:Int)).take (j+1)=places (j+1):=by
 rw[zdb,<- h,List.take_add_one,List.take_set_of_le qN];simp[hL,hj]
theorem zrg (L:List Int)(j:Nat)(z:Int):(longs L).set j (.int .i64 z)=longs (L.set j z):=by unfold longs;rw[List.map_set]
theorem sorted (w:World)(g n kb:Nat)(ks:List K3)(F0:Nat)(hn:ks.length=n)(hl:n<=100)(own:w.ownsRow F0 3 1 (.slice (some ⟨g,0,none⟩) n n) n (longs (places n)))
  (hcon:@Con (ckOf ks kb) w g) :
  Calls prog 51 #[.slice (some ⟨g,0,none⟩) n n,.func (.func 102) #[] #[.pointer (some ⟨kb,0,none⟩)]] w fun e w'=>e= .returned (.tuple #[])/\w'.ownsRow F0 3 1 (.slice (some ⟨g,0,none⟩) n n) n (longs (sortF ks))/\Below F0 w w':=by
 letI:Ck:=ckOf ks kb
 have hp:=zni n;obtain⟨h1,h2⟩:=zkc (D:= []) (M:=places n) (R:= []) (w:=w) (F0:=F0) (g:=g) (n:=n) (cap:=n) (by simpa using own)
 refine(zns w g 0 n n (places n) hcon (fun x hx=>by
  have:=znh hx
  exact⟨this.1,by rw[hn];exact this.2⟩) h1 hp (by omega)).mono ?_
 rintro e w' ⟨rfl,S,s1,s2,s3⟩;have hS:=zpw s1 (by rw[hn];exact s2);have h3:=h2 w' S (by rw[hp];exact s3.2.2.1);rw[hS] at h3;exact⟨rfl,by simpa using h3.1,h3.2⟩
theorem zmj:∀(l:List (List Int)) (k:Nat),(badN k l).1=0->badN k l=(0,0)
 | [],k,_=>rfl
 | t::r,k,h=>by
  rw[badN] at h ⊢;split
  ·rename_i h1
   rw[if_pos h1] at h;exact absurd h h1
  ·rename_i h1
   rw[if_neg h1] at h;exact zmj r (k+1) h
theorem zxx {X Y:World}{g kb:Nat}{v:Value}{ks:List K3}(hk:Ks X v ks)(hX:∀a:Addr,a.block<X.heap.size->Y.cell? a=X.cell? a)(hg:X.heap.size<=g)(hb:Y.cell? ⟨kb,0,none⟩=some v)(hne:kb≠g)(hl:∀k∈ks,k.1.length<=4000/\k.2.1.length<=4000/\k.2.2.length<=4000)(hn:ks.length<=100):@Con (ckOf ks kb) Y g:=by
 letI:Ck:=ckOf ks kb
 intro Z x y hZ hx hy;obtain⟨hx0,hx1⟩:0<=x/\x<ks.length:=hx;obtain⟨hy0,hy1⟩:0<=y/\y<ks.length:=hy;obtain⟨i,rfl⟩:∃i:Nat,x=i:=⟨x.toNat,by omega⟩;obtain⟨j,rfl⟩:∃j:Nat,y=j:=⟨y.toNat,by omega⟩;have hi:i<ks.length:=by omega
 have hj:j<ks.length:=by omega
 have h:=zke Z kb v ks (hk.move fun a ha=>(hZ a (by omega)).trans (hX a ha)) ((hZ _ hne).trans hb) hl i j ks[i] ks[j] (by simp[hi]) (by simp[hj]) hn;have e:cmp (i:Int) (j:Int)=cmpK ks[i] ks[j]:=zxz (by simp[hi]) (by simp[hj]);rw[e];exact h
theorem zpx (ks:List K3):(sortF ks).length=ks.length:=ze9 _ _
end Od
theorem zde (w:World)(v:Value)(l:List (List Int))(R:Ws.Rd w v l)(hl:∀c∈l,c.length<=140737488355328)(hn:l.length<=140737488355328) :
  Calls prog 21 #[v] w fun e w'=>∃v',e= .returned (.tuple #[v',.agg #[.int .i64 (Od.wrongS l).1,.int .i64 (Od.wrongS l).2]])/\L.Rd w' v' .i64 (Od.outS l)/\Below w.heap.size w w':=by
 obtain⟨ao,cap,hv,_,_⟩:=id R;subst hv;obtain⟨W0,hW0⟩:∃W0,W0=w.alloc (.cells #[.int .i64 0,.int .i64 0] 38):=⟨_,rfl⟩;have hb0:Below w.heap.size w W0:=by rw[hW0];exact(qR w).alloc qN _
 have hx0:W0.heap[w.heap.size]?=some (.cells #[.int .i64 0,.int .i64 0] 38):=by rw[hW0];exact heap_alloc_new w _
 have HX:Hid (Below w.heap.size w W0/\W0.heap[w.heap.size]?=some (.cells #[.int .i64 0,.int .i64 0] 38)):=⟨hb0,hx0⟩;obtain⟨y0,y1,g0,g1⟩:=K.box2 hx0;have hl0:=lt_of_block hx0
 by_cases hm:100<l.length
 ·have hw:Od.wrongS l=(5,0):=by unfold Od.wrongS;rw[if_pos hm]
  have ho:Od.outS l= []:=by unfold Od.outS;rw[if_neg (by rw[hw];simp)]
  rw[hw,ho];clear hw ho R hl hb0 hx0
  go_enter func21,ntmps21
  go_wp2;refine bodyPost_ret (v:= .tuple #[.slice none 0 0,.agg #[.int .i64 5,.int .i64 0]]) (by simp[results,results21,go_sem, *]) rfl ?_
  refine⟨_,rfl,⟨none,0,rfl,fun _=>rfl,fun h=>absurd rfl h⟩,?_⟩;exact(qR w).alloc qN _
 ·have hK:=zin W0 _ l (R.below hb0) hl (by omega);have hw:Od.wrongS l=Od.badN 0 l:=by unfold Od.wrongS;rw[if_neg hm]
  obtain⟨os,hos⟩:∃os,os=Od.outS l:=⟨_,rfl⟩;have HOu:Hid (os=if (Od.badN 0 l).1=0 then Od.sortF (Od.keysL l) else []):=by show _=_;rw[hos,<- hw];rfl
  rw[<- hos];clear hos;rw[hw];obtain⟨⟨e1,e2⟩,he⟩:∃c,c=Od.badN 0 l:=⟨_,rfl⟩;rw[<- he] at hK HOu ⊢;simp only at hK HOu
  have HZr:Hid (e1=0->e2=0):=fun h=>by
   have:=Od.zmj l 0 (by rw[<- he];exact h);rw[<- he] at this;exact(Prod.mk.inj this).2
  have HKl:=qH <| Od.zi2 l;have HKs:=qH <| Od.zue l;have hm':l.length<=100:=by omega
  generalize Od.keysL l=ks at hK HOu HKl HKs;clear hw R hl hb0 hx0 he hn
  go_enter func21,ntmps21
  go_wp2_with fail
  rw[<- hW0];refine hK.mono ?_;clear hK hW0;rintro e w2 ⟨vk,rfl,hks,b2⟩;have HB2:=qH <| HX.out.1.trans (b2.mono HX.out.1.size);have HX2:=qH <| K.zae HX.out.2 b2;clear y0 y1 g0 g1 hl0 b2
  by_cases h0:e1=0
  ·subst h0;obtain rfl:=HZr.out rfl;have hk:=hks rfl;obtain⟨ko,kc,rfl,_⟩:=id hk;obtain⟨X,hX⟩:∃X,X=w2.alloc (.cells #[.int .i64 0,.int .i64 0] 38):=⟨_,rfl⟩;have hbX:Below w2.heap.size w2 X:=by rw[hX];exact(qR w2).alloc qN _
   have HkX:=qH <| hk.move fun a ha=>hbX.cell ha
   have HX3:Hid (X.heap[w.heap.size]?=some (.cells #[.int .i64 0,.int .i64 0] 38)/\Below w.heap.size w X):=⟨K.zae HX2.out hbX,HB2.out.trans (hbX.mono HB2.out.size)⟩;have HOu2:Hid (os=Od.sortF ks):=by show _=_;rw[HOu.out,if_pos rfl]
   obtain⟨i0,hi,hz0,hz1,hz2⟩:=info_parts Tryz.infoInt;have HXe:=qH hX;have HW2:=qH <| lt_of_block HX2.out;clear hks hk hbX hX HOu HB2 HX2 hm HZr;have hHK:=HKl.out
   go_wp2_with (at_make;refine wpList_make_full _ rfl _ _ 45 rfl w2.heap.size 3 i0 (.int .i64 0) 1 underlying45 hi hz0 hz1 .i64 .i64 _ _ l.length rfl rfl rfl rfl (by rw[hz2];omega) (by unfold maxLen;omega) (by simp) ?_;intro w4 own4 gr4)
   have e0:(madeCells (Value.cells (.int .i64 0)) (l.length*1)).toList=Od.longs (List.replicate l.length 0):=by
    rw[Nat.mul_one];exact(toList_madeCells_one _ _).trans (by simp[Od.longs])
   rw[e0] at own4;rw[<- HXe.out] at own4 gr4;have hXs:X.heap.size=w2.heap.size+1:=by rw[HXe.out];simp
   rw[hXs] at own4;obtain⟨g,hg⟩:∃g,g=w2.heap.size+1:=⟨_,rfl⟩;have HG:Hid (g=X.heap.size/\w2.heap.size<g):=⟨by rw[hXs,hg],by omega⟩;rw[<- hg] at own4 ⊢;have HO4:Hid (w4.ownsRow w2.heap.size 3 1 (.slice (some ⟨g,0,none⟩) l.length l.length) l.length (Od.longs (List.replicate l.length 0))/\Below g X w4):=⟨own4,by rw[HG.out.1];exact(qR X).grown gr4 qN fun k hk=>by cases hk⟩;have HKc:Hid (Od.Ks X (.slice ko l.length kc) ks):=by have:=HkX.out;rw[HKl.out] at this;exact this
   clear e0 own4 gr4 HXe hi hz0 hz1 hz2 hXs hg HkX hHK
   go_loopw [26] (fun vi wr=>∃(j:Nat) (M:List Int),vi= .int .i64 j/\j<=l.length/\Hid (M.length=l.length/\M.take j=Od.places j)/\Hid (wr.ownsRow w2.heap.size 3 1 (.slice (some ⟨g,0,none⟩) l.length l.length) l.length (Od.longs M)/\Below g X wr)) (fun vi _=>l.length - (intOf vi).toNat)
   case atStart=>exact⟨0,List.replicate l.length 0,rfl,Nat.zero_le _,⟨by simp,rfl⟩,HO4.out⟩
   case round =>
    obtain⟨j,M,rfl,hj,HM,HO⟩:=hrel;clear HO4
    by_cases hlt:j<l.length
    ·obtain⟨x,hx⟩:∃x,M[j]?=some x:=⟨M[j]'(by rw[HM.out.1];exact hlt),by simp[HM.out.1,hlt]⟩
     have ch:wr.cell? ⟨g,j,none⟩=some (.int .i64 x):=by
      have:=HO.out.1.cells (g:=g) rfl j (.int .i64 x) (by rw[List.getElem?_map,hx];rfl)
      rwa [L.addr_add,Nat.zero_add] at this
     have fz:=K.zlu HO.out.1 j;have hbl:=L.block_lt ch;obtain⟨s1,s2⟩:=K.zqo HO.out.1 j (.int .i64 (j:Int));rw[Od.zrg] at s1;have HN:Hid ((wr.setCell ⟨g,j,none⟩ (.int .i64 (j:Int))).ownsRow w2.heap.size 3 1 (.slice (some ⟨g,0,none⟩) l.length l.length) l.length (Od.longs (M.set j (j:Int)))/\Below g X (wr.setCell ⟨g,j,none⟩ (.int .i64 (j:Int)))):=⟨s1,HO.out.2.grown s2 (by rw[HG.out.1];exact HO.out.2.size) (fun k hk=>by cases hk;exact qN)⟩;have HM2:Hid ((M.set j (j:Int)).length=l.length/\(M.set j (j:Int)).take (j+1)=Od.places (j+1)):=⟨by rw[List.length_set];exact HM.out.1,Od.zr5 HM.out.1 hlt HM.out.2⟩;clear hx s1 s2 HO HM;go_wp2
     go_roundw
     case rel=>exact⟨j+1,M.set j (j:Int),by go_num,by omega,HM2,HN⟩
     case measure=>simp[intOf];omega
    ·have e:j=l.length:=by omega
     have hM:M=Od.places l.length:=by
      have h:=HM.out.2;rw[e,List.take_of_length_le (by rw[HM.out.1];exact qN)] at h;exact h
     rw[hM] at HO;have hs:=HO.out.2.size
     have hgl:g<wr.heap.size:=by
      rcases HO.out.1.2 with ⟨h,_⟩|⟨g',cap',cur,h,_,hb,_⟩
      ·cases h
      ·cases h;exact lt_of_block hb
     have hRk:=zhn wr ko l.length kc;obtain⟨Y,hY⟩:∃Y,Y=wr.alloc (.cells #[.slice ko l.length kc] 114):=⟨_,rfl⟩;have hbY:Below wr.heap.size wr Y:=by rw[hY];exact(qR wr).alloc qN _
     have hcY:Y.cell? ⟨wr.heap.size,0,none⟩=some (.slice ko l.length kc):=by rw[hY];exact K.zah (i:=0) (heap_alloc_new wr _) rfl
     have hBX:=HO.out.2.trans (hbY.mono (Nat.le_of_lt hgl));have hcon:=Od.zxx (Y:=Y) (g:=g) (kb:=wr.heap.size) HKc.out (fun a ha=>hBX.cell (by rw[HG.out.1];exact ha)) (by rw[HG.out.1];exact qN) hcY (by omega) HKs.out (by rw[HKl.out];exact hm');have hSt:=Od.sorted Y g l.length wr.heap.size ks w2.heap.size HKl.out hm' (L.zao HO.out.1 hbY qN) hcon;have HBY:Hid (Below w.heap.size w Y/\Y.heap[w.heap.size]?=some (.cells #[.int .i64 0,.int .i64 0] 38)):=⟨HX3.out.2.trans (hBX.mono (by have:=HG.out.1;have:=HX3.out.2.size;omega)),(hBX.block _ (by have:=HG.out.1;have:=lt_of_block HX3.out.1;omega)).trans HX3.out.1⟩;have hw2:=HW2.out;have hgw:=HG.out.2;rw[<- hY] at hRk;clear hcY hBX hcon hbY HO HM hM hY HX3 HKc HG hs HKs
     go_wp2_with fail
     refine hRk.mono ?_;clear hRk;rintro e w5 ⟨rfl,h5⟩;obtain rfl:=h5.symm;clear h5
     go_wp2_with fail
     refine hSt.mono ?_;clear hSt;rintro e w6 ⟨rfl,own6,b6⟩;have hx6:=(b6.block _ hw2).trans HBY.out.2;obtain⟨y0,y1,g0,g1⟩:=K.box2 hx6;have hl6:=lt_of_block hx6;have HF:Hid (w6.ownsRow w2.heap.size 3 1 (.slice (some ⟨g,0,none⟩) l.length l.length) l.length (Od.longs (Od.sortF ks))/\Below w.heap.size w w6):=⟨own6,HBY.out.1.trans (b6.mono (Nat.le_of_lt hw2))⟩;have hos:=HOu2.out;subst hos;clear own6 b6 hx6 HBY;go_wp2;refine bodyPost_ret (v:= .tuple #[.slice (some ⟨g,0,none⟩) l.length l.length,.agg #[.int .i64 0,.int .i64 0]]) (by simp[results,results21,go_sem, *]) rfl ?_;have hlen:(Od.sortF ks).length=l.length:=by rw[Od.zpx];exact HKl.out
     refine⟨_,rfl,?_,(HF.out.2.setCell (p:=⟨w.heap.size,0,none⟩) qN _).setCell (p:=⟨w.heap.size,1,none⟩) qN _⟩
     have hr:L.Rd w6 (.slice (some ⟨g,0,none⟩) l.length l.length) .i64 (Od.sortF ks):=by
      have h:=HF.out.1;rw[<- hlen] at h ⊢;exact L.Rd.zaz h
     exact Od.zlq (fun b=>b≠w.heap.size) hr (fun a ha=>Od.zp4 _ _ ha) fun b off c n e _=>by
      cases e;omega
  ·have hou:os= []:=by rw[HOu.out,if_neg h0]
   subst hou;have hx2:=HX2.out;obtain⟨y0,y1,g0,g1⟩:=K.box2 hx2;have hl2:=lt_of_block hx2;have k0:=fun o=>K.zai y0 o
   have k1:=fun o=>K.zai y1 o
   have f0:=fun o=>K.zaq hx2 o 0
   have f1:=fun o=>K.zaq hx2 o 1
   clear hks HOu HZr HKl HKs hx2;go_wp2
   go_region
   go_wp2;refine bodyPost_ret (v:= .tuple #[.slice none 0 0,.agg #[.int .i64 e1,.int .i64 e2]]) (by simp[results,results21,go_sem, *]) rfl ?_
   exact⟨_,rfl,⟨none,0,rfl,fun _=>rfl,fun h=>absurd rfl h⟩,(((HB2.out.setCell (p:=⟨w.heap.size,0,none⟩) qN _).setCell (p:=⟨w.heap.size,1,none⟩) qN _).alloc (by simp;omega) _).drew⟩
