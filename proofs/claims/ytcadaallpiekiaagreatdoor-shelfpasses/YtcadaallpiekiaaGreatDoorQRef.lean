import Derived.Test.YtcadaallpiekiaaGreatDoorMRefM
set_option maxHeartbeats 0
set_option maxRecDepth 20000
set_option linter.unusedSimpArgs false
set_option linter.unusedVariables false
namespace Go.Proofs.YtcadaallpiekiaaGreatDoor
open Go.Proofs.Tryz
section
open Go.RowKit Go.Shelf
theorem zkh (w:World)(v:Value)(l:List K.Rule)(R0:V.Rus w v l)(hl:l.length<=200)(hE:∀r∈l,K.ruleE r=0)(vt:Value)(t:List Int)(Rt:L.Rd w vt .i32 t)(ht:t.length<=4000)(k:Int)(hk0:0<=k)(hk1:k<=t.length) :
  Calls prog 100 #[v,vt,.int .i64 k] w fun e w'=>e=.returned (.int .i64 (K.which l t k))/\Bl w w':=by
 have HR:=qH R0;have HT:=qH Rt;have HE0:=qH hE;obtain⟨lao,lcap,rfl⟩:=R0.len;obtain⟨xo,xc,rfl,_⟩:=Rt;clear R0 hE;obtain⟨o,HO⟩:∃o,Hid (K.whichN t k 0 l=o):=⟨_,rfl⟩;unfold K.which;rw[HO.out]
 go_enter func100,ntmps100
 go_wp2
 go_loopw [10] (fun i wr=>∃j:Nat,j<=l.length/\i=.int .i64 j/\Hid (K.whichN t k j (l.drop j)=o)/\Hid (Bl w wr)) (fun i _=>l.length-(intOf i).toNat)
 case atStart=>exact⟨0,Nat.zero_le _,rfl,HO,qR w⟩
 case round =>
  obtain⟨j,hj,rfl,HW,HB⟩:=hrel
  by_cases hlt:j<l.length
  ·obtain⟨p,hp⟩:∃x,l[j]?=some x:=⟨l[j],by simp[hlt]⟩;obtain⟨ao',cap',e',_,hcs⟩:=HR.out.below HB.out;cases e';obtain⟨b,off,rfl,hcell⟩:=hcs (by intro h;subst h;simp at hlt);obtain⟨bo,bc,so,sc,ao,ac,tgo,tc,a0,a1,a2,a3,a4,a5,a6,hP⟩:=hcell j p hp;have HE2:Hid (K.whichN t k j (l.drop j)=if K.matchB p t k=true then (j:Int) else K.whichN t k (j+1) (l.drop (j+1))):=K.zjx hp;have hsz:=HB.out.size;have HW2:=qH<|zin _ _ p hP (HE0.out p (List.mem_of_getElem? hp)) _ t (HT.out.below HB.out qN) ht k hk0 hk1;obtain⟨z,HZ⟩:∃z,Hid (K.matchB p t k=z):=⟨_,rfl⟩;rw[HZ.out] at HW2 HE2;clear hp hcell hcs hP;obtain⟨st,fi,be,sou,af,ta,cu⟩:=p;simp only at a0 a1 a2 a3 a4 a5 a6 HW2
   go_wp2_with fail
   refine HW2.out.mono ?_;rintro e w1 ⟨rfl,B1⟩;have HB1:=qH<|HB.out.trans (B1.mono hsz);clear B1;cases z with
   | false =>
    go_wp2
    go_roundw
    case rel=>exact⟨j+1,by omega,by go_num,by show _=_;rw[<- HW.out,HE2.out];simp,HB1⟩
    case measure=>simp[intOf];omega
   | true =>
    go_wp2;go_ret
    have h:=HE2.out;rw[HW.out,if_pos trivial] at h;exact⟨by rw[h];rfl,HB1.out⟩
  ·have h:=HW.out;rw[List.drop_eq_nil_of_le (by omega)] at h;go_wp2;go_ret;exact⟨by rw[<- h];rfl,HB.out⟩
end
section
open Go.RowKit
theorem zcm (w:World)(v:Value)(l:List K.Rule)(R0:V.Rus w v l) :
  Calls prog 64 #[v] w fun e w'=>e=.returned (.agg #[.int .i64 (K.rulesF l).1,.int .i64 (K.rulesF l).2])/\Bl w w':=by
 have HR:=qH R0;have hfew:=R0.few;obtain⟨ao,cap,rfl⟩:=R0.len;clear R0;have HA:=qH<|fun o=>(qR w).alloc qN o
 unfold K.rulesF
 by_cases hbig:200<l.length
 ·rw[if_pos hbig]
  go_enter func64,ntmps64
  go_wp2;refine bodyPost_ret (v:=.agg #[.int .i64 5,.int .i64 0]) (by simp[results,results64,go_sem]) rfl ?_
  exact⟨rfl,HA.out _⟩
 ·rw[if_neg hbig];obtain⟨⟨o1,o2⟩,HO⟩:∃o,Hid (K.firstR 0 l=o):=⟨_,rfl⟩;rw[HO.out]
  go_enter func64,ntmps64
  go_wp2
  go_loopw [11] (fun i wr=>∃k:Nat,k<=l.length/\i=.int .i64 k/\Hid (K.firstR k (l.drop k)=(o1,o2))/\Hid (Bl w wr)/\Hid (wr.heap[w.heap.size]?=some (.cells #[.int .i64 0,.int .i64 0] 36))) (fun i _=>l.length-(intOf i).toNat)
  case atStart=>exact⟨0,Nat.zero_le _,rfl,HO,HA.out _,heap_alloc_new w _⟩
  case round =>
   obtain⟨k,hk,rfl,HE,HB,HX⟩:=hrel;have hX:=HX.out
   by_cases hlt:k<l.length
   ·obtain⟨p,hp⟩:∃x,l[k]?=some x:=⟨l[k],by simp[hlt]⟩;obtain⟨ao',cap',e',_,hcs⟩:=HR.out.below HB.out;cases e';obtain⟨b,off,rfl,hcell⟩:=hcs (by intro h;subst h;simp at hlt);obtain⟨bo,bc,so,sc,ao,ac,tgo,tc,c0,c1,c2,c3,c4,c5,c6,hP⟩:=hcell k p hp;have HE2:=qH<|K.zfx hp;have hsz:=HB.out.size;have HW:=qH<|zmy _ _ p hP;obtain⟨z,HZ⟩:∃z,Hid (K.ruleE p=z):=⟨_,rfl⟩;rw[HZ.out] at HW HE2;clear hp hcell hcs hP hX;obtain⟨st,fi,be,sou,af,ta,cu⟩:=p;simp only at c0 c1 c2 c3 c4 c5 c6 HW
    go_wp2_with fail
    refine HW.out.mono ?_;rintro e w1 ⟨rfl,B1⟩
    have hX1:w1.heap[w.heap.size]?=some (.cells #[.int .i64 0,.int .i64 0] 36):=by
     rw[B1.block _ (qA.1 HX.out).1];exact HX.out
    have HB1:=qH<|HB.out.trans (B1.mono hsz);have HX1:Hid _:=hX1;obtain⟨x0,x1,f0,f1⟩:=K.box2 hX1;clear B1 hX1
    by_cases hz:z=0
    ·subst hz;go_wp2
     go_roundw
     case rel=>exact⟨k+1,by omega,by go_num,by show _=_;rw[<- HE.out,HE2.out];simp,HB1,HX1⟩
     case measure=>simp[intOf];omega
    ·go_wp2;refine bodyPost_ret (v:=.agg #[.int .i64 z,.int .i64 k]) (by simp[results,results64,go_sem, *]) rfl ?_
     have h:=HE2.out;rw[HE.out,if_neg hz] at h;cases h;exact⟨rfl,(HB1.out.setCell (p:=⟨w.heap.size,0,none⟩) qN _).setCell (p:=⟨w.heap.size,1,none⟩) qN _⟩
   ·obtain⟨x0,x1,f0,f1⟩:=K.box2 hX;have h:=HE.out;rw[List.drop_eq_nil_of_le (by omega)] at h;cases h;go_wp2;refine bodyPost_ret (v:=.agg #[.int .i64 0,.int .i64 0]) (by simp[results,results64,go_sem, *]) rfl ?_;exact⟨rfl,(HB.out.setCell (p:=⟨w.heap.size,0,none⟩) qN _).setCell (p:=⟨w.heap.size,1,none⟩) qN _⟩
theorem zfm (w:World)(v:Value)(l:List Int)(R:L.Rd w v .i32 l)(hl:l.length<=140737488355328) :
  Calls prog 38 #[v] w fun e w'=>e=.returned (.int .i64 (K.textE l))/\Bl w w':=by
 have h:=zgp w v l R;obtain⟨ao,cap,rfl,hn,hc⟩:=R;clear hc;unfold K.textE
 by_cases h4:4000<l.length
 ·rw[if_pos h4]
  go_enter func38,ntmps38
  go_wp2;go_ret
  exact⟨rfl,qR w⟩
 ·rw[if_neg h4];have h':=h (by omega);clear h;generalize K.allR l=bb at h' ⊢;cases bb with
  | true =>
   go_enter func38,ntmps38
   go_wp2_with fail
   refine h'.mono ?_;rintro e w1 ⟨rfl,hb⟩;go_wp2;go_ret;exact⟨rfl,hb⟩
  | false =>
   go_enter func38,ntmps38
   go_wp2_with fail
   refine h'.mono ?_;rintro e w1 ⟨rfl,hb⟩;go_wp2;go_ret;exact⟨rfl,hb⟩
theorem zgq (w:World)(v:Value)(l:List K.Rule)(R0:V.Rus w v l)(vt:Value)(t:List Int)(Rt:L.Rd w vt .i32 t)(ht:t.length<=140737488355328) :
  Calls prog 99 #[v,vt] w fun e w'=>e=.returned (.agg #[.int .i64 (K.checkF l t).1,.int .i64 (K.checkF l t).2])/\Bl w w':=by
 have HA:=qH<|fun o=>(qR w).alloc qN o
 have HW:=qH<|fun o=>zcm _ _ l (R0.below (HA.out o))
 have HT:=qH<|fun X hX=>zfm X vt t (Rt.below hX qN) ht
 obtain⟨ao,cap,rfl⟩:=R0.len;obtain⟨xo,xc,rfl,_⟩:=Rt;unfold K.checkF;obtain⟨⟨e1,e2⟩,he⟩:∃o,K.rulesF l=o:=⟨_,rfl⟩;rw[he] at HW ⊢;generalize K.textE t=e3 at *;simp only at HW ⊢;obtain⟨⟨o1,o2⟩,HO⟩:∃o:Int×Int,Hid ((if e1=0 then (e3,0) else (e1,e2))=o):=⟨_,rfl⟩;rw[HO.out];clear he R0
 go_enter func99,ntmps99
 go_wp2_with fail
 refine(HW.out _).mono ?_;rintro e w1 ⟨rfl,b1⟩;obtain⟨h1,B1,s1⟩:=K.zau b1;have HB1:=qH B1;have HX1:Hid (w1.heap[w.heap.size]?=some (.cells #[.int .i64 0,.int .i64 0] 36)):=h1;clear b1 B1 HW
 by_cases q:e1=0
 ·subst q;have ho:=HO.out;rw[if_pos rfl] at ho;cases ho;clear h1;have HB2:=qH<|fun o=>HB1.out.alloc (by omega) o
  go_wp2_with fail
  refine(HT.out _ (HB2.out _)).mono ?_;rintro e w2 ⟨rfl,b2⟩;have HB3:=qH<|(HB2.out _).trans (b2.mono (HB2.out _).size)
  have h2:w2.heap[w.heap.size]?=some (.cells #[.int .i64 0,.int .i64 0] 36):=by
   rw[(K.zau b2).2.1.block _ (by omega)];exact HX1.out
  obtain⟨x0,x1,f0,f1⟩:=K.box2 h2;clear b2 h2;go_wp2;refine bodyPost_ret (v:=.agg #[.int .i64 e3,.int .i64 0]) (by simp[results,results99,go_sem, *]) rfl ?_;exact⟨rfl,(HB3.out.setCell (p:=⟨w.heap.size,0,none⟩) qN _).setCell (p:=⟨w.heap.size,1,none⟩) qN _⟩
 ·have ho:=HO.out;rw[if_neg q] at ho;cases ho;obtain⟨x0,x1,f0,f1⟩:=K.box2 h1;have k0:=fun o=>K.zai x0 o
  have k1:=fun o=>K.zai x1 o
  have g0:=fun o=>K.zal h1 o 0
  have g1:=fun o=>K.zal h1 o 1
  clear h1;go_wp2;refine bodyPost_ret (v:=.agg #[.int .i64 e1,.int .i64 e2]) (by simp[results,results99,go_sem, *]) rfl ?_;exact⟨rfl,((HB1.out.alloc (by omega) _).setCell (p:=⟨w.heap.size,0,none⟩) qN _).setCell (p:=⟨w.heap.size,1,none⟩) qN _⟩
end
section
open Go.RowKit Go.Lib
theorem zrx (w:World)(v:Value)(l:List K.Rule)(R0:V.Rus w v l)(vt:Value)(t:List Int)(Rt:L.Rd w vt .i32 t)(ht:t.length<=140737488355328)(hbad:¬(K.checkF l t).1=0) :
  Calls prog 69 #[v,vt] w fun e w'=>e=.returned (.tuple #[.agg #[.slice none 0 0,.int .i64 0,.int .i64 0],.agg #[.int .i64 (K.checkF l t).1,.int .i64 (K.checkF l t).2]])/\Bl w w':=by
 have HA:=qH<|fun o1 o2=>((qR w).alloc qN o1).alloc (by simp) o2
 have HC:Hid (∀o1 o2,Calls prog 99 #[v,vt] ((w.alloc o1).alloc o2) fun e w'=>e=.returned (.agg #[.int .i64 (K.checkF l t).1,.int .i64 (K.checkF l t).2])/\Below ((w.alloc o1).alloc o2).heap.size ((w.alloc o1).alloc o2) w'):=fun o1 o2=>zgq _ _ l (R0.below (HA.out _ _)) vt t (Rt.below (HA.out _ _) qN) ht
 obtain⟨ao,cap,rfl⟩:=R0.len;obtain⟨xo,xc,rfl,_⟩:=Rt;obtain⟨⟨e1,e2⟩,he⟩:∃o,K.checkF l t=o:=⟨_,rfl⟩;rw[he] at HC hbad ⊢;simp only at HC hbad ⊢;clear he R0
 go_enter func69,ntmps69
 go_wp2_with fail
 refine(HC.out _ _).mono ?_;rintro e w1 ⟨rfl,b1⟩;obtain⟨h1,h2,B1,s1⟩:=K.za3 b1;have HB2:=qH<|fun o=>B1.alloc (by omega) o
 have k0:∀o,(w1.alloc o).cell? ⟨w.heap.size,0,none⟩=some (.slice none 0 0):=fun o=>K.zai (K.zad h1 rfl) o
 have k1:∀o,(w1.alloc o).cell? ⟨w.heap.size,1,none⟩=some (.int .i64 0):=fun o=>K.zai (K.zad h1 rfl) o
 have k2:∀o,(w1.alloc o).cell? ⟨w.heap.size,2,none⟩=some (.int .i64 0):=fun o=>K.zai (K.zad h1 rfl) o
 have k3:∀o,(w1.alloc o).cell? ⟨w.heap.size+1,0,none⟩=some (.int .i64 0):=fun o=>K.zai (K.zad h2 rfl) o
 have k4:∀o,(w1.alloc o).cell? ⟨w.heap.size+1,1,none⟩=some (.int .i64 0):=fun o=>K.zai (K.zad h2 rfl) o
 have g0:=fun o i=>K.zal h1 o i
 have g1:=fun o i=>K.zal h2 o i
 clear b1 B1 HC h1 h2;go_wp2
 go_region
 go_wp2;refine bodyPost_ret (v:=.tuple #[.agg #[.slice none 0 0,.int .i64 0,.int .i64 0],.agg #[.int .i64 e1,.int .i64 e2]]) (by simp[results,results69,go_sem, *]) rfl ?_
 exact⟨rfl,(K.five (HB2.out _) qN (by omega) _ _ _ _ _).1.drew⟩
namespace K
theorem zg7 {w W W':World}{b:Nat}(h:Boxes w W)(hg:W.grownBy W' (some b))(hb:w.heap.size+2<=b):Boxes w W' :=
 ⟨(hg.block _ (qA.1 h.1).1 (by simp;omega)).trans h.1,(hg.block _ (qA.1 h.2).1 (by simp;omega)).trans h.2⟩
theorem zq3 (w:World)(va vb:Value)(a b:List Int)(ha:L.Rd w va .i32 a)(hb:L.Rd w vb .i32 b)(hl:a.length+b.length<=100000) :
  ∃v1 w1 v2 w2,(∀ty,(Builtin.append_ #[42,42] ty #[.slice (some ⟨w.heap.size,0,none⟩) 0 0,va]).run prog (w.alloc (.cells #[] 21))=.ok v1 w1)/\(∀ty,(Builtin.append_ #[42,42] ty #[v1,vb]).run prog w1=.ok v2 w2)/\w2.ownsRow w.heap.size 21 1 v2 (a++b).length (ints (a++b))/\Bl w w2/\Bl w w1:=by
 have hal:Bl w (w.alloc (.cells #[] 21)):=(qR w).alloc qN _;have own0:(w.alloc (.cells #[] 21)).ownsRow w.heap.size 21 1 (.slice (some ⟨w.heap.size,0,none⟩) ([]:List Int).length 0) ([]:List Int).length (ints []):=World.ownsRow_made w #[] 0 qN (Nat.zero_le _) (by simp);obtain⟨v1,w1,run1,own1,gr1,_⟩:=zea _ w.heap.size _ [] own0 va a (ha.below hal qN) (by simp;omega) (by simp);have b1:=hal.grown gr1 (by simp) fun k hk=>(own0.lt k hk).1
 obtain⟨v2,w2,run2,own2,gr2,_⟩:=zea w1 w.heap.size _ _ own1 vb b (hb.below b1 qN) (by simp;omega) b1.size;have b2:=b1.grown gr2 b1.size fun k hk=>(own1.lt k hk).1
 exact⟨v1,w1,v2,w2,run1,run2,by simpa using own2,b2,b1⟩
theorem own_ne {w:World}{B:Nat}{v:Value}{n:Nat}{xs:List Value}{b:Nat}{c:Array Value}(h:w.ownsRow B 21 1 v n xs)(hb:w.heap[b]?=some (.cells c 79)):∀k,v.ownBlock=some k->k≠b:=by
 intro k hk e;subst e;rcases h.2 with ⟨h,_⟩|⟨g,cap,cur,h,_,hg,_⟩
 ·rw[h] at hk;cases hk
 ·rw[h] at hk;have:g=k:=by simpa [Value.ownBlock] using hk
  subst this;have:=hg.symm.trans hb;simp at this
theorem zjh (xo:Option Addr)(n c d n' c':Nat):(Value.slice (if c=d then xo else Option.map (fun x=>x.add d) xo) n' c').ownBlock=(Value.slice xo n c).ownBlock:=by
 cases xo with
 | none=>simp[Value.ownBlock]
 | some a=>split <;> simp[Value.ownBlock,Addr.add] <;> (split <;> rfl)
end K
theorem ztz (w:World)(v:Value)(l:List K.Rule)(R0:V.Rus w v l)(vt:Value)(t:List Int)(Rt:L.Rd w vt .i32 t)(hgood:(K.checkF l t).1=0)(o1:Int)(o2:List Int)(o3 o4:Int)(hO:K.play l (8*t.length+40) [] t 0 0=(o1,o2,o3,o4)) :
  Calls prog 69 #[v,vt] w fun e w'=>∃v',e=.returned (.tuple #[.agg #[v',.int .i64 o3,.int .i64 o4],.agg #[.int .i64 o1,.int .i64 0]])/\L.Rd w' v' .i32 o2/\Bl w w'/\∃a c,v'=.slice a o2.length c/\o2.length<=c:=by
 obtain⟨z1,z2,hck⟩:=K.zld hgood;obtain⟨hl,hE,_⟩:=K.zba z1;have ht:=K.zgf z2;have HO:=qH hO;have HE:=qH hE;have HA:=qH<|fun o1 o2=>((qR w).alloc qN o1).alloc (by simp) o2
 have HC:Hid (∀o1 o2,Calls prog 99 #[v,vt] ((w.alloc o1).alloc o2) fun e w'=>e=.returned (.agg #[.int .i64 0,.int .i64 0])/\Below ((w.alloc o1).alloc o2).heap.size ((w.alloc o1).alloc o2) w'):=fun o1 o2=>by
  have h:=zgq _ _ l (R0.below (HA.out o1 o2)) vt t (Rt.below (HA.out o1 o2) qN) (by omega);rw[hck] at h;exact h
 have HR:=qH R0;have HT:=qH Rt;obtain⟨ao,cap,rfl⟩:=R0.len;obtain⟨xo,xc,rfl,_⟩:=Rt;clear R0 hO hE hck z1 z2 hgood
 go_enter func69,ntmps69
 go_wp2_with fail
 refine(HC.out _ _).mono ?_;rintro e w1 ⟨rfl,b1⟩;obtain⟨h1,h2,B1,s1⟩:=K.za3 b1;obtain⟨w2,hw2⟩:=qE (w1.alloc (.cells #[.int .i64 0,.int .i64 0] 36));have hB2:Bl w w2:=by rw[hw2];exact B1.alloc (by omega) _
 have hX2:K.Boxes w w2:=by rw[hw2];exact⟨(Below.heap_alloc w1 _ _ (by omega)).trans h1,(Below.heap_alloc w1 _ _ (by omega)).trans h2⟩
 have hs2:w.heap.size+2<=w2.heap.size:=by rw[hw2];simp;omega
 have hal:Bl w2 (w2.alloc (.cells #[] 21)):=(qR w2).alloc qN _;have own0:(w2.alloc (.cells #[] 21)).ownsRow w2.heap.size 21 1 (.slice (some ⟨w2.heap.size,0,none⟩) ([]:List Int).length 0) ([]:List Int).length (K.ints []):=World.ownsRow_made w2 #[] 0 qN (Nat.zero_le _) (by simp);obtain⟨v9,w3,run9,own9,gr9,_⟩:=K.zea _ w2.heap.size _ [] own0 (.slice xo t.length xc) t ((HT.out.below hB2 qN).below hal qN) (by simp;omega) (by simp);have b3:=hal.grown gr9 (by simp) fun k hk=>(own0.lt k hk).1
 rw[List.nil_append] at own9;obtain⟨r1,rc,rfl,hrc,hrm⟩:=K.zcy own9;obtain⟨wB,hwB⟩:=qE (w3.alloc (.cells #[.slice none 0 0,.int .i64 0,.int .i64 0] 127));obtain⟨bo,hbo⟩:=qE w3.heap.size;have hb3B:Bl w3 wB:=by rw[hwB];exact(qR w3).alloc qN _
 have hs3:=b3.size;have hbB:w.heap.size+2<=bo:=by omega
 have HD0:Hid (K.Dr wB wB bo (0:Nat) (0:Nat) (.slice none ([]:List Int).length 0) (.slice r1 t.length rc) [] t):=by
  refine⟨by rw[hbo,hwB];simp,World.ownsRow_nil _ _ _ _,(K.zfl own9).below hb3B qN,fun _ k hk=>by simp[Value.ownBlock] at hk,by rw[hbo,hwB];exact heap_alloc_new w3 _,S.zat _ _⟩
 have HBw:=qH<|(hB2.trans (b3.mono (by omega))).trans (hb3B.mono (by omega));have HBX:=qH<|K.zf4 (K.zf4 hX2 b3) hb3B
 have run9':=fun ty=>by
  have h:=run9 ty;rw[hw2] at h;simpa using h
 have e1:IntKind.i64.wrap (8*(t.length:Int))=8*(t.length:Int):=by rw[IntKind.wrap_i64];omega
 have e2:IntKind.i64.wrap (8*(t.length:Int)+40)=8*(t.length:Int)+40:=by rw[IntKind.wrap_i64];omega
 clear b1 B1 HC h1 h2 hw2 hB2 hX2 HA hal own0 run9 own9 gr9 b3 hb3B;unfold maxLen at hrm
 go_wp2_with (at_builtin;first|refine Lib.wpList_append_run _ rfl _ _ _ _ rfl _ _ rfl rfl _ _ (run9' _) ?_)
 rw[<- hwB,<- hbo];clear run9' hwB hbo hs3 hs2 e1 e2
 go_loopw [7,8,9] (fun i7 i8 i9 wr=>∃(left:Nat) (done rest:List Int) (s p:Nat) (d1:Option Addr) (dc:Nat) (r1:Option Addr) (rc:Nat),i7=.int .i64 left/\i8=.slice d1 done.length dc/\i9=.slice r1 rest.length rc/\rest.length<=rc/\rc<=2 ^ 63-1/\s+left<=8*t.length+40/\p<=s/\Hid (K.play l left done rest s p=(o1,o2,o3,o4))/\Hid (K.Dr wB wr bo s p (.slice d1 done.length dc) (.slice r1 rest.length rc) done rest)/\done.length+rest.length<=4000) (fun i7 _ _ _=>(RowKit.intOf i7).toNat)
 case atStart=>exact⟨8*t.length+40,[],t,0,0,none,0,r1,rc,by simp,rfl,rfl,hrc,hrm,by omega,by omega,HO,HD0,by simpa using ht⟩
 case round =>
  clear HD0 HO hrc hrm;obtain⟨left,done,rest,s,p,d1,dc,r1,rc,rfl,rfl,rfl,hrc,hrm,hsl,hps,HP,HD,h4⟩:=hrel;have x1:=K.zad (i:=1) HD.out.out rfl;have x2:=K.zad (i:=2) HD.out.out rfl;have x0:=K.zad (i:=0) HD.out.out rfl;have fo:=fun i=>frozen_of_row wr _ i _ _ HD.out.out
  have HBW:=qH<|HBw.out.grown HD.out.grown HBw.out.size (fun k hk=>by cases hk;omega);have HBx:=qH<|K.zg7 HBX.out HD.out.grown hbB;have n1:¬bo=w.heap.size:=by omega
  have n2:¬bo=w.heap.size+1:=by omega
  have n3:¬w.heap.size=bo:=by omega
  have n4:¬w.heap.size+1=bo:=by omega
  by_cases hr:rest.length=0
  ·have hp:=HP.out;rw[K.zdz hr] at hp;have HP2:=qH hp;obtain⟨y0,y1,y2⟩:wr.cell? ⟨w.heap.size,0,none⟩=some (.slice none 0 0)/\wr.cell? ⟨w.heap.size,1,none⟩=some (.int .i64 0)/\wr.cell? ⟨w.heap.size,2,none⟩=some (.int .i64 0):=⟨K.zad HBx.out.1 rfl,K.zad HBx.out.1 rfl,K.zad HBx.out.1 rfl⟩;obtain⟨y3,y4⟩:wr.cell? ⟨w.heap.size+1,0,none⟩=some (.int .i64 0)/\wr.cell? ⟨w.heap.size+1,1,none⟩=some (.int .i64 0):=⟨K.zad HBx.out.2 rfl,K.zad HBx.out.2 rfl⟩;have fa:=fun i=>frozen_of_row wr _ i _ _ HBx.out.1
   have fb:=fun i=>frozen_of_row wr _ i _ _ HBx.out.2
   clear hp HP HBx HBX HBw HR HT HE;go_wp2;refine bodyPost_ret (v:=.tuple #[.agg #[.slice d1 done.length dc,.int .i64 s,.int .i64 p],.agg #[.int .i64 0,.int .i64 0]]) (by simp[results,results69,go_sem, *]) rfl ?_;have he:=HP2.out;simp only[Prod.mk.injEq] at he;obtain⟨rfl,rfl,rfl,rfl⟩:=he;obtain⟨f1,f2⟩:=K.five (HBW.out.setCell (p:=⟨bo,0,none⟩) (by show w.heap.size<=bo;omega) (.slice d1 done.length dc)) qN (by omega:w.heap.size<=w.heap.size+1) (.slice d1 done.length dc) (.int .i64 s) (.int .i64 p) (.int .i64 0) (.int .i64 0);obtain⟨_,_,he2,hd2,_⟩:=K.zcy HD.out.own;cases he2;refine⟨_,rfl,K.za8 (K.zfl HD.out.own) fun _ k hk=> ?_,f1,_,_,rfl,hd2⟩;have hk2:=(HD.out.own.lt k hk).1;have hk3:=HD.out.hb;rw[f2 k (by omega) (by omega)];exact heap_setCell_other wr ⟨bo,0,none⟩ k _ (by simp;omega)
  ·cases left with
   | zero =>
    have hp:=HP.out;rw[K.zlv hr] at hp;have HP2:=qH hp;obtain⟨y0,y1,y2⟩:wr.cell? ⟨w.heap.size,0,none⟩=some (.slice none 0 0)/\wr.cell? ⟨w.heap.size,1,none⟩=some (.int .i64 0)/\wr.cell? ⟨w.heap.size,2,none⟩=some (.int .i64 0):=⟨K.zad HBx.out.1 rfl,K.zad HBx.out.1 rfl,K.zad HBx.out.1 rfl⟩;obtain⟨y3,y4⟩:wr.cell? ⟨w.heap.size+1,0,none⟩=some (.int .i64 0)/\wr.cell? ⟨w.heap.size+1,1,none⟩=some (.int .i64 0):=⟨K.zad HBx.out.2 rfl,K.zad HBx.out.2 rfl⟩;have fa:=fun i=>frozen_of_row wr _ i _ _ HBx.out.1
    have fb:=fun i=>frozen_of_row wr _ i _ _ HBx.out.2
    clear hp HP HBx HBX HBw HR HT HE HD;go_wp2;refine bodyPost_ret (v:=.tuple #[.agg #[.slice none 0 0,.int .i64 0,.int .i64 0],.agg #[.int .i64 9,.int .i64 0]]) (by simp[results,results69,go_sem, *]) rfl ?_;have he:=HP2.out;simp only[Prod.mk.injEq] at he;obtain⟨rfl,rfl,rfl,rfl⟩:=he;exact⟨_,rfl,⟨none,0,rfl,fun _=>rfl,fun h=>absurd rfl h⟩,(K.five HBW.out qN (by omega:w.heap.size<=w.heap.size+1) _ _ _ _ _).1,none,0,rfl,qN⟩
   | succ left =>
    have hlen2:(done++rest).length<=4000:=by simp;omega
    obtain⟨W5,hW5⟩:=qE (wr.setCell ⟨bo,1,none⟩ (.int .i64 ((s:Int)+1)));have D5:K.Dr wB W5 bo ((s:Int)+1) p (.slice d1 done.length dc) (.slice r1 rest.length rc) done rest:=by rw[hW5];exact HD.out.set1 _
    have B5:Bl w W5:=by rw[hW5];exact HBW.out.setCell (p:=⟨bo,1,none⟩) (by show w.heap.size<=bo;omega) _
    obtain⟨v6,w6,v7,w7,run6,run7,own7,b7,_⟩:=K.zq3 W5 _ _ done rest (K.zfl D5.own) D5.rd (by omega);have B7:=B5.trans (b7.mono B5.size);have D7:=D5.below b7;have HWh:=qH<|zkh w7 _ l (HR.out.below B7) hl HE.out v7 (done++rest) (K.zfl own7) hlen2 done.length (by omega) (by simp;omega);have HD7:=qH D7;have HB7:=qH B7;clear D5 B5 own7 b7 B7 D7 HT;rcases K.ze1 (l:=l) (t:=done++rest) (k:=(done.length:Int)) with hw|⟨j,r,hj,hm,hw⟩
    ·have hp:=HP.out;rw[K.zkn hr hw] at hp;obtain⟨x,hx⟩:∃x,rest[0]?=some x:=⟨rest[0]'(by omega),by simp⟩;have htk:rest.take 1= [x]:=by rw[List.take_one];simp[List.head?_eq_getElem?,hx]
     rw[htk] at hp;have HP2:Hid (K.play l left (done++ [x]) (rest.drop 1) ((s+1:Nat):Int) p=(o1,o2,o3,o4)):=by rw[Int.natCast_add];exact hp
     rw[hw] at HWh;have HL:Hid ((done++ [x]).length+(rest.drop 1).length<=4000):=by show _<=_;simp;omega
     clear hp HP HBx HBX HBw HR HE HD hw htk
     go_upto_region 13 with fail
     rw[<- hW5];clear hW5
     go_wp2_with (at_builtin;first|refine Lib.wpList_append_run _ rfl _ _ _ _ rfl _ _ rfl rfl _ _ (run6 _) ?_|refine Lib.wpList_append_run _ rfl _ _ _ _ rfl _ _ rfl rfl _ _ (run7 _) ?_)
     refine HWh.out.mono ?_;rintro e w8 ⟨rfl,b8⟩;have D8:=HD7.out.below b8;obtain⟨_,_,e8,_,hc8⟩:=D8.rd;cases e8;obtain⟨rb,ro,rfl,hcell8⟩:=hc8 (by intro h;subst h;simp at hr);have c8:=hcell8 0 x hx;rw[Nat.add_zero] at c8;have hal:Bl w8 (w8.alloc (.cells #[.int .i32 x] 21)):=(qR w8).alloc qN _;have D9:=D8.below hal
     have hone:L.Rd (w8.alloc (.cells #[.int .i32 x] 21)) (.slice (some ⟨w8.heap.size,0,none⟩) 1 1) .i32 [x]:=by
      refine⟨_,1,rfl,fun e=>(by cases e),fun _=>⟨w8.heap.size,0,rfl,fun q z hq=> ?_⟩⟩
      match q,hq with
      | 0,hq =>
       have:x=z:=by simpa using hq
       subst this;exact K.zad (heap_alloc_new w8 _) rfl
      | q+1,hq=>simp at hq
     obtain⟨v10,w10,run10,own10,gr10,hv10⟩:=K.zea _ wB.heap.size _ done D9.own _ [x] hone (by simp;omega) (Nat.le_trans D9.grown.size qN);have D10:=D9.push own10 gr10 hv10;obtain⟨d2,dc2,rfl,_,_⟩:=K.zcy own10;obtain⟨ap,hap⟩:=qE ((if rc=1 then some (⟨rb,ro,none⟩:Addr) else Option.map (fun x=>x.add 1) (some (⟨rb,ro,none⟩:Addr))))
     have hsl:∀w',(Instr.slice 42 (.slice (some ⟨rb,ro,none⟩) rest.length rc) (some (.int .i64 1)) none none).run prog w'=.ok (.slice ap (rest.length-1) (rc-1)) w':=fun w'=>by
      rw[hap];exact K.zbw (some ⟨rb,ro,none⟩) rest.length rc 1 (by omega) hrc w'
     have D11:Hid (K.Dr wB w10 bo ((s+1:Nat):Int) p (.slice d2 (done++ [x]).length dc2) (.slice ap (rest.drop 1).length (rc-1)) (done++ [x]) (rest.drop 1)):=by
      rw[Int.natCast_add,List.length_drop];refine D10.other ?_ fun hz k hk=> ?_
      ·rw[hap];exact K.zej D10.rd (by omega) hrc
      ·rw[hap,K.zjh (some ⟨rb,ro,none⟩) rest.length rc 1];exact D10.apart (by intro h;subst h;simp at hr) k hk
     have hpos:(0:Int)<rest.length:=by omega
     clear D8 D9 D10 hone hal own10 gr10 hv10 hap hcell8 hc8 b8 HWh run6 run7 HD7 HB7 x0 x1 x2 fo
     go_wp2_with (at_builtin;first|refine Lib.wpList_append_run _ rfl _ _ _ _ rfl _ _ rfl rfl _ _ (run10 _) ?_)
     go_roundw
     case rel=>exact⟨left,done++ [x],rest.drop 1,s+1,p,d2,dc2,ap,rc-1,by go_num,by simp,by rw[List.length_drop],by rw[List.length_drop];omega,by omega,by omega,by omega,HP2,D11,HL.out⟩
     case measure=>simp[RowKit.intOf]
    ·have hrE:=HE.out r (List.mem_of_getElem? hj);have hfit:=K.fits hrE hm;obtain⟨_,g2,_,hsrc,hta,_,hc0,hc1⟩:=K.zas hrE;have hl2:=g2.1;have hrl:=K.zhq (r:=r) (rest:=rest);rw[hw] at HWh;obtain⟨ao',cap',e',_,hcs⟩:=HR.out;cases e';obtain⟨b,off,rfl,hcell⟩:=hcs (by intro h;subst h;simp at hj);obtain⟨qo,qc,so,sc,eo,ec,tgo,tc,c0,c1,c2,c3,c4,c5,c6,hP⟩:=hcell j r hj;have hjl:=(qL.1 hj).1;have hj0:(0:Int)<=j:=by omega
     have HC7:Hid (w.cell? ⟨b,off+j*7,none⟩=some (.bool r.start)/\w.cell? ⟨b,off+j*7+1,none⟩=some (.bool r.fin)/\w.cell? ⟨b,off+j*7+2,none⟩=some (.slice qo r.before.length qc)/\w.cell? ⟨b,off+j*7+3,none⟩=some (.slice so r.source.length sc)/\w.cell? ⟨b,off+j*7+4,none⟩=some (.slice eo r.after.length ec)/\w.cell? ⟨b,off+j*7+5,none⟩=some (.slice tgo r.target.length tc)/\w.cell? ⟨b,off+j*7+6,none⟩=some (.int .i64 r.cursor)):=⟨c0,c1,c2,c3,c4,c5,c6⟩;have lb:=L.block_lt c0
     have hPt:L.Rd w (.slice tgo r.target.length tc) .i32 r.target:=by
      obtain⟨_,_,_,_,_,_,_,_,he,_,_,_,h5,_⟩:=hP;simp at he;obtain⟨_,_,_,⟨q1,q2⟩⟩:=he;subst q1 q2;exact h5
     have HPt:=qH hPt;have HPl:=qH HP.out;have HJ:Hid (l[j]?=some r/\K.which l (done++rest) done.length=(j:Int)):=⟨hj,hw⟩;clear HP HBx HBw HR HE HD hw hcs hcell hP hPt c0 c1 c2 c3 c4 c5 c6 hj hm hrE
     go_upto_region 13 with fail
     rw[<- hW5];clear hW5
     go_wp2_with (at_builtin;first|refine Lib.wpList_append_run _ rfl _ _ _ _ rfl _ _ rfl rfl _ _ (run6 _) ?_|refine Lib.wpList_append_run _ rfl _ _ _ _ rfl _ _ rfl rfl _ _ (run7 _) ?_)
     refine HWh.out.mono ?_;rintro e w8 ⟨rfl,b8⟩;have D8:=HD7.out.below b8;have B8:=HB7.out.trans (b8.mono HB7.out.size);have c0:w8.cell? ⟨b,off+j*7,none⟩=_:=(B8.cell (p:=⟨b,_,none⟩) lb).trans HC7.out.1;have c1:w8.cell? ⟨b,off+j*7+1,none⟩=_:=(B8.cell (p:=⟨b,_,none⟩) lb).trans HC7.out.2.1;have c2:w8.cell? ⟨b,off+j*7+2,none⟩=_:=(B8.cell (p:=⟨b,_,none⟩) lb).trans HC7.out.2.2.1;have c3:w8.cell? ⟨b,off+j*7+3,none⟩=_:=(B8.cell (p:=⟨b,_,none⟩) lb).trans HC7.out.2.2.2.1;have c4:w8.cell? ⟨b,off+j*7+4,none⟩=_:=(B8.cell (p:=⟨b,_,none⟩) lb).trans HC7.out.2.2.2.2.1;have c5:w8.cell? ⟨b,off+j*7+5,none⟩=_:=(B8.cell (p:=⟨b,_,none⟩) lb).trans HC7.out.2.2.2.2.2.1;have c6:w8.cell? ⟨b,off+j*7+6,none⟩=_:=(B8.cell (p:=⟨b,_,none⟩) lb).trans HC7.out.2.2.2.2.2.2;have n5:¬b=bo:=by omega
     have n6:¬bo=b:=by omega
     obtain⟨W9,hW9⟩:=qE (w8.setCell ⟨bo,2,none⟩ (.int .i64 ((p:Int)+1)));have D9:K.Dr wB W9 bo ((s:Int)+1) ((p:Int)+1) (.slice d1 done.length dc) (.slice r1 rest.length rc) done rest:=by rw[hW9];exact D8.set2 _
     have B9:Bl w W9:=by rw[hW9];exact B8.setCell (p:=⟨bo,2,none⟩) (by show w.heap.size<=bo;omega) _
     obtain⟨W10,hW10⟩:=qE ((w8.setCell ⟨bo,2,none⟩ (.int .i64 ((p:Int)+1))).alloc (.cells #[.bool r.start,.bool r.fin,.slice qo r.before.length qc,.slice so r.source.length sc,.slice eo r.after.length ec,.slice tgo r.target.length tc,.int .i64 r.cursor] 79));have hW10':W10=W9.alloc (.cells #[.bool r.start,.bool r.fin,.slice qo r.before.length qc,.slice so r.source.length sc,.slice eo r.after.length ec,.slice tgo r.target.length tc,.int .i64 r.cursor] 79):=by rw[hW10,hW9]
     have hal:Bl W9 W10:=by rw[hW10'];exact(qR W9).alloc qN _
     obtain⟨rx,hrx⟩:=qE W9.heap.size;have hrx8:rx=w8.heap.size:=by rw[hrx,hW9];simp
     have hrb:W10.heap[rx]?=some (.cells #[.bool r.start,.bool r.fin,.slice qo r.before.length qc,.slice so r.source.length sc,.slice eo r.after.length ec,.slice tgo r.target.length tc,.int .i64 r.cursor] 79):=by rw[hrx,hW10'];exact heap_alloc_new W9 _
     have D10:=(D9.below hal).below ((qR W10).drew);have B10:=(B9.trans (hal.mono B9.size)).drew;have sx0:=K.zad (i:=5) hrb rfl;have sx1:=K.zad (i:=3) hrb rfl;obtain⟨ap,hap⟩:=qE ((if rc=r.source.length then r1 else Option.map (fun x=>x.add r.source.length) r1))
     have hsl:∀w',(Instr.slice 42 (.slice r1 rest.length rc) (some (.int .i64 (r.source.length:Int))) none none).run prog w'=.ok (.slice ap (rest.length-r.source.length) (rc-r.source.length)) w':=fun w'=>by
      rw[hap];exact K.zbw r1 rest.length rc r.source.length hfit hrc w'
     have hrdr:L.Rd W10.drew (.slice ap (rest.length-r.source.length) (rc-r.source.length)) .i32 (rest.drop r.source.length):=by
      rw[hap];exact K.zej D10.rd hfit hrc
     obtain⟨v11,w11,v12,w12,run11,run12,own12,b12,b11⟩:=K.zq3 W10.drew _ _ r.target (rest.drop r.source.length) (HPt.out.below B10 qN) hrdr (by simp;omega);have D12:=(D10.below b12).other (K.zfl own12) (fun _ k hk e=>by have h1:=(D10.own.lt k hk).2;have h2:=(own12.lt k e).1;omega);obtain⟨f1,fc,rfl,hfc,hfm⟩:=K.zcy own12;have hrb12:=K.zae (w:=W10.drew) hrb b12;have B12:=B10.trans (b12.mono B10.size);obtain⟨RS,hRS⟩:=qE (K.restOf r rest);have hRS2:r.target++rest.drop r.source.length=RS:=hRS.symm;rw[hRS2] at D12 run12 hfc;rw[<- hRS] at hrl;have HRS:=qH hRS;have hrl1:RS.length<=r.target.length+(rest.length-r.source.length):=by omega
     have hrl2:r.target.length+(rest.length-r.source.length)<=RS.length:=by omega
     have hrb11:=K.zae (w:=W10.drew) hrb b11;have HKa:Hid ((∀o,(W10.alloc o).cell? ⟨rx,5,none⟩=some (.slice tgo r.target.length tc)/\(W10.alloc o).cell? ⟨rx,3,none⟩=some (.slice so r.source.length sc))/\(w11.cell? ⟨rx,5,none⟩=some (.slice tgo r.target.length tc)/\w11.cell? ⟨rx,3,none⟩=some (.slice so r.source.length sc))/\(w12.cell? ⟨rx,5,none⟩=some (.slice tgo r.target.length tc)/\w12.cell? ⟨rx,3,none⟩=some (.slice so r.source.length sc))):=⟨fun o=>⟨K.zai sx0 o,K.zai sx1 o⟩,⟨K.zad hrb11 rfl,K.zad hrb11 rfl⟩,⟨K.zad hrb12 rfl,K.zad hrb12 rfl⟩⟩;have HR11:Hid (∀ty,(Builtin.append_ #[42,42] ty #[.slice (some ⟨W10.heap.size,0,none⟩) 0 0,.slice tgo r.target.length tc]).run prog (W10.alloc (.cells #[] 21)).drew=.ok v11 w11):=run11;have HR12:=qH run12;have z2:=K.zad (i:=2) D8.out rfl;have fz:=frozen_of_row w8 bo 2 _ _ D8.out;have HD12:=qH D12;have HRB:Hid (w12.heap[rx]?=some (.cells #[.bool r.start,.bool r.fin,.slice qo r.before.length qc,.slice so r.source.length sc,.slice eo r.after.length ec,.slice tgo r.target.length tc,.int .i64 r.cursor] 79)/\Bl w w12):=⟨hrb12,B12⟩;clear hRS hRS2 hrl D8 B8 D9 B9 hW9 hW10' hal hrx D10 B10 hap hrdr own12 b12 b11 D12 hrb hrb11 hrb12 B12 run11 run12 run6 run7 HWh HD7 HB7 b8 HPt HC7 x0 x1 x2 fo
     go_upto_region 19 with fail
     rw[<- hW10,<- hrx8];clear hW10 hrx8 c0 c1 c2 c3 c4 c5 c6 z2 fz
     go_region_held3 (fun w'=>w'.cell? ⟨rx,5,none⟩=some (.slice tgo r.target.length tc)/\w'.cell? ⟨rx,3,none⟩=some (.slice so r.source.length sc)) (first|exact⟨sx0,sx1⟩|exact HKa.out.1 _|exact HKa.out.2.1|exact HKa.out.2.2|go_keep) (first|(refine K.za7 (by rfl) (.tmp 68) (.tmp 70) (by rfl) _ _ v11 w11 (by rfl) (by rfl) HR11.out ?_)|(refine K.za7 (by rfl) (.tmp 71) (.tmp 76) (by rfl) _ _ _ w12 (by rfl) (by rfl) HR12.out ?_)|fail)
     unfold maxLen at hfm;have hp:=HPl.out
     by_cases hlong:4000<done.length+RS.length
     ·rw[K.zis hr HJ.out.2 HJ.out.1 (by rw[<- HRS.out];exact hlong)] at hp;have HP2:=qH hp;have HBx:=qH<|K.zg7 HBX.out HD12.out.grown hbB;obtain⟨y0,y1,y2⟩:w12.cell? ⟨w.heap.size,0,none⟩=some (.slice none 0 0)/\w12.cell? ⟨w.heap.size,1,none⟩=some (.int .i64 0)/\w12.cell? ⟨w.heap.size,2,none⟩=some (.int .i64 0):=⟨K.zad HBx.out.1 rfl,K.zad HBx.out.1 rfl,K.zad HBx.out.1 rfl⟩;obtain⟨y3,y4⟩:w12.cell? ⟨w.heap.size+1,0,none⟩=some (.int .i64 0)/\w12.cell? ⟨w.heap.size+1,1,none⟩=some (.int .i64 0):=⟨K.zad HBx.out.2 rfl,K.zad HBx.out.2 rfl⟩;have fa:=fun i=>frozen_of_row w12 _ i _ _ HBx.out.1
      have fb:=fun i=>frozen_of_row w12 _ i _ _ HBx.out.2
      have hlong2:(4000:Int)<done.length+RS.length:=by omega
      clear hp HBx HR11 HR12 HKa sx0 sx1 hsl hlong;go_wp2;refine bodyPost_ret (v:=.tuple #[.agg #[.slice none 0 0,.int .i64 0,.int .i64 0],.agg #[.int .i64 4,.int .i64 0]]) (by simp[results,results69,go_sem, *]) rfl ?_;have he:=HP2.out;simp only[Prod.mk.injEq] at he;obtain⟨rfl,rfl,rfl,rfl⟩:=he;exact⟨_,rfl,⟨none,0,rfl,fun _=>rfl,fun h=>absurd rfl h⟩,(K.five HRB.out.2 qN (by omega:w.heap.size<=w.heap.size+1) _ _ _ _ _).1,none,0,rfl,qN⟩
     ·rw[K.zhr hr HJ.out.2 HJ.out.1 (by rw[<- HRS.out];exact hlong),<- HRS.out] at hp;obtain⟨cu,hcu⟩:∃cu:Nat,r.cursor=cu:=⟨r.cursor.toNat,by omega⟩;have hcu2:r.cursor.toNat=cu:=by omega
      rw[hcu2] at hp;have HP2:Hid (K.play l left (done++RS.take cu) (RS.drop cu) ((s+1:Nat):Int) ((p+1:Nat):Int)=(o1,o2,o3,o4)):=by rw[Int.natCast_add,Int.natCast_add];exact hp
      have hcul:cu<=RS.length:=by omega
      have hs1:=K.zee f1 RS.length fc cu (by omega);obtain⟨v13,w13,run13,own13,gr13,hv13⟩:=K.zea w12 wB.heap.size _ done HD12.out.own _ (RS.take cu) (K.zkc HD12.out.rd hcul) (by rw[List.length_take];omega) HD12.out.grown.size;rw[List.length_append,List.length_take,Nat.min_eq_left hcul] at own13;have own13':w13.ownsRow wB.heap.size 21 1 v13 (done++RS.take cu).length (K.ints (done++RS.take cu)):=by rw[List.length_append,List.length_take,Nat.min_eq_left hcul];exact own13
      have D13:=HD12.out.push own13' gr13 hv13;obtain⟨d2,dc2,rfl,_,_⟩:=K.zcy own13';obtain⟨ap2,hap2⟩:=qE ((if fc=cu then f1 else Option.map (fun x=>x.add cu) f1))
      have hs2:∀w',(Instr.slice 42 (.slice f1 RS.length fc) (some (.int .i64 (cu:Int))) none none).run prog w'=.ok (.slice ap2 (RS.length-cu) (fc-cu)) w':=fun w'=>by
       rw[hap2];exact K.zbw f1 RS.length fc cu hcul hfc w'
      have D14:Hid (K.Dr wB w13 bo ((s+1:Nat):Int) ((p+1:Nat):Int) (.slice d2 (done++RS.take cu).length dc2) (.slice ap2 (RS.drop cu).length (fc-cu)) (done++RS.take cu) (RS.drop cu)):=by
       rw[Int.natCast_add,Int.natCast_add,List.length_drop];refine D13.other ?_ fun hz k hk=> ?_
       ·rw[hap2];exact K.zej D13.rd hcul hfc
       ·rw[hap2,K.zjh f1 RS.length fc cu];exact D13.apart (by intro h;rw[h] at hz;simp at hz) k hk
      have hrb13:=(gr13.block rx (qA.1 HRB.out.1).1 (fun e=>K.own_ne HD12.out.own HRB.out.1 rx e.symm rfl)).trans HRB.out.1;have s6:=K.zad (i:=6) HRB.out.1 rfl;have t6:=K.zad (i:=6) hrb13 rfl;rw[hcu] at s6 t6;have hlong2:¬(4000:Int)<done.length+RS.length:=by omega
      have HL:Hid ((done++RS.take cu).length+(RS.drop cu).length<=4000):=by show _<=_;simp;omega
      have hd2:(done++RS.take cu).length=done.length+cu:=by rw[List.length_append,List.length_take,Nat.min_eq_left hcul]
      have HD2:=qH hd2;have run14:∀ty,(Builtin.append_ #[42,42] ty #[.slice d1 done.length dc,.slice f1 cu fc]).run prog w12=.ok (.slice d2 (done.length+cu) dc2) w13:=fun ty=>by rw[<- hd2];exact run13 ty
      clear hp HR11 HR12 HKa sx0 sx1 hsl hlong hcu hcu2 D13 own13 own13' gr13 hv13 hap2 hrb13 HRB HBX HD12 hd2 run13 hc0 hc1 HJ HPl
      go_wp2_with (at_builtin;first|refine Lib.wpList_append_run _ rfl _ _ _ _ rfl _ _ rfl rfl _ _ (run14 _) ?_)
      go_roundw
      case rel=>exact⟨left,done++RS.take cu,RS.drop cu,s+1,p+1,d2,dc2,ap2,fc-cu,by go_num,by rw[HD2.out],by rw[List.length_drop],by rw[List.length_drop];omega,by omega,by omega,by omega,HP2,D14,HL.out⟩
      case measure=>simp[RowKit.intOf]
theorem zpg (w:World)(v:Value)(l:List K.Rule)(R0:V.Rus w v l)(vt:Value)(t:List Int)(Rt:L.Rd w vt .i32 t)(ht:t.length<=140737488355328) :
  Calls prog 69 #[v,vt] w fun e w'=>∃v',e=.returned (.tuple #[.agg #[v',.int .i64 (K.runF l t).1.2.1,.int .i64 (K.runF l t).1.2.2],.agg #[.int .i64 (K.runF l t).2.1,.int .i64 (K.runF l t).2.2]])/\L.Rd w' v' .i32 (K.runF l t).1.1/\Bl w w':=by
 unfold K.runF
 by_cases hg:(K.checkF l t).1=0
 ·rw[if_pos hg];obtain⟨⟨o1,o2,o3,o4⟩,hO⟩:∃o,K.play l (8*t.length+40) [] t 0 0=o:=⟨_,rfl⟩;rw[hO];exact(ztz w v l R0 vt t Rt hg o1 o2 o3 o4 hO).mono fun e w' ⟨v',h1,h2,h3,_⟩=>⟨v',h1,h2,h3⟩
 ·rw[if_neg hg];exact(zrx w v l R0 vt t Rt ht hg).mono fun e w' ⟨h1,h2⟩=>⟨_,h1,⟨none,0,rfl,fun _=>rfl,fun h=>absurd rfl h⟩,h2⟩
