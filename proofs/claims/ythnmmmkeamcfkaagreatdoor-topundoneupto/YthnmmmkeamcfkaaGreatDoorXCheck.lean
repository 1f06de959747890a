import Derived.Test.YthnmmmkeamcfkaaGreatDoorXStep
set_option maxHeartbeats 0
set_option maxRecDepth 20000
set_option linter.unusedSimpArgs false
set_option linter.unusedVariables false
namespace Go.Proofs.YthnmmmkeamcfkaaGreatDoor
open Go.Proofs.Tryz
section
open Go.RowKit Go.Shelf
theorem Gm.right1 (w:World)(B:Gm.Bs)(g:Nat)(ao:Option Addr)(cur A Z:List Int)(h:Gm.Tx B g ao cur A Z w)(hz:0<Z.length) :
  Calls prog 231 #[.pointer (some ⟨g,0,none⟩),.int .i64 ((A.length+1:Nat):Int)] w fun e w'=>e= .returned (.int .i64 0)/\Gm.Told B g w (A++Z.take 1) (Z.drop 1) w':=by
 obtain⟨r,rfl⟩:=h.room.some (by have:=h.fit;omega);exact zg0 w B g r cur A Z h (A.length+1) 1 rfl (by omega) (by omega)
theorem zsg (b:Nat)(ms:List Nat)(mb:Nat)(wb w:World)(g:Nat)(vr vh:Value)(l:List K.Rule)(c:List Int)(A Z:List Int)(M:Gm.Mx b ms mb wb w g vr vh l c A Z)(hz:0<Z.length) :
  Calls prog 214 #[.pointer (some ⟨mb,0,none⟩),.int .i64 (-1)] w fun e w'=>e= .returned (.int .i64 0)/\Gm.Mx b ms mb wb w' g vr vh l c (A++Z.take 1) (Z.drop 1)/\Gm.Fr ⟨b,ms⟩ w w':=by
 obtain⟨ao,cur,hT⟩:=M.tx;have hf:=hT.few;have k0:w.cell? ⟨mb,0,none⟩=some (.pointer (some ⟨g,0,none⟩)):=K.zad (i:=0) M.box rfl
 have HCur:Hid (∀W,W=w.drew->Calls prog 212 #[.pointer (some ⟨g,0,none⟩)] W fun e w'=>e= .returned (.int .i64 A.length)/\w'=W):=fun W hW=>by
  subst hW;exact zc2 w.drew g A.length _ _ (hT.drew 1).box
 have HMv:Hid (∀W,W=w.drew->Calls prog 231 #[.pointer (some ⟨g,0,none⟩),.int .i64 (IntKind.i64.wrap ((A.length:Int)+1))] W fun e w'=>e= .returned (.int .i64 0)/\Gm.Mx b ms mb wb w' g vr vh l c (A++Z.take 1) (Z.drop 1)/\Gm.Fr ⟨b,ms⟩ w w'):=fun W hW=>by
  subst hW;rw[show IntKind.i64.wrap ((A.length:Int)+1)=((A.length+1:Nat):Int) by rw[IntKind.wrap_i64];omega];refine(Gm.right1 w.drew _ g ao cur A Z (hT.drew 1) hz).mono ?_;rintro e w' ⟨h1,h2⟩;exact⟨h1,M.told (ns:=ms) (fun j hj=>hj) ⟨h2.1,(Gm.Fr.refl _ w).drew.trans h2.2⟩,(Gm.Fr.refl _ w).drew.trans h2.2⟩
 clear hT M
 go_enter func214,ntmps214
 go_wp2_with fail
 go_region_with (first
  | (go_at_call 212;refine(HCur.out _ rfl).mono ?_;rintro e w1 ⟨rfl,rfl⟩)
  | (go_at_call 231;refine(HMv.out _ rfl).mono ?_;rintro e w2 ⟨rfl,s2⟩))
 all_goals go_wp2
 all_goals go_ret
 all_goals exact⟨rfl,s2⟩
theorem zoz (b:Nat)(ms:List Nat)(mb:Nat)(wb w:World)(g:Nat)(vr vh:Value)(l:List K.Rule)(c:List Int)(A Z:List Int)(M:Gm.Mx b ms mb wb w g vr vh l c A Z)(k:Nat)(r:K.Rule)(hk:l[k]?=some r)(hE:K.ruleE r=0)(hm:K.matchB r (A++Z) A.length=true) :
  Calls prog 214 #[.pointer (some ⟨mb,0,none⟩),.int .i64 k] w fun e w'=>∃x:Int,e= .returned (.int .i64 x) /\
   ((4000<A.length+(K.restOf r Z).length/\x=4/\Below b w w')∨(¬ 4000<A.length+(K.restOf r Z).length/\x=0/\Gm.Mx b ms mb wb w' g vr vh l c (A++(K.restOf r Z).take r.cursor.toNat) ((K.restOf r Z).drop r.cursor.toNat)/\Gm.Fr ⟨b,ms⟩ w w')):=by
 have hs:r.source.length<=Z.length:=by
  refine Nat.le_of_not_lt fun h=> ?_
  have:=K.zhy (r:=r) (t:=A++Z) (at_:=A.length) (K.zal hE).2.2.2.1 (.inr (.inl (by rw[List.length_append];omega)));rw[this] at hm;cases hm
 have hwb:=M.bel;have hkl:=(qL.1 hk).1;have hlf:=M.rus.few;have hRus:=M.rus;obtain⟨ao,cap,rfl⟩:=M.rus.len;obtain⟨ba,oa,bo,bc,so,sc,ao2,ac,tt,tc,rfl,a0,a1,a2,a3,a4,a5,a6,hP⟩:=K.Rus.rule hRus hk;have lift:∀b o x,wb.cell? ⟨b,o,none⟩=some x->w.cell? ⟨b,o,none⟩=some x:=fun b o x h=>by rw[(L.bcell hwb).1 b o (L.block_lt h)];exact h
 replace a0:=lift _ _ _ a0
 replace a1:=lift _ _ _ a1
 replace a2:=lift _ _ _ a2
 replace a3:=lift _ _ _ a3
 replace a4:=lift _ _ _ a4
 replace a5:=lift _ _ _ a5
 replace a6:=lift _ _ _ a6
 have k1:w.cell? ⟨mb,1,none⟩=some (.slice (some ⟨ba,oa,none⟩) l.length cap):=K.zad (i:=1) M.box rfl;have HRp:=zh9 b ms mb wb w g _ vh l c A Z M _ r hP hE hs
 have HRP:Hid (Calls prog 237 #[.pointer (some ⟨mb,0,none⟩),.agg #[.bool r.start,.bool r.fin,.slice bo r.before.length bc,.slice so r.source.length sc,.slice ao2 r.after.length ac,.slice tt r.target.length tc,.int .i64 r.cursor]] w fun e w'=>∃x:Int,e= .returned (.int .i64 x) /\
   ((4000<A.length+(K.restOf r Z).length/\x=4/\Below b w w')∨(¬ 4000<A.length+(K.restOf r Z).length/\x=0/\Gm.Mx b ms mb wb w' g (.slice (some ⟨ba,oa,none⟩) l.length cap) vh l c (A++(K.restOf r Z).take r.cursor.toNat) ((K.restOf r Z).drop r.cursor.toNat)/\Gm.Fr ⟨b,ms⟩ w w'))):=HRp
 clear HRp hP lift hRus hwb hk hE hm hs M;obtain⟨st,fi,be,sou,af,ta,cu⟩:=r;simp only at a0 a1 a2 a3 a4 a5 a6 HRP
 go_enter func214,ntmps214
 go_wp2_with fail
 go_at_call 237
 refine HRP.out.mono ?_;rintro e w1 ⟨x,rfl,h1⟩;have H1:Hid _:=h1;clear h1;go_wp2;go_ret;exact⟨x,rfl,H1.out⟩
end
section
open Go.RowKit Go.Shelf
theorem Gm.Mx.box1 {b:Nat}{ms:List Nat}{mb:Nat}{wb w:World}{g:Nat}{vr vh:Value}{l:List K.Rule}{c A Z:List Int}(M:Gm.Mx b ms mb wb w g vr vh l c A Z)(o:Obj):Gm.Mx b (w.heap.size::ms) mb wb (w.alloc o) g vr vh l c A Z:=by
  have M2:=M.below ((qR w).alloc qN o);obtain⟨ao,cur,hT⟩:=M.tx;have hgs:=hT.box.lt;refine⟨M2.base,M2.bel,M2.box,List.mem_cons_of_mem _ M.mem,fun j hj=> ?_,⟨ao,cur,(hT.kept fun k hk=>((Below.refl w.heap.size w).alloc qN o).block k hk).re ⟨hT.hB.1,fun e=> ?_⟩ fun q hq=> ?_⟩,M2.rus,M2.hd⟩
  · rcases List.mem_cons.1 hj with rfl | hj
    · simp
    · have:=M.old j hj;simp;omega
  · rcases List.mem_cons.1 e with e | e
    · omega
    · exact hT.hB.2 e
  · have h1:=hT.room.lt q hq
    refine⟨h1.1.1,fun e=> ?_⟩;rcases List.mem_cons.1 e with e | e
    · omega
    · exact h1.1.2 e
theorem Gm.Mx.less {b:Nat}{ms ns:List Nat}{mb:Nat}{wb w:World}{g:Nat}{vr vh:Value}{l:List K.Rule}{c A Z:List Int}(M:Gm.Mx b ns mb wb w g vr vh l c A Z)(hm:mb∈ms)(hs:∀j∈ms,j∈ns):Gm.Mx b ms mb wb w g vr vh l c A Z:=by
  obtain⟨ao,cur,hT⟩:=M.tx;refine⟨M.base,M.bel,M.box,hm,fun j hj=>M.old j (hs j hj),⟨ao,cur,hT.re ⟨hT.hB.1,fun e=>hT.hB.2 (hs _ e)⟩ fun q hq=> ?_⟩,M.rus,M.hd⟩;have h1:=hT.room.lt q hq;exact⟨h1.1.1,fun e=>h1.1.2 (hs _ e)⟩
theorem zo3 (w:World)(n:Nat)(hn:n<=4000):Calls prog 44 #[.int .i64 (n:Int)] w fun e w'=>e= .returned (.int .i64 (8*(n:Int)+40))/\w'=w:=by
  have e1:IntKind.i64.wrap (8*(n:Int))=8*(n:Int):=by rw[IntKind.wrap_i64];omega
  have e2:IntKind.i64.wrap (8*(n:Int)+40)=8*(n:Int)+40:=by rw[IntKind.wrap_i64];omega
  go_enter func44,ntmps44
  go_wp2;go_ret
  exact⟨by simp[e1,e2],rfl⟩
theorem Gm.zj9 {l:List Int}(h:K.allR l=true):∀x∈l,0<=x/\x<=1114111:=fun x hx=>by
  have:=List.all_eq_true.1 h x hx;unfold M.right at this;simp at this;omega
theorem Gm.zc3 {a b:List Int}:K.allR (a++b)=true↔K.allR a=true/\K.allR b=true:=by simp[K.allR]
theorem Gm.zcp {a b:List Int}(h:K.allR a=true)(hs:∀x∈b,x∈a):K.allR b=true:=List.all_eq_true.2 fun x hx=>List.all_eq_true.1 h x (hs x hx)
theorem zo0 (b:Nat)(ms:List Nat)(mb:Nat)(wb w:World)(g:Nat)(vr vh:Value)(l:List K.Rule)(c:List Int)(A Z:List Int)(M:Gm.Mx b ms mb wb w g vr vh l c A Z)(O:Gm.Ok l c)(hz:0<Z.length)(hR:K.allR (A++Z)=true) :
    Calls prog 214 #[.pointer (some ⟨mb,0,none⟩),.int .i64 (K.which l (A++Z) A.length)] w fun e w'=>∃x:Int,e= .returned (.int .i64 x) /\
      ((x=4/\Below b w w'/\∀left s p,K.play l (left+1) A Z s p=(4,[],0,0)) ∨
       (x=0/\∃A' Z',Gm.Mx b ms mb wb w' g vr vh l c A' Z'/\Gm.Fr ⟨b,ms⟩ w w'/\K.allR (A'++Z')=true/\∀left s p,K.play l (left+1) A Z s p=K.play l left A' Z' (s+1) (p+if K.which l (A++Z) A.length= -1 then 0 else 1))):=by
  have hzn:¬Z.length=0:=by omega
  rcases K.zcw (l:=l) (t:=A++Z) (k:=(A.length:Int)) with hw | ⟨j,r,hj,hm,hw⟩
  · have h:=zsg b ms mb wb w g vr vh l c A Z M hz
    rw[hw];refine h.mono ?_;rintro e w' ⟨rfl,h1,h2⟩;refine⟨0,rfl,.inr ⟨rfl,_,_,h1,h2,?_,fun left s p=> ?_⟩⟩
    · rw[List.append_assoc,List.take_append_drop];exact hR
    · rw[K.zht hzn hw,if_pos rfl,Int.add_zero]
  · have h:=zoz b ms mb wb w g vr vh l c A Z M j r hj (O.right r (List.mem_of_getElem? hj)) hm
    rw[hw];refine h.mono ?_;rintro e w' ⟨x,rfl,⟨h1,rfl,h2⟩|⟨h1,rfl,h2,h3⟩⟩
    · exact⟨4,rfl,.inl ⟨rfl,h2,fun left s p=>K.zfu hzn hw hj h1⟩⟩
    · refine⟨0,rfl,.inr ⟨rfl,_,_,h2,h3,?_,fun left s p=> ?_⟩⟩
      · rw[List.append_assoc,List.take_append_drop]
        obtain⟨g1,g2⟩:=Gm.zc3.1 hR;refine Gm.zc3.2 ⟨g1,Gm.zc3.2 ⟨(K.zal (O.right r (List.mem_of_getElem? hj))).2.2.2.2.2.1,Gm.zcp g2 fun x hx=>List.mem_of_mem_drop hx⟩⟩
      · rw[K.ze4 hzn hw hj h1,if_neg (by omega)]
end
section
open Go.RowKit Go.Shelf
theorem Gm.Mx.len {b:Nat}{ms:List Nat}{mb:Nat}{wb w:World}{g:Nat}{vr vh:Value}{l:List K.Rule}{c A Z:List Int}(M:Gm.Mx b ms mb wb w g vr vh l c A Z)(q:Nat):Calls prog 211 #[.pointer (some ⟨g,0,none⟩)] (w.drewN q) fun e w'=>e= .returned (.int .i64 (A.length+Z.length:Nat))/\∃q',w'=(w.drewN q).drewN q':=by
  obtain⟨ao,cur,hT⟩:=M.tx;have hf:=hT.fit;refine(zcm (w.drewN q) g ao cur.length A.length (cur.length - Z.length) hT.box hT.most (by omega) (by omega)).mono ?_;rintro e w' ⟨rfl,h⟩;exact⟨by rw[show cur.length - (cur.length - Z.length)=Z.length by omega],h⟩
theorem Gm.Mx.cur {b:Nat}{ms:List Nat}{mb:Nat}{wb w:World}{g:Nat}{vr vh:Value}{l:List K.Rule}{c A Z:List Int}(M:Gm.Mx b ms mb wb w g vr vh l c A Z)(q:Nat):Calls prog 212 #[.pointer (some ⟨g,0,none⟩)] (w.drewN q) fun e w'=>e= .returned (.int .i64 A.length)/\w'=w.drewN q:=by
  obtain⟨ao,cur,hT⟩:=M.tx;exact zc2 (w.drewN q) g A.length _ _ hT.box
theorem Gm.Mx.drewN {b:Nat}{ms:List Nat}{mb:Nat}{wb w:World}{g:Nat}{vr vh:Value}{l:List K.Rule}{c A Z:List Int}(M:Gm.Mx b ms mb wb w g vr vh l c A Z)(q:Nat):Gm.Mx b ms mb wb (w.drewN q) g vr vh l c A Z:=M.below (below_drewN (qR w) q)
theorem Gm.Mx.top {b:Nat}{ms:List Nat}{mb:Nat}{wb w:World}{g:Nat}{vr vh:Value}{l:List K.Rule}{c A Z:List Int}(M:Gm.Mx b ms mb wb w g vr vh l c A Z):b<=w.heap.size:=by
  obtain⟨ao,cur,h⟩:=M.tx;have h1:b<=g:=h.hB.1;have h2:=h.box.lt;omega
theorem zo1 (b mb:Nat)(wb w:World)(g:Nat)(vr vh:Value)(l:List K.Rule)(c t:List Int)(M:Gm.Mx b [mb] mb wb w g vr vh l c [] t)(O:Gm.Ok l c)(hR:K.allR t=true)
    (T:World->Int->Int->Prop) (hT0:T w 0 0) (hTb:∀W W' s p,T W s p->Below b W W'->T W' s p)
    (ft:Nat) (ct:Array Value) (eg:∀args w,(callFunc ft args).run prog w= .ok (.enter ft args) w)
    (hf:∀W A Z (s p at_ k:Int),Gm.Mx b [mb] mb wb W g vr vh l c A Z->T W s p->0<=p->p<=s->s<8*t.length+40->(k= -1∨0<=k)->Calls prog ft (#[.agg #[.int .i64 at_,.int .i64 k]]++ct) W fun e w'=>e= .returned (.tuple #[])/\Gm.Mx b [mb] mb wb w' g vr vh l c A Z/\T w' (s+1) (p+if k= -1 then 0 else 1))
    (o1:Int) (o2:List Int) (o3 o4:Int) (hO:K.play l (8*t.length+40) [] t 0 0=(o1,o2,o3,o4)) :
    Calls prog 190 #[.pointer (some ⟨mb,0,none⟩),.func (.func ft) #[] ct] w fun e w'=>e= .returned (.int .i64 o1)/\Below wb.heap.size wb w'/\(∃s p,T w' s p)/\(o1=0->Gm.Mx b [mb] mb wb w' g vr vh l c o2 []/\T w' o3 o4):=by
  have ht:t.length<=4000:=by
    obtain⟨_,_,h⟩:=M.tx;simpa using h.few
  have HM:=qH M;have hbw:=M.top;have HOk:=qH O;have HR:Hid (K.allR ([]++t)=true):=hR;have HT:=qH hT0;have HTb:=qH hTb;have HF:=qH hf;have HO:=qH hO;have k0:w.cell? ⟨mb,0,none⟩=some (.pointer (some ⟨g,0,none⟩)):=K.zad (i:=0) M.box rfl;have HL:=M.len 0
  have HL0:Hid (Calls prog 211 #[.pointer (some ⟨g,0,none⟩)] w fun e w'=>e= .returned (.int .i64 t.length)/\∃q',w'=w.drewN q'):=by
    simp only[List.length_nil,Nat.zero_add] at HL;exact HL
  clear M O hR hT0 hTb hf hO HL
  go_enter func190,ntmps190
  go_wp2_with fail
  go_at_call 211
  refine HL0.out.mono ?_;rintro e w1 ⟨rfl,q,rfl⟩;have HM1:=qH <| HM.out.drewN q;have HT1:=qH <| HTb.out _ _ _ _ HT.out (below_drewN (qR w) q);have hbw1:b<=(w.drewN q).heap.size:=hbw;generalize w.drewN q=w0 at *;clear HM HT HL0 k0 hbw
  go_wp2_with (go_at_call 44;refine(zo3 _ t.length ht).mono ?_;rintro e wq ⟨rfl,rfl⟩)
  go_loopw [5] (fun i5 wr=>∃(left:Nat) (A Z:List Int) (s p:Int),i5= .int .i64 left/\0<=p/\p<=s/\s+left=8*t.length+40/\Hid (Gm.Mx b [mb] mb wb wr g vr vh l c A Z)/\Hid (T wr s p)/\Hid (K.allR (A++Z)=true)/\Hid (K.play l left A Z s p=(o1,o2,o3,o4))/\b<=wr.heap.size) (fun i5 _=>(RowKit.intOf i5).toNat)
  case atStart=>exact⟨8*t.length+40,[],t,0,0,by go_num,by omega,by omega,by omega,HM1,HT1,HR,HO,hbw1⟩
  case round =>
    obtain⟨left,A,Z,s,p,rfl,hp0,hps,hsl,HMr,HTr,HRr,HPr,hbr⟩:=hrel;have k0:wr.cell? ⟨mb,0,none⟩=some (.pointer (some ⟨g,0,none⟩)):=K.zad (i:=0) HMr.out.box rfl
    have hlen:A.length+Z.length<=4000:=by
      obtain⟨_,_,h⟩:=HMr.out.tx;exact h.few
    by_cases hz:Z.length=0
    · have hp:=HPr.out
      rw[K.zck hz] at hp;simp only[Prod.mk.injEq] at hp;obtain⟨rfl,rfl,rfl,rfl⟩:=hp;have hzn:=List.eq_nil_of_length_eq_zero hz;subst hzn;have HQ:Hid (∀q,Calls prog 211 #[.pointer (some ⟨g,0,none⟩)] (wr.drewN q) fun e w'=>e= .returned (.int .i64 A.length)/\∃q',w'=(wr.drewN q).drewN q'):=fun q=>HMr.out.len q
      have HC:=qH <| fun q=>HMr.out.cur q
      clear HPr HRr HF HO HR HM1 HT1
      go_wp2_with fail
      go_quiet (first | (go_at_call 211;exact Calls.quiet_of (HQ.out _)) | (go_at_call 212;exact Calls.quiet_of_same (HC.out _)))
      go_wp2;go_ret
      exact⟨rfl,(HMr.out.drewN nq).bel,⟨_,_,HTb.out _ _ _ _ HTr.out (below_drewN (qR wr) nq)⟩,HMr.out.drewN nq,HTb.out _ _ _ _ HTr.out (below_drewN (qR wr) nq)⟩
    · obtain⟨N,hN⟩:∃N,N=A.length+Z.length:=⟨_,rfl⟩
      have HQ:Hid (∀q,Calls prog 211 #[.pointer (some ⟨g,0,none⟩)] (wr.drewN q) fun e w'=>e= .returned (.int .i64 N)/\∃q',w'=(wr.drewN q).drewN q'):=fun q=>by rw[hN];exact HMr.out.len q
      have HC:=qH <| fun q=>HMr.out.cur q
      have hlt:(A.length:Int)<N:=by omega
      clear HO HR HM1 HT1
      go_wp2_with fail
      go_quiet (first | (go_at_call 211;exact Calls.quiet_of (HQ.out _)) | (go_at_call 212;exact Calls.quiet_of_same (HC.out _)))
      have HMq:=qH <| HMr.out.drewN nq;have HTq:=qH <| HTb.out _ _ _ _ HTr.out (below_drewN (qR wr) nq);have hbq:b<=(wr.drewN nq).heap.size:=hbr;clear HQ HC k0 HMr HTr hbr;generalize wr.drewN nq=W at *;have k0:W.cell? ⟨mb,0,none⟩=some (.pointer (some ⟨g,0,none⟩)):=K.zad (i:=0) HMq.out.box rfl;cases left with
      | zero =>
        have hp:=HPr.out;rw[K.zl2 hz] at hp;simp only[Prod.mk.injEq] at hp;obtain⟨rfl,rfl,rfl,rfl⟩:=hp;go_wp2;go_ret;exact⟨rfl,HMq.out.bel,⟨s,p,HTq.out⟩,fun h=>absurd h (by decide)⟩
      | succ left =>
        have hne:¬((left+1:Nat):Int)=0:=by omega
        have HCu:Hid (Calls prog 212 #[.pointer (some ⟨g,0,none⟩)] W fun e w'=>e= .returned (.int .i64 A.length)/\w'=W):=HMq.out.cur 0;have HFi:=qH <| zmt b [mb] mb wb W g vr vh l c A Z HMq.out HOk.out (by omega) (Gm.zj9 HRr.out)
        have HSt:Hid (∀W2 o,Below W.heap.size W W2->Calls prog 214 #[.pointer (some ⟨mb,0,none⟩),.int .i64 (K.which l (A++Z) A.length)] (W2.alloc o) fun e w'=>∃x:Int,e= .returned (.int .i64 x) /\
      ((x=4/\Below wb.heap.size wb w'/\T w' s p/\o1=4) ∨
       (x=0/\w'.heap[W2.heap.size]?=some o/\b<=w'.heap.size/\∃A' Z',Gm.Mx b [mb] mb wb w' g vr vh l c A' Z'/\T w' s p/\K.allR (A'++Z')=true/\K.play l left A' Z' (s+1) (p+if K.which l (A++Z) A.length= -1 then 0 else 1)=(o1,o2,o3,o4)))):=fun W2 o hW2=>by
          have hM2:=(HMq.out.below hW2).box1 o;have hb2:=hW2.alloc (hW2.size) o;have hs2:=hb2.size;refine(zo0 b _ mb wb _ g vr vh l c A Z hM2 HOk.out (by omega) HRr.out).mono ?_;rintro e w' ⟨x,rfl,⟨rfl,h1,h2⟩|⟨rfl,A',Z',h1,h2,h3,h4⟩⟩
          · have hp:=HPr.out
            rw[h2] at hp;simp only[Prod.mk.injEq] at hp;exact⟨4,rfl,.inl ⟨rfl,hM2.bel.trans (h1.mono hM2.base),HTb.out _ _ _ _ HTq.out ((hb2.mono hbq).trans h1),hp.1.symm⟩⟩
          · refine⟨0,rfl,.inr ⟨rfl,?_,by have:=h2.size;omega,A',Z',h1.less (by simp) (by simp),HTb.out _ _ _ _ HTq.out ((hb2.mono hbq).trans h2.1),h3,?_⟩⟩
            · rw[h2.2 _ (by simp) (by simp)];exact heap_alloc_new W2 o
            · rw[<- h4];exact HPr.out
        have hkk:K.which l (A++Z) A.length= -1∨0<=K.which l (A++Z) A.length:=by
          rcases K.zcw (l:=l) (t:=A++Z) (k:=(A.length:Int)) with h | ⟨j,r,_,_,h⟩
          · exact .inl h
          · exact .inr (by rw[h];omega)
        generalize K.which l (A++Z) A.length=kk at *;clear HMq HRr HTq HPr
        go_wp2_with fail
        go_at_call 212
        refine HCu.out.mono ?_;rintro e w1 ⟨rfl,rfl⟩
        go_wp2_with fail
        go_at_call 213
        refine HFi.out.mono ?_;rintro e w2 ⟨rfl,hw2⟩;have HB2:=qH hw2;clear hw2 k0 HCu HFi
        go_wp2_with fail
        refine(HSt.out w2 _ HB2.out).mono ?_;rintro e w3 ⟨x,rfl,⟨rfl,h1,h1t,rfl⟩|⟨rfl,h1,h2,A',Z',h3,h4,h5,h6⟩⟩
        · have H1:Hid (Below wb.heap.size wb w3/\T w3 s p):=⟨h1,h1t⟩
          clear h1 h1t HSt HB2 HF;go_wp2;go_ret;exact⟨rfl,H1.out.1,⟨s,p,H1.out.2⟩,fun h=>absurd h (by decide)⟩
        · have d0:w3.cell? ⟨w2.heap.size,0,none⟩=some (.int .i64 A.length):=K.zad (i:=0) h1 rfl
          have d1:w3.cell? ⟨w2.heap.size,1,none⟩=some (.int .i64 kk):=K.zad (i:=1) h1 rfl;have HFo:=HF.out w3 A' Z' s p A.length kk h3 h4 hp0 hps (by omega) hkk;have HFo2:=qH HFo;have H5:=qH h5;have H6:=qH h6;clear h1 h2 h3 h4 h5 h6 HFo HSt HB2 HF
          go_wp2_with fail
          refine HFo2.out.mono ?_;rintro e w4 ⟨rfl,g1,g2⟩;have G1:=qH g1;have G2:=qH g2;clear g1 g2 HFo2 d0 d1;go_wp2
          go_roundw
          case rel =>
            refine⟨left,A',Z',s+1,_,by go_num,?_,?_,by omega,G1,G2,H5,H6,?_⟩
            · split <;> omega
            · split <;> omega
            · exact G1.out.top
          case measure=>simp[RowKit.intOf]
end
section
open Go.RowKit Go.Shelf
def Gm.Chk (l:List K.Rule) (t:List Int) (o:List J.Hd×Int×Int):Prop :=
 ((K.rulesF l).1≠0/\o=([],K.rulesF l))∨((K.rulesF l).1=0/\K.textE t≠0/\o=([],K.textE t,0))∨((K.rulesF l).1=0/\K.textE t=0/\J.Comp l o)
theorem zmv (w:World)(v:Value)(l:List K.Rule)(R0:V.Rus w v l)(vt:Value)(t:List Int)(Rt:L.Rd w vt .i32 t)(ht:t.length<=140737488355328) :
  Calls prog 209 #[v,vt] w fun e w'=>∃(v':Value) (o:List J.Hd×Int×Int),Gm.Chk l t o/\e= .returned (.tuple #[v',.agg #[.int .i64 o.2.1,.int .i64 o.2.2]])/\J.Own w.heap.size w' v' o.1/\Below w.heap.size w w':=by
 have HA:=qH <| fun o=>(qR w).alloc qN o
 have HC:=qH <| fun o=>zbv _ _ l (R0.below (HA.out o))
 have HR:=qH R0;have HT:=qH Rt;have HN:Hid ((K.rulesF l).1≠0->Gm.Chk l t ([],K.rulesF l)):=fun h=> .inl ⟨h,rfl⟩
 have HN2:Hid ((K.rulesF l).1=0->K.textE t≠0->Gm.Chk l t ([],K.textE t,0)):=fun h h2=> .inr (.inl ⟨h,h2,rfl⟩)
 have HY:Hid ((K.rulesF l).1=0->K.textE t=0->∀o,J.Comp l o->Gm.Chk l t o):=fun h h2 o ho=> .inr (.inr ⟨h,h2,ho⟩)
 obtain⟨⟨e1,e2⟩,he⟩:∃o,K.rulesF l=o:=⟨_,rfl⟩;rw[he] at HC HN HN2 HY;simp only at HC HN HN2 HY;clear he R0 Rt
 go_enter func209,ntmps209
 go_wp2_with fail
 refine(HC.out _).mono ?_;rintro e w1 ⟨rfl,b1⟩;obtain⟨h1,B1,s1⟩:=K.zau b1;have HB1:=qH B1;have HX1:Hid (w1.heap[w.heap.size]?=some (.cells #[.int .i64 0,.int .i64 0] 38)):=h1;obtain⟨x0,x1,f0,f1⟩:=K.box2 h1;have k0:=fun o=>K.zai x0 o
 have k1:=fun o=>K.zai x1 o
 have g0:=fun o=>K.zao h1 o 0
 have g1:=fun o=>K.zao h1 o 1
 have HB2:=qH <| fun o=>HB1.out.alloc (by omega) o
 clear b1 B1 HC x0 x1 f0 f1 h1
 by_cases q:e1=0
 ·subst q;obtain⟨X,hX⟩:∃X,X=w1.alloc (.cells #[.int .i64 0,.int .i64 e2] 38):=⟨_,rfl⟩;have HXX:=qH hX;have HBX:Hid (Below w.heap.size w X):=by show Below _ _ _;rw[hX];exact HB2.out _
  have hXs:w.heap.size<X.heap.size:=by rw[hX];simp;omega
  have HXb:Hid (X.heap[w.heap.size]?=some (.cells #[.int .i64 0,.int .i64 0] 38)):=by
   show X.heap[w.heap.size]?=_;rw[hX,Below.heap_alloc w1 _ w.heap.size (by omega)];exact HX1.out
  have HTx:Hid (∀Y,Y=X->Calls prog 27 #[vt] Y fun e w'=>e= .returned (.int .i64 (K.textE t))/\Below X.heap.size X w'):=fun Y hY=>by rw[hY];exact zf0 X vt t (HT.out.below HBX.out qN) ht
  have HN2':=HN2.out rfl;have HY':=HY.out rfl;generalize K.textE t=z at HTx HN2' HY';have HN3:=qH HN2';have HY3:=qH HY';clear hX k0 k1 g0 g1 HN HN2 HY HN2' HY'
  go_wp2_with fail
  go_at_call 27
  refine(HTx.out _ HXX.out.symm).mono ?_;rintro e w2 ⟨rfl,b2⟩;have HB3:=qH b2;have hx2:=K.zae HXb.out b2;have hw2:w.heap.size<w2.heap.size:=by have:=b2.size;omega
  have HX2:=qH hx2;have HBW:=qH <| HBX.out.trans (b2.mono (by omega));obtain⟨x0,x1,f0,f1⟩:=K.box2 hx2;clear b2 hx2 HTx HXX HXb HB1 HX1 HB2
  by_cases hz:z=0
  ·subst hz;have HY4:=qH <| HY3.out rfl;have HCo:=qH <| zi2 w2 v l (HR.out.below HBW.out);clear x0 x1 f0 f1
   go_wp2_with fail
   go_at_call 229
   refine HCo.out.mono ?_;rintro e w3 ⟨v',⟨hs,o1,o2⟩,hC,rfl,own,b3⟩;have hx3:=K.zae HX2.out b3;obtain⟨x0,x1,f0,f1⟩:=K.box2 hx3;have HCh:=qH <| HY4.out _ hC;have HBW3:=qH <| HBW.out.trans (b3.mono (by omega))
   have HOw:Hid (∀x y,J.Own w.heap.size ((w3.setCell ⟨w.heap.size,0,none⟩ x).setCell ⟨w.heap.size,1,none⟩ y) v' hs):=fun x y=>by
    have h9:J.Own w2.heap.size ((w3.setCell ⟨w.heap.size,0,none⟩ x).setCell ⟨w.heap.size,1,none⟩ y) v' hs:=own.kept fun g hg=>by
     rw[heap_setCell_other _ _ g y (by simp;omega),heap_setCell_other _ _ g x (by simp;omega)]
    exact h9.base (by omega)
   clear own b3 hx3 hC HCo HBW HX2;go_wp2;refine bodyPost_ret (v:= .tuple #[v',.agg #[.int .i64 o1,.int .i64 o2]]) (by simp[results,results209,go_sem, *]) rfl ?_;exact⟨_,_,HCh.out,rfl,HOw.out _ _,(HBW3.out.setCell (p:=⟨w.heap.size,0,none⟩) qN _).setCell (p:=⟨w.heap.size,1,none⟩) qN _⟩
  ·have HN4:=qH <| HN3.out hz;go_wp2;refine bodyPost_ret (v:= .tuple #[.slice none 0 0,.agg #[.int .i64 z,.int .i64 0]]) (by simp[results,results209,go_sem, *]) rfl ?_;exact⟨_,_,HN4.out,rfl,J.Own.nil _ _,(HBW.out.setCell (p:=⟨w.heap.size,0,none⟩) qN _).setCell (p:=⟨w.heap.size,1,none⟩) qN _⟩
 ·have HN':=qH <| HN.out q;clear HN HN2 HY;go_wp2
  go_region
  go_wp2;refine bodyPost_ret (v:= .tuple #[.slice none 0 0,.agg #[.int .i64 e1,.int .i64 e2]]) (by simp[results,results209,go_sem, *]) rfl ?_
  exact⟨_,_,HN'.out,rfl,J.Own.nil _ _,(((HB2.out _).setCell (p:=⟨w.heap.size,0,none⟩) qN _).setCell (p:=⟨w.heap.size,1,none⟩) qN _).drew⟩
