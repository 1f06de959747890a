import Derived.Test.YtcadaallpiekiaaGreatDoorXStep2
set_option maxHeartbeats 0
set_option maxRecDepth 20000
set_option linter.unusedSimpArgs false
set_option linter.unusedVariables false
namespace Go.Proofs.YtcadaallpiekiaaGreatDoor
open Go.Proofs.Tryz
section
open Go.RowKit Go.Shelf
theorem Gm.Mx.box1 {b:Nat}{ms:List Nat}{mb:Nat}{wb w:World}{g:Nat}{vr vh:Value}{l:List K.Rule}{c A Z:List Int}(M:Gm.Mx b ms mb wb w g vr vh l c A Z)(o:Obj):Gm.Mx b (w.heap.size::ms) mb wb (w.alloc o) g vr vh l c A Z:=by
  have M2:=M.below ((qR w).alloc qN o);obtain⟨ao,cur,hT⟩:=M.tx;have hgs:=hT.box.lt;refine⟨M2.base,M2.bel,M2.box,List.mem_cons_of_mem _ M.mem,fun j hj=> ?_,⟨ao,cur,(hT.kept fun k hk=>((Below.refl w.heap.size w).alloc qN o).block k hk).re ⟨hT.hB.1,fun e=> ?_⟩ fun q hq=> ?_⟩,M2.rus,M2.hd⟩
  · rcases List.mem_cons.1 hj with rfl|hj
    · simp
    · have:=M.old j hj;simp;omega
  · rcases List.mem_cons.1 e with e|e
    · omega
    · exact hT.hB.2 e
  · have h1:=hT.room.lt q hq
    refine⟨h1.1.1,fun e=> ?_⟩;rcases List.mem_cons.1 e with e|e
    · omega
    · exact h1.1.2 e
theorem Gm.Mx.less {b:Nat}{ms ns:List Nat}{mb:Nat}{wb w:World}{g:Nat}{vr vh:Value}{l:List K.Rule}{c A Z:List Int}(M:Gm.Mx b ns mb wb w g vr vh l c A Z)(hm:mb∈ms)(hs:∀j∈ms,j∈ns):Gm.Mx b ms mb wb w g vr vh l c A Z:=by
  obtain⟨ao,cur,hT⟩:=M.tx;refine⟨M.base,M.bel,M.box,hm,fun j hj=>M.old j (hs j hj),⟨ao,cur,hT.re ⟨hT.hB.1,fun e=>hT.hB.2 (hs _ e)⟩ fun q hq=> ?_⟩,M.rus,M.hd⟩;have h1:=hT.room.lt q hq;exact⟨h1.1.1,fun e=>h1.1.2 (hs _ e)⟩
theorem zoh (w:World)(n:Nat)(hn:n<=4000):Calls prog 175 #[.int .i64 (n:Int)] w fun e w'=>e=.returned (.int .i64 (8*(n:Int)+40))/\w'=w:=by
  have e1:IntKind.i64.wrap (8*(n:Int))=8*(n:Int):=by rw[IntKind.wrap_i64];omega
  have e2:IntKind.i64.wrap (8*(n:Int)+40)=8*(n:Int)+40:=by rw[IntKind.wrap_i64];omega
  go_enter func175,ntmps175
  go_wp2;go_ret
  exact⟨by simp[e1,e2],rfl⟩
theorem Gm.zka {l:List Int}(h:K.allR l=true):∀x∈l,0<=x/\x<=1114111:=fun x hx=>by
  have:=List.all_eq_true.1 h x hx;unfold M.right at this;simp at this;omega
theorem Gm.zda {a b:List Int}:K.allR (a++b)=true↔K.allR a=true/\K.allR b=true:=by simp[K.allR]
theorem Gm.zc9 {a b:List Int}(h:K.allR a=true)(hs:∀x∈b,x∈a):K.allR b=true:=List.all_eq_true.2 fun x hx=>List.all_eq_true.1 h x (hs x hx)
theorem zoe (b:Nat)(ms:List Nat)(mb:Nat)(wb w:World)(g:Nat)(vr vh:Value)(l:List K.Rule)(c:List Int)(A Z:List Int)(M:Gm.Mx b ms mb wb w g vr vh l c A Z)(O:Gm.Ok l c)(hz:0<Z.length)(hR:K.allR (A++Z)=true) :
    Calls prog 179 #[.pointer (some ⟨mb,0,none⟩),.int .i64 (K.which l (A++Z) A.length)] w fun e w'=>∃x:Int,e=.returned (.int .i64 x) /\
      ((x=4/\Below b w w'/\∀left s p,K.play l (left+1) A Z s p=(4,[],0,0)) ∨
       (x=0/\∃A' Z',Gm.Mx b ms mb wb w' g vr vh l c A' Z'/\Gm.Fr ⟨b,ms⟩ w w'/\K.allR (A'++Z')=true/\∀left s p,K.play l (left+1) A Z s p=K.play l left A' Z' (s+1) (p+if K.which l (A++Z) A.length= -1 then 0 else 1))):=by
  have hzn:¬Z.length=0:=by omega
  rcases K.ze1 (l:=l) (t:=A++Z) (k:=(A.length:Int)) with hw|⟨j,r,hj,hm,hw⟩
  · have h:=zrd b ms mb wb w g vr vh l c A Z M hz
    rw[hw];refine h.mono ?_;rintro e w' ⟨rfl,h1,h2⟩;refine⟨0,rfl,.inr ⟨rfl,_,_,h1,h2,?_,fun left s p=> ?_⟩⟩
    · rw[List.append_assoc,List.take_append_drop];exact hR
    · rw[K.zkn hzn hw,if_pos rfl,Int.add_zero]
  · have h:=zod b ms mb wb w g vr vh l c A Z M j r hj (O.right r (List.mem_of_getElem? hj)) hm
    rw[hw];refine h.mono ?_;rintro e w' ⟨x,rfl,⟨h1,rfl,h2⟩|⟨h1,rfl,h2,h3⟩⟩
    · exact⟨4,rfl,.inl ⟨rfl,h2,fun left s p=>K.zis hzn hw hj h1⟩⟩
    · refine⟨0,rfl,.inr ⟨rfl,_,_,h2,h3,?_,fun left s p=> ?_⟩⟩
      · rw[List.append_assoc,List.take_append_drop]
        obtain⟨g1,g2⟩:=Gm.zda.1 hR;refine Gm.zda.2 ⟨g1,Gm.zda.2 ⟨(K.zas (O.right r (List.mem_of_getElem? hj))).2.2.2.2.2.1,Gm.zc9 g2 fun x hx=>List.mem_of_mem_drop hx⟩⟩
      · rw[K.zhr hzn hw hj h1,if_neg (by omega)]
theorem Gm.Mx.len {b:Nat}{ms:List Nat}{mb:Nat}{wb w:World}{g:Nat}{vr vh:Value}{l:List K.Rule}{c A Z:List Int}(M:Gm.Mx b ms mb wb w g vr vh l c A Z)(q:Nat):Calls prog 176 #[.pointer (some ⟨g,0,none⟩)] (w.drewN q) fun e w'=>e=.returned (.int .i64 (A.length+Z.length:Nat))/\∃q',w'=(w.drewN q).drewN q':=by
  obtain⟨ao,cur,hT⟩:=M.tx;have hf:=hT.fit;refine(zcq (w.drewN q) g ao cur.length A.length (cur.length-Z.length) hT.box hT.most (by omega) (by omega)).mono ?_;rintro e w' ⟨rfl,h⟩;exact⟨by rw[show cur.length-(cur.length-Z.length)=Z.length by omega],h⟩
theorem Gm.Mx.cur {b:Nat}{ms:List Nat}{mb:Nat}{wb w:World}{g:Nat}{vr vh:Value}{l:List K.Rule}{c A Z:List Int}(M:Gm.Mx b ms mb wb w g vr vh l c A Z)(q:Nat):Calls prog 177 #[.pointer (some ⟨g,0,none⟩)] (w.drewN q) fun e w'=>e=.returned (.int .i64 A.length)/\w'=w.drewN q:=by
  obtain⟨ao,cur,hT⟩:=M.tx;exact zc8 (w.drewN q) g A.length _ _ hT.box
theorem Gm.Mx.drewN {b:Nat}{ms:List Nat}{mb:Nat}{wb w:World}{g:Nat}{vr vh:Value}{l:List K.Rule}{c A Z:List Int}(M:Gm.Mx b ms mb wb w g vr vh l c A Z)(q:Nat):Gm.Mx b ms mb wb (w.drewN q) g vr vh l c A Z:=M.below (below_drewN (qR w) q)
theorem Gm.Mx.top {b:Nat}{ms:List Nat}{mb:Nat}{wb w:World}{g:Nat}{vr vh:Value}{l:List K.Rule}{c A Z:List Int}(M:Gm.Mx b ms mb wb w g vr vh l c A Z):b<=w.heap.size:=by
  obtain⟨ao,cur,h⟩:=M.tx;have h1:b<=g:=h.hB.1;have h2:=h.box.lt;omega
theorem zof (b mb:Nat)(wb w:World)(g:Nat)(vr vh:Value)(l:List K.Rule)(c t:List Int)(M:Gm.Mx b [mb] mb wb w g vr vh l c [] t)(O:Gm.Ok l c)(hR:K.allR t=true)
    (T:World->Int->Int->Prop) (hT0:T w 0 0) (hTb:∀W W' s p,T W s p->Below b W W'->T W' s p)
    (ft:Nat) (ct:Array Value) (eg:∀args w,(callFunc ft args).run prog w=.ok (.enter ft args) w)
    (hf:∀W A Z (s p at_ k:Int),Gm.Mx b [mb] mb wb W g vr vh l c A Z->T W s p->0<=p->p<=s->s<8*t.length+40->(k= -1∨0<=k)->Calls prog ft (#[.agg #[.int .i64 at_,.int .i64 k]]++ct) W fun e w'=>e=.returned (.tuple #[])/\Gm.Mx b [mb] mb wb w' g vr vh l c A Z/\T w' (s+1) (p+if k= -1 then 0 else 1))
    (o1:Int) (o2:List Int) (o3 o4:Int) (hO:K.play l (8*t.length+40) [] t 0 0=(o1,o2,o3,o4)) :
    Calls prog 158 #[.pointer (some ⟨mb,0,none⟩),.func (.func ft) #[] ct] w fun e w'=>e=.returned (.int .i64 o1)/\Bl wb w'/\(∃s p,T w' s p)/\(o1=0->Gm.Mx b [mb] mb wb w' g vr vh l c o2 []/\T w' o3 o4):=by
  have ht:t.length<=4000:=by
    obtain⟨_,_,h⟩:=M.tx;simpa using h.few
  have HM:=qH M;have hbw:=M.top;have HOk:=qH O;have HR:Hid (K.allR ([]++t)=true):=hR;have HT:=qH hT0;have HTb:=qH hTb;have HF:=qH hf;have HO:=qH hO;have k0:w.cell? ⟨mb,0,none⟩=some (.pointer (some ⟨g,0,none⟩)):=K.zad (i:=0) M.box rfl;have HL:=M.len 0
  have HL0:Hid (Calls prog 176 #[.pointer (some ⟨g,0,none⟩)] w fun e w'=>e=.returned (.int .i64 t.length)/\∃q',w'=w.drewN q'):=by
    simp only[List.length_nil,Nat.zero_add] at HL;exact HL
  clear M O hR hT0 hTb hf hO HL
  go_enter func158,ntmps158
  go_wp2_with fail
  go_at_call 176
  refine HL0.out.mono ?_;rintro e w1 ⟨rfl,q,rfl⟩;have HM1:=qH<|HM.out.drewN q;have HT1:=qH<|HTb.out _ _ _ _ HT.out (below_drewN (qR w) q);have hbw1:b<=(w.drewN q).heap.size:=hbw;generalize w.drewN q=w0 at *;clear HM HT HL0 k0 hbw
  go_wp2_with (go_at_call 175;refine(zoh _ t.length ht).mono ?_;rintro e wq ⟨rfl,rfl⟩)
  go_loopw [5] (fun i5 wr=>∃(left:Nat) (A Z:List Int) (s p:Int),i5=.int .i64 left/\0<=p/\p<=s/\s+left=8*t.length+40/\Hid (Gm.Mx b [mb] mb wb wr g vr vh l c A Z)/\Hid (T wr s p)/\Hid (K.allR (A++Z)=true)/\Hid (K.play l left A Z s p=(o1,o2,o3,o4))/\b<=wr.heap.size) (fun i5 _=>(RowKit.intOf i5).toNat)
  case atStart=>exact⟨8*t.length+40,[],t,0,0,by go_num,by omega,by omega,by omega,HM1,HT1,HR,HO,hbw1⟩
  case round =>
    obtain⟨left,A,Z,s,p,rfl,hp0,hps,hsl,HMr,HTr,HRr,HPr,hbr⟩:=hrel;have k0:wr.cell? ⟨mb,0,none⟩=some (.pointer (some ⟨g,0,none⟩)):=K.zad (i:=0) HMr.out.box rfl
    have hlen:A.length+Z.length<=4000:=by
      obtain⟨_,_,h⟩:=HMr.out.tx;exact h.few
    by_cases hz:Z.length=0
    · have hp:=HPr.out
      rw[K.zdz hz] at hp;simp only[Prod.mk.injEq] at hp;obtain⟨rfl,rfl,rfl,rfl⟩:=hp;have hzn:=List.eq_nil_of_length_eq_zero hz;subst hzn;have HQ:Hid (∀q,Calls prog 176 #[.pointer (some ⟨g,0,none⟩)] (wr.drewN q) fun e w'=>e=.returned (.int .i64 A.length)/\∃q',w'=(wr.drewN q).drewN q'):=fun q=>HMr.out.len q
      have HC:=qH<|fun q=>HMr.out.cur q
      clear HPr HRr HF HO HR HM1 HT1
      go_wp2_with fail
      go_quiet (first|(go_at_call 176;exact Calls.quiet_of (HQ.out _))|(go_at_call 177;exact Calls.quiet_of_same (HC.out _)))
      go_wp2;go_ret
      exact⟨rfl,(HMr.out.drewN nq).bel,⟨_,_,HTb.out _ _ _ _ HTr.out (below_drewN (qR wr) nq)⟩,HMr.out.drewN nq,HTb.out _ _ _ _ HTr.out (below_drewN (qR wr) nq)⟩
    · obtain⟨N,hN⟩:=qE (A.length+Z.length)
      have HQ:Hid (∀q,Calls prog 176 #[.pointer (some ⟨g,0,none⟩)] (wr.drewN q) fun e w'=>e=.returned (.int .i64 N)/\∃q',w'=(wr.drewN q).drewN q'):=fun q=>by rw[hN];exact HMr.out.len q
      have HC:=qH<|fun q=>HMr.out.cur q
      have hlt:(A.length:Int)<N:=by omega
      clear HO HR HM1 HT1
      go_wp2_with fail
      go_quiet (first|(go_at_call 176;exact Calls.quiet_of (HQ.out _))|(go_at_call 177;exact Calls.quiet_of_same (HC.out _)))
      have HMq:=qH<|HMr.out.drewN nq;have HTq:=qH<|HTb.out _ _ _ _ HTr.out (below_drewN (qR wr) nq);have hbq:b<=(wr.drewN nq).heap.size:=hbr;clear HQ HC k0 HMr HTr hbr;generalize wr.drewN nq=W at *;have k0:W.cell? ⟨mb,0,none⟩=some (.pointer (some ⟨g,0,none⟩)):=K.zad (i:=0) HMq.out.box rfl;cases left with
      | zero =>
        have hp:=HPr.out;rw[K.zlv hz] at hp;simp only[Prod.mk.injEq] at hp;obtain⟨rfl,rfl,rfl,rfl⟩:=hp;go_wp2;go_ret;exact⟨rfl,HMq.out.bel,⟨s,p,HTq.out⟩,fun h=>absurd h (by decide)⟩
      | succ left =>
        have hne:¬((left+1:Nat):Int)=0:=by omega
        have HCu:Hid (Calls prog 177 #[.pointer (some ⟨g,0,none⟩)] W fun e w'=>e=.returned (.int .i64 A.length)/\w'=W):=HMq.out.cur 0;have HFi:=qH<|zmi b [mb] mb wb W g vr vh l c A Z HMq.out HOk.out (by omega) (Gm.zka HRr.out)
        have HSt:Hid (∀W2 o,Bl W W2->Calls prog 179 #[.pointer (some ⟨mb,0,none⟩),.int .i64 (K.which l (A++Z) A.length)] (W2.alloc o) fun e w'=>∃x:Int,e=.returned (.int .i64 x) /\
      ((x=4/\Bl wb w'/\T w' s p/\o1=4) ∨
       (x=0/\w'.heap[W2.heap.size]?=some o/\b<=w'.heap.size/\∃A' Z',Gm.Mx b [mb] mb wb w' g vr vh l c A' Z'/\T w' s p/\K.allR (A'++Z')=true/\K.play l left A' Z' (s+1) (p+if K.which l (A++Z) A.length= -1 then 0 else 1)=(o1,o2,o3,o4)))):=fun W2 o hW2=>by
          have hM2:=(HMq.out.below hW2).box1 o;have hb2:=hW2.alloc (hW2.size) o;have hs2:=hb2.size;refine(zoe b _ mb wb _ g vr vh l c A Z hM2 HOk.out (by omega) HRr.out).mono ?_;rintro e w' ⟨x,rfl,⟨rfl,h1,h2⟩|⟨rfl,A',Z',h1,h2,h3,h4⟩⟩
          · have hp:=HPr.out
            rw[h2] at hp;simp only[Prod.mk.injEq] at hp;exact⟨4,rfl,.inl ⟨rfl,hM2.bel.trans (h1.mono hM2.base),HTb.out _ _ _ _ HTq.out ((hb2.mono hbq).trans h1),hp.1.symm⟩⟩
          · refine⟨0,rfl,.inr ⟨rfl,?_,by have:=h2.size;omega,A',Z',h1.less (by simp) (by simp),HTb.out _ _ _ _ HTq.out ((hb2.mono hbq).trans h2.1),h3,?_⟩⟩
            · rw[h2.2 _ (by simp) (by simp)];exact heap_alloc_new W2 o
            · rw[<- h4];exact HPr.out
        have hkk:K.which l (A++Z) A.length= -1∨0<=K.which l (A++Z) A.length:=by
          rcases K.ze1 (l:=l) (t:=A++Z) (k:=(A.length:Int)) with h|⟨j,r,_,_,h⟩
          · exact .inl h
          · exact .inr (by rw[h];omega)
        generalize K.which l (A++Z) A.length=kk at *;clear HMq HRr HTq HPr
        go_wp2_with fail
        go_at_call 177
        refine HCu.out.mono ?_;rintro e w1 ⟨rfl,rfl⟩
        go_wp2_with fail
        go_at_call 178
        refine HFi.out.mono ?_;rintro e w2 ⟨rfl,hw2⟩;have HB2:=qH hw2;clear hw2 k0 HCu HFi
        go_wp2_with fail
        refine(HSt.out w2 _ HB2.out).mono ?_;rintro e w3 ⟨x,rfl,⟨rfl,h1,h1t,rfl⟩|⟨rfl,h1,h2,A',Z',h3,h4,h5,h6⟩⟩
        · have H1:Hid (Bl wb w3/\T w3 s p):=⟨h1,h1t⟩
          clear h1 h1t HSt HB2 HF;go_wp2;go_ret;exact⟨rfl,H1.out.1,⟨s,p,H1.out.2⟩,fun h=>absurd h (by decide)⟩
        · have d0:w3.cell? ⟨w2.heap.size,0,none⟩=some (.int .i64 A.length):=K.zad (i:=0) h1 rfl
          have d1:w3.cell? ⟨w2.heap.size,1,none⟩=some (.int .i64 kk):=K.zad (i:=1) h1 rfl;have HFo:=HF.out w3 A' Z' s p A.length kk h3 h4 hp0 hps (by omega) hkk;have HFo2:=qH HFo;have H5:=qH h5;have H6:=qH h6;clear h1 h2 h3 h4 h5 h6 HFo HSt HB2 HF
          go_wp2_with fail
          refine HFo2.out.mono ?_;rintro e w4 ⟨rfl,g1,g2⟩;have G1:=qH g1;have G2:=qH g2;clear g1 g2 HFo2 d0 d1;go_wp2
          go_roundw
          case rel =>
            refine⟨left,A',Z',s+1,_,by go_num,?_,?_,by omega,G1,G2,H5,H6,?_⟩
            · split <;> omega
            · split <;> omega
            · exact G1.out.top
          case measure=>simp[RowKit.intOf]
def Gm.Chk (l:List K.Rule) (t:List Int) (o:List J.Hd×Int×Int):Prop :=
 ((K.rulesF l).1≠0/\o=([],K.rulesF l))∨((K.rulesF l).1=0/\K.textE t≠0/\o=([],K.textE t,0))∨((K.rulesF l).1=0/\K.textE t=0/\J.Comp l o)
theorem zmk (w:World)(v:Value)(l:List K.Rule)(R0:V.Rus w v l)(vt:Value)(t:List Int)(Rt:L.Rd w vt .i32 t)(ht:t.length<=140737488355328) :
  Calls prog 173 #[v,vt] w fun e w'=>∃(v':Value) (o:List J.Hd×Int×Int),Gm.Chk l t o/\e=.returned (.tuple #[v',.agg #[.int .i64 o.2.1,.int .i64 o.2.2]])/\J.Own w.heap.size w' v' o.1/\Bl w w':=by
 have HA:=qH<|fun o=>(qR w).alloc qN o
 have HC:=qH<|fun o=>zek _ _ l (R0.below (HA.out o))
 have HR:=qH R0;have HT:=qH Rt;have HN:Hid ((K.rulesF l).1≠0->Gm.Chk l t ([],K.rulesF l)):=fun h=> .inl ⟨h,rfl⟩
 have HN2:Hid ((K.rulesF l).1=0->K.textE t≠0->Gm.Chk l t ([],K.textE t,0)):=fun h h2=> .inr (.inl ⟨h,h2,rfl⟩)
 have HY:Hid ((K.rulesF l).1=0->K.textE t=0->∀o,J.Comp l o->Gm.Chk l t o):=fun h h2 o ho=> .inr (.inr ⟨h,h2,ho⟩)
 obtain⟨⟨e1,e2⟩,he⟩:∃o,K.rulesF l=o:=⟨_,rfl⟩;rw[he] at HC HN HN2 HY;simp only at HC HN HN2 HY;clear he R0 Rt
 go_enter func173,ntmps173
 go_wp2_with fail
 refine(HC.out _).mono ?_;rintro e w1 ⟨rfl,b1⟩;obtain⟨h1,B1,s1⟩:=K.zau b1;have HB1:=qH B1;have HX1:Hid (w1.heap[w.heap.size]?=some (.cells #[.int .i64 0,.int .i64 0] 36)):=h1;obtain⟨x0,x1,f0,f1⟩:=K.box2 h1;have k0:=fun o=>K.zai x0 o
 have k1:=fun o=>K.zai x1 o
 have g0:=fun o=>K.zal h1 o 0
 have g1:=fun o=>K.zal h1 o 1
 have HB2:=qH<|fun o=>HB1.out.alloc (by omega) o
 clear b1 B1 HC x0 x1 f0 f1 h1
 by_cases q:e1=0
 ·subst q;obtain⟨X,hX⟩:=qE (w1.alloc (.cells #[.int .i64 0,.int .i64 e2] 36));have HXX:=qH hX;have HBX:Hid (Bl w X):=by show Below _ _ _;rw[hX];exact HB2.out _
  have hXs:w.heap.size<X.heap.size:=by rw[hX];simp;omega
  have HXb:Hid (X.heap[w.heap.size]?=some (.cells #[.int .i64 0,.int .i64 0] 36)):=by
   show X.heap[w.heap.size]?=_;rw[hX,Below.heap_alloc w1 _ w.heap.size (by omega)];exact HX1.out
  have HTx:Hid (∀Y,Y=X->Calls prog 45 #[vt] Y fun e w'=>e=.returned (.int .i64 (K.textE t))/\Bl X w'):=fun Y hY=>by rw[hY];exact zi1 X vt t (HT.out.below HBX.out qN) ht
  have HN2':=HN2.out rfl;have HY':=HY.out rfl;generalize K.textE t=z at HTx HN2' HY';have HN3:=qH HN2';have HY3:=qH HY';clear hX k0 k1 g0 g1 HN HN2 HY HN2' HY'
  go_wp2_with fail
  go_at_call 45
  refine(HTx.out _ HXX.out.symm).mono ?_;rintro e w2 ⟨rfl,b2⟩;have HB3:=qH b2;have hx2:=K.zae HXb.out b2;have hw2:w.heap.size<w2.heap.size:=by have:=b2.size;omega
  have HX2:=qH hx2;have HBW:=qH<|HBX.out.trans (b2.mono (by omega));obtain⟨x0,x1,f0,f1⟩:=K.box2 hx2;clear b2 hx2 HTx HXX HXb HB1 HX1 HB2
  by_cases hz:z=0
  ·subst hz;have HY4:=qH<|HY3.out rfl;have HCo:=qH<|zi7 w2 v l (HR.out.below HBW.out);clear x0 x1 f0 f1
   go_wp2_with fail
   go_at_call 195
   refine HCo.out.mono ?_;rintro e w3 ⟨v',⟨hs,o1,o2⟩,hC,rfl,own,b3⟩;have hx3:=K.zae HX2.out b3;obtain⟨x0,x1,f0,f1⟩:=K.box2 hx3;have HCh:=qH<|HY4.out _ hC;have HBW3:=qH<|HBW.out.trans (b3.mono (by omega))
   have HOw:Hid (∀x y,J.Own w.heap.size ((w3.setCell ⟨w.heap.size,0,none⟩ x).setCell ⟨w.heap.size,1,none⟩ y) v' hs):=fun x y=>by
    have h9:J.Own w2.heap.size ((w3.setCell ⟨w.heap.size,0,none⟩ x).setCell ⟨w.heap.size,1,none⟩ y) v' hs:=own.kept fun g hg=>by
     rw[heap_setCell_other _ _ g y (by simp;omega),heap_setCell_other _ _ g x (by simp;omega)]
    exact h9.base (by omega)
   clear own b3 hx3 hC HCo HBW HX2;go_wp2;refine bodyPost_ret (v:=.tuple #[v',.agg #[.int .i64 o1,.int .i64 o2]]) (by simp[results,results173,go_sem, *]) rfl ?_;exact⟨_,_,HCh.out,rfl,HOw.out _ _,(HBW3.out.setCell (p:=⟨w.heap.size,0,none⟩) qN _).setCell (p:=⟨w.heap.size,1,none⟩) qN _⟩
  ·have HN4:=qH<|HN3.out hz;go_wp2;refine bodyPost_ret (v:=.tuple #[.slice none 0 0,.agg #[.int .i64 z,.int .i64 0]]) (by simp[results,results173,go_sem, *]) rfl ?_;exact⟨_,_,HN4.out,rfl,J.Own.nil _ _,(HBW.out.setCell (p:=⟨w.heap.size,0,none⟩) qN _).setCell (p:=⟨w.heap.size,1,none⟩) qN _⟩
 ·have HN':=qH<|HN.out q;clear HN HN2 HY;go_wp2
  go_region
  go_wp2;refine bodyPost_ret (v:=.tuple #[.slice none 0 0,.agg #[.int .i64 e1,.int .i64 e2]]) (by simp[results,results173,go_sem, *]) rfl ?_
  exact⟨_,_,HN'.out,rfl,J.Own.nil _ _,(((HB2.out _).setCell (p:=⟨w.heap.size,0,none⟩) qN _).setCell (p:=⟨w.heap.size,1,none⟩) qN _).drew⟩
end
section
open Go.RowKit
theorem zre (w:World)(B:Gm.Bs)(g:Nat)(ao:Option Addr)(cur A Z:List Int)(h:Gm.Tx B g ao cur A Z w)(k:Nat)(hk:k<=A.length+Z.length) :
  Calls prog 197 #[.pointer (some ⟨g,0,none⟩),.int .i64 k] w fun e w'=>e=.returned (.int .i64 0)/\Gm.Told B g w ((A++Z).take k) ((A++Z).drop k) w':=by
 have hf:=h.fit
 by_cases h1:k<A.length
 ·obtain⟨r,rfl⟩:=h.room.some (by omega);rw[List.take_append_of_le_length (by omega),List.drop_append_of_le_length (by omega)];exact ziz w B g r cur A Z h k h1
 ·by_cases h2:k=A.length
  ·subst h2;rw[List.take_left,List.drop_left];exact ziy w B g ao cur A Z h
  ·obtain⟨m,rfl⟩:∃m,k=A.length+m:=⟨k-A.length,by omega⟩;obtain⟨r,rfl⟩:=h.room.some (by omega);rw[List.take_length_add_append,List.drop_length_add_append];exact zgy w B g r cur A Z h _ m rfl (by omega) (by omega)
namespace Gm
theorem Told.from {B:Gm.Bs}{g:Nat}{w w1:World}{A Z:List Int}{w':World}(h:Told B g w1 A Z w')(hb:Gm.Fr B w w1):Told B g w A Z w':=⟨h.1,hb.trans h.2⟩
theorem Tx.new (w:World):Tx ⟨w.heap.size,[]⟩ w.heap.size none [] [] [] (w.alloc (.cells #[.slice none 0 0,.int .i64 0,.int .i64 0] 211)) :=
 ⟨⟨qN,by simp⟩,Go.heap_alloc_new w _,.inl ⟨rfl,rfl⟩,(fun r h=>by cases h),Nat.le_refl 0,Nat.zero_le _,Nat.zero_le _,rfl,rfl⟩
end Gm
theorem zto (w:World)(v:Value)(R:List Int)(hv:L.Rd w v .i32 R)(h4:R.length<=4000) :
  Calls prog 174 #[v] w fun e w'=>e=.returned (.tuple #[.pointer (some ⟨w.heap.size,0,none⟩),.int .i64 0])/\Gm.Told ⟨w.heap.size,[]⟩ w.heap.size w [] R w':=by
 have HV:=qH hv;obtain⟨sp,c,rfl,_⟩:=hv;obtain⟨w1,hw1⟩:=qE (w.alloc (.cells #[.slice none 0 0,.int .i64 0,.int .i64 0] 211));have HX:Hid (Gm.Tx ⟨w.heap.size,[]⟩ w.heap.size none [] [] [] w1):=by rw[hw1];exact Gm.Tx.new w
 have HB:Hid (Bl w w1):=by rw[hw1];exact(qR w).alloc qN _
 have HW:=qH hw1;clear hw1
 go_enter func174,ntmps174
 go_wp2_with fail
 rw[<- HW.out];refine(ztg _ _ _ none [] [] [] HX.out _ R (fun w' hb=>HV.out.below (HB.out.trans hb.1) qN) (by simpa using h4) (by simp)).mono ?_;rintro e w2 ⟨rfl,⟨ao2,cur2,hx2⟩,hb2⟩;have HX2:=qH hx2;have HB2:Hid (Gm.Fr ⟨w.heap.size,[]⟩ w w2):=⟨HB.out.trans hb2.1,fun j hj=>absurd hj (by simp)⟩;clear hx2 hb2 HW
 go_wp2_with fail
 refine(zre _ _ _ ao2 cur2 ([]++R) [] HX2.out 0 (Nat.zero_le _)).mono ?_;rintro e w3 ⟨rfl,ht⟩
 have HE:Hid (Gm.Told ⟨w.heap.size,[]⟩ w.heap.size w [] R w3):=by
  have:=ht.from HB2.out
  show Gm.Told _ _ _ _ _ _;simpa using this
 clear ht;go_wp2
 go_ret2
 exact⟨rfl,HE.out⟩
end
section
open Go.RowKit Go.Shelf
theorem J.held {F:Nat}{e:TypeId}{k:Nat}{w w':World}{v:Value}{n:Nat}{xs:List Value}(h:w.ownsRow F e k v n xs)(hb:∀g,F<=g->g<w.heap.size->w'.heap[g]?=w.heap[g]?):w'.ownsRow F e k v n xs:=by
 obtain⟨h1,h2⟩:=h;refine⟨h1,?_⟩;rcases h2 with h2|⟨g,cap,cur,hv,hg,hx,r⟩
 ·exact .inl h2
 ·exact .inr ⟨g,cap,cur,hv,hg,by rw[hb g hg (lt_of_block hx)];exact hx,r⟩
theorem J.Own.held {F:Nat}{w w':World}{v:Value}{hs:List J.Hd}(h:J.Own F w v hs)(hb:∀g,F<=g->g<w.heap.size->w'.heap[g]?=w.heap[g]?):J.Own F w' v hs:=by
 obtain⟨ps,h1,h2,h3⟩:=h;exact⟨ps,h1,J.held h2 hb,fun p hp=>J.held (h3 p hp) hb⟩
theorem Gm.Chk.ok {l:List K.Rule}{t:List Int}{hs:List J.Hd}{e2:Int}(h:Gm.Chk l t (hs,0,e2)):t.length<=4000/\K.allR t=true/\e2=0/\∃c,Gm.Ok l c/\hs=J.heads (J.begins l) c (c.length-1):=by
 rcases h with ⟨h,h2⟩|⟨h,h2,h3⟩|⟨h,h2,h3⟩
 ·simp only[Prod.mk.injEq] at h2;exact absurd (by rw[<- h2.2]) h
 ·simp only[Prod.mk.injEq] at h3;exact absurd h3.2.1.symm h2
 ·have h4:=K.zgf h2
  have h5:K.allR t=true:=by
   unfold K.textE at h2;rw[if_neg (by omega)] at h2
   by_cases h:K.allR t=true
   ·exact h
   ·rw[if_neg h] at h2;cases h2
  rcases h3 with ⟨g,_⟩|⟨_,c,hc,_,⟨_,g⟩|⟨h9,g⟩⟩
  ·exact absurd h g
  ·simp at g
  ·simp only[Prod.mk.injEq] at g;exact⟨h4,h5,g.2.2,c,⟨(K.zba h).1,(K.zba h).2.1,hc,h9⟩,g.1⟩
def Gm.Rdy (wb w w':World) (v:Value) (l:List K.Rule) (t:List Int) (mb:Nat):Prop :=
 ∃b g vh c,w.heap.size<=b/\b<=mb/\Gm.Mx b [mb] mb wb w' g v vh l c [] t/\Gm.Ok l c/\K.allR t=true/\∀W',(∀j,w.heap.size<=j->j<b->W'.heap[j]?=w'.heap[j]?)->J.Rd W' vh (J.heads (J.begins l) c (c.length-1))
theorem Gm.zr0 {wb w X w2:World}{va:Value}{l:List K.Rule}{t c:List Int}{vh:Value}(hwb:Bl wb w)(R0:V.Rus wb va l)(hBX:Bl w X)(hXs:w.heap.size<X.heap.size)(hO:J.Own (w.heap.size+1) X vh (J.heads (J.begins l) c (c.length-1)))(hok:Gm.Ok l c)(hall:K.allR t=true)(hTo:Gm.Told ⟨X.heap.size,[]⟩ X.heap.size X [] t w2)(x y:Value) :
  Gm.Rdy wb w (((w2.alloc (.cells #[.pointer (some ⟨X.heap.size,0,none⟩),va,vh] 194)).setCell ⟨w.heap.size,0,none⟩ x).setCell ⟨w.heap.size,1,none⟩ y) va l t w2.heap.size/\Bl w (((w2.alloc (.cells #[.pointer (some ⟨X.heap.size,0,none⟩),va,vh] 194)).setCell ⟨w.heap.size,0,none⟩ x).setCell ⟨w.heap.size,1,none⟩ y):=by
 obtain⟨⟨ao,cur,hT⟩,hF⟩:=hTo;have hb2:Bl X w2:=hF.1;have hs2:=hb2.size;have hsw:=hwb.size;obtain⟨M,hM⟩:=qE (w2.alloc (.cells #[.pointer (some ⟨X.heap.size,0,none⟩),va,vh] 194));have hM0:M.heap[w2.heap.size]?=some (.cells #[.pointer (some ⟨X.heap.size,0,none⟩),va,vh] 194):=by rw[hM];exact heap_alloc_new w2 _
 have hMb:Bl w M:=by rw[hM];exact(hBX.trans (hb2.mono (by omega))).alloc (by omega) _
 have hM1:∀j,j<w2.heap.size->M.heap[j]?=w2.heap[j]?:=fun j hj=>by rw[hM];exact Below.heap_alloc w2 _ j hj
 rw[<- hM];have hWb:Bl w ((M.setCell ⟨w.heap.size,0,none⟩ x).setCell ⟨w.heap.size,1,none⟩ y):=(hMb.setCell (p:=⟨w.heap.size,0,none⟩) qN _).setCell (p:=⟨w.heap.size,1,none⟩) qN _
 have hW1:∀j,j≠w.heap.size->((M.setCell ⟨w.heap.size,0,none⟩ x).setCell ⟨w.heap.size,1,none⟩ y).heap[j]?=M.heap[j]?:=fun j hj=>by
  rw[heap_setCell_other _ _ j y (by simpa using hj),heap_setCell_other _ _ j x (by simpa using hj)]
 generalize (M.setCell ⟨w.heap.size,0,none⟩ x).setCell ⟨w.heap.size,1,none⟩ y=W at *;have hbox:=(hW1 _ (by omega)).trans hM0;have hhd:∀W',(∀j,w.heap.size<=j->j<X.heap.size->W'.heap[j]?=W.heap[j]?)->J.Rd W' vh (J.heads (J.begins l) c (c.length-1)):=fun W' h=>(hO.held fun g h1 h2=>by rw[h g (by omega) h2,hW1 g (by omega),hM1 g (by omega)];exact hb2.block g h2).rd
 have hgl:=hT.box.lt
 have h2:=hT.re (B':=⟨X.heap.size,[w2.heap.size]⟩) ⟨qN,by simp;omega⟩ fun q hq=>by
  have h1:=hT.room.lt q hq;exact⟨h1.1.1,by simp;have:=h1.2;omega⟩
 refine⟨⟨X.heap.size,X.heap.size,vh,c,by omega,hs2,⟨by omega,hwb.trans (hWb.mono hsw),hbox,by simp,fun j hj=> ?_,⟨ao,cur,h2.hB,h2.box.block ?_,h2.room.block fun r hr=> ?_,h2.ne,h2.fit,h2.most,h2.few,h2.ahead,h2.behind⟩,R0,fun W' hW'=>hhd W' fun j h3 h4=>hW'.block j h4⟩,hok,hall,hhd⟩,hWb⟩
 ·simp at hj;subst hj;exact lt_of_block hbox
 ·rw[hW1 _ (by omega),hM1 _ hgl]
 ·have h1:=hT.room.lt r hr;have h3:X.heap.size<=r:=h1.1.1;rw[hW1 _ (by omega),hM1 _ h1.2]
theorem zmg (wb w:World)(v:Value)(l:List K.Rule)(hwb:Bl wb w)(R0:V.Rus wb v l)(vt:Value)(t:List Int)(Rt:L.Rd w vt .i32 t)(ht:t.length<=140737488355328) :
  Calls prog 157 #[v,vt] w fun e w'=>∃o,Gm.Chk l t o/\Bl w w'/\((o.2.1≠0/\e=.returned (.tuple #[.pointer none,.agg #[.int .i64 o.2.1,.int .i64 o.2.2]]))∨(o.2.1=0/\∃mb,e=.returned (.tuple #[.pointer (some ⟨mb,0,none⟩),.agg #[.int .i64 0,.int .i64 0]])/\Gm.Rdy wb w w' v l t mb)):=by
 have HA:=qH<|fun o=>(qR w).alloc qN o
 have HC:=qH<|fun o=>zmk _ v l ((R0.below hwb).below (HA.out o)) vt t (Rt.below (HA.out o) qN) ht
 have HR:Hid (V.Rus wb v l/\Bl wb w):=⟨R0,hwb⟩;have HT:=qH Rt;obtain⟨va,vc,rfl⟩:=R0.len;clear R0 Rt hwb
 go_enter func157,ntmps157
 go_wp2_with fail
 refine(HC.out _).mono ?_;rintro e w1 ⟨v',⟨hs,e1,e2⟩,hch,rfl,own,b1⟩;obtain⟨h1,B1,s1⟩:=K.zau b1;have HB1:=qH B1;have HX1:Hid (w1.heap[w.heap.size]?=some (.cells #[.int .i64 0,.int .i64 0] 36)):=h1;have HCh:=qH hch;have hOw:J.Own (w.heap.size+1) w1 v' hs:=by simpa using own
 have HOw:=qH hOw;obtain⟨x0,x1,f0,f1⟩:=K.box2 h1;have k0:=fun o=>K.zai x0 o
 have k1:=fun o=>K.zai x1 o
 have g0:=fun o=>K.zal h1 o 0
 have g1:=fun o=>K.zal h1 o 1
 have HB2:=qH<|fun o=>HB1.out.alloc (by omega) o
 clear b1 B1 HC x0 x1 f0 f1 h1 hch own hOw
 by_cases q:e1=0
 ·subst q;obtain⟨ht4,hall,rfl,c,hok,rfl⟩:=HCh.out.ok;have HOk:Hid (Gm.Ok l c/\K.allR t=true):=⟨hok,hall⟩;obtain⟨X,hX⟩:=qE (w1.alloc (.cells #[.int .i64 0,.int .i64 0] 36));have HXX:=qH hX;have HBX:Hid (Bl w X):=by show Below _ _ _;rw[hX];exact HB2.out _
  have hXs:w.heap.size<X.heap.size:=by rw[hX];simp;omega
  have HXb:Hid (X.heap[w.heap.size]?=some (.cells #[.int .i64 0,.int .i64 0] 36)):=by
   show X.heap[w.heap.size]?=_;rw[hX,Below.heap_alloc w1 _ w.heap.size (by omega)];exact HX1.out
  have HOX:Hid (J.Own (w.heap.size+1) X v' (J.heads (J.begins l) c (c.length-1))):=by
   show J.Own _ _ _ _;rw[hX];exact HOw.out.below ((qR w1).alloc qN _)
  have HNw:Hid (∀Y,Y=X->Calls prog 174 #[vt] Y fun e w'=>e=.returned (.tuple #[.pointer (some ⟨X.heap.size,0,none⟩),.int .i64 0])/\Gm.Told ⟨X.heap.size,[]⟩ X.heap.size X [] t w'):=fun Y hY=>by rw[hY];exact zto X vt t (HT.out.below HBX.out qN) ht4
  clear hX k0 k1 g0 g1 hok hall HOw;obtain⟨ua,uc,rfl⟩:=HOX.out.len;generalize hhs:J.heads (J.begins l) c (c.length-1)=hs at *
  go_wp2_with fail
  go_at_call 174
  refine(HNw.out _ HXX.out.symm).mono ?_;rintro e w2 ⟨rfl,told⟩;have HTo:=qH told;have hb2:Bl X w2:=told.2.1;have hx2:=K.zae HXb.out hb2;have HX2:=qH hx2;obtain⟨x0,x1,f0,f1⟩:=K.box2 hx2;have k0:=fun o=>K.zai x0 o
  have k1:=fun o=>K.zai x1 o
  have g0:=fun o=>K.zal hx2 o 0
  have g1:=fun o=>K.zal hx2 o 1
  have hs2:=hb2.size;have HFin:Hid (∀x y,_):=fun x y=>Gm.zr0 (c:=c) HR.out.2 HR.out.1 HBX.out hXs (by rw[hhs];exact HOX.out) HOk.out.1 HOk.out.2 HTo.out x y
  clear told hb2 hx2 HNw HXX HXb HB1 HX1 HB2 x0 x1 f0 f1;go_wp2;refine bodyPost_ret (v:=.tuple #[.pointer (some ⟨w2.heap.size,0,none⟩),.agg #[.int .i64 0,.int .i64 0]]) (by simp[results,results157,go_sem, *]) rfl ?_;exact⟨_,HCh.out,(HFin.out _ _).2,.inr ⟨rfl,_,rfl,(HFin.out _ _).1⟩⟩
 ·go_wp2
  go_region
  go_wp2;refine bodyPost_ret (v:=.tuple #[.pointer none,.agg #[.int .i64 e1,.int .i64 e2]]) (by simp[results,results157,go_sem, *]) rfl ?_
  exact⟨_,HCh.out,(((HB2.out _).setCell (p:=⟨w.heap.size,0,none⟩) qN _).setCell (p:=⟨w.heap.size,1,none⟩) qN _).drew,.inl ⟨q,rfl⟩⟩
