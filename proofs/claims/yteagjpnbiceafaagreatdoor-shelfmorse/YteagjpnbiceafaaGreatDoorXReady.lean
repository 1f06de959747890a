/-
  (*vm.machine).play, whatever each step is told to.
-/
import Derived.Test.YteagjpnbiceafaaGreatDoorXPlay
import Derived.BigQuiet
import Derived.Test.YteagjpnbiceafaaGreatDoorJFind
import Derived.BigRegion
import Derived.Test.YteagjpnbiceafaaGreatDoorXAt
set_option maxHeartbeats 0
set_option maxRecDepth 20000
set_option linter.unusedSimpArgs false
set_option linter.unusedVariables false
namespace Go.Proofs.YteagjpnbiceafaaGreatDoor
open Go.RowKit Go.Shelf
theorem Gm.Mx.len {b:Nat}{ms:List Nat}{mb:Nat}{wb w:World}{g:Nat}{vr vh:Value}{l:List K.Rule}{c A Z:List Int}(M:Gm.Mx b ms mb wb w g vr vh l c A Z)(q:Nat):Calls Tryz.prog 180 #[.pointer (some ⟨g,0,none⟩)] (w.drewN q) fun e w'=>e= .returned (.int .i64 (A.length+Z.length:Nat))/\∃q',w'=(w.drewN q).drewN q':=by
  obtain⟨ao,cur,hT⟩:=M.tx;have hf:=hT.fit;refine(zcc (w.drewN q) g ao cur.length A.length (cur.length - Z.length) hT.box hT.most (by omega) (by omega)).mono ?_;rintro e w' ⟨rfl,h⟩;exact⟨by rw[show cur.length - (cur.length - Z.length)=Z.length by omega],h⟩
theorem Gm.Mx.cur {b:Nat}{ms:List Nat}{mb:Nat}{wb w:World}{g:Nat}{vr vh:Value}{l:List K.Rule}{c A Z:List Int}(M:Gm.Mx b ms mb wb w g vr vh l c A Z)(q:Nat):Calls Tryz.prog 181 #[.pointer (some ⟨g,0,none⟩)] (w.drewN q) fun e w'=>e= .returned (.int .i64 A.length)/\w'=w.drewN q:=by
  obtain⟨ao,cur,hT⟩:=M.tx;exact zco (w.drewN q) g A.length _ _ hT.box
theorem Gm.Mx.drewN {b:Nat}{ms:List Nat}{mb:Nat}{wb w:World}{g:Nat}{vr vh:Value}{l:List K.Rule}{c A Z:List Int}(M:Gm.Mx b ms mb wb w g vr vh l c A Z)(q:Nat):Gm.Mx b ms mb wb (w.drewN q) g vr vh l c A Z:=M.below (below_drewN (qR w) q)
theorem Gm.Mx.top {b:Nat}{ms:List Nat}{mb:Nat}{wb w:World}{g:Nat}{vr vh:Value}{l:List K.Rule}{c A Z:List Int}(M:Gm.Mx b ms mb wb w g vr vh l c A Z):b<=w.heap.size:=by
  obtain⟨ao,cur,h⟩:=M.tx;have h1:b<=g:=h.hB.1;have h2:=h.box.lt;omega
theorem zms (b mb:Nat)(wb w:World)(g:Nat)(vr vh:Value)(l:List K.Rule)(c t:List Int)(M:Gm.Mx b [mb] mb wb w g vr vh l c [] t)(O:Gm.Ok l c)(hR:K.allR t=true)
    (T:World->Int->Int->Prop) (hT0:T w 0 0) (hTb:∀W W' s p,T W s p->Below b W W'->T W' s p)
    (ft:Nat) (ct:Array Value) (eg:∀args w,(callFunc ft args).run Tryz.prog w= .ok (.enter ft args) w)
    (hf:∀W A Z (s p at_ k:Int),Gm.Mx b [mb] mb wb W g vr vh l c A Z->T W s p->0<=p->p<=s->s<8*t.length+40->(k= -1∨0<=k)->Calls Tryz.prog ft (#[.agg #[.int .i64 at_,.int .i64 k]]++ct) W fun e w'=>e= .returned (.tuple #[])/\Gm.Mx b [mb] mb wb w' g vr vh l c A Z/\T w' (s+1) (p+if k= -1 then 0 else 1))
    (o1:Int) (o2:List Int) (o3 o4:Int) (hO:K.play l (8*t.length+40) [] t 0 0=(o1,o2,o3,o4)) :
    Calls Tryz.prog 162 #[.pointer (some ⟨mb,0,none⟩),.func (.func ft) #[] ct] w fun e w'=>e= .returned (.int .i64 o1)/\Below wb.heap.size wb w'/\(∃s p,T w' s p)/\(o1=0->Gm.Mx b [mb] mb wb w' g vr vh l c o2 []/\T w' o3 o4):=by
  have ht:t.length<=4000:=by
    obtain⟨_,_,h⟩:=M.tx;simpa using h.few
  have HM:Hid (Gm.Mx b [mb] mb wb w g vr vh l c [] t):=M;have hbw:=M.top;have HOk:Hid (Gm.Ok l c):=O;have HR:Hid (K.allR ([]++t)=true):=hR;have HT:Hid (T w 0 0):=hT0;have HTb:Hid (∀W W' s p,T W s p->Below b W W'->T W' s p):=hTb;have HF:Hid (∀W A Z (s p at_ k:Int),Gm.Mx b [mb] mb wb W g vr vh l c A Z->T W s p->0<=p->p<=s->s<8*t.length+40->(k= -1∨0<=k)->Calls Tryz.prog ft (#[.agg #[.int .i64 at_,.int .i64 k]]++ct) W fun e w'=>e= .returned (.tuple #[])/\Gm.Mx b [mb] mb wb w' g vr vh l c A Z/\T w' (s+1) (p+if k= -1 then 0 else 1)):=hf;have HO:Hid (K.play l (8*t.length+40) [] t 0 0=(o1,o2,o3,o4)):=hO;have k0:w.cell? ⟨mb,0,none⟩=some (.pointer (some ⟨g,0,none⟩)):=K.zaf (i:=0) M.box rfl;have HL:=M.len 0
  have HL0:Hid (Calls Tryz.prog 180 #[.pointer (some ⟨g,0,none⟩)] w fun e w'=>e= .returned (.int .i64 t.length)/\∃q',w'=w.drewN q'):=by
    simp only[List.length_nil,Nat.zero_add] at HL;exact HL
  clear M O hR hT0 hTb hf hO HL
  go_enter Tryz.func162,Tryz.ntmps162
  go_wp2_with fail
  go_at_call 180
  refine HL0.out.mono ?_;rintro e w1 ⟨rfl,q,rfl⟩;have HM1:Hid (Gm.Mx b [mb] mb wb (w.drewN q) g vr vh l c [] t):=HM.out.drewN q;have HT1:Hid (T (w.drewN q) 0 0):=HTb.out _ _ _ _ HT.out (below_drewN (qR w) q);have hbw1:b<=(w.drewN q).heap.size:=hbw;generalize w.drewN q=w0 at *;clear HM HT HL0 k0 hbw
  go_wp2_with (go_at_call 179;refine(zmu _ t.length ht).mono ?_;rintro e wq ⟨rfl,rfl⟩)
  go_loopw [5] (fun i5 wr=>∃(left:Nat) (A Z:List Int) (s p:Int),i5= .int .i64 left/\0<=p/\p<=s/\s+left=8*t.length+40/\Hid (Gm.Mx b [mb] mb wb wr g vr vh l c A Z)/\Hid (T wr s p)/\Hid (K.allR (A++Z)=true)/\Hid (K.play l left A Z s p=(o1,o2,o3,o4))/\b<=wr.heap.size) (fun i5 _=>(RowKit.intOf i5).toNat)
  case atStart=>exact⟨8*t.length+40,[],t,0,0,by go_num,by omega,by omega,by omega,HM1,HT1,HR,HO,hbw1⟩
  case round =>
    obtain⟨left,A,Z,s,p,rfl,hp0,hps,hsl,HMr,HTr,HRr,HPr,hbr⟩:=hrel;have k0:wr.cell? ⟨mb,0,none⟩=some (.pointer (some ⟨g,0,none⟩)):=K.zaf (i:=0) HMr.out.box rfl
    have hlen:A.length+Z.length<=4000:=by
      obtain⟨_,_,h⟩:=HMr.out.tx;exact h.few
    by_cases hz:Z.length=0
    · have hp:=HPr.out
      rw[K.zck hz] at hp;simp only[Prod.mk.injEq] at hp;obtain⟨rfl,rfl,rfl,rfl⟩:=hp;have hzn:Z= []:=List.eq_nil_of_length_eq_zero hz;subst hzn;have HQ:Hid (∀q,Calls Tryz.prog 180 #[.pointer (some ⟨g,0,none⟩)] (wr.drewN q) fun e w'=>e= .returned (.int .i64 A.length)/\∃q',w'=(wr.drewN q).drewN q'):=fun q=>HMr.out.len q
      have HC:Hid (∀q,Calls Tryz.prog 181 #[.pointer (some ⟨g,0,none⟩)] (wr.drewN q) fun e w'=>e= .returned (.int .i64 A.length)/\w'=wr.drewN q):=fun q=>HMr.out.cur q
      clear HPr HRr HF HO HR HM1 HT1
      go_wp2_with fail
      go_quiet (first | (go_at_call 180;exact Calls.quiet_of (HQ.out _)) | (go_at_call 181;exact Calls.quiet_of_same (HC.out _)))
      go_wp2;go_ret
      exact⟨rfl,(HMr.out.drewN nq).bel,⟨_,_,HTb.out _ _ _ _ HTr.out (below_drewN (qR wr) nq)⟩,HMr.out.drewN nq,HTb.out _ _ _ _ HTr.out (below_drewN (qR wr) nq)⟩
    · obtain⟨N,hN⟩:∃N,N=A.length+Z.length:=⟨_,rfl⟩
      have HQ:Hid (∀q,Calls Tryz.prog 180 #[.pointer (some ⟨g,0,none⟩)] (wr.drewN q) fun e w'=>e= .returned (.int .i64 N)/\∃q',w'=(wr.drewN q).drewN q'):=fun q=>by rw[hN];exact HMr.out.len q
      have HC:Hid (∀q,Calls Tryz.prog 181 #[.pointer (some ⟨g,0,none⟩)] (wr.drewN q) fun e w'=>e= .returned (.int .i64 A.length)/\w'=wr.drewN q):=fun q=>HMr.out.cur q
      have hlt:(A.length:Int)<N:=by omega
      clear HO HR HM1 HT1
      go_wp2_with fail
      go_quiet (first | (go_at_call 180;exact Calls.quiet_of (HQ.out _)) | (go_at_call 181;exact Calls.quiet_of_same (HC.out _)))
      have HMq:Hid (Gm.Mx b [mb] mb wb (wr.drewN nq) g vr vh l c A Z):=HMr.out.drewN nq;have HTq:Hid (T (wr.drewN nq) s p):=HTb.out _ _ _ _ HTr.out (below_drewN (qR wr) nq);have hbq:b<=(wr.drewN nq).heap.size:=hbr;clear HQ HC k0 HMr HTr hbr;generalize wr.drewN nq=W at *;have k0:W.cell? ⟨mb,0,none⟩=some (.pointer (some ⟨g,0,none⟩)):=K.zaf (i:=0) HMq.out.box rfl;cases left with
      | zero =>
        have hp:=HPr.out;rw[K.zp4 hz] at hp;simp only[Prod.mk.injEq] at hp;obtain⟨rfl,rfl,rfl,rfl⟩:=hp;go_wp2;go_ret;exact⟨rfl,HMq.out.bel,⟨s,p,HTq.out⟩,fun h=>absurd h (by decide)⟩
      | succ left =>
        have hne:¬((left+1:Nat):Int)=0:=by omega
        have HCu:Hid (Calls Tryz.prog 181 #[.pointer (some ⟨g,0,none⟩)] W fun e w'=>e= .returned (.int .i64 A.length)/\w'=W):=HMq.out.cur 0;have HFi:Hid (Calls Tryz.prog 182 #[.pointer (some ⟨mb,0,none⟩)] W fun e w'=>e= .returned (.int .i64 (K.which l (A++Z) A.length))/\Below W.heap.size W w'):=zkx b [mb] mb wb W g vr vh l c A Z HMq.out HOk.out (by omega) (Gm.ziu HRr.out)
        have HSt:Hid (∀W2 o,Below W.heap.size W W2->Calls Tryz.prog 183 #[.pointer (some ⟨mb,0,none⟩),.int .i64 (K.which l (A++Z) A.length)] (W2.alloc o) fun e w'=>∃x:Int,e= .returned (.int .i64 x) /\
      ((x=4/\Below wb.heap.size wb w'/\T w' s p/\o1=4) ∨
       (x=0/\w'.heap[W2.heap.size]?=some o/\b<=w'.heap.size/\∃A' Z',Gm.Mx b [mb] mb wb w' g vr vh l c A' Z'/\T w' s p/\K.allR (A'++Z')=true/\K.play l left A' Z' (s+1) (p+if K.which l (A++Z) A.length= -1 then 0 else 1)=(o1,o2,o3,o4)))):=fun W2 o hW2=>by
          have hM2:=(HMq.out.below hW2).box1 o;have hb2:Below W.heap.size W (W2.alloc o):=hW2.alloc (hW2.size) o;have hs2:=hb2.size;refine(zmr b _ mb wb _ g vr vh l c A Z hM2 HOk.out (by omega) HRr.out).mono ?_;rintro e w' ⟨x,rfl,⟨rfl,h1,h2⟩|⟨rfl,A',Z',h1,h2,h3,h4⟩⟩
          · have hp:=HPr.out
            rw[h2] at hp;simp only[Prod.mk.injEq] at hp;exact⟨4,rfl,.inl ⟨rfl,hM2.bel.trans (h1.mono hM2.base),HTb.out _ _ _ _ HTq.out ((hb2.mono hbq).trans h1),hp.1.symm⟩⟩
          · refine⟨0,rfl,.inr ⟨rfl,?_,by have:=h2.size;omega,A',Z',h1.less (by simp) (by simp),HTb.out _ _ _ _ HTq.out ((hb2.mono hbq).trans h2.1),h3,?_⟩⟩
            · rw[h2.2 _ (by simp) (by simp)];exact heap_alloc_new W2 o
            · rw[<- h4];exact HPr.out
        have hkk:K.which l (A++Z) A.length= -1∨0<=K.which l (A++Z) A.length:=by
          rcases K.zf9 (l:=l) (t:=A++Z) (k:=(A.length:Int)) with h | ⟨j,r,_,_,h⟩
          · exact .inl h
          · exact .inr (by rw[h];omega)
        generalize K.which l (A++Z) A.length=kk at *;clear HMq HRr HTq HPr
        go_wp2_with fail
        go_at_call 181
        refine HCu.out.mono ?_;rintro e w1 ⟨rfl,rfl⟩
        go_wp2_with fail
        go_at_call 182
        refine HFi.out.mono ?_;rintro e w2 ⟨rfl,hw2⟩;have HB2:Hid (Below w1.heap.size w1 w2):=hw2;clear hw2 k0 HCu HFi
        go_wp2_with fail
        refine(HSt.out w2 _ HB2.out).mono ?_;rintro e w3 ⟨x,rfl,⟨rfl,h1,h1t,rfl⟩|⟨rfl,h1,h2,A',Z',h3,h4,h5,h6⟩⟩
        · have H1:Hid (Below wb.heap.size wb w3/\T w3 s p):=⟨h1,h1t⟩
          clear h1 h1t HSt HB2 HF;go_wp2;go_ret;exact⟨rfl,H1.out.1,⟨s,p,H1.out.2⟩,fun h=>absurd h (by decide)⟩
        · have d0:w3.cell? ⟨w2.heap.size,0,none⟩=some (.int .i64 A.length):=K.zaf (i:=0) h1 rfl
          have d1:w3.cell? ⟨w2.heap.size,1,none⟩=some (.int .i64 kk):=K.zaf (i:=1) h1 rfl;have HFo:=HF.out w3 A' Z' s p A.length kk h3 h4 hp0 hps (by omega) hkk;have HFo2:Hid (Calls Tryz.prog ft (#[.agg #[.int .i64 A.length,.int .i64 kk]]++ct) w3 fun e w'=>e= .returned (.tuple #[])/\Gm.Mx b [mb] mb wb w' g vr vh l c A' Z'/\T w' (s+1) (p+if kk= -1 then 0 else 1)):=HFo;have H5:Hid (K.allR (A'++Z')=true):=h5;have H6:Hid (K.play l left A' Z' (s+1) (p+if kk= -1 then 0 else 1)=(o1,o2,o3,o4)):=h6;clear h1 h2 h3 h4 h5 h6 HFo HSt HB2 HF
          go_wp2_with fail
          refine HFo2.out.mono ?_;rintro e w4 ⟨rfl,g1,g2⟩;have G1:Hid (Gm.Mx b [mb] mb wb w4 g vr vh l c A' Z'):=g1;have G2:Hid (T w4 (s+1) (p+if kk= -1 then 0 else 1)):=g2;clear g1 g2 HFo2 d0 d1;go_wp2
          go_roundw
          case rel =>
            refine⟨left,A',Z',s+1,_,by go_num,?_,?_,by omega,G1,G2,H5,H6,?_⟩
            · split <;> omega
            · split <;> omega
            · exact G1.out.top
          case measure=>simp[RowKit.intOf]
end Go.Proofs.YteagjpnbiceafaaGreatDoor
namespace Go.Proofs.YteagjpnbiceafaaGreatDoor
open Go.RowKit Go.Shelf
def Gm.Chk (l:List K.Rule) (t:List Int) (o:List J.Hd×Int×Int):Prop :=
 ((K.rulesF l).1≠0/\o=([],K.rulesF l))∨((K.rulesF l).1=0/\K.textE t≠0/\o=([],K.textE t,0))∨((K.rulesF l).1=0/\K.textE t=0/\J.Comp l o)
theorem zkz (w:World)(v:Value)(l:List K.Rule)(R0:V.Rus w v l)(vt:Value)(t:List Int)(Rt:L.Rd w vt .i32 t)(ht:t.length<=140737488355328) :
  Calls Tryz.prog 177 #[v,vt] w fun e w'=>∃(v':Value) (o:List J.Hd×Int×Int),Gm.Chk l t o/\e= .returned (.tuple #[v',.agg #[.int .i64 o.2.1,.int .i64 o.2.2]])/\J.Own w.heap.size w' v' o.1/\Below w.heap.size w w':=by
 have HA:Hid (∀o,Below w.heap.size w (w.alloc o)):=fun o=>(qR w).alloc qN o
 have HC:Hid (∀o,Calls Tryz.prog 106 #[v] (w.alloc o) fun e w'=>e= .returned (.agg #[.int .i64 (K.rulesF l).1,.int .i64 (K.rulesF l).2])/\Below (w.alloc o).heap.size (w.alloc o) w'):=fun o=>zdv _ _ l (R0.below (HA.out o))
 have HR:Hid (V.Rus w v l):=R0;have HT:Hid (L.Rd w vt .i32 t):=Rt;have HN:Hid ((K.rulesF l).1≠0->Gm.Chk l t ([],K.rulesF l)):=fun h=> .inl ⟨h,rfl⟩
 have HN2:Hid ((K.rulesF l).1=0->K.textE t≠0->Gm.Chk l t ([],K.textE t,0)):=fun h h2=> .inr (.inl ⟨h,h2,rfl⟩)
 have HY:Hid ((K.rulesF l).1=0->K.textE t=0->∀o,J.Comp l o->Gm.Chk l t o):=fun h h2 o ho=> .inr (.inr ⟨h,h2,ho⟩)
 obtain⟨⟨e1,e2⟩,he⟩:∃o,K.rulesF l=o:=⟨_,rfl⟩;rw[he] at HC HN HN2 HY;simp only at HC HN HN2 HY;clear he R0 Rt
 go_enter Tryz.func177,Tryz.ntmps177
 go_wp2_with fail
 refine(HC.out _).mono ?_;rintro e w1 ⟨rfl,b1⟩;obtain⟨h1,B1,s1⟩:=K.zay b1;have HB1:Hid (Below w.heap.size w w1):=B1;have HX1:Hid (w1.heap[w.heap.size]?=some (.cells #[.int .i64 0,.int .i64 0] 36)):=h1;obtain⟨x0,x1,f0,f1⟩:=K.box2 h1;have k0:∀o,(w1.alloc o).cell? ⟨w.heap.size,0,none⟩=some (.int .i64 0):=fun o=>K.zai x0 o
 have k1:∀o,(w1.alloc o).cell? ⟨w.heap.size,1,none⟩=some (.int .i64 0):=fun o=>K.zai x1 o
 have g0:∀o,(w1.alloc o).frozen? ⟨w.heap.size,0,none⟩=false:=fun o=>K.zao h1 o 0
 have g1:∀o,(w1.alloc o).frozen? ⟨w.heap.size,1,none⟩=false:=fun o=>K.zao h1 o 1
 have HB2:Hid (∀o,Below w.heap.size w (w1.alloc o)):=fun o=>HB1.out.alloc (by omega) o
 clear b1 B1 HC x0 x1 f0 f1 h1
 by_cases q:e1=0
 ·subst q;obtain⟨X,hX⟩:∃X,X=w1.alloc (.cells #[.int .i64 0,.int .i64 e2] 36):=⟨_,rfl⟩;have HXX:Hid (X=w1.alloc (.cells #[.int .i64 0,.int .i64 e2] 36)):=hX;have HBX:Hid (Below w.heap.size w X):=by show Below _ _ _;rw[hX];exact HB2.out _
  have hXs:w.heap.size<X.heap.size:=by rw[hX];simp;omega
  have HXb:Hid (X.heap[w.heap.size]?=some (.cells #[.int .i64 0,.int .i64 0] 36)):=by
   show X.heap[w.heap.size]?=_;rw[hX,Below.heap_alloc w1 _ w.heap.size (by omega)];exact HX1.out
  have HTx:Hid (∀Y,Y=X->Calls Tryz.prog 49 #[vt] Y fun e w'=>e= .returned (.int .i64 (K.textE t))/\Below X.heap.size X w'):=fun Y hY=>by rw[hY];exact zho X vt t (HT.out.below HBX.out qN) ht
  have HN2':=HN2.out rfl;have HY':=HY.out rfl;generalize K.textE t=z at HTx HN2' HY';have HN3:Hid (z≠0->Gm.Chk l t ([],z,0)):=HN2';have HY3:Hid (z=0->∀o,J.Comp l o->Gm.Chk l t o):=HY';clear hX k0 k1 g0 g1 HN HN2 HY HN2' HY'
  go_wp2_with fail
  go_at_call 49
  refine(HTx.out _ HXX.out.symm).mono ?_;rintro e w2 ⟨rfl,b2⟩;have HB3:Hid (Below X.heap.size X w2):=b2;have hx2:=K.zae HXb.out b2;have hw2:w.heap.size<w2.heap.size:=by have:=b2.size;omega
  have HX2:Hid (w2.heap[w.heap.size]?=some (.cells #[.int .i64 0,.int .i64 0] 36)):=hx2;have HBW:Hid (Below w.heap.size w w2):=HBX.out.trans (b2.mono (by omega));obtain⟨x0,x1,f0,f1⟩:=K.box2 hx2;clear b2 hx2 HTx HXX HXb HB1 HX1 HB2
  by_cases hz:z=0
  ·subst hz;have HY4:Hid (∀o,J.Comp l o->Gm.Chk l t o):=HY3.out rfl;have HCo:Hid (Calls Tryz.prog 199 #[v] w2 fun e w'=>∃(v':Value) (o:List J.Hd×Int×Int),J.Comp l o/\e= .returned (.tuple #[v',.agg #[.int .i64 o.2.1,.int .i64 o.2.2]])/\J.Own w2.heap.size w' v' o.1/\Below w2.heap.size w2 w'):=zht w2 v l (HR.out.below HBW.out);clear x0 x1 f0 f1
   go_wp2_with fail
   go_at_call 199
   refine HCo.out.mono ?_;rintro e w3 ⟨v',⟨hs,o1,o2⟩,hC,rfl,own,b3⟩;have hx3:=K.zae HX2.out b3;obtain⟨x0,x1,f0,f1⟩:=K.box2 hx3;have HCh:Hid (Gm.Chk l t (hs,o1,o2)):=HY4.out _ hC;have HBW3:Hid (Below w.heap.size w w3):=HBW.out.trans (b3.mono (by omega))
   have HOw:Hid (∀x y,J.Own w.heap.size ((w3.setCell ⟨w.heap.size,0,none⟩ x).setCell ⟨w.heap.size,1,none⟩ y) v' hs):=fun x y=>by
    have h9:J.Own w2.heap.size ((w3.setCell ⟨w.heap.size,0,none⟩ x).setCell ⟨w.heap.size,1,none⟩ y) v' hs:=own.kept fun g hg=>by
     rw[heap_setCell_other _ _ g y (by simp;omega),heap_setCell_other _ _ g x (by simp;omega)]
    exact h9.base (by omega)
   clear own b3 hx3 hC HCo HBW HX2;go_wp2;refine bodyPost_ret (v:= .tuple #[v',.agg #[.int .i64 o1,.int .i64 o2]]) (by simp[results,Tryz.results177,go_sem, *]) rfl ?_;exact⟨_,_,HCh.out,rfl,HOw.out _ _,(HBW3.out.setCell (p:=⟨w.heap.size,0,none⟩) qN _).setCell (p:=⟨w.heap.size,1,none⟩) qN _⟩
  ·have HN4:Hid (Gm.Chk l t ([],z,0)):=HN3.out hz;go_wp2;refine bodyPost_ret (v:= .tuple #[.slice none 0 0,.agg #[.int .i64 z,.int .i64 0]]) (by simp[results,Tryz.results177,go_sem, *]) rfl ?_;exact⟨_,_,HN4.out,rfl,J.Own.nil _ _,(HBW.out.setCell (p:=⟨w.heap.size,0,none⟩) qN _).setCell (p:=⟨w.heap.size,1,none⟩) qN _⟩
 ·have HN':Hid (Gm.Chk l t ([],e1,e2)):=HN.out q;clear HN HN2 HY;go_wp2
  go_region
  go_wp2;refine bodyPost_ret (v:= .tuple #[.slice none 0 0,.agg #[.int .i64 e1,.int .i64 e2]]) (by simp[results,Tryz.results177,go_sem, *]) rfl ?_
  exact⟨_,_,HN'.out,rfl,J.Own.nil _ _,(((HB2.out _).setCell (p:=⟨w.heap.size,0,none⟩) qN _).setCell (p:=⟨w.heap.size,1,none⟩) qN _).drew⟩
end Go.Proofs.YteagjpnbiceafaaGreatDoor
namespace Go.Proofs.YteagjpnbiceafaaGreatDoor
open Go.RowKit
theorem zpi (w:World)(B:Gm.Bs)(g:Nat)(ao:Option Addr)(cur A Z:List Int)(h:Gm.Tx B g ao cur A Z w)(k:Nat)(hk:k<=A.length+Z.length) :
  Calls Tryz.prog 201 #[.pointer (some ⟨g,0,none⟩),.int .i64 k] w fun e w'=>e= .returned (.int .i64 0)/\Gm.Told B g w ((A++Z).take k) ((A++Z).drop k) w':=by
 have hf:=h.fit
 by_cases h1:k<A.length
 ·obtain⟨r,rfl⟩:=h.room.some (by omega);rw[List.take_append_of_le_length (by omega),List.drop_append_of_le_length (by omega)];exact zhl w B g r cur A Z h k h1
 ·by_cases h2:k=A.length
  ·subst h2;rw[List.take_left,List.drop_left];exact zhk w B g ao cur A Z h
  ·obtain⟨m,rfl⟩:∃m,k=A.length+m:=⟨k - A.length,by omega⟩;obtain⟨r,rfl⟩:=h.room.some (by omega);rw[List.take_length_add_append,List.drop_length_add_append];exact zfw w B g r cur A Z h _ m rfl (by omega) (by omega)
namespace Gm
theorem Told.from {B:Gm.Bs}{g:Nat}{w w1:World}{A Z:List Int}{w':World}(h:Told B g w1 A Z w')(hb:Gm.Fr B w w1):Told B g w A Z w':=⟨h.1,hb.trans h.2⟩
theorem Tx.new (w:World):Tx ⟨w.heap.size,[]⟩ w.heap.size none [] [] [] (w.alloc (.cells #[.slice none 0 0,.int .i64 0,.int .i64 0] 214)) :=
 ⟨⟨qN,by simp⟩,Go.heap_alloc_new w _,.inl ⟨rfl,rfl⟩,(fun r h=>by cases h),Nat.le_refl 0,Nat.zero_le _,Nat.zero_le _,rfl,rfl⟩
end Gm
theorem zrq (w:World)(v:Value)(R:List Int)(hv:L.Rd w v .i32 R)(h4:R.length<=4000) :
  Calls Tryz.prog 178 #[v] w fun e w'=>e= .returned (.tuple #[.pointer (some ⟨w.heap.size,0,none⟩),.int .i64 0])/\Gm.Told ⟨w.heap.size,[]⟩ w.heap.size w [] R w':=by
 have HV:Hid (L.Rd w v .i32 R):=hv;obtain⟨sp,c,rfl,_⟩:=hv;obtain⟨w1,hw1⟩:∃w1,w1=w.alloc (.cells #[.slice none 0 0,.int .i64 0,.int .i64 0] 214):=⟨_,rfl⟩;have HX:Hid (Gm.Tx ⟨w.heap.size,[]⟩ w.heap.size none [] [] [] w1):=by rw[hw1];exact Gm.Tx.new w
 have HB:Hid (Below w.heap.size w w1):=by rw[hw1];exact(qR w).alloc qN _
 have HW:Hid (w1=w.alloc (.cells #[.slice none 0 0,.int .i64 0,.int .i64 0] 214)):=hw1;clear hw1
 go_enter Tryz.func178,Tryz.ntmps178
 go_wp2_with fail
 rw[<- HW.out];refine(zrf _ _ _ none [] [] [] HX.out _ R (fun w' hb=>HV.out.below (HB.out.trans hb.1) qN) (by simpa using h4) (by simp)).mono ?_;rintro e w2 ⟨rfl,⟨ao2,cur2,hx2⟩,hb2⟩;have HX2:Hid (Gm.Tx ⟨w.heap.size,[]⟩ w.heap.size ao2 cur2 ([]++R) [] w2):=hx2;have HB2:Hid (Gm.Fr ⟨w.heap.size,[]⟩ w w2):=⟨HB.out.trans hb2.1,fun j hj=>absurd hj (by simp)⟩;clear hx2 hb2 HW
 go_wp2_with fail
 refine(zpi _ _ _ ao2 cur2 ([]++R) [] HX2.out 0 (Nat.zero_le _)).mono ?_;rintro e w3 ⟨rfl,ht⟩
 have HE:Hid (Gm.Told ⟨w.heap.size,[]⟩ w.heap.size w [] R w3):=by
  have:=ht.from HB2.out
  show Gm.Told _ _ _ _ _ _;simpa using this
 clear ht;go_wp2
 go_ret2
 exact⟨rfl,HE.out⟩
end Go.Proofs.YteagjpnbiceafaaGreatDoor
namespace Go.Proofs.YteagjpnbiceafaaGreatDoor
open Go.RowKit Go.Shelf
theorem J.held {F:Nat}{e:TypeId}{k:Nat}{w w':World}{v:Value}{n:Nat}{xs:List Value}(h:w.ownsRow F e k v n xs)(hb:∀g,F<=g->g<w.heap.size->w'.heap[g]?=w.heap[g]?):w'.ownsRow F e k v n xs:=by
 obtain⟨h1,h2⟩:=h;refine⟨h1,?_⟩;rcases h2 with h2 | ⟨g,cap,cur,hv,hg,hx,r⟩
 ·exact .inl h2
 ·exact .inr ⟨g,cap,cur,hv,hg,by rw[hb g hg (lt_of_block hx)];exact hx,r⟩
theorem J.Own.held {F:Nat}{w w':World}{v:Value}{hs:List J.Hd}(h:J.Own F w v hs)(hb:∀g,F<=g->g<w.heap.size->w'.heap[g]?=w.heap[g]?):J.Own F w' v hs:=by
 obtain⟨ps,h1,h2,h3⟩:=h;exact⟨ps,h1,J.held h2 hb,fun p hp=>J.held (h3 p hp) hb⟩
theorem Gm.Chk.ok {l:List K.Rule}{t:List Int}{hs:List J.Hd}{e2:Int}(h:Gm.Chk l t (hs,0,e2)):t.length<=4000/\K.allR t=true/\e2=0/\∃c,Gm.Ok l c/\hs=J.heads (J.begins l) c (c.length - 1):=by
 rcases h with ⟨h,h2⟩|⟨h,h2,h3⟩|⟨h,h2,h3⟩
 ·simp only[Prod.mk.injEq] at h2;exact absurd (by rw[<- h2.2]) h
 ·simp only[Prod.mk.injEq] at h3;exact absurd h3.2.1.symm h2
 ·have h4:=K.zk7 h2
  have h5:K.allR t=true:=by
   unfold K.textE at h2;rw[if_neg (by omega)] at h2
   by_cases h:K.allR t=true
   ·exact h
   ·rw[if_neg h] at h2;cases h2
  rcases h3 with ⟨g,_⟩|⟨_,c,hc,_,⟨_,g⟩|⟨h9,g⟩⟩
  ·exact absurd h g
  ·simp at g
  ·simp only[Prod.mk.injEq] at g;exact⟨h4,h5,g.2.2,c,⟨(K.zbc h).1,(K.zbc h).2.1,hc,h9⟩,g.1⟩
def Gm.Rdy (wb w w':World) (v:Value) (l:List K.Rule) (t:List Int) (mb:Nat):Prop :=
 ∃b g vh c,w.heap.size<=b/\b<=mb/\Gm.Mx b [mb] mb wb w' g v vh l c [] t/\Gm.Ok l c/\K.allR t=true/\∀W',(∀j,w.heap.size<=j->j<b->W'.heap[j]?=w'.heap[j]?)->J.Rd W' vh (J.heads (J.begins l) c (c.length - 1))
theorem Gm.zp0 {wb w X w2:World}{va:Value}{l:List K.Rule}{t c:List Int}{vh:Value}(hwb:Below wb.heap.size wb w)(R0:V.Rus wb va l)(hBX:Below w.heap.size w X)(hXs:w.heap.size<X.heap.size)(hO:J.Own (w.heap.size+1) X vh (J.heads (J.begins l) c (c.length - 1)))(hok:Gm.Ok l c)(hall:K.allR t=true)(hTo:Gm.Told ⟨X.heap.size,[]⟩ X.heap.size X [] t w2)(x y:Value) :
  Gm.Rdy wb w (((w2.alloc (.cells #[.pointer (some ⟨X.heap.size,0,none⟩),va,vh] 197)).setCell ⟨w.heap.size,0,none⟩ x).setCell ⟨w.heap.size,1,none⟩ y) va l t w2.heap.size/\Below w.heap.size w (((w2.alloc (.cells #[.pointer (some ⟨X.heap.size,0,none⟩),va,vh] 197)).setCell ⟨w.heap.size,0,none⟩ x).setCell ⟨w.heap.size,1,none⟩ y):=by
 obtain⟨⟨ao,cur,hT⟩,hF⟩:=hTo;have hb2:Below X.heap.size X w2:=hF.1;have hs2:=hb2.size;have hsw:=hwb.size;obtain⟨M,hM⟩:∃M,M=w2.alloc (.cells #[.pointer (some ⟨X.heap.size,0,none⟩),va,vh] 197):=⟨_,rfl⟩;have hM0:M.heap[w2.heap.size]?=some (.cells #[.pointer (some ⟨X.heap.size,0,none⟩),va,vh] 197):=by rw[hM];exact heap_alloc_new w2 _
 have hMb:Below w.heap.size w M:=by rw[hM];exact(hBX.trans (hb2.mono (by omega))).alloc (by omega) _
 have hM1:∀j,j<w2.heap.size->M.heap[j]?=w2.heap[j]?:=fun j hj=>by rw[hM];exact Below.heap_alloc w2 _ j hj
 rw[<- hM];have hWb:Below w.heap.size w ((M.setCell ⟨w.heap.size,0,none⟩ x).setCell ⟨w.heap.size,1,none⟩ y):=(hMb.setCell (p:=⟨w.heap.size,0,none⟩) qN _).setCell (p:=⟨w.heap.size,1,none⟩) qN _
 have hW1:∀j,j≠w.heap.size->((M.setCell ⟨w.heap.size,0,none⟩ x).setCell ⟨w.heap.size,1,none⟩ y).heap[j]?=M.heap[j]?:=fun j hj=>by
  rw[heap_setCell_other _ _ j y (by simpa using hj),heap_setCell_other _ _ j x (by simpa using hj)]
 generalize (M.setCell ⟨w.heap.size,0,none⟩ x).setCell ⟨w.heap.size,1,none⟩ y=W at *;have hbox:W.heap[w2.heap.size]?=some (.cells #[.pointer (some ⟨X.heap.size,0,none⟩),va,vh] 197):=(hW1 _ (by omega)).trans hM0;have hhd:∀W',(∀j,w.heap.size<=j->j<X.heap.size->W'.heap[j]?=W.heap[j]?)->J.Rd W' vh (J.heads (J.begins l) c (c.length - 1)):=fun W' h=>(hO.held fun g h1 h2=>by rw[h g (by omega) h2,hW1 g (by omega),hM1 g (by omega)];exact hb2.block g h2).rd
 have hgl:=hT.box.lt
 have h2:=hT.re (B':=⟨X.heap.size,[w2.heap.size]⟩) ⟨qN,by simp;omega⟩ fun q hq=>by
  have h1:=hT.room.lt q hq;exact⟨h1.1.1,by simp;have:=h1.2;omega⟩
 refine⟨⟨X.heap.size,X.heap.size,vh,c,by omega,hs2,⟨by omega,hwb.trans (hWb.mono hsw),hbox,by simp,fun j hj=> ?_,⟨ao,cur,h2.hB,h2.box.block ?_,h2.room.block fun r hr=> ?_,h2.ne,h2.fit,h2.most,h2.few,h2.ahead,h2.behind⟩,R0,fun W' hW'=>hhd W' fun j h3 h4=>hW'.block j h4⟩,hok,hall,hhd⟩,hWb⟩
 ·simp at hj;subst hj;exact lt_of_block hbox
 ·rw[hW1 _ (by omega),hM1 _ hgl]
 ·have h1:=hT.room.lt r hr;have h3:X.heap.size<=r:=h1.1.1;rw[hW1 _ (by omega),hM1 _ h1.2]
theorem zkv (wb w:World)(v:Value)(l:List K.Rule)(hwb:Below wb.heap.size wb w)(R0:V.Rus wb v l)(vt:Value)(t:List Int)(Rt:L.Rd w vt .i32 t)(ht:t.length<=140737488355328) :
  Calls Tryz.prog 161 #[v,vt] w fun e w'=>∃o,Gm.Chk l t o/\Below w.heap.size w w'/\((o.2.1≠0/\e= .returned (.tuple #[.pointer none,.agg #[.int .i64 o.2.1,.int .i64 o.2.2]]))∨(o.2.1=0/\∃mb,e= .returned (.tuple #[.pointer (some ⟨mb,0,none⟩),.agg #[.int .i64 0,.int .i64 0]])/\Gm.Rdy wb w w' v l t mb)):=by
 have HA:Hid (∀o,Below w.heap.size w (w.alloc o)):=fun o=>(qR w).alloc qN o
 have HC:Hid (∀o,Calls Tryz.prog 177 #[v,vt] (w.alloc o) fun e w'=>∃(v':Value) (o':List J.Hd×Int×Int),Gm.Chk l t o'/\e= .returned (.tuple #[v',.agg #[.int .i64 o'.2.1,.int .i64 o'.2.2]])/\J.Own (w.alloc o).heap.size w' v' o'.1/\Below (w.alloc o).heap.size (w.alloc o) w'):=fun o=>zkz _ v l ((R0.below hwb).below (HA.out o)) vt t (Rt.below (HA.out o) qN) ht
 have HR:Hid (V.Rus wb v l/\Below wb.heap.size wb w):=⟨R0,hwb⟩;have HT:Hid (L.Rd w vt .i32 t):=Rt;obtain⟨va,vc,rfl⟩:=R0.len;clear R0 Rt hwb
 go_enter Tryz.func161,Tryz.ntmps161
 go_wp2_with fail
 refine(HC.out _).mono ?_;rintro e w1 ⟨v',⟨hs,e1,e2⟩,hch,rfl,own,b1⟩;obtain⟨h1,B1,s1⟩:=K.zay b1;have HB1:Hid (Below w.heap.size w w1):=B1;have HX1:Hid (w1.heap[w.heap.size]?=some (.cells #[.int .i64 0,.int .i64 0] 36)):=h1;have HCh:Hid (Gm.Chk l t (hs,e1,e2)):=hch;have hOw:J.Own (w.heap.size+1) w1 v' hs:=by simpa using own
 have HOw:Hid (J.Own (w.heap.size+1) w1 v' hs):=hOw;obtain⟨x0,x1,f0,f1⟩:=K.box2 h1;have k0:∀o,(w1.alloc o).cell? ⟨w.heap.size,0,none⟩=some (.int .i64 0):=fun o=>K.zai x0 o
 have k1:∀o,(w1.alloc o).cell? ⟨w.heap.size,1,none⟩=some (.int .i64 0):=fun o=>K.zai x1 o
 have g0:∀o,(w1.alloc o).frozen? ⟨w.heap.size,0,none⟩=false:=fun o=>K.zao h1 o 0
 have g1:∀o,(w1.alloc o).frozen? ⟨w.heap.size,1,none⟩=false:=fun o=>K.zao h1 o 1
 have HB2:Hid (∀o,Below w.heap.size w (w1.alloc o)):=fun o=>HB1.out.alloc (by omega) o
 clear b1 B1 HC x0 x1 f0 f1 h1 hch own hOw
 by_cases q:e1=0
 ·subst q;obtain⟨ht4,hall,rfl,c,hok,rfl⟩:=HCh.out.ok;have HOk:Hid (Gm.Ok l c/\K.allR t=true):=⟨hok,hall⟩;obtain⟨X,hX⟩:∃X,X=w1.alloc (.cells #[.int .i64 0,.int .i64 0] 36):=⟨_,rfl⟩;have HXX:Hid (X=w1.alloc (.cells #[.int .i64 0,.int .i64 0] 36)):=hX;have HBX:Hid (Below w.heap.size w X):=by show Below _ _ _;rw[hX];exact HB2.out _
  have hXs:w.heap.size<X.heap.size:=by rw[hX];simp;omega
  have HXb:Hid (X.heap[w.heap.size]?=some (.cells #[.int .i64 0,.int .i64 0] 36)):=by
   show X.heap[w.heap.size]?=_;rw[hX,Below.heap_alloc w1 _ w.heap.size (by omega)];exact HX1.out
  have HOX:Hid (J.Own (w.heap.size+1) X v' (J.heads (J.begins l) c (c.length - 1))):=by
   show J.Own _ _ _ _;rw[hX];exact HOw.out.below ((qR w1).alloc qN _)
  have HNw:Hid (∀Y,Y=X->Calls Tryz.prog 178 #[vt] Y fun e w'=>e= .returned (.tuple #[.pointer (some ⟨X.heap.size,0,none⟩),.int .i64 0])/\Gm.Told ⟨X.heap.size,[]⟩ X.heap.size X [] t w'):=fun Y hY=>by rw[hY];exact zrq X vt t (HT.out.below HBX.out qN) ht4
  clear hX k0 k1 g0 g1 hok hall HOw;obtain⟨ua,uc,rfl⟩:=HOX.out.len;generalize hhs:J.heads (J.begins l) c (c.length - 1)=hs at *
  go_wp2_with fail
  go_at_call 178
  refine(HNw.out _ HXX.out.symm).mono ?_;rintro e w2 ⟨rfl,told⟩;have HTo:Hid (Gm.Told ⟨X.heap.size,[]⟩ X.heap.size X [] t w2):=told;have hb2:Below X.heap.size X w2:=told.2.1;have hx2:=K.zae HXb.out hb2;have HX2:Hid (w2.heap[w.heap.size]?=some (.cells #[.int .i64 0,.int .i64 0] 36)):=hx2;obtain⟨x0,x1,f0,f1⟩:=K.box2 hx2;have k0:∀o,(w2.alloc o).cell? ⟨w.heap.size,0,none⟩=some (.int .i64 0):=fun o=>K.zai x0 o
  have k1:∀o,(w2.alloc o).cell? ⟨w.heap.size,1,none⟩=some (.int .i64 0):=fun o=>K.zai x1 o
  have g0:∀o,(w2.alloc o).frozen? ⟨w.heap.size,0,none⟩=false:=fun o=>K.zao hx2 o 0
  have g1:∀o,(w2.alloc o).frozen? ⟨w.heap.size,1,none⟩=false:=fun o=>K.zao hx2 o 1
  have hs2:=hb2.size;have HFin:Hid (∀x y,_):=fun x y=>Gm.zp0 (c:=c) HR.out.2 HR.out.1 HBX.out hXs (by rw[hhs];exact HOX.out) HOk.out.1 HOk.out.2 HTo.out x y
  clear told hb2 hx2 HNw HXX HXb HB1 HX1 HB2 x0 x1 f0 f1;go_wp2;refine bodyPost_ret (v:= .tuple #[.pointer (some ⟨w2.heap.size,0,none⟩),.agg #[.int .i64 0,.int .i64 0]]) (by simp[results,Tryz.results161,go_sem, *]) rfl ?_;exact⟨_,HCh.out,(HFin.out _ _).2,.inr ⟨rfl,_,rfl,(HFin.out _ _).1⟩⟩
 ·go_wp2
  go_region
  go_wp2;refine bodyPost_ret (v:= .tuple #[.pointer none,.agg #[.int .i64 e1,.int .i64 e2]]) (by simp[results,Tryz.results161,go_sem, *]) rfl ?_
  exact⟨_,HCh.out,(((HB2.out _).setCell (p:=⟨w.heap.size,0,none⟩) qN _).setCell (p:=⟨w.heap.size,1,none⟩) qN _).drew,.inl ⟨q,rfl⟩⟩
end Go.Proofs.YteagjpnbiceafaaGreatDoor
