import Derived.Test.YthnmmmkeamcfkaaGreatDoorQCheck
set_option maxHeartbeats 0
set_option maxRecDepth 20000
set_option linter.unusedSimpArgs false
set_option linter.unusedVariables false
namespace Go.Proofs.YthnmmmkeamcfkaaGreatDoor
open Go.Proofs.Tryz
section
open Go.RowKit Go.Lib
theorem zge (w:World)(v:Value)(t:List Int)(R:L.Rd w v .i32 t)(hl:t.length<=4000) :
  Calls prog 43 #[v] w fun e w'=>∃v',e= .returned v'/\w'.ownsRow w.heap.size 21 1 v' t.length (K.ints t)/\Below w.heap.size w w':=by
 obtain⟨ao,cap,rfl,hn,hc⟩:=R;obtain⟨i0,hi,hz0,hz1,hz2⟩:=info_parts Tryz.infoI32;have q22:∀(w:World) (a:Option Addr) (n c n' c':Nat),(binOp .eql 33 (.slice a n c) (.slice none n' c')).run prog w= .ok (.bool a.isNone) w:=fun w a n c n' c'=>Lib.run_eql_slice_nil w _ _ a n c n' c' underlying33
 cases ao with
 | none =>
  have h0:t= []:=by
   cases t with
   | nil=>rfl
   | cons z zs=>obtain⟨b,off,h,_⟩:=hc (by simp);simp at h
  subst h0;have:=hn rfl;subst this;clear hc
  go_enter func43,ntmps43
  go_wp2;go_ret
  exact⟨_,rfl,World.ownsRow_nil _ _ _ _,qR _⟩
 | some ad =>
  have HC:Hid (∀j u,(K.ints t)[j]?=some u->w.cell? (ad.add j)=some u):=by
   intro j u hj;obtain⟨z,hz,rfl⟩:=K.zc2 hj;obtain⟨b,off,hao,hcell⟩:=hc (by intro h;subst h;simp at hz);simp at hao;subst hao;rw[L.addr_add];exact hcell j z hz
  clear hc;have OW:Hid ((w.alloc (.cells #[] 21)).ownsRow w.heap.size 21 1 (.slice (some ⟨w.heap.size,0,none⟩) 0 0) 0 []):=World.ownsRow_made w #[] 0 qN (Nat.zero_le _) (by simp)
  go_enter func43,ntmps43
  go_wp2_with (at_builtin;go_must (refine wpList_append_own _ rfl _ _ 33 rfl w.heap.size 21 i0 (.int .i32 0) 1 4 underlying33 hi hz0 hz1 hz2 rfl (by decide) _ _ _ rfl OW.out ad t.length cap (K.ints t) rfl (by rw[K.zam];omega) (fun j u hj=>Lib.cell?_alloc_some _ (HC.out j u hj)) (K.zd2 t) (by unfold maxLen;omega) (by omega) (by simp) ?_;intro v' w3 hown' hgrow3 hnil3))
  go_ret;refine⟨v',rfl,by simpa using hown',?_⟩
  exact((qR w).alloc qN _).grown hgrow3 (by simp) (fun k hk=>(OW.out.lt k hk).1)
end
section
open Go.RowKit Go.Lib
theorem zew (w:World)(n:Nat)(hn:n<=4000) :
  Calls prog 44 #[.int .i64 (n:Int)] w fun e w'=>e= .returned (.int .i64 (8*(n:Int)+40))/\w'=w:=by
 have e1:IntKind.i64.wrap (8*(n:Int))=8*(n:Int):=by rw[IntKind.wrap_i64];omega
 have e2:IntKind.i64.wrap (8*(n:Int)+40)=8*(n:Int)+40:=by rw[IntKind.wrap_i64];omega
 go_enter func44,ntmps44
 go_wp2;go_ret
 exact⟨by simp[e1,e2],rfl⟩
namespace K
theorem zvc {w:World}{B:Nat}{v:Value}{t:List Int}(h:w.ownsRow B 21 1 v t.length (ints t))(h0:0<t.length):∃g cap,v= .slice (some ⟨g,0,none⟩) t.length cap/\B<=g/\OwnT w g cap t:=by
 rcases h.2 with ⟨_,h1⟩|⟨g,cap,cur,hv,hB,hg,hle,hmax,hsz,htk⟩
 ·omega
 ·exact⟨g,cap,hv,hB,cur.toList,by simpa [Row] using hg,by simpa using hsz,hle,hmax,by simpa using htk⟩
end K
theorem ztw (w:World)(v:Value)(l:List K.Rule)(R0:V.Rus w v l)(vt:Value)(t:List Int)(Rt:L.Rd w vt .i32 t)(ht:t.length<=140737488355328)(hbad:¬(K.checkF l t).1=0) :
  Calls prog 18 #[v,vt] w fun e w'=>e= .returned (.tuple #[.agg #[.slice none 0 0,.int .i64 0,.int .i64 0],.agg #[.int .i64 (K.checkF l t).1,.int .i64 (K.checkF l t).2]])/\Below w.heap.size w w':=by
 have HA:=qH <| fun o1 o2=>((qR w).alloc qN o1).alloc (by simp) o2
 have HC:Hid (∀o1 o2,Calls prog 42 #[v,vt] ((w.alloc o1).alloc o2) fun e w'=>e= .returned (.agg #[.int .i64 (K.checkF l t).1,.int .i64 (K.checkF l t).2])/\Below ((w.alloc o1).alloc o2).heap.size ((w.alloc o1).alloc o2) w'):=fun o1 o2=>zef _ _ l (R0.below (HA.out _ _)) vt t (Rt.below (HA.out _ _) qN) ht
 obtain⟨ao,cap,rfl⟩:=R0.len;obtain⟨xo,xc,rfl,_⟩:=Rt;obtain⟨⟨e1,e2⟩,he⟩:∃o,K.checkF l t=o:=⟨_,rfl⟩;rw[he] at HC hbad ⊢;simp only at HC hbad ⊢;clear he R0
 go_enter func18,ntmps18
 go_wp2_with fail
 refine(HC.out _ _).mono ?_;rintro e w1 ⟨rfl,b1⟩;obtain⟨h1,h2,B1,s1⟩:=K.zax b1;have HB2:=qH <| fun o=>B1.alloc (by omega) o
 have k0:∀o,(w1.alloc o).cell? ⟨w.heap.size,0,none⟩=some (.slice none 0 0):=fun o=>K.zai (K.zad h1 rfl) o
 have k1:∀o,(w1.alloc o).cell? ⟨w.heap.size,1,none⟩=some (.int .i64 0):=fun o=>K.zai (K.zad h1 rfl) o
 have k2:∀o,(w1.alloc o).cell? ⟨w.heap.size,2,none⟩=some (.int .i64 0):=fun o=>K.zai (K.zad h1 rfl) o
 have k3:∀o,(w1.alloc o).cell? ⟨w.heap.size+1,0,none⟩=some (.int .i64 0):=fun o=>K.zai (K.zad h2 rfl) o
 have k4:∀o,(w1.alloc o).cell? ⟨w.heap.size+1,1,none⟩=some (.int .i64 0):=fun o=>K.zai (K.zad h2 rfl) o
 have g0:=fun o i=>K.zal h1 o i
 have g1:=fun o i=>K.zal h2 o i
 clear b1 B1 HC h1 h2;go_wp2
 go_region
 go_wp2;refine bodyPost_ret (v:= .tuple #[.agg #[.slice none 0 0,.int .i64 0,.int .i64 0],.agg #[.int .i64 e1,.int .i64 e2]]) (by simp[results,results18,go_sem, *]) rfl ?_
 exact⟨rfl,(K.five (HB2.out _) qN (by omega) _ _ _ _ _).1.drew⟩
theorem zu4 (w:World)(v:Value)(l:List K.Rule)(R0:V.Rus w v l)(vt:Value)(t:List Int)(Rt:L.Rd w vt .i32 t)(hgood:(K.checkF l t).1=0)(h0:0<t.length)(o1:Int)(o2:List Int)(o3 o4:Int)(hO:K.play l (8*t.length+40) [] t 0 0=(o1,o2,o3,o4)) :
  Calls prog 18 #[v,vt] w fun e w'=>∃v',e= .returned (.tuple #[.agg #[v',.int .i64 o3,.int .i64 o4],.agg #[.int .i64 o1,.int .i64 0]])/\L.Rd w' v' .i32 o2/\Below w.heap.size w w':=by
 obtain⟨z1,z2,hck⟩:=K.zcp hgood;obtain⟨hl,hE,_⟩:=K.zbd z1;have ht:=K.zcw z2;have HO:=qH hO;have HE:=qH hE;have HA:=qH <| fun o1 o2=>((qR w).alloc qN o1).alloc (by simp) o2
 have HC:Hid (∀o1 o2,Calls prog 42 #[v,vt] ((w.alloc o1).alloc o2) fun e w'=>e= .returned (.agg #[.int .i64 0,.int .i64 0])/\Below ((w.alloc o1).alloc o2).heap.size ((w.alloc o1).alloc o2) w'):=fun o1 o2=>by
  have h:=zef _ _ l (R0.below (HA.out o1 o2)) vt t (Rt.below (HA.out o1 o2) qN) (by omega);rw[hck] at h;exact h
 have HR:=qH R0;have HT:=qH Rt;obtain⟨ao,cap,rfl⟩:=R0.len;obtain⟨xo,xc,rfl,_⟩:=Rt;clear R0 hO hE hck z1 z2 hgood
 go_enter func18,ntmps18
 go_wp2_with fail
 refine(HC.out _ _).mono ?_;rintro e w1 ⟨rfl,b1⟩;obtain⟨h1,h2,B1,s1⟩:=K.zax b1;obtain⟨w2,hw2⟩:∃w2,w2=w1.alloc (.cells #[.int .i64 0,.int .i64 0] 38):=⟨_,rfl⟩;have hB2:Below w.heap.size w w2:=by rw[hw2];exact B1.alloc (by omega) _
 have hX2:K.Boxes w w2:=by rw[hw2];exact⟨(Below.heap_alloc w1 _ _ (by omega)).trans h1,(Below.heap_alloc w1 _ _ (by omega)).trans h2⟩
 have hs2:w.heap.size+2<=w2.heap.size:=by rw[hw2];simp;omega
 have HCl:Hid (Calls prog 43 #[.slice xo t.length xc] (w1.alloc (.cells #[.int .i64 0,.int .i64 0] 38)) fun e w'=>∃v',e= .returned v'/\w'.ownsRow w2.heap.size 21 1 v' t.length (K.ints t)/\Below w2.heap.size w2 w'):=by
  rw[<- hw2];exact zge w2 _ t (HT.out.below hB2 qN) ht
 have HR2:=qH <| HR.out.below hB2;have HB2:=qH hB2;have HX2:=qH hX2;clear b1 B1 HC h1 h2 hw2 hB2 hX2 HA HR
 go_wp2_with fail
 refine HCl.out.mono ?_;rintro e w3 ⟨v',rfl,own,b3⟩;obtain⟨g,gc,rfl,hg,hOwn⟩:=K.zvc own h0;obtain⟨w4,hw4⟩:∃w4,w4=w3.alloc (.cells #[.slice (some ⟨g,0,none⟩) t.length gc,.int .i64 0] 89):=⟨_,rfl⟩;have hb34:Below w3.heap.size w3 w4:=by rw[hw4];exact(qR w3).alloc qN _
 have hs3:=b3.size
 have HS4:Hid (K.St w2.heap.size w3.heap.size w4 g gc ([]++t) (0:Nat)):=by
  refine⟨hs3,?_,hg,hOwn.below hb34⟩;rw[hw4];exact heap_alloc_new w3 _
 have HB4:=qH <| b3.trans (hb34.mono hs3);obtain⟨bs,hbs⟩:∃bs,bs=w3.heap.size:=⟨_,rfl⟩;rw[<- hbs] at HS4;clear own hOwn b3 hb34 HCl hg;go_wp2;rw[<- hw4,<- hbs];clear hw4 hbs hs3
 go_loopw [8,9] (fun i8 i9 wr=>∃(left:Nat) (done rest:List Int) (s p g gc:Nat),i8= .int .i64 s/\i9= .int .i64 p/\s+left<=8*t.length+40/\8*t.length+40<=s+left/\p<=s/\Hid (K.play l left done rest s p=(o1,o2,o3,o4))/\Hid (K.St w2.heap.size bs wr g gc (done++rest) done.length)/\Hid (Below w2.heap.size w2 wr)/\done.length+rest.length<=4000) (fun i8 _ _=>8*t.length+41 - (intOf i8).toNat)
 case atStart=>exact⟨8*t.length+40,[],t,0,0,g,gc,rfl,rfl,by omega,by omega,by omega,HO,HS4,HB4,by simpa using ht⟩
 case round =>
  obtain⟨left,done,rest,s,p,g,gc,rfl,rfl,hs1,hs2',hps,HP,HS,HB,h4⟩:=hrel;have x0:=K.zad (i:=0) HS.out.2.1 rfl;have x1:=K.zad (i:=1) HS.out.2.1 rfl;obtain⟨N,hN⟩:∃N,N=(done++rest).length:=⟨_,rfl⟩;have hN2:N=done.length+rest.length:=by rw[hN];simp
  rw[<- hN] at x0;have HBW:=qH <| HB2.out.trans (HB.out.mono (by omega));have HBX:=qH <| K.zdg HX2.out HB.out
  by_cases hr:rest.length=0
  ·have hrn:=List.eq_nil_of_length_eq_zero hr;have hp:=HP.out;rw[K.zbu hr] at hp;have HP2:=qH hp;obtain⟨y0,y1,y2⟩:wr.cell? ⟨w.heap.size,0,none⟩=some (.slice none 0 0)/\wr.cell? ⟨w.heap.size,1,none⟩=some (.int .i64 0)/\wr.cell? ⟨w.heap.size,2,none⟩=some (.int .i64 0):=⟨K.zad HBX.out.1 rfl,K.zad HBX.out.1 rfl,K.zad HBX.out.1 rfl⟩;obtain⟨y3,y4⟩:wr.cell? ⟨w.heap.size+1,0,none⟩=some (.int .i64 0)/\wr.cell? ⟨w.heap.size+1,1,none⟩=some (.int .i64 0):=⟨K.zad HBX.out.2 rfl,K.zad HBX.out.2 rfl⟩;have fa:=fun i=>frozen_of_row wr _ i _ _ HBX.out.1
   have fb:=fun i=>frozen_of_row wr _ i _ _ HBX.out.2
   have hlt:¬(done.length:Int)<N:=by omega
   have HRd:Hid (g≠w.heap.size/\g≠w.heap.size+1/\K.OwnT wr g gc done/\N=done.length):=by
    have h1:=HS.out.2.2.1;have h2:=HS.out.2.2.2;rw[hrn,List.append_nil] at h2;exact⟨by omega,by omega,h2,by omega⟩
   clear hp hN hN2 HX2 HBX HS HB HB2 HR2 HP;go_wp2;refine bodyPost_ret (v:= .tuple #[.agg #[.slice (some ⟨g,0,none⟩) N gc,.int .i64 s,.int .i64 p],.agg #[.int .i64 0,.int .i64 0]]) (by simp[results,results18,go_sem, *]) rfl ?_;obtain⟨f1,f2⟩:=K.five HBW.out qN (by omega:w.heap.size<=w.heap.size+1) (.slice (some ⟨g,0,none⟩) N gc) (.int .i64 s) (.int .i64 p) (.int .i64 0) (.int .i64 0);have he:=HP2.out;simp only[Prod.mk.injEq] at he;obtain⟨rfl,rfl,rfl,rfl⟩:=he;obtain⟨cur,row,hcu⟩:=HRd.out.2.2.1;refine⟨_,rfl,?_,f1⟩;rw[HRd.out.2.2.2];exact K.OwnT.rd ⟨cur,row.block (by rw[<- HRd.out.2.2.2];exact f2 g HRd.out.1 HRd.out.2.1),hcu⟩
  ·have hlt:(done.length:Int)<N:=by omega
   cases left with
   | zero =>
    have hp:=HP.out;rw[K.zcz hr] at hp;have HP2:=qH hp;obtain⟨y0,y1,y2⟩:wr.cell? ⟨w.heap.size,0,none⟩=some (.slice none 0 0)/\wr.cell? ⟨w.heap.size,1,none⟩=some (.int .i64 0)/\wr.cell? ⟨w.heap.size,2,none⟩=some (.int .i64 0):=⟨K.zad HBX.out.1 rfl,K.zad HBX.out.1 rfl,K.zad HBX.out.1 rfl⟩;obtain⟨y3,y4⟩:wr.cell? ⟨w.heap.size+1,0,none⟩=some (.int .i64 0)/\wr.cell? ⟨w.heap.size+1,1,none⟩=some (.int .i64 0):=⟨K.zad HBX.out.2 rfl,K.zad HBX.out.2 rfl⟩;have fa:=fun i=>frozen_of_row wr _ i _ _ HBX.out.1
    have fb:=fun i=>frozen_of_row wr _ i _ _ HBX.out.2
    have heq:(s:Int)=8*(t.length:Int)+40:=by omega
    clear hp hN hN2 HX2 HBX HS HB HB2 HR2 HP
    go_wp2_with (go_at_call 44;refine(zew _ t.length ht).mono ?_;rintro e wq ⟨rfl,rfl⟩)
    refine bodyPost_ret (v:= .tuple #[.agg #[.slice none 0 0,.int .i64 0,.int .i64 0],.agg #[.int .i64 9,.int .i64 0]]) (by simp[results,results18,go_sem, *]) rfl ?_;have he:=HP2.out;simp only[Prod.mk.injEq] at he;obtain⟨rfl,rfl,rfl,rfl⟩:=he;exact⟨_,rfl,⟨none,0,rfl,fun _=>rfl,fun h=>absurd rfl h⟩,(K.five HBW.out qN (by omega:w.heap.size<=w.heap.size+1) _ _ _ _ _).1⟩
   | succ left =>
    have hneq:¬(s:Int)=8*(t.length:Int)+40:=by omega
    have hNl:(done++rest).length<=4000:=by omega
    have hdl:done.length<(done++rest).length:=by omega
    rcases K.zbr (l:=l) (t:=done++rest) (k:=(done.length:Int)) with hw | ⟨j,r,hj,hm,hw⟩
    ·have hp:=HP.out;rw[K.zc7 hr hw] at hp;have HP2:Hid (K.play l left (done++rest.take 1) (rest.drop 1) ((s+1:Nat):Int) p=(o1,o2,o3,o4)):=by rw[Int.natCast_add];exact hp
     have HStep:=zon w2 _ l HR2.out hl HE.out wr HB.out bs g gc (done++rest) done.length HS.out hNl hdl hw
     have HSt2:Hid (∀W,K.St w2.heap.size bs W g gc (done++rest) ((done.length:Int)+1)->K.St w2.heap.size bs W g gc ((done++rest.take 1)++rest.drop 1) ((done++rest.take 1).length:Nat)):=fun W h=>by
      rw[List.append_assoc,List.take_append_drop,show (((done++rest.take 1).length:Nat):Int)=(done.length:Int)+1 by simp;omega];exact h
     have HLen:Hid ((done++rest.take 1).length+(rest.drop 1).length<=4000):=by show _<=_;simp;omega
     clear hp hN hN2 HX2 HBX HS HR2 HP
     go_wp2_with (go_at_call 44;refine(zew _ t.length ht).mono ?_;rintro e wq ⟨rfl,rfl⟩)
     refine HStep.mono ?_;rintro e w5 ⟨rfl,s5,b5⟩;have HS5:=HSt2.out _ s5;have HB5:=qH <| HB.out.trans b5;have HS6:=qH HS5;clear s5 b5 HS5 HStep x0 x1;go_wp2
     go_roundw
     case rel=>exact⟨left,_,_,s+1,p,g,gc,by go_num,rfl,by omega,by omega,by omega,HP2,HS6,HB5,HLen.out⟩
     case measure=>simp[intOf];omega
    ·have hrE:=HE.out r (List.mem_of_getElem? hj);have hfit:=K.fits hrE hm;obtain⟨_,_,_,hsrc,hta,_,hc0,hc1⟩:=K.zao hrE;have hrl:=K.zdt (r:=r) (rest:=rest)
     by_cases hlong:4000<done.length+(K.restOf r rest).length
     ·have hp:=HP.out;rw[K.zb2 hr hw hj hlong] at hp;have HP2:=qH hp;have HStep:=zoo w2 _ l HR2.out hl HE.out wr HB.out bs g gc (done++rest) done.length HS.out hNl hdl j r hw hj hm (by rw[List.length_append];omega);clear hp hN hN2 HX2 HS HR2 HP
      go_wp2_with (go_at_call 44;refine(zew _ t.length ht).mono ?_;rintro e wq ⟨rfl,rfl⟩)
      refine HStep.mono ?_;rintro e w5 ⟨rfl,b5⟩;have bx:=K.zdg HBX.out b5;obtain⟨y0,y1,y2⟩:w5.cell? ⟨w.heap.size,0,none⟩=some (.slice none 0 0)/\w5.cell? ⟨w.heap.size,1,none⟩=some (.int .i64 0)/\w5.cell? ⟨w.heap.size,2,none⟩=some (.int .i64 0):=⟨K.zad bx.1 rfl,K.zad bx.1 rfl,K.zad bx.1 rfl⟩;obtain⟨y3,y4⟩:w5.cell? ⟨w.heap.size+1,0,none⟩=some (.int .i64 0)/\w5.cell? ⟨w.heap.size+1,1,none⟩=some (.int .i64 0):=⟨K.zad bx.2 rfl,K.zad bx.2 rfl⟩;have fa:=fun i=>frozen_of_row w5 _ i _ _ bx.1
      have fb:=fun i=>frozen_of_row w5 _ i _ _ bx.2
      have HB5:=qH <| HBW.out.trans (b5.mono HBW.out.size);clear b5 bx HStep x0 x1 HBX;go_wp2;refine bodyPost_ret (v:= .tuple #[.agg #[.slice none 0 0,.int .i64 0,.int .i64 0],.agg #[.int .i64 4,.int .i64 0]]) (by simp[results,results18,go_sem, *]) rfl ?_;have he:=HP2.out;simp only[Prod.mk.injEq] at he;obtain⟨rfl,rfl,rfl,rfl⟩:=he;exact⟨_,rfl,⟨none,0,rfl,fun _=>rfl,fun h=>absurd rfl h⟩,(K.five HB5.out qN (by omega:w.heap.size<=w.heap.size+1) _ _ _ _ _).1⟩
     ·have hp:=HP.out;rw[K.zcl hr hw hj hlong] at hp;have HP2:Hid (K.play l left (done++(K.restOf r rest).take r.cursor.toNat) ((K.restOf r rest).drop r.cursor.toNat) ((s+1:Nat):Int) ((p+1:Nat):Int)=(o1,o2,o3,o4)):=by rw[Int.natCast_add,Int.natCast_add];exact hp
      have hT2:done++K.restOf r rest=(done++rest).take done.length++r.target++(done++rest).drop (done.length+r.source.length):=by
       unfold K.restOf;rw[List.take_left,List.drop_append,List.append_assoc];simp
      have HStep:=zrf w2 _ l HR2.out hl HE.out wr HB.out bs g gc (done++rest) done.length HS.out hNl hdl j r hw hj hm (by rw[List.length_append];omega) (done++K.restOf r rest) hT2
      have HSt2:Hid (∀W g' gc',K.St w2.heap.size bs W g' gc' (done++K.restOf r rest) ((done.length:Int)+r.cursor)->K.St w2.heap.size bs W g' gc' ((done++(K.restOf r rest).take r.cursor.toNat)++(K.restOf r rest).drop r.cursor.toNat) ((done++(K.restOf r rest).take r.cursor.toNat).length:Nat)):=fun W g' gc' h=>by
       rw[List.append_assoc,List.take_append_drop,show (((done++(K.restOf r rest).take r.cursor.toNat).length:Nat):Int)=(done.length:Int)+r.cursor by simp;omega];exact h
      have HLen:Hid ((done++(K.restOf r rest).take r.cursor.toNat).length+((K.restOf r rest).drop r.cursor.toNat).length<=4000):=by show _<=_;simp;omega
      have hj0:(0:Int)<=j:=by omega
      clear hp hN hN2 HX2 HBX HS HR2 HP hT2
      go_wp2_with (go_at_call 44;refine(zew _ t.length ht).mono ?_;rintro e wq ⟨rfl,rfl⟩)
      refine HStep.mono ?_;rintro e w5 ⟨rfl,g',gc',s5,b5⟩;have HS5:=HSt2.out _ _ _ s5;have HB5:=qH <| HB.out.trans b5;have HS6:=qH HS5;clear s5 b5 HS5 HStep x0 x1;go_wp2
      go_roundw
      case rel=>exact⟨left,_,_,s+1,p+1,g',gc',by go_num,by go_num,by omega,by omega,by omega,HP2,HS6,HB5,HLen.out⟩
      case measure=>simp[intOf];omega
theorem zox (w:World)(v:Value)(l:List K.Rule)(R0:V.Rus w v l)(vt:Value)(Rt:L.Rd w vt .i32 [])(hgood:(K.checkF l []).1=0) :
  Calls prog 18 #[v,vt] w fun e w'=>∃v',e= .returned (.tuple #[.agg #[v',.int .i64 0,.int .i64 0],.agg #[.int .i64 0,.int .i64 0]])/\L.Rd w' v' .i32 []/\Below w.heap.size w w':=by
 obtain⟨z1,z2,hck⟩:=K.zcp hgood;have HA:=qH <| fun o1 o2=>((qR w).alloc qN o1).alloc (by simp) o2
 have HC:Hid (∀o1 o2,Calls prog 42 #[v,vt] ((w.alloc o1).alloc o2) fun e w'=>e= .returned (.agg #[.int .i64 0,.int .i64 0])/\Below ((w.alloc o1).alloc o2).heap.size ((w.alloc o1).alloc o2) w'):=fun o1 o2=>by
  have h:=zef _ _ l (R0.below (HA.out o1 o2)) vt [] (Rt.below (HA.out o1 o2) qN) (by simp);rw[hck] at h;exact h
 have HT:=qH Rt;obtain⟨ao,cap,rfl⟩:=R0.len;obtain⟨xo,xc,rfl,_⟩:=Rt;simp only[List.length_nil] at *;clear R0 hck z1 z2 hgood
 go_enter func18,ntmps18
 go_wp2_with fail
 refine(HC.out _ _).mono ?_;rintro e w1 ⟨rfl,b1⟩;obtain⟨h1,h2,B1,s1⟩:=K.zax b1;obtain⟨w2,hw2⟩:∃w2,w2=w1.alloc (.cells #[.int .i64 0,.int .i64 0] 38):=⟨_,rfl⟩;have hB2:Below w.heap.size w w2:=by rw[hw2];exact B1.alloc (by omega) _
 have hX2:K.Boxes w w2:=by rw[hw2];exact⟨(Below.heap_alloc w1 _ _ (by omega)).trans h1,(Below.heap_alloc w1 _ _ (by omega)).trans h2⟩
 have hs2:w.heap.size+2<=w2.heap.size:=by rw[hw2];simp;omega
 have HCl:Hid (Calls prog 43 #[.slice xo 0 xc] (w1.alloc (.cells #[.int .i64 0,.int .i64 0] 38)) fun e w'=>∃v',e= .returned v'/\w'.ownsRow w2.heap.size 21 1 v' 0 []/\Below w2.heap.size w2 w'):=by
  rw[<- hw2];exact zge w2 _ [] (HT.out.below hB2 qN) (by simp)
 have HB2:=qH hB2;have HX2:=qH hX2;clear b1 B1 HC h1 h2 hw2 hB2 hX2 HA
 go_wp2_with fail
 refine HCl.out.mono ?_;rintro e w3 ⟨v',rfl,own,b3⟩
 obtain⟨ga,gc,rfl,hgn⟩:∃ga gc,v'= .slice ga 0 gc/\(ga=none->gc=0):=by
  rcases own.2 with ⟨h,_⟩|⟨g,cap,cur,h,_⟩
  ·exact⟨none,0,h,fun _=>rfl⟩
  ·exact⟨_,cap,h,fun e=>by cases e⟩
 have hs3:=b3.size;have bx:=K.zdg HX2.out b3;have k0:∀o,(w3.alloc o).cell? ⟨w.heap.size,0,none⟩=some (.slice none 0 0):=fun o=>K.zai (K.zad bx.1 rfl) o
 have k1:∀o,(w3.alloc o).cell? ⟨w.heap.size,1,none⟩=some (.int .i64 0):=fun o=>K.zai (K.zad bx.1 rfl) o
 have k2:∀o,(w3.alloc o).cell? ⟨w.heap.size,2,none⟩=some (.int .i64 0):=fun o=>K.zai (K.zad bx.1 rfl) o
 have k3:∀o,(w3.alloc o).cell? ⟨w.heap.size+1,0,none⟩=some (.int .i64 0):=fun o=>K.zai (K.zad bx.2 rfl) o
 have k4:∀o,(w3.alloc o).cell? ⟨w.heap.size+1,1,none⟩=some (.int .i64 0):=fun o=>K.zai (K.zad bx.2 rfl) o
 have g0:=fun o i=>K.zal bx.1 o i
 have g1:=fun o i=>K.zal bx.2 o i
 have HB4:=qH <| fun o=>(HB2.out.trans (b3.mono (by omega))).alloc (by omega) o
 clear own b3 bx HCl HX2;go_wp2;refine wp_loop_rounds 1 ?_;rw[rounds_succ];go_wp2;refine bodyPost_ret (v:= .tuple #[.agg #[.slice ga 0 gc,.int .i64 0,.int .i64 0],.agg #[.int .i64 0,.int .i64 0]]) (by simp[results,results18,go_sem, *]) rfl ?_;exact⟨_,rfl,⟨ga,gc,rfl,hgn,fun h=>absurd rfl h⟩,(K.five (HB4.out _) qN (by omega:w.heap.size<=w.heap.size+1) _ _ _ _ _).1⟩
theorem zry (w:World)(v:Value)(l:List K.Rule)(R0:V.Rus w v l)(vt:Value)(t:List Int)(Rt:L.Rd w vt .i32 t)(ht:t.length<=140737488355328) :
  Calls prog 18 #[v,vt] w fun e w'=>∃v',e= .returned (.tuple #[.agg #[v',.int .i64 (K.runF l t).1.2.1,.int .i64 (K.runF l t).1.2.2],.agg #[.int .i64 (K.runF l t).2.1,.int .i64 (K.runF l t).2.2]])/\L.Rd w' v' .i32 (K.runF l t).1.1/\Below w.heap.size w w':=by
 unfold K.runF
 by_cases hg:(K.checkF l t).1=0
 ·rw[if_pos hg]
  by_cases h0:t.length=0
  ·obtain rfl:t= []:=List.eq_nil_of_length_eq_zero h0;rw[K.zbu (by simp)];exact zox w v l R0 vt Rt hg
  ·obtain⟨⟨o1,o2,o3,o4⟩,hO⟩:∃o,K.play l (8*t.length+40) [] t 0 0=o:=⟨_,rfl⟩;rw[hO];exact zu4 w v l R0 vt t Rt hg (by omega) o1 o2 o3 o4 hO
 ·rw[if_neg hg];exact(ztw w v l R0 vt t Rt ht hg).mono fun e w' ⟨h1,h2⟩=>⟨_,h1,⟨none,0,rfl,fun _=>rfl,fun h=>absurd rfl h⟩,h2⟩
end
section
open Go.RowKit Go.Lib Go.Sort
def subF (a b:List S.Sp):Bool:=a.all fun x=>b.any fun y=>decide (y.1<=x.1)&&decide (x.2<=y.2)
end
namespace K
open S (Sp)
theorem zh8 {t:List Int}{l:List (List Sp)}:∀ {k:Int},runAt t k l=true↔∀(i:Nat) s,l[i]?=some s->0<=k+i/\k+i<t.length/\S.memb s (t.getD (k+i).toNat 0)=true:=by
 induction l with
 | nil=>intro k;simp[runAt]
 | cons x l ih =>
  intro k;rw[runAt,Bool.and_eq_true,ih];simp only[Bool.and_eq_true,decide_eq_true_eq];constructor
  ·rintro ⟨⟨⟨h1,h2⟩,h3⟩,h4⟩ i s hs;cases i with
   | zero =>
    simp only[List.getElem?_cons_zero,Option.some.injEq] at hs;subst hs;have e:k+((0:Nat):Int)=k:=by omega
    rw[e];exact⟨h1,h2,h3⟩
   | succ i =>
    have:=h4 i s (by simpa using hs);rw[show k+((i+1:Nat):Int)=k+1+i by omega];exact this
  ·intro h;refine⟨?_,fun i s hs=> ?_⟩
   ·have:=h 0 x rfl;have e:k+((0:Nat):Int)=k:=by omega
    rw[e] at this;exact⟨⟨this.1,this.2.1⟩,this.2.2⟩
   ·have:=h (i+1) s (by simpa using hs);rw[show k+((i+1:Nat):Int)=k+1+i by omega] at this;exact this
theorem zmy {r:Rule}{t:List Int}{k:Int}:matchB r t k=true↔runAt t (k - r.before.length) r.before=true/\runAt t k (r.source++r.after)=true/\(r.start=true->k - r.before.length<=0)/\(r.fin=true->(t.length:Int)<=k+(r.source++r.after).length):=by
 unfold matchB;rw[List.append_assoc,zbo,show k - (r.before.length:Int)+r.before.length=k by omega];simp only[Bool.and_eq_true,Bool.not_eq_true',Bool.and_eq_false_iff,decide_eq_false_iff_not,List.length_append];constructor
 ·rintro ⟨⟨⟨h1,h2⟩,h3⟩,h4⟩;refine⟨h1,h2,fun h=> ?_,fun h=> ?_⟩
  ·rcases h3 with h3 | h3
   ·rw[h] at h3;cases h3
   ·omega
  ·rcases h4 with h4 | h4
   ·rw[h] at h4;cases h4
   ·omega
 ·rintro ⟨h1,h2,h3,h4⟩;refine⟨⟨⟨h1,h2⟩,?_⟩,?_⟩
  ·cases hs:r.start with
   | false=>exact .inl rfl
   | true=>have:=h3 hs;exact .inr (by omega)
  ·cases hs:r.fin with
   | false=>exact .inl rfl
   | true=>have:=h4 hs;exact .inr (by omega)
def withinB:List (List Sp)->List (List Sp)->Bool
 | [],_=>true
 | _::_,[]=>false
 | s::l,u::m=>subF u s&&withinB l m
def coversB (e1:Bool) (l1:List (List Sp)) (e2:Bool) (l2:List (List Sp)):Bool:=withinB l1 l2&& !(e1&& !(e2&&decide (l1.length=l2.length)))
def masksB (a b:Rule):Bool:=coversB a.start a.before.reverse b.start b.before.reverse&&coversB a.fin (a.source++a.after) b.fin (b.source++b.after)
def maskAt (l:List Rule) (k:Nat):Bool:=(l.take k).any fun a=>masksB a ((l[k]?).getD noRule)
def maskedN (l:List Rule) (n:Nat):List Int:=((List.range n).filter (maskAt l)).map fun k:Nat=>(k:Int)
def maskedL (l:List Rule):List Int:=maskedN l l.length
def behind (l:List Rule):Nat:=l.foldl (fun m r=>max m r.before.length) 0
def ahead (l:List Rule):Nat:=l.foldl (fun m r=>max m (r.source.length+r.after.length)) 0
def goesB (r:Rule):Bool:=decide (r.cursor=r.target.length)
def sureB (l:List Rule):Bool:=l.all goesB
theorem zb9 {t u:List Int}(h:allR t=true)(hs:∀x∈u,x∈t):allR u=true:=by
 unfold allR at h ⊢;rw[List.all_eq_true] at h ⊢;exact fun x hx=>h x (hs x hx)
theorem zfn {r:Rule}{t:List Int}{k:Int}(hE:ruleE r=0)(h:matchB r t k=true):0<=k/\k<t.length/\S.memb (headS r) (t.getD k.toNat 0)=true:=by
 have hs:=(zao hE).2.2.2.1;rw[zmy,zh8,zh8] at h;obtain⟨x,hx⟩:∃x,r.source[0]?=some x:=⟨r.source[0],by simp⟩;have:=h.2.1 0 x (by rw[List.getElem?_append_left hs];exact hx)
 have e:headS r=x:=by
  unfold headS;cases hq:r.source with
  | nil=>rw[hq] at hx;simp at hx
  | cons y l=>rw[hq] at hx;simpa using hx
 rw[e,show k+((0:Nat):Int)=k by omega] at *;exact this
def stirsB (P:Int->Bool) (r:Rule):Bool:= !(decide (r.source.length=1))||decide (0<r.after.length)||r.fin||r.target.any P
def steadyB (l:List Rule):Bool:=sureB l&& !(l.any (stirsB (S.memb (firstsL l))))
def pick (l:List Rule) (t:List Int) (k:Int):Option Rule:=l.find? fun r=>matchB r t k
def without (l:List Rule) (k:Nat):List Rule:=l.take k++l.drop (k+1)
end K
