/-
 What Run answers: the program.
-/
import Derived.Test.YtmcljejgbikbhaaGreatDoorQClone
import Derived.Test.YtmcljejgbikbhaaGreatDoorCnPl
import Derived.Test.YtmcljejgbikbhaaGreatDoorTpAlive
import Derived.Test.YtmcljejgbikbhaaGreatDoorQRepl2
set_option maxRecDepth 20000
set_option linter.unusedSimpArgs false
set_option linter.unusedVariables false
namespace Go.Proofs.YtmcljejgbikbhaaGreatDoor
open Go.RowKit Go.Lib
set_option maxHeartbeats 1000000 in
theorem most_any (w:World)(n:Nat)(hn:n<=4000) :
  Calls Tryz.prog 35 #[.int .i64 (n:Int)] w fun e w'=>e= .returned (.int .i64 (8*(n:Int)+40))/\w'=w:=by
 have e1:IntKind.i64.wrap (8*(n:Int))=8*(n:Int):=by rw[IntKind.wrap_i64];omega
 have e2:IntKind.i64.wrap (8*(n:Int)+40)=8*(n:Int)+40:=by rw[IntKind.wrap_i64];omega
 go_enter Tryz.func35,Tryz.ntmps35
 go_wp2
 go_ret
 exact⟨by simp[e1,e2],rfl⟩
namespace K
theorem own_of {w:World}{B:Nat}{v:Value}{t:List Int}(h:w.ownsRow B 21 1 v t.length (ints t))(h0:0<t.length):∃g cap,v= .slice (some ⟨g,0,none⟩) t.length cap/\B<=g/\OwnT w g cap t:=by
 rcases h.2 with ⟨_,h1⟩|⟨g,cap,cur,hv,hB,hg,hle,hmax,hsz,htk⟩
 ·omega
 ·exact⟨g,cap,hv,hB,cur.toList,by simpa [Row] using hg,by simpa using hsz,hle,hmax,by simpa using htk⟩
end K
set_option maxHeartbeats 4000000 in
theorem run_bad (w:World)(v:Value)(l:List K.Rule)(R0:V.Rus w v l)(vt:Value)(t:List Int)(Rt:L.Rd w vt .i32 t)(ht:t.length<=140737488355328)(hbad:¬(K.checkF l t).1=0) :
  Calls Tryz.prog 16 #[v,vt] w fun e w'=>e= .returned (.tuple #[.agg #[.slice none 0 0,.int .i64 0,.int .i64 0],.agg #[.int .i64 (K.checkF l t).1,.int .i64 (K.checkF l t).2]])/\Below w.heap.size w w':=by
 have HA:Hid (∀o1 o2,Below w.heap.size w ((w.alloc o1).alloc o2)):=fun o1 o2=>((Below.refl _ w).alloc (Nat.le_refl _) o1).alloc (by simp) o2
 have HC:Hid (∀o1 o2,Calls Tryz.prog 33 #[v,vt] ((w.alloc o1).alloc o2) fun e w'=>e= .returned (.agg #[.int .i64 (K.checkF l t).1,.int .i64 (K.checkF l t).2])/\Below ((w.alloc o1).alloc o2).heap.size ((w.alloc o1).alloc o2) w'):=fun o1 o2=>qCheck_any _ _ l (R0.below (HA.out _ _)) vt t (Rt.below (HA.out _ _) (Nat.le_refl _)) ht
 obtain⟨ao,cap,rfl⟩:=R0.len
 obtain⟨xo,xc,rfl,_⟩:=Rt
 obtain⟨⟨e1,e2⟩,he⟩:∃o,K.checkF l t=o:=⟨_,rfl⟩
 rw[he] at HC hbad ⊢
 simp only at HC hbad ⊢
 clear he R0
 go_enter Tryz.func16,Tryz.ntmps16
 go_wp2_with fail
 refine(HC.out _ _).mono ?_
 rintro e w1 ⟨rfl,b1⟩
 obtain⟨h1,h2,B1,s1⟩:=K.two_boxes b1
 have HB2:Hid (∀o,Below w.heap.size w (w1.alloc o)):=fun o=>B1.alloc (by omega) o
 have k0:∀o,(w1.alloc o).cell? ⟨w.heap.size,0,none⟩=some (.slice none 0 0):=fun o=>K.alloc_cell (K.at_box h1 rfl) o
 have k1:∀o,(w1.alloc o).cell? ⟨w.heap.size,1,none⟩=some (.int .i64 0):=fun o=>K.alloc_cell (K.at_box h1 rfl) o
 have k2:∀o,(w1.alloc o).cell? ⟨w.heap.size,2,none⟩=some (.int .i64 0):=fun o=>K.alloc_cell (K.at_box h1 rfl) o
 have k3:∀o,(w1.alloc o).cell? ⟨w.heap.size+1,0,none⟩=some (.int .i64 0):=fun o=>K.alloc_cell (K.at_box h2 rfl) o
 have k4:∀o,(w1.alloc o).cell? ⟨w.heap.size+1,1,none⟩=some (.int .i64 0):=fun o=>K.alloc_cell (K.at_box h2 rfl) o
 have g0:∀o i,(w1.alloc o).frozen? ⟨w.heap.size,i,none⟩=false:=fun o i=>K.alloc_free h1 o i
 have g1:∀o i,(w1.alloc o).frozen? ⟨w.heap.size+1,i,none⟩=false:=fun o i=>K.alloc_free h2 o i
 clear b1 B1 HC h1 h2
 go_wp2
 go_region
 go_wp2
 refine bodyPost_ret (v:= .tuple #[.agg #[.slice none 0 0,.int .i64 0,.int .i64 0],.agg #[.int .i64 e1,.int .i64 e2]]) (by simp[results,Tryz.results16,go_sem, *]) rfl ?_
 exact⟨rfl,(K.five (HB2.out _) (Nat.le_refl _) (by omega) _ _ _ _ _).1.drew⟩
set_option maxHeartbeats 8000000 in
theorem run_ok (w:World)(v:Value)(l:List K.Rule)(R0:V.Rus w v l)(vt:Value)(t:List Int)(Rt:L.Rd w vt .i32 t)(hgood:(K.checkF l t).1=0)(h0:0<t.length)(o1:Int)(o2:List Int)(o3 o4:Int)(hO:K.play l (8*t.length+40) [] t 0 0=(o1,o2,o3,o4)) :
  Calls Tryz.prog 16 #[v,vt] w fun e w'=>∃v',e= .returned (.tuple #[.agg #[v',.int .i64 o3,.int .i64 o4],.agg #[.int .i64 o1,.int .i64 0]])/\L.Rd w' v' .i32 o2/\Below w.heap.size w w':=by
 obtain⟨z1,z2,hck⟩:=K.checkF_zero hgood
 obtain⟨hl,hE,_⟩:=K.rulesF_zero z1
 have ht:=K.textE_zero z2
 have HO:Hid (K.play l (8*t.length+40) [] t 0 0=(o1,o2,o3,o4)):=hO
 have HE:Hid (∀r∈l,K.ruleE r=0):=hE
 have HA:Hid (∀o1 o2,Below w.heap.size w ((w.alloc o1).alloc o2)):=fun o1 o2=>((Below.refl _ w).alloc (Nat.le_refl _) o1).alloc (by simp) o2
 have HC:Hid (∀o1 o2,Calls Tryz.prog 33 #[v,vt] ((w.alloc o1).alloc o2) fun e w'=>e= .returned (.agg #[.int .i64 0,.int .i64 0])/\Below ((w.alloc o1).alloc o2).heap.size ((w.alloc o1).alloc o2) w'):=fun o1 o2=>by
  have h:=qCheck_any _ _ l (R0.below (HA.out o1 o2)) vt t (Rt.below (HA.out o1 o2) (Nat.le_refl _)) (by omega)
  rw[hck] at h
  exact h
 have HR:Hid (V.Rus w v l):=R0
 have HT:Hid (L.Rd w vt .i32 t):=Rt
 obtain⟨ao,cap,rfl⟩:=R0.len
 obtain⟨xo,xc,rfl,_⟩:=Rt
 clear R0 hO hE hck z1 z2 hgood
 go_enter Tryz.func16,Tryz.ntmps16
 go_wp2_with fail
 refine(HC.out _ _).mono ?_
 rintro e w1 ⟨rfl,b1⟩
 obtain⟨h1,h2,B1,s1⟩:=K.two_boxes b1
 obtain⟨w2,hw2⟩:∃w2,w2=w1.alloc (.cells #[.int .i64 0,.int .i64 0] 33):=⟨_,rfl⟩
 have hB2:Below w.heap.size w w2:=by rw[hw2];exact B1.alloc (by omega) _
 have hX2:K.Boxes w w2:=by rw[hw2];exact⟨(Below.heap_alloc w1 _ _ (by omega)).trans h1,(Below.heap_alloc w1 _ _ (by omega)).trans h2⟩
 have hs2:w.heap.size+2<=w2.heap.size:=by rw[hw2];simp;omega
 have HCl:Hid (Calls Tryz.prog 34 #[.slice xo t.length xc] (w1.alloc (.cells #[.int .i64 0,.int .i64 0] 33)) fun e w'=>∃v',e= .returned v'/\w'.ownsRow w2.heap.size 21 1 v' t.length (K.ints t)/\Below w2.heap.size w2 w'):=by
  rw[<- hw2]
  exact qclone_any w2 _ t (HT.out.below hB2 (Nat.le_refl _)) ht
 have HR2:Hid (V.Rus w2 (.slice ao l.length cap) l):=HR.out.below hB2
 have HB2:Hid (Below w.heap.size w w2):=hB2
 have HX2:Hid (K.Boxes w w2):=hX2
 clear b1 B1 HC h1 h2 hw2 hB2 hX2 HA HR
 go_wp2_with fail
 refine HCl.out.mono ?_
 rintro e w3 ⟨v',rfl,own,b3⟩
 obtain⟨g,gc,rfl,hg,hOwn⟩:=K.own_of own h0
 obtain⟨w4,hw4⟩:∃w4,w4=w3.alloc (.cells #[.slice (some ⟨g,0,none⟩) t.length gc,.int .i64 0] 84):=⟨_,rfl⟩
 have hb34:Below w3.heap.size w3 w4:=by rw[hw4];exact(Below.refl _ w3).alloc (Nat.le_refl _) _
 have hs3:=b3.size
 have HS4:Hid (K.St w2.heap.size w3.heap.size w4 g gc ([]++t) (0:Nat)):=by
  refine⟨hs3,?_,hg,hOwn.below hb34⟩
  rw[hw4];exact heap_alloc_new w3 _
 have HB4:Hid (Below w2.heap.size w2 w4):=b3.trans (hb34.mono hs3)
 obtain⟨bs,hbs⟩:∃bs,bs=w3.heap.size:=⟨_,rfl⟩
 rw[<- hbs] at HS4
 clear own hOwn b3 hb34 HCl hg
 go_wp2
 rw[<- hw4,<- hbs]
 clear hw4 hbs hs3
 go_loopw [8,9] (fun i8 i9 wr=>∃(left:Nat) (done rest:List Int) (s p g gc:Nat),i8= .int .i64 s/\i9= .int .i64 p/\s+left<=8*t.length+40/\8*t.length+40<=s+left/\p<=s/\Hid (K.play l left done rest s p=(o1,o2,o3,o4))/\Hid (K.St w2.heap.size bs wr g gc (done++rest) done.length)/\Hid (Below w2.heap.size w2 wr)/\done.length+rest.length<=4000) (fun i8 _ _=>8*t.length+41 - (intOf i8).toNat)
 case atStart=>exact⟨8*t.length+40,[],t,0,0,g,gc,rfl,rfl,by omega,by omega,by omega,HO,HS4,HB4,by simpa using ht⟩
 case round =>
  obtain⟨left,done,rest,s,p,g,gc,rfl,rfl,hs1,hs2',hps,HP,HS,HB,h4⟩:=hrel
  have x0:=K.at_box (i:=0) HS.out.2.1 rfl
  have x1:=K.at_box (i:=1) HS.out.2.1 rfl
  obtain⟨N,hN⟩:∃N,N=(done++rest).length:=⟨_,rfl⟩
  have hN2:N=done.length+rest.length:=by rw[hN];simp
  rw[<- hN] at x0
  have HBW:Hid (Below w.heap.size w wr):=HB2.out.trans (HB.out.mono (by omega))
  have HBX:Hid (K.Boxes w wr):=K.boxes_below HX2.out HB.out
  by_cases hr:rest.length=0
  ·have hrn:rest= []:=List.eq_nil_of_length_eq_zero hr
   have hp:=HP.out
   rw[K.play_end hr] at hp
   have HP2:Hid (((0:Int),done,(s:Int),(p:Int))=(o1,o2,o3,o4)):=hp
   obtain⟨y0,y1,y2⟩:wr.cell? ⟨w.heap.size,0,none⟩=some (.slice none 0 0)/\wr.cell? ⟨w.heap.size,1,none⟩=some (.int .i64 0)/\wr.cell? ⟨w.heap.size,2,none⟩=some (.int .i64 0):=⟨K.at_box HBX.out.1 rfl,K.at_box HBX.out.1 rfl,K.at_box HBX.out.1 rfl⟩
   obtain⟨y3,y4⟩:wr.cell? ⟨w.heap.size+1,0,none⟩=some (.int .i64 0)/\wr.cell? ⟨w.heap.size+1,1,none⟩=some (.int .i64 0):=⟨K.at_box HBX.out.2 rfl,K.at_box HBX.out.2 rfl⟩
   have fa:∀i,wr.frozen? ⟨w.heap.size,i,none⟩=false:=fun i=>frozen_of_row wr _ i _ _ HBX.out.1
   have fb:∀i,wr.frozen? ⟨w.heap.size+1,i,none⟩=false:=fun i=>frozen_of_row wr _ i _ _ HBX.out.2
   have hlt:¬(done.length:Int)<N:=by omega
   have HRd:Hid (g≠w.heap.size/\g≠w.heap.size+1/\K.OwnT wr g gc done/\N=done.length):=by
    have h1:=HS.out.2.2.1
    have h2:=HS.out.2.2.2
    rw[hrn,List.append_nil] at h2
    exact⟨by omega,by omega,h2,by omega⟩
   clear hp hN hN2 HX2 HBX HS HB HB2 HR2 HP
   go_wp2
   refine bodyPost_ret (v:= .tuple #[.agg #[.slice (some ⟨g,0,none⟩) N gc,.int .i64 s,.int .i64 p],.agg #[.int .i64 0,.int .i64 0]]) (by simp[results,Tryz.results16,go_sem, *]) rfl ?_
   obtain⟨f1,f2⟩:=K.five HBW.out (Nat.le_refl _) (by omega:w.heap.size<=w.heap.size+1) (.slice (some ⟨g,0,none⟩) N gc) (.int .i64 s) (.int .i64 p) (.int .i64 0) (.int .i64 0)
   have he:=HP2.out
   simp only[Prod.mk.injEq] at he
   obtain⟨rfl,rfl,rfl,rfl⟩:=he
   obtain⟨cur,row,hcu⟩:=HRd.out.2.2.1
   refine⟨_,rfl,?_,f1⟩
   rw[HRd.out.2.2.2]
   exact K.OwnT.rd ⟨cur,row.block (by rw[<- HRd.out.2.2.2];exact f2 g HRd.out.1 HRd.out.2.1),hcu⟩
  ·have hlt:(done.length:Int)<N:=by omega
   cases left with
   | zero =>
    have hp:=HP.out
    rw[K.play_out hr] at hp
    have HP2:Hid (((9:Int),([]:List Int),(0:Int),(0:Int))=(o1,o2,o3,o4)):=hp
    obtain⟨y0,y1,y2⟩:wr.cell? ⟨w.heap.size,0,none⟩=some (.slice none 0 0)/\wr.cell? ⟨w.heap.size,1,none⟩=some (.int .i64 0)/\wr.cell? ⟨w.heap.size,2,none⟩=some (.int .i64 0):=⟨K.at_box HBX.out.1 rfl,K.at_box HBX.out.1 rfl,K.at_box HBX.out.1 rfl⟩
    obtain⟨y3,y4⟩:wr.cell? ⟨w.heap.size+1,0,none⟩=some (.int .i64 0)/\wr.cell? ⟨w.heap.size+1,1,none⟩=some (.int .i64 0):=⟨K.at_box HBX.out.2 rfl,K.at_box HBX.out.2 rfl⟩
    have fa:∀i,wr.frozen? ⟨w.heap.size,i,none⟩=false:=fun i=>frozen_of_row wr _ i _ _ HBX.out.1
    have fb:∀i,wr.frozen? ⟨w.heap.size+1,i,none⟩=false:=fun i=>frozen_of_row wr _ i _ _ HBX.out.2
    have heq:(s:Int)=8*(t.length:Int)+40:=by omega
    clear hp hN hN2 HX2 HBX HS HB HB2 HR2 HP
    go_wp2_with (go_at_call 35;refine(most_any _ t.length ht).mono ?_;rintro e wq ⟨rfl,rfl⟩)
    refine bodyPost_ret (v:= .tuple #[.agg #[.slice none 0 0,.int .i64 0,.int .i64 0],.agg #[.int .i64 9,.int .i64 0]]) (by simp[results,Tryz.results16,go_sem, *]) rfl ?_
    have he:=HP2.out
    simp only[Prod.mk.injEq] at he
    obtain⟨rfl,rfl,rfl,rfl⟩:=he
    exact⟨_,rfl,⟨none,0,rfl,fun _=>rfl,fun h=>absurd rfl h⟩,(K.five HBW.out (Nat.le_refl _) (by omega:w.heap.size<=w.heap.size+1) _ _ _ _ _).1⟩
   | succ left =>
    have hneq:¬(s:Int)=8*(t.length:Int)+40:=by omega
    have hNl:(done++rest).length<=4000:=by omega
    have hdl:done.length<(done++rest).length:=by omega
    rcases K.which_is (l:=l) (t:=done++rest) (k:=(done.length:Int)) with hw | ⟨j,r,hj,hm,hw⟩
    ·have hp:=HP.out
     rw[K.play_on hr hw] at hp
     have HP2:Hid (K.play l left (done++rest.take 1) (rest.drop 1) ((s+1:Nat):Int) p=(o1,o2,o3,o4)):=by rw[Int.natCast_add];exact hp
     have HStep:=step_none w2 _ l HR2.out hl HE.out wr HB.out bs g gc (done++rest) done.length HS.out hNl hdl hw
     have HSt2:Hid (∀W,K.St w2.heap.size bs W g gc (done++rest) ((done.length:Int)+1)->K.St w2.heap.size bs W g gc ((done++rest.take 1)++rest.drop 1) ((done++rest.take 1).length:Nat)):=fun W h=>by
      rw[List.append_assoc,List.take_append_drop,show (((done++rest.take 1).length:Nat):Int)=(done.length:Int)+1 by simp;omega]
      exact h
     have HLen:Hid ((done++rest.take 1).length+(rest.drop 1).length<=4000):=by show _<=_;simp;omega
     clear hp hN hN2 HX2 HBX HS HR2 HP
     go_wp2_with (go_at_call 35;refine(most_any _ t.length ht).mono ?_;rintro e wq ⟨rfl,rfl⟩)
     refine HStep.mono ?_
     rintro e w5 ⟨rfl,s5,b5⟩
     have HS5:=HSt2.out _ s5
     have HB5:Hid (Below w2.heap.size w2 w5):=HB.out.trans b5
     have HS6:Hid (K.St w2.heap.size bs w5 g gc ((done++rest.take 1)++rest.drop 1) ((done++rest.take 1).length:Nat)):=HS5
     clear s5 b5 HS5 HStep x0 x1
     go_wp2
     go_roundw
     case rel=>exact⟨left,_,_,s+1,p,g,gc,by go_num,rfl,by omega,by omega,by omega,HP2,HS6,HB5,HLen.out⟩
     case measure=>simp[intOf];omega
    ·have hrE:=HE.out r (List.mem_of_getElem? hj)
     have hfit:=K.fits hrE hm
     obtain⟨_,_,_,hsrc,hta,_,hc0,hc1⟩:=K.ruleE_zero hrE
     have hrl:=K.restOf_length (r:=r) (rest:=rest)
     by_cases hlong:4000<done.length+(K.restOf r rest).length
     ·have hp:=HP.out
      rw[K.play_much hr hw hj hlong] at hp
      have HP2:Hid (((4:Int),([]:List Int),(0:Int),(0:Int))=(o1,o2,o3,o4)):=hp
      have HStep:=step_much w2 _ l HR2.out hl HE.out wr HB.out bs g gc (done++rest) done.length HS.out hNl hdl j r hw hj hm (by rw[List.length_append];omega)
      clear hp hN hN2 HX2 HS HR2 HP
      go_wp2_with (go_at_call 35;refine(most_any _ t.length ht).mono ?_;rintro e wq ⟨rfl,rfl⟩)
      refine HStep.mono ?_
      rintro e w5 ⟨rfl,b5⟩
      have bx:=K.boxes_below HBX.out b5
      obtain⟨y0,y1,y2⟩:w5.cell? ⟨w.heap.size,0,none⟩=some (.slice none 0 0)/\w5.cell? ⟨w.heap.size,1,none⟩=some (.int .i64 0)/\w5.cell? ⟨w.heap.size,2,none⟩=some (.int .i64 0):=⟨K.at_box bx.1 rfl,K.at_box bx.1 rfl,K.at_box bx.1 rfl⟩
      obtain⟨y3,y4⟩:w5.cell? ⟨w.heap.size+1,0,none⟩=some (.int .i64 0)/\w5.cell? ⟨w.heap.size+1,1,none⟩=some (.int .i64 0):=⟨K.at_box bx.2 rfl,K.at_box bx.2 rfl⟩
      have fa:∀i,w5.frozen? ⟨w.heap.size,i,none⟩=false:=fun i=>frozen_of_row w5 _ i _ _ bx.1
      have fb:∀i,w5.frozen? ⟨w.heap.size+1,i,none⟩=false:=fun i=>frozen_of_row w5 _ i _ _ bx.2
      have HB5:Hid (Below w.heap.size w w5):=HBW.out.trans (b5.mono HBW.out.size)
      clear b5 bx HStep x0 x1 HBX
      go_wp2
      refine bodyPost_ret (v:= .tuple #[.agg #[.slice none 0 0,.int .i64 0,.int .i64 0],.agg #[.int .i64 4,.int .i64 0]]) (by simp[results,Tryz.results16,go_sem, *]) rfl ?_
      have he:=HP2.out
      simp only[Prod.mk.injEq] at he
      obtain⟨rfl,rfl,rfl,rfl⟩:=he
      exact⟨_,rfl,⟨none,0,rfl,fun _=>rfl,fun h=>absurd rfl h⟩,(K.five HB5.out (Nat.le_refl _) (by omega:w.heap.size<=w.heap.size+1) _ _ _ _ _).1⟩
     ·have hp:=HP.out
      rw[K.play_put hr hw hj hlong] at hp
      have HP2:Hid (K.play l left (done++(K.restOf r rest).take r.cursor.toNat) ((K.restOf r rest).drop r.cursor.toNat) ((s+1:Nat):Int) ((p+1:Nat):Int)=(o1,o2,o3,o4)):=by rw[Int.natCast_add,Int.natCast_add];exact hp
      have hT2:done++K.restOf r rest=(done++rest).take done.length++r.target++(done++rest).drop (done.length+r.source.length):=by
       unfold K.restOf
       rw[List.take_left,List.drop_append,List.append_assoc]
       simp
      have HStep:=step_put w2 _ l HR2.out hl HE.out wr HB.out bs g gc (done++rest) done.length HS.out hNl hdl j r hw hj hm (by rw[List.length_append];omega) (done++K.restOf r rest) hT2
      have HSt2:Hid (∀W g' gc',K.St w2.heap.size bs W g' gc' (done++K.restOf r rest) ((done.length:Int)+r.cursor)->K.St w2.heap.size bs W g' gc' ((done++(K.restOf r rest).take r.cursor.toNat)++(K.restOf r rest).drop r.cursor.toNat) ((done++(K.restOf r rest).take r.cursor.toNat).length:Nat)):=fun W g' gc' h=>by
       rw[List.append_assoc,List.take_append_drop,show (((done++(K.restOf r rest).take r.cursor.toNat).length:Nat):Int)=(done.length:Int)+r.cursor by simp;omega]
       exact h
      have HLen:Hid ((done++(K.restOf r rest).take r.cursor.toNat).length+((K.restOf r rest).drop r.cursor.toNat).length<=4000):=by show _<=_;simp;omega
      have hj0:(0:Int)<=j:=by omega
      clear hp hN hN2 HX2 HBX HS HR2 HP hT2
      go_wp2_with (go_at_call 35;refine(most_any _ t.length ht).mono ?_;rintro e wq ⟨rfl,rfl⟩)
      refine HStep.mono ?_
      rintro e w5 ⟨rfl,g',gc',s5,b5⟩
      have HS5:=HSt2.out _ _ _ s5
      have HB5:Hid (Below w2.heap.size w2 w5):=HB.out.trans b5
      have HS6:Hid (K.St w2.heap.size bs w5 g' gc' ((done++(K.restOf r rest).take r.cursor.toNat)++(K.restOf r rest).drop r.cursor.toNat) ((done++(K.restOf r rest).take r.cursor.toNat).length:Nat)):=HS5
      clear s5 b5 HS5 HStep x0 x1
      go_wp2
      go_roundw
      case rel=>exact⟨left,_,_,s+1,p+1,g',gc',by go_num,by go_num,by omega,by omega,by omega,HP2,HS6,HB5,HLen.out⟩
      case measure=>simp[intOf];omega
set_option maxHeartbeats 4000000 in
theorem run_empty (w:World)(v:Value)(l:List K.Rule)(R0:V.Rus w v l)(vt:Value)(Rt:L.Rd w vt .i32 [])(hgood:(K.checkF l []).1=0) :
  Calls Tryz.prog 16 #[v,vt] w fun e w'=>∃v',e= .returned (.tuple #[.agg #[v',.int .i64 0,.int .i64 0],.agg #[.int .i64 0,.int .i64 0]])/\L.Rd w' v' .i32 []/\Below w.heap.size w w':=by
 obtain⟨z1,z2,hck⟩:=K.checkF_zero hgood
 have HA:Hid (∀o1 o2,Below w.heap.size w ((w.alloc o1).alloc o2)):=fun o1 o2=>((Below.refl _ w).alloc (Nat.le_refl _) o1).alloc (by simp) o2
 have HC:Hid (∀o1 o2,Calls Tryz.prog 33 #[v,vt] ((w.alloc o1).alloc o2) fun e w'=>e= .returned (.agg #[.int .i64 0,.int .i64 0])/\Below ((w.alloc o1).alloc o2).heap.size ((w.alloc o1).alloc o2) w'):=fun o1 o2=>by
  have h:=qCheck_any _ _ l (R0.below (HA.out o1 o2)) vt [] (Rt.below (HA.out o1 o2) (Nat.le_refl _)) (by simp)
  rw[hck] at h
  exact h
 have HT:Hid (L.Rd w vt .i32 []):=Rt
 obtain⟨ao,cap,rfl⟩:=R0.len
 obtain⟨xo,xc,rfl,_⟩:=Rt
 simp only[List.length_nil] at *
 clear R0 hck z1 z2 hgood
 go_enter Tryz.func16,Tryz.ntmps16
 go_wp2_with fail
 refine(HC.out _ _).mono ?_
 rintro e w1 ⟨rfl,b1⟩
 obtain⟨h1,h2,B1,s1⟩:=K.two_boxes b1
 obtain⟨w2,hw2⟩:∃w2,w2=w1.alloc (.cells #[.int .i64 0,.int .i64 0] 33):=⟨_,rfl⟩
 have hB2:Below w.heap.size w w2:=by rw[hw2];exact B1.alloc (by omega) _
 have hX2:K.Boxes w w2:=by rw[hw2];exact⟨(Below.heap_alloc w1 _ _ (by omega)).trans h1,(Below.heap_alloc w1 _ _ (by omega)).trans h2⟩
 have hs2:w.heap.size+2<=w2.heap.size:=by rw[hw2];simp;omega
 have HCl:Hid (Calls Tryz.prog 34 #[.slice xo 0 xc] (w1.alloc (.cells #[.int .i64 0,.int .i64 0] 33)) fun e w'=>∃v',e= .returned v'/\w'.ownsRow w2.heap.size 21 1 v' 0 []/\Below w2.heap.size w2 w'):=by
  rw[<- hw2]
  exact qclone_any w2 _ [] (HT.out.below hB2 (Nat.le_refl _)) (by simp)
 have HB2:Hid (Below w.heap.size w w2):=hB2
 have HX2:Hid (K.Boxes w w2):=hX2
 clear b1 B1 HC h1 h2 hw2 hB2 hX2 HA
 go_wp2_with fail
 refine HCl.out.mono ?_
 rintro e w3 ⟨v',rfl,own,b3⟩
 obtain⟨ga,gc,rfl,hgn⟩:∃ga gc,v'= .slice ga 0 gc/\(ga=none->gc=0):=by
  rcases own.2 with ⟨h,_⟩|⟨g,cap,cur,h,_⟩
  ·exact⟨none,0,h,fun _=>rfl⟩
  ·exact⟨_,cap,h,fun e=>by cases e⟩
 have hs3:=b3.size
 have bx:=K.boxes_below HX2.out b3
 have k0:∀o,(w3.alloc o).cell? ⟨w.heap.size,0,none⟩=some (.slice none 0 0):=fun o=>K.alloc_cell (K.at_box bx.1 rfl) o
 have k1:∀o,(w3.alloc o).cell? ⟨w.heap.size,1,none⟩=some (.int .i64 0):=fun o=>K.alloc_cell (K.at_box bx.1 rfl) o
 have k2:∀o,(w3.alloc o).cell? ⟨w.heap.size,2,none⟩=some (.int .i64 0):=fun o=>K.alloc_cell (K.at_box bx.1 rfl) o
 have k3:∀o,(w3.alloc o).cell? ⟨w.heap.size+1,0,none⟩=some (.int .i64 0):=fun o=>K.alloc_cell (K.at_box bx.2 rfl) o
 have k4:∀o,(w3.alloc o).cell? ⟨w.heap.size+1,1,none⟩=some (.int .i64 0):=fun o=>K.alloc_cell (K.at_box bx.2 rfl) o
 have g0:∀o i,(w3.alloc o).frozen? ⟨w.heap.size,i,none⟩=false:=fun o i=>K.alloc_free bx.1 o i
 have g1:∀o i,(w3.alloc o).frozen? ⟨w.heap.size+1,i,none⟩=false:=fun o i=>K.alloc_free bx.2 o i
 have HB4:Hid (∀o,Below w.heap.size w (w3.alloc o)):=fun o=>(HB2.out.trans (b3.mono (by omega))).alloc (by omega) o
 clear own b3 bx HCl HX2
 go_wp2
 refine wp_loop_rounds 1 ?_
 rw[rounds_succ]
 go_wp2
 refine bodyPost_ret (v:= .tuple #[.agg #[.slice ga 0 gc,.int .i64 0,.int .i64 0],.agg #[.int .i64 0,.int .i64 0]]) (by simp[results,Tryz.results16,go_sem, *]) rfl ?_
 exact⟨_,rfl,⟨ga,gc,rfl,hgn,fun h=>absurd rfl h⟩,(K.five (HB4.out _) (Nat.le_refl _) (by omega:w.heap.size<=w.heap.size+1) _ _ _ _ _).1⟩
theorem qRun_any (w:World)(v:Value)(l:List K.Rule)(R0:V.Rus w v l)(vt:Value)(t:List Int)(Rt:L.Rd w vt .i32 t)(ht:t.length<=140737488355328) :
  Calls Tryz.prog 16 #[v,vt] w fun e w'=>∃v',e= .returned (.tuple #[.agg #[v',.int .i64 (K.runF l t).1.2.1,.int .i64 (K.runF l t).1.2.2],.agg #[.int .i64 (K.runF l t).2.1,.int .i64 (K.runF l t).2.2]])/\L.Rd w' v' .i32 (K.runF l t).1.1/\Below w.heap.size w w':=by
 unfold K.runF
 by_cases hg:(K.checkF l t).1=0
 ·rw[if_pos hg]
  by_cases h0:t.length=0
  ·obtain rfl:t= []:=List.eq_nil_of_length_eq_zero h0
   rw[K.play_end (by simp)]
   exact run_empty w v l R0 vt Rt hg
  ·obtain⟨⟨o1,o2,o3,o4⟩,hO⟩:∃o,K.play l (8*t.length+40) [] t 0 0=o:=⟨_,rfl⟩
   rw[hO]
   exact run_ok w v l R0 vt t Rt hg (by omega) o1 o2 o3 o4 hO
 ·rw[if_neg hg]
  exact(run_bad w v l R0 vt t Rt ht hg).mono fun e w' ⟨h1,h2⟩=>⟨_,h1,⟨none,0,rfl,fun _=>rfl,fun h=>absurd rfl h⟩,h2⟩
end Go.Proofs.YtmcljejgbikbhaaGreatDoor
namespace Go.Proofs.YtmcljejgbikbhaaGreatDoor.Cn
theorem rise:∀l:List Int,∃c:List Int,c.Pairwise (· < ·)/\∀y,y∈c↔y∈l:=by
 intro l
 induction l with
 | nil=>exact⟨[],by simp,fun y=>by simp⟩
 | cons x l ih =>
  obtain⟨c,h1,h2⟩:=ih
  refine⟨c.filter (· < x)++x::c.filter (x< ·),?_,fun y=> ?_⟩
  ·rw[List.pairwise_append,List.pairwise_cons]
   refine⟨h1.filter _,⟨fun a ha=>by simpa using (List.mem_filter.1 ha).2,h1.filter _⟩,fun a ha b hb=> ?_⟩
   have ha2:a<x:=by simpa using (List.mem_filter.1 ha).2
   rcases List.mem_cons.1 hb with rfl | hb
   ·exact ha2
   ·have hb2:x<b:=by simpa using (List.mem_filter.1 hb).2
    omega
  ·rw[List.mem_append,List.mem_cons,List.mem_cons,List.mem_filter,List.mem_filter,h2]
   constructor
   ·rintro (h | h | h)
    ·exact .inr h.1
    ·exact .inl h
    ·exact .inr h.1
   ·rintro (h | h)
    ·exact .inr (.inl h)
    ·rcases Int.lt_trichotomy y x with h3 | h3 | h3
     ·exact .inl ⟨h,by simpa using h3⟩
     ·exact .inr (.inl h3)
     ·exact .inr (.inr ⟨h,by simpa using h3⟩)
theorem comp_some {l:List K.Rule}(h:(K.rulesF l).1=0):∃o,J.Comp l o:=by
 obtain⟨c,h1,h2⟩:=rise (J.edgesL l)
 have hc:J.Cuts l c:=⟨h1,h2⟩
 by_cases h4:400<c.length - 1
 ·exact⟨_,.inr ⟨h,c,hc,hc.two,.inl ⟨h4,rfl⟩⟩⟩
 ·exact⟨_,.inr ⟨h,c,hc,hc.two,.inr ⟨by omega,rfl⟩⟩⟩
theorem pl_run {pl:Pl}(hpl:PlOk pl){l:List K.Rule}{x:List Int}(h:(K.rulesF l).1=0)(hx:Tx x)(he:(pl l x).2=0):∃s p,K.runF l x=(((pl l x).1,s,p),0,0):=by
 obtain⟨o,ho⟩:=comp_some h
 have hc:Gm.Chk l x o:= .inr (.inr ⟨h,text_tx.2 hx,ho⟩)
 have hck:(K.checkF l x).1=0:=by unfold K.checkF;rw[if_pos h];exact text_tx.2 hx
 by_cases h0:o.2.1=0
 ·obtain⟨⟨p1,p2,p3,p4⟩,hp⟩:∃q,K.play l (8*x.length+40) [] x 0 0=q:=⟨_,rfl⟩
  have e:=hpl.1 _ _ _ _ _ _ _ ⟨o,hc,.inr ⟨h0,hp,rfl⟩⟩
  rw[e] at he ⊢
  have he':p1=0:=he
  subst he'
  refine⟨p3,p4,?_⟩
  unfold K.runF
  rw[if_pos hck,hp]
 ·have e:=hpl.1 _ _ [] 0 0 o.2.1 o.2.2 ⟨o,hc,.inl ⟨h0,rfl,rfl,rfl,rfl,rfl⟩⟩
  rw[e] at he
  exact absurd he h0
end Go.Proofs.YtmcljejgbikbhaaGreatDoor.Cn
namespace Go.Proofs.YtmcljejgbikbhaaGreatDoor.Cn
def Fw (pl:Pl) (ps:List V.Pass) (a:List Int) (k:Nat) (x:List Int):Prop:=Tx x/\((x= []/\a= [])∨thru pl k (ps.drop k) x=(a,0,0))
theorem cut_all {P:Int->Bool}{t:List Int}(h:∀r∈t,P r=true)(ht:t≠ []):cut P t= [(t,true)]:=by
 have:=cut_in (P:=P) (b:= []) (fun r hr=>by cases hr) ht h
 rw[List.append_nil] at this
 exact this
theorem thru_zero {pl:Pl}{l:List V.Pass}:∀ {k:Nat} {x:List Int},(thru pl k l x).2.1=0->(thru pl k l x).2.2=0:=by
 induction l with
 | nil=>intro k x _;rfl
 | cons p l ih =>
  intro k x h
  rw[thru] at h ⊢
  by_cases he:(passF pl p x).2=0
  ·rw[if_pos he] at h ⊢;exact ih h
  ·rw[if_neg he] at h;exact absurd h he
theorem file_start {pl:Pl}{s:V.Script}(hs:s.has=false){t a:List Int}(h:(goF pl s t).2.1=0)(ha:(goF pl s t).1=a):Fw pl s.passes a 0 t/\∀p∈s.passes,passE p=0:=by
 unfold goF at h ha
 by_cases hw:(wrongF s).1=0
 ·rw[if_pos hw] at h ha
  by_cases ht:K.textE t=0
  ·rw[if_pos ht] at h ha
   refine⟨⟨text_tx.1 ht,?_⟩,(wrongF_zero hw).2.2.1⟩
   by_cases hz:t= []
   ·left
    subst hz
    refine⟨rfl,?_⟩
    rw[<- ha]
    rfl
   ·right
    have hc:cut (inS s) t= [(t,true)]:=cut_all (fun r _=>by unfold inS;rw[hs];rfl) hz
    rw[hc] at h ha
    obtain⟨⟨y,e1,e2⟩,hy⟩:∃o,thru pl 0 s.passes t=o:=⟨_,rfl⟩
    rw[List.drop_zero,hy]
    simp only[runP,hy,if_true,List.nil_append] at h ha
    by_cases he:e1=0
    ·subst he
     simp only[if_true] at h ha
     by_cases h4:4000<y.length
     ·rw[if_pos h4] at h;exact absurd (show (4:Int)=0 from h) (by decide)
     ·rw[if_neg h4] at ha
      have h2:e2=0:=by
       have:=thru_zero (pl:=pl) (l:=s.passes) (k:=0) (x:=t) (by rw[hy])
       rw[hy] at this
       exact this
      rw[h2]
      simp only at ha
      rw[ha]
    ·simp only[if_neg he] at h
     exact absurd h he
  ·rw[if_neg ht] at h;exact absurd h ht
 ·rw[if_neg hw] at h;exact absurd h hw
theorem file_next {pl:Pl}(hpl:PlOk pl){ps:List V.Pass}{a x:List Int}{k:Nat}{p:V.Pass}(hp:ps[k]?=some p)(h:Fw pl ps a k x)(hE:passE p=0) :
  (p.name.toList= [114,101,109,111,118,101]->Fw pl ps a (k+1) [])/\(p.name.toList= [117,112,112,101,114]->Fw pl ps a (k+1) (x.map up))/\(p.name.toList= [108,111,119,101,114]->Fw pl ps a (k+1) (x.map low)) /\
  (p.name.toList= []->∃y s q,K.runF p.rules x=((y,s,q),0,0)/\Fw pl ps a (k+1) y)/\(¬p.name.toList= [114,101,109,111,118,101]->¬p.name.toList= [117,112,112,101,114]->¬p.name.toList= [108,111,119,101,114]->¬p.name.toList= []->Fw pl ps a (k+1) x):=by
 obtain⟨hx,h⟩:=h
 rcases h with ⟨rfl,rfl⟩ | h
 ·have hn:Fw pl ps [] (k+1) []:=⟨Tx.nil,.inl ⟨rfl,rfl⟩⟩
  refine⟨fun _=>hn,fun _=>hn,fun _=>hn,fun he=> ?_,fun _ _ _ _=>hn⟩
  unfold passE at hE
  rw[if_pos he] at hE
  refine⟨[],0,0,?_,hn⟩
  unfold K.runF K.checkF
  rw[if_pos hE]
  rw[if_pos (by rfl),K.play_end rfl]
 ·rw[thru_drop hp] at h
  by_cases he:(passF pl p x).2=0
  ·rw[if_pos he] at h
   have hT:=passF_tx hpl.2 (p:=p) hx
   have hn:Fw pl ps a (k+1) (passF pl p x).1:=⟨hT,.inr h⟩
   unfold passF at hn he
   refine⟨fun e=> ?_,fun e=> ?_,fun e=> ?_,fun e=> ?_,fun e1 e2 e3 e4=> ?_⟩
   ·rw[e] at hn;simpa using hn
   ·rw[e] at hn;simpa using hn
   ·rw[e] at hn;simpa using hn
   ·rw[if_pos e] at hn he
    have hE2:=hE
    unfold passE at hE2
    rw[if_pos e] at hE2
    obtain⟨s,q,hr⟩:=pl_run hpl hE2 hx he
    exact⟨_,s,q,hr,hn⟩
   ·rw[if_neg e4,if_neg e2,if_neg e3] at hn
    by_cases e5:p.name.toList= [110,117,108,108]
    ·rw[if_pos e5] at hn;exact hn
    ·exfalso
     unfold passE at hE
     rw[if_neg e4] at hE
     by_cases hp2:R.passes p.name=true
     ·unfold R.passes at hp2
      simp at hp2
      rcases hp2 with h6 | h6 | h6 | h6
      ·exact e3 h6
      ·exact e5 h6
      ·exact e1 h6
      ·exact e2 h6
     ·rw[if_neg hp2] at hE;exact absurd hE (by decide)
  ·rw[if_neg he] at h
   simp only[Prod.mk.injEq] at h
   exact absurd h.2.1 he
theorem file_end {pl:Pl}{ps:List V.Pass}{a x:List Int}(h:Fw pl ps a ps.length x):a=x:=by
 obtain⟨_,⟨rfl,rfl⟩ | h⟩:=h
 ·rfl
 ·rw[List.drop_length] at h
  simp only[thru,Prod.mk.injEq] at h
  exact h.1.symm
end Go.Proofs.YtmcljejgbikbhaaGreatDoor.Cn
namespace Go.Proofs.YtmcljejgbikbhaaGreatDoor
open Go.RowKit Go.Lib
set_option maxHeartbeats 4000000 in
theorem tEach_any (w:World)(g:Nat)(f:Int->Int)(eg:∀args w,(callFunc g args).run Tryz.prog w= .ok (.enter g args) w)
  (hf:∀W r,0<=r->r<=1114111->Calls Tryz.prog g #[.int .i32 r] W fun e w'=>e= .returned (.int .i32 (f r))/\w'=W) (vt:Value) (t:List Int) (Rt:L.Rd w vt .i32 t) (ht:Cn.Tx t) :
  Calls Tryz.prog 13 #[vt,.func (.func g) #[] #[]] w fun e w'=>∃v',e= .returned v'/\L.Rd w' v' .i32 (t.map f)/\Below w.heap.size w w':=by
 have HR:Hid (L.Rd w vt .i32 t):=Rt
 have HF:Hid (∀W r,0<=r->r<=1114111->Calls Tryz.prog g #[.int .i32 r] W fun e w'=>e= .returned (.int .i32 (f r))/\w'=W):=hf
 have hl:=ht.1
 have HT:Hid (∀r∈t,0<=r/\r<=1114111):=ht.range
 obtain⟨xo,xc,rfl,_⟩:=Rt
 clear hf ht
 go_enter Tryz.func13,Tryz.ntmps13
 go_wp2
 go_loopw [5,10] (fun i5 i wr=>∃(k:Nat) (o:List Int) (vo:Option Addr) (vc:Nat),k<=t.length/\i= .int .i64 k/\i5= .slice vo o.length vc/\Hid (o=(t.take k).map f/\wr.ownsRow w.heap.size 21 1 (.slice vo o.length vc) o.length (K.ints o)/\Below w.heap.size w wr)/\o.length<=4000) (fun _ i _=>t.length - (RowKit.intOf i).toNat)
 case atStart=>exact⟨0,[],none,0,Nat.zero_le _,rfl,rfl,⟨by simp,World.ownsRow_nil _ _ _ _,Below.refl _ _⟩,by simp⟩
 case round =>
  obtain⟨k,o,vo,vc,hk,rfl,rfl,HI,hol⟩:=hrel
  by_cases hlt:k<t.length
  ·obtain⟨z,hz⟩:∃z,t[k]?=some z:=⟨t[k],by simp[hlt]⟩
   obtain⟨ao',cap',e',_,hcs⟩:=HR.out.below HI.out.2.2 (Nat.le_refl _)
   cases e'
   obtain⟨bt,off,rfl,hcell⟩:=hcs (by intro h;subst h;simp at hlt)
   have c0:=hcell k z hz
   have hC:=HF.out wr z (HT.out z (List.mem_of_getElem? hz)).1 (HT.out z (List.mem_of_getElem? hz)).2
   obtain⟨ao1,vc1,w1,run1,own1,kp1,sz1,be1⟩:=Cn.app1 HI.out.2.1 HI.out.2.2.size (by omega) (f z)
   have HN:Hid (o++ [f z]=(t.take (k+1)).map f/\w1.ownsRow w.heap.size 21 1 (.slice ao1 (o.length+1) vc1) (o++ [f z]).length (K.ints (o++ [f z]))/\Below w.heap.size w w1/\(o++ [f z]).length=o.length+1/\(o++ [f z]).length<=4000):=by
    refine⟨by rw[HI.out.1,List.take_add_one,hz];simp,own1,HI.out.2.2.trans be1,by simp,?_⟩
    have h2:o.length=k:=by rw[HI.out.1];simp;omega
    simp;omega
   clear hcs hcell hz own1 kp1 be1
   generalize f z=y at hC run1 HN
   go_wp2_with fail
   refine hC.mono ?_
   rintro e w9 ⟨rfl,rfl⟩
   go_wp2_with (at_builtin;refine Lib.wpList_append_run _ rfl _ _ _ _ rfl _ _ rfl rfl _ _ (run1 _) ?_;clear run1)
   go_roundw
   case rel=>exact⟨k+1,o++ [y],ao1,vc1,by omega,by go_num,by rw[HN.out.2.2.2.1],⟨HN.out.1,by rw[HN.out.2.2.2.1];have:=HN.out.2.1;rw[HN.out.2.2.2.1] at this;exact this,HN.out.2.2.1⟩,HN.out.2.2.2.2⟩
   case measure=>simp[RowKit.intOf];omega
  ·have hkl:k=t.length:=by omega
   subst hkl
   go_wp2
   go_ret
   obtain⟨h1,h2,h3⟩:=HI.out
   rw[List.take_length] at h1
   refine⟨_,rfl,?_,h3⟩
   rw[<- h1]
   exact L.Rd.of_owns h2
set_option maxHeartbeats 16000000 in
theorem topFile_any (hK:T.ClassOk)(w:World)(fs ts:ByteArray)(hfs:fs.size<=1099511627776)(hts:ts.size<=1099511627776) :
  Calls Tryz.prog 3 #[.string fs,.string ts] w fun e w'=>e= .returned (.bool true)/\Below w.heap.size w w':=by
 obtain⟨pl,hpl⟩:=Cn.pl_some
 have HSc:Hid (∀X,Calls Tryz.prog 10 #[.string fs] X fun e w'=>∃v',e= .returned (.tuple #[v',.bool (Tp.scriptF (M.rn fs)).2])/\V.ScIs w' v' (Tp.scriptF (M.rn fs)).1/\Below X.heap.size X w'):=fun X=>tScript_any hK fs hfs X
 have hfit:=Tp.scriptF_fit (M.rn fs)
 obtain⟨⟨sc,ok⟩,hsc⟩:∃o,Tp.scriptF (M.rn fs)=o:=⟨_,rfl⟩
 rw[hsc] at HSc hfit
 simp only at HSc hfit
 have HDe:Hid (∀X,Calls Tryz.prog 11 #[.string ts] X fun e w'=>∃xo xc,e= .returned (.slice xo (M.rn ts).length xc)/\L.Rd w' (.slice xo (M.rn ts).length xc) .i32 (M.rn ts)/\(M.rn ts).length<=xc/\Below X.heap.size X w'):=fun X=>Tp.decode ts hts X
 have hrl:(M.rn ts).length<=140737488355328:=by have:=M.rn_length ts;omega
 generalize M.rn ts=t at *
 clear hsc
 have egU:∀args w,(callFunc 14 args).run Tryz.prog w= .ok (.enter 14 args) w:=enters_of Tryz.func14 (by kernel_rfl) rfl
 have egL:∀args w,(callFunc 15 args).run Tryz.prog w= .ok (.enter 15 args) w:=enters_of Tryz.func15 (by kernel_rfl) rfl
 have HEU:Hid (∀(X:World) vt x,L.Rd X vt .i32 x->Cn.Tx x->Calls Tryz.prog 13 #[vt,.func (.func 14) #[] #[]] X fun e w'=>∃v',e= .returned v'/\L.Rd w' v' .i32 (x.map Cn.up)/\Below X.heap.size X w'):=fun X vt x hx hT=>tEach_any X _ Cn.up egU (fun W r h1 h2=>upper_any r (by omega) (by omega) W) vt x hx hT
 have HEL:Hid (∀(X:World) vt x,L.Rd X vt .i32 x->Cn.Tx x->Calls Tryz.prog 13 #[vt,.func (.func 15) #[] #[]] X fun e w'=>∃v',e= .returned v'/\L.Rd w' v' .i32 (x.map Cn.low)/\Below X.heap.size X w'):=fun X vt x hx hT=>tEach_any X _ Cn.low egL (fun W r h1 h2=>cnLower_any r (by omega) (by omega) W) vt x hx hT
 clear egU egL
 go_enter Tryz.func3,Tryz.ntmps3
 go_wp2_with fail
 refine(tAlive_any hK w).mono ?_
 rintro e w1 ⟨rfl,b1⟩
 have HB1:Hid (Below w.heap.size w w1):=b1
 clear b1
 go_wp2_with fail
 refine(HSc.out _).mono ?_
 rintro e w2 ⟨v2,rfl,hS2,b2⟩
 have HB2:Hid (Below w.heap.size w w2):=HB1.out.trans (b2.mono HB1.out.size)
 have HA2:Hid (∀o,Below w.heap.size w (w2.alloc o)):=fun o=>HB2.out.alloc HB2.out.size o
 clear b2 HSc HB1
 obtain⟨oo,oc,po,pc,rfl,hO,hOl,hP⟩:=id hS2
 cases ok with
 | false =>
  clear HDe
  go_wp2
  go_ret
  exact⟨rfl,HA2.out _⟩
 | true =>
  obtain⟨hsh,only,passes⟩:=sc
  simp only at hS2 hO hOl hP hfit
  cases hsh with
  | true =>
   clear HDe
   go_wp2
   go_ret
   exact⟨rfl,HA2.out _⟩
  | false =>
   have HS2:Hid (V.ScIs w2 (.agg #[.bool false,.slice oo only.length oc,.slice po passes.length pc]) ⟨false,only,passes⟩):=hS2
   have HP:Hid (V.Pas w2 (.slice po passes.length pc) passes):=hP
   have HG:Hid (∀(X:World),Below w2.heap.size w2 X->∀xo xc,L.Rd X (.slice xo t.length xc) .i32 t->t.length<=xc->Calls Tryz.prog 12 #[.agg #[.bool false,.slice oo only.length oc,.slice po passes.length pc],.slice xo t.length xc] X fun e w'=>∃v',e= .returned (.tuple #[v',.agg #[.int .i64 (Cn.goF pl ⟨false,only,passes⟩ t).2.1,.int .i64 (Cn.goF pl ⟨false,only,passes⟩ t).2.2]])/\L.Rd w' v' .i32 (Cn.goF pl ⟨false,only,passes⟩ t).1/\Below X.heap.size X w'):=fun X hX xo xc hd hc=>cGo_any pl hpl X _ ⟨false,only,passes⟩ (HS2.out.below hX) hfit xo xc t hd hc hrl
   have HSt:Hid ((Cn.goF pl ⟨false,only,passes⟩ t).2.1=0->Cn.Fw pl passes (Cn.goF pl ⟨false,only,passes⟩ t).1 0 t/\∀p∈passes,Cn.passE p=0):=fun h=>Cn.file_start (s:=⟨false,only,passes⟩) rfl h rfl
   have hpf:=HP.out.few
   obtain⟨⟨ga,g1,g2⟩,hg⟩:∃g,Cn.goF pl ⟨false,only,passes⟩ t=g:=⟨_,rfl⟩
   rw[hg] at HG HSt
   simp only at HG HSt
   have HNx:Hid (∀k p x,passes[k]?=some p->Cn.Fw pl passes ga k x->Cn.passE p=0->(p.name.toList= [114,101,109,111,118,101]->Cn.Fw pl passes ga (k+1) [])/\(p.name.toList= [117,112,112,101,114]->Cn.Fw pl passes ga (k+1) (x.map Cn.up))/\(p.name.toList= [108,111,119,101,114]->Cn.Fw pl passes ga (k+1) (x.map Cn.low))/\(p.name.toList= []->∃y s q,K.runF p.rules x=((y,s,q),0,0)/\Cn.Fw pl passes ga (k+1) y)/\(¬p.name.toList= [114,101,109,111,118,101]->¬p.name.toList= [117,112,112,101,114]->¬p.name.toList= [108,111,119,101,114]->¬p.name.toList= []->Cn.Fw pl passes ga (k+1) x)):=fun k p x hp h hE=>Cn.file_next hpl hp h hE
   clear hg hS2 hO hOl hP hfit HA2
   go_wp2_with fail
   go_at_call 11
   refine(HDe.out _).mono ?_
   rintro e w3 ⟨xo,xc,rfl,d3,hxc,b3⟩
   obtain⟨hbx,B3,s3⟩:=K.one_box b3
   have HX3:Hid (w3.heap[w2.heap.size]?=some (.cells #[.bool false,.slice oo only.length oc,.slice po passes.length pc] 26)/\Below w2.heap.size w2 w3):=⟨hbx,B3⟩
   have HD3:Hid (L.Rd w3 (.slice xo t.length xc) .i32 t):=d3
   have k0:=K.at_box (i:=0) hbx rfl
   have k1:=K.at_box (i:=1) hbx rfl
   have k2:=K.at_box (i:=2) hbx rfl
   have HGo:=HG.out w3 B3 xo xc d3 hxc
   clear HDe b3 B3 d3 hbx HG
   go_wp2_with fail
   go_at_call 12
   refine HGo.mono ?_
   rintro e w4 ⟨v4,rfl,d4,b4⟩
   obtain⟨va,vc,rfl⟩:∃a c,v4= .slice a ga.length c:=by obtain⟨a,c,h,_⟩:=d4;exact⟨a,c,h⟩
   have hbx4:=K.blk_below HX3.out.1 b4
   have hB4:Below w2.heap.size w2 w4:=HX3.out.2.trans (b4.mono HX3.out.2.size)
   have HB4:Hid (Below w2.heap.size w2 w4):=hB4
   have HE4:Hid (∀o,Below w.heap.size w (w4.alloc o)):=fun o=>by
    have h1:=HB2.out.trans (hB4.mono HB2.out.size)
    exact h1.alloc h1.size o
   have HD4:Hid (L.Rd w4 (.slice va ga.length vc) .i32 ga/\L.Rd w4 (.slice xo t.length xc) .i32 t):=⟨d4,HD3.out.below b4 (Nat.le_refl _)⟩
   clear HGo k0 k1 k2 d4 b4
   by_cases q:g1=0
   ·subst q
    obtain⟨hfw,hpe⟩:=HSt.out rfl
    have HPE:Hid (∀p∈passes,Cn.passE p=0):=hpe
    have HFw:Hid (Cn.Fw pl passes ga 0 t):=hfw
    obtain⟨W,hW⟩:∃W,W=w4.alloc (.cells #[.int .i64 0,.int .i64 g2] 33):=⟨_,rfl⟩
    have hBW:Below w4.heap.size w4 W:=by rw[hW];exact Cn.al _ _
    have HBW:Hid (Below w2.heap.size w2 W):=hB4.trans (hBW.mono hB4.size)
    have HDW:Hid (L.Rd W (.slice va ga.length vc) .i32 ga/\L.Rd W (.slice xo t.length xc) .i32 t):=⟨HD4.out.1.below hBW (Nat.le_refl _),HD4.out.2.below hBW (Nat.le_refl _)⟩
    have k2:∀o,(w4.alloc o).cell? ⟨w2.heap.size,2,none⟩=some (.slice po passes.length pc):=fun o=>K.alloc_cell (K.at_box (i:=2) hbx4 rfl) o
    clear HSt hfw hpe hbx4 hB4 hBW HD4 HE4
    go_wp2
    try rw[<- hW]
    clear hW k2
    go_loopw [7,41] (fun i7 i41 wr=>∃(k:Nat) (x:List Int) (yo:Option Addr) (yc:Nat),k<=passes.length/\i41= .int .i64 k/\i7= .slice yo x.length yc/\Hid (Cn.Fw pl passes ga k x)/\Hid (L.Rd wr (.slice yo x.length yc) .i32 x)/\Hid (Below W.heap.size W wr)) (fun _ i41 _=>passes.length - (RowKit.intOf i41).toNat)
    case atStart=>exact⟨0,t,xo,xc,Nat.zero_le _,rfl,rfl,HFw,HDW.out.2,Below.refl _ _⟩
    case round =>
     obtain⟨k,x,yo,yc,hk,rfl,rfl,HF,HX,HBk⟩:=hrel
     have hBw:Below w2.heap.size w2 wr:=HBW.out.trans (HBk.out.mono HBW.out.size)
     by_cases hlt:k<passes.length
     ·obtain⟨p,hp⟩:∃x,passes[k]?=some x:=⟨passes[k],by simp[hlt]⟩
      obtain⟨ao',cap',e',_,hcs⟩:=HP.out.below hBw
      cases e'
      obtain⟨b,off,rfl,hcell⟩:=hcs (by intro h;rw[h] at hlt;simp at hlt)
      obtain⟨c0,hn,ro,rc,c1,hr⟩:=hcell k p hp
      have hpE:=HPE.out p (List.mem_of_getElem? hp)
      obtain⟨n1,n2,n3,n4,n5⟩:=HNx.out k p x hp HF.out hpE
      have hTx:=HF.out.1
      have hxl:x.length<=4000:=hTx.1
      have HXa:Hid (∀o,L.Rd (wr.alloc o) (.slice yo x.length yc) .i32 x):=fun o=>HX.out.below (Cn.al _ _) (Nat.le_refl _)
      have HBa:Hid (∀o,Below W.heap.size W (wr.alloc o)):=fun o=>HBk.out.alloc HBk.out.size o
      have HRu:Hid (∀o,Calls Tryz.prog 16 #[.slice ro p.rules.length rc,.slice yo x.length yc] (wr.alloc o) fun e w'=>∃v',e= .returned (.tuple #[.agg #[v',.int .i64 (K.runF p.rules x).1.2.1,.int .i64 (K.runF p.rules x).1.2.2],.agg #[.int .i64 (K.runF p.rules x).2.1,.int .i64 (K.runF p.rules x).2.2]])/\L.Rd w' v' .i32 (K.runF p.rules x).1.1/\Below (wr.alloc o).heap.size (wr.alloc o) w'):=fun o=>qRun_any _ _ _ (hr.below (Cn.al _ _)) _ x (HXa.out o) (by omega)
      have hbl:b<wr.heap.size:=L.block_lt c0
      clear hcell hcs hr hp hBw hpE
      cases h1:(p.name.toList== [114,101,109,111,118,101]) with
      | true =>
       have HN:Hid (Cn.Fw pl passes ga (k+1) []):=n1 (by simpa using h1)
       clear n1 n2 n3 n4 n5 HRu
       go_wp2
       go_roundw
       case rel=>exact⟨k+1,[],none,0,by omega,by go_num,rfl,HN,⟨none,0,rfl,fun _=>rfl,fun h=>absurd rfl h⟩,HBa.out _⟩
       case measure=>simp[RowKit.intOf];omega
      | false =>
       have h1':¬p.name.toList= [114,101,109,111,118,101]:=by simpa using h1
       cases h2:(p.name.toList== [117,112,112,101,114]) with
       | true =>
        have HN:Hid (Cn.Fw pl passes ga (k+1) (x.map Cn.up)):=n2 (by simpa using h2)
        have HCa:Hid (∀o,Calls Tryz.prog 13 #[.slice yo x.length yc,.func (.func 14) #[] #[]] (wr.alloc o) fun e w'=>∃v',e= .returned v'/\L.Rd w' v' .i32 (x.map Cn.up)/\Below (wr.alloc o).heap.size (wr.alloc o) w'):=fun o=>HEU.out _ _ x (HXa.out o) hTx
        clear n1 n2 n3 n4 n5 HRu h1'
        generalize x.map Cn.up=x2 at *
        go_wp2_with fail
        go_at_call 13
        refine(HCa.out _).mono ?_
        rintro e w5 ⟨v5,rfl,d5,b5⟩
        obtain⟨zo,zc,rfl⟩:∃a c,v5= .slice a x2.length c:=by obtain⟨a,c,h,_⟩:=d5;exact⟨a,c,h⟩
        have HD5:Hid (L.Rd w5 (.slice zo x2.length zc) .i32 x2/\Below W.heap.size W w5):=⟨d5,(HBa.out _).trans (b5.mono (HBa.out _).size)⟩
        clear d5 b5 HCa
        go_wp2
        go_roundw
        case rel=>exact⟨k+1,x2,zo,zc,by omega,by go_num,rfl,HN,HD5.out.1,HD5.out.2⟩
        case measure=>simp[RowKit.intOf];omega
       | false =>
        have h2':¬p.name.toList= [117,112,112,101,114]:=by simpa using h2
        cases h3:(p.name.toList== [108,111,119,101,114]) with
        | true =>
         have HN:Hid (Cn.Fw pl passes ga (k+1) (x.map Cn.low)):=n3 (by simpa using h3)
         have HCa:Hid (∀o,Calls Tryz.prog 13 #[.slice yo x.length yc,.func (.func 15) #[] #[]] (wr.alloc o) fun e w'=>∃v',e= .returned v'/\L.Rd w' v' .i32 (x.map Cn.low)/\Below (wr.alloc o).heap.size (wr.alloc o) w'):=fun o=>HEL.out _ _ x (HXa.out o) hTx
         clear n1 n2 n3 n4 n5 HRu h1' h2'
         generalize x.map Cn.low=x2 at *
         go_wp2_with fail
         go_at_call 13
         refine(HCa.out _).mono ?_
         rintro e w5 ⟨v5,rfl,d5,b5⟩
         obtain⟨zo,zc,rfl⟩:∃a c,v5= .slice a x2.length c:=by obtain⟨a,c,h,_⟩:=d5;exact⟨a,c,h⟩
         have HD5:Hid (L.Rd w5 (.slice zo x2.length zc) .i32 x2/\Below W.heap.size W w5):=⟨d5,(HBa.out _).trans (b5.mono (HBa.out _).size)⟩
         clear d5 b5 HCa
         go_wp2
         go_roundw
         case rel=>exact⟨k+1,x2,zo,zc,by omega,by go_num,rfl,HN,HD5.out.1,HD5.out.2⟩
         case measure=>simp[RowKit.intOf];omega
        | false =>
         have h3':¬p.name.toList= [108,111,119,101,114]:=by simpa using h3
         cases h4:(p.name.toList== []) with
         | true =>
          obtain⟨y,ss,qq,hrf,hfw⟩:=n4 (by simpa using h4)
          have HN:Hid (Cn.Fw pl passes ga (k+1) y):=hfw
          rw[hrf] at HRu
          simp only at HRu
          clear n1 n2 n3 n4 n5 h1' h2' h3' hrf hfw
          go_wp2_with fail
          go_at_call 16
          refine(HRu.out _).mono ?_
          rintro e w5 ⟨v5,rfl,d5,b5⟩
          obtain⟨zo,zc,rfl⟩:∃a c,v5= .slice a y.length c:=by obtain⟨a,c,h,_⟩:=d5;exact⟨a,c,h⟩
          have hB5:Below W.heap.size W w5:=(HBa.out _).trans (b5.mono (HBa.out _).size)
          have HD5:Hid (∀o1 o2,L.Rd ((w5.alloc o1).alloc o2) (.slice zo y.length zc) .i32 y/\Below W.heap.size W ((w5.alloc o1).alloc o2)):=fun o1 o2=>⟨(d5.below (Cn.al _ _) (Nat.le_refl _)).below (Cn.al _ _) (Nat.le_refl _),(hB5.alloc hB5.size _).alloc (by have:=hB5.size;simp;omega) _⟩
          clear d5 b5 HRu hB5
          go_wp2
          go_roundw
          case rel=>exact⟨k+1,y,zo,zc,by omega,by go_num,rfl,HN,(HD5.out _ _).1,(HD5.out _ _).2⟩
          case measure=>simp[RowKit.intOf];omega
         | false =>
          have h4':¬p.name.toList= []:=by simpa using h4
          have HN:Hid (Cn.Fw pl passes ga (k+1) x):=n5 h1' h2' h3' h4'
          clear n1 n2 n3 n4 n5 h1' h2' h3' h4' HRu
          go_wp2
          go_roundw
          case rel=>exact⟨k+1,x,yo,yc,by omega,by go_num,rfl,HN,HXa.out _,HBa.out _⟩
          case measure=>simp[RowKit.intOf];omega
     ·have hke:k=passes.length:=by omega
      have hend:ga=x:=Cn.file_end (by rw[<- hke];exact HF.out)
      have hEn:Below w.heap.size w wr:=HB2.out.trans (hBw.mono HB2.out.size)
      have hxl:=HF.out.1.1
      have HSm:Hid (Calls Tryz.prog 17 #[.slice va ga.length vc,.slice yo x.length yc] wr fun e w'=>e= .returned (.bool true)/\Below w.heap.size w w'):=by
       show Calls _ _ _ _ _
       subst hend
       refine(rsame_any wr _ _ ga ga (HDW.out.1.below HBk.out (Nat.le_refl _)) HX.out (by omega) (by omega)).mono ?_
       rintro e w' ⟨rfl,h⟩
       exact⟨by simp,hEn.trans (h.mono hEn.size)⟩
      clear hke hend hEn hBw
      go_wp2_with fail
      go_at_call 17
      refine HSm.out.mono ?_
      rintro e w8 ⟨rfl,b8⟩
      have HE8:Hid (Below w.heap.size w w8):=b8
      clear b8 HSm
      go_wp2
      go_ret
      exact⟨rfl,HE8.out⟩
   ·clear HSt HNx HEU HEL hbx4 hB4
    go_wp2
    go_ret
    exact⟨rfl,HE4.out _⟩
end Go.Proofs.YtmcljejgbikbhaaGreatDoor
