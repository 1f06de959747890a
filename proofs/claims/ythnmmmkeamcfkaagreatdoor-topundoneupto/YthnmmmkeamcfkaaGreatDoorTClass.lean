import Derived.Test.YthnmmmkeamcfkaaGreatDoorQClone
import Derived.MapKept
import Derived.ChangeMaps4
set_option maxHeartbeats 0
set_option maxRecDepth 20000
set_option linter.unusedSimpArgs false
set_option linter.unusedVariables false
namespace Go.Proofs.YthnmmmkeamcfkaaGreatDoor
open Go.Proofs.Tryz
section
open Go.RowKit Go.Lib
theorem ze5 (w:World)(n:Nat)(hn:n<=4000) :
  Calls prog 44 #[.int .i64 (n:Int)] w fun e w'=>e= .returned (.int .i64 (8*(n:Int)+40))/\w'=w:=by
 have e1:IntKind.i64.wrap (8*(n:Int))=8*(n:Int):=by rw[IntKind.wrap_i64];omega
 have e2:IntKind.i64.wrap (8*(n:Int)+40)=8*(n:Int)+40:=by rw[IntKind.wrap_i64];omega
 go_enter func44,ntmps44
 go_wp2;go_ret
 exact⟨by simp[e1,e2],rfl⟩
namespace K
theorem zwp {w:World}{B:Nat}{v:Value}{t:List Int}(h:w.ownsRow B 21 1 v t.length (ints t))(h0:0<t.length):∃g cap,v= .slice (some ⟨g,0,none⟩) t.length cap/\B<=g/\OwnT w g cap t:=by
 rcases h.2 with ⟨_,h1⟩|⟨g,cap,cur,hv,hB,hg,hle,hmax,hsz,htk⟩
 ·omega
 ·exact⟨g,cap,hv,hB,cur.toList,by simpa [Row] using hg,by simpa using hsz,hle,hmax,by simpa using htk⟩
end K
theorem zvg (w:World)(v:Value)(l:List K.Rule)(R0:V.Rus w v l)(vt:Value)(t:List Int)(Rt:L.Rd w vt .i32 t)(ht:t.length<=140737488355328)(hbad:¬(K.checkF l t).1=0) :
  Calls prog 18 #[v,vt] w fun e w'=>e= .returned (.tuple #[.agg #[.slice none 0 0,.int .i64 0,.int .i64 0],.agg #[.int .i64 (K.checkF l t).1,.int .i64 (K.checkF l t).2]])/\Below w.heap.size w w':=by
 have HA:=qH <| fun o1 o2=>((qR w).alloc qN o1).alloc (by simp) o2
 have HC:Hid (∀o1 o2,Calls prog 42 #[v,vt] ((w.alloc o1).alloc o2) fun e w'=>e= .returned (.agg #[.int .i64 (K.checkF l t).1,.int .i64 (K.checkF l t).2])/\Below ((w.alloc o1).alloc o2).heap.size ((w.alloc o1).alloc o2) w'):=fun o1 o2=>zeh _ _ l (R0.below (HA.out _ _)) vt t (Rt.below (HA.out _ _) qN) ht
 obtain⟨ao,cap,rfl⟩:=R0.len;obtain⟨xo,xc,rfl,_⟩:=Rt;obtain⟨⟨e1,e2⟩,he⟩:∃o,K.checkF l t=o:=⟨_,rfl⟩;rw[he] at HC hbad ⊢;simp only at HC hbad ⊢;clear he R0
 go_enter func18,ntmps18
 go_wp2_with fail
 refine(HC.out _ _).mono ?_;rintro e w1 ⟨rfl,b1⟩;obtain⟨h1,h2,B1,s1⟩:=K.zar b1;have HB2:=qH <| fun o=>B1.alloc (by omega) o
 have k0:∀o,(w1.alloc o).cell? ⟨w.heap.size,0,none⟩=some (.slice none 0 0):=fun o=>K.zai (K.zad h1 rfl) o
 have k1:∀o,(w1.alloc o).cell? ⟨w.heap.size,1,none⟩=some (.int .i64 0):=fun o=>K.zai (K.zad h1 rfl) o
 have k2:∀o,(w1.alloc o).cell? ⟨w.heap.size,2,none⟩=some (.int .i64 0):=fun o=>K.zai (K.zad h1 rfl) o
 have k3:∀o,(w1.alloc o).cell? ⟨w.heap.size+1,0,none⟩=some (.int .i64 0):=fun o=>K.zai (K.zad h2 rfl) o
 have k4:∀o,(w1.alloc o).cell? ⟨w.heap.size+1,1,none⟩=some (.int .i64 0):=fun o=>K.zai (K.zad h2 rfl) o
 have g0:=fun o i=>K.zao h1 o i
 have g1:=fun o i=>K.zao h2 o i
 clear b1 B1 HC h1 h2;go_wp2
 go_region
 go_wp2;refine bodyPost_ret (v:= .tuple #[.agg #[.slice none 0 0,.int .i64 0,.int .i64 0],.agg #[.int .i64 e1,.int .i64 e2]]) (by simp[results,results18,go_sem, *]) rfl ?_
 exact⟨rfl,(K.five (HB2.out _) qN (by omega) _ _ _ _ _).1.drew⟩
theorem zwh (w:World)(v:Value)(l:List K.Rule)(R0:V.Rus w v l)(vt:Value)(t:List Int)(Rt:L.Rd w vt .i32 t)(hgood:(K.checkF l t).1=0)(h0:0<t.length)(o1:Int)(o2:List Int)(o3 o4:Int)(hO:K.play l (8*t.length+40) [] t 0 0=(o1,o2,o3,o4)) :
  Calls prog 18 #[v,vt] w fun e w'=>∃v',e= .returned (.tuple #[.agg #[v',.int .i64 o3,.int .i64 o4],.agg #[.int .i64 o1,.int .i64 0]])/\L.Rd w' v' .i32 o2/\Below w.heap.size w w':=by
 obtain⟨z1,z2,hck⟩:=K.zcn hgood;obtain⟨hl,hE,_⟩:=K.zax z1;have ht:=K.zd9 z2;have HO:=qH hO;have HE:=qH hE;have HA:=qH <| fun o1 o2=>((qR w).alloc qN o1).alloc (by simp) o2
 have HC:Hid (∀o1 o2,Calls prog 42 #[v,vt] ((w.alloc o1).alloc o2) fun e w'=>e= .returned (.agg #[.int .i64 0,.int .i64 0])/\Below ((w.alloc o1).alloc o2).heap.size ((w.alloc o1).alloc o2) w'):=fun o1 o2=>by
  have h:=zeh _ _ l (R0.below (HA.out o1 o2)) vt t (Rt.below (HA.out o1 o2) qN) (by omega);rw[hck] at h;exact h
 have HR:=qH R0;have HT:=qH Rt;obtain⟨ao,cap,rfl⟩:=R0.len;obtain⟨xo,xc,rfl,_⟩:=Rt;clear R0 hO hE hck z1 z2 hgood
 go_enter func18,ntmps18
 go_wp2_with fail
 refine(HC.out _ _).mono ?_;rintro e w1 ⟨rfl,b1⟩;obtain⟨h1,h2,B1,s1⟩:=K.zar b1;obtain⟨w2,hw2⟩:∃w2,w2=w1.alloc (.cells #[.int .i64 0,.int .i64 0] 38):=⟨_,rfl⟩;have hB2:Below w.heap.size w w2:=by rw[hw2];exact B1.alloc (by omega) _
 have hX2:K.Boxes w w2:=by rw[hw2];exact⟨(Below.heap_alloc w1 _ _ (by omega)).trans h1,(Below.heap_alloc w1 _ _ (by omega)).trans h2⟩
 have hs2:w.heap.size+2<=w2.heap.size:=by rw[hw2];simp;omega
 have HCl:Hid (Calls prog 43 #[.slice xo t.length xc] (w1.alloc (.cells #[.int .i64 0,.int .i64 0] 38)) fun e w'=>∃v',e= .returned v'/\w'.ownsRow w2.heap.size 21 1 v' t.length (K.ints t)/\Below w2.heap.size w2 w'):=by
  rw[<- hw2];exact zgr w2 _ t (HT.out.below hB2 qN) ht
 have HR2:=qH <| HR.out.below hB2;have HB2:=qH hB2;have HX2:=qH hX2;clear b1 B1 HC h1 h2 hw2 hB2 hX2 HA HR
 go_wp2_with fail
 refine HCl.out.mono ?_;rintro e w3 ⟨v',rfl,own,b3⟩;obtain⟨g,gc,rfl,hg,hOwn⟩:=K.zwp own h0;obtain⟨w4,hw4⟩:∃w4,w4=w3.alloc (.cells #[.slice (some ⟨g,0,none⟩) t.length gc,.int .i64 0] 89):=⟨_,rfl⟩;have hb34:Below w3.heap.size w3 w4:=by rw[hw4];exact(qR w3).alloc qN _
 have hs3:=b3.size
 have HS4:Hid (K.St w2.heap.size w3.heap.size w4 g gc ([]++t) (0:Nat)):=by
  refine⟨hs3,?_,hg,hOwn.below hb34⟩;rw[hw4];exact heap_alloc_new w3 _
 have HB4:=qH <| b3.trans (hb34.mono hs3);obtain⟨bs,hbs⟩:∃bs,bs=w3.heap.size:=⟨_,rfl⟩;rw[<- hbs] at HS4;clear own hOwn b3 hb34 HCl hg;go_wp2;rw[<- hw4,<- hbs];clear hw4 hbs hs3
 go_loopw [8,9] (fun i8 i9 wr=>∃(left:Nat) (done rest:List Int) (s p g gc:Nat),i8= .int .i64 s/\i9= .int .i64 p/\s+left<=8*t.length+40/\8*t.length+40<=s+left/\p<=s/\Hid (K.play l left done rest s p=(o1,o2,o3,o4))/\Hid (K.St w2.heap.size bs wr g gc (done++rest) done.length)/\Hid (Below w2.heap.size w2 wr)/\done.length+rest.length<=4000) (fun i8 _ _=>8*t.length+41 - (intOf i8).toNat)
 case atStart=>exact⟨8*t.length+40,[],t,0,0,g,gc,rfl,rfl,by omega,by omega,by omega,HO,HS4,HB4,by simpa using ht⟩
 case round =>
  obtain⟨left,done,rest,s,p,g,gc,rfl,rfl,hs1,hs2',hps,HP,HS,HB,h4⟩:=hrel;have x0:=K.zad (i:=0) HS.out.2.1 rfl;have x1:=K.zad (i:=1) HS.out.2.1 rfl;obtain⟨N,hN⟩:∃N,N=(done++rest).length:=⟨_,rfl⟩;have hN2:N=done.length+rest.length:=by rw[hN];simp
  rw[<- hN] at x0;have HBW:=qH <| HB2.out.trans (HB.out.mono (by omega));have HBX:=qH <| K.zdi HX2.out HB.out
  by_cases hr:rest.length=0
  ·have hrn:=List.eq_nil_of_length_eq_zero hr;have hp:=HP.out;rw[K.zck hr] at hp;have HP2:=qH hp;obtain⟨y0,y1,y2⟩:wr.cell? ⟨w.heap.size,0,none⟩=some (.slice none 0 0)/\wr.cell? ⟨w.heap.size,1,none⟩=some (.int .i64 0)/\wr.cell? ⟨w.heap.size,2,none⟩=some (.int .i64 0):=⟨K.zad HBX.out.1 rfl,K.zad HBX.out.1 rfl,K.zad HBX.out.1 rfl⟩;obtain⟨y3,y4⟩:wr.cell? ⟨w.heap.size+1,0,none⟩=some (.int .i64 0)/\wr.cell? ⟨w.heap.size+1,1,none⟩=some (.int .i64 0):=⟨K.zad HBX.out.2 rfl,K.zad HBX.out.2 rfl⟩;have fa:=fun i=>frozen_of_row wr _ i _ _ HBX.out.1
   have fb:=fun i=>frozen_of_row wr _ i _ _ HBX.out.2
   have hlt:¬(done.length:Int)<N:=by omega
   have HRd:Hid (g≠w.heap.size/\g≠w.heap.size+1/\K.OwnT wr g gc done/\N=done.length):=by
    have h1:=HS.out.2.2.1;have h2:=HS.out.2.2.2;rw[hrn,List.append_nil] at h2;exact⟨by omega,by omega,h2,by omega⟩
   clear hp hN hN2 HX2 HBX HS HB HB2 HR2 HP;go_wp2;refine bodyPost_ret (v:= .tuple #[.agg #[.slice (some ⟨g,0,none⟩) N gc,.int .i64 s,.int .i64 p],.agg #[.int .i64 0,.int .i64 0]]) (by simp[results,results18,go_sem, *]) rfl ?_;obtain⟨f1,f2⟩:=K.five HBW.out qN (by omega:w.heap.size<=w.heap.size+1) (.slice (some ⟨g,0,none⟩) N gc) (.int .i64 s) (.int .i64 p) (.int .i64 0) (.int .i64 0);have he:=HP2.out;simp only[Prod.mk.injEq] at he;obtain⟨rfl,rfl,rfl,rfl⟩:=he;obtain⟨cur,row,hcu⟩:=HRd.out.2.2.1;refine⟨_,rfl,?_,f1⟩;rw[HRd.out.2.2.2];exact K.OwnT.rd ⟨cur,row.block (by rw[<- HRd.out.2.2.2];exact f2 g HRd.out.1 HRd.out.2.1),hcu⟩
  ·have hlt:(done.length:Int)<N:=by omega
   cases left with
   | zero =>
    have hp:=HP.out;rw[K.zl2 hr] at hp;have HP2:=qH hp;obtain⟨y0,y1,y2⟩:wr.cell? ⟨w.heap.size,0,none⟩=some (.slice none 0 0)/\wr.cell? ⟨w.heap.size,1,none⟩=some (.int .i64 0)/\wr.cell? ⟨w.heap.size,2,none⟩=some (.int .i64 0):=⟨K.zad HBX.out.1 rfl,K.zad HBX.out.1 rfl,K.zad HBX.out.1 rfl⟩;obtain⟨y3,y4⟩:wr.cell? ⟨w.heap.size+1,0,none⟩=some (.int .i64 0)/\wr.cell? ⟨w.heap.size+1,1,none⟩=some (.int .i64 0):=⟨K.zad HBX.out.2 rfl,K.zad HBX.out.2 rfl⟩;have fa:=fun i=>frozen_of_row wr _ i _ _ HBX.out.1
    have fb:=fun i=>frozen_of_row wr _ i _ _ HBX.out.2
    have heq:(s:Int)=8*(t.length:Int)+40:=by omega
    clear hp hN hN2 HX2 HBX HS HB HB2 HR2 HP
    go_wp2_with (go_at_call 44;refine(ze5 _ t.length ht).mono ?_;rintro e wq ⟨rfl,rfl⟩)
    refine bodyPost_ret (v:= .tuple #[.agg #[.slice none 0 0,.int .i64 0,.int .i64 0],.agg #[.int .i64 9,.int .i64 0]]) (by simp[results,results18,go_sem, *]) rfl ?_;have he:=HP2.out;simp only[Prod.mk.injEq] at he;obtain⟨rfl,rfl,rfl,rfl⟩:=he;exact⟨_,rfl,⟨none,0,rfl,fun _=>rfl,fun h=>absurd rfl h⟩,(K.five HBW.out qN (by omega:w.heap.size<=w.heap.size+1) _ _ _ _ _).1⟩
   | succ left =>
    have hneq:¬(s:Int)=8*(t.length:Int)+40:=by omega
    have hNl:(done++rest).length<=4000:=by omega
    have hdl:done.length<(done++rest).length:=by omega
    rcases K.zcw (l:=l) (t:=done++rest) (k:=(done.length:Int)) with hw | ⟨j,r,hj,hm,hw⟩
    ·have hp:=HP.out;rw[K.zht hr hw] at hp;have HP2:Hid (K.play l left (done++rest.take 1) (rest.drop 1) ((s+1:Nat):Int) p=(o1,o2,o3,o4)):=by rw[Int.natCast_add];exact hp
     have HStep:=zpq w2 _ l HR2.out hl HE.out wr HB.out bs g gc (done++rest) done.length HS.out hNl hdl hw
     have HSt2:Hid (∀W,K.St w2.heap.size bs W g gc (done++rest) ((done.length:Int)+1)->K.St w2.heap.size bs W g gc ((done++rest.take 1)++rest.drop 1) ((done++rest.take 1).length:Nat)):=fun W h=>by
      rw[List.append_assoc,List.take_append_drop,show (((done++rest.take 1).length:Nat):Int)=(done.length:Int)+1 by simp;omega];exact h
     have HLen:Hid ((done++rest.take 1).length+(rest.drop 1).length<=4000):=by show _<=_;simp;omega
     clear hp hN hN2 HX2 HBX HS HR2 HP
     go_wp2_with (go_at_call 44;refine(ze5 _ t.length ht).mono ?_;rintro e wq ⟨rfl,rfl⟩)
     refine HStep.mono ?_;rintro e w5 ⟨rfl,s5,b5⟩;have HS5:=HSt2.out _ s5;have HB5:=qH <| HB.out.trans b5;have HS6:=qH HS5;clear s5 b5 HS5 HStep x0 x1;go_wp2
     go_roundw
     case rel=>exact⟨left,_,_,s+1,p,g,gc,by go_num,rfl,by omega,by omega,by omega,HP2,HS6,HB5,HLen.out⟩
     case measure=>simp[intOf];omega
    ·have hrE:=HE.out r (List.mem_of_getElem? hj);have hfit:=K.fits hrE hm;obtain⟨_,_,_,hsrc,hta,_,hc0,hc1⟩:=K.zal hrE;have hrl:=K.zhs (r:=r) (rest:=rest)
     by_cases hlong:4000<done.length+(K.restOf r rest).length
     ·have hp:=HP.out;rw[K.zfu hr hw hj hlong] at hp;have HP2:=qH hp;have HStep:=zpr w2 _ l HR2.out hl HE.out wr HB.out bs g gc (done++rest) done.length HS.out hNl hdl j r hw hj hm (by rw[List.length_append];omega);clear hp hN hN2 HX2 HS HR2 HP
      go_wp2_with (go_at_call 44;refine(ze5 _ t.length ht).mono ?_;rintro e wq ⟨rfl,rfl⟩)
      refine HStep.mono ?_;rintro e w5 ⟨rfl,b5⟩;have bx:=K.zdi HBX.out b5;obtain⟨y0,y1,y2⟩:w5.cell? ⟨w.heap.size,0,none⟩=some (.slice none 0 0)/\w5.cell? ⟨w.heap.size,1,none⟩=some (.int .i64 0)/\w5.cell? ⟨w.heap.size,2,none⟩=some (.int .i64 0):=⟨K.zad bx.1 rfl,K.zad bx.1 rfl,K.zad bx.1 rfl⟩;obtain⟨y3,y4⟩:w5.cell? ⟨w.heap.size+1,0,none⟩=some (.int .i64 0)/\w5.cell? ⟨w.heap.size+1,1,none⟩=some (.int .i64 0):=⟨K.zad bx.2 rfl,K.zad bx.2 rfl⟩;have fa:=fun i=>frozen_of_row w5 _ i _ _ bx.1
      have fb:=fun i=>frozen_of_row w5 _ i _ _ bx.2
      have HB5:=qH <| HBW.out.trans (b5.mono HBW.out.size);clear b5 bx HStep x0 x1 HBX;go_wp2;refine bodyPost_ret (v:= .tuple #[.agg #[.slice none 0 0,.int .i64 0,.int .i64 0],.agg #[.int .i64 4,.int .i64 0]]) (by simp[results,results18,go_sem, *]) rfl ?_;have he:=HP2.out;simp only[Prod.mk.injEq] at he;obtain⟨rfl,rfl,rfl,rfl⟩:=he;exact⟨_,rfl,⟨none,0,rfl,fun _=>rfl,fun h=>absurd rfl h⟩,(K.five HB5.out qN (by omega:w.heap.size<=w.heap.size+1) _ _ _ _ _).1⟩
     ·have hp:=HP.out;rw[K.ze4 hr hw hj hlong] at hp;have HP2:Hid (K.play l left (done++(K.restOf r rest).take r.cursor.toNat) ((K.restOf r rest).drop r.cursor.toNat) ((s+1:Nat):Int) ((p+1:Nat):Int)=(o1,o2,o3,o4)):=by rw[Int.natCast_add,Int.natCast_add];exact hp
      have hT2:done++K.restOf r rest=(done++rest).take done.length++r.target++(done++rest).drop (done.length+r.source.length):=by
       unfold K.restOf;rw[List.take_left,List.drop_append,List.append_assoc];simp
      have HStep:=zsr w2 _ l HR2.out hl HE.out wr HB.out bs g gc (done++rest) done.length HS.out hNl hdl j r hw hj hm (by rw[List.length_append];omega) (done++K.restOf r rest) hT2
      have HSt2:Hid (∀W g' gc',K.St w2.heap.size bs W g' gc' (done++K.restOf r rest) ((done.length:Int)+r.cursor)->K.St w2.heap.size bs W g' gc' ((done++(K.restOf r rest).take r.cursor.toNat)++(K.restOf r rest).drop r.cursor.toNat) ((done++(K.restOf r rest).take r.cursor.toNat).length:Nat)):=fun W g' gc' h=>by
       rw[List.append_assoc,List.take_append_drop,show (((done++(K.restOf r rest).take r.cursor.toNat).length:Nat):Int)=(done.length:Int)+r.cursor by simp;omega];exact h
      have HLen:Hid ((done++(K.restOf r rest).take r.cursor.toNat).length+((K.restOf r rest).drop r.cursor.toNat).length<=4000):=by show _<=_;simp;omega
      have hj0:(0:Int)<=j:=by omega
      clear hp hN hN2 HX2 HBX HS HR2 HP hT2
      go_wp2_with (go_at_call 44;refine(ze5 _ t.length ht).mono ?_;rintro e wq ⟨rfl,rfl⟩)
      refine HStep.mono ?_;rintro e w5 ⟨rfl,g',gc',s5,b5⟩;have HS5:=HSt2.out _ _ _ s5;have HB5:=qH <| HB.out.trans b5;have HS6:=qH HS5;clear s5 b5 HS5 HStep x0 x1;go_wp2
      go_roundw
      case rel=>exact⟨left,_,_,s+1,p+1,g',gc',by go_num,by go_num,by omega,by omega,by omega,HP2,HS6,HB5,HLen.out⟩
      case measure=>simp[intOf];omega
theorem zp1 (w:World)(v:Value)(l:List K.Rule)(R0:V.Rus w v l)(vt:Value)(Rt:L.Rd w vt .i32 [])(hgood:(K.checkF l []).1=0) :
  Calls prog 18 #[v,vt] w fun e w'=>∃v',e= .returned (.tuple #[.agg #[v',.int .i64 0,.int .i64 0],.agg #[.int .i64 0,.int .i64 0]])/\L.Rd w' v' .i32 []/\Below w.heap.size w w':=by
 obtain⟨z1,z2,hck⟩:=K.zcn hgood;have HA:=qH <| fun o1 o2=>((qR w).alloc qN o1).alloc (by simp) o2
 have HC:Hid (∀o1 o2,Calls prog 42 #[v,vt] ((w.alloc o1).alloc o2) fun e w'=>e= .returned (.agg #[.int .i64 0,.int .i64 0])/\Below ((w.alloc o1).alloc o2).heap.size ((w.alloc o1).alloc o2) w'):=fun o1 o2=>by
  have h:=zeh _ _ l (R0.below (HA.out o1 o2)) vt [] (Rt.below (HA.out o1 o2) qN) (by simp);rw[hck] at h;exact h
 have HT:=qH Rt;obtain⟨ao,cap,rfl⟩:=R0.len;obtain⟨xo,xc,rfl,_⟩:=Rt;simp only[List.length_nil] at *;clear R0 hck z1 z2 hgood
 go_enter func18,ntmps18
 go_wp2_with fail
 refine(HC.out _ _).mono ?_;rintro e w1 ⟨rfl,b1⟩;obtain⟨h1,h2,B1,s1⟩:=K.zar b1;obtain⟨w2,hw2⟩:∃w2,w2=w1.alloc (.cells #[.int .i64 0,.int .i64 0] 38):=⟨_,rfl⟩;have hB2:Below w.heap.size w w2:=by rw[hw2];exact B1.alloc (by omega) _
 have hX2:K.Boxes w w2:=by rw[hw2];exact⟨(Below.heap_alloc w1 _ _ (by omega)).trans h1,(Below.heap_alloc w1 _ _ (by omega)).trans h2⟩
 have hs2:w.heap.size+2<=w2.heap.size:=by rw[hw2];simp;omega
 have HCl:Hid (Calls prog 43 #[.slice xo 0 xc] (w1.alloc (.cells #[.int .i64 0,.int .i64 0] 38)) fun e w'=>∃v',e= .returned v'/\w'.ownsRow w2.heap.size 21 1 v' 0 []/\Below w2.heap.size w2 w'):=by
  rw[<- hw2];exact zgr w2 _ [] (HT.out.below hB2 qN) (by simp)
 have HB2:=qH hB2;have HX2:=qH hX2;clear b1 B1 HC h1 h2 hw2 hB2 hX2 HA
 go_wp2_with fail
 refine HCl.out.mono ?_;rintro e w3 ⟨v',rfl,own,b3⟩
 obtain⟨ga,gc,rfl,hgn⟩:∃ga gc,v'= .slice ga 0 gc/\(ga=none->gc=0):=by
  rcases own.2 with ⟨h,_⟩|⟨g,cap,cur,h,_⟩
  ·exact⟨none,0,h,fun _=>rfl⟩
  ·exact⟨_,cap,h,fun e=>by cases e⟩
 have hs3:=b3.size;have bx:=K.zdi HX2.out b3;have k0:∀o,(w3.alloc o).cell? ⟨w.heap.size,0,none⟩=some (.slice none 0 0):=fun o=>K.zai (K.zad bx.1 rfl) o
 have k1:∀o,(w3.alloc o).cell? ⟨w.heap.size,1,none⟩=some (.int .i64 0):=fun o=>K.zai (K.zad bx.1 rfl) o
 have k2:∀o,(w3.alloc o).cell? ⟨w.heap.size,2,none⟩=some (.int .i64 0):=fun o=>K.zai (K.zad bx.1 rfl) o
 have k3:∀o,(w3.alloc o).cell? ⟨w.heap.size+1,0,none⟩=some (.int .i64 0):=fun o=>K.zai (K.zad bx.2 rfl) o
 have k4:∀o,(w3.alloc o).cell? ⟨w.heap.size+1,1,none⟩=some (.int .i64 0):=fun o=>K.zai (K.zad bx.2 rfl) o
 have g0:=fun o i=>K.zao bx.1 o i
 have g1:=fun o i=>K.zao bx.2 o i
 have HB4:=qH <| fun o=>(HB2.out.trans (b3.mono (by omega))).alloc (by omega) o
 clear own b3 bx HCl HX2;go_wp2;refine wp_loop_rounds 1 ?_;rw[rounds_succ];go_wp2;refine bodyPost_ret (v:= .tuple #[.agg #[.slice ga 0 gc,.int .i64 0,.int .i64 0],.agg #[.int .i64 0,.int .i64 0]]) (by simp[results,results18,go_sem, *]) rfl ?_;exact⟨_,rfl,⟨ga,gc,rfl,hgn,fun h=>absurd rfl h⟩,(K.five (HB4.out _) qN (by omega:w.heap.size<=w.heap.size+1) _ _ _ _ _).1⟩
theorem zl1 (w:World)(v:Value)(l:List K.Rule)(R0:V.Rus w v l)(vt:Value)(t:List Int)(Rt:L.Rd w vt .i32 t)(ht:t.length<=140737488355328) :
  Calls prog 18 #[v,vt] w fun e w'=>∃v',e= .returned (.tuple #[.agg #[v',.int .i64 (K.runF l t).1.2.1,.int .i64 (K.runF l t).1.2.2],.agg #[.int .i64 (K.runF l t).2.1,.int .i64 (K.runF l t).2.2]])/\L.Rd w' v' .i32 (K.runF l t).1.1/\Below w.heap.size w w':=by
 unfold K.runF
 by_cases hg:(K.checkF l t).1=0
 ·rw[if_pos hg]
  by_cases h0:t.length=0
  ·obtain rfl:t= []:=List.eq_nil_of_length_eq_zero h0;rw[K.zck (by simp)];exact zp1 w v l R0 vt Rt hg
  ·obtain⟨⟨o1,o2,o3,o4⟩,hO⟩:∃o,K.play l (8*t.length+40) [] t 0 0=o:=⟨_,rfl⟩;rw[hO];exact zwh w v l R0 vt t Rt hg (by omega) o1 o2 o3 o4 hO
 ·rw[if_neg hg];exact(zvg w v l R0 vt t Rt ht hg).mono fun e w' ⟨h1,h2⟩=>⟨_,h1,⟨none,0,rfl,fun _=>rfl,fun h=>absurd rfl h⟩,h2⟩
end
section
open Go.RowKit
namespace K
theorem zr7 {x1 Y1:World}{b:Nat}{u0 u1:Int}{va:Option Addr}{vc:Nat}{rt:List Int}{re ra rs rp:Int}{ty:TypeId}
  (hY:Y1=((x1.setCell ⟨b,0,none⟩ (.int .i64 re)).setCell ⟨b,1,none⟩ (.int .i64 ra)).alloc (.cells #[(.slice va rt.length vc),.int .i64 rs,.int .i64 rp] ty))
  (hb:x1.heap[b]?=some (.cells #[.int .i64 u0,.int .i64 u1] 38)) (w:World) (hw:Below w.heap.size w x1) (hwb:w.heap.size<=b) :
  Y1.heap[b]?=some (.cells #[.int .i64 re,.int .i64 ra] 38)/\Y1.heap[x1.heap.size]?=some (.cells #[(.slice va rt.length vc),.int .i64 rs,.int .i64 rp] ty)/\Below w.heap.size w Y1 /\
   ∀v zs,L.Rd x1 v .i32 zs->L.Rd Y1 v .i32 zs:=by
 obtain⟨Y0,hY0⟩:∃Y0,Y0=(x1.setCell ⟨b,0,none⟩ (.int .i64 re)).setCell ⟨b,1,none⟩ (.int .i64 ra):=⟨_,rfl⟩;have hY':Y1=Y0.alloc (.cells #[(.slice va rt.length vc),.int .i64 rs,.int .i64 rp] ty):=by rw[hY,hY0]
 have e0:Y0.heap[b]?=some (.cells #[.int .i64 re,.int .i64 ra] 38):=by rw[hY0];exact K.set2 hb _ _
 have hal:Below Y0.heap.size Y0 Y1:=by rw[hY'];exact(qR Y0).alloc qN _
 have hsz:Y0.heap.size=x1.heap.size:=by rw[hY0];simp
 refine⟨K.zae e0 hal,by rw[<- hsz,hY'];exact heap_alloc_new Y0 _,?_,fun v zs d=> ?_⟩
 ·rw[hY];exact((hw.setCell (p:=⟨b,0,none⟩) hwb _).setCell (p:=⟨b,1,none⟩) hwb _).alloc (by simp;exact hw.size) _
 ·refine(K.zbd d (w':=Y0) fun hz q hq=> ?_).below hal qN;have hne:=K.zqe d hb hz q hq;rw[hY0,heap_setCell_other _ ⟨b,1,none⟩ q _ (by simpa using hne),heap_setCell_other _ ⟨b,0,none⟩ q _ (by simpa using hne)]
end K
end
section
open Go.RowKit Go.Shelf
theorem Pr.zie {forth back:List K.Rule}{s:List S.Sp}{t:List Int}(h:Pr.sureF forth back s=(true,0))(hd:∀x∈t,S.memb s x=true)(hR:K.allR t=true):(K.runF forth t).2.1≠3:=by
 obtain⟨f1,_,_,f4⟩:=Pr.zea h;obtain⟨u1,_,u3,_,_⟩:=Pr.zer f4;have hEf:=(K.zax f1).2.1
 by_cases hc:(K.checkF forth t).1=0
 ·have e1:(K.runF forth t).2.1=(K.play forth (8*t.length+40) [] t 0 0).1:=by unfold K.runF;rw[if_pos hc]
  rw[e1];rcases Pr.zgt u1 hEf u3 (8*t.length+40) [] t 0 0 (by omega) (fun x hx=>Pr.zfy.2 (hd x hx)) with ⟨hp,_⟩ | hp
  ·rw[hp];decide
  ·rw[hp];decide
 ·have e1:(K.runF forth t).2.1=(K.checkF forth t).1:=by unfold K.runF;rw[if_neg hc]
  rw[e1];unfold K.checkF;rw[if_pos f1];show K.textE t≠3;unfold K.textE
  by_cases h1:4000<t.length
  ·rw[if_pos h1];decide
  ·rw[if_neg h1,if_pos hR];decide
theorem zhg (hK:T.ClassOk)(w:World)(fs:ByteArray)(hfs:fs.size<=1099511627776)(vs:Value)(s:List S.Sp)(Rs:S.Rd w vs s)(Fs:S.Fit s)(ts:ByteArray)(hts:ts.size<=1099511627776) :
  Calls prog 5 #[.string fs,vs,.string ts] w fun e w'=>e= .returned (.bool true)/\Below w.heap.size w w':=by
 have HSi:Hid (∀X,Calls prog 15 #[.string fs] X fun e w'=>∃v1 v2,e= .returned (.tuple #[v1,v2,.bool (Tp.singleF (M.rn fs)).2.2])/\V.Rus w' v1 (Tp.singleF (M.rn fs)).1/\V.Rus w' v2 (Tp.singleF (M.rn fs)).2.1/\Below X.heap.size X w'):=fun X=>zjz hK fs hfs X
 obtain⟨⟨forth,back,ok⟩,hsi⟩:∃o,Tp.singleF (M.rn fs)=o:=⟨_,rfl⟩;rw[hsi] at HSi;simp only at HSi;have HDe:Hid (∀X,Calls prog 10 #[.string ts] X fun e w'=>∃xo xc,e= .returned (.slice xo (M.rn ts).length xc)/\L.Rd w' (.slice xo (M.rn ts).length xc) .i32 (M.rn ts)/\(M.rn ts).length<=xc/\Below X.heap.size X w'):=fun X=>Tp.decode ts hts X
 have ht:(M.rn ts).length<=140737488355328:=by have:=M.zp5 ts;omega
 have HRt:Hid (K.allR (M.rn ts)=true):=List.all_eq_true.2 fun x hx=>zlx ts x hx
 generalize M.rn ts=t at *;have HSd:Hid (S.Rd w vs s):=Rs;obtain⟨so,scap,rfl⟩:=Rs.len;clear hsi Rs
 go_enter func5,ntmps5
 go_wp2_with fail
 refine(zm7 hK w).mono ?_;rintro e w1 ⟨rfl,b1⟩;have HB1:Hid (Below w.heap.size w w1):=b1;clear b1
 go_wp2_with fail
 refine(HSi.out _).mono ?_;rintro e w2 ⟨v1,v2,rfl,hR,hRb,b2⟩;have HB2:Hid (Below w.heap.size w w2):=HB1.out.trans (b2.mono HB1.out.size);have HRa:Hid (V.Rus w2 v1 forth):=hR;have HRb:Hid (V.Rus w2 v2 back):=hRb;obtain⟨ao,cap,rfl⟩:=hR.len;obtain⟨bo,bcap,rfl⟩:=hRb.len;clear b2 HSi HB1 hR hRb;cases ok with
 | false =>
  clear HDe;go_wp2;go_ret;exact⟨rfl,HB2.out⟩
 | true =>
  have hS:=zqq w2 _ _ forth back HRa.out HRb.out _ s (HSd.out.below HB2.out qN) Fs
  have HH0:Hid (Pr.sureF forth back s=(true,0)->∀X r,Below w.heap.size w X->Calls prog 17 #[.slice so s.length scap,.int .i32 r] X fun e w'=>e= .returned (.bool (S.memb s r))/\Below X.heap.size X w'):=fun h1 X r hX=>by
   obtain⟨hl,N⟩:=S.zat.1 (Pr.zea h1).2.2.1;exact zde X _ s r (HSd.out.below hX qN) N hl
  have HM0:Hid (Pr.sureF forth back s=(true,0)->(∀x∈t,S.memb s x=true)->((K.runF forth t).2.1=0->(K.runF back (K.runF forth t).1.1).2.1=0/\(K.runF back (K.runF forth t).1.1).1.1=t)/\((K.runF forth t).2.1=0∨(K.runF forth t).2.1=4)):=fun h1 h2=>by
   obtain⟨m1,m2⟩:=Pr.undone h1 h2;refine⟨m1,?_⟩;rcases m2 with m2 | m2 | m2
   ·exact .inl m2
   ·exact absurd m2 (Pr.zie h1 h2 HRt.out)
   ·exact .inr m2
  obtain⟨⟨z,e2⟩,hsu⟩:∃o,Pr.sureF forth back s=o:=⟨_,rfl⟩;rw[hsu] at hS HM0 HH0;simp only at hS;clear hsu Fs HSd
  go_wp2_with fail
  go_at_call 16
  refine hS.mono ?_;rintro e w3 ⟨rfl,b3⟩;have HB3':Hid (Below w.heap.size w w3/\Below w2.heap.size w2 w3):=⟨HB2.out.trans (b3.mono HB2.out.size),b3⟩;clear b3 hS
  go_wp2_with fail
  go_at_call 10
  refine(HDe.out _).mono ?_;rintro e wd ⟨xo,xc,rfl,d3,hxc,b4⟩;have HBd:Hid (Below w.heap.size w wd/\Below w2.heap.size w2 wd):=⟨HB3'.out.1.trans (b4.mono HB3'.out.1.size),HB3'.out.2.trans (b4.mono HB3'.out.2.size)⟩;have HT:Hid (L.Rd wd (.slice xo t.length xc) .i32 t):=d3;obtain⟨_,_,he0,_,hcs⟩:=d3;cases he0;have HCt:Hid (t≠ []->∃b off,xo=some ⟨b,off,none⟩/\∀j z,t[j]?=some z->wd.cell? ⟨b,off+j,none⟩=some (.int .i32 z)):=hcs;have HA:Hid (∀X,Below wd.heap.size wd X->Calls prog 18 #[.slice ao forth.length cap,.slice xo t.length xc] X fun e w'=>∃v',e= .returned (.tuple #[.agg #[v',.int .i64 (K.runF forth t).1.2.1,.int .i64 (K.runF forth t).1.2.2],.agg #[.int .i64 (K.runF forth t).2.1,.int .i64 (K.runF forth t).2.2]])/\L.Rd w' v' .i32 (K.runF forth t).1.1/\Below X.heap.size X w'):=fun X hX=>zl1 X _ forth ((HRa.out.below HBd.out.2).below hX) _ t (HT.out.below hX qN) ht
  have hlen:=K.zlw (l:=forth) (t:=t);have HB:Hid (∀X v,Below wd.heap.size wd X->L.Rd X v .i32 (K.runF forth t).1.1->Calls prog 18 #[.slice bo back.length bcap,v] X fun e w'=>∃v',e= .returned (.tuple #[.agg #[v',.int .i64 (K.runF back (K.runF forth t).1.1).1.2.1,.int .i64 (K.runF back (K.runF forth t).1.1).1.2.2],.agg #[.int .i64 (K.runF back (K.runF forth t).1.1).2.1,.int .i64 (K.runF back (K.runF forth t).1.1).2.2]])/\L.Rd w' v' .i32 (K.runF back (K.runF forth t).1.1).1.1/\Below X.heap.size X w'):=fun X v hX hv=>zl1 X _ back ((HRb.out.below HBd.out.2).below hX) v _ hv (by omega)
  have HH:Hid ((z,e2)=(true,(0:Int))->∀X r,Below wd.heap.size wd X->Calls prog 17 #[.slice so s.length scap,.int .i32 r] X fun e w'=>e= .returned (.bool (S.memb s r))/\Below X.heap.size X w'):=fun h X r hX=>HH0.out h X r (HBd.out.1.trans (hX.mono HBd.out.1.size))
  have HM:Hid ((z,e2)=(true,(0:Int))->(∀x∈t,S.memb s x=true)->((K.runF forth t).2.1=0->(K.runF back (K.runF forth t).1.1).2.1=0/\(K.runF back (K.runF forth t).1.1).1.1=t)/\((K.runF forth t).2.1=0∨(K.runF forth t).2.1=4)):=HM0.out;obtain⟨⟨⟨rt,rs,rp⟩,re,ra⟩,hrun⟩:∃o,K.runF forth t=o:=⟨_,rfl⟩;rw[hrun] at HA HB HM hlen;simp only at HA HB HM hlen;obtain⟨⟨⟨bt,bs,bp⟩,be,ba⟩,hrun2⟩:∃o,K.runF back rt=o:=⟨_,rfl⟩;rw[hrun2] at HB HM;simp only at HB HM;clear hrun hrun2 hcs b4 HDe HH0 HM0 HB3' HRa HRb HB2
  by_cases he:e2=0
  ·cases z with
   | false =>
    subst he;clear HM HH;go_wp2;go_ret;exact⟨rfl,HBd.out.1⟩
   | true =>
    subst he;have hM:=HM.out rfl;have hH:=HH.out rfl;have HM1:Hid ((∀x∈t,S.memb s x=true)->(re=0->be=0/\bt=t)/\(re=0∨re=4)):=hM;have HH1:Hid (∀X r,Below wd.heap.size wd X->Calls prog 17 #[.slice so s.length scap,.int .i32 r] X fun e w'=>e= .returned (.bool (S.memb s r))/\Below X.heap.size X w'):=hH;clear HM HH hM hH;go_wp2
    go_loopw [45] (fun i wr=>∃k:Nat,k<=t.length/\i= .int .i64 k/\Hid ((∀x∈t.take k,S.memb s x=true)/\Below wd.heap.size wd wr)) (fun i _=>t.length - (RowKit.intOf i).toNat)
    case atStart=>exact⟨0,Nat.zero_le _,rfl,⟨fun x hx=>by simp at hx,qR _⟩⟩
    case round =>
     obtain⟨k,hk,rfl,HI⟩:=hrel
     by_cases hlt:k<t.length
     ·obtain⟨x,hx⟩:∃x,t[k]?=some x:=⟨t[k],by simp[hlt]⟩;obtain⟨b,off,rfl,hcell⟩:=HCt.out (by intro h;subst h;simp at hlt);have c0:=hcell k x hx;rw[<- HI.out.2.cell (p:=⟨b,off+k,none⟩) (L.block_lt c0)] at c0;have hC:=HH1.out wr x HI.out.2;obtain⟨y,HY⟩:∃y,Hid (S.memb s x=y):=⟨_,rfl⟩;rw[HY.out] at hC;have HX:Hid (t[k]?=some x):=hx;clear hcell hx
      go_wp2_with fail
      refine hC.mono ?_;rintro e w3 ⟨rfl,b3⟩;have HB3:Hid (Below wd.heap.size wd w3):=HI.out.2.trans (b3.mono HI.out.2.size);clear b3 hC;cases y with
      | false =>
       go_wp2;go_ret
       exact⟨rfl,HBd.out.1.trans (HB3.out.mono HBd.out.1.size)⟩
      | true =>
       have HN:Hid ((∀x∈t.take (k+1),S.memb s x=true)/\Below wd.heap.size wd w3):=⟨fun q hq=>by
        rw[List.take_add_one,HX.out,List.mem_append] at hq;rcases hq with hq | hq
        ·exact HI.out.1 q hq
        ·simp at hq;rw[hq];exact HY.out,HB3.out⟩
       go_wp2
       go_roundw
       case rel=>exact⟨k+1,by omega,by go_num,HN⟩
       case measure=>simp[RowKit.intOf];omega
     ·have hkl:k=t.length:=by omega
      subst hkl;have hall:=HI.out.1;rw[List.take_length] at hall;obtain⟨m1,m2⟩:=HM1.out hall;have HM2:Hid (re=0->be=0/\bt=t):=m1;have hR:=HA.out wr HI.out.2;clear HA HM1 HH1 hall m1
      go_wp2_with fail
      refine hR.mono ?_;rintro e x1 ⟨v1,rfl,d1,g1⟩;obtain⟨ua,uc,rfl⟩:∃ua uc,v1= .slice ua rt.length uc:=by obtain⟨a,c,h,_⟩:=d1;exact⟨a,c,h⟩
      have HB3:Hid (Below wd.heap.size wd x1):=HI.out.2.trans (g1.mono HI.out.2.size);obtain⟨Y,hY⟩:∃Y,Y=(x1.alloc (.cells #[.slice ua rt.length uc,.int .i64 rs,.int .i64 rp] 58)).alloc (.cells #[.int .i64 re,.int .i64 ra] 38):=⟨_,rfl⟩;have k2:=K.zar (w:=x1) (qR ((x1.alloc (.cells #[.slice ua rt.length uc,.int .i64 rs,.int .i64 rp] 58)).alloc (.cells #[.int .i64 re,.int .i64 ra] 38)));rw[<- hY] at k2;have HYb:Hid (Below wd.heap.size wd Y):=HB3.out.trans (k2.2.2.1.mono HB3.out.size);have HRd:Hid (L.Rd Y (.slice ua rt.length uc) .i32 rt):=d1.below k2.2.2.1 qN;have HBx:Hid (Y.heap[x1.heap.size+1]?=some (.cells #[.int .i64 re,.int .i64 ra] 38)):=k2.2.1;clear d1 g1 hR k2
      by_cases h0:re=0
      ·obtain⟨z1,z2⟩:=HM2.out h0;subst z1 z2 h0;have hRun:=HB.out Y _ HYb.out HRd.out;clear HB HM2 m2
       go_wp2_with fail
       rw[<- hY];refine hRun.mono ?_;clear hY;rintro e x2 ⟨v2,rfl,d2,g2⟩;obtain⟨ub,ud,rfl⟩:∃ua uc,v2= .slice ua bt.length uc:=by obtain⟨a,c,h,_⟩:=d2;exact⟨a,c,h⟩
       have p1:=K.zae HBx.out g2;have HB4:Hid (Below wd.heap.size wd x2):=HYb.out.trans (g2.mono HYb.out.size);obtain⟨Y2,hY2⟩:∃Y2,Y2=((x2.setCell ⟨x1.heap.size+1,0,none⟩ (.int .i64 0)).setCell ⟨x1.heap.size+1,1,none⟩ (.int .i64 ba)).alloc (.cells #[.slice ub bt.length ud,.int .i64 bs,.int .i64 bp] 58):=⟨_,rfl⟩;have hx1:wd.heap.size<=x1.heap.size:=HB3.out.size;have hAf:=K.zr7 hY2 p1 wd HB4.out (by omega);have HSm:=zp4 Y2 (.slice ub bt.length ud) (.slice xo bt.length xc) bt bt (hAf.2.2.2 _ _ d2) (HT.out.below hAf.2.2.1 qN) (by omega) (by omega);obtain⟨t0,t1,ft0,ft1⟩:=K.box2 p1;have l7:=(qA.1 p1).1;have HB5:Hid (Below wd.heap.size wd Y2):=hAf.2.2.1;clear d2 g2 p1 hRun hAf HRd HBx hx1
       go_wp2_with fail
       rw[<- hY2];refine HSm.mono ?_;rintro e x3 ⟨rfl,g3⟩;have HZ3:Hid (Below wd.heap.size wd x3):=HB5.out.trans (g3.mono HB5.out.size);clear g3 HSm;go_wp2;go_ret;exact⟨by simp,HBd.out.1.trans (HZ3.out.mono HBd.out.1.size)⟩
      ·clear HB HM2;have h4:re=4:=by omega
       subst h4;go_wp2;go_ret;exact⟨rfl,by rw[<- hY];exact HBd.out.1.trans (HYb.out.mono HBd.out.1.size)⟩
  ·clear HM HH;go_wp2;go_ret;exact⟨rfl,HBd.out.1⟩
end
section
open Go.RowKit
def T.Cls (w:World) (b:Nat) (ents:List (ByteArray×List S.Sp)):Prop :=
 ∃(es:Array MapEntry) (clock:Nat),w.heap[b]?=some (.map es clock)/\es.toList.length=ents.length/\∀(i:Nat) (e:MapEntry) (x:ByteArray×List S.Sp),es.toList[i]?=some e->ents[i]?=some x->e.key= .string x.1/\S.Rd w e.val x.2
theorem zv9 (w:World):T.Cls (w.alloc (.map #[] 0)) w.heap.size []:=⟨#[],0,heap_alloc_new w _,rfl,fun i e x h=>by simp at h⟩
theorem za6 {w w':World}{b:Nat}{ents:List (ByteArray×List S.Sp)}(h:T.Cls w b ents)(hb:Below w.heap.size w w'):T.Cls w' b ents:=by
 obtain⟨es,clock,h1,h2,h3⟩:=h;exact⟨es,clock,by rw[hb.block b (qA.1 h1).1];exact h1,h2,fun i e x he hx=>⟨(h3 i e x he hx).1,(h3 i e x he hx).2.below hb qN⟩⟩
theorem zga (s:ByteArray):∀(l:List MapEntry) (i:Nat),(∀e∈l,∃t,e.key= .string t/\t≠s)->Instr.findNow .string (.string s) l i=some none
 | [],_,_=>rfl
 | e::l,i,h=>by
  obtain⟨t,ht,hne⟩:=h e (by simp)
  have hb:(s==t)=false:=by
   apply Bool.eq_false_iff.2;intro hh;exact hne ((MapKept.bytes_beq _ _).1 hh).symm
  simp only[Instr.findNow,ht,Instr.sameNow,hb];exact zga s l (i+1) fun e' he'=>h e' (by simp[he'])
theorem zja (s:ByteArray):∀(l:List MapEntry) (i:Nat),(∀e∈l,∃t,e.key= .string t)->(∃e∈l,e.key= .string s)->∃j e,Instr.findNow .string (.string s) l i=some (some (j,e.val))/\e∈l/\e.key= .string s
 | [],_,_,h=>by obtain⟨e,he,_⟩:=h;simp at he
 | e::l,i,hk,h=>by
  obtain⟨t,ht⟩:=hk e (by simp)
  by_cases hst:s=t
  ·subst hst;exact⟨i,e,by simp only[Instr.findNow,ht,Instr.sameNow,(MapKept.bytes_beq s s).2 rfl],by simp,ht⟩
  ·have hb:(s==t)=false:=by
    apply Bool.eq_false_iff.2;intro hh;exact hst ((MapKept.bytes_beq _ _).1 hh)
   obtain⟨e0,he0,hk0⟩:=h
   have hm:e0∈l:=by
    rcases List.mem_cons.1 he0 with rfl | hm
    ·rw[ht] at hk0;cases hk0;exact absurd rfl hst
    ·exact hm
   obtain⟨j,e1,h1,h2,h3⟩:=zja s l (i+1) (fun x hx=>hk x (by simp[hx])) ⟨e0,hm,hk0⟩;exact⟨j,e1,by simp only[Instr.findNow,ht,Instr.sameNow,hb];exact h1,by simp[h2],h3⟩
theorem zbd {w w':World}{v:Value}{s:List S.Sp}{b:Nat}{es:Array MapEntry}{clock:Nat}(R:S.Rd w v s)(hb:w.heap[b]?=some (.map es clock))(hg:w.grownBy w' (some b)):S.Rd w' v s:=by
 obtain⟨vo,vc,rfl,hn,h⟩:=R;refine⟨vo,vc,rfl,hn,fun hz=> ?_⟩;obtain⟨g,off,rfl,hcl⟩:=h hz;refine⟨g,off,rfl,fun j x hj=> ?_⟩;have h1:=hcl j x hj
 have hne:g≠b:=by
  intro e;subst e;have:=h1.1;rw[World.cell?] at this;simp[hb] at this
 constructor
 ·rw[World.cell?_of_block (a:=⟨g,off+j*2,none⟩) (hg.block g (L.block_lt h1.1) (by simp[hne]))];exact h1.1
 ·rw[World.cell?_of_block (a:=⟨g,off+j*2+1,none⟩) (hg.block g (L.block_lt h1.2) (by simp[hne]))];exact h1.2
theorem zok {w:World}{b:Nat}{ents:List (ByteArray×List S.Sp)}(h:T.Cls w b ents)(s:ByteArray)(v:Value)(sp:List S.Sp)(hnew:∀x∈ents,x.1≠s)(R:S.Rd w v sp) :
  ∃w',(Instr.mapUpdate 131 (.map (some b)) (.string s) v).run prog w= .ok () w'/\T.Cls w' b (ents++ [(s,sp)])/\w.grownBy w' (some b):=by
 obtain⟨es,clock,h1,h2,h3⟩:=h
 have hkeys:∀e∈es.toList,∃t,e.key= .string t/\t≠s:=by
  intro e he;obtain⟨i,hi⟩:=List.getElem?_of_mem he;have hlt:i<ents.length:=by rw[<- h2];exact(qL.1 hi).1
  have hx:=h3 i e ents[i] hi (by simp[hlt]);exact⟨_,hx.1,hnew _ (List.getElem_mem _)⟩
 have hf:=zga s es.toList 0 hkeys;have hlt:=(qA.1 h1).1
 have hg:w.grownBy ({ w with heap:=w.heap.setIfInBounds b (.map (es.push { key:= .string s,val:=v,born:=clock }) (clock+1)) }:World) (some b):=⟨rfl,rfl,rfl,by simp,fun i _ hi=>by
  have hne:b≠i:=fun e=>hi (by rw[e])
  simp[hne]⟩
 refine⟨({ w with heap:=w.heap.setIfInBounds b (.map (es.push { key:= .string s,val:=v,born:=clock }) (clock+1)) }:World),?_,⟨es.push { key:= .string s,val:=v,born:=clock },clock+1,?_,?_,?_⟩,hg⟩
 ·simp[Instr.mapUpdate,run_underlying underlying131,MapKept.run_getObj_map h1,MapKept.run_checkKey (kt:=9) underlying9 (show MapKept.IsKey .string (.string s) from trivial),MapKept.run_findKey (kt:=9) underlying9 hf,MapKept.run_setObj_map _ h1,Result.andThen]
 ·simp[hlt]
 ·simp;simpa using h2
 ·intro i e x he hx;have hl:es.size=ents.length:=by simpa using h2
  rw[Array.toList_push] at he
  by_cases hi:i<ents.length
  ·rw[List.getElem?_append_left (by simpa [hl] using hi)] at he;rw[List.getElem?_append_left hi] at hx;have:=h3 i e x he hx;exact⟨this.1,zbd this.2 h1 hg⟩
  ·have hi2:i=ents.length:=by
    have:=(qL.1 hx).1;simp at this;omega
   subst hi2;rw[<- h2] at he;rw[List.getElem?_append_right qN] at he hx;simp at he hx;subst he hx;exact⟨rfl,zbd R h1 hg⟩
theorem zoj {w:World}{b:Nat}{ents:List (ByteArray×List S.Sp)}(h:T.Cls w b ents)(s:ByteArray) :
  (∃v x,x∈ents/\x.1=s/\S.Rd w v x.2/\(Instr.lookup 131 (.map (some b)) (.string s) true).run prog w= .ok (.tuple #[v,.bool true]) w) ∨
  ((∀x∈ents,x.1≠s)/\(Instr.lookup 131 (.map (some b)) (.string s) true).run prog w= .ok (.tuple #[.slice none 0 0,.bool false]) w):=by
 obtain⟨es,clock,h1,h2,h3⟩:=h
 have hkey:∀e∈es.toList,∃x∈ents,e.key= .string x.1/\S.Rd w e.val x.2:=by
  intro e he;obtain⟨i,hi⟩:=List.getElem?_of_mem he;have hlt:i<ents.length:=by rw[<- h2];exact(qL.1 hi).1
  have hx:=h3 i e ents[i] hi (by simp[hlt]);exact⟨_,List.getElem_mem _,hx.1,hx.2⟩
 by_cases hs:∃x∈ents,x.1=s
 ·left
  obtain⟨x,hx,hxs⟩:=hs
  have hex:∃e∈es.toList,e.key= .string s:=by
   obtain⟨i,hi⟩:=List.getElem?_of_mem hx;have hlt:i<es.toList.length:=by rw[h2];exact(qL.1 hi).1
   have:=h3 i es.toList[i] x (by simp) hi;exact⟨_,List.getElem_mem _,by rw[this.1,hxs]⟩
  obtain⟨j,e,hf,hm,hk⟩:=zja s es.toList 0 (fun e he=>by obtain⟨x,_,h,_⟩:=hkey e he;exact⟨_,h⟩) hex;obtain⟨y,hy,hyk,hR⟩:=hkey e hm;rw[hk] at hyk;cases hyk;refine⟨e.val,y,hy,rfl,hR,?_⟩;simp[Instr.lookup,run_underlying underlying131,MapKept.run_getObj_map h1,MapKept.run_checkKey (kt:=9) underlying9 (show MapKept.IsKey .string (.string y.1) from trivial),MapKept.run_findKey (kt:=9) underlying9 hf,Result.andThen]
 ·right
  refine⟨fun x hx e=>hs ⟨x,hx,e⟩,?_⟩
  have hf:=zga s es.toList 0 fun e he=>by
   obtain⟨x,hx,hk,_⟩:=hkey e he;exact⟨x.1,hk,fun e=>hs ⟨x,hx,e⟩⟩
  have hz:=Tryz.zeroValue24;simp[Instr.lookup,run_underlying underlying131,MapKept.run_getObj_map h1,MapKept.run_checkKey (kt:=9) underlying9 (show MapKept.IsKey .string (.string s) from trivial),MapKept.run_findKey (kt:=9) underlying9 hf,Result.andThen,hz]
theorem zs7 (w:World)(sp:List S.Sp)(C:Array Value)(hC:C=(S.cellsOf sp).toArray)(n:Nat)(hn:n=sp.length)(c:Nat):S.Rd (w.alloc (.cells C 101)) (.slice (some ⟨w.heap.size,0,none⟩) n c) sp:=by
 subst hC hn;refine⟨_,c,rfl,(fun h=>by cases h),fun _=>⟨w.heap.size,0,rfl,fun j x hj=> ?_⟩⟩;have hg:=S.zco hj;rw[World.cell?_alloc_at _ _ _ _ rfl,World.cell?_alloc_at _ _ _ _ rfl];simp only[Nat.zero_add];exact⟨by simpa using hg.1,by simpa using hg.2⟩
