import Derived.Test.YtcadaallpiekiaaGreatDoorCnGo
set_option maxHeartbeats 0
set_option maxRecDepth 20000
set_option linter.unusedSimpArgs false
set_option linter.unusedVariables false
namespace Go.Proofs.YtcadaallpiekiaaGreatDoor
open Go.Proofs.Tryz
section
open Go.RowKit
theorem zil (r:Int)(w:World) :
  Calls prog 42 #[.int .i32 r] w fun e w'=>e=.returned (.bool (M.right r))/\w'=w:=by
 go_enter func42,ntmps42
 go_wp2
 all_goals go_ret
 all_goals refine⟨L.zaj ?_,rfl⟩
 all_goals (unfold M.right;rw[Bool.eq_iff_iff];simp;try omega)
theorem zgp (w:World)(v:Value)(l:List Int)(R:L.Rd w v .i32 l)(hl:l.length<=4000) :
  Calls prog 66 #[v] w fun e w'=>e=.returned (.bool (K.allR l))/\Bl w w':=by
 obtain⟨ao,cap,rfl,hn,hc⟩:=R
 go_enter func66,ntmps66
 go_wp2
 go_loopw [7] (fun i wr=>∃k:Nat,k<=l.length/\i=.int .i64 k/\Hid (K.allR (l.take k)=true)/\Hid (Bl w wr)) (fun i _=>l.length-(intOf i).toNat)
 case atStart=>exact⟨0,Nat.zero_le _,rfl,by show K.allR (l.take 0)=true;simp[K.allR],qR w⟩
 case round =>
  obtain⟨k,hk,rfl,HW,HB⟩:=hrel
  by_cases hlt:k<l.length
  ·obtain⟨b,off,rfl,hcell⟩:=hc (by intro h;subst h;simp at hlt);obtain⟨x,hx⟩:∃x,l[k]?=some x:=⟨l[k],by simp[hlt]⟩;have c1:=hcell k x hx;have hb:=L.block_lt c1;rw[<- HB.out.cell (p:=⟨b,_,none⟩) hb] at c1;have HX:=qH hx;have hsz:=HB.out.size;have hob:=zil x wr;clear hx hcell hc;cases hbad:M.right x with
   | false =>
    rw[hbad] at hob;have HR:=qH hbad;clear hbad
    go_wp2_with fail
    refine hob.mono ?_;rintro e w1 ⟨rfl,rfl⟩;go_wp2;go_ret;refine⟨L.zaj ?_,HB.out⟩
    symm
    exact List.all_eq_false.2 ⟨_,List.mem_of_getElem? HX.out,by rw[HR.out];simp⟩
   | true =>
    rw[hbad] at hob;have HR:=qH hbad;clear hbad
    go_wp2_with fail
    refine hob.mono ?_;rintro e w1 ⟨rfl,rfl⟩;go_wp2
    go_roundw
    case rel =>
     refine⟨k+1,by omega,by go_num,?_,HB.out⟩;show K.allR (l.take (k+1))=true;have h:=HW.out;unfold K.allR at h ⊢;rw[List.take_add_one,HX.out,List.all_append,h];simp[HR.out]
    case measure=>simp[intOf];omega
  ·go_wp2;go_ret
   refine⟨L.zaj ?_,HB.out⟩;have h:=HW.out;rw[List.take_of_length_le (by omega)] at h;rw[h]
theorem K.first3 {e1 e2 e3 o t:Int}(h:(if e1≠0 then e1 else if e2≠0 then e2 else if e3≠0 then e3 else t)=o):∀(k:Nat) e,[e1,e2,e3][k]?=some e->(∀(j:Nat) e',j<k-> [e1,e2,e3][j]?=some e'->e'=0)->e≠0->e=o:=by
 intro k e hk hj he
 match k,hk with
 | 0,hk =>
  simp at hk;subst hk;rw[if_pos he] at h;exact h
 | 1,hk =>
  simp at hk;subst hk;have h0:=hj 0 e1 (by omega) rfl;rw[if_neg (by simp[h0]),if_pos he] at h;exact h
 | 2,hk =>
  simp at hk;subst hk;have h0:=hj 0 e1 (by omega) rfl;have h1:=hj 1 e2 (by omega) rfl;rw[if_neg (by simp[h0]),if_neg (by simp[h1]),if_pos he] at h;exact h
 | k+3,hk=>simp at hk
theorem zex (w:World)(v:Value)(l:List S.Sp)(R:S.Rd w v l)(hf:S.Fit l) :
  Calls prog 63 #[v] w fun e w'=>e=.returned (.int .i64 (S.wrongE l))/\Bl w w':=by
 obtain⟨ao,cap,rfl,hn,hc⟩:=R;unfold S.wrongE
 by_cases hbig:200<l.length
 ·rw[if_pos hbig]
  go_enter func63,ntmps63
  go_wp2;go_ret
  exact⟨rfl,qR w⟩
 ·rw[if_neg hbig]
  go_enter func63,ntmps63
  go_wp2
  go_loopw [10] (fun i wr=>∃k:Nat,k<=l.length/\i=.int .i64 k/\Hid (∃b,S.wgo 0 l=S.wgo b (l.drop k)/\(k=0->b=0)/\∀p,0<k->l[k-1]?=some p->b=p.2+2/\p.2<=1114111)/\Hid (Bl w wr)) (fun i _=>l.length-(intOf i).toNat)
  case atStart=>exact⟨0,Nat.zero_le _,rfl,⟨0,by simp,fun _=>rfl,fun p h=>absurd h (Nat.lt_irrefl _)⟩,qR w⟩
  case round =>
   obtain⟨k,hk,rfl,HW,HB⟩:=hrel
   by_cases hlt:k<l.length
   ·obtain⟨b,off,rfl,hcell⟩:=hc (by intro h;subst h;simp at hlt);obtain⟨x,hx⟩:∃x,l[k]?=some x:=⟨l[k],by simp[hlt]⟩;have c0:=hcell k x hx;have hb:=L.block_lt c0.1;have cc:=fun o=>HB.out.cell (p:=⟨b,o,none⟩) hb
    have c1:=c0.1;have c2:=c0.2;rw[<- cc] at c1 c2;have HX:=qH hx;have fx:=hf.at hx;have hsz:=HB.out.size;have hne:b≠wr.heap.size:=by omega
    obtain⟨x1,x2⟩:=x;simp only at c1 c2 fx;clear c0 hx;have HB2:=qH<|fun o=>HB.out.alloc hsz o
    cases hbad:S.bad (x1,x2) with
    | true =>
     have HR:=qH hbad
     have hE:Hid (S.wgo 0 l=3):=by
      obtain⟨bb,he,_⟩:=HW.out;show S.wgo 0 l=3;rw[he,zb2 HX.out,HR.out];rfl
     clear cc hcell hc
     by_cases h1:x1<0
     ·go_wp2;go_ret
      exact⟨by rw[hE.out];rfl,HB2.out _⟩
     ·by_cases h3:x2<x1
      ·go_wp2;go_ret
       exact⟨by rw[hE.out];rfl,HB2.out _⟩
      ·have h2:1114111<x2:=by
        simp[S.bad] at hbad;omega
       clear hbad;go_wp2;go_ret;exact⟨by rw[hE.out];rfl,HB2.out _⟩
    | false =>
     have HR:=qH hbad;have hok:=S.bad_false.1 hbad;simp only at hok;clear hbad;have h1:¬x1<0:=by omega
     have h2:¬x2<x1:=by omega
     have h3:¬ 1114111<x2:=by omega
     cases k with
     | zero =>
      clear cc hcell hc;simp only[Nat.zero_mul,Nat.add_zero] at c1 c2;go_wp2
      go_quiet (fail)
      go_wp2
      go_roundw
      case rel =>
       obtain⟨bb,he,h0,_⟩:=HW.out;refine⟨1,by omega,by go_num,⟨x2+2,?_,fun h=>by omega,fun p _ hp=> ?_⟩,below_drewN (HB2.out _) _⟩
       ·rw[he,zb2 HX.out,HR.out,h0 trivial,if_neg (by simp),if_neg (by simp;omega)]
       ·have h1:=HX.out;rw[hp] at h1;cases h1;exact⟨rfl,by omega⟩
      case measure=>simp[intOf];omega
     | succ m =>
      obtain⟨p,hp⟩:∃p,l[m]?=some p:=⟨l[m]'(by omega),by simp[show m<l.length by omega]⟩;have c3:=(hcell m p hp).2;rw[<- cc] at c3;have fp:=hf.at hp;have HP:=qH hp;obtain⟨p1,p2⟩:=p;simp only at c3 fp;clear cc hcell hc hp;obtain⟨bb,he,_,hpp⟩:=HW.out;obtain⟨rfl,hp2⟩:=hpp _ (Nat.succ_pos _) HP.out;simp only at hp2;have HE:Hid (S.wgo 0 l=S.wgo (p2+2) (l.drop (m+1))):=he;clear he hpp HW
      by_cases hlow:x1-p2<2
      ·go_wp2;have HQ:=S.boxed (wr:=wr) (t:=113) (a:=.int .i32 x1) (b:=.int .i32 x2) (qR _)
       have HB3:=HB2.out (.cells #[.int .i32 x1,.int .i32 x2] 113);generalize wr.alloc (.cells #[.int .i32 x1,.int .i32 x2] 113)=w1 at HQ HB3 ⊢;obtain⟨⟨d1,d2⟩,hold,hs1,_⟩:=HQ
       replace c3:=hold _ _ _ c3
       have HB4:=qH HB3;clear hold HB3
       go_quiet (fail)
       go_wp2;go_ret
       refine⟨?_,below_drewN HB4.out _⟩;rw[HE.out,zb2 HX.out,HR.out,if_neg (by simp),if_pos (by show x1<p2+2;omega)];rfl
      ·go_wp2;have HQ:=S.boxed (wr:=wr) (t:=113) (a:=.int .i32 x1) (b:=.int .i32 x2) (qR _)
       have HB3:=HB2.out (.cells #[.int .i32 x1,.int .i32 x2] 113);generalize wr.alloc (.cells #[.int .i32 x1,.int .i32 x2] 113)=w1 at HQ HB3 ⊢;obtain⟨⟨d1,d2⟩,hold,hs1,_⟩:=HQ
       replace c3:=hold _ _ _ c3
       have HB4:=qH HB3;clear hold HB3
       go_quiet (fail)
       go_wp2
       go_roundw
       case rel =>
        refine⟨m+1+1,by omega,by go_num,⟨x2+2,?_,fun h=>by omega,fun p _ hp=> ?_⟩,below_drewN HB4.out _⟩
        ·rw[HE.out,zb2 HX.out,HR.out,if_neg (by simp),if_neg (by show ¬x1<p2+2;omega)]
        ·have h1:=HX.out;have hp:l[m+1]?=some p:=hp;rw[hp] at h1;cases h1;exact⟨rfl,by omega⟩
       case measure=>simp[intOf];omega
   ·go_wp2;go_ret
    refine⟨?_,HB.out⟩;obtain⟨b,he,_⟩:=HW.out;rw[he,List.drop_eq_nil_of_le (by omega)];rfl
theorem zmy (w:World)(v:Value)(r:K.Rule)(R:K.RuIs w v r) :
  Calls prog 95 #[v] w fun e w'=>e=.returned (.int .i64 (K.ruleE r))/\Bl w w':=by
 obtain⟨bo,bc,so,sc,ao,ac,tgo,tc,rfl,R1,R2,R3,R4,hl4,hcur⟩:=R;have f2:=R2.few;have hI1:=hcur.1;have hI2:=hcur.2;have C4:Hid (r.target.length<=20->∀X,Bl w X->Calls prog 66 #[.slice tgo r.target.length tc] X fun e w'=>e=.returned (.bool (K.allR r.target))/\Bl X w'):=fun h X hX=>zgp X _ _ (R4.below hX qN) (by omega)
 obtain⟨o,HO⟩:∃o,Hid (K.ruleE r=o):=⟨_,rfl⟩;rw[HO.out];unfold K.ruleE K.tailE at HO;obtain⟨e1,he1⟩:=qE (K.setsE r.before);obtain⟨e2,he2⟩:=qE (K.setsE r.source);obtain⟨e3,he3⟩:=qE (K.setsE r.after);obtain⟨e4,he4⟩:=qE (K.allR r.target);rw[<- he1,<- he2,<- he3,<- he4] at HO;rw[<- he4] at C4
 have HE:Hid (∀k:Nat,k<3->∃xo xc x e,(#[.slice bo r.before.length bc,.slice so r.source.length sc,.slice ao r.after.length ac]:Array Value)[k]?=some (.slice xo x.length xc)/\K.Ss w (.slice xo x.length xc) x/\ [e1,e2,e3][k]?=some e/\e=K.setsE x):=fun k hk=>by
  match k,hk with
  | 0,_=>exact⟨bo,bc,r.before,e1,rfl,R1,rfl,he1⟩
  | 1,_=>exact⟨so,sc,r.source,e2,rfl,R2,rfl,he2⟩
  | 2,_=>exact⟨ao,ac,r.after,e3,rfl,R3,rfl,he3⟩
 have HF:=qH<|K.first3 HO.out;clear he1 he2 he3 he4 R1 R2 R3 R4 hcur;obtain⟨st,fi,be,sou,af,ta,cu⟩:=r;simp only at *;obtain⟨W0,hW0⟩:=qE ((w.alloc (.cells #[.bool st,.bool fi,.slice bo be.length bc,.slice so sou.length sc,.slice ao af.length ac,.slice tgo ta.length tc,.int .i64 cu] 79)).alloc (.cells #[.slice bo be.length bc,.slice so sou.length sc,.slice ao af.length ac] 77))
 have HW0:Hid (W0.heap[w.heap.size]?=some (.cells #[.bool st,.bool fi,.slice bo be.length bc,.slice so sou.length sc,.slice ao af.length ac,.slice tgo ta.length tc,.int .i64 cu] 79)/\W0.heap[w.heap.size+1]?=some (.cells #[.slice bo be.length bc,.slice so sou.length sc,.slice ao af.length ac] 77)/\Bl w W0):=by
  have h:=K.za3 (qR W0 |> fun h=>by rw[hW0] at h ⊢;exact h) (w:=w) (w1:=W0) (o1:=.cells #[.bool st,.bool fi,.slice bo be.length bc,.slice so sou.length sc,.slice ao af.length ac,.slice tgo ta.length tc,.int .i64 cu] 79) (o2:=.cells #[.slice bo be.length bc,.slice so sou.length sc,.slice ao af.length ac] 77);exact⟨h.1,h.2.1,h.2.2.1⟩
 go_enter func95,ntmps95
 go_wp2;rw[<- hW0]
 clear hW0
 go_loopw [15] (fun i wr=>∃k:Nat,k<=3/\i=.int .i64 k/\Hid (∀(j:Nat) e',j<k-> [e1,e2,e3][j]?=some e'->e'=0)/\Hid (Bl w wr/\wr.heap[w.heap.size]?=some (.cells #[.bool st,.bool fi,.slice bo be.length bc,.slice so sou.length sc,.slice ao af.length ac,.slice tgo ta.length tc,.int .i64 cu] 79)/\wr.heap[w.heap.size+1]?=some (.cells #[.slice bo be.length bc,.slice so sou.length sc,.slice ao af.length ac] 77))) (fun i _=>3-(intOf i).toNat)
 case atStart=>exact⟨0,by omega,rfl,fun j e' h=>absurd h (Nat.not_lt_zero _),HW0.out.2.2,HW0.out.1,HW0.out.2.1⟩
 case round =>
  obtain⟨k,hk,rfl,HZ,HB⟩:=hrel;obtain⟨wo,hwo⟩:=qE wr;subst hwo
  by_cases hlt:k<3
  ·obtain⟨xo,xc,x,ex,hcx,Rx,hex,hes⟩:=HE.out k hlt;have hfew:=Rx.few;have HX:=qH Rx;have HEX:=qH hex;have dk:=K.zad (i:=k) HB.out.2.2 hcx;have hk0:(0:Int)<=(k:Int):=by omega
   have hk3:(k:Int)<3:=by omega
   unfold K.setsE at hes;clear Rx hex hcx
   by_cases hbig:20<x.length
   ·rw[if_pos hbig] at hes;go_wp2;go_ret;exact⟨by rw[<- HF.out k ex HEX.out HZ.out (by omega),hes];rfl,HB.out.1⟩
   ·rw[if_neg hbig] at hes;go_wp2
    go_loopw [24] (fun i wi=>∃m:Nat,m<=x.length/\i=.int .i64 m/\Hid (K.firstE x=K.firstE (x.drop m))/\Hid (Bl wo wi)) (fun i _=>x.length-(intOf i).toNat)
    case atStart=>exact⟨0,Nat.zero_le _,rfl,rfl,qR wo⟩
    case round =>
     obtain⟨m,hm,rfl,HW,HBi⟩:=hrel;have HBw:=qH<|HB.out.1.trans (HBi.out.mono HB.out.1.size)
     by_cases hlt2:m<x.length
     ·obtain⟨s,hs⟩:∃s,x[m]?=some s:=⟨x[m],by simp[hlt2]⟩;obtain⟨b,off,sso,ssc,rfl,c1,R1,F1⟩:=(HX.out.below HBw.out).at hs;have HD:=K.zfz hs;rw[<- HW.out] at HD;have hsz:=HBi.out.size;have hw:=zex wr _ s R1 F1;clear R1 F1 hs;obtain⟨e0,he0⟩:=qE (S.wrongE s);rw[<- he0] at HD hw;have HD2:=qH HD;clear HD he0
      by_cases h0:e0=0
      ·subst h0
       go_wp2_with fail
       refine hw.mono ?_;rintro e w1 ⟨rfl,hb⟩;have HB1:=qH<|HBi.out.trans (hb.mono hsz);go_wp2
       go_roundw
       case rel=>exact⟨m+1,by omega,by go_num,by show _=_;have:=HD2.out;simpa using this,HB1.out⟩
       case measure=>simp[intOf];omega
      ·go_wp2_with fail
       refine hw.mono ?_;rintro e w1 ⟨rfl,hb⟩;have HB1:=qH<|HBw.out.trans (hb.mono HBw.out.size);have hfin:ex=e0:=by have h1:=HD2.out;rw[if_neg h0] at h1;rw[hes,h1]
       go_wp2;go_ret
       exact⟨by rw[<- HF.out k ex HEX.out HZ.out (by omega),hfin];rfl,HB1.out⟩
     ·have hfin:ex=0:=by rw[hes,HW.out,List.drop_eq_nil_of_le (by omega)];rfl
      have HBB:Hid (Bl w wr/\wr.heap[w.heap.size]?=some (.cells #[.bool st,.bool fi,.slice bo be.length bc,.slice so sou.length sc,.slice ao af.length ac,.slice tgo ta.length tc,.int .i64 cu] 79)/\wr.heap[w.heap.size+1]?=some (.cells #[.slice bo be.length bc,.slice so sou.length sc,.slice ao af.length ac] 77)):=⟨HBw.out,K.zae HB.out.2.1 HBi.out,K.zae HB.out.2.2 HBi.out⟩;go_wp2
      go_roundw
      case rel =>
       refine⟨k+1,by omega,by go_num,fun j e' hj he'=> ?_,HBB.out⟩
       by_cases hjk:j=k
       ·subst hjk;rw[HEX.out] at he';cases he';exact hfin
       ·exact HZ.out j e' (by omega) he'
      case measure=>simp[intOf];omega
  ·obtain rfl:k=3:=by omega
   have q1:=HZ.out 0 e1 (by omega) rfl;have q2:=HZ.out 1 e2 (by omega) rfl;have q3:=HZ.out 2 e3 (by omega) rfl;subst q1 q2 q3;have d3:=K.zad (i:=3) HB.out.2.1 rfl;have d5:=K.zad (i:=5) HB.out.2.1 rfl;have d6:=K.zad (i:=6) HB.out.2.1 rfl;have HB3:=qH HB.out.1
   have HO2:Hid ((if sou.length=0 then (6:Int) else if 20<ta.length then 5 else if e4=false then 3 else if cu<0 then 3 else if (ta.length:Int)<cu then 3 else 0)=o):=by
    have h:=HO.out;rw[if_neg (by simp),if_neg (by simp),if_neg (by simp)] at h;exact h
   by_cases q4:sou.length=0
   ·go_wp2;go_ret
    exact⟨by rw[<- HO2.out,if_pos q4];rfl,HB3.out⟩
   ·by_cases q5:20<ta.length
    ·go_wp2;go_ret
     exact⟨by rw[<- HO2.out,if_neg q4,if_pos q5];rfl,HB3.out⟩
    ·have hC4:=C4.out (by omega) wo HB3.out
     go_wp2_with fail
     refine hC4.mono ?_;rintro e w4 ⟨rfl,hb⟩;have HB4:=qH<|HB3.out.trans (hb.mono HB3.out.size);have HH4:=K.zae HB.out.2.1 hb;have g5:=K.zad (i:=5) HH4 rfl;have g6:=K.zad (i:=6) HH4 rfl;clear hb HH4 d3 d5 d6
     have HO3:Hid ((if e4=false then (3:Int) else if cu<0 then 3 else if (ta.length:Int)<cu then 3 else 0)=o):=by
      have h:=HO2.out;rw[if_neg q4,if_neg q5] at h;exact h
     cases e4 with
     | false =>
      go_wp2;go_ret
      exact⟨by rw[<- HO3.out];rfl,HB4.out⟩
     | true =>
      by_cases q6:cu<0
      ·go_wp2;go_ret
       exact⟨by rw[<- HO3.out,if_neg (by simp),if_pos (by omega)];rfl,HB4.out⟩
      ·by_cases q7:(ta.length:Int)<cu
       ·go_wp2;go_ret
        exact⟨by rw[<- HO3.out,if_neg (by simp),if_neg (by omega),if_pos (by omega)];rfl,HB4.out⟩
       ·go_wp2;go_ret
        exact⟨by rw[<- HO3.out,if_neg (by simp),if_neg (by omega),if_neg (by omega)];rfl,HB4.out⟩
theorem zpz {l:List S.Sp}{k:Nat}{x:S.Sp}{r:Int}(hx:l[k]?=some x):S.memb (l.take (k+1)) r=(S.memb (l.take k) r||(decide (x.1<=r)&&decide (r<=x.2))):=by
 rw[List.take_add_one,hx,S.zcp];simp[S.zav,S.zbt]
theorem zei (w:World)(v:Value)(l:List S.Sp)(r:Int)(R:S.Rd w v l)(hl:l.length<=4611686018427387903) :
  Calls prog 67 #[v,.int .i32 r] w fun e w'=>e=.returned (.bool (S.memb l r))/\Bl w w':=by
 obtain⟨ao,cap,rfl,hn,hc⟩:=R
 go_enter func67,ntmps67
 go_wp2
 go_loopw [9] (fun i wr=>∃k:Nat,k<=l.length/\i=.int .i64 k/\Hid (S.memb (l.take k) r=false)/\Hid (Bl w wr)) (fun i _=>l.length-(intOf i).toNat)
 case atStart=>exact⟨0,Nat.zero_le _,rfl,by show S.memb (l.take 0) r=false;simp[S.zbt],qR w⟩
 case round =>
  obtain⟨k,hk,rfl,HW,HB⟩:=hrel
  by_cases hlt:k<l.length
  ·obtain⟨b,off,rfl,hcell⟩:=hc (by intro h;subst h;simp at hlt);obtain⟨x,hx⟩:∃x,l[k]?=some x:=⟨l[k],by simp[hlt]⟩;have c0:=hcell k x hx;have hb:=L.block_lt c0.1;have cc:=fun o=>HB.out.cell (p:=⟨b,o,none⟩) hb
   have c1:=c0.1;have c2:=c0.2;rw[<- cc] at c1 c2;have HX:=qH hx;have hsz:=HB.out.size;have HM:=zpz (r:=r) hx;rw[HW.out] at HM;obtain⟨x1,x2⟩:=x;simp only[Bool.false_or] at c1 c2 HM;have HM2:Hid (S.memb (l.take (k+1)) r=(decide (x1<=r)&&decide (r<=x2))):=HM;have HB2:=qH<|fun o=>HB.out.alloc hsz o
   clear c0 hx hcell hc cc HM
   by_cases h1:x1<=r
   ·by_cases h2:r<=x2
    ·go_wp2;go_ret
     refine⟨L.zaj ?_,HB2.out _⟩
     symm
     rw[S.za9];exact⟨(x1,x2),List.mem_of_getElem? HX.out,h1,h2⟩
    ·go_wp2
     go_roundw
     case rel=>exact⟨k+1,by omega,by go_num,by show _=_;rw[HM2.out];simp[h2],HB2.out _⟩
     case measure=>simp[intOf];omega
   ·go_wp2
    go_roundw
    case rel=>exact⟨k+1,by omega,by go_num,by show _=_;rw[HM2.out];simp[h1],HB2.out _⟩
    case measure=>simp[intOf];omega
  ·go_wp2;go_ret
   refine⟨L.zaj ?_,HB.out⟩;rw[<- HW.out,List.take_of_length_le (by omega)]
theorem zin (w:World)(v:Value)(r:K.Rule)(R:K.RuIs w v r)(hE:K.ruleE r=0)(vt:Value)(t:List Int)(Rt:L.Rd w vt .i32 t)(ht:t.length<=4000)(k:Int)(hk0:0<=k)(hk1:k<=t.length) :
  Calls prog 118 #[v,vt,.int .i64 k] w fun e w'=>e=.returned (.bool (K.matchB r t k))/\Bl w w':=by
 obtain⟨g1,g2,g3,hsrc,_⟩:=K.zas hE;have l1:=g1.1;have l2:=g2.1;have l3:=g3.1;obtain⟨bo,bc,so,sc,ao,ac,tgo,tc,rfl,R1,R2,R3,R4,hl4,hcur⟩:=R;have HT:=qH Rt;obtain⟨xo,xc,rfl,_⟩:=Rt;have HMB:Hid (K.matchB r t k=(K.runAt t (k-r.before.length) (r.before++r.source++r.after)&& !(r.start&&decide (0<k-r.before.length))&& !(r.fin&&decide (k+r.source.length+r.after.length<t.length)))):=rfl
 have hG:∀s∈r.before++r.source++r.after,S.Nf 0 s/\s.length<=200:=fun s hs=>by
  rcases List.mem_append.1 hs with hs|hs
  ·rcases List.mem_append.1 hs with hs|hs
   ·exact g1.2 s hs
   ·exact g2.2 s hs
  ·exact g3.2 s hs
 have HG:=qH hG;generalize K.matchB r t k=mb at *;obtain⟨st,fi,be,sou,af,ta,cu⟩:=r;simp only at *;clear g1 g2 g3 hG hE;obtain⟨W0,hW0⟩:=qE (w.alloc (.cells #[.bool st,.bool fi,.slice bo be.length bc,.slice so sou.length sc,.slice ao af.length ac,.slice tgo ta.length tc,.int .i64 cu] 79));have hH0:W0.heap[w.heap.size]?=some (.cells #[.bool st,.bool fi,.slice bo be.length bc,.slice so sou.length sc,.slice ao af.length ac,.slice tgo ta.length tc,.int .i64 cu] 79):=by rw[hW0];exact heap_alloc_new w _
 have hB0:Bl w W0.drew:=by rw[hW0];exact((qR w).alloc qN _).drew
 have hs0:W0.heap.size=w.heap.size+1:=by rw[hW0];simp
 have hs0':W0.drew.heap.size=w.heap.size+1:=hs0;have hH0':W0.drew.heap[w.heap.size]?=some (.cells #[.bool st,.bool fi,.slice bo be.length bc,.slice so sou.length sc,.slice ao af.length ac,.slice tgo ta.length tc,.int .i64 cu] 79):=hH0;obtain⟨u1,V1⟩:=K.Ss.vals R1;obtain⟨u2,V2⟩:=K.Ss.vals R2;obtain⟨u3,V3⟩:=K.Ss.vals R3;have sets1:K.Sets w u1 be:=by obtain⟨_,_,_,_,h,_⟩:=V1;exact h
 have sets2:K.Sets w u2 sou:=by obtain⟨_,_,_,_,h,_⟩:=V2;exact h
 have sets3:K.Sets w u3 af:=by obtain⟨_,_,_,_,h,_⟩:=V3;exact h
 obtain⟨v1,W1,run1,own1,gr1⟩:=K.zh2 W0.drew (w.heap.size+1) (.slice none 0 0) [] (World.ownsRow_nil _ _ _ _) _ be u1 (V1.below hB0) (by simp;omega) (by omega);have hB1:=hB0.grown gr1 (by omega) (fun g hg=>by cases hg);have hH1:W1.heap[w.heap.size]?=some (.cells #[.bool st,.bool fi,.slice bo be.length bc,.slice so sou.length sc,.slice ao af.length ac,.slice tgo ta.length tc,.int .i64 cu] 79):=by rw[gr1.block _ (by omega) (by simp[Value.ownBlock])];exact hH0'
 have hs1:=gr1.size;have e1:=sets1.1;obtain⟨v2,W2,run2,own2,gr2⟩:=K.zh2 W1 (w.heap.size+1) v1 _ own1 _ sou u2 (V2.below hB1) (by simp;omega) (by omega);have hB2:=hB1.grown gr2 (by omega) (fun g hg=>by have:=(own1.lt g hg).1;omega);have hH2:W2.heap[w.heap.size]?=some (.cells #[.bool st,.bool fi,.slice bo be.length bc,.slice so sou.length sc,.slice ao af.length ac,.slice tgo ta.length tc,.int .i64 cu] 79):=by rw[gr2.block _ (by omega) (fun hg=>by have:=(own1.lt _ hg.symm).1;omega)];exact hH1
 have hs2:=gr2.size;have e2:=sets2.1;obtain⟨v3,W3,run3,own3,gr3⟩:=K.zh2 W2 (w.heap.size+1) v2 _ own2 _ af u3 (V3.below hB2) (by simp;omega) (by omega);have hB3:=hB2.grown gr3 (by omega) (fun g hg=>by have:=(own2.lt g hg).1;omega);have hH3:W3.heap[w.heap.size]?=some (.cells #[.bool st,.bool fi,.slice bo be.length bc,.slice so sou.length sc,.slice ao af.length ac,.slice tgo ta.length tc,.int .i64 cu] 79):=by rw[gr3.block _ (by omega) (fun hg=>by have:=(own2.lt _ hg.symm).1;omega)];exact hH2
 have e3:=sets3.1;have hs3:=gr3.size;obtain⟨us,hus⟩:=qE ( []++u1++u2++u3);obtain⟨l,hl⟩:=qE (be++sou++af);have hSets:K.Sets w us l:=by rw[hus,hl];simpa using (sets1.append sets2).append sets3
 have hlen:l.length=be.length+sou.length+af.length:=by rw[hl];simp only[List.length_append]
 have HLen:=qH hlen;have hl60:l.length<=60:=by omega
 have hl0:0<l.length:=by omega
 rw[<- hus] at own3;rw[<- hl] at HMB HG;have HS:=qH hSets
 obtain⟨g,cap,hv3,hgB,hgc⟩:∃g cap,v3=.slice (some ⟨g,0,none⟩) l.length cap/\w.heap.size+1<=g/\∀(j:Nat) u,us[j]?=some u->W3.cell? ⟨g,0+j,none⟩=some u:=by
  have hc:=fun g hg=>World.ownsRow.cells own3 (g:=g) hg
  rcases own3.2 with ⟨_,h0⟩|⟨g,cap,cur,hv,hB,_⟩
  ·rw[hSets.1] at h0;omega
  ·refine⟨g,cap,by rw[hv,hSets.1],hB,fun j u hj=> ?_⟩;have:=hc g (by rw[hv];rfl) j u hj;rw[L.addr_add] at this;exact this
 have HGC:=qH hgc;subst hv3;have c2:=K.zad (i:=2) hH0 rfl;have c3:=K.zad (i:=3) hH0 rfl;have c4:=K.zad (i:=4) hH0 rfl;have c12:=K.zad (i:=2) hH1 rfl;have c13:=K.zad (i:=3) hH1 rfl;have c14:=K.zad (i:=4) hH1 rfl;have c22:=K.zad (i:=2) hH2 rfl;have c23:=K.zad (i:=3) hH2 rfl;have c24:=K.zad (i:=4) hH2 rfl;have HB3:=qH hB3;have HH3:=qH hH3;clear hH0 hH0' hH1 hH2 hH3 hB0 hB1 hB2 hB3 own1 own2 own3 gr1 gr2 gr3 V1 V2 V3 sets1 sets2 sets3 hSets hlen hgc R1 R2 R3 R4 hus hl
 go_enter func118,ntmps118
 go_wp2;rw[<- hW0]
 clear hW0;have c32:=K.zad (i:=2) HH3.out rfl;have c33:=K.zad (i:=3) HH3.out rfl;have c34:=K.zad (i:=4) HH3.out rfl;have HR1:=qH run1;have HR2:=qH run2;have HR3:=qH run3;clear run1 run2 run3
 go_region_held3 (fun w'=>w'.cell? ⟨w.heap.size,2,none⟩=some (.slice bo be.length bc)/\w'.cell? ⟨w.heap.size,3,none⟩=some (.slice so sou.length sc)/\w'.cell? ⟨w.heap.size,4,none⟩=some (.slice ao af.length ac))
  (first|exact⟨c12,c13,c14⟩|exact⟨c22,c23,c24⟩|exact⟨c32,c33,c34⟩|go_keep)
  (first|(refine K.za7 (by rfl) (.tmp 12) (.tmp 14) (by rfl) _ _ v1 W1 (by rfl) (by rfl) HR1.out ?_)|(refine K.za7 (by rfl) (.tmp 15) (.tmp 17) (by rfl) _ _ v2 W2 (by rfl) (by rfl) HR2.out ?_)|(refine K.za7 (by rfl) (.tmp 18) (.tmp 20) (by rfl) _ _ _ W3 (by rfl) (by rfl) HR3.out ?_)|fail)
 have hneg: -9223372036854775808<=k-(be.length:Int):=by omega
 clear c2 c3 c4 c12 c13 c14 c22 c23 c24 HR1 HR2 HR3;go_wp2
 go_loopw [29] (fun i wr=>∃j:Nat,j<=l.length/\i=.int .i64 j/\Hid (K.runAt t (k-be.length) l=K.runAt t (k-be.length+j) (l.drop j))/\Hid (Bl w wr/\Bl W3 wr)) (fun i _=>l.length-(intOf i).toNat)
 case atStart=>exact⟨0,Nat.zero_le _,rfl,by show _=_;simp,HB3.out,qR _⟩
 case round =>
  obtain⟨j,hj,rfl,HW,HB⟩:=hrel;have HBw:=qH HB.out.1;have HHr:=qH<|K.zae HH3.out HB.out.2
  by_cases hlt:j<l.length
  ·obtain⟨s,hsj⟩:∃s,l[j]?=some s:=⟨l[j],by simp[hlt]⟩;obtain⟨u,hu⟩:∃u,us[j]?=some u:=⟨us[j]'(by rw[HS.out.1];exact hlt),by simp⟩;obtain⟨⟨sso,ssc,rfl⟩,R1,F1⟩:=HS.out.2 j u s hu hsj;have c1:=HGC.out j _ hu;have hbg:=L.block_lt c1;rw[<- HB.out.2.cell (p:=⟨g,_,none⟩) hbg,Nat.zero_add] at c1;obtain⟨hN,hlen⟩:=HG.out s (List.mem_of_getElem? hsj);have HD:=K.zgm (t:=t) (k:=k-be.length) hsj;rw[<- HW.out] at HD;have hfalse:∀b,K.runAt t (k-be.length) l=(false&&b)->mb=false:=fun b h=>by rw[HMB.out,h];simp
   have HF:=qH hfalse;clear hfalse hu hsj
   by_cases h1:k-(be.length:Int)+j<0
   ·have hf:=HF.out false (by rw[HD,decide_eq_false (show ¬(0<=k-(be.length:Int)+j) by omega)];simp only[Bool.false_and]);clear HD;go_wp2;go_ret
    first|exact⟨L.zaj hf.symm,HBw.out⟩|exact⟨rfl,HBw.out⟩
   ·by_cases h2:(t.length:Int)<=k-(be.length:Int)+j
    ·have hf:=HF.out false (by rw[HD,decide_eq_false (show ¬(k-(be.length:Int)+j<t.length) by omega)];simp only[Bool.and_false,Bool.false_and]);clear HD;go_wp2;go_ret
     first|exact⟨L.zaj hf.symm,HBw.out⟩|exact⟨rfl,HBw.out⟩
    ·obtain⟨x,hx⟩:∃x,t[(k-(be.length:Int)+j).toNat]?=some x:=⟨t[(k-(be.length:Int)+j).toNat]'(by omega),by simp⟩;obtain⟨_,_,he,_,htc⟩:=HT.out.below HBw.out qN;cases he;obtain⟨bt,offt,rfl,hct⟩:=htc (by intro h;subst h;simp at hx);have ct:=hct _ x hx;have hhas:=zei wr _ s x (R1.below HBw.out qN) (by omega);rw[decide_eq_true (show 0<=k-(be.length:Int)+j by omega),decide_eq_true (show k-(be.length:Int)+j<t.length by omega),Bool.true_and,Bool.true_and] at HD;have hgd:t.getD (k-(be.length:Int)+j).toNat 0=x:=by simp[List.getD,hx]
     rw[hgd] at HD;generalize S.memb s x=mm at HD hhas;have HD2:=qH HD;have hsz:=HBw.out.size;have hsz2:=HB.out.2.size;clear HD hct htc hx hgd R1 F1 hN
     go_wp2_with fail
     refine hhas.mono ?_;rintro e w1 ⟨rfl,hb⟩;have HB1:Hid (Bl w w1/\Bl W3 w1):=⟨HBw.out.trans (hb.mono hsz),HB.out.2.trans (hb.mono hsz2)⟩;clear hhas hb ct c1;cases mm with
     | false =>
      have hf:=HF.out _ HD2.out;go_wp2;go_ret
      first|exact⟨L.zaj hf.symm,HB1.out.1⟩|exact⟨rfl,HB1.out.1⟩
     | true =>
      go_wp2
      go_roundw
      case rel=>exact⟨j+1,by omega,by go_num,by show _=_;rw[HD2.out];rfl,HB1.out⟩
      case measure=>simp[intOf];omega
  ·have hrun:K.runAt t (k-be.length) l=true:=by rw[HW.out,List.drop_eq_nil_of_le (by omega)];rfl
   have HM2:Hid (mb=(!(st&&decide (0<k-(be.length:Int)))&& !(fi&&decide (k+sou.length+af.length<(t.length:Int))))):=by
    show _=_;rw[HMB.out,hrun];simp
   have d0:=K.zad (i:=0) HHr.out rfl;have d1:=K.zad (i:=1) HHr.out rfl;have hsum:k-(be.length:Int)+l.length=k+sou.length+af.length:=by have:=HLen.out;omega
   have HSum:=qH hsum;clear hrun HMB HG HGC HS HT HW HB HH3 HHr hsum
   by_cases h3:st=true/\0<k-(be.length:Int)
   ·obtain⟨rfl,h3⟩:=h3;have hf:mb=false:=by rw[HM2.out,decide_eq_true h3];rfl
    clear HM2;go_wp2;go_ret
    first|exact⟨L.zaj hf.symm,HBw.out⟩|exact⟨rfl,HBw.out⟩
   ·by_cases h4:fi=true/\k-(be.length:Int)+l.length<t.length
    ·obtain⟨rfl,h4⟩:=h4
     have hf:mb=false:=by
      rw[HM2.out,<- HSum.out,decide_eq_true h4];simp
     clear HM2;cases st with
     | false =>
      go_wp2;go_ret
      first|exact⟨L.zaj hf.symm,HBw.out⟩|exact⟨rfl,HBw.out⟩
     | true =>
      have h5:¬ 0<k-(be.length:Int):=fun h=>h3 ⟨rfl,h⟩
      go_wp2;go_ret
      first|exact⟨L.zaj hf.symm,HBw.out⟩|exact⟨rfl,HBw.out⟩
    ·have h5:=fun h=>Int.not_lt.1 fun h'=>h3 ⟨h,h'⟩
     have h6:=fun h=>Int.not_lt.1 fun h'=>h4 ⟨h,h'⟩
     have hf:mb=true:=by
      rw[HM2.out,<- HSum.out];cases st <;> cases fi <;> simp at h5 h6 ⊢ <;> omega
     clear HM2 h3 h4;rcases Bool.eq_false_or_eq_true st with hst|hst <;> rcases Bool.eq_false_or_eq_true fi with hfi|hfi
     all_goals
      subst hst hfi;simp only[forall_const,Bool.false_eq_true,false_imp_iff] at h5 h6;go_wp2;go_ret
      first|exact⟨L.zaj hf.symm,HBw.out⟩|exact⟨rfl,HBw.out⟩
