/-
 What the document's Wrong answers of any spans.
-/
import Derived.Test.YtddiojckgjobmaaGreatSWrong
import Derived.Test.YtddiojckgjobmaaGreatUni2
set_option maxHeartbeats 0
set_option maxRecDepth 20000
set_option linter.unusedSimpArgs false
set_option linter.unusedVariables false
namespace Go.Proofs.YtddiojckgjobmaaGreat
open Go.RowKit
theorem zbm (w:World)(v:Value)(l:List S.Sp)(R:S.Rd w v l)(hf:S.Fit l) :
  Calls Tryz.prog 14 #[v] w fun e w'=>e= .returned (.int .i64 (S.wrongE l))/\Below w.heap.size w w':=by
 obtain⟨ao,cap,rfl,hn,hc⟩:=R;unfold S.wrongE
 by_cases hbig:200<l.length
 ·rw[if_pos hbig]
  go_enter Tryz.func14,Tryz.ntmps14
  go_wp2;go_ret
  exact⟨rfl,qR w⟩
 ·rw[if_neg hbig]
  go_enter Tryz.func14,Tryz.ntmps14
  go_wp2
  go_loopw [10] (fun i wr=>∃k:Nat,k<=l.length/\i= .int .i64 k/\Hid (∃b,S.wgo 0 l=S.wgo b (l.drop k)/\(k=0->b=0)/\∀p,0<k->l[k-1]?=some p->b=p.2+2/\p.2<=1114111)/\Hid (Below w.heap.size w wr)) (fun i _=>l.length - (intOf i).toNat)
  case atStart=>exact⟨0,Nat.zero_le _,rfl,⟨0,by simp,fun _=>rfl,fun p h=>absurd h (Nat.lt_irrefl _)⟩,qR w⟩
  case round =>
   obtain⟨k,hk,rfl,HW,HB⟩:=hrel
   by_cases hlt:k<l.length
   ·obtain⟨b,off,rfl,hcell⟩:=hc (by intro h;subst h;simp at hlt);obtain⟨x,hx⟩:∃x,l[k]?=some x:=⟨l[k],by simp[hlt]⟩;have c0:=hcell k x hx;have hb:=L.block_lt c0.1;have cc:∀o,wr.cell? ⟨b,o,none⟩=w.cell? ⟨b,o,none⟩:=fun o=>HB.out.cell (p:=⟨b,o,none⟩) hb
    have c1:=c0.1;have c2:=c0.2;rw[<- cc] at c1 c2;have HX:Hid (l[k]?=some x):=hx;have fx:=hf.at hx;have hsz:=HB.out.size;have hne:b≠wr.heap.size:=by omega
    obtain⟨x1,x2⟩:=x;simp only at c1 c2 fx;clear c0 hx;have HB2:Hid (∀o,Below w.heap.size w (wr.alloc o)):=fun o=>HB.out.alloc hsz o
    cases hbad:S.bad (x1,x2) with
    | true =>
     have HR:Hid (S.bad (x1,x2)=true):=hbad
     have hE:Hid (S.wgo 0 l=3):=by
      obtain⟨bb,he,_⟩:=HW.out;show S.wgo 0 l=3;rw[he,za4 HX.out,HR.out];rfl
     clear cc hcell hc
     by_cases h1:x1<0
     ·go_wp2;go_ret
      exact⟨by rw[hE.out];rfl,HB2.out _⟩
     ·by_cases h3:x2<x1
      ·go_wp2;go_ret
       exact⟨by rw[hE.out];rfl,HB2.out _⟩
      ·have h2:1114111<x2:=by
        simp[S.bad] at hbad;omega
       clear hbad;go_wp2;go_ret;exact⟨by rw[hE.out];rfl,HB2.out _⟩
    | false =>
     have HR:Hid (S.bad (x1,x2)=false):=hbad;have hok:=S.bad_false.1 hbad;simp only at hok;clear hbad;have h1:¬x1<0:=by omega
     have h2:¬x2<x1:=by omega
     have h3:¬ 1114111<x2:=by omega
     cases k with
     | zero =>
      clear cc hcell hc;simp only[Nat.zero_mul,Nat.add_zero] at c1 c2;go_wp2
      go_quiet (fail)
      go_wp2
      go_roundw
      case rel =>
       obtain⟨bb,he,h0,_⟩:=HW.out;refine⟨1,by omega,by go_num,⟨x2+2,?_,fun h=>by omega,fun p _ hp=> ?_⟩,below_drewN (HB2.out _) _⟩
       ·rw[he,za4 HX.out,HR.out,h0 trivial,if_neg (by simp),if_neg (by simp;omega)]
       ·have h1:=HX.out;rw[hp] at h1;cases h1;exact⟨rfl,by omega⟩
      case measure=>simp[intOf];omega
     | succ m =>
      obtain⟨p,hp⟩:∃p,l[m]?=some p:=⟨l[m]'(by omega),by simp[show m<l.length by omega]⟩;have c3:=(hcell m p hp).2;rw[<- cc] at c3;have fp:=hf.at hp;have HP:Hid (l[m]?=some p):=hp;obtain⟨p1,p2⟩:=p;simp only at c3 fp;clear cc hcell hc hp;obtain⟨bb,he,_,hpp⟩:=HW.out;obtain⟨rfl,hp2⟩:=hpp _ (Nat.succ_pos _) HP.out;simp only at hp2;have HE:Hid (S.wgo 0 l=S.wgo (p2+2) (l.drop (m+1))):=he;clear he hpp HW
      by_cases hlow:x1 - p2<2
      ·go_wp2;have HQ:=S.boxed (wr:=wr) (t:=52) (a:= .int .i32 x1) (b:= .int .i32 x2) (qR _)
       have HB3:=HB2.out (.cells #[.int .i32 x1,.int .i32 x2] 52);generalize wr.alloc (.cells #[.int .i32 x1,.int .i32 x2] 52)=w1 at HQ HB3 ⊢;obtain⟨⟨d1,d2⟩,hold,hs1,_⟩:=HQ
       replace c3:=hold _ _ _ c3
       have HB4:Hid (Below w.heap.size w w1):=HB3;clear hold HB3
       go_quiet (fail)
       go_wp2;go_ret
       refine⟨?_,below_drewN HB4.out _⟩;rw[HE.out,za4 HX.out,HR.out,if_neg (by simp),if_pos (by show x1<p2+2;omega)];rfl
      ·go_wp2;have HQ:=S.boxed (wr:=wr) (t:=52) (a:= .int .i32 x1) (b:= .int .i32 x2) (qR _)
       have HB3:=HB2.out (.cells #[.int .i32 x1,.int .i32 x2] 52);generalize wr.alloc (.cells #[.int .i32 x1,.int .i32 x2] 52)=w1 at HQ HB3 ⊢;obtain⟨⟨d1,d2⟩,hold,hs1,_⟩:=HQ
       replace c3:=hold _ _ _ c3
       have HB4:Hid (Below w.heap.size w w1):=HB3;clear hold HB3
       go_quiet (fail)
       go_wp2
       go_roundw
       case rel =>
        refine⟨m+1+1,by omega,by go_num,⟨x2+2,?_,fun h=>by omega,fun p _ hp=> ?_⟩,below_drewN HB4.out _⟩
        ·rw[HE.out,za4 HX.out,HR.out,if_neg (by simp),if_neg (by show ¬x1<p2+2;omega)]
        ·have h1:=HX.out;have hp:l[m+1]?=some p:=hp;rw[hp] at h1;cases h1;exact⟨rfl,by omega⟩
       case measure=>simp[intOf];omega
   ·go_wp2;go_ret
    refine⟨?_,HB.out⟩;obtain⟨b,he,_⟩:=HW.out;rw[he,List.drop_eq_nil_of_le (by omega)];rfl
end Go.Proofs.YtddiojckgjobmaaGreat
namespace Go.Proofs.YtddiojckgjobmaaGreat
open Go.RowKit
theorem zim {l:List S.Sp}{k:Nat}{x:S.Sp}{r:Int}(hx:l[k]?=some x):S.memb (l.take (k+1)) r=(S.memb (l.take k) r||(decide (x.1<=r)&&decide (r<=x.2))):=by
 rw[List.take_add_one,hx,S.zfo];simp[S.zbb,S.zf7]
theorem zbq (w:World)(v:Value)(l:List S.Sp)(r:Int)(R:S.Rd w v l)(hl:l.length<=4611686018427387903) :
  Calls Tryz.prog 16 #[v,.int .i32 r] w fun e w'=>e= .returned (.bool (S.memb l r))/\Below w.heap.size w w':=by
 obtain⟨ao,cap,rfl,hn,hc⟩:=R
 go_enter Tryz.func16,Tryz.ntmps16
 go_wp2
 go_loopw [9] (fun i wr=>∃k:Nat,k<=l.length/\i= .int .i64 k/\Hid (S.memb (l.take k) r=false)/\Hid (Below w.heap.size w wr)) (fun i _=>l.length - (intOf i).toNat)
 case atStart=>exact⟨0,Nat.zero_le _,rfl,by show S.memb (l.take 0) r=false;simp[S.zf7],qR w⟩
 case round =>
  obtain⟨k,hk,rfl,HW,HB⟩:=hrel
  by_cases hlt:k<l.length
  ·obtain⟨b,off,rfl,hcell⟩:=hc (by intro h;subst h;simp at hlt);obtain⟨x,hx⟩:∃x,l[k]?=some x:=⟨l[k],by simp[hlt]⟩;have c0:=hcell k x hx;have hb:=L.block_lt c0.1;have cc:∀o,wr.cell? ⟨b,o,none⟩=w.cell? ⟨b,o,none⟩:=fun o=>HB.out.cell (p:=⟨b,o,none⟩) hb
   have c1:=c0.1;have c2:=c0.2;rw[<- cc] at c1 c2;have HX:Hid (l[k]?=some x):=hx;have hsz:=HB.out.size;have HM:=zim (r:=r) hx;rw[HW.out] at HM;obtain⟨x1,x2⟩:=x;simp only[Bool.false_or] at c1 c2 HM;have HM2:Hid (S.memb (l.take (k+1)) r=(decide (x1<=r)&&decide (r<=x2))):=HM;have HB2:Hid (∀o,Below w.heap.size w (wr.alloc o)):=fun o=>HB.out.alloc hsz o
   clear c0 hx hcell hc cc HM
   by_cases h1:x1<=r
   ·by_cases h2:r<=x2
    ·go_wp2;go_ret
     refine⟨L.zae ?_,HB2.out _⟩
     symm
     rw[S.za0];exact⟨(x1,x2),List.mem_of_getElem? HX.out,h1,h2⟩
    ·go_wp2
     go_roundw
     case rel=>exact⟨k+1,by omega,by go_num,by show _=_;rw[HM2.out];simp[h2],HB2.out _⟩
     case measure=>simp[intOf];omega
   ·go_wp2
    go_roundw
    case rel=>exact⟨k+1,by omega,by go_num,by show _=_;rw[HM2.out];simp[h1],HB2.out _⟩
    case measure=>simp[intOf];omega
  ·go_wp2;go_ret
   refine⟨L.zae ?_,HB.out⟩;rw[<- HW.out,List.take_of_length_le (by omega)]
end Go.Proofs.YtddiojckgjobmaaGreat
namespace Go.Proofs.YtddiojckgjobmaaGreat
open Go.RowKit
theorem zeh (r:Int)(w:World) :
  Calls Tryz.prog 41 #[.int .i32 r] w fun e w'=>e= .returned (.bool (M.right r))/\w'=w:=by
 go_enter Tryz.func41,Tryz.ntmps41
 go_wp2
 all_goals go_ret
 all_goals refine⟨L.zae ?_,rfl⟩
 all_goals (unfold M.right;rw[Bool.eq_iff_iff];simp;try omega)
theorem zdi (w:World)(v:Value)(l:List Int)(R:L.Rd w v .i32 l)(hl:l.length<=4000) :
  Calls Tryz.prog 28 #[v] w fun e w'=>e= .returned (.bool (K.allR l))/\Below w.heap.size w w':=by
 obtain⟨ao,cap,rfl,hn,hc⟩:=R
 go_enter Tryz.func28,Tryz.ntmps28
 go_wp2
 go_loopw [7] (fun i wr=>∃k:Nat,k<=l.length/\i= .int .i64 k/\Hid (K.allR (l.take k)=true)/\Hid (Below w.heap.size w wr)) (fun i _=>l.length - (intOf i).toNat)
 case atStart=>exact⟨0,Nat.zero_le _,rfl,by show K.allR (l.take 0)=true;simp[K.allR],qR w⟩
 case round =>
  obtain⟨k,hk,rfl,HW,HB⟩:=hrel
  by_cases hlt:k<l.length
  ·obtain⟨b,off,rfl,hcell⟩:=hc (by intro h;subst h;simp at hlt);obtain⟨x,hx⟩:∃x,l[k]?=some x:=⟨l[k],by simp[hlt]⟩;have c1:=hcell k x hx;have hb:=L.block_lt c1;rw[<- HB.out.cell (p:=⟨b,_,none⟩) hb] at c1;have HX:Hid (l[k]?=some x):=hx;have hsz:=HB.out.size;have hob:=zeh x wr;clear hx hcell hc;cases hbad:M.right x with
   | false =>
    rw[hbad] at hob;have HR:Hid (M.right x=false):=hbad;clear hbad
    go_wp2_with fail
    refine hob.mono ?_;rintro e w1 ⟨rfl,rfl⟩;go_wp2;go_ret;refine⟨L.zae ?_,HB.out⟩
    symm
    exact List.all_eq_false.2 ⟨_,List.mem_of_getElem? HX.out,by rw[HR.out];simp⟩
   | true =>
    rw[hbad] at hob;have HR:Hid (M.right x=true):=hbad;clear hbad
    go_wp2_with fail
    refine hob.mono ?_;rintro e w1 ⟨rfl,rfl⟩;go_wp2
    go_roundw
    case rel =>
     refine⟨k+1,by omega,by go_num,?_,HB.out⟩;show K.allR (l.take (k+1))=true;have h:=HW.out;unfold K.allR at h ⊢;rw[List.take_add_one,HX.out,List.all_append,h];simp[HR.out]
    case measure=>simp[intOf];omega
  ·go_wp2;go_ret
   refine⟨L.zae ?_,HB.out⟩;have h:=HW.out;rw[List.take_of_length_le (by omega)] at h;rw[h]
theorem K.first3 {e1 e2 e3 o t:Int}(h:(if e1≠0 then e1 else if e2≠0 then e2 else if e3≠0 then e3 else t)=o):∀(k:Nat) e,[e1,e2,e3][k]?=some e->(∀(j:Nat) e',j<k-> [e1,e2,e3][j]?=some e'->e'=0)->e≠0->e=o:=by
 intro k e hk hj he
 match k,hk with
 | 0,hk =>
  simp at hk;subst hk;rw[if_pos he] at h;exact h
 | 1,hk =>
  simp at hk;subst hk;have h0:=hj 0 e1 (by omega) rfl;rw[if_neg (by simp[h0]),if_pos he] at h;exact h
 | 2,hk =>
  simp at hk;subst hk;have h0:=hj 0 e1 (by omega) rfl;have h1:=hj 1 e2 (by omega) rfl;rw[if_neg (by simp[h0]),if_neg (by simp[h1]),if_pos he] at h;exact h
 | k+3,hk=>simp at hk
theorem zgx (w:World)(v:Value)(r:K.Rule)(R:K.RuIs w v r) :
  Calls Tryz.prog 48 #[v] w fun e w'=>e= .returned (.int .i64 (K.ruleE r))/\Below w.heap.size w w':=by
 obtain⟨bo,bc,so,sc,ao,ac,tgo,tc,rfl,R1,R2,R3,R4,hl4,hcur⟩:=R;have f2:=R2.few;have hI1: -9223372036854775808<=r.cursor:=hcur.1;have hI2:r.cursor<=9223372036854775807:=hcur.2;have C4:Hid (r.target.length<=20->∀X,Below w.heap.size w X->Calls Tryz.prog 28 #[.slice tgo r.target.length tc] X fun e w'=>e= .returned (.bool (K.allR r.target))/\Below X.heap.size X w'):=fun h X hX=>zdi X _ _ (R4.below hX qN) (by omega)
 obtain⟨o,HO⟩:∃o,Hid (K.ruleE r=o):=⟨_,rfl⟩;rw[HO.out];unfold K.ruleE K.tailE at HO;obtain⟨e1,he1⟩:∃e1,e1=K.setsE r.before:=⟨_,rfl⟩;obtain⟨e2,he2⟩:∃e2,e2=K.setsE r.source:=⟨_,rfl⟩;obtain⟨e3,he3⟩:∃e3,e3=K.setsE r.after:=⟨_,rfl⟩;obtain⟨e4,he4⟩:∃e4,e4=K.allR r.target:=⟨_,rfl⟩;rw[<- he1,<- he2,<- he3,<- he4] at HO;rw[<- he4] at C4
 have HE:Hid (∀k:Nat,k<3->∃xo xc x e,(#[.slice bo r.before.length bc,.slice so r.source.length sc,.slice ao r.after.length ac]:Array Value)[k]?=some (.slice xo x.length xc)/\K.Ss w (.slice xo x.length xc) x/\ [e1,e2,e3][k]?=some e/\e=K.setsE x):=fun k hk=>by
  match k,hk with
  | 0,_=>exact⟨bo,bc,r.before,e1,rfl,R1,rfl,he1⟩
  | 1,_=>exact⟨so,sc,r.source,e2,rfl,R2,rfl,he2⟩
  | 2,_=>exact⟨ao,ac,r.after,e3,rfl,R3,rfl,he3⟩
 have HF:Hid (∀(k:Nat) e,[e1,e2,e3][k]?=some e->(∀(j:Nat) e',j<k-> [e1,e2,e3][j]?=some e'->e'=0)->e≠0->e=o):=K.first3 HO.out;clear he1 he2 he3 he4 R1 R2 R3 R4 hcur;obtain⟨st,fi,be,sou,af,ta,cu⟩:=r;simp only at *;obtain⟨W0,hW0⟩:∃W0,W0=(w.alloc (.cells #[.bool st,.bool fi,.slice bo be.length bc,.slice so sou.length sc,.slice ao af.length ac,.slice tgo ta.length tc,.int .i64 cu] 81)).alloc (.cells #[.slice bo be.length bc,.slice so sou.length sc,.slice ao af.length ac] 79):=⟨_,rfl⟩
 have HW0:Hid (W0.heap[w.heap.size]?=some (.cells #[.bool st,.bool fi,.slice bo be.length bc,.slice so sou.length sc,.slice ao af.length ac,.slice tgo ta.length tc,.int .i64 cu] 81)/\W0.heap[w.heap.size+1]?=some (.cells #[.slice bo be.length bc,.slice so sou.length sc,.slice ao af.length ac] 79)/\Below w.heap.size w W0):=by
  have h:=K.za9 (qR W0 |> fun h=>by rw[hW0] at h ⊢;exact h) (w:=w) (w1:=W0) (o1:= .cells #[.bool st,.bool fi,.slice bo be.length bc,.slice so sou.length sc,.slice ao af.length ac,.slice tgo ta.length tc,.int .i64 cu] 81) (o2:= .cells #[.slice bo be.length bc,.slice so sou.length sc,.slice ao af.length ac] 79);exact⟨h.1,h.2.1,h.2.2.1⟩
 go_enter Tryz.func48,Tryz.ntmps48
 go_wp2;rw[<- hW0]
 clear hW0
 go_loopw [15] (fun i wr=>∃k:Nat,k<=3/\i= .int .i64 k/\Hid (∀(j:Nat) e',j<k-> [e1,e2,e3][j]?=some e'->e'=0)/\Hid (Below w.heap.size w wr/\wr.heap[w.heap.size]?=some (.cells #[.bool st,.bool fi,.slice bo be.length bc,.slice so sou.length sc,.slice ao af.length ac,.slice tgo ta.length tc,.int .i64 cu] 81)/\wr.heap[w.heap.size+1]?=some (.cells #[.slice bo be.length bc,.slice so sou.length sc,.slice ao af.length ac] 79))) (fun i _=>3 - (intOf i).toNat)
 case atStart=>exact⟨0,by omega,rfl,fun j e' h=>absurd h (Nat.not_lt_zero _),HW0.out.2.2,HW0.out.1,HW0.out.2.1⟩
 case round =>
  obtain⟨k,hk,rfl,HZ,HB⟩:=hrel;obtain⟨wo,hwo⟩:∃wo,wo=wr:=⟨_,rfl⟩;subst hwo
  by_cases hlt:k<3
  ·obtain⟨xo,xc,x,ex,hcx,Rx,hex,hes⟩:=HE.out k hlt;have hfew:=Rx.few;have HX:Hid (K.Ss w (.slice xo x.length xc) x):=Rx;have HEX:Hid ([e1,e2,e3][k]?=some ex):=hex;have dk:=K.zaa (i:=k) HB.out.2.2 hcx;have hk0:(0:Int)<=(k:Int):=by omega
   have hk3:(k:Int)<3:=by omega
   unfold K.setsE at hes;clear Rx hex hcx
   by_cases hbig:20<x.length
   ·rw[if_pos hbig] at hes;go_wp2;go_ret;exact⟨by rw[<- HF.out k ex HEX.out HZ.out (by omega),hes];rfl,HB.out.1⟩
   ·rw[if_neg hbig] at hes;go_wp2
    go_loopw [24] (fun i wi=>∃m:Nat,m<=x.length/\i= .int .i64 m/\Hid (K.firstE x=K.firstE (x.drop m))/\Hid (Below wo.heap.size wo wi)) (fun i _=>x.length - (intOf i).toNat)
    case atStart=>exact⟨0,Nat.zero_le _,rfl,rfl,qR wo⟩
    case round =>
     obtain⟨m,hm,rfl,HW,HBi⟩:=hrel;have HBw:Hid (Below w.heap.size w wr):=HB.out.1.trans (HBi.out.mono HB.out.1.size)
     by_cases hlt2:m<x.length
     ·obtain⟨s,hs⟩:∃s,x[m]?=some s:=⟨x[m],by simp[hlt2]⟩;obtain⟨b,off,sso,ssc,rfl,c1,R1,F1⟩:=(HX.out.below HBw.out).at hs;have HD:=K.zc5 hs;rw[<- HW.out] at HD;have hsz:=HBi.out.size;have hw:=zbm wr _ s R1 F1;clear R1 F1 hs;obtain⟨e0,he0⟩:∃e0,e0=S.wrongE s:=⟨_,rfl⟩;rw[<- he0] at HD hw;have HD2:Hid (K.firstE x=if e0=0 then K.firstE (x.drop (m+1)) else e0):=HD;clear HD he0
      by_cases h0:e0=0
      ·subst h0
       go_wp2_with fail
       refine hw.mono ?_;rintro e w1 ⟨rfl,hb⟩;have HB1:Hid (Below wo.heap.size wo w1):=HBi.out.trans (hb.mono hsz);go_wp2
       go_roundw
       case rel=>exact⟨m+1,by omega,by go_num,by show _=_;have:=HD2.out;simpa using this,HB1.out⟩
       case measure=>simp[intOf];omega
      ·go_wp2_with fail
       refine hw.mono ?_;rintro e w1 ⟨rfl,hb⟩;have HB1:Hid (Below w.heap.size w w1):=HBw.out.trans (hb.mono HBw.out.size);have hfin:ex=e0:=by have h1:=HD2.out;rw[if_neg h0] at h1;rw[hes,h1]
       go_wp2;go_ret
       exact⟨by rw[<- HF.out k ex HEX.out HZ.out (by omega),hfin];rfl,HB1.out⟩
     ·have hfin:ex=0:=by rw[hes,HW.out,List.drop_eq_nil_of_le (by omega)];rfl
      have HBB:Hid (Below w.heap.size w wr/\wr.heap[w.heap.size]?=some (.cells #[.bool st,.bool fi,.slice bo be.length bc,.slice so sou.length sc,.slice ao af.length ac,.slice tgo ta.length tc,.int .i64 cu] 81)/\wr.heap[w.heap.size+1]?=some (.cells #[.slice bo be.length bc,.slice so sou.length sc,.slice ao af.length ac] 79)):=⟨HBw.out,K.zab HB.out.2.1 HBi.out,K.zab HB.out.2.2 HBi.out⟩;go_wp2
      go_roundw
      case rel =>
       refine⟨k+1,by omega,by go_num,fun j e' hj he'=> ?_,HBB.out⟩
       by_cases hjk:j=k
       ·subst hjk;rw[HEX.out] at he';cases he';exact hfin
       ·exact HZ.out j e' (by omega) he'
      case measure=>simp[intOf];omega
  ·obtain rfl:k=3:=by omega
   have q1:=HZ.out 0 e1 (by omega) rfl;have q2:=HZ.out 1 e2 (by omega) rfl;have q3:=HZ.out 2 e3 (by omega) rfl;subst q1 q2 q3;have d3:=K.zaa (i:=3) HB.out.2.1 rfl;have d5:=K.zaa (i:=5) HB.out.2.1 rfl;have d6:=K.zaa (i:=6) HB.out.2.1 rfl;have HB3:Hid (Below w.heap.size w wo):=HB.out.1
   have HO2:Hid ((if sou.length=0 then (6:Int) else if 20<ta.length then 5 else if e4=false then 3 else if cu<0 then 3 else if (ta.length:Int)<cu then 3 else 0)=o):=by
    have h:=HO.out;rw[if_neg (by simp),if_neg (by simp),if_neg (by simp)] at h;exact h
   by_cases q4:sou.length=0
   ·go_wp2;go_ret
    exact⟨by rw[<- HO2.out,if_pos q4];rfl,HB3.out⟩
   ·by_cases q5:20<ta.length
    ·go_wp2;go_ret
     exact⟨by rw[<- HO2.out,if_neg q4,if_pos q5];rfl,HB3.out⟩
    ·have hC4:=C4.out (by omega) wo HB3.out
     go_wp2_with fail
     refine hC4.mono ?_;rintro e w4 ⟨rfl,hb⟩;have HB4:Hid (Below w.heap.size w w4):=HB3.out.trans (hb.mono HB3.out.size);have HH4:=K.zab HB.out.2.1 hb;have g5:=K.zaa (i:=5) HH4 rfl;have g6:=K.zaa (i:=6) HH4 rfl;clear hb HH4 d3 d5 d6
     have HO3:Hid ((if e4=false then (3:Int) else if cu<0 then 3 else if (ta.length:Int)<cu then 3 else 0)=o):=by
      have h:=HO2.out;rw[if_neg q4,if_neg q5] at h;exact h
     cases e4 with
     | false =>
      go_wp2;go_ret
      exact⟨by rw[<- HO3.out];rfl,HB4.out⟩
     | true =>
      by_cases q6:cu<0
      ·go_wp2;go_ret
       exact⟨by rw[<- HO3.out,if_neg (by simp),if_pos (by omega)];rfl,HB4.out⟩
      ·by_cases q7:(ta.length:Int)<cu
       ·go_wp2;go_ret
        exact⟨by rw[<- HO3.out,if_neg (by simp),if_neg (by omega),if_pos (by omega)];rfl,HB4.out⟩
       ·go_wp2;go_ret
        exact⟨by rw[<- HO3.out,if_neg (by simp),if_neg (by omega),if_neg (by omega)];rfl,HB4.out⟩
end Go.Proofs.YtddiojckgjobmaaGreat
namespace Go.Proofs.YtddiojckgjobmaaGreat
open Go.RowKit
theorem zb4 (w:World)(v:Value)(l:List Int)(R:L.Rd w v .i32 l)(hl:l.length<=140737488355328) :
  Calls Tryz.prog 15 #[v] w fun e w'=>e= .returned (.int .i64 (K.textE l))/\Below w.heap.size w w':=by
 have h:=zdi w v l R;obtain⟨ao,cap,rfl,hn,hc⟩:=R;clear hc;unfold K.textE
 by_cases h4:4000<l.length
 ·rw[if_pos h4]
  go_enter Tryz.func15,Tryz.ntmps15
  go_wp2;go_ret
  exact⟨rfl,qR w⟩
 ·rw[if_neg h4];have h':=h (by omega);clear h;generalize K.allR l=bb at h' ⊢;cases bb with
  | true =>
   go_enter Tryz.func15,Tryz.ntmps15
   go_wp2_with fail
   refine h'.mono ?_;rintro e w1 ⟨rfl,hb⟩;go_wp2;go_ret;exact⟨rfl,hb⟩
  | false =>
   go_enter Tryz.func15,Tryz.ntmps15
   go_wp2_with fail
   refine h'.mono ?_;rintro e w1 ⟨rfl,hb⟩;go_wp2;go_ret;exact⟨rfl,hb⟩
end Go.Proofs.YtddiojckgjobmaaGreat
