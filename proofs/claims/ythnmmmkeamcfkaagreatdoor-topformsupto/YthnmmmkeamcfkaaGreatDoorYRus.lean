import Derived.Test.YthnmmmkeamcfkaaGreatDoorCnMath
set_option maxHeartbeats 0
set_option maxRecDepth 20000
set_option linter.unusedSimpArgs false
set_option linter.unusedVariables false
namespace Go.Proofs.YthnmmmkeamcfkaaGreatDoor
open Go.Proofs.Tryz
namespace K
open Go.Proofs.YthnmmmkeamcfkaaGreatDoor.S
def headS (r:Rule):List Sp:=r.source.headD []
def firstsL (l:List Rule):List Sp:=l.flatMap headS
end K
section
open Go.RowKit Go.Shelf
theorem zn3 (r:Int)(w:World) :
  Calls prog 121 #[.int .i32 r] w fun e w'=>e= .returned (.bool (M.right r))/\w'=w:=by
 go_enter func121,ntmps121
 go_wp2
 all_goals go_ret
 all_goals refine⟨L.zak ?_,rfl⟩
 all_goals (unfold M.right;rw[Bool.eq_iff_iff];simp;try omega)
theorem zkh (r:Int)(w:World) :
  Calls prog 120 #[.int .i32 r] w fun e w'=>e= .returned (.bool (!M.right r))/\w'=w:=by
 go_enter func120,ntmps120
 go_wp2_with (go_at_call 121;refine(zn3 r _).mono ?_;rintro e w' ⟨rfl,rfl⟩)
 go_ret;exact⟨rfl,rfl⟩
theorem zn5 (w:World)(v:Value)(l:List Int)(R:L.Rd w v .i32 l)(hl:l.length<=4000) :
  Calls prog 65 #[v,.func (.func 120) #[] #[]] w fun e w'=>∃i:Int,e= .returned (.int .i64 i)/\decide (0<=i)= !K.allR l/\Below w.heap.size w w':=by
 obtain⟨ao,cap,rfl,hn,hc⟩:=R;have eg:∀args w,(callFunc 120 args).run prog w= .ok (.enter 120 args) w:=enters_of func120 (by kernel_rfl) rfl
 go_enter func65,ntmps65
 go_wp2
 go_loopw [8] (fun i wr=>∃k:Nat,k<=l.length/\i= .int .i64 k/\Hid (K.allR (l.take k)=true)/\Hid (Below w.heap.size w wr)) (fun i _=>l.length - (intOf i).toNat)
 case atStart=>exact⟨0,Nat.zero_le _,rfl,by show K.allR (l.take 0)=true;simp[K.allR],qR w⟩
 case round =>
  obtain⟨k,hk,rfl,HW,HB⟩:=hrel
  by_cases hlt:k<l.length
  ·obtain⟨b,off,rfl,hcell⟩:=hc (by intro h;subst h;simp at hlt);obtain⟨x,hx⟩:∃x,l[k]?=some x:=⟨l[k],by simp[hlt]⟩;have c1:=hcell k x hx;have hb:=L.block_lt c1;rw[<- HB.out.cell (p:=⟨b,_,none⟩) hb] at c1;have HX:=qH hx;have hsz:=HB.out.size;have hob:=zkh x wr;clear hx hcell hc;cases hbad:M.right x with
   | false =>
    rw[hbad] at hob;have HR:=qH hbad;clear hbad
    go_wp2_with fail
    refine hob.mono ?_;rintro e w1 ⟨rfl,rfl⟩;go_wp2;go_ret;refine⟨k,rfl,?_,HB.out⟩;have:K.allR l=false:=List.all_eq_false.2 ⟨_,List.mem_of_getElem? HX.out,by rw[HR.out];simp⟩;rw[this];simp
   | true =>
    rw[hbad] at hob;have HR:=qH hbad;clear hbad
    go_wp2_with fail
    refine hob.mono ?_;rintro e w1 ⟨rfl,rfl⟩;go_wp2
    go_roundw
    case rel =>
     refine⟨k+1,by omega,by go_num,?_,HB.out⟩;show K.allR (l.take (k+1))=true;have h:=HW.out;unfold K.allR at h ⊢;rw[List.take_add_one,HX.out,List.all_append,h];simp[HR.out]
    case measure=>simp[intOf];omega
  ·go_wp2;go_ret
   refine⟨-1,rfl,?_,HB.out⟩;have h:=HW.out;rw[List.take_of_length_le (by omega)] at h;rw[h];rfl
theorem zhs (w:World)(v:Value)(l:List Int)(R:L.Rd w v .i32 l)(hl:l.length<=4000) :
  Calls prog 119 #[v,.func (.func 120) #[] #[]] w fun e w'=>e= .returned (.bool (!K.allR l))/\Below w.heap.size w w':=by
 have h:=zn5 w v l R hl;obtain⟨ao,cap,rfl,hn,hc⟩:=R;clear hc
 go_enter func119,ntmps119
 go_wp2_with fail
 refine h.mono ?_;rintro e w1 ⟨i,rfl,hi,hb⟩;have HI:Hid _:=hi;clear hi;go_wp2;go_ret;exact⟨L.zak HI.out,hb⟩
theorem zd2 (w:World)(v:Value)(l:List Int)(R:L.Rd w v .i32 l)(hl:l.length<=4000) :
  Calls prog 64 #[v] w fun e w'=>e= .returned (.bool (K.allR l))/\Below w.heap.size w w':=by
 have h:=zhs w v l R hl;obtain⟨ao,cap,rfl,hn,hc⟩:=R;clear hc
 go_enter func64,ntmps64
 go_wp2_with fail
 refine h.mono ?_;rintro e w1 ⟨rfl,hb⟩;go_wp2;go_ret;exact⟨by simp,hb⟩
theorem zfo (w:World)(v:Value)(l:List Int)(R:L.Rd w v .i32 l)(hl:l.length<=140737488355328) :
  Calls prog 27 #[v] w fun e w'=>e= .returned (.int .i64 (K.textE l))/\Below w.heap.size w w':=by
 have h:=zd2 w v l R;obtain⟨ao,cap,rfl,hn,hc⟩:=R;clear hc;unfold K.textE
 by_cases h4:4000<l.length
 ·rw[if_pos h4]
  go_enter func27,ntmps27
  go_wp2;go_ret
  exact⟨rfl,qR w⟩
 ·rw[if_neg h4];have h':=h (by omega);clear h;generalize K.allR l=bb at h' ⊢;cases bb with
  | true =>
   go_enter func27,ntmps27
   go_wp2_with fail
   refine h'.mono ?_;rintro e w1 ⟨rfl,hb⟩;go_wp2;go_ret;exact⟨rfl,hb⟩
  | false =>
   go_enter func27,ntmps27
   go_wp2_with fail
   refine h'.mono ?_;rintro e w1 ⟨rfl,hb⟩;go_wp2;go_ret;exact⟨rfl,hb⟩
end
section
open Go.RowKit Go.Shelf
theorem zb2 (w:World)(v:Value)(l:List (List S.Sp))(R:K.Ss w v l) :
  Calls prog 123 #[v] w fun e w'=>e= .returned (.int .i64 (K.setsE l))/\Below w.heap.size w w':=by
 have HR0:=qH R;have hfew:=R.few;obtain⟨ao,cap,rfl⟩:=R.len;clear R;unfold K.setsE
 by_cases hbig:20<l.length
 ·rw[if_pos hbig]
  go_enter func123,ntmps123
  go_wp2;go_ret
  exact⟨rfl,qR w⟩
 ·rw[if_neg hbig]
  go_enter func123,ntmps123
  go_wp2
  go_loopw [11] (fun i wr=>∃k:Nat,k<=l.length/\i= .int .i64 k/\Hid (K.firstE l=K.firstE (l.drop k))/\Hid (Below w.heap.size w wr)) (fun i _=>l.length - (intOf i).toNat)
  case atStart=>exact⟨0,Nat.zero_le _,rfl,rfl,qR w⟩
  case round =>
   obtain⟨k,hk,rfl,HW,HB⟩:=hrel
   by_cases hlt:k<l.length
   ·obtain⟨s,hs⟩:∃s,l[k]?=some s:=⟨l[k],by simp[hlt]⟩;obtain⟨b,off,so,sc,rfl,c1,R1,F1⟩:=(HR0.out.below HB.out).at hs;have HD:=K.zkz hs;rw[<- HW.out] at HD;have hsz:=HB.out.size;have hw:=zb4 wr _ s R1 F1;clear R1 F1 hs;obtain⟨e0,he0⟩:∃e0,e0=S.wrongE s:=⟨_,rfl⟩;rw[<- he0] at HD hw;have HD2:=qH HD;clear HD he0
    by_cases h0:e0=0
    ·subst h0
     go_wp2_with fail
     refine hw.mono ?_;rintro e w1 ⟨rfl,hb⟩;have HB1:=qH <| HB.out.trans (hb.mono hsz);go_wp2
     go_roundw
     case rel=>exact⟨k+1,by omega,by go_num,by show _=_;have:=HD2.out;simpa using this,HB1.out⟩
     case measure=>simp[intOf];omega
    ·go_wp2_with fail
     refine hw.mono ?_;rintro e w1 ⟨rfl,hb⟩;have HB1:=qH <| HB.out.trans (hb.mono hsz);go_wp2;go_ret;exact⟨by have h1:=HD2.out;rw[if_neg h0] at h1;rw[h1];rfl,HB1.out⟩
   ·go_wp2;go_ret
    refine⟨?_,HB.out⟩;rw[HW.out,List.drop_eq_nil_of_le (by omega)];rfl
theorem zn8 (w:World)(v:Value)(r:K.Rule)(R:K.RuIs w v r) :
  Calls prog 74 #[v] w fun e w'=>e= .returned (.int .i64 (K.ruleE r))/\Below w.heap.size w w':=by
 obtain⟨bo,bc,so,sc,ao,ac,tgo,tc,rfl,R1,R2,R3,R4,hl4,hcur⟩:=R;have f2:=R2.few;have hI1:=hcur.1;have hI2:=hcur.2;have B2:=qH <| fun o1 o2=>((qR w).alloc qN o1).alloc (by simp) o2
 have C1:=qH <| fun X hX=>zb2 X _ _ (R1.below hX)
 have C2:=qH <| fun X hX=>zb2 X _ _ (R2.below hX)
 have C3:=qH <| fun X hX=>zb2 X _ _ (R3.below hX)
 have C4:Hid (r.target.length<=20->∀X,Below w.heap.size w X->Calls prog 64 #[.slice tgo r.target.length tc] X fun e w'=>e= .returned (.bool (K.allR r.target))/\Below X.heap.size X w'):=fun h X hX=>zd2 X _ _ (R4.below hX qN) (by omega)
 obtain⟨o,HO⟩:∃o,Hid (K.ruleE r=o):=⟨_,rfl⟩;rw[HO.out];unfold K.ruleE K.tailE at HO;obtain⟨e1,he1⟩:∃e1,e1=K.setsE r.before:=⟨_,rfl⟩;obtain⟨e2,he2⟩:∃e2,e2=K.setsE r.source:=⟨_,rfl⟩;obtain⟨e3,he3⟩:∃e3,e3=K.setsE r.after:=⟨_,rfl⟩;obtain⟨e4,he4⟩:∃e4,e4=K.allR r.target:=⟨_,rfl⟩;rw[<- he1,<- he2,<- he3,<- he4] at HO;rw[<- he1] at C1;rw[<- he2] at C2;rw[<- he3] at C3;rw[<- he4] at C4;clear he1 he2 he3 he4 R1 R2 R3 R4 hcur;obtain⟨st,fi,be,sou,af,ta,cu⟩:=r;simp only at *
 go_enter func74,ntmps74
 go_wp2;refine wp_loop_rounds 4 ?_
 rw[rounds_succ]
 go_wp2_with fail
 refine(C1.out _ (B2.out _ _)).mono ?_;rintro e w1 ⟨rfl,hb⟩;obtain⟨h1,h2,HB1,hs1⟩:=K.zbo hb;have HB1':=qH HB1;have HH1:Hid (w1.heap[w.heap.size]?=some (.cells #[.bool st,.bool fi,.slice bo be.length bc,.slice so sou.length sc,.slice ao af.length ac,.slice tgo ta.length tc,.int .i64 cu] 50)/\w1.heap[w.heap.size+1]?=some (.cells #[.slice bo be.length bc,.slice so sou.length sc,.slice ao af.length ac] 48)):=⟨h1,h2⟩;clear hb HB1 h1 h2
 by_cases q1:e1=0
 ·subst q1;have d2:=K.zah (i:=1) HH1.out.2 rfl;go_wp2;rw[rounds_succ]
  go_wp2_with fail
  refine(C2.out _ HB1'.out).mono ?_;rintro e w2 ⟨rfl,hb⟩;have HB2:=qH <| HB1'.out.trans (hb.mono (by omega));have HH2:Hid (w2.heap[w.heap.size]?=some (.cells #[.bool st,.bool fi,.slice bo be.length bc,.slice so sou.length sc,.slice ao af.length ac,.slice tgo ta.length tc,.int .i64 cu] 50)/\w2.heap[w.heap.size+1]?=some (.cells #[.slice bo be.length bc,.slice so sou.length sc,.slice ao af.length ac] 48)):=⟨K.zae HH1.out.1 hb,K.zae HH1.out.2 hb⟩;have hs2:=hb.size;clear hb d2
  by_cases q2:e2=0
  ·subst q2;have d3:=K.zah (i:=2) HH2.out.2 rfl;go_wp2;rw[rounds_succ]
   go_wp2_with fail
   refine(C3.out _ HB2.out).mono ?_;rintro e w3 ⟨rfl,hb⟩;have HB3:=qH <| HB2.out.trans (hb.mono (by omega));have HH3:=qH <| K.zae HH2.out.1 hb;have hs3:=hb.size;clear hb d3
   by_cases q3:e3=0
   ·subst q3;have d3:=K.zah (i:=3) HH3.out rfl;have d5:=K.zah (i:=5) HH3.out rfl;have d6:=K.zah (i:=6) HH3.out rfl
    have HO2:Hid ((if sou.length=0 then (6:Int) else if 20<ta.length then 5 else if e4=false then 3 else if cu<0 then 3 else if (ta.length:Int)<cu then 3 else 0)=o):=by
     have h:=HO.out;rw[if_neg (by simp),if_neg (by simp),if_neg (by simp)] at h;exact h
    go_wp2;rw[rounds_succ]
    by_cases q4:sou.length=0
    ·go_wp2;go_ret
     exact⟨by rw[<- HO2.out,if_pos q4];rfl,HB3.out⟩
    ·by_cases q5:20<ta.length
     ·go_wp2;go_ret
      exact⟨by rw[<- HO2.out,if_neg q4,if_pos q5];rfl,HB3.out⟩
     ·have hC4:=C4.out (by omega) w3 HB3.out
      go_wp2_with fail
      refine hC4.mono ?_;rintro e w4 ⟨rfl,hb⟩;have HB4:=qH <| HB3.out.trans (hb.mono (by omega));have HH4:=K.zae HH3.out hb;have g5:=K.zah (i:=5) HH4 rfl;have g6:=K.zah (i:=6) HH4 rfl;clear hb HH4 d3 d5 d6
      have HO3:Hid ((if e4=false then (3:Int) else if cu<0 then 3 else if (ta.length:Int)<cu then 3 else 0)=o):=by
       have h:=HO2.out;rw[if_neg q4,if_neg q5] at h;exact h
      cases e4 with
      | false =>
       go_wp2;go_ret
       exact⟨by rw[<- HO3.out];rfl,HB4.out⟩
      | true =>
       by_cases q6:cu<0
       ·go_wp2;go_ret
        exact⟨by rw[<- HO3.out,if_neg (by simp),if_pos q6];rfl,HB4.out⟩
       ·by_cases q7:(ta.length:Int)<cu
        ·go_wp2;go_ret
         exact⟨by rw[<- HO3.out,if_neg (by simp),if_neg (by omega),if_pos (by omega)];rfl,HB4.out⟩
        ·go_wp2;go_ret
         exact⟨by rw[<- HO3.out,if_neg (by simp),if_neg (by omega),if_neg (by omega)];rfl,HB4.out⟩
   ·go_wp2;go_ret
    exact⟨by rw[<- HO.out,if_neg (by simp),if_neg (by simp),if_pos q3];rfl,HB3.out⟩
  ·go_wp2;go_ret
   exact⟨by rw[<- HO.out,if_neg (by simp),if_pos q2];rfl,HB2.out⟩
 ·go_wp2;go_ret
  exact⟨by rw[<- HO.out,if_pos q1];rfl,HB1'.out⟩
end
section
open Go.RowKit
theorem zef (w:World)(v:Value)(l:List K.Rule)(R0:V.Rus w v l) :
  Calls prog 33 #[v] w fun e w'=>e= .returned (.agg #[.int .i64 (K.rulesF l).1,.int .i64 (K.rulesF l).2])/\Below w.heap.size w w':=by
 have HR:=qH R0;have hfew:=R0.few;obtain⟨ao,cap,rfl⟩:=R0.len;clear R0;have HA:=qH <| fun o=>(qR w).alloc qN o
 unfold K.rulesF
 by_cases hbig:200<l.length
 ·rw[if_pos hbig]
  go_enter func33,ntmps33
  go_wp2;refine bodyPost_ret (v:= .agg #[.int .i64 5,.int .i64 0]) (by simp[results,results33,go_sem]) rfl ?_
  exact⟨rfl,HA.out _⟩
 ·rw[if_neg hbig];obtain⟨⟨o1,o2⟩,HO⟩:∃o,Hid (K.firstR 0 l=o):=⟨_,rfl⟩;rw[HO.out]
  go_enter func33,ntmps33
  go_wp2
  go_loopw [12] (fun i wr=>∃k:Nat,k<=l.length/\i= .int .i64 k/\Hid (K.firstR k (l.drop k)=(o1,o2))/\Hid (Below w.heap.size w wr)/\Hid (wr.heap[w.heap.size]?=some (.cells #[.int .i64 0,.int .i64 0] 38))) (fun i _=>l.length - (intOf i).toNat)
  case atStart=>exact⟨0,Nat.zero_le _,rfl,HO,HA.out _,heap_alloc_new w _⟩
  case round =>
   obtain⟨k,hk,rfl,HE,HB,HX⟩:=hrel;have hX:=HX.out
   by_cases hlt:k<l.length
   ·obtain⟨p,hp⟩:∃x,l[k]?=some x:=⟨l[k],by simp[hlt]⟩;obtain⟨ao',cap',e',_,hcs⟩:=HR.out.below HB.out;cases e';obtain⟨b,off,rfl,hcell⟩:=hcs (by intro h;subst h;simp at hlt);obtain⟨bo,bc,so,sc,ao,ac,tgo,tc,c0,c1,c2,c3,c4,c5,c6,hP⟩:=hcell k p hp;have HE2:=qH <| K.zky hp;have hsz:=HB.out.size;have HW:=qH <| fun o=>zn8 _ _ p (V.zgj hP (R.Keeps.alloc wr o))
    obtain⟨z,HZ⟩:∃z,Hid (K.ruleE p=z):=⟨_,rfl⟩;rw[HZ.out] at HW HE2;clear hp hcell hcs hP hX;obtain⟨st,fi,be,sou,af,ta,cu⟩:=p;simp only at c0 c1 c2 c3 c4 c5 c6 HW
    go_wp2_with fail
    refine(HW.out _).mono ?_;rintro e w1 ⟨rfl,b1⟩;obtain⟨_,B1,hl1⟩:=K.zbh b1
    have hX1:w1.heap[w.heap.size]?=some (.cells #[.int .i64 0,.int .i64 0] 38):=by
     rw[B1.block _ (qA.1 HX.out).1];exact HX.out
    have HB1:=qH <| HB.out.trans (B1.mono hsz);have HX1:Hid _:=hX1;obtain⟨x0,x1,f0,f1⟩:=K.box2 hX1;clear b1 B1 hX1
    by_cases hz:z=0
    ·subst hz;go_wp2
     go_roundw
     case rel=>exact⟨k+1,by omega,by go_num,by show _=_;rw[<- HE.out,HE2.out];simp,HB1,HX1⟩
     case measure=>simp[intOf];omega
    ·go_wp2;refine bodyPost_ret (v:= .agg #[.int .i64 z,.int .i64 k]) (by simp[results,results33,go_sem, *]) rfl ?_
     have h:=HE2.out;rw[HE.out,if_neg hz] at h;cases h;exact⟨rfl,(HB1.out.setCell (p:=⟨w.heap.size,0,none⟩) qN _).setCell (p:=⟨w.heap.size,1,none⟩) qN _⟩
   ·obtain⟨x0,x1,f0,f1⟩:=K.box2 hX;have h:=HE.out;rw[List.drop_eq_nil_of_le (by omega)] at h;cases h;go_wp2;refine bodyPost_ret (v:= .agg #[.int .i64 0,.int .i64 0]) (by simp[results,results33,go_sem, *]) rfl ?_;exact⟨rfl,(HB.out.setCell (p:=⟨w.heap.size,0,none⟩) qN _).setCell (p:=⟨w.heap.size,1,none⟩) qN _⟩
end
section
open Go.RowKit Go.Shelf
namespace K
theorem Rus.rule {w:World}{ao:Option Addr}{n cap:Nat}{l:List Rule}(h:V.Rus w (.slice ao n cap) l){j:Nat}{p:Rule}(hp:l[j]?=some p) :
  ∃b off bo bc so sc ao2 ac tgo tc,ao=some ⟨b,off,none⟩ /\
   w.cell? ⟨b,off+j*7,none⟩=some (.bool p.start)/\w.cell? ⟨b,off+j*7+1,none⟩=some (.bool p.fin)/\w.cell? ⟨b,off+j*7+2,none⟩=some (.slice bo p.before.length bc)/\w.cell? ⟨b,off+j*7+3,none⟩=some (.slice so p.source.length sc)/\w.cell? ⟨b,off+j*7+4,none⟩=some (.slice ao2 p.after.length ac)/\w.cell? ⟨b,off+j*7+5,none⟩=some (.slice tgo p.target.length tc)/\w.cell? ⟨b,off+j*7+6,none⟩=some (.int .i64 p.cursor) /\
   RuIs w (.agg #[.bool p.start,.bool p.fin,.slice bo p.before.length bc,.slice so p.source.length sc,.slice ao2 p.after.length ac,.slice tgo p.target.length tc,.int .i64 p.cursor]) p:=by
 obtain⟨ao',cap',e',_,hcs⟩:=h;cases e';obtain⟨b,off,rfl,hcell⟩:=hcs (by intro h;subst h;simp at hp);obtain⟨bo,bc,so,sc,ao,ac,tgo,tc,h⟩:=hcell j p hp;exact⟨b,off,bo,bc,so,sc,ao,ac,tgo,tc,rfl,h⟩
theorem zkp {r:Rule}{s:List S.Sp}(h:r.source[0]?=some s):headS r=s:=by
 unfold headS;cases hq:r.source with
 | nil=>rw[hq] at h;simp at h
 | cons y l=>rw[hq] at h;simpa using h
theorem zhw {r:Rule}(h:ruleE r=0):S.Nf 0 (headS r)/\(headS r).length<=200:=by
 obtain⟨_,h2,_,h4,_⟩:=zau h;obtain⟨s,hs⟩:∃s,r.source[0]?=some s:=⟨r.source[0],by simp⟩;rw[zkp hs];exact h2.2 s (List.mem_of_getElem? hs)
end K
