/-
 Great letters and small ones: the program's answers.
-/
import Derived.Test.YteagjpnbiceafaaGreatDoorCnMath
import Derived.Test.YteagjpnbiceafaaGreatDoorSLib
import Derived.Test.YteagjpnbiceafaaGreatDoorShText2
import Derived.Test.YteagjpnbiceafaaGreatDoorTChar
import Derived.Shelf.Abstract
import Derived.Test.YteagjpnbiceafaaGreatDoorVLook
set_option maxHeartbeats 0
set_option maxRecDepth 20000
set_option linter.unusedSimpArgs false
set_option linter.unusedVariables false
namespace Go.Proofs.YteagjpnbiceafaaGreatDoor
open Go.RowKit
theorem zk2 (r a b:Int)(w:World) :
  Calls Tryz.prog 160 #[.int .i32 r,.int .i32 a,.int .i32 b] w fun e w'=>e= .returned (.bool (decide (a<=r)&&decide (r<=b)))/\w'=w:=by
 go_enter Tryz.func160,Tryz.ntmps160
 go_wp2
 all_goals go_ret
 all_goals refine⟨L.zak ?_,rfl⟩
 all_goals (rw[Bool.eq_iff_iff];simp;try omega)
theorem zgt (r:Int)(w:World) :
  Calls Tryz.prog 147 #[.int .i32 r] w fun e w'=>e= .returned (.int .i32 (Cn.lessF r))/\w'=w:=by
 have H:Hid (∀a b,Calls Tryz.prog 160 #[.int .i32 r,.int .i32 a,.int .i32 b] w fun e w'=>e= .returned (.bool (decide (a<=r)&&decide (r<=b)))/\w'=w):=fun a b=>zk2 r a b w
 go_enter Tryz.func147,Tryz.ntmps147
 go_wp2_with (go_at_call 160;refine(H.out _ _).mono ?_;rintro e w' ⟨rfl,rfl⟩)
 all_goals go_ret
 all_goals (refine⟨?_,rfl⟩;unfold Cn.lessF;simp_all)
 all_goals (try omega)
theorem zm4 (r:Int)(h1: -2147483648<=r)(h2:r<=2147483647)(w:World) :
  Calls Tryz.prog 128 #[.int .i32 r] w fun e w'=>e= .returned (.int .i32 (Cn.up r))/\w'=w:=by
 have H:=zgt r w;have hc:=Cn.zbo r;unfold Cn.up;generalize Cn.lessF r=d at H hc;have b1: -2147483648<=r - d:=by omega
 have b2:r - d<=2147483647:=by omega
 go_enter Tryz.func128,Tryz.ntmps128
 go_wp2_with (go_at_call 147;refine H.mono ?_;rintro e w' ⟨rfl,rfl⟩)
 go_ret;exact⟨rfl,rfl⟩
theorem Cn.wrap32 (x:Int):IntKind.i32.wrap x=if x % 4294967296≥2147483648 then x % 4294967296 - 4294967296 else x % 4294967296:=by
 have hb2:(2:Int) ^ IntKind.i32.bits=4294967296:=by decide
 have hb3:(2:Int) ^ (IntKind.i32.bits - 1)=2147483648:=by decide
 have hs:IntKind.i32.signed=true:=by decide
 simp only[IntKind.wrap,hb2,hb3,hs,Bool.true_and,decide_eq_true_eq]
theorem Cn.zhr (r d:Int)(h1: -2147483648<=r)(h2:r<=2147483647)(hd:0<d)(hd2:d<=80):Cn.lessF (IntKind.i32.wrap (r+d))=Cn.lessF (r+d)/\(¬Cn.lessF (r+d)=0->IntKind.i32.wrap (r+d)=r+d):=by
 by_cases hb:r+d<=2147483647
 ·have:IntKind.i32.wrap (r+d)=r+d:=by
   rw[Cn.wrap32];split <;> omega
  rw[this];exact⟨rfl,fun _=>rfl⟩
 ·have e:IntKind.i32.wrap (r+d)=r+d - 4294967296:=by
   rw[Cn.wrap32];split <;> omega
  rw[e];have z1:Cn.lessF (r+d - 4294967296)=0:=by rcases Cn.zbo (r+d - 4294967296) with h | h | h <;> omega
  have z2:Cn.lessF (r+d)=0:=by rcases Cn.zbo (r+d) with h | h | h <;> omega
  rw[z1,z2];exact⟨rfl,fun h=>absurd rfl h⟩
theorem zjq (r:Int)(h1: -2147483648<=r)(h2:r<=2147483647)(w:World) :
  Calls Tryz.prog 125 #[.int .i32 r] w fun e w'=>e= .returned (.int .i32 (Cn.low r))/\w'=w:=by
 have hw32:∀x,IntKind.i32.wrap x=wrap32 x:=fun x=>by rw[Cn.wrap32];unfold wrap32;split <;> omega
 have H1:=zgt (IntKind.i32.wrap (r+32)) w;have H2:=zgt (IntKind.i32.wrap (r+80)) w;have w1:=Cn.zhr r 32 h1 h2 (by decide) (by decide);have w2:=Cn.zhr r 80 h1 h2 (by decide) (by decide);rw[w1.1] at H1;rw[w2.1] at H2;have e1:=w1.2;have e2:=w2.2;have x0:∀w,(Instr.index 186 (.agg #[.int .i32 32,.int .i32 80]) (.int .i64 0)).run Tryz.prog w= .ok (.int .i32 32) w:=fun w=>by kernel_rfl
 have x1:∀w,(Instr.index 186 (.agg #[.int .i32 32,.int .i32 80]) (.int .i64 1)).run Tryz.prog w= .ok (.int .i32 80) w:=fun w=>by kernel_rfl
 rw[hw32] at H1 H2 e1 e2;clear w1 w2 hw32;obtain⟨o,HO⟩:∃o,Hid (Cn.low r=o):=⟨_,rfl⟩;rw[show Cn.low r=o from HO.out];have HE:Hid ((¬Cn.lessF (r+32)=0->wrap32 (r+32)=r+32)/\(¬Cn.lessF (r+80)=0->wrap32 (r+80)=r+80)):=⟨e1,e2⟩;have HL:Hid (Cn.low r=if Cn.lessF (r+32)=32 then r+32 else if Cn.lessF (r+80)=80 then r+80 else r):=rfl;generalize Cn.lessF (r+32)=d1 at H1 HE HL;generalize Cn.lessF (r+80)=d2 at H2 HE HL;clear e1 e2
 go_enter Tryz.func125,Tryz.ntmps125
 go_wp2;refine wp_loop_rounds 3 ?_
 rw[rounds_succ]
 go_wp2_with fail
 refine H1.mono ?_;rintro e w' ⟨rfl,rfl⟩
 by_cases q1:d1=32
 ·have hb1:wrap32 (r+32)=r+32:=HE.out.1 (by omega);go_wp2;go_ret;exact⟨L.zeo (by rw[<- HO.out,HL.out,if_pos q1,hb1]),rfl⟩
 ·go_wp2;rw[rounds_succ]
  go_wp2_with fail
  refine H2.mono ?_;rintro e w' ⟨rfl,rfl⟩
  by_cases q2:d2=80
  ·have hb1:wrap32 (r+80)=r+80:=HE.out.2 (by omega);go_wp2;go_ret;exact⟨L.zeo (by rw[<- HO.out,HL.out,if_neg q1,if_pos q2,hb1]),rfl⟩
  ·go_wp2;rw[rounds_succ]
   go_wp2;go_ret
   exact⟨L.zeo (by rw[<- HO.out,HL.out,if_neg q1,if_neg q2]),rfl⟩
end Go.Proofs.YteagjpnbiceafaaGreatDoor
namespace Go.Proofs.YteagjpnbiceafaaGreatDoor.K
open Go.Proofs.YteagjpnbiceafaaGreatDoor.S
def headS (r:Rule):List Sp:=r.source.headD []
def firstsL (l:List Rule):List Sp:=l.flatMap headS
end Go.Proofs.YteagjpnbiceafaaGreatDoor.K
namespace Go.Proofs.YteagjpnbiceafaaGreatDoor
open Go.RowKit Go.Shelf
theorem zlt (r:Int)(w:World) :
  Calls Tryz.prog 53 #[.int .i32 r] w fun e w'=>e= .returned (.bool (M.right r))/\w'=w:=by
 go_enter Tryz.func53,Tryz.ntmps53
 go_wp2
 all_goals go_ret
 all_goals refine⟨L.zak ?_,rfl⟩
 all_goals (unfold M.right;rw[Bool.eq_iff_iff];simp;try omega)
theorem zi4 (r:Int)(w:World) :
  Calls Tryz.prog 109 #[.int .i32 r] w fun e w'=>e= .returned (.bool (!M.right r))/\w'=w:=by
 go_enter Tryz.func109,Tryz.ntmps109
 go_wp2_with (go_at_call 53;refine(zlt r _).mono ?_;rintro e w' ⟨rfl,rfl⟩)
 go_ret;exact⟨rfl,rfl⟩
theorem zlv (w:World)(v:Value)(l:List Int)(R:L.Rd w v .i32 l)(hl:l.length<=4000) :
  Calls Tryz.prog 80 #[v,.func (.func 109) #[] #[]] w fun e w'=>∃i:Int,e= .returned (.int .i64 i)/\decide (0<=i)= !K.allR l/\Below w.heap.size w w':=by
 obtain⟨ao,cap,rfl,hn,hc⟩:=R;have eg:∀args w,(callFunc 109 args).run Tryz.prog w= .ok (.enter 109 args) w:=enters_of Tryz.func109 (by kernel_rfl) rfl
 go_enter Tryz.func80,Tryz.ntmps80
 go_wp2
 go_loopw [8] (fun i wr=>∃k:Nat,k<=l.length/\i= .int .i64 k/\Hid (K.allR (l.take k)=true)/\Hid (Below w.heap.size w wr)) (fun i _=>l.length - (intOf i).toNat)
 case atStart=>exact⟨0,Nat.zero_le _,rfl,by show K.allR (l.take 0)=true;simp[K.allR],qR w⟩
 case round =>
  obtain⟨k,hk,rfl,HW,HB⟩:=hrel
  by_cases hlt:k<l.length
  ·obtain⟨b,off,rfl,hcell⟩:=hc (by intro h;subst h;simp at hlt);obtain⟨x,hx⟩:∃x,l[k]?=some x:=⟨l[k],by simp[hlt]⟩;have c1:=hcell k x hx;have hb:=L.block_lt c1;rw[<- HB.out.cell (p:=⟨b,_,none⟩) hb] at c1;have HX:Hid (l[k]?=some x):=hx;have hsz:=HB.out.size;have hob:=zi4 x wr;clear hx hcell hc;cases hbad:M.right x with
   | false =>
    rw[hbad] at hob;have HR:Hid (M.right x=false):=hbad;clear hbad
    go_wp2_with fail
    refine hob.mono ?_;rintro e w1 ⟨rfl,rfl⟩;go_wp2;go_ret;refine⟨k,rfl,?_,HB.out⟩;have:K.allR l=false:=List.all_eq_false.2 ⟨_,List.mem_of_getElem? HX.out,by rw[HR.out];simp⟩;rw[this];simp
   | true =>
    rw[hbad] at hob;have HR:Hid (M.right x=true):=hbad;clear hbad
    go_wp2_with fail
    refine hob.mono ?_;rintro e w1 ⟨rfl,rfl⟩;go_wp2
    go_roundw
    case rel =>
     refine⟨k+1,by omega,by go_num,?_,HB.out⟩;show K.allR (l.take (k+1))=true;have h:=HW.out;unfold K.allR at h ⊢;rw[List.take_add_one,HX.out,List.all_append,h];simp[HR.out]
    case measure=>simp[intOf];omega
  ·go_wp2;go_ret
   refine⟨-1,rfl,?_,HB.out⟩;have h:=HW.out;rw[List.take_of_length_le (by omega)] at h;rw[h];rfl
theorem zgs (w:World)(v:Value)(l:List Int)(R:L.Rd w v .i32 l)(hl:l.length<=4000) :
  Calls Tryz.prog 108 #[v,.func (.func 109) #[] #[]] w fun e w'=>e= .returned (.bool (!K.allR l))/\Below w.heap.size w w':=by
 have h:=zlv w v l R hl;obtain⟨ao,cap,rfl,hn,hc⟩:=R;clear hc
 go_enter Tryz.func108,Tryz.ntmps108
 go_wp2_with fail
 refine h.mono ?_;rintro e w1 ⟨i,rfl,hi,hb⟩;have HI:Hid _:=hi;clear hi;go_wp2;go_ret;exact⟨L.zak HI.out,hb⟩
theorem zdh (w:World)(v:Value)(l:List Int)(R:L.Rd w v .i32 l)(hl:l.length<=4000) :
  Calls Tryz.prog 79 #[v] w fun e w'=>e= .returned (.bool (K.allR l))/\Below w.heap.size w w':=by
 have h:=zgs w v l R hl;obtain⟨ao,cap,rfl,hn,hc⟩:=R;clear hc
 go_enter Tryz.func79,Tryz.ntmps79
 go_wp2_with fail
 refine h.mono ?_;rintro e w1 ⟨rfl,hb⟩;go_wp2;go_ret;exact⟨by simp,hb⟩
theorem zho (w:World)(v:Value)(l:List Int)(R:L.Rd w v .i32 l)(hl:l.length<=140737488355328) :
  Calls Tryz.prog 49 #[v] w fun e w'=>e= .returned (.int .i64 (K.textE l))/\Below w.heap.size w w':=by
 have h:=zdh w v l R;obtain⟨ao,cap,rfl,hn,hc⟩:=R;clear hc;unfold K.textE
 by_cases h4:4000<l.length
 ·rw[if_pos h4]
  go_enter Tryz.func49,Tryz.ntmps49
  go_wp2;go_ret
  exact⟨rfl,qR w⟩
 ·rw[if_neg h4];have h':=h (by omega);clear h;generalize K.allR l=bb at h' ⊢;cases bb with
  | true =>
   go_enter Tryz.func49,Tryz.ntmps49
   go_wp2_with fail
   refine h'.mono ?_;rintro e w1 ⟨rfl,hb⟩;go_wp2;go_ret;exact⟨rfl,hb⟩
  | false =>
   go_enter Tryz.func49,Tryz.ntmps49
   go_wp2_with fail
   refine h'.mono ?_;rintro e w1 ⟨rfl,hb⟩;go_wp2;go_ret;exact⟨rfl,hb⟩
theorem zbz (w:World)(v:Value)(l:List (List S.Sp))(R:K.Ss w v l) :
  Calls Tryz.prog 145 #[v] w fun e w'=>e= .returned (.int .i64 (K.setsE l))/\Below w.heap.size w w':=by
 have HR0:Hid (K.Ss w v l):=R;have hfew:=R.few;obtain⟨ao,cap,rfl⟩:=R.len;clear R;unfold K.setsE
 by_cases hbig:20<l.length
 ·rw[if_pos hbig]
  go_enter Tryz.func145,Tryz.ntmps145
  go_wp2;go_ret
  exact⟨rfl,qR w⟩
 ·rw[if_neg hbig]
  go_enter Tryz.func145,Tryz.ntmps145
  go_wp2
  go_loopw [11] (fun i wr=>∃k:Nat,k<=l.length/\i= .int .i64 k/\Hid (K.firstE l=K.firstE (l.drop k))/\Hid (Below w.heap.size w wr)) (fun i _=>l.length - (intOf i).toNat)
  case atStart=>exact⟨0,Nat.zero_le _,rfl,rfl,qR w⟩
  case round =>
   obtain⟨k,hk,rfl,HW,HB⟩:=hrel
   by_cases hlt:k<l.length
   ·obtain⟨s,hs⟩:∃s,l[k]?=some s:=⟨l[k],by simp[hlt]⟩;obtain⟨b,off,so,sc,rfl,c1,R1,F1⟩:=(HR0.out.below HB.out).at hs;have HD:=K.zji hs;rw[<- HW.out] at HD;have hsz:=HB.out.size;have hw:=zb0 wr _ s R1 F1;clear R1 F1 hs;obtain⟨e0,he0⟩:∃e0,e0=S.wrongE s:=⟨_,rfl⟩;rw[<- he0] at HD hw;have HD2:Hid (K.firstE l=if e0=0 then K.firstE (l.drop (k+1)) else e0):=HD;clear HD he0
    by_cases h0:e0=0
    ·subst h0
     go_wp2_with fail
     refine hw.mono ?_;rintro e w1 ⟨rfl,hb⟩;have HB1:Hid (Below w.heap.size w w1):=HB.out.trans (hb.mono hsz);go_wp2
     go_roundw
     case rel=>exact⟨k+1,by omega,by go_num,by show _=_;have:=HD2.out;simpa using this,HB1.out⟩
     case measure=>simp[intOf];omega
    ·go_wp2_with fail
     refine hw.mono ?_;rintro e w1 ⟨rfl,hb⟩;have HB1:Hid (Below w.heap.size w w1):=HB.out.trans (hb.mono hsz);go_wp2;go_ret;exact⟨by have h1:=HD2.out;rw[if_neg h0] at h1;rw[h1];rfl,HB1.out⟩
   ·go_wp2;go_ret
    refine⟨?_,HB.out⟩;rw[HW.out,List.drop_eq_nil_of_le (by omega)];rfl
theorem zly (w:World)(v:Value)(r:K.Rule)(R:K.RuIs w v r) :
  Calls Tryz.prog 123 #[v] w fun e w'=>e= .returned (.int .i64 (K.ruleE r))/\Below w.heap.size w w':=by
 obtain⟨bo,bc,so,sc,ao,ac,tgo,tc,rfl,R1,R2,R3,R4,hl4,hcur⟩:=R;have f2:=R2.few;have hI1: -9223372036854775808<=r.cursor:=hcur.1;have hI2:r.cursor<=9223372036854775807:=hcur.2;have B2:Hid (∀o1 o2,Below w.heap.size w ((w.alloc o1).alloc o2)):=fun o1 o2=>((qR w).alloc qN o1).alloc (by simp) o2
 have C1:Hid (∀X,Below w.heap.size w X->Calls Tryz.prog 145 #[.slice bo r.before.length bc] X fun e w'=>e= .returned (.int .i64 (K.setsE r.before))/\Below X.heap.size X w'):=fun X hX=>zbz X _ _ (R1.below hX)
 have C2:Hid (∀X,Below w.heap.size w X->Calls Tryz.prog 145 #[.slice so r.source.length sc] X fun e w'=>e= .returned (.int .i64 (K.setsE r.source))/\Below X.heap.size X w'):=fun X hX=>zbz X _ _ (R2.below hX)
 have C3:Hid (∀X,Below w.heap.size w X->Calls Tryz.prog 145 #[.slice ao r.after.length ac] X fun e w'=>e= .returned (.int .i64 (K.setsE r.after))/\Below X.heap.size X w'):=fun X hX=>zbz X _ _ (R3.below hX)
 have C4:Hid (r.target.length<=20->∀X,Below w.heap.size w X->Calls Tryz.prog 79 #[.slice tgo r.target.length tc] X fun e w'=>e= .returned (.bool (K.allR r.target))/\Below X.heap.size X w'):=fun h X hX=>zdh X _ _ (R4.below hX qN) (by omega)
 obtain⟨o,HO⟩:∃o,Hid (K.ruleE r=o):=⟨_,rfl⟩;rw[HO.out];unfold K.ruleE K.tailE at HO;obtain⟨e1,he1⟩:∃e1,e1=K.setsE r.before:=⟨_,rfl⟩;obtain⟨e2,he2⟩:∃e2,e2=K.setsE r.source:=⟨_,rfl⟩;obtain⟨e3,he3⟩:∃e3,e3=K.setsE r.after:=⟨_,rfl⟩;obtain⟨e4,he4⟩:∃e4,e4=K.allR r.target:=⟨_,rfl⟩;rw[<- he1,<- he2,<- he3,<- he4] at HO;rw[<- he1] at C1;rw[<- he2] at C2;rw[<- he3] at C3;rw[<- he4] at C4;clear he1 he2 he3 he4 R1 R2 R3 R4 hcur;obtain⟨st,fi,be,sou,af,ta,cu⟩:=r;simp only at *
 go_enter Tryz.func123,Tryz.ntmps123
 go_wp2;refine wp_loop_rounds 4 ?_
 rw[rounds_succ]
 go_wp2_with fail
 refine(C1.out _ (B2.out _ _)).mono ?_;rintro e w1 ⟨rfl,hb⟩;obtain⟨h1,h2,HB1,hs1⟩:=K.zba hb;have HB1':Hid (Below w.heap.size w w1):=HB1;have HH1:Hid (w1.heap[w.heap.size]?=some (.cells #[.bool st,.bool fi,.slice bo be.length bc,.slice so sou.length sc,.slice ao af.length ac,.slice tgo ta.length tc,.int .i64 cu] 83)/\w1.heap[w.heap.size+1]?=some (.cells #[.slice bo be.length bc,.slice so sou.length sc,.slice ao af.length ac] 81)):=⟨h1,h2⟩;clear hb HB1 h1 h2
 by_cases q1:e1=0
 ·subst q1;have d2:=K.zaf (i:=1) HH1.out.2 rfl;go_wp2;rw[rounds_succ]
  go_wp2_with fail
  refine(C2.out _ HB1'.out).mono ?_;rintro e w2 ⟨rfl,hb⟩;have HB2:Hid (Below w.heap.size w w2):=HB1'.out.trans (hb.mono (by omega));have HH2:Hid (w2.heap[w.heap.size]?=some (.cells #[.bool st,.bool fi,.slice bo be.length bc,.slice so sou.length sc,.slice ao af.length ac,.slice tgo ta.length tc,.int .i64 cu] 83)/\w2.heap[w.heap.size+1]?=some (.cells #[.slice bo be.length bc,.slice so sou.length sc,.slice ao af.length ac] 81)):=⟨K.zae HH1.out.1 hb,K.zae HH1.out.2 hb⟩;have hs2:=hb.size;clear hb d2
  by_cases q2:e2=0
  ·subst q2;have d3:=K.zaf (i:=2) HH2.out.2 rfl;go_wp2;rw[rounds_succ]
   go_wp2_with fail
   refine(C3.out _ HB2.out).mono ?_;rintro e w3 ⟨rfl,hb⟩;have HB3:Hid (Below w.heap.size w w3):=HB2.out.trans (hb.mono (by omega));have HH3:Hid (w3.heap[w.heap.size]?=some (.cells #[.bool st,.bool fi,.slice bo be.length bc,.slice so sou.length sc,.slice ao af.length ac,.slice tgo ta.length tc,.int .i64 cu] 83)):=K.zae HH2.out.1 hb;have hs3:=hb.size;clear hb d3
   by_cases q3:e3=0
   ·subst q3;have d3:=K.zaf (i:=3) HH3.out rfl;have d5:=K.zaf (i:=5) HH3.out rfl;have d6:=K.zaf (i:=6) HH3.out rfl
    have HO2:Hid ((if sou.length=0 then (6:Int) else if 20<ta.length then 5 else if e4=false then 3 else if cu<0 then 3 else if (ta.length:Int)<cu then 3 else 0)=o):=by
     have h:=HO.out;rw[if_neg (by simp),if_neg (by simp),if_neg (by simp)] at h;exact h
    go_wp2;rw[rounds_succ]
    by_cases q4:sou.length=0
    ·go_wp2;go_ret
     exact⟨by rw[<- HO2.out,if_pos q4];rfl,HB3.out⟩
    ·by_cases q5:20<ta.length
     ·go_wp2;go_ret
      exact⟨by rw[<- HO2.out,if_neg q4,if_pos q5];rfl,HB3.out⟩
     ·have hC4:=C4.out (by omega) w3 HB3.out
      go_wp2_with fail
      refine hC4.mono ?_;rintro e w4 ⟨rfl,hb⟩;have HB4:Hid (Below w.heap.size w w4):=HB3.out.trans (hb.mono (by omega));have HH4:=K.zae HH3.out hb;have g5:=K.zaf (i:=5) HH4 rfl;have g6:=K.zaf (i:=6) HH4 rfl;clear hb HH4 d3 d5 d6
      have HO3:Hid ((if e4=false then (3:Int) else if cu<0 then 3 else if (ta.length:Int)<cu then 3 else 0)=o):=by
       have h:=HO2.out;rw[if_neg q4,if_neg q5] at h;exact h
      cases e4 with
      | false =>
       go_wp2;go_ret
       exact⟨by rw[<- HO3.out];rfl,HB4.out⟩
      | true =>
       by_cases q6:cu<0
       ·go_wp2;go_ret
        exact⟨by rw[<- HO3.out,if_neg (by simp),if_pos q6];rfl,HB4.out⟩
       ·by_cases q7:(ta.length:Int)<cu
        ·go_wp2;go_ret
         exact⟨by rw[<- HO3.out,if_neg (by simp),if_neg (by omega),if_pos (by omega)];rfl,HB4.out⟩
        ·go_wp2;go_ret
         exact⟨by rw[<- HO3.out,if_neg (by simp),if_neg (by omega),if_neg (by omega)];rfl,HB4.out⟩
   ·go_wp2;go_ret
    exact⟨by rw[<- HO.out,if_neg (by simp),if_neg (by simp),if_pos q3];rfl,HB3.out⟩
  ·go_wp2;go_ret
   exact⟨by rw[<- HO.out,if_neg (by simp),if_pos q2];rfl,HB2.out⟩
 ·go_wp2;go_ret
  exact⟨by rw[<- HO.out,if_pos q1];rfl,HB1'.out⟩
end Go.Proofs.YteagjpnbiceafaaGreatDoor
namespace Go.Proofs.YteagjpnbiceafaaGreatDoor
open Go.RowKit
theorem K.box2 {w:World}{g:Nat}{a b:Value}{t:TypeId}(hg:w.heap[g]?=some (.cells #[a,b] t)):w.cell? ⟨g,0,none⟩=some a/\w.cell? ⟨g,1,none⟩=some b/\w.frozen? ⟨g,0,none⟩=false/\w.frozen? ⟨g,1,none⟩=false:=by
 refine⟨?_,?_,?_,?_⟩
 ·rw[World.cell?];simp[hg]
 ·rw[World.cell?];simp[hg]
 ·rw[World.frozen?];simp[hg]
 ·rw[World.frozen?];simp[hg]
theorem zdv (w:World)(v:Value)(l:List K.Rule)(R0:V.Rus w v l) :
  Calls Tryz.prog 106 #[v] w fun e w'=>e= .returned (.agg #[.int .i64 (K.rulesF l).1,.int .i64 (K.rulesF l).2])/\Below w.heap.size w w':=by
 have HR:Hid (V.Rus w v l):=R0;have hfew:=R0.few;obtain⟨ao,cap,rfl⟩:=R0.len;clear R0;have HA:Hid (∀o,Below w.heap.size w (w.alloc o)):=fun o=>(qR w).alloc qN o
 unfold K.rulesF
 by_cases hbig:200<l.length
 ·rw[if_pos hbig]
  go_enter Tryz.func106,Tryz.ntmps106
  go_wp2;refine bodyPost_ret (v:= .agg #[.int .i64 5,.int .i64 0]) (by simp[results,Tryz.results106,go_sem]) rfl ?_
  exact⟨rfl,HA.out _⟩
 ·rw[if_neg hbig];obtain⟨⟨o1,o2⟩,HO⟩:∃o,Hid (K.firstR 0 l=o):=⟨_,rfl⟩;rw[HO.out]
  go_enter Tryz.func106,Tryz.ntmps106
  go_wp2
  go_loopw [12] (fun i wr=>∃k:Nat,k<=l.length/\i= .int .i64 k/\Hid (K.firstR k (l.drop k)=(o1,o2))/\Hid (Below w.heap.size w wr)/\Hid (wr.heap[w.heap.size]?=some (.cells #[.int .i64 0,.int .i64 0] 36))) (fun i _=>l.length - (intOf i).toNat)
  case atStart=>exact⟨0,Nat.zero_le _,rfl,HO,HA.out _,heap_alloc_new w _⟩
  case round =>
   obtain⟨k,hk,rfl,HE,HB,HX⟩:=hrel;have hX:=HX.out
   by_cases hlt:k<l.length
   ·obtain⟨p,hp⟩:∃x,l[k]?=some x:=⟨l[k],by simp[hlt]⟩;obtain⟨ao',cap',e',_,hcs⟩:=HR.out.below HB.out;cases e';obtain⟨b,off,rfl,hcell⟩:=hcs (by intro h;subst h;simp at hlt);obtain⟨bo,bc,so,sc,ao,ac,tgo,tc,c0,c1,c2,c3,c4,c5,c6,hP⟩:=hcell k p hp;have HE2:Hid (K.firstR k (l.drop k)=if K.ruleE p=0 then K.firstR (k+1) (l.drop (k+1)) else (K.ruleE p,(k:Int))):=K.zjh hp;have hsz:=HB.out.size;have HW:Hid (∀o,Calls Tryz.prog 123 #[.agg #[.bool p.start,.bool p.fin,.slice bo p.before.length bc,.slice so p.source.length sc,.slice ao p.after.length ac,.slice tgo p.target.length tc,.int .i64 p.cursor]] (wr.alloc o) fun e w'=>e= .returned (.int .i64 (K.ruleE p))/\Below (wr.alloc o).heap.size (wr.alloc o) w'):=fun o=>zly _ _ p (V.zfm hP (R.Keeps.alloc wr o))
    obtain⟨z,HZ⟩:∃z,Hid (K.ruleE p=z):=⟨_,rfl⟩;rw[HZ.out] at HW HE2;clear hp hcell hcs hP hX;obtain⟨st,fi,be,sou,af,ta,cu⟩:=p;simp only at c0 c1 c2 c3 c4 c5 c6 HW
    go_wp2_with fail
    refine(HW.out _).mono ?_;rintro e w1 ⟨rfl,b1⟩;obtain⟨_,B1,hl1⟩:=K.zay b1
    have hX1:w1.heap[w.heap.size]?=some (.cells #[.int .i64 0,.int .i64 0] 36):=by
     rw[B1.block _ (qA.1 HX.out).1];exact HX.out
    have HB1:Hid (Below w.heap.size w w1):=HB.out.trans (B1.mono hsz);have HX1:Hid _:=hX1;obtain⟨x0,x1,f0,f1⟩:=K.box2 hX1;clear b1 B1 hX1
    by_cases hz:z=0
    ·subst hz;go_wp2
     go_roundw
     case rel=>exact⟨k+1,by omega,by go_num,by show _=_;rw[<- HE.out,HE2.out];simp,HB1,HX1⟩
     case measure=>simp[intOf];omega
    ·go_wp2;refine bodyPost_ret (v:= .agg #[.int .i64 z,.int .i64 k]) (by simp[results,Tryz.results106,go_sem, *]) rfl ?_
     have h:=HE2.out;rw[HE.out,if_neg hz] at h;cases h;exact⟨rfl,(HB1.out.setCell (p:=⟨w.heap.size,0,none⟩) qN _).setCell (p:=⟨w.heap.size,1,none⟩) qN _⟩
   ·obtain⟨x0,x1,f0,f1⟩:=K.box2 hX;have h:=HE.out;rw[List.drop_eq_nil_of_le (by omega)] at h;cases h;go_wp2;refine bodyPost_ret (v:= .agg #[.int .i64 0,.int .i64 0]) (by simp[results,Tryz.results106,go_sem, *]) rfl ?_;exact⟨rfl,(HB.out.setCell (p:=⟨w.heap.size,0,none⟩) qN _).setCell (p:=⟨w.heap.size,1,none⟩) qN _⟩
end Go.Proofs.YteagjpnbiceafaaGreatDoor
