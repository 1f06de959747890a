import Derived.Test.YtcadaallpiekiaaGreatDoorTClass3
import Derived.Deep.Slices
import Derived.SizedLaws
set_option maxHeartbeats 0
namespace Go.Proofs.YtcadaallpiekiaaGreatDoor
open Go.Proofs.Tryz
section
open Go.RowKit
set_option maxRecDepth 20000
theorem zcz {w:World}{b:Nat}(h:T.Cls w b T.names)(zs:List Int)(str:ByteArray)(hs:runesBytes zs=str) :
  ∃v ok,(Instr.lookup 66 (.map (some b)) (.string str) true).run prog w=.ok (.tuple #[v,.bool ok]) w/\Hid ((∃sp,T.classOf zs=some sp/\ok=true/\S.Rd w v sp)∨(T.classOf zs=none/\ok=false)):=by
 subst hs;rcases znz h (runesBytes zs) with ⟨v,x,hx,he,hR,hr⟩|⟨hn,hr⟩
 ·exact⟨v,true,hr,.inl ⟨x.2,znb zs x hx he,rfl,hR⟩⟩
 ·exact⟨_,false,hr,.inr ⟨znc zs hn,rfl⟩⟩
theorem zs7 (zs:List Int)(sp:List S.Sp)(h:T.classOf zs=some sp):S.Nf 0 sp/\sp.length<=200:=by
 unfold T.classOf at h
 repeat' split at h
 all_goals first
  | (cases h;done)
  | (cases h;exact⟨by simp[S.Nf],by decide⟩)
theorem zs6:T.ClassOk:=by
 intro w cb tb cap p ao l C h91 h58;have hp:=C.inside (by rw[h91];decide);have hlen:=C.len;have HC:=qH C;clear C;obtain⟨o,HO⟩:∃o,Hid (T.cls l p=o):=⟨_,rfl⟩;rw[HO.out]
 go_enter func167,ntmps167
 go_wp2_with fail
 refine(za0 _ cb tb cap p ao l 91 (by decide) HC.out h91).mono ?_;rintro e w1 ⟨rfl,C1,g1⟩;have G1:=qH g1;clear g1
 go_wp2_with fail
 refine(za0 _ cb tb cap (p+1) ao l 58 (by decide) C1 h58).mono ?_;rintro e w2 ⟨rfl,C2,g2⟩;have G2:=qH<|S.zaa G1.out g2;obtain⟨f,HF⟩:∃f,Hid (p+2=f):=⟨_,rfl⟩;have d1:w2.cell? ⟨cb,1,none⟩=some (.int .i64 (f:Int)):=by rw[<- HF.out];exact C2.cell1
 have HC2:Hid (T.Cur w2 cb tb cap ao l (p+2)):=C2;have hle2:=C2.le;clear C2 C1 G1 g2;go_wp2
 go_loopw [15] (fun _ wr=>∃q:Nat,p+2<=q/\Hid (∀i,p+2<=i->i<q->T.ordy (T.see l i)=true)/\Hid (T.Cur wr cb tb cap ao l q)/\Hid (w.grownBy wr (some cb))) (fun _ wr=>l.length-T.pos wr cb)
 case atStart=>exact⟨p+2,qN,fun i h1 h2=>by omega,HC2,G2⟩
 case round =>
  obtain⟨q,hq,HA,HCq,HG⟩:=hrel;have HP:Hid _:=HCq.out.pos;have hql:=HCq.out.le
  go_wp2_with fail
  refine(zht _ cb tb cap q ao l HCq.out).mono ?_;rintro e w3 ⟨rfl,b3⟩;have C3:=HCq.out.below b3;have c3:=C3.cell1;have c3t:=C3.cell0;have f3:=C3.frz1;have HC3:=qH C3;have HG3:=qH<|S.zaa HG.out (S.zaf b3);clear C3
  by_cases hb:T.ordy (T.see l q)=true
  ·have hlt:=HCq.out.inside (by intro h;rw[h] at hb;revert hb;decide);go_wp2
   go_roundw
   case rel =>
    refine⟨q+1,by omega,fun i h1 h2=> ?_,HC3.out.set (q:=q+1) (by omega),S.zaa HG3.out (zdc _ _ _ _)⟩
    by_cases e:i=q
    ·rw[e];exact hb
    ·exact HA.out i h1 (by omega)
   case measure =>
    have h1:T.pos (w3.setCell ⟨cb,1,none⟩ (.int .i64 ((q:Int)+1))) cb=q+1:=(HC3.out.set (q:=q+1) (by omega)).pos;rw[h1,HP.out];omega
  ·have hb':T.ordy (T.see l q)=false:=by simpa using hb
   have HK:=qH<|T.zcl hq hql HA.out hb' (by decide);have hao:=HC3.out.txt (by intro h;subst h;simp at hp);subst hao;have hcp:=HC3.out.cp;have hfq:f<=q:=by have:=HF.out;omega
   have i1:(0:Int)<=(f:Int):=by omega
   have i2:(f:Int)<=(q:Int):=by omega
   have i3:(q:Int)<=(cap:Int):=by omega
   have HB3:Hid (w3.heap.size=w3.heap.size):=rfl
   by_cases hlt:f<q
   ·have hcf:¬cap=f:=by omega
    obtain⟨str,HS⟩:∃s,Hid (runesBytes (T.cut l f q)=s):=⟨_,rfl⟩;have HC3':Hid (T.Cur w3.drew cb tb cap (some ⟨tb,0,none⟩) l q):=HC3.out.drewN 1;have kp3:(w3.drew.cell? ⟨cb,0,none⟩=some (.slice (some ⟨tb,0,none⟩) l.length cap)/\w3.drew.cell? ⟨cb,1,none⟩=some (.int .i64 q))/\(convert 42 9 (.slice (some ⟨tb,f,none⟩) (q-f) (cap-f))).run prog w3.drew=.ok (.string str) w3.drew:=⟨⟨HC3'.out.cell0,HC3'.out.cell1⟩,by rw[<- HS.out];exact HC3'.out.text hfq hql _ (fun _=>rfl) _⟩
    go_wp2_with fail
    go_region_held3 (fun w'=>(w'.cell? ⟨cb,0,none⟩=some (.slice (some ⟨tb,0,none⟩) l.length cap)/\w'.cell? ⟨cb,1,none⟩=some (.int .i64 q))/\(convert 42 9 (.slice (some ⟨tb,f,none⟩) (q-f) (cap-f))).run prog w'=.ok (.string str) w')
     (first
      | exact kp4
      | exact kp3
      | (go_keep;done))
     (first
      | (go_at_call 186;refine(zdl _).mono ?_;rintro e w4 ⟨b,rfl,hbs,HCl,b4⟩;have C4:=HC3'.out.below b4;have HC4:Hid (T.Cur w4 cb tb cap (some ⟨tb,0,none⟩) l q):=C4;have kp4:(w4.cell? ⟨cb,0,none⟩=some (.slice (some ⟨tb,0,none⟩) l.length cap)/\w4.cell? ⟨cb,1,none⟩=some (.int .i64 q))/\(convert 42 9 (.slice (some ⟨tb,f,none⟩) (q-f) (cap-f))).run prog w4=.ok (.string str) w4:=⟨⟨C4.cell0,C4.cell1⟩,by rw[<- HS.out];exact C4.text hfq hql _ (fun _=>rfl) _⟩;obtain⟨v4,ok4,hlk,HV⟩:=zcz HCl (T.cut l f q) str HS.out;have HB4:Hid _:=b4;clear b4 C4))
    have HG4:=qH<|S.zaa HG3.out (S.zaa (zb6 _ 1 _) (S.zaf HB4.out));clear kp3 kp4 hlk HCl c3 c3t f3;rcases HV.out with ⟨sp,hcl,rfl,hR⟩|⟨hcl,rfl⟩
    ·have HR:=qH hR;have HCL:Hid _:=hcl;clear hR hcl HV
     by_cases e1:T.see l q=58
     ·go_wp2_with fail
      refine(za0 _ cb tb cap q _ l 58 (by decide) HC4.out e1).mono ?_;rintro e w5 ⟨rfl,C5,g5⟩;have HC5:=qH C5;have HG5:=qH<|S.zaa HG4.out g5;have HR5:=qH<|T.zpf HC4.out HR.out g5;clear C5 g5
      by_cases e2:T.see l (q+1)=93
      ·go_wp2_with fail
       refine(za0 _ cb tb cap (q+1) _ l 93 (by decide) HC5.out e2).mono ?_;rintro e w6 ⟨rfl,C6,g6⟩;have HC6:Hid (T.Cur w6 cb tb cap (some ⟨tb,0,none⟩) l (q+2)):=C6;have HG6:=qH<|S.zaa HG5.out g6;have HR6:=qH<|T.zpf HC5.out HR5.out g6;clear C6 g6;go_wp2;go_ret;rw[<- HO.out];unfold T.cls;rw[HK.out,HF.out,HCL.out];simp only;rw[if_neg (by simp[e1]),if_neg (by simp[e2])];exact⟨_,rfl,⟨HR6.out,zs7 _ _ HCL.out⟩,HC6.out,HG6.out⟩
      ·go_wp2_with fail
       refine(zb0 _ cb tb cap (q+1) _ l 93 (by decide) HC5.out e2).mono ?_;unfold T.thrown;rintro e w6 ⟨rfl,g6⟩;go_wp2;refine⟨rfl,?_⟩;rw[<- HO.out];unfold T.cls;rw[HK.out,HF.out,HCL.out];simp only;rw[if_neg (by simp[e1]),if_pos e2];exact⟨rfl,S.zaa HG5.out g6⟩
     ·go_wp2_with fail
      refine(zb0 _ cb tb cap q _ l 58 (by decide) HC4.out e1).mono ?_;unfold T.thrown;rintro e w5 ⟨rfl,g5⟩;go_wp2;refine⟨rfl,?_⟩;rw[<- HO.out];unfold T.cls;rw[HK.out,HF.out,HCL.out];simp only;rw[if_pos e1];exact⟨rfl,S.zaa HG4.out g5⟩
    ·go_wp2_with (go_at_call 29;refine(zaw _ 7 f).mono ?_;unfold T.thrown;rintro e w5 ⟨rfl,rfl⟩)
     refine⟨rfl,?_⟩;rw[<- HO.out];unfold T.cls;rw[HK.out,HF.out,hcl];exact⟨rfl,HG4.out⟩
   ·have hqf:q=f:=by omega
    subst hqf
    have hnone:T.classOf (T.cut l q q)=none:=by
     have:T.cut l q q= []:=List.length_eq_zero_iff.1 (by rw[zer hfq hql];omega);rw[this];rfl
    obtain⟨str,HS⟩:∃s,Hid (runesBytes (T.cut l q q)=s):=⟨_,rfl⟩;have HC3':Hid (T.Cur w3.drew cb tb cap (some ⟨tb,0,none⟩) l q):=HC3.out.drewN 1;have kp3:(w3.drew.cell? ⟨cb,0,none⟩=some (.slice (some ⟨tb,0,none⟩) l.length cap)/\w3.drew.cell? ⟨cb,1,none⟩=some (.int .i64 q))/\∀a c,(convert 42 9 (.slice (some a) 0 c)).run prog w3.drew=.ok (.string str) w3.drew:=⟨⟨HC3'.out.cell0,HC3'.out.cell1⟩,fun a c=>by have:=HC3'.out.text hfq hql a (fun h=>absurd h (Nat.lt_irrefl _)) c;rw[Nat.sub_self,HS.out] at this;exact this⟩
    by_cases hcf:cap=q
    ·go_wp2_with fail
     go_region_held3 (fun w'=>(w'.cell? ⟨cb,0,none⟩=some (.slice (some ⟨tb,0,none⟩) l.length cap)/\w'.cell? ⟨cb,1,none⟩=some (.int .i64 q))/\∀a c,(convert 42 9 (.slice (some a) 0 c)).run prog w'=.ok (.string str) w')
      (first
       | exact kp4
       | exact kp3
       | (go_keep;done))
      (first
       | (go_at_call 186;refine(zdl _).mono ?_;rintro e w4 ⟨b,rfl,hbs,HCl,b4⟩;have C4:=HC3'.out.below b4;have kp4:(w4.cell? ⟨cb,0,none⟩=some (.slice (some ⟨tb,0,none⟩) l.length cap)/\w4.cell? ⟨cb,1,none⟩=some (.int .i64 q))/\∀a c,(convert 42 9 (.slice (some a) 0 c)).run prog w4=.ok (.string str) w4:=⟨⟨C4.cell0,C4.cell1⟩,fun a c=>by have:=C4.text hfq hql a (fun h=>absurd h (Nat.lt_irrefl _)) c;rw[Nat.sub_self,HS.out] at this;exact this⟩;obtain⟨v4,ok4,hlk,HV⟩:=zcz HCl (T.cut l q q) str HS.out;have HB4:Hid _:=b4;clear b4 C4))
     have HG4:=qH<|S.zaa HG3.out (S.zaa (zb6 _ 1 _) (S.zaf HB4.out));clear kp3 kp4 hlk HCl c3 c3t f3;rcases HV.out with ⟨sp,hcl,rfl,hR⟩|⟨hcl,rfl⟩
     ·rw[hnone] at hcl;cases hcl
     ·go_wp2_with (go_at_call 29;refine(zaw _ 7 q).mono ?_;unfold T.thrown;rintro e w5 ⟨rfl,rfl⟩)
      refine⟨rfl,?_⟩;rw[<- HO.out];unfold T.cls;rw[HK.out,HF.out,hcl];exact⟨rfl,HG4.out⟩
    ·go_wp2_with fail
     go_region_held3 (fun w'=>(w'.cell? ⟨cb,0,none⟩=some (.slice (some ⟨tb,0,none⟩) l.length cap)/\w'.cell? ⟨cb,1,none⟩=some (.int .i64 q))/\∀a c,(convert 42 9 (.slice (some a) 0 c)).run prog w'=.ok (.string str) w')
      (first
       | exact kp4
       | exact kp3
       | (go_keep;done))
      (first
       | (go_at_call 186;refine(zdl _).mono ?_;rintro e w4 ⟨b,rfl,hbs,HCl,b4⟩;have C4:=HC3'.out.below b4;have kp4:(w4.cell? ⟨cb,0,none⟩=some (.slice (some ⟨tb,0,none⟩) l.length cap)/\w4.cell? ⟨cb,1,none⟩=some (.int .i64 q))/\∀a c,(convert 42 9 (.slice (some a) 0 c)).run prog w4=.ok (.string str) w4:=⟨⟨C4.cell0,C4.cell1⟩,fun a c=>by have:=C4.text hfq hql a (fun h=>absurd h (Nat.lt_irrefl _)) c;rw[Nat.sub_self,HS.out] at this;exact this⟩;obtain⟨v4,ok4,hlk,HV⟩:=zcz HCl (T.cut l q q) str HS.out;have HB4:Hid _:=b4;clear b4 C4))
     have HG4:=qH<|S.zaa HG3.out (S.zaa (zb6 _ 1 _) (S.zaf HB4.out));clear kp3 kp4 hlk HCl c3 c3t f3;rcases HV.out with ⟨sp,hcl,rfl,hR⟩|⟨hcl,rfl⟩
     ·rw[hnone] at hcl;cases hcl
     ·go_wp2_with (go_at_call 29;refine(zaw _ 7 q).mono ?_;unfold T.thrown;rintro e w5 ⟨rfl,rfl⟩)
      refine⟨rfl,?_⟩;rw[<- HO.out];unfold T.cls;rw[HK.out,HF.out,hcl];exact⟨rfl,HG4.out⟩
end
section
open Go.ChangeShapes Go.WideShapes Go.ChangeAt Go.RowKit
theorem Tryz.bytesI32:prog.bytesOf 21=4:=by kernel_rfl
theorem zj8 {H:Type}{enc:TypeId×Value->H}{W:World}{fuel:Nat}{cs:List Value}{x:DataW H×List MemPlace}(h:DataW.trod enc prog W 0 (fun _=>true) true fuel 42 cs=some x)(hw:∀n∈x.1.weights prog 42,n<=reachBytes) :
  ∃sp c zs,cs= [.slice sp (List.length zs) c]/\L.Rd W (.slice sp zs.length c) .i32 zs/\zs.length<=140737488355328/\zs.length<=c:=by
 rcases open_ints underlying42 underlying21 (by kernel_rfl) h with ⟨hcs,hx⟩|⟨a,len,cap,zs,hcs,_,hl,hm,hz,hx,hcell,hwz⟩
 ·exact⟨none,0,[],hcs,⟨none,0,rfl,fun _=>rfl,fun h=>absurd rfl h⟩,by simp,by simp⟩
 ·subst hx;simp only[if_true] at hz;have hlt:(zs.take len).length=len:=by rw[List.length_take];omega
  have h1:=hw ((zs.take len).length*4+(zs.drop len).length*4) (by
   simp only[DataW.weights,underlying42,Tryz.bytesI32,lits,List.length_map];rw[<- Nat.add_mul]
   exact List.mem_cons_self)
  refine⟨some a,cap,zs.take len,by rw[hcs,hlt],⟨_,cap,rfl,(fun h=>by cases h),fun hne=> ?_⟩,by unfold reachBytes at h1;omega,by omega⟩
  have h0:0<zs.length:=by
   cases zs with
   | nil=>simp at hne
   | cons=>simp
  obtain⟨b,off,rfl,_⟩:=ints_at hcell h0;refine⟨b,off,rfl,fun j z hj=> ?_⟩
  have hj2:j<zs.length:=by
   have:=(qL.1 hj).1;rw[hlt] at this;omega
  have h3:=hcell j hj2;rw[L.addr_add] at h3;rw[h3]
  have h4:zs[j]?=some z:=by
   rw[List.getElem?_take] at hj;split at hj
   ·exact hj
   ·simp at hj
  simp[List.getD,h4]
