/-
 A name's runes and its bytes.
-/
import Derived.Test.YtamfgmaipajodaaGreatDoorTClass2
import Derived.Deep.RegionHeld3
set_option maxHeartbeats 0
namespace Go.Proofs.YtamfgmaipajodaaGreatDoor
open Go.RowKit
theorem zk9 (z:Int)(h:¬(0<=z/\z<128)):∃a t,M.enc z=a::t/\128<=a.toNat:=by
 by_cases hr:M.right z=true
 ·have hz:0<=z/\z<=1114111:=by
   have:=of_decide_eq_true hr;omega
  obtain⟨n,rfl⟩:∃n:Nat,z=(n:Int):=⟨z.toNat,by omega⟩;rw[M.zec n hr,if_neg (by omega)]
  repeat' split
  all_goals exact⟨_,_,rfl,by rw[M.u8 _ (by omega)];omega⟩
 ·have e:M.enc z=M.enc ((65533:Nat):Int):=by
   have h1:Utf8.valid z=false:=by rw[M.zev];exact Bool.eq_false_iff.2 hr
   have h2:Utf8.valid ((65533:Nat):Int)=true:=by decide
   unfold M.enc Utf8.encode;rw[h1,h2];rfl
  rw[e,M.zec 65533 (by decide)];exact⟨_,_,rfl,by decide⟩
theorem zj1 (n:Nat)(h:n<128):M.enc (n:Int)= [UInt8.ofNat n]:=by
 have hr:M.right (n:Int)=true:=by unfold M.right;exact decide_eq_true (by omega)
 rw[M.zec n hr,if_pos (by omega)]
theorem zf9:∀(ns:List Nat) (zs:List Int),(∀n∈ns,n<128)->(zs.flatMap fun z=>M.enc z)=ns.map UInt8.ofNat->zs=ns.map Int.ofNat
 | [],[],_,_=>rfl
 | [],z::zs,_,h=>by
  exfalso
  by_cases hz:0<=z/\z<128
  ·obtain⟨n,rfl⟩:∃n:Nat,z=(n:Int):=⟨z.toNat,by omega⟩;rw[List.flatMap_cons,zj1 n (by omega)] at h;simp at h
  ·obtain⟨a,t,he,_⟩:=zk9 z hz;rw[List.flatMap_cons,he] at h;simp at h
 | n::ns,[],_,h=>by simp at h
 | n::ns,z::zs,hn,h=>by
  have h0:=hn n (by simp)
  by_cases hz:0<=z/\z<128
  ·obtain⟨m,rfl⟩:∃m:Nat,z=(m:Int):=⟨z.toNat,by omega⟩;rw[List.flatMap_cons,zj1 m (by omega),List.map_cons,List.singleton_append,List.cons.injEq] at h;have e:=congrArg UInt8.toNat h.1;rw[M.u8 _ (by omega),M.u8 _ (by omega)] at e;subst e;rw[zf9 ns zs (fun x hx=>hn x (by simp[hx])) h.2,List.map_cons];rfl
  ·exfalso;obtain⟨a,t,he,ha⟩:=zk9 z hz;rw[List.flatMap_cons,he,List.map_cons,List.cons_append,List.cons.injEq] at h;have e:=congrArg UInt8.toNat h.1;rw[M.u8 _ (by omega)] at e;omega
theorem zca (ns:List Nat)(s:ByteArray)(hs:s.data.toList=ns.map UInt8.ofNat)(hn:∀n∈ns,n<128)(zs:List Int):runesBytes zs=s↔zs=ns.map Int.ofNat:=by
 constructor
 ·intro h;refine zf9 ns zs hn ?_;rw[<- hs,<- h,zbd]
 ·rintro rfl;apply ByteArray.ext;apply Array.toList_inj.1;rw[zbd,hs,List.flatMap_map];clear hs
  induction ns with
  | nil=>rfl
  | cons n ns ih =>
   have e:M.enc (Int.ofNat n)= [UInt8.ofNat n]:=zj1 n (hn n (by simp));rw[List.flatMap_cons,e,List.map_cons,ih fun x hx=>hn x (by simp[hx])];rfl
theorem zf4 (zs:List Int):runesBytes zs=⟨#[100,105,103,105,116]⟩↔zs= [100,105,103,105,116]:=zca [100,105,103,105,116] _ rfl (by decide) zs
theorem zf2 (zs:List Int):runesBytes zs=⟨#[108,111,119,101,114]⟩↔zs= [108,111,119,101,114]:=zca [108,111,119,101,114] _ rfl (by decide) zs
theorem zf0 (zs:List Int):runesBytes zs=⟨#[117,112,112,101,114]⟩↔zs= [117,112,112,101,114]:=zca [117,112,112,101,114] _ rfl (by decide) zs
theorem ze3 (zs:List Int):runesBytes zs=⟨#[108,101,116,116,101,114]⟩↔zs= [108,101,116,116,101,114]:=zca [108,101,116,116,101,114] _ rfl (by decide) zs
theorem zfz (zs:List Int):runesBytes zs=⟨#[118,111,119,101,108]⟩↔zs= [118,111,119,101,108]:=zca [118,111,119,101,108] _ rfl (by decide) zs
theorem zf3 (zs:List Int):runesBytes zs=⟨#[103,114,101,101,107]⟩↔zs= [103,114,101,101,107]:=zca [103,114,101,101,107] _ rfl (by decide) zs
theorem zdm (zs:List Int):runesBytes zs=⟨#[99,121,114,105,108,108,105,99]⟩↔zs= [99,121,114,105,108,108,105,99]:=zca [99,121,114,105,108,108,105,99] _ rfl (by decide) zs
theorem zf1 (zs:List Int):runesBytes zs=⟨#[115,112,97,99,101]⟩↔zs= [115,112,97,99,101]:=zca [115,112,97,99,101] _ rfl (by decide) zs
theorem zkx (zs:List Int):runesBytes zs=⟨#[97,110,121]⟩↔zs= [97,110,121]:=zca [97,110,121] _ rfl (by decide) zs
theorem zmn (zs:List Int)(x:ByteArray×List S.Sp)(hx:x∈T.names)(h:x.1=runesBytes zs):T.classOf zs=some x.2:=by
 unfold T.names at hx;simp only[List.mem_cons,List.not_mem_nil,or_false] at hx;rcases hx with rfl | rfl | rfl | rfl | rfl | rfl | rfl | rfl | rfl
 ·rw[(zf4 zs).1 h.symm];rfl
 ·rw[(zf2 zs).1 h.symm];rfl
 ·rw[(zf0 zs).1 h.symm];rfl
 ·rw[(ze3 zs).1 h.symm];rfl
 ·rw[(zfz zs).1 h.symm];rfl
 ·rw[(zf3 zs).1 h.symm];rfl
 ·rw[(zdm zs).1 h.symm];rfl
 ·rw[(zf1 zs).1 h.symm];rfl
 ·rw[(zkx zs).1 h.symm];rfl
theorem zmo (zs:List Int)(h:∀x∈T.names,x.1≠runesBytes zs):T.classOf zs=none:=by
 unfold T.classOf;rw[if_neg fun e=>h _ (.head _) ((zf4 zs).2 e).symm];rw[if_neg fun e=>h _ (.tail _ (.head _)) ((zf2 zs).2 e).symm];rw[if_neg fun e=>h _ (.tail _ (.tail _ (.head _))) ((zf0 zs).2 e).symm];rw[if_neg fun e=>h _ (.tail _ (.tail _ (.tail _ (.head _)))) ((ze3 zs).2 e).symm];rw[if_neg fun e=>h _ (.tail _ (.tail _ (.tail _ (.tail _ (.head _))))) ((zfz zs).2 e).symm];rw[if_neg fun e=>h _ (.tail _ (.tail _ (.tail _ (.tail _ (.tail _ (.head _)))))) ((zf3 zs).2 e).symm];rw[if_neg fun e=>h _ (.tail _ (.tail _ (.tail _ (.tail _ (.tail _ (.tail _ (.head _))))))) ((zdm zs).2 e).symm];rw[if_neg fun e=>h _ (.tail _ (.tail _ (.tail _ (.tail _ (.tail _ (.tail _ (.tail _ (.head _)))))))) ((zf1 zs).2 e).symm];rw[if_neg fun e=>h _ (.tail _ (.tail _ (.tail _ (.tail _ (.tail _ (.tail _ (.tail _ (.tail _ (.head _))))))))) ((zkx zs).2 e).symm]
end Go.Proofs.YtamfgmaipajodaaGreatDoor
namespace Go.Proofs.YtamfgmaipajodaaGreatDoor
open Go.RowKit
set_option maxRecDepth 20000
theorem zcf {w:World}{b:Nat}(h:T.Cls w b T.names)(zs:List Int)(str:ByteArray)(hs:runesBytes zs=str) :
  ∃v ok,(Instr.lookup 133 (.map (some b)) (.string str) true).run Tryz.prog w= .ok (.tuple #[v,.bool ok]) w/\Hid ((∃sp,T.classOf zs=some sp/\ok=true/\S.Rd w v sp)∨(T.classOf zs=none/\ok=false)):=by
 subst hs;rcases zm9 h (runesBytes zs) with ⟨v,x,hx,he,hR,hr⟩|⟨hn,hr⟩
 ·exact⟨v,true,hr,.inl ⟨x.2,zmn zs x hx he,rfl,hR⟩⟩
 ·exact⟨_,false,hr,.inr ⟨zmo zs hn,rfl⟩⟩
theorem zsy (zs:List Int)(sp:List S.Sp)(h:T.classOf zs=some sp):S.Nf 0 sp/\sp.length<=200:=by
 unfold T.classOf at h
 repeat' split at h
 all_goals first
  | (cases h;done)
  | (cases h;exact⟨by simp[S.Nf],by decide⟩)
theorem zsx:T.ClassOk:=by
 intro w cb tb cap p ao l C h91 h58;have hp:=C.inside (by rw[h91];decide);have hlen:=C.len;have HC:Hid (T.Cur w cb tb cap ao l p):=C;clear C;obtain⟨o,HO⟩:∃o,Hid (T.cls l p=o):=⟨_,rfl⟩;rw[HO.out]
 go_enter Tryz.func240,Tryz.ntmps240
 go_wp2_with fail
 refine(zay _ cb tb cap p ao l 91 (by decide) HC.out h91).mono ?_;rintro e w1 ⟨rfl,C1,g1⟩;have G1:Hid (w.grownBy w1 (some cb)):=g1;clear g1
 go_wp2_with fail
 refine(zay _ cb tb cap (p+1) ao l 58 (by decide) C1 h58).mono ?_;rintro e w2 ⟨rfl,C2,g2⟩;have G2:Hid (w.grownBy w2 (some cb)):=S.zaa G1.out g2;obtain⟨f,HF⟩:∃f,Hid (p+2=f):=⟨_,rfl⟩;have d1:w2.cell? ⟨cb,1,none⟩=some (.int .i64 (f:Int)):=by rw[<- HF.out];exact C2.cell1
 have HC2:Hid (T.Cur w2 cb tb cap ao l (p+2)):=C2;have hle2:=C2.le;clear C2 C1 G1 g2;go_wp2
 go_loopw [15] (fun _ wr=>∃q:Nat,p+2<=q/\Hid (∀i,p+2<=i->i<q->T.ordy (T.see l i)=true)/\Hid (T.Cur wr cb tb cap ao l q)/\Hid (w.grownBy wr (some cb))) (fun _ wr=>l.length - T.pos wr cb)
 case atStart=>exact⟨p+2,qN,fun i h1 h2=>by omega,HC2,G2⟩
 case round =>
  obtain⟨q,hq,HA,HCq,HG⟩:=hrel;have HP:Hid _:=HCq.out.pos;have hql:=HCq.out.le
  go_wp2_with fail
  refine(zgt _ cb tb cap q ao l HCq.out).mono ?_;rintro e w3 ⟨rfl,b3⟩;have C3:=HCq.out.below b3;have c3:=C3.cell1;have c3t:=C3.cell0;have f3:=C3.frz1;have HC3:Hid (T.Cur w3 cb tb cap ao l q):=C3;have HG3:Hid (w.grownBy w3 (some cb)):=S.zaa HG.out (S.zad b3);clear C3
  by_cases hb:T.ordy (T.see l q)=true
  ·have hlt:q<l.length:=HCq.out.inside (by intro h;rw[h] at hb;revert hb;decide);go_wp2
   go_roundw
   case rel =>
    refine⟨q+1,by omega,fun i h1 h2=> ?_,HC3.out.set (q:=q+1) (by omega),S.zaa HG3.out (zcs _ _ _ _)⟩
    by_cases e:i=q
    ·rw[e];exact hb
    ·exact HA.out i h1 (by omega)
   case measure =>
    have h1:T.pos (w3.setCell ⟨cb,1,none⟩ (.int .i64 ((q:Int)+1))) cb=q+1:=(HC3.out.set (q:=q+1) (by omega)).pos;rw[h1,HP.out];omega
  ·have hb':T.ordy (T.see l q)=false:=by simpa using hb
   have HK:Hid (T.skipW T.ordy l (p+2)=q):=T.zb9 hq hql HA.out hb' (by decide);have hao:=HC3.out.txt (by intro h;subst h;simp at hp);subst hao;have hcp:=HC3.out.cp;have hfq:f<=q:=by have:=HF.out;omega
   have i1:(0:Int)<=(f:Int):=by omega
   have i2:(f:Int)<=(q:Int):=by omega
   have i3:(q:Int)<=(cap:Int):=by omega
   have HB3:Hid (w3.heap.size=w3.heap.size):=rfl
   by_cases hlt:f<q
   ·have hcf:¬cap=f:=by omega
    obtain⟨str,HS⟩:∃s,Hid (runesBytes (T.cut l f q)=s):=⟨_,rfl⟩;have HC3':Hid (T.Cur w3.drew cb tb cap (some ⟨tb,0,none⟩) l q):=HC3.out.drewN 1;have kp3:(w3.drew.cell? ⟨cb,0,none⟩=some (.slice (some ⟨tb,0,none⟩) l.length cap)/\w3.drew.cell? ⟨cb,1,none⟩=some (.int .i64 q))/\(convert 33 9 (.slice (some ⟨tb,f,none⟩) (q - f) (cap - f))).run Tryz.prog w3.drew= .ok (.string str) w3.drew:=⟨⟨HC3'.out.cell0,HC3'.out.cell1⟩,by rw[<- HS.out];exact HC3'.out.text hfq hql _ (fun _=>rfl) _⟩
    go_wp2_with fail
    go_region_held3 (fun w'=>(w'.cell? ⟨cb,0,none⟩=some (.slice (some ⟨tb,0,none⟩) l.length cap)/\w'.cell? ⟨cb,1,none⟩=some (.int .i64 q))/\(convert 33 9 (.slice (some ⟨tb,f,none⟩) (q - f) (cap - f))).run Tryz.prog w'= .ok (.string str) w')
     (first
      | exact kp4
      | exact kp3
      | (go_keep;done))
     (first
      | (go_at_call 260;refine(zc5 _).mono ?_;rintro e w4 ⟨b,rfl,hbs,HCl,b4⟩;have C4:=HC3'.out.below b4;have HC4:Hid (T.Cur w4 cb tb cap (some ⟨tb,0,none⟩) l q):=C4;have kp4:(w4.cell? ⟨cb,0,none⟩=some (.slice (some ⟨tb,0,none⟩) l.length cap)/\w4.cell? ⟨cb,1,none⟩=some (.int .i64 q))/\(convert 33 9 (.slice (some ⟨tb,f,none⟩) (q - f) (cap - f))).run Tryz.prog w4= .ok (.string str) w4:=⟨⟨C4.cell0,C4.cell1⟩,by rw[<- HS.out];exact C4.text hfq hql _ (fun _=>rfl) _⟩;obtain⟨v4,ok4,hlk,HV⟩:=zcf HCl (T.cut l f q) str HS.out;have HB4:Hid _:=b4;clear b4 C4))
    have HG4:Hid (w.grownBy w4 (some cb)):=S.zaa HG3.out (S.zaa (zbx _ 1 _) (S.zad HB4.out));clear kp3 kp4 hlk HCl c3 c3t f3;rcases HV.out with ⟨sp,hcl,rfl,hR⟩|⟨hcl,rfl⟩
    ·have HR:Hid (S.Rd w4 v4 sp):=hR;have HCL:Hid _:=hcl;clear hR hcl HV
     by_cases e1:T.see l q=58
     ·go_wp2_with fail
      refine(zay _ cb tb cap q _ l 58 (by decide) HC4.out e1).mono ?_;rintro e w5 ⟨rfl,C5,g5⟩;have HC5:Hid (T.Cur w5 cb tb cap (some ⟨tb,0,none⟩) l (q+1)):=C5;have HG5:Hid (w.grownBy w5 (some cb)):=S.zaa HG4.out g5;have HR5:Hid (S.Rd w5 v4 sp):=T.zou HC4.out HR.out g5;clear C5 g5
      by_cases e2:T.see l (q+1)=93
      ·go_wp2_with fail
       refine(zay _ cb tb cap (q+1) _ l 93 (by decide) HC5.out e2).mono ?_;rintro e w6 ⟨rfl,C6,g6⟩;have HC6:Hid (T.Cur w6 cb tb cap (some ⟨tb,0,none⟩) l (q+2)):=C6;have HG6:Hid (w.grownBy w6 (some cb)):=S.zaa HG5.out g6;have HR6:Hid (S.Rd w6 v4 sp):=T.zou HC5.out HR5.out g6;clear C6 g6;go_wp2;go_ret;rw[<- HO.out];unfold T.cls;rw[HK.out,HF.out,HCL.out];simp only;rw[if_neg (by simp[e1]),if_neg (by simp[e2])];exact⟨_,rfl,⟨HR6.out,zsy _ _ HCL.out⟩,HC6.out,HG6.out⟩
      ·go_wp2_with fail
       refine(zbs _ cb tb cap (q+1) _ l 93 (by decide) HC5.out e2).mono ?_;unfold T.thrown;rintro e w6 ⟨rfl,g6⟩;go_wp2;refine⟨rfl,?_⟩;rw[<- HO.out];unfold T.cls;rw[HK.out,HF.out,HCL.out];simp only;rw[if_neg (by simp[e1]),if_pos e2];exact⟨rfl,S.zaa HG5.out g6⟩
     ·go_wp2_with fail
      refine(zbs _ cb tb cap q _ l 58 (by decide) HC4.out e1).mono ?_;unfold T.thrown;rintro e w5 ⟨rfl,g5⟩;go_wp2;refine⟨rfl,?_⟩;rw[<- HO.out];unfold T.cls;rw[HK.out,HF.out,HCL.out];simp only;rw[if_pos e1];exact⟨rfl,S.zaa HG4.out g5⟩
    ·go_wp2_with (go_at_call 60;refine(zaq _ 7 f).mono ?_;unfold T.thrown;rintro e w5 ⟨rfl,rfl⟩)
     refine⟨rfl,?_⟩;rw[<- HO.out];unfold T.cls;rw[HK.out,HF.out,hcl];exact⟨rfl,HG4.out⟩
   ·have hqf:q=f:=by omega
    subst hqf
    have hnone:T.classOf (T.cut l q q)=none:=by
     have:T.cut l q q= []:=List.length_eq_zero_iff.1 (by rw[zd6 hfq hql];omega);rw[this];rfl
    obtain⟨str,HS⟩:∃s,Hid (runesBytes (T.cut l q q)=s):=⟨_,rfl⟩;have HC3':Hid (T.Cur w3.drew cb tb cap (some ⟨tb,0,none⟩) l q):=HC3.out.drewN 1;have kp3:(w3.drew.cell? ⟨cb,0,none⟩=some (.slice (some ⟨tb,0,none⟩) l.length cap)/\w3.drew.cell? ⟨cb,1,none⟩=some (.int .i64 q))/\∀a c,(convert 33 9 (.slice (some a) 0 c)).run Tryz.prog w3.drew= .ok (.string str) w3.drew:=⟨⟨HC3'.out.cell0,HC3'.out.cell1⟩,fun a c=>by have:=HC3'.out.text hfq hql a (fun h=>absurd h (Nat.lt_irrefl _)) c;rw[Nat.sub_self,HS.out] at this;exact this⟩
    by_cases hcf:cap=q
    ·go_wp2_with fail
     go_region_held3 (fun w'=>(w'.cell? ⟨cb,0,none⟩=some (.slice (some ⟨tb,0,none⟩) l.length cap)/\w'.cell? ⟨cb,1,none⟩=some (.int .i64 q))/\∀a c,(convert 33 9 (.slice (some a) 0 c)).run Tryz.prog w'= .ok (.string str) w')
      (first
       | exact kp4
       | exact kp3
       | (go_keep;done))
      (first
       | (go_at_call 260;refine(zc5 _).mono ?_;rintro e w4 ⟨b,rfl,hbs,HCl,b4⟩;have C4:=HC3'.out.below b4;have kp4:(w4.cell? ⟨cb,0,none⟩=some (.slice (some ⟨tb,0,none⟩) l.length cap)/\w4.cell? ⟨cb,1,none⟩=some (.int .i64 q))/\∀a c,(convert 33 9 (.slice (some a) 0 c)).run Tryz.prog w4= .ok (.string str) w4:=⟨⟨C4.cell0,C4.cell1⟩,fun a c=>by have:=C4.text hfq hql a (fun h=>absurd h (Nat.lt_irrefl _)) c;rw[Nat.sub_self,HS.out] at this;exact this⟩;obtain⟨v4,ok4,hlk,HV⟩:=zcf HCl (T.cut l q q) str HS.out;have HB4:Hid _:=b4;clear b4 C4))
     have HG4:Hid (w.grownBy w4 (some cb)):=S.zaa HG3.out (S.zaa (zbx _ 1 _) (S.zad HB4.out));clear kp3 kp4 hlk HCl c3 c3t f3;rcases HV.out with ⟨sp,hcl,rfl,hR⟩|⟨hcl,rfl⟩
     ·rw[hnone] at hcl;cases hcl
     ·go_wp2_with (go_at_call 60;refine(zaq _ 7 q).mono ?_;unfold T.thrown;rintro e w5 ⟨rfl,rfl⟩)
      refine⟨rfl,?_⟩;rw[<- HO.out];unfold T.cls;rw[HK.out,HF.out,hcl];exact⟨rfl,HG4.out⟩
    ·go_wp2_with fail
     go_region_held3 (fun w'=>(w'.cell? ⟨cb,0,none⟩=some (.slice (some ⟨tb,0,none⟩) l.length cap)/\w'.cell? ⟨cb,1,none⟩=some (.int .i64 q))/\∀a c,(convert 33 9 (.slice (some a) 0 c)).run Tryz.prog w'= .ok (.string str) w')
      (first
       | exact kp4
       | exact kp3
       | (go_keep;done))
      (first
       | (go_at_call 260;refine(zc5 _).mono ?_;rintro e w4 ⟨b,rfl,hbs,HCl,b4⟩;have C4:=HC3'.out.below b4;have kp4:(w4.cell? ⟨cb,0,none⟩=some (.slice (some ⟨tb,0,none⟩) l.length cap)/\w4.cell? ⟨cb,1,none⟩=some (.int .i64 q))/\∀a c,(convert 33 9 (.slice (some a) 0 c)).run Tryz.prog w4= .ok (.string str) w4:=⟨⟨C4.cell0,C4.cell1⟩,fun a c=>by have:=C4.text hfq hql a (fun h=>absurd h (Nat.lt_irrefl _)) c;rw[Nat.sub_self,HS.out] at this;exact this⟩;obtain⟨v4,ok4,hlk,HV⟩:=zcf HCl (T.cut l q q) str HS.out;have HB4:Hid _:=b4;clear b4 C4))
     have HG4:Hid (w.grownBy w4 (some cb)):=S.zaa HG3.out (S.zaa (zbx _ 1 _) (S.zad HB4.out));clear kp3 kp4 hlk HCl c3 c3t f3;rcases HV.out with ⟨sp,hcl,rfl,hR⟩|⟨hcl,rfl⟩
     ·rw[hnone] at hcl;cases hcl
     ·go_wp2_with (go_at_call 60;refine(zaq _ 7 q).mono ?_;unfold T.thrown;rintro e w5 ⟨rfl,rfl⟩)
      refine⟨rfl,?_⟩;rw[<- HO.out];unfold T.cls;rw[HK.out,HF.out,hcl];exact⟨rfl,HG4.out⟩
end Go.Proofs.YtamfgmaipajodaaGreatDoor
