/-
 A character that is told by its number.
-/
import Derived.Test.YtamfgmaipajodaaGreatDoorTParse
import Derived.Laws.IdiomStrings
import Derived.Test.YtamfgmaipajodaaGreatDoorRStay
import Derived.Laws.Bits64b
import Derived.Laws.ResultCell
import Derived.RegionTactic
import Derived.Laws.OwnMore
import Derived.Lib.MinMax
set_option maxHeartbeats 0
namespace Go.Proofs.YtamfgmaipajodaaGreatDoor
open Go.RowKit
def T.Ends (w:World) (cb tb cap:Nat) (ao:Option Addr) (l:List Int) {α:Type} (o:T.Out α) (val:α->Value->World->Prop) (e:Ending) (w':World):Prop :=
 match o with
 | .ok a q=>∃v,e= .returned v/\val a v w'/\T.Cur w' cb tb cap ao l q/\w.grownBy w' (some cb)
 | .bad er q=>e=T.thrown er q/\w.grownBy w' (some cb)
def T.isRune (a:Int) (v:Value) (_:World):Prop:=v= .int .i32 a
theorem zfa:∀(ns:List Int) (r:ByteArray),(ns.foldl (fun r n=>r++Utf8.encode n) r).data.toList=r.data.toList++ns.flatMap fun n=>M.enc n
 | [],r=>by simp
 | n::ns,r=>by
  rw[List.foldl_cons,zfa ns,ByteArray.data_append,Array.toList_append,List.flatMap_cons,List.append_assoc];rfl
theorem zbd (ns:List Int):(runesBytes ns).data.toList=ns.flatMap fun n=>M.enc n:=by
 have h:=zfa ns ByteArray.empty;have e:ByteArray.empty.data.toList=([]:List UInt8):=rfl;rw[e,List.nil_append] at h;exact h
theorem zm8 {P:Program}{w:World}{ao:Option Addr}{cap:Nat}{zs:List Int}(src dst e:TypeId)
  (hs:P.underlying src=some (.slice e)) (he:P.underlying e=some (.int .i32)) (hd:P.underlying dst=some .string)
  (hn:ao=none->cap=0) (hc:zs≠ []->∃b off,ao=some ⟨b,off,none⟩/\∀j z,zs[j]?=some z->w.cell? ⟨b,off+j,none⟩=some (.int .i32 z)) :
  (convert src dst (.slice ao zs.length cap)).run P w= .ok (.string (runesBytes zs)) w:=by
 cases ao with
 | none =>
  have h0:zs= []:=by
   cases zs with
   | nil=>rfl
   | cons z zs=>obtain⟨b,off,h,_⟩:=hc (by simp);simp at h
  subst h0;exact run_convert_runes_nil w src dst e _ _ hs he hd
 | some ad =>
  have h:=run_convert_runes (P:=P) w src dst e ad zs.length cap zs qN hs he hd (fun j hj=>by
   obtain⟨b,off,hao,hcell⟩:=hc (by intro h;subst h;simp at hj);simp at hao;subst hao;rw[L.addr_add]
   exact hcell j _ (by simp[List.getD,hj]))
  rw[List.take_length] at h;exact h
theorem zkc (zs:List Int)(h:∀z∈zs,0<=z/\z<128):T.bts (runesBytes zs)=zs/\(runesBytes zs).size=zs.length/\∀b∈(runesBytes zs).data.toList,(b.toNat:Int)∈zs:=by
 have h1:(runesBytes zs).data.toList.map (fun b=>(b.toNat:Int))=zs:=by
  rw[zbd]
  induction zs with
  | nil=>rfl
  | cons z zs ih =>
   have hz:=h z (by simp);obtain⟨n,rfl⟩:∃n:Nat,z=(n:Int):=⟨z.toNat,by omega⟩;have hr:M.right (n:Int)=true:=by unfold M.right;exact decide_eq_true (by omega)
   rw[List.flatMap_cons,List.map_append,ih (fun x hx=>h x (by simp[hx])),M.zec n hr,if_pos (by omega)];simp only[List.map_cons,List.map_nil,M.u8 n (by omega)];rfl
 refine⟨h1,?_,fun b hb=> ?_⟩
 ·have:=congrArg List.length h1;rw[List.length_map] at this;have e:(runesBytes zs).data.toList.length=(runesBytes zs).size:=by simp
  omega
 ·rw[<- h1];exact List.mem_map.2 ⟨b,hb,rfl⟩
theorem zd6 {l:List Int}{p q:Nat}(h1:p<=q)(h2:q<=l.length):(T.cut l p q).length=q - p:=by
 unfold T.cut;rw[List.length_take,List.length_drop];omega
theorem zg7 {l:List Int}{p q j:Nat}{z:Int}(h:(T.cut l p q)[j]?=some z):l[p+j]?=some z:=by
 unfold T.cut at h;rw[List.getElem?_take] at h;split at h
 ·rwa [List.getElem?_drop] at h
 ·cases h
theorem T.Cur.text {w:World}{cb tb cap p:Nat}{ao:Option Addr}{l:List Int}(C:T.Cur w cb tb cap ao l p){f q:Nat}(h1:f<=q)(h2:q<=l.length)(a:Addr)(ha:f<q->a=⟨tb,f,none⟩)(c:Nat) :
  (convert 33 9 (.slice (some a) (q - f) c)).run Tryz.prog w= .ok (.string (runesBytes (T.cut l f q))) w:=by
 have h:=zm8 (P:=Tryz.prog) (w:=w) (ao:=some a) (cap:=c) (zs:=T.cut l f q) 33 9 21 Tryz.underlying33 Tryz.underlying21 Tryz.underlying9 (fun h=>by cases h) (fun hne=>by
  have hlt:f<q:=by
   apply Classical.byContradiction;intro hn;exact hne (List.length_eq_zero_iff.1 (by rw[zd6 h1 h2];omega))
  exact⟨tb,f,by rw[ha hlt],fun j z hj=>C.rd _ _ (zg7 hj)⟩)
 rw[zd6 h1 h2] at h;exact h
theorem zug (w:World)(cb tb cap p:Nat)(ao:Option Addr)(l:List Int)(C:T.Cur w cb tb cap ao l p)(hu:T.see l p=117) :
  Calls Tryz.prog 282 #[.pointer (some ⟨cb,0,none⟩)] w (T.Ends w cb tb cap ao l (T.num l p) T.isRune):=by
 have hp:=C.inside (by rw[hu];decide);have hlen:=C.len;have c1:=C.cell1;have HC:Hid (T.Cur w cb tb cap ao l p):=C;clear C;obtain⟨o,HO⟩:∃o,Hid (T.num l p=o):=⟨_,rfl⟩;rw[HO.out]
 by_cases h1:T.see l (p+1)=123
 ·have hp1:=HC.out.len
  go_enter Tryz.func282,Tryz.ntmps282
  go_wp2_with fail
  refine(zay _ cb tb cap p ao l 117 (by decide) HC.out hu).mono ?_;rintro e w1 ⟨rfl,C1,g1⟩;have G1:Hid (w.grownBy w1 (some cb)):=g1;clear g1
  go_wp2_with fail
  refine(zay _ cb tb cap (p+1) ao l 123 (by decide) C1 h1).mono ?_;rintro e w2 ⟨rfl,C2,g2⟩;have G2:Hid (w.grownBy w2 (some cb)):=S.zaa G1.out g2;obtain⟨f,HF⟩:∃f,Hid (p+2=f):=⟨_,rfl⟩;have d1:w2.cell? ⟨cb,1,none⟩=some (.int .i64 (f:Int)):=by rw[<- HF.out];exact C2.cell1
  have HC2:Hid (T.Cur w2 cb tb cap ao l (p+2)):=C2;have hle2:=C2.le;clear C2 C1 G1 g2 c1;go_wp2
  go_loopw [21] (fun _ wr=>∃q:Nat,p+2<=q/\Hid (∀i,p+2<=i->i<q->T.hexd (T.see l i)=true)/\Hid (T.Cur wr cb tb cap ao l q)/\Hid (w.grownBy wr (some cb))) (fun _ wr=>l.length - T.pos wr cb)
  case atStart=>exact⟨p+2,qN,fun i h1 h2=>by omega,HC2,G2⟩
  case round =>
   obtain⟨q,hq,HA,HCq,HG⟩:=hrel;have HP:Hid _:=HCq.out.pos;have hql:=HCq.out.le
   go_wp2_with fail
   refine(zsh _ cb tb cap q ao l HCq.out).mono ?_;rintro e w3 ⟨rfl,b3⟩;have C3:=HCq.out.below b3;have c3:=C3.cell1;have c3t:=C3.cell0;have f3:=C3.frz1;have HC3:Hid (T.Cur w3 cb tb cap ao l q):=C3;have HG3:Hid (w.grownBy w3 (some cb)):=S.zaa HG.out (S.zad b3);clear C3
   by_cases hb:T.hexd (T.see l q)=true
   ·have hlt:q<l.length:=HCq.out.inside (by intro h;rw[h] at hb;revert hb;decide);go_wp2
    go_roundw
    case rel =>
     refine⟨q+1,by omega,fun i h1 h2=> ?_,HC3.out.set (q:=q+1) (by omega),S.zaa HG3.out (zcs _ _ _ _)⟩
     by_cases e:i=q
     ·rw[e];exact hb
     ·exact HA.out i h1 (by omega)
    case measure =>
     have h1:T.pos (w3.setCell ⟨cb,1,none⟩ (.int .i64 ((q:Int)+1))) cb=q+1:=(HC3.out.set (q:=q+1) (by omega)).pos;rw[h1,HP.out];omega
   ·have hb':T.hexd (T.see l q)=false:=by simpa using hb
    have HK:Hid (T.skipW T.hexd l (p+2)=q):=T.zb9 hq hql HA.out hb' (by decide);have hao:=HC3.out.txt (by intro h;subst h;simp at hp);subst hao;have hcp:=HC3.out.cp;have hfq:f<=q:=by have:=HF.out;omega
    have hz:=zkc (T.cut l f q) fun z hz=>by
     obtain⟨j,hj⟩:=List.getElem?_of_mem hz
     have hlj:j<q - f:=by
      have:=(qL.1 hj).1;rw[zd6 hfq hql] at this;exact this
     have h3:=T.zgn (zg7 hj);have h4:=HA.out (f+j) (by have:=HF.out;omega) (by omega);rw[h3] at h4;have:=zb5 h4;omega
    have HZ:Hid _:=hz;rw[zd6 hfq hql] at hz;have hsz:=hz.2.1;clear hz;have i1:(0:Int)<=(f:Int):=by omega
    have i2:(f:Int)<=(q:Int):=by omega
    have i3:(q:Int)<=(cap:Int):=by omega
    have HHex:Hid (∀b∈(runesBytes (T.cut l f q)).data.toList,T.hexd (b.toNat:Int)=true):=fun b hb=>by
     have h3:=HZ.out.2.2 b hb;obtain⟨j,hj⟩:=List.getElem?_of_mem h3
     have hlj:j<q - f:=by
      have:=(qL.1 hj).1;rw[zd6 hfq hql] at this;exact this
     have h5:=T.zgn (zg7 hj);have h4:=HA.out (f+j) (by have:=HF.out;omega) (by omega);rw[h5] at h4;exact h4
    by_cases hlt:f<q
    ·have hcf:¬cap=f:=by omega
     have hcv:∀n,(convert 33 9 (.slice (some ⟨tb,f,none⟩) (q - f) (cap - f))).run Tryz.prog (w3.drewN n)= .ok (.string (runesBytes (T.cut l f q))) (w3.drewN n):=fun n=>(HC3.out.drewN n).text hfq hql _ (fun _=>rfl) _
     generalize runesBytes (T.cut l f q)=str at hcv hsz HHex HZ;go_wp2
     go_quiet (fail)
     have C4:=HC3.out.drewN nq;have HG4:Hid (w.grownBy (w3.drewN nq) (some cb)):=S.zaa HG3.out (zbx _ _ _);clear hcv;generalize w3.drewN nq=w4 at C4 HG4;have HC4:Hid (T.Cur w4 cb tb cap (some ⟨tb,0,none⟩) l q):=C4;clear C4;have hk1:¬str.size<1:=by omega
     by_cases h6:6<str.size
     ·go_wp2_with (go_at_call 60;refine(zaq _ 2 f).mono ?_;unfold T.thrown;rintro e w5 ⟨rfl,rfl⟩)
      refine⟨rfl,?_⟩;rw[<- HO.out];unfold T.num;rw[HK.out,HF.out,if_neg (by simp[h1]),if_pos (.inr (by omega))];exact⟨rfl,HG4.out⟩
     ·by_cases h125:T.see l q=125
      ·go_wp2_with fail
       refine(zay _ cb tb cap q _ l 125 (by decide) HC4.out h125).mono ?_;rintro e w5 ⟨rfl,C5,g5⟩;have HC5:Hid (T.Cur w5 cb tb cap (some ⟨tb,0,none⟩) l (q+1)):=C5;have HG5:Hid (w.grownBy w5 (some cb)):=S.zaa HG4.out g5;clear C5 g5
       go_wp2_with fail
       refine(zo2 str _ (by omega) (by omega) HHex.out).mono ?_;have hn:=zf7 str (by omega) HHex.out;rw[HZ.out.1] at hn ⊢;obtain⟨n,HN⟩:∃n,Hid (T.hexN (T.cut l f q)=n):=⟨_,rfl⟩;rw[HN.out] at hn ⊢;rintro e w6 ⟨rfl,b6⟩;have HC6:Hid (T.Cur w6 cb tb cap (some ⟨tb,0,none⟩) l (q+1)):=HC5.out.below b6;have HG6:Hid (w.grownBy w6 (some cb)):=S.zaa HG5.out (S.zad b6);clear b6
       by_cases hbig:1114111<n
       ·go_wp2_with (go_at_call 60;refine(zaq _ 3 p).mono ?_;unfold T.thrown;rintro e w7 ⟨rfl,rfl⟩)
        refine⟨rfl,?_⟩;rw[<- HO.out];unfold T.num;rw[HK.out,HF.out,HN.out,if_neg (by simp[h1]),if_neg (by omega),if_neg (by simp[h125]),if_pos hbig];exact⟨rfl,HG6.out⟩
       ·have hn0:=hn.1;have hn1:=hn.2;go_wp2;go_ret;rw[<- HO.out];unfold T.num;rw[HK.out,HF.out,HN.out,if_neg (by simp[h1]),if_neg (by omega),if_neg (by simp[h125]),if_neg (by omega)];exact⟨_,rfl,rfl,HC6.out,HG6.out⟩
      ·go_wp2_with fail
       refine(zbs _ cb tb cap q _ l 125 (by decide) HC4.out h125).mono ?_;unfold T.thrown;rintro e w5 ⟨rfl,g5⟩;go_wp2;refine⟨rfl,?_⟩;rw[<- HO.out];unfold T.num;rw[HK.out,HF.out,if_neg (by simp[h1]),if_neg (by omega),if_pos h125];exact⟨rfl,S.zaa HG4.out g5⟩
    ·have hqf:q=f:=by omega
     subst hqf
     have hcv:∀a c n,(convert 33 9 (.slice (some a) 0 c)).run Tryz.prog (w3.drewN n)= .ok (.string (runesBytes (T.cut l q q))) (w3.drewN n):=fun a c n=>by
      have:=(HC3.out.drewN n).text hfq hql a (fun h=>absurd h (Nat.lt_irrefl _)) c;rw[Nat.sub_self] at this;exact this
     rw[Nat.sub_self] at hsz;generalize runesBytes (T.cut l q q)=str at hcv hsz HHex HZ
     by_cases hcf:cap=q
     all_goals go_wp2
     all_goals go_quiet (fail)
     all_goals have HG4:Hid (w.grownBy (w3.drewN nq) (some cb)):=S.zaa HG3.out (zbx _ _ _)
     all_goals clear hcv
     all_goals generalize w3.drewN nq=w4 at HG4
     all_goals have hk1:str.size<1:=by omega
     all_goals go_wp2_with (go_at_call 60;refine(zaq _ 2 q).mono ?_;unfold T.thrown;rintro e w5 ⟨rfl,rfl⟩)
     all_goals refine⟨rfl,?_⟩
     all_goals rw[<- HO.out]
     all_goals unfold T.num
     all_goals rw[HK.out,HF.out,if_neg (by simp[h1]),if_pos (.inl (by omega))]
     all_goals exact⟨rfl,HG4.out⟩
 ·go_enter Tryz.func282,Tryz.ntmps282
  go_wp2_with fail
  refine(zay _ cb tb cap p ao l 117 (by decide) HC.out hu).mono ?_;rintro e w1 ⟨rfl,C1,g1⟩
  go_wp2_with fail
  refine(zbs _ cb tb cap (p+1) ao l 123 (by decide) C1 h1).mono ?_;unfold T.thrown;rintro e w2 ⟨rfl,g2⟩;go_wp2;refine⟨rfl,?_⟩;rw[<- HO.out];unfold T.num;rw[if_pos h1];exact⟨rfl,S.zaa g1 g2⟩
end Go.Proofs.YtamfgmaipajodaaGreatDoor
namespace Go.Proofs.YtamfgmaipajodaaGreatDoor
open Go.RowKit
theorem zqr (r:Int)(w:World) :
  Calls Tryz.prog 283 #[.int .i32 r] w fun e w'=>e= .returned (.bool (T.alnum r))/\w'=w:=by
 go_enter Tryz.func283,Tryz.ntmps283
 go_wp2
 all_goals go_ret
 all_goals refine⟨L.zak ?_,rfl⟩
 all_goals (unfold T.alnum;rw[Bool.eq_iff_iff];simp;try omega)
end Go.Proofs.YtamfgmaipajodaaGreatDoor
namespace Go.Proofs.YtamfgmaipajodaaGreatDoor
open Go.RowKit
theorem zex (r:Int)(w:World) :
  Calls Tryz.prog 120 #[.int .i32 r] w fun e w'=>e= .returned (.bool (M.right r))/\w'=w:=by
 go_enter Tryz.func120,Tryz.ntmps120
 go_wp2
 all_goals go_ret
 all_goals refine⟨L.zak ?_,rfl⟩
 all_goals (unfold M.right;rw[Bool.eq_iff_iff];simp;try omega)
end Go.Proofs.YtamfgmaipajodaaGreatDoor
namespace Go.Proofs.YtamfgmaipajodaaGreatDoor
open Go.RowKit
theorem zu0 (w:World)(cb tb cap p:Nat)(ao:Option Addr)(l:List Int)(C:T.Cur w cb tb cap ao l p) :
  Calls Tryz.prog 277 #[.pointer (some ⟨cb,0,none⟩)] w (T.Ends w cb tb cap ao l (T.esc l p) T.isRune):=by
 have hlen:=C.len;have HC:Hid (T.Cur w cb tb cap ao l p):=C;clear C;obtain⟨o,HO⟩:∃o,Hid (T.esc l p=o):=⟨_,rfl⟩;rw[HO.out]
 go_enter Tryz.func277,Tryz.ntmps277
 go_wp2_with fail
 refine(zbn _ cb tb cap p ao l 117 HC.out).mono ?_;rintro e w1 ⟨rfl,b1⟩;have HC1:Hid (T.Cur w1 cb tb cap ao l p):=HC.out.below b1;have HG1:Hid (w.grownBy w1 (some cb)):=S.zad b1;clear b1
 by_cases h1:T.see l p=117
 ·go_wp2_with fail
  refine(zug _ cb tb cap p ao l HC1.out h1).mono ?_;intro e w2 h;have ho:T.num l p=o:=by rw[<- HO.out];unfold T.esc;rw[if_pos h1]
  rw[ho] at h;cases o with
  | ok a q =>
   obtain⟨v,rfl,rfl,C2,g2⟩:=h;go_wp2;go_ret;exact⟨_,rfl,rfl,C2,S.zaa HG1.out g2⟩
  | bad er q =>
   obtain⟨rfl,g2⟩:=h;unfold T.thrown;go_wp2;exact⟨rfl,rfl,S.zaa HG1.out g2⟩
 ·go_wp2_with fail
  refine(zan _ cb tb cap p ao l 110 (by decide) HC1.out).mono ?_;rintro e w2 ⟨rfl,C2,g2⟩;have HG2:Hid (w.grownBy w2 (some cb)):=S.zaa HG1.out g2;clear g2
  by_cases h2:T.see l p=110
  ·rw[if_pos h2] at C2;go_wp2;go_ret;rw[<- HO.out];unfold T.esc;rw[if_neg h1,if_pos h2];exact⟨_,rfl,rfl,C2,HG2.out⟩
  ·rw[if_neg h2] at C2;have HC2:Hid (T.Cur w2 cb tb cap ao l p):=C2;clear C2
   go_wp2_with fail
   refine(zan _ cb tb cap p ao l 116 (by decide) HC2.out).mono ?_;rintro e w3 ⟨rfl,C3,g3⟩;have HG3:Hid (w.grownBy w3 (some cb)):=S.zaa HG2.out g3;clear g3
   by_cases h3:T.see l p=116
   ·rw[if_pos h3] at C3;go_wp2;go_ret;rw[<- HO.out];unfold T.esc;rw[if_neg h1,if_neg h2,if_pos h3];exact⟨_,rfl,rfl,C3,HG3.out⟩
   ·rw[if_neg h3] at C3;have HC3:Hid (T.Cur w3 cb tb cap ao l p):=C3;clear C3
    go_wp2_with fail
    refine(zdr _ cb tb cap p ao l HC3.out).mono ?_;rintro e w4 ⟨rfl,b4⟩;have C4:=HC3.out.below b4;have c4:=C4.cell1;have HC4:Hid (T.Cur w4 cb tb cap ao l p):=C4;have HG4:Hid (w.grownBy w4 (some cb)):=S.zaa HG3.out (S.zad b4);clear b4 C4
    by_cases h4:T.see l p= -1
    ·go_wp2_with (go_at_call 60;refine(zaq _ 2 p).mono ?_;unfold T.thrown;rintro e w5 ⟨rfl,rfl⟩)
     refine⟨rfl,?_⟩;rw[<- HO.out];unfold T.esc;rw[if_neg h1,if_neg h2,if_neg h3,if_pos (.inl h4)];exact⟨rfl,HG4.out⟩
    ·go_wp2_with fail
     refine(za3 _ cb tb cap p 0 ao l HC4.out (by omega)).mono ?_;rintro e w5 ⟨rfl,b5⟩;rw[Nat.add_zero];have C5:=HC4.out.below b5;have c5:=C5.cell1;have HC5:Hid (T.Cur w5 cb tb cap ao l p):=C5;have HG5:Hid (w.grownBy w5 (some cb)):=S.zaa HG4.out (S.zad b5);clear b5 C5 c4
     go_wp2_with fail
     refine(zqr _ _).mono ?_;rintro e w6 ⟨rfl,rfl⟩
     by_cases h5:T.alnum (T.see l p)=true
     ·go_wp2_with (go_at_call 60;refine(zaq _ 2 p).mono ?_;unfold T.thrown;rintro e w7 ⟨rfl,rfl⟩)
      refine⟨rfl,?_⟩;rw[<- HO.out];unfold T.esc;rw[if_neg h1,if_neg h2,if_neg h3,if_pos (.inr h5)];exact⟨rfl,HG5.out⟩
     ·go_wp2_with fail
      refine(zgk _ cb tb cap p ao l HC5.out (HC5.out.inside h4)).mono ?_;rintro e w7 ⟨rfl,C7,g7⟩;go_wp2;go_ret;rw[<- HO.out];unfold T.esc;rw[if_neg h1,if_neg h2,if_neg h3,if_neg (by simp[h4,h5])];exact⟨_,rfl,rfl,C7,S.zaa HG5.out g7⟩
theorem zj7 (w:World)(cb tb cap p:Nat)(ao:Option Addr)(l:List Int)(C:T.Cur w cb tb cap ao l p) :
  Calls Tryz.prog 261 #[.pointer (some ⟨cb,0,none⟩)] w (T.Ends w cb tb cap ao l (T.chr l p) T.isRune):=by
 have hlen:=C.len;have HC:Hid (T.Cur w cb tb cap ao l p):=C;clear C;obtain⟨o,HO⟩:∃o,Hid (T.chr l p=o):=⟨_,rfl⟩;rw[HO.out]
 go_enter Tryz.func261,Tryz.ntmps261
 go_wp2_with fail
 refine(zan _ cb tb cap p ao l 92 (by decide) HC.out).mono ?_;rintro e w1 ⟨rfl,C1,g1⟩;have HG1:Hid (w.grownBy w1 (some cb)):=g1;clear g1
 by_cases h1:T.see l p=92
 ·rw[if_pos h1] at C1
  go_wp2_with fail
  refine(zu0 _ cb tb cap (p+1) ao l C1).mono ?_;intro e w2 h;have ho:T.esc l (p+1)=o:=by rw[<- HO.out];unfold T.chr;rw[if_pos h1]
  rw[ho] at h;cases o with
  | ok a q =>
   obtain⟨v,rfl,rfl,C2,g2⟩:=h;go_wp2;go_ret;exact⟨_,rfl,rfl,C2,S.zaa HG1.out g2⟩
  | bad er q =>
   obtain⟨rfl,g2⟩:=h;unfold T.thrown;go_wp2;exact⟨rfl,rfl,S.zaa HG1.out g2⟩
 ·rw[if_neg h1] at C1
  go_wp2_with fail
  refine(zgt _ cb tb cap p ao l C1).mono ?_;rintro e w2 ⟨rfl,b2⟩;have C2:=C1.below b2;have c2:=C2.cell1;have HC2:Hid (T.Cur w2 cb tb cap ao l p):=C2;have HG2:Hid (w.grownBy w2 (some cb)):=S.zaa HG1.out (S.zad b2);clear C1 C2 b2
  by_cases h2:T.ordy (T.see l p)=true
  ·go_wp2_with fail
   refine(zgk _ cb tb cap p ao l HC2.out (HC2.out.inside (by intro h;rw[h] at h2;revert h2;decide))).mono ?_;rintro e w3 ⟨rfl,C3,g3⟩;go_wp2;go_ret;rw[<- HO.out];unfold T.chr;rw[if_neg h1,if_pos h2];exact⟨_,rfl,rfl,C3,S.zaa HG2.out g3⟩
  ·go_wp2_with (go_at_call 60;refine(zaq _ 2 p).mono ?_;unfold T.thrown;rintro e w3 ⟨rfl,rfl⟩)
   refine⟨rfl,?_⟩;rw[<- HO.out];unfold T.chr;rw[if_neg h1,if_neg h2];exact⟨rfl,HG2.out⟩
theorem zgs {fn:Func}{p:Tmp}(h:fn.results=#[.cell p 100])(tmps:Array Value)(w:World)(g:Nat)(y1 y2:Int)(hg:w.heap[g]?=some (.cells #[.int .i32 y1,.int .i32 y2] 100))
  (hp:tmps.getD p undef= .pointer (some ⟨g,0,none⟩)):(results fn tmps).run Tryz.prog w= .ok (.agg #[.int .i32 y1,.int .i32 y2]) w:=by
 have hl:=run_loadVar_row (P:=Tryz.prog) w g 100 100 #[.int .i32 y1,.int .i32 y2] (0,0) _ hg Tryz.underlying100 rfl (by kernel_rfl)
 have e:(results fn tmps).run Tryz.prog w=((asAddr (tmps.getD p undef)).run Tryz.prog w).andThen fun a w₁ => (loadVar 100 a).run Tryz.prog w₁ := by
  simp only[results,h];simp[Sem.run_bind,Result.andThen]
 rw[e,hp];simp[asAddr,Result.andThen,hl]
theorem zbg (r:Int)(w:World) :
  Calls Tryz.prog 262 #[.int .i32 r] w fun e w'=>e= .returned (.agg #[.int .i32 r,.int .i32 r])/\Below w.heap.size w w':=by
 go_enter Tryz.func262,Tryz.ntmps262
 go_wp2;refine bodyPost_ret (zgs rfl _ _ w.heap.size r r (heap_alloc_new w _) rfl) rfl ?_
 exact⟨rfl,(qR w).alloc qN _⟩
theorem zdf (w:World)(g:Nat)(a b y1 y2:Value)(t:TypeId)(hg:w.heap[g]?=some (.cells #[a,b] t)):((w.setCell ⟨g,0,none⟩ y1).setCell ⟨g,1,none⟩ y2).heap[g]?=some (.cells #[y1,y2] t):=by
 have h1:=heap_setCell_same w g 0 #[a,b] t y1 hg;have h2:=heap_setCell_same _ g 1 _ t y2 h1;exact h2
theorem zb7 {w:World}{g:Nat}{a b:Value}{t:TypeId}(hg:w.heap[g]?=some (.cells #[a,b] t)):w.cell? ⟨g,0,none⟩=some a/\w.cell? ⟨g,1,none⟩=some b/\w.frozen? ⟨g,0,none⟩=false/\w.frozen? ⟨g,1,none⟩=false:=by
 refine⟨?_,?_,?_,?_⟩
 ·rw[World.cell?];simp[hg]
 ·rw[World.cell?];simp[hg]
 ·rw[World.frozen?];simp[hg]
 ·rw[World.frozen?];simp[hg]
theorem zp8 {w w1:World}{g cb:Nat}(y1 y2:Value)(h:w.grownBy w1 (some cb))(hg:w.heap.size<=g):w.grownBy ((w1.setCell ⟨g,0,none⟩ y1).setCell ⟨g,1,none⟩ y2) (some cb):=by
 refine⟨h.os,h.tape,h.output,by simpa using h.size,fun k hk hne=> ?_⟩;rw[heap_setCell_other _ ⟨g,1,none⟩ k _ (fun e=>by simp at e;omega),heap_setCell_other _ ⟨g,0,none⟩ k _ (fun e=>by simp at e;omega)];exact h.block k hk hne
theorem T.Cur.two {w:World}{cb tb cap p:Nat}{ao:Option Addr}{l:List Int}(C:T.Cur w cb tb cap ao l p){g:Nat}(y1 y2:Value)(hne:g≠cb)(ht:l≠ []->g≠tb):T.Cur ((w.setCell ⟨g,0,none⟩ y1).setCell ⟨g,1,none⟩ y2) cb tb cap ao l p:=by
 refine⟨?_,C.txt,fun j z hj=> ?_,C.ne,C.le,C.len,C.cp,C.rt⟩
 ·obtain⟨t,hb⟩:=C.blk;exact⟨t,by rw[heap_setCell_other _ ⟨g,1,none⟩ cb _ (Ne.symm hne),heap_setCell_other _ ⟨g,0,none⟩ cb _ (Ne.symm hne)];exact hb⟩
 ·have hn:g≠tb:=ht (by intro h;subst h;simp at hj);rw[World.cell?_setCell_other _ _ _ _ (fun e=>hn (congrArg Addr.block e)),World.cell?_setCell_other _ _ _ _ (fun e=>hn (congrArg Addr.block e))];exact C.rd j z hj
theorem T.Cur.zn3 {w:World}{cb tb cap p:Nat}{ao:Option Addr}{l:List Int}(C:T.Cur w cb tb cap ao l p)(h:l≠ []):tb<w.heap.size:=by
 cases l with
 | nil=>exact absurd rfl h
 | cons z l=>exact L.block_lt (C.rd 0 z rfl)
def T.isSpan (x:S.Sp) (v:Value) (_:World):Prop:=v= .agg #[.int .i32 x.1,.int .i32 x.2]
theorem zrf (w:World)(cb tb cap p:Nat)(ao:Option Addr)(l:List Int)(C:T.Cur w cb tb cap ao l p) :
  Calls Tryz.prog 241 #[.pointer (some ⟨cb,0,none⟩)] w (T.Ends w cb tb cap ao l (T.span l p) T.isSpan):=by
 have hlen:=C.len;have HC:Hid (T.Cur w cb tb cap ao l p):=C;clear C;obtain⟨o,HO⟩:∃o,Hid (T.span l p=o):=⟨_,rfl⟩;rw[HO.out]
 go_enter Tryz.func241,Tryz.ntmps241
 go_wp2_with fail
 have bW:=(qR w).alloc qN (.cells #[.int .i32 0,.int .i32 0] 100);have hxW:(w.alloc (.cells #[.int .i32 0,.int .i32 0] 100)).heap[w.heap.size]?=some (.cells #[.int .i32 0,.int .i32 0] 100):=heap_alloc_new w _;have CW:=HC.out.below bW;have GW:w.grownBy _ (some cb):=S.zad bW;have HNe:Hid (w.heap.size≠cb):=by have:=HC.out.lt;show _≠_;omega
 have HNt:Hid (l≠ []->w.heap.size≠tb):=fun h=>by have:=HC.out.zn3 h;omega
 refine(zj7 _ cb tb cap p ao l CW).mono ?_;generalize w.alloc (.cells #[.int .i32 0,.int .i32 0] 100)=W0 at bW hxW CW GW;clear bW CW;intro e w1 h;cases hc:T.chr l p with
 | bad er q =>
  rw[hc] at h;obtain⟨rfl,g1⟩:=h;unfold T.thrown;go_wp2;refine⟨rfl,?_⟩;rw[<- HO.out];unfold T.span;rw[hc];exact⟨rfl,S.zaa GW g1⟩
 | ok lo q =>
  rw[hc] at h;obtain⟨v,rfl,rfl,C1,g1⟩:=h
  have HX1:Hid (w1.heap[w.heap.size]?=some (.cells #[.int .i32 0,.int .i32 0] 100)):=by
   show _=_;rw[g1.block _ (qA.1 hxW).1 (by simpa using HNe.out)];exact hxW
  have HG1:Hid (w.grownBy w1 (some cb)):=S.zaa GW g1;have HHc:Hid _:=hc;clear hc g1 GW hxW
  go_wp2_with fail
  refine(zbn _ cb tb cap q ao l 45 C1).mono ?_;rintro e w2 ⟨rfl,b2⟩;have C2:=C1.below b2
  have HX2:Hid (w2.heap[w.heap.size]?=some (.cells #[.int .i32 0,.int .i32 0] 100)):=by
   show _=_;rw[b2.block _ (qA.1 HX1.out).1];exact HX1.out
  have HG2:Hid (w.grownBy w2 (some cb)):=S.zaa HG1.out (S.zad b2);clear C1 b2 HX1 HG1;have HC2:Hid (T.Cur w2 cb tb cap ao l q):=C2;clear C2
  by_cases h1:T.see l q=45
  ·go_wp2_with fail
   refine(za3 _ cb tb cap q 1 ao l HC2.out (by omega)).mono ?_;rintro e w3 ⟨rfl,b3⟩;have C3:=HC2.out.below b3
   have HX3:Hid (w3.heap[w.heap.size]?=some (.cells #[.int .i32 0,.int .i32 0] 100)):=by
    show _=_;rw[b3.block _ (qA.1 HX2.out).1];exact HX2.out
   have HG3:Hid (w.grownBy w3 (some cb)):=S.zaa HG2.out (S.zad b3);clear b3 HX2 HG2;have HC3:Hid (T.Cur w3 cb tb cap ao l q):=C3;clear C3
   by_cases h2:T.see l (q+1)=91
   ·go_wp2_with fail
    refine(zbg lo _).mono ?_;rintro e w4 ⟨rfl,b4⟩;have C4:=HC3.out.below b4;have HX4:w4.heap[w.heap.size]?=some (.cells #[.int .i32 0,.int .i32 0] 100):=by rw[b4.block _ (qA.1 HX3.out).1];exact HX3.out
    obtain⟨x0,x1,y0,y1⟩:=zb7 HX4;have HG4:Hid (w.grownBy w4 (some cb)):=S.zaa HG3.out (S.zad b4);have HX4':Hid _:=HX4;have HC4:Hid (T.Cur w4 cb tb cap ao l q):=C4;clear b4 C4 HX4;go_wp2;refine bodyPost_ret (zgs rfl _ _ w.heap.size lo lo (zdf w4 w.heap.size _ _ _ _ 100 HX4'.out) rfl) rfl ?_;rw[<- HO.out];unfold T.span;rw[HHc.out];simp only;rw[if_pos (.inr h2)];exact⟨_,rfl,rfl,HC4.out.two _ _ HNe.out HNt.out,zp8 _ _ HG4.out qN⟩
   ·go_wp2_with fail
    refine(zay _ cb tb cap q ao l 45 (by decide) HC3.out h1).mono ?_;rintro e w4 ⟨rfl,C4,g4⟩
    have HX4:Hid (w4.heap[w.heap.size]?=some (.cells #[.int .i32 0,.int .i32 0] 100)):=by
     show _=_;rw[g4.block _ (qA.1 HX3.out).1 (by simpa using HNe.out)];exact HX3.out
    have HG4:Hid (w.grownBy w4 (some cb)):=S.zaa HG3.out g4;have c4:=C4.cell1;have HC4:Hid (T.Cur w4 cb tb cap ao l (q+1)):=C4;clear g4 C4 HX3 HG3 HC3;have hq4:=HC4.out.le
    go_wp2_with fail
    refine(zj7 _ cb tb cap (q+1) ao l HC4.out).mono ?_;intro e w5 h;cases hc:T.chr l (q+1) with
    | bad er r =>
     rw[hc] at h;obtain⟨rfl,g5⟩:=h;unfold T.thrown;go_wp2;refine⟨rfl,?_⟩;rw[<- HO.out];unfold T.span;rw[HHc.out];simp only;rw[if_neg (by simp[h1,h2]),hc];exact⟨rfl,S.zaa HG4.out g5⟩
    | ok hi r =>
     rw[hc] at h;obtain⟨v,rfl,rfl,C5,g5⟩:=h
     have HX5:w5.heap[w.heap.size]?=some (.cells #[.int .i32 0,.int .i32 0] 100):=by
      rw[g5.block _ (qA.1 HX4.out).1 (by simpa using HNe.out)];exact HX4.out
     obtain⟨x0,x1,y0,y1⟩:=zb7 HX5;have HG5:Hid (w.grownBy w5 (some cb)):=S.zaa HG4.out g5;have HX5':Hid _:=HX5;have HC5:Hid (T.Cur w5 cb tb cap ao l r):=C5;have HHd:Hid _:=hc;clear g5 C5 HX5 hc
     by_cases hlt:hi<lo
     ·go_wp2_with (go_at_call 60;refine(zaq _ 3 (q+1)).mono ?_;unfold T.thrown;rintro e w6 ⟨rfl,rfl⟩)
      refine⟨rfl,?_⟩;rw[<- HO.out];unfold T.span;rw[HHc.out];simp only;rw[if_neg (by simp[h1,h2]),HHd.out];simp only;rw[if_pos hlt];exact⟨rfl,HG5.out⟩
     ·go_wp2;refine bodyPost_ret (zgs rfl _ _ w.heap.size lo hi (zdf w5 w.heap.size _ _ _ _ 100 HX5'.out) rfl) rfl ?_
      rw[<- HO.out];unfold T.span;rw[HHc.out];simp only;rw[if_neg (by simp[h1,h2]),HHd.out];simp only;rw[if_neg (by omega)];exact⟨_,rfl,rfl,HC5.out.two _ _ HNe.out HNt.out,zp8 _ _ HG5.out qN⟩
  ·go_wp2_with fail
   refine(zbg lo _).mono ?_;rintro e w4 ⟨rfl,b4⟩;have C4:=HC2.out.below b4;have HX4:w4.heap[w.heap.size]?=some (.cells #[.int .i32 0,.int .i32 0] 100):=by rw[b4.block _ (qA.1 HX2.out).1];exact HX2.out
   obtain⟨x0,x1,y0,y1⟩:=zb7 HX4;have HG4:Hid (w.grownBy w4 (some cb)):=S.zaa HG2.out (S.zad b4);have HX4':Hid _:=HX4;have HC4:Hid (T.Cur w4 cb tb cap ao l q):=C4;clear b4 C4 HX4;go_wp2;refine bodyPost_ret (zgs rfl _ _ w.heap.size lo lo (zdf w4 w.heap.size _ _ _ _ 100 HX4'.out) rfl) rfl ?_;rw[<- HO.out];unfold T.span;rw[HHc.out];simp only;rw[if_pos (.inl h1)];exact⟨_,rfl,rfl,HC4.out.two _ _ HNe.out HNt.out,zp8 _ _ HG4.out qN⟩
end Go.Proofs.YtamfgmaipajodaaGreatDoor
namespace Go.Proofs.YtamfgmaipajodaaGreatDoor
open Go.RowKit
set_option maxRecDepth 20000
theorem zaj (W:World)(b:Nat)(v:Value):W.grownBy (W.setCell ⟨b,0,none⟩ v) (some b):=⟨rfl,rfl,rfl,by simp,fun k _ hk=>heap_setCell_other W ⟨b,0,none⟩ k v (fun e=>hk (by simp[e]))⟩
theorem zem (W:World)(bn bs:Nat)(v:Value)(l:List S.Sp)(j:Nat)(r:Int)(hne:bn≠bs)(hv:l≠ []->v.ownBlock≠some bn)(R:S.Rd W v l)(N:S.Nf 0 l)(hj:j<=l.length)(hl:l.length<=200)
  (X:S.Bx W bn 3 (.int .i64 j)) (Y:S.Bx W bs 24 v) (hp:S.Past l j r) (h1:r<=1114111) :
  Calls Tryz.prog 279 #[.int .i32 r,.pointer (some ⟨bn,0,none⟩),.pointer (some ⟨bs,0,none⟩)] W fun e w' =>
   ∃(last:Int) (j':Nat),e= .returned (.tuple #[.bool (S.memb l r),.int .i32 last])/\r<=last/\last<=1114111/\(∀q,r<=q->q<=last->S.memb l q=S.memb l r)/\j'<=l.length/\S.Bx w' bn 3 (.int .i64 j')/\S.Past l j' r/\W.grownBy w' (some bn):=by
 obtain⟨ao,cap,rfl,hn,hc⟩:=R;have HC:Hid _:=hc;have HX:Hid (S.Bx W bn 3 (.int .i64 j)):=X;have HY:Hid (S.Bx W bs 24 (.slice ao l.length cap)):=Y;clear hc X Y
 go_enter Tryz.func279,Tryz.ntmps279
 go_wp2
 go_loopw [] (fun wr=>∃k:Nat,k<=l.length/\Hid (S.Bx wr bn 3 (.int .i64 k))/\Hid (S.Past l k r)/\Hid (W.grownBy wr (some bn))) (fun wr=>l.length - S.num wr bn)
 case atStart=>exact⟨j,hj,HX,hp,S.zav _ _⟩
 case round =>
  obtain⟨k,hk,HB,HP,HG⟩:=hrel;have e1:=HB.out.cell;have e2:=HB.out.free;have e3:=(HY.out.grown HG.out (by simp;omega)).cell;have hnum:=HB.out.num
  by_cases hlt:k<l.length
  ·obtain⟨b,off,rfl,hcell⟩:=HC.out (by intro h;subst h;simp at hlt);obtain⟨x,hx⟩:∃x,l[k]?=some x:=⟨l[k],by simp[hlt]⟩;have hb:b≠bn:=fun e=>hv (by intro h;subst h;simp at hlt) (by simp[Value.ownBlock,e])
   have cc:∀o u,W.cell? ⟨b,o,none⟩=some u->wr.cell? ⟨b,o,none⟩=some u:=fun o u hu=>by
    rw[World.cell?_of_block (a:=⟨b,o,none⟩) (HG.out.block b (L.block_lt hu) (by simpa using hb))];exact hu
   have c1:=cc _ _ (hcell k x hx).1;have c2:=cc _ _ (hcell k x hx).2;have hm:=N.mem (List.mem_of_getElem? hx);have HX:Hid (l[k]?=some x):=hx;obtain⟨x1,x2⟩:=x;simp only at c1 c2 hm;clear hcell hx cc
   by_cases hlow:x2<r
   ·have HB2:Hid (S.Bx (wr.setCell ⟨bn,0,none⟩ (.int .i64 ((k:Int)+1))) bn 3 (.int .i64 (k+1:Nat))):=HB.out.set _;have HG2:Hid (W.grownBy (wr.setCell ⟨bn,0,none⟩ (.int .i64 ((k:Int)+1))) (some bn)):=S.zaa HG.out (zaj _ _ _);go_wp2
    go_roundw
    case rel=>exact⟨k+1,by omega,HB2,HP.out.step HX.out hlow,HG2⟩
    case measure=>rw[HB2.out.num,hnum];omega
   ·by_cases hr:r<x1
    ·have HM:Hid (S.memb l r=false):=S.zju N HP.out HX.out (Int.le_refl _) hr;go_wp2
     go_quiet (fail)
     go_wp2
     go_ret2
     refine⟨x1 - 1,k,by rw[HM.out];rfl,by omega,by omega,fun q h2 h3=> ?_,hk,HB.out,HP.out,S.zaa HG.out (S.zad (below_drewN (qR _) _))⟩;rw[HM.out];exact S.zju N HP.out HX.out h2 (by simp only;omega)
    ·have HM:Hid (S.memb l r=true):=S.za6.2 ⟨_,List.mem_of_getElem? HX.out,by simp only;omega,by simp only;omega⟩;go_wp2
     go_quiet (fail)
     go_wp2
     go_ret2
     refine⟨x2,k,by rw[HM.out];rfl,by omega,by omega,fun q h2 h3=> ?_,hk,HB.out,HP.out,S.zaa HG.out (S.zad (below_drewN (qR _) _))⟩;rw[HM.out];exact S.za6.2 ⟨_,List.mem_of_getElem? HX.out,by simp only;omega,by simp only;omega⟩
  ·have HM:Hid (∀q,r<=q->S.memb l q=false):=fun q hq=>S.zqg (by omega) HP.out hq
   have hkl:(k:Int)=l.length:=by omega
   go_wp2
   go_ret2
   refine⟨1114111,k,by rw[HM.out r (Int.le_refl _)];rfl,by omega,by omega,fun q h2 h3=> ?_,hk,HB.out,HP.out,HG.out⟩;rw[HM.out q h2,HM.out r (Int.le_refl _)]
theorem zdg (w:World)(ao:Option Addr)(n c:Nat) :
  Calls Tryz.prog 264 #[.slice ao n c] w fun e w'=>e= .returned (.func (.func 279) #[] #[.pointer (some ⟨w.heap.size+1,0,none⟩),.pointer (some ⟨w.heap.size,0,none⟩)])/\Below w.heap.size w w'/\w'.heap.size=w.heap.size+2/\S.Bx w' (w.heap.size+1) 3 (.int .i64 0)/\S.Bx w' w.heap.size 24 (.slice ao n c):=by
 go_enter Tryz.func264,Tryz.ntmps264
 go_wp2;go_ret
 have h1:Below w.heap.size w (w.alloc (.cells #[.slice ao n c] 24)):=(qR w).alloc qN _;refine⟨rfl,h1.alloc (by simp) _,by simp,?_,?_⟩
 ·have:=S.Bx.new (w.alloc (.cells #[.slice ao n c] 24)) 3 (.int .i64 0);simpa using this
 ·exact(S.Bx.new w 24 (.slice ao n c)).below (B:=w.heap.size+1) ((qR _).alloc (by simp) _) (by omega)
theorem zqm (w:World)(b:Nat)(e1 e2:Int)(c1:w.cell? ⟨b,0,none⟩=some (.int .i64 e1))(c2:w.cell? ⟨b,1,none⟩=some (.int .i64 e2)) :
  Calls Tryz.prog 263 #[.slice (some ⟨b,0,none⟩) 2 2] w fun e w'=>e= .returned (.int .i64 (if e1≠0 then e1 else e2))/\w'=w:=by
 by_cases h1:e1=0
 ·subst h1;simp only[ne_eq,not_true_eq_false,if_false]
  by_cases h2:e2=0
  ·subst h2
   go_enter Tryz.func263,Tryz.ntmps263
   go_wp2;refine wp_loop_rounds 3 ?_
   rw[rounds_succ];go_wp2;rw[rounds_succ];go_wp2;rw[rounds_succ];go_wp2;go_ret;exact⟨rfl,rfl⟩
  ·go_enter Tryz.func263,Tryz.ntmps263
   go_wp2;refine wp_loop_rounds 3 ?_
   rw[rounds_succ];go_wp2;rw[rounds_succ];go_wp2;go_ret;exact⟨rfl,rfl⟩
 ·rw[if_pos h1]
  go_enter Tryz.func263,Tryz.ntmps263
  go_wp2;refine wp_loop_rounds 3 ?_
  rw[rounds_succ];go_wp2;go_ret;exact⟨rfl,rfl⟩
end Go.Proofs.YtamfgmaipajodaaGreatDoor
