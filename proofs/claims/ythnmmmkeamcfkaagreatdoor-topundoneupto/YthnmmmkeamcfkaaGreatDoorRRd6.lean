import Derived.Test.YthnmmmkeamcfkaaGreatDoorRRd2
import Derived.RegionDies
import Derived.BigRegion
import Derived.Deep.Cut
set_option maxHeartbeats 0
set_option maxRecDepth 20000
set_option linter.unusedSimpArgs false
namespace Go.Proofs.YthnmmmkeamcfkaaGreatDoor
open Go.Proofs.Tryz
section
open Go.RowKit
theorem R.zd1 {w0 w9 w':World}{cb:Nat}{X:Option Nat}(h:w0.grownBy w9 (some cb))(hp:w9.grownBy w' X)(hg:∀g,X=some g->w0.heap.size<=g):w0.grownBy w' (some cb) :=
 ⟨hp.os.trans h.os,hp.tape.trans h.tape,hp.output.trans h.output,Nat.le_trans h.size hp.size,fun k hk hne=>by
  rw[hp.block k (Nat.lt_of_lt_of_le hk h.size) (fun e=>by have:=hg k e.symm;omega)];exact h.block k hk hne⟩
theorem T.Cur.row {w w':World}{cb tb cap p F:Nat}{X:Option Nat}{ao:Option Addr}{l:List Int}(C:T.Cur w cb tb cap ao l p)(hp:w.grownBy w' X)(hX:∀g,X=some g->F<=g)(hc:cb<F)(ht:l≠ []->tb<F):T.Cur w' cb tb cap ao l p:=by
 refine⟨?_,C.txt,fun j z hj=> ?_,C.ne,C.le,C.len,C.cp,C.rt⟩
 ·obtain⟨t,hb⟩:=C.blk;exact⟨t,by rw[hp.block cb C.lt (fun e=>by have:=hX cb e.symm;omega)];exact hb⟩
 ·have hn:=ht (by intro h;subst h;simp at hj);have h1:=C.rd j z hj;rw[World.cell?_of_block (a:=⟨tb,j,none⟩) (hp.block tb (L.block_lt h1) (fun e=>by have:=hX tb e.symm;omega))];exact h1
theorem R.zc0 {α:Type}{t e:TypeId}{k F F2:Nat}{El:α->List Value->World->Prop}{ops:Array Oper}{rest:List Oper}{o:Oper}{a:Act}{w:World}{Q:Exit->Act->World->Prop}(E:R.Elem t e k)(hgd:o.guard=none)(s x:Operand)
  (ho:o.op= .call { callee:= .builtin .append,args:=#[s,x],argTypes:=#[t,t] }) (v v2:Value) (xs ys:List α) (hs:a.eval s=v) (hx:a.eval x=v2) (h:R.Row e k El F w v xs) (h2:R.Row e k El F2 w v2 ys) (hF:F<=F2) (hne:∀g,v.ownBlock=some g->g<F2)
  (hsz:xs.length+ys.length<=100000000) (hb:F<=w.heap.size)
  (hk:∀v' w',R.Row e k El F w' v' (xs++ys)->w.grownBy w' v.ownBlock->(∀g,v'.ownBlock=some g->v.ownBlock=some g∨w.heap.size<=g)->wpList prog ops Q rest (a.put o.dst v') w'):wpList prog ops Q (o::rest) a w:=by
 obtain⟨v',w',hrun,h3,h4,h5⟩:=R.Row.add E o.type h h2 hF hne hsz hb;refine wpList_plain hgd fun _ hK=> ?_
 have h':=hK _ _ (hk v' w' h3 h4 h5);unfold Oper.wp;simp[execOp,ho,resolve,invoke,builtin,hs,hx,hrun,Result.andThen];exact h'
def R.assignedAt (l:List Int) (p:Nat):T.Out (Option ByteArray) :=
 if R.varNext l p=true then
  match R.varAt l p with
  | .bad e q=> .bad e q
  | .ok n q=>if T.see l (R.gap l q)=61 then .ok (some n) (R.gap l q+1) else .ok none p
 else .ok none p
def R.isName (n:Option ByteArray) (v:Value) (_:World):Prop :=
 match n with
 | some n=>v= .tuple #[.string n,.bool true]
 | none=>v= .tuple #[.string ⟨#[]⟩,.bool false]
theorem zjj (w:World)(cb tb cap p:Nat)(ao:Option Addr)(l:List Int)(C:T.Cur w cb tb cap ao l p) :
  Calls prog 193 #[.pointer (some ⟨cb,0,none⟩)] w (T.Ends w cb tb cap ao l (R.assignedAt l p) R.isName):=by
 have hlen:=C.len;have hple:=C.le;have c1:=C.cell1;have HC:=qH C;clear C;obtain⟨o,HO⟩:∃o,Hid (R.assignedAt l p=o):=⟨_,rfl⟩;rw[HO.out]
 go_enter func193,ntmps193
 go_wp2_with fail
 refine(ze9 _ cb tb cap p ao l HC.out).mono ?_;rintro e w1 ⟨rfl,b1⟩;have C1:=HC.out.below b1;have c11:=C1.cell1;have f11:=C1.frz1;have HC1:=qH C1;have HG1:Hid (w.grownBy w1 (some cb)):=S.zaf b1;clear b1 C1 c1
 by_cases hv:R.varNext l p=true
 ·clear c11 f11
  go_wp2_with fail
  refine(zeq _ cb tb cap p ao l HC1.out hv).mono ?_;intro e w2 h;cases hc:R.varAt l p with
  | bad er q =>
   rw[hc] at h;obtain⟨rfl,g2⟩:=h;unfold T.thrown;go_wp2;refine⟨rfl,?_⟩;rw[<- HO.out];unfold R.assignedAt;rw[if_pos hv,hc];exact⟨rfl,S.zaa HG1.out g2⟩
  | ok n q =>
   rw[hc] at h;obtain⟨v,rfl,hvn,C2,g2⟩:=h;unfold R.isText at hvn;subst hvn;have HC2:=qH C2;have HG2:=qH <| S.zaa HG1.out g2;have HHc:Hid _:=hc;clear C2 g2 hc
   go_wp2_with fail
   refine(za0 _ cb tb cap q ao l HC2.out).mono ?_;rintro e w3 ⟨rfl,C3,g3⟩;have HC3:=qH C3;have HG3:=qH <| S.zaa HG2.out g3;clear C3 g3
   go_wp2_with fail
   refine(zas _ cb tb cap (R.gap l q) ao l 61 (by decide) HC3.out).mono ?_;rintro e w4 ⟨rfl,C4,g4⟩;have HG4:=qH <| S.zaa HG3.out g4;clear g4
   by_cases h61:T.see l (R.gap l q)=61
   ·rw[if_pos h61] at C4;have HC4:=qH C4;clear C4;go_wp2
    go_ret2
    rw[<- HO.out];unfold R.assignedAt;rw[if_pos hv,HHc.out];simp only;rw[if_pos h61];exact⟨_,rfl,rfl,HC4.out,HG4.out⟩
   ·rw[if_neg h61] at C4;have c4:=C4.cell1;have f4:=C4.frz1;have HC4:=qH C4;clear C4;go_wp2
    go_ret2
    rw[<- HO.out];unfold R.assignedAt;rw[if_pos hv,HHc.out];simp only;rw[if_neg h61];exact⟨_,rfl,rfl,HC4.out.set hple,S.zaa HG4.out (zc4 _ _ _ _)⟩
 ·go_wp2
  go_ret2
  rw[<- HO.out];unfold R.assignedAt;rw[if_neg hv];exact⟨_,rfl,rfl,HC1.out.set hple,S.zaa HG1.out (zc4 _ _ _ _)⟩
def R.quotedAt (l:List Int) (p:Nat):T.Out (List R.Item) :=
 if T.see l (T.skipW R.notQuo l p)=39 then .ok ((T.cut l p (T.skipW R.notQuo l p)).map R.runeI) (T.skipW R.notQuo l p+1) else .bad 2 (T.skipW R.notQuo l p)
theorem zmh {l:List Int}{p q:Nat}(h1:p<=q)(h2:q<l.length):T.cut l p (q+1)=T.cut l p q++ [T.see l q]:=by
 unfold T.cut;rw[show q+1 - p=(q - p)+1 by omega,List.take_add_one];congr 1;rw[List.getElem?_drop,show p+(q - p)=q by omega,T.zev h2];rfl
theorem zuf (l:List Int)(p:Nat):T.cut l p p= []:=by unfold T.cut;rw[Nat.sub_self,List.take_zero]
theorem znc (w:World)(cb tb cap p:Nat)(ao:Option Addr)(l:List Int)(C:T.Cur w cb tb cap ao l p) :
  Calls prog 281 #[.pointer (some ⟨cb,0,none⟩)] w (T.Ends w cb tb cap ao l (R.quotedAt l p) fun xs v w'=>R.RowI w.heap.size w' v xs):=by
 have hlen:=C.len;have hple:=C.le;obtain⟨he1,he2⟩:=C.elder;have HE2:=qH he2;have HC:=qH C;clear C he2;obtain⟨o,HO⟩:∃o,Hid (R.quotedAt l p=o):=⟨_,rfl⟩;rw[HO.out]
 go_enter func281,ntmps281
 go_wp2
 go_loopw [3] (fun sv wr=>∃(q:Nat) (xs:List R.Item) (vo:Option Addr) (vc:Nat),sv= .slice vo xs.length vc/\p<=q/\Hid ((T.cut l p q).map R.runeI=xs)/\Hid (∀i,p<=i->i<q->R.notQuo (T.see l i)=true)/\Hid (R.RowI w.heap.size wr (.slice vo xs.length vc) xs)/\Hid (T.Cur wr cb tb cap ao l q)/\Hid (w.grownBy wr (some cb))) (fun _ wr=>l.length - T.pos wr cb)
 case atStart=>exact⟨p,[],none,0,rfl,qN,by show _=_;rw[zuf];rfl,fun i h1 h2=>by omega,R.Row.nil _ _,HC,S.zay _ _⟩
 case round =>
  obtain⟨q,xs,vo,vc,rfl,hq,HX,HA,HR,HCq,HG⟩:=hrel;have HPos:Hid _:=HCq.out.pos;have hql:=HCq.out.le
  go_wp2_with fail
  refine(zd4 _ cb tb cap q ao l HCq.out).mono ?_;rintro e w1 ⟨rfl,b1⟩;have HC1:=qH <| HCq.out.below b1;have HG1:=qH <| S.zaa HG.out (S.zaf b1);have HR1:Hid (R.RowI w.heap.size w1 (.slice vo xs.length vc) xs):=R.Row.below HR.out b1;clear b1;have Hend:=qH <| fun hn=>T.zci hq hql HA.out hn (by decide)
  by_cases hd:T.see l q= -1
  ·have hsk:=Hend.out (by rw[hd];decide);have HSk:Hid _:=hsk;clear hsk
   go_wp2_with fail
   refine(zb0 _ cb tb cap q ao l 39 (by decide) HC1.out (by rw[hd];decide)).mono ?_;unfold T.thrown;rintro e w2 ⟨rfl,g2⟩;go_wp2;refine⟨rfl,?_⟩;rw[<- HO.out];unfold R.quotedAt;rw[HSk.out,hd,if_neg (by decide)];exact⟨rfl,S.zaa HG1.out g2⟩
  ·go_wp2_with fail
   refine(zbp _ cb tb cap q ao l 39 HC1.out).mono ?_;rintro e w2 ⟨rfl,b2⟩;have HC2:=qH <| HC1.out.below b2;have HG2:=qH <| S.zaa HG1.out (S.zaf b2);have HR2:Hid (R.RowI w.heap.size w2 (.slice vo xs.length vc) xs):=R.Row.below HR1.out b2;clear b2
   by_cases h39:T.see l q=39
   ·have hsk:=Hend.out (by rw[h39];decide);have HSk:Hid _:=hsk;clear hsk
    go_wp2_with fail
    refine(za1 _ cb tb cap q ao l 39 (by decide) HC2.out h39).mono ?_;rintro e w3 ⟨rfl,C3,g3⟩;have HC3:=qH C3;have HG3:=qH <| S.zaa HG2.out g3;have HR3:Hid (R.RowI w.heap.size w3 (.slice vo xs.length vc) xs):=R.Row.cur HR2.out g3 he1;clear C3 g3;go_wp2;go_ret;rw[<- HO.out];unfold R.quotedAt;rw[HSk.out,h39,if_pos rfl,HX.out];exact⟨_,rfl,HR3.out,HC3.out,HG3.out⟩
   ·have hlt:=HC2.out.inside hd
    go_wp2_with fail
    refine(zhh _ cb tb cap q ao l HC2.out hlt).mono ?_;rintro e w3 ⟨rfl,C3,g3⟩;have HC3:=qH C3;have HG3:=qH <| S.zaa HG2.out g3;have HR3:Hid (R.RowI w.heap.size w3 (.slice vo xs.length vc) xs):=R.Row.cur HR2.out g3 he1;have hs3:=HG3.out.size;have hlt3:=R.Row.lt HR3.out;have HLt3:Hid _:=hlt3;clear C3 g3 hlt3
    have HL:Hid (xs.length<=16000):=by
     show _<=_;rw[<- HX.out,List.length_map];unfold T.cut;rw[List.length_take,List.length_drop];omega
    obtain⟨r,HRr⟩:∃r,Hid (T.see l q=r):=⟨_,rfl⟩;rw[HRr.out];have bA:=(qR w3).alloc qN (.cells #[.int .i64 1,.int .i32 r,.slice none 0 0,.string ⟨#[]⟩] 242);have HR4:Hid (R.RowI w.heap.size (w3.alloc (.cells #[.int .i64 1,.int .i32 r,.slice none 0 0,.string ⟨#[]⟩] 242)) (.slice vo xs.length vc) xs):=R.Row.below HR3.out bA;have HO4:Hid (R.RowI w3.heap.size (w3.alloc (.cells #[.int .i64 1,.int .i32 r,.slice none 0 0,.string ⟨#[]⟩] 242)) (.slice (some ⟨w3.heap.size,0,none⟩) 1 1) [R.runeI r]):=R.RowI.one 1 r none 0 [] ⟨#[]⟩ (zb3 _ _) (fun x hx=>by cases hx) (by decide) qN;have HC4:=qH <| HC3.out.below bA;have HG4:=qH <| S.zaa HG3.out (S.zaf bA);clear bA
    go_wp2_with (at_builtin;refine R.zc0 R.elemI rfl _ _ rfl _ _ xs [R.runeI r] rfl rfl HR4.out HO4.out hs3 (fun g hg=>(HLt3.out g hg).2) (by have:=HL.out;simp;omega) (by simp;omega) ?_;intro v5 w5 R5 g5 n5)
    have HR5:Hid (R.RowI w.heap.size w5 v5 (xs++ [R.runeI r])):=R5;have HC5:=qH <| HC4.out.row g5 (fun g hg=>(HLt3.out g hg).1) he1 HE2.out;have HG5:=qH <| R.zd1 HG4.out g5 (fun g hg=>(HLt3.out g hg).1);obtain⟨vo5,vc5,hv5⟩:=R.Row.slice R5;subst hv5;clear R5 g5 n5;go_wp2
    go_roundw
    case rel =>
     refine⟨q+1,xs++ [R.runeI r],vo5,vc5,rfl,by omega,?_,fun i h1 h2=> ?_,HR5,HC5,HG5⟩
     ·show _=_;rw[zmh hq hlt,List.map_append,HX.out,HRr.out];rfl
     ·by_cases e:i=q
      ·rw[e];unfold R.notQuo;simp[h39,hd]
      ·exact HA.out i h1 (by omega)
    case measure =>
     rw[HC5.out.pos,HPos.out];omega
end
section
open Go.RowKit
theorem zit {n:ByteArray}(h:R.named n=true):n.size<=20:=by
 unfold R.named at h;simp only[Bool.and_eq_true,decide_eq_true_eq] at h;exact h.2
theorem zhf {l:List Int}{p q:Nat}{n:ByteArray}(h:R.varAt l p= .ok n q):R.named n=true/\p<q:=by
 unfold R.varAt at h;split at h
 ·rename_i hn
  cases h;refine⟨hn,?_⟩;unfold R.wordEnd;split
  ·have:=T.za3 R.wordy l (p+1);omega
  ·omega
 ·cases h
theorem zrd {l:List Int}{p q:Nat}{ys:List R.Item}(h:R.item l p= .ok (some ys) q):p<q:=by
 unfold R.item at h;split at h
 ·cases h1:T.setN 20 l p with
  | bad e r=>rw[h1] at h;cases h
  | ok s r=>rw[h1] at h;cases h;exact zhl _ _ _ _ h1
 ·split at h
  ·cases h1:R.varAt l p with
   | bad e r=>rw[h1] at h;cases h
   | ok s r=>rw[h1] at h;cases h;exact(zhf h1).2
  ·split at h
   ·split at h
    ·cases h;have:=T.za3 R.notQuo l (p+1);omega
    ·cases h
   ·split at h
    ·cases h1:T.chr l p with
     | bad e r=>rw[h1] at h;cases h
     | ok s r =>
      rw[h1] at h;simp only at h;split at h
      ·cases h;exact zrz h1
      ·cases h
    ·cases h
def R.isItems (F:Nat) (o:Option (List R.Item)) (v:Value) (w:World):Prop :=
 match o with
 | none=>v= .tuple #[.slice none 0 0,.bool false]
 | some xs=>∃vs,v= .tuple #[vs,.bool true]/\R.RowI F w vs xs
theorem zty (hK:T.ClassOk)(w:World)(cb tb cap p:Nat)(ao:Option Addr)(l:List Int)(C:T.Cur w cb tb cap ao l p) :
  Calls prog 265 #[.pointer (some ⟨cb,0,none⟩)] w (T.Ends w cb tb cap ao l (R.item l p) (R.isItems w.heap.size)):=by
 have hlen:=C.len;obtain⟨he1,he2⟩:=C.elder;have HK:=qH hK;have HC:=qH C;clear C he2 hK;obtain⟨o,HO⟩:∃o,Hid (R.item l p=o):=⟨_,rfl⟩;rw[HO.out]
 go_enter func265,ntmps265
 go_wp2_with fail
 refine(zbp _ cb tb cap p ao l 91 HC.out).mono ?_;rintro e w1 ⟨rfl,b1⟩;have HC1:=qH <| HC.out.below b1;have HG1:Hid (w.grownBy w1 (some cb)):=S.zaf b1;have hs1:=b1.size;clear b1
 by_cases h91:T.see l p=91
 ·go_wp2_with fail
  refine(zln HK.out _ cb tb cap p ao l HC1.out).mono ?_;intro e w2 h;cases hc:T.setN 20 l p with
  | bad er q =>
   rw[hc] at h;obtain⟨rfl,g2⟩:=h;unfold T.thrown;go_wp2;refine⟨rfl,?_⟩;rw[<- HO.out];unfold R.item;rw[if_pos h91,hc];exact⟨rfl,S.zaa HG1.out g2⟩
  | ok s q =>
   rw[hc] at h;obtain⟨v2,rfl,⟨⟨hr2,hn2,_⟩,hf2⟩,C2,g2⟩:=h;have HC2:=qH C2;have HG2:=qH <| S.zaa HG1.out g2;have HHc:Hid _:=hc;obtain⟨so,sc,hv2⟩:=hr2.len;subst hv2;have HS2:=qH <| R.zdu hr2 (hf2.mono hs1);have HF2:=qH <| S.Fit.zc8 hn2 (Int.le_refl _);clear C2 g2 hc hr2 hn2 hf2;go_wp2
   go_ret2
   rw[<- HO.out];unfold R.item;rw[if_pos h91,HHc.out];have bA:=(qR w2).alloc qN (.cells #[.int .i64 2,.int .i32 0,.slice so s.length sc,.string ⟨#[]⟩] 242);exact⟨_,rfl,⟨_,rfl,R.RowI.one 2 0 so sc s ⟨#[]⟩ HS2.out HF2.out (by decide) HG2.out.size⟩,HC2.out.below bA,S.zaa HG2.out (S.zaf bA)⟩
 ·go_wp2_with fail
  refine(ze9 _ cb tb cap p ao l HC1.out).mono ?_;rintro e w2 ⟨rfl,b2⟩;have HC2:=qH <| HC1.out.below b2;have HG2:=qH <| S.zaa HG1.out (S.zaf b2);clear b2
  by_cases hv:R.varNext l p=true
  ·go_wp2_with fail
   refine(zeq _ cb tb cap p ao l HC2.out hv).mono ?_;intro e w3 h;cases hc:R.varAt l p with
   | bad er q =>
    rw[hc] at h;obtain⟨rfl,g3⟩:=h;unfold T.thrown;go_wp2;refine⟨rfl,?_⟩;rw[<- HO.out];unfold R.item;rw[if_neg h91,if_pos hv,hc];exact⟨rfl,S.zaa HG2.out g3⟩
   | ok n q =>
    rw[hc] at h;obtain⟨v3,rfl,hvn,C3,g3⟩:=h;unfold R.isText at hvn;subst hvn;have hnm:=zit (zhf hc).1;have HNm:=qH hnm;have HC3:=qH C3;have HG3:=qH <| S.zaa HG2.out g3;have HHc:Hid _:=hc;clear C3 g3 hc hnm;go_wp2
    go_ret2
    rw[<- HO.out];unfold R.item;rw[if_neg h91,if_pos hv,HHc.out];have bA:=(qR w3).alloc qN (.cells #[.int .i64 3,.int .i32 0,.slice none 0 0,.string n] 242);exact⟨_,rfl,⟨_,rfl,R.RowI.one 3 0 none 0 [] n (zb3 _ _) (fun x hx=>by cases hx) (by have:=HNm.out;omega) HG3.out.size⟩,HC3.out.below bA,S.zaa HG3.out (S.zaf bA)⟩
  ·go_wp2_with fail
   refine(zas _ cb tb cap p ao l 39 (by decide) HC2.out).mono ?_;rintro e w3 ⟨rfl,C3,g3⟩;have HG3:=qH <| S.zaa HG2.out g3;clear g3
   by_cases h39:T.see l p=39
   ·rw[if_pos h39] at C3;have HC3:=qH C3;clear C3
    go_wp2_with fail
    refine(znc _ cb tb cap (p+1) ao l HC3.out).mono ?_;intro e w4 h
    by_cases hq:T.see l (T.skipW R.notQuo l (p+1))=39
    ·have hQ:R.quotedAt l (p+1)= .ok ((T.cut l (p+1) (T.skipW R.notQuo l (p+1))).map R.runeI) (T.skipW R.notQuo l (p+1)+1):=by unfold R.quotedAt;rw[if_pos hq]
     rw[hQ] at h;obtain⟨v4,rfl,hr4,C4,g4⟩:=h;have HR4:Hid _:=hr4;obtain⟨vo,vc,hv4⟩:=R.Row.slice hr4;have HC4:=qH C4;have HG4:=qH <| S.zaa HG3.out g4;obtain⟨xs,HXs⟩:∃xs,Hid ((T.cut l (p+1) (T.skipW R.notQuo l (p+1))).map R.runeI=xs):=⟨_,rfl⟩;rw[HXs.out] at HR4 hv4;subst hv4;clear hr4 C4 g4 hQ;go_wp2
     go_ret2
     rw[<- HO.out];unfold R.item;rw[if_neg h91,if_neg hv,if_pos h39,if_pos hq,HXs.out];exact⟨_,rfl,⟨_,rfl,R.Row.down HR4.out HG3.out.size⟩,HC4.out,HG4.out⟩
    ·have hQ:R.quotedAt l (p+1)= .bad 2 (T.skipW R.notQuo l (p+1)):=by unfold R.quotedAt;rw[if_neg hq]
     rw[hQ] at h;obtain⟨rfl,g4⟩:=h;unfold T.thrown;go_wp2;refine⟨rfl,?_⟩;rw[<- HO.out];unfold R.item;rw[if_neg h91,if_neg hv,if_pos h39,if_neg hq];exact⟨rfl,S.zaa HG3.out g4⟩
   ·rw[if_neg h39] at C3;have HC3:=qH C3;clear C3
    go_wp2_with fail
    refine(zbp _ cb tb cap p ao l 92 HC3.out).mono ?_;rintro e w4 ⟨rfl,b4⟩;have HC4:=qH <| HC3.out.below b4;have HG4:=qH <| S.zaa HG3.out (S.zaf b4);clear b4
    -- one character
    have HOne:Hid (∀W,T.Cur W cb tb cap ao l p->w.grownBy W (some cb)->(T.see l p=92∨T.ordy (T.see l p)=true)->∀e w6,T.Ends W cb tb cap ao l (R.oneAt l p) R.isOne e w6 ->
      (∃er q,o= .bad er q/\e=T.thrown er q/\w.grownBy w6 (some cb))∨(∃c q,o= .ok (some [R.runeI c]) q/\e= .returned (.agg #[.int .i64 1,.int .i32 c,.slice none 0 0,.string ⟨#[]⟩])/\T.Cur w6 cb tb cap ao l q/\w.grownBy w6 (some cb))):=fun W CW GW hyes e w6 hE=>by
     have hoe:o=(match R.oneAt l p with | .bad e q=> .bad e q | .ok c q=> .ok (some [R.runeI c]) q):=by
      rw[<- HO.out];unfold R.item R.oneAt;rw[if_neg h91,if_neg hv,if_neg h39,if_pos hyes];cases T.chr l p with
      | bad e q=>rfl
      | ok c q =>
       simp only
       by_cases hr:M.right c=true
       ·rw[if_pos hr,if_pos hr]
       ·rw[if_neg hr,if_neg hr]
     cases hc:R.oneAt l p with
     | bad er q =>
      rw[hc] at hE hoe;obtain⟨h1,h2⟩:=hE;exact .inl ⟨er,q,hoe,h1,S.zaa GW h2⟩
     | ok c q =>
      rw[hc] at hE hoe;obtain⟨v,h1,h2,h3,h4⟩:=hE;unfold R.isOne at h2;subst h2;exact .inr ⟨c,q,hoe,h1,h3,S.zaa GW h4⟩
    by_cases h92:T.see l p=92
    ·go_wp2_with fail
     refine(zgn _ cb tb cap p ao l HC4.out).mono ?_;intro e w6 h;rcases HOne.out _ HC4.out HG4.out (.inl h92) e w6 h with ⟨er,q,rfl,rfl,g6⟩|⟨c,q,rfl,rfl,C6,g6⟩
     ·unfold T.thrown;go_wp2;exact⟨rfl,rfl,g6⟩
     ·have HC6:=qH C6;have HG6:=qH g6;clear C6 g6 h HOne;go_wp2
      go_ret2
      have bA:=(qR w6).alloc qN (.cells #[.int .i64 1,.int .i32 c,.slice none 0 0,.string ⟨#[]⟩] 242);exact⟨_,rfl,⟨_,rfl,R.RowI.one 1 c none 0 [] ⟨#[]⟩ (zb3 _ _) (fun x hx=>by cases hx) (by decide) HG6.out.size⟩,HC6.out.below bA,S.zaa HG6.out (S.zaf bA)⟩
    ·go_wp2_with fail
     refine(zhu _ cb tb cap p ao l HC4.out).mono ?_;rintro e w5 ⟨rfl,b5⟩;have HC5:=qH <| HC4.out.below b5;have HG5:=qH <| S.zaa HG4.out (S.zaf b5);clear b5
     by_cases hor:T.ordy (T.see l p)=true
     ·go_wp2_with fail
      refine(zgn _ cb tb cap p ao l HC5.out).mono ?_;intro e w6 h;rcases HOne.out _ HC5.out HG5.out (.inr hor) e w6 h with ⟨er,q,rfl,rfl,g6⟩|⟨c,q,rfl,rfl,C6,g6⟩
      ·unfold T.thrown;go_wp2;exact⟨rfl,rfl,g6⟩
      ·have HC6:=qH C6;have HG6:=qH g6;clear C6 g6 h HOne;go_wp2
       go_ret2
       have bA:=(qR w6).alloc qN (.cells #[.int .i64 1,.int .i32 c,.slice none 0 0,.string ⟨#[]⟩] 242);exact⟨_,rfl,⟨_,rfl,R.RowI.one 1 c none 0 [] ⟨#[]⟩ (zb3 _ _) (fun x hx=>by cases hx) (by decide) HG6.out.size⟩,HC6.out.below bA,S.zaa HG6.out (S.zaf bA)⟩
     ·clear HOne;go_wp2
      go_ret2
      rw[<- HO.out];unfold R.item;rw[if_neg h91,if_neg hv,if_neg h39,if_neg (by simp[h92,hor])];exact⟨_,rfl,rfl,HC5.out,HG5.out⟩
theorem zdm (w:World)(cb b c:Nat)(vo:Option Addr)(n vc:Nat)(k:Int)(hk:¬ 0<=k)(_:b<=16000)(_:c=b) :
  Calls prog 243 #[.pointer (some ⟨cb,0,none⟩),.agg #[.int .i64 b,.slice vo n vc,.int .i64 k]] w fun e w'=>e= .returned (.slice vo n vc)/\Below w.heap.size w w':=by
 have hk':k<0:=by omega
 go_enter func243,ntmps243
 go_wp2;go_ret
 exact⟨rfl,(qR w).alloc qN _⟩
theorem zdn (w:World)(cb b:Nat)(vo:Option Addr)(n vc:Nat)(k:Int)(hk:0<=k) :
  Calls prog 243 #[.pointer (some ⟨cb,0,none⟩),.agg #[.int .i64 b,.slice vo n vc,.int .i64 k]] w fun e w'=>e=T.thrown 8 b/\Below w.heap.size w w':=by
 have hk':¬k<0:=by omega
 have bA:=(qR w).alloc qN (.cells #[.int .i64 b,.slice vo n vc,.int .i64 k] 299);have HB:=qH bA;clear bA
 go_enter func243,ntmps243
 go_wp2
 go_region_dies
 all_goals refine(zav _ 8 b).mono ?_
 all_goals unfold T.thrown
 all_goals rintro e w3 ⟨rfl,rfl⟩
 all_goals exact⟨rfl,rfl,below_drewN HB.out 1⟩
end
section
open Go.RowKit
theorem ztw {l:List Int}{p q:Nat}{ys:List R.Item}(h:R.item l p= .ok (some ys) q):ys.length<=l.length+1:=by
 unfold R.item at h;split at h
 ·cases h1:T.setN 20 l p with
  | bad e r=>rw[h1] at h;cases h
  | ok s r=>rw[h1] at h;cases h;simp
 ·split at h
  ·cases h1:R.varAt l p with
   | bad e r=>rw[h1] at h;cases h
   | ok s r=>rw[h1] at h;cases h;simp
  ·split at h
   ·split at h
    ·cases h;rw[List.length_map];unfold T.cut;rw[List.length_take,List.length_drop];omega
    ·cases h
   ·split at h
    ·cases h1:T.chr l p with
     | bad e r=>rw[h1] at h;cases h
     | ok s r =>
      rw[h1] at h;simp only at h;split at h
      ·cases h;simp
      ·cases h
    ·cases h
def R.isList (b F:Nat) (x:List R.Item×Int) (v:Value) (w:World):Prop :=
 ∃vo vc,v= .agg #[.int .i64 b,.slice vo x.1.length vc,.int .i64 x.2]/\R.Stays F none w (fun w'=>R.Its w' (.slice vo x.1.length vc) x.1)/\x.1.length<=20/\ -1<=x.2/\x.2<=20
theorem zcc (hK:T.ClassOk)(w:World)(cb tb cap p:Nat)(ao:Option Addr)(l:List Int)(C:T.Cur w cb tb cap ao l p) :
  Calls prog 242 #[.pointer (some ⟨cb,0,none⟩)] w (T.Ends w cb tb cap ao l (R.items l p) (R.isList p w.heap.size)):=by
 have hlen:=C.len;have hple:=C.le;have c1:=C.cell1;obtain⟨he1,he2⟩:=C.elder;have HE2:=qH he2;have HK:=qH hK;have HC:=qH C;clear C he2 hK;obtain⟨o,HO⟩:∃o,Hid (R.items l p=o):=⟨_,rfl⟩;rw[HO.out];have n1:¬w.heap.size=cb:=by omega
 have n2:¬w.heap.size+1=cb:=by omega
 go_enter func242,ntmps242
 go_wp2_with fail
 have bA:=(qR w).alloc qN (.cells #[.int .i64 0,.slice none 0 0,.int .i64 0] 299);have x2:(w.alloc (.cells #[.int .i64 0,.slice none 0 0,.int .i64 0] 299)).heap[w.heap.size]?=some (.cells #[.int .i64 0,.slice none 0 0,.int .i64 0] 299):=heap_alloc_new w _;have hsz:(w.alloc (.cells #[.int .i64 0,.slice none 0 0,.int .i64 0] 299)).heap.size=w.heap.size+1:=by simp
 have x3:=heap_alloc_new (w.alloc (.cells #[.int .i64 0,.slice none 0 0,.int .i64 0] 299)) (.cells #[.int .i64 p,.slice none 0 0,.int .i64 (-1)] 299);have bB:=(qR (w.alloc (.cells #[.int .i64 0,.slice none 0 0,.int .i64 0] 299))).alloc qN (.cells #[.int .i64 p,.slice none 0 0,.int .i64 (-1)] 299);have x2':=R.zae x2 bB;have bW:=bA.trans (bB.mono (by rw[hsz];omega));rw[hsz] at x3;have CW:=HC.out.below bW;have GW:w.grownBy _ (some cb):=S.zaf bW;refine(za0 _ cb tb cap p ao l CW).mono ?_;generalize (w.alloc (.cells #[.int .i64 0,.slice none 0 0,.int .i64 0] 299)).alloc (.cells #[.int .i64 p,.slice none 0 0,.int .i64 (-1)] 299)=W0 at x3 bB x2' bW CW GW;clear bA bB bW CW x2 hsz c1;rintro e w1 ⟨rfl,C1,g1⟩;have HX2:=qH <| R.zah x2' g1 n1;have HX3:=qH <| R.zah x3 g1 n2;have HC1:=qH C1;have HG1:=qH <| S.zaa GW g1;clear x2' x3 GW C1 g1;go_wp2
 go_loopw [25] (fun _ wr=>∃(p' q f:Nat) (xs:List R.Item) (c:Int) (vo:Option Addr) (vc:Nat),Hid (R.gap l p'=q)/\Hid (l.length<p'+f)/\Hid (R.itemsN f l xs c p'=o)/\xs.length<=20/\ -1<=c/\c<=20/\Hid (wr.heap[w.heap.size+1]?=some (.cells #[.int .i64 p,.slice vo xs.length vc,.int .i64 c] 299))/\Hid (wr.heap[w.heap.size]?=some (.cells #[.int .i64 0,.slice none 0 0,.int .i64 0] 299))/\Hid (R.RowI (w.heap.size+2) wr (.slice vo xs.length vc) xs)/\Hid (T.Cur wr cb tb cap ao l q)/\Hid (w.grownBy wr (some cb))) (fun _ wr=>l.length - T.pos wr cb)
 case atStart=>exact⟨p,_,l.length+2,[],-1,none,0,rfl,by show _<_;omega,by show _=_;rw[<- HO.out];rfl,by simp,by omega,by omega,HX3,HX2,R.Row.nil _ _,HC1,HG1⟩
 case round =>
  obtain⟨p',q,f,xs,c,vo,vc,HQ,HF,HN,hxl,hc1,hc2,HX3,HX2,HR,HCq,HG⟩:=hrel;have HPos:Hid _:=HCq.out.pos;have hql:=HCq.out.le;have cq:=HCq.out.cell1;have hpq:p'<=q:=by have:=R.zmb l p';have:=HQ.out;omega
  obtain⟨f,rfl⟩:∃g,f=g+1:=⟨f - 1,by have:=HF.out;omega⟩
  go_wp2_with fail
  refine(zas _ cb tb cap q ao l 124 (by decide) HCq.out).mono ?_;rintro e w4 ⟨rfl,C4,g4⟩;have HG4:=qH <| S.zaa HG.out g4;have x43:=R.zah HX3.out g4 n2;have HX43:=qH x43;have HX42:=qH <| R.zah HX2.out g4 n1;have HR4:Hid (R.RowI (w.heap.size+2) w4 (.slice vo xs.length vc) xs):=R.Row.cur HR.out g4 (by omega);clear g4 cq
  by_cases h124:T.see l q=124
  ·rw[if_pos h124] at C4;have HC4:=qH C4;clear C4;have a1:=R.zab (i:=1) x43 rfl;have a2:=R.zab (i:=2) x43 rfl;have z2:=R.zac (i:=2) x43;clear x43
   by_cases hc0:0<=c
   ·have hcc:¬c<0:=by omega
    go_wp2_with (go_at_call 58;refine(zav _ 5 q).mono ?_;unfold T.thrown;rintro e w5 ⟨rfl,rfl⟩)
    refine⟨rfl,?_⟩;rw[<- HN.out,R.itemsN,HQ.out,if_pos h124,if_pos hc0];exact⟨rfl,HG4.out⟩
   ·have hcc:c<0:=by omega
    have gS:w4.grownBy (w4.setCell ⟨w.heap.size+1,2,none⟩ (.int .i64 xs.length)) (some (w.heap.size+1)):=R.zak _ _ _ _;have HC5:=qH <| HC4.out.apart gS n2 (fun h=>by have:=HE2.out h;omega);have HX53:Hid ((w4.setCell ⟨w.heap.size+1,2,none⟩ (.int .i64 xs.length)).heap[w.heap.size+1]?=some (.cells #[.int .i64 p,.slice vo xs.length vc,.int .i64 xs.length] 299)):=heap_setCell_same w4 (w.heap.size+1) 2 _ 299 _ HX43.out;have HX52:=qH <| R.zah HX42.out gS (by omega);have HR5:Hid (R.RowI (w.heap.size+2) (w4.setCell ⟨w.heap.size+1,2,none⟩ (.int .i64 xs.length)) (.slice vo xs.length vc) xs):=R.Row.cur HR4.out gS (by omega);have HG5:=qH <| R.zan HG4.out gS (by omega);clear gS
    go_wp2_with fail
    refine(za0 _ cb tb cap (q+1) ao l HC5.out).mono ?_;rintro e w6 ⟨rfl,C6,g6⟩;have HC6:=qH C6;have HX63:=R.zah HX53.out g6 n2;have HX62:=R.zah HX52.out g6 n1;have HR6:=R.Row.cur HR5.out g6 (show cb<w.heap.size+2 by omega);have HG6:=S.zaa HG5.out g6;have HY:Hid _:=And.intro HX63 (And.intro HX62 (And.intro HR6 HG6));have hge:=R.zmb l (q+1);clear C6 g6 HX63 HX62 HR6 HG6 HC5 HX53 HX52 HR5 HG5 a1 a2 z2;go_wp2
    go_roundw
    case rel=>exact⟨q+1,_,f,xs,xs.length,vo,vc,rfl,by have:=HF.out;show _<_;omega,by show _=_;rw[<- HN.out,R.itemsN,HQ.out,if_pos h124,if_neg (by omega)],hxl,by omega,by omega,HY.out.1,HY.out.2.1,HY.out.2.2.1,HC6,HY.out.2.2.2⟩
    case measure =>
     rw[HC6.out.pos,HPos.out];have:=HC6.out.le;omega
  ·rw[if_neg h124] at C4;have HC4:=qH C4;clear C4 x43
   go_wp2_with fail
   refine(zty HK.out _ cb tb cap q ao l HC4.out).mono ?_;intro e w5 h;cases hc:R.item l q with
   | bad er r =>
    rw[hc] at h;obtain⟨rfl,g5⟩:=h;unfold T.thrown;go_wp2;refine⟨rfl,?_⟩;rw[<- HN.out,R.itemsN,HQ.out,if_neg h124,hc];exact⟨rfl,S.zaa HG4.out g5⟩
   | ok yo r =>
    rw[hc] at h;obtain⟨v5,rfl,hv5,C5,g5⟩:=h;have x53:=R.zah HX43.out g5 n2;have x52:=R.zah HX42.out g5 n1;have HX53:=qH x53;have HX52:=qH x52;have HR5:Hid (R.RowI (w.heap.size+2) w5 (.slice vo xs.length vc) xs):=R.Row.cur HR4.out g5 (by omega);have HG5:=qH <| S.zaa HG4.out g5;have HC5:=qH C5;have HHc:Hid _:=hc;have a0:=R.zab (i:=0) x53 rfl;have a1:=R.zab (i:=1) x53 rfl;have a2:=R.zab (i:=2) x53 rfl;clear C5 g5 hc;cases yo with
    | none =>
     unfold R.isItems at hv5;simp only at hv5;subst hv5;have r0:=R.zab (i:=0) x52 rfl;have r1:=R.zab (i:=1) x52 rfl;have r2:=R.zab (i:=2) x52 rfl;have s0:=R.zac (i:=0) x52;have s1:=R.zac (i:=1) x52;have s2:=R.zac (i:=2) x52;clear x52 x53;go_wp2;obtain⟨hbx,hgr⟩:=R.put3 HX52.out (.int .i64 p) (.slice vo xs.length vc) (.int .i64 c);refine bodyPost_ret (R.za5 rfl _ _ w.heap.size #[.int .i64 p,.slice vo xs.length vc,.int .i64 c] hbx underlying299 (by kernel_rfl) rfl) rfl ?_;rw[<- HN.out,R.itemsN,HQ.out,if_neg h124,HHc.out];exact⟨_,rfl,⟨vo,vc,rfl,((R.RowI.its HR5.out).apart hgr (by omega)).down (by omega),hxl,hc1,hc2⟩,HC5.out.apart hgr n1 (fun h=>by have:=HE2.out h;omega),R.zan HG5.out hgr qN⟩
    | some ys =>
     obtain⟨vs,hvs,hry⟩:=hv5;subst hvs;have hyl:=ztw HHc.out;have hlt:=zrd HHc.out;have HY5:=qH hry;obtain⟨yo,yc,hvy⟩:=R.Row.slice hry;subst hvy;have hlr:=R.Row.lt HR4.out;have HLr:Hid _:=hlr;obtain⟨zs,HZs⟩:∃zs,Hid (xs++ys=zs):=⟨_,rfl⟩;have hzl:zs.length=xs.length+ys.length:=by rw[<- HZs.out,List.length_append]
     have HZl:=qH hzl
     have hF45:w.heap.size+2<=w4.heap.size:=by
      have:=(qA.1 HX43.out).1;omega
     have hF5:w.heap.size+2<=w5.heap.size:=by
      have:=(qA.1 x53).1;omega
     clear hry hlr x52 x53 hzl
     by_cases hbig:20<zs.length
     ·go_wp2_with (first
       | (at_builtin;refine R.zc0 R.elemI rfl _ _ rfl _ _ xs ys rfl rfl HR5.out HY5.out hF45 (fun g hg=>(HLr.out g hg).2) (by omega) hF5 ?_;intro v6 w6 R6 g6 n6;rw[HZs.out] at R6;have x63:=R.zlf HX53.out g6 (fun g hg=>(by have:=(HLr.out g hg).1;omega));have d1:=R.zab (i:=1) x63 rfl;have e1:=R.zac (i:=1) x63;obtain⟨vo6,vc6,hv6⟩:=R.Row.slice R6;subst hv6;have HG6:Hid (w.grownBy w6 (some cb)):=R.zd1 HG5.out g6 (fun g hg=>(by have:=(HLr.out g hg).1;omega));clear R6 g6 n6 x63)
       | (go_at_call 58;refine(zav _ 5 q).mono ?_;unfold T.thrown;rintro e w7 ⟨rfl,rfl⟩))
      refine⟨rfl,?_⟩;rw[<- HN.out,R.itemsN,HQ.out,if_neg h124,HHc.out];simp only;rw[if_pos (by have:=HZl.out;omega)];exact⟨rfl,R.zan HG6.out (R.zak _ _ _ _) (by omega)⟩
     ·go_wp2_with (at_builtin;refine R.zc0 R.elemI rfl _ _ rfl _ _ xs ys rfl rfl HR5.out HY5.out hF45 (fun g hg=>(HLr.out g hg).2) (by omega) hF5 ?_;intro v6 w6 R6 g6 n6;rw[HZs.out] at R6;have x63:=R.zlf HX53.out g6 (fun g hg=>(by have:=(HLr.out g hg).1;omega));have x62:=R.zlf HX52.out g6 (fun g hg=>(by have:=(HLr.out g hg).1;omega));have d1:=R.zab (i:=1) x63 rfl;have e1:=R.zac (i:=1) x63;obtain⟨vo6,vc6,hv6⟩:=R.Row.slice R6;subst hv6;have HG6:Hid (w.grownBy w6 (some cb)):=R.zd1 HG5.out g6 (fun g hg=>(by have:=(HLr.out g hg).1;omega));have HR6:Hid (R.RowI (w.heap.size+2) w6 (.slice vo6 zs.length vc6) zs):=R6;have HC6:Hid (T.Cur w6 cb tb cap ao l r):=HC5.out.row g6 (F:=w.heap.size+2) (fun g hg=>(HLr.out g hg).1) (by omega) (fun h=>(by have:=HE2.out h;omega));have HX63:Hid (w6.heap[w.heap.size+1]?=some (.cells #[.int .i64 p,.slice vo xs.length vc,.int .i64 c] 299)):=x63;have HX62:Hid (w6.heap[w.heap.size]?=some (.cells #[.int .i64 0,.slice none 0 0,.int .i64 0] 299)):=x62;clear R6 g6 n6 x63 x62)
      have gS:w6.grownBy (w6.setCell ⟨w.heap.size+1,1,none⟩ (.slice vo6 zs.length vc6)) (some (w.heap.size+1)):=R.zak _ _ _ _;have C7:=HC6.out.apart gS n2 (fun h=>by have:=HE2.out h;omega);have X73:(w6.setCell ⟨w.heap.size+1,1,none⟩ (.slice vo6 zs.length vc6)).heap[w.heap.size+1]?=some (.cells #[.int .i64 p,.slice vo6 zs.length vc6,.int .i64 c] 299):=heap_setCell_same w6 (w.heap.size+1) 1 _ 299 _ HX63.out;have X72:=R.zah HX62.out gS (by omega);have R7:=R.Row.cur HR6.out gS (show w.heap.size+1<w.heap.size+2 by omega);have G7:=R.zan HG6.out gS (by omega);refine(za0 _ cb tb cap r ao l C7).mono ?_;rintro e w8 ⟨rfl,C8,g8⟩;have HC8:=qH C8;have HY:Hid _:=And.intro (R.zah X73 g8 n2) (And.intro (R.zah X72 g8 n1) (And.intro (R.Row.cur R7 g8 (show cb<w.heap.size+2 by omega)) (S.zaa G7 g8)));have hge:=R.zmb l r;clear C7 X73 X72 R7 G7 gS C8 g8 d1 e1 a0 a1 a2;go_wp2
      go_roundw
      case rel=>exact⟨r,_,f,zs,c,vo6,vc6,rfl,by have:=HF.out;show _<_;omega,by show _=_;rw[<- HN.out,R.itemsN,HQ.out,if_neg h124,HHc.out];simp only;rw[if_neg (by have:=HZl.out;omega),HZs.out],by omega,hc1,hc2,HY.out.1,HY.out.2.1,HY.out.2.2.1,HC8,HY.out.2.2.2⟩
      case measure =>
       rw[HC8.out.pos,HPos.out];have:=HC8.out.le;omega
end
section
open Go.RowKit
set_option linter.unusedVariables false
def R.isSide (F:Nat) (s:R.Side) (v:Value) (w:World):Prop:=(∃bo bc so sc ao ac,v= .agg #[.bool s.start,.bool s.fin,.slice bo s.before.length bc,.slice so s.source.length sc,.slice ao s.after.length ac,.int .i64 s.cursor])/\R.Stays F none w fun w'=>R.SdIs w' v s
theorem R.zve (l:List Int)(p0 p b:Nat)(st:Bool)(hp:R.gap l p0=p)(hst:decide (T.see l p=94)=st)(hb:(if T.see l p=94 then p+1 else p)=b):R.side l p0 =
  match R.items l b with
  | .bad e q=> .bad e q
  | .ok (xs,c) q =>
   if st=true∨T.see l q=123 then
    if 0<=c then .bad 8 b
    else if T.see l q≠123 then .bad 2 q
    else
     match R.items l (q+1) with
     | .bad e r=> .bad e r
     | .ok (ys,d) r=>R.sideTail l ⟨st,false,xs,ys,[],d⟩ r
   else R.sideTail l ⟨st,false,[],xs,[],c⟩ q:=by
 unfold R.side;simp only;rw[hp,hst]
 have:(if st=true then p+1 else p)=b:=by
  rw[<- hb,<- hst]
  by_cases h:T.see l p=94 <;> simp[h]
 rw[this];cases R.items l b with
 | bad e q=>rfl
 | ok xc q =>
  obtain⟨xs,c⟩:=xc;simp only;cases R.items l (q+1) with
  | bad e r=>rfl
  | ok yd r=>rfl
theorem zlv (hK:T.ClassOk)(w:World)(cb tb cap p:Nat)(ao:Option Addr)(l:List Int)(C:T.Cur w cb tb cap ao l p) :
  Calls prog 220 #[.pointer (some ⟨cb,0,none⟩)] w (T.Ends w cb tb cap ao l (R.side l p) (R.isSide w.heap.size)):=by
 have hlen:=C.len;have hple:=C.le;obtain⟨he1,he2⟩:=C.elder;have HE2:=qH he2;have HK:=qH hK;have HC:=qH C;clear C he2 hK;obtain⟨o,HO⟩:∃o,Hid (R.side l p=o):=⟨_,rfl⟩;rw[HO.out];have n1:¬w.heap.size=cb:=by omega
 have n2:¬w.heap.size+1=cb:=by omega
 have HT1:Hid (l≠ []->w.heap.size≠tb):=fun h=>by have:=HE2.out h;omega
 have HT2:Hid (l≠ []->w.heap.size+1≠tb):=fun h=>by have:=HE2.out h;omega
 go_enter func220,ntmps220
 go_wp2_with fail
 have bA:=(qR w).alloc qN (.cells #[.bool false,.bool false,.slice none 0 0,.slice none 0 0,.slice none 0 0,.int .i64 0] 194);have x2:(w.alloc (.cells #[.bool false,.bool false,.slice none 0 0,.slice none 0 0,.slice none 0 0,.int .i64 0] 194)).heap[w.heap.size]?=some (.cells #[.bool false,.bool false,.slice none 0 0,.slice none 0 0,.slice none 0 0,.int .i64 0] 194):=heap_alloc_new w _;have hsz:(w.alloc (.cells #[.bool false,.bool false,.slice none 0 0,.slice none 0 0,.slice none 0 0,.int .i64 0] 194)).heap.size=w.heap.size+1:=by simp
 have x3:=heap_alloc_new (w.alloc (.cells #[.bool false,.bool false,.slice none 0 0,.slice none 0 0,.slice none 0 0,.int .i64 0] 194)) (.cells #[.bool false,.bool false,.slice none 0 0,.slice none 0 0,.slice none 0 0,.int .i64 0] 194);have bB:=(qR (w.alloc (.cells #[.bool false,.bool false,.slice none 0 0,.slice none 0 0,.slice none 0 0,.int .i64 0] 194))).alloc qN (.cells #[.bool false,.bool false,.slice none 0 0,.slice none 0 0,.slice none 0 0,.int .i64 0] 194);have x2':=R.zae x2 bB;have bW:=bA.trans (bB.mono (by rw[hsz];omega));rw[hsz] at x3;have CW:=HC.out.below bW;have GW:w.grownBy _ (some cb):=S.zaf bW;refine(za0 _ cb tb cap p ao l CW).mono ?_;generalize (w.alloc (.cells #[.bool false,.bool false,.slice none 0 0,.slice none 0 0,.slice none 0 0,.int .i64 0] 194)).alloc (.cells #[.bool false,.bool false,.slice none 0 0,.slice none 0 0,.slice none 0 0,.int .i64 0] 194)=W0 at x3 bB x2' bW CW GW;clear bA bB bW CW x2 hsz;rintro e w1 ⟨rfl,C1,g1⟩;have HX2:=qH <| R.zah x2' g1 n1;have HX3:=qH <| R.zah x3 g1 n2;have HG1:=qH <| S.zaa GW g1;obtain⟨P0,HP0⟩:∃P0,Hid (R.gap l p=P0):=⟨_,rfl⟩;rw[HP0.out] at C1;have HC1:=qH C1;clear x2' x3 GW C1 g1
 go_wp2_with fail
 refine(zas _ cb tb cap P0 ao l 94 (by decide) HC1.out).mono ?_;rintro e w2 ⟨rfl,C2,g2⟩;obtain⟨st,HSt⟩:∃st,Hid (decide (T.see l P0=94)=st):=⟨_,rfl⟩;obtain⟨b,HB0⟩:∃b,Hid ((if T.see l P0=94 then P0+1 else P0)=b):=⟨_,rfl⟩;rw[HSt.out];rw[HB0.out] at C2;have x22:=R.zah HX2.out g2 n1;have x23:=R.zah HX3.out g2 n2;have a0:=R.zab (i:=0) x23 rfl;have z0:=R.zac (i:=0) x23;have gS:w2.grownBy (w2.setCell ⟨w.heap.size+1,0,none⟩ (.bool st)) (some (w.heap.size+1)):=R.zak _ _ _ _;have X33:(w2.setCell ⟨w.heap.size+1,0,none⟩ (.bool st)).heap[w.heap.size+1]?=some (.cells #[.bool st,.bool false,.slice none 0 0,.slice none 0 0,.slice none 0 0,.int .i64 0] 194):=heap_setCell_same w2 (w.heap.size+1) 0 _ 194 _ x23;have X32:=R.zah x22 gS (by omega);have C3:=C2.apart gS n2 HT2.out;have G3:=R.zan (S.zaa HG1.out g2) gS (by omega);have HBox:Hid _:=And.intro X33 (And.intro X32 (And.intro C3 G3))
 have hF3:w.heap.size+2<=(w2.setCell ⟨w.heap.size+1,0,none⟩ (.bool st)).heap.size:=by
  have:=(qA.1 X33).1;omega
 clear x22 x23 gS X33 X32 C3 G3 C2 g2;have HEq:Hid _:=R.zve l p P0 b st HP0.out HSt.out HB0.out
 go_wp2_with fail
 refine(zcc HK.out _ cb tb cap b ao l HBox.out.2.2.1).mono ?_;obtain⟨X33,X32,C3,G3⟩:=HBox.out;generalize w2.setCell ⟨w.heap.size+1,0,none⟩ (.bool st)=w3 at X33 X32 C3 G3 hF3;clear HBox a0 z0;intro e w4 h;cases hc:R.items l b with
 | bad er q =>
  rw[hc] at h;obtain⟨rfl,g4⟩:=h;unfold T.thrown;go_wp2;refine⟨rfl,?_⟩;rw[<- HO.out,HEq.out,hc];exact⟨rfl,S.zaa G3 g4⟩
 | ok xc q =>
  rw[hc] at h;obtain⟨v4,rfl,⟨vo,vc,hv4,st4,hxl,hcl,hch⟩,C4,g4⟩:=h;obtain⟨xs,c⟩:=xc;simp only at hv4 st4 hxl hcl hch;subst hv4;have HEq2:=HEq.out;rw[hc,HO.out] at HEq2;simp only at HEq2;have HEq3:Hid _:=HEq2;have x43:=R.zah X33 g4 n2;have x42:=R.zah X32 g4 n1;have hF4:w.heap.size+2<=w4.heap.size:=by have:=g4.size;omega
  have bC:=(qR w4).alloc qN (.cells #[.int .i64 b,.slice vo xs.length vc,.int .i64 c] 299);have y4:(w4.alloc (.cells #[.int .i64 b,.slice vo xs.length vc,.int .i64 c] 299)).heap[w4.heap.size]?=some (.cells #[.int .i64 b,.slice vo xs.length vc,.int .i64 c] 299):=heap_alloc_new w4 _;have x53:=R.zae x43 bC;have x52:=R.zae x42 bC;have C5:=C4.below bC;have G5:=S.zaa (S.zaa G3 g4) (S.zaf (r:=some cb) bC);have st5:R.Stays (w.heap.size+2) (some w4.heap.size) (w4.alloc (.cells #[.int .i64 b,.slice vo xs.length vc,.int .i64 c] 299)) (fun w'=>R.Its w' (.slice vo xs.length vc) xs):=(st4.down hF3).fresh _;have hs5:(w4.alloc (.cells #[.int .i64 b,.slice vo xs.length vc,.int .i64 c] 299)).heap.size=w4.heap.size+1:=by simp
  have n3:¬w4.heap.size=cb:=by have:=C4.lt;omega
  have HTg:Hid (l≠ []->w4.heap.size≠tb):=fun h=>by have:=C4.zpg h;omega
  have n4:¬w4.heap.size=w.heap.size+1:=by omega
  have n5:¬w4.heap.size=w.heap.size:=by omega
  have a0:=R.zab (i:=0) x53 rfl;have HSt5:Hid (R.Stays (w.heap.size+2) (some w4.heap.size) _ fun w'=>R.Its w' (.slice vo xs.length vc) xs):=st5;have HX:Hid _:=And.intro x53 (And.intro x52 (And.intro y4 (And.intro C5 G5)));clear hc HEq X33 X32 C3 G3 C4 g4 x43 x42 st4 bC HEq2;obtain⟨x53,x52,y4,C5,G5⟩:=HX.out;have HXb:Hid _:=x53;have HX2b:Hid _:=x52;have HYb:Hid _:=y4;have HCb:Hid _:=C5;have HGb:Hid _:=G5;have HSb:Hid (R.Stays (w.heap.size+2) (some w4.heap.size) _ fun w'=>R.Its w' (.slice vo xs.length vc) xs):=HSt5.out;clear x52 C5 G5 HX HSt5
  have hbl:b<=16000:=by
   have h1:=HC1.out.le;have h2:=HB0.out;split at h2
   ·rename_i h94
    have:=HC1.out.inside (by rw[h94];decide);omega
   ·omega
  have k0:=R.zab (i:=0) y4 rfl;have k1:=R.zab (i:=1) y4 rfl;have k2:=R.zab (i:=2) y4 rfl;clear x53 y4;cases st with
  | true =>
   try clear y4
   try clear x52
   try clear C5
   try clear G5
   try clear st5
   try clear hs5
   try clear x53
   try clear HX2
   try clear HX3
   try clear HG1
   try clear HP0
   try clear HC1
   try clear HSt
   try clear HB0
   by_cases hc0:0<=c
   ·go_wp2_with fail
    refine(zdn _ cb b vo xs.length vc c hc0).mono ?_;unfold T.thrown;rintro e w6 ⟨rfl,b6⟩;go_wp2;refine⟨rfl,?_⟩;rw[HEq3.out,if_pos (by simp),if_pos (by omega)];exact⟨rfl,S.zaa HGb.out (S.zaf b6)⟩
   ·go_wp2_with fail
    refine(zdm _ cb b b vo xs.length vc c (by omega) (by omega) rfl).mono ?_;rintro e w6 ⟨rfl,b6⟩;have x6:=R.zae HXb.out b6;have d2:=R.zab (i:=2) x6 rfl;have e2:=R.zac (i:=2) x6;have gB:w6.grownBy (w6.setCell ⟨w.heap.size+1,2,none⟩ (.slice vo xs.length vc)) (some (w.heap.size+1)):=R.zak _ _ _ _;have X7:(w6.setCell ⟨w.heap.size+1,2,none⟩ (.slice vo xs.length vc)).heap[w.heap.size+1]?=some (.cells #[.bool true,.bool false,.slice vo xs.length vc,.slice none 0 0,.slice none 0 0,.int .i64 0] 194):=heap_setCell_same w6 (w.heap.size+1) 2 _ 194 _ x6;have HB7:Hid _:=And.intro X7 (And.intro (R.zah (R.zae HX2b.out b6) gB (by omega)) (And.intro (R.zah (R.zae HYb.out b6) gB n4) (And.intro ((HCb.out.below b6).apart gB n2 HT2.out) (And.intro (R.zan (S.zaa HGb.out (S.zaf (r:=some cb) b6)) gB (by omega)) ((HSb.out.below b6).cur gB (by omega))))));clear x6 gB X7 b6
    by_cases h123:T.see l q=123
    ·go_wp2_with fail
     refine(za1 _ cb tb cap q ao l 123 (by decide) HB7.out.2.2.2.1 h123).mono ?_;obtain⟨X7,X72,Y7,C7,G7,S7⟩:=HB7.out;generalize w6.setCell ⟨w.heap.size+1,2,none⟩ (.slice vo xs.length vc)=w7 at X7 X72 Y7 C7 G7 S7;clear HB7 d2 e2;rintro e w8 ⟨rfl,C8,g8⟩;have HX8:Hid _:=R.zah X7 g8 n2;have HX82:Hid _:=R.zah X72 g8 n1;have HY8:Hid _:=R.zah Y7 g8 n3;have HC8:=qH C8;have HG8:=qH <| S.zaa G7 g8;have HS8:=qH <| S7.cur g8 (by omega);have hY8:=(qA.1 HY8.out).1;clear X7 X72 Y7 C7 G7 S7 C8 g8
     go_wp2_with fail
     refine(zcc HK.out _ cb tb cap (q+1) ao l HC8.out).mono ?_;intro e w9 h;cases hcj:R.items l (q+1) with
     | bad er r =>
      rw[hcj] at h;obtain⟨rfl,g9⟩:=h;unfold T.thrown;go_wp2;refine⟨rfl,?_⟩;rw[HEq3.out,if_pos (by simp),if_neg (by omega),if_neg (by simp[h123]),hcj];exact⟨rfl,S.zaa HG8.out g9⟩
     | ok yd r =>
      rw[hcj] at h;obtain⟨v9,rfl,⟨so,sc,hv9,st9,hyl,hd1,hd2⟩,C9,g9⟩:=h;obtain⟨ys,d⟩:=yd;simp only at hv9 st9 hyl hd1 hd2;subst hv9;have HEnd:Hid (o=R.sideTail l ⟨true,false,xs,ys,[],d⟩ r):=by show _=_;rw[HEq3.out,if_pos (by simp),if_neg (by omega),if_neg (by simp[h123]),hcj]
      have y9:=R.zah HY8.out g9 n3;have k0:=R.zab (i:=0) y9 rfl;have k1:=R.zab (i:=1) y9 rfl;have k2:=R.zab (i:=2) y9 rfl;have l0:=R.zac (i:=0) y9;have l1:=R.zac (i:=1) y9;have l2:=R.zac (i:=2) y9;obtain⟨YA,gY⟩:=R.put3 y9 (.int .i64 ((q:Int)+1)) (.slice so ys.length sc) (.int .i64 d);have HB9:Hid _:=And.intro YA (And.intro (R.zah (R.zah HX8.out g9 n2) gY (Ne.symm n4)) (And.intro (R.zah (R.zah HX82.out g9 n1) gY (Ne.symm n5)) (And.intro (C9.apart gY n3 HTg.out) (And.intro (R.zan (S.zaa HG8.out g9) gY (by omega)) (And.intro ((HS8.out.cur g9 (by omega)).atX gY) ((st9.high (F':=w.heap.size+2) (by omega) hY8).atX gY))))));clear y9 YA gY st9 C9 g9 hcj HX8 HX82 HY8 HS8;go_wp2;obtain⟨YA,X9,X92,C9,G9,S9,SS9⟩:=HB9.out;generalize (((w9.setCell ⟨w4.heap.size,0,none⟩ (.int .i64 ((q:Int)+1))).setCell ⟨w4.heap.size,1,none⟩ (.slice so ys.length sc)).setCell ⟨w4.heap.size,2,none⟩ (.int .i64 d))=wt at YA X9 X92 C9 G9 S9 SS9 ⊢;have HYt:Hid _:=YA;have HX3t:Hid _:=X9;have HX2t:Hid _:=X92;have HCt:Hid _:=C9;have HGt:Hid _:=G9;have HSB:=qH S9;have HSS:=qH SS9;clear YA X9 X92 C9 G9 S9 SS9 HB9 k0 k1 k2 l0 l1 l2
      try clear y4
      try clear x52
      try clear C5
      try clear G5
      try clear st5
      try clear hs5
      try clear x53
      try clear HX2b
      try clear HYb
      try clear HCb
      try clear HGb
      try clear HSb
      try clear HXb
      try clear k0
      try clear k1
      try clear k2
      try clear a0
      try clear HSt
      try clear HB0
      try clear HX2
      try clear HX3
      try clear HG1
      try clear HP0
      try clear HC1
      try clear hF3
      try clear HEq3
      try clear HG8
      try clear HC8
      try clear hY8
      try clear h123
      try clear h123a
      try clear hc0
      try clear hbl
      try clear HTg
      try clear n3
      try clear n4
      try clear n5
      try clear HO
      try clear HC
      try clear HB9
      try clear HB7
      have b3:=R.zab (i:=3) HX3t.out rfl;have b5:=R.zab (i:=5) HX3t.out rfl;have f3:=R.zac (i:=3) HX3t.out;have f5:=R.zac (i:=5) HX3t.out;have k1:=R.zab (i:=1) HYt.out rfl;have k2:=R.zab (i:=2) HYt.out rfl
      go_region
      have gA:wt.grownBy ((wt.setCell ⟨w.heap.size+1,3,none⟩ (.slice so ys.length sc)).setCell ⟨w.heap.size+1,5,none⟩ (.int .i64 d)).drew (some (w.heap.size+1)):=S.zaa (S.zaa (R.zak _ _ _ _) (R.zak _ _ _ _)) ⟨rfl,rfl,rfl,qN,fun _ _ _=>rfl⟩;have X9:((wt.setCell ⟨w.heap.size+1,3,none⟩ (.slice so ys.length sc)).setCell ⟨w.heap.size+1,5,none⟩ (.int .i64 d)).drew.heap[w.heap.size+1]?=some (.cells #[.bool true,.bool false,.slice vo xs.length vc,.slice so ys.length sc,.slice none 0 0,.int .i64 d] 194):=heap_setCell_same _ (w.heap.size+1) 5 _ 194 _ (heap_setCell_same wt (w.heap.size+1) 3 _ 194 _ HX3t.out);have X92:=R.zah HX2t.out gA (by omega);have C9:=HCt.out.apart gA n2 HT2.out;have G9:=R.zan HGt.out gA (by omega);have SB9:=HSB.out.cur gA (by omega);have SS9:=HSS.out.cur gA (by omega);generalize ((wt.setCell ⟨w.heap.size+1,3,none⟩ (.slice so ys.length sc)).setCell ⟨w.heap.size+1,5,none⟩ (.int .i64 d)).drew=w9 at gA X9 X92 C9 G9 SB9 SS9 ⊢;clear gA b3 b5 f3 f5 k1 k2
      go_wp2_with fail
      refine(zas _ cb tb cap r ao l 125 (by decide) C9).mono ?_;rintro e w10 ⟨rfl,C10,g10⟩;have x10:=R.zah X9 g10 n2;have x102:=R.zah X92 g10 n1;have HG10:=qH <| S.zaa G9 g10;have HSB10:=qH <| SB9.cur g10 (by omega);have HSS10:=qH <| SS9.cur g10 (by omega);have HX10:=qH x10;have HX102:=qH x102;clear X9 X92 C9 G9 SB9 SS9 g10
      by_cases h125:T.see l r=125
      ·rw[if_pos h125] at C10;have HC10:=qH C10;clear C10 x10 x102
       go_wp2_with fail
       refine(zcc HK.out _ cb tb cap (r+1) ao l HC10.out).mono ?_;intro e w11 h;cases hci:R.items l (r+1) with
       | bad er rz =>
        rw[hci] at h;obtain⟨rfl,g11⟩:=h;unfold T.thrown;go_wp2;refine⟨rfl,?_⟩;rw[HEnd.out];unfold R.sideTail;rw[if_pos h125,hci];exact⟨rfl,S.zaa HG10.out g11⟩
       | ok zc rz =>
        rw[hci] at h;obtain⟨v11,rfl,⟨ao2,ac,hv11,st11,hzl,hzc1,hzc2⟩,C11,g11⟩:=h;obtain⟨zs,zc⟩:=zc;simp only at hv11 st11 hzl hzc1 hzc2;subst hv11;have HHi:Hid _:=hci;have HC11:=qH C11;have HG11:=qH <| S.zaa HG10.out g11;have HS11:=qH st11;have HSB11:=qH <| HSB10.out.cur g11 (by omega);have HSS11:=qH <| HSS10.out.cur g11 (by omega);have x11:=R.zah HX10.out g11 n2;have x112:=R.zah HX102.out g11 n1;have HX11:=qH x11;have HX112:=qH x112;have hF10:w.heap.size+2<=w10.heap.size:=by have:=(qA.1 HX10.out).1;omega
        clear C11 g11 st11 hci x11 x112;have hq1:=HC10.out.le
        by_cases hz0:0<=zc
        ·go_wp2_with fail
         refine(zdn _ cb (r+1) ao2 zs.length ac zc hz0).mono ?_;unfold T.thrown;rintro e w12 ⟨rfl,b12⟩;go_wp2;refine⟨rfl,?_⟩;rw[HEnd.out];unfold R.sideTail;rw[if_pos h125,HHi.out];simp only;rw[if_pos (by omega)];exact⟨rfl,S.zaa HG11.out (S.zaf b12)⟩
        ·go_wp2_with fail
         refine(zdm _ cb (r+1) (r+1) ao2 zs.length ac zc (by omega) (by omega) rfl).mono ?_;rintro e w12 ⟨rfl,b12⟩;have x12:=R.zae HX11.out b12;have x122:=R.zae HX112.out b12;have d4:=R.zab (i:=4) x12 rfl;have e4:=R.zac (i:=4) x12;have gB:w12.grownBy (w12.setCell ⟨w.heap.size+1,4,none⟩ (.slice ao2 zs.length ac)) (some (w.heap.size+1)):=R.zak _ _ _ _;have X13:(w12.setCell ⟨w.heap.size+1,4,none⟩ (.slice ao2 zs.length ac)).heap[w.heap.size+1]?=some (.cells #[.bool true,.bool false,.slice vo xs.length vc,.slice so ys.length sc,.slice ao2 zs.length ac,.int .i64 d] 194):=heap_setCell_same w12 (w.heap.size+1) 4 _ 194 _ x12;have HB13:Hid _:=And.intro X13 (And.intro (R.zah x122 gB (by omega)) (And.intro ((HC11.out.below b12).apart gB n2 HT2.out) (And.intro (R.zan (S.zaa HG11.out (S.zaf (r:=some cb) b12)) gB (by omega)) (And.intro ((HSB11.out.below b12).cur gB (by omega)) (And.intro ((HSS11.out.below b12).cur gB (by omega)) ((HS11.out.below b12).cur gB (by omega)))))));clear x12 x122 gB X13 b12
         go_wp2_with fail
         refine(zas _ cb tb cap rz ao l 36 (by decide) HB13.out.2.2.1).mono ?_;obtain⟨X13,X132,C13,G13,SB13,SS13,SA13⟩:=HB13.out;generalize w12.setCell ⟨w.heap.size+1,4,none⟩ (.slice ao2 zs.length ac)=w13 at X13 X132 C13 G13 SB13 SS13 SA13;clear HB13 d4 e4;rintro e w14 ⟨rfl,C14,g14⟩;obtain⟨fi,HFi⟩:∃fi,Hid (decide (T.see l rz=36)=fi):=⟨_,rfl⟩;obtain⟨r2,HR2⟩:∃r2,Hid ((if T.see l rz=36 then rz+1 else rz)=r2):=⟨_,rfl⟩;rw[HFi.out];rw[HR2.out] at C14;have x14:=R.zah X13 g14 n2;have x142:=R.zah X132 g14 n1;have G14:=S.zaa G13 g14;have HS14:Hid _:=And.intro (SB13.cur g14 (by omega)) (And.intro (SS13.cur g14 (by omega)) (SA13.cur g14 (by omega)));have gC:w14.grownBy (w14.setCell ⟨w.heap.size+1,1,none⟩ (.bool fi)) (some (w.heap.size+1)):=R.zak _ _ _ _;have X15:(w14.setCell ⟨w.heap.size+1,1,none⟩ (.bool fi)).heap[w.heap.size+1]?=some (.cells #[.bool true,.bool fi,.slice vo xs.length vc,.slice so ys.length sc,.slice ao2 zs.length ac,.int .i64 d] 194):=heap_setCell_same w14 (w.heap.size+1) 1 _ 194 _ x14;have X152:=R.zah x142 gC (by omega);have d1:=R.zab (i:=1) x14 rfl;have e1:=R.zac (i:=1) x14;have HX15:Hid _:=And.intro X15 (And.intro X152 (And.intro (C14.apart gC n2 HT2.out) (R.zan G14 gC (by omega))));have HS15:Hid _:=And.intro (HS14.out.1.cur gC (by omega)) (And.intro (HS14.out.2.1.cur gC (by omega)) (HS14.out.2.2.cur gC (by omega)));clear X13 X132 C13 G13 SB13 SS13 SA13 C14 g14 x14 x142 G14 gC X15 X152 HS14
         go_upto_region 13 with fail
         obtain⟨X15,X152,C15,G15⟩:=HX15.out;obtain⟨SB15,SS15,SA15⟩:=HS15.out;generalize w14.setCell ⟨w.heap.size+1,1,none⟩ (.bool fi)=w15 at X15 X152 C15 G15 SB15 SS15 SA15 ⊢;clear HX15 HS15 d1 e1;have d0:=R.zab (i:=0) X15 rfl;have d1:=R.zab (i:=1) X15 rfl;have d2:=R.zab (i:=2) X15 rfl;have d3:=R.zab (i:=3) X15 rfl;have d4:=R.zab (i:=4) X15 rfl;have d5:=R.zab (i:=5) X15 rfl;have q0:=R.zab (i:=0) X152 rfl;have y0:=R.zac (i:=0) X152;have q1:=R.zab (i:=1) X152 rfl;have y1:=R.zac (i:=1) X152;have q2:=R.zab (i:=2) X152 rfl;have y2:=R.zac (i:=2) X152;have q3:=R.zab (i:=3) X152 rfl;have y3:=R.zac (i:=3) X152;have q4:=R.zab (i:=4) X152 rfl;have y4:=R.zac (i:=4) X152;have q5:=R.zab (i:=5) X152 rfl;have y5:=R.zac (i:=5) X152;have HZ15:Hid _:=And.intro X152 (And.intro C15 G15);have HS15:Hid _:=And.intro SB15 (And.intro SS15 SA15);clear X15 X152 C15 G15 SB15 SS15 SA15;go_wp2;obtain⟨X152,C15,G15⟩:=HZ15.out;obtain⟨SB15,SS15,SA15⟩:=HS15.out;obtain⟨hbx,hgr⟩:=R.put6 X152 (.bool true) (.bool fi) (.slice vo xs.length vc) (.slice so ys.length sc) (.slice ao2 zs.length ac) (.int .i64 d);refine bodyPost_ret (R.za5 rfl _ _ w.heap.size #[.bool true,.bool fi,.slice vo xs.length vc,.slice so ys.length sc,.slice ao2 zs.length ac,.int .i64 d] hbx underlying194 (by kernel_rfl) rfl) rfl ?_
         have hend:o= .ok ⟨true,fi,xs,ys,zs,d⟩ r2:=by
          rw[HEnd.out];unfold R.sideTail;rw[if_pos h125,HHi.out];simp only;rw[if_neg (by omega),<- HFi.out,<- HR2.out]
          by_cases h36:T.see l rz=36
          ·simp[h36]
          ·simp[h36]
         rw[hend];refine⟨_,rfl,⟨⟨_,_,_,_,_,_,rfl⟩,?_⟩,C15.apart hgr n1 HT1.out,R.zan G15 hgr qN⟩;have t1:=((SB15.cur hgr (by omega)).free (F':=w.heap.size) (by omega)).and (((SS15.cur hgr (by omega)).free (F':=w.heap.size) (by omega)).and ((SA15.cur hgr (by omega)).down (F':=w.heap.size) (by omega)));exact t1.imp fun w' h=>⟨_,_,_,_,_,_,rfl,h.1,h.2.1,h.2.2,by simp only[R.I64];omega⟩
      ·rw[if_neg h125] at C10;have HC10:=qH C10;have d0:=R.zab (i:=0) x10 rfl;have d1:=R.zab (i:=1) x10 rfl;have d2:=R.zab (i:=2) x10 rfl;have d3:=R.zab (i:=3) x10 rfl;have d4:=R.zab (i:=4) x10 rfl;have d5:=R.zab (i:=5) x10 rfl;have q0:=R.zab (i:=0) x102 rfl;have y0:=R.zac (i:=0) x102;have q1:=R.zab (i:=1) x102 rfl;have y1:=R.zac (i:=1) x102;have q2:=R.zab (i:=2) x102 rfl;have y2:=R.zac (i:=2) x102;have q3:=R.zab (i:=3) x102 rfl;have y3:=R.zac (i:=3) x102;have q4:=R.zab (i:=4) x102 rfl;have y4:=R.zac (i:=4) x102;have q5:=R.zab (i:=5) x102 rfl;have y5:=R.zac (i:=5) x102;clear C10 x10 x102;go_wp2;obtain⟨hbx,hgr⟩:=R.put6 HX102.out (.bool true) (.bool false) (.slice vo xs.length vc) (.slice so ys.length sc) (.slice none 0 0) (.int .i64 d);refine bodyPost_ret (R.za5 rfl _ _ w.heap.size #[.bool true,.bool false,.slice vo xs.length vc,.slice so ys.length sc,.slice none 0 0,.int .i64 d] hbx underlying194 (by kernel_rfl) rfl) rfl ?_;have hend:o= .ok ⟨true,false,xs,ys,[],d⟩ r:=by rw[HEnd.out];unfold R.sideTail;rw[if_neg h125]
       rw[hend];refine⟨_,rfl,⟨⟨_,_,_,_,none,0,rfl⟩,?_⟩,HC10.out.apart hgr n1 HT1.out,R.zan HG10.out hgr qN⟩;have t1:=((HSB10.out.cur hgr (by omega)).free (F':=w.heap.size) (by omega)).and ((HSS10.out.cur hgr (by omega)).free (F':=w.heap.size) (by omega));exact t1.imp fun w' h=>⟨_,_,_,_,none,0,rfl,h.1,h.2,R.Its.nil w',by simp only[R.I64];omega⟩
    ·go_wp2_with fail
     refine(zb0 _ cb tb cap q ao l 123 (by decide) HB7.out.2.2.2.1 h123).mono ?_;unfold T.thrown;rintro e w8 ⟨rfl,g8⟩;go_wp2;refine⟨rfl,?_⟩;rw[HEq3.out,if_pos (by simp),if_neg (by omega),if_pos h123];exact⟨rfl,S.zaa HB7.out.2.2.2.2.1 g8⟩
  | false =>
   go_wp2_with fail
   refine(zbp _ cb tb cap q ao l 123 HCb.out).mono ?_;rintro e w5 ⟨rfl,b5⟩;have x5:=R.zae HXb.out b5;have x52:=R.zae HX2b.out b5;have y5:=R.zae HYb.out b5;have C5:=HCb.out.below b5;have G5:=S.zaa HGb.out (S.zaf (r:=some cb) b5);have S5:=HSb.out.below b5;clear HXb HX2b HYb HCb HGb HSb b5 k0 k1 k2 a0;have HXb:Hid _:=x5;have HX2b:Hid _:=x52;have HYb:Hid _:=y5;have HCb:Hid _:=C5;have HGb:Hid _:=G5;have HSb:=qH S5;have k0:=R.zab (i:=0) y5 rfl;have k1:=R.zab (i:=1) y5 rfl;have k2:=R.zab (i:=2) y5 rfl;clear x5 x52 y5 C5 G5 S5
   by_cases h123a:T.see l q=123
   ·skip
    try clear y4
    try clear x52
    try clear C5
    try clear G5
    try clear st5
    try clear hs5
    try clear x53
    try clear HX2
    try clear HX3
    try clear HG1
    try clear HP0
    try clear HC1
    try clear HSt
    try clear HB0
    by_cases hc0:0<=c
    ·go_wp2_with fail
     refine(zdn _ cb b vo xs.length vc c hc0).mono ?_;unfold T.thrown;rintro e w6 ⟨rfl,b6⟩;go_wp2;refine⟨rfl,?_⟩;rw[HEq3.out,if_pos (by simp[h123a]),if_pos (by omega)];exact⟨rfl,S.zaa HGb.out (S.zaf b6)⟩
    ·go_wp2_with fail
     refine(zdm _ cb b b vo xs.length vc c (by omega) (by omega) rfl).mono ?_;rintro e w6 ⟨rfl,b6⟩;have x6:=R.zae HXb.out b6;have d2:=R.zab (i:=2) x6 rfl;have e2:=R.zac (i:=2) x6;have gB:w6.grownBy (w6.setCell ⟨w.heap.size+1,2,none⟩ (.slice vo xs.length vc)) (some (w.heap.size+1)):=R.zak _ _ _ _;have X7:(w6.setCell ⟨w.heap.size+1,2,none⟩ (.slice vo xs.length vc)).heap[w.heap.size+1]?=some (.cells #[.bool false,.bool false,.slice vo xs.length vc,.slice none 0 0,.slice none 0 0,.int .i64 0] 194):=heap_setCell_same w6 (w.heap.size+1) 2 _ 194 _ x6;have HB7:Hid _:=And.intro X7 (And.intro (R.zah (R.zae HX2b.out b6) gB (by omega)) (And.intro (R.zah (R.zae HYb.out b6) gB n4) (And.intro ((HCb.out.below b6).apart gB n2 HT2.out) (And.intro (R.zan (S.zaa HGb.out (S.zaf (r:=some cb) b6)) gB (by omega)) ((HSb.out.below b6).cur gB (by omega))))));clear x6 gB X7 b6;rcases (Or.inl h123a:T.see l q=123∨False) with h123 | h123
     ·go_wp2_with fail
      refine(za1 _ cb tb cap q ao l 123 (by decide) HB7.out.2.2.2.1 h123).mono ?_;obtain⟨X7,X72,Y7,C7,G7,S7⟩:=HB7.out;generalize w6.setCell ⟨w.heap.size+1,2,none⟩ (.slice vo xs.length vc)=w7 at X7 X72 Y7 C7 G7 S7;clear HB7 d2 e2;rintro e w8 ⟨rfl,C8,g8⟩;have HX8:Hid _:=R.zah X7 g8 n2;have HX82:Hid _:=R.zah X72 g8 n1;have HY8:Hid _:=R.zah Y7 g8 n3;have HC8:=qH C8;have HG8:=qH <| S.zaa G7 g8;have HS8:=qH <| S7.cur g8 (by omega);have hY8:=(qA.1 HY8.out).1;clear X7 X72 Y7 C7 G7 S7 C8 g8
      go_wp2_with fail
      refine(zcc HK.out _ cb tb cap (q+1) ao l HC8.out).mono ?_;intro e w9 h;cases hcj:R.items l (q+1) with
      | bad er r =>
       rw[hcj] at h;obtain⟨rfl,g9⟩:=h;unfold T.thrown;go_wp2;refine⟨rfl,?_⟩;rw[HEq3.out,if_pos (by simp[h123a]),if_neg (by omega),if_neg (by simp[h123]),hcj];exact⟨rfl,S.zaa HG8.out g9⟩
      | ok yd r =>
       rw[hcj] at h;obtain⟨v9,rfl,⟨so,sc,hv9,st9,hyl,hd1,hd2⟩,C9,g9⟩:=h;obtain⟨ys,d⟩:=yd;simp only at hv9 st9 hyl hd1 hd2;subst hv9;have HEnd:Hid (o=R.sideTail l ⟨false,false,xs,ys,[],d⟩ r):=by show _=_;rw[HEq3.out,if_pos (by simp[h123a]),if_neg (by omega),if_neg (by simp[h123]),hcj]
       have y9:=R.zah HY8.out g9 n3;have k0:=R.zab (i:=0) y9 rfl;have k1:=R.zab (i:=1) y9 rfl;have k2:=R.zab (i:=2) y9 rfl;have l0:=R.zac (i:=0) y9;have l1:=R.zac (i:=1) y9;have l2:=R.zac (i:=2) y9;obtain⟨YA,gY⟩:=R.put3 y9 (.int .i64 ((q:Int)+1)) (.slice so ys.length sc) (.int .i64 d);have HB9:Hid _:=And.intro YA (And.intro (R.zah (R.zah HX8.out g9 n2) gY (Ne.symm n4)) (And.intro (R.zah (R.zah HX82.out g9 n1) gY (Ne.symm n5)) (And.intro (C9.apart gY n3 HTg.out) (And.intro (R.zan (S.zaa HG8.out g9) gY (by omega)) (And.intro ((HS8.out.cur g9 (by omega)).atX gY) ((st9.high (F':=w.heap.size+2) (by omega) hY8).atX gY))))));clear y9 YA gY st9 C9 g9 hcj HX8 HX82 HY8 HS8;go_wp2;obtain⟨YA,X9,X92,C9,G9,S9,SS9⟩:=HB9.out;generalize (((w9.setCell ⟨w4.heap.size,0,none⟩ (.int .i64 ((q:Int)+1))).setCell ⟨w4.heap.size,1,none⟩ (.slice so ys.length sc)).setCell ⟨w4.heap.size,2,none⟩ (.int .i64 d))=wt at YA X9 X92 C9 G9 S9 SS9 ⊢;have HYt:Hid _:=YA;have HX3t:Hid _:=X9;have HX2t:Hid _:=X92;have HCt:Hid _:=C9;have HGt:Hid _:=G9;have HSB:=qH S9;have HSS:=qH SS9;clear YA X9 X92 C9 G9 S9 SS9 HB9 k0 k1 k2 l0 l1 l2
       try clear y4
       try clear x52
       try clear C5
       try clear G5
       try clear st5
       try clear hs5
       try clear x53
       try clear HX2b
       try clear HYb
       try clear HCb
       try clear HGb
       try clear HSb
       try clear HXb
       try clear k0
       try clear k1
       try clear k2
       try clear a0
       try clear HSt
       try clear HB0
       try clear HX2
       try clear HX3
       try clear HG1
       try clear HP0
       try clear HC1
       try clear hF3
       try clear HEq3
       try clear HG8
       try clear HC8
       try clear hY8
       try clear h123
       try clear h123a
       try clear hc0
       try clear hbl
       try clear HTg
       try clear n3
       try clear n4
       try clear n5
       try clear HO
       try clear HC
       try clear HB9
       try clear HB7
       have b3:=R.zab (i:=3) HX3t.out rfl;have b5:=R.zab (i:=5) HX3t.out rfl;have f3:=R.zac (i:=3) HX3t.out;have f5:=R.zac (i:=5) HX3t.out;have k1:=R.zab (i:=1) HYt.out rfl;have k2:=R.zab (i:=2) HYt.out rfl
       go_region
       have gA:wt.grownBy ((wt.setCell ⟨w.heap.size+1,3,none⟩ (.slice so ys.length sc)).setCell ⟨w.heap.size+1,5,none⟩ (.int .i64 d)).drew (some (w.heap.size+1)):=S.zaa (S.zaa (R.zak _ _ _ _) (R.zak _ _ _ _)) ⟨rfl,rfl,rfl,qN,fun _ _ _=>rfl⟩;have X9:((wt.setCell ⟨w.heap.size+1,3,none⟩ (.slice so ys.length sc)).setCell ⟨w.heap.size+1,5,none⟩ (.int .i64 d)).drew.heap[w.heap.size+1]?=some (.cells #[.bool false,.bool false,.slice vo xs.length vc,.slice so ys.length sc,.slice none 0 0,.int .i64 d] 194):=heap_setCell_same _ (w.heap.size+1) 5 _ 194 _ (heap_setCell_same wt (w.heap.size+1) 3 _ 194 _ HX3t.out);have X92:=R.zah HX2t.out gA (by omega);have C9:=HCt.out.apart gA n2 HT2.out;have G9:=R.zan HGt.out gA (by omega);have SB9:=HSB.out.cur gA (by omega);have SS9:=HSS.out.cur gA (by omega);generalize ((wt.setCell ⟨w.heap.size+1,3,none⟩ (.slice so ys.length sc)).setCell ⟨w.heap.size+1,5,none⟩ (.int .i64 d)).drew=w9 at gA X9 X92 C9 G9 SB9 SS9 ⊢;clear gA b3 b5 f3 f5 k1 k2
       go_wp2_with fail
       refine(zas _ cb tb cap r ao l 125 (by decide) C9).mono ?_;rintro e w10 ⟨rfl,C10,g10⟩;have x10:=R.zah X9 g10 n2;have x102:=R.zah X92 g10 n1;have HG10:=qH <| S.zaa G9 g10;have HSB10:=qH <| SB9.cur g10 (by omega);have HSS10:=qH <| SS9.cur g10 (by omega);have HX10:=qH x10;have HX102:=qH x102;clear X9 X92 C9 G9 SB9 SS9 g10
       by_cases h125:T.see l r=125
       ·rw[if_pos h125] at C10;have HC10:=qH C10;clear C10 x10 x102
        go_wp2_with fail
        refine(zcc HK.out _ cb tb cap (r+1) ao l HC10.out).mono ?_;intro e w11 h;cases hci:R.items l (r+1) with
        | bad er rz =>
         rw[hci] at h;obtain⟨rfl,g11⟩:=h;unfold T.thrown;go_wp2;refine⟨rfl,?_⟩;rw[HEnd.out];unfold R.sideTail;rw[if_pos h125,hci];exact⟨rfl,S.zaa HG10.out g11⟩
        | ok zc rz =>
         rw[hci] at h;obtain⟨v11,rfl,⟨ao2,ac,hv11,st11,hzl,hzc1,hzc2⟩,C11,g11⟩:=h;obtain⟨zs,zc⟩:=zc;simp only at hv11 st11 hzl hzc1 hzc2;subst hv11;have HHi:Hid _:=hci;have HC11:=qH C11;have HG11:=qH <| S.zaa HG10.out g11;have HS11:=qH st11;have HSB11:=qH <| HSB10.out.cur g11 (by omega);have HSS11:=qH <| HSS10.out.cur g11 (by omega);have x11:=R.zah HX10.out g11 n2;have x112:=R.zah HX102.out g11 n1;have HX11:=qH x11;have HX112:=qH x112;have hF10:w.heap.size+2<=w10.heap.size:=by have:=(qA.1 HX10.out).1;omega
         clear C11 g11 st11 hci x11 x112;have hq1:=HC10.out.le
         by_cases hz0:0<=zc
         ·go_wp2_with fail
          refine(zdn _ cb (r+1) ao2 zs.length ac zc hz0).mono ?_;unfold T.thrown;rintro e w12 ⟨rfl,b12⟩;go_wp2;refine⟨rfl,?_⟩;rw[HEnd.out];unfold R.sideTail;rw[if_pos h125,HHi.out];simp only;rw[if_pos (by omega)];exact⟨rfl,S.zaa HG11.out (S.zaf b12)⟩
         ·go_wp2_with fail
          refine(zdm _ cb (r+1) (r+1) ao2 zs.length ac zc (by omega) (by omega) rfl).mono ?_;rintro e w12 ⟨rfl,b12⟩;have x12:=R.zae HX11.out b12;have x122:=R.zae HX112.out b12;have d4:=R.zab (i:=4) x12 rfl;have e4:=R.zac (i:=4) x12;have gB:w12.grownBy (w12.setCell ⟨w.heap.size+1,4,none⟩ (.slice ao2 zs.length ac)) (some (w.heap.size+1)):=R.zak _ _ _ _;have X13:(w12.setCell ⟨w.heap.size+1,4,none⟩ (.slice ao2 zs.length ac)).heap[w.heap.size+1]?=some (.cells #[.bool false,.bool false,.slice vo xs.length vc,.slice so ys.length sc,.slice ao2 zs.length ac,.int .i64 d] 194):=heap_setCell_same w12 (w.heap.size+1) 4 _ 194 _ x12;have HB13:Hid _:=And.intro X13 (And.intro (R.zah x122 gB (by omega)) (And.intro ((HC11.out.below b12).apart gB n2 HT2.out) (And.intro (R.zan (S.zaa HG11.out (S.zaf (r:=some cb) b12)) gB (by omega)) (And.intro ((HSB11.out.below b12).cur gB (by omega)) (And.intro ((HSS11.out.below b12).cur gB (by omega)) ((HS11.out.below b12).cur gB (by omega)))))));clear x12 x122 gB X13 b12
          go_wp2_with fail
          refine(zas _ cb tb cap rz ao l 36 (by decide) HB13.out.2.2.1).mono ?_;obtain⟨X13,X132,C13,G13,SB13,SS13,SA13⟩:=HB13.out;generalize w12.setCell ⟨w.heap.size+1,4,none⟩ (.slice ao2 zs.length ac)=w13 at X13 X132 C13 G13 SB13 SS13 SA13;clear HB13 d4 e4;rintro e w14 ⟨rfl,C14,g14⟩;obtain⟨fi,HFi⟩:∃fi,Hid (decide (T.see l rz=36)=fi):=⟨_,rfl⟩;obtain⟨r2,HR2⟩:∃r2,Hid ((if T.see l rz=36 then rz+1 else rz)=r2):=⟨_,rfl⟩;rw[HFi.out];rw[HR2.out] at C14;have x14:=R.zah X13 g14 n2;have x142:=R.zah X132 g14 n1;have G14:=S.zaa G13 g14;have HS14:Hid _:=And.intro (SB13.cur g14 (by omega)) (And.intro (SS13.cur g14 (by omega)) (SA13.cur g14 (by omega)));have gC:w14.grownBy (w14.setCell ⟨w.heap.size+1,1,none⟩ (.bool fi)) (some (w.heap.size+1)):=R.zak _ _ _ _;have X15:(w14.setCell ⟨w.heap.size+1,1,none⟩ (.bool fi)).heap[w.heap.size+1]?=some (.cells #[.bool false,.bool fi,.slice vo xs.length vc,.slice so ys.length sc,.slice ao2 zs.length ac,.int .i64 d] 194):=heap_setCell_same w14 (w.heap.size+1) 1 _ 194 _ x14;have X152:=R.zah x142 gC (by omega);have d1:=R.zab (i:=1) x14 rfl;have e1:=R.zac (i:=1) x14;have HX15:Hid _:=And.intro X15 (And.intro X152 (And.intro (C14.apart gC n2 HT2.out) (R.zan G14 gC (by omega))));have HS15:Hid _:=And.intro (HS14.out.1.cur gC (by omega)) (And.intro (HS14.out.2.1.cur gC (by omega)) (HS14.out.2.2.cur gC (by omega)));clear X13 X132 C13 G13 SB13 SS13 SA13 C14 g14 x14 x142 G14 gC X15 X152 HS14
          go_upto_region 13 with fail
          obtain⟨X15,X152,C15,G15⟩:=HX15.out;obtain⟨SB15,SS15,SA15⟩:=HS15.out;generalize w14.setCell ⟨w.heap.size+1,1,none⟩ (.bool fi)=w15 at X15 X152 C15 G15 SB15 SS15 SA15 ⊢;clear HX15 HS15 d1 e1;have d0:=R.zab (i:=0) X15 rfl;have d1:=R.zab (i:=1) X15 rfl;have d2:=R.zab (i:=2) X15 rfl;have d3:=R.zab (i:=3) X15 rfl;have d4:=R.zab (i:=4) X15 rfl;have d5:=R.zab (i:=5) X15 rfl;have q0:=R.zab (i:=0) X152 rfl;have y0:=R.zac (i:=0) X152;have q1:=R.zab (i:=1) X152 rfl;have y1:=R.zac (i:=1) X152;have q2:=R.zab (i:=2) X152 rfl;have y2:=R.zac (i:=2) X152;have q3:=R.zab (i:=3) X152 rfl;have y3:=R.zac (i:=3) X152;have q4:=R.zab (i:=4) X152 rfl;have y4:=R.zac (i:=4) X152;have q5:=R.zab (i:=5) X152 rfl;have y5:=R.zac (i:=5) X152;have HZ15:Hid _:=And.intro X152 (And.intro C15 G15);have HS15:Hid _:=And.intro SB15 (And.intro SS15 SA15);clear X15 X152 C15 G15 SB15 SS15 SA15;go_wp2;obtain⟨X152,C15,G15⟩:=HZ15.out;obtain⟨SB15,SS15,SA15⟩:=HS15.out;obtain⟨hbx,hgr⟩:=R.put6 X152 (.bool false) (.bool fi) (.slice vo xs.length vc) (.slice so ys.length sc) (.slice ao2 zs.length ac) (.int .i64 d);refine bodyPost_ret (R.za5 rfl _ _ w.heap.size #[.bool false,.bool fi,.slice vo xs.length vc,.slice so ys.length sc,.slice ao2 zs.length ac,.int .i64 d] hbx underlying194 (by kernel_rfl) rfl) rfl ?_
          have hend:o= .ok ⟨false,fi,xs,ys,zs,d⟩ r2:=by
           rw[HEnd.out];unfold R.sideTail;rw[if_pos h125,HHi.out];simp only;rw[if_neg (by omega),<- HFi.out,<- HR2.out]
           by_cases h36:T.see l rz=36
           ·simp[h36]
           ·simp[h36]
          rw[hend];refine⟨_,rfl,⟨⟨_,_,_,_,_,_,rfl⟩,?_⟩,C15.apart hgr n1 HT1.out,R.zan G15 hgr qN⟩;have t1:=((SB15.cur hgr (by omega)).free (F':=w.heap.size) (by omega)).and (((SS15.cur hgr (by omega)).free (F':=w.heap.size) (by omega)).and ((SA15.cur hgr (by omega)).down (F':=w.heap.size) (by omega)));exact t1.imp fun w' h=>⟨_,_,_,_,_,_,rfl,h.1,h.2.1,h.2.2,by simp only[R.I64];omega⟩
       ·rw[if_neg h125] at C10;have HC10:=qH C10;have d0:=R.zab (i:=0) x10 rfl;have d1:=R.zab (i:=1) x10 rfl;have d2:=R.zab (i:=2) x10 rfl;have d3:=R.zab (i:=3) x10 rfl;have d4:=R.zab (i:=4) x10 rfl;have d5:=R.zab (i:=5) x10 rfl;have q0:=R.zab (i:=0) x102 rfl;have y0:=R.zac (i:=0) x102;have q1:=R.zab (i:=1) x102 rfl;have y1:=R.zac (i:=1) x102;have q2:=R.zab (i:=2) x102 rfl;have y2:=R.zac (i:=2) x102;have q3:=R.zab (i:=3) x102 rfl;have y3:=R.zac (i:=3) x102;have q4:=R.zab (i:=4) x102 rfl;have y4:=R.zac (i:=4) x102;have q5:=R.zab (i:=5) x102 rfl;have y5:=R.zac (i:=5) x102;clear C10 x10 x102;go_wp2;obtain⟨hbx,hgr⟩:=R.put6 HX102.out (.bool false) (.bool false) (.slice vo xs.length vc) (.slice so ys.length sc) (.slice none 0 0) (.int .i64 d);refine bodyPost_ret (R.za5 rfl _ _ w.heap.size #[.bool false,.bool false,.slice vo xs.length vc,.slice so ys.length sc,.slice none 0 0,.int .i64 d] hbx underlying194 (by kernel_rfl) rfl) rfl ?_;have hend:o= .ok ⟨false,false,xs,ys,[],d⟩ r:=by rw[HEnd.out];unfold R.sideTail;rw[if_neg h125]
        rw[hend];refine⟨_,rfl,⟨⟨_,_,_,_,none,0,rfl⟩,?_⟩,HC10.out.apart hgr n1 HT1.out,R.zan HG10.out hgr qN⟩;have t1:=((HSB10.out.cur hgr (by omega)).free (F':=w.heap.size) (by omega)).and ((HSS10.out.cur hgr (by omega)).free (F':=w.heap.size) (by omega));exact t1.imp fun w' h=>⟨_,_,_,_,none,0,rfl,h.1,h.2,R.Its.nil w',by simp only[R.I64];omega⟩
     ·exact h123.elim
   ·have HEnd:Hid (o=R.sideTail l ⟨false,false,[],xs,[],c⟩ q):=by show _=_;rw[HEq3.out,if_neg (by simp[h123a])]
    clear k0 k1 k2;go_wp2;have HX3t:Hid _:=HXb.out;have HX2t:Hid _:=HX2b.out;have HYt:Hid _:=HYb.out;have HCt:Hid _:=HCb.out;have HGt:Hid _:=HGb.out;have HSS:=qH HSb.out;have HSB:Hid (R.Stays (w.heap.size+2) (some w4.heap.size) w5 fun w'=>R.Its w' (.slice none ([]:List R.Item).length 0) []):=fun w' _=>R.Its.nil w'
    try clear y4
    try clear x52
    try clear C5
    try clear G5
    try clear st5
    try clear hs5
    try clear x53
    try clear HX2b
    try clear HYb
    try clear HCb
    try clear HGb
    try clear HSb
    try clear HXb
    try clear k0
    try clear k1
    try clear k2
    try clear a0
    try clear HSt
    try clear HB0
    try clear HX2
    try clear HX3
    try clear HG1
    try clear HP0
    try clear HC1
    try clear hF3
    try clear HEq3
    try clear HG8
    try clear HC8
    try clear hY8
    try clear h123
    try clear h123a
    try clear hc0
    try clear hbl
    try clear HTg
    try clear n3
    try clear n4
    try clear n5
    try clear HO
    try clear HC
    try clear HB9
    try clear HB7
    have b3:=R.zab (i:=3) HX3t.out rfl;have b5:=R.zab (i:=5) HX3t.out rfl;have f3:=R.zac (i:=3) HX3t.out;have f5:=R.zac (i:=5) HX3t.out;have k1:=R.zab (i:=1) HYt.out rfl;have k2:=R.zab (i:=2) HYt.out rfl
    go_region
    have gA:w5.grownBy ((w5.setCell ⟨w.heap.size+1,3,none⟩ (.slice vo xs.length vc)).setCell ⟨w.heap.size+1,5,none⟩ (.int .i64 c)).drew (some (w.heap.size+1)):=S.zaa (S.zaa (R.zak _ _ _ _) (R.zak _ _ _ _)) ⟨rfl,rfl,rfl,qN,fun _ _ _=>rfl⟩;have X9:((w5.setCell ⟨w.heap.size+1,3,none⟩ (.slice vo xs.length vc)).setCell ⟨w.heap.size+1,5,none⟩ (.int .i64 c)).drew.heap[w.heap.size+1]?=some (.cells #[.bool false,.bool false,.slice none ([]:List R.Item).length 0,.slice vo xs.length vc,.slice none 0 0,.int .i64 c] 194):=heap_setCell_same _ (w.heap.size+1) 5 _ 194 _ (heap_setCell_same w5 (w.heap.size+1) 3 _ 194 _ HX3t.out);have X92:=R.zah HX2t.out gA (by omega);have C9:=HCt.out.apart gA n2 HT2.out;have G9:=R.zan HGt.out gA (by omega);have SB9:=HSB.out.cur gA (by omega);have SS9:=HSS.out.cur gA (by omega);generalize ((w5.setCell ⟨w.heap.size+1,3,none⟩ (.slice vo xs.length vc)).setCell ⟨w.heap.size+1,5,none⟩ (.int .i64 c)).drew=w9 at gA X9 X92 C9 G9 SB9 SS9 ⊢;clear gA b3 b5 f3 f5 k1 k2
    go_wp2_with fail
    refine(zas _ cb tb cap q ao l 125 (by decide) C9).mono ?_;rintro e w10 ⟨rfl,C10,g10⟩;have x10:=R.zah X9 g10 n2;have x102:=R.zah X92 g10 n1;have HG10:=qH <| S.zaa G9 g10;have HSB10:=qH <| SB9.cur g10 (by omega);have HSS10:=qH <| SS9.cur g10 (by omega);have HX10:=qH x10;have HX102:=qH x102;clear X9 X92 C9 G9 SB9 SS9 g10
    by_cases h125:T.see l q=125
    ·rw[if_pos h125] at C10;have HC10:=qH C10;clear C10 x10 x102
     go_wp2_with fail
     refine(zcc HK.out _ cb tb cap (q+1) ao l HC10.out).mono ?_;intro e w11 h;cases hci:R.items l (q+1) with
     | bad er rz =>
      rw[hci] at h;obtain⟨rfl,g11⟩:=h;unfold T.thrown;go_wp2;refine⟨rfl,?_⟩;rw[HEnd.out];unfold R.sideTail;rw[if_pos h125,hci];exact⟨rfl,S.zaa HG10.out g11⟩
     | ok zc rz =>
      rw[hci] at h;obtain⟨v11,rfl,⟨ao2,ac,hv11,st11,hzl,hzc1,hzc2⟩,C11,g11⟩:=h;obtain⟨zs,zc⟩:=zc;simp only at hv11 st11 hzl hzc1 hzc2;subst hv11;have HHi:Hid _:=hci;have HC11:=qH C11;have HG11:=qH <| S.zaa HG10.out g11;have HS11:=qH st11;have HSB11:=qH <| HSB10.out.cur g11 (by omega);have HSS11:=qH <| HSS10.out.cur g11 (by omega);have x11:=R.zah HX10.out g11 n2;have x112:=R.zah HX102.out g11 n1;have HX11:=qH x11;have HX112:=qH x112;have hF10:w.heap.size+2<=w10.heap.size:=by have:=(qA.1 HX10.out).1;omega
      clear C11 g11 st11 hci x11 x112;have hq1:=HC10.out.le
      by_cases hz0:0<=zc
      ·go_wp2_with fail
       refine(zdn _ cb (q+1) ao2 zs.length ac zc hz0).mono ?_;unfold T.thrown;rintro e w12 ⟨rfl,b12⟩;go_wp2;refine⟨rfl,?_⟩;rw[HEnd.out];unfold R.sideTail;rw[if_pos h125,HHi.out];simp only;rw[if_pos (by omega)];exact⟨rfl,S.zaa HG11.out (S.zaf b12)⟩
      ·go_wp2_with fail
       refine(zdm _ cb (q+1) (q+1) ao2 zs.length ac zc (by omega) (by omega) rfl).mono ?_;rintro e w12 ⟨rfl,b12⟩;have x12:=R.zae HX11.out b12;have x122:=R.zae HX112.out b12;have d4:=R.zab (i:=4) x12 rfl;have e4:=R.zac (i:=4) x12;have gB:w12.grownBy (w12.setCell ⟨w.heap.size+1,4,none⟩ (.slice ao2 zs.length ac)) (some (w.heap.size+1)):=R.zak _ _ _ _;have X13:(w12.setCell ⟨w.heap.size+1,4,none⟩ (.slice ao2 zs.length ac)).heap[w.heap.size+1]?=some (.cells #[.bool false,.bool false,.slice none ([]:List R.Item).length 0,.slice vo xs.length vc,.slice ao2 zs.length ac,.int .i64 c] 194):=heap_setCell_same w12 (w.heap.size+1) 4 _ 194 _ x12;have HB13:Hid _:=And.intro X13 (And.intro (R.zah x122 gB (by omega)) (And.intro ((HC11.out.below b12).apart gB n2 HT2.out) (And.intro (R.zan (S.zaa HG11.out (S.zaf (r:=some cb) b12)) gB (by omega)) (And.intro ((HSB11.out.below b12).cur gB (by omega)) (And.intro ((HSS11.out.below b12).cur gB (by omega)) ((HS11.out.below b12).cur gB (by omega)))))));clear x12 x122 gB X13 b12
       go_wp2_with fail
       refine(zas _ cb tb cap rz ao l 36 (by decide) HB13.out.2.2.1).mono ?_;obtain⟨X13,X132,C13,G13,SB13,SS13,SA13⟩:=HB13.out;generalize w12.setCell ⟨w.heap.size+1,4,none⟩ (.slice ao2 zs.length ac)=w13 at X13 X132 C13 G13 SB13 SS13 SA13;clear HB13 d4 e4;rintro e w14 ⟨rfl,C14,g14⟩;obtain⟨fi,HFi⟩:∃fi,Hid (decide (T.see l rz=36)=fi):=⟨_,rfl⟩;obtain⟨r2,HR2⟩:∃r2,Hid ((if T.see l rz=36 then rz+1 else rz)=r2):=⟨_,rfl⟩;rw[HFi.out];rw[HR2.out] at C14;have x14:=R.zah X13 g14 n2;have x142:=R.zah X132 g14 n1;have G14:=S.zaa G13 g14;have HS14:Hid _:=And.intro (SB13.cur g14 (by omega)) (And.intro (SS13.cur g14 (by omega)) (SA13.cur g14 (by omega)));have gC:w14.grownBy (w14.setCell ⟨w.heap.size+1,1,none⟩ (.bool fi)) (some (w.heap.size+1)):=R.zak _ _ _ _;have X15:(w14.setCell ⟨w.heap.size+1,1,none⟩ (.bool fi)).heap[w.heap.size+1]?=some (.cells #[.bool false,.bool fi,.slice none ([]:List R.Item).length 0,.slice vo xs.length vc,.slice ao2 zs.length ac,.int .i64 c] 194):=heap_setCell_same w14 (w.heap.size+1) 1 _ 194 _ x14;have X152:=R.zah x142 gC (by omega);have d1:=R.zab (i:=1) x14 rfl;have e1:=R.zac (i:=1) x14;have HX15:Hid _:=And.intro X15 (And.intro X152 (And.intro (C14.apart gC n2 HT2.out) (R.zan G14 gC (by omega))));have HS15:Hid _:=And.intro (HS14.out.1.cur gC (by omega)) (And.intro (HS14.out.2.1.cur gC (by omega)) (HS14.out.2.2.cur gC (by omega)));clear X13 X132 C13 G13 SB13 SS13 SA13 C14 g14 x14 x142 G14 gC X15 X152 HS14
       go_upto_region 13 with fail
       obtain⟨X15,X152,C15,G15⟩:=HX15.out;obtain⟨SB15,SS15,SA15⟩:=HS15.out;generalize w14.setCell ⟨w.heap.size+1,1,none⟩ (.bool fi)=w15 at X15 X152 C15 G15 SB15 SS15 SA15 ⊢;clear HX15 HS15 d1 e1;have d0:=R.zab (i:=0) X15 rfl;have d1:=R.zab (i:=1) X15 rfl;have d2:=R.zab (i:=2) X15 rfl;have d3:=R.zab (i:=3) X15 rfl;have d4:=R.zab (i:=4) X15 rfl;have d5:=R.zab (i:=5) X15 rfl;have q0:=R.zab (i:=0) X152 rfl;have y0:=R.zac (i:=0) X152;have q1:=R.zab (i:=1) X152 rfl;have y1:=R.zac (i:=1) X152;have q2:=R.zab (i:=2) X152 rfl;have y2:=R.zac (i:=2) X152;have q3:=R.zab (i:=3) X152 rfl;have y3:=R.zac (i:=3) X152;have q4:=R.zab (i:=4) X152 rfl;have y4:=R.zac (i:=4) X152;have q5:=R.zab (i:=5) X152 rfl;have y5:=R.zac (i:=5) X152;have HZ15:Hid _:=And.intro X152 (And.intro C15 G15);have HS15:Hid _:=And.intro SB15 (And.intro SS15 SA15);clear X15 X152 C15 G15 SB15 SS15 SA15;go_wp2;obtain⟨X152,C15,G15⟩:=HZ15.out;obtain⟨SB15,SS15,SA15⟩:=HS15.out;obtain⟨hbx,hgr⟩:=R.put6 X152 (.bool false) (.bool fi) (.slice none ([]:List R.Item).length 0) (.slice vo xs.length vc) (.slice ao2 zs.length ac) (.int .i64 c);refine bodyPost_ret (R.za5 rfl _ _ w.heap.size #[.bool false,.bool fi,.slice none ([]:List R.Item).length 0,.slice vo xs.length vc,.slice ao2 zs.length ac,.int .i64 c] hbx underlying194 (by kernel_rfl) rfl) rfl ?_
       have hend:o= .ok ⟨false,fi,[],xs,zs,c⟩ r2:=by
        rw[HEnd.out];unfold R.sideTail;rw[if_pos h125,HHi.out];simp only;rw[if_neg (by omega),<- HFi.out,<- HR2.out]
        by_cases h36:T.see l rz=36
        ·simp[h36]
        ·simp[h36]
       rw[hend];refine⟨_,rfl,⟨⟨_,_,_,_,_,_,rfl⟩,?_⟩,C15.apart hgr n1 HT1.out,R.zan G15 hgr qN⟩;have t1:=((SB15.cur hgr (by omega)).free (F':=w.heap.size) (by omega)).and (((SS15.cur hgr (by omega)).free (F':=w.heap.size) (by omega)).and ((SA15.cur hgr (by omega)).down (F':=w.heap.size) (by omega)));exact t1.imp fun w' h=>⟨_,_,_,_,_,_,rfl,h.1,h.2.1,h.2.2,by simp only[R.I64];omega⟩
    ·rw[if_neg h125] at C10;have HC10:=qH C10;have d0:=R.zab (i:=0) x10 rfl;have d1:=R.zab (i:=1) x10 rfl;have d2:=R.zab (i:=2) x10 rfl;have d3:=R.zab (i:=3) x10 rfl;have d4:=R.zab (i:=4) x10 rfl;have d5:=R.zab (i:=5) x10 rfl;have q0:=R.zab (i:=0) x102 rfl;have y0:=R.zac (i:=0) x102;have q1:=R.zab (i:=1) x102 rfl;have y1:=R.zac (i:=1) x102;have q2:=R.zab (i:=2) x102 rfl;have y2:=R.zac (i:=2) x102;have q3:=R.zab (i:=3) x102 rfl;have y3:=R.zac (i:=3) x102;have q4:=R.zab (i:=4) x102 rfl;have y4:=R.zac (i:=4) x102;have q5:=R.zab (i:=5) x102 rfl;have y5:=R.zac (i:=5) x102;clear C10 x10 x102;go_wp2;obtain⟨hbx,hgr⟩:=R.put6 HX102.out (.bool false) (.bool false) (.slice none ([]:List R.Item).length 0) (.slice vo xs.length vc) (.slice none 0 0) (.int .i64 c);refine bodyPost_ret (R.za5 rfl _ _ w.heap.size #[.bool false,.bool false,.slice none ([]:List R.Item).length 0,.slice vo xs.length vc,.slice none 0 0,.int .i64 c] hbx underlying194 (by kernel_rfl) rfl) rfl ?_;have hend:o= .ok ⟨false,false,[],xs,[],c⟩ q:=by rw[HEnd.out];unfold R.sideTail;rw[if_neg h125]
     rw[hend];refine⟨_,rfl,⟨⟨_,_,_,_,none,0,rfl⟩,?_⟩,HC10.out.apart hgr n1 HT1.out,R.zan HG10.out hgr qN⟩;have t1:=((HSB10.out.cur hgr (by omega)).free (F':=w.heap.size) (by omega)).and ((HSS10.out.cur hgr (by omega)).free (F':=w.heap.size) (by omega));exact t1.imp fun w' h=>⟨_,_,_,_,none,0,rfl,h.1,h.2,R.Its.nil w',by simp only[R.I64];omega⟩
