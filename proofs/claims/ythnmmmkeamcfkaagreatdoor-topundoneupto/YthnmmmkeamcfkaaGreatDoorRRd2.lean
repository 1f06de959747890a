import Derived.Test.YthnmmmkeamcfkaaGreatDoorTPart
set_option maxHeartbeats 0
set_option maxRecDepth 20000
namespace Go.Proofs.YthnmmmkeamcfkaaGreatDoor
open Go.Proofs.Tryz
section
open Go.RowKit
theorem zrz {l:List Int}{p q:Nat}{r:Int}(h:T.chr l p= .ok r q):p<q:=by
 unfold T.chr at h;split at h
 ·unfold T.esc at h;split at h
  ·unfold T.num at h;split at h
   ·cases h
   ·split at h
    ·cases h
    ·split at h
     ·cases h
     ·split at h
      ·cases h
      ·cases h;have:=T.za3 T.hexd l (p+1+2);omega
  ·split at h
   ·cases h;omega
   ·split at h
    ·cases h;omega
    ·split at h
     ·cases h
     ·cases h;omega
 ·split at h
  ·cases h;omega
  ·cases h
theorem zu9 {l:List Int}{p q:Nat}{x:S.Sp}(h:T.span l p= .ok x q):p<q:=by
 unfold T.span at h;cases h1:T.chr l p with
 | bad e r=>rw[h1] at h;cases h
 | ok lo r =>
  rw[h1] at h;simp only at h;have b1:=zrz h1;split at h
  ·cases h;exact b1
  ·cases h2:T.chr l (r+1) with
   | bad e r'=>rw[h2] at h;cases h
   | ok hi r' =>
    rw[h2] at h;simp only at h;have b2:=zrz h2;split at h
    ·cases h
    ·cases h;omega
theorem zw0 {l:List Int}{p q:Nat}{s:List S.Sp}(h:T.cls l p= .ok s q):p<q:=by
 unfold T.cls at h;split at h
 ·cases h
 ·split at h
  ·cases h
  ·split at h
   ·cases h
   ·cases h;have:=T.za3 T.ordy l (p+2);omega
theorem zel {P:Int->Bool}{p q:Nat}{s:List S.Sp}(h:T.made P p= .ok s q):q=p:=by
 unfold T.made at h;split at h
 ·cases h
 ·cases h;rfl
theorem zkj {sub:Nat->T.Out (List S.Sp)}(hsub:∀p t q,sub p= .ok t q->p<q){l:List Int}{s t:List S.Sp}{p q:Nat}(h:T.part sub l s p= .ok t q):p<q:=by
 have hk:=T.za3 T.blank l (p+1);unfold T.part at h;split at h
 ·cases h1:sub (T.skipW T.blank l (p+1)) with
  | bad e r=>rw[h1] at h;cases h
  | ok u r=>rw[h1] at h;have:=hsub _ _ _ h1;have:=zel h;omega
 ·split at h
  ·cases h1:sub (T.skipW T.blank l (p+1)) with
   | bad e r=>rw[h1] at h;cases h
   | ok u r=>rw[h1] at h;have:=hsub _ _ _ h1;have:=zel h;omega
  ·split at h
   ·cases h1:T.cls l p with
    | bad e r=>rw[h1] at h;cases h
    | ok u r=>rw[h1] at h;have:=zw0 h1;have:=zel h;omega
   ·split at h
    ·cases h1:sub p with
     | bad e r=>rw[h1] at h;cases h
     | ok u r=>rw[h1] at h;have:=hsub _ _ _ h1;have:=zel h;omega
    ·cases h1:T.span l p with
     | bad e r=>rw[h1] at h;cases h
     | ok u r=>rw[h1] at h;have:=zu9 h1;have:=zel h;omega
theorem zq5 {sub:Nat->T.Out (List S.Sp)}(hsub:∀p t q,sub p= .ok t q->p<q){l:List Int}:∀(f:Nat) {s t:List S.Sp} {p q:Nat},T.loop f sub l s p= .ok t q->p<q:=by
 intro f
 induction f with
 | zero=>intro s t p q h;rw[T.loop] at h;cases h
 | succ f ih =>
  intro s t p q h;rw[T.loop] at h;split at h
  ·cases h;omega
  ·cases h1:T.part sub l s p with
   | bad e r=>rw[h1] at h;cases h
   | ok u r =>
    rw[h1] at h;simp only at h;have:=zkj hsub h1;have:=ih h;have:=T.za3 T.blank l r;omega
theorem zhl {l:List Int}:∀(n p:Nat) (t:List S.Sp) (q:Nat),T.setN n l p= .ok t q->p<q:=by
 intro n
 induction n with
 | zero=>intro p t q h;rw[T.setN] at h;split at h <;> cases h
 | succ n ih =>
  intro p t q h;rw[T.setN] at h;split at h
  ·cases h
  ·split at h
   ·cases h1:T.loop (l.length+1) (T.setN n l) l [] (T.skipW T.blank l (p+2)) with
    | bad e r=>rw[h1] at h;cases h
    | ok u r =>
     rw[h1] at h;have:=zq5 ih _ h1;have:=zel h;have:=T.za3 T.blank l (p+2);omega
   ·have:=zq5 ih _ h;have:=T.za3 T.blank l (p+1);omega
noncomputable def T.finish (ng:Bool):T.Out (List S.Sp)->T.Out (List S.Sp)
 | .bad e q=> .bad e q
 | .ok s q=>if ng=true then T.made (S.notP s) q else .ok s q
theorem zsz (w:World)(cb tb cap p:Nat)(ao:Option Addr)(l:List Int)(C:T.Cur w cb tb cap ao l p) :
  Calls prog 219 #[.pointer (some ⟨cb,0,none⟩),.int .i64 21] w (T.Ends w cb tb cap ao l (T.setN 0 l p) (T.isSetF w.heap.size)):=by
 have c1:=C.cell1;have HC:=qH C;clear C;rw[T.setN]
 by_cases h:T.see l p=91
 ·rw[if_neg (by simp[h])]
  go_enter func219,ntmps219
  go_wp2_with fail
  refine(za1 _ cb tb cap p ao l 91 (by decide) HC.out h).mono ?_;rintro e w1 ⟨rfl,C1,g1⟩
  go_wp2_with (go_at_call 58;refine(zav _ 4 p).mono ?_;unfold T.thrown;rintro e w2 ⟨rfl,rfl⟩)
  exact⟨rfl,rfl,g1⟩
 ·rw[if_pos h]
  go_enter func219,ntmps219
  go_wp2_with fail
  refine(zb0 _ cb tb cap p ao l 91 (by decide) HC.out h).mono ?_;unfold T.thrown;rintro e w1 ⟨rfl,g1⟩;go_wp2;exact⟨rfl,rfl,g1⟩
theorem zsy (hC:T.ClassOk)(n:Nat)(hn:n<20)(cb tb cap:Nat)(ao:Option Addr)(l:List Int)(hS:T.SetOk cb tb cap ao l ((20 - n:Nat)+1:Int) (T.setN n l)):T.SetOk cb tb cap ao l ((20 - n:Nat):Int) (T.setN (n+1) l):=by
 intro w p C;obtain⟨deep,HD⟩:∃d:Nat,Hid (d=20 - n):=⟨_,rfl⟩;rw[<- HD.out] at hS ⊢;have hd1:deep<=20:=by have:=HD.out;omega
 have c1:=C.cell1;have hlen:=C.len;have HC:=qH C;have HS:=qH hS;have HK:=qH hC;clear C hS hC;obtain⟨o,HO⟩:∃o,Hid (T.setN (n+1) l p=o):=⟨_,rfl⟩;rw[HO.out]
 by_cases h:T.see l p=91
 ·go_enter func219,ntmps219
  go_wp2_with fail
  refine(za1 _ cb tb cap p ao l 91 (by decide) HC.out h).mono ?_;rintro e w1 ⟨rfl,C1,g1⟩;have HC1:=qH C1;have HG1:=qH g1;clear C1 g1;have hdd:¬ 20<(deep:Int):=by omega
  go_wp2_with fail
  refine(zas _ cb tb cap (p+1) ao l 94 (by decide) HC1.out).mono ?_;rintro e w2 ⟨rfl,C2,g2⟩;have HG2:=qH <| S.zaa HG1.out g2;obtain⟨p2,HP2⟩:∃p2,Hid ((if T.see l (p+1)=94 then p+1+1 else p+1)=p2):=⟨_,rfl⟩;obtain⟨ng,HNg⟩:∃b:Bool,Hid (decide (T.see l (p+1)=94)=b):=⟨_,rfl⟩;rw[HP2.out] at C2;rw[HNg.out];have HC2:=qH C2;clear C2 g2
  go_wp2_with fail
  refine(zbk _ cb tb cap p2 ao l HC2.out).mono ?_;rintro e w3 ⟨rfl,C3,g3⟩;have HG3:=qH <| S.zaa HG2.out g3;have HC3:=qH C3;clear C3 g3;obtain⟨L0,HL0⟩:∃L0,Hid (T.loop (l.length+1) (T.setN n l) l [] (T.skipW T.blank l p2)=L0):=⟨_,rfl⟩
  have HFin:Hid (o=T.finish ng L0):=by
   show _=_;rw[<- HO.out,<- HL0.out,<- HP2.out,<- HNg.out,T.setN,if_neg (by simp[h])]
   by_cases h94:T.see l (p+1)=94
   ·rw[if_pos h94,if_pos h94,decide_eq_true h94];cases T.loop (l.length+1) (T.setN n l) l [] (T.skipW T.blank l (p+2)) <;> rfl
   ·rw[if_neg h94,if_neg h94,decide_eq_false h94];cases T.loop (l.length+1) (T.setN n l) l [] (T.skipW T.blank l (p+1)) <;> rfl
  go_wp2
  go_loopw [7] (fun sv wr=>∃(s:List S.Sp) (q f vc:Nat) (vo:Option Addr),sv= .slice vo s.length vc/\Hid (T.isSetF w.heap.size s (.slice vo s.length vc) wr)/\Hid (T.Cur wr cb tb cap ao l q)/\Hid (w.grownBy wr (some cb))/\Hid (l.length<q+f)/\Hid (T.loop f (T.setN n l) l s q=L0)) (fun _ wr=>l.length - T.pos wr cb)
  case atStart=>exact⟨[],T.skipW T.blank l p2,l.length+1,0,none,rfl,⟨⟨S.Rd.nil _,trivial,by simp⟩,S.Fresh.nil _⟩,HC3,HG3,by show _<_;omega,HL0⟩
  case round =>
   obtain⟨s,q,f,vc,vo,rfl,HV,HCq,HG,HF,HL⟩:=hrel;have HPos:Hid _:=HCq.out.pos;have hql:=HCq.out.le;obtain⟨f,rfl⟩:∃g,f=g+1:=⟨f - 1,by have:=HF.out;omega⟩
   go_wp2_with fail
   refine(zas _ cb tb cap q ao l 93 (by decide) HCq.out).mono ?_;rintro e w4 ⟨rfl,C4,g4⟩;have HG4:=qH <| S.zaa HG.out g4;have HV4:=qH <| HV.out.1.cur HCq.out g4;have HFr:=qH HV.out.2;clear g4
   by_cases h93:T.see l q=93
   ·rw[if_pos h93] at C4;have HC4:=qH C4;clear C4;have hL:L0= .ok s (q+1):=by rw[<- HL.out,T.loop,if_pos h93]
    have hFin:=HFin.out;rw[hL] at hFin;have HFn:Hid _:=hFin;clear hFin hL;cases ng with
    | true =>
     go_wp2_with fail
     refine(zvu _ _ s HV4.out.1 (S.Fit.zc8 HV4.out.2.1 (Int.le_refl _))).mono ?_;rintro e w7 ⟨v7,rfl,R7,b7,f7,_⟩;have HF7:=qH <| f7.mono HG4.out.size;rw[S.zbe HV4.out.2.1 HV4.out.2.2] at R7 ⊢;have HR7:=qH R7;have HC7:=qH <| HC4.out.below b7;have HG7:=qH <| S.zaa HG4.out (S.zaf b7);clear R7 b7 f7;generalize hre:S.resE 0 0 (S.notP s)=re;have HRe:Hid _:=hre;clear hre
     go_wp2_with fail
     rw[<- HRe.out];refine(zcz _ cb tb cap (q+1) ao l HC7.out (S.notP s) (S.zvv s) v7 HR7.out _ HF7.out).mono ?_;intro e w8 hm;have ho:T.made (S.notP s) (q+1)=o:=by rw[HFn.out];rfl
     rw[ho] at hm;cases o with
     | bad er r =>
      obtain⟨rfl,g8⟩:=hm;unfold T.thrown;go_wp2;exact⟨rfl,rfl,S.zaa HG7.out g8⟩
     | ok u r =>
      obtain⟨v8,rfl,hv8,C8,g8⟩:=hm;have HV8:=qH hv8;clear hv8;go_wp2;go_ret;exact⟨_,rfl,HV8.out,C8,S.zaa HG7.out g8⟩
    | false =>
     go_wp2;go_ret
     rw[HFn.out];exact⟨_,rfl,⟨HV4.out,HFr.out⟩,HC4.out,HG4.out⟩
   ·rw[if_neg h93] at C4;have HC4:=qH C4;clear C4
    go_wp2_with fail
    refine(ztf HK.out _ cb tb cap q ao l deep hd1 (T.setN n l) HS.out HC4.out _ s HV4.out).mono ?_;intro e w5 hp;cases hc:T.part (T.setN n l) l s q with
    | bad er r =>
     rw[hc] at hp;obtain⟨rfl,g5⟩:=hp;have hFin:=HFin.out;rw[<- HL.out,T.loop,if_neg h93,hc] at hFin;unfold T.thrown;go_wp2;refine⟨rfl,?_⟩;rw[hFin];exact⟨rfl,S.zaa HG4.out g5⟩
    | ok t r =>
     rw[hc] at hp;obtain⟨v5,rfl,hv5,C5,g5⟩:=hp;have hqr:=zkj (zhl n) hc;have HV5:=qH hv5.1;have HF5:=qH <| hv5.2.mono HG4.out.size;have HC5:=qH C5;have HG5:=qH <| S.zaa HG4.out g5;have HL5:Hid (T.loop f (T.setN n l) l t (T.skipW T.blank l r)=L0):=by show _=_;rw[<- HL.out,T.loop,if_neg h93,hc]
     obtain⟨tgo,tc,ht⟩:=hv5.1.1.len;subst ht;clear hv5 C5 g5 hc
     go_wp2_with fail
     refine(zbk _ cb tb cap r ao l HC5.out).mono ?_;rintro e w6 ⟨rfl,C6,g6⟩;have HC6:=qH C6;have HV6:=qH <| HV5.out.cur HC5.out g6;have HG6:=qH <| S.zaa HG5.out g6;have hge:=T.za3 T.blank l r;clear C6 g6;go_wp2
     go_roundw
     case rel=>exact⟨t,_,f,tc,tgo,rfl,⟨HV6.out,HF5.out⟩,HC6,HG6,by have:=HF.out;show _<_;omega,HL5⟩
     case measure =>
      rw[HC6.out.pos,HPos.out];have:=HC6.out.le;omega
 ·go_enter func219,ntmps219
  go_wp2_with fail
  refine(zb0 _ cb tb cap p ao l 91 (by decide) HC.out h).mono ?_;unfold T.thrown;rintro e w1 ⟨rfl,g1⟩;go_wp2;refine⟨rfl,?_⟩;rw[<- HO.out,T.setN,if_pos h];exact⟨rfl,g1⟩
theorem zvf (hC:T.ClassOk)(cb tb cap:Nat)(ao:Option Addr)(l:List Int):∀n,n<=20->T.SetOk cb tb cap ao l ((21 - n:Nat):Int) (T.setN n l):=by
 intro n
 induction n with
 | zero=>intro _ w p C;exact zsz w cb tb cap p ao l C
 | succ n ih =>
  intro hn;have h:=ih (by omega);have e:((21 - n:Nat):Int)=((20 - n:Nat):Int)+1:=by omega
  rw[e] at h;have e2:(21 - (n+1):Nat)=20 - n:=by omega
  rw[e2];exact zsy hC n (by omega) cb tb cap ao l h
theorem zln (hK:T.ClassOk)(w:World)(cb tb cap p:Nat)(ao:Option Addr)(l:List Int)(C:T.Cur w cb tb cap ao l p) :
  Calls prog 194 #[.pointer (some ⟨cb,0,none⟩)] w (T.Ends w cb tb cap ao l (T.setN 20 l p) (T.isSetF w.heap.size)):=by
 have HC:=qH C;have HS:=qH <| zvf hK cb tb cap ao l 20 qN;clear C;obtain⟨o,HO⟩:∃o,Hid (T.setN 20 l p=o):=⟨_,rfl⟩;rw[HO.out]
 go_enter func194,ntmps194
 go_wp2_with fail
 refine(HS.out _ _ HC.out).mono ?_;intro e w2 h;rw[HO.out] at h;cases o with
 | bad er q =>
  obtain⟨rfl,g2⟩:=h;unfold T.thrown;go_wp2;exact⟨rfl,rfl,g2⟩
 | ok t q =>
  obtain⟨v2,rfl,hv2,C2,g2⟩:=h;have HV2:=qH hv2;have HC2:=qH C2;have HG2:=qH g2;obtain⟨vo,vc,hv⟩:=hv2.1.1.len;subst hv;clear hv2 C2 g2;go_wp2;go_ret;exact⟨_,rfl,HV2.out,HC2.out,HG2.out⟩
theorem T.Cur.new {w:World}{B:Nat}{v:Value}{l:List Int}(ty:TypeId)(own:w.ownsRow B 21 1 v l.length (l.map (Value.int .i32)))(hl:l.length<=16000)(hr:∀z∈l,M.right z=true) :
  ∃ao cap tb,v= .slice ao l.length cap/\T.Cur (w.alloc (.cells #[v,.int .i64 0] ty)) w.heap.size tb cap ao l 0:=by
 have hc:=fun g hg=>World.ownsRow.cells own (g:=g) hg
 rcases own.2 with ⟨rfl,h0⟩|⟨g,cap,cur,rfl,hBg,hgg,hcap,_⟩
 ·have hnil:l= []:=by simpa using h0
  subst hnil;exact⟨none,0,w.heap.size+1,rfl,⟨ty,heap_alloc_new w _⟩,fun h=>absurd rfl h,fun j z hj=>by simp at hj,by omega,Nat.zero_le _,hl,Nat.zero_le _,hr⟩
 ·have hlt:=(qA.1 hgg).1;refine⟨_,cap,g,rfl,⟨ty,heap_alloc_new w _⟩,fun _=>rfl,fun j z hj=> ?_,by omega,Nat.zero_le _,hl,hcap,hr⟩;have:=hc g rfl j (.int .i32 z) (by simp[hj]);rw[L.addr_add,Nat.zero_add] at this;rw[World.cell?_of_block (a:=⟨g,j,none⟩) (Below.heap_alloc w _ g hlt)];exact this
end
section
open Go.RowKit
namespace R
open T (see skipW)
theorem zpv {f:Int->Bool}{l:List Int}{p:Nat}(h:f (see l p)=true)(h0:f (-1)=false):skipW f l p=skipW f l (p+1):=by
 have hp:p<l.length:=by
  apply Classical.byContradiction;intro hn;rw[T.zds (by omega),h0] at h;cases h
 have hs:=T.zev hp;unfold skipW;rw[List.drop_eq_getElem_cons hp,List.takeWhile_cons];have:l[p]=see l p:=by rw[List.getElem?_eq_getElem hp] at hs;exact Option.some.inj hs
 rw[this,if_pos h,List.length_cons];omega
theorem zri {f:Nat}{l:List Int}{p q:Nat}(hq:skipW T.blank l p=q)(h:see l q=35):gapN (f+1) l p=gapN f l (skipW notNl l (q+1)):=by
 rw[gapN,hq,if_pos h]
theorem zt2 {f:Nat}{l:List Int}{p q:Nat}(hq:skipW T.blank l p=q)(h:see l q≠35):gapN (f+1) l p=q:=by
 rw[gapN,hq,if_neg h]
theorem zmb (l:List Int)(p:Nat):p<=gap l p:=by
 unfold gap;generalize l.length+1=f
 induction f generalizing p with
 | zero=>exact qN
 | succ f ih =>
  rw[gapN];have h1:=T.za3 T.blank l p;split
  ·have h2:=ih (skipW notNl l (skipW T.blank l p+1));have h3:=T.za3 notNl l (skipW T.blank l p+1);omega
  ·exact h1
end R
theorem za0 (w:World)(cb tb cap p:Nat)(ao:Option Addr)(l:List Int)(C:T.Cur w cb tb cap ao l p) :
  Calls prog 108 #[.pointer (some ⟨cb,0,none⟩)] w fun e w'=>e= .returned (.tuple #[])/\T.Cur w' cb tb cap ao l (R.gap l p)/\w.grownBy w' (some cb):=by
 have hlen:=C.len;have hple:=C.le;have HC:=qH C;clear C;obtain⟨G,HGp⟩:∃G,Hid (R.gap l p=G):=⟨_,rfl⟩;rw[HGp.out]
 go_enter func108,ntmps108
 go_wp2_with fail
 refine(zbk _ cb tb cap p ao l HC.out).mono ?_;rintro e w1 ⟨rfl,C1,g1⟩;have HC1:=qH C1;have HG1:=qH g1;clear C1 g1;go_wp2
 go_loopw [9] (fun _ wr=>∃(p' q f:Nat),Hid (T.skipW T.blank l p'=q)/\Hid (l.length<p'+f)/\Hid (R.gapN f l p'=G)/\Hid (T.Cur wr cb tb cap ao l q)/\Hid (w.grownBy wr (some cb))) (fun _ wr=>l.length - T.pos wr cb)
 case atStart=>exact⟨p,_,l.length+1,rfl,by show _<_;omega,HGp,HC1,HG1⟩
 case round =>
  obtain⟨p',q,f,HQ,HF,HN,HCq,HG⟩:=hrel;have HPos:Hid _:=HCq.out.pos;have hql:=HCq.out.le;have hpq:p'<=q:=by have:=T.za3 T.blank l p';have:=HQ.out;omega
  obtain⟨f,rfl⟩:∃g,f=g+1:=⟨f - 1,by have:=HF.out;omega⟩
  go_wp2_with fail
  refine(zas _ cb tb cap q ao l 35 (by decide) HCq.out).mono ?_;rintro e w2 ⟨rfl,C2,g2⟩;have HG2:=qH <| S.zaa HG.out g2;clear g2
  by_cases h35:T.see l q=35
  ·rw[if_pos h35] at C2;have HC2:=qH C2;have HN2:Hid (R.gapN f l (T.skipW R.notNl l (q+1))=G):=by show _=_;rw[<- R.zri HQ.out h35];exact HN.out
   clear C2;obtain⟨E,HE⟩:∃E,Hid (T.skipW R.notNl l (q+1)=E):=⟨_,rfl⟩;have hE:q+1<=E:=by have:=T.za3 R.notNl l (q+1);have:=HE.out;omega
   rw[HE.out] at HN2;go_wp2
   go_loopw [21] (fun _ wr=>∃k:Nat,q+1<=k/\Hid (T.skipW R.notNl l k=E)/\Hid (T.Cur wr cb tb cap ao l k)/\Hid (w.grownBy wr (some cb))) (fun _ wr=>l.length - T.pos wr cb)
   case atStart=>exact⟨q+1,qN,HE,HC2,HG2⟩
   case round =>
    obtain⟨k,hk,HK,HCk,HGk⟩:=hrel;have HPk:Hid _:=HCk.out.pos;have hkl:=HCk.out.le
    go_wp2_with fail
    refine(zd4 _ cb tb cap k ao l HCk.out).mono ?_;rintro e w3 ⟨rfl,b3⟩;have HC3:=qH <| HCk.out.below b3;have HG3:=qH <| S.zaa HGk.out (S.zaf b3);clear b3
    have fin:∀w4,T.Cur w4 cb tb cap ao l k->R.notNl (T.see l k)=false->T.Cur w4 cb tb cap ao l E:=fun w4 C4 hn=>by
     have:E=k:=by rw[<- HK.out];exact T.zgm hkl (by decide) hn
     rw[this];exact C4
    have Hfin:Hid _:=fin;clear fin
    by_cases hd:T.see l k= -1
    ·go_wp2_with fail
     refine(zbk _ cb tb cap E ao l (Hfin.out _ HC3.out (by rw[hd];decide))).mono ?_;rintro e w5 ⟨rfl,C5,g5⟩;have HC5:=qH C5;have HG5:=qH <| S.zaa HG3.out g5;have hge:=T.za3 T.blank l E;clear C5 g5;go_wp2
     go_roundw
     case rel=>exact⟨E,_,f,rfl,by have:=HF.out;show _<_;omega,HN2,HC5,HG5⟩
     case measure =>
      rw[HC5.out.pos,HPos.out];have:=HC5.out.le;omega
    ·go_wp2_with fail
     refine(zbp _ cb tb cap k ao l 10 HC3.out).mono ?_;rintro e w4 ⟨rfl,b4⟩;have C4:=HC3.out.below b4;have c4:=C4.cell1;have f4:=C4.frz1;have HC4:=qH C4;have HG4:=qH <| S.zaa HG3.out (S.zaf b4);clear b4 C4
     by_cases hn:T.see l k=10
     ·go_wp2_with fail
      refine(zbk _ cb tb cap E ao l (Hfin.out _ HC4.out (by rw[hn];decide))).mono ?_;rintro e w5 ⟨rfl,C5,g5⟩;have HC5:=qH C5;have HG5:=qH <| S.zaa HG4.out g5;have hge:=T.za3 T.blank l E;clear C5 g5;go_wp2
      go_roundw
      case rel=>exact⟨E,_,f,rfl,by have:=HF.out;show _<_;omega,HN2,HC5,HG5⟩
      case measure =>
       rw[HC5.out.pos,HPos.out];have:=HC5.out.le;omega
     ·have hlt:=HC4.out.inside hd;go_wp2
      go_roundw
      case rel =>
       refine⟨k+1,by omega,?_,HC4.out.set (q:=k+1) (by omega),S.zaa HG4.out (zc4 _ _ _ _)⟩;show _=_;rw[<- HK.out];exact(R.zpv (p:=k) (by simp[R.notNl,hd,hn]) (by decide)).symm
      case measure =>
       have h1:T.pos (w4.setCell ⟨cb,1,none⟩ (.int .i64 ((k:Int)+1))) cb=k+1:=(HC4.out.set (q:=k+1) (by omega)).pos;rw[h1,HPk.out];omega
  ·rw[if_neg h35] at C2;have hG:G=q:=by rw[<- HN.out,R.zt2 HQ.out h35]
   subst hG;have HC2:=qH C2;clear C2;go_wp2
   go_end0
   exact⟨rfl,HC2.out,HG2.out⟩
theorem zmx {m:List Int}(h:∀r∈m,R.wordy r=true):runesBytes m=R.bytes m:=by
 apply Go.WideShapes.bytes_inj;rw[zbf];unfold R.bytes;simp only
 induction m with
 | nil=>rfl
 | cons r m ih =>
  have hb:=R.zjt (h r (by simp));rw[List.flatMap_cons,List.map_cons,ih fun x hx=>h x (List.mem_cons_of_mem _ hx)];obtain⟨n,rfl⟩:∃n:Nat,r=(n:Int):=⟨r.toNat,by omega⟩;rw[M.ze0 n (T.zka (by omega) (by omega)),if_pos (by omega)];rfl
theorem zrs {l:List Int}{p q:Nat}(h:∀i,p<=i->i<q->R.wordy (T.see l i)=true):∀r∈T.cut l p q,R.wordy r=true:=fun r hr=>by
 obtain⟨j,hj⟩:=List.getElem?_of_mem hr;have h5:=T.zhm (zh5 hj)
 have hlj:j<q - p:=by
  have:=(qL.1 hj).1;unfold T.cut at this;rw[List.length_take] at this;omega
 have h4:=h (p+j) (by omega) (by omega);rw[h5] at h4;exact h4
theorem zlp (w:World)(cb tb cap p:Nat)(ao:Option Addr)(l:List Int)(hne:l≠ [])(C:T.Cur w cb tb cap ao l p) :
  Calls prog 216 #[.pointer (some ⟨cb,0,none⟩)] w fun e w'=>e= .returned (.string (R.wordAt l p))/\T.Cur w' cb tb cap ao l (R.wordEnd l p)/\w.grownBy w' (some cb):=by
 have hlen:=C.len;have hple:=C.le;have hcp:=C.cp;have hao:=C.txt hne;subst hao;have c1:=C.cell1;have HC:=qH C;clear C;obtain⟨E,HE⟩:∃E,Hid (R.wordEnd l p=E):=⟨_,rfl⟩;rw[HE.out];obtain⟨st,HSt⟩:∃s,Hid (R.wordAt l p=s):=⟨_,rfl⟩;rw[HSt.out]
 -- the text from p to q
 have Hend:Hid (∀W q,w.grownBy W (some cb)->T.Cur W cb tb cap (some ⟨tb,0,none⟩) l q->p<=q->q<=l.length->R.wordEnd l p=q->(∀i,p<=i->i<q->R.wordy (T.see l i)=true)->runesBytes (T.cut l p q)=st):=fun W q _ _ h1 h2 h3 h4=>by
  rw[zmx (zrs h4),<- HSt.out];unfold R.wordAt;rw[h3]
 go_enter func216,ntmps216
 go_wp2_with fail
 refine(za7 _ cb tb cap p 0 _ l HC.out (by omega)).mono ?_;rintro e w1 ⟨rfl,b1⟩;rw[Nat.add_zero];have HC1:=qH <| HC.out.below b1;have HG1:Hid (w.grownBy w1 (some cb)):=S.zaf b1;clear b1 c1
 go_wp2_with fail
 refine(zbc _ _).mono ?_;rintro e w2 ⟨rfl,rfl⟩;have i1:(0:Int)<=(p:Int):=by omega
 by_cases hl:R.letter (T.see l p)=true
 ·have hpl:=HC1.out.inside (by intro h;rw[h] at hl;revert hl;decide);have HEw:Hid (T.skipW R.wordy l p=E):=by show _=_;rw[<- HE.out];unfold R.wordEnd;rw[if_pos hl]
  go_wp2
  go_loopw [25] (fun _ wr=>∃q:Nat,p<=q/\Hid (∀i,p<=i->i<q->R.wordy (T.see l i)=true)/\Hid (T.Cur wr cb tb cap (some ⟨tb,0,none⟩) l q)/\Hid (w.grownBy wr (some cb))) (fun _ wr=>l.length - T.pos wr cb)
  case atStart=>exact⟨p,qN,fun i h1 h2=>by omega,HC1,HG1⟩
  case round =>
   obtain⟨q,hq,HA,HCq,HG⟩:=hrel;have HPos:Hid _:=HCq.out.pos;have hql:=HCq.out.le
   go_wp2_with fail
   refine(za7 _ cb tb cap q 0 _ l HCq.out (by omega)).mono ?_;rintro e w3 ⟨rfl,b3⟩;rw[Nat.add_zero];have C3:=HCq.out.below b3;have c3:=C3.cell1;have f3:=C3.frz1;have c3t:=C3.cell0;have HC3:=qH C3;have HG3:=qH <| S.zaa HG.out (S.zaf b3);clear b3 C3
   go_wp2_with fail
   refine(zbc _ _).mono ?_;rintro e w4 ⟨rfl,rfl⟩
   have HGo:Hid (∀W,T.Cur W cb tb cap (some ⟨tb,0,none⟩) l q->R.wordy (T.see l q)=true->q<l.length/\∀i,p<=i->i<q+1->R.wordy (T.see l i)=true):=fun W CW hw=>by
    refine⟨CW.inside (by intro h;rw[h] at hw;revert hw;decide),fun i h1 h2=> ?_⟩
    by_cases e:i=q
    ·rw[e];exact hw
    ·exact HA.out i h1 (by omega)
   by_cases hlq:R.letter (T.see l q)=true
   ·obtain⟨hlt,hal⟩:=HGo.out _ HC3.out (R.ziy hlq);have HAl:Hid _:=hal;clear hal;go_wp2
    go_roundw
    case rel=>exact⟨q+1,by omega,HAl,HC3.out.set (q:=q+1) (by omega),S.zaa HG3.out (zc4 _ _ _ _)⟩
    case measure =>
     have h1:T.pos (w4.setCell ⟨cb,1,none⟩ (.int .i64 ((q:Int)+1))) cb=q+1:=(HC3.out.set (q:=q+1) (by omega)).pos;rw[h1,HPos.out];omega
   ·clear c3 f3 c3t
    go_wp2_with fail
    refine(za7 _ cb tb cap q 0 _ l HC3.out (by omega)).mono ?_;rintro e w5 ⟨rfl,b5⟩;rw[Nat.add_zero];have C5:=HC3.out.below b5;have c5:=C5.cell1;have f5:=C5.frz1;have c5t:=C5.cell0;have HC5:=qH C5;have HG5:=qH <| S.zaa HG3.out (S.zaf b5);clear b5 C5
    go_wp2_with fail
    refine(zd5 _ _).mono ?_;rintro e w6 ⟨rfl,rfl⟩
    by_cases hdq:R.digit (T.see l q)=true
    ·obtain⟨hlt,hal⟩:=HGo.out _ HC5.out (by unfold R.wordy;rw[hdq];simp);have HAl:Hid _:=hal;clear hal;go_wp2
     go_roundw
     case rel=>exact⟨q+1,by omega,HAl,HC5.out.set (q:=q+1) (by omega),S.zaa HG5.out (zc4 _ _ _ _)⟩
     case measure =>
      have h1:T.pos (w6.setCell ⟨cb,1,none⟩ (.int .i64 ((q:Int)+1))) cb=q+1:=(HC5.out.set (q:=q+1) (by omega)).pos;rw[h1,HPos.out];omega
    ·have hno:R.wordy (T.see l q)=false:=by unfold R.wordy;simp at hlq hdq;rw[hlq,hdq];rfl
     have hEq:E=q:=by rw[<- HEw.out];exact T.zci hq hql HA.out hno (by decide)
     have hpq:p<q:=by
      apply Classical.byContradiction;intro hn;have:q=p:=by omega
      rw[this] at hlq;exact hlq hl
     have i2:(p:Int)<=(q:Int):=by omega
     have i3:(q:Int)<=(cap:Int):=by omega
     have hcf:¬cap=p:=by omega
     have hst:=Hend.out _ q HG5.out HC5.out hq hql (by rw[HE.out,hEq]) HA.out
     have hcv:∀n,(convert 33 9 (.slice (some ⟨tb,p,none⟩) (q - p) (cap - p))).run prog (w6.drewN n)= .ok (.string st) (w6.drewN n):=fun n=>by
      rw[<- hst];exact(HC5.out.drewN n).text hq hql _ (fun _=>rfl) _
     subst hEq;clear hst;go_wp2
     go_quiet (fail)
     go_wp2;go_ret
     exact⟨rfl,HC5.out.drewN _,S.zaa HG5.out (zb5 _ _ _)⟩
 ·have hEp:E=p:=by rw[<- HE.out];unfold R.wordEnd;rw[if_neg hl]
  subst hEp;have C1:=HC1.out;have c1:=C1.cell1;have c1t:=C1.cell0;clear C1;have hst:=Hend.out _ E HG1.out HC1.out qN hple HE.out (fun i h1 h2=>by omega)
  have hcv:∀a c n,(convert 33 9 (.slice (some a) 0 c)).run prog (w2.drewN n)= .ok (.string st) (w2.drewN n):=fun a c n=>by
   have:=(HC1.out.drewN n).text (Nat.le_refl E) hple a (fun h=>absurd h (Nat.lt_irrefl _)) c;rw[Nat.sub_self] at this;rw[<- hst];exact this
  clear hst;have i3:(E:Int)<=(cap:Int):=by omega
  by_cases hcf:cap=E
  all_goals go_wp2
  all_goals go_quiet (fail)
  all_goals go_wp2
  all_goals go_ret
  all_goals exact⟨rfl,HC1.out.drewN _,S.zaa HG1.out (zb5 _ _ _)⟩
theorem ze9 (w:World)(cb tb cap p:Nat)(ao:Option Addr)(l:List Int)(C:T.Cur w cb tb cap ao l p) :
  Calls prog 217 #[.pointer (some ⟨cb,0,none⟩)] w fun e w'=>e= .returned (.bool (R.varNext l p))/\Below w.heap.size w w':=by
 have HC:=qH C;clear C;unfold R.varNext
 go_enter func217,ntmps217
 go_wp2_with fail
 refine(zbp _ cb tb cap p ao l 36 HC.out).mono ?_;rintro e w1 ⟨rfl,b1⟩;have HC1:=qH <| HC.out.below b1;have HB1:=qH b1;clear b1
 by_cases h:T.see l p=36
 ·go_wp2_with fail
  refine(za7 _ cb tb cap p 1 ao l HC1.out (by omega)).mono ?_;rintro e w2 ⟨rfl,b2⟩;have HB2:=qH <| HB1.out.trans (b2.mono HB1.out.size);clear b2
  go_wp2_with fail
  refine(zbc _ _).mono ?_;rintro e w3 ⟨rfl,rfl⟩;go_wp2;go_ret;exact⟨by simp[h],HB2.out⟩
 ·go_wp2;go_ret
  exact⟨by simp[h],HB1.out⟩
def R.isText (a:ByteArray) (v:Value) (_:World):Prop:=v= .string a
theorem zeq (w:World)(cb tb cap p:Nat)(ao:Option Addr)(l:List Int)(C:T.Cur w cb tb cap ao l p)(hv:R.varNext l p=true) :
  Calls prog 218 #[.pointer (some ⟨cb,0,none⟩)] w (T.Ends w cb tb cap ao l (R.varAt l p) R.isText):=by
 have hlen:=C.len;have HC:=qH C;clear C;obtain⟨o,HO⟩:∃o,Hid (R.varAt l p=o):=⟨_,rfl⟩;rw[HO.out];have h36:T.see l p=36:=by unfold R.varNext at hv;rw[Bool.and_eq_true] at hv;exact of_decide_eq_true hv.1
 have hne:l≠ []:=by intro h;subst h;cases h36
 clear hv
 go_enter func218,ntmps218
 go_wp2_with fail
 refine(za1 _ cb tb cap p ao l 36 (by decide) HC.out h36).mono ?_;rintro e w1 ⟨rfl,C1,g1⟩;have c1:=C1.cell1;have hp1:=C1.le;have HC1:=qH C1;have HG1:=qH g1;clear C1 g1
 go_wp2_with fail
 refine(zlp _ cb tb cap (p+1) ao l hne HC1.out).mono ?_;rintro e w2 ⟨rfl,C2,g2⟩;have HC2:=qH C2;have HG2:=qH <| S.zaa HG1.out g2;clear C2 g2 c1;obtain⟨n,HNm⟩:∃n,Hid (R.wordAt l (p+1)=n):=⟨_,rfl⟩;rw[HNm.out]
 go_wp2_with fail
 refine(zdx n _).mono ?_;rintro e w3 ⟨rfl,b3⟩;have HC3:=qH <| HC2.out.below b3;have HG3:=qH <| S.zaa HG2.out (S.zaf b3);clear b3
 by_cases hn:R.named n=true
 ·go_wp2;go_ret
  rw[<- HO.out];unfold R.varAt;rw[HNm.out,if_pos hn];exact⟨_,rfl,rfl,HC3.out,HG3.out⟩
 ·go_wp2_with (go_at_call 58;refine(zav _ 7 (p+1)).mono ?_;unfold T.thrown;rintro e w4 ⟨rfl,rfl⟩)
  refine⟨rfl,?_⟩;rw[<- HO.out];unfold R.varAt;rw[HNm.out,if_neg hn];exact⟨rfl,HG3.out⟩
end
section
open Go.RowKit
set_option linter.unusedSimpArgs false
/-! a box that is the call's own -/
theorem R.za5 {fn:Func}{p:Tmp}{ty:TypeId}{fs:Array Field}(h:fn.results=#[.cell p ty])(tmps:Array Value)(w:World)(g:Nat)(cs:Array Value)(hg:w.heap[g]?=some (.cells cs ty))(hu:prog.underlying ty=some (.struct fs))
  (hi:(prog.info? ty).map (·.size)=some cs.size)
  (hp:tmps.getD p undef= .pointer (some ⟨g,0,none⟩)):(results fn tmps).run prog w= .ok (.agg cs) w:=by
 have hl:=run_loadVar_row (P:=prog) w g ty ty cs (0,0) _ hg hu rfl hi
 have e:(results fn tmps).run prog w=((asAddr (tmps.getD p undef)).run prog w).andThen fun a w₁ => (loadVar ty a).run prog w₁ := by
  simp only[results,h];simp[Sem.run_bind,Result.andThen]
 rw[e,hp];simp[asAddr,Result.andThen,hl]
theorem R.zan {w0 w9 w':World}{cb g:Nat}(h:w0.grownBy w9 (some cb))(hp:w9.grownBy w' (some g))(hg:w0.heap.size<=g):w0.grownBy w' (some cb) :=
 ⟨hp.os.trans h.os,hp.tape.trans h.tape,hp.output.trans h.output,Nat.le_trans h.size hp.size,fun k hk hne=>by
  rw[hp.block k (Nat.lt_of_lt_of_le hk h.size) (by simp;omega)];exact h.block k hk hne⟩
theorem T.Cur.apart {w w':World}{cb tb cap p g:Nat}{ao:Option Addr}{l:List Int}(C:T.Cur w cb tb cap ao l p)(hp:w.grownBy w' (some g))(hne:g≠cb)(ht:l≠ []->g≠tb):T.Cur w' cb tb cap ao l p:=by
 refine⟨?_,C.txt,fun j z hj=> ?_,C.ne,C.le,C.len,C.cp,C.rt⟩
 ·obtain⟨t,hb⟩:=C.blk;exact⟨t,by rw[hp.block cb C.lt (by simpa using Ne.symm hne)];exact hb⟩
 ·have hn:=ht (by intro h;subst h;simp at hj);have h1:=C.rd j z hj;rw[World.cell?_of_block (a:=⟨tb,j,none⟩) (hp.block tb (L.block_lt h1) (by simpa using Ne.symm hn))];exact h1
theorem R.Stays.apart {F g:Nat}{X:Option Nat}{w w':World}{Q:World->Prop}(h:R.Stays F X w Q)(hp:w.grownBy w' (some g))(hg:g<F):R.Stays F X w' Q:=h.cur hp hg
theorem T.Cur.elder {w:World}{cb tb cap p:Nat}{ao:Option Addr}{l:List Int}(C:T.Cur w cb tb cap ao l p):cb<w.heap.size/\(l≠ []->tb<w.heap.size):=⟨C.lt,C.zpg⟩
def R.ItEl (x:R.Item) (c:List Value) (w:World):Prop :=
 ∃so sc,c= [.int .i64 x.kind,.int .i32 x.rune,.slice so x.set.length sc,.string x.name]/\S.Rd w (.slice so x.set.length sc) x.set/\S.Fit x.set/\x.name.size<=140737488355328
def R.RowI (F:Nat) (w:World) (v:Value) (xs:List R.Item):Prop:=R.Row 242 4 R.ItEl F w v xs
theorem R.elemI:R.Elem 192 242 4:=⟨underlying192,⟨.agg #[.int .i64 0,.int .i32 0,.slice none 0 0,.string ⟨#[]⟩],56,by kernel_rfl,by decide,rfl⟩,by decide⟩
theorem R.RowI.its {F:Nat}{w:World}{v:Value}{xs:List R.Item}(h:R.RowI F w v xs):R.Stays F none w fun w'=>R.Its w' v xs:=fun w' hk=>by
 obtain⟨ao,cap,hv⟩:=R.Row.slice h;refine⟨ao,cap,hv,fun hz=> ?_⟩;cases xs with
 | nil=>exact absurd rfl hz
 | cons x0 xs =>
  obtain⟨g,c,hob,⟨cap',hv'⟩,_,_⟩:=R.Row.at h (j:=0) (x:=x0) rfl;refine⟨g,0,by rw[hv] at hv';cases hv';rfl,fun j x hj=> ?_⟩;obtain⟨g2,c2,hob2,_,_,hst⟩:=R.Row.at h hj;have hg:g2=g:=by rw[hob] at hob2;exact(Option.some.inj hob2).symm
  subst hg;obtain⟨hcells,so,sc,rfl,h1,h2,h3⟩:=hst w' hk;exact⟨hcells 0 _ rfl,hcells 1 _ rfl,hcells 3 _ rfl,⟨so,sc,hcells 2 _ rfl,h1⟩,h2,h3⟩
theorem R.RowI.one {F:Nat}{w:World}(k r:Int)(so:Option Addr)(sc:Nat)(st:List S.Sp)(nm:ByteArray)(hs:R.Stays F none w fun w'=>S.Rd w' (.slice so st.length sc) st)(hf:S.Fit st)(hn:nm.size<=140737488355328)(hF:F<=w.heap.size) :
  R.RowI F (w.alloc (.cells #[.int .i64 k,.int .i32 r,.slice so st.length sc,.string nm] 242)) (.slice (some ⟨w.heap.size,0,none⟩) 1 1) [⟨k,r,st,nm⟩] :=
 R.Row.one [.int .i64 k,.int .i32 r,.slice so st.length sc,.string nm] rfl (fun u hu=>by
  simp only[List.mem_cons,List.not_mem_nil,or_false] at hu
  rcases hu with rfl | rfl | rfl | rfl <;> rfl) (hs.imp fun w' h=>⟨so,sc,rfl,h,hf,hn⟩) hF
theorem zb3 (F:Nat)(w:World):R.Stays F none w fun w'=>S.Rd w' (.slice none ([]:List S.Sp).length 0) []:=fun w' _=>S.Rd.nil w'
def R.oneAt (l:List Int) (p:Nat):T.Out Int :=
 match T.chr l p with
 | .bad e q=> .bad e q
 | .ok c q=>if M.right c=true then .ok c q else .bad 3 p
def R.isOne (c:Int) (v:Value) (_:World):Prop:=v= .agg #[.int .i64 1,.int .i32 c,.slice none 0 0,.string ⟨#[]⟩]
theorem zgn (w:World)(cb tb cap p:Nat)(ao:Option Addr)(l:List Int)(C:T.Cur w cb tb cap ao l p) :
  Calls prog 282 #[.pointer (some ⟨cb,0,none⟩)] w (T.Ends w cb tb cap ao l (R.oneAt l p) R.isOne):=by
 have hlen:=C.len;have c1:=C.cell1;obtain⟨he1,he2⟩:=C.elder;have HE2:=qH he2;have HC:=qH C;clear C he2;obtain⟨o,HO⟩:∃o,Hid (R.oneAt l p=o):=⟨_,rfl⟩;rw[HO.out];have n1:¬w.heap.size=cb:=by omega
 go_enter func282,ntmps282
 go_wp2_with fail
 have bW:=(qR w).alloc qN (.cells #[.int .i64 0,.int .i32 0,.slice none 0 0,.string ⟨#[]⟩] 242);have hxW:(w.alloc (.cells #[.int .i64 0,.int .i32 0,.slice none 0 0,.string ⟨#[]⟩] 242)).heap[w.heap.size]?=some (.cells #[.int .i64 0,.int .i32 0,.slice none 0 0,.string ⟨#[]⟩] 242):=heap_alloc_new w _;have CW:=HC.out.below bW;have GW:w.grownBy _ (some cb):=S.zaf bW;refine(zlb _ cb tb cap p ao l CW).mono ?_;generalize w.alloc (.cells #[.int .i64 0,.int .i32 0,.slice none 0 0,.string ⟨#[]⟩] 242)=W0 at bW hxW CW GW;clear bW CW c1;intro e w1 h;cases hc:T.chr l p with
 | bad er q =>
  rw[hc] at h;obtain⟨rfl,g1⟩:=h;unfold T.thrown;go_wp2;refine⟨rfl,?_⟩;rw[<- HO.out];unfold R.oneAt;rw[hc];exact⟨rfl,S.zaa GW g1⟩
 | ok c q =>
  rw[hc] at h;obtain⟨v,rfl,rfl,C1,g1⟩:=h;have x1:=R.zah hxW g1 (by omega);have a0:=R.zab (i:=0) x1 rfl;have a1:=R.zab (i:=1) x1 rfl;have a2:=R.zab (i:=2) x1 rfl;have a3:=R.zab (i:=3) x1 rfl;have z0:=R.zac (i:=0) x1;have z1:=R.zac (i:=1) x1;have z2:=R.zac (i:=2) x1;have z3:=R.zac (i:=3) x1;have HX1:=qH x1;have HG1:=qH <| S.zaa GW g1;have HC1:=qH C1;have HHc:Hid _:=hc;clear hc g1 GW hxW C1 x1
  go_wp2_with fail
  refine(zfr c _).mono ?_;rintro e w2 ⟨rfl,rfl⟩
  by_cases hr:M.right c=true
  ·go_wp2;obtain⟨hbx,hgr⟩:=R.put4 HX1.out (.int .i64 1) (.int .i32 c) (.slice none 0 0) (.string ⟨#[]⟩)
   refine bodyPost_ret (R.za5 rfl _ _ w.heap.size #[.int .i64 1,.int .i32 c,.slice none 0 0,.string ⟨#[]⟩] hbx underlying242 (by kernel_rfl) rfl) rfl ?_;rw[<- HO.out];unfold R.oneAt;rw[HHc.out];simp only;rw[if_pos hr];exact⟨_,rfl,rfl,HC1.out.apart hgr n1 (fun h=>by have:=HE2.out h;omega),R.zan HG1.out hgr qN⟩
  ·go_wp2_with (go_at_call 58;refine(zav _ 3 p).mono ?_;unfold T.thrown;rintro e w3 ⟨rfl,rfl⟩)
   refine⟨rfl,?_⟩;rw[<- HO.out];unfold R.oneAt;rw[HHc.out];simp only;rw[if_neg hr];exact⟨rfl,HG1.out⟩
