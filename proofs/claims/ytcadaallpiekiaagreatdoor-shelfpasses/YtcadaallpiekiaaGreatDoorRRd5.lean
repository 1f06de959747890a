import Derived.Test.YtcadaallpiekiaaGreatDoorTSetAll
import Derived.RegionDies
set_option maxHeartbeats 0
set_option maxRecDepth 20000
set_option linter.unusedSimpArgs false
namespace Go.Proofs.YtcadaallpiekiaaGreatDoor
open Go.Proofs.Tryz
section
open Go.RowKit
namespace R
open T (see skipW)
theorem zoz {f:Int->Bool}{l:List Int}{p:Nat}(h:f (see l p)=true)(h0:f (-1)=false):skipW f l p=skipW f l (p+1):=by
 have hp:p<l.length:=by
  apply Classical.byContradiction;intro hn;rw[T.zgj (by omega),h0] at h;cases h
 have hs:=T.zew hp;unfold skipW;rw[List.drop_eq_getElem_cons hp,List.takeWhile_cons];have:l[p]=see l p:=by rw[List.getElem?_eq_getElem hp] at hs;exact Option.some.inj hs
 rw[this,if_pos h,List.length_cons];omega
theorem zqg {f:Nat}{l:List Int}{p q:Nat}(hq:skipW T.blank l p=q)(h:see l q=35):gapN (f+1) l p=gapN f l (skipW notNl l (q+1)):=by
 rw[gapN,hq,if_pos h]
theorem zst {f:Nat}{l:List Int}{p q:Nat}(hq:skipW T.blank l p=q)(h:see l q≠35):gapN (f+1) l p=q:=by
 rw[gapN,hq,if_neg h]
theorem zqf (l:List Int)(p:Nat):p<=gap l p:=by
 unfold gap;generalize l.length+1=f
 induction f generalizing p with
 | zero=>exact qN
 | succ f ih =>
  rw[gapN];have h1:=T.za1 T.blank l p;split
  ·have h2:=ih (skipW notNl l (skipW T.blank l p+1));have h3:=T.za1 notNl l (skipW T.blank l p+1);omega
  ·exact h1
end R
theorem zaz (w:World)(cb tb cap p:Nat)(ao:Option Addr)(l:List Int)(C:T.Cur w cb tb cap ao l p) :
  Calls prog 50 #[.pointer (some ⟨cb,0,none⟩)] w fun e w'=>e=.returned (.tuple #[])/\T.Cur w' cb tb cap ao l (R.gap l p)/\w.grownBy w' (some cb):=by
 have hlen:=C.len;have hple:=C.le;have HC:=qH C;clear C;obtain⟨G,HGp⟩:∃G,Hid (R.gap l p=G):=⟨_,rfl⟩;rw[HGp.out]
 go_enter func50,ntmps50
 go_wp2_with fail
 refine(zbm _ cb tb cap p ao l HC.out).mono ?_;rintro e w1 ⟨rfl,C1,g1⟩;have HC1:=qH C1;have HG1:=qH g1;clear C1 g1;go_wp2
 go_loopw [9] (fun _ wr=>∃(p' q f:Nat),Hid (T.skipW T.blank l p'=q)/\Hid (l.length<p'+f)/\Hid (R.gapN f l p'=G)/\Hid (T.Cur wr cb tb cap ao l q)/\Hid (w.grownBy wr (some cb))) (fun _ wr=>l.length-T.pos wr cb)
 case atStart=>exact⟨p,_,l.length+1,rfl,by show _<_;omega,HGp,HC1,HG1⟩
 case round =>
  obtain⟨p',q,f,HQ,HF,HN,HCq,HG⟩:=hrel;have HPos:Hid _:=HCq.out.pos;have hql:=HCq.out.le;have hpq:p'<=q:=by have:=T.za1 T.blank l p';have:=HQ.out;omega
  obtain⟨f,rfl⟩:∃g,f=g+1:=⟨f-1,by have:=HF.out;omega⟩
  go_wp2_with fail
  refine(zaq _ cb tb cap q ao l 35 (by decide) HCq.out).mono ?_;rintro e w2 ⟨rfl,C2,g2⟩;have HG2:=qH<|S.zaa HG.out g2;clear g2
  by_cases h35:T.see l q=35
  ·rw[if_pos h35] at C2;have HC2:=qH C2;have HN2:Hid (R.gapN f l (T.skipW R.notNl l (q+1))=G):=by show _=_;rw[<- R.zqg HQ.out h35];exact HN.out
   clear C2;obtain⟨E,HE⟩:∃E,Hid (T.skipW R.notNl l (q+1)=E):=⟨_,rfl⟩;have hE:q+1<=E:=by have:=T.za1 R.notNl l (q+1);have:=HE.out;omega
   rw[HE.out] at HN2;go_wp2
   go_loopw [21] (fun _ wr=>∃k:Nat,q+1<=k/\Hid (T.skipW R.notNl l k=E)/\Hid (T.Cur wr cb tb cap ao l k)/\Hid (w.grownBy wr (some cb))) (fun _ wr=>l.length-T.pos wr cb)
   case atStart=>exact⟨q+1,qN,HE,HC2,HG2⟩
   case round =>
    obtain⟨k,hk,HK,HCk,HGk⟩:=hrel;have HPk:Hid _:=HCk.out.pos;have hkl:=HCk.out.le
    go_wp2_with fail
    refine(zd7 _ cb tb cap k ao l HCk.out).mono ?_;rintro e w3 ⟨rfl,b3⟩;have HC3:=qH<|HCk.out.below b3;have HG3:=qH<|S.zaa HGk.out (S.zaf b3);clear b3
    have fin:∀w4,T.Cur w4 cb tb cap ao l k->R.notNl (T.see l k)=false->T.Cur w4 cb tb cap ao l E:=fun w4 C4 hn=>by
     have:E=k:=by rw[<- HK.out];exact T.zgg hkl (by decide) hn
     rw[this];exact C4
    have Hfin:Hid _:=fin;clear fin
    by_cases hd:T.see l k= -1
    ·go_wp2_with fail
     refine(zbm _ cb tb cap E ao l (Hfin.out _ HC3.out (by rw[hd];decide))).mono ?_;rintro e w5 ⟨rfl,C5,g5⟩;have HC5:=qH C5;have HG5:=qH<|S.zaa HG3.out g5;have hge:=T.za1 T.blank l E;clear C5 g5;go_wp2
     go_roundw
     case rel=>exact⟨E,_,f,rfl,by have:=HF.out;show _<_;omega,HN2,HC5,HG5⟩
     case measure =>
      rw[HC5.out.pos,HPos.out];have:=HC5.out.le;omega
    ·go_wp2_with fail
     refine(zbq _ cb tb cap k ao l 10 HC3.out).mono ?_;rintro e w4 ⟨rfl,b4⟩;have C4:=HC3.out.below b4;have c4:=C4.cell1;have f4:=C4.frz1;have HC4:=qH C4;have HG4:=qH<|S.zaa HG3.out (S.zaf b4);clear b4 C4
     by_cases hn:T.see l k=10
     ·go_wp2_with fail
      refine(zbm _ cb tb cap E ao l (Hfin.out _ HC4.out (by rw[hn];decide))).mono ?_;rintro e w5 ⟨rfl,C5,g5⟩;have HC5:=qH C5;have HG5:=qH<|S.zaa HG4.out g5;have hge:=T.za1 T.blank l E;clear C5 g5;go_wp2
      go_roundw
      case rel=>exact⟨E,_,f,rfl,by have:=HF.out;show _<_;omega,HN2,HC5,HG5⟩
      case measure =>
       rw[HC5.out.pos,HPos.out];have:=HC5.out.le;omega
     ·have hlt:=HC4.out.inside hd;go_wp2
      go_roundw
      case rel =>
       refine⟨k+1,by omega,?_,HC4.out.set (q:=k+1) (by omega),S.zaa HG4.out (zdc _ _ _ _)⟩;show _=_;rw[<- HK.out];exact(R.zoz (p:=k) (by simp[R.notNl,hd,hn]) (by decide)).symm
      case measure =>
       have h1:T.pos (w4.setCell ⟨cb,1,none⟩ (.int .i64 ((k:Int)+1))) cb=k+1:=(HC4.out.set (q:=k+1) (by omega)).pos;rw[h1,HPk.out];omega
  ·rw[if_neg h35] at C2;have hG:G=q:=by rw[<- HN.out,R.zst HQ.out h35]
   subst hG;have HC2:=qH C2;clear C2;go_wp2
   go_end0
   exact⟨rfl,HC2.out,HG2.out⟩
theorem zmm {m:List Int}(h:∀r∈m,R.wordy r=true):runesBytes m=R.bytes m:=by
 apply Go.WideShapes.bytes_inj;rw[zbg];unfold R.bytes;simp only
 induction m with
 | nil=>rfl
 | cons r m ih =>
  have hb:=R.zjv (h r (by simp));rw[List.flatMap_cons,List.map_cons,ih fun x hx=>h x (List.mem_cons_of_mem _ hx)];obtain⟨n,rfl⟩:∃n:Nat,r=(n:Int):=⟨r.toNat,by omega⟩;rw[M.zey n (T.zkb (by omega) (by omega)),if_pos (by omega)];rfl
theorem zqr {l:List Int}{p q:Nat}(h:∀i,p<=i->i<q->R.wordy (T.see l i)=true):∀r∈T.cut l p q,R.wordy r=true:=fun r hr=>by
 obtain⟨j,hj⟩:=List.getElem?_of_mem hr;have h5:=T.zhk (zh1 hj)
 have hlj:j<q-p:=by
  have:=(qL.1 hj).1;unfold T.cut at this;rw[List.length_take] at this;omega
 have h4:=h (p+j) (by omega) (by omega);rw[h5] at h4;exact h4
theorem zlo (w:World)(cb tb cap p:Nat)(ao:Option Addr)(l:List Int)(hne:l≠ [])(C:T.Cur w cb tb cap ao l p) :
  Calls prog 130 #[.pointer (some ⟨cb,0,none⟩)] w fun e w'=>e=.returned (.string (R.wordAt l p))/\T.Cur w' cb tb cap ao l (R.wordEnd l p)/\w.grownBy w' (some cb):=by
 have hlen:=C.len;have hple:=C.le;have hcp:=C.cp;have hao:=C.txt hne;subst hao;have c1:=C.cell1;have HC:=qH C;clear C;obtain⟨E,HE⟩:∃E,Hid (R.wordEnd l p=E):=⟨_,rfl⟩;rw[HE.out];obtain⟨st,HSt⟩:∃s,Hid (R.wordAt l p=s):=⟨_,rfl⟩;rw[HSt.out]
 -- the text from p to q
 have Hend:Hid (∀W q,w.grownBy W (some cb)->T.Cur W cb tb cap (some ⟨tb,0,none⟩) l q->p<=q->q<=l.length->R.wordEnd l p=q->(∀i,p<=i->i<q->R.wordy (T.see l i)=true)->runesBytes (T.cut l p q)=st):=fun W q _ _ h1 h2 h3 h4=>by
  rw[zmm (zqr h4),<- HSt.out];unfold R.wordAt;rw[h3]
 go_enter func130,ntmps130
 go_wp2_with fail
 refine(za6 _ cb tb cap p 0 _ l HC.out (by omega)).mono ?_;rintro e w1 ⟨rfl,b1⟩;rw[Nat.add_zero];have HC1:=qH<|HC.out.below b1;have HG1:Hid (w.grownBy w1 (some cb)):=S.zaf b1;clear b1 c1
 go_wp2_with fail
 refine(zbc _ _).mono ?_;rintro e w2 ⟨rfl,rfl⟩;have i1:(0:Int)<=(p:Int):=by omega
 by_cases hl:R.letter (T.see l p)=true
 ·have hpl:=HC1.out.inside (by intro h;rw[h] at hl;revert hl;decide);have HEw:Hid (T.skipW R.wordy l p=E):=by show _=_;rw[<- HE.out];unfold R.wordEnd;rw[if_pos hl]
  go_wp2
  go_loopw [25] (fun _ wr=>∃q:Nat,p<=q/\Hid (∀i,p<=i->i<q->R.wordy (T.see l i)=true)/\Hid (T.Cur wr cb tb cap (some ⟨tb,0,none⟩) l q)/\Hid (w.grownBy wr (some cb))) (fun _ wr=>l.length-T.pos wr cb)
  case atStart=>exact⟨p,qN,fun i h1 h2=>by omega,HC1,HG1⟩
  case round =>
   obtain⟨q,hq,HA,HCq,HG⟩:=hrel;have HPos:Hid _:=HCq.out.pos;have hql:=HCq.out.le
   go_wp2_with fail
   refine(za6 _ cb tb cap q 0 _ l HCq.out (by omega)).mono ?_;rintro e w3 ⟨rfl,b3⟩;rw[Nat.add_zero];have C3:=HCq.out.below b3;have c3:=C3.cell1;have f3:=C3.frz1;have c3t:=C3.cell0;have HC3:=qH C3;have HG3:=qH<|S.zaa HG.out (S.zaf b3);clear b3 C3
   go_wp2_with fail
   refine(zbc _ _).mono ?_;rintro e w4 ⟨rfl,rfl⟩
   have HGo:Hid (∀W,T.Cur W cb tb cap (some ⟨tb,0,none⟩) l q->R.wordy (T.see l q)=true->q<l.length/\∀i,p<=i->i<q+1->R.wordy (T.see l i)=true):=fun W CW hw=>by
    refine⟨CW.inside (by intro h;rw[h] at hw;revert hw;decide),fun i h1 h2=> ?_⟩
    by_cases e:i=q
    ·rw[e];exact hw
    ·exact HA.out i h1 (by omega)
   by_cases hlq:R.letter (T.see l q)=true
   ·obtain⟨hlt,hal⟩:=HGo.out _ HC3.out (R.zi4 hlq);have HAl:Hid _:=hal;clear hal;go_wp2
    go_roundw
    case rel=>exact⟨q+1,by omega,HAl,HC3.out.set (q:=q+1) (by omega),S.zaa HG3.out (zdc _ _ _ _)⟩
    case measure =>
     have h1:T.pos (w4.setCell ⟨cb,1,none⟩ (.int .i64 ((q:Int)+1))) cb=q+1:=(HC3.out.set (q:=q+1) (by omega)).pos;rw[h1,HPos.out];omega
   ·clear c3 f3 c3t
    go_wp2_with fail
    refine(za6 _ cb tb cap q 0 _ l HC3.out (by omega)).mono ?_;rintro e w5 ⟨rfl,b5⟩;rw[Nat.add_zero];have C5:=HC3.out.below b5;have c5:=C5.cell1;have f5:=C5.frz1;have c5t:=C5.cell0;have HC5:=qH C5;have HG5:=qH<|S.zaa HG3.out (S.zaf b5);clear b5 C5
    go_wp2_with fail
    refine(zd8 _ _).mono ?_;rintro e w6 ⟨rfl,rfl⟩
    by_cases hdq:R.digit (T.see l q)=true
    ·obtain⟨hlt,hal⟩:=HGo.out _ HC5.out (by unfold R.wordy;rw[hdq];simp);have HAl:Hid _:=hal;clear hal;go_wp2
     go_roundw
     case rel=>exact⟨q+1,by omega,HAl,HC5.out.set (q:=q+1) (by omega),S.zaa HG5.out (zdc _ _ _ _)⟩
     case measure =>
      have h1:T.pos (w6.setCell ⟨cb,1,none⟩ (.int .i64 ((q:Int)+1))) cb=q+1:=(HC5.out.set (q:=q+1) (by omega)).pos;rw[h1,HPos.out];omega
    ·have hno:R.wordy (T.see l q)=false:=by unfold R.wordy;simp at hlq hdq;rw[hlq,hdq];rfl
     have hEq:E=q:=by rw[<- HEw.out];exact T.zcl hq hql HA.out hno (by decide)
     have hpq:p<q:=by
      apply Classical.byContradiction;intro hn;have:q=p:=by omega
      rw[this] at hlq;exact hlq hl
     have i2:(p:Int)<=(q:Int):=by omega
     have i3:(q:Int)<=(cap:Int):=by omega
     have hcf:¬cap=p:=by omega
     have hst:=Hend.out _ q HG5.out HC5.out hq hql (by rw[HE.out,hEq]) HA.out
     have hcv:∀n,(convert 42 9 (.slice (some ⟨tb,p,none⟩) (q-p) (cap-p))).run prog (w6.drewN n)=.ok (.string st) (w6.drewN n):=fun n=>by
      rw[<- hst];exact(HC5.out.drewN n).text hq hql _ (fun _=>rfl) _
     subst hEq;clear hst;go_wp2
     go_quiet (fail)
     go_wp2;go_ret
     exact⟨rfl,HC5.out.drewN _,S.zaa HG5.out (zb6 _ _ _)⟩
 ·have hEp:E=p:=by rw[<- HE.out];unfold R.wordEnd;rw[if_neg hl]
  subst hEp;have C1:=HC1.out;have c1:=C1.cell1;have c1t:=C1.cell0;clear C1;have hst:=Hend.out _ E HG1.out HC1.out qN hple HE.out (fun i h1 h2=>by omega)
  have hcv:∀a c n,(convert 42 9 (.slice (some a) 0 c)).run prog (w2.drewN n)=.ok (.string st) (w2.drewN n):=fun a c n=>by
   have:=(HC1.out.drewN n).text (Nat.le_refl E) hple a (fun h=>absurd h (Nat.lt_irrefl _)) c;rw[Nat.sub_self] at this;rw[<- hst];exact this
  clear hst;have i3:(E:Int)<=(cap:Int):=by omega
  by_cases hcf:cap=E
  all_goals go_wp2
  all_goals go_quiet (fail)
  all_goals go_wp2
  all_goals go_ret
  all_goals exact⟨rfl,HC1.out.drewN _,S.zaa HG1.out (zb6 _ _ _)⟩
theorem ze4 (w:World)(cb tb cap p:Nat)(ao:Option Addr)(l:List Int)(C:T.Cur w cb tb cap ao l p) :
  Calls prog 131 #[.pointer (some ⟨cb,0,none⟩)] w fun e w'=>e=.returned (.bool (R.varNext l p))/\Bl w w':=by
 have HC:=qH C;clear C;unfold R.varNext
 go_enter func131,ntmps131
 go_wp2_with fail
 refine(zbq _ cb tb cap p ao l 36 HC.out).mono ?_;rintro e w1 ⟨rfl,b1⟩;have HC1:=qH<|HC.out.below b1;have HB1:=qH b1;clear b1
 by_cases h:T.see l p=36
 ·go_wp2_with fail
  refine(za6 _ cb tb cap p 1 ao l HC1.out (by omega)).mono ?_;rintro e w2 ⟨rfl,b2⟩;have HB2:=qH<|HB1.out.trans (b2.mono HB1.out.size);clear b2
  go_wp2_with fail
  refine(zbc _ _).mono ?_;rintro e w3 ⟨rfl,rfl⟩;go_wp2;go_ret;exact⟨by simp[h],HB2.out⟩
 ·go_wp2;go_ret
  exact⟨by simp[h],HB1.out⟩
def R.isText (a:ByteArray) (v:Value) (_:World):Prop:=v=.string a
theorem zeu (w:World)(cb tb cap p:Nat)(ao:Option Addr)(l:List Int)(C:T.Cur w cb tb cap ao l p)(hv:R.varNext l p=true) :
  Calls prog 132 #[.pointer (some ⟨cb,0,none⟩)] w (T.Ends w cb tb cap ao l (R.varAt l p) R.isText):=by
 have hlen:=C.len;have HC:=qH C;clear C;obtain⟨o,HO⟩:∃o,Hid (R.varAt l p=o):=⟨_,rfl⟩;rw[HO.out];have h36:T.see l p=36:=by unfold R.varNext at hv;rw[Bool.and_eq_true] at hv;exact of_decide_eq_true hv.1
 have hne:l≠ []:=by intro h;subst h;cases h36
 clear hv
 go_enter func132,ntmps132
 go_wp2_with fail
 refine(za0 _ cb tb cap p ao l 36 (by decide) HC.out h36).mono ?_;rintro e w1 ⟨rfl,C1,g1⟩;have c1:=C1.cell1;have hp1:=C1.le;have HC1:=qH C1;have HG1:=qH g1;clear C1 g1
 go_wp2_with fail
 refine(zlo _ cb tb cap (p+1) ao l hne HC1.out).mono ?_;rintro e w2 ⟨rfl,C2,g2⟩;have HC2:=qH C2;have HG2:=qH<|S.zaa HG1.out g2;clear C2 g2 c1;obtain⟨n,HNm⟩:∃n,Hid (R.wordAt l (p+1)=n):=⟨_,rfl⟩;rw[HNm.out]
 go_wp2_with fail
 refine(zd1 n _).mono ?_;rintro e w3 ⟨rfl,b3⟩;have HC3:=qH<|HC2.out.below b3;have HG3:=qH<|S.zaa HG2.out (S.zaf b3);clear b3
 by_cases hn:R.named n=true
 ·go_wp2;go_ret
  rw[<- HO.out];unfold R.varAt;rw[HNm.out,if_pos hn];exact⟨_,rfl,rfl,HC3.out,HG3.out⟩
 ·go_wp2_with (go_at_call 29;refine(zaw _ 7 (p+1)).mono ?_;unfold T.thrown;rintro e w4 ⟨rfl,rfl⟩)
  refine⟨rfl,?_⟩;rw[<- HO.out];unfold R.varAt;rw[HNm.out,if_neg hn];exact⟨rfl,HG3.out⟩
/-! a box that is the call's own -/
theorem R.za2 {fn:Func}{p:Tmp}{ty:TypeId}{fs:Array Field}(h:fn.results=#[.cell p ty])(tmps:Array Value)(w:World)(g:Nat)(cs:Array Value)(hg:w.heap[g]?=some (.cells cs ty))(hu:prog.underlying ty=some (.struct fs))
  (hi:(prog.info? ty).map (·.size)=some cs.size)
  (hp:tmps.getD p undef=.pointer (some ⟨g,0,none⟩)):(results fn tmps).run prog w=.ok (.agg cs) w:=by
 have hl:=run_loadVar_row (P:=prog) w g ty ty cs (0,0) _ hg hu rfl hi
 have e:(results fn tmps).run prog w=((asAddr (tmps.getD p undef)).run prog w).andThen fun a w₁ => (loadVar ty a).run prog w₁ := by
  simp only[results,h];simp[Sem.run_bind,Result.andThen]
 rw[e,hp];simp[asAddr,Result.andThen,hl]
theorem R.zam {w0 w9 w':World}{cb g:Nat}(h:w0.grownBy w9 (some cb))(hp:w9.grownBy w' (some g))(hg:w0.heap.size<=g):w0.grownBy w' (some cb) :=
 ⟨hp.os.trans h.os,hp.tape.trans h.tape,hp.output.trans h.output,Nat.le_trans h.size hp.size,fun k hk hne=>by
  rw[hp.block k (Nat.lt_of_lt_of_le hk h.size) (by simp;omega)];exact h.block k hk hne⟩
theorem T.Cur.apart {w w':World}{cb tb cap p g:Nat}{ao:Option Addr}{l:List Int}(C:T.Cur w cb tb cap ao l p)(hp:w.grownBy w' (some g))(hne:g≠cb)(ht:l≠ []->g≠tb):T.Cur w' cb tb cap ao l p:=by
 refine⟨?_,C.txt,fun j z hj=> ?_,C.ne,C.le,C.len,C.cp,C.rt⟩
 ·obtain⟨t,hb⟩:=C.blk;exact⟨t,by rw[hp.block cb C.lt (by simpa using Ne.symm hne)];exact hb⟩
 ·have hn:=ht (by intro h;subst h;simp at hj);have h1:=C.rd j z hj;rw[World.cell?_of_block (a:=⟨tb,j,none⟩) (hp.block tb (L.block_lt h1) (by simpa using Ne.symm hn))];exact h1
theorem R.Stays.apart {F g:Nat}{X:Option Nat}{w w':World}{Q:World->Prop}(h:R.Stays F X w Q)(hp:w.grownBy w' (some g))(hg:g<F):R.Stays F X w' Q:=h.cur hp hg
theorem T.Cur.elder {w:World}{cb tb cap p:Nat}{ao:Option Addr}{l:List Int}(C:T.Cur w cb tb cap ao l p):cb<w.heap.size/\(l≠ []->tb<w.heap.size):=⟨C.lt,C.zou⟩
def R.ItEl (x:R.Item) (c:List Value) (w:World):Prop :=
 ∃so sc,c= [.int .i64 x.kind,.int .i32 x.rune,.slice so x.set.length sc,.string x.name]/\S.Rd w (.slice so x.set.length sc) x.set/\S.Fit x.set/\x.name.size<=140737488355328
def R.RowI (F:Nat) (w:World) (v:Value) (xs:List R.Item):Prop:=R.Row 142 4 R.ItEl F w v xs
theorem R.elemI:R.Elem 100 142 4:=⟨underlying100,⟨.agg #[.int .i64 0,.int .i32 0,.slice none 0 0,.string ⟨#[]⟩],56,by kernel_rfl,by decide,rfl⟩,by decide⟩
theorem R.RowI.its {F:Nat}{w:World}{v:Value}{xs:List R.Item}(h:R.RowI F w v xs):R.Stays F none w fun w'=>R.Its w' v xs:=fun w' hk=>by
 obtain⟨ao,cap,hv⟩:=R.Row.slice h;refine⟨ao,cap,hv,fun hz=> ?_⟩;cases xs with
 | nil=>exact absurd rfl hz
 | cons x0 xs =>
  obtain⟨g,c,hob,⟨cap',hv'⟩,_,_⟩:=R.Row.at h (j:=0) (x:=x0) rfl;refine⟨g,0,by rw[hv] at hv';cases hv';rfl,fun j x hj=> ?_⟩;obtain⟨g2,c2,hob2,_,_,hst⟩:=R.Row.at h hj;have hg:g2=g:=by rw[hob] at hob2;exact(Option.some.inj hob2).symm
  subst hg;obtain⟨hcells,so,sc,rfl,h1,h2,h3⟩:=hst w' hk;exact⟨hcells 0 _ rfl,hcells 1 _ rfl,hcells 3 _ rfl,⟨so,sc,hcells 2 _ rfl,h1⟩,h2,h3⟩
theorem R.RowI.one {F:Nat}{w:World}(k r:Int)(so:Option Addr)(sc:Nat)(st:List S.Sp)(nm:ByteArray)(hs:R.Stays F none w fun w'=>S.Rd w' (.slice so st.length sc) st)(hf:S.Fit st)(hn:nm.size<=140737488355328)(hF:F<=w.heap.size) :
  R.RowI F (w.alloc (.cells #[.int .i64 k,.int .i32 r,.slice so st.length sc,.string nm] 142)) (.slice (some ⟨w.heap.size,0,none⟩) 1 1) [⟨k,r,st,nm⟩] :=
 R.Row.one [.int .i64 k,.int .i32 r,.slice so st.length sc,.string nm] rfl (fun u hu=>by
  simp only[List.mem_cons,List.not_mem_nil,or_false] at hu
  rcases hu with rfl|rfl|rfl|rfl <;> rfl) (hs.imp fun w' h=>⟨so,sc,rfl,h,hf,hn⟩) hF
theorem zb5 (F:Nat)(w:World):R.Stays F none w fun w'=>S.Rd w' (.slice none ([]:List S.Sp).length 0) []:=fun w' _=>S.Rd.nil w'
def R.oneAt (l:List Int) (p:Nat):T.Out Int :=
 match T.chr l p with
 | .bad e q=> .bad e q
 | .ok c q=>if M.right c=true then .ok c q else .bad 3 p
def R.isOne (c:Int) (v:Value) (_:World):Prop:=v=.agg #[.int .i64 1,.int .i32 c,.slice none 0 0,.string ⟨#[]⟩]
theorem zgh (w:World)(cb tb cap p:Nat)(ao:Option Addr)(l:List Int)(C:T.Cur w cb tb cap ao l p) :
  Calls prog 194 #[.pointer (some ⟨cb,0,none⟩)] w (T.Ends w cb tb cap ao l (R.oneAt l p) R.isOne):=by
 have hlen:=C.len;have c1:=C.cell1;obtain⟨he1,he2⟩:=C.elder;have HE2:=qH he2;have HC:=qH C;clear C he2;obtain⟨o,HO⟩:∃o,Hid (R.oneAt l p=o):=⟨_,rfl⟩;rw[HO.out];have n1:¬w.heap.size=cb:=by omega
 go_enter func194,ntmps194
 go_wp2_with fail
 have bW:=(qR w).alloc qN (.cells #[.int .i64 0,.int .i32 0,.slice none 0 0,.string ⟨#[]⟩] 142);have hxW:(w.alloc (.cells #[.int .i64 0,.int .i32 0,.slice none 0 0,.string ⟨#[]⟩] 142)).heap[w.heap.size]?=some (.cells #[.int .i64 0,.int .i32 0,.slice none 0 0,.string ⟨#[]⟩] 142):=heap_alloc_new w _;have CW:=HC.out.below bW;have GW:w.grownBy _ (some cb):=S.zaf bW;refine(zlc _ cb tb cap p ao l CW).mono ?_;generalize w.alloc (.cells #[.int .i64 0,.int .i32 0,.slice none 0 0,.string ⟨#[]⟩] 142)=W0 at bW hxW CW GW;clear bW CW c1;intro e w1 h;cases hc:T.chr l p with
 | bad er q =>
  rw[hc] at h;obtain⟨rfl,g1⟩:=h;unfold T.thrown;go_wp2;refine⟨rfl,?_⟩;rw[<- HO.out];unfold R.oneAt;rw[hc];exact⟨rfl,S.zaa GW g1⟩
 | ok c q =>
  rw[hc] at h;obtain⟨v,rfl,rfl,C1,g1⟩:=h;have x1:=R.zah hxW g1 (by omega);have a0:=R.zab (i:=0) x1 rfl;have a1:=R.zab (i:=1) x1 rfl;have a2:=R.zab (i:=2) x1 rfl;have a3:=R.zab (i:=3) x1 rfl;have z0:=R.zac (i:=0) x1;have z1:=R.zac (i:=1) x1;have z2:=R.zac (i:=2) x1;have z3:=R.zac (i:=3) x1;have HX1:=qH x1;have HG1:=qH<|S.zaa GW g1;have HC1:=qH C1;have HHc:Hid _:=hc;clear hc g1 GW hxW C1 x1
  go_wp2_with fail
  refine(zdw c _).mono ?_;rintro e w2 ⟨rfl,rfl⟩
  by_cases hr:M.right c=true
  ·go_wp2;obtain⟨hbx,hgr⟩:=R.put4 HX1.out (.int .i64 1) (.int .i32 c) (.slice none 0 0) (.string ⟨#[]⟩)
   refine bodyPost_ret (R.za2 rfl _ _ w.heap.size #[.int .i64 1,.int .i32 c,.slice none 0 0,.string ⟨#[]⟩] hbx underlying142 (by kernel_rfl) rfl) rfl ?_;rw[<- HO.out];unfold R.oneAt;rw[HHc.out];simp only;rw[if_pos hr];exact⟨_,rfl,rfl,HC1.out.apart hgr n1 (fun h=>by have:=HE2.out h;omega),R.zam HG1.out hgr qN⟩
  ·go_wp2_with (go_at_call 29;refine(zaw _ 3 p).mono ?_;unfold T.thrown;rintro e w3 ⟨rfl,rfl⟩)
   refine⟨rfl,?_⟩;rw[<- HO.out];unfold R.oneAt;rw[HHc.out];simp only;rw[if_neg hr];exact⟨rfl,HG1.out⟩
theorem R.zd5 {w0 w9 w':World}{cb:Nat}{X:Option Nat}(h:w0.grownBy w9 (some cb))(hp:w9.grownBy w' X)(hg:∀g,X=some g->w0.heap.size<=g):w0.grownBy w' (some cb) :=
 ⟨hp.os.trans h.os,hp.tape.trans h.tape,hp.output.trans h.output,Nat.le_trans h.size hp.size,fun k hk hne=>by
  rw[hp.block k (Nat.lt_of_lt_of_le hk h.size) (fun e=>by have:=hg k e.symm;omega)];exact h.block k hk hne⟩
theorem T.Cur.row {w w':World}{cb tb cap p F:Nat}{X:Option Nat}{ao:Option Addr}{l:List Int}(C:T.Cur w cb tb cap ao l p)(hp:w.grownBy w' X)(hX:∀g,X=some g->F<=g)(hc:cb<F)(ht:l≠ []->tb<F):T.Cur w' cb tb cap ao l p:=by
 refine⟨?_,C.txt,fun j z hj=> ?_,C.ne,C.le,C.len,C.cp,C.rt⟩
 ·obtain⟨t,hb⟩:=C.blk;exact⟨t,by rw[hp.block cb C.lt (fun e=>by have:=hX cb e.symm;omega)];exact hb⟩
 ·have hn:=ht (by intro h;subst h;simp at hj);have h1:=C.rd j z hj;rw[World.cell?_of_block (a:=⟨tb,j,none⟩) (hp.block tb (L.block_lt h1) (fun e=>by have:=hX tb e.symm;omega))];exact h1
theorem R.zc7 {α:Type}{t e:TypeId}{k F F2:Nat}{El:α->List Value->World->Prop}{ops:Array Oper}{rest:List Oper}{o:Oper}{a:Act}{w:World}{Q:Exit->Act->World->Prop}(E:R.Elem t e k)(hgd:o.guard=none)(s x:Operand)
  (ho:o.op=.call { callee:=.builtin .append,args:=#[s,x],argTypes:=#[t,t] }) (v v2:Value) (xs ys:List α) (hs:a.eval s=v) (hx:a.eval x=v2) (h:R.Row e k El F w v xs) (h2:R.Row e k El F2 w v2 ys) (hF:F<=F2) (hne:∀g,v.ownBlock=some g->g<F2)
  (hsz:xs.length+ys.length<=100000000) (hb:F<=w.heap.size)
  (hk:∀v' w',R.Row e k El F w' v' (xs++ys)->w.grownBy w' v.ownBlock->(∀g,v'.ownBlock=some g->v.ownBlock=some g∨w.heap.size<=g)->wpList prog ops Q rest (a.put o.dst v') w'):wpList prog ops Q (o::rest) a w:=by
 obtain⟨v',w',hrun,h3,h4,h5⟩:=R.Row.add E o.type h h2 hF hne hsz hb;refine wpList_plain hgd fun _ hK=> ?_
 have h':=hK _ _ (hk v' w' h3 h4 h5);unfold Oper.wp;simp[execOp,ho,resolve,invoke,builtin,hs,hx,hrun,Result.andThen];exact h'
def R.assignedAt (l:List Int) (p:Nat):T.Out (Option ByteArray) :=
 if R.varNext l p=true then
  match R.varAt l p with
  | .bad e q=> .bad e q
  | .ok n q=>if T.see l (R.gap l q)=61 then .ok (some n) (R.gap l q+1) else .ok none p
 else .ok none p
def R.isName (n:Option ByteArray) (v:Value) (_:World):Prop :=
 match n with
 | some n=>v=.tuple #[.string n,.bool true]
 | none=>v=.tuple #[.string ⟨#[]⟩,.bool false]
theorem zjm (w:World)(cb tb cap p:Nat)(ao:Option Addr)(l:List Int)(C:T.Cur w cb tb cap ao l p) :
  Calls prog 110 #[.pointer (some ⟨cb,0,none⟩)] w (T.Ends w cb tb cap ao l (R.assignedAt l p) R.isName):=by
 have hlen:=C.len;have hple:=C.le;have c1:=C.cell1;have HC:=qH C;clear C;obtain⟨o,HO⟩:∃o,Hid (R.assignedAt l p=o):=⟨_,rfl⟩;rw[HO.out]
 go_enter func110,ntmps110
 go_wp2_with fail
 refine(ze4 _ cb tb cap p ao l HC.out).mono ?_;rintro e w1 ⟨rfl,b1⟩;have C1:=HC.out.below b1;have c11:=C1.cell1;have f11:=C1.frz1;have HC1:=qH C1;have HG1:Hid (w.grownBy w1 (some cb)):=S.zaf b1;clear b1 C1 c1
 by_cases hv:R.varNext l p=true
 ·clear c11 f11
  go_wp2_with fail
  refine(zeu _ cb tb cap p ao l HC1.out hv).mono ?_;intro e w2 h;cases hc:R.varAt l p with
  | bad er q =>
   rw[hc] at h;obtain⟨rfl,g2⟩:=h;unfold T.thrown;go_wp2;refine⟨rfl,?_⟩;rw[<- HO.out];unfold R.assignedAt;rw[if_pos hv,hc];exact⟨rfl,S.zaa HG1.out g2⟩
  | ok n q =>
   rw[hc] at h;obtain⟨v,rfl,hvn,C2,g2⟩:=h;unfold R.isText at hvn;subst hvn;have HC2:=qH C2;have HG2:=qH<|S.zaa HG1.out g2;have HHc:Hid _:=hc;clear C2 g2 hc
   go_wp2_with fail
   refine(zaz _ cb tb cap q ao l HC2.out).mono ?_;rintro e w3 ⟨rfl,C3,g3⟩;have HC3:=qH C3;have HG3:=qH<|S.zaa HG2.out g3;clear C3 g3
   go_wp2_with fail
   refine(zaq _ cb tb cap (R.gap l q) ao l 61 (by decide) HC3.out).mono ?_;rintro e w4 ⟨rfl,C4,g4⟩;have HG4:=qH<|S.zaa HG3.out g4;clear g4
   by_cases h61:T.see l (R.gap l q)=61
   ·rw[if_pos h61] at C4;have HC4:=qH C4;clear C4;go_wp2
    go_ret2
    rw[<- HO.out];unfold R.assignedAt;rw[if_pos hv,HHc.out];simp only;rw[if_pos h61];exact⟨_,rfl,rfl,HC4.out,HG4.out⟩
   ·rw[if_neg h61] at C4;have c4:=C4.cell1;have f4:=C4.frz1;have HC4:=qH C4;clear C4;go_wp2
    go_ret2
    rw[<- HO.out];unfold R.assignedAt;rw[if_pos hv,HHc.out];simp only;rw[if_neg h61];exact⟨_,rfl,rfl,HC4.out.set hple,S.zaa HG4.out (zdc _ _ _ _)⟩
 ·go_wp2
  go_ret2
  rw[<- HO.out];unfold R.assignedAt;rw[if_neg hv];exact⟨_,rfl,rfl,HC1.out.set hple,S.zaa HG1.out (zdc _ _ _ _)⟩
def R.quotedAt (l:List Int) (p:Nat):T.Out (List R.Item) :=
 if T.see l (T.skipW R.notQuo l p)=39 then .ok ((T.cut l p (T.skipW R.notQuo l p)).map R.runeI) (T.skipW R.notQuo l p+1) else .bad 2 (T.skipW R.notQuo l p)
theorem zh0 {l:List Int}{p q:Nat}(h1:p<=q)(h2:q<l.length):T.cut l p (q+1)=T.cut l p q++ [T.see l q]:=by
 unfold T.cut;rw[show q+1-p=(q-p)+1 by omega,List.take_add_one];congr 1;rw[List.getElem?_drop,show p+(q-p)=q by omega,T.zew h2];rfl
theorem zs5 (l:List Int)(p:Nat):T.cut l p p= []:=by unfold T.cut;rw[Nat.sub_self,List.take_zero]
theorem zm0 (w:World)(cb tb cap p:Nat)(ao:Option Addr)(l:List Int)(C:T.Cur w cb tb cap ao l p) :
  Calls prog 193 #[.pointer (some ⟨cb,0,none⟩)] w (T.Ends w cb tb cap ao l (R.quotedAt l p) fun xs v w'=>R.RowI w.heap.size w' v xs):=by
 have hlen:=C.len;have hple:=C.le;obtain⟨he1,he2⟩:=C.elder;have HE2:=qH he2;have HC:=qH C;clear C he2;obtain⟨o,HO⟩:∃o,Hid (R.quotedAt l p=o):=⟨_,rfl⟩;rw[HO.out]
 go_enter func193,ntmps193
 go_wp2
 go_loopw [3] (fun sv wr=>∃(q:Nat) (xs:List R.Item) (vo:Option Addr) (vc:Nat),sv=.slice vo xs.length vc/\p<=q/\Hid ((T.cut l p q).map R.runeI=xs)/\Hid (∀i,p<=i->i<q->R.notQuo (T.see l i)=true)/\Hid (R.RowI w.heap.size wr (.slice vo xs.length vc) xs)/\Hid (T.Cur wr cb tb cap ao l q)/\Hid (w.grownBy wr (some cb))) (fun _ wr=>l.length-T.pos wr cb)
 case atStart=>exact⟨p,[],none,0,rfl,qN,by show _=_;rw[zs5];rfl,fun i h1 h2=>by omega,R.Row.nil _ _,HC,S.zat _ _⟩
 case round =>
  obtain⟨q,xs,vo,vc,rfl,hq,HX,HA,HR,HCq,HG⟩:=hrel;have HPos:Hid _:=HCq.out.pos;have hql:=HCq.out.le
  go_wp2_with fail
  refine(zd7 _ cb tb cap q ao l HCq.out).mono ?_;rintro e w1 ⟨rfl,b1⟩;have HC1:=qH<|HCq.out.below b1;have HG1:=qH<|S.zaa HG.out (S.zaf b1);have HR1:Hid (R.RowI w.heap.size w1 (.slice vo xs.length vc) xs):=R.Row.below HR.out b1;clear b1;have Hend:=qH<|fun hn=>T.zcl hq hql HA.out hn (by decide)
  by_cases hd:T.see l q= -1
  ·have hsk:=Hend.out (by rw[hd];decide);have HSk:Hid _:=hsk;clear hsk
   go_wp2_with fail
   refine(zb0 _ cb tb cap q ao l 39 (by decide) HC1.out (by rw[hd];decide)).mono ?_;unfold T.thrown;rintro e w2 ⟨rfl,g2⟩;go_wp2;refine⟨rfl,?_⟩;rw[<- HO.out];unfold R.quotedAt;rw[HSk.out,hd,if_neg (by decide)];exact⟨rfl,S.zaa HG1.out g2⟩
  ·go_wp2_with fail
   refine(zbq _ cb tb cap q ao l 39 HC1.out).mono ?_;rintro e w2 ⟨rfl,b2⟩;have HC2:=qH<|HC1.out.below b2;have HG2:=qH<|S.zaa HG1.out (S.zaf b2);have HR2:Hid (R.RowI w.heap.size w2 (.slice vo xs.length vc) xs):=R.Row.below HR1.out b2;clear b2
   by_cases h39:T.see l q=39
   ·have hsk:=Hend.out (by rw[h39];decide);have HSk:Hid _:=hsk;clear hsk
    go_wp2_with fail
    refine(za0 _ cb tb cap q ao l 39 (by decide) HC2.out h39).mono ?_;rintro e w3 ⟨rfl,C3,g3⟩;have HC3:=qH C3;have HG3:=qH<|S.zaa HG2.out g3;have HR3:Hid (R.RowI w.heap.size w3 (.slice vo xs.length vc) xs):=R.Row.cur HR2.out g3 he1;clear C3 g3;go_wp2;go_ret;rw[<- HO.out];unfold R.quotedAt;rw[HSk.out,h39,if_pos rfl,HX.out];exact⟨_,rfl,HR3.out,HC3.out,HG3.out⟩
   ·have hlt:=HC2.out.inside hd
    go_wp2_with fail
    refine(zhf _ cb tb cap q ao l HC2.out hlt).mono ?_;rintro e w3 ⟨rfl,C3,g3⟩;have HC3:=qH C3;have HG3:=qH<|S.zaa HG2.out g3;have HR3:Hid (R.RowI w.heap.size w3 (.slice vo xs.length vc) xs):=R.Row.cur HR2.out g3 he1;have hs3:=HG3.out.size;have hlt3:=R.Row.lt HR3.out;have HLt3:Hid _:=hlt3;clear C3 g3 hlt3
    have HL:Hid (xs.length<=16000):=by
     show _<=_;rw[<- HX.out,List.length_map];unfold T.cut;rw[List.length_take,List.length_drop];omega
    obtain⟨r,HRr⟩:∃r,Hid (T.see l q=r):=⟨_,rfl⟩;rw[HRr.out];have bA:=(qR w3).alloc qN (.cells #[.int .i64 1,.int .i32 r,.slice none 0 0,.string ⟨#[]⟩] 142);have HR4:Hid (R.RowI w.heap.size (w3.alloc (.cells #[.int .i64 1,.int .i32 r,.slice none 0 0,.string ⟨#[]⟩] 142)) (.slice vo xs.length vc) xs):=R.Row.below HR3.out bA;have HO4:Hid (R.RowI w3.heap.size (w3.alloc (.cells #[.int .i64 1,.int .i32 r,.slice none 0 0,.string ⟨#[]⟩] 142)) (.slice (some ⟨w3.heap.size,0,none⟩) 1 1) [R.runeI r]):=R.RowI.one 1 r none 0 [] ⟨#[]⟩ (zb5 _ _) (fun x hx=>by cases hx) (by decide) qN;have HC4:=qH<|HC3.out.below bA;have HG4:=qH<|S.zaa HG3.out (S.zaf bA);clear bA
    go_wp2_with (at_builtin;refine R.zc7 R.elemI rfl _ _ rfl _ _ xs [R.runeI r] rfl rfl HR4.out HO4.out hs3 (fun g hg=>(HLt3.out g hg).2) (by have:=HL.out;simp;omega) (by simp;omega) ?_;intro v5 w5 R5 g5 n5)
    have HR5:Hid (R.RowI w.heap.size w5 v5 (xs++ [R.runeI r])):=R5;have HC5:=qH<|HC4.out.row g5 (fun g hg=>(HLt3.out g hg).1) he1 HE2.out;have HG5:=qH<|R.zd5 HG4.out g5 (fun g hg=>(HLt3.out g hg).1);obtain⟨vo5,vc5,hv5⟩:=R.Row.slice R5;subst hv5;clear R5 g5 n5;go_wp2
    go_roundw
    case rel =>
     refine⟨q+1,xs++ [R.runeI r],vo5,vc5,rfl,by omega,?_,fun i h1 h2=> ?_,HR5,HC5,HG5⟩
     ·show _=_;rw[zh0 hq hlt,List.map_append,HX.out,HRr.out];rfl
     ·by_cases e:i=q
      ·rw[e];unfold R.notQuo;simp[h39,hd]
      ·exact HA.out i h1 (by omega)
    case measure =>
     rw[HC5.out.pos,HPos.out];omega
theorem zix {n:ByteArray}(h:R.named n=true):n.size<=20:=by
 unfold R.named at h;simp only[Bool.and_eq_true,decide_eq_true_eq] at h;exact h.2
theorem zhd {l:List Int}{p q:Nat}{n:ByteArray}(h:R.varAt l p=.ok n q):R.named n=true/\p<q:=by
 unfold R.varAt at h;split at h
 ·rename_i hn
  cases h;refine⟨hn,?_⟩;unfold R.wordEnd;split
  ·have:=T.za1 R.wordy l (p+1);omega
  ·omega
 ·cases h
theorem zun {l:List Int}{p q:Nat}{ys:List R.Item}(h:R.item l p=.ok (some ys) q):p<q:=by
 unfold R.item at h;split at h
 ·cases h1:T.setN 20 l p with
  | bad e r=>rw[h1] at h;cases h
  | ok s r=>rw[h1] at h;cases h;exact zo3 _ _ _ _ h1
 ·split at h
  ·cases h1:R.varAt l p with
   | bad e r=>rw[h1] at h;cases h
   | ok s r=>rw[h1] at h;cases h;exact(zhd h1).2
  ·split at h
   ·split at h
    ·cases h;have:=T.za1 R.notQuo l (p+1);omega
    ·cases h
   ·split at h
    ·cases h1:T.chr l p with
     | bad e r=>rw[h1] at h;cases h
     | ok s r =>
      rw[h1] at h;simp only at h;split at h
      ·cases h;exact zqx h1
      ·cases h
    ·cases h
def R.isItems (F:Nat) (o:Option (List R.Item)) (v:Value) (w:World):Prop :=
 match o with
 | none=>v=.tuple #[.slice none 0 0,.bool false]
 | some xs=>∃vs,v=.tuple #[vs,.bool true]/\R.RowI F w vs xs
theorem zsp (hK:T.ClassOk)(w:World)(cb tb cap p:Nat)(ao:Option Addr)(l:List Int)(C:T.Cur w cb tb cap ao l p) :
  Calls prog 171 #[.pointer (some ⟨cb,0,none⟩)] w (T.Ends w cb tb cap ao l (R.item l p) (R.isItems w.heap.size)):=by
 have hlen:=C.len;obtain⟨he1,he2⟩:=C.elder;have HK:=qH hK;have HC:=qH C;clear C he2 hK;obtain⟨o,HO⟩:∃o,Hid (R.item l p=o):=⟨_,rfl⟩;rw[HO.out]
 go_enter func171,ntmps171
 go_wp2_with fail
 refine(zbq _ cb tb cap p ao l 91 HC.out).mono ?_;rintro e w1 ⟨rfl,b1⟩;have HC1:=qH<|HC.out.below b1;have HG1:Hid (w.grownBy w1 (some cb)):=S.zaf b1;have hs1:=b1.size;clear b1
 by_cases h91:T.see l p=91
 ·go_wp2_with fail
  refine(zlm HK.out _ cb tb cap p ao l HC1.out).mono ?_;intro e w2 h;cases hc:T.setN 20 l p with
  | bad er q =>
   rw[hc] at h;obtain⟨rfl,g2⟩:=h;unfold T.thrown;go_wp2;refine⟨rfl,?_⟩;rw[<- HO.out];unfold R.item;rw[if_pos h91,hc];exact⟨rfl,S.zaa HG1.out g2⟩
  | ok s q =>
   rw[hc] at h;obtain⟨v2,rfl,⟨⟨hr2,hn2,_⟩,hf2⟩,C2,g2⟩:=h;have HC2:=qH C2;have HG2:=qH<|S.zaa HG1.out g2;have HHc:Hid _:=hc;obtain⟨so,sc,hv2⟩:=hr2.len;subst hv2;have HS2:=qH<|R.zdx hr2 (hf2.mono hs1);have HF2:=qH<|S.Fit.zdh hn2 (Int.le_refl _);clear C2 g2 hc hr2 hn2 hf2;go_wp2
   go_ret2
   rw[<- HO.out];unfold R.item;rw[if_pos h91,HHc.out];have bA:=(qR w2).alloc qN (.cells #[.int .i64 2,.int .i32 0,.slice so s.length sc,.string ⟨#[]⟩] 142);exact⟨_,rfl,⟨_,rfl,R.RowI.one 2 0 so sc s ⟨#[]⟩ HS2.out HF2.out (by decide) HG2.out.size⟩,HC2.out.below bA,S.zaa HG2.out (S.zaf bA)⟩
 ·go_wp2_with fail
  refine(ze4 _ cb tb cap p ao l HC1.out).mono ?_;rintro e w2 ⟨rfl,b2⟩;have HC2:=qH<|HC1.out.below b2;have HG2:=qH<|S.zaa HG1.out (S.zaf b2);clear b2
  by_cases hv:R.varNext l p=true
  ·go_wp2_with fail
   refine(zeu _ cb tb cap p ao l HC2.out hv).mono ?_;intro e w3 h;cases hc:R.varAt l p with
   | bad er q =>
    rw[hc] at h;obtain⟨rfl,g3⟩:=h;unfold T.thrown;go_wp2;refine⟨rfl,?_⟩;rw[<- HO.out];unfold R.item;rw[if_neg h91,if_pos hv,hc];exact⟨rfl,S.zaa HG2.out g3⟩
   | ok n q =>
    rw[hc] at h;obtain⟨v3,rfl,hvn,C3,g3⟩:=h;unfold R.isText at hvn;subst hvn;have hnm:=zix (zhd hc).1;have HNm:=qH hnm;have HC3:=qH C3;have HG3:=qH<|S.zaa HG2.out g3;have HHc:Hid _:=hc;clear C3 g3 hc hnm;go_wp2
    go_ret2
    rw[<- HO.out];unfold R.item;rw[if_neg h91,if_pos hv,HHc.out];have bA:=(qR w3).alloc qN (.cells #[.int .i64 3,.int .i32 0,.slice none 0 0,.string n] 142);exact⟨_,rfl,⟨_,rfl,R.RowI.one 3 0 none 0 [] n (zb5 _ _) (fun x hx=>by cases hx) (by have:=HNm.out;omega) HG3.out.size⟩,HC3.out.below bA,S.zaa HG3.out (S.zaf bA)⟩
  ·go_wp2_with fail
   refine(zaq _ cb tb cap p ao l 39 (by decide) HC2.out).mono ?_;rintro e w3 ⟨rfl,C3,g3⟩;have HG3:=qH<|S.zaa HG2.out g3;clear g3
   by_cases h39:T.see l p=39
   ·rw[if_pos h39] at C3;have HC3:=qH C3;clear C3
    go_wp2_with fail
    refine(zm0 _ cb tb cap (p+1) ao l HC3.out).mono ?_;intro e w4 h
    by_cases hq:T.see l (T.skipW R.notQuo l (p+1))=39
    ·have hQ:R.quotedAt l (p+1)=.ok ((T.cut l (p+1) (T.skipW R.notQuo l (p+1))).map R.runeI) (T.skipW R.notQuo l (p+1)+1):=by unfold R.quotedAt;rw[if_pos hq]
     rw[hQ] at h;obtain⟨v4,rfl,hr4,C4,g4⟩:=h;have HR4:Hid _:=hr4;obtain⟨vo,vc,hv4⟩:=R.Row.slice hr4;have HC4:=qH C4;have HG4:=qH<|S.zaa HG3.out g4;obtain⟨xs,HXs⟩:∃xs,Hid ((T.cut l (p+1) (T.skipW R.notQuo l (p+1))).map R.runeI=xs):=⟨_,rfl⟩;rw[HXs.out] at HR4 hv4;subst hv4;clear hr4 C4 g4 hQ;go_wp2
     go_ret2
     rw[<- HO.out];unfold R.item;rw[if_neg h91,if_neg hv,if_pos h39,if_pos hq,HXs.out];exact⟨_,rfl,⟨_,rfl,R.Row.down HR4.out HG3.out.size⟩,HC4.out,HG4.out⟩
    ·have hQ:R.quotedAt l (p+1)=.bad 2 (T.skipW R.notQuo l (p+1)):=by unfold R.quotedAt;rw[if_neg hq]
     rw[hQ] at h;obtain⟨rfl,g4⟩:=h;unfold T.thrown;go_wp2;refine⟨rfl,?_⟩;rw[<- HO.out];unfold R.item;rw[if_neg h91,if_neg hv,if_pos h39,if_neg hq];exact⟨rfl,S.zaa HG3.out g4⟩
   ·rw[if_neg h39] at C3;have HC3:=qH C3;clear C3
    go_wp2_with fail
    refine(zbq _ cb tb cap p ao l 92 HC3.out).mono ?_;rintro e w4 ⟨rfl,b4⟩;have HC4:=qH<|HC3.out.below b4;have HG4:=qH<|S.zaa HG3.out (S.zaf b4);clear b4
    -- one character
    have HOne:Hid (∀W,T.Cur W cb tb cap ao l p->w.grownBy W (some cb)->(T.see l p=92∨T.ordy (T.see l p)=true)->∀e w6,T.Ends W cb tb cap ao l (R.oneAt l p) R.isOne e w6 ->
      (∃er q,o=.bad er q/\e=T.thrown er q/\w.grownBy w6 (some cb))∨(∃c q,o=.ok (some [R.runeI c]) q/\e=.returned (.agg #[.int .i64 1,.int .i32 c,.slice none 0 0,.string ⟨#[]⟩])/\T.Cur w6 cb tb cap ao l q/\w.grownBy w6 (some cb))):=fun W CW GW hyes e w6 hE=>by
     have hoe:o=(match R.oneAt l p with | .bad e q=> .bad e q | .ok c q=> .ok (some [R.runeI c]) q):=by
      rw[<- HO.out];unfold R.item R.oneAt;rw[if_neg h91,if_neg hv,if_neg h39,if_pos hyes];cases T.chr l p with
      | bad e q=>rfl
      | ok c q =>
       simp only
       by_cases hr:M.right c=true
       ·rw[if_pos hr,if_pos hr]
       ·rw[if_neg hr,if_neg hr]
     cases hc:R.oneAt l p with
     | bad er q =>
      rw[hc] at hE hoe;obtain⟨h1,h2⟩:=hE;exact .inl ⟨er,q,hoe,h1,S.zaa GW h2⟩
     | ok c q =>
      rw[hc] at hE hoe;obtain⟨v,h1,h2,h3,h4⟩:=hE;unfold R.isOne at h2;subst h2;exact .inr ⟨c,q,hoe,h1,h3,S.zaa GW h4⟩
    by_cases h92:T.see l p=92
    ·go_wp2_with fail
     refine(zgh _ cb tb cap p ao l HC4.out).mono ?_;intro e w6 h;rcases HOne.out _ HC4.out HG4.out (.inl h92) e w6 h with ⟨er,q,rfl,rfl,g6⟩|⟨c,q,rfl,rfl,C6,g6⟩
     ·unfold T.thrown;go_wp2;exact⟨rfl,rfl,g6⟩
     ·have HC6:=qH C6;have HG6:=qH g6;clear C6 g6 h HOne;go_wp2
      go_ret2
      have bA:=(qR w6).alloc qN (.cells #[.int .i64 1,.int .i32 c,.slice none 0 0,.string ⟨#[]⟩] 142);exact⟨_,rfl,⟨_,rfl,R.RowI.one 1 c none 0 [] ⟨#[]⟩ (zb5 _ _) (fun x hx=>by cases hx) (by decide) HG6.out.size⟩,HC6.out.below bA,S.zaa HG6.out (S.zaf bA)⟩
    ·go_wp2_with fail
     refine(zht _ cb tb cap p ao l HC4.out).mono ?_;rintro e w5 ⟨rfl,b5⟩;have HC5:=qH<|HC4.out.below b5;have HG5:=qH<|S.zaa HG4.out (S.zaf b5);clear b5
     by_cases hor:T.ordy (T.see l p)=true
     ·go_wp2_with fail
      refine(zgh _ cb tb cap p ao l HC5.out).mono ?_;intro e w6 h;rcases HOne.out _ HC5.out HG5.out (.inr hor) e w6 h with ⟨er,q,rfl,rfl,g6⟩|⟨c,q,rfl,rfl,C6,g6⟩
      ·unfold T.thrown;go_wp2;exact⟨rfl,rfl,g6⟩
      ·have HC6:=qH C6;have HG6:=qH g6;clear C6 g6 h HOne;go_wp2
       go_ret2
       have bA:=(qR w6).alloc qN (.cells #[.int .i64 1,.int .i32 c,.slice none 0 0,.string ⟨#[]⟩] 142);exact⟨_,rfl,⟨_,rfl,R.RowI.one 1 c none 0 [] ⟨#[]⟩ (zb5 _ _) (fun x hx=>by cases hx) (by decide) HG6.out.size⟩,HC6.out.below bA,S.zaa HG6.out (S.zaf bA)⟩
     ·clear HOne;go_wp2
      go_ret2
      rw[<- HO.out];unfold R.item;rw[if_neg h91,if_neg hv,if_neg h39,if_neg (by simp[h92,hor])];exact⟨_,rfl,rfl,HC5.out,HG5.out⟩
theorem zdp (w:World)(cb b c:Nat)(vo:Option Addr)(n vc:Nat)(k:Int)(hk:¬ 0<=k)(_:b<=16000)(_:c=b) :
  Calls prog 152 #[.pointer (some ⟨cb,0,none⟩),.agg #[.int .i64 b,.slice vo n vc,.int .i64 k]] w fun e w'=>e=.returned (.slice vo n vc)/\Bl w w':=by
 have hk':k<0:=by omega
 go_enter func152,ntmps152
 go_wp2;go_ret
 exact⟨rfl,(qR w).alloc qN _⟩
theorem zdq (w:World)(cb b:Nat)(vo:Option Addr)(n vc:Nat)(k:Int)(hk:0<=k) :
  Calls prog 152 #[.pointer (some ⟨cb,0,none⟩),.agg #[.int .i64 b,.slice vo n vc,.int .i64 k]] w fun e w'=>e=T.thrown 8 b/\Bl w w':=by
 have hk':¬k<0:=by omega
 have bA:=(qR w).alloc qN (.cells #[.int .i64 b,.slice vo n vc,.int .i64 k] 201);have HB:=qH bA;clear bA
 go_enter func152,ntmps152
 go_wp2
 go_region_dies
 all_goals refine(zaw _ 8 b).mono ?_
 all_goals unfold T.thrown
 all_goals rintro e w3 ⟨rfl,rfl⟩
 all_goals exact⟨rfl,rfl,below_drewN HB.out 1⟩
theorem zso {l:List Int}{p q:Nat}{ys:List R.Item}(h:R.item l p=.ok (some ys) q):ys.length<=l.length+1:=by
 unfold R.item at h;split at h
 ·cases h1:T.setN 20 l p with
  | bad e r=>rw[h1] at h;cases h
  | ok s r=>rw[h1] at h;cases h;simp
 ·split at h
  ·cases h1:R.varAt l p with
   | bad e r=>rw[h1] at h;cases h
   | ok s r=>rw[h1] at h;cases h;simp
  ·split at h
   ·split at h
    ·cases h;rw[List.length_map];unfold T.cut;rw[List.length_take,List.length_drop];omega
    ·cases h
   ·split at h
    ·cases h1:T.chr l p with
     | bad e r=>rw[h1] at h;cases h
     | ok s r =>
      rw[h1] at h;simp only at h;split at h
      ·cases h;simp
      ·cases h
    ·cases h
def R.isList (b F:Nat) (x:List R.Item×Int) (v:Value) (w:World):Prop :=
 ∃vo vc,v=.agg #[.int .i64 b,.slice vo x.1.length vc,.int .i64 x.2]/\R.Stays F none w (fun w'=>R.Its w' (.slice vo x.1.length vc) x.1)/\x.1.length<=20/\ -1<=x.2/\x.2<=20
theorem zce (hK:T.ClassOk)(w:World)(cb tb cap p:Nat)(ao:Option Addr)(l:List Int)(C:T.Cur w cb tb cap ao l p) :
  Calls prog 151 #[.pointer (some ⟨cb,0,none⟩)] w (T.Ends w cb tb cap ao l (R.items l p) (R.isList p w.heap.size)):=by
 have hlen:=C.len;have hple:=C.le;have c1:=C.cell1;obtain⟨he1,he2⟩:=C.elder;have HE2:=qH he2;have HK:=qH hK;have HC:=qH C;clear C he2 hK;obtain⟨o,HO⟩:∃o,Hid (R.items l p=o):=⟨_,rfl⟩;rw[HO.out];have n1:¬w.heap.size=cb:=by omega
 have n2:¬w.heap.size+1=cb:=by omega
 go_enter func151,ntmps151
 go_wp2_with fail
 have bA:=(qR w).alloc qN (.cells #[.int .i64 0,.slice none 0 0,.int .i64 0] 201);have x2:(w.alloc (.cells #[.int .i64 0,.slice none 0 0,.int .i64 0] 201)).heap[w.heap.size]?=some (.cells #[.int .i64 0,.slice none 0 0,.int .i64 0] 201):=heap_alloc_new w _;have hsz:(w.alloc (.cells #[.int .i64 0,.slice none 0 0,.int .i64 0] 201)).heap.size=w.heap.size+1:=by simp
 have x3:=heap_alloc_new (w.alloc (.cells #[.int .i64 0,.slice none 0 0,.int .i64 0] 201)) (.cells #[.int .i64 p,.slice none 0 0,.int .i64 (-1)] 201);have bB:=(qR (w.alloc (.cells #[.int .i64 0,.slice none 0 0,.int .i64 0] 201))).alloc qN (.cells #[.int .i64 p,.slice none 0 0,.int .i64 (-1)] 201);have x2':=R.zae x2 bB;have bW:=bA.trans (bB.mono (by rw[hsz];omega));rw[hsz] at x3;have CW:=HC.out.below bW;have GW:w.grownBy _ (some cb):=S.zaf bW;refine(zaz _ cb tb cap p ao l CW).mono ?_;generalize (w.alloc (.cells #[.int .i64 0,.slice none 0 0,.int .i64 0] 201)).alloc (.cells #[.int .i64 p,.slice none 0 0,.int .i64 (-1)] 201)=W0 at x3 bB x2' bW CW GW;clear bA bB bW CW x2 hsz c1;rintro e w1 ⟨rfl,C1,g1⟩;have HX2:=qH<|R.zah x2' g1 n1;have HX3:=qH<|R.zah x3 g1 n2;have HC1:=qH C1;have HG1:=qH<|S.zaa GW g1;clear x2' x3 GW C1 g1;go_wp2
 go_loopw [25] (fun _ wr=>∃(p' q f:Nat) (xs:List R.Item) (c:Int) (vo:Option Addr) (vc:Nat),Hid (R.gap l p'=q)/\Hid (l.length<p'+f)/\Hid (R.itemsN f l xs c p'=o)/\xs.length<=20/\ -1<=c/\c<=20/\Hid (wr.heap[w.heap.size+1]?=some (.cells #[.int .i64 p,.slice vo xs.length vc,.int .i64 c] 201))/\Hid (wr.heap[w.heap.size]?=some (.cells #[.int .i64 0,.slice none 0 0,.int .i64 0] 201))/\Hid (R.RowI (w.heap.size+2) wr (.slice vo xs.length vc) xs)/\Hid (T.Cur wr cb tb cap ao l q)/\Hid (w.grownBy wr (some cb))) (fun _ wr=>l.length-T.pos wr cb)
 case atStart=>exact⟨p,_,l.length+2,[],-1,none,0,rfl,by show _<_;omega,by show _=_;rw[<- HO.out];rfl,by simp,by omega,by omega,HX3,HX2,R.Row.nil _ _,HC1,HG1⟩
 case round =>
  obtain⟨p',q,f,xs,c,vo,vc,HQ,HF,HN,hxl,hc1,hc2,HX3,HX2,HR,HCq,HG⟩:=hrel;have HPos:Hid _:=HCq.out.pos;have hql:=HCq.out.le;have cq:=HCq.out.cell1;have hpq:p'<=q:=by have:=R.zqf l p';have:=HQ.out;omega
  obtain⟨f,rfl⟩:∃g,f=g+1:=⟨f-1,by have:=HF.out;omega⟩
  go_wp2_with fail
  refine(zaq _ cb tb cap q ao l 124 (by decide) HCq.out).mono ?_;rintro e w4 ⟨rfl,C4,g4⟩;have HG4:=qH<|S.zaa HG.out g4;have x43:=R.zah HX3.out g4 n2;have HX43:=qH x43;have HX42:=qH<|R.zah HX2.out g4 n1;have HR4:Hid (R.RowI (w.heap.size+2) w4 (.slice vo xs.length vc) xs):=R.Row.cur HR.out g4 (by omega);clear g4 cq
  by_cases h124:T.see l q=124
  ·rw[if_pos h124] at C4;have HC4:=qH C4;clear C4;have a1:=R.zab (i:=1) x43 rfl;have a2:=R.zab (i:=2) x43 rfl;have z2:=R.zac (i:=2) x43;clear x43
   by_cases hc0:0<=c
   ·have hcc:¬c<0:=by omega
    go_wp2_with (go_at_call 29;refine(zaw _ 5 q).mono ?_;unfold T.thrown;rintro e w5 ⟨rfl,rfl⟩)
    refine⟨rfl,?_⟩;rw[<- HN.out,R.itemsN,HQ.out,if_pos h124,if_pos hc0];exact⟨rfl,HG4.out⟩
   ·have hcc:c<0:=by omega
    have gS:w4.grownBy (w4.setCell ⟨w.heap.size+1,2,none⟩ (.int .i64 xs.length)) (some (w.heap.size+1)):=R.zak _ _ _ _;have HC5:=qH<|HC4.out.apart gS n2 (fun h=>by have:=HE2.out h;omega);have HX53:Hid ((w4.setCell ⟨w.heap.size+1,2,none⟩ (.int .i64 xs.length)).heap[w.heap.size+1]?=some (.cells #[.int .i64 p,.slice vo xs.length vc,.int .i64 xs.length] 201)):=heap_setCell_same w4 (w.heap.size+1) 2 _ 201 _ HX43.out;have HX52:=qH<|R.zah HX42.out gS (by omega);have HR5:Hid (R.RowI (w.heap.size+2) (w4.setCell ⟨w.heap.size+1,2,none⟩ (.int .i64 xs.length)) (.slice vo xs.length vc) xs):=R.Row.cur HR4.out gS (by omega);have HG5:=qH<|R.zam HG4.out gS (by omega);clear gS
    go_wp2_with fail
    refine(zaz _ cb tb cap (q+1) ao l HC5.out).mono ?_;rintro e w6 ⟨rfl,C6,g6⟩;have HC6:=qH C6;have HX63:=R.zah HX53.out g6 n2;have HX62:=R.zah HX52.out g6 n1;have HR6:=R.Row.cur HR5.out g6 (show cb<w.heap.size+2 by omega);have HG6:=S.zaa HG5.out g6;have HY:Hid _:=And.intro HX63 (And.intro HX62 (And.intro HR6 HG6));have hge:=R.zqf l (q+1);clear C6 g6 HX63 HX62 HR6 HG6 HC5 HX53 HX52 HR5 HG5 a1 a2 z2;go_wp2
    go_roundw
    case rel=>exact⟨q+1,_,f,xs,xs.length,vo,vc,rfl,by have:=HF.out;show _<_;omega,by show _=_;rw[<- HN.out,R.itemsN,HQ.out,if_pos h124,if_neg (by omega)],hxl,by omega,by omega,HY.out.1,HY.out.2.1,HY.out.2.2.1,HC6,HY.out.2.2.2⟩
    case measure =>
     rw[HC6.out.pos,HPos.out];have:=HC6.out.le;omega
  ·rw[if_neg h124] at C4;have HC4:=qH C4;clear C4 x43
   go_wp2_with fail
   refine(zsp HK.out _ cb tb cap q ao l HC4.out).mono ?_;intro e w5 h;cases hc:R.item l q with
   | bad er r =>
    rw[hc] at h;obtain⟨rfl,g5⟩:=h;unfold T.thrown;go_wp2;refine⟨rfl,?_⟩;rw[<- HN.out,R.itemsN,HQ.out,if_neg h124,hc];exact⟨rfl,S.zaa HG4.out g5⟩
   | ok yo r =>
    rw[hc] at h;obtain⟨v5,rfl,hv5,C5,g5⟩:=h;have x53:=R.zah HX43.out g5 n2;have x52:=R.zah HX42.out g5 n1;have HX53:=qH x53;have HX52:=qH x52;have HR5:Hid (R.RowI (w.heap.size+2) w5 (.slice vo xs.length vc) xs):=R.Row.cur HR4.out g5 (by omega);have HG5:=qH<|S.zaa HG4.out g5;have HC5:=qH C5;have HHc:Hid _:=hc;have a0:=R.zab (i:=0) x53 rfl;have a1:=R.zab (i:=1) x53 rfl;have a2:=R.zab (i:=2) x53 rfl;clear C5 g5 hc;cases yo with
    | none =>
     unfold R.isItems at hv5;simp only at hv5;subst hv5;have r0:=R.zab (i:=0) x52 rfl;have r1:=R.zab (i:=1) x52 rfl;have r2:=R.zab (i:=2) x52 rfl;have s0:=R.zac (i:=0) x52;have s1:=R.zac (i:=1) x52;have s2:=R.zac (i:=2) x52;clear x52 x53;go_wp2;obtain⟨hbx,hgr⟩:=R.put3 HX52.out (.int .i64 p) (.slice vo xs.length vc) (.int .i64 c);refine bodyPost_ret (R.za2 rfl _ _ w.heap.size #[.int .i64 p,.slice vo xs.length vc,.int .i64 c] hbx underlying201 (by kernel_rfl) rfl) rfl ?_;rw[<- HN.out,R.itemsN,HQ.out,if_neg h124,HHc.out];exact⟨_,rfl,⟨vo,vc,rfl,((R.RowI.its HR5.out).apart hgr (by omega)).down (by omega),hxl,hc1,hc2⟩,HC5.out.apart hgr n1 (fun h=>by have:=HE2.out h;omega),R.zam HG5.out hgr qN⟩
    | some ys =>
     obtain⟨vs,hvs,hry⟩:=hv5;subst hvs;have hyl:=zso HHc.out;have hlt:=zun HHc.out;have HY5:=qH hry;obtain⟨yo,yc,hvy⟩:=R.Row.slice hry;subst hvy;have hlr:=R.Row.lt HR4.out;have HLr:Hid _:=hlr;obtain⟨zs,HZs⟩:∃zs,Hid (xs++ys=zs):=⟨_,rfl⟩;have hzl:zs.length=xs.length+ys.length:=by rw[<- HZs.out,List.length_append]
     have HZl:=qH hzl
     have hF45:w.heap.size+2<=w4.heap.size:=by
      have:=(qA.1 HX43.out).1;omega
     have hF5:w.heap.size+2<=w5.heap.size:=by
      have:=(qA.1 x53).1;omega
     clear hry hlr x52 x53 hzl
     by_cases hbig:20<zs.length
     ·go_wp2_with (first
       | (at_builtin;refine R.zc7 R.elemI rfl _ _ rfl _ _ xs ys rfl rfl HR5.out HY5.out hF45 (fun g hg=>(HLr.out g hg).2) (by omega) hF5 ?_;intro v6 w6 R6 g6 n6;rw[HZs.out] at R6;have x63:=R.zlg HX53.out g6 (fun g hg=>(by have:=(HLr.out g hg).1;omega));have d1:=R.zab (i:=1) x63 rfl;have e1:=R.zac (i:=1) x63;obtain⟨vo6,vc6,hv6⟩:=R.Row.slice R6;subst hv6;have HG6:Hid (w.grownBy w6 (some cb)):=R.zd5 HG5.out g6 (fun g hg=>(by have:=(HLr.out g hg).1;omega));clear R6 g6 n6 x63)
       | (go_at_call 29;refine(zaw _ 5 q).mono ?_;unfold T.thrown;rintro e w7 ⟨rfl,rfl⟩))
      refine⟨rfl,?_⟩;rw[<- HN.out,R.itemsN,HQ.out,if_neg h124,HHc.out];simp only;rw[if_pos (by have:=HZl.out;omega)];exact⟨rfl,R.zam HG6.out (R.zak _ _ _ _) (by omega)⟩
     ·go_wp2_with (at_builtin;refine R.zc7 R.elemI rfl _ _ rfl _ _ xs ys rfl rfl HR5.out HY5.out hF45 (fun g hg=>(HLr.out g hg).2) (by omega) hF5 ?_;intro v6 w6 R6 g6 n6;rw[HZs.out] at R6;have x63:=R.zlg HX53.out g6 (fun g hg=>(by have:=(HLr.out g hg).1;omega));have x62:=R.zlg HX52.out g6 (fun g hg=>(by have:=(HLr.out g hg).1;omega));have d1:=R.zab (i:=1) x63 rfl;have e1:=R.zac (i:=1) x63;obtain⟨vo6,vc6,hv6⟩:=R.Row.slice R6;subst hv6;have HG6:Hid (w.grownBy w6 (some cb)):=R.zd5 HG5.out g6 (fun g hg=>(by have:=(HLr.out g hg).1;omega));have HR6:Hid (R.RowI (w.heap.size+2) w6 (.slice vo6 zs.length vc6) zs):=R6;have HC6:Hid (T.Cur w6 cb tb cap ao l r):=HC5.out.row g6 (F:=w.heap.size+2) (fun g hg=>(HLr.out g hg).1) (by omega) (fun h=>(by have:=HE2.out h;omega));have HX63:Hid (w6.heap[w.heap.size+1]?=some (.cells #[.int .i64 p,.slice vo xs.length vc,.int .i64 c] 201)):=x63;have HX62:Hid (w6.heap[w.heap.size]?=some (.cells #[.int .i64 0,.slice none 0 0,.int .i64 0] 201)):=x62;clear R6 g6 n6 x63 x62)
      have gS:w6.grownBy (w6.setCell ⟨w.heap.size+1,1,none⟩ (.slice vo6 zs.length vc6)) (some (w.heap.size+1)):=R.zak _ _ _ _;have C7:=HC6.out.apart gS n2 (fun h=>by have:=HE2.out h;omega);have X73:(w6.setCell ⟨w.heap.size+1,1,none⟩ (.slice vo6 zs.length vc6)).heap[w.heap.size+1]?=some (.cells #[.int .i64 p,.slice vo6 zs.length vc6,.int .i64 c] 201):=heap_setCell_same w6 (w.heap.size+1) 1 _ 201 _ HX63.out;have X72:=R.zah HX62.out gS (by omega);have R7:=R.Row.cur HR6.out gS (show w.heap.size+1<w.heap.size+2 by omega);have G7:=R.zam HG6.out gS (by omega);refine(zaz _ cb tb cap r ao l C7).mono ?_;rintro e w8 ⟨rfl,C8,g8⟩;have HC8:=qH C8;have HY:Hid _:=And.intro (R.zah X73 g8 n2) (And.intro (R.zah X72 g8 n1) (And.intro (R.Row.cur R7 g8 (show cb<w.heap.size+2 by omega)) (S.zaa G7 g8)));have hge:=R.zqf l r;clear C7 X73 X72 R7 G7 gS C8 g8 d1 e1 a0 a1 a2;go_wp2
      go_roundw
      case rel=>exact⟨r,_,f,zs,c,vo6,vc6,rfl,by have:=HF.out;show _<_;omega,by show _=_;rw[<- HN.out,R.itemsN,HQ.out,if_neg h124,HHc.out];simp only;rw[if_neg (by have:=HZl.out;omega),HZs.out],by omega,hc1,hc2,HY.out.1,HY.out.2.1,HY.out.2.2.1,HC8,HY.out.2.2.2⟩
      case measure =>
       rw[HC8.out.pos,HPos.out];have:=HC8.out.le;omega
