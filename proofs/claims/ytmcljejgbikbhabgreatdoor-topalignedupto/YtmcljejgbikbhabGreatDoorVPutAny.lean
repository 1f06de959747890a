/-
 resolve.put, whatever passes there are.
-/
import Derived.Test.YtmcljejgbikbhabGreatDoorVPut
namespace Go.Proofs.YtmcljejgbikbhabGreatDoor
open Go.RowKit
set_option linter.unusedVariables false
theorem V.zhh (init:List V.Pass)(p:V.Pass)(r:K.Rule):V.putP (init++ [p]) r=if p.name.size=0 then init++ [⟨p.name,p.rules++ [r]⟩] else init++ [p]++ [⟨⟨#[]⟩,[r]⟩]:=by
 unfold V.putP;rw[List.getLast?_concat];simp only[List.dropLast_concat]
theorem zsi (F:Nat)(w:World)(tops:List Nat)(vp:Value)(ps:List V.Pass)(rvs:List Value)(h:V.PS F tops w vp ps rvs)(h0:ps= []->vp= .slice none 0 0)(r:K.Rule)(bo:Option Addr)(bc:Nat)(so:Option Addr)(sc:Nat)(ao:Option Addr)(ac:Nat)(ta:Option Addr)(tc:Nat)(hL:V.Leaf tops w fun W=>K.RuIs W (.agg #[.bool r.start,.bool r.fin,.slice bo r.before.length bc,.slice so r.source.length sc,.slice ao r.after.length ac,.slice ta r.target.length tc,.int .i64 r.cursor]) r)(hF:F<=w.heap.size)(hil:ps.length<=1000)(hrl:∀p∈ps,p.rules.length<=1000) :
  Calls Tryz.prog 47 #[vp,.agg #[.bool r.start,.bool r.fin,.slice bo r.before.length bc,.slice so r.source.length sc,.slice ao r.after.length ac,.slice ta r.target.length tc,.int .i64 r.cursor]] w fun e w'=>(∃vp' tops' rvs',e= .returned vp'/\V.PS F tops' w' vp' (V.putP ps r) rvs'/\V.Moves tops w tops' w')/\Below F w w':=by
 by_cases hps:ps= []
 ·have hvp:=h0 hps;subst hvp;refine(zlp F w tops ps rvs h r bo bc so sc ao ac ta tc hL hF hil).mono fun e w' ⟨⟨vp',tops',rvs',he,hp,hm⟩,hb⟩=>⟨⟨vp',tops',rvs',he,?_,hm⟩,hb⟩
  rw[hps] at hp ⊢;exact hp
 ·have hpos:0<ps.length:=by cases ps with | nil=>exact absurd rfl hps | cons _ _=>simp
  obtain⟨init,p,rvi,rv,hp,hrv,hli⟩:=h.snoc hpos;obtain⟨X,cap,hvp⟩:=h.slice hpos;have hlen:ps.length=init.length+1:=by rw[hp];simp
  rw[hlen] at hvp;subst hvp
  by_cases hnm:p.name.size=0
  ·have hnm':p.name=⟨#[]⟩:=by
    have:p.name.data=#[]:=Array.size_eq_zero_iff.1 hnm;cases hq:p.name with
    | mk d=>rw[hq] at this;exact congrArg ByteArray.mk this
   have h':=h;rw[hp,hrv] at h';refine(zn9 F w tops init p rvi rv X cap h' hli hnm' r bo bc so sc ao ac ta tc hL hF (hrl p (by rw[hp];simp)) (by omega)).mono fun e w' ⟨he,⟨tops',rv',hps',hm⟩,hb⟩=>⟨⟨_,tops',rvi++ [rv'],he,?_,hm⟩,hb⟩
   rw[hp,V.zhh,if_pos hnm];exact hps'
  ·refine(zlo F w tops ps rvs init p rvi rv X cap hp hrv hli hnm h r bo bc so sc ao ac ta tc hL hF hil).mono fun e w' ⟨⟨vp',tops',rvs',he,hq,hm⟩,hb⟩=>⟨⟨vp',tops',rvs',he,?_,hm⟩,hb⟩
   rw[hp,V.zhh,if_neg hnm];rw[hp] at hq;exact hq
end Go.Proofs.YtmcljejgbikbhabGreatDoor
