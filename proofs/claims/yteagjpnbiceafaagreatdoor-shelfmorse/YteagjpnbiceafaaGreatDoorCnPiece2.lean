/-
 Lists of sets that are appended to.
-/
import Derived.Test.YteagjpnbiceafaaGreatDoorShText2
import Derived.BigRegion
import Derived.RegionTactic
import Derived.Deep.RegionHeld3
import Derived.Test.YteagjpnbiceafaaGreatDoorXVm2
import Derived.Test.YteagjpnbiceafaaGreatDoorQBox
import Derived.Test.YteagjpnbiceafaaGreatDoorCnThru
import Derived.Test.YteagjpnbiceafaaGreatDoorJHeads
set_option maxHeartbeats 0
set_option maxRecDepth 20000
set_option linter.unusedSimpArgs false
set_option linter.unusedVariables false
namespace Go.Proofs.YteagjpnbiceafaaGreatDoor
open Go.RowKit
def K.SsV (w:World) (v:Value) (l:List (List S.Sp)) (vs:List Value):Prop :=
 ∃ao cap,v= .slice ao l.length cap/\(ao=none->cap=0)/\K.Sets w vs l/\(l≠ []->∃b off,ao=some ⟨b,off,none⟩/\∀(j:Nat) u,vs[j]?=some u->w.cell? ⟨b,off+j,none⟩=some u)
theorem K.SsV.below {w w':World}{v:Value}{l:List (List S.Sp)}{vs:List Value}(h:K.SsV w v l vs)(hb:Below w.heap.size w w'):K.SsV w' v l vs:=by
 obtain⟨ao,cap,rfl,hn,hs,hc⟩:=h;refine⟨ao,cap,rfl,hn,hs.below hb,fun hz=> ?_⟩;obtain⟨b,off,rfl,hc2⟩:=hc hz;refine⟨b,off,rfl,fun j u hj=> ?_⟩;have h1:=hc2 j u hj;have:=L.block_lt h1;rw[hb.cell (p:=⟨b,off+j,none⟩) this];exact h1
theorem K.zbk {t:TypeId}{ops:Array Oper}{o:Oper}{a:Act}{w:World}{K:Act->World->Prop}{Q:Exit->Act->World->Prop}{E:Prop}(hgd:o.guard=none)(s x:Operand)
  (ho:o.op= .call { callee:= .builtin .append,args:=#[s,x],argTypes:=#[t,t] }) (v vx v':Value) (w':World) (hs:a.eval s=v) (hx:a.eval x=vx)
  (hrun:∀ty,(Builtin.append_ #[t,t] ty #[v,vx]).run Tryz.prog w= .ok v' w') (h:K (a.put o.dst v') w') :
  if Region.wanted o (yielded ops a.tmps)=true then Oper.wp Tryz.prog o a w K Q else E:=by
 have hw:Region.wanted o (yielded ops a.tmps)=true:=by simp[Region.wanted,hgd]
 rw[if_pos hw];unfold Oper.wp;simp[execOp,ho,resolve,invoke,builtin,hs,hx,hrun,Result.andThen];exact h
namespace Ws
def Own (F:Nat) (w:World) (v:Value) (ts:List (List Int)):Prop :=
 ∃ps:List (List Int×Value),ps.map (·.1)=ts/\w.ownsRow F 42 1 v ts.length (ps.map (·.2))/\∀p∈ps,w.ownsRow F 21 1 p.2 p.1.length (K.ints p.1)
theorem Own.nil (F:Nat)(w:World):Own F w (.slice none 0 0) []:=⟨[],rfl,World.ownsRow_nil _ _ _ _,fun p hp=>by cases hp⟩
theorem Own.len {F:Nat}{w:World}{v:Value}{ts:List (List Int)}(h:Own F w v ts):∃ao cap,v= .slice ao ts.length cap:=by
 obtain⟨ps,_,h2,_⟩:=h;rcases h2.2 with ⟨hv,h0⟩|⟨g,cap,cur,hv,_⟩
 ·exact⟨none,0,by rw[hv,h0]⟩
 ·exact⟨_,cap,hv⟩
theorem kept1 {F:Nat}{e:TypeId}{k:Nat}{w w':World}{v:Value}{n:Nat}{xs:List Value}(h:w.ownsRow F e k v n xs)(hb:∀g,v.ownBlock=some g->w'.heap[g]?=w.heap[g]?):w'.ownsRow F e k v n xs:=by
 obtain⟨h1,h2⟩:=h;refine⟨h1,?_⟩;rcases h2 with h2 | ⟨g,cap,cur,hv,hg,hx,r⟩
 ·exact .inl h2
 ·exact .inr ⟨g,cap,cur,hv,hg,by rw[hb g (by rw[hv];rfl)];exact hx,r⟩
theorem Own.kept {F:Nat}{w w':World}{v:Value}{ts:List (List Int)}(h:Own F w v ts)(hb:∀g,F<=g->g<w.heap.size->w'.heap[g]?=w.heap[g]?):Own F w' v ts:=by
 obtain⟨ps,h1,h2,h3⟩:=h;exact⟨ps,h1,kept1 h2 fun g hg=>hb g (h2.lt g hg).1 (h2.lt g hg).2,fun p hp=>kept1 (h3 p hp) fun g hg=>hb g ((h3 p hp).lt g hg).1 ((h3 p hp).lt g hg).2⟩
theorem one_cell {F:Nat}{e:TypeId}{k:Nat}{w:World}{v:Value}{n:Nat}{xs:List Value}(h:w.ownsRow F e k v n xs):v.oneCell'=true:=by
 obtain⟨_,⟨rfl,_⟩|⟨g,cap,cur,rfl,_⟩⟩:=h <;> rfl
def Rd (w:World) (v:Value) (ts:List (List Int)):Prop :=
 ∃ao cap,v= .slice ao ts.length cap/\(ao=none->cap=0)/\(ts≠ []->∃b off,ao=some ⟨b,off,none⟩/\∀j t,ts[j]?=some t->∃u,w.cell? ⟨b,off+j,none⟩=some u/\L.Rd w u .i32 t)
theorem Rd.below {w w':World}{v:Value}{ts:List (List Int)}(h:Rd w v ts)(hb:Below w.heap.size w w'):Rd w' v ts:=by
 obtain⟨ao,cap,hv,hn,hc⟩:=h;refine⟨ao,cap,hv,hn,fun hne=> ?_⟩;obtain⟨b,off,e,hcell⟩:=hc hne;refine⟨b,off,e,fun j t hj=> ?_⟩;obtain⟨u,h1,h2⟩:=hcell j t hj;exact⟨u,by rw[hb.cell (p:=⟨b,off+j,none⟩) (L.block_lt h1)];exact h1,h2.below hb qN⟩
theorem Own.rd {F:Nat}{w:World}{v:Value}{ts:List (List Int)}(h:Own F w v ts):Rd w v ts:=by
 obtain⟨ps,h1,h2,h3⟩:=h;rcases h2.2 with ⟨hv,h0⟩|⟨g,cap,cur,hv,hg,hx,hle,hmax,hsz,htk⟩
 ·have:ts= []:=List.eq_nil_of_length_eq_zero h0;subst this;exact⟨none,0,hv,fun _=>rfl,fun h=>absurd rfl h⟩
 ·refine⟨_,cap,hv,fun e=>by (cases e),fun _=>⟨g,0,rfl,fun j t hj=> ?_⟩⟩;rw[<- h1,List.getElem?_map] at hj;cases hp:ps[j]? with
  | none=>rw[hp] at hj;simp at hj
  | some p =>
   rw[hp] at hj;simp at hj;subst hj;have hlt:=(qL.1 hp).1;have hjl:j<ts.length:=by rw[<- h1];simpa using hlt
   refine⟨p.2,?_,L.Rd.za6 (h3 p (List.mem_of_getElem? hp))⟩
   have e:cur.toList[j]?=some p.2:=by
    have:(cur.toList.take (ts.length*1))[j]?=some p.2:=by rw[htk,List.getElem?_map,hp];rfl
    rw[List.getElem?_take] at this;split at this
    ·exact this
    ·cases this
   exact K.zaf hx (by simpa using e)
end Ws
end Go.Proofs.YteagjpnbiceafaaGreatDoor
namespace Go.Proofs.YteagjpnbiceafaaGreatDoor
open Go.RowKit Go.Lib
def Cn.Idx (l:List Int) (P:Int->Bool) (i:Int):Prop :=
 (i= -1/\∀r∈l,P r=false)∨∃(j:Nat) (x:Int),i=(j:Int)/\l[j]?=some x/\P x=true/\∀r∈l.take j,P r=false
theorem zit (w:World)(v:Value)(l:List Int)(R0:L.Rd w v .i32 l)(hl:l.length<=140737488355328)(g:Nat)(cb:Array Value)(P:Int->Bool)(eg:∀args w,(callFunc g args).run Tryz.prog w= .ok (.enter g args) w)
  (hh:∀W r,Below w.heap.size w W->r∈l->Calls Tryz.prog g (#[.int .i32 r]++cb) W fun e w'=>e= .returned (.bool (P r))/\Below W.heap.size W w') :
  Calls Tryz.prog 80 #[v,.func (.func g) #[] cb] w fun e w'=>∃i:Int,e= .returned (.int .i64 i)/\Cn.Idx l P i/\Below w.heap.size w w':=by
 have HH:Hid (∀W r,Below w.heap.size w W->r∈l->Calls Tryz.prog g (#[.int .i32 r]++cb) W fun e w'=>e= .returned (.bool (P r))/\Below W.heap.size W w'):=hh;obtain⟨lao,lcap,rfl,_,hcs⟩:=R0;have HC:Hid (l≠ []->∃b off,lao=some ⟨b,off,none⟩/\∀j z,l[j]?=some z->w.cell? ⟨b,off+j,none⟩=some (.int .i32 z)):=hcs;clear hh hcs
 go_enter Tryz.func80,Tryz.ntmps80
 go_wp2
 go_loopw [8] (fun i wr=>∃j:Nat,j<=l.length/\i= .int .i64 j/\Hid (∀r∈l.take j,P r=false)/\Hid (Below w.heap.size w wr)) (fun i _=>l.length - (intOf i).toNat)
 case atStart=>exact⟨0,Nat.zero_le _,rfl,fun r hr=>by simp at hr,qR w⟩
 case round =>
  obtain⟨j,hj,rfl,HW,HB⟩:=hrel
  by_cases hlt:j<l.length
  ·obtain⟨p,hp⟩:∃x,l[j]?=some x:=⟨l[j],by simp[hlt]⟩;obtain⟨b,off,rfl,hcell⟩:=HC.out (by intro h;subst h;simp at hlt);have c0:=hcell j p hp;rw[<- HB.out.cell (p:=⟨b,off+j,none⟩) (L.block_lt c0)] at c0;have hsz:=HB.out.size;have HW2:Hid (Calls Tryz.prog g (#[.int .i32 p]++cb) wr fun e w'=>e= .returned (.bool (P p))/\Below wr.heap.size wr w'):=HH.out wr p HB.out (List.mem_of_getElem? hp);have HP:Hid (l[j]?=some p):=hp;obtain⟨z,HZ⟩:∃z,Hid (P p=z):=⟨_,rfl⟩;rw[HZ.out] at HW2;clear hp hcell
   go_wp2_with fail
   refine HW2.out.mono ?_;rintro e w1 ⟨rfl,B1⟩;have HB1:Hid (Below w.heap.size w w1):=HB.out.trans (B1.mono hsz);clear B1;cases z with
   | false =>
    have HT:Hid (∀r∈l.take (j+1),P r=false):=fun r hr=>by
     rw[List.take_add_one,HP.out,List.mem_append] at hr;rcases hr with hr | hr
     ·exact HW.out r hr
     ·simp at hr;rw[hr];exact HZ.out
    go_wp2
    go_roundw
    case rel=>exact⟨j+1,by omega,by go_num,HT,HB1⟩
    case measure=>simp[intOf];omega
   | true =>
    go_wp2;go_ret
    exact⟨j,rfl,.inr ⟨j,p,rfl,HP.out,HZ.out,HW.out⟩,HB1.out⟩
  ·have hkl:j=l.length:=by omega
   subst hkl;go_wp2;go_ret;exact⟨-1,rfl,.inl ⟨rfl,fun r hr=>HW.out r (by rw[List.take_length];exact hr)⟩,HB.out⟩
theorem zk8 (w:World)(b:Nat)(s:V.Script)(oo:Option Addr)(oc:Nat)(vp:Value)(hb:w.heap[b]?=some (.cells #[.bool s.has,.slice oo s.only.length oc,vp] 30))(hO:S.Rd w (.slice oo s.only.length oc) s.only)(hN:s.has=true->S.wrongE s.only=0)(r:Int) :
  Calls Tryz.prog 82 #[.int .i32 r,.pointer (some ⟨b,0,none⟩)] w fun e w'=>e= .returned (.bool (!Cn.inS s r))/\Below w.heap.size w w':=by
 have k0:w.cell? ⟨b,0,none⟩=some (.bool s.has):=K.zaf hb rfl;have k1:w.cell? ⟨b,1,none⟩=some (.slice oo s.only.length oc):=K.zaf (i:=1) hb rfl;unfold Cn.inS;cases hh:s.has with
 | false =>
  rw[hh] at k0;clear hb
  go_enter Tryz.func82,Tryz.ntmps82
  go_wp2;go_ret
  exact⟨rfl,qR _⟩
 | true =>
  rw[hh] at k0;have hz:=S.zav.1 (hN hh);have H:=zjb w _ s.only r hO hz.2 hz.1;generalize S.memb s.only r=z at H;clear hb hz
  go_enter Tryz.func82,Tryz.ntmps82
  go_wp2_with fail
  refine H.mono ?_;rintro e w1 ⟨rfl,b1⟩;have HB:Hid (Below w.heap.size w w1):=b1;clear b1 H;go_wp2;go_ret;exact⟨by cases z <;> rfl,HB.out⟩
namespace Cn
structure Lp (pl:Pl) (P:Int->Bool) (ps:List V.Pass) (t:List Int) (w wr:World) (vt vo:Value) (r o:List Int) (q:List Int×Int×Int):Prop where
 rd:L.Rd w vt .i32 r
 len:r.length<=t.length
 sub:∀x∈r,x∈t
 own:wr.ownsRow (w.heap.size+1) 21 1 vo o.length (K.ints o)
 res:runP pl ps (cut P r) o=q
 few:o.length<=4000*(t.length - r.length)
 bel:Below w.heap.size w wr
 box:wr.heap[w.heap.size]?=some (.cells #[.int .i64 0,.int .i64 0] 36)
theorem Lp.below {pl:Pl}{P:Int->Bool}{ps:List V.Pass}{t:List Int}{w wr w':World}{vt vo:Value}{r o:List Int}{q:List Int×Int×Int}(h:Lp pl P ps t w wr vt vo r o q)(hb:Below wr.heap.size wr w'):Lp pl P ps t w w' vt vo r o q :=
 ⟨h.rd,h.len,h.sub,Ws.kept1 h.own fun g hg=>hb.block g (h.own.lt g hg).2,h.res,h.few,h.bel.trans (hb.mono h.bel.size),K.zae h.box hb⟩
theorem Lp.add {pl:Pl}{P:Int->Bool}{ps:List V.Pass}{t:List Int}{w wr:World}{vt vo:Value}{r o:List Int}{q:List Int×Int×Int}(h:Lp pl P ps t w wr vt vo r o q)(ht:t.length<=4000)(vx:Value)(x:List Int)(hx:L.Rd wr vx .i32 x)(hxl:x.length<=4000) :
  ∃ao' vc' w',(∀ty,(Builtin.append_ #[42,42] ty #[vo,vx]).run Tryz.prog wr= .ok (.slice ao' (o++x).length vc') w')/\∀vt' r',L.Rd w vt' .i32 r'->r'.length<r.length->(∀y∈r',y∈r)->runP pl ps (cut P r') (o++x)=q->Lp pl P ps t w w' vt' (.slice ao' (o++x).length vc') r' (o++x) q:=by
 have hs:w.heap.size+1<=wr.heap.size:=lt_of_block h.box;have hfew:=h.few;have hlen:=h.len;obtain⟨v',w',run,own,gr,_⟩:=K.ztl wr (w.heap.size+1) vo o h.own vx x hx (by omega) hs
 obtain⟨ao',vc',rfl,_⟩:∃ao cap,v'= .slice ao (o++x).length cap/\(o++x).length<=cap:=by
  rcases own.2 with ⟨hv,h0⟩|⟨g,cap,cur,hv,_,_,hle,_⟩
  ·exact⟨none,0,by rw[hv,h0],by omega⟩
  ·exact⟨_,cap,hv,hle⟩
 refine⟨ao',vc',w',run,fun vt' r' h1 h2 h3 h4=>⟨h1,by omega,fun y hy=>h.sub y (h3 y hy),own,h4,?_,h.bel.grown gr h.bel.size fun k hk=>by have:=(h.own.lt k hk).1;omega,?_⟩⟩
 ·rw[List.length_append];have:4000*(t.length - r.length)+4000<=4000*(t.length - r'.length):=by omega
  omega
 ·rw[gr.block _ (by omega) fun e=>by have:=(h.own.lt _ e.symm).1;omega];exact h.box
end Cn
end Go.Proofs.YteagjpnbiceafaaGreatDoor
namespace Go.Proofs.YteagjpnbiceafaaGreatDoor
open Go.RowKit Go.Lib
def Cn.lenOf:Value->Nat
 | .slice _ n _=>n
 | _=>0
theorem zll (pl:Cn.Pl)(hpl:Cn.PlOk pl)(w0 w:World)(B:Nat)(vps:Value)(ps:List V.Pass)(h0:Below w0.heap.size w0 w)(hF:Cn.Fns w0 B w vps (ps.map (Cn.passF pl)))(hl:ps.length<=60)
  (g:Nat) (cb:Array Value) (P:Int->Bool) (eg:∀args w,(callFunc g args).run Tryz.prog w= .ok (.enter g args) w) (hS:∀W r,Below w.heap.size w W->Calls Tryz.prog g (#[.int .i32 r]++cb) W fun e w'=>e= .returned (.bool (!P r))/\Below W.heap.size W w')
  (xo:Option Addr) (xc:Nat) (t:List Int) (Rt:L.Rd w (.slice xo t.length xc) .i32 t) (hcap:t.length<=xc) (ht:Cn.Tx t) :
  Calls Tryz.prog 50 #[.slice xo t.length xc,.func (.func g) #[] cb,vps] w fun e w'=>∃v',e= .returned (.tuple #[v',.agg #[.int .i64 (Cn.runP pl ps (Cn.cut P t) []).2.1,.int .i64 (Cn.runP pl ps (Cn.cut P t) []).2.2]])/\L.Rd w' v' .i32 (Cn.runP pl ps (Cn.cut P t) []).1/\Below w.heap.size w w'/\(Cn.runP pl ps (Cn.cut P t) []).1.length<=16000000:=by
 obtain⟨⟨q,q1,q2⟩,hQ⟩:∃q,Cn.runP pl ps (Cn.cut P t) []=q:=⟨_,rfl⟩;rw[hQ];have hal:∀o,Below w.heap.size w (w.alloc o):=fun o=>(qR w).alloc qN o
 have HLp:Hid (Cn.Lp pl P ps t w (w.alloc (.cells #[.int .i64 0,.int .i64 0] 36)) (.slice xo t.length xc) (.slice none ([]:List Int).length 0) t [] (q,q1,q2)):=⟨Rt,qN,fun x hx=>hx,World.ownsRow_nil _ _ _ _,hQ,by simp,hal _,heap_alloc_new w _⟩;have HF:Hid (Cn.Fns w0 B w vps (ps.map (Cn.passF pl))/\Below w0.heap.size w0 w):=⟨hF,h0⟩;have HPl:Hid (Cn.PlOk pl):=hpl;have HS:Hid (∀W r,Below w.heap.size w W->Calls Tryz.prog g (#[.int .i32 r]++cb) W fun e w'=>e= .returned (.bool (!P r))/\Below W.heap.size W w'):=hS;have HG:Hid (∀args w,(callFunc g args).run Tryz.prog w= .ok (.enter g args) w):=eg;have HTx:Hid (Cn.Tx t):=ht;have ht4:=ht.1;clear hS h0 hpl ht hQ Rt hal eg;obtain⟨bF,cF,rfl,_⟩:=hF;obtain⟨nF,hnF⟩:∃n,n=(ps.map (Cn.passF pl)).length:=⟨_,rfl⟩;rw[<- hnF] at HF ⊢;clear hnF;obtain⟨vps,hvps⟩:∃vps,vps=Value.slice (some ⟨bF,0,none⟩) nF cF:=⟨_,rfl⟩;rw[<- hvps] at HF ⊢;clear hvps
 go_enter Tryz.func50,Tryz.ntmps50
 go_wp2
 go_loopw [0,8] (fun i0 i8 wr=>∃(r o:List Int) (ta:Option Addr) (tc:Nat) (vo:Option Addr) (vc:Nat),i0= .slice ta r.length tc/\i8= .slice vo o.length vc/\r.length<=tc/\Hid (Cn.Lp pl P ps t w wr (.slice ta r.length tc) (.slice vo o.length vc) r o (q,q1,q2))) (fun i0 _ _=>Cn.lenOf i0)
 case atStart=>exact⟨t,[],xo,xc,none,0,rfl,rfl,hcap,HLp⟩
 case round =>
  obtain⟨r,o,ta,tc,vo,vc,rfl,rfl,htc,HL⟩:=hrel;have hrl:r.length<=4000:=by have:=HL.out.len;omega
  by_cases hr0:r.length=0
  ·have hr:r= []:=List.eq_nil_of_length_eq_zero hr0;subst hr;have hq:=HL.out.res;simp only[Cn.cut,Cn.runP,Prod.mk.injEq] at hq;obtain⟨rfl,rfl,rfl⟩:=hq;obtain⟨x0,x1,f0,f1⟩:=K.box2 HL.out.box;clear HLp;go_wp2;refine bodyPost_ret (v:= .tuple #[.slice vo o.length vc,.agg #[.int .i64 0,.int .i64 0]]) (by simp[results,Tryz.results50,go_sem, *]) rfl ?_;refine⟨_,rfl,K.za8 (L.Rd.za6 HL.out.own) fun hz k hk=> ?_,(HL.out.bel.setCell (p:=⟨w.heap.size,0,none⟩) qN _).setCell (p:=⟨w.heap.size,1,none⟩) qN _,by have:=HL.out.few;simp at this;omega⟩;have hne:k≠w.heap.size:=by have:=(HL.out.own.lt k hk).1;omega
   rw[heap_setCell_other _ ⟨w.heap.size,1,none⟩ k _ (by simpa using hne),heap_setCell_other _ ⟨w.heap.size,0,none⟩ k _ (by simpa using hne)]
  ·have HIx:Hid (Calls Tryz.prog 80 #[.slice ta r.length tc,.func (.func g) #[] cb] wr fun e w'=>∃i:Int,e= .returned (.int .i64 i)/\Cn.Idx r (fun x=> !P x) i/\Below wr.heap.size wr w'):=zit wr _ r (HL.out.rd.below HL.out.bel qN) (by omega) g cb (fun x=> !P x) HG.out fun W x hW _=>HS.out W x (HL.out.bel.trans (hW.mono HL.out.bel.size))
   have hri:(0:Int)<(r.length:Int):=by omega
   clear HLp
   go_wp2_with fail
   refine HIx.out.mono ?_;rintro e w1 ⟨i,rfl,hI,b1⟩;have HL1:Hid (Cn.Lp pl P ps t w w1 (.slice ta r.length tc) (.slice vo o.length vc) r o (q,q1,q2)):=HL.out.below b1;clear b1 HIx HL;rcases hI with ⟨rfl,hall⟩|⟨j,x,rfl,hx,hPx,hall⟩
   ·have hn:r.length<=r.length:=qN;have hnp:0<r.length:=by omega
    have HIn:Hid (∀x∈r.take r.length,P x=true):=fun x hx=>by simpa using hall x (List.mem_of_mem_take hx)
    have HHd:Hid (∀x,(r.drop r.length).head?=some x->P x=false):=fun x hx=>by rw[List.drop_length] at hx;cases hx
    clear hall
    have hne:r.take r.length≠ []:=fun h=>by
     have h2:(r.take r.length).length=0:=by rw[h];rfl
     rw[List.length_take] at h2;omega
    have hcut:Cn.cut P r=(r.take r.length,true)::Cn.cut P (r.drop r.length):=by
     have e:=Cn.zoz (P:=P) (a:=r.take r.length) (b:=r.drop r.length) HHd.out hne HIn.out
     rwa [List.take_append_drop] at e
    have HRs:Hid (Cn.runP pl ps (Cn.cut P r) o=if (Cn.thru pl 0 ps (r.take r.length)).2.1=0 then Cn.runP pl ps (Cn.cut P (r.drop r.length)) (o++(Cn.thru pl 0 ps (r.take r.length)).1) else ([],(Cn.thru pl 0 ps (r.take r.length)).2)):=by rw[hcut];rfl
    have hTk:Cn.Tx (r.take r.length):=HTx.out.sub (by rw[List.length_take];have:=HL1.out.len;omega) fun x hx=>HL1.out.sub x (List.mem_of_mem_take hx)
    have hrd:L.Rd w1 (.slice ta r.length tc) .i32 (r.take r.length):=(K.znq HL1.out.rd hn).below HL1.out.bel qN;have hTh:=zed pl HPl.out w0 w1 B vps ps (HF.out.2.trans (HL1.out.bel.mono HF.out.2.size)) (HF.out.1.below HL1.out.bel) hl (.slice ta r.length tc) (r.take r.length) hrd hTk;have HTt:Hid (Cn.Tx (Cn.thru pl 0 ps (r.take r.length)).1):=Cn.zm8 HPl.out.2 hTk;obtain⟨⟨m,z1,z2⟩,hm⟩:∃m,Cn.thru pl 0 ps (r.take r.length)=m:=⟨_,rfl⟩;rw[hm] at hTh HRs HTt;simp only at hTh HRs HTt;have HTh:Hid (Calls Tryz.prog 81 #[vps,.slice ta r.length tc] w1 fun e w'=>∃v',e= .returned (.tuple #[v',.agg #[.int .i64 z1,.int .i64 z2]])/\L.Rd w' v' .i32 m/\Below w1.heap.size w1 w'):=hTh;have hsl:∀w',(Instr.slice 42 (.slice ta r.length tc) none (some (.int .i64 (r.length:Int))) none).run Tryz.prog w'= .ok (.slice ta r.length tc) w':=fun w'=>K.zff ta r.length tc r.length (by omega) w'
    clear hcut hTk hrd hTh hm hne
    go_wp2_with fail
    refine HTh.out.mono ?_;rintro e w2 ⟨v2,rfl,d2,b2⟩;obtain⟨ma,mc,rfl⟩:∃va vc,v2= .slice va m.length vc:=by obtain⟨a,c,h,_⟩:=d2;exact⟨a,c,h⟩
    have hL2:=HL1.out.below b2;have HL2:Hid (Cn.Lp pl P ps t w w2 (.slice ta r.length tc) (.slice vo o.length vc) r o (q,q1,q2)/\L.Rd w2 (.slice ma m.length mc) .i32 m):=⟨hL2,d2⟩;have hal:∀x,Below w2.heap.size w2 (w2.alloc x):=fun x=>(qR w2).alloc qN x
    have HX:Hid (∀x,Cn.Lp pl P ps t w (w2.alloc x).drew (.slice ta r.length tc) (.slice vo o.length vc) r o (q,q1,q2)/\L.Rd (w2.alloc x).drew (.slice ma m.length mc) .i32 m):=fun x=>⟨hL2.below (hal x).drew,d2.below (hal x).drew qN⟩
    have y0:=K.zaf (i:=0) hL2.box rfl;have y1:=K.zaf (i:=1) hL2.box rfl;have g0:∀i,w2.frozen? ⟨w.heap.size,i,none⟩=false:=fun i=>frozen_of_row w2 _ i _ _ hL2.box
    have hw2:w.heap.size<w2.heap.size:=lt_of_block hL2.box;clear d2 b2 hL2 HTh hal
    by_cases hz:z1=0
    ·subst hz
     have hq:Cn.runP pl ps (Cn.cut P (r.drop r.length)) (o++m)=(q,q1,q2):=by
      have h:=HRs.out;rw[if_pos rfl,HL1.out.res] at h;exact h.symm
     obtain⟨W,hW⟩:∃W,W=(w2.alloc (.cells #[.int .i64 0,.int .i64 z2] 36)).drew:=⟨_,rfl⟩;obtain⟨hLW,hMW⟩:=HX.out (.cells #[.int .i64 0,.int .i64 z2] 36);obtain⟨ao',vc',w3,run3,hnx⟩:=hLW.add HTx.out.1 (.slice ma m.length mc) m hMW HTt.out.1;obtain⟨N3,hN3⟩:∃N3,N3=(o++m).length:=⟨_,rfl⟩;obtain⟨xp,hxp⟩:∃xp,xp=(if tc=r.length then ta else Option.map (fun a=>a.add r.length) ta):=⟨_,rfl⟩;obtain⟨D,hD⟩:∃D,D=r.length - r.length:=⟨_,rfl⟩;obtain⟨Dc,hDc⟩:∃Dc,Dc=tc - r.length:=⟨_,rfl⟩;have hsl2:∀w',(Instr.slice 42 (.slice ta r.length tc) (some (.int .i64 (r.length:Int))) none none).run Tryz.prog w'= .ok (.slice xp D Dc) w':=fun w'=>by rw[hxp,hD,hDc];exact K.zdr ta r.length tc r.length hn htc w'
     have hDl:(r.drop r.length).length=D:=by rw[List.length_drop,hD]
     have HNx:Hid (Cn.Lp pl P ps t w w3 (.slice xp (r.drop r.length).length Dc) (.slice ao' (o++m).length vc') (r.drop r.length) (o++m) (q,q1,q2)):=by
      refine hnx _ _ ?_ (by rw[hDl];omega) (fun y hy=>List.mem_of_mem_drop hy) hq;rw[hDl,hxp,hD,hDc];exact K.ziw HL1.out.rd hn htc
     have HD:Hid (D<=Dc/\(r.drop r.length).length=D/\D<r.length/\N3=(o++m).length):=⟨by omega,hDl,by omega,hN3⟩;rw[<- hN3] at run3;have HR3:Hid (∀ty,(Builtin.append_ #[42,42] ty #[.slice vo o.length vc,.slice ma m.length mc]).run Tryz.prog (w2.alloc (.cells #[.int .i64 0,.int .i64 z2] 36)).drew= .ok (.slice ao' N3 vc') w3):=run3;clear run3;clear hLW hMW hnx hxp hD hDc hDl hq hN3 HX hW W HRs HTt HTx;go_wp2
     go_region_held3 (fun w'=>True) (first | trivial | go_keep) (first | (refine K.zbk (by rfl) (.tmp 44) (.tmp 45) (by rfl) _ _ _ w3 (by rfl) (by rfl) HR3.out ?_) | fail)
     go_wp2
     go_roundw
     case rel=>exact⟨r.drop r.length,o++m,xp,Dc,ao',vc',by rw[HD.out.2.1],by rw[HD.out.2.2.2],by rw[HD.out.2.1];exact HD.out.1,HNx⟩
     case measure=>simp only[Cn.lenOf];have:=HD.out;omega
    ·have hq:([],z1,z2)=(q,q1,q2):=by
      have h:=HRs.out;rw[if_neg hz,HL1.out.res] at h;exact h.symm
     simp only[Prod.mk.injEq] at hq;obtain⟨rfl,rfl,rfl⟩:=hq;have k0:∀x,(w2.alloc x).cell? ⟨w.heap.size,0,none⟩=some (.int .i64 0):=fun x=>K.zai y0 x
     have k1:∀x,(w2.alloc x).cell? ⟨w.heap.size,1,none⟩=some (.int .i64 0):=fun x=>K.zai y1 x
     have g1:∀x i,(w2.alloc x).frozen? ⟨w.heap.size,i,none⟩=false:=fun x i=>K.zao HL2.out.1.box x i
     have hB:∀x,Below w.heap.size w (w2.alloc x).drew:=fun x=>(HX.out x).1.bel
     have HB:Hid (∀x,Below w.heap.size w (w2.alloc x).drew):=hB;clear hB HX HRs HTt HTx;go_wp2
     go_region
     go_wp2;refine bodyPost_ret (v:= .tuple #[.slice none 0 0,.agg #[.int .i64 z1,.int .i64 z2]]) (by simp[results,Tryz.results50,go_sem, *]) rfl ?_
     exact⟨_,rfl,⟨none,0,rfl,fun _=>rfl,fun h=>absurd rfl h⟩,(((HL2.out.1.bel.setCell (p:=⟨w.heap.size,0,none⟩) qN _).setCell (p:=⟨w.heap.size,1,none⟩) qN _).alloc (by simp;omega) _).drew,by simp⟩
   ·by_cases hj:j=0
    ·subst hj
     obtain⟨r2,rfl⟩:∃r2,r=x::r2:=by
      cases r with
      | nil=>simp at hx
      | cons y r2=>simp at hx;exact⟨r2,by rw[hx]⟩
     have hPf:P x=false:=by simpa using hPx
     have hres:Cn.runP pl ps (Cn.cut P r2) (o++ [x])=(q,q1,q2):=by
      have h:=HL1.out.res;rw[Cn.zoy hPf,Cn.runP,if_neg (by simp)] at h;exact h
     obtain⟨ao0,cap0,e0,_,hcs⟩:=id HL1.out.rd;cases e0;obtain⟨bt,off,rfl,hcell⟩:=hcs (by simp);have c0:=hcell 0 x rfl;have cw:=c0;rw[Nat.add_zero] at cw;rw[<- HL1.out.bel.cell (p:=⟨bt,off+0,none⟩) (L.block_lt c0),Nat.add_zero] at c0;have hbt:bt<w1.heap.size:=L.block_lt c0;obtain⟨W1,hW1⟩:∃W1,W1=w1.drew.alloc (.cells #[.int .i32 x] 21):=⟨_,rfl⟩;have hb1:Below w1.heap.size w1 W1:=by rw[hW1];exact((qR w1).drew).alloc (by simp) _
     have hnew:W1.heap[w1.heap.size]?=some (.cells #[.int .i32 x] 21):=by rw[hW1];exact heap_alloc_new w1.drew _
     have hrx:L.Rd W1 (.slice (some ⟨w1.heap.size,0,none⟩) 1 1) .i32 [x]:=⟨_,_,rfl,fun e=>by (cases e),fun _=>⟨_,0,rfl,fun j z hj=>by
      match j,hj with
      | 0,hj=>cases hj;exact K.zaf hnew rfl
      | n+1,hj=>simp at hj⟩⟩
     obtain⟨ao',vc',w3,run3,hnx⟩:=(HL1.out.below hb1).add HTx.out.1 _ [x] hrx (by simp);obtain⟨N3,hN3⟩:∃N3,N3=(o++ [x]).length:=⟨_,rfl⟩;obtain⟨xp,hxp⟩:∃xp,xp=(if tc=1 then some ⟨bt,off,none⟩ else Option.map (fun a=>a.add 1) (some (⟨bt,off,none⟩:Addr))):=⟨_,rfl⟩;obtain⟨Dc,hDc⟩:∃Dc,Dc=tc - 1:=⟨_,rfl⟩;obtain⟨R1,hR1⟩:∃R1,R1=(x::r2).length:=⟨_,rfl⟩;have hR2:R1 - 1=r2.length:=by rw[hR1];simp
     have hsl2:∀w',(Instr.slice 42 (.slice (some ⟨bt,off,none⟩) R1 tc) (some (.int .i64 1)) none none).run Tryz.prog w'= .ok (.slice xp r2.length Dc) w':=fun w'=>by rw[hxp,hDc,<- hR2];exact K.zdr _ R1 tc 1 (by omega) (by omega) w'
     have HNx:Hid (Cn.Lp pl P ps t w w3 (.slice xp r2.length Dc) (.slice ao' (o++ [x]).length vc') r2 (o++ [x]) (q,q1,q2)):=by
      refine hnx _ _ ?_ (by simp) (fun y hy=>List.mem_cons_of_mem _ hy) hres;have h2:=K.ziw HL1.out.rd (d:=1) (by simp) htc;rw[hxp,hDc];simpa using h2
     have c3:w3.cell? ⟨bt,off,none⟩=some (.int .i32 x):=by rw[HNx.out.bel.cell (p:=⟨bt,off,none⟩) (L.block_lt cw)];exact cw
     have HD:Hid (r2.length<=Dc/\N3=(o++ [x]).length/\R1=r2.length+1):=⟨by simp at htc;omega,hN3,by omega⟩;rw[<- hN3,hW1] at run3;have HR3:Hid (∀ty,(Builtin.append_ #[42,42] ty #[.slice vo o.length vc,.slice (some ⟨w1.heap.size,0,none⟩) 1 1]).run Tryz.prog (w1.drew.alloc (.cells #[.int .i32 x] 21))= .ok (.slice ao' N3 vc') w3):=run3;have hR0:(0:Int)<(R1:Int):=by omega
     have hR0n:0<R1:=by omega
     rw[<- hR1] at htc hrl hri ⊢;clear cw run3 hxp hDc hrx hnx hnew hb1 hW1 hcs hcell hres hPf hPx hall hx HTx hN3 hR2 hR1 hr0;go_wp2
     go_region_held3 (fun w'=>w'.cell? ⟨bt,off,none⟩=some (.int .i32 x)) (first | exact c0 | exact c3 | go_keep) (first | (refine K.zbk (by rfl) (.tmp 20) (.tmp 24) (by rfl) _ _ _ w3 (by rfl) (by rfl) HR3.out ?_) | fail)
     go_wp2
     go_roundw
     case rel=>exact⟨r2,o++ [x],xp,Dc,ao',vc',rfl,by rw[HD.out.2.1],HD.out.1,HNx⟩
     case measure=>simp only[Cn.lenOf,List.length_cons];omega
    ·obtain⟨n,hn0⟩:∃n,n=j:=⟨_,rfl⟩;subst hn0;have hn:n<=r.length:=by have:=(qL.1 hx).1;omega
     have hnp:0<n:=by omega
     have HIn:Hid (∀x∈r.take n,P x=true):=fun x hx=>by simpa using hall x hx
     have HHd:Hid (∀x,(r.drop n).head?=some x->P x=false):=fun y hy=>by
      rw[List.head?_drop,hx] at hy;cases hy;simpa using hPx
     have hni:¬((n:Int)=0):=by omega
     clear hall hx hPx
     have hne:r.take n≠ []:=fun h=>by
      have h2:(r.take n).length=0:=by rw[h];rfl
      rw[List.length_take] at h2;omega
     have hcut:Cn.cut P r=(r.take n,true)::Cn.cut P (r.drop n):=by
      have e:=Cn.zoz (P:=P) (a:=r.take n) (b:=r.drop n) HHd.out hne HIn.out
      rwa [List.take_append_drop] at e
     have HRs:Hid (Cn.runP pl ps (Cn.cut P r) o=if (Cn.thru pl 0 ps (r.take n)).2.1=0 then Cn.runP pl ps (Cn.cut P (r.drop n)) (o++(Cn.thru pl 0 ps (r.take n)).1) else ([],(Cn.thru pl 0 ps (r.take n)).2)):=by rw[hcut];rfl
     have hTk:Cn.Tx (r.take n):=HTx.out.sub (by rw[List.length_take];have:=HL1.out.len;omega) fun x hx=>HL1.out.sub x (List.mem_of_mem_take hx)
     have hrd:L.Rd w1 (.slice ta n tc) .i32 (r.take n):=(K.znq HL1.out.rd hn).below HL1.out.bel qN;have hTh:=zed pl HPl.out w0 w1 B vps ps (HF.out.2.trans (HL1.out.bel.mono HF.out.2.size)) (HF.out.1.below HL1.out.bel) hl (.slice ta n tc) (r.take n) hrd hTk;have HTt:Hid (Cn.Tx (Cn.thru pl 0 ps (r.take n)).1):=Cn.zm8 HPl.out.2 hTk;obtain⟨⟨m,z1,z2⟩,hm⟩:∃m,Cn.thru pl 0 ps (r.take n)=m:=⟨_,rfl⟩;rw[hm] at hTh HRs HTt;simp only at hTh HRs HTt;have HTh:Hid (Calls Tryz.prog 81 #[vps,.slice ta n tc] w1 fun e w'=>∃v',e= .returned (.tuple #[v',.agg #[.int .i64 z1,.int .i64 z2]])/\L.Rd w' v' .i32 m/\Below w1.heap.size w1 w'):=hTh;have hsl:∀w',(Instr.slice 42 (.slice ta r.length tc) none (some (.int .i64 (n:Int))) none).run Tryz.prog w'= .ok (.slice ta n tc) w':=fun w'=>K.zff ta r.length tc n (by omega) w'
     clear hcut hTk hrd hTh hm hne
     go_wp2_with fail
     refine HTh.out.mono ?_;rintro e w2 ⟨v2,rfl,d2,b2⟩;obtain⟨ma,mc,rfl⟩:∃va vc,v2= .slice va m.length vc:=by obtain⟨a,c,h,_⟩:=d2;exact⟨a,c,h⟩
     have hL2:=HL1.out.below b2;have HL2:Hid (Cn.Lp pl P ps t w w2 (.slice ta r.length tc) (.slice vo o.length vc) r o (q,q1,q2)/\L.Rd w2 (.slice ma m.length mc) .i32 m):=⟨hL2,d2⟩;have hal:∀x,Below w2.heap.size w2 (w2.alloc x):=fun x=>(qR w2).alloc qN x
     have HX:Hid (∀x,Cn.Lp pl P ps t w (w2.alloc x).drew (.slice ta r.length tc) (.slice vo o.length vc) r o (q,q1,q2)/\L.Rd (w2.alloc x).drew (.slice ma m.length mc) .i32 m):=fun x=>⟨hL2.below (hal x).drew,d2.below (hal x).drew qN⟩
     have y0:=K.zaf (i:=0) hL2.box rfl;have y1:=K.zaf (i:=1) hL2.box rfl;have g0:∀i,w2.frozen? ⟨w.heap.size,i,none⟩=false:=fun i=>frozen_of_row w2 _ i _ _ hL2.box
     have hw2:w.heap.size<w2.heap.size:=lt_of_block hL2.box;clear d2 b2 hL2 HTh hal
     by_cases hz:z1=0
     ·subst hz
      have hq:Cn.runP pl ps (Cn.cut P (r.drop n)) (o++m)=(q,q1,q2):=by
       have h:=HRs.out;rw[if_pos rfl,HL1.out.res] at h;exact h.symm
      obtain⟨W,hW⟩:∃W,W=(w2.alloc (.cells #[.int .i64 0,.int .i64 z2] 36)).drew:=⟨_,rfl⟩;obtain⟨hLW,hMW⟩:=HX.out (.cells #[.int .i64 0,.int .i64 z2] 36);obtain⟨ao',vc',w3,run3,hnx⟩:=hLW.add HTx.out.1 (.slice ma m.length mc) m hMW HTt.out.1;obtain⟨N3,hN3⟩:∃N3,N3=(o++m).length:=⟨_,rfl⟩;obtain⟨xp,hxp⟩:∃xp,xp=(if tc=n then ta else Option.map (fun a=>a.add n) ta):=⟨_,rfl⟩;obtain⟨D,hD⟩:∃D,D=r.length - n:=⟨_,rfl⟩;obtain⟨Dc,hDc⟩:∃Dc,Dc=tc - n:=⟨_,rfl⟩;have hsl2:∀w',(Instr.slice 42 (.slice ta r.length tc) (some (.int .i64 (n:Int))) none none).run Tryz.prog w'= .ok (.slice xp D Dc) w':=fun w'=>by rw[hxp,hD,hDc];exact K.zdr ta r.length tc n hn htc w'
      have hDl:(r.drop n).length=D:=by rw[List.length_drop,hD]
      have HNx:Hid (Cn.Lp pl P ps t w w3 (.slice xp (r.drop n).length Dc) (.slice ao' (o++m).length vc') (r.drop n) (o++m) (q,q1,q2)):=by
       refine hnx _ _ ?_ (by rw[hDl];omega) (fun y hy=>List.mem_of_mem_drop hy) hq;rw[hDl,hxp,hD,hDc];exact K.ziw HL1.out.rd hn htc
      have HD:Hid (D<=Dc/\(r.drop n).length=D/\D<r.length/\N3=(o++m).length):=⟨by omega,hDl,by omega,hN3⟩;rw[<- hN3] at run3;have HR3:Hid (∀ty,(Builtin.append_ #[42,42] ty #[.slice vo o.length vc,.slice ma m.length mc]).run Tryz.prog (w2.alloc (.cells #[.int .i64 0,.int .i64 z2] 36)).drew= .ok (.slice ao' N3 vc') w3):=run3;clear run3;clear hLW hMW hnx hxp hD hDc hDl hq hN3 HX hW W HRs HTt HTx;go_wp2
      go_region_held3 (fun w'=>True) (first | trivial | go_keep) (first | (refine K.zbk (by rfl) (.tmp 44) (.tmp 45) (by rfl) _ _ _ w3 (by rfl) (by rfl) HR3.out ?_) | fail)
      go_wp2
      go_roundw
      case rel=>exact⟨r.drop n,o++m,xp,Dc,ao',vc',by rw[HD.out.2.1],by rw[HD.out.2.2.2],by rw[HD.out.2.1];exact HD.out.1,HNx⟩
      case measure=>simp only[Cn.lenOf];have:=HD.out;omega
     ·have hq:([],z1,z2)=(q,q1,q2):=by
       have h:=HRs.out;rw[if_neg hz,HL1.out.res] at h;exact h.symm
      simp only[Prod.mk.injEq] at hq;obtain⟨rfl,rfl,rfl⟩:=hq;have k0:∀x,(w2.alloc x).cell? ⟨w.heap.size,0,none⟩=some (.int .i64 0):=fun x=>K.zai y0 x
      have k1:∀x,(w2.alloc x).cell? ⟨w.heap.size,1,none⟩=some (.int .i64 0):=fun x=>K.zai y1 x
      have g1:∀x i,(w2.alloc x).frozen? ⟨w.heap.size,i,none⟩=false:=fun x i=>K.zao HL2.out.1.box x i
      have hB:∀x,Below w.heap.size w (w2.alloc x).drew:=fun x=>(HX.out x).1.bel
      have HB:Hid (∀x,Below w.heap.size w (w2.alloc x).drew):=hB;clear hB HX HRs HTt HTx;go_wp2
      go_region
      go_wp2;refine bodyPost_ret (v:= .tuple #[.slice none 0 0,.agg #[.int .i64 z1,.int .i64 z2]]) (by simp[results,Tryz.results50,go_sem, *]) rfl ?_
      exact⟨_,rfl,⟨none,0,rfl,fun _=>rfl,fun h=>absurd rfl h⟩,(((HL2.out.1.bel.setCell (p:=⟨w.heap.size,0,none⟩) qN _).setCell (p:=⟨w.heap.size,1,none⟩) qN _).alloc (by simp;omega) _).drew,by simp⟩
end Go.Proofs.YteagjpnbiceafaaGreatDoor
