import Derived.Test.YtcadaallpiekiaaGreatDoorKStep
set_option maxHeartbeats 0
set_option maxRecDepth 20000
set_option linter.unusedSimpArgs false
set_option linter.unusedVariables false
namespace Go.Proofs.YtcadaallpiekiaaGreatDoor
open Go.Proofs.Tryz
section
open Go.RowKit
theorem Tryz.infoSet:(prog.info? 27).map (fun i=>(i.zero,i.size,i.bytes))=some (some (.slice none 0 0),1,24):=by kernel_rfl
def K.SsV (w:World) (v:Value) (l:List (List S.Sp)) (vs:List Value):Prop :=
 ∃ao cap,v=.slice ao l.length cap/\(ao=none->cap=0)/\K.Sets w vs l/\(l≠ []->∃b off,ao=some ⟨b,off,none⟩/\∀(j:Nat) u,vs[j]?=some u->w.cell? ⟨b,off+j,none⟩=some u)
theorem K.Ss.vals {w:World}{v:Value}{l:List (List S.Sp)}(h:K.Ss w v l):∃vs,K.SsV w v l vs:=by
 obtain⟨ao,cap,vs,h1,h2,_,h3,h4⟩:=h;exact⟨vs,ao,cap,h1,h2,h3,h4⟩
theorem K.SsV.below {w w':World}{v:Value}{l:List (List S.Sp)}{vs:List Value}(h:K.SsV w v l vs)(hb:Bl w w'):K.SsV w' v l vs:=by
 obtain⟨ao,cap,rfl,hn,hs,hc⟩:=h;refine⟨ao,cap,rfl,hn,hs.below hb,fun hz=> ?_⟩;obtain⟨b,off,rfl,hc2⟩:=hc hz;refine⟨b,off,rfl,fun j u hj=> ?_⟩;have h1:=hc2 j u hj;have:=L.block_lt h1;rw[hb.cell (p:=⟨b,off+j,none⟩) this];exact h1
theorem K.zh2 (w:World)(B:Nat)(v:Value)(us:List Value)(own:w.ownsRow B 27 1 v us.length us)(vx:Value)(l:List (List S.Sp))(vs:List Value)(hx:K.SsV w vx l vs)(hl:us.length+l.length<=1000)(hB:B<=w.heap.size) :
  ∃v' w',(∀ty,(Builtin.append_ #[77,77] ty #[v,vx]).run prog w=.ok v' w')/\w'.ownsRow B 27 1 v' (us++vs).length (us++vs)/\w.grownBy w' v.ownBlock:=by
 obtain⟨i0,hi,hz0,hz1,hz2⟩:=info_parts Tryz.infoSet;obtain⟨ao,cap,rfl,hn,hs,hc⟩:=hx;cases ao with
 | none =>
  have h0:l= []:=by
   cases l with
   | nil=>rfl
   | cons z zs=>obtain⟨b,off,h,_⟩:=hc (by simp);simp at h
  subst h0;have h1:=List.eq_nil_of_length_eq_zero (by rw[hs.1];rfl);subst h1;have:=hn rfl;subst this;refine⟨v,w,fun ty=>run_append_owned_none (P:=prog) w B _ ty _ i0 1 underlying77 hi v _ us own,by simpa using own,⟨rfl,rfl,rfl,qN,fun _ _ _=>rfl⟩⟩
 | some ad =>
  have hnews:∀j u,vs[j]?=some u->w.cell? (ad.add j)=some u:=fun j u hj=>by
   have hlt:0<l.length:=by rw[<- hs.1];have:=(qL.1 hj).1;omega
   obtain⟨b,off,h,hcell⟩:=hc (by intro h;subst h;simp at hlt);cases h;rw[L.addr_add];exact hcell j u hj
  obtain⟨v',w',hrun,r1,r2,_⟩:=run_append_own (P:=prog) w B 77 0 27 i0 (.slice none 0 0) 1 24 underlying77 hi hz0 hz1 hz2 rfl (by decide) v us.length us own ad l.length cap vs (by rw[hs.1];simp) hnews (fun u hu=>hs.one hu) (by unfold maxLen;omega) (by omega) hB;refine⟨v',w',fun ty=>hrun,?_,r2⟩;rw[List.length_append,hs.1];exact r1
theorem Tryz.infoTxt:(prog.info? 42).map (fun i=>(i.zero,i.size,i.bytes))=some (some (.slice none 0 0),1,24):=by kernel_rfl
namespace Ws
def Own (F:Nat) (w:World) (v:Value) (ts:List (List Int)):Prop :=
 ∃ps:List (List Int×Value),ps.map (·.1)=ts/\w.ownsRow F 42 1 v ts.length (ps.map (·.2))/\∀p∈ps,w.ownsRow F 21 1 p.2 p.1.length (K.ints p.1)
theorem Own.nil (F:Nat)(w:World):Own F w (.slice none 0 0) []:=⟨[],rfl,World.ownsRow_nil _ _ _ _,fun p hp=>by cases hp⟩
theorem Own.len {F:Nat}{w:World}{v:Value}{ts:List (List Int)}(h:Own F w v ts):∃ao cap,v=.slice ao ts.length cap:=by
 obtain⟨ps,_,h2,_⟩:=h;rcases h2.2 with ⟨hv,h0⟩|⟨g,cap,cur,hv,_⟩
 ·exact⟨none,0,by rw[hv,h0]⟩
 ·exact⟨_,cap,hv⟩
theorem kept1 {F:Nat}{e:TypeId}{k:Nat}{w w':World}{v:Value}{n:Nat}{xs:List Value}(h:w.ownsRow F e k v n xs)(hb:∀g,v.ownBlock=some g->w'.heap[g]?=w.heap[g]?):w'.ownsRow F e k v n xs:=by
 obtain⟨h1,h2⟩:=h;refine⟨h1,?_⟩;rcases h2 with h2|⟨g,cap,cur,hv,hg,hx,r⟩
 ·exact .inl h2
 ·exact .inr ⟨g,cap,cur,hv,hg,by rw[hb g (by rw[hv];rfl)];exact hx,r⟩
theorem Own.kept {F:Nat}{w w':World}{v:Value}{ts:List (List Int)}(h:Own F w v ts)(hb:∀g,F<=g->g<w.heap.size->w'.heap[g]?=w.heap[g]?):Own F w' v ts:=by
 obtain⟨ps,h1,h2,h3⟩:=h;exact⟨ps,h1,kept1 h2 fun g hg=>hb g (h2.lt g hg).1 (h2.lt g hg).2,fun p hp=>kept1 (h3 p hp) fun g hg=>hb g ((h3 p hp).lt g hg).1 ((h3 p hp).lt g hg).2⟩
theorem one_cell {F:Nat}{e:TypeId}{k:Nat}{w:World}{v:Value}{n:Nat}{xs:List Value}(h:w.ownsRow F e k v n xs):v.oneCell'=true:=by
 obtain⟨_,⟨rfl,_⟩|⟨g,cap,cur,rfl,_⟩⟩:=h <;> rfl
theorem zue (W:World)(r:Value):∀j u,([r]:List Value)[j]?=some u->(W.alloc (.cells #[r] 42)).cell? ((⟨W.heap.size,0,none⟩:Addr).add j)=some u:=by
 intro j u hj;have e:(W.alloc (.cells #[r] 42)).heap[W.heap.size]?=some (.cells #[r] 42):=heap_alloc_new W _;rw[L.addr_add,Nat.zero_add]
 match j,hj with
 | 0,hj=>exact K.zad e (by simpa using hj)
 | n+1,hj=>simp at hj
theorem zjl {F:Nat}{e:TypeId}{k:Nat}{w:World}{v:Value}{n:Nat}{xs:List Value}{b:Nat}{c:Array Value}{ty:TypeId}(h:w.ownsRow F e k v n xs)(hb:w.heap[b]?=some (.cells c ty))(hne:ty≠e):∀g,v.ownBlock=some g->g≠b:=by
 intro g hg eq;subst eq;rcases h.2 with ⟨hv,_⟩|⟨g',cap,cur,hv,_,hx,_⟩
 ·rw[hv] at hg;cases hg
 ·rw[hv] at hg;have e2:g'=g:=by simpa [Value.ownBlock] using hg
  rw[e2] at hx;have:=hx.symm.trans hb;simp at this;exact hne this.2.symm
theorem zt7 {F:Nat}{w:World}{v:Value}{ps:List (List Int×Value)}(h2:w.ownsRow F 42 1 v ps.length (ps.map (·.2)))(hF:F<=w.heap.size)(hl:ps.length<=2000000)(t:List Int)(r:Value)(hr:w.ownsRow F 21 1 r t.length (K.ints t)) :
  ∃v' w',(∀ty,(Builtin.append_ #[82,82] ty #[v,.slice (some ⟨w.heap.size,0,none⟩) 1 1]).run prog (w.alloc (.cells #[r] 42))=.ok v' w')/\w'.ownsRow F 42 1 v' (ps++ [(t,r)]).length ((ps++ [(t,r)]).map (·.2))/\(w.alloc (.cells #[r] 42)).grownBy w' v.ownBlock/\∀(v2:Value) (n2:Nat) (xs:List Value),w.ownsRow F 21 1 v2 n2 xs->w'.ownsRow F 21 1 v2 n2 xs:=by
 obtain⟨i0,hi,hz0,hz1,hz2⟩:=info_parts Tryz.infoTxt
 obtain⟨v',w',hrun,own,gr,_⟩:=run_append_own (P:=prog) (w.alloc (.cells #[r] 42)) F 82 0 42 i0 _ 1 24 underlying82 hi hz0 hz1 hz2 rfl (by decide) v ps.length (ps.map (·.2)) (h2.alloc _) ⟨w.heap.size,0,none⟩ 1 1 [r] rfl (zue w r)
  (fun u hu=>by simp at hu;subst hu;exact one_cell hr) (by unfold maxLen;omega) (by omega) (by simp;omega)
 refine⟨v',w',fun ty=>hrun,?_,gr,fun v2 n2 xs h=>L.zel h2 h (by decide) gr⟩;rw[List.map_append,List.length_append];exact own
theorem Own.rd {F:Nat}{w:World}{v:Value}{ts:List (List Int)}(h:Own F w v ts):Rd w v ts:=by
 obtain⟨ps,h1,h2,h3⟩:=h;rcases h2.2 with ⟨hv,h0⟩|⟨g,cap,cur,hv,hg,hx,hle,hmax,hsz,htk⟩
 ·have:ts= []:=List.eq_nil_of_length_eq_zero h0;subst this;exact⟨none,0,hv,fun _=>rfl,fun h=>absurd rfl h⟩
 ·refine⟨_,cap,hv,fun e=>by (cases e),fun _=>⟨g,0,rfl,fun j t hj=> ?_⟩⟩;rw[<- h1,List.getElem?_map] at hj;cases hp:ps[j]? with
  | none=>rw[hp] at hj;simp at hj
  | some p =>
   rw[hp] at hj;simp at hj;subst hj;have hlt:=(qL.1 hp).1;have hjl:j<ts.length:=by rw[<- h1];simpa using hlt
   refine⟨p.2,?_,L.Rd.zax (h3 p (List.mem_of_getElem? hp))⟩
   have e:cur.toList[j]?=some p.2:=by
    have:(cur.toList.take (ts.length*1))[j]?=some p.2:=by rw[htk,List.getElem?_map,hp];rfl
    rw[List.getElem?_take] at this;split at this
    ·exact this
    ·cases this
   exact K.zad hx (by simpa using e)
end Ws
end
section
open Go.RowKit Go.Lib
theorem zmr (w:World)(b:Nat)(s:V.Script)(oo:Option Addr)(oc:Nat)(vp:Value)(hb:w.heap[b]?=some (.cells #[.bool s.has,.slice oo s.only.length oc,vp] 30))(hO:S.Rd w (.slice oo s.only.length oc) s.only)(hN:s.has=true->S.wrongE s.only=0)(r:Int) :
  Calls prog 78 #[.int .i32 r,.pointer (some ⟨b,0,none⟩)] w fun e w'=>e=.returned (.bool (!Cn.inS s r))/\Bl w w':=by
 have k0:w.cell? ⟨b,0,none⟩=some (.bool s.has):=K.zad hb rfl;have k1:w.cell? ⟨b,1,none⟩=some (.slice oo s.only.length oc):=K.zad (i:=1) hb rfl;unfold Cn.inS;cases hh:s.has with
 | false =>
  rw[hh] at k0;clear hb
  go_enter func78,ntmps78
  go_wp2;go_ret
  exact⟨rfl,qR _⟩
 | true =>
  rw[hh] at k0;have hz:=S.zan.1 (hN hh);have H:=zkw w _ s.only r hO hz.2 hz.1;generalize S.memb s.only r=z at H;clear hb hz
  go_enter func78,ntmps78
  go_wp2_with fail
  refine H.mono ?_;rintro e w1 ⟨rfl,b1⟩;have HB:=qH b1;clear b1 H;go_wp2;go_ret;exact⟨by cases z <;> rfl,HB.out⟩
namespace Cn
structure Lp (pl:Pl) (P:Int->Bool) (ps:List V.Pass) (t:List Int) (w wr:World) (vt vo:Value) (r o:List Int) (q:List Int×Int×Int):Prop where
 rd:L.Rd w vt .i32 r
 len:r.length<=t.length
 sub:∀x∈r,x∈t
 own:wr.ownsRow (w.heap.size+1) 21 1 vo o.length (K.ints o)
 res:runP pl ps (cut P r) o=q
 few:o.length<=4000*(t.length-r.length)
 bel:Bl w wr
 box:wr.heap[w.heap.size]?=some (.cells #[.int .i64 0,.int .i64 0] 36)
theorem Lp.below {pl:Pl}{P:Int->Bool}{ps:List V.Pass}{t:List Int}{w wr w':World}{vt vo:Value}{r o:List Int}{q:List Int×Int×Int}(h:Lp pl P ps t w wr vt vo r o q)(hb:Bl wr w'):Lp pl P ps t w w' vt vo r o q :=
 ⟨h.rd,h.len,h.sub,Ws.kept1 h.own fun g hg=>hb.block g (h.own.lt g hg).2,h.res,h.few,h.bel.trans (hb.mono h.bel.size),K.zae h.box hb⟩
theorem Lp.add {pl:Pl}{P:Int->Bool}{ps:List V.Pass}{t:List Int}{w wr:World}{vt vo:Value}{r o:List Int}{q:List Int×Int×Int}(h:Lp pl P ps t w wr vt vo r o q)(ht:t.length<=4000)(vx:Value)(x:List Int)(hx:L.Rd wr vx .i32 x)(hxl:x.length<=4000) :
  ∃ao' vc' w',(∀ty,(Builtin.append_ #[42,42] ty #[vo,vx]).run prog wr=.ok (.slice ao' (o++x).length vc') w')/\∀vt' r',L.Rd w vt' .i32 r'->r'.length<r.length->(∀y∈r',y∈r)->runP pl ps (cut P r') (o++x)=q->Lp pl P ps t w w' vt' (.slice ao' (o++x).length vc') r' (o++x) q:=by
 have hs:w.heap.size+1<=wr.heap.size:=lt_of_block h.box;have hfew:=h.few;have hlen:=h.len;obtain⟨v',w',run,own,gr,_⟩:=K.zea wr (w.heap.size+1) vo o h.own vx x hx (by omega) hs
 obtain⟨ao',vc',rfl,_⟩:∃ao cap,v'=.slice ao (o++x).length cap/\(o++x).length<=cap:=by
  rcases own.2 with ⟨hv,h0⟩|⟨g,cap,cur,hv,_,_,hle,_⟩
  ·exact⟨none,0,by rw[hv,h0],by omega⟩
  ·exact⟨_,cap,hv,hle⟩
 refine⟨ao',vc',w',run,fun vt' r' h1 h2 h3 h4=>⟨h1,by omega,fun y hy=>h.sub y (h3 y hy),own,h4,?_,h.bel.grown gr h.bel.size fun k hk=>by have:=(h.own.lt k hk).1;omega,?_⟩⟩
 ·rw[List.length_append];have:4000*(t.length-r.length)+4000<=4000*(t.length-r'.length):=by omega
  omega
 ·rw[gr.block _ (by omega) fun e=>by have:=(h.own.lt _ e.symm).1;omega];exact h.box
end Cn
def Cn.lenOf:Value->Nat
 | .slice _ n _=>n
 | _=>0
theorem zm6 (pl:Cn.Pl)(hpl:Cn.PlOk pl)(w0 w:World)(B:Nat)(vps:Value)(ps:List V.Pass)(h0:Bl w0 w)(hF:Cn.Fns w0 B w vps (ps.map (Cn.passF pl)))(hl:ps.length<=60)
  (g:Nat) (cb:Array Value) (P:Int->Bool) (eg:∀args w,(callFunc g args).run prog w=.ok (.enter g args) w) (hS:∀W r,Bl w W->Calls prog g (#[.int .i32 r]++cb) W fun e w'=>e=.returned (.bool (!P r))/\Bl W w')
  (xo:Option Addr) (xc:Nat) (t:List Int) (Rt:L.Rd w (.slice xo t.length xc) .i32 t) (hcap:t.length<=xc) (ht:Cn.Tx t) :
  Calls prog 46 #[.slice xo t.length xc,.func (.func g) #[] cb,vps] w fun e w'=>∃v',e=.returned (.tuple #[v',.agg #[.int .i64 (Cn.runP pl ps (Cn.cut P t) []).2.1,.int .i64 (Cn.runP pl ps (Cn.cut P t) []).2.2]])/\L.Rd w' v' .i32 (Cn.runP pl ps (Cn.cut P t) []).1/\Bl w w'/\(Cn.runP pl ps (Cn.cut P t) []).1.length<=16000000:=by
 obtain⟨⟨q,q1,q2⟩,hQ⟩:∃q,Cn.runP pl ps (Cn.cut P t) []=q:=⟨_,rfl⟩;rw[hQ];have hal:=fun o=>(qR w).alloc qN o
 have HLp:Hid (Cn.Lp pl P ps t w (w.alloc (.cells #[.int .i64 0,.int .i64 0] 36)) (.slice xo t.length xc) (.slice none ([]:List Int).length 0) t [] (q,q1,q2)):=⟨Rt,qN,fun x hx=>hx,World.ownsRow_nil _ _ _ _,hQ,by simp,hal _,heap_alloc_new w _⟩;have HF:Hid (Cn.Fns w0 B w vps (ps.map (Cn.passF pl))/\Bl w0 w):=⟨hF,h0⟩;have HPl:=qH hpl;have HS:=qH hS;have HG:=qH eg;have HTx:=qH ht;have ht4:=ht.1;clear hS h0 hpl ht hQ Rt hal eg;obtain⟨bF,cF,rfl,_⟩:=hF;obtain⟨nF,hnF⟩:=qE ((ps.map (Cn.passF pl)).length);rw[<- hnF] at HF ⊢;clear hnF;obtain⟨vps,hvps⟩:=qE (Value.slice (some ⟨bF,0,none⟩) nF cF);rw[<- hvps] at HF ⊢;clear hvps
 go_enter func46,ntmps46
 go_wp2
 go_loopw [0,8] (fun i0 i8 wr=>∃(r o:List Int) (ta:Option Addr) (tc:Nat) (vo:Option Addr) (vc:Nat),i0=.slice ta r.length tc/\i8=.slice vo o.length vc/\r.length<=tc/\Hid (Cn.Lp pl P ps t w wr (.slice ta r.length tc) (.slice vo o.length vc) r o (q,q1,q2))) (fun i0 _ _=>Cn.lenOf i0)
 case atStart=>exact⟨t,[],xo,xc,none,0,rfl,rfl,hcap,HLp⟩
 case round =>
  obtain⟨r,o,ta,tc,vo,vc,rfl,rfl,htc,HL⟩:=hrel;have hrl:r.length<=4000:=by have:=HL.out.len;omega
  by_cases hr0:r.length=0
  ·have hr:=List.eq_nil_of_length_eq_zero hr0;subst hr;have hq:=HL.out.res;simp only[Cn.cut,Cn.runP,Prod.mk.injEq] at hq;obtain⟨rfl,rfl,rfl⟩:=hq;obtain⟨x0,x1,f0,f1⟩:=K.box2 HL.out.box;clear HLp;go_wp2;refine bodyPost_ret (v:=.tuple #[.slice vo o.length vc,.agg #[.int .i64 0,.int .i64 0]]) (by simp[results,results46,go_sem, *]) rfl ?_;refine⟨_,rfl,K.za8 (L.Rd.zax HL.out.own) fun hz k hk=> ?_,(HL.out.bel.setCell (p:=⟨w.heap.size,0,none⟩) qN _).setCell (p:=⟨w.heap.size,1,none⟩) qN _,by have:=HL.out.few;simp at this;omega⟩;have hne:k≠w.heap.size:=by have:=(HL.out.own.lt k hk).1;omega
   rw[heap_setCell_other _ ⟨w.heap.size,1,none⟩ k _ (by simpa using hne),heap_setCell_other _ ⟨w.heap.size,0,none⟩ k _ (by simpa using hne)]
  ·have HIx:=qH<|zj9 wr _ r (HL.out.rd.below HL.out.bel qN) (by omega) g cb (fun x=> !P x) HG.out fun W x hW _=>HS.out W x (HL.out.bel.trans (hW.mono HL.out.bel.size))
   have hri:(0:Int)<(r.length:Int):=by omega
   clear HLp
   go_wp2_with fail
   refine HIx.out.mono ?_;rintro e w1 ⟨i,rfl,hI,b1⟩;have HL1:=qH<|HL.out.below b1;clear b1 HIx HL;rcases hI with ⟨rfl,hall⟩|⟨j,x,rfl,hx,hPx,hall⟩
   ·have hn:r.length<=r.length:=qN;have hnp:0<r.length:=by omega
    have HIn:Hid (∀x∈r.take r.length,P x=true):=fun x hx=>by simpa using hall x (List.mem_of_mem_take hx)
    have HHd:Hid (∀x,(r.drop r.length).head?=some x->P x=false):=fun x hx=>by rw[List.drop_length] at hx;cases hx
    clear hall
    have hne:r.take r.length≠ []:=fun h=>by
     have h2:(r.take r.length).length=0:=by rw[h];rfl
     rw[List.length_take] at h2;omega
    have hcut:Cn.cut P r=(r.take r.length,true)::Cn.cut P (r.drop r.length):=by
     have e:=Cn.zqt (P:=P) (a:=r.take r.length) (b:=r.drop r.length) HHd.out hne HIn.out
     rwa [List.take_append_drop] at e
    have HRs:Hid (Cn.runP pl ps (Cn.cut P r) o=if (Cn.thru pl 0 ps (r.take r.length)).2.1=0 then Cn.runP pl ps (Cn.cut P (r.drop r.length)) (o++(Cn.thru pl 0 ps (r.take r.length)).1) else ([],(Cn.thru pl 0 ps (r.take r.length)).2)):=by rw[hcut];rfl
    have hTk:Cn.Tx (r.take r.length):=HTx.out.sub (by rw[List.length_take];have:=HL1.out.len;omega) fun x hx=>HL1.out.sub x (List.mem_of_mem_take hx)
    have hrd:=(K.zkc HL1.out.rd hn).below HL1.out.bel qN;have hTh:=ze7 pl HPl.out w0 w1 B vps ps (HF.out.2.trans (HL1.out.bel.mono HF.out.2.size)) (HF.out.1.below HL1.out.bel) hl (.slice ta r.length tc) (r.take r.length) hrd hTk;have HTt:Hid (Cn.Tx (Cn.thru pl 0 ps (r.take r.length)).1):=Cn.zj1 HPl.out.2 hTk;obtain⟨⟨m,z1,z2⟩,hm⟩:∃m,Cn.thru pl 0 ps (r.take r.length)=m:=⟨_,rfl⟩;rw[hm] at hTh HRs HTt;simp only at hTh HRs HTt;have HTh:=qH hTh;have hsl:=fun w'=>K.zee ta r.length tc r.length (by omega) w'
    clear hcut hTk hrd hTh hm hne
    go_wp2_with fail
    refine HTh.out.mono ?_;rintro e w2 ⟨v2,rfl,d2,b2⟩;obtain⟨ma,mc,rfl⟩:∃va vc,v2=.slice va m.length vc:=by obtain⟨a,c,h,_⟩:=d2;exact⟨a,c,h⟩
    have hL2:=HL1.out.below b2;have HL2:Hid (Cn.Lp pl P ps t w w2 (.slice ta r.length tc) (.slice vo o.length vc) r o (q,q1,q2)/\L.Rd w2 (.slice ma m.length mc) .i32 m):=⟨hL2,d2⟩;have hal:=fun x=>(qR w2).alloc qN x
    have HX:Hid (∀x,Cn.Lp pl P ps t w (w2.alloc x).drew (.slice ta r.length tc) (.slice vo o.length vc) r o (q,q1,q2)/\L.Rd (w2.alloc x).drew (.slice ma m.length mc) .i32 m):=fun x=>⟨hL2.below (hal x).drew,d2.below (hal x).drew qN⟩
    have y0:=K.zad (i:=0) hL2.box rfl;have y1:=K.zad (i:=1) hL2.box rfl;have g0:=fun i=>frozen_of_row w2 _ i _ _ hL2.box
    have hw2:=lt_of_block hL2.box;clear d2 b2 hL2 HTh hal
    by_cases hz:z1=0
    ·subst hz
     have hq:Cn.runP pl ps (Cn.cut P (r.drop r.length)) (o++m)=(q,q1,q2):=by
      have h:=HRs.out;rw[if_pos rfl,HL1.out.res] at h;exact h.symm
     obtain⟨W,hW⟩:=qE ((w2.alloc (.cells #[.int .i64 0,.int .i64 z2] 36)).drew);obtain⟨hLW,hMW⟩:=HX.out (.cells #[.int .i64 0,.int .i64 z2] 36);obtain⟨ao',vc',w3,run3,hnx⟩:=hLW.add HTx.out.1 (.slice ma m.length mc) m hMW HTt.out.1;obtain⟨N3,hN3⟩:=qE ((o++m).length);obtain⟨xp,hxp⟩:=qE ((if tc=r.length then ta else Option.map (fun a=>a.add r.length) ta));obtain⟨D,hD⟩:=qE (r.length-r.length);obtain⟨Dc,hDc⟩:=qE (tc-r.length);have hsl2:∀w',(Instr.slice 42 (.slice ta r.length tc) (some (.int .i64 (r.length:Int))) none none).run prog w'=.ok (.slice xp D Dc) w':=fun w'=>by rw[hxp,hD,hDc];exact K.zbw ta r.length tc r.length hn htc w'
     have hDl:(r.drop r.length).length=D:=by rw[List.length_drop,hD]
     have HNx:Hid (Cn.Lp pl P ps t w w3 (.slice xp (r.drop r.length).length Dc) (.slice ao' (o++m).length vc') (r.drop r.length) (o++m) (q,q1,q2)):=by
      refine hnx _ _ ?_ (by rw[hDl];omega) (fun y hy=>List.mem_of_mem_drop hy) hq;rw[hDl,hxp,hD,hDc];exact K.zej HL1.out.rd hn htc
     have HD:Hid (D<=Dc/\(r.drop r.length).length=D/\D<r.length/\N3=(o++m).length):=⟨by omega,hDl,by omega,hN3⟩;rw[<- hN3] at run3;have HR3:=qH run3;clear run3;clear hLW hMW hnx hxp hD hDc hDl hq hN3 HX hW W HRs HTt HTx;go_wp2
     go_region_held3 (fun w'=>True) (first|trivial|go_keep) (first|(refine K.za7 (by rfl) (.tmp 44) (.tmp 45) (by rfl) _ _ _ w3 (by rfl) (by rfl) HR3.out ?_)|fail)
     go_wp2
     go_roundw
     case rel=>exact⟨r.drop r.length,o++m,xp,Dc,ao',vc',by rw[HD.out.2.1],by rw[HD.out.2.2.2],by rw[HD.out.2.1];exact HD.out.1,HNx⟩
     case measure=>simp only[Cn.lenOf];have:=HD.out;omega
    ·have hq:([],z1,z2)=(q,q1,q2):=by
      have h:=HRs.out;rw[if_neg hz,HL1.out.res] at h;exact h.symm
     simp only[Prod.mk.injEq] at hq;obtain⟨rfl,rfl,rfl⟩:=hq;have k0:∀x,(w2.alloc x).cell? ⟨w.heap.size,0,none⟩=some (.int .i64 0):=fun x=>K.zai y0 x
     have k1:∀x,(w2.alloc x).cell? ⟨w.heap.size,1,none⟩=some (.int .i64 0):=fun x=>K.zai y1 x
     have g1:=fun x i=>K.zal HL2.out.1.box x i
     have hB:=fun x=>(HX.out x).1.bel
     have HB:=qH hB;clear hB HX HRs HTt HTx;go_wp2
     go_region
     go_wp2;refine bodyPost_ret (v:=.tuple #[.slice none 0 0,.agg #[.int .i64 z1,.int .i64 z2]]) (by simp[results,results46,go_sem, *]) rfl ?_
     exact⟨_,rfl,⟨none,0,rfl,fun _=>rfl,fun h=>absurd rfl h⟩,(((HL2.out.1.bel.setCell (p:=⟨w.heap.size,0,none⟩) qN _).setCell (p:=⟨w.heap.size,1,none⟩) qN _).alloc (by simp;omega) _).drew,by simp⟩
   ·by_cases hj:j=0
    ·subst hj
     obtain⟨r2,rfl⟩:∃r2,r=x::r2:=by
      cases r with
      | nil=>simp at hx
      | cons y r2=>simp at hx;exact⟨r2,by rw[hx]⟩
     have hPf:P x=false:=by simpa using hPx
     have hres:Cn.runP pl ps (Cn.cut P r2) (o++ [x])=(q,q1,q2):=by
      have h:=HL1.out.res;rw[Cn.zqs hPf,Cn.runP,if_neg (by simp)] at h;exact h
     obtain⟨ao0,cap0,e0,_,hcs⟩:=id HL1.out.rd;cases e0;obtain⟨bt,off,rfl,hcell⟩:=hcs (by simp);have c0:=hcell 0 x rfl;have cw:=c0;rw[Nat.add_zero] at cw;rw[<- HL1.out.bel.cell (p:=⟨bt,off+0,none⟩) (L.block_lt c0),Nat.add_zero] at c0;have hbt:=L.block_lt c0;obtain⟨W1,hW1⟩:=qE (w1.drew.alloc (.cells #[.int .i32 x] 21));have hb1:Bl w1 W1:=by rw[hW1];exact((qR w1).drew).alloc (by simp) _
     have hnew:W1.heap[w1.heap.size]?=some (.cells #[.int .i32 x] 21):=by rw[hW1];exact heap_alloc_new w1.drew _
     have hrx:L.Rd W1 (.slice (some ⟨w1.heap.size,0,none⟩) 1 1) .i32 [x]:=⟨_,_,rfl,fun e=>by (cases e),fun _=>⟨_,0,rfl,fun j z hj=>by
      match j,hj with
      | 0,hj=>cases hj;exact K.zad hnew rfl
      | n+1,hj=>simp at hj⟩⟩
     obtain⟨ao',vc',w3,run3,hnx⟩:=(HL1.out.below hb1).add HTx.out.1 _ [x] hrx (by simp);obtain⟨N3,hN3⟩:=qE ((o++ [x]).length);obtain⟨xp,hxp⟩:=qE ((if tc=1 then some ⟨bt,off,none⟩ else Option.map (fun a=>a.add 1) (some (⟨bt,off,none⟩:Addr))));obtain⟨Dc,hDc⟩:=qE (tc-1);obtain⟨R1,hR1⟩:=qE ((x::r2).length);have hR2:R1-1=r2.length:=by rw[hR1];simp
     have hsl2:∀w',(Instr.slice 42 (.slice (some ⟨bt,off,none⟩) R1 tc) (some (.int .i64 1)) none none).run prog w'=.ok (.slice xp r2.length Dc) w':=fun w'=>by rw[hxp,hDc,<- hR2];exact K.zbw _ R1 tc 1 (by omega) (by omega) w'
     have HNx:Hid (Cn.Lp pl P ps t w w3 (.slice xp r2.length Dc) (.slice ao' (o++ [x]).length vc') r2 (o++ [x]) (q,q1,q2)):=by
      refine hnx _ _ ?_ (by simp) (fun y hy=>List.mem_cons_of_mem _ hy) hres;have h2:=K.zej HL1.out.rd (d:=1) (by simp) htc;rw[hxp,hDc];simpa using h2
     have c3:w3.cell? ⟨bt,off,none⟩=some (.int .i32 x):=by rw[HNx.out.bel.cell (p:=⟨bt,off,none⟩) (L.block_lt cw)];exact cw
     have HD:Hid (r2.length<=Dc/\N3=(o++ [x]).length/\R1=r2.length+1):=⟨by simp at htc;omega,hN3,by omega⟩;rw[<- hN3,hW1] at run3;have HR3:=qH run3;have hR0:(0:Int)<(R1:Int):=by omega
     have hR0n:0<R1:=by omega
     rw[<- hR1] at htc hrl hri ⊢;clear cw run3 hxp hDc hrx hnx hnew hb1 hW1 hcs hcell hres hPf hPx hall hx HTx hN3 hR2 hR1 hr0;go_wp2
     go_region_held3 (fun w'=>w'.cell? ⟨bt,off,none⟩=some (.int .i32 x)) (first|exact c0|exact c3|go_keep) (first|(refine K.za7 (by rfl) (.tmp 20) (.tmp 24) (by rfl) _ _ _ w3 (by rfl) (by rfl) HR3.out ?_)|fail)
     go_wp2
     go_roundw
     case rel=>exact⟨r2,o++ [x],xp,Dc,ao',vc',rfl,by rw[HD.out.2.1],HD.out.1,HNx⟩
     case measure=>simp only[Cn.lenOf,List.length_cons];omega
    ·obtain⟨n,hn0⟩:=qE j;subst hn0;have hn:n<=r.length:=by have:=(qL.1 hx).1;omega
     have hnp:0<n:=by omega
     have HIn:=qH<|fun x hx=>by simpa using hall x hx
     have HHd:Hid (∀x,(r.drop n).head?=some x->P x=false):=fun y hy=>by
      rw[List.head?_drop,hx] at hy;cases hy;simpa using hPx
     have hni:¬((n:Int)=0):=by omega
     clear hall hx hPx
     have hne:r.take n≠ []:=fun h=>by
      have h2:(r.take n).length=0:=by rw[h];rfl
      rw[List.length_take] at h2;omega
     have hcut:Cn.cut P r=(r.take n,true)::Cn.cut P (r.drop n):=by
      have e:=Cn.zqt (P:=P) (a:=r.take n) (b:=r.drop n) HHd.out hne HIn.out
      rwa [List.take_append_drop] at e
     have HRs:Hid (Cn.runP pl ps (Cn.cut P r) o=if (Cn.thru pl 0 ps (r.take n)).2.1=0 then Cn.runP pl ps (Cn.cut P (r.drop n)) (o++(Cn.thru pl 0 ps (r.take n)).1) else ([],(Cn.thru pl 0 ps (r.take n)).2)):=by rw[hcut];rfl
     have hTk:Cn.Tx (r.take n):=HTx.out.sub (by rw[List.length_take];have:=HL1.out.len;omega) fun x hx=>HL1.out.sub x (List.mem_of_mem_take hx)
     have hrd:=(K.zkc HL1.out.rd hn).below HL1.out.bel qN;have hTh:=ze7 pl HPl.out w0 w1 B vps ps (HF.out.2.trans (HL1.out.bel.mono HF.out.2.size)) (HF.out.1.below HL1.out.bel) hl (.slice ta n tc) (r.take n) hrd hTk;have HTt:Hid (Cn.Tx (Cn.thru pl 0 ps (r.take n)).1):=Cn.zj1 HPl.out.2 hTk;obtain⟨⟨m,z1,z2⟩,hm⟩:∃m,Cn.thru pl 0 ps (r.take n)=m:=⟨_,rfl⟩;rw[hm] at hTh HRs HTt;simp only at hTh HRs HTt;have HTh:=qH hTh;have hsl:=fun w'=>K.zee ta r.length tc n (by omega) w'
     clear hcut hTk hrd hTh hm hne
     go_wp2_with fail
     refine HTh.out.mono ?_;rintro e w2 ⟨v2,rfl,d2,b2⟩;obtain⟨ma,mc,rfl⟩:∃va vc,v2=.slice va m.length vc:=by obtain⟨a,c,h,_⟩:=d2;exact⟨a,c,h⟩
     have hL2:=HL1.out.below b2;have HL2:Hid (Cn.Lp pl P ps t w w2 (.slice ta r.length tc) (.slice vo o.length vc) r o (q,q1,q2)/\L.Rd w2 (.slice ma m.length mc) .i32 m):=⟨hL2,d2⟩;have hal:=fun x=>(qR w2).alloc qN x
     have HX:Hid (∀x,Cn.Lp pl P ps t w (w2.alloc x).drew (.slice ta r.length tc) (.slice vo o.length vc) r o (q,q1,q2)/\L.Rd (w2.alloc x).drew (.slice ma m.length mc) .i32 m):=fun x=>⟨hL2.below (hal x).drew,d2.below (hal x).drew qN⟩
     have y0:=K.zad (i:=0) hL2.box rfl;have y1:=K.zad (i:=1) hL2.box rfl;have g0:=fun i=>frozen_of_row w2 _ i _ _ hL2.box
     have hw2:=lt_of_block hL2.box;clear d2 b2 hL2 HTh hal
     by_cases hz:z1=0
     ·subst hz
      have hq:Cn.runP pl ps (Cn.cut P (r.drop n)) (o++m)=(q,q1,q2):=by
       have h:=HRs.out;rw[if_pos rfl,HL1.out.res] at h;exact h.symm
      obtain⟨W,hW⟩:=qE ((w2.alloc (.cells #[.int .i64 0,.int .i64 z2] 36)).drew);obtain⟨hLW,hMW⟩:=HX.out (.cells #[.int .i64 0,.int .i64 z2] 36);obtain⟨ao',vc',w3,run3,hnx⟩:=hLW.add HTx.out.1 (.slice ma m.length mc) m hMW HTt.out.1;obtain⟨N3,hN3⟩:=qE ((o++m).length);obtain⟨xp,hxp⟩:=qE ((if tc=n then ta else Option.map (fun a=>a.add n) ta));obtain⟨D,hD⟩:=qE (r.length-n);obtain⟨Dc,hDc⟩:=qE (tc-n);have hsl2:∀w',(Instr.slice 42 (.slice ta r.length tc) (some (.int .i64 (n:Int))) none none).run prog w'=.ok (.slice xp D Dc) w':=fun w'=>by rw[hxp,hD,hDc];exact K.zbw ta r.length tc n hn htc w'
      have hDl:(r.drop n).length=D:=by rw[List.length_drop,hD]
      have HNx:Hid (Cn.Lp pl P ps t w w3 (.slice xp (r.drop n).length Dc) (.slice ao' (o++m).length vc') (r.drop n) (o++m) (q,q1,q2)):=by
       refine hnx _ _ ?_ (by rw[hDl];omega) (fun y hy=>List.mem_of_mem_drop hy) hq;rw[hDl,hxp,hD,hDc];exact K.zej HL1.out.rd hn htc
      have HD:Hid (D<=Dc/\(r.drop n).length=D/\D<r.length/\N3=(o++m).length):=⟨by omega,hDl,by omega,hN3⟩;rw[<- hN3] at run3;have HR3:=qH run3;clear run3;clear hLW hMW hnx hxp hD hDc hDl hq hN3 HX hW W HRs HTt HTx;go_wp2
      go_region_held3 (fun w'=>True) (first|trivial|go_keep) (first|(refine K.za7 (by rfl) (.tmp 44) (.tmp 45) (by rfl) _ _ _ w3 (by rfl) (by rfl) HR3.out ?_)|fail)
      go_wp2
      go_roundw
      case rel=>exact⟨r.drop n,o++m,xp,Dc,ao',vc',by rw[HD.out.2.1],by rw[HD.out.2.2.2],by rw[HD.out.2.1];exact HD.out.1,HNx⟩
      case measure=>simp only[Cn.lenOf];have:=HD.out;omega
     ·have hq:([],z1,z2)=(q,q1,q2):=by
       have h:=HRs.out;rw[if_neg hz,HL1.out.res] at h;exact h.symm
      simp only[Prod.mk.injEq] at hq;obtain⟨rfl,rfl,rfl⟩:=hq;have k0:∀x,(w2.alloc x).cell? ⟨w.heap.size,0,none⟩=some (.int .i64 0):=fun x=>K.zai y0 x
      have k1:∀x,(w2.alloc x).cell? ⟨w.heap.size,1,none⟩=some (.int .i64 0):=fun x=>K.zai y1 x
      have g1:=fun x i=>K.zal HL2.out.1.box x i
      have hB:=fun x=>(HX.out x).1.bel
      have HB:=qH hB;clear hB HX HRs HTt HTx;go_wp2
      go_region
      go_wp2;refine bodyPost_ret (v:=.tuple #[.slice none 0 0,.agg #[.int .i64 z1,.int .i64 z2]]) (by simp[results,results46,go_sem, *]) rfl ?_
      exact⟨_,rfl,⟨none,0,rfl,fun _=>rfl,fun h=>absurd rfl h⟩,(((HL2.out.1.bel.setCell (p:=⟨w.heap.size,0,none⟩) qN _).setCell (p:=⟨w.heap.size,1,none⟩) qN _).alloc (by simp;omega) _).drew,by simp⟩
theorem zox (w:World)(v0 v1 v2:Value) :
  Calls prog 47 #[.agg #[v0,v1,v2]] w fun e w'=>∃sb,e=.returned (.func (.func 78) #[] #[.pointer (some ⟨sb,0,none⟩)])/\w'.heap[sb]?=some (.cells #[v0,v1,v2] 30)/\Bl w w':=by
 go_enter func47,ntmps47
 go_wp2;go_ret
 exact⟨_,rfl,heap_alloc_new w _,(qR w).alloc qN _⟩
namespace Cn
abbrev At (w w':World) (v0 v1 v2:Value):Prop :=
 Bl w w'/\w'.cell? ⟨w.heap.size,0,none⟩=some v0/\w'.cell? ⟨w.heap.size,1,none⟩=some v1/\w'.cell? ⟨w.heap.size,2,none⟩=some v2/\w'.heap[w.heap.size+1]?=some (.cells #[.int .i64 0,.int .i64 0] 36)
theorem At.below {w X Y:World}{v0 v1 v2:Value}(h:At w X v0 v1 v2)(hb:Bl X Y):At w Y v0 v1 v2:=by
 obtain⟨h0,h1,h2,h3,h4⟩:=h;exact⟨h0.trans (hb.mono h0.size),(hb.cell (p:=⟨w.heap.size,0,none⟩) (L.block_lt h1)).trans h1,(hb.cell (p:=⟨w.heap.size,1,none⟩) (L.block_lt h1)).trans h2,(hb.cell (p:=⟨w.heap.size,2,none⟩) (L.block_lt h1)).trans h3,K.zae h4 hb⟩
theorem At.alloc {w X:World}{v0 v1 v2:Value}(h:At w X v0 v1 v2)(o:Obj):At w (X.alloc o) v0 v1 v2:=h.below ((qR X).alloc qN o)
theorem At.drew {w X:World}{v0 v1 v2:Value}(h:At w X v0 v1 v2):At w X.drew v0 v1 v2:=h.below (qR X).drew
theorem al (X:World)(o:Obj):Bl X (X.alloc o):=(qR X).alloc qN o
theorem rb {X Y:World}{o:Obj}(z:Below (X.alloc o).heap.size (X.alloc o) Y):Y.heap[X.heap.size]?=some o:=K.zae (heap_alloc_new X o) z
theorem rbD {X Y:World}{o:Obj}(z:Below (X.alloc o).drew.heap.size (X.alloc o).drew Y):Y.heap[X.heap.size]?=some o:=K.zae (w:=(X.alloc o).drew) (heap_alloc_new X o) z
theorem At.set2 {w X:World}{v0 v1 v2:Value}{fb:Nat}(h:At w X v0 v1 v2)(hb:w.heap.size+1<fb)(a b:Value):At w ((X.setCell ⟨fb,0,none⟩ a).setCell ⟨fb,1,none⟩ b) v0 v1 v2:=by
 obtain⟨h0,h1,h2,h3,h4⟩:=h
 have oth:∀k,k≠fb->((X.setCell ⟨fb,0,none⟩ a).setCell ⟨fb,1,none⟩ b).heap[k]?=X.heap[k]?:=fun k hk=>by
  rw[heap_setCell_other _ ⟨fb,1,none⟩ k _ hk,heap_setCell_other _ ⟨fb,0,none⟩ k _ hk]
 have c:=fun i=>World.cell?_of_block (a:=⟨w.heap.size,i,none⟩) (oth w.heap.size (by omega))
 exact⟨(h0.setCell (p:=⟨fb,0,none⟩) (by simp;omega) _).setCell (p:=⟨fb,1,none⟩) (by simp;omega) _,by rw[c];exact h1,by rw[c];exact h2,by rw[c];exact h3,by rw[oth (w.heap.size+1) (by omega)];exact h4⟩
def Got (w wx:World) (v0 v1 v2 v8 v9:Value) (q:List Int×Int×Int):Prop :=
 ∃fb,v9=.pointer (some ⟨fb,0,none⟩)/\w.heap.size+1<fb/\wx.heap[fb]?=some (.cells #[.int .i64 q.2.1,.int .i64 q.2.2] 36)/\L.Rd wx v8 .i32 q.1/\At w wx v0 v1 v2/\q.1.length<=16000000
theorem zky {w X:World}{v0 v1 v2 v8:Value}{q:List Int}{r1 r2:Int}(h:At w X v0 v1 v2)(hr:L.Rd X v8 .i32 q)(hl:q.length<=16000000):Got w (X.alloc (.cells #[.int .i64 r1,.int .i64 r2] 36)) v0 v1 v2 v8 (.pointer (some ⟨X.heap.size,0,none⟩)) (q,r1,r2) :=
 ⟨_,rfl,lt_of_block h.2.2.2.2,heap_alloc_new X _,hr.below (al _ _) qN,h.alloc _,hl⟩
theorem zkx {w X:World}{v0 v1 v2 v8:Value}{q:List Int}{r1 r2:Int}{fb:Nat}(h:At w X v0 v1 v2)(hr:L.Rd X v8 .i32 q)(hl:q.length<=16000000)(hb:X.heap[fb]?=some (.cells #[.int .i64 0,.int .i64 0] 36))(hfb:w.heap.size+1<fb):Got w ((X.setCell ⟨fb,0,none⟩ (.int .i64 r1)).setCell ⟨fb,1,none⟩ (.int .i64 r2)) v0 v1 v2 v8 (.pointer (some ⟨fb,0,none⟩)) (q,r1,r2):=by
 have hb1:=heap_setCell_same X fb 0 _ _ (.int .i64 r1) hb;have hb2:=heap_setCell_same _ fb 1 _ _ (.int .i64 r2) hb1;refine⟨fb,rfl,hfb,hb2,K.za8 hr fun hz k hk=> ?_,h.set2 hfb _ _,hl⟩;have hne:=K.zpe hr hb hz k hk;rw[heap_setCell_other _ ⟨fb,1,none⟩ k _ (by simpa using hne),heap_setCell_other _ ⟨fb,0,none⟩ k _ (by simpa using hne)]
end Cn
theorem zqz (pl:Cn.Pl)(hpl:Cn.PlOk pl)(w:World)(v:Value)(s:V.Script)(h0:V.ScIs w v s)(hfit:S.Fit s.only)(xo:Option Addr)(xc:Nat)(t:List Int)(Rt:L.Rd w (.slice xo t.length xc) .i32 t)(hcap:t.length<=xc)(ht:t.length<=140737488355328) :
  Calls prog 20 #[v,.slice xo t.length xc] w fun e w'=>∃v',e=.returned (.tuple #[v',.agg #[.int .i64 (Cn.goF pl s t).2.1,.int .i64 (Cn.goF pl s t).2.2]])/\L.Rd w' v' .i32 (Cn.goF pl s t).1/\Bl w w':=by
 have HWr:=qH<|fun X hX=>zn1 X v s (h0.below hX) hfit
 have HTx:=qH<|fun X hX=>zi1 X _ t (Rt.below hX qN) ht
 obtain⟨⟨g,g1,g2⟩,HG⟩:∃o,Hid (Cn.goF pl s t=o):=⟨_,rfl⟩;rw[HG.out];obtain⟨oo,oc,po,pc,rfl,hO,hOl,hP⟩:=h0;have HIn:Hid (S.Rd w (.slice oo s.only.length oc) s.only/\V.Pas w (.slice po s.passes.length pc) s.passes/\L.Rd w (.slice xo t.length xc) .i32 t/\Cn.PlOk pl):=⟨hO,hP,Rt,hpl⟩;obtain⟨W0,hW0⟩:=qE ((w.alloc (.cells #[.bool s.has,.slice oo s.only.length oc,.slice po s.passes.length pc] 30)).alloc (.cells #[.int .i64 0,.int .i64 0] 36));have h2:=Cn.zcj w (.cells #[.bool s.has,.slice oo s.only.length oc,.slice po s.passes.length pc] 30) (.cells #[.int .i64 0,.int .i64 0] 36);rw[<- hW0] at h2;have HA0:Hid (Cn.At w W0 (.bool s.has) (.slice oo s.only.length oc) (.slice po s.passes.length pc)):=⟨h2.2.2,K.zad h2.1 rfl,K.zad (i:=1) h2.1 rfl,K.zad (i:=2) h2.1 rfl,h2.2.1⟩;have hWr:=HWr.out W0 HA0.out.1;obtain⟨⟨e1,e2⟩,HE⟩:∃o,Hid (Cn.wrongF s=o):=⟨_,rfl⟩;rw[HE.out] at hWr;have HW1:Hid (Calls prog 44 #[.agg #[.bool s.has,.slice oo s.only.length oc,.slice po s.passes.length pc]] W0 fun e w'=>e=.returned (.agg #[.int .i64 e1,.int .i64 e2])/\Bl W0 w'):=hWr;have hPl:=hP.few;have HW0:=qH hW0;clear hWr h2 hO hP Rt hpl HWr hW0
 go_enter func20,ntmps20
 go_wp2_with fail
 rw[<- HW0.out];refine HW1.out.mono ?_;rintro e w1 ⟨rfl,b1⟩;have hA1:=HA0.out.below b1;have HA1:=qH<|fun o=>hA1.alloc o
 have hx1:=lt_of_block hA1.2.2.2.2;obtain⟨x0,x1,f0,f1⟩:=K.box2 hA1.2.2.2.2;have k0:=fun o=>K.zai x0 o
 have k1:=fun o=>K.zai x1 o
 have fz:=fun o i=>K.zal hA1.2.2.2.2 o i
 have HB1:=qH hA1.1;clear b1 hA1 HW1 HA0 HW0
 by_cases q1:e1=0
 ·subst q1;have HTt:=qH<|fun o=>HTx.out _ (HA1.out o).1
  obtain⟨z,HZ⟩:∃z,Hid (K.textE t=z):=⟨_,rfl⟩;rw[HZ.out] at HTt;clear HTx k0 k1 fz x0 x1 f0 f1
  go_wp2_with fail
  refine(HTt.out _).mono ?_;rintro e w2 ⟨rfl,b2⟩;have hA2:=(HA1.out _).below b2;have HA2:=qH hA2;obtain⟨x0,x1,f0,f1⟩:=K.box2 hA2.2.2.2.2;have hx2:=lt_of_block hA2.2.2.2.2;clear b2 hA2 HTt HA1 HB1
  by_cases q2:z=0
  ·subst q2;have hW:=Cn.ze3 (s:=s) (by rw[HE.out]);have hT:=Cn.zeb.1 HZ.out
   have HGo:Hid ((g,g1,g2)=if (Cn.runP pl s.passes (Cn.cut (Cn.inS s) t) []).2.1=0 then
    (if 4000<(Cn.runP pl s.passes (Cn.cut (Cn.inS s) t) []).1.length then ([],4,(s.passes.length:Int)) else ((Cn.runP pl s.passes (Cn.cut (Cn.inS s) t) []).1,0,0))
   else ([],(Cn.runP pl s.passes (Cn.cut (Cn.inS s) t) []).2)):=by
    show _=_;rw[<- HG.out,Cn.goF,if_pos (by rw[HE.out]),if_pos HZ.out]
   have HPs:Hid (∀X,Cn.At w X (.bool s.has) (.slice oo s.only.length oc) (.slice po s.passes.length pc)->Calls prog 48 #[.slice po s.passes.length pc] X fun e w'=>∃v',e=.returned v'/\Cn.Fns X (X.heap.size+1) w' v' (s.passes.map (Cn.passF pl))/\Bl X w'):=fun X hX=>zjj pl HIn.out.2.2.2 X _ s.passes (HIn.out.2.1.below hX.1) hW.2.1 hW.2.2.1
   have HSt:Hid (∀X,Calls prog 47 #[.agg #[.bool s.has,.slice oo s.only.length oc,.slice po s.passes.length pc]] X fun e w'=>∃sb,e=.returned (.func (.func 78) #[] #[.pointer (some ⟨sb,0,none⟩)])/\w'.heap[sb]?=some (.cells #[.bool s.has,.slice oo s.only.length oc,.slice po s.passes.length pc] 30)/\Bl X w'):=fun X=>zox X _ _ _
   have HPi:Hid (∀X B Y vps sb,Bl X Y->Cn.Fns X B Y vps (s.passes.map (Cn.passF pl))->Y.heap[sb]?=some (.cells #[.bool s.has,.slice oo s.only.length oc,.slice po s.passes.length pc] 30)->Cn.At w Y (.bool s.has) (.slice oo s.only.length oc) (.slice po s.passes.length pc)->Calls prog 46 #[.slice xo t.length xc,.func (.func 78) #[] #[.pointer (some ⟨sb,0,none⟩)],vps] Y fun e w'=>∃v',e=.returned (.tuple #[v',.agg #[.int .i64 (Cn.runP pl s.passes (Cn.cut (Cn.inS s) t) []).2.1,.int .i64 (Cn.runP pl s.passes (Cn.cut (Cn.inS s) t) []).2.2]])/\L.Rd w' v' .i32 (Cn.runP pl s.passes (Cn.cut (Cn.inS s) t) []).1/\Bl Y w'/\(Cn.runP pl s.passes (Cn.cut (Cn.inS s) t) []).1.length<=16000000):=fun X B Y vps sb hXY hF hsb hY =>
    zm6 pl HIn.out.2.2.2 X Y B vps s.passes hXY hF hW.2.1 78 #[.pointer (some ⟨sb,0,none⟩)] (Cn.inS s) (enters_of func78 (by kernel_rfl) rfl)
     (fun W r hW2=>by
      have hst:=zmr W sb s oo oc _ (K.zae hsb hW2) (HIn.out.1.below (hY.1.trans (hW2.mono hY.1.size)) qN) hW.1 r;rw[show (#[Value.int .i32 r]++#[Value.pointer (some ⟨sb,0,none⟩)]:Array Value)=#[Value.int .i32 r,Value.pointer (some ⟨sb,0,none⟩)] from rfl]
      exact hst) xo xc t (HIn.out.2.2.1.below hY.1 qN) hcap hT
   obtain⟨⟨q,r1,r2⟩,hQ⟩:∃o,Cn.runP pl s.passes (Cn.cut (Cn.inS s) t) []=o:=⟨_,rfl⟩;rw[hQ] at HGo HPi;simp only at HGo HPi;have hk:=HA2.out.drew;have HK:=qH hk;have HKD:=qH<|fun o=>(HA2.out.alloc o).drew
   clear hQ hW hT hk;go_wp2
   go_cut [8,9] (fun v8 v9 wx=>Hid (Cn.Got w wx (.bool s.has) (.slice oo s.only.length oc) (.slice po s.passes.length pc) v8 v9 (q,r1,r2)))
   case first =>
    go_region_held3 (fun w'=>Bl w w'/\w'.cell? ⟨w.heap.size,0,none⟩=some (.bool s.has)/\w'.cell? ⟨w.heap.size,1,none⟩=some (.slice oo s.only.length oc)/\w'.cell? ⟨w.heap.size,2,none⟩=some (.slice po s.passes.length pc)/\w'.heap[w.heap.size+1]?=some (.cells #[.int .i64 0,.int .i64 0] 36))
     (first|with_reducible exact HK.out|with_reducible exact k5|with_reducible exact k4|with_reducible exact k3|with_reducible exact k2|with_reducible exact k1|with_reducible exact k5.alloc _|with_reducible exact k4.alloc _|with_reducible exact k3.alloc _|with_reducible exact k2.alloc _|with_reducible exact k1.alloc _|with_reducible exact HK.out.alloc _|with_reducible exact HKD.out _|with_reducible exact Cn.At.set2 k5 (lt_of_block k4.2.2.2.2) _ _|with_reducible exact Cn.At.set2 k5 (lt_of_block k3.2.2.2.2) _ _|with_reducible exact Cn.At.set2 k5 hx2 _ _|fail)
     (first
      | (have hy:=hF;clear hy;go_at_call 46;refine(HPi.out _ _ _ _ _ (by first|with_reducible exact zp|with_reducible exact zp.trans ((Cn.al _ _).mono zp.size)) (by first|with_reducible exact hF|with_reducible exact hF.below (Cn.al _ _)) (by first|with_reducible exact hs1|with_reducible exact K.zae hs1 (Cn.al _ _)) (by first|with_reducible exact k4|with_reducible exact k4.alloc _)).mono ?_;rintro e w5 ⟨v5,rfl,d5,z5,hl5⟩;have k5:Cn.At w w5 (.bool s.has) (.slice oo s.only.length oc) (.slice po s.passes.length pc):=(by first|with_reducible exact k4.below z5|with_reducible exact(k4.alloc _).below z5);first|(have r5:=K.zae r4 z5;obtain⟨y0,y1,ff0,ff1⟩:=K.box2 r5)|(have r5:=Cn.rb z5;obtain⟨y0,y1,ff0,ff1⟩:=K.box2 r5)|skip)
      | ((fail_if_success (have hy:=hF));have hy:=hs;clear hy;go_at_call 48;refine(HPs.out _ (by first|with_reducible exact k3|with_reducible exact k3.alloc _)).mono ?_;rintro e w4 ⟨v4,rfl,hF,zp⟩;have hs1:w4.heap[sb]?=some (.cells #[.bool s.has,.slice oo s.only.length oc,.slice po s.passes.length pc] 30):=(by first|with_reducible exact K.zae hs zp|with_reducible exact K.zae (K.zae hs (Cn.al _ _)) zp);have k4:Cn.At w w4 (.bool s.has) (.slice oo s.only.length oc) (.slice po s.passes.length pc):=(by first|with_reducible exact k3.below zp|with_reducible exact(k3.alloc _).below zp);first|(have r4:=K.zae r3 zp)|(have r4:=Cn.rb zp)|skip)
      | ((fail_if_success (have hy:=hs));go_at_call 47;refine(HSt.out _).mono ?_;rintro e w3 ⟨sb,rfl,hs,zs⟩;have k3:Cn.At w w3 (.bool s.has) (.slice oo s.only.length oc) (.slice po s.passes.length pc):=(by first|with_reducible exact HK.out.below zs|with_reducible exact(HK.out.alloc _).below zs|with_reducible exact(HKD.out _).below zs);first|(have r3:=Cn.rbD zs)|skip)
      | fail)
    all_goals
     first
      | (have HM:=Cn.zkx (r1:=r1) (r2:=r2) k5 d5 hl5 r5 (by first|with_reducible exact lt_of_block k4.2.2.2.2|with_reducible exact lt_of_block k3.2.2.2.2|with_reducible exact hx2))
      | (have HM:=Cn.zky (r1:=r1) (r2:=r2) k5 d5 hl5)
     clear k5 k4 k3 d5 z5 zp zs hF hs hs1
     go_wp2_with fail
     go_meet
     case rel=>exact HM
   case rest =>
    obtain⟨fb,rfl,hfb,hbox,hrd,hat,hl5⟩:=hcut.out;obtain⟨va,vc,rfl⟩:∃va vc,_=Value.slice va q.length vc:=by obtain⟨a,c,h,_⟩:=hrd;exact⟨a,c,h⟩
    have HM:Hid (L.Rd wc (.slice va q.length vc) .i32 q/\Cn.At w wc (.bool s.has) (.slice oo s.only.length oc) (.slice po s.passes.length pc)/\wc.heap[fb]?=some (.cells #[.int .i64 r1,.int .i64 r2] 36)):=⟨hrd,hat,hbox⟩;have a0:=K.zad (i:=0) hbox rfl;have a1:=K.zad (i:=1) hbox rfl;have p2:=hat.2.2.2.1;obtain⟨y0,y1,g0,g1'⟩:=K.box2 hat.2.2.2.2;have n1:¬fb=w.heap.size+1:=by omega
    have n2:¬w.heap.size+1=fb:=by omega
    clear hbox hrd hat hcut HPs HSt HPi HK HKD HA2
    by_cases q3:r1=0
    ·subst q3
     by_cases q4:4000<q.length
     ·have h:=HGo.out;rw[if_pos rfl,if_pos q4] at h;simp only[Prod.mk.injEq] at h;obtain⟨rfl,rfl,rfl⟩:=h;have q4':(4000:Int)<(q.length:Int):=by omega
      go_wp2
      go_region
      go_wp2;refine bodyPost_ret (v:=.tuple #[.slice none 0 0,.agg #[.int .i64 4,.int .i64 s.passes.length]]) (by simp[results,results20,go_sem, *]) rfl ?_
      exact⟨_,rfl,⟨none,0,rfl,fun _=>rfl,fun h=>absurd rfl h⟩,((HM.out.2.1.1.setCell (p:=⟨w.heap.size+1,0,none⟩) (by simp) _).setCell (p:=⟨w.heap.size+1,1,none⟩) (by simp) _).drew⟩
     ·have h:=HGo.out;rw[if_pos rfl,if_neg q4] at h;simp only[Prod.mk.injEq] at h;obtain⟨rfl,rfl,rfl⟩:=h;have q4':¬(4000:Int)<(g.length:Int):=by omega
      go_wp2;refine bodyPost_ret (v:=.tuple #[.slice va g.length vc,.agg #[.int .i64 0,.int .i64 0]]) (by simp[results,results20,go_sem, *]) rfl ?_
      refine⟨_,rfl,K.za8 HM.out.1 fun hz k hk=> ?_,(HM.out.2.1.1.setCell (p:=⟨w.heap.size+1,0,none⟩) (by simp) _).setCell (p:=⟨w.heap.size+1,1,none⟩) (by simp) _⟩;have hne:=K.zpe HM.out.1 HM.out.2.1.2.2.2.2 hz k hk;rw[heap_setCell_other _ ⟨w.heap.size+1,1,none⟩ k _ (by simpa using hne),heap_setCell_other _ ⟨w.heap.size+1,0,none⟩ k _ (by simpa using hne)]
    ·have h:=HGo.out;rw[if_neg q3] at h;simp only[Prod.mk.injEq] at h;obtain⟨rfl,rfl,rfl⟩:=h;go_wp2
     go_region
     go_wp2;refine bodyPost_ret (v:=.tuple #[.slice none 0 0,.agg #[.int .i64 g1,.int .i64 g2]]) (by simp[results,results20,go_sem, *]) rfl ?_
     exact⟨_,rfl,⟨none,0,rfl,fun _=>rfl,fun h=>absurd rfl h⟩,((HM.out.2.1.1.setCell (p:=⟨w.heap.size+1,0,none⟩) (by simp) _).setCell (p:=⟨w.heap.size+1,1,none⟩) (by simp) _).drew⟩
  ·have h:(g,g1,g2)=([],z,0):=by rw[<- HG.out,Cn.goF,if_pos (by rw[HE.out]),if_neg (by rw[HZ.out];exact q2),HZ.out]
   simp only[Prod.mk.injEq] at h;obtain⟨rfl,rfl,rfl⟩:=h;go_wp2;refine bodyPost_ret (v:=.tuple #[.slice none 0 0,.agg #[.int .i64 g1,.int .i64 0]]) (by simp[results,results20,go_sem, *]) rfl ?_;exact⟨_,rfl,⟨none,0,rfl,fun _=>rfl,fun h=>absurd rfl h⟩,(HA2.out.1.setCell (p:=⟨w.heap.size+1,0,none⟩) (by simp) _).setCell (p:=⟨w.heap.size+1,1,none⟩) (by simp) _⟩
 ·have h:(g,g1,g2)=([],e1,e2):=by rw[<- HG.out,Cn.goF,if_neg (by rw[HE.out];exact q1),HE.out]
  simp only[Prod.mk.injEq] at h;obtain⟨rfl,rfl,rfl⟩:=h;go_wp2
  go_region
  go_wp2;refine bodyPost_ret (v:=.tuple #[.slice none 0 0,.agg #[.int .i64 g1,.int .i64 g2]]) (by simp[results,results20,go_sem, *]) rfl ?_
  refine⟨_,rfl,⟨none,0,rfl,fun _=>rfl,fun h=>absurd rfl h⟩,?_⟩
  first
   | exact(((HA1.out _).1.setCell (p:=⟨w.heap.size+1,0,none⟩) (by simp) _).setCell (p:=⟨w.heap.size+1,1,none⟩) (by simp) _).drew
   | exact(((HB1.out.setCell (p:=⟨w.heap.size+1,0,none⟩) (by simp) _).setCell (p:=⟨w.heap.size+1,1,none⟩) (by simp) _).alloc (by simp;omega) _).drew
