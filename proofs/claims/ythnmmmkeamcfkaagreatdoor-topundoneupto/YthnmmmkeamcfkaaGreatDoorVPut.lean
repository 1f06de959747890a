import Derived.Test.YthnmmmkeamcfkaaGreatDoorVPass
import Derived.Deep.RegionHeld3
import Derived.Deep.DeepCutAuto
import Derived.Deep.RegionLaw
import Derived.Lib.Walk
import Derived.Lib.AppendZeros
set_option maxHeartbeats 0
set_option maxRecDepth 20000
set_option linter.unusedSimpArgs false
set_option linter.unusedVariables false
namespace Go.Proofs.YthnmmmkeamcfkaaGreatDoor
open Go.Proofs.Tryz
section
open Go.RowKit Go.Lib
theorem V.zc0 {α:Type}{t e:TypeId}{k F F2:Nat}{El:α->List Value->World->Prop}{ops:Array Oper}{rest:List Oper}{o:Oper}{a:Act}{w:World}{Q:Exit->Act->World->Prop}(E:R.Elem t e k)(hgd:o.guard=none)(s x:Operand)
  (ho:o.op= .call { callee:= .builtin .append,args:=#[s,x],argTypes:=#[t,t] }) (v v2:Value) (xs ys:List α) (hs:a.eval s=v) (hx:a.eval x=v2) (h:R.Row e k El F w v xs) (h2:R.Row e k El F2 w v2 ys) (hF:F<=F2) (hne:∀g,v.ownBlock=some g->g<F2)
  (hsz:xs.length+ys.length<=100000000) (hb:F<=w.heap.size)
  (hk:∀v' w',R.Row e k El F w' v' (xs++ys)->w.grownBy w' v.ownBlock->(∀g,v'.ownBlock=some g->v.ownBlock=some g∨w.heap.size<=g)->wpList prog ops Q rest (a.put o.dst v') w'):wpList prog ops Q (o::rest) a w:=by
 obtain⟨v',w',hrun,h3,h4,h5⟩:=R.Row.add E o.type h h2 hF hne hsz hb;refine wpList_plain hgd fun _ hK=> ?_
 have h':=hK _ _ (hk v' w' h3 h4 h5);unfold Oper.wp;simp[execOp,ho,resolve,invoke,builtin,hs,hx,hrun,Result.andThen];exact h'
theorem V.elemS:R.Elem 48 24 1:=⟨underlying48,⟨.slice none 0 0,24,by kernel_rfl,by decide,rfl⟩,by decide⟩
def V.SetEl (s:List S.Sp) (c:List Value) (w:World):Prop:=∃u so sc,c= [u]/\u= .slice so s.length sc/\S.Rd w u s
def V.SetRow (F:Nat) (w:World) (v:Value) (l:List (List S.Sp)):Prop:=R.Row 24 1 V.SetEl F w v l
theorem V.one_set {w:World}{F:Nat}{u:Value}{s:List S.Sp}(h:w.ownsRow F 101 2 u s.length (S.cellsOf s))(hF:F<=w.heap.size):V.SetRow F (w.alloc (.cells #[u] 24)) (.slice (some ⟨w.heap.size,0,none⟩) 1 1) [s]:=by
 have hr:=S.Rd.za4 h;obtain⟨so,sc,hu,_⟩:=hr;have hr:=S.Rd.za4 h;have hs:R.Stays F none w (V.SetEl s [u]):=(R.zdu hr (fun g hg=>(h.lt g hg).1)).imp fun w' k=>⟨u,so,sc,rfl,hu,k⟩
 exact R.Row.one [u] rfl (fun x hx=>by simp at hx;subst hx;rw[hu];rfl) hs hF
theorem zrq (w:World)(v:Value)(l:List R.Item)(bm:Nat)(g:ByteArray->List S.Sp)(HV:V.Vars w bm g)(RR:R.Its w v l)(hl:l.length<=1000)(hs:∀x∈l,x.kind=2->x.set.length<=17592186044160) :
  Calls prog 166 #[v,.func (.func 165) #[] #[.pointer (some ⟨bm,0,none⟩)]] w fun e w'=>∃v',e= .returned v'/\V.SetRow w.heap.size w' v' (l.map (V.setOf g))/\Below w.heap.size w w':=by
 have HR:=qH RR;have HVs:=qH HV;have HS:=qH hs;obtain⟨ao,ca,rfl⟩:=RR.len;clear RR HV hs
 go_enter func166,ntmps166
 go_wp2
 go_loopw [5,10] (fun v i wr=>∃k:Nat,k<=l.length/\i= .int .i64 k/\Hid (V.SetRow w.heap.size wr v ((l.take k).map (V.setOf g))/\Below w.heap.size w wr)) (fun _ i _=>l.length - (RowKit.intOf i).toNat)
 case atStart=>exact⟨0,Nat.zero_le _,rfl,R.Row.nil _ _,qR w⟩
 case round =>
  obtain⟨k,hk,rfl,HB⟩:=hrel
  by_cases hlt:k<l.length
  ·obtain⟨x,hx⟩:∃x,l[k]?=some x:=⟨l[k],by simp[hlt]⟩;obtain⟨ao',ca',e',hcs⟩:=HR.out.below HB.out.2;cases e';obtain⟨b,off,rfl,hcell⟩:=hcs (by intro h;subst h;simp at hlt);obtain⟨c0,c1,c3,⟨so,sc,c2,r2⟩,hf,hnm⟩:=hcell k x hx;have hsl:=HS.out x (List.mem_of_getElem? hx)
   have HL:Hid (∀W,Below wr.heap.size wr W->Calls prog 165 #[.agg #[.int .i64 x.kind,.int .i32 x.rune,.slice so x.set.length sc,.string x.name],.pointer (some ⟨bm,0,none⟩)] W
     fun e w'=>∃v',e= .returned v'/\w'.ownsRow W.heap.size 101 2 v' (V.setOf g x).length (S.cellsOf (V.setOf g x))/\Below W.heap.size W w'):=fun W hW=>zq7 W x so sc bm g ((HVs.out.below HB.out.2).below hW) (r2.below hW qN) hsl hnm
   clear hcell hcs r2 hf hnm hsl;have HX:=qH hx;clear hx;generalize hst:V.setOf g x=st at HL
   have HXs:Hid ((l.take (k+1)).map (V.setOf g)=(l.take k).map (V.setOf g)++ [st]):=by
    show _=_;rw[List.take_add_one,HX.out];simp[hst]
   clear hst HX;obtain⟨xk,xr,xs,xn⟩:=x;simp only at c0 c1 c2 c3 HL;have hb1:=L.block_lt c0;have HbA:Hid (Below wr.heap.size wr (wr.alloc (.cells #[.int .i64 xk,.int .i32 xr,.slice so xs.length sc,.string xn] 242))):=(qR wr).alloc qN _
   go_wp2_with fail
   refine(HL.out _ HbA.out).mono ?_;rintro e w5 ⟨v5,rfl,o5,b5⟩
   obtain⟨s5,q5,rfl⟩:∃s5 q5,v5= .slice s5 st.length q5:=by
    obtain⟨s5,q5,hu,_⟩:=S.Rd.za4 o5;exact⟨s5,q5,hu⟩
   have hs5:wr.heap.size+1<=w5.heap.size:=by have:=b5.size;simpa using this
   have bw5:=HbA.out.trans (b5.mono HbA.out.size);have hsz5:=HB.out.2.size
   have HO:Hid (V.SetRow w.heap.size (w5.alloc (.cells #[.slice s5 st.length q5] 24)) u5 ((l.take k).map (V.setOf g))/\V.SetRow (wr.heap.size+1) (w5.alloc (.cells #[.slice s5 st.length q5] 24)) (.slice (some ⟨w5.heap.size,0,none⟩) 1 1) [st]/\Below w.heap.size w (w5.alloc (.cells #[.slice s5 st.length q5] 24))/\∀g,u5.ownBlock=some g->w.heap.size<=g/\g<wr.heap.size) :=
    ⟨(R.Row.below HB.out.1 bw5).below ((qR w5).alloc qN _),V.one_set (by simpa using o5) hs5,(HB.out.2.trans (bw5.mono HB.out.2.size)).alloc (by omega) _,fun g hg=>HB.out.1.lt g hg⟩
   clear o5 b5 bw5 c0 c1 c2 c3 hb1;have hlen:((l.take k).map (V.setOf g)).length=k:=by simp;omega
   have HLen:=qH hlen;clear hlen
   go_wp2_with (at_builtin;go_must (refine V.zc0 V.elemS rfl _ _ rfl _ _ ((l.take k).map (V.setOf g)) [st] rfl rfl HO.out.1 HO.out.2.1 (by omega) (fun g hg=>by have:=(HO.out.2.2.2 g hg).2;omega) (by have:=HLen.out;rw[this];simp;omega) (by simp;omega) ?_;intro v6 w6 R6 g6 n6;have HX6:Hid (V.SetRow w.heap.size w6 v6 ((l.take k).map (V.setOf g)++ [st])/\Below w.heap.size w w6):=⟨R6,Below.grown HO.out.2.2.1 g6 HO.out.2.2.1.size (fun j hj=>(HO.out.2.2.2 j hj).1)⟩;clear R6 g6 n6))
   go_roundw
   case rel=>exact⟨k+1,by omega,by go_num,by rw[HXs.out];exact HX6.out.1,HX6.out.2⟩
   case measure=>simp[RowKit.intOf];omega
  ·have hkl:k=l.length:=by omega
   subst hkl;go_wp2;go_ret;exact⟨_,rfl,by simpa using HB.out.1,HB.out.2⟩
end
section
open Go.RowKit
namespace V
theorem cells7 {w:World}{b:Nat}{v0 v1 v2 v3 v4 v5 v6:Value}{t:TypeId}(h:w.heap[b]?=some (.cells #[v0,v1,v2,v3,v4,v5,v6] t)) :
  (w.cell? ⟨b,0,none⟩=some v0/\w.cell? ⟨b,1,none⟩=some v1/\w.cell? ⟨b,2,none⟩=some v2/\w.cell? ⟨b,3,none⟩=some v3/\w.cell? ⟨b,4,none⟩=some v4/\w.cell? ⟨b,5,none⟩=some v5/\w.cell? ⟨b,6,none⟩=some v6)/\∀i,w.frozen? ⟨b,i,none⟩=false :=
 ⟨⟨K.zad h rfl,K.zad h rfl,K.zad h rfl,K.zad h rfl,K.zad h rfl,K.zad h rfl,K.zad h rfl⟩,fun i=>frozen_of_row w b i _ _ h⟩
theorem zcr {W:World}{b i:Nat}{c:Array Value}{t:TypeId}(h:W.heap[b]?=some (.cells c t))(v:Value) :
  (W.setCell ⟨b,i,none⟩ v).heap[b]?=some (.cells (c.setIfInBounds i v) t)/\W.grownBy (W.setCell ⟨b,i,none⟩ v) (some b) :=
 ⟨heap_setCell_same W b i _ _ v h,rfl,rfl,rfl,by simp,fun k _ hk=>heap_setCell_other W ⟨b,i,none⟩ k _ fun e=>hk (by rw[e])⟩
theorem zj3 {W:World}{b:Nat}{u0 u1 u2 u3 u4 u5 u6:Value}{t:TypeId}(h:W.heap[b]?=some (.cells #[u0,u1,u2,u3,u4,u5,u6] t))(v0 v1 v2 v3 v4 v5 v6:Value) :
  (((((((W.setCell ⟨b,0,none⟩ v0).setCell ⟨b,1,none⟩ v1).setCell ⟨b,2,none⟩ v2).setCell ⟨b,3,none⟩ v3).setCell ⟨b,4,none⟩ v4).setCell ⟨b,5,none⟩ v5).setCell ⟨b,6,none⟩ v6).heap[b]?=some (.cells #[v0,v1,v2,v3,v4,v5,v6] t)/\W.grownBy (((((((W.setCell ⟨b,0,none⟩ v0).setCell ⟨b,1,none⟩ v1).setCell ⟨b,2,none⟩ v2).setCell ⟨b,3,none⟩ v3).setCell ⟨b,4,none⟩ v4).setCell ⟨b,5,none⟩ v5).setCell ⟨b,6,none⟩ v6) (some b):=by
 obtain⟨e0,g0⟩:=zcr (i:=0) h v0;generalize W.setCell ⟨b,0,none⟩ v0=X0 at *;obtain⟨e1,g1⟩:=zcr (i:=1) e0 v1;generalize X0.setCell ⟨b,1,none⟩ v1=X1 at *;obtain⟨e2,g2⟩:=zcr (i:=2) e1 v2;generalize X1.setCell ⟨b,2,none⟩ v2=X2 at *;obtain⟨e3,g3⟩:=zcr (i:=3) e2 v3;generalize X2.setCell ⟨b,3,none⟩ v3=X3 at *;obtain⟨e4,g4⟩:=zcr (i:=4) e3 v4;generalize X3.setCell ⟨b,4,none⟩ v4=X4 at *;obtain⟨e5,g5⟩:=zcr (i:=5) e4 v5;generalize X4.setCell ⟨b,5,none⟩ v5=X5 at *;obtain⟨e6,g6⟩:=zcr (i:=6) e5 v6;generalize X5.setCell ⟨b,6,none⟩ v6=X6 at *;exact⟨by rw[e6];simp,S.zaa (S.zaa (S.zaa (S.zaa (S.zaa (S.zaa g0 g1) g2) g3) g4) g5) g6⟩
end V
namespace V
def Mn (lo hi:Nat) (W:World) (Q:World->Prop):Prop:=lo<=hi/\∀W',(∀b,lo<=b->b<hi->W'.heap[b]?=W.heap[b]?)->Q W'
theorem Mn.below {lo hi:Nat}{W W':World}{Q:World->Prop}(h:Mn lo hi W Q)(hb:Below W.heap.size W W')(hh:hi<=W.heap.size):Mn lo hi W' Q :=
 ⟨h.1,fun W'' h2=>h.2 W'' fun b h3 h4=>(h2 b h3 h4).trans (hb.block b (by omega))⟩
theorem flat1:∀ {cs:List (List Value)},(∀c∈cs,c.length=1)->∀j:Nat,cs.flatten[j]?=(cs[j]?).bind (·[0]?)
 | [],_,j=>by simp
 | c::cs,h,j=>by
  have h1:=h c (List.mem_cons_self ..)
  match c,h1 with
  | [u],_ =>
   cases j with
   | zero=>simp
   | succ j =>
    rw[List.flatten_cons,List.singleton_append,List.getElem?_cons_succ,List.getElem?_cons_succ];exact flat1 (fun c hc=>h c (List.mem_cons_of_mem _ hc)) j
theorem zwk {F:Nat}{w:World}{v:Value}{l:List (List S.Sp)}(h:V.SetRow F w v l)(hf:∀s∈l,S.Fit s)(hl:l.length<=1000):∃ao cap,v= .slice ao l.length cap/\∀W',(∀b,F<=b->b<w.heap.size->W'.heap[b]?=w.heap[b]?)->K.Ss W' v l:=by
 obtain⟨cs,own,hcl,hc,hst⟩:=h
 obtain⟨ao,cap,hv,hn⟩:∃ao cap,v= .slice ao l.length cap/\(ao=none->cap=0):=by
  rcases own.2 with ⟨h,h1⟩|⟨g,cap,cur,h,_⟩
  ·exact⟨none,0,by rw[h,h1],fun _=>rfl⟩
  ·exact⟨_,cap,h,fun e=>by cases e⟩
 have hone:∀(j:Nat) s c,l[j]?=some s->cs[j]?=some c->∃u,c= [u]:=fun j s c hs hj=>by
  obtain⟨u,so,sc,h1,_⟩:=(hst j s c hs hj).here;exact⟨u,h1⟩
 refine⟨ao,cap,hv,fun W' hW=> ?_⟩;refine⟨ao,cap,cs.flatten,hv,hn,by omega,⟨?_,fun j u s hu hs=> ?_⟩,fun hne=> ?_⟩
 ·have:=own.1;omega
 ·have hlt:j<cs.length:=by rw[hcl];exact(qL.1 hs).1
  obtain⟨c,hcj⟩:∃c,cs[j]?=some c:=⟨cs[j],by simp⟩;obtain⟨u',so,sc,h1,h2,h3⟩:=(hst j s c hs hcj) W' fun b h1 h2 _=>hW b h1 h2
  have hfl:cs.flatten[j]?=some u':=by
   have hk:=fun c hc'=>(hc c hc').1
   rw[flat1 hk j,hcj,h1];rfl
  rw[hfl] at hu;cases hu;exact⟨⟨so,sc,h2⟩,h3,hf s (List.mem_of_getElem? hs)⟩
 ·rcases own.2 with ⟨_,h1⟩|⟨g,cap',cur,hv',hB,hg,_,_,hsz,htk⟩
  ·exact absurd (List.eq_nil_of_length_eq_zero h1) hne
  ·rw[hv] at hv';cases hv';refine⟨g,0,rfl,fun j u hj=> ?_⟩;have hgl:=(qA.1 hg).1;have e:=hW g hB hgl;rw[World.cell?_of_block (w:=w) (a:=⟨g,0+j,none⟩) e];rw[<- htk] at hj;rw[World.cell?];simp only[show w.heap[g]?=_ from hg];rw[List.getElem?_take] at hj;split at hj
   ·simpa using hj
   ·cases hj
end V
namespace V
def Right (l:List R.Item):Prop:=l.length<=20/\∀x∈l,R.itemE x=0
theorem zp8 {l:List R.Item}(h:Right l):∀x∈l,x.kind=2->x.set.length<=17592186044160:=fun x hx hk=>by
 have:=h.2 x hx;unfold R.itemE at this;rw[if_neg (by omega),if_pos hk] at this;have:=(S.zat.1 this).1;omega
def Ext (A B:World) (rb:Nat):Prop:=A.heap.size<=B.heap.size/\∀b,b<A.heap.size->b≠rb->B.heap[b]?=A.heap[b]?
theorem Ext.trans {A B C:World}{rb:Nat}(h:Ext A B rb)(h':Ext B C rb):Ext A C rb:=⟨Nat.le_trans h.1 h'.1,fun b hb hn=>(h'.2 b (Nat.lt_of_lt_of_le hb h.1) hn).trans (h.2 b hb hn)⟩
theorem zof {X Y:World}{rb:Nat}(z:Below X.heap.size X Y):Ext X Y rb:=⟨z.size,fun b hb _=>z.block b hb⟩
theorem zt6 {A:World}{o:Obj}{rb:Nat}:Ext A (A.alloc o) rb:=⟨by simp,fun b hb _=>Below.heap_alloc A o b hb⟩
theorem zw5 {A B:World}{rb:Nat}(h:A.grownBy B (some rb)):Ext A B rb:=⟨h.size,fun b hb hn=>h.block b hb fun e=>hn (Option.some.inj e)⟩
def Made (w:World) (g:ByteArray->List S.Sp) (abe aso aaf bso:List R.Item) (wx:World) (rb:Nat) (st fi:Value) (p1:Option Addr) (p2:Nat) (s1:Option Addr) (s2:Nat) (a1:Option Addr) (a2:Nat) (t1:Option Addr) (t2:Nat) (bcu:Int):Prop :=
 wx.heap[rb]?=some (.cells #[st,fi,.slice p1 abe.length p2,.slice s1 aso.length s2,.slice a1 aaf.length a2,.slice t1 bso.length t2,.int .i64 bcu] 50) /\
 wx.heap[w.heap.size+2]?=some (.cells #[.bool false,.bool false,.slice none 0 0,.slice none 0 0,.slice none 0 0,.slice none 0 0,.int .i64 0] 50)/\w.heap.size+3<=rb/\Below w.heap.size w wx /\
 (∀W',(∀b,w.heap.size+3<=b->b≠rb->b<wx.heap.size->W'.heap[b]?=wx.heap[b]?) ->
  K.Ss W' (.slice p1 abe.length p2) (abe.map (setOf g))/\K.Ss W' (.slice s1 aso.length s2) (aso.map (setOf g))/\K.Ss W' (.slice a1 aaf.length a2) (aaf.map (setOf g))/\L.Rd W' (.slice t1 bso.length t2) .i32 (bso.map (·.rune)))
theorem zvz {w:World}{g:ByteArray->List S.Sp}{abe aso aaf bso:List R.Item}{wx:World}{rb:Nat}{st fi:Value}{p1:Option Addr}{p2:Nat}{s1:Option Addr}{s2:Nat}{a1:Option Addr}{a2:Nat}{t1:Option Addr}{t2:Nat}{bcu:Int}
  (hF:wx.heap[rb]?=some (.cells #[st,fi,.slice p1 abe.length p2,.slice s1 aso.length s2,.slice a1 aaf.length a2,.slice t1 bso.length t2,.int .i64 bcu] 50))
  (h6:wx.heap[w.heap.size+2]?=some (.cells #[.bool false,.bool false,.slice none 0 0,.slice none 0 0,.slice none 0 0,.slice none 0 0,.int .i64 0] 50)) (hrb:w.heap.size+3<=rb) (hB:Below w.heap.size w wx)
  (m1:∀W':World,(∀b,w.heap.size+3<=b->b≠rb->b<wx.heap.size->W'.heap[b]?=wx.heap[b]?)->K.Ss W' (.slice p1 abe.length p2) (abe.map (setOf g)))
  (m2:∀W':World,(∀b,w.heap.size+3<=b->b≠rb->b<wx.heap.size->W'.heap[b]?=wx.heap[b]?)->K.Ss W' (.slice s1 aso.length s2) (aso.map (setOf g)))
  (m3:∀W':World,(∀b,w.heap.size+3<=b->b≠rb->b<wx.heap.size->W'.heap[b]?=wx.heap[b]?)->K.Ss W' (.slice a1 aaf.length a2) (aaf.map (setOf g)))
  (m4:∀W':World,(∀b,w.heap.size+3<=b->b≠rb->b<wx.heap.size->W'.heap[b]?=wx.heap[b]?)->L.Rd W' (.slice t1 bso.length t2) .i32 (bso.map (·.rune))) :
  Hid (Made w g abe aso aaf bso wx rb st fi p1 p2 s1 s2 a1 a2 t1 t2 bcu):=⟨hF,h6,hrb,hB,fun W' hW=>⟨m1 W' hW,m2 W' hW,m3 W' hW,m4 W' hW⟩⟩
theorem goes {w X Y:World}(hX:Below w.heap.size w X)(z:Below X.heap.size X Y):Below w.heap.size w Y:=hX.trans (z.mono hX.size)
theorem zke {X Y:World}{o:Obj}(z:Below (X.alloc o).heap.size (X.alloc o) Y):Y.heap[X.heap.size]?=some o:=(K.zau z).1
theorem zs8 {X Y:World}{o:Obj}(z:Below ((X.alloc o).drew).heap.size ((X.alloc o).drew) Y):Y.heap[X.heap.size]?=some o:=(K.zae (w:=(X.alloc o).drew) (heap_alloc_new X o) z)
end V
end
section
open Go.RowKit
theorem V.zbr {t:TypeId}{ops:Array Oper}{o:Oper}{a:Act}{w:World}{K:Act->World->Prop}{Q:Exit->Act->World->Prop}{E:Prop}(hgd:o.guard=none)(s x:Operand)
  (ho:o.op= .call { callee:= .builtin .append,args:=#[s,x],argTypes:=#[t,t] }) (v vx v':Value) (w':World) (hs:a.eval s=v) (hx:a.eval x=vx)
  (hrun:∀ty,(Builtin.append_ #[t,t] ty #[v,vx]).run prog w= .ok v' w') (h:K (a.put o.dst v') w') :
  if Region.wanted o (yielded ops a.tmps)=true then Oper.wp prog o a w K Q else E:=by
 have hw:Region.wanted o (yielded ops a.tmps)=true:=by simp[Region.wanted,hgd]
 rw[if_pos hw];unfold Oper.wp;simp[execOp,ho,resolve,invoke,builtin,hs,hx,hrun,Result.andThen];exact h
theorem zqg (F:Nat)(w:World)(tops:List Nat)(init:List V.Pass)(p:V.Pass)(rvi:List Value)(rv:Value)(X cap:Nat)(h:V.PS F tops w (.slice (some ⟨X,0,none⟩) (init.length+1) cap) (init++ [p]) (rvi++ [rv]))(hli:rvi.length=init.length)(hnm:p.name=⟨#[]⟩)(r:K.Rule)(bo:Option Addr)(bc:Nat)(so:Option Addr)(sc:Nat)(ao:Option Addr)(ac:Nat)(ta:Option Addr)(tc:Nat)(hL:V.Leaf tops w fun W=>K.RuIs W (.agg #[.bool r.start,.bool r.fin,.slice bo r.before.length bc,.slice so r.source.length sc,.slice ao r.after.length ac,.slice ta r.target.length tc,.int .i64 r.cursor]) r)(hF:F<=w.heap.size)(hrl:p.rules.length<=1000)(hil:init.length<=1000) :
  Calls prog 115 #[.slice (some ⟨X,0,none⟩) (init.length+1) cap,.agg #[.bool r.start,.bool r.fin,.slice bo r.before.length bc,.slice so r.source.length sc,.slice ao r.after.length ac,.slice ta r.target.length tc,.int .i64 r.cursor]] w fun e w'=>e= .returned (.slice (some ⟨X,0,none⟩) (init.length+1) cap)/\(∃tops' rv',V.PS F tops' w' (.slice (some ⟨X,0,none⟩) (init.length+1) cap) (init++ [⟨p.name,p.rules++ [r]⟩]) (rvi++ [rv'])/\V.Moves tops w tops' w')/\Below F w w':=by
 obtain⟨wq,hwq⟩:∃wq,wq=w.alloc (.cells #[.bool r.start,.bool r.fin,.slice bo r.before.length bc,.slice so r.source.length sc,.slice ao r.after.length ac,.slice ta r.target.length tc,.int .i64 r.cursor] 50):=⟨_,rfl⟩;have hb0:Below w.heap.size w wq:=by rw[hwq];exact(qR w).alloc qN _
 have PQ:=h.below hb0;have LQ:=hL.step (tops':=tops) hb0.size (fun b hb _=>hb0.block b hb) fun k hk=> .inl hk
 have hbox:wq.heap[w.heap.size]?=some (.cells #[.bool r.start,.bool r.fin,.slice bo r.before.length bc,.slice so r.source.length sc,.slice ao r.after.length ac,.slice ta r.target.length tc,.int .i64 r.cursor] 50):=by rw[hwq];exact heap_alloc_new w _
 have hFq:=Nat.le_trans hF hb0.size;have hBq:=hb0.mono hF;have hMq:V.Moves tops w tops wq:=V.Moves.of_below hb0;obtain⟨nm0,_⟩:=h.cells hli;rw[hnm] at nm0
 have dn:∀o,(w.alloc o).cell? ⟨X,init.length*2,none⟩=some (.string ⟨#[]⟩):=fun o=>by
  have e:=Below.heap_alloc w o X (L.block_lt nm0);rw[World.cell?_of_block (a:=⟨X,init.length*2,none⟩) e];exact nm0
 obtain⟨d0,d1⟩:=PQ.cells hli;have hal:Below wq.heap.size wq (wq.alloc (.cells #[.bool r.start,.bool r.fin,.slice bo r.before.length bc,.slice so r.source.length sc,.slice ao r.after.length ac,.slice ta r.target.length tc,.int .i64 r.cursor] 50)).drew:=((qR wq).alloc qN _).drew;have PA:=PQ.below hal;have hnew:(wq.alloc (.cells #[.bool r.start,.bool r.fin,.slice bo r.before.length bc,.slice so r.source.length sc,.slice ao r.after.length ac,.slice ta r.target.length tc,.int .i64 r.cursor] 50)).drew.heap[wq.heap.size]?=some (.cells #[.bool r.start,.bool r.fin,.slice bo r.before.length bc,.slice so r.source.length sc,.slice ao r.after.length ac,.slice ta r.target.length tc,.int .i64 r.cursor] 50):=heap_alloc_new wq _;obtain⟨rv',W1,hrun,⟨g',c',hrv'⟩,e1,f1,gr1,tops',PF,hBF,hMF⟩:=PA.put hli r [.bool r.start,.bool r.fin,.slice bo r.before.length bc,.slice so r.source.length sc,.slice ao r.after.length ac,.slice ta r.target.length tc,.int .i64 r.cursor] ⟨rfl,fun u hu=>by simp at hu;rcases hu with rfl | rfl | rfl | rfl | rfl | rfl | rfl <;> rfl⟩ (LQ.step hal.size (fun b hb _=>hal.block b hb) fun k hk=> .inl hk) wq.heap.size (fun q u hq=>K.zad hnew (by simpa using hq)) (Nat.le_trans hFq hal.size) hrl;obtain⟨⟨y0,y1,y2,y3,y4,y5,y6⟩,_⟩:=V.cells7 hbox;have HF:Hid (V.PS F tops' (W1.setCell ⟨X,init.length*2+1,none⟩ rv') (.slice (some ⟨X,0,none⟩) (init.length+1) cap) (init++ [⟨p.name,p.rules++ [r]⟩]) (rvi++ [rv'])/\Below F w (W1.setCell ⟨X,init.length*2+1,none⟩ rv')/\V.Moves tops w tops' (W1.setCell ⟨X,init.length*2+1,none⟩ rv')):=⟨PF,(hBq.trans (hal.mono hFq)).trans hBF,(hMq.trans (V.Moves.of_below hal)).trans hMF⟩;subst hrv';have lbq:=(qA.1 hbox).1;have lbX:=L.block_lt d1;have hj0:(0:Int)<=init.length:=by omega
 have hj1:(init.length:Int)<init.length+1:=by omega
 have hjw:IntKind.i64.wrap ((init.length:Int)+1 - 1)=init.length:=by rw[IntKind.wrap_i64];omega
 clear PQ PA hal hnew LQ PF hBF hMF hMq hbox d0 gr1;clear h hL nm0 hb0
 go_enter func115,ntmps115
 go_wp2;rw[<- hwq]
 clear hwq;have HR:=qH hrun;clear hrun
 go_region_law (refine V.zbr (by rfl) (.tmp 32) (.tmp 34) (by rfl) _ _ _ W1 (by rfl) (by rfl) HR.out ?_)
 all_goals
  go_wp2;go_ret
  exact⟨rfl,⟨tops',_,HF.out.1,HF.out.2.2⟩,HF.out.2.1⟩
theorem zne (F:Nat)(w:World)(tops:List Nat)(ps:List V.Pass)(rvs:List Value)(ini:List V.Pass)(pl:V.Pass)(rvl:List Value)(rl:Value)(Y cq:Nat)(hps:ps=ini++ [pl])(hrvs:rvs=rvl++ [rl])(hlr:rvl.length=ini.length)(hnm:¬pl.name.size=0)(h:V.PS F tops w (.slice (some ⟨Y,0,none⟩) (ini.length+1) cq) ps rvs)(r:K.Rule)(bo:Option Addr)(bc:Nat)(so:Option Addr)(sc:Nat)(ao:Option Addr)(ac:Nat)(ta:Option Addr)(tc:Nat)(hL:V.Leaf tops w fun W=>K.RuIs W (.agg #[.bool r.start,.bool r.fin,.slice bo r.before.length bc,.slice so r.source.length sc,.slice ao r.after.length ac,.slice ta r.target.length tc,.int .i64 r.cursor]) r)(hF:F<=w.heap.size)(hil:ps.length<=1000) :
  Calls prog 115 #[.slice (some ⟨Y,0,none⟩) (ini.length+1) cq,.agg #[.bool r.start,.bool r.fin,.slice bo r.before.length bc,.slice so r.source.length sc,.slice ao r.after.length ac,.slice ta r.target.length tc,.int .i64 r.cursor]] w fun e w'=>(∃vp' tops' rvs',e= .returned vp'/\V.PS F tops' w' vp' (ps++ [⟨⟨#[]⟩,[r]⟩]) rvs'/\V.Moves tops w tops' w')/\Below F w w':=by
 have hY:w.cell? ⟨Y,ini.length*2,none⟩=some (.string pl.name):=by
  have h':=h;rw[hps,hrvs] at h';exact(h'.cells hlr).1
 have dn:∀o,(w.alloc o).cell? ⟨Y,ini.length*2,none⟩=some (.string pl.name):=fun o=>by
  have e:=Below.heap_alloc w o Y (L.block_lt hY);rw[World.cell?_of_block (a:=⟨Y,ini.length*2,none⟩) e];exact hY
 have hem:pl.name.toList.isEmpty=false:=by
  rw[ByteArray.toList_eq];cases e:pl.name.data.toList with
  | nil=>exact absurd (show pl.name.data.size=0 by rw[<- Array.length_toList,e];rfl) hnm
  | cons _ _=>rfl
 have hil2:ini.length<=1000:=by rw[hps] at hil;simp at hil;omega
 have hk0:(0:Int)<=ini.length:=by omega
 have hk1:(ini.length:Int)<ini.length+1:=by omega
 have hkw:IntKind.i64.wrap ((ini.length:Int)+1 - 1)=ini.length:=by rw[IntKind.wrap_i64];omega
 have hne0:¬(ini.length:Int)+1=0:=by omega
 obtain⟨w1,hw1⟩:∃w1,w1=w.alloc (.cells #[.bool r.start,.bool r.fin,.slice bo r.before.length bc,.slice so r.source.length sc,.slice ao r.after.length ac,.slice ta r.target.length tc,.int .i64 r.cursor] 50):=⟨_,rfl⟩;have hb1:Below w.heap.size w w1:=by rw[hw1];exact(qR w).alloc qN _
 have hbox1:w1.heap[w.heap.size]?=some (.cells #[.bool r.start,.bool r.fin,.slice bo r.before.length bc,.slice so r.source.length sc,.slice ao r.after.length ac,.slice ta r.target.length tc,.int .i64 r.cursor] 50):=by rw[hw1];exact heap_alloc_new w _
 have hs1:w1.heap.size=w.heap.size+1:=by rw[hw1];simp
 obtain⟨w2,hw2⟩:∃w2,w2=(w.alloc (.cells #[.bool r.start,.bool r.fin,.slice bo r.before.length bc,.slice so r.source.length sc,.slice ao r.after.length ac,.slice ta r.target.length tc,.int .i64 r.cursor] 50)).alloc (.cells #[.string ⟨#[]⟩,.slice none 0 0] 32):=⟨_,rfl⟩;have hw2':w2=w1.alloc (.cells #[.string ⟨#[]⟩,.slice none 0 0] 32):=by rw[hw2,hw1]
 have hb2:Below w1.heap.size w1 w2:=by rw[hw2'];exact(qR w1).alloc qN _
 have hnp:w2.heap[w1.heap.size]?=some (.cells #[.string ⟨#[]⟩,.slice none 0 0] 32):=by rw[hw2'];exact heap_alloc_new w1 _
 have P2:=(h.below hb1).below hb2;have hF2:=Nat.le_trans hF (Nat.le_trans hb1.size hb2.size);obtain⟨vp',wq,hrunP,ownP,grP,hvP⟩:=R.zfk V.elemP w2 0 F (.slice (some ⟨Y,0,none⟩) (ini.length+1) cq) ps.length (V.pcells ps rvs) P2.own ⟨w1.heap.size,0,none⟩ 1 1 [.string ⟨#[]⟩,.slice none 0 0] rfl (fun q u hq=>by rw[L.addr_add,Nat.zero_add];exact K.zad hnp (by simpa using hq)) (fun u hu=>by simp at hu;rcases hu with rfl | rfl <;> rfl) (by omega) hF2;obtain⟨tq,PQ,hmq⟩:=P2.more ⟨#[]⟩ (Nat.zero_le _) ownP grP hvP;have hkq:∀b,b<w2.heap.size->b∉tops->wq.heap[b]?=w2.heap[b]?:=fun b hb hn=>grP.block b hb fun e=>hn (P2.top b (.inl e.symm))
 have hw2s:w2.heap.size=w.heap.size+2:=by rw[hw2'];simp;omega
 have LQ:V.Leaf tq wq fun W=>K.RuIs W (.agg #[.bool r.start,.bool r.fin,.slice bo r.before.length bc,.slice so r.source.length sc,.slice ao r.after.length ac,.slice ta r.target.length tc,.int .i64 r.cursor]) r:=by
  have l2:=hL.step (tops':=tops) (w':=w2) (Nat.le_trans hb1.size hb2.size) (fun b hb _=>(hb2.block b (by omega)).trans (hb1.block b hb)) fun k hk=> .inl hk
  exact l2.moves hmq
 have hntop:w.heap.size∉tops:=fun hm=>by have:=h.lt _ hm;omega
 have hbox:=(hkq _ (by omega) hntop).trans ((hb2.block _ (by omega)).trans hbox1);have hFq:=Nat.le_trans hF2 grP.size;have hMq:=((V.Moves.of_below hb1).trans (V.Moves.of_below hb2)).trans hmq;have hBq:=((hb1.mono hF).trans (hb2.mono (by omega))).grown grP hF2 fun k hk=>(P2.own.lt k hk).1
 obtain⟨X,cap,hvp'⟩:=PQ.slice (by simp);rw[List.length_append] at hvp';have hvp2:vp'= .slice (some ⟨X,0,none⟩) (ps.length+1) cap:=hvp';subst hvp2
 have HRP:Hid (∀ty,(Builtin.append_ #[25,25] ty #[.slice (some ⟨Y,0,none⟩) (ini.length+1) cq,.slice (some ⟨w.heap.size+1,0,none⟩) 1 1]).run prog ((w.alloc (.cells #[.bool r.start,.bool r.fin,.slice bo r.before.length bc,.slice so r.source.length sc,.slice ao r.after.length ac,.slice ta r.target.length tc,.int .i64 r.cursor] 50)).alloc (.cells #[.string ⟨#[]⟩,.slice none 0 0] 32))= .ok (.slice (some ⟨X,0,none⟩) (ps.length+1) cap) wq):=by
  rw[<- hs1,<- hw2];exact fun ty=>hrunP
 obtain⟨init,hinit⟩:∃init,init=ps:=⟨_,rfl⟩;obtain⟨rvi,hrvi⟩:∃rvi,rvi=rvs:=⟨_,rfl⟩;obtain⟨rv,hrv⟩:∃rv:Value,rv= .slice none 0 0:=⟨_,rfl⟩;obtain⟨p,hp⟩:∃p:V.Pass,p=⟨⟨#[]⟩,[]⟩:=⟨_,rfl⟩;have hrl:p.rules.length<=1000:=by rw[hp];simp
 have HFin:Hid (init++ [⟨p.name,p.rules++ [r]⟩]=ps++ [⟨⟨#[]⟩,[r]⟩]):=by show _=_;rw[hinit,hp];rfl
 have hli:rvi.length=init.length:=by rw[hrvi,hinit];exact h.len
 have hil':init.length<=1000:=by rw[hinit];exact hil
 rw[<- hrv,<- hp,<- hinit,<- hrvi] at PQ;rw[<- hinit] at HRP;obtain⟨d0,d1⟩:=PQ.cells hli;have hal:Below wq.heap.size wq (wq.alloc (.cells #[.bool r.start,.bool r.fin,.slice bo r.before.length bc,.slice so r.source.length sc,.slice ao r.after.length ac,.slice ta r.target.length tc,.int .i64 r.cursor] 50)).drew:=((qR wq).alloc qN _).drew;have PA:=PQ.below hal;have hnew:(wq.alloc (.cells #[.bool r.start,.bool r.fin,.slice bo r.before.length bc,.slice so r.source.length sc,.slice ao r.after.length ac,.slice ta r.target.length tc,.int .i64 r.cursor] 50)).drew.heap[wq.heap.size]?=some (.cells #[.bool r.start,.bool r.fin,.slice bo r.before.length bc,.slice so r.source.length sc,.slice ao r.after.length ac,.slice ta r.target.length tc,.int .i64 r.cursor] 50):=heap_alloc_new wq _;obtain⟨rv',W1,hrun,⟨g',c',hrv'⟩,e1,f1,gr1,tops',PF,hBF,hMF⟩:=PA.put hli r [.bool r.start,.bool r.fin,.slice bo r.before.length bc,.slice so r.source.length sc,.slice ao r.after.length ac,.slice ta r.target.length tc,.int .i64 r.cursor] ⟨rfl,fun u hu=>by simp at hu;rcases hu with rfl | rfl | rfl | rfl | rfl | rfl | rfl <;> rfl⟩ (LQ.step hal.size (fun b hb _=>hal.block b hb) fun k hk=> .inl hk) wq.heap.size (fun q u hq=>K.zad hnew (by simpa using hq)) (Nat.le_trans hFq hal.size) hrl;obtain⟨⟨y0,y1,y2,y3,y4,y5,y6⟩,_⟩:=V.cells7 hbox;have HF:Hid (V.PS F tops' (W1.setCell ⟨X,init.length*2+1,none⟩ rv') (.slice (some ⟨X,0,none⟩) (init.length+1) cap) (init++ [⟨p.name,p.rules++ [r]⟩]) (rvi++ [rv'])/\Below F w (W1.setCell ⟨X,init.length*2+1,none⟩ rv')/\V.Moves tops w tops' (W1.setCell ⟨X,init.length*2+1,none⟩ rv')):=⟨PF,(hBq.trans (hal.mono hFq)).trans hBF,(hMq.trans (V.Moves.of_below hal)).trans hMF⟩;subst hrv';have lbq:=(qA.1 hbox).1;have lbX:=L.block_lt d1;have hj0:(0:Int)<=init.length:=by omega
 have hj1:(init.length:Int)<init.length+1:=by omega
 have hjw:IntKind.i64.wrap ((init.length:Int)+1 - 1)=init.length:=by rw[IntKind.wrap_i64];omega
 clear PQ PA hal hnew LQ PF hBF hMF hMq hbox d0 gr1;clear hY hps hrvs hnm h hL hb1 hbox1 hb2 hnp P2 ownP grP hvP hkq hntop hmq hvp' hrunP hw2' hw2 hw1;rw[<- hinit] at hil;clear hp hrv hinit hrvi;have HR:=qH hrun;clear hrun hs1 hw2s
 go_enter func115,ntmps115
 go_wp2_with (at_builtin;first | refine Lib.wpList_append_run _ rfl _ _ _ _ rfl _ _ rfl rfl _ _ (HRP.out _) ?_)
 go_region_law (refine V.zbr (by rfl) (.tmp 32) (.tmp 34) (by rfl) _ _ _ W1 (by rfl) (by rfl) HR.out ?_)
 all_goals
  go_wp2;go_ret
  exact⟨⟨_,tops',_,rfl,HFin.out▸HF.out.1,HF.out.2.2⟩,HF.out.2.1⟩
theorem znf (F:Nat)(w:World)(tops:List Nat)(ps:List V.Pass)(rvs:List Value)(h:V.PS F tops w (.slice none 0 0) ps rvs)(r:K.Rule)(bo:Option Addr)(bc:Nat)(so:Option Addr)(sc:Nat)(ao:Option Addr)(ac:Nat)(ta:Option Addr)(tc:Nat)(hL:V.Leaf tops w fun W=>K.RuIs W (.agg #[.bool r.start,.bool r.fin,.slice bo r.before.length bc,.slice so r.source.length sc,.slice ao r.after.length ac,.slice ta r.target.length tc,.int .i64 r.cursor]) r)(hF:F<=w.heap.size)(hil:ps.length<=1000) :
  Calls prog 115 #[.slice none 0 0,.agg #[.bool r.start,.bool r.fin,.slice bo r.before.length bc,.slice so r.source.length sc,.slice ao r.after.length ac,.slice ta r.target.length tc,.int .i64 r.cursor]] w fun e w'=>(∃vp' tops' rvs',e= .returned vp'/\V.PS F tops' w' vp' (ps++ [⟨⟨#[]⟩,[r]⟩]) rvs'/\V.Moves tops w tops' w')/\Below F w w':=by
 obtain⟨w1,hw1⟩:∃w1,w1=w.alloc (.cells #[.bool r.start,.bool r.fin,.slice bo r.before.length bc,.slice so r.source.length sc,.slice ao r.after.length ac,.slice ta r.target.length tc,.int .i64 r.cursor] 50):=⟨_,rfl⟩;have hb1:Below w.heap.size w w1:=by rw[hw1];exact(qR w).alloc qN _
 have hbox1:w1.heap[w.heap.size]?=some (.cells #[.bool r.start,.bool r.fin,.slice bo r.before.length bc,.slice so r.source.length sc,.slice ao r.after.length ac,.slice ta r.target.length tc,.int .i64 r.cursor] 50):=by rw[hw1];exact heap_alloc_new w _
 have hs1:w1.heap.size=w.heap.size+1:=by rw[hw1];simp
 obtain⟨w2,hw2⟩:∃w2,w2=(w.alloc (.cells #[.bool r.start,.bool r.fin,.slice bo r.before.length bc,.slice so r.source.length sc,.slice ao r.after.length ac,.slice ta r.target.length tc,.int .i64 r.cursor] 50)).alloc (.cells #[.string ⟨#[]⟩,.slice none 0 0] 32):=⟨_,rfl⟩;have hw2':w2=w1.alloc (.cells #[.string ⟨#[]⟩,.slice none 0 0] 32):=by rw[hw2,hw1]
 have hb2:Below w1.heap.size w1 w2:=by rw[hw2'];exact(qR w1).alloc qN _
 have hnp:w2.heap[w1.heap.size]?=some (.cells #[.string ⟨#[]⟩,.slice none 0 0] 32):=by rw[hw2'];exact heap_alloc_new w1 _
 have P2:=(h.below hb1).below hb2;have hF2:=Nat.le_trans hF (Nat.le_trans hb1.size hb2.size);obtain⟨vp',wq,hrunP,ownP,grP,hvP⟩:=R.zfk V.elemP w2 0 F (.slice none 0 0) ps.length (V.pcells ps rvs) P2.own ⟨w1.heap.size,0,none⟩ 1 1 [.string ⟨#[]⟩,.slice none 0 0] rfl (fun q u hq=>by rw[L.addr_add,Nat.zero_add];exact K.zad hnp (by simpa using hq)) (fun u hu=>by simp at hu;rcases hu with rfl | rfl <;> rfl) (by omega) hF2;obtain⟨tq,PQ,hmq⟩:=P2.more ⟨#[]⟩ (Nat.zero_le _) ownP grP hvP;have hkq:∀b,b<w2.heap.size->b∉tops->wq.heap[b]?=w2.heap[b]?:=fun b hb hn=>grP.block b hb fun e=>hn (P2.top b (.inl e.symm))
 have hw2s:w2.heap.size=w.heap.size+2:=by rw[hw2'];simp;omega
 have LQ:V.Leaf tq wq fun W=>K.RuIs W (.agg #[.bool r.start,.bool r.fin,.slice bo r.before.length bc,.slice so r.source.length sc,.slice ao r.after.length ac,.slice ta r.target.length tc,.int .i64 r.cursor]) r:=by
  have l2:=hL.step (tops':=tops) (w':=w2) (Nat.le_trans hb1.size hb2.size) (fun b hb _=>(hb2.block b (by omega)).trans (hb1.block b hb)) fun k hk=> .inl hk
  exact l2.moves hmq
 have hntop:w.heap.size∉tops:=fun hm=>by have:=h.lt _ hm;omega
 have hbox:=(hkq _ (by omega) hntop).trans ((hb2.block _ (by omega)).trans hbox1);have hFq:=Nat.le_trans hF2 grP.size;have hMq:=((V.Moves.of_below hb1).trans (V.Moves.of_below hb2)).trans hmq;have hBq:=((hb1.mono hF).trans (hb2.mono (by omega))).grown grP hF2 fun k hk=>(P2.own.lt k hk).1
 obtain⟨X,cap,hvp'⟩:=PQ.slice (by simp);rw[List.length_append] at hvp';have hvp2:vp'= .slice (some ⟨X,0,none⟩) (ps.length+1) cap:=hvp';subst hvp2
 have HRP:Hid (∀ty,(Builtin.append_ #[25,25] ty #[.slice none 0 0,.slice (some ⟨w.heap.size+1,0,none⟩) 1 1]).run prog ((w.alloc (.cells #[.bool r.start,.bool r.fin,.slice bo r.before.length bc,.slice so r.source.length sc,.slice ao r.after.length ac,.slice ta r.target.length tc,.int .i64 r.cursor] 50)).alloc (.cells #[.string ⟨#[]⟩,.slice none 0 0] 32))= .ok (.slice (some ⟨X,0,none⟩) (ps.length+1) cap) wq):=by
  rw[<- hs1,<- hw2];exact fun ty=>hrunP
 obtain⟨init,hinit⟩:∃init,init=ps:=⟨_,rfl⟩;obtain⟨rvi,hrvi⟩:∃rvi,rvi=rvs:=⟨_,rfl⟩;obtain⟨rv,hrv⟩:∃rv:Value,rv= .slice none 0 0:=⟨_,rfl⟩;obtain⟨p,hp⟩:∃p:V.Pass,p=⟨⟨#[]⟩,[]⟩:=⟨_,rfl⟩;have hrl:p.rules.length<=1000:=by rw[hp];simp
 have HFin:Hid (init++ [⟨p.name,p.rules++ [r]⟩]=ps++ [⟨⟨#[]⟩,[r]⟩]):=by show _=_;rw[hinit,hp];rfl
 have hli:rvi.length=init.length:=by rw[hrvi,hinit];exact h.len
 have hil':init.length<=1000:=by rw[hinit];exact hil
 rw[<- hrv,<- hp,<- hinit,<- hrvi] at PQ;rw[<- hinit] at HRP;obtain⟨d0,d1⟩:=PQ.cells hli;have hal:Below wq.heap.size wq (wq.alloc (.cells #[.bool r.start,.bool r.fin,.slice bo r.before.length bc,.slice so r.source.length sc,.slice ao r.after.length ac,.slice ta r.target.length tc,.int .i64 r.cursor] 50)).drew:=((qR wq).alloc qN _).drew;have PA:=PQ.below hal;have hnew:(wq.alloc (.cells #[.bool r.start,.bool r.fin,.slice bo r.before.length bc,.slice so r.source.length sc,.slice ao r.after.length ac,.slice ta r.target.length tc,.int .i64 r.cursor] 50)).drew.heap[wq.heap.size]?=some (.cells #[.bool r.start,.bool r.fin,.slice bo r.before.length bc,.slice so r.source.length sc,.slice ao r.after.length ac,.slice ta r.target.length tc,.int .i64 r.cursor] 50):=heap_alloc_new wq _;obtain⟨rv',W1,hrun,⟨g',c',hrv'⟩,e1,f1,gr1,tops',PF,hBF,hMF⟩:=PA.put hli r [.bool r.start,.bool r.fin,.slice bo r.before.length bc,.slice so r.source.length sc,.slice ao r.after.length ac,.slice ta r.target.length tc,.int .i64 r.cursor] ⟨rfl,fun u hu=>by simp at hu;rcases hu with rfl | rfl | rfl | rfl | rfl | rfl | rfl <;> rfl⟩ (LQ.step hal.size (fun b hb _=>hal.block b hb) fun k hk=> .inl hk) wq.heap.size (fun q u hq=>K.zad hnew (by simpa using hq)) (Nat.le_trans hFq hal.size) hrl;obtain⟨⟨y0,y1,y2,y3,y4,y5,y6⟩,_⟩:=V.cells7 hbox;have HF:Hid (V.PS F tops' (W1.setCell ⟨X,init.length*2+1,none⟩ rv') (.slice (some ⟨X,0,none⟩) (init.length+1) cap) (init++ [⟨p.name,p.rules++ [r]⟩]) (rvi++ [rv'])/\Below F w (W1.setCell ⟨X,init.length*2+1,none⟩ rv')/\V.Moves tops w tops' (W1.setCell ⟨X,init.length*2+1,none⟩ rv')):=⟨PF,(hBq.trans (hal.mono hFq)).trans hBF,(hMq.trans (V.Moves.of_below hal)).trans hMF⟩;subst hrv';have lbq:=(qA.1 hbox).1;have lbX:=L.block_lt d1;have hj0:(0:Int)<=init.length:=by omega
 have hj1:(init.length:Int)<init.length+1:=by omega
 have hjw:IntKind.i64.wrap ((init.length:Int)+1 - 1)=init.length:=by rw[IntKind.wrap_i64];omega
 clear PQ PA hal hnew LQ PF hBF hMF hMq hbox d0 gr1;clear h hL hb1 hbox1 hb2 hnp P2 ownP grP hvP hkq hntop hmq hvp' hrunP hw2' hw2 hw1;rw[<- hinit] at hil;clear hp hrv hinit hrvi;have HR:=qH hrun;clear hrun hs1 hw2s
 go_enter func115,ntmps115
 go_wp2_with (at_builtin;first | refine Lib.wpList_append_run _ rfl _ _ _ _ rfl _ _ rfl rfl _ _ (HRP.out _) ?_)
 go_region_law (refine V.zbr (by rfl) (.tmp 32) (.tmp 34) (by rfl) _ _ _ W1 (by rfl) (by rfl) HR.out ?_)
 all_goals
  go_wp2;go_ret
  exact⟨⟨_,tops',_,rfl,HFin.out▸HF.out.1,HF.out.2.2⟩,HF.out.2.1⟩
