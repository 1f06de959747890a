import Derived.Test.YthnmmmkeamcfkaaGreatDoorOdRank
set_option maxHeartbeats 0
set_option maxRecDepth 20000
set_option linter.unusedSimpArgs false
set_option linter.unusedVariables false
namespace Go.Proofs.YthnmmmkeamcfkaaGreatDoor
open Go.Proofs.Tryz
section
open Go.RowKit
theorem zqy (w:World)(v:Value)(l:List Int)(R:L.Rd w v .i32 l)(hl:l.length<=140737488355328) :
  Calls prog 100 #[v] w fun e w'=>∃a b c,e= .returned (.tuple #[a,b,c,.int .i64 (Od.keyF l).2])/\Od.Tri w' w.heap.size a b c (Od.keyF l).1/\Below w.heap.size w w':=by
 have HT:=zdg w v l R hl;obtain⟨q,hq⟩:∃q,q=Od.keyF l:=⟨_,rfl⟩;have HQ:=qH hq;rw[<- hq];obtain⟨ao,cap,rfl,_,_⟩:=R;clear hq;obtain⟨q1,q2⟩:=q;have hn:=Nm.zcf l;have hbd:=Nm.zml l;unfold Od.keyF at HQ;obtain⟨⟨t,te⟩,ht⟩:∃p,p=Nm.apartF l:=⟨_,rfl⟩;rw[<- ht] at HT HQ hn hbd;simp only at HT HQ hn hbd;clear ht;have HCl:=qH <| fun r X=>zcj r X
 have HLw:Hid (∀r X,0<=r/\r<=1114111->Calls prog 147 #[.int .i32 r] X fun e w'=>e= .returned (.int .i32 (Cn.low r))/\w'=X):=fun r X h=>zf1 r (by omega) (by omega) X
 have HOn:=qH <| fun b X=>zqx b X
 go_enter func100,ntmps100
 go_wp2_with fail
 refine HT.mono ?_;clear HT;rintro e w1 ⟨vt,rfl,own1,b1⟩;obtain⟨xo,xc,rfl,hxc,hxm⟩:=K.zb8 own1;have HB1:=qH b1
 by_cases he:te=0
 ·have hQ:(q1,q2)=(Od.keyL t,0):=by rw[HQ.out,if_neg (by simp[he])]
  have h1:=(Prod.mk.inj hQ).1;obtain rfl:=(Prod.mk.inj hQ).2;subst he;have HQ1:=qH h1;have HS1:=qH <| K.zj5 own1;have HBd:=qH hbd;clear HQ hQ own1 h1 hbd b1;go_wp2
  go_loopw [2,3,4,20] (fun a b c vi wr=>∃(va vb vc:Value) (j:Nat) (k:Od.K3),a=va/\b=vb/\c=vc/\vi= .int .i64 j/\j<=t.length/\Hid ((t.take j).foldl Od.kstep ([],[],[])=k)/\Hid (Od.Tri wr w1.heap.size va vb vc k/\Below w1.heap.size w1 wr)) (fun _ _ _ vi _=>t.length - (intOf vi).toNat)
  case atStart=>exact⟨_,_,_,0,([],[],[]),rfl,rfl,rfl,rfl,Nat.zero_le _,rfl,Od.Tri.start _ _,qR _⟩
  case round =>
   obtain⟨va,vb,vc,j,k,ha,hb,hc,rfl,hj,HF,HO⟩:=hrel;obtain rfl:=ha.symm;obtain rfl:=hb.symm;obtain rfl:=hc.symm;clear ha hb hc
   by_cases hlt:j<t.length
   ·obtain⟨r,hr⟩:∃r,t[j]?=some r:=⟨t[j],by simp[hlt]⟩;obtain⟨_,_,e',_,hc⟩:=HS1.out;obtain⟨rfl,-,rfl⟩:=Value.slice.inj e';obtain⟨b,off,rfl,hcell⟩:=hc (by intro h;subst h;simp at hlt);have c0:=hcell j r hr;rw[<- HO.out.2.cell (p:=⟨b,off+j,none⟩) (L.block_lt c0)] at c0;have hC:=HCl.out r;have hL:=HLw.out r;have hrb:=HBd.out r (List.mem_of_getElem? hr);have hcp:=Nm.zh4 r;have hln:=Od.zfq (t.take j) ([],[],[]);rw[HF.out,List.length_take] at hln;simp only[List.length_nil] at hln;have hst:(t.take (j+1)).foldl Od.kstep ([],[],[])=Od.kstep k r:=by rw[List.take_add_one,hr,List.foldl_append,HF.out];rfl
    have hws:=HO.out.2.size;unfold Od.kstep at hst;clear hc hcell e' hr HF
    by_cases hM:0<Nm.cls r
    ·rw[if_pos hM] at hst;obtain⟨v3,w3,run3,tr3,be3,sz3⟩:=HO.out.1.push2 hws (by omega) r;have HN:Hid (Od.Tri w3 w1.heap.size _ v3 _ (k.1,k.2.1++ [r],k.2.2)/\Below w1.heap.size w1 w3):=⟨tr3,HO.out.2.trans be3⟩;have HS:Hid ((t.take (j+1)).foldl Od.kstep ([],[],[])=(k.1,k.2.1++ [r],k.2.2)):=hst;clear tr3 be3 sz3 hst HO hL
     go_wp2_with fail
     refine(hC _).mono ?_;rintro e w4 ⟨rfl,h4⟩;obtain rfl:=h4.symm;clear h4
     go_wp2_with (at_builtin;first | refine Lib.wpList_append_run _ rfl _ _ _ _ rfl _ _ rfl rfl _ _ (run3 _) ?_)
     go_roundw
     case rel=>exact⟨_,_,_,j+1,_,rfl,rfl,rfl,by go_num,by omega,HS,HN⟩
     case measure=>simp[intOf];omega
    ·rw[if_neg hM] at hst;have hz:Nm.cls r=0:=by omega
     rw[hz] at hC;obtain⟨v3,w3,run3,tr3,be3,sz3⟩:=HO.out.1.push1 hws (by omega) (Cn.low r);obtain⟨v4,w4,run4,tr4,be4,sz4⟩:=tr3.push2 (Nat.le_trans hws sz3) (by show k.2.1.length<=_;omega) 0;obtain⟨v5,w5,run5,tr5,be5,sz5⟩:=tr4.push3 (Nat.le_trans (Nat.le_trans hws sz3) sz4) (by show k.2.2.length<=_;omega) (Od.g01 r);have HN:Hid (Od.Tri w5 w1.heap.size v3 v4 v5 (k.1++ [Cn.low r],k.2.1++ [0],k.2.2++ [Od.g01 r])/\Below w1.heap.size w1 w5):=⟨tr5,HO.out.2.trans (be3.trans (be4.trans be5))⟩;have HS:Hid ((t.take (j+1)).foldl Od.kstep ([],[],[])=(k.1++ [Cn.low r],k.2.1++ [0],k.2.2++ [Od.g01 r])):=hst;have hL1:=hL wr hrb;obtain⟨s,hs⟩:∃s,s=Cn.low r:=⟨_,rfl⟩
     have hs3:0<=s/\s<=1200000:=by
      rw[hs];unfold Cn.low;split
      ·omega
      ·split <;> omega
     obtain⟨g,hg⟩:∃g,g=Od.g01 r:=⟨_,rfl⟩;rw[<- hs] at run3 HN HS hL1;rw[<- hg] at run5 HN HS;unfold Od.g01 at hg;rw[<- hs] at hg;have hO1:=HOn.out true w4;have hO0:=HOn.out false w4;rw[if_pos rfl] at hO1;rw[if_neg (by simp)] at hO0;clear tr3 be3 sz3 hst HO hL tr4 be4 sz4 tr5 be5 sz5 hs hM
     by_cases hsr:s=r
     ·rw[if_pos hsr] at hg;subst hsr hg;clear hO1
      go_wp2_with fail
      refine(hC _).mono ?_;rintro e w6 ⟨rfl,h4⟩;obtain rfl:=h4.symm;clear h4 hC
      go_wp2_with fail
      refine hL1.mono ?_;rintro e w6 ⟨rfl,h4⟩;obtain rfl:=h4.symm;clear h4 hL1
      go_wp2_with (at_builtin;first | refine Lib.wpList_append_run _ rfl _ _ _ _ rfl _ _ rfl rfl _ _ (run3 _) ?_ | refine Lib.wpList_append_run _ rfl _ _ _ _ rfl _ _ rfl rfl _ _ (run4 _) ?_)
      refine hO0.mono ?_;rintro e w6 ⟨rfl,h4⟩;obtain rfl:=h4.symm;clear h4 hO0
      go_wp2_with (at_builtin;first | refine Lib.wpList_append_run _ rfl _ _ _ _ rfl _ _ rfl rfl _ _ (run5 _) ?_)
      go_roundw
      case rel=>exact⟨_,_,_,j+1,_,rfl,rfl,rfl,by go_num,by omega,HS,HN⟩
      case measure=>simp[intOf];omega
     ·rw[if_neg hsr] at hg;have hsb:(s==r)=false:=by simp[hsr]
      subst hg;clear hO0
      go_wp2_with fail
      refine(hC _).mono ?_;rintro e w6 ⟨rfl,h4⟩;obtain rfl:=h4.symm;clear h4 hC
      go_wp2_with fail
      refine hL1.mono ?_;rintro e w6 ⟨rfl,h4⟩;obtain rfl:=h4.symm;clear h4 hL1
      go_wp2_with (at_builtin;first | refine Lib.wpList_append_run _ rfl _ _ _ _ rfl _ _ rfl rfl _ _ (run3 _) ?_ | refine Lib.wpList_append_run _ rfl _ _ _ _ rfl _ _ rfl rfl _ _ (run4 _) ?_)
      rw[show (s != r)=true by simp[hsr]];refine hO1.mono ?_;rintro e w6 ⟨rfl,h4⟩;obtain rfl:=h4.symm;clear h4 hO1
      go_wp2_with (at_builtin;first | refine Lib.wpList_append_run _ rfl _ _ _ _ rfl _ _ rfl rfl _ _ (run5 _) ?_)
      go_roundw
      case rel=>exact⟨_,_,_,j+1,_,rfl,rfl,rfl,by go_num,by omega,HS,HN⟩
      case measure=>simp[intOf];omega
   ·have e:j=t.length:=by omega
    have hk:q1=k:=by
     have:=HF.out;rw[e,List.take_length] at this;rw[HQ1.out];exact this
    subst hk;have HE:Hid (Od.Tri wr w.heap.size _ _ _ q1/\Below w.heap.size w wr):=⟨HO.out.1.base HB1.out.size,HB1.out.trans (HO.out.2.mono HB1.out.size)⟩;clear HO HF HQ1;go_wp2;refine bodyPost_ret (v:= .tuple #[va,vb,vc,.int .i64 0]) (by simp[results,results100,go_sem, *]) rfl ?_;exact⟨_,_,_,rfl,HE.out⟩
 ·have hQ:(q1,q2)=(([],[],[]),te):=by rw[HQ.out,if_pos he]
  obtain⟨rfl,rfl⟩:=Prod.mk.inj hQ;clear hQ;clear HQ own1 b1 hbd;go_wp2;refine bodyPost_ret (v:= .tuple #[.slice none 0 0,.slice none 0 0,.slice none 0 0,.int .i64 q2]) (by simp[results,results100,go_sem, *]) rfl ?_;exact⟨_,_,_,rfl,Od.Tri.start _ _,HB1.out⟩
end
section
open Go.RowKit
theorem Tryz.infoKey:(prog.info? 179).map (fun i=>(i.zero,i.size,i.bytes))=some (some (.agg #[.slice none 0 0,.slice none 0 0,.slice none 0 0]),3,72):=by kernel_rfl
namespace Od
abbrev V3:=Value×Value×Value
def kcells (ps:List V3):List Value:=ps.flatMap fun p=> [p.1,p.2.1,p.2.2]
def KO (w:World) (F:Nat) (v:Value) (ks:List K3):Prop:=∃ps:List V3,ps.length=ks.length/\w.ownsRow F 179 3 v ks.length (kcells ps)/\∀(j:Nat) p k,ps[j]?=some p->ks[j]?=some k->Tri w F p.1 p.2.1 p.2.2 k/\Apt v p.1/\Apt v p.2.1/\Apt v p.2.2
theorem KO.nil (w:World)(F:Nat):KO w F (.slice none 0 0) []:=⟨[],rfl,World.ownsRow_nil _ _ _ _,fun j p k h=>by simp at h⟩
theorem one_cell {F:Nat}{e:TypeId}{k:Nat}{w:World}{v:Value}{n:Nat}{xs:List Value}(h:w.ownsRow F e k v n xs):v.oneCell'=true:=by
 obtain⟨_,⟨rfl,_⟩|⟨g,cap,cur,rfl,_⟩⟩:=h <;> rfl
theorem zlc {w w':World}{F G:Nat}{e1 e2:TypeId}{k1 k2 n1 n2:Nat}{a b:Value}{xs ys:List Value}(h1:w.ownsRow F e1 k1 a n1 xs)(h2:w'.ownsRow G e2 k2 b n2 ys)(hG:w.heap.size<=G):Apt a b:=fun q hq hq2=>by
 have:=(h1.lt q hq).2;have:=(h2.lt q hq2).1;omega
theorem KO.push {w w1:World}{F:Nat}{v a b c:Value}{ks:List K3}{k:K3}(h:KO w F v ks)(hF:F<=w.heap.size)(hl:ks.length<=100000)(hb:Below w.heap.size w w1)(ht:Tri w1 w.heap.size a b c k) :
  ∃v' w',(∀ty,(Builtin.append_ #[114,114] ty #[v,.slice (some ⟨w1.heap.size,0,none⟩) 1 1]).run prog (w1.alloc (.cells #[a,b,c] 179))= .ok v' w')/\KO w' F v' (ks++ [k])/\Below F w w'/\w.heap.size<=w'.heap.size:=by
 obtain⟨ps,h1,h2,h3⟩:=h;have h2':=L.zao h2 hb qN;have hs:=hb.size
 obtain⟨ao,cap,w',run,own',kp,sz,be,nw⟩:=app (sl:=114) underlying114 Tryz.infoKey rfl (by decide) (by decide) h2' (Nat.le_trans hF hs) (by omega) [a,b,c] rfl (fun u hu=>by
  simp at hu;rcases hu with rfl | rfl | rfl
  ·exact one_cell ht.o1
  ·exact one_cell ht.o2
  ·exact one_cell ht.o3)
 have mv:∀(u:Value) (l:List Int) (G:Nat),Ow w1 G u l->Apt v u->Ow w' G u l/\Apt (.slice ao (ks.length+1) cap) u:=fun u l G hu ha=>⟨Al.held hu fun q hq hlt=>kp q hlt fun h=>ha q h hq,fun q x1 x2=>by
  rcases nw with h | ⟨p,h,hp⟩
  ·exact ha q (h.symm.trans x1) x2
  ·rw[h] at x1;have:=(hu.lt q x2).2;have:=Option.some.inj x1
   omega⟩
 have mt:∀(x y z:Value) (κ:K3) (G:Nat),Tri w1 G x y z κ->Apt v x->Apt v y->Apt v z->Tri w' G x y z κ/\Apt (.slice ao (ks.length+1) cap) x/\Apt (.slice ao (ks.length+1) cap) y/\Apt (.slice ao (ks.length+1) cap) z:=fun x y z κ G t p q r=>by
  obtain⟨u1,u2⟩:=mv x _ G t.o1 p;obtain⟨u3,u4⟩:=mv y _ G t.o2 q;obtain⟨u5,u6⟩:=mv z _ G t.o3 r;exact⟨⟨u1,u3,u5,t.a12,t.a13,t.a23⟩,u2,u4,u6⟩
 refine⟨_,w',run,⟨ps++ [(a,b,c)],by simp[h1],?_,fun j p κ hp hk=> ?_⟩,(hb.mono hF).trans be,Nat.le_trans hs sz⟩
 ·rw[List.length_append];unfold kcells;rw[List.flatMap_append];exact own'
 ·by_cases hj:j<ks.length
  ·rw[List.getElem?_append_left (by omega)] at hp;rw[List.getElem?_append_left hj] at hk;obtain⟨t,p1,p2,p3⟩:=h3 j p κ hp hk;exact mt _ _ _ _ _ (t.below hb) p1 p2 p3
  ·have hj2:j=ks.length:=by
    have:=(qL.1 hk).1;simp at this;omega
   subst hj2;rw[List.getElem?_append_right (by omega),h1] at hp;rw[List.getElem?_append_right qN] at hk;simp at hp hk;subst hp hk;obtain⟨t,p1,p2,p3⟩:=mt _ _ _ _ _ ht (zlc h2 ht.o1 qN) (zlc h2 ht.o2 qN) (zlc h2 ht.o3 qN);exact⟨t.base hF,p1,p2,p3⟩
theorem Ow.at {w X:World}{F:Nat}{v:Value}{l:List Int}(h:Ow w F v l)(hX:∀a:Addr,F<=a.block->X.cell? a=w.cell? a):L.Rd X v .i64 l :=
 zlq (fun b=>F<=b) h.rd (fun a ha=>hX a ha) fun b off c n e hn=>(h.lt b (by rw[e];rfl)).1
theorem KO.ks {w X:World}{F:Nat}{v:Value}{ks:List K3}(h:KO w F v ks)(hX:∀a:Addr,F<=a.block->X.cell? a=w.cell? a):Ks X v ks:=by
 obtain⟨ps,h1,h2,h3⟩:=h;obtain⟨ao,cap,rfl,hl⟩:=Al.lies h2;refine⟨ao,cap,rfl,fun hne=> ?_⟩;obtain⟨g,rfl,_,hc⟩:=hl (List.length_pos_iff.2 hne);have hg:=(h2.lt g rfl).1;refine⟨g,rfl,fun j k hk=> ?_⟩;have hj:=(qL.1 hk).1;obtain⟨p,hp⟩:∃p,ps[j]?=some p:=⟨ps[j]'(by omega),by simp⟩;obtain⟨e0,e1,e2⟩:=Nm.trip (fun x:V3=>(x.1,x.2.1,x.2.2)) ps j;rw[hp] at e0 e1 e2;obtain⟨t,_⟩:=h3 j p k hp hk;exact⟨p.1,p.2.1,p.2.2,(hX _ hg).trans (hc _ _ e0),(hX _ hg).trans (hc _ _ e1),(hX _ hg).trans (hc _ _ e2),t.o1.at hX,t.o2.at hX,t.o3.at hX⟩
theorem Ks.move {w X:World}{v:Value}{ks:List K3}(h:Ks w v ks)(hX:∀a:Addr,a.block<w.heap.size->X.cell? a=w.cell? a):Ks X v ks:=by
 obtain⟨ao,cap,rfl,hl⟩:=h;refine⟨ao,cap,rfl,fun hne=> ?_⟩;obtain⟨g,rfl,hc⟩:=hl hne;refine⟨g,rfl,fun j k hk=> ?_⟩;obtain⟨s1,s2,s3,a1,a2,a3,r1,r2,r3⟩:=hc j k hk
 have mv:∀(s:Value) (l:List Int),L.Rd w s .i64 l->L.Rd X s .i64 l:=fun s l r=>by
  obtain⟨ao,cap,rfl,hz,hcell⟩:=r;refine⟨ao,cap,rfl,hz,fun hne=> ?_⟩;obtain⟨b,off,rfl,hcl⟩:=hcell hne;exact⟨b,off,rfl,fun j z hj=>(hX _ (L.block_lt (hcl j z hj))).trans (hcl j z hj)⟩
 exact⟨s1,s2,s3,(hX _ (L.block_lt a1)).trans a1,(hX _ (L.block_lt a2)).trans a2,(hX _ (L.block_lt a3)).trans a3,mv _ _ r1,mv _ _ r2,mv _ _ r3⟩
end Od
theorem zhn (w:World)(ao:Option Addr)(n cap:Nat):Calls prog 52 #[.slice ao n cap] w fun e w'=>e= .returned (.func (.func 102) #[] #[.pointer (some ⟨w.heap.size,0,none⟩)])/\w'=w.alloc (.cells #[.slice ao n cap] 114):=by
 go_enter func52,ntmps52
 go_wp2;go_ret
 exact⟨rfl,rfl⟩
end
section
open Go.RowKit
namespace Od
theorem zp4 {w:World}{b:Nat}(u v:Value){a:Addr}(h:a.block≠b):((w.setCell ⟨b,0,none⟩ u).setCell ⟨b,1,none⟩ v).cell? a=w.cell? a:=by
 have e:((w.setCell ⟨b,0,none⟩ u).setCell ⟨b,1,none⟩ v).heap[a.block]?=w.heap[a.block]?:=by
  rw[heap_setCell_other _ ⟨b,1,none⟩ a.block _ h,heap_setCell_other _ ⟨b,0,none⟩ a.block _ h]
 simp only[World.cell?,e]
theorem zoa (l:List (List Int))(t:List Int):keysL (l++ [t])=keysL l++ [(keyF t).1]:=by simp[keysL]
end Od
theorem zin (w:World)(v:Value)(l:List (List Int))(R:Ws.Rd w v l)(hl:∀c∈l,c.length<=140737488355328)(hn:l.length<=100) :
  Calls prog 50 #[v] w fun e w'=>∃v',e= .returned (.tuple #[v',.agg #[.int .i64 (Od.badN 0 l).1,.int .i64 (Od.badN 0 l).2]])/\((Od.badN 0 l).1=0->Od.Ks w' v' (Od.keysL l))/\Below w.heap.size w w':=by
 obtain⟨ao,cap,rfl,hz,hc⟩:=R;obtain⟨W0,hW0⟩:∃W0,W0=w.alloc (.cells #[.int .i64 0,.int .i64 0] 38):=⟨_,rfl⟩;have hb0:Below w.heap.size w W0:=by rw[hW0];exact(qR w).alloc qN _
 have hx0:W0.heap[w.heap.size]?=some (.cells #[.int .i64 0,.int .i64 0] 38):=by rw[hW0];exact heap_alloc_new w _
 have hs0:W0.heap.size=w.heap.size+1:=by rw[hW0];simp
 have HE:Hid (∀(j:Nat) t W,Below W0.heap.size W0 W->l[j]?=some t->∃b off u,ao=some ⟨b,off,none⟩/\W.cell? ⟨b,off+j,none⟩=some u/\L.Rd W u .i32 t/\t.length<=140737488355328):=fun j t W hW hj=>by
  obtain⟨b,off,rfl,hcell⟩:=hc (by intro h;subst h;simp at hj);obtain⟨u,h1,h2⟩:=hcell j t hj;have hb:=hb0.trans (hW.mono (by omega));exact⟨b,off,u,rfl,(hb.cell (p:=⟨b,off+j,none⟩) (L.block_lt h1)).trans h1,h2.below hb qN,hl t (List.mem_of_getElem? hj)⟩
 have HX:Hid (Below w.heap.size w W0/\W0.heap[w.heap.size]?=some (.cells #[.int .i64 0,.int .i64 0] 38)/\W0.heap.size=w.heap.size+1):=⟨hb0,hx0,hs0⟩;obtain⟨q,hq⟩:∃q,q=Od.badN 0 l:=⟨_,rfl⟩;have HQ:=qH hq;rw[<- hq];obtain⟨q1,q2⟩:=q;clear hc hz hl hb0 hx0 hs0 hq
 go_enter func50,ntmps50
 go_wp2;rw[<- hW0]
 clear hW0
 go_loopw [4,13] (fun v4 vi wr=>∃(vk:Value) (j:Nat),v4=vk/\vi= .int .i64 j/\j<=l.length/\Hid (∀i u,i<j->l[i]?=some u->(Od.keyF u).2=0)/\Hid (Od.KO wr W0.heap.size vk (Od.keysL (l.take j))/\Below W0.heap.size W0 wr)) (fun _ vi _=>l.length - (intOf vi).toNat)
 case atStart=>exact⟨_,0,rfl,rfl,Nat.zero_le _,fun i u hi=>by omega,Od.KO.nil _ _,qR _⟩
 case round =>
  obtain⟨vk,j,hvk,rfl,hj,HG,HO⟩:=hrel;obtain rfl:=hvk.symm;clear hvk;have hxw:=K.zae HX.out.2.1 HO.out.2
  by_cases hlt:j<l.length
  ·obtain⟨t,ht⟩:∃t,l[j]?=some t:=⟨l[j],by simp[hlt]⟩;obtain⟨b,off,u,rfl,cu,Ru,hut⟩:=HE.out j t wr HO.out.2 ht;have hK:=zqy wr u t Ru hut;have hkl:(Od.keysL (l.take j)).length<=100:=by unfold Od.keysL;rw[List.length_map,List.length_take];omega
   have hnx:Od.keysL (l.take (j+1))=Od.keysL (l.take j)++ [(Od.keyF t).1]:=by rw[List.take_add_one,ht];exact Od.zoa _ _
   have HKF:Hid ((Od.keyF t).2=0∨Od.badN 0 l=((Od.keyF t).2,(j:Int))):=by
    show _∨_
    by_cases h:(Od.keyF t).2=0
    ·exact .inl h
    ·have:=Od.zvs l 0 j t HG.out ht h;rw[Nat.zero_add] at this;exact .inr this
   have HT:=qH ht;have HNx:=qH hnx;obtain⟨⟨k,ke⟩,hk⟩:∃k,k=Od.keyF t:=⟨_,rfl⟩;have HKe:=qH hk.symm;rw[<- hk] at hK HKF HNx;simp only at hK HKF HNx;have hlk:=lt_of_block hxw;clear hnx ht hk Ru hut
   go_wp2_with fail
   refine hK.mono ?_;clear hK;rintro e w6 ⟨a,b',c,rfl,t6,b6⟩;obtain⟨xa,ya,rfl,_⟩:=Al.lies t6.o1;obtain⟨xb,yb,rfl,_⟩:=Al.lies t6.o2;obtain⟨xd,yd,rfl,_⟩:=Al.lies t6.o3;have hx6:=K.zae hxw b6;obtain⟨y0,y1,g0,g1⟩:=K.box2 hx6;have hl6:=lt_of_block hx6
   by_cases he:ke=0
   ·subst he;obtain⟨v7,w7,run7,ko7,be7,sz7⟩:=HO.out.1.push HO.out.2.size (by omega) b6 t6;have HN:Hid (Od.KO w7 W0.heap.size v7 (Od.keysL (l.take (j+1)))/\Below W0.heap.size W0 w7):=⟨by rw[HNx.out];exact ko7,HO.out.2.trans be7⟩
    have HG2:Hid (∀i u,i<j+1->l[i]?=some u->(Od.keyF u).2=0):=fun i u hi hu=>by
     by_cases h:i<j
     ·exact HG.out i u h hu
     ·have:i=j:=by omega
      subst this;rw[HT.out] at hu;cases hu;rw[HKe.out]
    clear ko7 be7 sz7 t6 b6 HO HG HKF HNx y0 y1 g0 g1 hx6 hxw
    go_wp2_with (at_builtin;first | refine Lib.wpList_append_run _ rfl _ _ _ _ rfl _ _ rfl rfl _ _ (run7 _) ?_)
    go_roundw
    case rel=>exact⟨_,j+1,rfl,by go_num,by omega,HG2,HN⟩
    case measure=>simp[intOf];omega
   ·have hqq:(q1,q2)=(ke,(j:Int)):=by
     rcases HKF.out with h | h
     ·exact absurd h he
     ·rw[HQ.out,h]
    obtain⟨rfl,rfl⟩:=Prod.mk.inj hqq;have HB6:=qH <| HX.out.1.trans ((HO.out.2.mono (by have:=HX.out.2.2;omega)).trans (b6.mono (by omega)));clear HO HG HKF HNx t6 b6 hqq HQ hx6 hxw;go_wp2;refine bodyPost_ret (v:= .tuple #[.slice none 0 0,.agg #[.int .i64 q1,.int .i64 j]]) (by simp[results,results50,go_sem, *]) rfl ?_;exact⟨_,rfl,fun h=>absurd h he,(HB6.out.setCell (p:=⟨w.heap.size,0,none⟩) qN _).setCell (p:=⟨w.heap.size,1,none⟩) qN _⟩
  ·have e:j=l.length:=by omega
   have hqq:(q1,q2)=(0,0):=by
    rw[HQ.out];refine Od.zmk l 0 fun u hu=> ?_
    obtain⟨i,hi,rfl⟩:=List.getElem_of_mem hu;exact HG.out i _ (by omega) (by simp[hi])
   obtain⟨rfl,rfl⟩:=Prod.mk.inj hqq
   have HK:Hid (Od.KO wr W0.heap.size vk (Od.keysL l)):=by
    have h:=HO.out.1;rw[e,List.take_length] at h;exact h
   have HB6:=qH <| HX.out.1.trans (HO.out.2.mono (by have:=HX.out.2.2;omega));obtain⟨y0,y1,g0,g1⟩:=K.box2 hxw;have hl6:=lt_of_block hxw
   obtain⟨ko,kc,hvk⟩:∃ko kc,vk= .slice ko (Od.keysL l).length kc:=by
    obtain⟨ps,h1,h2,h3⟩:=HK.out;obtain⟨ao,cap,h,_⟩:=Al.lies h2;exact⟨ao,cap,h⟩
   have HF:Hid (∀X,(∀a:Addr,a.block≠w.heap.size->X.cell? a=wr.cell? a)->Od.Ks X vk (Od.keysL l)):=fun X hX=>HK.out.ks fun a ha=>hX a (by have:=HX.out.2.2;omega)
   clear HO HG HQ hqq hxw HK;go_wp2;refine bodyPost_ret (v:= .tuple #[vk,.agg #[.int .i64 0,.int .i64 0]]) (by simp[results,results50,go_sem, *]) rfl ?_;exact⟨_,rfl,HF.out _ fun a ha=>Od.zp4 _ _ ha,(HB6.out.setCell (p:=⟨w.heap.size,0,none⟩) qN _).setCell (p:=⟨w.heap.size,1,none⟩) qN _⟩
namespace Od
theorem zue (l:List (List Int)):∀k∈keysL l,k.1.length<=4000/\k.2.1.length<=4000/\k.2.2.length<=4000:=fun k hk=>by
 obtain⟨t,_,rfl⟩:=List.mem_map.1 hk;exact zwy t (Nm.zcf t)
end Od
end
namespace Od
variable [Ck]
open Go.Sort
theorem zch {B:List Int}(h:Srt B){i j:Nat}(hij:i<=j)(hj:j<B.length):cls (B[i]'(by omega))<=cls B[j]:=by
 by_cases e:i=j
 ·subst e;exact Int.le_refl _
 ·exact List.pairwise_iff_getElem.1 h i j (by omega) hj (by omega)
theorem zc7 {B:List Int}{k:Nat}{c:Int}(h:Srt B)(hk:k<=B.length)(h1:∀(h:0<k),cls (B[k - 1]'(by omega))<c):∀u∈B.take k,cls u<c:=by
 intro u hu;obtain⟨i,hi,rfl⟩:=List.getElem_of_mem hu;rw[List.length_take] at hi;rw[List.getElem_take];exact Int.lt_of_le_of_lt (zch h (j:=k - 1) (by omega) (by omega)) (h1 (by omega))
theorem zbb {B:List Int}{k:Nat}{c:Int}(h:Srt B)(hk:k<=B.length)(h1:∀(h:0<k),cls (B[k - 1]'(by omega))<=c):∀u∈B.take k,cls u<=c:=by
 intro u hu;obtain⟨i,hi,rfl⟩:=List.getElem_of_mem hu;rw[List.length_take] at hi;rw[List.getElem_take];exact Int.le_trans (zch h (j:=k - 1) (by omega) (by omega)) (h1 (by omega))
theorem zbc {B:List Int}{k:Nat}{c:Int}(h:Srt B)(h1:∀(h:k<B.length),c<=cls B[k]):∀u∈B.drop k,c<=cls u:=by
 intro u hu;obtain⟨i,hi,rfl⟩:=List.getElem_of_mem hu;rw[List.length_drop] at hi;rw[List.getElem_drop];exact Int.le_trans (h1 (by omega)) (zch h (by omega) (by omega))
theorem zc8 {B:List Int}{k:Nat}{c:Int}(h:Srt B)(h1:∀(h:k<B.length),c<cls B[k]):∀u∈B.drop k,c<cls u:=by
 intro u hu;obtain⟨i,hi,rfl⟩:=List.getElem_of_mem hu;rw[List.length_drop] at hi;rw[List.getElem_drop];exact Int.lt_of_lt_of_le (h1 (by omega)) (zch h (by omega) (by omega))
theorem zkd {B:List Int}{x:Int}{k:Nat}(h:Srt B)(h1:∀u∈B.take k,cls u<cls x)(h2:∀u∈B.drop k,cls x<=cls u):Srt (B.take k++x::B.drop k)/\Eqv (x::B) (B.take k++x::B.drop k):=by
 rw[<- List.take_append_drop k B] at h;obtain⟨a,b,c⟩:=h.parts;refine⟨Srt.app a (List.pairwise_cons.2 ⟨h2,b⟩) fun u hu v hv=> ?_,?_⟩
 ·rcases List.mem_cons.1 hv with rfl | hv
  ·have:=h1 u hu;omega
  ·exact c u hu v hv
 ·have e:x::B= [x]++B.take k++B.drop k:=by simp
  have e2:B.take k++x::B.drop k=B.take k++ [x]++B.drop k:=by simp
  rw[e,e2];exact(Eqv.rot (U:= [x]) fun u hu y hy=>by simp at hu;subst hu;exact h1 y hy).app (Eqv.refl _)
theorem four {A B:List Int}{s e:Nat}(hA:Srt A)(hB:Srt B)(h1:∀u∈A.take s,∀v∈B.drop e,cls u<=cls v)(h2:∀u∈A.drop s,∀v∈B.take e,cls v<cls u){S1 S2:List Int}(k1:Srt S1)(k2:Srt S2)(q1:Eqv (A.take s++B.take e) S1)(q2:Eqv (A.drop s++B.drop e) S2):Srt (S1++S2)/\Eqv (A++B) (S1++S2):=by
 rw[<- List.take_append_drop s A] at hA;rw[<- List.take_append_drop e B] at hB;obtain⟨_,_,ca⟩:=hA.parts;obtain⟨_,_,cb⟩:=hB.parts;refine⟨Srt.app k1 k2 fun u hu v hv=> ?_,?_⟩
 ·have hu':=q1.symm.mem hu;have hv':=q2.symm.mem hv;rcases List.mem_append.1 hu' with a | a <;> rcases List.mem_append.1 hv' with b | b
  ·exact ca u a v b
  ·exact h1 u a v b
  ·have:=h2 v b u a;omega
  ·exact cb u a v b
 ·have e0:A++B=A.take s++((A.drop s++B.take e)++B.drop e):=by
   rw[List.append_assoc,List.take_append_drop e B,<- List.append_assoc,List.take_append_drop s A]
  rw[e0];have h3:Eqv (A.take s++((A.drop s++B.take e)++B.drop e)) (A.take s++((B.take e++A.drop s)++B.drop e)):=(Eqv.refl _).app ((Eqv.rot h2).app (Eqv.refl _));refine h3.trans ?_;have e1:A.take s++((B.take e++A.drop s)++B.drop e)=(A.take s++B.take e)++(A.drop s++B.drop e):=by simp
  rw[e1];exact q1.app q2
end Od
