/-
 A letter and the marks behind it, joined; a text put together. Plain lists.
-/
import Derived.Test.YtamfgmaipajodaaGreatDoorOdP
import Derived.Test.YtamfgmaipajodaaGreatDoorNmSym
import Derived.Test.YtamfgmaipajodaaGreatDoorNmApart
import Derived.Test.YtamfgmaipajodaaGreatDoorCnMath
import Derived.Test.YtamfgmaipajodaaGreatDoorTpAlive
import Derived.Test.YtamfgmaipajodaaGreatDoorAlApp
import Derived.Test.YtamfgmaipajodaaGreatDoorNmSymP
import Derived.Test.YtamfgmaipajodaaGreatDoorRRd3
import Derived.MapKept
import Derived.ChangeMaps4
set_option maxHeartbeats 0
set_option maxRecDepth 20000
set_option linter.unusedSimpArgs false
set_option linter.unusedVariables false
namespace Go.Proofs.YtamfgmaipajodaaGreatDoor.Nm
def jw (a b:Int):Int:=match join tab a b with | some p=>p.2.2 | none=> -1
def js (s:Int×List Int×Int) (m:Int):Int×List Int×Int:=if 0<=jw s.1 m/\s.2.2<cls m then (jw s.1 m,s.2.1,s.2.2) else (s.1,s.2.1++ [m],cls m)
def jn (h:Int) (ms:List Int):List Int:=(ms.foldl js (h,[],0)).1::(ms.foldl js (h,[],0)).2.1
def togN:Nat->List Int->List Int
 | 0,_=> []
 | _+1,[]=> []
 | n+1,h::t=>if isM h then h::togN n t else jn h (t.takeWhile isM)++togN n (t.dropWhile isM)
def tog (l:List Int):List Int:=togN l.length l
theorem zk2:∀(r:List Int) (x y:Int),y∈insV r x->y=x∨y∈r
 | [],x,y,h=>by simp[insV] at h;exact .inl h
 | z::r,x,y,h=>by
  rw[insV] at h;split at h
  ·rcases List.mem_cons.1 h with rfl | h
   ·exact .inr List.mem_cons_self
   ·exact(zk2 r x y h).imp id (List.mem_cons_of_mem _)
  ·rcases List.mem_cons.1 h with rfl | h
   ·exact .inl rfl
   ·exact .inr h
theorem zse {out:List Int}{x y:Int}(h:y∈insR out x):y=x∨y∈out:=by
 unfold insR at h;rw[List.mem_reverse] at h;exact(zk2 _ _ _ h).imp id List.mem_reverse.1
theorem zk6:∀(M out:List Int) (y:Int),y∈M.foldl insR out->y∈M∨y∈out
 | [],out,y,h=> .inr h
 | m::M,out,y,h=>by
  rcases zk6 M _ y h with h | h
  ·exact .inl (List.mem_cons_of_mem _ h)
  ·rcases zse h with rfl | h
   ·exact .inl List.mem_cons_self
   ·exact .inr h
theorem zp7:∀(n:Nat) (r:Int),(0<=r/\r<=1114111)->∀y∈full n r,0<=y/\y<=1114111
 | 0,r,h,y,hy=>by simp[full] at hy;omega
 | n+1,r,h,y,hy=>by
  rw[full] at hy;cases hl:look tab r with
  | none=>rw[hl] at hy;simp at hy;omega
  | some p =>
   rw[hl] at hy;have hb:=zob p (zdp hl).1;rcases List.mem_append.1 hy with hy | hy
   ·exact zp7 n p.1 ⟨hb.1,hb.2.1⟩ y hy
   ·simp at hy;omega
theorem zs4 (l:List Int):∀y∈(apartF l).1,0<=y/\y<=1114111:=by
 intro y hy;unfold apartF at hy;split at hy
 ·simp at hy
 ·rename_i h0
  split at hy
  ·simp at hy
  ·rcases zk6 _ _ y hy with h | h
   ·obtain⟨r,hr,hy⟩:=List.mem_flatMap.1 h;exact zp7 2 r ((zix (by simpa using h0)).2 r hr) y hy
   ·simp at h
def togF (l:List Int):List Int×Int:=if (apartF l).2≠0 then ([],(apartF l).2) else (tog (apartF l).1,0)
end Go.Proofs.YtamfgmaipajodaaGreatDoor.Nm
namespace Go.Proofs.YtamfgmaipajodaaGreatDoor
open Go.RowKit
theorem zhn (w:World)(v:Value)(l:List Int)(R:L.Rd w v .i32 l)(hl:l.length<=140737488355328) :
  Calls Tryz.prog 20 #[v] w fun e w'=>∃a b c,e= .returned (.tuple #[a,b,c,.int .i64 (Od.keyF l).2])/\Od.Tri w' w.heap.size a b c (Od.keyF l).1/\Below w.heap.size w w':=by
 have HT:=zji w v l R hl;obtain⟨q,hq⟩:∃q,q=Od.keyF l:=⟨_,rfl⟩;have HQ:Hid (q=Od.keyF l):=hq;rw[<- hq];obtain⟨ao,cap,rfl,_,_⟩:=R;clear hq;obtain⟨q1,q2⟩:=q;have hn:=Nm.zih l;have hbd:=Nm.zs4 l;unfold Od.keyF at HQ;obtain⟨⟨t,te⟩,ht⟩:∃p,p=Nm.apartF l:=⟨_,rfl⟩;rw[<- ht] at HT HQ hn hbd;simp only at HT HQ hn hbd;clear ht;have HCl:Hid (∀r X,Calls Tryz.prog 49 #[.int .i32 r] X fun e w'=>e= .returned (.int .i64 (Nm.cls r))/\w'=X):=fun r X=>zcz r X
 have HLw:Hid (∀r X,0<=r/\r<=1114111->Calls Tryz.prog 50 #[.int .i32 r] X fun e w'=>e= .returned (.int .i32 (Cn.low r))/\w'=X):=fun r X h=>zc4 r (by omega) (by omega) X
 have HOn:Hid (∀b X,Calls Tryz.prog 51 #[.bool b] X fun e w'=>e= .returned (.int .i64 (if b=true then 1 else 0))/\w'=X):=fun b X=>zo8 b X
 go_enter Tryz.func20,Tryz.ntmps20
 go_wp2_with fail
 refine HT.mono ?_;clear HT;rintro e w1 ⟨vt,rfl,own1,b1⟩;obtain⟨xo,xc,rfl,hxc,hxm⟩:=K.zdj own1;have HB1:Hid (Below w.heap.size w w1):=b1
 by_cases he:te=0
 ·have hQ:(q1,q2)=(Od.keyL t,0):=by rw[HQ.out,if_neg (by simp[he])]
  have h1:=(Prod.mk.inj hQ).1;obtain rfl:=(Prod.mk.inj hQ).2;subst he;have HQ1:Hid (q1=Od.keyL t):=h1;have HS1:Hid (L.Rd w1 (.slice xo t.length xc) .i32 t):=K.zt2 own1;have HBd:Hid (∀r∈t,0<=r/\r<=1114111):=hbd;clear HQ hQ own1 h1 hbd b1;go_wp2
  go_loopw [2,3,4,20] (fun a b c vi wr=>∃(va vb vc:Value) (j:Nat) (k:Od.K3),a=va/\b=vb/\c=vc/\vi= .int .i64 j/\j<=t.length/\Hid ((t.take j).foldl Od.kstep ([],[],[])=k)/\Hid (Od.Tri wr w1.heap.size va vb vc k/\Below w1.heap.size w1 wr)) (fun _ _ _ vi _=>t.length - (intOf vi).toNat)
  case atStart=>exact⟨_,_,_,0,([],[],[]),rfl,rfl,rfl,rfl,Nat.zero_le _,rfl,Od.Tri.start _ _,qR _⟩
  case round =>
   obtain⟨va,vb,vc,j,k,ha,hb,hc,rfl,hj,HF,HO⟩:=hrel;obtain rfl:=ha.symm;obtain rfl:=hb.symm;obtain rfl:=hc.symm;clear ha hb hc
   by_cases hlt:j<t.length
   ·obtain⟨r,hr⟩:∃r,t[j]?=some r:=⟨t[j],by simp[hlt]⟩;obtain⟨_,_,e',_,hc⟩:=HS1.out;obtain⟨rfl,-,rfl⟩:=Value.slice.inj e';obtain⟨b,off,rfl,hcell⟩:=hc (by intro h;subst h;simp at hlt);have c0:=hcell j r hr;rw[<- HO.out.2.cell (p:=⟨b,off+j,none⟩) (L.block_lt c0)] at c0;have hC:=HCl.out r;have hL:=HLw.out r;have hrb:=HBd.out r (List.mem_of_getElem? hr);have hcp:=Nm.zj6 r;have hln:=Od.ze5 (t.take j) ([],[],[]);rw[HF.out,List.length_take] at hln;simp only[List.length_nil] at hln;have hst:(t.take (j+1)).foldl Od.kstep ([],[],[])=Od.kstep k r:=by rw[List.take_add_one,hr,List.foldl_append,HF.out];rfl
    have hws:=HO.out.2.size;unfold Od.kstep at hst;clear hc hcell e' hr HF
    by_cases hM:0<Nm.cls r
    ·rw[if_pos hM] at hst;obtain⟨v3,w3,run3,tr3,be3,sz3⟩:=HO.out.1.push2 hws (by omega) r;have HN:Hid (Od.Tri w3 w1.heap.size _ v3 _ (k.1,k.2.1++ [r],k.2.2)/\Below w1.heap.size w1 w3):=⟨tr3,HO.out.2.trans be3⟩;have HS:Hid ((t.take (j+1)).foldl Od.kstep ([],[],[])=(k.1,k.2.1++ [r],k.2.2)):=hst;clear tr3 be3 sz3 hst HO hL
     go_wp2_with fail
     refine(hC _).mono ?_;rintro e w4 ⟨rfl,h4⟩;obtain rfl:=h4.symm;clear h4
     go_wp2_with (at_builtin;first | refine Lib.wpList_append_run _ rfl _ _ _ _ rfl _ _ rfl rfl _ _ (run3 _) ?_)
     go_roundw
     case rel=>exact⟨_,_,_,j+1,_,rfl,rfl,rfl,by go_num,by omega,HS,HN⟩
     case measure=>simp[intOf];omega
    ·rw[if_neg hM] at hst;have hz:Nm.cls r=0:=by omega
     rw[hz] at hC;obtain⟨v3,w3,run3,tr3,be3,sz3⟩:=HO.out.1.push1 hws (by omega) (Cn.low r);obtain⟨v4,w4,run4,tr4,be4,sz4⟩:=tr3.push2 (Nat.le_trans hws sz3) (by show k.2.1.length<=_;omega) 0;obtain⟨v5,w5,run5,tr5,be5,sz5⟩:=tr4.push3 (Nat.le_trans (Nat.le_trans hws sz3) sz4) (by show k.2.2.length<=_;omega) (Od.g01 r);have HN:Hid (Od.Tri w5 w1.heap.size v3 v4 v5 (k.1++ [Cn.low r],k.2.1++ [0],k.2.2++ [Od.g01 r])/\Below w1.heap.size w1 w5):=⟨tr5,HO.out.2.trans (be3.trans (be4.trans be5))⟩;have HS:Hid ((t.take (j+1)).foldl Od.kstep ([],[],[])=(k.1++ [Cn.low r],k.2.1++ [0],k.2.2++ [Od.g01 r])):=hst;have hL1:=hL wr hrb;obtain⟨s,hs⟩:∃s,s=Cn.low r:=⟨_,rfl⟩
     have hs3:0<=s/\s<=1200000:=by
      rw[hs];unfold Cn.low;split
      ·omega
      ·split <;> omega
     obtain⟨g,hg⟩:∃g,g=Od.g01 r:=⟨_,rfl⟩;rw[<- hs] at run3 HN HS hL1;rw[<- hg] at run5 HN HS;unfold Od.g01 at hg;rw[<- hs] at hg;have hO1:=HOn.out true w4;have hO0:=HOn.out false w4;rw[if_pos rfl] at hO1;rw[if_neg (by simp)] at hO0;clear tr3 be3 sz3 hst HO hL tr4 be4 sz4 tr5 be5 sz5 hs hM
     by_cases hsr:s=r
     ·rw[if_pos hsr] at hg;subst hsr hg;clear hO1
      go_wp2_with fail
      refine(hC _).mono ?_;rintro e w6 ⟨rfl,h4⟩;obtain rfl:=h4.symm;clear h4 hC
      go_wp2_with fail
      refine hL1.mono ?_;rintro e w6 ⟨rfl,h4⟩;obtain rfl:=h4.symm;clear h4 hL1
      go_wp2_with (at_builtin;first | refine Lib.wpList_append_run _ rfl _ _ _ _ rfl _ _ rfl rfl _ _ (run3 _) ?_ | refine Lib.wpList_append_run _ rfl _ _ _ _ rfl _ _ rfl rfl _ _ (run4 _) ?_)
      refine hO0.mono ?_;rintro e w6 ⟨rfl,h4⟩;obtain rfl:=h4.symm;clear h4 hO0
      go_wp2_with (at_builtin;first | refine Lib.wpList_append_run _ rfl _ _ _ _ rfl _ _ rfl rfl _ _ (run5 _) ?_)
      go_roundw
      case rel=>exact⟨_,_,_,j+1,_,rfl,rfl,rfl,by go_num,by omega,HS,HN⟩
      case measure=>simp[intOf];omega
     ·rw[if_neg hsr] at hg;have hsb:(s==r)=false:=by simp[hsr]
      subst hg;clear hO0
      go_wp2_with fail
      refine(hC _).mono ?_;rintro e w6 ⟨rfl,h4⟩;obtain rfl:=h4.symm;clear h4 hC
      go_wp2_with fail
      refine hL1.mono ?_;rintro e w6 ⟨rfl,h4⟩;obtain rfl:=h4.symm;clear h4 hL1
      go_wp2_with (at_builtin;first | refine Lib.wpList_append_run _ rfl _ _ _ _ rfl _ _ rfl rfl _ _ (run3 _) ?_ | refine Lib.wpList_append_run _ rfl _ _ _ _ rfl _ _ rfl rfl _ _ (run4 _) ?_)
      rw[show (s != r)=true by simp[hsr]];refine hO1.mono ?_;rintro e w6 ⟨rfl,h4⟩;obtain rfl:=h4.symm;clear h4 hO1
      go_wp2_with (at_builtin;first | refine Lib.wpList_append_run _ rfl _ _ _ _ rfl _ _ rfl rfl _ _ (run5 _) ?_)
      go_roundw
      case rel=>exact⟨_,_,_,j+1,_,rfl,rfl,rfl,by go_num,by omega,HS,HN⟩
      case measure=>simp[intOf];omega
   ·have e:j=t.length:=by omega
    have hk:q1=k:=by
     have:=HF.out;rw[e,List.take_length] at this;rw[HQ1.out];exact this
    subst hk;have HE:Hid (Od.Tri wr w.heap.size _ _ _ q1/\Below w.heap.size w wr):=⟨HO.out.1.base HB1.out.size,HB1.out.trans (HO.out.2.mono HB1.out.size)⟩;clear HO HF HQ1;go_wp2;refine bodyPost_ret (v:= .tuple #[va,vb,vc,.int .i64 0]) (by simp[results,Tryz.results20,go_sem, *]) rfl ?_;exact⟨_,_,_,rfl,HE.out⟩
 ·have hQ:(q1,q2)=(([],[],[]),te):=by rw[HQ.out,if_pos he]
  obtain⟨rfl,rfl⟩:=Prod.mk.inj hQ;clear hQ;clear HQ own1 b1 hbd;go_wp2;refine bodyPost_ret (v:= .tuple #[.slice none 0 0,.slice none 0 0,.slice none 0 0,.int .i64 q2]) (by simp[results,Tryz.results20,go_sem, *]) rfl ?_;exact⟨_,_,_,rfl,Od.Tri.start _ _,HB1.out⟩
end Go.Proofs.YtamfgmaipajodaaGreatDoor
namespace Go.Proofs.YtamfgmaipajodaaGreatDoor
open Go.RowKit Go.Lib
theorem zhe (hK:T.ClassOk)(w:World)(v:Value)(A:List S.Sp)(R:S.Rd w v A)(hf:S.Fit A)(ts:ByteArray)(hts:ts.size<=1099511627776) :
  Calls Tryz.prog 6 #[v,.string ts] w fun e w'=>e= .returned (.bool true)/\Below w.heap.size w w':=by
 have HDe:Hid (∀X,Calls Tryz.prog 10 #[.string ts] X fun e w'=>∃xo xc,e= .returned (.slice xo (M.rn ts).length xc)/\L.Rd w' (.slice xo (M.rn ts).length xc) .i32 (M.rn ts)/\(M.rn ts).length<=xc/\Below X.heap.size X w'):=fun X=>Tp.decode ts hts X
 have hrl:(M.rn ts).length<=140737488355328:=by have:=M.zoo ts;omega
 generalize M.rn ts=t at HDe hrl;have HR:Hid (∀X,Below w.heap.size w X->S.Rd X v A):=fun X hX=>R.below hX qN
 obtain⟨va,vc,rfl⟩:=R.len;obtain⟨ze,hze⟩:∃ze,ze=Wd.splitE A t:=⟨_,rfl⟩;have HZ:Hid (ze=Wd.splitE A t):=hze;have hA:=zly hK w;clear R hze
 go_enter Tryz.func6,Tryz.ntmps6
 go_wp2_with fail
 refine hA.mono ?_;clear hA;rintro e w1 ⟨rfl,b1⟩;have HB1:Hid (Below w.heap.size w w1):=b1;have h2:=HDe.out w1;clear b1 HDe
 go_wp2_with fail
 refine h2.mono ?_;clear h2;rintro e w2 ⟨xo,xc,rfl,Rt,hxc,b2⟩;have HB2:Hid (Below w.heap.size w w2):=HB1.out.trans (b2.mono HB1.out.size);have HRt:Hid (L.Rd w2 (.slice xo t.length xc) .i32 t):=Rt;have h3:=zn6 w2 _ A (HR.out w2 HB2.out) hf xo xc t Rt hrl;rw[<- HZ.out] at h3;clear b2 Rt HB1
 go_wp2_with fail
 refine h3.mono ?_;clear h3;rintro e w3 ⟨v3,rfl,R3,b3⟩;obtain⟨p3,d3,hv,_⟩:=id R3;subst hv;have HB3:Hid (Below w.heap.size w w3):=HB2.out.trans (b3.mono HB2.out.size)
 by_cases hz:ze=0
 ·have hz':Wd.splitE A t=0:=by rw[<- HZ.out];exact hz
  have htx:K.textE t=0:=by
   unfold Wd.splitE at hz';split at hz'
   ·exact hz'
   ·rename_i h;exact absurd hz' h
  have hti:Wd.titleF A t=Wd.title (S.memb A) false t:=by unfold Wd.titleF;rw[if_pos hz']
  obtain⟨k1,k2,k3⟩:=Tp.zpr (S.memb A) t htx;rw[hti] at R3;have htl:(Wd.title (S.memb A) false t).length=t.length:=Wd.zde _ _ _;have ln:=Od.zup t (Nm.zih t);have h4:=zhn w3 _ t (HRt.out.below b3 qN) hrl
  have H5:Hid (∀X,Below w3.heap.size w3 X->Calls Tryz.prog 20 #[.slice p3 (Wd.titleF A t).length d3] X fun e w'=>∃a b c,e= .returned (.tuple #[a,b,c,.int .i64 (Od.keyF t).2])/\Od.Tri w' X.heap.size a b c (Od.keyF (Wd.title (S.memb A) false t)).1/\Below X.heap.size X w'):=fun X hX=>by
   have h:=zhn X _ (Wd.title (S.memb A) false t) (R3.below hX qN) (by rw[htl];exact hrl);rw[k1] at h;rw[hti];exact h
  obtain⟨⟨⟨l1,l2,l3⟩,ke⟩,hk⟩:∃p,p=Od.keyF t:=⟨_,rfl⟩;obtain⟨⟨⟨m1,m2,m3⟩,me⟩,hm⟩:∃p,p=Od.keyF (Wd.title (S.memb A) false t):=⟨_,rfl⟩;rw[<- hk] at h4 k2 k3 ln H5;rw[<- hm] at k2 k3 H5;simp only at h4 k2 k3 ln H5;subst k2 k3;generalize (Wd.titleF A t).length=tn at H5;subst hz;have HLn:Hid (m1.length<=4611686018427387903/\m2.length<=4611686018427387903):=⟨by omega,by omega⟩;clear hz' hti htl hk hm HRt R3 b3 HB2 HZ HR hf k1 ln hxc
  go_wp2_with fail
  refine h4.mono ?_;clear h4;rintro e w4 ⟨x1,y1,z1,rfl,t4,b4⟩;have HT4:Hid (Od.Tri w4 w3.heap.size x1 y1 z1 (m1,m2,l3)/\Below w.heap.size w w4):=⟨t4,HB3.out.trans (b4.mono HB3.out.size)⟩;have h5:=H5.out w4 b4;clear t4 b4 H5
  go_wp2_with fail
  refine h5.mono ?_;clear h5;rintro e w5 ⟨x2,y2,z2,rfl,t5,b5⟩;have HB5:Hid (Below w.heap.size w w5):=HT4.out.2.trans (b5.mono HT4.out.2.size)
  have HS:Hid (∀X,Below w5.heap.size w5 X->(Calls Tryz.prog 21 #[x1,x2] X fun e w'=>e= .returned (.bool true)/\Below X.heap.size X w')/\(Calls Tryz.prog 21 #[y1,y2] X fun e w'=>e= .returned (.bool true)/\Below X.heap.size X w')):=fun X hX=>by
   have a:=(HT4.out.1.below b5).below hX;have b:=t5.below hX;refine⟨(zfr X x1 x2 m1 m1 a.o1.rd b.o1.rd HLn.out.1 HLn.out.1).mono ?_,(zfr X y1 y2 m2 m2 a.o2.rd b.o2.rd HLn.out.2 HLn.out.2).mono ?_⟩
   ·rintro e w' ⟨h1,h2⟩;exact⟨by simpa using h1,h2⟩
   ·rintro e w' ⟨h1,h2⟩;exact⟨by simpa using h1,h2⟩
  have s1:=(HS.out w5 (qR _)).1;clear t5 b5 HT4 HLn
  go_wp2_with fail
  refine s1.mono ?_;clear s1;rintro e w6 ⟨rfl,b6⟩;have s2:=(HS.out w6 b6).2;have HB6:Hid (Below w.heap.size w w6):=HB5.out.trans (b6.mono HB5.out.size);clear b6 HS HB5
  go_wp2_with fail
  refine s2.mono ?_;clear s2;rintro e w7 ⟨rfl,b7⟩;have HE:Hid (Below w.heap.size w w7):=HB6.out.trans (b7.mono HB6.out.size);clear b7;go_wp2;go_ret;exact⟨by simp,HE.out⟩
 ·clear R3 b3 HRt HB2 HZ HR;go_wp2;go_ret;exact⟨rfl,HB3.out⟩
end Go.Proofs.YtamfgmaipajodaaGreatDoor
namespace Go.Proofs.YtamfgmaipajodaaGreatDoor
open Go.RowKit
def T.Cls (w:World) (b:Nat) (ents:List (ByteArray×List S.Sp)):Prop :=
 ∃(es:Array MapEntry) (clock:Nat),w.heap[b]?=some (.map es clock)/\es.toList.length=ents.length/\∀(i:Nat) (e:MapEntry) (x:ByteArray×List S.Sp),es.toList[i]?=some e->ents[i]?=some x->e.key= .string x.1/\S.Rd w e.val x.2
theorem zu5 (w:World):T.Cls (w.alloc (.map #[] 0)) w.heap.size []:=⟨#[],0,heap_alloc_new w _,rfl,fun i e x h=>by simp at h⟩
theorem za2 {w w':World}{b:Nat}{ents:List (ByteArray×List S.Sp)}(h:T.Cls w b ents)(hb:Below w.heap.size w w'):T.Cls w' b ents:=by
 obtain⟨es,clock,h1,h2,h3⟩:=h;exact⟨es,clock,by rw[hb.block b (qA.1 h1).1];exact h1,h2,fun i e x he hx=>⟨(h3 i e x he hx).1,(h3 i e x he hx).2.below hb qN⟩⟩
theorem zfd (s:ByteArray):∀(l:List MapEntry) (i:Nat),(∀e∈l,∃t,e.key= .string t/\t≠s)->Instr.findNow .string (.string s) l i=some none
 | [],_,_=>rfl
 | e::l,i,h=>by
  obtain⟨t,ht,hne⟩:=h e (by simp)
  have hb:(s==t)=false:=by
   apply Bool.eq_false_iff.2;intro hh;exact hne ((MapKept.bytes_beq _ _).1 hh).symm
  simp only[Instr.findNow,ht,Instr.sameNow,hb];exact zfd s l (i+1) fun e' he'=>h e' (by simp[he'])
theorem zh8 (s:ByteArray):∀(l:List MapEntry) (i:Nat),(∀e∈l,∃t,e.key= .string t)->(∃e∈l,e.key= .string s)->∃j e,Instr.findNow .string (.string s) l i=some (some (j,e.val))/\e∈l/\e.key= .string s
 | [],_,_,h=>by obtain⟨e,he,_⟩:=h;simp at he
 | e::l,i,hk,h=>by
  obtain⟨t,ht⟩:=hk e (by simp)
  by_cases hst:s=t
  ·subst hst;exact⟨i,e,by simp only[Instr.findNow,ht,Instr.sameNow,(MapKept.bytes_beq s s).2 rfl],by simp,ht⟩
  ·have hb:(s==t)=false:=by
    apply Bool.eq_false_iff.2;intro hh;exact hst ((MapKept.bytes_beq _ _).1 hh)
   obtain⟨e0,he0,hk0⟩:=h
   have hm:e0∈l:=by
    rcases List.mem_cons.1 he0 with rfl | hm
    ·rw[ht] at hk0;cases hk0;exact absurd rfl hst
    ·exact hm
   obtain⟨j,e1,h1,h2,h3⟩:=zh8 s l (i+1) (fun x hx=>hk x (by simp[hx])) ⟨e0,hm,hk0⟩;exact⟨j,e1,by simp only[Instr.findNow,ht,Instr.sameNow,hb];exact h1,by simp[h2],h3⟩
theorem zbi {w w':World}{v:Value}{s:List S.Sp}{b:Nat}{es:Array MapEntry}{clock:Nat}(R:S.Rd w v s)(hb:w.heap[b]?=some (.map es clock))(hg:w.grownBy w' (some b)):S.Rd w' v s:=by
 obtain⟨vo,vc,rfl,hn,h⟩:=R;refine⟨vo,vc,rfl,hn,fun hz=> ?_⟩;obtain⟨g,off,rfl,hcl⟩:=h hz;refine⟨g,off,rfl,fun j x hj=> ?_⟩;have h1:=hcl j x hj
 have hne:g≠b:=by
  intro e;subst e;have:=h1.1;rw[World.cell?] at this;simp[hb] at this
 constructor
 ·rw[World.cell?_of_block (a:=⟨g,off+j*2,none⟩) (hg.block g (L.block_lt h1.1) (by simp[hne]))];exact h1.1
 ·rw[World.cell?_of_block (a:=⟨g,off+j*2+1,none⟩) (hg.block g (L.block_lt h1.2) (by simp[hne]))];exact h1.2
theorem zna {w:World}{b:Nat}{ents:List (ByteArray×List S.Sp)}(h:T.Cls w b ents)(s:ByteArray)(v:Value)(sp:List S.Sp)(hnew:∀x∈ents,x.1≠s)(R:S.Rd w v sp) :
  ∃w',(Instr.mapUpdate 133 (.map (some b)) (.string s) v).run Tryz.prog w= .ok () w'/\T.Cls w' b (ents++ [(s,sp)])/\w.grownBy w' (some b):=by
 obtain⟨es,clock,h1,h2,h3⟩:=h
 have hkeys:∀e∈es.toList,∃t,e.key= .string t/\t≠s:=by
  intro e he;obtain⟨i,hi⟩:=List.getElem?_of_mem he;have hlt:i<ents.length:=by rw[<- h2];exact(qL.1 hi).1
  have hx:=h3 i e ents[i] hi (by simp[hlt]);exact⟨_,hx.1,hnew _ (List.getElem_mem _)⟩
 have hf:=zfd s es.toList 0 hkeys;have hlt:b<w.heap.size:=(qA.1 h1).1
 have hg:w.grownBy ({ w with heap:=w.heap.setIfInBounds b (.map (es.push { key:= .string s,val:=v,born:=clock }) (clock+1)) }:World) (some b):=⟨rfl,rfl,rfl,by simp,fun i _ hi=>by
  have hne:b≠i:=fun e=>hi (by rw[e])
  simp[hne]⟩
 refine⟨({ w with heap:=w.heap.setIfInBounds b (.map (es.push { key:= .string s,val:=v,born:=clock }) (clock+1)) }:World),?_,⟨es.push { key:= .string s,val:=v,born:=clock },clock+1,?_,?_,?_⟩,hg⟩
 ·simp[Instr.mapUpdate,run_underlying Tryz.underlying133,MapKept.run_getObj_map h1,MapKept.run_checkKey (kt:=9) Tryz.underlying9 (show MapKept.IsKey .string (.string s) from trivial),MapKept.run_findKey (kt:=9) Tryz.underlying9 hf,MapKept.run_setObj_map _ h1,Result.andThen]
 ·simp[hlt]
 ·simp;simpa using h2
 ·intro i e x he hx;have hl:es.size=ents.length:=by simpa using h2
  rw[Array.toList_push] at he
  by_cases hi:i<ents.length
  ·rw[List.getElem?_append_left (by simpa [hl] using hi)] at he;rw[List.getElem?_append_left hi] at hx;have:=h3 i e x he hx;exact⟨this.1,zbi this.2 h1 hg⟩
  ·have hi2:i=ents.length:=by
    have:=(qL.1 hx).1;simp at this;omega
   subst hi2;rw[<- h2] at he;rw[List.getElem?_append_right qN] at he hx;simp at he hx;subst he hx;exact⟨rfl,zbi R h1 hg⟩
theorem zm9 {w:World}{b:Nat}{ents:List (ByteArray×List S.Sp)}(h:T.Cls w b ents)(s:ByteArray) :
  (∃v x,x∈ents/\x.1=s/\S.Rd w v x.2/\(Instr.lookup 133 (.map (some b)) (.string s) true).run Tryz.prog w= .ok (.tuple #[v,.bool true]) w) ∨
  ((∀x∈ents,x.1≠s)/\(Instr.lookup 133 (.map (some b)) (.string s) true).run Tryz.prog w= .ok (.tuple #[.slice none 0 0,.bool false]) w):=by
 obtain⟨es,clock,h1,h2,h3⟩:=h
 have hkey:∀e∈es.toList,∃x∈ents,e.key= .string x.1/\S.Rd w e.val x.2:=by
  intro e he;obtain⟨i,hi⟩:=List.getElem?_of_mem he;have hlt:i<ents.length:=by rw[<- h2];exact(qL.1 hi).1
  have hx:=h3 i e ents[i] hi (by simp[hlt]);exact⟨_,List.getElem_mem _,hx.1,hx.2⟩
 by_cases hs:∃x∈ents,x.1=s
 ·left
  obtain⟨x,hx,hxs⟩:=hs
  have hex:∃e∈es.toList,e.key= .string s:=by
   obtain⟨i,hi⟩:=List.getElem?_of_mem hx;have hlt:i<es.toList.length:=by rw[h2];exact(qL.1 hi).1
   have:=h3 i es.toList[i] x (by simp) hi;exact⟨_,List.getElem_mem _,by rw[this.1,hxs]⟩
  obtain⟨j,e,hf,hm,hk⟩:=zh8 s es.toList 0 (fun e he=>by obtain⟨x,_,h,_⟩:=hkey e he;exact⟨_,h⟩) hex;obtain⟨y,hy,hyk,hR⟩:=hkey e hm;rw[hk] at hyk;cases hyk;refine⟨e.val,y,hy,rfl,hR,?_⟩;simp[Instr.lookup,run_underlying Tryz.underlying133,MapKept.run_getObj_map h1,MapKept.run_checkKey (kt:=9) Tryz.underlying9 (show MapKept.IsKey .string (.string y.1) from trivial),MapKept.run_findKey (kt:=9) Tryz.underlying9 hf,Result.andThen]
 ·right
  refine⟨fun x hx e=>hs ⟨x,hx,e⟩,?_⟩
  have hf:=zfd s es.toList 0 fun e he=>by
   obtain⟨x,hx,hk,_⟩:=hkey e he;exact⟨x.1,hk,fun e=>hs ⟨x,hx,e⟩⟩
  have hz:=Tryz.zeroValue24;simp[Instr.lookup,run_underlying Tryz.underlying133,MapKept.run_getObj_map h1,MapKept.run_checkKey (kt:=9) Tryz.underlying9 (show MapKept.IsKey .string (.string s) from trivial),MapKept.run_findKey (kt:=9) Tryz.underlying9 hf,Result.andThen,hz]
theorem zrq (w:World)(sp:List S.Sp)(C:Array Value)(hC:C=(S.cellsOf sp).toArray)(n:Nat)(hn:n=sp.length)(c:Nat):S.Rd (w.alloc (.cells C 100)) (.slice (some ⟨w.heap.size,0,none⟩) n c) sp:=by
 subst hC hn;refine⟨_,c,rfl,(fun h=>by cases h),fun _=>⟨w.heap.size,0,rfl,fun j x hj=> ?_⟩⟩;have hg:=S.zcd hj;rw[World.cell?_alloc_at _ _ _ _ rfl,World.cell?_alloc_at _ _ _ _ rfl];simp only[Nat.zero_add];exact⟨by simpa using hg.1,by simpa using hg.2⟩
end Go.Proofs.YtamfgmaipajodaaGreatDoor
namespace Go.Proofs.YtamfgmaipajodaaGreatDoor
open Go.RowKit
def T.names:List (ByteArray×List S.Sp) :=
  [(⟨#[100,105,103,105,116]⟩,[(48,57)]),(⟨#[108,111,119,101,114]⟩,[(97,122),(223,246),(248,255)]),
   (⟨#[117,112,112,101,114]⟩,[(65,90),(192,214),(216,222)]),(⟨#[108,101,116,116,101,114]⟩,[(65,90),(97,122),(192,214),(216,246),(248,255)]),
   (⟨#[118,111,119,101,108]⟩,[(65,65),(69,69),(73,73),(79,79),(85,85),(97,97),(101,101),(105,105),(111,111),(117,117)]),
   (⟨#[103,114,101,101,107]⟩,[(880,1023)]),(⟨#[99,121,114,105,108,108,105,99]⟩,[(1024,1279)]),(⟨#[115,112,97,99,101]⟩,[(9,10),(32,32)]),(⟨#[97,110,121]⟩,[(0,1114111)])]
theorem zqn (w:World):∃w1 b,(Instr.makeMap 133 none).run Tryz.prog w= .ok (.map (some b)) w1/\T.Cls w1 b []/\Hid (w.heap.size<=b/\Below w.heap.size w w1) :=
  ⟨_,_,run_makeMap _ _,zu5 w,⟨qN,(qR _).alloc qN _⟩⟩
theorem zbp {w w1:World}{b:Nat}{ents:List (ByteArray×List S.Sp)}(hC:T.Cls w1 b ents)(hB:Hid (w.heap.size<=b/\Below w.heap.size w w1))(s:ByteArray)(sp:List S.Sp)(C:Array Value)(hCC:C=(S.cellsOf sp).toArray)(n c:Nat)(hn:n=sp.length)(hnew:∀x∈ents,x.1≠s) :
    ∃w2,(Instr.mapUpdate 133 (.map (some b)) (.string s) (.slice (some ⟨w1.heap.size,0,none⟩) n c)).run Tryz.prog (w1.alloc (.cells C 100))= .ok () w2/\T.Cls w2 b (ents++ [(s,sp)])/\Hid (w.heap.size<=b/\Below w.heap.size w w2):=by
  have b1:Below w1.heap.size w1 (w1.alloc (.cells C 100)):=(qR _).alloc qN _;obtain⟨w2,r,h1,h2⟩:=zna (za2 hC b1) s _ sp hnew (zrq w1 sp C hCC n hn c);have hB1:Below w.heap.size w (w1.alloc (.cells C 100)):=hB.out.2.alloc hB.out.2.size _;exact⟨w2,r,h1,hB.out.1,hB1.grown h2 hB1.size (fun j hj=>by cases hj;exact hB.out.1)⟩
theorem zc5 (w:World):Calls Tryz.prog 260 #[] w fun e w'=>∃b,e= .returned (.map (some b))/\w.heap.size<=b/\T.Cls w' b T.names/\Below w.heap.size w w':=by
  go_enter Tryz.func260,Tryz.ntmps260
  go_wp2_with fail
  obtain⟨w1,b,r,hC,hB⟩:=zqn w;rw[r];clear r
  go_wp2_with fail
  obtain⟨w2,r,hC,hB⟩:=zbp hC hB ⟨#[100,105,103,105,116]⟩ [(48,57)] #[.int .i32 48,.int .i32 57] rfl 1 1 rfl (by decide);rw[r];clear r
  go_wp2_with fail
  obtain⟨w3,r,hC,hB⟩:=zbp hC hB ⟨#[108,111,119,101,114]⟩ [(97,122),(223,246),(248,255)] #[.int .i32 97,.int .i32 122,.int .i32 223,.int .i32 246,.int .i32 248,.int .i32 255] rfl 3 3 rfl (by decide);rw[r];clear r
  go_wp2_with fail
  obtain⟨w4,r,hC,hB⟩:=zbp hC hB ⟨#[117,112,112,101,114]⟩ [(65,90),(192,214),(216,222)] #[.int .i32 65,.int .i32 90,.int .i32 192,.int .i32 214,.int .i32 216,.int .i32 222] rfl 3 3 rfl (by decide);rw[r];clear r
  go_wp2_with fail
  obtain⟨w5,r,hC,hB⟩:=zbp hC hB ⟨#[108,101,116,116,101,114]⟩ [(65,90),(97,122),(192,214),(216,246),(248,255)] #[.int .i32 65,.int .i32 90,.int .i32 97,.int .i32 122,.int .i32 192,.int .i32 214,.int .i32 216,.int .i32 246,.int .i32 248,.int .i32 255] rfl 5 5 rfl (by decide);rw[r];clear r
  go_wp2_with fail
  refine(zbg 65 _).mono ?_;rintro e w6 ⟨rfl,hb⟩
  replace hC:=za2 hC hb
  replace hB:Hid (w.heap.size<=b/\Below w.heap.size w w6):=⟨hB.out.1,hB.out.2.trans (hb.mono hB.out.2.size)⟩
  clear hb
  go_wp2_with fail
  refine(zbg 69 _).mono ?_;rintro e w7 ⟨rfl,hb⟩
  replace hC:=za2 hC hb
  replace hB:Hid (w.heap.size<=b/\Below w.heap.size w w7):=⟨hB.out.1,hB.out.2.trans (hb.mono hB.out.2.size)⟩
  clear hb
  go_wp2_with fail
  refine(zbg 73 _).mono ?_;rintro e w8 ⟨rfl,hb⟩
  replace hC:=za2 hC hb
  replace hB:Hid (w.heap.size<=b/\Below w.heap.size w w8):=⟨hB.out.1,hB.out.2.trans (hb.mono hB.out.2.size)⟩
  clear hb
  go_wp2_with fail
  refine(zbg 79 _).mono ?_;rintro e w9 ⟨rfl,hb⟩
  replace hC:=za2 hC hb
  replace hB:Hid (w.heap.size<=b/\Below w.heap.size w w9):=⟨hB.out.1,hB.out.2.trans (hb.mono hB.out.2.size)⟩
  clear hb
  go_wp2_with fail
  refine(zbg 85 _).mono ?_;rintro e w10 ⟨rfl,hb⟩
  replace hC:=za2 hC hb
  replace hB:Hid (w.heap.size<=b/\Below w.heap.size w w10):=⟨hB.out.1,hB.out.2.trans (hb.mono hB.out.2.size)⟩
  clear hb
  go_wp2_with fail
  refine(zbg 97 _).mono ?_;rintro e w11 ⟨rfl,hb⟩
  replace hC:=za2 hC hb
  replace hB:Hid (w.heap.size<=b/\Below w.heap.size w w11):=⟨hB.out.1,hB.out.2.trans (hb.mono hB.out.2.size)⟩
  clear hb
  go_wp2_with fail
  refine(zbg 101 _).mono ?_;rintro e w12 ⟨rfl,hb⟩
  replace hC:=za2 hC hb
  replace hB:Hid (w.heap.size<=b/\Below w.heap.size w w12):=⟨hB.out.1,hB.out.2.trans (hb.mono hB.out.2.size)⟩
  clear hb
  go_wp2_with fail
  refine(zbg 105 _).mono ?_;rintro e w13 ⟨rfl,hb⟩
  replace hC:=za2 hC hb
  replace hB:Hid (w.heap.size<=b/\Below w.heap.size w w13):=⟨hB.out.1,hB.out.2.trans (hb.mono hB.out.2.size)⟩
  clear hb
  go_wp2_with fail
  refine(zbg 111 _).mono ?_;rintro e w14 ⟨rfl,hb⟩
  replace hC:=za2 hC hb
  replace hB:Hid (w.heap.size<=b/\Below w.heap.size w w14):=⟨hB.out.1,hB.out.2.trans (hb.mono hB.out.2.size)⟩
  clear hb
  go_wp2_with fail
  refine(zbg 117 _).mono ?_;rintro e w15 ⟨rfl,hb⟩
  replace hC:=za2 hC hb
  replace hB:Hid (w.heap.size<=b/\Below w.heap.size w w15):=⟨hB.out.1,hB.out.2.trans (hb.mono hB.out.2.size)⟩
  clear hb
  go_wp2_with fail
  obtain⟨w16,r,hC,hB⟩:=zbp hC hB ⟨#[118,111,119,101,108]⟩ [(65,65),(69,69),(73,73),(79,79),(85,85),(97,97),(101,101),(105,105),(111,111),(117,117)] #[.int .i32 65,.int .i32 65,.int .i32 69,.int .i32 69,.int .i32 73,.int .i32 73,.int .i32 79,.int .i32 79,.int .i32 85,.int .i32 85,.int .i32 97,.int .i32 97,.int .i32 101,.int .i32 101,.int .i32 105,.int .i32 105,.int .i32 111,.int .i32 111,.int .i32 117,.int .i32 117] rfl 10 10 rfl (by decide);rw[r];clear r
  go_wp2_with fail
  obtain⟨w17,r,hC,hB⟩:=zbp hC hB ⟨#[103,114,101,101,107]⟩ [(880,1023)] #[.int .i32 880,.int .i32 1023] rfl 1 1 rfl (by decide);rw[r];clear r
  go_wp2_with fail
  obtain⟨w18,r,hC,hB⟩:=zbp hC hB ⟨#[99,121,114,105,108,108,105,99]⟩ [(1024,1279)] #[.int .i32 1024,.int .i32 1279] rfl 1 1 rfl (by decide);rw[r];clear r
  go_wp2_with fail
  refine(zbg 32 _).mono ?_;rintro e w19 ⟨rfl,hb⟩
  replace hC:=za2 hC hb
  replace hB:Hid (w.heap.size<=b/\Below w.heap.size w w19):=⟨hB.out.1,hB.out.2.trans (hb.mono hB.out.2.size)⟩
  clear hb
  go_wp2_with fail
  obtain⟨w20,r,hC,hB⟩:=zbp hC hB ⟨#[115,112,97,99,101]⟩ [(9,10),(32,32)] #[.int .i32 9,.int .i32 10,.int .i32 32,.int .i32 32] rfl 2 2 rfl (by decide);rw[r];clear r
  go_wp2_with fail
  obtain⟨w21,r,hC,hB⟩:=zbp hC hB ⟨#[97,110,121]⟩ [(0,1114111)] #[.int .i32 0,.int .i32 1114111] rfl 1 1 rfl (by decide);rw[r];clear r
  go_wp2_with fail
  go_ret;exact⟨b,rfl,hB.out.1,hC,hB.out.2⟩
end Go.Proofs.YtamfgmaipajodaaGreatDoor
