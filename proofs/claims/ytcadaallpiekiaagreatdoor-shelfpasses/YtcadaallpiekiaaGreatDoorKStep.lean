import Derived.Test.YtcadaallpiekiaaGreatDoorRRead
import Derived.Test.YtcadaallpiekiaaGreatDoorCnWrong
set_option maxHeartbeats 0
set_option maxRecDepth 20000
set_option linter.unusedSimpArgs false
set_option linter.unusedVariables false
namespace Go.Proofs.YtcadaallpiekiaaGreatDoor
open Go.Proofs.Tryz
section
open Go.RowKit Go.Lib
namespace Tp
theorem zty {g:ByteArray->List S.Sp}{l:List R.Part}(h:∀p∈l,R.partE p=0):∀(s:V.Script),S.Fit s.only->S.Fit (l.foldl (V.scrStep g) s).only:=by
 induction l with
 | nil=>intro s hs;exact hs
 | cons p l ih =>
  intro s hs;rw[List.foldl_cons];refine ih (fun q hq=>h q (List.mem_cons_of_mem _ hq)) _ ?_;unfold V.scrStep;split
  ·rename_i h3
   rcases R.zcn (h p List.mem_cons_self) with ⟨h1,h2,_⟩|⟨h1,h2⟩|⟨h1,h2⟩|⟨h1,h2⟩
   ·omega
   ·exact V.zk0 h2
   ·omega
   ·omega
  ·split
   ·exact hs
   ·split
    ·split
     ·exact hs
     ·exact hs
    ·exact hs
theorem zjb (l:List R.Part):S.Fit (V.forthF l).1.only:=by
 unfold V.forthF
 by_cases hg:(V.varsF l).1.1=0
 ·rw[if_pos hg];exact zty (V.zhb hg).2 _ (fun x hx=>by cases hx)
 ·rw[if_neg hg];exact fun x hx=>by cases hx
noncomputable def scriptF (t:List Int):V.Script×Bool :=
 match R.read t with
 | .ok l _=>((V.forthF l).1,decide ((V.forthF l).2.1=0)&&decide ((Cn.wrongF (V.forthF l).1).1=0))
 | .bad _ _=>(⟨false,[],[]⟩,false)
end Tp
theorem V.Firm.mono {F F':Nat}{w:World}{v:Value}{s:V.Script}(h:V.Firm F w v s)(hF:F'<=F):V.Firm F' w v s:=fun W hs hb=>h W hs fun b h1 h2=>hb b (by omega) h2
end
section
open Go.RowKit Go.Lib Go.Shelf
def Cn.Idx (l:List Int) (P:Int->Bool) (i:Int):Prop :=
 (i= -1/\∀r∈l,P r=false)∨∃(j:Nat) (x:Int),i=(j:Int)/\l[j]?=some x/\P x=true/\∀r∈l.take j,P r=false
theorem zj9 (w:World)(v:Value)(l:List Int)(R0:L.Rd w v .i32 l)(hl:l.length<=140737488355328)(g:Nat)(cb:Array Value)(P:Int->Bool)(eg:∀args w,(callFunc g args).run prog w=.ok (.enter g args) w)
  (hh:∀W r,Bl w W->r∈l->Calls prog g (#[.int .i32 r]++cb) W fun e w'=>e=.returned (.bool (P r))/\Bl W w') :
  Calls prog 76 #[v,.func (.func g) #[] cb] w fun e w'=>∃i:Int,e=.returned (.int .i64 i)/\Cn.Idx l P i/\Bl w w':=by
 have HH:=qH hh;obtain⟨lao,lcap,rfl,_,hcs⟩:=R0;have HC:=qH hcs;clear hh hcs
 go_enter func76,ntmps76
 go_wp2
 go_loopw [8] (fun i wr=>∃j:Nat,j<=l.length/\i=.int .i64 j/\Hid (∀r∈l.take j,P r=false)/\Hid (Bl w wr)) (fun i _=>l.length-(intOf i).toNat)
 case atStart=>exact⟨0,Nat.zero_le _,rfl,fun r hr=>by simp at hr,qR w⟩
 case round =>
  obtain⟨j,hj,rfl,HW,HB⟩:=hrel
  by_cases hlt:j<l.length
  ·obtain⟨p,hp⟩:∃x,l[j]?=some x:=⟨l[j],by simp[hlt]⟩;obtain⟨b,off,rfl,hcell⟩:=HC.out (by intro h;subst h;simp at hlt);have c0:=hcell j p hp;rw[<- HB.out.cell (p:=⟨b,off+j,none⟩) (L.block_lt c0)] at c0;have hsz:=HB.out.size;have HW2:=qH<|HH.out wr p HB.out (List.mem_of_getElem? hp);have HP:=qH hp;obtain⟨z,HZ⟩:∃z,Hid (P p=z):=⟨_,rfl⟩;rw[HZ.out] at HW2;clear hp hcell
   go_wp2_with fail
   refine HW2.out.mono ?_;rintro e w1 ⟨rfl,B1⟩;have HB1:=qH<|HB.out.trans (B1.mono hsz);clear B1;cases z with
   | false =>
    have HT:Hid (∀r∈l.take (j+1),P r=false):=fun r hr=>by
     rw[List.take_add_one,HP.out,List.mem_append] at hr;rcases hr with hr|hr
     ·exact HW.out r hr
     ·simp at hr;rw[hr];exact HZ.out
    go_wp2
    go_roundw
    case rel=>exact⟨j+1,by omega,by go_num,HT,HB1⟩
    case measure=>simp[intOf];omega
   | true =>
    go_wp2;go_ret
    exact⟨j,rfl,.inr ⟨j,p,rfl,HP.out,HZ.out,HW.out⟩,HB1.out⟩
  ·have hkl:j=l.length:=by omega
   subst hkl;go_wp2;go_ret;exact⟨-1,rfl,.inl ⟨rfl,fun r hr=>HW.out r (by rw[List.take_length];exact hr)⟩,HB.out⟩
end
section
open Go.RowKit
theorem Tryz.infoPass:(prog.info? 137).map (fun i=>(i.zero,i.size,i.bytes))=some (some .nilFunc,1,8):=by kernel_rfl
namespace Cn
def FRow (w:World) (g:Nat) (cur:List Value):Prop:=w.heap[g]?=some (.cells cur.toArray 137 (0,0))
theorem FRow.cell {w:World}{g:Nat}{cur:List Value}(h:FRow w g cur)(j:Nat):w.cell? ⟨g,j,none⟩=cur[j]?:=by
 simp[World.cell?,show w.heap[g]?=_ from h]
theorem FRow.free {w:World}{g:Nat}{cur:List Value}(h:FRow w g cur)(j:Nat):w.frozen? ⟨g,j,none⟩=false:=frozen_of_row w g j _ _ h
theorem FRow.set {w:World}{g k:Nat}{cur:List Value}(h:FRow w g cur)(u:Value):FRow (w.setCell ⟨g,k,none⟩ u) g (cur.set k u):=by
 have:=heap_setCell_same w g k _ _ u h;unfold FRow;rw[this];simp
theorem zsj (w:World)(n:Nat)(hn:n<=8000):∃W,(∀kl kc,(Instr.makeSlice 96 (.int kl (n:Int)) (.int kc (n:Int))).run prog w=.ok (.slice (some ⟨w.heap.size,0,none⟩) n n) W)/\FRow W w.heap.size (List.replicate n .nilFunc)/\Bl w W/\W.heap.size=w.heap.size+1:=by
 obtain⟨i0,hi,hz0,hz1,hz2⟩:=info_parts Tryz.infoPass;have hr:=fun kl kc=>run_make (P:=prog) w 96 137 i0 .nilFunc underlying96 hi hz0 kl kc n n (by omega) (Int.le_refl _) (by rw[hz2];omega) (by omega)
 simp only[Int.toNat_natCast] at hr;refine⟨_,hr,?_,(qR w).alloc qN _,by simp⟩;have h1:=Go.heap_alloc_new w (.cells (madeCells (Value.nilFunc).cells (n*i0.size)) 137);unfold FRow;rw[h1,hz1,Nat.mul_one]
 have e:madeCells (Value.nilFunc).cells n=(List.replicate n Value.nilFunc).toArray:=by
  have:=toList_madeCells_one Value.nilFunc n;rw[<- this];simp[Value.cells]
 rw[e]
def Fns (w0:World) (B:Nat) (w:World) (v:Value) (Fs:List (List Int->List Int×Int)):Prop :=
 ∃b cap,v=.slice (some ⟨b,0,none⟩) Fs.length cap/\∀(j:Nat) F,Fs[j]?=some F->∃u,w.cell? ⟨b,j,none⟩=some u/\Acts w0 B w u F
theorem Fns.below {w0 w w':World}{B:Nat}{v:Value}{Fs:List (List Int->List Int×Int)}(h:Fns w0 B w v Fs)(hb:Bl w w'):Fns w0 B w' v Fs:=by
 obtain⟨b,cap,hv,hc⟩:=h;refine⟨b,cap,hv,fun j F hj=> ?_⟩;obtain⟨u,h1,h2⟩:=hc j F hj;exact⟨u,by rw[hb.cell (p:=⟨b,j,none⟩) (L.block_lt h1)];exact h1,h2.below hb⟩
def Mk (pl:Pl) (ps:List V.Pass) (w wr:World) (k:Nat) (cur:List Value):Prop :=
 FRow wr w.heap.size cur/\cur.length=ps.length/\Bl w wr/\∀(j:Nat) p,j<k->ps[j]?=some p->∃u,cur[j]?=some u/\Acts w (w.heap.size+1) wr u (passF pl p)
theorem Mk.below {pl:Pl}{ps:List V.Pass}{w wr w':World}{k:Nat}{cur:List Value}(h:Mk pl ps w wr k cur)(hb:Bl wr w'):Mk pl ps w w' k cur:=by
 obtain⟨h1,h2,h3,h4⟩:=h;refine⟨K.zae h1 hb,h2,h3.trans (hb.mono h3.size),fun j p hj hp=> ?_⟩;obtain⟨u,g1,g2⟩:=h4 j p hj hp;exact⟨u,g1,g2.below hb⟩
theorem Mk.put {pl:Pl}{ps:List V.Pass}{w wr:World}{k:Nat}{cur:List Value}(h:Mk pl ps w wr k cur){p:V.Pass}(hp:ps[k]?=some p){u:Value}(hu:Acts w (w.heap.size+1) wr u (passF pl p)):Mk pl ps w (wr.setCell ⟨w.heap.size,k,none⟩ u) (k+1) (cur.set k u):=by
 obtain⟨h1,h2,h3,h4⟩:=h
 have hk:∀b o,w.heap.size+1<=b->wr.heap[b]?=some o->(wr.setCell ⟨w.heap.size,k,none⟩ u).heap[b]?=some o:=fun b o hb ho=>by
  rw[heap_setCell_other _ ⟨w.heap.size,k,none⟩ b _ (by simp;omega)];exact ho
 refine⟨h1.set u,by simpa using h2,h3.setCell (p:=⟨w.heap.size,k,none⟩) qN _,fun j q hj hq=> ?_⟩;have hlt:=(qL.1 hp).1
 by_cases e:j=k
 ·subst e;rw[hp] at hq;cases hq;exact⟨u,List.getElem?_set_self (by omega),hu.keep qN hk⟩
 ·obtain⟨u',g1,g2⟩:=h4 j q (by omega) hq;exact⟨u',by rw[List.getElem?_set_ne (fun h=>e h.symm)];exact g1,g2.keep qN hk⟩
end Cn
theorem zjj (pl:Cn.Pl)(hpl:Cn.PlOk pl)(w:World)(v:Value)(ps:List V.Pass)(hP:V.Pas w v ps)(hl:ps.length<=60)(hE:∀p∈ps,Cn.passE p=0) :
  Calls prog 48 #[v] w fun e w'=>∃v',e=.returned v'/\Cn.Fns w (w.heap.size+1) w' v' (ps.map (Cn.passF pl))/\Bl w w':=by
 have HP:Hid (V.Pas w v ps/\(∀p∈ps,Cn.passE p=0)):=⟨hP,hE⟩;have HPl:=qH hpl;obtain⟨ao,cap,rfl⟩:=hP.len;obtain⟨W,hmk,hrow,hB,hs⟩:=Cn.zsj w ps.length (by omega);have HW:Hid (Cn.Mk pl ps w W 0 (List.replicate ps.length .nilFunc)):=⟨hrow,by simp,hB,fun j p hj=>by omega⟩;clear hP hE hpl hrow hB hs
 go_enter func48,ntmps48
 go_wp2
 go_loopw [11] (fun i wr=>∃(k:Nat) (cur:List Value),k<=ps.length/\i=.int .i64 k/\Hid (Cn.Mk pl ps w wr k cur)) (fun i _=>ps.length-(intOf i).toNat)
 case atStart=>exact⟨0,_,Nat.zero_le _,rfl,HW⟩
 case round =>
  obtain⟨k,cur,hk,rfl,HI⟩:=hrel
  by_cases hlt:k<ps.length
  ·obtain⟨p,hp⟩:∃x,ps[k]?=some x:=⟨ps[k],by simp[hlt]⟩;obtain⟨ao',cap',e',_,hcs⟩:=HP.out.1;cases e';obtain⟨b,off,rfl,hcell⟩:=hcs (by intro h;rw[h] at hlt;simp at hlt);obtain⟨c0,hn,ro,rc,c1,hr⟩:=hcell k p hp;rw[<- HI.out.2.2.1.cell (p:=⟨b,off+k*2,none⟩) (L.block_lt c0)] at c0;rw[<- HI.out.2.2.1.cell (p:=⟨b,off+k*2+1,none⟩) (L.block_lt c1)] at c1;have HC:Hid (∀o,Calls prog 80 #[.agg #[.string p.name,.slice ro p.rules.length rc]] (wr.alloc o) fun e w'=>∃v,e=.returned v/\Cn.Acts w (wr.alloc o).heap.size w' v (Cn.passF pl p)/\Below (wr.alloc o).heap.size (wr.alloc o) w'):=fun o=>zpd pl HPl.out w _ p ro rc hr (HP.out.2 p (List.mem_of_getElem? hp))
   have HQ:=qH hp;clear hcs hcell hr hp
   go_wp2_with fail
   refine(HC.out _).mono ?_;rintro e w1 ⟨u,rfl,hA,b1⟩;obtain⟨g,cb,bx,rfl,hA2⟩:=id hA;obtain⟨_,B1,hl1⟩:=K.zau b1;have hM1:=HI.out.below B1;have hsz:=lt_of_block HI.out.1;have HN:=qH<|hM1.put HQ.out (hA.keep (by simp;omega) fun _ _ _ h=>h);have hcl:k<cur.length:=by have:=HI.out.2.1;omega
   have k1:w1.cell? ⟨w.heap.size,k,none⟩=some (cur[k]):=by rw[hM1.1.cell k];simp[hcl]
   have fz:=hM1.1.free k;clear hA hA2 b1 B1 hM1 HC;go_wp2
   go_roundw
   case rel=>exact⟨k+1,_,by omega,by go_num,HN⟩
   case measure=>simp[intOf];omega
  ·have hkl:k=ps.length:=by omega
   subst hkl;go_wp2;go_ret;obtain⟨h1,h2,h3,h4⟩:=HI.out;refine⟨_,rfl,⟨w.heap.size,_,by rw[List.length_map];rfl,fun j F hj=> ?_⟩,h3⟩;rw[List.getElem?_map] at hj;cases hp:ps[j]? with
   | none=>rw[hp] at hj;cases hj
   | some p =>
    rw[hp] at hj;cases hj;obtain⟨u,g1,g2⟩:=h4 j p (qL.1 hp).1 hp;exact⟨u,by rw[h1.cell j];exact g1,g2⟩
theorem ze7 (pl:Cn.Pl)(hpl:Cn.PlOk pl)(w0 w:World)(B:Nat)(v:Value)(ps:List V.Pass)(h0:Bl w0 w)(hF:Cn.Fns w0 B w v (ps.map (Cn.passF pl)))(hl:ps.length<=60)(vt:Value)(t:List Int)(Rt:L.Rd w vt .i32 t)(ht:Cn.Tx t) :
  Calls prog 77 #[v,vt] w fun e w'=>∃v',e=.returned (.tuple #[v',.agg #[.int .i64 (Cn.thru pl 0 ps t).2.1,.int .i64 (Cn.thru pl 0 ps t).2.2]])/\L.Rd w' v' .i32 (Cn.thru pl 0 ps t).1/\Bl w w':=by
 obtain⟨⟨o,o1,o2⟩,HO⟩:∃o,Hid (Cn.thru pl 0 ps t=o):=⟨_,rfl⟩;rw[HO.out];have HF:Hid (Cn.Fns w0 B w v (ps.map (Cn.passF pl))/\Bl w0 w):=⟨hF,h0⟩;have HPl:=qH hpl;obtain⟨b,cap,rfl,hcs⟩:=hF;rw[List.length_map] at HF;rw[List.length_map];have HCs:=qH hcs;obtain⟨xo,xc,rfl⟩:∃xo xc,vt=.slice xo t.length xc:=by obtain⟨a,c,h,_⟩:=Rt;exact⟨a,c,h⟩
 have HA:=qH<|fun o=>(qR w).alloc qN o
 have HT:Hid (L.Rd w (.slice xo t.length xc) .i32 t/\Cn.Tx t):=⟨Rt,ht⟩;clear Rt ht h0 hpl hcs
 go_enter func77,ntmps77
 go_wp2
 go_loopw [1,12] (fun i1 i wr=>∃(k:Nat) (x:List Int) (yo:Option Addr) (yc:Nat),k<=ps.length/\i=.int .i64 k/\i1=.slice yo x.length yc/\Hid (Cn.thru pl k (ps.drop k) x=(o,o1,o2))/\Hid (L.Rd wr (.slice yo x.length yc) .i32 x/\Cn.Tx x)/\Hid (Bl w wr)/\Hid (wr.heap[w.heap.size]?=some (.cells #[.int .i64 0,.int .i64 0] 36))) (fun _ i _=>ps.length-(intOf i).toNat)
 case atStart=>exact⟨0,t,xo,xc,Nat.zero_le _,rfl,rfl,HO,⟨HT.out.1.below (HA.out _) qN,HT.out.2⟩,HA.out _,heap_alloc_new w _⟩
 case round =>
  obtain⟨k,x,yo,yc,hk,rfl,rfl,HE,HX,HB,HY⟩:=hrel;obtain⟨x0,x1,f0,f1⟩:=K.box2 HY.out
  by_cases hlt:k<ps.length
  ·obtain⟨p,hp⟩:∃x,ps[k]?=some x:=⟨ps[k],by simp[hlt]⟩;obtain⟨u,hu,hA⟩:=HCs.out k (Cn.passF pl p) (by rw[List.getElem?_map,hp];rfl);rw[<- HB.out.cell (p:=⟨b,k,none⟩) (L.block_lt hu)] at hu;obtain⟨g,cb,rfl,eg,hC⟩:=(hA.below HB.out).call (HF.out.2.trans (HB.out.mono HF.out.2.size));have hc:=hC _ x HX.out.1 HX.out.2;have HE2:Hid (Cn.thru pl k (ps.drop k) x=if (Cn.passF pl p x).2=0 then Cn.thru pl (k+1) (ps.drop (k+1)) (Cn.passF pl p x).1 else ([],(Cn.passF pl p x).2,(k:Int))):=Cn.zh9 hp;have HTx:Hid (Cn.Tx (Cn.passF pl p x).1):=Cn.zhs HPl.out.2 HX.out.2;obtain⟨⟨q,z⟩,hq⟩:∃q,Cn.passF pl p x=q:=⟨_,rfl⟩;rw[hq] at hc HE2 HTx;simp only at hc HE2 HTx;have HCc:=qH hc;have hsz:=HB.out.size;clear hp hA hC hq hc
   go_wp2_with fail
   refine HCc.out.mono ?_;rintro e w1 ⟨v1,rfl,d1,b1⟩;obtain⟨va,vc,rfl⟩:∃va vc,v1=.slice va q.length vc:=by obtain⟨a,c,h,_⟩:=d1;exact⟨a,c,h⟩
   have HB1:=qH<|HB.out.trans (b1.mono hsz);have HY1:=qH<|K.zae HY.out b1;have HD1:Hid (L.Rd w1 (.slice va q.length vc) .i32 q/\Cn.Tx q):=⟨d1,HTx.out⟩;clear d1 b1 x0 x1 f0 f1 HCc hu;obtain⟨x0,x1,f0,f1⟩:=K.box2 HY1.out
   by_cases hz:z=0
   ·subst hz;go_wp2
    go_roundw
    case rel=>exact⟨k+1,q,va,vc,by omega,by go_num,rfl,by show _=_;rw[<- HE.out,HE2.out];simp,HD1,HB1,HY1⟩
    case measure=>simp[intOf];omega
   ·have h:=HE2.out;rw[HE.out,if_neg hz] at h;simp only[Prod.mk.injEq] at h;obtain⟨rfl,rfl,rfl⟩:=h;go_wp2;refine bodyPost_ret (v:=.tuple #[.slice none 0 0,.agg #[.int .i64 o1,.int .i64 k]]) (by simp[results,results77,go_sem, *]) rfl ?_;exact⟨_,rfl,⟨none,0,rfl,fun _=>rfl,fun h=>absurd rfl h⟩,(HB1.out.setCell (p:=⟨w.heap.size,0,none⟩) qN _).setCell (p:=⟨w.heap.size,1,none⟩) qN _⟩
  ·have h:=HE.out;rw[List.drop_eq_nil_of_le (by omega)] at h;simp only[Cn.thru,Prod.mk.injEq] at h;obtain⟨rfl,rfl,rfl⟩:=h;go_wp2;refine bodyPost_ret (v:=.tuple #[.slice yo x.length yc,.agg #[.int .i64 0,.int .i64 0]]) (by simp[results,results77,go_sem, *]) rfl ?_;refine⟨_,rfl,K.za8 HX.out.1 fun hz q hq=> ?_,(HB.out.setCell (p:=⟨w.heap.size,0,none⟩) qN _).setCell (p:=⟨w.heap.size,1,none⟩) qN _⟩;have hne:=K.zpe HX.out.1 HY.out hz q hq;rw[heap_setCell_other _ ⟨w.heap.size,1,none⟩ q _ (by simpa using hne),heap_setCell_other _ ⟨w.heap.size,0,none⟩ q _ (by simpa using hne)]
namespace Ws
def Rd (w:World) (v:Value) (ts:List (List Int)):Prop :=
 ∃ao cap,v=.slice ao ts.length cap/\(ao=none->cap=0)/\(ts≠ []->∃b off,ao=some ⟨b,off,none⟩/\∀j t,ts[j]?=some t->∃u,w.cell? ⟨b,off+j,none⟩=some u/\L.Rd w u .i32 t)
theorem Rd.below {w w':World}{v:Value}{ts:List (List Int)}(h:Rd w v ts)(hb:Bl w w'):Rd w' v ts:=by
 obtain⟨ao,cap,hv,hn,hc⟩:=h;refine⟨ao,cap,hv,hn,fun hne=> ?_⟩;obtain⟨b,off,e,hcell⟩:=hc hne;refine⟨b,off,e,fun j t hj=> ?_⟩;obtain⟨u,h1,h2⟩:=hcell j t hj;exact⟨u,by rw[hb.cell (p:=⟨b,off+j,none⟩) (L.block_lt h1)];exact h1,h2.below hb qN⟩
end Ws
theorem K.za7 {t:TypeId}{ops:Array Oper}{o:Oper}{a:Act}{w:World}{K:Act->World->Prop}{Q:Exit->Act->World->Prop}{E:Prop}(hgd:o.guard=none)(s x:Operand)
  (ho:o.op=.call { callee:=.builtin .append,args:=#[s,x],argTypes:=#[t,t] }) (v vx v':Value) (w':World) (hs:a.eval s=v) (hx:a.eval x=vx)
  (hrun:∀ty,(Builtin.append_ #[t,t] ty #[v,vx]).run prog w=.ok v' w') (h:K (a.put o.dst v') w') :
  if Region.wanted o (yielded ops a.tmps)=true then Oper.wp prog o a w K Q else E:=by
 have hw:Region.wanted o (yielded ops a.tmps)=true:=by simp[Region.wanted,hgd]
 rw[if_pos hw];unfold Oper.wp;simp[execOp,ho,resolve,invoke,builtin,hs,hx,hrun,Result.andThen];exact h
