import Derived.Test.YtcadaallpiekiaaGreatDoorCnRefG
import Derived.MapKept
import Derived.ChangeMaps4
set_option maxHeartbeats 0
set_option maxRecDepth 20000
namespace Go.Proofs.YtcadaallpiekiaaGreatDoor
open Go.Proofs.Tryz
section
open Go.RowKit
theorem zia {a b:List Int}{k:Nat}{x y:Int}(h:a.take k=b.take k)(hx:a[k]?=some x)(hy:b[k]?=some y)(e:x=y):a.take (k+1)=b.take (k+1):=by
 rw[List.take_add_one,List.take_add_one,h,hx,hy,e]
theorem zo7 (w:World)(va vb:Value)(za zb:List Int)(ha:L.Rd w va .i32 za)(hb:L.Rd w vb .i32 zb)(hla:za.length<=4611686018427387903)(hlb:zb.length<=4611686018427387903) :
  Calls prog 21 #[va,vb] w fun e w'=>e=.returned (.bool (decide (za=zb)))/\Bl w w':=by
 obtain⟨ao,ca,rfl,_,ha⟩:=ha;obtain⟨bo,cb,rfl,_,hb⟩:=hb
 by_cases hl:za.length=zb.length
 ·go_enter func21,ntmps21
  go_wp2
  go_loopw [13] (fun i wr=>∃k n:Nat,k<=za.length/\i=.int .i64 k/\za.take k=zb.take k/\wr=w.drewN n) (fun i _=>za.length-(intOf i).toNat)
  case atStart=>exact⟨0,0,Nat.zero_le _,rfl,by simp,rfl⟩
  case round =>
   obtain⟨k,n,hk,rfl,ht,rfl⟩:=hrel
   by_cases hlt:k<za.length
   ·obtain⟨b1,o1,rfl,hc1⟩:=ha (by intro h;subst h;simp at hlt);obtain⟨b2,o2,rfl,hc2⟩:=hb (by intro h;subst h;simp at hl;rw[hl] at hlt;simp at hlt);obtain⟨x,hx⟩:∃x,za[k]?=some x:=⟨za[k],by simp[hlt]⟩;obtain⟨y,hy⟩:∃y,zb[k]?=some y:=⟨zb[k]'(by omega),by simp[show k<zb.length by omega]⟩;have c1:=hc1 k x hx;have c2:=hc2 k y hy;clear hc1 hc2 ha hb;have HX:Hid (za[k]?=some x/\zb[k]?=some y/\za.take k=zb.take k):=⟨hx,hy,ht⟩;clear hx hy ht
    by_cases hxy:x=y
    ·go_wp2
     go_quiet (fail)
     go_wp2
     go_roundw
     case rel=>exact⟨k+1,_,by omega,by go_num,zia HX.out.2.2 HX.out.1 HX.out.2.1 hxy,rfl⟩
     case measure=>simp[intOf];omega
    ·go_wp2
     go_quiet (fail)
     go_wp2;go_ret
     refine⟨L.zaj ?_,below_drewN (below_drewN (qR _) _) _⟩
     have:za≠zb:=by
      intro e;rw[e] at HX;have h1:=HX.out.1;rw[HX.out.2.1] at h1;exact hxy (Option.some.inj h1).symm
     simp[this]
   ·go_wp2;go_ret
    refine⟨L.zaj ?_,below_drewN (qR _) _⟩;rw[List.take_of_length_le (by omega),List.take_of_length_le (by omega)] at ht;simp[ht]
 ·go_enter func21,ntmps21
  go_wp2;go_ret
  refine⟨L.zaj ?_,qR _⟩;have:za≠zb:=by intro e;exact hl (by rw[e])
  simp[this]
end
section
open Go.RowKit Go.Lib
set_option linter.unusedSimpArgs false
set_option linter.unusedVariables false
theorem zhi (hK:T.ClassOk)(name:ByteArray)(h:Sh.Fine name)(back:Bool)(w:World) :
  Calls prog 9 #[.string name,.bool back] w fun e w'=>∃v' sc,e=.returned (.tuple #[v',.int .i64 0])/\V.ScIs w' v' sc/\S.Fit sc.only/\Bl w w':=by
 obtain⟨t,l,q,h1,h2,h3,h4⟩:=h;cases back with
 | false =>
  have hf:V.forthF l=((V.forthF l).1,0,0):=by
   have e:V.forthF l=(V.scr (V.gOf (V.varsF l).2) l,0,0):=by unfold V.forthF;rw[if_pos h4]
   rw[e]
  exact(zdb hK name t l q _ h1 h2 h3 hf w).mono fun e w' ⟨v',a,b,c⟩=>⟨v',_,a,b,Tp.zjb l,c⟩
 | true =>
  have hf:V.backF l=((V.backF l).1,0,0):=by
   unfold V.backF;rw[if_pos h4]
  exact(zhj hK name t l q _ h1 h2 h3 hf w).mono fun e w' ⟨v',a,b,c⟩=>⟨v',_,a,b,Sh.zta l,c⟩
theorem zfe (hK:T.ClassOk)(w:World)(a:Int)(ha:K.I64 a)(back:Bool)(vt:Value)(t:List Int)(Rt:L.Rd w vt .i32 t)(hcap:∀x n c,vt=.slice x n c->t.length<=c)(ht:t.length<=140737488355328) :
  Calls prog 4 #[.int .i64 a,.bool back,vt] w fun e w'=>e=.returned (.bool true)/\Bl w w':=by
 obtain⟨pl,hpl⟩:=Cn.zpl;have HT:Hid (L.Rd w vt .i32 t):=Rt;obtain⟨xo,xc,rfl,_⟩:=Rt;have hxc:=hcap _ _ _ rfl;have hl18:(Sh.row.map fun x=>x.1).length=18:=by decide
 have HFi:Hid (∀(j:Nat) n,(Sh.row.map fun x=>x.1)[j]?=some n->Sh.Fine n):=fun j n h=>by
  obtain⟨x,hx,rfl⟩:=List.mem_map.1 (List.mem_of_getElem? h);exact Sh.ztc x hx
 have hN0:∀X,Calls prog 7 #[] X fun e w'=>∃v,e=.returned v/\Sh.Ns w' v (Sh.row.map fun x=>x.1)/\Bl X w':=fun X=>zff X
 have HN:Hid (∀X,Calls prog 7 #[] X fun e w'=>∃v,e=.returned v/\Sh.Ns w' v (Sh.row.map fun x=>x.1)/\Bl X w'):=hN0;generalize (Sh.row.map fun x=>x.1)=ns at *;clear hcap hN0
 go_enter func4,ntmps4
 go_wp2_with fail
 refine(zj5 hK w).mono ?_;rintro e w1 ⟨rfl,b1⟩;have hN:=HN.out w1;have HB1:Hid (Bl w w1):=b1;clear b1 HN
 go_wp2_with fail
 refine hN.mono ?_;rintro e w2 ⟨_,rfl,⟨ao,cap,rfl,hc⟩,b2⟩;have HB2:Hid (Bl w w2):=HB1.out.trans (b2.mono HB1.out.size);have HC:Hid (0<ns.length->∃g,ao=some ⟨g,0,none⟩/\g<w2.heap.size/\∀(j:Nat) x,ns[j]?=some x->w2.cell? ⟨g,j,none⟩=some (.string x)):=hc;have HL:Hid (ns.length=18):=hl18;clear hN b2 hc hl18 HB1
 by_cases h0:a<0
 ·go_wp2;go_ret
  exact⟨rfl,HB2.out⟩
 ·obtain⟨j,rfl⟩:∃j:Nat,a=j:=⟨a.toNat,by omega⟩
  by_cases h1:j<ns.length
  ·obtain⟨n,hn⟩:∃n,ns[j]?=some n:=⟨ns[j],by simp[h1]⟩;obtain⟨g,rfl,hg,hcc⟩:=HC.out (by omega);have c0:=hcc j n hn;have u1:¬((ns.length:Nat):Int)<=j:=by omega
   have hS:=zhi hK n (HFi.out j n hn) back w2;clear hcc hn HC HFi HL
   go_wp2_with fail
   refine hS.mono ?_;rintro e w3 ⟨v3,sc,rfl,hsc,hfit,b3⟩;have HB3:Hid (Bl w w3):=HB2.out.trans (b3.mono HB2.out.size);obtain⟨oo,oc,po,pc,hv3,_⟩:=id hsc;subst hv3;obtain⟨Z,hZ⟩:=qE (w3.alloc (.cells #[.bool sc.has,.slice oo sc.only.length oc,.slice po sc.passes.length pc] 30));have k4:=K.zau (w:=w3) (qR (w3.alloc (.cells #[.bool sc.has,.slice oo sc.only.length oc,.slice po sc.passes.length pc] 30)));rw[<- hZ] at k4;have HZ:Hid (Bl w Z/\Z.heap[w3.heap.size]?=some (.cells #[.bool sc.has,.slice oo sc.only.length oc,.slice po sc.passes.length pc] 30)):=⟨HB3.out.trans (k4.2.1.mono HB3.out.size),k4.1⟩;have HSc:Hid (V.ScIs Z (.agg #[.bool sc.has,.slice oo sc.only.length oc,.slice po sc.passes.length pc]) sc):=hsc.below k4.2.1;have y0:=K.zad (i:=0) k4.1 rfl;have y1:=K.zad (i:=1) k4.1 rfl;have y2:=K.zad (i:=2) k4.1 rfl;have hG1:=zqz pl hpl Z _ sc HSc.out hfit xo xc t (HT.out.below HZ.out.1 qN) hxc ht;have HG2:Hid (∀X,Bl Z X->Calls prog 15 #[.agg #[.bool sc.has,.slice oo sc.only.length oc,.slice po sc.passes.length pc],.slice xo t.length xc] X fun e w'=>∃v',e=.returned (.tuple #[v',.agg #[.int .i64 (Cn.goF pl sc t).2.1,.int .i64 (Cn.goF pl sc t).2.2]])/\L.Rd w' v' .i32 (Cn.goF pl sc t).1/\Bl X w'):=fun X hX=>zph pl hpl X _ sc (HSc.out.below hX) hfit xo xc t ((HT.out.below HZ.out.1 qN).below hX qN) hxc ht
   have hlen:=Tp.zth hpl sc t;obtain⟨⟨o,f1,f2⟩,hgo⟩:∃q,Cn.goF pl sc t=q:=⟨_,rfl⟩;rw[hgo] at hG1 HG2 hlen;simp only at hG1 HG2 hlen;clear hS hsc hfit b3 k4 hgo HSc
   go_upto_region 7 with fail
   rw[<- hZ];clear hZ
   go_wp2_with fail
   refine hG1.mono ?_;rintro e w4 ⟨v4,rfl,d4,b4⟩;obtain⟨p4,c4,rfl,_⟩:=id d4;obtain⟨W,hW⟩:=qE (w4.alloc (.cells #[.int .i64 f1,.int .i64 f2] 36));have k5:=K.zau (w:=w4) (qR (w4.alloc (.cells #[.int .i64 f1,.int .i64 f2] 36)));rw[<- hW] at k5;have hbZ:Bl Z W:=b4.trans (k5.2.1.mono b4.size);have hb3:=K.zae HZ.out.2 hbZ;have z0:=K.zad (i:=0) hb3 rfl;have z1:=K.zad (i:=1) hb3 rfl;have z2:=K.zad (i:=2) hb3 rfl;have hG:=HG2.out W hbZ;have HW:Hid (Bl w W/\W.heap[w4.heap.size]?=some (.cells #[.int .i64 f1,.int .i64 f2] 36)/\L.Rd W (.slice p4 o.length c4) .i32 o):=⟨HZ.out.1.trans (hbZ.mono HZ.out.1.size),k5.1,d4.below k5.2.1 qN⟩;clear hG1 HG2 d4 b4 k5 hbZ hb3 y0 y1 y2
   go_upto_region 10 with fail
   rw[<- hW];clear hW
   go_wp2_with fail
   refine hG.mono ?_;rintro e w5 ⟨v5,rfl,d5,b5⟩;obtain⟨p5,c5,rfl,_⟩:=id d5;obtain⟨Y,hY⟩:=qE (w5.alloc (.cells #[.int .i64 f1,.int .i64 f2] 36));have k6:=K.zau (w:=w5) (qR (w5.alloc (.cells #[.int .i64 f1,.int .i64 f2] 36)));rw[<- hY] at k6;have hbY:Bl W Y:=b5.trans (k6.2.1.mono b5.size);have hx4:=K.zae HW.out.2.1 hbY;obtain⟨r0,r1,_,_⟩:=K.box2 hx4;obtain⟨s0,s1,_,_⟩:=K.box2 k6.1;have hBY:Bl w Y:=HW.out.1.trans (hbY.mono HW.out.1.size)
   have HSm:Hid (Calls prog 21 #[.slice p4 o.length c4,.slice p5 o.length c5] Y fun e w'=>e=.returned (.bool true)/\Bl w w'):=by
    show Calls _ _ _ _ _;refine(zo7 Y _ _ o o (HW.out.2.2.below hbY qN) (d5.below k6.2.1 qN) (by omega) (by omega)).mono ?_;rintro e w' ⟨rfl,h⟩;exact⟨by simp,hBY.trans (h.mono hBY.size)⟩
   clear hG d5 b5 k6 hbY hx4 hBY z0 z1 z2
   go_upto_region 11 with fail
   rw[<- hY];clear hY
   go_wp2_with fail
   refine HSm.out.mono ?_;rintro e w6 ⟨rfl,b6⟩;have HE:Hid (Bl w w6):=b6;clear b6 HSm;go_wp2;go_ret;exact⟨rfl,HE.out⟩
  ·have u1:((ns.length:Nat):Int)<=j:=by omega
   go_wp2;go_ret
   exact⟨rfl,HB2.out⟩
end
section
open Go.RowKit
def T.Cls (w:World) (b:Nat) (ents:List (ByteArray×List S.Sp)):Prop :=
 ∃(es:Array MapEntry) (clock:Nat),w.heap[b]?=some (.map es clock)/\es.toList.length=ents.length/\∀(i:Nat) (e:MapEntry) (x:ByteArray×List S.Sp),es.toList[i]?=some e->ents[i]?=some x->e.key=.string x.1/\S.Rd w e.val x.2
theorem zuw (w:World):T.Cls (w.alloc (.map #[] 0)) w.heap.size []:=⟨#[],0,heap_alloc_new w _,rfl,fun i e x h=>by simp at h⟩
theorem za5 {w w':World}{b:Nat}{ents:List (ByteArray×List S.Sp)}(h:T.Cls w b ents)(hb:Bl w w'):T.Cls w' b ents:=by
 obtain⟨es,clock,h1,h2,h3⟩:=h;exact⟨es,clock,by rw[hb.block b (qA.1 h1).1];exact h1,h2,fun i e x he hx=>⟨(h3 i e x he hx).1,(h3 i e x he hx).2.below hb qN⟩⟩
theorem zf0 (s:ByteArray):∀(l:List MapEntry) (i:Nat),(∀e∈l,∃t,e.key=.string t/\t≠s)->Instr.findNow .string (.string s) l i=some none
 | [],_,_=>rfl
 | e::l,i,h=>by
  obtain⟨t,ht,hne⟩:=h e (by simp)
  have hb:(s==t)=false:=by
   apply Bool.eq_false_iff.2;intro hh;exact hne ((MapKept.bytes_beq _ _).1 hh).symm
  simp only[Instr.findNow,ht,Instr.sameNow,hb];exact zf0 s l (i+1) fun e' he'=>h e' (by simp[he'])
theorem zjd (s:ByteArray):∀(l:List MapEntry) (i:Nat),(∀e∈l,∃t,e.key=.string t)->(∃e∈l,e.key=.string s)->∃j e,Instr.findNow .string (.string s) l i=some (some (j,e.val))/\e∈l/\e.key=.string s
 | [],_,_,h=>by obtain⟨e,he,_⟩:=h;simp at he
 | e::l,i,hk,h=>by
  obtain⟨t,ht⟩:=hk e (by simp)
  by_cases hst:s=t
  ·subst hst;exact⟨i,e,by simp only[Instr.findNow,ht,Instr.sameNow,(MapKept.bytes_beq s s).2 rfl],by simp,ht⟩
  ·have hb:(s==t)=false:=by
    apply Bool.eq_false_iff.2;intro hh;exact hst ((MapKept.bytes_beq _ _).1 hh)
   obtain⟨e0,he0,hk0⟩:=h
   have hm:e0∈l:=by
    rcases List.mem_cons.1 he0 with rfl|hm
    ·rw[ht] at hk0;cases hk0;exact absurd rfl hst
    ·exact hm
   obtain⟨j,e1,h1,h2,h3⟩:=zjd s l (i+1) (fun x hx=>hk x (by simp[hx])) ⟨e0,hm,hk0⟩;exact⟨j,e1,by simp only[Instr.findNow,ht,Instr.sameNow,hb];exact h1,by simp[h2],h3⟩
theorem za8 {w w':World}{v:Value}{s:List S.Sp}{b:Nat}{es:Array MapEntry}{clock:Nat}(R:S.Rd w v s)(hb:w.heap[b]?=some (.map es clock))(hg:w.grownBy w' (some b)):S.Rd w' v s:=by
 obtain⟨vo,vc,rfl,hn,h⟩:=R;refine⟨vo,vc,rfl,hn,fun hz=> ?_⟩;obtain⟨g,off,rfl,hcl⟩:=h hz;refine⟨g,off,rfl,fun j x hj=> ?_⟩;have h1:=hcl j x hj
 have hne:g≠b:=by
  intro e;subst e;have:=h1.1;rw[World.cell?] at this;simp[hb] at this
 constructor
 ·rw[World.cell?_of_block (a:=⟨g,off+j*2,none⟩) (hg.block g (L.block_lt h1.1) (by simp[hne]))];exact h1.1
 ·rw[World.cell?_of_block (a:=⟨g,off+j*2+1,none⟩) (hg.block g (L.block_lt h1.2) (by simp[hne]))];exact h1.2
theorem zn0 {w:World}{b:Nat}{ents:List (ByteArray×List S.Sp)}(h:T.Cls w b ents)(s:ByteArray)(v:Value)(sp:List S.Sp)(hnew:∀x∈ents,x.1≠s)(R:S.Rd w v sp) :
  ∃w',(Instr.mapUpdate 66 (.map (some b)) (.string s) v).run prog w=.ok () w'/\T.Cls w' b (ents++ [(s,sp)])/\w.grownBy w' (some b):=by
 obtain⟨es,clock,h1,h2,h3⟩:=h
 have hkeys:∀e∈es.toList,∃t,e.key=.string t/\t≠s:=by
  intro e he;obtain⟨i,hi⟩:=List.getElem?_of_mem he;have hlt:i<ents.length:=by rw[<- h2];exact(qL.1 hi).1
  have hx:=h3 i e ents[i] hi (by simp[hlt]);exact⟨_,hx.1,hnew _ (List.getElem_mem _)⟩
 have hf:=zf0 s es.toList 0 hkeys;have hlt:=(qA.1 h1).1
 have hg:w.grownBy ({ w with heap:=w.heap.setIfInBounds b (.map (es.push { key:=.string s,val:=v,born:=clock }) (clock+1)) }:World) (some b):=⟨rfl,rfl,rfl,by simp,fun i _ hi=>by
  have hne:b≠i:=fun e=>hi (by rw[e])
  simp[hne]⟩
 refine⟨({ w with heap:=w.heap.setIfInBounds b (.map (es.push { key:=.string s,val:=v,born:=clock }) (clock+1)) }:World),?_,⟨es.push { key:=.string s,val:=v,born:=clock },clock+1,?_,?_,?_⟩,hg⟩
 ·simp[Instr.mapUpdate,run_underlying underlying66,MapKept.run_getObj_map h1,MapKept.run_checkKey (kt:=9) underlying9 (show MapKept.IsKey .string (.string s) from trivial),MapKept.run_findKey (kt:=9) underlying9 hf,MapKept.run_setObj_map _ h1,Result.andThen]
 ·simp[hlt]
 ·simp;simpa using h2
 ·intro i e x he hx;have hl:es.size=ents.length:=by simpa using h2
  rw[Array.toList_push] at he
  by_cases hi:i<ents.length
  ·rw[List.getElem?_append_left (by simpa [hl] using hi)] at he;rw[List.getElem?_append_left hi] at hx;have:=h3 i e x he hx;exact⟨this.1,za8 this.2 h1 hg⟩
  ·have hi2:i=ents.length:=by
    have:=(qL.1 hx).1;simp at this;omega
   subst hi2;rw[<- h2] at he;rw[List.getElem?_append_right qN] at he hx;simp at he hx;subst he hx;exact⟨rfl,za8 R h1 hg⟩
theorem znz {w:World}{b:Nat}{ents:List (ByteArray×List S.Sp)}(h:T.Cls w b ents)(s:ByteArray) :
  (∃v x,x∈ents/\x.1=s/\S.Rd w v x.2/\(Instr.lookup 66 (.map (some b)) (.string s) true).run prog w=.ok (.tuple #[v,.bool true]) w) ∨
  ((∀x∈ents,x.1≠s)/\(Instr.lookup 66 (.map (some b)) (.string s) true).run prog w=.ok (.tuple #[.slice none 0 0,.bool false]) w):=by
 obtain⟨es,clock,h1,h2,h3⟩:=h
 have hkey:∀e∈es.toList,∃x∈ents,e.key=.string x.1/\S.Rd w e.val x.2:=by
  intro e he;obtain⟨i,hi⟩:=List.getElem?_of_mem he;have hlt:i<ents.length:=by rw[<- h2];exact(qL.1 hi).1
  have hx:=h3 i e ents[i] hi (by simp[hlt]);exact⟨_,List.getElem_mem _,hx.1,hx.2⟩
 by_cases hs:∃x∈ents,x.1=s
 ·left
  obtain⟨x,hx,hxs⟩:=hs
  have hex:∃e∈es.toList,e.key=.string s:=by
   obtain⟨i,hi⟩:=List.getElem?_of_mem hx;have hlt:i<es.toList.length:=by rw[h2];exact(qL.1 hi).1
   have:=h3 i es.toList[i] x (by simp) hi;exact⟨_,List.getElem_mem _,by rw[this.1,hxs]⟩
  obtain⟨j,e,hf,hm,hk⟩:=zjd s es.toList 0 (fun e he=>by obtain⟨x,_,h,_⟩:=hkey e he;exact⟨_,h⟩) hex;obtain⟨y,hy,hyk,hR⟩:=hkey e hm;rw[hk] at hyk;cases hyk;refine⟨e.val,y,hy,rfl,hR,?_⟩;simp[Instr.lookup,run_underlying underlying66,MapKept.run_getObj_map h1,MapKept.run_checkKey (kt:=9) underlying9 (show MapKept.IsKey .string (.string y.1) from trivial),MapKept.run_findKey (kt:=9) underlying9 hf,Result.andThen]
 ·right
  refine⟨fun x hx e=>hs ⟨x,hx,e⟩,?_⟩
  have hf:=zf0 s es.toList 0 fun e he=>by
   obtain⟨x,hx,hk,_⟩:=hkey e he;exact⟨x.1,hk,fun e=>hs ⟨x,hx,e⟩⟩
  have hz:=Tryz.zeroValue27;simp[Instr.lookup,run_underlying underlying66,MapKept.run_getObj_map h1,MapKept.run_checkKey (kt:=9) underlying9 (show MapKept.IsKey .string (.string s) from trivial),MapKept.run_findKey (kt:=9) underlying9 hf,Result.andThen,hz]
theorem zr1 (w:World)(sp:List S.Sp)(C:Array Value)(hC:C=(S.cellsOf sp).toArray)(n:Nat)(hn:n=sp.length)(c:Nat):S.Rd (w.alloc (.cells C 113)) (.slice (some ⟨w.heap.size,0,none⟩) n c) sp:=by
 subst hC hn;refine⟨_,c,rfl,(fun h=>by cases h),fun _=>⟨w.heap.size,0,rfl,fun j x hj=> ?_⟩⟩;have hg:=S.zct hj;rw[World.cell?_alloc_at _ _ _ _ rfl,World.cell?_alloc_at _ _ _ _ rfl];simp only[Nat.zero_add];exact⟨by simpa using hg.1,by simpa using hg.2⟩
def T.names:List (ByteArray×List S.Sp) :=
  [(⟨#[100,105,103,105,116]⟩,[(48,57)]),(⟨#[108,111,119,101,114]⟩,[(97,122),(223,246),(248,255)]),
   (⟨#[117,112,112,101,114]⟩,[(65,90),(192,214),(216,222)]),(⟨#[108,101,116,116,101,114]⟩,[(65,90),(97,122),(192,214),(216,246),(248,255)]),
   (⟨#[118,111,119,101,108]⟩,[(65,65),(69,69),(73,73),(79,79),(85,85),(97,97),(101,101),(105,105),(111,111),(117,117)]),
   (⟨#[103,114,101,101,107]⟩,[(880,1023)]),(⟨#[99,121,114,105,108,108,105,99]⟩,[(1024,1279)]),(⟨#[115,112,97,99,101]⟩,[(9,10),(32,32)]),(⟨#[97,110,121]⟩,[(0,1114111)])]
theorem zqw (w:World):∃w1 b,(Instr.makeMap 66 none).run prog w=.ok (.map (some b)) w1/\T.Cls w1 b []/\Hid (w.heap.size<=b/\Bl w w1) :=
  ⟨_,_,run_makeMap _ _,zuw w,⟨qN,(qR _).alloc qN _⟩⟩
theorem zbu {w w1:World}{b:Nat}{ents:List (ByteArray×List S.Sp)}(hC:T.Cls w1 b ents)(hB:Hid (w.heap.size<=b/\Bl w w1))(s:ByteArray)(sp:List S.Sp)(C:Array Value)(hCC:C=(S.cellsOf sp).toArray)(n c:Nat)(hn:n=sp.length)(hnew:∀x∈ents,x.1≠s) :
    ∃w2,(Instr.mapUpdate 66 (.map (some b)) (.string s) (.slice (some ⟨w1.heap.size,0,none⟩) n c)).run prog (w1.alloc (.cells C 113))=.ok () w2/\T.Cls w2 b (ents++ [(s,sp)])/\Hid (w.heap.size<=b/\Bl w w2):=by
  have b1:Bl w1 (w1.alloc (.cells C 113)):=(qR _).alloc qN _;obtain⟨w2,r,h1,h2⟩:=zn0 (za5 hC b1) s _ sp hnew (zr1 w1 sp C hCC n hn c);have hB1:Bl w (w1.alloc (.cells C 113)):=hB.out.2.alloc hB.out.2.size _;exact⟨w2,r,h1,hB.out.1,hB1.grown h2 hB1.size (fun j hj=>by cases hj;exact hB.out.1)⟩
theorem zdl (w:World):Calls prog 186 #[] w fun e w'=>∃b,e=.returned (.map (some b))/\w.heap.size<=b/\T.Cls w' b T.names/\Bl w w':=by
  go_enter func186,ntmps186
  go_wp2_with fail
  obtain⟨w1,b,r,hC,hB⟩:=zqw w;rw[r];clear r
  go_wp2_with fail
  obtain⟨w2,r,hC,hB⟩:=zbu hC hB ⟨#[100,105,103,105,116]⟩ [(48,57)] #[.int .i32 48,.int .i32 57] rfl 1 1 rfl (by decide);rw[r];clear r
  go_wp2_with fail
  obtain⟨w3,r,hC,hB⟩:=zbu hC hB ⟨#[108,111,119,101,114]⟩ [(97,122),(223,246),(248,255)] #[.int .i32 97,.int .i32 122,.int .i32 223,.int .i32 246,.int .i32 248,.int .i32 255] rfl 3 3 rfl (by decide);rw[r];clear r
  go_wp2_with fail
  obtain⟨w4,r,hC,hB⟩:=zbu hC hB ⟨#[117,112,112,101,114]⟩ [(65,90),(192,214),(216,222)] #[.int .i32 65,.int .i32 90,.int .i32 192,.int .i32 214,.int .i32 216,.int .i32 222] rfl 3 3 rfl (by decide);rw[r];clear r
  go_wp2_with fail
  obtain⟨w5,r,hC,hB⟩:=zbu hC hB ⟨#[108,101,116,116,101,114]⟩ [(65,90),(97,122),(192,214),(216,246),(248,255)] #[.int .i32 65,.int .i32 90,.int .i32 97,.int .i32 122,.int .i32 192,.int .i32 214,.int .i32 216,.int .i32 246,.int .i32 248,.int .i32 255] rfl 5 5 rfl (by decide);rw[r];clear r
  go_wp2_with fail
  refine(zbl 65 _).mono ?_;rintro e w6 ⟨rfl,hb⟩
  replace hC:=za5 hC hb
  replace hB:Hid (w.heap.size<=b/\Bl w w6):=⟨hB.out.1,hB.out.2.trans (hb.mono hB.out.2.size)⟩
  clear hb
  go_wp2_with fail
  refine(zbl 69 _).mono ?_;rintro e w7 ⟨rfl,hb⟩
  replace hC:=za5 hC hb
  replace hB:Hid (w.heap.size<=b/\Bl w w7):=⟨hB.out.1,hB.out.2.trans (hb.mono hB.out.2.size)⟩
  clear hb
  go_wp2_with fail
  refine(zbl 73 _).mono ?_;rintro e w8 ⟨rfl,hb⟩
  replace hC:=za5 hC hb
  replace hB:Hid (w.heap.size<=b/\Bl w w8):=⟨hB.out.1,hB.out.2.trans (hb.mono hB.out.2.size)⟩
  clear hb
  go_wp2_with fail
  refine(zbl 79 _).mono ?_;rintro e w9 ⟨rfl,hb⟩
  replace hC:=za5 hC hb
  replace hB:Hid (w.heap.size<=b/\Bl w w9):=⟨hB.out.1,hB.out.2.trans (hb.mono hB.out.2.size)⟩
  clear hb
  go_wp2_with fail
  refine(zbl 85 _).mono ?_;rintro e w10 ⟨rfl,hb⟩
  replace hC:=za5 hC hb
  replace hB:Hid (w.heap.size<=b/\Bl w w10):=⟨hB.out.1,hB.out.2.trans (hb.mono hB.out.2.size)⟩
  clear hb
  go_wp2_with fail
  refine(zbl 97 _).mono ?_;rintro e w11 ⟨rfl,hb⟩
  replace hC:=za5 hC hb
  replace hB:Hid (w.heap.size<=b/\Bl w w11):=⟨hB.out.1,hB.out.2.trans (hb.mono hB.out.2.size)⟩
  clear hb
  go_wp2_with fail
  refine(zbl 101 _).mono ?_;rintro e w12 ⟨rfl,hb⟩
  replace hC:=za5 hC hb
  replace hB:Hid (w.heap.size<=b/\Bl w w12):=⟨hB.out.1,hB.out.2.trans (hb.mono hB.out.2.size)⟩
  clear hb
  go_wp2_with fail
  refine(zbl 105 _).mono ?_;rintro e w13 ⟨rfl,hb⟩
  replace hC:=za5 hC hb
  replace hB:Hid (w.heap.size<=b/\Bl w w13):=⟨hB.out.1,hB.out.2.trans (hb.mono hB.out.2.size)⟩
  clear hb
  go_wp2_with fail
  refine(zbl 111 _).mono ?_;rintro e w14 ⟨rfl,hb⟩
  replace hC:=za5 hC hb
  replace hB:Hid (w.heap.size<=b/\Bl w w14):=⟨hB.out.1,hB.out.2.trans (hb.mono hB.out.2.size)⟩
  clear hb
  go_wp2_with fail
  refine(zbl 117 _).mono ?_;rintro e w15 ⟨rfl,hb⟩
  replace hC:=za5 hC hb
  replace hB:Hid (w.heap.size<=b/\Bl w w15):=⟨hB.out.1,hB.out.2.trans (hb.mono hB.out.2.size)⟩
  clear hb
  go_wp2_with fail
  obtain⟨w16,r,hC,hB⟩:=zbu hC hB ⟨#[118,111,119,101,108]⟩ [(65,65),(69,69),(73,73),(79,79),(85,85),(97,97),(101,101),(105,105),(111,111),(117,117)] #[.int .i32 65,.int .i32 65,.int .i32 69,.int .i32 69,.int .i32 73,.int .i32 73,.int .i32 79,.int .i32 79,.int .i32 85,.int .i32 85,.int .i32 97,.int .i32 97,.int .i32 101,.int .i32 101,.int .i32 105,.int .i32 105,.int .i32 111,.int .i32 111,.int .i32 117,.int .i32 117] rfl 10 10 rfl (by decide);rw[r];clear r
  go_wp2_with fail
  obtain⟨w17,r,hC,hB⟩:=zbu hC hB ⟨#[103,114,101,101,107]⟩ [(880,1023)] #[.int .i32 880,.int .i32 1023] rfl 1 1 rfl (by decide);rw[r];clear r
  go_wp2_with fail
  obtain⟨w18,r,hC,hB⟩:=zbu hC hB ⟨#[99,121,114,105,108,108,105,99]⟩ [(1024,1279)] #[.int .i32 1024,.int .i32 1279] rfl 1 1 rfl (by decide);rw[r];clear r
  go_wp2_with fail
  refine(zbl 32 _).mono ?_;rintro e w19 ⟨rfl,hb⟩
  replace hC:=za5 hC hb
  replace hB:Hid (w.heap.size<=b/\Bl w w19):=⟨hB.out.1,hB.out.2.trans (hb.mono hB.out.2.size)⟩
  clear hb
  go_wp2_with fail
  obtain⟨w20,r,hC,hB⟩:=zbu hC hB ⟨#[115,112,97,99,101]⟩ [(9,10),(32,32)] #[.int .i32 9,.int .i32 10,.int .i32 32,.int .i32 32] rfl 2 2 rfl (by decide);rw[r];clear r
  go_wp2_with fail
  obtain⟨w21,r,hC,hB⟩:=zbu hC hB ⟨#[97,110,121]⟩ [(0,1114111)] #[.int .i32 0,.int .i32 1114111] rfl 1 1 rfl (by decide);rw[r];clear r
  go_wp2_with fail
  go_ret;exact⟨b,rfl,hB.out.1,hC,hB.out.2⟩
theorem zl8 (z:Int)(h:¬(0<=z/\z<128)):∃a t,M.enc z=a::t/\128<=a.toNat:=by
 by_cases hr:M.right z=true
 ·have hz:0<=z/\z<=1114111:=by
   have:=of_decide_eq_true hr;omega
  obtain⟨n,rfl⟩:∃n:Nat,z=(n:Int):=⟨z.toNat,by omega⟩;rw[M.zey n hr,if_neg (by omega)]
  repeat' split
  all_goals exact⟨_,_,rfl,by rw[M.u8 _ (by omega)];omega⟩
 ·have e:M.enc z=M.enc ((65533:Nat):Int):=by
   have h1:Utf8.valid z=false:=by rw[M.zfj];exact Bool.eq_false_iff.2 hr
   have h2:Utf8.valid ((65533:Nat):Int)=true:=by decide
   unfold M.enc Utf8.encode;rw[h1,h2];rfl
  rw[e,M.zey 65533 (by decide)];exact⟨_,_,rfl,by decide⟩
theorem zk5 (n:Nat)(h:n<128):M.enc (n:Int)= [UInt8.ofNat n]:=by
 have hr:M.right (n:Int)=true:=by unfold M.right;exact decide_eq_true (by omega)
 rw[M.zey n hr,if_pos (by omega)]
theorem zg0:∀(ns:List Nat) (zs:List Int),(∀n∈ns,n<128)->(zs.flatMap fun z=>M.enc z)=ns.map UInt8.ofNat->zs=ns.map Int.ofNat
 | [],[],_,_=>rfl
 | [],z::zs,_,h=>by
  exfalso
  by_cases hz:0<=z/\z<128
  ·obtain⟨n,rfl⟩:∃n:Nat,z=(n:Int):=⟨z.toNat,by omega⟩;rw[List.flatMap_cons,zk5 n (by omega)] at h;simp at h
  ·obtain⟨a,t,he,_⟩:=zl8 z hz;rw[List.flatMap_cons,he] at h;simp at h
 | n::ns,[],_,h=>by simp at h
 | n::ns,z::zs,hn,h=>by
  have h0:=hn n (by simp)
  by_cases hz:0<=z/\z<128
  ·obtain⟨m,rfl⟩:∃m:Nat,z=(m:Int):=⟨z.toNat,by omega⟩;rw[List.flatMap_cons,zk5 m (by omega),List.map_cons,List.singleton_append,List.cons.injEq] at h;have e:=congrArg UInt8.toNat h.1;rw[M.u8 _ (by omega),M.u8 _ (by omega)] at e;subst e;rw[zg0 ns zs (fun x hx=>hn x (by simp[hx])) h.2,List.map_cons];rfl
  ·exfalso;obtain⟨a,t,he,ha⟩:=zl8 z hz;rw[List.flatMap_cons,he,List.map_cons,List.cons_append,List.cons.injEq] at h;have e:=congrArg UInt8.toNat h.1;rw[M.u8 _ (by omega)] at e;omega
theorem zco (ns:List Nat)(s:ByteArray)(hs:s.data.toList=ns.map UInt8.ofNat)(hn:∀n∈ns,n<128)(zs:List Int):runesBytes zs=s↔zs=ns.map Int.ofNat:=by
 constructor
 ·intro h;refine zg0 ns zs hn ?_;rw[<- hs,<- h,zbg]
 ·rintro rfl;apply ByteArray.ext;apply Array.toList_inj.1;rw[zbg,hs,List.flatMap_map];clear hs
  induction ns with
  | nil=>rfl
  | cons n ns ih =>
   have e:M.enc (Int.ofNat n)= [UInt8.ofNat n]:=zk5 n (hn n (by simp));rw[List.flatMap_cons,e,List.map_cons,ih fun x hx=>hn x (by simp[hx])];rfl
theorem zgx (zs:List Int):runesBytes zs=⟨#[100,105,103,105,116]⟩↔zs= [100,105,103,105,116]:=zco [100,105,103,105,116] _ rfl (by decide) zs
theorem zgv (zs:List Int):runesBytes zs=⟨#[108,111,119,101,114]⟩↔zs= [108,111,119,101,114]:=zco [108,111,119,101,114] _ rfl (by decide) zs
theorem zgt (zs:List Int):runesBytes zs=⟨#[117,112,112,101,114]⟩↔zs= [117,112,112,101,114]:=zco [117,112,112,101,114] _ rfl (by decide) zs
theorem zfp (zs:List Int):runesBytes zs=⟨#[108,101,116,116,101,114]⟩↔zs= [108,101,116,116,101,114]:=zco [108,101,116,116,101,114] _ rfl (by decide) zs
theorem zgs (zs:List Int):runesBytes zs=⟨#[118,111,119,101,108]⟩↔zs= [118,111,119,101,108]:=zco [118,111,119,101,108] _ rfl (by decide) zs
theorem zgw (zs:List Int):runesBytes zs=⟨#[103,114,101,101,107]⟩↔zs= [103,114,101,101,107]:=zco [103,114,101,101,107] _ rfl (by decide) zs
theorem zd2 (zs:List Int):runesBytes zs=⟨#[99,121,114,105,108,108,105,99]⟩↔zs= [99,121,114,105,108,108,105,99]:=zco [99,121,114,105,108,108,105,99] _ rfl (by decide) zs
theorem zgu (zs:List Int):runesBytes zs=⟨#[115,112,97,99,101]⟩↔zs= [115,112,97,99,101]:=zco [115,112,97,99,101] _ rfl (by decide) zs
theorem zlz (zs:List Int):runesBytes zs=⟨#[97,110,121]⟩↔zs= [97,110,121]:=zco [97,110,121] _ rfl (by decide) zs
theorem znb (zs:List Int)(x:ByteArray×List S.Sp)(hx:x∈T.names)(h:x.1=runesBytes zs):T.classOf zs=some x.2:=by
 unfold T.names at hx;simp only[List.mem_cons,List.not_mem_nil,or_false] at hx;rcases hx with rfl|rfl|rfl|rfl|rfl|rfl|rfl|rfl|rfl
 ·rw[(zgx zs).1 h.symm];rfl
 ·rw[(zgv zs).1 h.symm];rfl
 ·rw[(zgt zs).1 h.symm];rfl
 ·rw[(zfp zs).1 h.symm];rfl
 ·rw[(zgs zs).1 h.symm];rfl
 ·rw[(zgw zs).1 h.symm];rfl
 ·rw[(zd2 zs).1 h.symm];rfl
 ·rw[(zgu zs).1 h.symm];rfl
 ·rw[(zlz zs).1 h.symm];rfl
theorem znc (zs:List Int)(h:∀x∈T.names,x.1≠runesBytes zs):T.classOf zs=none:=by
 unfold T.classOf;rw[if_neg fun e=>h _ (.head _) ((zgx zs).2 e).symm];rw[if_neg fun e=>h _ (.tail _ (.head _)) ((zgv zs).2 e).symm];rw[if_neg fun e=>h _ (.tail _ (.tail _ (.head _))) ((zgt zs).2 e).symm];rw[if_neg fun e=>h _ (.tail _ (.tail _ (.tail _ (.head _)))) ((zfp zs).2 e).symm];rw[if_neg fun e=>h _ (.tail _ (.tail _ (.tail _ (.tail _ (.head _))))) ((zgs zs).2 e).symm];rw[if_neg fun e=>h _ (.tail _ (.tail _ (.tail _ (.tail _ (.tail _ (.head _)))))) ((zgw zs).2 e).symm];rw[if_neg fun e=>h _ (.tail _ (.tail _ (.tail _ (.tail _ (.tail _ (.tail _ (.head _))))))) ((zd2 zs).2 e).symm];rw[if_neg fun e=>h _ (.tail _ (.tail _ (.tail _ (.tail _ (.tail _ (.tail _ (.tail _ (.head _)))))))) ((zgu zs).2 e).symm];rw[if_neg fun e=>h _ (.tail _ (.tail _ (.tail _ (.tail _ (.tail _ (.tail _ (.tail _ (.tail _ (.head _))))))))) ((zlz zs).2 e).symm]
