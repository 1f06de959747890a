import Derived.Test.YthnmmmkeamcfkaaGreatDoorQPut
set_option maxHeartbeats 0
set_option maxRecDepth 20000
set_option linter.unusedSimpArgs false
set_option linter.unusedVariables false
namespace Go.Proofs.YthnmmmkeamcfkaaGreatDoor
open Go.Proofs.Tryz
section
open Go.RowKit Go.Shelf
theorem zoe (w:World)(v:Value)(r:K.Rule)(R:K.RuIs w v r)(hE:K.ruleE r=0)(vt:Value)(t:List Int)(Rt:L.Rd w vt .i32 t)(ht:t.length<=4000)(k:Int)(hk0:0<=k)(hk1:k<=t.length)(bv ba:Nat)(c1:w.cell? ⟨bv,0,none⟩=some (.iface 163 vt))(c2:w.cell? ⟨ba,0,none⟩=some (.int .i64 k)) :
  Calls prog 141 (#[v]++#[.pointer (some ⟨bv,0,none⟩),.pointer (some ⟨ba,0,none⟩)]) w fun e w'=>e= .returned (.bool (K.matchB r t k))/\Below w.heap.size w w':=by
 have HA:=qH <| fun o=>(qR w).alloc qN o
 have HH:=qH <| fun o=>zg1 _ v r (R.below (HA.out o)) hE vt t (Rt.below (HA.out o) qN) ht k hk0 hk1
 have d1:=fun o=>K.zai c1 o
 have d2:=fun o=>K.zai c2 o
 obtain⟨bo,bc,so,sc,ao,ac,tgo,tc,rfl,_⟩:=R;obtain⟨xo,xc,rfl,_⟩:=Rt;generalize K.matchB r t k=mb at *;clear hE hk0 hk1
 go_enter func141,ntmps141
 go_wp2_with fail
 refine(HH.out _).mono ?_;rintro e w1 ⟨rfl,b1⟩;have HB1:=qH <| (K.zau b1).2.1;clear b1 d1 d2 c1 c2;go_wp2;go_ret;exact⟨by simp,HB1.out⟩
theorem znd (w:World)(v:Value)(l:List K.Rule)(R0:V.Rus w v l)(hl:l.length<=200)(hE:∀r∈l,K.ruleE r=0)(vt:Value)(t:List Int)(Rt:L.Rd w vt .i32 t)(ht:t.length<=4000)(k:Int)(hk0:0<=k)(hk1:k<=t.length)(bv ba:Nat)(c1:w.cell? ⟨bv,0,none⟩=some (.iface 163 vt))(c2:w.cell? ⟨ba,0,none⟩=some (.int .i64 k)) :
  Calls prog 75 #[v,.func (.func 141) #[] #[.pointer (some ⟨bv,0,none⟩),.pointer (some ⟨ba,0,none⟩)]] w fun e w'=>e= .returned (.int .i64 (K.which l t k))/\Below w.heap.size w w':=by
 have HR:=qH R0;have HT:=qH Rt;have HE0:=qH hE;have HC:Hid (w.cell? ⟨bv,0,none⟩=some (.iface 163 vt)/\w.cell? ⟨ba,0,none⟩=some (.int .i64 k)):=⟨c1,c2⟩;obtain⟨lao,lcap,rfl⟩:=R0.len;clear R0 Rt hE c1 c2;have eg:∀args w,(callFunc 141 args).run prog w= .ok (.enter 141 args) w:=enters_of func141 (by kernel_rfl) rfl;obtain⟨o,HO⟩:∃o,Hid (K.whichN t k 0 l=o):=⟨_,rfl⟩;unfold K.which;rw[HO.out]
 go_enter func75,ntmps75
 go_wp2
 go_loopw [8] (fun i wr=>∃j:Nat,j<=l.length/\i= .int .i64 j/\Hid (K.whichN t k j (l.drop j)=o)/\Hid (Below w.heap.size w wr)) (fun i _=>l.length - (intOf i).toNat)
 case atStart=>exact⟨0,Nat.zero_le _,rfl,HO,qR w⟩
 case round =>
  obtain⟨j,hj,rfl,HW,HB⟩:=hrel
  by_cases hlt:j<l.length
  ·obtain⟨p,hp⟩:∃x,l[j]?=some x:=⟨l[j],by simp[hlt]⟩;obtain⟨ao',cap',e',_,hcs⟩:=HR.out.below HB.out;cases e';obtain⟨b,off,rfl,hcell⟩:=hcs (by intro h;subst h;simp at hlt);obtain⟨bo,bc,so,sc,ao,ac,tgo,tc,a0,a1,a2,a3,a4,a5,a6,hP⟩:=hcell j p hp;have HE2:Hid (K.whichN t k j (l.drop j)=if K.matchB p t k=true then (j:Int) else K.whichN t k (j+1) (l.drop (j+1))):=K.zju hp;have hsz:=HB.out.size;have g1:wr.cell? ⟨bv,0,none⟩=some (.iface 163 vt):=by rw[HB.out.cell (p:=⟨bv,0,none⟩) (L.block_lt HC.out.1)];exact HC.out.1
   have g2:wr.cell? ⟨ba,0,none⟩=some (.int .i64 k):=by rw[HB.out.cell (p:=⟨ba,0,none⟩) (L.block_lt HC.out.2)];exact HC.out.2
   have HW2:=qH <| zoe _ _ p hP (HE0.out p (List.mem_of_getElem? hp)) vt t (HT.out.below HB.out qN) ht k hk0 hk1 bv ba g1 g2;obtain⟨z,HZ⟩:∃z,Hid (K.matchB p t k=z):=⟨_,rfl⟩;rw[HZ.out] at HW2 HE2;clear hp hcell hcs hP g1 g2;obtain⟨st,fi,be,sou,af,ta,cu⟩:=p;simp only at a0 a1 a2 a3 a4 a5 a6 HW2
   go_wp2_with fail
   refine HW2.out.mono ?_;rintro e w1 ⟨rfl,B1⟩;have HB1:=qH <| HB.out.trans (B1.mono hsz);clear B1;cases z with
   | false =>
    go_wp2
    go_roundw
    case rel=>exact⟨j+1,by omega,by go_num,by show _=_;rw[<- HW.out,HE2.out];simp,HB1⟩
    case measure=>simp[intOf];omega
   | true =>
    go_wp2;go_ret
    have h:=HE2.out;rw[HW.out,if_pos trivial] at h;exact⟨by rw[h];rfl,HB1.out⟩
  ·have h:=HW.out;rw[List.drop_eq_nil_of_le (by omega)] at h;go_wp2;go_ret;exact⟨by rw[<- h];rfl,HB.out⟩
theorem zeg (w:World)(v:Value)(l:List K.Rule)(R0:V.Rus w v l)(hl:l.length<=200)(hE:∀r∈l,K.ruleE r=0)(vt:Value)(t:List Int)(Rt:L.Rd w vt .i32 t)(ht:t.length<=4000)(k:Int)(hk0:0<=k)(hk1:k<=t.length) :
  Calls prog 89 #[v,.iface 163 vt,.int .i64 k] w fun e w'=>e= .returned (.int .i64 (K.which l t k))/\Below w.heap.size w w':=by
 have HA:=qH <| fun o1 o2=>((qR w).alloc qN o1).alloc (by simp) o2
 have h2:=K.zar (w:=w) (qR ((w.alloc (.cells #[.iface 163 vt] 223)).alloc (.cells #[.int .i64 k] 3)))
 have HI:Hid (Calls prog 75 #[v,.func (.func 141) #[] #[.pointer (some ⟨w.heap.size,0,none⟩),.pointer (some ⟨w.heap.size+1,0,none⟩)]] ((w.alloc (.cells #[.iface 163 vt] 223)).alloc (.cells #[.int .i64 k] 3)) fun e w'=>e= .returned (.int .i64 (K.which l t k))/\Below ((w.alloc (.cells #[.iface 163 vt] 223)).alloc (.cells #[.int .i64 k] 3)).heap.size ((w.alloc (.cells #[.iface 163 vt] 223)).alloc (.cells #[.int .i64 k] 3)) w') :=
  znd _ v l (R0.below (HA.out _ _)) hl hE vt t (Rt.below (HA.out _ _) qN) ht k hk0 hk1 _ _ (K.zad (i:=0) h2.1 rfl) (K.zad (i:=0) h2.2.1 rfl)
 have hmf:∀(fn:Fn) (first cap:Array Value) (w:World),(Instr.makeFunc fn first cap).run prog w= .ok (.func fn first cap) w:=fun _ _ _ _=>rfl
 obtain⟨lao,lcap,rfl⟩:=R0.len;generalize K.which l t k=o at *;clear h2 hE hk0 hk1 R0 Rt
 go_enter func89,ntmps89
 go_wp2_with fail
 refine HI.out.mono ?_;rintro e w1 ⟨rfl,b1⟩;have HB1:=qH <| (HA.out _ _).trans (b1.mono (HA.out _ _).size);clear b1;go_wp2;go_ret;exact⟨by simp,HB1.out⟩
end
section
open Go.RowKit Go.Lib
namespace K
theorem OwnT.rd {w:World}{g cap:Nat}{T:List Int}(h:OwnT w g cap T):L.Rd w (.slice (some ⟨g,0,none⟩) T.length cap) .i32 T:=by
 obtain⟨cur,row,hl,hf,_,hc⟩:=h;refine⟨_,cap,rfl,fun e=>(by cases e),fun _=>⟨g,0,rfl,fun j z hj=> ?_⟩⟩;have hlt:=(qL.1 hj).1;have e:cur[j]?=(cur.take T.length)[j]?:=by rw[List.getElem?_take,if_pos hlt]
 rw[Nat.zero_add,row.cell,e,hc];unfold ints;rw[List.getElem?_map,hj];rfl
theorem OwnT.below {w w':World}{g cap:Nat}{T:List Int}(h:OwnT w g cap T)(hb:Below w.heap.size w w'):OwnT w' g cap T:=by
 obtain⟨cur,row,h⟩:=h;exact⟨cur,row.block (hb.block g row.lt),h⟩
theorem St.below {B bs g cap:Nat}{w w':World}{T:List Int}{k:Int}(h:St B bs w g cap T k)(hb:Below w.heap.size w w'):St B bs w' g cap T k :=
 ⟨h.1,zae h.2.1 hb,h.2.2.1,h.2.2.2.below hb⟩
theorem zi0 {w w':World}(h:∀b,b<w.heap.size->w'.heap[b]?=w.heap[b]?):R.Keeps w w':=fun b o v hv=>by
 have e:=h b (L.block_lt hv);rw[World.cell?_of_block (a:=⟨b,o,none⟩) e];exact hv
end K
theorem zpq (w0:World)(vl:Value)(l:List K.Rule)(R0:V.Rus w0 vl l)(hl:l.length<=200)(hE:∀r∈l,K.ruleE r=0)(w:World)(hX:Below w0.heap.size w0 w)(bs g cap:Nat)(T:List Int)(k:Nat)(hS:K.St w0.heap.size bs w g cap T k)(h4:T.length<=4000)(hk:k<T.length)(hw:K.which l T k= -1) :
  Calls prog 45 #[.pointer (some ⟨bs,0,none⟩),vl] w fun e w'=>e= .returned (.tuple #[.int .i64 (-1),.int .i64 0])/\K.St w0.heap.size bs w' g cap T (k+1)/\Below w0.heap.size w w':=by
 have HS:=qH hS;have HX:=qH hX;have HF:=qH <| zeg w.drew vl l (R0.below hX.drew) hl hE _ T hS.2.2.2.rd h4 k (by omega) (by omega)
 have HK:Hid (∀w1,Below w.drew.heap.size w.drew w1->w1.cell? ⟨bs,0,none⟩=some (.slice (some ⟨g,0,none⟩) T.length cap)/\w1.cell? ⟨bs,1,none⟩=some (.int .i64 k)):=fun w1 hb=>by
  have h:=K.zae (w:=w.drew) hS.2.1 hb;exact⟨K.zad h rfl,K.zad h rfl⟩
 have x0:=K.zad (i:=0) hS.2.1 rfl;have x1:=K.zad (i:=1) hS.2.1 rfl;have HR0:=qH R0;have HE:=qH hE;obtain⟨lao,lcap,rfl⟩:=R0.len;rw[hw] at HF;clear R0 hE hX hS
 go_enter func45,ntmps45
 go_wp2
 go_region_held3 (fun w'=>w'.cell? ⟨bs,0,none⟩=some (.slice (some ⟨g,0,none⟩) T.length cap)/\w'.cell? ⟨bs,1,none⟩=some (.int .i64 k)) (first | exact HK.out _ b1 | go_keep) (first | (go_at_call 89;refine HF.out.mono ?_;rintro e w1 ⟨rfl,b1⟩) | fail)
 have HB1:=qH <| (HX.out.drew).trans (b1.mono (by show w0.heap.size<=w.heap.size;exact HX.out.size));have HW1:=qH <| ((qR w).drew).trans (b1.mono (by show w0.heap.size<=w.heap.size;exact HX.out.size));have HS1:=qH <| K.St.below (w:=w.drew) HS.out b1;have HWW:Hid (Below w.heap.size w w1):=((qR w).drew).trans b1;clear b1 HK HF x0 x1;have x1:=K.zad (i:=1) HS1.out.2.1 rfl;have f1:=frozen_of_row w1 bs 1 _ _ HS1.out.2.1;go_wp2
 go_ret2
 obtain⟨cur,row,hcu⟩:=HS1.out.2.2.2
 have hgs:g≠bs:=fun e=>by
  have h1:=row;rw[e] at h1;have:=h1.symm.trans HS1.out.2.1;simp at this
 have hwr:IntKind.i64.wrap ((k:Int)+1)=(k:Int)+1:=by rw[IntKind.wrap_i64];omega
 refine⟨by simp,⟨HS1.out.1,?_,HS1.out.2.2.1,cur,row.block (heap_setCell_other w1 ⟨bs,1,none⟩ g _ (by simpa using hgs)),hcu⟩,HW1.out.setCell (p:=⟨bs,1,none⟩) HS1.out.1 _⟩;exact heap_setCell_same w1 bs 1 _ _ _ HS1.out.2.1
theorem zpr (w0:World)(vl:Value)(l:List K.Rule)(R0:V.Rus w0 vl l)(hl:l.length<=200)(hE:∀r∈l,K.ruleE r=0)(w:World)(hX:Below w0.heap.size w0 w)(bs g cap:Nat)(T:List Int)(k:Nat)(hS:K.St w0.heap.size bs w g cap T k)(h4:T.length<=4000)(hk:k<T.length)(j:Nat)(r:K.Rule)(hw:K.which l T k=(j:Int))(hr:l[j]?=some r)(hm:K.matchB r T k=true)(hlen:4000<T.length - r.source.length+r.target.length) :
  Calls prog 45 #[.pointer (some ⟨bs,0,none⟩),vl] w fun e w'=>e= .returned (.tuple #[.int .i64 0,.int .i64 4])/\Below w.heap.size w w':=by
 have HS:=qH hS;have HX:=qH hX;have HF:=qH <| zeg w.drew vl l (R0.below hX.drew) hl hE _ T hS.2.2.2.rd h4 k (by omega) (by omega)
 have HK:Hid (∀w1,Below w.drew.heap.size w.drew w1->w1.cell? ⟨bs,0,none⟩=some (.slice (some ⟨g,0,none⟩) T.length cap)/\w1.cell? ⟨bs,1,none⟩=some (.int .i64 k)):=fun w1 hb=>by
  have h:=K.zae (w:=w.drew) hS.2.1 hb;exact⟨K.zad h rfl,K.zad h rfl⟩
 have x0:=K.zad (i:=0) hS.2.1 rfl;have x1:=K.zad (i:=1) hS.2.1 rfl;have HR0:=qH R0;have HE:=qH hE;obtain⟨lao,lcap,rfl⟩:=R0.len;rw[hw] at HF;clear R0 hE hX hS
 go_enter func45,ntmps45
 go_wp2
 go_region_held3 (fun w'=>w'.cell? ⟨bs,0,none⟩=some (.slice (some ⟨g,0,none⟩) T.length cap)/\w'.cell? ⟨bs,1,none⟩=some (.int .i64 k)) (first | exact HK.out _ b1 | go_keep) (first | (go_at_call 89;refine HF.out.mono ?_;rintro e w1 ⟨rfl,b1⟩) | fail)
 have HB1:=qH <| (HX.out.drew).trans (b1.mono (by show w0.heap.size<=w.heap.size;exact HX.out.size));have HW1:=qH <| ((qR w).drew).trans (b1.mono (by show w0.heap.size<=w.heap.size;exact HX.out.size));have HS1:=qH <| K.St.below (w:=w.drew) HS.out b1;have HWW:Hid (Below w.heap.size w w1):=((qR w).drew).trans b1;clear b1 HK HF x0 x1;obtain⟨ao',cap',e',_,hcs⟩:=HR0.out;cases e';obtain⟨b,off,rfl,hcell⟩:=hcs (by intro h;subst h;simp at hr);obtain⟨bo,bc,so,sc,ao,ac,tgo,tc,c0,c1,c2,c3,c4,c5,c6,hP⟩:=hcell j r hr;have HP:=qH hP;have lb:=L.block_lt c0;rw[<- HB1.out.cell (p:=⟨b,off+j*7,none⟩) lb] at c0;rw[<- HB1.out.cell (p:=⟨b,off+j*7+1,none⟩) lb] at c1;rw[<- HB1.out.cell (p:=⟨b,off+j*7+2,none⟩) lb] at c2;rw[<- HB1.out.cell (p:=⟨b,off+j*7+3,none⟩) lb] at c3;rw[<- HB1.out.cell (p:=⟨b,off+j*7+4,none⟩) lb] at c4;rw[<- HB1.out.cell (p:=⟨b,off+j*7+5,none⟩) lb] at c5;rw[<- HB1.out.cell (p:=⟨b,off+j*7+6,none⟩) lb] at c6;have hjl:=(qL.1 hr).1;have hr0:=HE.out r (List.mem_of_getElem? hr);have hin:=K.zhz (K.zal hr0).2.2.2.1 hm;have HP2:=qH <| zta w1 w0.heap.size bs g cap T k HS1.out h4 _ r (HP.out.below HB1.out) hr0 (by omega) hlen;have hj0:(0:Int)<=j:=by omega
 clear hcs hcell hP HP hr hm hin hr0;obtain⟨st,fi,be,sou,af,ta,cu⟩:=r;simp only at c0 c1 c2 c3 c4 c5 c6 HP2
 go_wp2_with fail
 refine HP2.out.mono ?_;rintro e w2 ⟨rfl,b2⟩;have HB2:=qH <| HWW.out.trans (b2.mono HWW.out.size);clear b2 HP2;go_wp2
 go_ret2
 exact⟨by simp,HB2.out⟩
theorem zsr (w0:World)(vl:Value)(l:List K.Rule)(R0:V.Rus w0 vl l)(hl:l.length<=200)(hE:∀r∈l,K.ruleE r=0)(w:World)(hX:Below w0.heap.size w0 w)(bs g cap:Nat)(T:List Int)(k:Nat)(hS:K.St w0.heap.size bs w g cap T k)(h4:T.length<=4000)(hk:k<T.length)(j:Nat)(r:K.Rule)(hw:K.which l T k=(j:Int))(hr:l[j]?=some r)(hm:K.matchB r T k=true)(hlen:T.length - r.source.length+r.target.length<=4000)(T2:List Int)(hT2:T2=T.take k++r.target++T.drop (k+r.source.length)) :
  Calls prog 45 #[.pointer (some ⟨bs,0,none⟩),vl] w fun e w'=>e= .returned (.tuple #[.int .i64 (j:Int),.int .i64 0])/\∃g' cap',K.St w0.heap.size bs w' g' cap' T2 (k+r.cursor)/\Below w0.heap.size w w':=by
 have HS:=qH hS;have HX:=qH hX;have HF:=qH <| zeg w.drew vl l (R0.below hX.drew) hl hE _ T hS.2.2.2.rd h4 k (by omega) (by omega)
 have HK:Hid (∀w1,Below w.drew.heap.size w.drew w1->w1.cell? ⟨bs,0,none⟩=some (.slice (some ⟨g,0,none⟩) T.length cap)/\w1.cell? ⟨bs,1,none⟩=some (.int .i64 k)):=fun w1 hb=>by
  have h:=K.zae (w:=w.drew) hS.2.1 hb;exact⟨K.zad h rfl,K.zad h rfl⟩
 have x0:=K.zad (i:=0) hS.2.1 rfl;have x1:=K.zad (i:=1) hS.2.1 rfl;have HR0:=qH R0;have HE:=qH hE;obtain⟨lao,lcap,rfl⟩:=R0.len;rw[hw] at HF;clear R0 hE hX hS
 go_enter func45,ntmps45
 go_wp2
 go_region_held3 (fun w'=>w'.cell? ⟨bs,0,none⟩=some (.slice (some ⟨g,0,none⟩) T.length cap)/\w'.cell? ⟨bs,1,none⟩=some (.int .i64 k)) (first | exact HK.out _ b1 | go_keep) (first | (go_at_call 89;refine HF.out.mono ?_;rintro e w1 ⟨rfl,b1⟩) | fail)
 have HB1:=qH <| (HX.out.drew).trans (b1.mono (by show w0.heap.size<=w.heap.size;exact HX.out.size));have HW1:=qH <| ((qR w).drew).trans (b1.mono (by show w0.heap.size<=w.heap.size;exact HX.out.size));have HS1:=qH <| K.St.below (w:=w.drew) HS.out b1;have HWW:Hid (Below w.heap.size w w1):=((qR w).drew).trans b1;clear b1 HK HF x0 x1;obtain⟨ao',cap',e',_,hcs⟩:=HR0.out;cases e';obtain⟨b,off,rfl,hcell⟩:=hcs (by intro h;subst h;simp at hr);obtain⟨bo,bc,so,sc,ao,ac,tgo,tc,c0,c1,c2,c3,c4,c5,c6,hP⟩:=hcell j r hr;have HP:=qH hP;have lb:=L.block_lt c0;rw[<- HB1.out.cell (p:=⟨b,off+j*7,none⟩) lb] at c0;rw[<- HB1.out.cell (p:=⟨b,off+j*7+1,none⟩) lb] at c1;rw[<- HB1.out.cell (p:=⟨b,off+j*7+2,none⟩) lb] at c2;rw[<- HB1.out.cell (p:=⟨b,off+j*7+3,none⟩) lb] at c3;rw[<- HB1.out.cell (p:=⟨b,off+j*7+4,none⟩) lb] at c4;rw[<- HB1.out.cell (p:=⟨b,off+j*7+5,none⟩) lb] at c5;rw[<- HB1.out.cell (p:=⟨b,off+j*7+6,none⟩) lb] at c6;have hjl:=(qL.1 hr).1;have hr0:=HE.out r (List.mem_of_getElem? hr);have hin:=K.zhz (K.zal hr0).2.2.2.1 hm
 have HP2:Hid (Calls prog 90 #[.pointer (some ⟨bs,0,none⟩),.agg #[.bool r.start,.bool r.fin,.slice bo r.before.length bc,.slice so r.source.length sc,.slice ao r.after.length ac,.slice tgo r.target.length tc,.int .i64 r.cursor]] w1 fun e w'=>e= .returned (.int .i64 0)/\∃g' cap',K.St w0.heap.size bs w' g' cap' (T.take k++r.target++T.drop (k+r.source.length)) (k+r.cursor)/\Below w0.heap.size w1 w'):=by
  refine zs9 w1 w0.heap.size bs g cap T k HS1.out h4 _ r (fun w' hw'=>V.zef HP.out (K.zi0 fun b hb=>(hw' b hb).trans (HB1.out.block b hb))) hr0 (fun g' hg' bo' bc' so' sc' ao' ac' tgo' tc' he hne=> ?_) (by omega) hlen;obtain⟨_,_,_,_,_,_,_,_,he2,_,_,_,h5,_⟩:=HP.out;rw[he2] at he;simp at he;obtain⟨_,_,_,⟨e1,e2⟩⟩:=he;subst e1 e2;obtain⟨_,_,e3,_,hc5⟩:=h5;cases e3;obtain⟨b5,off5,e4,hcell5⟩:=hc5 hne;obtain⟨z,hz⟩:∃z,r.target[0]?=some z:=⟨r.target[0]'(List.length_pos_iff.2 hne),by simp⟩;have:=L.block_lt (hcell5 0 z hz);rw[e4];intro h6;have h7:b5=g':=by simpa [Value.ownBlock] using h6
  omega
 rw[<- hT2] at HP2;have hj0:(0:Int)<=j:=by omega
 clear hT2 hcs hcell hP HP hr hm hin hr0 hlen;obtain⟨st,fi,be,sou,af,ta,cu⟩:=r;simp only at c0 c1 c2 c3 c4 c5 c6 HP2
 go_wp2_with fail
 refine HP2.out.mono ?_;rintro e w2 ⟨rfl,g',cap',s2,b2⟩;have HB2:Hid (K.St w0.heap.size bs w2 g' cap' T2 (k+cu)/\Below w0.heap.size w w2):=⟨s2,HW1.out.trans b2⟩;clear b2 s2 HP2;go_wp2
 go_ret2
 exact⟨by simp,⟨g',cap',HB2.out.1⟩,HB2.out.2⟩
end
section
open Go.RowKit
theorem zeh (w:World)(v:Value)(l:List K.Rule)(R0:V.Rus w v l)(vt:Value)(t:List Int)(Rt:L.Rd w vt .i32 t)(ht:t.length<=140737488355328) :
  Calls prog 42 #[v,vt] w fun e w'=>e= .returned (.agg #[.int .i64 (K.checkF l t).1,.int .i64 (K.checkF l t).2])/\Below w.heap.size w w':=by
 have HA:=qH <| fun o=>(qR w).alloc qN o
 have HW:=qH <| fun o=>zbv _ _ l (R0.below (HA.out o))
 have HT:=qH <| fun X hX=>zf0 X vt t (Rt.below hX qN) ht
 obtain⟨ao,cap,rfl⟩:=R0.len;obtain⟨xo,xc,rfl,_⟩:=Rt;unfold K.checkF;obtain⟨⟨e1,e2⟩,he⟩:∃o,K.rulesF l=o:=⟨_,rfl⟩;rw[he] at HW ⊢;generalize K.textE t=e3 at *;simp only at HW ⊢;obtain⟨⟨o1,o2⟩,HO⟩:∃o:Int×Int,Hid ((if e1=0 then (e3,0) else (e1,e2))=o):=⟨_,rfl⟩;rw[HO.out];clear he R0
 go_enter func42,ntmps42
 go_wp2_with fail
 refine(HW.out _).mono ?_;rintro e w1 ⟨rfl,b1⟩;obtain⟨h1,B1,s1⟩:=K.zau b1;have HB1:=qH B1;have HX1:Hid (w1.heap[w.heap.size]?=some (.cells #[.int .i64 0,.int .i64 0] 38)):=h1;clear b1 B1 HW
 by_cases q:e1=0
 ·subst q;have ho:=HO.out;rw[if_pos rfl] at ho;cases ho;clear h1;have HB2:=qH <| fun o=>HB1.out.alloc (by omega) o
  go_wp2_with fail
  refine(HT.out _ (HB2.out _)).mono ?_;rintro e w2 ⟨rfl,b2⟩;have HB3:=qH <| (HB2.out _).trans (b2.mono (HB2.out _).size)
  have h2:w2.heap[w.heap.size]?=some (.cells #[.int .i64 0,.int .i64 0] 38):=by
   rw[(K.zau b2).2.1.block _ (by omega)];exact HX1.out
  obtain⟨x0,x1,f0,f1⟩:=K.box2 h2;clear b2 h2;go_wp2;refine bodyPost_ret (v:= .agg #[.int .i64 e3,.int .i64 0]) (by simp[results,results42,go_sem, *]) rfl ?_;exact⟨rfl,(HB3.out.setCell (p:=⟨w.heap.size,0,none⟩) qN _).setCell (p:=⟨w.heap.size,1,none⟩) qN _⟩
 ·have ho:=HO.out;rw[if_neg q] at ho;cases ho;obtain⟨x0,x1,f0,f1⟩:=K.box2 h1;have k0:=fun o=>K.zai x0 o
  have k1:=fun o=>K.zai x1 o
  have g0:=fun o=>K.zao h1 o 0
  have g1:=fun o=>K.zao h1 o 1
  clear h1;go_wp2;refine bodyPost_ret (v:= .agg #[.int .i64 e1,.int .i64 e2]) (by simp[results,results42,go_sem, *]) rfl ?_;exact⟨rfl,((HB1.out.alloc (by omega) _).setCell (p:=⟨w.heap.size,0,none⟩) qN _).setCell (p:=⟨w.heap.size,1,none⟩) qN _⟩
end
section
open Go.RowKit Go.Lib
theorem zgr (w:World)(v:Value)(t:List Int)(R:L.Rd w v .i32 t)(hl:t.length<=4000) :
  Calls prog 43 #[v] w fun e w'=>∃v',e= .returned v'/\w'.ownsRow w.heap.size 21 1 v' t.length (K.ints t)/\Below w.heap.size w w':=by
 obtain⟨ao,cap,rfl,hn,hc⟩:=R;obtain⟨i0,hi,hz0,hz1,hz2⟩:=info_parts Tryz.infoI32;have q22:∀(w:World) (a:Option Addr) (n c n' c':Nat),(binOp .eql 33 (.slice a n c) (.slice none n' c')).run prog w= .ok (.bool a.isNone) w:=fun w a n c n' c'=>Lib.run_eql_slice_nil w _ _ a n c n' c' underlying33
 cases ao with
 | none =>
  have h0:t= []:=by
   cases t with
   | nil=>rfl
   | cons z zs=>obtain⟨b,off,h,_⟩:=hc (by simp);simp at h
  subst h0;have:=hn rfl;subst this;clear hc
  go_enter func43,ntmps43
  go_wp2;go_ret
  exact⟨_,rfl,World.ownsRow_nil _ _ _ _,qR _⟩
 | some ad =>
  have HC:Hid (∀j u,(K.ints t)[j]?=some u->w.cell? (ad.add j)=some u):=by
   intro j u hj;obtain⟨z,hz,rfl⟩:=K.zc1 hj;obtain⟨b,off,hao,hcell⟩:=hc (by intro h;subst h;simp at hz);simp at hao;subst hao;rw[L.addr_add];exact hcell j z hz
  clear hc;have OW:Hid ((w.alloc (.cells #[] 21)).ownsRow w.heap.size 21 1 (.slice (some ⟨w.heap.size,0,none⟩) 0 0) 0 []):=World.ownsRow_made w #[] 0 qN (Nat.zero_le _) (by simp)
  go_enter func43,ntmps43
  go_wp2_with (at_builtin;go_must (refine wpList_append_own _ rfl _ _ 33 rfl w.heap.size 21 i0 (.int .i32 0) 1 4 underlying33 hi hz0 hz1 hz2 rfl (by decide) _ _ _ rfl OW.out ad t.length cap (K.ints t) rfl (by rw[K.zam];omega) (fun j u hj=>Lib.cell?_alloc_some _ (HC.out j u hj)) (K.zd0 t) (by unfold maxLen;omega) (by omega) (by simp) ?_;intro v' w3 hown' hgrow3 hnil3))
  go_ret;refine⟨v',rfl,by simpa using hown',?_⟩
  exact((qR w).alloc qN _).grown hgrow3 (by simp) (fun k hk=>(OW.out.lt k hk).1)
