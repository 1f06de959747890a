import Derived.Test.YtcadaallpiekiaaGreatDoorVFit
import Derived.Test.YtcadaallpiekiaaGreatDoorShNames
set_option maxHeartbeats 0
set_option maxRecDepth 20000
set_option linter.unusedSimpArgs false
set_option linter.unusedVariables false
namespace Go.Proofs.YtcadaallpiekiaaGreatDoor
open Go.Proofs.Tryz
section
open Go.RowKit Go.Lib
theorem V.five {w W:World}{B a b:Nat}(hb:Below B w W)(ha:B<=a)(hbb:B<=b)(v0 v1 v2 v3 v4:Value) :
  Below B w (((((W.setCell ⟨a,0,none⟩ v0).setCell ⟨a,1,none⟩ v1).setCell ⟨a,2,none⟩ v2).setCell ⟨b,0,none⟩ v3).setCell ⟨b,1,none⟩ v4) :=
 ((((hb.setCell (p:=⟨a,0,none⟩) ha _).setCell (p:=⟨a,1,none⟩) ha _).setCell (p:=⟨a,2,none⟩) ha _).setCell (p:=⟨b,0,none⟩) hbb _).setCell (p:=⟨b,1,none⟩) hbb _
theorem zqi (w:World)(v:Value)(l:List R.Part)(R0:R.Pts w v l)(hbad:(V.varsF l).1.1≠0) :
  Calls prog 12 #[v] w fun e w'=>e=.returned (.tuple #[.agg #[.bool false,.slice none 0 0,.slice none 0 0],.agg #[.int .i64 (V.varsF l).1.1,.int .i64 (V.varsF l).1.2]])/\Bl w w':=by
 have HA:=qH<|fun o1 o2=>((qR w).alloc qN o1).alloc (by simp) o2
 have HC:Hid (∀o1 o2,Calls prog 31 #[v] ((w.alloc o1).alloc o2) fun e w'=>e=.returned (.tuple #[.map none,.agg #[.int .i64 (V.varsF l).1.1,.int .i64 (V.varsF l).1.2]])/\Below ((w.alloc o1).alloc o2).heap.size ((w.alloc o1).alloc o2) w'):=fun o1 o2 =>
  (zbr _ _ l (R0.below (HA.out _ _))).mono fun e w' ⟨h1,h2⟩=>⟨h1.elim (fun h=>absurd h.1 hbad) fun h=>h.2,h2⟩
 obtain⟨ao,cap,rfl⟩:=R0.len;obtain⟨⟨⟨e1,e2⟩,kn⟩,he⟩:∃o,V.varsF l=o:=⟨_,rfl⟩;rw[he] at HC hbad ⊢;simp only at HC hbad ⊢;clear he R0
 go_enter func12,ntmps12
 go_wp2_with fail
 refine(HC.out _ _).mono ?_;rintro e w1 ⟨rfl,b1⟩;obtain⟨h1,h2,B1,s1⟩:=K.za3 b1;have HB2:=qH<|fun o=>B1.alloc (by omega) o
 have k0:∀o,(w1.alloc o).cell? ⟨w.heap.size,0,none⟩=some (.bool false):=fun o=>K.zai (K.zad h1 rfl) o
 have k1:∀o,(w1.alloc o).cell? ⟨w.heap.size,1,none⟩=some (.slice none 0 0):=fun o=>K.zai (K.zad h1 rfl) o
 have k2:∀o,(w1.alloc o).cell? ⟨w.heap.size,2,none⟩=some (.slice none 0 0):=fun o=>K.zai (K.zad h1 rfl) o
 have k3:∀o,(w1.alloc o).cell? ⟨w.heap.size+1,0,none⟩=some (.int .i64 0):=fun o=>K.zai (K.zad h2 rfl) o
 have k4:∀o,(w1.alloc o).cell? ⟨w.heap.size+1,1,none⟩=some (.int .i64 0):=fun o=>K.zai (K.zad h2 rfl) o
 have g0:=fun o i=>K.zal h1 o i
 have g1:=fun o i=>K.zal h2 o i
 clear b1 B1 HC h1 h2;go_wp2
 go_region
 go_wp2;refine bodyPost_ret (v:=.tuple #[.agg #[.bool false,.slice none 0 0,.slice none 0 0],.agg #[.int .i64 e1,.int .i64 e2]]) (by simp[results,results12,go_sem, *]) rfl ?_
 exact⟨rfl,(V.five (HB2.out _) qN (by omega) _ _ _ _ _).drew⟩
namespace V
theorem done {F:Nat}{tops:List Nat}{w:World}{vo vp:Value}{s:Script}{rvs:List Value}(hL:Leaf tops w fun W=>S.Rd W vo s.only)(hn:s.only.length<=17592186044160)(hP:PS F tops w vp s.passes rvs)(hl:s.passes.length<=1000)(hr:∀p∈s.passes,p.rules.length<=1000){a b:Nat}(ha:a∈tops)(hb:b∈tops)(haF:a<F)(hbF:b<F)(v0 v1 v2 v3 v4:Value) :
  ScIs (((((w.setCell ⟨a,0,none⟩ v0).setCell ⟨a,1,none⟩ v1).setCell ⟨a,2,none⟩ v2).setCell ⟨b,0,none⟩ v3).setCell ⟨b,1,none⟩ v4) (.agg #[.bool s.has,vo,vp]) s:=by
 have h1:=(((((hL.moves (Moves.store w 0 v0 ha)).moves (Moves.store _ 1 v1 ha)).moves (Moves.store _ 2 v2 ha)).moves (Moves.store _ 0 v3 hb)).moves (Moves.store _ 1 v4 hb)).here;have h2:=(((((hP.store 0 v0 ha haF).store 1 v1 ha haF).store 2 v2 ha haF).store 0 v3 hb hbF).store 1 v4 hb hbF).pas hl hr;obtain⟨oo,oc,rfl⟩:=zcx h1;obtain⟨po,pc,rfl⟩:=h2.len;exact⟨oo,oc,po,pc,rfl,h1,by omega,h2⟩
theorem PS.moved {F:Nat}{tops:List Nat}{w:World}{vp:Value}{ps:List Pass}{rvs:List Value}(h:PS F tops w vp ps rvs){W:World}(hs:w.heap.size<=W.heap.size)(hn:∀b,b<w.heap.size->b∉tops->W.heap[b]?=w.heap[b]?)(ho:∀k,F<=k->k<w.heap.size->W.heap[k]?=w.heap[k]?):PS F tops W vp ps rvs :=
 ⟨h.len,zd0 h.own fun g hg=>ho g (h.own.lt g hg).1 (h.own.lt g hg).2,fun j p rv h1 h2=>⟨(h.rows j p rv h1 h2).1.step hs hn (fun k hk=> .inl hk) fun g hg=>ho g (h.rvlt (List.mem_of_getElem? h2) g hg).1 (h.rvlt (List.mem_of_getElem? h2) g hg).2,(h.rows j p rv h1 h2).2⟩,h.top,h.apart,h.diff,fun k hk=>Nat.lt_of_lt_of_le (h.lt k hk) hs⟩
def Firm (F:Nat) (w:World) (v:Value) (s:Script):Prop:=∀W:World,w.heap.size<=W.heap.size->(∀b,F<=b->b<w.heap.size->W.heap[b]?=w.heap[b]?)->ScIs W v s
theorem Firm.here {F:Nat}{w:World}{v:Value}{s:Script}(h:Firm F w v s):ScIs w v s:=h w qN fun _ _ _=>rfl
theorem Firm.on {F:Nat}{w w':World}{v:Value}{s:Script}(h:Firm F w v s)(hs:w.heap.size<=w'.heap.size)(hb:∀b,F<=b->b<w.heap.size->w'.heap[b]?=w.heap[b]?):Firm F w' v s :=
 fun W h1 h2=>h W (Nat.le_trans hs h1) fun b hF hl=>(h2 b hF (Nat.lt_of_lt_of_le hl hs)).trans (hb b hF hl)
theorem Firm.below {F:Nat}{w w':World}{v:Value}{s:Script}(h:Firm F w v s)(hb:Bl w w'):Firm F w' v s:=h.on hb.size fun b _ hl=>hb.block b hl
theorem Firm.store {F:Nat}{w:World}{v:Value}{s:Script}(h:Firm F w v s)(a i:Nat)(u:Value)(ha:a<F):Firm F (w.setCell ⟨a,i,none⟩ u) v s :=
 h.on (by simp) fun b hF _=>heap_setCell_other w ⟨a,i,none⟩ b u (by simp;omega)
theorem done2 {F B T:Nat}{tops:List Nat}{w:World}{vo vp:Value}{s:Script}{rvs:List Value}(hL:Leaf tops w fun W=>S.Rd W vo s.only)(hn:s.only.length<=17592186044160)(hP:PS F tops w vp s.passes rvs)(hl:s.passes.length<=1000)(hr:∀p∈s.passes,p.rules.length<=1000)(hall:∀q,q<=T->q∈tops)(hB:B+1<=T)(hF:T<F)(v0 v1 v2 v3 v4:Value) :
  Firm B (((((w.setCell ⟨B,0,none⟩ v0).setCell ⟨B,1,none⟩ v1).setCell ⟨B,2,none⟩ v2).setCell ⟨B+1,0,none⟩ v3).setCell ⟨B+1,1,none⟩ v4) (.agg #[.bool s.has,vo,vp]) s:=by
 intro W hs hW;have hsz:w.heap.size<=W.heap.size:=by simpa using hs
 have hk:∀k,T<k->k<w.heap.size->W.heap[k]?=w.heap[k]?:=fun k h1 h2=>by
  have e:=hW k (by omega) (by simpa using h2);rw[heap_setCell_other _ ⟨B+1,1,none⟩ k _ (by simp;omega),heap_setCell_other _ ⟨B+1,0,none⟩ k _ (by simp;omega),heap_setCell_other _ ⟨B,2,none⟩ k _ (by simp;omega),heap_setCell_other _ ⟨B,1,none⟩ k _ (by simp;omega),heap_setCell_other _ ⟨B,0,none⟩ k _ (by simp;omega)] at e;exact e
 have hnt:∀b,b<w.heap.size->b∉tops->W.heap[b]?=w.heap[b]?:=fun b hb hn=>hk b (Classical.byContradiction fun h=>hn (hall b (by omega))) hb
 have h1:=hL W hsz hnt;have h2:=(hP.moved hsz hnt fun k hF' hl=>hk k (by omega) hl).pas hl hr;obtain⟨oo,oc,rfl⟩:=zcx h1;obtain⟨po,pc,rfl⟩:=h2.len;exact⟨oo,oc,po,pc,rfl,h1,by omega,h2⟩
theorem zhb {l:List R.Part}(h:(varsF l).1.1=0):l.length<=200/\(∀p∈l,R.partE p=0):=by
 unfold varsF at h
 by_cases hg:(R.wrong l).1=0
 ·have:=R.zgb hg;exact⟨this.1,this.2.1⟩
 ·rw[if_neg hg] at h;exact absurd h hg
theorem zpo {g:ByteArray->List S.Sp}(hg:∀s,S.Fit (g s)){p:R.Part}(h:R.partE p=0):PartOk g p:=by
 rcases R.zcn h with ⟨h1,h2,h3⟩|⟨h1,h2⟩|⟨h1,h2⟩|⟨h1,h2⟩
 ·exact⟨fun e=>by omega,fun e=>by omega,fun e=>by omega⟩
 ·exact⟨fun e=>by have:=(S.zan.1 h2).1;omega,fun e=>by omega,fun e=>by omega⟩
 ·refine⟨fun e=>by omega,fun _=> ?_,fun e=>by omega⟩;unfold R.passes at h2;have h3:=of_decide_eq_true h2;have hs:p.name.size=p.name.toList.length:=by simp[ByteArray.toList_eq]
  rw[hs];rcases h3 with h3|h3|h3|h3 <;> rw[h3] <;> decide
 ·refine⟨fun e=>by omega,fun e=>by omega,fun _ _=> ?_⟩;obtain⟨_,hl,hr,_⟩:=R.zas h2;obtain⟨a1,a2,a3,_⟩:=R.zbx hl;obtain⟨b1,b2,b3,_⟩:=R.zbx hr;have r1:=zb4 a1;have r2:=zb4 a2;have r3:=zb4 a3
  exact⟨⟨r1,r2,r3⟩,zb4 b2,fun x hx=>by
   rcases hx with hx|hx|hx
   ·exact zg1 hg (r1.2 x hx)
   ·exact zg1 hg (r2.2 x hx)
   ·exact zg1 hg (r3.2 x hx)⟩
end V
theorem znt (w:World)(v:Value)(l:List R.Part)(R0:R.Pts w v l)(hg:(V.varsF l).1.1=0) :
  Calls prog 12 #[v] w fun e w'=>∃v',e=.returned (.tuple #[v',.agg #[.int .i64 0,.int .i64 0]])/\V.Firm w.heap.size w' v' (V.scr (V.gOf (V.varsF l).2) l)/\Bl w w':=by
 obtain⟨hlen,hE⟩:=V.zhb hg;have HA:=qH<|fun o1 o2=>((qR w).alloc qN o1).alloc (by simp) o2
 have HC:Hid (∀o1 o2,Calls prog 31 #[v] ((w.alloc o1).alloc o2) fun e w'=>(∃B,e=.returned (.tuple #[.map (some B),.agg #[.int .i64 0,.int .i64 0]])/\V.VarsIs w' B (V.varsF l).2)/\Below ((w.alloc o1).alloc o2).heap.size ((w.alloc o1).alloc o2) w'):=fun o1 o2 =>
  (zbr _ _ l (R0.below (HA.out _ _))).mono fun e w' ⟨h1,h2⟩=>⟨h1.elim (fun h=>h.2) fun h=>absurd hg h.1,h2⟩
 have HR:=qH R0;obtain⟨ao,cap,rfl⟩:=R0.len;obtain⟨kn,hk⟩:∃o,(V.varsF l).2=o:=⟨_,rfl⟩;rw[hk] at HC ⊢;have HE:=qH hE;clear hk R0 hg hE
 go_enter func12,ntmps12
 go_wp2_with fail
 refine(HC.out _ _).mono ?_;rintro e w1 ⟨⟨B,rfl,n,f,hM,hT⟩,b1⟩;obtain⟨h1,h2,B1,s1⟩:=K.za3 b1;obtain⟨w2,hw2⟩:=qE (w1.alloc (.cells #[.int .i64 0,.int .i64 0] 36));have bb:Bl w1 w2:=by rw[hw2];exact(qR w1).alloc qN _
 have hB2:=B1.trans (bb.mono (by omega));have hs2:w.heap.size+2<w2.heap.size:=by rw[hw2];simp;omega
 have x2:=(bb.block _ (by omega)).trans h1;have y2:=(bb.block _ (by omega)).trans h2;have HX:Hid (w2.heap[w.heap.size]?=some (.cells #[.bool false,.slice none 0 0,.slice none 0 0] 30)/\w2.heap[w.heap.size+1]?=some (.cells #[.int .i64 0,.int .i64 0] 36)):=⟨x2,y2⟩;have hT2:=hT.below bb qN;have hgf:∀s,S.Fit (V.gOf kn s):=fun s=>(hT s).2.2.2
 have HS:Hid (Calls prog 32 #[.slice ao l.length cap,.map (some B)] (w1.alloc (.cells #[.int .i64 0,.int .i64 0] 36)) fun e w'=>∃tops vo vp rvs,e=.returned (.agg #[.bool (V.scr (V.gOf kn) l).has,vo,vp])/\V.Leaf tops w' (fun W=>S.Rd W vo (V.scr (V.gOf kn) l).only)/\(V.scr (V.gOf kn) l).only.length<=17592186044160/\V.PS (w2.heap.size+2) tops w' vp (V.scr (V.gOf kn) l).passes rvs/\((V.scr (V.gOf kn) l).passes= []->vp=.slice none 0 0)/\(∀q,q<=w2.heap.size->q∈tops)/\Bl w2 w'):=by
  rw[<- hw2];exact zgk w2 _ l (HR.out.below hB2) (by omega) B n f (V.gOf kn) (hM.below bb hM.lt) (fun s=>⟨(hT2 s).2.1,by have:=(hT2 s).2.2.1;unfold V.gOf;omega⟩) (fun p hp=>V.zpo hgf (HE.out p hp)) (fun k hk=>V.zdu _ l k hk)
 have HSm:Hid ((V.scr (V.gOf kn) l).passes.length<=1000/\∀p∈(V.scr (V.gOf kn) l).passes,p.rules.length<=1000):=by
  have h:=V.zdu (V.gOf kn) l l.length qN;rw[List.take_length] at h;exact⟨by have:=h.1;omega,fun p hp=>by have:=h.2 p hp;omega⟩
 have HB2:=qH hB2;clear hM hT b1 h1 h2 B1 bb hB2 x2 y2 hT2 hgf HC HE HR HA hw2
 go_wp2_with fail
 refine HS.out.mono ?_;rintro e w3 ⟨tops,vo,vp,rvs,rfl,hL,hfew,hPS,_,hall,b3⟩;have x3:=(b3.block _ (by omega)).trans HX.out.1;have y3:=(b3.block _ (by omega)).trans HX.out.2;obtain⟨r0,r1,r2,f0,f1,f2⟩:=V.box3 x3;obtain⟨u0,u1,g0,g1⟩:=V.box2 y3;have HD:Hid (∀v0 v1 v2 v3 v4,V.Firm w.heap.size (((((w3.setCell ⟨w.heap.size,0,none⟩ v0).setCell ⟨w.heap.size,1,none⟩ v1).setCell ⟨w.heap.size,2,none⟩ v2).setCell ⟨w.heap.size+1,0,none⟩ v3).setCell ⟨w.heap.size+1,1,none⟩ v4) (.agg #[.bool (V.scr (V.gOf kn) l).has,vo,vp]) (V.scr (V.gOf kn) l)):=fun v0 v1 v2 v3 v4=>V.done2 hL hfew hPS HSm.out.1 HSm.out.2 hall (by omega) (by omega) v0 v1 v2 v3 v4
 have HB3:=qH<|HB2.out.trans (b3.mono (by omega));obtain⟨oo,oc,hvo⟩:=V.zcx hL.here;obtain⟨po,pn,pc,hvp⟩:=V.zfn hPS;have l3:=L.block_lt r0;have l4:=L.block_lt u0;subst hvo hvp;clear hL hfew hPS hall b3 x3 y3 HX HS HSm HB2;go_wp2;refine bodyPost_ret (v:=.tuple #[.agg #[.bool (V.scr (V.gOf kn) l).has,.slice oo (V.scr (V.gOf kn) l).only.length oc,.slice po pn pc],.agg #[.int .i64 0,.int .i64 0]]) (by simp[results,results12,go_sem, *]) rfl ?_;exact⟨_,rfl,HD.out _ _ _ _ _,V.five HB3.out qN (by omega) _ _ _ _ _⟩
theorem znu (w:World)(v:Value)(l:List R.Part)(R0:R.Pts w v l) :
  Calls prog 12 #[v] w fun e w'=>∃v',e=.returned (.tuple #[v',.agg #[.int .i64 (V.forthF l).2.1,.int .i64 ((V.forthF l).2.2:Nat)]])/\V.Firm w.heap.size w' v' (V.forthF l).1/\Bl w w':=by
 unfold V.forthF
 by_cases hg:(V.varsF l).1.1=0
 ·rw[if_pos hg];exact znt w v l R0 hg
 ·rw[if_neg hg];exact(zqi w v l R0 hg).mono fun e w' ⟨h1,h2⟩=>⟨_,h1,fun W _ _=>⟨none,0,none,0,rfl,S.Rd.nil _,by simp,V.Pas.nil _⟩,h2⟩
end
namespace Cn
def lessF (r:Int):Int :=
 if (97<=r/\r<=122∨224<=r/\r<=246)∨248<=r/\r<=254 then 32
 else if (945<=r/\r<=961∨963<=r/\r<=969)∨1072<=r/\r<=1103 then 32
 else if 1104<=r/\r<=1119 then 80 else 0
def up (r:Int):Int:=r-lessF r
def low (r:Int):Int:=if lessF (r+32)=32 then r+32 else if lessF (r+80)=80 then r+80 else r
theorem zbz (r:Int):lessF r=0∨(lessF r=32/\97<=r/\r<=1103)∨(lessF r=80/\1104<=r/\r<=1119):=by
 unfold lessF;repeat' split
 all_goals omega
end Cn
section
open Go.RowKit
theorem zmn (r a b:Int)(w:World) :
  Calls prog 156 #[.int .i32 r,.int .i32 a,.int .i32 b] w fun e w'=>e=.returned (.bool (decide (a<=r)&&decide (r<=b)))/\w'=w:=by
 go_enter func156,ntmps156
 go_wp2
 all_goals go_ret
 all_goals refine⟨L.zaj ?_,rfl⟩
 all_goals (rw[Bool.eq_iff_iff];simp;try omega)
theorem zhw (r:Int)(w:World) :
  Calls prog 143 #[.int .i32 r] w fun e w'=>e=.returned (.int .i32 (Cn.lessF r))/\w'=w:=by
 have H:=qH<|fun a b=>zmn r a b w
 go_enter func143,ntmps143
 go_wp2_with (go_at_call 156;refine(H.out _ _).mono ?_;rintro e w' ⟨rfl,rfl⟩)
 all_goals go_ret
 all_goals (refine⟨?_,rfl⟩;unfold Cn.lessF;simp_all)
 all_goals (try omega)
theorem Cn.wrap32 (x:Int):IntKind.i32.wrap x=if x % 4294967296≥2147483648 then x % 4294967296-4294967296 else x % 4294967296:=by
 have hb2:(2:Int) ^ IntKind.i32.bits=4294967296:=by decide
 have hb3:(2:Int) ^ (IntKind.i32.bits-1)=2147483648:=by decide
 have hs:IntKind.i32.signed=true:=by decide
 simp only[IntKind.wrap,hb2,hb3,hs,Bool.true_and,decide_eq_true_eq]
theorem Cn.zi5 (r d:Int)(h1: -2147483648<=r)(h2:r<=2147483647)(hd:0<d)(hd2:d<=80):Cn.lessF (IntKind.i32.wrap (r+d))=Cn.lessF (r+d)/\(¬Cn.lessF (r+d)=0->IntKind.i32.wrap (r+d)=r+d):=by
 by_cases hb:r+d<=2147483647
 ·have:IntKind.i32.wrap (r+d)=r+d:=by
   rw[Cn.wrap32];split <;> omega
  rw[this];exact⟨rfl,fun _=>rfl⟩
 ·have e:IntKind.i32.wrap (r+d)=r+d-4294967296:=by
   rw[Cn.wrap32];split <;> omega
  rw[e];have z1:Cn.lessF (r+d-4294967296)=0:=by rcases Cn.zbz (r+d-4294967296) with h|h|h <;> omega
  have z2:Cn.lessF (r+d)=0:=by rcases Cn.zbz (r+d) with h|h|h <;> omega
  rw[z1,z2];exact⟨rfl,fun h=>absurd rfl h⟩
theorem zlb (r:Int)(h1: -2147483648<=r)(h2:r<=2147483647)(w:World) :
  Calls prog 121 #[.int .i32 r] w fun e w'=>e=.returned (.int .i32 (Cn.low r))/\w'=w:=by
 have hw32:∀x,IntKind.i32.wrap x=wrap32 x:=fun x=>by rw[Cn.wrap32];unfold wrap32;split <;> omega
 have H1:=zhw (IntKind.i32.wrap (r+32)) w;have H2:=zhw (IntKind.i32.wrap (r+80)) w;have w1:=Cn.zi5 r 32 h1 h2 (by decide) (by decide);have w2:=Cn.zi5 r 80 h1 h2 (by decide) (by decide);rw[w1.1] at H1;rw[w2.1] at H2;have e1:=w1.2;have e2:=w2.2;have x0:∀w,(Instr.index 183 (.agg #[.int .i32 32,.int .i32 80]) (.int .i64 0)).run prog w=.ok (.int .i32 32) w:=fun w=>by kernel_rfl
 have x1:∀w,(Instr.index 183 (.agg #[.int .i32 32,.int .i32 80]) (.int .i64 1)).run prog w=.ok (.int .i32 80) w:=fun w=>by kernel_rfl
 rw[hw32] at H1 H2 e1 e2;clear w1 w2 hw32;obtain⟨o,HO⟩:∃o,Hid (Cn.low r=o):=⟨_,rfl⟩;rw[show Cn.low r=o from HO.out];have HE:Hid ((¬Cn.lessF (r+32)=0->wrap32 (r+32)=r+32)/\(¬Cn.lessF (r+80)=0->wrap32 (r+80)=r+80)):=⟨e1,e2⟩;have HL:Hid (Cn.low r=if Cn.lessF (r+32)=32 then r+32 else if Cn.lessF (r+80)=80 then r+80 else r):=rfl;generalize Cn.lessF (r+32)=d1 at H1 HE HL;generalize Cn.lessF (r+80)=d2 at H2 HE HL;clear e1 e2
 go_enter func121,ntmps121
 go_wp2;refine wp_loop_rounds 3 ?_
 rw[rounds_succ]
 go_wp2_with fail
 refine H1.mono ?_;rintro e w' ⟨rfl,rfl⟩
 by_cases q1:d1=32
 ·have hb1:=HE.out.1 (by omega);go_wp2;go_ret;exact⟨L.zdf (by rw[<- HO.out,HL.out,if_pos q1,hb1]),rfl⟩
 ·go_wp2;rw[rounds_succ]
  go_wp2_with fail
  refine H2.mono ?_;rintro e w' ⟨rfl,rfl⟩
  by_cases q2:d2=80
  ·have hb1:=HE.out.2 (by omega);go_wp2;go_ret;exact⟨L.zdf (by rw[<- HO.out,HL.out,if_neg q1,if_pos q2,hb1]),rfl⟩
  ·go_wp2;rw[rounds_succ]
   go_wp2;go_ret
   exact⟨L.zdf (by rw[<- HO.out,HL.out,if_neg q1,if_neg q2]),rfl⟩
theorem zos (r:Int)(h1: -2147483648<=r)(h2:r<=2147483647)(w:World) :
  Calls prog 124 #[.int .i32 r] w fun e w'=>e=.returned (.int .i32 (Cn.up r))/\w'=w:=by
 have H:=zhw r w;have hc:=Cn.zbz r;unfold Cn.up;generalize Cn.lessF r=d at H hc;have b1: -2147483648<=r-d:=by omega
 have b2:r-d<=2147483647:=by omega
 go_enter func124,ntmps124
 go_wp2_with (go_at_call 143;refine H.mono ?_;rintro e w' ⟨rfl,rfl⟩)
 go_ret;exact⟨rfl,rfl⟩
