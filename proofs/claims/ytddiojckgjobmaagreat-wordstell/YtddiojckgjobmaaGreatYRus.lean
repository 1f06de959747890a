/-
 Great letters and small ones: the program's answers.
-/
import Derived.Test.YtddiojckgjobmaaGreatCnMath
import Derived.Test.YtddiojckgjobmaaGreatUni2
import Derived.Test.YtddiojckgjobmaaGreatMWrong
import Derived.Test.YtddiojckgjobmaaGreatYHead
set_option maxHeartbeats 0
set_option maxRecDepth 20000
set_option linter.unusedSimpArgs false
set_option linter.unusedVariables false
namespace Go.Proofs.YtddiojckgjobmaaGreat
open Go.RowKit
theorem zgq (r a b:Int)(w:World) :
  Calls Tryz.prog 54 #[.int .i32 r,.int .i32 a,.int .i32 b] w fun e w'=>e= .returned (.bool (decide (a<=r)&&decide (r<=b)))/\w'=w:=by
 go_enter Tryz.func54,Tryz.ntmps54
 go_wp2
 all_goals go_ret
 all_goals refine⟨L.zae ?_,rfl⟩
 all_goals (rw[Bool.eq_iff_iff];simp;try omega)
theorem zd0 (r:Int)(w:World) :
  Calls Tryz.prog 42 #[.int .i32 r] w fun e w'=>e= .returned (.int .i32 (Cn.lessF r))/\w'=w:=by
 have H:Hid (∀a b,Calls Tryz.prog 54 #[.int .i32 r,.int .i32 a,.int .i32 b] w fun e w'=>e= .returned (.bool (decide (a<=r)&&decide (r<=b)))/\w'=w):=fun a b=>zgq r a b w
 go_enter Tryz.func42,Tryz.ntmps42
 go_wp2_with (go_at_call 54;refine(H.out _ _).mono ?_;rintro e w' ⟨rfl,rfl⟩)
 all_goals go_ret
 all_goals (refine⟨?_,rfl⟩;unfold Cn.lessF;simp_all)
 all_goals (try omega)
theorem zh7 (r:Int)(h1: -2147483648<=r)(h2:r<=2147483647)(w:World) :
  Calls Tryz.prog 29 #[.int .i32 r] w fun e w'=>e= .returned (.int .i32 (Cn.up r))/\w'=w:=by
 have H:=zd0 r w;have hc:=Cn.za3 r;unfold Cn.up;generalize Cn.lessF r=d at H hc;have b1: -2147483648<=r - d:=by omega
 have b2:r - d<=2147483647:=by omega
 go_enter Tryz.func29,Tryz.ntmps29
 go_wp2_with (go_at_call 42;refine H.mono ?_;rintro e w' ⟨rfl,rfl⟩)
 go_ret;exact⟨rfl,rfl⟩
theorem Cn.wrap32 (x:Int):IntKind.i32.wrap x=if x % 4294967296≥2147483648 then x % 4294967296 - 4294967296 else x % 4294967296:=by
 have hb2:(2:Int) ^ IntKind.i32.bits=4294967296:=by decide
 have hb3:(2:Int) ^ (IntKind.i32.bits - 1)=2147483648:=by decide
 have hs:IntKind.i32.signed=true:=by decide
 simp only[IntKind.wrap,hb2,hb3,hs,Bool.true_and,decide_eq_true_eq]
theorem Cn.zes (r d:Int)(h1: -2147483648<=r)(h2:r<=2147483647)(hd:0<d)(hd2:d<=80):Cn.lessF (IntKind.i32.wrap (r+d))=Cn.lessF (r+d)/\(¬Cn.lessF (r+d)=0->IntKind.i32.wrap (r+d)=r+d):=by
 by_cases hb:r+d<=2147483647
 ·have:IntKind.i32.wrap (r+d)=r+d:=by
   rw[Cn.wrap32];split <;> omega
  rw[this];exact⟨rfl,fun _=>rfl⟩
 ·have e:IntKind.i32.wrap (r+d)=r+d - 4294967296:=by
   rw[Cn.wrap32];split <;> omega
  rw[e];have z1:Cn.lessF (r+d - 4294967296)=0:=by rcases Cn.za3 (r+d - 4294967296) with h | h | h <;> omega
  have z2:Cn.lessF (r+d)=0:=by rcases Cn.za3 (r+d) with h | h | h <;> omega
  rw[z1,z2];exact⟨rfl,fun h=>absurd rfl h⟩
theorem zfw (r:Int)(h1: -2147483648<=r)(h2:r<=2147483647)(w:World) :
  Calls Tryz.prog 30 #[.int .i32 r] w fun e w'=>e= .returned (.int .i32 (Cn.low r))/\w'=w:=by
 have hw32:∀x,IntKind.i32.wrap x=wrap32 x:=fun x=>by rw[Cn.wrap32];unfold wrap32;split <;> omega
 have H1:=zd0 (IntKind.i32.wrap (r+32)) w;have H2:=zd0 (IntKind.i32.wrap (r+80)) w;have w1:=Cn.zes r 32 h1 h2 (by decide) (by decide);have w2:=Cn.zes r 80 h1 h2 (by decide) (by decide);rw[w1.1] at H1;rw[w2.1] at H2;have e1:=w1.2;have e2:=w2.2;have x0:∀w,(Instr.index 70 (.agg #[.int .i32 32,.int .i32 80]) (.int .i64 0)).run Tryz.prog w= .ok (.int .i32 32) w:=fun w=>by kernel_rfl
 have x1:∀w,(Instr.index 70 (.agg #[.int .i32 32,.int .i32 80]) (.int .i64 1)).run Tryz.prog w= .ok (.int .i32 80) w:=fun w=>by kernel_rfl
 rw[hw32] at H1 H2 e1 e2;clear w1 w2 hw32;obtain⟨o,HO⟩:∃o,Hid (Cn.low r=o):=⟨_,rfl⟩;rw[show Cn.low r=o from HO.out];have HE:Hid ((¬Cn.lessF (r+32)=0->wrap32 (r+32)=r+32)/\(¬Cn.lessF (r+80)=0->wrap32 (r+80)=r+80)):=⟨e1,e2⟩;have HL:Hid (Cn.low r=if Cn.lessF (r+32)=32 then r+32 else if Cn.lessF (r+80)=80 then r+80 else r):=rfl;generalize Cn.lessF (r+32)=d1 at H1 HE HL;generalize Cn.lessF (r+80)=d2 at H2 HE HL;clear e1 e2
 go_enter Tryz.func30,Tryz.ntmps30
 go_wp2;refine wp_loop_rounds 3 ?_
 rw[rounds_succ]
 go_wp2_with fail
 refine H1.mono ?_;rintro e w' ⟨rfl,rfl⟩
 by_cases q1:d1=32
 ·have hb1:wrap32 (r+32)=r+32:=HE.out.1 (by omega);go_wp2;go_ret;exact⟨L.zby (by rw[<- HO.out,HL.out,if_pos q1,hb1]),rfl⟩
 ·go_wp2;rw[rounds_succ]
  go_wp2_with fail
  refine H2.mono ?_;rintro e w' ⟨rfl,rfl⟩
  by_cases q2:d2=80
  ·have hb1:wrap32 (r+80)=r+80:=HE.out.2 (by omega);go_wp2;go_ret;exact⟨L.zby (by rw[<- HO.out,HL.out,if_neg q1,if_pos q2,hb1]),rfl⟩
  ·go_wp2;rw[rounds_succ]
   go_wp2;go_ret
   exact⟨L.zby (by rw[<- HO.out,HL.out,if_neg q1,if_neg q2]),rfl⟩
end Go.Proofs.YtddiojckgjobmaaGreat
namespace Go.Proofs.YtddiojckgjobmaaGreat
open Go.RowKit
theorem K.box2 {w:World}{g:Nat}{a b:Value}{t:TypeId}(hg:w.heap[g]?=some (.cells #[a,b] t)):w.cell? ⟨g,0,none⟩=some a/\w.cell? ⟨g,1,none⟩=some b/\w.frozen? ⟨g,0,none⟩=false/\w.frozen? ⟨g,1,none⟩=false:=by
 refine⟨?_,?_,?_,?_⟩
 ·rw[World.cell?];simp[hg]
 ·rw[World.cell?];simp[hg]
 ·rw[World.frozen?];simp[hg]
 ·rw[World.frozen?];simp[hg]
theorem zch (w:World)(v:Value)(l:List K.Rule)(R0:V.Rus w v l) :
  Calls Tryz.prog 43 #[v] w fun e w'=>e= .returned (.agg #[.int .i64 (K.rulesF l).1,.int .i64 (K.rulesF l).2])/\Below w.heap.size w w':=by
 have HR:Hid (V.Rus w v l):=R0;have hfew:=R0.few;obtain⟨ao,cap,rfl⟩:=R0.len;clear R0;have HA:Hid (∀o,Below w.heap.size w (w.alloc o)):=fun o=>(qR w).alloc qN o
 unfold K.rulesF
 by_cases hbig:200<l.length
 ·rw[if_pos hbig]
  go_enter Tryz.func43,Tryz.ntmps43
  go_wp2;refine bodyPost_ret (v:= .agg #[.int .i64 5,.int .i64 0]) (by simp[results,Tryz.results43,go_sem]) rfl ?_
  exact⟨rfl,HA.out _⟩
 ·rw[if_neg hbig];obtain⟨⟨o1,o2⟩,HO⟩:∃o,Hid (K.firstR 0 l=o):=⟨_,rfl⟩;rw[HO.out]
  go_enter Tryz.func43,Tryz.ntmps43
  go_wp2
  go_loopw [12] (fun i wr=>∃k:Nat,k<=l.length/\i= .int .i64 k/\Hid (K.firstR k (l.drop k)=(o1,o2))/\Hid (Below w.heap.size w wr)/\Hid (wr.heap[w.heap.size]?=some (.cells #[.int .i64 0,.int .i64 0] 37))) (fun i _=>l.length - (intOf i).toNat)
  case atStart=>exact⟨0,Nat.zero_le _,rfl,HO,HA.out _,heap_alloc_new w _⟩
  case round =>
   obtain⟨k,hk,rfl,HE,HB,HX⟩:=hrel;have hX:=HX.out
   by_cases hlt:k<l.length
   ·obtain⟨p,hp⟩:∃x,l[k]?=some x:=⟨l[k],by simp[hlt]⟩;obtain⟨ao',cap',e',_,hcs⟩:=HR.out.below HB.out;cases e';obtain⟨b,off,rfl,hcell⟩:=hcs (by intro h;subst h;simp at hlt);obtain⟨bo,bc,so,sc,ao,ac,tgo,tc,c0,c1,c2,c3,c4,c5,c6,hP⟩:=hcell k p hp;have HE2:Hid (K.firstR k (l.drop k)=if K.ruleE p=0 then K.firstR (k+1) (l.drop (k+1)) else (K.ruleE p,(k:Int))):=K.zc2 hp;have hsz:=HB.out.size;have HW:Hid (∀o,Calls Tryz.prog 55 #[.agg #[.bool p.start,.bool p.fin,.slice bo p.before.length bc,.slice so p.source.length sc,.slice ao p.after.length ac,.slice tgo p.target.length tc,.int .i64 p.cursor]] (wr.alloc o) fun e w'=>e= .returned (.int .i64 (K.ruleE p))/\Below (wr.alloc o).heap.size (wr.alloc o) w'):=fun o=>zg6 _ _ p (V.zdg hP (R.Keeps.alloc wr o))
    obtain⟨z,HZ⟩:∃z,Hid (K.ruleE p=z):=⟨_,rfl⟩;rw[HZ.out] at HW HE2;clear hp hcell hcs hP hX;obtain⟨st,fi,be,sou,af,ta,cu⟩:=p;simp only at c0 c1 c2 c3 c4 c5 c6 HW
    go_wp2_with fail
    refine(HW.out _).mono ?_;rintro e w1 ⟨rfl,b1⟩;obtain⟨_,B1,hl1⟩:=K.zao b1
    have hX1:w1.heap[w.heap.size]?=some (.cells #[.int .i64 0,.int .i64 0] 37):=by
     rw[B1.block _ (qA.1 HX.out).1];exact HX.out
    have HB1:Hid (Below w.heap.size w w1):=HB.out.trans (B1.mono hsz);have HX1:Hid _:=hX1;obtain⟨x0,x1,f0,f1⟩:=K.box2 hX1;clear b1 B1 hX1
    by_cases hz:z=0
    ·subst hz;go_wp2
     go_roundw
     case rel=>exact⟨k+1,by omega,by go_num,by show _=_;rw[<- HE.out,HE2.out];simp,HB1,HX1⟩
     case measure=>simp[intOf];omega
    ·go_wp2;refine bodyPost_ret (v:= .agg #[.int .i64 z,.int .i64 k]) (by simp[results,Tryz.results43,go_sem, *]) rfl ?_
     have h:=HE2.out;rw[HE.out,if_neg hz] at h;cases h;exact⟨rfl,(HB1.out.setCell (p:=⟨w.heap.size,0,none⟩) qN _).setCell (p:=⟨w.heap.size,1,none⟩) qN _⟩
   ·obtain⟨x0,x1,f0,f1⟩:=K.box2 hX;have h:=HE.out;rw[List.drop_eq_nil_of_le (by omega)] at h;cases h;go_wp2;refine bodyPost_ret (v:= .agg #[.int .i64 0,.int .i64 0]) (by simp[results,Tryz.results43,go_sem, *]) rfl ?_;exact⟨rfl,(HB.out.setCell (p:=⟨w.heap.size,0,none⟩) qN _).setCell (p:=⟨w.heap.size,1,none⟩) qN _⟩
end Go.Proofs.YtddiojckgjobmaaGreat
namespace Go.Proofs.YtddiojckgjobmaaGreat
open Go.RowKit Go.Shelf
namespace K
theorem Rus.rule {w:World}{ao:Option Addr}{n cap:Nat}{l:List Rule}(h:V.Rus w (.slice ao n cap) l){j:Nat}{p:Rule}(hp:l[j]?=some p) :
  ∃b off bo bc so sc ao2 ac tgo tc,ao=some ⟨b,off,none⟩ /\
   w.cell? ⟨b,off+j*7,none⟩=some (.bool p.start)/\w.cell? ⟨b,off+j*7+1,none⟩=some (.bool p.fin)/\w.cell? ⟨b,off+j*7+2,none⟩=some (.slice bo p.before.length bc)/\w.cell? ⟨b,off+j*7+3,none⟩=some (.slice so p.source.length sc)/\w.cell? ⟨b,off+j*7+4,none⟩=some (.slice ao2 p.after.length ac)/\w.cell? ⟨b,off+j*7+5,none⟩=some (.slice tgo p.target.length tc)/\w.cell? ⟨b,off+j*7+6,none⟩=some (.int .i64 p.cursor) /\
   RuIs w (.agg #[.bool p.start,.bool p.fin,.slice bo p.before.length bc,.slice so p.source.length sc,.slice ao2 p.after.length ac,.slice tgo p.target.length tc,.int .i64 p.cursor]) p:=by
 obtain⟨ao',cap',e',_,hcs⟩:=h;cases e';obtain⟨b,off,rfl,hcell⟩:=hcs (by intro h;subst h;simp at hp);obtain⟨bo,bc,so,sc,ao,ac,tgo,tc,h⟩:=hcell j p hp;exact⟨b,off,bo,bc,so,sc,ao,ac,tgo,tc,rfl,h⟩
theorem zc0 {r:Rule}{s:List S.Sp}(h:r.source[0]?=some s):headS r=s:=by
 unfold headS;cases hq:r.source with
 | nil=>rw[hq] at h;simp at h
 | cons y l=>rw[hq] at h;simpa using h
theorem za8 {r:Rule}(h:ruleE r=0):S.Nf 0 (headS r)/\(headS r).length<=200:=by
 obtain⟨_,h2,_,h4,_⟩:=zai h;obtain⟨s,hs⟩:∃s,r.source[0]?=some s:=⟨r.source[0],by simp⟩;rw[zc0 hs];exact h2.2 s (List.mem_of_getElem? hs)
end K
end Go.Proofs.YtddiojckgjobmaaGreat
