/-
 The rules that begin with a rune: compile.which, and what Compile asks of each rule.
-/
import Derived.Test.YtddiojckgjobmaaGreatYRus
import Derived.Test.YtddiojckgjobmaaGreatSWrong
import Derived.Test.YtddiojckgjobmaaGreatYHead
import Derived.Deep.RegionWith
set_option maxHeartbeats 0
namespace Go.Proofs.YtddiojckgjobmaaGreat
open Go.RowKit Go.Shelf
set_option maxRecDepth 20000
set_option linter.unusedSimpArgs false
set_option linter.unusedVariables false
theorem Tryz.infoIntJ:(Tryz.prog.info? 3).map (fun i=>(i.zero,i.size,i.bytes))=some (some (.int .i64 0),1,8):=by kernel_rfl
namespace J
def which (f:K.Rule->Bool):Nat->List K.Rule->List Int
 | _,[]=> []
 | i,r::l=>(if f r then [(i:Int)] else [])++which f (i+1) l
theorem zd9 (f:K.Rule->Bool)(a b:List K.Rule):∀i,which f i (a++b)=which f i a++which f (i+a.length) b:=by
 induction a with
 | nil=>intro i;simp[which]
 | cons x a ih=>intro i;simp only[List.cons_append,which,ih,List.append_assoc,List.length_cons];rw[show i+1+a.length=i+(a.length+1) by omega]
theorem zdb {f:K.Rule->Bool}{l:List K.Rule}{k:Nat}{r:K.Rule}(h:l[k]?=some r):which f 0 (l.take (k+1))=which f 0 (l.take k)++(if f r then [(k:Int)] else []):=by
 have hk:=(qL.1 h).1;rw[List.take_add_one,h,zd9];simp[which,Nat.min_eq_left (Nat.le_of_lt hk)]
theorem zbl (f:K.Rule->Bool)(l:List K.Rule):∀i,(which f i l).length<=l.length:=by
 induction l with
 | nil=>intro i;simp[which]
 | cons x l ih =>
  intro i;have:=ih (i+1);simp only[which,List.length_append,List.length_cons];split <;> simp <;> omega
end J
theorem zfq (w:World)(va:Value)(r:K.Rule)(low:Int)(bx:Nat)(Ra:K.RuIs w va r)(hr:K.ruleE r=0)(hc:w.heap[bx]?=some (.cells #[.int .i32 low] 21)) :
  Calls Tryz.prog 99 (#[va]++#[.pointer (some ⟨bx,0,none⟩)]) w fun e w'=>e= .returned (.bool (S.memb (K.headS r) low))/\Below w.heap.size w w':=by
 have hbl:=(qA.1 hc).1;have x0:∀o,(w.alloc o).cell? ⟨bx,0,none⟩=some (.int .i32 low):=fun o=>K.zac (K.zaa (i:=0) hc rfl) o
 obtain⟨s,hs⟩:∃s,r.source[0]?=some s:=⟨r.source[0]'(K.zai hr).2.2.2.1,by simp⟩;have hok:=K.za8 hr;rw[K.zc0 hs] at hok ⊢;obtain⟨bo,bc,so,sc,ao,ac,tt,tc,rfl,_,hS,_⟩:=Ra;have hsl:=(K.zai hr).2.2.2.1;obtain⟨gb,go,s2,c2,rfl,hc0,hr0,_⟩:=hS.at hs;rw[Nat.add_zero] at hc0;have hcc:∀o,(w.alloc o).cell? ⟨gb,go,none⟩=some (.slice s2 s.length c2):=fun o=>K.zac hc0 o
 have HH:Hid (∀o W,Below (w.alloc o).heap.size (w.alloc o) W->Calls Tryz.prog 27 #[.slice s2 s.length c2,.int .i32 low] W fun e w'=>e= .returned (.bool (S.memb s low))/\Below w.heap.size w w'):=fun o W hW=>by
  have hB:Below w.heap.size w W:=((qR w).alloc qN o).trans (hW.mono (by simp));exact(zd1 W _ s low (hr0.below hB qN) hok.1 hok.2).mono fun e w' ⟨h1,h2⟩=>⟨h1,hB.trans (h2.mono hB.size)⟩
 clear hc hs hok hS hr0 hc0 hr;show Calls Tryz.prog 99 #[_,.pointer (some ⟨bx,0,none⟩)] w _
 go_enter Tryz.func99,Tryz.ntmps99
 go_wp2_with fail
 go_region_with (go_at_call 27;refine(HH.out _ _ (by first | exact qR _ | exact(qR _).drew)).mono ?_;rintro e w1 ⟨rfl,z1⟩)
 all_goals go_wp2
 all_goals go_ret
 all_goals exact⟨rfl,by assumption⟩
theorem zg7 (w:World)(v:Value)(l:List K.Rule)(R0:V.Rus w v l)(hl:l.length<=200)(g:Nat)(cb:Array Value)(P:K.Rule->Bool)(eg:∀args w,(callFunc g args).run Tryz.prog w= .ok (.enter g args) w)
  (hh:∀W r u,Below w.heap.size w W->r∈l->K.RuIs W u r->Calls Tryz.prog g (#[u]++cb) W fun e w'=>e= .returned (.bool (P r))/\Below W.heap.size W w') :
  Calls Tryz.prog 100 #[v,.func (.func g) #[] cb] w fun e w'=>∃v',e= .returned v'/\w'.ownsRow w.heap.size 3 1 v' (J.which P 0 l).length ((J.which P 0 l).map (Value.int .i64))/\Below w.heap.size w w':=by
 have HR:Hid (V.Rus w v l):=R0;obtain⟨i0,hi,hz0,hz1,hz2⟩:=info_parts Tryz.infoIntJ;obtain⟨ao,cap,rfl⟩:=R0.len;have HF:Hid (∀W r u,Below w.heap.size w W->r∈l->K.RuIs W u r->Calls Tryz.prog g (#[u]++cb) W fun e w'=>e= .returned (.bool (P r))/\Below W.heap.size W w'):=hh;clear R0 hh
 go_enter Tryz.func100,Tryz.ntmps100
 go_wp2_with fail
 go_loopw [5,10] (fun vo i wr=>∃k:Nat,k<=l.length/\i= .int .i64 k/\Hid (wr.ownsRow w.heap.size 3 1 vo (J.which P 0 (l.take k)).length ((J.which P 0 (l.take k)).map (Value.int .i64))/\Below w.heap.size w wr)) (fun _ i _=>l.length - (RowKit.intOf i).toNat)
 case atStart=>exact⟨0,Nat.zero_le _,rfl,World.ownsRow_nil _ _ _ _,qR _⟩
 case round =>
  obtain⟨k,hk,rfl,HO⟩:=hrel;have hwr:=HO.out.2.size
  by_cases hlt:k<l.length
  ·obtain⟨p,hp⟩:∃x,l[k]?=some x:=⟨l[k],by simp[hlt]⟩;obtain⟨ba,oa,bo,bc,so,sc,ao2,ac,tt,tc,rfl,a0,a1,a2,a3,a4,a5,a6,hP⟩:=K.Rus.rule (HR.out.below HO.out.2) hp;have HT:Hid (J.which P 0 (l.take (k+1))=J.which P 0 (l.take k)++(if P p then [(k:Int)] else [])):=J.zdb hp
   have HC:Hid (∀o,Calls Tryz.prog g (#[.agg #[.bool p.start,.bool p.fin,.slice bo p.before.length bc,.slice so p.source.length sc,.slice ao2 p.after.length ac,.slice tt p.target.length tc,.int .i64 p.cursor]]++cb) (wr.alloc o) fun e w'=>e= .returned (.bool (P p))/\(w'.ownsRow w.heap.size 3 1 u5 (J.which P 0 (l.take k)).length ((J.which P 0 (l.take k)).map (Value.int .i64))/\Below w.heap.size w w')):=fun o=>by
    have hB:Below wr.heap.size wr (wr.alloc o):=(qR wr).alloc qN o;refine(HF.out (wr.alloc o) p _ (HO.out.2.trans (hB.mono hwr)) (List.mem_of_getElem? hp) (hP.below hB)).mono fun e w' ⟨h1,h2⟩=>⟨h1,L.zat (HO.out.1.alloc o) h2 qN,?_⟩
    exact(HO.out.2.trans (hB.mono hwr)).trans (h2.mono (by simp;omega))
   have hlen:=J.zbl P (l.take k) 0;rw[List.length_take] at hlen;generalize hZ:P p=z at HT HC;clear hp hP hZ;obtain⟨st,fi,be,sou,af,ta,cu⟩:=p;simp only at a0 a1 a2 a3 a4 a5 a6 HC;generalize hU:J.which P 0 (l.take k)=U at HT HC hlen;clear hU HO
   go_wp2_with fail
   refine(HC.out _).mono ?_;rintro e w3 ⟨rfl,own3,b3⟩;have HO3:Hid (w3.ownsRow w.heap.size 3 1 u5 U.length (U.map (Value.int .i64))):=own3;have HB3:Hid (Below w.heap.size w w3):=b3;have hw3:w.heap.size<=w3.heap.size:=b3.size
   have hblk:Hid (∀g,u5.ownBlock=some g->w.heap.size<=g):=fun g hg=>by
    obtain⟨_,⟨rfl,_⟩|⟨g',cap',cur',rfl,hb',_⟩⟩:=own3
    ·cases hg
    ·cases hg;exact hb'
   clear own3 b3 a0 a1 a2 a3 a4 a5 a6 HC;cases z with
   | false =>
    go_wp2
    go_roundw
    case rel =>
     refine⟨k+1,by omega,by go_num,?_⟩;rw[HT.out,if_neg (by decide),List.append_nil];exact⟨HO3.out,HB3.out⟩
    case measure=>simp[RowKit.intOf];omega
   | true =>
    go_wp2_with (at_builtin;go_must (refine wpList_append_own _ rfl _ _ 98 rfl w.heap.size 3 i0 (.int .i64 0) 1 8 Tryz.underlying98 hi hz0 hz1 hz2 rfl (by decide) _ _ _ rfl (HO3.out.alloc _) ⟨w3.heap.size,0,none⟩ 1 1 [.int .i64 (k:Int)] rfl rfl (cell_one_new _ _ _) (fun x hx=>by simp at hx;subst hx;rfl) (by unfold maxLen;omega) (by omega) (by simp;omega) ?_;intro v' w4 hown' hgrow4 hnil4))
    have HX4:Hid (w4.ownsRow w.heap.size 3 1 v' (U.length+1) (U.map (Value.int .i64)++ [.int .i64 (k:Int)])/\Below w.heap.size w w4):=⟨hown',Below.grown (HB3.out.alloc hw3 _) hgrow4 (by simp;omega) (fun j hj=>hblk.out j hj)⟩
    go_roundw
    case rel =>
     refine⟨k+1,by omega,by go_num,?_⟩;rw[HT.out,if_pos trivial,List.length_append,List.map_append];exact HX4.out
    case measure=>simp[RowKit.intOf];omega
  ·have hke:k=l.length:=by omega
   subst hke;rw[List.take_length] at HO;go_wp2;go_ret;exact⟨_,rfl,HO.out⟩
end Go.Proofs.YtddiojckgjobmaaGreat
