/-
 What rulesyn.Print answers of any parts.
-/
import Derived.Test.YtmcljejgbikbhaaGreatDoorRTell3
import Derived.RegionTactic
import Derived.Test.YtmcljejgbikbhaaGreatDoorSWrong
import Derived.Test.YtmcljejgbikbhaaGreatDoorTBack
set_option maxHeartbeats 0
namespace Go.Proofs.YtmcljejgbikbhaaGreatDoor
open Go.RowKit
set_option maxRecDepth 20000
set_option linter.unusedSimpArgs false
set_option linter.unusedVariables false
def R.printV (l:List R.Part):Value:= .tuple #[.string ⟨(if (R.wrong l).1=0 then R.printB l else []).toArray⟩,.agg #[.int .i64 (R.wrong l).1,.int .i64 (R.wrong l).2]]
theorem zkk {l:List R.Part}{k:Nat}{p:R.Part}(hp:l[k]?=some p):R.printB (l.take (k+1))=R.printB (l.take k)++R.wordsB p++ [59,10]:=by
 rw[List.take_add_one,hp];simp[R.printB,R.partB]
theorem zrt (w:World)(v:Value)(l:List R.Part)(R0:R.Pts w v l)(hT:T.Tz w) :
  Calls Tryz.prog 19 #[v] w fun e w'=>e= .returned (R.printV l)/\Below w.heap.size w w':=by
 have hmf:∀(fn:Fn) (first cap:Array Value) (w:World),(Instr.makeFunc fn first cap).run Tryz.prog w= .ok (.func fn first cap) w:=fun _ _ _ _=>rfl
 have HR:Hid (R.Pts w v l):=R0;have HTz:Hid (T.Tz w):=hT;obtain⟨ao,cap,rfl⟩:=R0.len;have HA:Hid (∀o,Below w.heap.size w (w.alloc o)):=fun o=>(qR w).alloc qN o
 have HW:Hid (∀w1,Below w.heap.size w w1->Calls Tryz.prog 40 #[.slice ao l.length cap] w1 fun e w'=>e= .returned (.agg #[.int .i64 (R.wrong l).1,.int .i64 (R.wrong l).2])/\Below w1.heap.size w1 w'):=fun w1 hb=>zgk w1 _ l (R0.below hb)
 clear R0 hT;unfold R.printV;obtain⟨⟨z1,z2⟩,HZ⟩:∃z,Hid (R.wrong l=z):=⟨_,rfl⟩;rw[HZ.out] at HW ⊢;simp only at HW ⊢;obtain⟨tx,HTx⟩:∃x,Hid ((⟨(if z1=0 then R.printB l else []).toArray⟩:ByteArray)=x):=⟨_,rfl⟩;rw[HTx.out]
 go_enter Tryz.func19,Tryz.ntmps19
 go_wp2_with fail
 refine(HW.out _ (HA.out _)).mono ?_;rintro e w1 ⟨rfl,b1⟩;obtain⟨hb1,B1,hl1⟩:=R.zbl b1;have HB1:Hid (Below w.heap.size w w1):=B1;have HX1:Hid (w1.heap[w.heap.size]?=some (.cells #[.int .i64 0,.int .i64 0] 33)):=hb1;clear b1 B1 hb1
 by_cases hz:z1=0
 ·subst hz;have hwz:=R.zeh (l:=l) (by rw[HZ.out])
  have hz2:z2=0:=by
   have:=hwz.2.2;rw[HZ.out] at this;cases this;rfl
  subst hz2;have hl200:=hwz.1;have HOk:Hid (∀p∈l,R.partE p=0):=hwz.2.1;clear hwz
  have HTx2:Hid ((⟨(R.printB l).toArray⟩:ByteArray)=tx):=by
   show _=_;rw[<- HTx.out,if_pos rfl]
  have HPl:Hid (∀k,(R.printB (l.take k)).length<=504902*200):=fun k=>by
   have h:=zgz (l:=l.take k) fun p hp=>HOk.out p (List.mem_of_mem_take hp)
   rw[List.length_take] at h;omega
  have bX:=(qR w1).alloc qN (.cells #[.int .i64 0,.int .i64 0] 33);have HN:Hid (T.Bd (w1.alloc (.cells #[.int .i64 0,.int .i64 0] 33)).heap.size (w1.alloc (.cells #[.int .i64 0,.int .i64 0] 33)).heap.size [] ((w1.alloc (.cells #[.int .i64 0,.int .i64 0] 33)).alloc (.cells #[.pointer none,.slice none 0 0] 98))):=zum _;have bY:=(qR (w1.alloc (.cells #[.int .i64 0,.int .i64 0] 33))).alloc qN (.cells #[.pointer none,.slice none 0 0] 98);have HBX:Hid (Below w1.heap.size w1 (w1.alloc (.cells #[.int .i64 0,.int .i64 0] 33))):=bX;have HBY:Hid (Below (w1.alloc (.cells #[.int .i64 0,.int .i64 0] 33)).heap.size (w1.alloc (.cells #[.int .i64 0,.int .i64 0] 33)) ((w1.alloc (.cells #[.int .i64 0,.int .i64 0] 33)).alloc (.cells #[.pointer none,.slice none 0 0] 98))):=bY;have hsx:(w1.alloc (.cells #[.int .i64 0,.int .i64 0] 33)).heap.size=w1.heap.size+1:=by simp
  rw[hsx] at HN HBY;clear bX bY hsx;go_wp2
  go_loopw [18] (fun i wr=>∃k:Nat,k<=l.length/\i= .int .i64 k/\Hid (T.Bd (w1.heap.size+1) (w1.heap.size+1) (R.printB (l.take k)) wr)/\Hid (Below (w1.heap.size+1) (w1.alloc (.cells #[.int .i64 0,.int .i64 0] 33)) wr)) (fun i _=>l.length - (intOf i).toNat)
  case atStart=>exact⟨0,Nat.zero_le _,rfl,HN,HBY⟩
  case round =>
   obtain⟨k,hk,rfl,HD,HB⟩:=hrel;have HEn:Hid (R.Env w (w1.heap.size+1) wr):=⟨HTz.out,by have:=HB1.out.size;omega,HB1.out.trans ((HBX.out.trans (HB.out.mono (by omega))).mono HB1.out.size),HD.out.2⟩
   have HXr:Hid (wr.heap[w.heap.size]?=some (.cells #[.int .i64 0,.int .i64 0] 33)):=by
    have h:=(HBX.out.trans (HB.out.mono (by omega))).block w.heap.size (qA.1 HX1.out).1;show _=_;rw[h];exact HX1.out
   by_cases hlt:k<l.length
   ·obtain⟨p,hp⟩:∃x,l[k]?=some x:=⟨l[k],by simp[hlt]⟩;obtain⟨ao',cap',e',hcs⟩:=HR.out;cases e';obtain⟨b,off,rfl,hcell⟩:=hcs (by intro h;subst h;simp at hlt);obtain⟨so,sc,lbo,lbc,lso,lsc,lao,lac,rbo,rbc,rso,rsc,rao,rac,c0,c1,c2,c3,c4,c5,c6,c7,c8,c9,c10,c11,c12,c13,c14,c15,hP⟩:=hcell k p hp;have kk:=R.Keeps.of_below HEn.out.bel qN
    replace c0:=kk _ _ _ c0
    replace c1:=kk _ _ _ c1
    replace c2:=kk _ _ _ c2
    replace c3:=kk _ _ _ c3
    replace c4:=kk _ _ _ c4
    replace c5:=kk _ _ _ c5
    replace c6:=kk _ _ _ c6
    replace c7:=kk _ _ _ c7
    replace c8:=kk _ _ _ c8
    replace c9:=kk _ _ _ c9
    replace c10:=kk _ _ _ c10
    replace c11:=kk _ _ _ c11
    replace c12:=kk _ _ _ c12
    replace c13:=kk _ _ _ c13
    replace c14:=kk _ _ _ c14
    replace c15:=kk _ _ _ c15
    have HTk:Hid (R.printB (l.take (k+1))=R.printB (l.take k)++R.wordsB p++ [59,10]):=zkk hp;have hlk:=HPl.out (k+1);have HTell:Hid (∀w1' t,R.Env w (w1.heap.size+1) w1'->T.Bd (w1.heap.size+1) (w1.heap.size+1) t w1'->t.length+(R.wordsB p).length<=1000000000->Calls Tryz.prog 44 #[.agg #[.int .i64 p.kind,.string p.name,.slice so p.set.length sc,.int .i64 p.dir,.bool p.left.start,.bool p.left.fin,.slice lbo p.left.before.length lbc,.slice lso p.left.source.length lsc,.slice lao p.left.after.length lac,.int .i64 p.left.cursor,.bool p.right.start,.bool p.right.fin,.slice rbo p.right.before.length rbc,.slice rso p.right.source.length rsc,.slice rao p.right.after.length rac,.int .i64 p.right.cursor],.func (.func 41) #[] #[.pointer (some ⟨w1.heap.size+1,0,none⟩)]] w1' (R.Told (w1.heap.size+1) (w1.heap.size+1) (t++R.wordsB p) w1')):=fun w1' t e1 b1 h1=>zij w _ _ w1' _ p t e1 hP (HOk.out p (List.mem_of_getElem? hp)) b1 h1
    obtain⟨wb,HWB⟩:∃x,Hid (R.wordsB p=x):=⟨_,rfl⟩;rw[HWB.out] at HTk HTell
    have HLk:Hid ((R.printB (l.take k)).length+wb.length+2<=100980400):=by
     rw[HTk.out] at hlk;simp only[List.length_append,List.length_cons,List.length_nil] at hlk;show _<=_;omega
    clear hp hcell hcs hP kk hlk;obtain⟨pk,pn,ps,pd,⟨lst,lfi,lbe,lsr,laf,lcu⟩,⟨rst,rfi,rbe,rsr,raf,rcu⟩⟩:=p;simp only at c0 c1 c2 c3 c4 c5 c6 c7 c8 c9 c10 c11 c12 c13 c14 c15 HTell;have HAr:Hid (∀o,Below wr.heap.size wr (wr.alloc o)):=fun o=>(qR wr).alloc qN o
    go_wp2_with fail
    refine(HTell.out _ _ (HEn.out.after (HAr.out _)) (HD.out.below (HAr.out _)) (by have:=HLk.out;omega)).mono ?_;rintro e w2 ⟨rfl,d2,b2,k2⟩;have HB2:Hid (Below (w1.heap.size+1) wr w2):=((HAr.out _).mono HEn.out.now).trans b2;have HD2:Hid (T.Bd (w1.heap.size+1) (w1.heap.size+1) (R.printB (l.take k)++wb) w2):=d2;clear d2 b2 k2
    go_wp2_with fail
    refine(zeg _ _ _ [59,10] w2 HD2.out (by have:=HLk.out;simp only[List.length_append,List.length_cons,List.length_nil];omega)).mono ?_;rintro e w3 ⟨⟨v3,rfl⟩,d3,b3,k3⟩;have HB3:Hid (Below (w1.heap.size+1) wr w3):=HB2.out.trans b3
    have HD3:Hid (T.Bd (w1.heap.size+1) (w1.heap.size+1) (R.printB (l.take (k+1))) w3):=by
     show T.Bd _ _ _ w3;rw[HTk.out];exact d3
    clear d3 b3 k3;go_wp2
    go_roundw
    case rel=>exact⟨k+1,by omega,by go_num,HD3,HB.out.trans HB3.out⟩
    case measure=>simp[intOf];omega
   ·have hke:k=l.length:=by omega
    have hd:=HD.out;rw[hke,List.take_length] at hd;have HD':Hid (T.Bd (w1.heap.size+1) (w1.heap.size+1) (R.printB l) wr):=hd;clear hd
    go_wp2_with fail
    refine(zrq _ _ _ wr HD'.out).mono ?_;rintro e w5 ⟨rfl,b5⟩;have HB5:Hid (Below w.heap.size w w5):=HEn.out.bel.trans (b5.mono HEn.out.le)
    have hx5:w5.heap[w.heap.size]?=some (.cells #[.int .i64 0,.int .i64 0] 33):=by
     rw[b5.block _ (by have:=(qA.1 HX1.out).1;omega)];exact HXr.out
    obtain⟨x0,x1,f0,f1⟩:=R.box2 hx5;clear hx5 b5;rw[HTx2.out];go_wp2;refine bodyPost_ret (v:= .tuple #[.string tx,.agg #[.int .i64 0,.int .i64 0]]) (by simp[results,Tryz.results19,go_sem, *]) rfl ?_;exact⟨rfl,(HB5.out.setCell (p:=⟨w.heap.size,0,none⟩) qN _).setCell (p:=⟨w.heap.size,1,none⟩) qN _⟩
 ·have HTx2:Hid ((⟨#[]⟩:ByteArray)=tx):=by
   show _=_;rw[<- HTx.out,if_neg hz]
  obtain⟨x0,x1,f0,f1⟩:=R.box2 HX1.out;have n1:¬w1.heap.size=w.heap.size:=by omega
  have HB2:Hid (∀o,Below w.heap.size w (w1.alloc o)):=fun o=>HB1.out.alloc HB1.out.size o
  go_wp2
  go_region
  go_wp2;refine bodyPost_ret (v:= .tuple #[.string ⟨#[]⟩,.agg #[.int .i64 z1,.int .i64 z2]]) (by simp[results,Tryz.results19,go_sem, *]) rfl ?_
  refine⟨by rw[HTx2.out],?_⟩;exact((((HB1.out.setCell (p:=⟨w.heap.size,0,none⟩) qN _).setCell (p:=⟨w.heap.size,1,none⟩) qN _).alloc (by have:=HB1.out.size;simp;omega) _)).drew
end Go.Proofs.YtmcljejgbikbhaaGreatDoor
namespace Go.Proofs.YtmcljejgbikbhaaGreatDoor.R
open S (Sp)
open T (Out see skipW cut)
def BR (l:List Int) (b:List UInt8):Prop:=T.bytesR l=b/\T.rightL l
theorem BR.nil:BR [] []:=⟨rfl,fun r hr=>by cases hr⟩
theorem BR.app {l m:List Int}{b c:List UInt8}(h:BR l b)(h':BR m c):BR (l++m) (b++c):=⟨by rw[T.za5,h.1,h'.1],T.zbd h.2 h'.2⟩
theorem BR.ite {p:Prop} [Decidable p] {l m:List Int}{b c:List UInt8}(h:BR l b)(h':BR m c):BR (if p then l else m) (if p then b else c):=by
 by_cases hp:p
 ·rw[if_pos hp,if_pos hp];exact h
 ·rw[if_neg hp,if_neg hp];exact h'
theorem zj4 {r:Int}(h:wordy r=true):0<=r/\r<128:=by
 unfold wordy letter digit at h;simp only[Bool.or_eq_true,Bool.and_eq_true,decide_eq_true_eq] at h;omega
theorem BR.bytes {m:List UInt8}(h:∀b∈m,b.toNat<128):BR (m.map fun b=>(b.toNat:Int)) m:=by
 induction m with
 | nil=>exact BR.nil
 | cons b m ih =>
  have hb:=h b List.mem_cons_self;have i:=ih fun c hc=>h c (List.mem_cons_of_mem _ hc)
  refine⟨?_,fun r hr=> ?_⟩
  ·rw[List.map_cons,T.zgh,i.1,T.zjl hb];rfl
  ·rcases List.mem_cons.1 hr with rfl | hr
   ·unfold M.right;simp;omega
   ·exact i.2 r hr
theorem BR.name {n:ByteArray}(h:∀r∈nameR n,wordy r=true):BR (nameR n) n.data.toList:=by
 refine BR.bytes fun b hb=> ?_
 have:=zj4 (h (b.toNat:Int) (List.mem_map_of_mem hb));omega
theorem BR.set {s:List Sp}(h:S.wrongE s=0):BR (T.prtR s) (setB s):=by
 unfold setB;rw[if_pos h];exact T.zp4 s
theorem BR.c36 {l:List Int}{b:List UInt8}(h:BR l b):BR (36::l) (36::b):=BR.app (l:= [36]) (b:= [36]) ⟨by decide,by unfold T.rightL;decide⟩ h
theorem BR.item {x:Item}(h:itemE x=0):BR (itemR x) (itemB x):=by
 unfold itemR itemB;rcases zbp h with ⟨hk,_⟩|⟨hk,hw⟩|⟨hk,hn⟩
 ·rw[if_neg (by omega),if_neg (by omega),if_neg (by omega),if_neg (by omega)];exact T.zcf _
 ·rw[if_pos hk,if_pos hk];exact BR.set hw
 ·rw[if_neg (by omega),if_pos hk,if_neg (by omega),if_pos hk];exact BR.c36 (BR.name (zdl hn).1)
theorem BR.bar:BR barR bar:=⟨by decide,by unfold T.rightL;decide⟩
theorem BR.sp:BR [32] [32]:=⟨by decide,by unfold T.rightL;decide⟩
theorem BR.items:∀ {xs:List Item} (c:Int),(∀x∈xs,itemE x=0)->BR (itemsR xs c) (itemsB xs c):=by
 intro xs
 induction xs with
 | nil=>intro c _;exact BR.ite BR.bar BR.nil
 | cons x xs ih =>
  intro c h;exact((BR.ite BR.bar BR.nil).app ((BR.item (h x List.mem_cons_self)).app BR.sp)).app (ih _ fun y hy=>h y (List.mem_cons_of_mem _ hy))
theorem BR.side {s:Side}{m:Bool}(h:sideE s m=0):BR (sideR s) (sideB s):=by
 obtain⟨z1,z2,z3,_,_⟩:=za0 h;obtain⟨_,a1⟩:=zar.1 z1;obtain⟨_,a2⟩:=zar.1 z2;obtain⟨_,a3⟩:=zar.1 z3;have k1:BR [94,32] [94,32]:=⟨by decide,by unfold T.rightL;decide⟩;have k2:BR [123,32] [123,32]:=⟨by decide,by unfold T.rightL;decide⟩;have k3:BR [125,32] [125,32]:=⟨by decide,by unfold T.rightL;decide⟩;have k4:BR [36,32] [36,32]:=⟨by decide,by unfold T.rightL;decide⟩;exact((((((BR.ite k1 BR.nil).app (BR.items _ a1)).app (BR.ite k2 BR.nil)).app (BR.items _ a2)).app (BR.ite k3 BR.nil)).app (BR.items _ a3)).app (BR.ite k4 BR.nil)
theorem BR.arrow (d:Int):BR (arrowR d) (arrowB d) :=
 BR.ite ⟨by decide,by unfold T.rightL;decide⟩ (BR.ite ⟨by decide,by unfold T.rightL;decide⟩ ⟨by decide,by unfold T.rightL;decide⟩)
theorem BR.words {p:Part}(h:partE p=0):BR (wordsR p) (wordsB p):=by
 have k1:BR [61,32] [61,32]:=⟨by decide,by unfold T.rightL;decide⟩;have k2:BR [58,58,32] [58,58,32]:=⟨by decide,by unfold T.rightL;decide⟩;unfold wordsR wordsB;rcases zbn h with ⟨hk,hn,hw⟩|⟨hk,hw⟩|⟨hk,hp⟩|⟨hk,hr⟩
 ·rw[if_pos hk,if_pos hk];exact(((BR.c36 (BR.name (zdl hn).1)).app BR.sp).app k1).app ((BR.set hw).app BR.sp)
 ·rw[if_neg (by omega),if_pos hk,if_neg (by omega),if_pos hk];exact k2.app ((BR.set hw).app BR.sp)
 ·rw[if_neg (by omega),if_neg (by omega),if_pos hk,if_neg (by omega),if_neg (by omega),if_pos hk];exact k2.app ((BR.name (ze5 hp).1).app BR.sp)
 ·rw[if_neg (by omega),if_neg (by omega),if_neg (by omega),if_pos hk,if_neg (by omega),if_neg (by omega),if_neg (by omega),if_pos hk];obtain⟨_,hl,hr2,_⟩:=zat hr;exact((BR.side hl).app ((BR.arrow _).app BR.sp)).app (BR.side hr2)
theorem BR.part {p:Part}(h:partE p=0):BR (partR p) (partB p):=(BR.words h).app ⟨by decide,by unfold T.rightL;decide⟩
theorem BR.print {l:List Part}(h:∀p∈l,partE p=0):BR (printR l) (printB l):=by
 induction l with
 | nil=>exact BR.nil
 | cons p l ih =>
  unfold printR printB;rw[List.flatMap_cons,List.flatMap_cons];exact(BR.part (h p List.mem_cons_self)).app (ih fun q hq=>h q (List.mem_cons_of_mem _ hq))
theorem zlu {l:List Part}(h:∀p∈l,partE p=0):M.rn ⟨(printB l).toArray⟩=printR l:=by
 have b:=BR.print h;rw[<- b.1];exact T.zhu b.2
end Go.Proofs.YtmcljejgbikbhaaGreatDoor.R
namespace Go.Proofs.YtmcljejgbikbhaaGreatDoor.R
open S (Sp)
open T (Out see skipW cut ze9 zao zbz zai zal zc1 zb2 zce)
def sideEnd (a:Int):Prop:=a=62∨a=60∨a=59
theorem sideEnd.stops {a:Int}(h:sideEnd a)(r:List Int):stops a r:=by
 rcases h with h | h | h
 ·exact .inr (.inr (.inl h))
 ·exact .inr (.inr (.inr (.inl h)))
 ·exact .inr (.inr (.inr (.inr (.inl h))))
def tailR (s:Side):List Int:=(if s.fin=true∨0<s.after.length then [125,32] else [])++itemsR s.after (-1)++(if s.fin=true then [36,32] else [])
theorem zdy (s:Side){a:Int}{r:List Int}(h:sideEnd a):∃b t,tailR s++a::r=b::t/\stops b t/\b≠123/\(b=125↔(s.fin=true∨0<s.after.length)):=by
 unfold tailR
 by_cases hc:s.fin=true∨0<s.after.length
 ·rw[if_pos hc];exact⟨125,_,rfl,.inr (.inl rfl),by decide,by simp[hc]⟩
 ·rw[if_neg hc]
  have h1:s.after= []:=by
   cases hh:s.after with
   | nil=>rfl
   | cons x xs=>exact absurd (.inr (by rw[hh];simp)) hc
  have h2:¬s.fin=true:=fun h=>hc (.inl h)
  rw[h1,if_neg h2,itemsR,if_neg (by decide)];refine⟨a,r,rfl,h.stops r,?_,?_⟩
  ·rcases h with rfl | rfl | rfl <;> decide
  ·have:a≠125:=by rcases h with rfl | rfl | rfl <;> decide
   simp[this,h2]
theorem zil {l r:List Int}{a:Int}{q:Nat}(s:Side)(x y:List Item)(c:Int)(st:Bool)(he:sideEnd a)(h:l.drop q=tailR s++a::r)(ha:itemsE s.after=0) :
  ∃q' bs,sideTail l ⟨st,false,x,y,[],c⟩ q= .ok ⟨st,s.fin,x,y,s.after.map bareI,c⟩ q'/\l.drop q'=bs++a::r/\bl bs:=by
 by_cases hc:s.fin=true∨0<s.after.length
 ·unfold tailR at h;rw[if_pos hc] at h;have h1:l.drop q=125::(32::(itemsR s.after (-1)++(if s.fin=true then [36,32] else [])++a::r)):=by rw[h];simp
  have t1:=zal h1;unfold sideTail;rw[zai h1,if_pos rfl]
  by_cases hf:s.fin=true
  ·rw[if_pos hf] at t1;obtain⟨q',hi,hd⟩:=zci (a:=36) (r:=32::a::r) (bs:= [32]) (.inr (.inr (.inr (.inr (.inr ⟨rfl,_,rfl⟩))))) (p:=q+1) (l:=l) (ys:=s.after) (k:= -1) (by rw[t1];simp) bl32 ha (by omega) (by omega);rw[hi];simp only;rw[if_neg (by omega),zai hd,if_pos rfl,hf];exact⟨q'+1,[32],rfl,by rw[zal hd];rfl,bl32⟩
  ·rw[if_neg hf] at t1;obtain⟨q',hi,hd⟩:=zci (a:=a) (r:=r) (bs:= [32]) (he.stops r) (p:=q+1) (l:=l) (ys:=s.after) (k:= -1) (by rw[t1];simp) bl32 ha (by omega) (by omega);rw[hi];simp only;have h36:a≠36:=by rcases he with rfl | rfl | rfl <;> decide
   rw[if_neg (by omega),zai hd,if_neg h36];have hf':s.fin=false:=by simpa using hf
   rw[hf'];exact⟨q',[],rfl,by rw[hd];rfl,zhe⟩
 ·obtain⟨b,t,hb,_,_,h125⟩:=zdy s (r:=r) he
  have h1:s.after= []:=by
   cases hh:s.after with
   | nil=>rfl
   | cons x xs=>exact absurd (.inr (by rw[hh];simp)) hc
  have h2:s.fin=false:=by cases hh:s.fin with
   | false=>rfl
   | true=>exact absurd (.inl hh) hc
  have hn:¬b=125:=fun e=>hc (h125.1 e)
  unfold sideTail;rw[zai (by rw[h,hb]),if_neg hn,h1,h2];refine⟨q,[],rfl,?_,zhe⟩;rw[h];unfold tailR;rw[h1,h2];simp[itemsR]
theorem zhn (s:Side):sideR s=(if s.start=true then [94,32] else [])++(itemsR s.before (-1)++((if s.start=true∨0<s.before.length then [123,32] else [])++(itemsR s.source s.cursor++tailR s))):=by
 unfold sideR tailR;simp
theorem zir {l r bs:List Int}{a:Int}{p:Nat}{s:Side}{m:Bool}(he:sideEnd a)(h:l.drop p=bs++(sideR s++a::r))(hb:bl bs)(hs:sideE s m=0) :
  ∃q bs',side l p= .ok (bareS s) q/\l.drop q=bs'++a::r/\bl bs':=by
 obtain⟨zb,zs,za,zc,zd⟩:=za0 hs;obtain⟨tb,tt,htl,hst,hn123,_⟩:=zdy s (r:=r) he;rw[zhn] at h
 by_cases hc:s.start=true∨0<s.before.length
 ·rw[if_pos hc] at h
  -- where the items of Before begin
  obtain⟨b,bs1,hg,hb1,hst1,hd1⟩:∃(b:Nat) (bs1:List Int),(if decide (see l (gap l p)=94)=true then gap l p+1 else gap l p)=b/\bl bs1/\decide (see l (gap l p)=94)=s.start/\l.drop b=bs1++(itemsR s.before (-1)++123::(32::(itemsR s.source s.cursor++tailR s++a::r))):=by
   by_cases hs1:s.start=true
   ·rw[if_pos hs1] at h;have h1:l.drop p=bs++94::(32::(itemsR s.before (-1)++123::(32::(itemsR s.source s.cursor++tailR s++a::r)))):=by rw[h];simp
    have g:=zbm h1 hb (by decide) (by decide);have n1:=zao h1;rw[g,zai n1];exact⟨_,[32],rfl,bl32,by rw[hs1];rfl,by simp only[decide_true,if_true];rw[zal n1];rfl⟩
   ·rw[if_neg hs1] at h;have h1:l.drop p=bs++(itemsR s.before (-1)++123::(32::(itemsR s.source s.cursor++tailR s++a::r))):=by rw[h];simp
    obtain⟨b,t,hbt,n35,_,_,n94,nb⟩:=zcx (ys:=s.before) (k:= -1) (a:=123) (r:=32::(itemsR s.source s.cursor++tailR s++a::r)) (zar.1 zb).2 (.inl rfl);have g:=zbm (m:=bs) (a:=b) (r:=t) (l:=l) (p:=p) (by rw[h1,hbt]) hb nb n35;have n1:=zao h1;have hh:=zai (a:=b) (r:=t) (by rw[n1,hbt]);have hs0:s.start=false:=by simpa using hs1
    rw[g,hh,hs0,decide_eq_false n94];exact⟨_,[],rfl,zhe,rfl,by simp only[Bool.false_eq_true,if_false];rw[n1];rfl⟩
  obtain⟨q,hi,hdq⟩:=zci (.inl rfl) hd1 hb1 zb (by omega) (by omega);have t1:=zal hdq;obtain⟨q2,hi2,hdq2⟩:=zci (a:=tb) (r:=tt) (bs:= [32]) hst (p:=q+1) (l:=l) (ys:=s.source) (k:=s.cursor) (by rw[t1,<- htl];simp) bl32 zs zc zd;obtain⟨q3,bs3,ht,hd3,hb3⟩:=zil s (s.before.map bareI) (s.source.map bareI) s.cursor s.start he (by rw[hdq2,htl]) za;refine⟨q3,bs3,?_,hd3,hb3⟩;unfold side;simp only;rw[hg,hst1,hi];simp only;rw[if_pos (.inr (zai hdq)),if_neg (by omega),zai hdq,if_neg (by simp),hi2];simp only;rw[ht];rfl
 ·have hs0:s.start=false:=by cases hh:s.start with
   | false=>rfl
   | true=>exact absurd (.inl hh) hc
  have hb0:s.before= []:=by
   cases hh:s.before with
   | nil=>rfl
   | cons x xs=>exact absurd (.inr (by rw[hh];simp)) hc
  rw[if_neg hc,if_neg (by rw[hs0];simp),hb0] at h;have h1:l.drop p=bs++(itemsR s.source s.cursor++tb::tt):=by rw[h,<- htl];simp[itemsR]
  obtain⟨b,t,hbt,n35,_,_,n94,nb⟩:=zcx (ys:=s.source) (k:=s.cursor) (zar.1 zs).2 hst;have g:=zbm (m:=bs) (a:=b) (r:=t) (l:=l) (p:=p) (by rw[h1,hbt]) hb nb n35;have n1:=zao h1;have hh:=zai (a:=b) (r:=t) (by rw[n1,hbt]);obtain⟨q,hi,hdq⟩:=zci (bs:= []) hst (p:=p+bs.length) (l:=l) (ys:=s.source) (k:=s.cursor) (by rw[n1];rfl) zhe zs zc zd;obtain⟨q3,bs3,ht,hd3,hb3⟩:=zil s [] (s.source.map bareI) s.cursor s.start he (by rw[hdq,htl]) za;refine⟨q3,bs3,?_,hd3,hb3⟩;unfold side;simp only;rw[g,hh,decide_eq_false n94];simp only[Bool.false_eq_true,if_false,false_or];rw[hi];simp only;rw[if_neg (by rw[zai hdq];exact hn123)];rw[hs0] at ht;rw[ht];unfold bareS;rw[hs0,hb0];rfl
theorem ztw {l r bs:List Int}{p:Nat}{d:Int}(hd:d=1∨d=2∨d=3)(h:l.drop p=bs++(arrowR d++32::r))(hb:bl bs):∃q,dirAt l p= .ok d q/\l.drop q=32::r:=by
 rcases hd with rfl | rfl | rfl
 ·have h1:l.drop p=bs++62::(32::r):=by rw[h];rfl
  have g:=zbm h1 hb (by decide) (by decide);have n1:=zao h1;refine⟨_,?_,zal n1⟩;unfold dirAt;simp only;rw[g,zai n1,if_pos rfl]
 ·have h1:l.drop p=bs++60::(32::r):=by rw[h];rfl
  have g:=zbm h1 hb (by decide) (by decide);have n1:=zao h1;refine⟨_,?_,zal n1⟩;unfold dirAt;simp only;rw[g,zai n1,if_neg (by decide),if_neg (by simp),zai (zal n1),if_neg (by decide)]
 ·have h1:l.drop p=bs++60::(62::32::r):=by rw[h];rfl
  have g:=zbm h1 hb (by decide) (by decide);have n1:=zao h1;refine⟨_,?_,zal (zal n1)⟩;unfold dirAt;simp only;rw[g,zai n1,if_neg (by decide),if_neg (by simp),zai (zal n1),if_pos rfl]
theorem zez {d:Int}(hd:d=1∨d=2∨d=3)(r:List Int):∃a t,arrowR d++32::r=a::t/\sideEnd a:=by
 rcases hd with rfl | rfl | rfl
 ·exact⟨62,_,rfl,.inl rfl⟩
 ·exact⟨60,_,rfl,.inr (.inl rfl)⟩
 ·exact⟨60,_,rfl,.inr (.inl rfl)⟩
theorem zpq {l r:List Int}{p:Nat}{x:Part}(h:l.drop p=sideR x.left++(arrowR x.dir++ [32])++sideR x.right++59::r)(hx:ruleE x=0) :
  ∃q bs',rule l p= .ok ⟨2,⟨#[]⟩,[],x.dir,bareS x.left,bareS x.right⟩ q/\l.drop q=bs'++59::r/\bl bs':=by
 obtain⟨hd,hl,hr,_⟩:=zat hx;obtain⟨a,t,hat,hae⟩:=zez hd (sideR x.right++59::r);obtain⟨q1,b1,e1,d1,hb1⟩:=zir (bs:= []) hae (l:=l) (p:=p) (s:=x.left) (r:=t) (by rw[h,<- hat];simp) zhe hl;obtain⟨q2,e2,d2⟩:=ztw hd (l:=l) (p:=q1) (bs:=b1) (r:=sideR x.right++59::r) (by rw[d1,hat]) hb1;obtain⟨q3,b3,e3,d3,hb3⟩:=zir (bs:= [32]) (.inr (.inr rfl)) (l:=l) (p:=q2) (s:=x.right) (r:=r) (by rw[d2];rfl) bl32 hr;refine⟨q3,b3,?_,d3,hb3⟩;unfold rule;rw[e1];simp only;rw[e2];simp only;rw[e3]
theorem zfz {l r:List Int}{a:Int}(hs:stops a r){ys:List Item}{k:Int}{p:Nat}(hy:∀x∈ys,itemE x=0)(h:l.drop p=itemsR ys k++a::r) :
  see l p≠58/\(varNext l p=true->∃n q,varAt l p= .ok n q/\see l (gap l q)≠61):=by
 obtain⟨b,t,hbt,_,_,n58,_,_⟩:=zcx (k:=k) hy hs;have hh:=zai (a:=b) (r:=t) (by rw[h,hbt]);refine⟨by rw[hh];exact n58,fun hv=> ?_⟩;have hv36:b=36:=by unfold varNext at hv;rw[hh,Bool.and_eq_true] at hv;exact of_decide_eq_true hv.1
 subst hv36;cases ys with
 | nil =>
  rw[itemsR] at hbt h
  by_cases hk:k=0
  ·rw[if_pos hk] at hbt;cases hbt
  ·rw[if_neg hk] at hbt h;have:=(zd9 (l:=l) (p:=p) (a:=a) (r:=r) (by rw[h];rfl) hs).1;have e:a=36:=by cases hbt;rfl
   rcases hs with rfl | rfl | rfl | rfl | rfl | ⟨rfl,r',rfl⟩
   ·cases e
   ·cases e
   ·cases e
   ·cases e
   ·cases e
   ·have h2:=zai (a:=32) (r:=r') (zal (a:=36) (by rw[h];rfl));unfold varNext at hv;rw[h2,Bool.and_eq_true] at hv;exact absurd hv.2 (by decide)
 | cons x ys =>
  rw[itemsR] at hbt h
  by_cases hk:k=0
  ·rw[if_pos hk] at hbt;cases hbt
  ·rw[if_neg hk] at hbt h;rcases zbp (hy x (by simp)) with ⟨h1,h2⟩|⟨h1,h2⟩|⟨h1,h2⟩
   ·have e:itemR x=T.quoR x.rune:=by unfold itemR;rw[if_neg (by omega),if_neg (by omega)]
    obtain⟨c,u,hc,hf⟩:=T.zc3 (r:=x.rune);rw[e,hc] at hbt;have:c=36:=by cases hbt;rfl
    rcases hf with hf | hf
    ·omega
    ·have:=T.zba hf;omega
   ·have e:itemR x=T.prtR x.set:=by unfold itemR;rw[if_pos h1]
    obtain⟨c,u,hc,_⟩:=T.zcg x.set;rw[e,hc] at hbt;cases hbt
   ·have e:itemR x=36::nameR x.name:=by unfold itemR;rw[if_neg (by omega),if_pos h1]
    have h3:l.drop p=36::nameR x.name++32::(itemsR ys (k - 1)++a::r):=by rw[h,e];simp
    obtain⟨_,hva⟩:=zdh h3 h2;refine⟨_,_,hva,?_⟩;have hn:l.drop (p+1+(nameR x.name).length)=32::(itemsR ys (k - 1)++a::r):=zao (zal (a:=36) (by simpa using h3));obtain⟨c,u,hcu,m35,m61,_,_,mb⟩:=zcx (ys:=ys) (k:=k - 1) (fun y hy'=>hy y (List.mem_cons_of_mem _ hy')) hs;have g:=zbm (m:= [32]) (a:=c) (r:=u) (l:=l) (p:=p+1+(nameR x.name).length) (by rw[hn,hcu];rfl) bl32 mb m35;have n1:=zai (a:=c) (r:=u) (by rw[zal hn,hcu]);rw[g,List.length_singleton,n1];exact m61
theorem zm6 {l r:List Int}{p:Nat}{x:Part}(h:l.drop p=sideR x.left++(arrowR x.dir++ [32])++sideR x.right++59::r)(hx:ruleE x=0) :
  see l p≠58/\(varNext l p=true->∃n q,varAt l p= .ok n q/\see l (gap l q)≠61):=by
 obtain⟨hd,hl,hr,_⟩:=zat hx;obtain⟨a,t,hat,hae⟩:=zez hd (sideR x.right++59::r);obtain⟨zb,zs,za,zc,zd⟩:=za0 hl;have h':l.drop p=sideR x.left++a::t:=by rw[h,<- hat];simp
 obtain⟨tb,tt,htl,hst,_,_⟩:=zdy x.left (r:=t) hae;rw[zhn] at h'
 by_cases hs1:x.left.start=true
 ·rw[if_pos hs1] at h';have hh:=zai (a:=94) (l:=l) (p:=p) (by rw[h'];rfl);refine⟨by rw[hh];decide,fun hv=> ?_⟩;unfold varNext at hv;rw[hh] at hv;exact absurd hv (by simp)
 ·rw[if_neg hs1] at h'
  by_cases hb:0<x.left.before.length
  ·rw[if_pos (.inr hb)] at h';exact zfz (a:=123) (r:=32::(itemsR x.left.source x.left.cursor++tailR x.left++a::t)) (.inl rfl) (ys:=x.left.before) (k:= -1) (zar.1 zb).2 (by rw[h'];simp)
  ·have hb0:x.left.before= []:=by
    cases hh:x.left.before with
    | nil=>rfl
    | cons y ys=>exact absurd (by rw[hh];simp) hb
   rw[if_neg (by simp[hs1,hb0]),hb0] at h';exact zfz hst (ys:=x.left.source) (k:=x.left.cursor) (zar.1 zs).2 (by rw[h',<- htl];simp[itemsR])
theorem zlt {l rest:List Int}{p:Nat}{s:List Sp}(h:l.drop p=T.prtR s++rest)(hw:S.wrongE s=0):see l p=91/\T.setN 20 l p= .ok s (p+(T.prtR s).length):=by
 obtain⟨hl,hn⟩:=S.zax.1 hw;obtain⟨a,t,ha,_⟩:=T.zcg s;have hs:=zai (a:=91) (r:=a::t++rest) (by rw[h,ha];rfl);have hlt:=zc1 (a:=91) (r:=a::t++rest) (by rw[h,ha];rfl);have hlong:=T.zlx s;have hlen:=zbz h (by omega);have hsz:(T.prtR s).length=(T.innerR s).length+2:=by simp[T.prtR]
 exact⟨hs,T.zpn (n:=19) h hn hl (by omega)⟩
theorem zqd {l r:List Int}{p:Nat}{x:Part}(h:l.drop p=wordsR x++59::r)(hx:partE x=0) :
  ∃q bs',part l p= .ok (bareP x) q/\l.drop q=bs'++59::r/\bl bs':=by
 rcases zbn hx with ⟨h1,h2,h3⟩|⟨h1,h3⟩|⟨h1,h2⟩|⟨h1,h2⟩
 ·unfold wordsR at h;rw[if_pos h1] at h;have hA:l.drop p=36::nameR x.name++32::(61::32::(T.prtR x.set++32::59::r)):=by rw[h];simp
  obtain⟨hv,hva⟩:=zdh hA h2;have h36:=zai (a:=36) (l:=l) (p:=p) (by rw[hA];rfl);have n1:l.drop (p+1+(nameR x.name).length)=32::(61::32::(T.prtR x.set++32::59::r)):=zao (zal (a:=36) (by simpa using hA));have g1:=zbm (m:= [32]) (a:=61) (l:=l) (p:=p+1+(nameR x.name).length) (by rw[n1];rfl) bl32 (by decide) (by decide);have t1:=zal n1;have t2:=zal t1;have t3:=zal t2;obtain⟨h91,hset⟩:=zlt t3 h3;obtain⟨a,t,ha,_⟩:=T.zcg x.set;have g2:=zbm (m:= [32]) (a:=91) (r:=a::t++32::59::r) (l:=l) (p:=p+1+(nameR x.name).length+1+1) (by rw[t2,ha];rfl) bl32 (by decide) (by decide);refine⟨_,[32],?_,by rw[zao t3];rfl,bl32⟩;unfold part;rw[h36,if_neg (by decide),hv,if_pos rfl,hva];simp only;rw[g1,List.length_singleton,zai t1,if_pos rfl,g2,List.length_singleton,hset];simp only;unfold bareP;simp[h1]
 ·unfold wordsR at h;rw[if_neg (by omega),if_pos h1] at h;have hA:l.drop p=58::58::32::(T.prtR x.set++32::59::r):=by rw[h];simp
  have t1:=zal hA;have t2:=zal t1;have t3:=zal t2;obtain⟨h91,hset⟩:=zlt t3 h3;obtain⟨a,t,ha,_⟩:=T.zcg x.set;have g2:=zbm (m:= [32]) (a:=91) (r:=a::t++32::59::r) (l:=l) (p:=p+1+1) (by rw[t2,ha];rfl) bl32 (by decide) (by decide);refine⟨_,[32],?_,by rw[zao t3];rfl,bl32⟩;unfold part;rw[zai hA,if_pos rfl,zai t1,if_neg (by simp),show p+2=p+1+1 from rfl,g2,List.length_singleton];unfold wholeAt;rw[h91,if_pos rfl,hset];simp only;unfold bareP;simp[h1]
 ·unfold wordsR at h;rw[if_neg (by omega),if_neg (by omega),if_pos h1] at h;have hA:l.drop p=58::58::32::(nameR x.name++32::59::r):=by rw[h];simp
  have t1:=zal hA;have t2:=zal t1;have t3:=zal t2;obtain⟨hall,hf⟩:=ze5 h2;obtain⟨e1,e2⟩:=zo0 t3 hall hf;rw[zgg] at e2;obtain⟨a,t,ha,hla⟩:=hf;have hh:=zai (a:=a) (r:=t++32::59::r) (by rw[t3,ha];rfl);have hw:=zfc (ze6 hla)
  have hl2:95<=a:=by
   unfold letter at hla;simp only[Bool.or_eq_true,Bool.and_eq_true,decide_eq_true_eq] at hla;omega
  have hbk:T.blank a=false:=by
   have hb:T.blank a=false↔¬(a=32∨a=9∨a=10):=by simp[T.blank,T.blanks]
   rw[hb];omega
  have g2:=zbm (m:= [32]) (a:=a) (r:=t++32::59::r) (l:=l) (p:=p+1+1) (by rw[t2,ha];rfl) bl32 hbk (by omega);refine⟨_,[32],?_,by rw[zao t3];rfl,bl32⟩;unfold part;rw[zai hA,if_pos rfl,zai t1,if_neg (by simp),show p+2=p+1+1 from rfl,g2,List.length_singleton];unfold wholeAt;rw[hh,if_neg (by omega),e2,if_pos h2,e1];unfold bareP;simp[h1]
 ·unfold wordsR at h;rw[if_neg (by omega),if_neg (by omega),if_neg (by omega),if_pos h1] at h;obtain⟨f58,fv⟩:=zm6 h h2;obtain⟨q,bs',hr,hd,hb⟩:=zpq h h2;refine⟨q,bs',?_,hd,hb⟩;have hbare:bareP x=⟨2,⟨#[]⟩,[],x.dir,bareS x.left,bareS x.right⟩:=by unfold bareP;simp[h1]
  rw[hbare];unfold part;rw[if_neg f58]
  by_cases hv:varNext l p=true
  ·obtain⟨n,q',hva,h61⟩:=fv hv;rw[if_pos hv,hva];simp only;rw[if_neg h61,hr]
  ·rw[if_neg hv,hr]
/-! what is bare is right if it was -/
theorem zmi {x:Item}(h:itemE x=0):itemE (bareI x)=0/\(bareI x).kind=x.kind:=by
 rcases zbp h with ⟨h1,h2⟩|⟨h1,h2⟩|⟨h1,h2⟩
 ·unfold bareI;rw[if_pos h1];exact⟨by simp[itemE,runeI,h2],by rw[h1];rfl⟩
 ·unfold bareI;rw[if_neg (by omega),if_pos h1];exact⟨by simp[itemE,setI,h2],by rw[h1];rfl⟩
 ·unfold bareI;rw[if_neg (by omega),if_neg (by omega),if_pos h1];exact⟨by simp[itemE,varI,h2],by rw[h1];rfl⟩
theorem zc6 {l:List Item}(h:itemsE l=0):itemsE (l.map bareI)=0:=by
 obtain⟨h1,h2⟩:=zar.1 h;refine zar.2 ⟨by simpa using h1,fun x hx=> ?_⟩;obtain⟨y,hy,rfl⟩:=List.mem_map.1 hx;exact(zmi (h2 y hy)).1
theorem zmh {s:Side}{m:Bool}(h:sideE s m=0):sideE (bareS s) m=0:=by
 obtain⟨zb,zs,za,zc,zd⟩:=za0 h;unfold sideE at h ⊢;have e1:(bareS s).before=s.before.map bareI:=rfl;have e2:(bareS s).source=s.source.map bareI:=rfl;have e3:(bareS s).after=s.after.map bareI:=rfl;have e4:(bareS s).cursor=s.cursor:=rfl;rw[zb,zs,za] at h;rw[e1,e2,e3,e4,zc6 zb,zc6 zs,zc6 za,List.length_map];exact h
theorem zhf {s:Side}(h:itemsE s.source=0):gives (bareS s)=gives s:=by
 obtain⟨_,h2⟩:=zar.1 h;unfold gives;show (s.source.map bareI).all _=_;rw[List.all_map];generalize s.source=l at h2
 induction l with
 | nil=>rfl
 | cons x l ih =>
  simp only[List.all_cons,Function.comp];rw[(zmi (h2 x (by simp))).2];have:=ih fun y hy=>h2 y (List.mem_cons_of_mem _ hy)
  exact congrArg _ this
theorem zgi (s:Side):around (bareS s)=around s:=by
 unfold around;simp[bareS]
theorem zt7 {x:Part}(h:partE x=0):partE (bareP x)=0:=by
 rcases zbn h with ⟨h1,h2,h3⟩|⟨h1,h3⟩|⟨h1,h2⟩|⟨h1,h2⟩
 ·unfold partE bareP;simp[h1,h2,h3]
 ·unfold partE bareP;simp[h1,h3]
 ·unfold partE bareP;simp[h1,h2]
 ·have hbare:bareP x=⟨2,⟨#[]⟩,[],x.dir,bareS x.left,bareS x.right⟩:=by unfold bareP;simp[h1]
  obtain⟨hd,hl,hr,hf⟩:=zat h2;have zl:=za0 hl;have zr:=za0 hr
  have hf':fits (bareP x)=true:=by
   rw[<- hf,hbare];unfold fits;simp only;rw[zhf zl.2.1,zhf zr.2.1,zgi,zgi];rfl
  rw[hbare] at hf' ⊢;unfold partE;simp only;rw[if_neg (by decide),if_neg (by decide),if_neg (by decide),if_pos trivial];unfold ruleE;simp only;rw[if_neg (by omega),if_neg (by rw[zmh hl];simp),if_neg (by rw[zmh hr];simp),if_pos hf']
theorem zob {l r:List Int}{p:Nat}{x:Part}(h:l.drop p=partR x++r)(hx:partE x=0):∃q,ended l p= .ok (bareP x) q/\l.drop q=10::r:=by
 have h':l.drop p=wordsR x++59::10::r:=by rw[h];simp[partR]
 obtain⟨q,bs,hp,hd,hb⟩:=zqd h' hx;have g:=zbm hd hb (by decide) (by decide);have n1:=zao hd;refine⟨_,?_,zal n1⟩;unfold ended;rw[hp];simp only;rw[g,zai n1,if_neg (by simp),zt7 hx,if_neg (by simp)]
theorem znl {x:Part}(hx:partE x=0)(r:List Int):∃b t,partR x++r=b::t/\b≠35/\b≠ -1/\T.blank b=false:=by
 rcases zbn hx with ⟨h1,h2,h3⟩|⟨h1,h3⟩|⟨h1,h2⟩|⟨h1,h2⟩
 ·unfold partR wordsR;rw[if_pos h1];exact⟨36,_,rfl,by decide⟩
 ·unfold partR wordsR;rw[if_neg (by omega),if_pos h1];exact⟨58,_,rfl,by decide⟩
 ·unfold partR wordsR;rw[if_neg (by omega),if_neg (by omega),if_pos h1];exact⟨58,_,rfl,by decide⟩
 ·unfold partR wordsR;rw[if_neg (by omega),if_neg (by omega),if_neg (by omega),if_pos h1];obtain⟨hd,hl,hr,_⟩:=zat h2;obtain⟨a,t,hat,hae⟩:=zez hd (sideR x.right++59::10::r);obtain⟨zb,zs,za,zc,zd⟩:=za0 hl;obtain⟨tb,tt,htl,hst,_,_⟩:=zdy x.left (r:=t) hae;have e:sideR x.left++(arrowR x.dir++ [32])++sideR x.right++ [59,10]++r=sideR x.left++a::t:=by rw[<- hat];simp
  rw[e,zhn];have fin:∀ {b:Int},b≠35->T.blank b=false->b≠61->b≠58->b≠94->b≠ -1∨b= -1:=fun _ _ _ _ _=>by omega
  by_cases hs1:x.left.start=true
  ·rw[if_pos hs1];exact⟨94,_,rfl,by decide⟩
  ·rw[if_neg hs1]
   by_cases hb:0<x.left.before.length
   ·rw[if_pos (.inr hb)];cases hh:x.left.before with
    | nil=>rw[hh] at hb;simp at hb
    | cons y ys =>
     obtain⟨b,u,hbu,hf⟩:=zck ((zar.1 zb).2 y (by rw[hh];simp));have hn:=zea hf;rw[itemsR,if_neg (by decide),hbu];refine⟨b,_,rfl,hn.2.1,?_,hn.2.2.2.2.2.2.2⟩;rcases hf with rfl | hf | rfl | rfl
     ·decide
     ·have:=T.zba hf;omega
     ·decide
     ·decide
   ·have hb0:x.left.before= []:=by
     cases hh:x.left.before with
     | nil=>rfl
     | cons y ys=>exact absurd (by rw[hh];simp) hb
    rw[if_neg (by simp[hs1,hb0]),hb0];have e2:([]:List Int)++(itemsR [] (-1)++([]++(itemsR x.left.source x.left.cursor++tailR x.left)))++a::t=itemsR x.left.source x.left.cursor++tb::tt:=by rw[<- htl];simp[itemsR]
    rw[e2];cases hh:x.left.source with
    | nil =>
     rw[itemsR]
     by_cases hk:x.left.cursor=0
     ·rw[if_pos hk];exact⟨124,_,rfl,by decide⟩
     ·rw[if_neg hk];refine⟨tb,tt,rfl,?_⟩;rcases hst with rfl | rfl | rfl | rfl | rfl | ⟨rfl,_⟩ <;> decide
    | cons y ys =>
     rw[itemsR]
     by_cases hk:x.left.cursor=0
     ·rw[if_pos hk];exact⟨124,_,rfl,by decide⟩
     ·obtain⟨b,u,hbu,hf⟩:=zck ((zar.1 zs).2 y (by rw[hh];simp));have hn:=zea hf;rw[if_neg hk,hbu];refine⟨b,_,rfl,hn.2.1,?_,hn.2.2.2.2.2.2.2⟩;rcases hf with rfl | hf | rfl | rfl
      ·decide
      ·have:=T.zba hf;omega
      ·decide
      ·decide
theorem zsw {l:List Int}:∀(ys xs:List Part) (f p:Nat) (bs:List Int),l.drop p=bs++printR ys->p<=l.length->bl bs->(∀x∈ys,partE x=0)->xs.length+ys.length<=200->ys.length<f ->
  ∃q,partsN f l xs (gap l p)= .ok (xs++ys.map bareP) q:=by
 intro ys
 induction ys with
 | nil =>
  intro xs f p bs h hp hb _ _ hf;obtain⟨f,rfl⟩:∃g,f=g+1:=⟨f - 1,by simp at hf;omega⟩;have g:=zvk (m:=bs) (l:=l) (p:=p) (by rw[h];simp[printR]) hp hb;rw[g,partsN,T.zc0 qN,if_pos rfl];exact⟨l.length,by simp⟩
 | cons y ys ih =>
  intro xs f p bs h hp hb hy hl hf;obtain⟨f,rfl⟩:∃g,f=g+1:=⟨f - 1,by simp at hf;omega⟩;have e:printR (y::ys)=partR y++printR ys:=by simp[printR]
  rw[e] at h;obtain⟨b,t,hbt,n35,nm,nb⟩:=znl (hy y (by simp)) (printR ys);have g:=zbm (m:=bs) (a:=b) (r:=t) (l:=l) (p:=p) (by rw[h,hbt]) hb nb n35;have n1:=zao h;have hh:=zai (a:=b) (r:=t) (by rw[n1,hbt]);obtain⟨q,hq,hdq⟩:=zob n1 (hy y (by simp));simp only[List.length_cons] at hl hf;obtain⟨q',hq'⟩:=ih (xs++ [bareP y]) f q [10] (by rw[hdq];rfl) (Nat.le_of_lt (zc1 hdq)) bl10 (fun x hx=>hy x (List.mem_cons_of_mem _ hx)) (by simp;omega) (by omega);refine⟨q',?_⟩;rw[g,partsN,hh,if_neg nm,if_neg (by omega),hq];simp only;rw[hq'];simp
theorem zm7 {ys:List Part}(hy:∀x∈ys,partE x=0)(h200:ys.length<=200)(hl:(printR ys).length<=16000):∃q,read (printR ys)= .ok (ys.map bareP) q:=by
 obtain⟨q,hq⟩:=zsw ys [] 202 0 [] (l:=printR ys) rfl (Nat.zero_le _) zhe hy (by simpa using h200) (by omega);refine⟨q,?_⟩;unfold read parts;rw[if_neg (by omega),hq];rfl
end Go.Proofs.YtmcljejgbikbhaaGreatDoor.R
namespace Go.Proofs.YtmcljejgbikbhaaGreatDoor.T
open S (Sp)
theorem zue {l:List Int}{p:Nat}(h:see l p≠ -1):p<l.length:=by
 apply Classical.byContradiction;intro hn;exact h (zc0 (by omega))
structure In (l L M:List Int) (k:Nat):Prop where
 eq:∃A:List Int,L=A++l++M/\A.length=k
section
variable {l L M:List Int} {k:Nat}
def Sub (l:List Int) (sub:Nat->Out (List Sp)) (k:Nat) (sub':Nat->Out (List Sp)):Prop:=∀p t q,sub p= .ok t q->sub' (k+p)= .ok t (k+q)/\q<=l.length/\T.see l p=91/\p+1<q
end
end Go.Proofs.YtmcljejgbikbhaaGreatDoor.T
