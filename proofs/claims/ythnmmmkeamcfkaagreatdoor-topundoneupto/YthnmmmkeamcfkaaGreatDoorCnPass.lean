import Derived.Test.YthnmmmkeamcfkaaGreatDoorXVm2
set_option maxHeartbeats 0
set_option maxRecDepth 20000
set_option linter.unusedSimpArgs false
set_option linter.unusedVariables false
namespace Go.Proofs.YthnmmmkeamcfkaaGreatDoor
open Go.Proofs.Tryz
namespace K
theorem zl3 {l:List Rule}:∀ {left:Nat} {done rest:List Int} {s p:Int},done.length+rest.length<=4000->(play l left done rest s p).2.1.length<=4000:=by
 intro left
 induction left with
 | zero =>
  intro done rest s p h;rw[play];split
  ·show done.length<=4000;omega
  ·show 0<=4000;omega
 | succ left ih =>
  intro done rest s p h;rw[play];split
  ·show done.length<=4000;omega
  ·split
   ·exact ih (by simp;omega)
   ·simp only;split
    ·show 0<=4000;omega
    ·exact ih (by simp;omega)
theorem zlw {l:List Rule}{t:List Int}:(runF l t).1.1.length<=4000:=by
 unfold runF;split
 ·rename_i h
  have ht:=zd9 (zcn h).2.1;exact zl3 (by simpa using ht)
 ·show 0<=4000;omega
end K
namespace Cn
open Go.RowKit
theorem znj {l:List K.Rule}(hE:∀r∈l,K.ruleE r=0):∀(left:Nat) (a b:List Int) (s p:Int),K.allR a=true->K.allR b=true->K.allR (K.play l left a b s p).2.1=true:=by
 intro left
 induction left with
 | zero =>
  intro a b s p ha hb;rw[K.play];split
  ·exact ha
  ·rfl
 | succ n ih =>
  intro a b s p ha hb;rw[K.play];split
  ·exact ha
  ·split
   ·exact ih _ _ _ _ (Gm.zc3.2 ⟨ha,Gm.zcp hb fun x hx=>List.mem_of_mem_take hx⟩) (Gm.zcp hb fun x hx=>List.mem_of_mem_drop hx)
   ·rename_i hk
    simp only;split
    ·rfl
    ·rcases K.zcw (l:=l) (t:=a++b) (k:=(a.length:Int)) with h | ⟨j,r,hr,hm,hj⟩
     ·omega
     ·have e:(l[(K.which l (a++b) a.length).toNat]?).getD K.noRule=r:=by rw[hj];simp[hr]
      rw[e];have hR:K.allR (K.restOf r b)=true:=Gm.zc3.2 ⟨(K.zal (hE r (List.mem_of_getElem? hr))).2.2.2.2.2.1,Gm.zcp hb fun x hx=>List.mem_of_mem_drop hx⟩;exact ih _ _ _ _ (Gm.zc3.2 ⟨ha,Gm.zcp hR fun x hx=>List.mem_of_mem_take hx⟩) (Gm.zcp hR fun x hx=>List.mem_of_mem_drop hx)
theorem zwo {l:List K.Rule}{t x:List Int}{s p e f2:Int}(h:Gm.Ply l t x s p e f2):Tx x:=by
 obtain⟨o,hc,⟨_,rfl,_⟩|⟨ho,hp,_⟩⟩:=h
 ·exact Tx.nil
 ·rcases hc with ⟨h1,rfl⟩|⟨_,h1,rfl⟩|⟨h1,h2,_⟩
  ·exact absurd ho h1
  ·exact absurd ho h1
  ·have ht:=zpm.1 h2;have hE:=(K.zax h1).2.1;have e1:x=(K.play l (8*t.length+40) [] t 0 0).2.1:=by rw[hp]
   rw[e1];exact⟨K.zl3 (by simpa using ht.1),znj hE _ _ _ _ _ rfl ht.2⟩
theorem zwa {l:List K.Rule}{t:List Int}{o o':List J.Hd×Int×Int}(h:Gm.Chk l t o)(h':Gm.Chk l t o'):o=o':=by
 rcases h with ⟨h1,rfl⟩|⟨h0,h1,rfl⟩|⟨h0,h1,h2⟩ <;> rcases h' with ⟨g1,rfl⟩|⟨g0,g1,rfl⟩|⟨g0,g1,g2⟩
 ·rfl
 ·exact absurd g0 h1
 ·exact absurd g0 h1
 ·exact absurd h0 g1
 ·rfl
 ·exact absurd g1 h1
 ·exact absurd h0 g1
 ·exact absurd h1 g1
 ·exact J.zk8 h2 g2
theorem zqi {l:List K.Rule}{t x x':List Int}{s p e f2 s' p' e' f2':Int}(h:Gm.Ply l t x s p e f2)(h':Gm.Ply l t x' s' p' e' f2'):x=x'/\e=e':=by
 obtain⟨o,hc,h⟩:=h;obtain⟨o',hc',h'⟩:=h';have:=zwa hc hc';subst this;rcases h with ⟨h0,rfl,_,_,rfl,_⟩|⟨h0,hp,_⟩ <;> rcases h' with ⟨g0,rfl,_,_,rfl,_⟩|⟨g0,gp,_⟩
 ·exact⟨rfl,rfl⟩
 ·exact absurd g0 h0
 ·exact absurd h0 g0
 ·rw[hp] at gp;simp only[Prod.mk.injEq] at gp;exact⟨gp.2.1,gp.1⟩
def PlOk (pl:Pl):Prop:=(∀l t x s p e f2,Gm.Ply l t x s p e f2->pl l t=(x,e))/\∀l x,Tx (pl l x).1
theorem zvq:∃pl,PlOk pl:=by
 have each:∀l t,∃q:List Int×Int,(∀x s p e f2,Gm.Ply l t x s p e f2->q=(x,e))/\Tx q.1:=fun l t=>by
  by_cases h:∃x s p e f2,Gm.Ply l t x s p e f2
  ·obtain⟨x,s,p,e,f2,h⟩:=h;exact⟨(x,e),fun x' s' p' e' f2' h'=>by rw[(zqi h h').1,(zqi h h').2],zwo h⟩
  ·exact⟨([],0),fun x s p e f2 h'=>absurd ⟨x,s,p,e,f2,h'⟩ h,Tx.nil⟩
 have hc:=fun l=>Classical.axiomOfChoice (each l)
 obtain⟨pl,hp⟩:=Classical.axiomOfChoice hc;exact⟨pl,fun l t x s p e f2 h=>(hp l t).1 x s p e f2 h,fun l x=>(hp l x).2⟩
end Cn
section
open Go.RowKit
namespace K
theorem zqe {w:World}{v:Value}{zs:List Int}{b:Nat}{x y:Int}{ty:TypeId}(h:L.Rd w v .i32 zs)(hb:w.heap[b]?=some (.cells #[.int .i64 x,.int .i64 y] ty))(hz:zs≠ []):∀k,v.ownBlock=some k->k≠b:=by
 obtain⟨ao,cap,rfl,hn,hc⟩:=h;obtain⟨b',off,rfl,hcell⟩:=hc hz;intro k hk e;have:b'=k:=by simpa [Value.ownBlock] using hk
 subst this e;obtain⟨z,hz2⟩:∃z,zs[0]?=some z:=⟨zs[0]'(List.length_pos_iff.2 hz),by simp⟩;have hc0:=hcell 0 z hz2;rw[World.cell?] at hc0;simp only[show w.heap[b']?=_ from hb] at hc0;simp at hc0;have hlt:=(qL.1 hc0).1
 match off,hc0 with
 | 0,hc0=>simp at hc0
 | 1,hc0=>simp at hc0
 | n+2,_=>simp at hlt;omega
theorem set2 {w:World}{b:Nat}{x y:Value}{ty:TypeId}(hb:w.heap[b]?=some (.cells #[x,y] ty))(x' y':Value):((w.setCell ⟨b,0,none⟩ x').setCell ⟨b,1,none⟩ y').heap[b]?=some (.cells #[x',y'] ty):=heap_setCell_same _ b 1 _ _ y' (heap_setCell_same w b 0 _ _ x' hb)
end K
end
section
open Go.RowKit
namespace Cn
def Acts (w0:World) (B:Nat) (w:World) (v:Value) (F:List Int->List Int×Int):Prop :=
 ∃g cb,∃bx:Option (Nat×Obj),v= .func (.func g) #[] cb/\(∀args w,(callFunc g args).run prog w= .ok (.enter g args) w)/\(∀p,bx=some p->B<=p.1/\w.heap[p.1]?=some p.2) /\
  ∀W vt t,Below w0.heap.size w0 W->(∀p,bx=some p->W.heap[p.1]?=some p.2)->L.Rd W vt .i32 t->Tx t->Calls prog g (#[vt]++cb) W fun e w'=>∃v',e= .returned (.tuple #[v',.int .i64 (F t).2])/\L.Rd w' v' .i32 (F t).1/\Below W.heap.size W w'
theorem Acts.keep {w0 w w':World}{B B':Nat}{v:Value}{F:List Int->List Int×Int}(h:Acts w0 B w v F)(hB:B'<=B)(hk:∀b o,B<=b->w.heap[b]?=some o->w'.heap[b]?=some o):Acts w0 B' w' v F:=by
 obtain⟨g,cb,bx,hv,eg,hb,hc⟩:=h;exact⟨g,cb,bx,hv,eg,fun p hp=>⟨Nat.le_trans hB (hb p hp).1,hk _ _ (hb p hp).1 (hb p hp).2⟩,hc⟩
theorem Acts.below {w0 w w':World}{B:Nat}{v:Value}{F:List Int->List Int×Int}(h:Acts w0 B w v F)(hb:Below w.heap.size w w'):Acts w0 B w' v F :=
 h.keep qN fun b o _ ho=>K.zae ho hb
theorem Acts.call {w0 w:World}{B:Nat}{v:Value}{F:List Int->List Int×Int}(h:Acts w0 B w v F)(h0:Below w0.heap.size w0 w):∃g cb,v= .func (.func g) #[] cb/\(∀args w,(callFunc g args).run prog w= .ok (.enter g args) w) /\
  ∀vt t,L.Rd w vt .i32 t->Tx t->Calls prog g (#[vt]++cb) w fun e w'=>∃v',e= .returned (.tuple #[v',.int .i64 (F t).2])/\L.Rd w' v' .i32 (F t).1/\Below w.heap.size w w':=by
 obtain⟨g,cb,bx,hv,eg,hb,hc⟩:=h;exact⟨g,cb,hv,eg,fun vt t=>hc w vt t h0 fun p hp=>(hb p hp).2⟩
end Cn
theorem zis (w:World)(vt:Value) :
  Calls prog 170 #[vt] w fun e w'=>e= .returned (.tuple #[vt,.int .i64 0])/\w'=w:=by
 go_enter func170,ntmps170
 go_wp2;refine bodyPost_ret (v:= .tuple #[vt,.int .i64 0]) (by simp[results,results170,go_sem, *]) rfl ?_
 exact⟨rfl,rfl⟩
theorem zgh (w:World)(vt:Value) :
  Calls prog 171 #[vt] w fun e w'=>e= .returned (.tuple #[.slice none 0 0,.int .i64 0])/\w'=w:=by
 go_enter func171,ntmps171
 go_wp2;refine bodyPost_ret (v:= .tuple #[.slice none 0 0,.int .i64 0]) (by simp[results,results171,go_sem, *]) rfl ?_
 exact⟨rfl,rfl⟩
theorem zho (pl:Cn.Pl)(hpl:Cn.PlOk pl)(w:World)(b:Nat)(v:Value)(l:List K.Rule)(hb:w.heap[b]?=some (.cells #[v] 30))(R0:V.Rus w v l)(vt:Value)(t:List Int)(Rt:L.Rd w vt .i32 t)(ht:Cn.Tx t) :
  Calls prog 173 #[vt,.pointer (some ⟨b,0,none⟩)] w fun e w'=>∃v',e= .returned (.tuple #[v',.int .i64 (pl l t).2])/\L.Rd w' v' .i32 (pl l t).1/\Below w.heap.size w w':=by
 have HP:=zjo w v l R0 vt t Rt (by have:=ht.1;omega);have k0:w.cell? ⟨b,0,none⟩=some v:=K.zad hb rfl;obtain⟨⟨q1,q2⟩,hq⟩:∃q,pl l t=q:=⟨_,rfl⟩
 have HQ:Hid (∀x s p e f2,Gm.Ply l t x s p e f2->q1=x/\q2=e):=fun x s p e f2 h=>by
  have:=hpl.1 _ _ _ _ _ _ _ h;rw[hq] at this;exact Prod.mk.inj this
 rw[hq];obtain⟨ao,cap,rfl⟩:=R0.len;obtain⟨xo,xc,rfl,_⟩:=Rt;clear R0 hb hq hpl
 go_enter func173,ntmps173
 go_wp2_with fail
 refine HP.mono ?_;rintro e w1 ⟨v1,x,s,p,f1,f2,rfl,d1,hply,hx4,b1⟩;obtain⟨rfl,rfl⟩:=HQ.out _ _ _ _ _ hply;obtain⟨va,vc,rfl⟩:∃va vc,v1= .slice va q1.length vc:=by obtain⟨a,c,h,_⟩:=d1;exact⟨a,c,h⟩
 have HD:Hid (L.Rd w1 (.slice va q1.length vc) .i32 q1/\Below w.heap.size w w1):=⟨d1,b1⟩;clear HP HQ hply d1 b1 k0;go_wp2
 go_region
 go_wp2;refine bodyPost_ret (v:= .tuple #[.slice va q1.length vc,.int .i64 q2]) (by simp[results,results173,go_sem, *]) rfl ?_
 have hB:∀x y,Below w1.heap.size w1 ((w1.alloc x).alloc y).drew:=fun x y=>(((qR w1).alloc qN _).alloc (by simp) _).drew
 exact⟨_,rfl,HD.out.1.below (hB _ _) qN,HD.out.2.trans ((hB _ _).mono HD.out.2.size)⟩
theorem Cn.zvh {w:World}{g k:Nat}{cur:List Int}(h:K.Row w g (K.ints cur))(z:Int):K.Row (w.setCell ⟨g,k,none⟩ (.int .i32 z)) g (K.ints (cur.set k z)):=by
 have:=heap_setCell_same w g k _ _ (.int .i32 z) h;unfold K.Row;rw[this];simp[K.ints]
theorem Cn.zwl {w:World}{g:Nat}{cur:List Int}(h:K.Row w g (K.ints cur)):L.Rd w (.slice (some ⟨g,0,none⟩) cur.length cur.length) .i32 cur :=
 ⟨_,_,rfl,fun e=>by (cases e),fun _=>⟨g,0,rfl,fun j z hj=>by rw[Nat.zero_add,h.cell j,K.ints,List.getElem?_map,hj];rfl⟩⟩
theorem zjb (w:World)(b g:Nat)(ty:TypeId)(f:Int->Int)(hb:w.heap[b]?=some (.cells #[.func (.func g) #[] #[]] ty))(eg:∀args w,(callFunc g args).run prog w= .ok (.enter g args) w)
  (hf:∀W r,0<=r->r<=1114111->Calls prog g #[.int .i32 r] W fun e w'=>e= .returned (.int .i32 (f r))/\w'=W) (vt:Value) (t:List Int) (Rt:L.Rd w vt .i32 t) (ht:Cn.Tx t) :
  Calls prog 200 #[vt,.pointer (some ⟨b,0,none⟩)] w fun e w'=>∃v',e= .returned (.tuple #[v',.int .i64 0])/\L.Rd w' v' .i32 (t.map f)/\Below w.heap.size w w':=by
 have HR:Hid (L.Rd w vt .i32 t/\w.heap[b]?=some (.cells #[.func (.func g) #[] #[]] ty)/\b<w.heap.size):=⟨Rt,hb,lt_of_block hb⟩;have HF:=qH hf;have hl:=ht.1;have HT:=qH ht.range;obtain⟨xo,xc,rfl,_⟩:=Rt;obtain⟨W,hmk,hrow,hB,hs⟩:=Gm.zl9 w t.length (by omega);have HW:Hid (K.Row W w.heap.size (K.ints (List.replicate t.length 0))/\Below w.heap.size w W):=⟨hrow,hB⟩;clear hb hf ht hrow hB hs
 go_enter func200,ntmps200
 go_wp2
 go_loopw [13] (fun i wr=>∃(k:Nat) (cur:List Int),k<=t.length/\i= .int .i64 k/\Hid (K.Row wr w.heap.size (K.ints cur)/\Below w.heap.size w wr/\cur.take k=(t.take k).map f/\cur.length=t.length)) (fun i _=>t.length - (intOf i).toNat)
 case atStart=>exact⟨0,List.replicate t.length 0,Nat.zero_le _,rfl,⟨HW.out.1,HW.out.2,rfl,by simp⟩⟩
 case round =>
  obtain⟨k,cur,hk,rfl,HI⟩:=hrel
  by_cases hlt:k<t.length
  ·obtain⟨z,hz⟩:∃z,t[k]?=some z:=⟨t[k],by simp[hlt]⟩;obtain⟨ao',cap',e',_,hcs⟩:=HR.out.1.below HI.out.2.1 qN;cases e';obtain⟨bt,off,rfl,hcell⟩:=hcs (by intro h;subst h;simp at hlt);have c0:=hcell k z hz;have k0:wr.cell? ⟨b,0,none⟩=some (.func (.func g) #[] #[]):=K.zad ((HI.out.2.1.block b HR.out.2.2).trans HR.out.2.1) rfl;have hcl:k<cur.length:=by have:=HI.out.2.2.2;omega
   have k1:wr.cell? ⟨w.heap.size,k,none⟩=some (.int .i32 (cur[k])):=by rw[HI.out.1.cell k,K.ints,List.getElem?_map];simp[hcl]
   have fz:=HI.out.1.free k;have hC:=HF.out wr z (HT.out z (List.mem_of_getElem? hz)).1 (HT.out z (List.mem_of_getElem? hz)).2
   have HN:Hid (K.Row (wr.setCell ⟨w.heap.size,k,none⟩ (.int .i32 (f z))) w.heap.size (K.ints (cur.set k (f z)))/\Below w.heap.size w (wr.setCell ⟨w.heap.size,k,none⟩ (.int .i32 (f z)))/\(cur.set k (f z)).take (k+1)=(t.take (k+1)).map f/\(cur.set k (f z)).length=t.length):=by
    refine⟨Cn.zvh HI.out.1 _,HI.out.2.1.setCell (p:=⟨w.heap.size,k,none⟩) qN _,?_,by simpa using HI.out.2.2.2⟩;rw[List.take_add_one,List.take_set_of_le (Nat.le_refl k),List.getElem?_set_self hcl,HI.out.2.2.1,List.take_add_one,hz];simp
   clear hcs hcell hz;generalize cur.set k (f z)=cur2 at HN;generalize f z=fz2 at HN hC
   go_wp2_with fail
   refine hC.mono ?_;rintro e w1 ⟨rfl,rfl⟩;go_wp2
   go_roundw
   case rel=>exact⟨k+1,cur2,by omega,by go_num,HN⟩
   case measure=>simp[intOf];omega
  ·have hkl:k=t.length:=by omega
   subst hkl;go_wp2;refine bodyPost_ret (v:= .tuple #[.slice (some ⟨w.heap.size,0,none⟩) t.length t.length,.int .i64 0]) (by simp[results,results200,go_sem, *]) rfl ?_;obtain⟨h1,h2,h3,h4⟩:=HI.out
   have h5:cur=t.map f:=by
    rw[List.take_length,<- h4,List.take_length] at h3;exact h3
   subst h5;have:=Cn.zwl h1;rw[h4] at this;exact⟨_,rfl,this,h2⟩
