import Derived.Test.YtcadaallpiekiaaGreatDoorQMath2
set_option maxHeartbeats 0
set_option maxRecDepth 20000
set_option linter.unusedSimpArgs false
set_option linter.unusedVariables false
namespace Go.Proofs.YtcadaallpiekiaaGreatDoor
open Go.Proofs.Tryz
namespace Cn
open Go.RowKit
theorem zm5 {l:List K.Rule}(hE:∀r∈l,K.ruleE r=0):∀(left:Nat) (a b:List Int) (s p:Int),K.allR a=true->K.allR b=true->K.allR (K.play l left a b s p).2.1=true:=by
 intro left
 induction left with
 | zero =>
  intro a b s p ha hb;rw[K.play];split
  ·exact ha
  ·rfl
 | succ n ih =>
  intro a b s p ha hb;rw[K.play];split
  ·exact ha
  ·split
   ·exact ih _ _ _ _ (Gm.zda.2 ⟨ha,Gm.zc9 hb fun x hx=>List.mem_of_mem_take hx⟩) (Gm.zc9 hb fun x hx=>List.mem_of_mem_drop hx)
   ·rename_i hk
    simp only;split
    ·rfl
    ·rcases K.ze1 (l:=l) (t:=a++b) (k:=(a.length:Int)) with h|⟨j,r,hr,hm,hj⟩
     ·omega
     ·have e:(l[(K.which l (a++b) a.length).toNat]?).getD K.noRule=r:=by rw[hj];simp[hr]
      rw[e];have hR:K.allR (K.restOf r b)=true:=Gm.zda.2 ⟨(K.zas (hE r (List.mem_of_getElem? hr))).2.2.2.2.2.1,Gm.zc9 hb fun x hx=>List.mem_of_mem_drop hx⟩;exact ih _ _ _ _ (Gm.zda.2 ⟨ha,Gm.zc9 hR fun x hx=>List.mem_of_mem_take hx⟩) (Gm.zc9 hR fun x hx=>List.mem_of_mem_drop hx)
theorem zva {l:List K.Rule}{t x:List Int}{s p e f2:Int}(h:Gm.Ply l t x s p e f2):Tx x:=by
 obtain⟨o,hc,⟨_,rfl,_⟩|⟨ho,hp,_⟩⟩:=h
 ·exact Tx.nil
 ·rcases hc with ⟨h1,rfl⟩|⟨_,h1,rfl⟩|⟨h1,h2,_⟩
  ·exact absurd ho h1
  ·exact absurd ho h1
  ·have ht:=zeb.1 h2;have hE:=(K.zba h1).2.1;have e1:x=(K.play l (8*t.length+40) [] t 0 0).2.1:=by rw[hp]
   rw[e1];exact⟨K.zr5 (by simpa using ht.1),zm5 hE _ _ _ _ _ rfl ht.2⟩
theorem zux {l:List K.Rule}{t:List Int}{o o':List J.Hd×Int×Int}(h:Gm.Chk l t o)(h':Gm.Chk l t o'):o=o':=by
 rcases h with ⟨h1,rfl⟩|⟨h0,h1,rfl⟩|⟨h0,h1,h2⟩ <;> rcases h' with ⟨g1,rfl⟩|⟨g0,g1,rfl⟩|⟨g0,g1,g2⟩
 ·rfl
 ·exact absurd g0 h1
 ·exact absurd g0 h1
 ·exact absurd h0 g1
 ·rfl
 ·exact absurd g1 h1
 ·exact absurd h0 g1
 ·exact absurd h1 g1
 ·exact J.zla h2 g2
theorem zpk {l:List K.Rule}{t x x':List Int}{s p e f2 s' p' e' f2':Int}(h:Gm.Ply l t x s p e f2)(h':Gm.Ply l t x' s' p' e' f2'):x=x'/\e=e':=by
 obtain⟨o,hc,h⟩:=h;obtain⟨o',hc',h'⟩:=h';have:=zux hc hc';subst this;rcases h with ⟨h0,rfl,_,_,rfl,_⟩|⟨h0,hp,_⟩ <;> rcases h' with ⟨g0,rfl,_,_,rfl,_⟩|⟨g0,gp,_⟩
 ·exact⟨rfl,rfl⟩
 ·exact absurd g0 h0
 ·exact absurd h0 g0
 ·rw[hp] at gp;simp only[Prod.mk.injEq] at gp;exact⟨gp.2.1,gp.1⟩
def PlOk (pl:Pl):Prop:=(∀l t x s p e f2,Gm.Ply l t x s p e f2->pl l t=(x,e))/\∀l x,Tx (pl l x).1
theorem zpl:∃pl,PlOk pl:=by
 have each:∀l t,∃q:List Int×Int,(∀x s p e f2,Gm.Ply l t x s p e f2->q=(x,e))/\Tx q.1:=fun l t=>by
  by_cases h:∃x s p e f2,Gm.Ply l t x s p e f2
  ·obtain⟨x,s,p,e,f2,h⟩:=h;exact⟨(x,e),fun x' s' p' e' f2' h'=>by rw[(zpk h h').1,(zpk h h').2],zva h⟩
  ·exact⟨([],0),fun x s p e f2 h'=>absurd ⟨x,s,p,e,f2,h'⟩ h,Tx.nil⟩
 have hc:=fun l=>Classical.axiomOfChoice (each l)
 obtain⟨pl,hp⟩:=Classical.axiomOfChoice hc;exact⟨pl,fun l t x s p e f2 h=>(hp l t).1 x s p e f2 h,fun l x=>(hp l x).2⟩
theorem zt9 {pl:Pl}(hpl:PlOk pl){l:List K.Rule}{t:List Int}{o:List J.Hd×Int×Int}(hr:(K.rulesF l).1=0)(ht:K.textE t=0)(ho:J.Comp l o):(¬o.2.1=0->pl l t=([],o.2.1))/\(o.2.1=0->pl l t=((K.runF l t).1.1,(K.runF l t).2.1)):=by
 refine⟨fun h=>hpl.1 l t [] 0 0 _ _ ⟨o,.inr (.inr ⟨hr,ht,ho⟩),.inl ⟨h,rfl,rfl,rfl,rfl,rfl⟩⟩,fun h=> ?_⟩;have hc:(K.checkF l t).1=0:=by unfold K.checkF;rw[if_pos hr];exact ht
 unfold K.runF;rw[if_pos hc];exact hpl.1 l t _ _ _ _ 0 ⟨o,.inr (.inr ⟨hr,ht,ho⟩),.inr ⟨h,rfl,rfl⟩⟩
end Cn
section
open Go.RowKit
namespace K
theorem zpe {w:World}{v:Value}{zs:List Int}{b:Nat}{x y:Int}{ty:TypeId}(h:L.Rd w v .i32 zs)(hb:w.heap[b]?=some (.cells #[.int .i64 x,.int .i64 y] ty))(hz:zs≠ []):∀k,v.ownBlock=some k->k≠b:=by
 obtain⟨ao,cap,rfl,hn,hc⟩:=h;obtain⟨b',off,rfl,hcell⟩:=hc hz;intro k hk e;have:b'=k:=by simpa [Value.ownBlock] using hk
 subst this e;obtain⟨z,hz2⟩:∃z,zs[0]?=some z:=⟨zs[0]'(List.length_pos_iff.2 hz),by simp⟩;have hc0:=hcell 0 z hz2;rw[World.cell?] at hc0;simp only[show w.heap[b']?=_ from hb] at hc0;simp at hc0;have hlt:=(qL.1 hc0).1
 match off,hc0 with
 | 0,hc0=>simp at hc0
 | 1,hc0=>simp at hc0
 | n+2,_=>simp at hlt;omega
theorem set2 {w:World}{b:Nat}{x y:Value}{ty:TypeId}(hb:w.heap[b]?=some (.cells #[x,y] ty))(x' y':Value):((w.setCell ⟨b,0,none⟩ x').setCell ⟨b,1,none⟩ y').heap[b]?=some (.cells #[x',y'] ty):=heap_setCell_same _ b 1 _ _ y' (heap_setCell_same w b 0 _ _ x' hb)
end K
namespace Cn
def Acts (w0:World) (B:Nat) (w:World) (v:Value) (F:List Int->List Int×Int):Prop :=
 ∃g cb,∃bx:Option (Nat×Obj),v=.func (.func g) #[] cb/\(∀args w,(callFunc g args).run prog w=.ok (.enter g args) w)/\(∀p,bx=some p->B<=p.1/\w.heap[p.1]?=some p.2) /\
  ∀W vt t,Bl w0 W->(∀p,bx=some p->W.heap[p.1]?=some p.2)->L.Rd W vt .i32 t->Tx t->Calls prog g (#[vt]++cb) W fun e w'=>∃v',e=.returned (.tuple #[v',.int .i64 (F t).2])/\L.Rd w' v' .i32 (F t).1/\Bl W w'
theorem Acts.keep {w0 w w':World}{B B':Nat}{v:Value}{F:List Int->List Int×Int}(h:Acts w0 B w v F)(hB:B'<=B)(hk:∀b o,B<=b->w.heap[b]?=some o->w'.heap[b]?=some o):Acts w0 B' w' v F:=by
 obtain⟨g,cb,bx,hv,eg,hb,hc⟩:=h;exact⟨g,cb,bx,hv,eg,fun p hp=>⟨Nat.le_trans hB (hb p hp).1,hk _ _ (hb p hp).1 (hb p hp).2⟩,hc⟩
theorem Acts.below {w0 w w':World}{B:Nat}{v:Value}{F:List Int->List Int×Int}(h:Acts w0 B w v F)(hb:Bl w w'):Acts w0 B w' v F :=
 h.keep qN fun b o _ ho=>K.zae ho hb
theorem Acts.call {w0 w:World}{B:Nat}{v:Value}{F:List Int->List Int×Int}(h:Acts w0 B w v F)(h0:Bl w0 w):∃g cb,v=.func (.func g) #[] cb/\(∀args w,(callFunc g args).run prog w=.ok (.enter g args) w) /\
  ∀vt t,L.Rd w vt .i32 t->Tx t->Calls prog g (#[vt]++cb) w fun e w'=>∃v',e=.returned (.tuple #[v',.int .i64 (F t).2])/\L.Rd w' v' .i32 (F t).1/\Bl w w':=by
 obtain⟨g,cb,bx,hv,eg,hb,hc⟩:=h;exact⟨g,cb,hv,eg,fun vt t=>hc w vt t h0 fun p hp=>(hb p hp).2⟩
end Cn
theorem ziw (w:World)(vt:Value) :
  Calls prog 122 #[vt] w fun e w'=>e=.returned (.tuple #[vt,.int .i64 0])/\w'=w:=by
 go_enter func122,ntmps122
 go_wp2;refine bodyPost_ret (v:=.tuple #[vt,.int .i64 0]) (by simp[results,results122,go_sem, *]) rfl ?_
 exact⟨rfl,rfl⟩
theorem zf9 (w:World)(vt:Value) :
  Calls prog 123 #[vt] w fun e w'=>e=.returned (.tuple #[.slice none 0 0,.int .i64 0])/\w'=w:=by
 go_enter func123,ntmps123
 go_wp2;refine bodyPost_ret (v:=.tuple #[.slice none 0 0,.int .i64 0]) (by simp[results,results123,go_sem, *]) rfl ?_
 exact⟨rfl,rfl⟩
theorem zhm (pl:Cn.Pl)(hpl:Cn.PlOk pl)(w:World)(b:Nat)(v:Value)(l:List K.Rule)(hb:w.heap[b]?=some (.cells #[v] 72))(R0:V.Rus w v l)(vt:Value)(t:List Int)(Rt:L.Rd w vt .i32 t)(ht:Cn.Tx t) :
  Calls prog 127 #[vt,.pointer (some ⟨b,0,none⟩)] w fun e w'=>∃v',e=.returned (.tuple #[v',.int .i64 (pl l t).2])/\L.Rd w' v' .i32 (pl l t).1/\Bl w w':=by
 have HP:=zjs w v l R0 vt t Rt (by have:=ht.1;omega);have k0:w.cell? ⟨b,0,none⟩=some v:=K.zad hb rfl;obtain⟨⟨q1,q2⟩,hq⟩:∃q,pl l t=q:=⟨_,rfl⟩
 have HQ:Hid (∀x s p e f2,Gm.Ply l t x s p e f2->q1=x/\q2=e):=fun x s p e f2 h=>by
  have:=hpl.1 _ _ _ _ _ _ _ h;rw[hq] at this;exact Prod.mk.inj this
 rw[hq];obtain⟨ao,cap,rfl⟩:=R0.len;obtain⟨xo,xc,rfl,_⟩:=Rt;clear R0 hb hq hpl
 go_enter func127,ntmps127
 go_wp2_with fail
 refine HP.mono ?_;rintro e w1 ⟨v1,x,s,p,f1,f2,rfl,d1,hply,hx4,b1⟩;obtain⟨rfl,rfl⟩:=HQ.out _ _ _ _ _ hply;obtain⟨va,vc,rfl⟩:∃va vc,v1=.slice va q1.length vc:=by obtain⟨a,c,h,_⟩:=d1;exact⟨a,c,h⟩
 have HD:Hid (L.Rd w1 (.slice va q1.length vc) .i32 q1/\Bl w w1):=⟨d1,b1⟩;clear HP HQ hply d1 b1 k0;go_wp2
 go_region
 go_wp2;refine bodyPost_ret (v:=.tuple #[.slice va q1.length vc,.int .i64 q2]) (by simp[results,results127,go_sem, *]) rfl ?_
 have hB:∀x y,Bl w1 ((w1.alloc x).alloc y).drew:=fun x y=>(((qR w1).alloc qN _).alloc (by simp) _).drew
 exact⟨_,rfl,HD.out.1.below (hB _ _) qN,HD.out.2.trans ((hB _ _).mono HD.out.2.size)⟩
theorem Cn.zt0 {w:World}{g k:Nat}{cur:List Int}(h:K.Row w g (K.ints cur))(z:Int):K.Row (w.setCell ⟨g,k,none⟩ (.int .i32 z)) g (K.ints (cur.set k z)):=by
 have:=heap_setCell_same w g k _ _ (.int .i32 z) h;unfold K.Row;rw[this];simp[K.ints]
theorem Cn.zu7 {w:World}{g:Nat}{cur:List Int}(h:K.Row w g (K.ints cur)):L.Rd w (.slice (some ⟨g,0,none⟩) cur.length cur.length) .i32 cur :=
 ⟨_,_,rfl,fun e=>by (cases e),fun _=>⟨g,0,rfl,fun j z hj=>by rw[Nat.zero_add,h.cell j,K.ints,List.getElem?_map,hj];rfl⟩⟩
theorem zjf (w:World)(b g:Nat)(ty:TypeId)(f:Int->Int)(hb:w.heap[b]?=some (.cells #[.func (.func g) #[] #[]] ty))(eg:∀args w,(callFunc g args).run prog w=.ok (.enter g args) w)
  (hf:∀W r,0<=r->r<=1114111->Calls prog g #[.int .i32 r] W fun e w'=>e=.returned (.int .i32 (f r))/\w'=W) (vt:Value) (t:List Int) (Rt:L.Rd w vt .i32 t) (ht:Cn.Tx t) :
  Calls prog 142 #[vt,.pointer (some ⟨b,0,none⟩)] w fun e w'=>∃v',e=.returned (.tuple #[v',.int .i64 0])/\L.Rd w' v' .i32 (t.map f)/\Bl w w':=by
 have HR:Hid (L.Rd w vt .i32 t/\w.heap[b]?=some (.cells #[.func (.func g) #[] #[]] ty)/\b<w.heap.size):=⟨Rt,hb,lt_of_block hb⟩;have HF:=qH hf;have hl:=ht.1;have HT:=qH ht.range;obtain⟨xo,xc,rfl,_⟩:=Rt;obtain⟨W,hmk,hrow,hB,hs⟩:=Gm.zl1 w t.length (by omega);have HW:Hid (K.Row W w.heap.size (K.ints (List.replicate t.length 0))/\Bl w W):=⟨hrow,hB⟩;clear hb hf ht hrow hB hs
 go_enter func142,ntmps142
 go_wp2
 go_loopw [13] (fun i wr=>∃(k:Nat) (cur:List Int),k<=t.length/\i=.int .i64 k/\Hid (K.Row wr w.heap.size (K.ints cur)/\Bl w wr/\cur.take k=(t.take k).map f/\cur.length=t.length)) (fun i _=>t.length-(intOf i).toNat)
 case atStart=>exact⟨0,List.replicate t.length 0,Nat.zero_le _,rfl,⟨HW.out.1,HW.out.2,rfl,by simp⟩⟩
 case round =>
  obtain⟨k,cur,hk,rfl,HI⟩:=hrel
  by_cases hlt:k<t.length
  ·obtain⟨z,hz⟩:∃z,t[k]?=some z:=⟨t[k],by simp[hlt]⟩;obtain⟨ao',cap',e',_,hcs⟩:=HR.out.1.below HI.out.2.1 qN;cases e';obtain⟨bt,off,rfl,hcell⟩:=hcs (by intro h;subst h;simp at hlt);have c0:=hcell k z hz;have k0:wr.cell? ⟨b,0,none⟩=some (.func (.func g) #[] #[]):=K.zad ((HI.out.2.1.block b HR.out.2.2).trans HR.out.2.1) rfl;have hcl:k<cur.length:=by have:=HI.out.2.2.2;omega
   have k1:wr.cell? ⟨w.heap.size,k,none⟩=some (.int .i32 (cur[k])):=by rw[HI.out.1.cell k,K.ints,List.getElem?_map];simp[hcl]
   have fz:=HI.out.1.free k;have hC:=HF.out wr z (HT.out z (List.mem_of_getElem? hz)).1 (HT.out z (List.mem_of_getElem? hz)).2
   have HN:Hid (K.Row (wr.setCell ⟨w.heap.size,k,none⟩ (.int .i32 (f z))) w.heap.size (K.ints (cur.set k (f z)))/\Bl w (wr.setCell ⟨w.heap.size,k,none⟩ (.int .i32 (f z)))/\(cur.set k (f z)).take (k+1)=(t.take (k+1)).map f/\(cur.set k (f z)).length=t.length):=by
    refine⟨Cn.zt0 HI.out.1 _,HI.out.2.1.setCell (p:=⟨w.heap.size,k,none⟩) qN _,?_,by simpa using HI.out.2.2.2⟩;rw[List.take_add_one,List.take_set_of_le (Nat.le_refl k),List.getElem?_set_self hcl,HI.out.2.2.1,List.take_add_one,hz];simp
   clear hcs hcell hz;generalize cur.set k (f z)=cur2 at HN;generalize f z=fz2 at HN hC
   go_wp2_with fail
   refine hC.mono ?_;rintro e w1 ⟨rfl,rfl⟩;go_wp2
   go_roundw
   case rel=>exact⟨k+1,cur2,by omega,by go_num,HN⟩
   case measure=>simp[intOf];omega
  ·have hkl:k=t.length:=by omega
   subst hkl;go_wp2;refine bodyPost_ret (v:=.tuple #[.slice (some ⟨w.heap.size,0,none⟩) t.length t.length,.int .i64 0]) (by simp[results,results142,go_sem, *]) rfl ?_;obtain⟨h1,h2,h3,h4⟩:=HI.out
   have h5:cur=t.map f:=by
    rw[List.take_length,<- h4,List.take_length] at h3;exact h3
   subst h5;have:=Cn.zu7 h1;rw[h4] at this;exact⟨_,rfl,this,h2⟩
set_option maxHeartbeats 1000000 in
theorem zl9 (w0 w:World)(g:Nat)(f:Int->Int)(eg:∀args w,(callFunc g args).run prog w=.ok (.enter g args) w)
    (hf:∀W r,0<=r->r<=1114111->Calls prog g #[.int .i32 r] W fun e w'=>e=.returned (.int .i32 (f r))/\w'=W) :
    Calls prog 120 #[.func (.func g) #[] #[]] w fun e w'=>∃v,e=.returned v/\Cn.Acts w0 w.heap.size w' v (fun x=>(x.map f,0))/\Bl w w':=by
  have HF:=qH hf
  have HG:=qH eg
  clear hf eg
  go_enter func120,ntmps120
  go_wp2
  go_ret
  have hal:=fun o=>(qR w).alloc qN o
  refine⟨_,rfl,⟨142,_,some (w.heap.size,_),rfl,enters_of func142 (by kernel_rfl) rfl,fun p hp=>by cases hp;exact⟨qN,heap_alloc_new w _⟩,fun W vt t hW hb hr ht=> ?_⟩,hal _⟩
  exact zjf W w.heap.size g _ f (hb _ rfl) HG.out HF.out vt t hr ht
set_option maxHeartbeats 1000000 in
theorem zo6 (pl:Cn.Pl)(hpl:Cn.PlOk pl)(w0 w:World)(v:Value)(l:List K.Rule)(R0:V.Rus w0 v l) :
    Calls prog 107 #[v] w fun e w'=>∃v',e=.returned v'/\Cn.Acts w0 w.heap.size w' v' (pl l)/\Bl w w':=by
  have HR:=qH R0
  obtain⟨ao,cap,rfl⟩:=R0.len
  clear R0
  go_enter func107,ntmps107
  go_wp2
  go_ret
  have hal:=fun o=>(qR w).alloc qN o
  refine⟨_,rfl,⟨127,_,some (w.heap.size,_),rfl,enters_of func127 (by kernel_rfl) rfl,fun p hp=>by cases hp;exact⟨qN,heap_alloc_new w _⟩,fun W vt t hW hb hr ht=> ?_⟩,hal _⟩
  exact zhm pl hpl W w.heap.size _ l (hb _ rfl) (HR.out.below hW) vt t hr ht
def Cn.nameF (s:ByteArray) (x:List Int):List Int×Int :=
  if s.toList= [117,112,112,101,114] then (x.map Cn.up,0)
  else if s.toList= [108,111,119,101,114] then (x.map Cn.low,0)
  else if s.toList= [110,117,108,108] then (x,0) else ([],0)
theorem Cn.zq5 (w0:World)(B:Nat)(w:World):Cn.Acts w0 B w (.func (.func 122) #[] #[]) (fun x=>(x,0)) :=
  ⟨122,_,none,rfl,enters_of func122 (by kernel_rfl) rfl,fun p hp=>by (cases hp),fun W vt t hW _ hr ht=>(ziw W vt).mono fun e w' ⟨h1,h2⟩=>by subst h2;exact⟨_,h1,hr,qR _⟩⟩
theorem Cn.zll (w0:World)(B:Nat)(w:World):Cn.Acts w0 B w (.func (.func 123) #[] #[]) (fun x=>([],0)) :=
  ⟨123,_,none,rfl,enters_of func123 (by kernel_rfl) rfl,fun p hp=>by (cases hp),fun W vt t hW _ hr ht=>(zf9 W vt).mono fun e w' ⟨h1,h2⟩=>by subst h2;exact⟨_,h1,⟨none,0,rfl,fun _=>rfl,fun h=>absurd rfl h⟩,qR _⟩⟩
def Cn.Nm (w0 w w':World) (s:ByteArray) (v:Value):Prop:=(R.passes s=true->Cn.Acts w0 w.heap.size w' v (Cn.nameF s))/\(R.passes s=false->v=.nilFunc)/\Bl w w'/\(R.passes s=true->v≠ .nilFunc)
theorem Cn.Acts.some {w0 w:World}{B:Nat}{v:Value}{F:List Int->List Int×Int}(h:Cn.Acts w0 B w v F):v≠ .nilFunc:=by
  obtain⟨g,cb,bx,rfl,_⟩:=h
  intro h;cases h
theorem Cn.zse {w0 w w':World}{s:ByteArray}{v:Value}{F:List Int->List Int×Int}(hp:R.passes s=true)(h:Cn.Acts w0 w.heap.size w' v F)(e:Cn.nameF s=F)(hb:Bl w w'):Cn.Nm w0 w w' s v :=
  ⟨fun _=>e▸h,fun h=>by (rw[hp] at h;cases h),hb,fun _=>h.some⟩
set_option maxHeartbeats 1000000 in
theorem zf3 (w0:World)(s:ByteArray)(w:World) :
    Calls prog 103 #[.string s] w fun e w'=>∃v,e=.returned v/\Cn.Nm w0 w w' s v:=by
  have HL:Hid (∀W,Calls prog 120 #[.func (.func 121) #[] #[]] W fun e w'=>∃v,e=.returned v/\Cn.Acts w0 W.heap.size w' v (fun x=>(x.map Cn.low,0))/\Bl W w'):=fun W=>zl9 w0 W _ _ (enters_of func121 (by kernel_rfl) rfl) fun W r h1 h2=>zlb r (by omega) (by omega) W
  have HU:Hid (∀W,Calls prog 120 #[.func (.func 124) #[] #[]] W fun e w'=>∃v,e=.returned v/\Cn.Acts w0 W.heap.size w' v (fun x=>(x.map Cn.up,0))/\Bl W w'):=fun W=>zl9 w0 W _ _ (enters_of func124 (by kernel_rfl) rfl) fun W r h1 h2=>zos r (by omega) (by omega) W
  cases h1:(s.toList== [108,111,119,101,114]) with
  | true =>
    have h1':=eq_of_beq h1
    go_enter func103,ntmps103
    go_wp2_with fail
    refine(HL.out _).mono ?_
    rintro e w1 ⟨v,rfl,hA,hB⟩
    have HA:Hid (Cn.Acts w0 w.heap.size w1 v (fun x=>(x.map Cn.low,0))/\Bl w w1):=⟨hA,hB⟩
    clear hA hB
    go_wp2
    go_ret
    exact⟨_,rfl,Cn.zse (by unfold R.passes;rw[h1'];decide) HA.out.1 (by funext x;unfold Cn.nameF;rw[h1'];rfl) HA.out.2⟩
  | false =>
    cases h2:(s.toList== [110,117,108,108]) with
    | true =>
      have h2':=eq_of_beq h2
      go_enter func103,ntmps103
      go_wp2
      go_ret
      exact⟨_,rfl,Cn.zse (by unfold R.passes;rw[h2'];decide) (Cn.zq5 w0 _ w) (by funext x;unfold Cn.nameF;rw[h2'];rfl) (qR _)⟩
    | false =>
      cases h3:(s.toList== [114,101,109,111,118,101]) with
      | true =>
        have h3':=eq_of_beq h3
        go_enter func103,ntmps103
        go_wp2
        go_ret
        exact⟨_,rfl,Cn.zse (by unfold R.passes;rw[h3'];decide) (Cn.zll w0 _ w) (by funext x;unfold Cn.nameF;rw[h3'];rfl) (qR _)⟩
      | false =>
        cases h4:(s.toList== [117,112,112,101,114]) with
        | true =>
          have h4':=eq_of_beq h4
          go_enter func103,ntmps103
          go_wp2_with fail
          refine(HU.out _).mono ?_
          rintro e w1 ⟨v,rfl,hA,hB⟩
          have HA:Hid (Cn.Acts w0 w.heap.size w1 v (fun x=>(x.map Cn.up,0))/\Bl w w1):=⟨hA,hB⟩
          clear hA hB
          go_wp2
          go_ret
          exact⟨_,rfl,Cn.zse (by unfold R.passes;rw[h4'];decide) HA.out.1 (by funext x;unfold Cn.nameF;rw[h4'];rfl) HA.out.2⟩
        | false =>
          go_enter func103,ntmps103
          go_wp2
          go_ret
          have hp:R.passes s=false:=by
            unfold R.passes
            simp only[beq_eq_false_iff_ne,ne_eq] at h1 h2 h3 h4
            simp[h1,h2,h3,h4]
          exact⟨_,rfl,fun h=>by (rw[hp] at h;cases h),fun _=>rfl,qR _,fun h=>by (rw[hp] at h;cases h)⟩
set_option maxHeartbeats 1000000 in
theorem zpd (pl:Cn.Pl)(hpl:Cn.PlOk pl)(w0 w:World)(p:V.Pass)(ro:Option Addr)(rc:Nat)(R0:V.Rus w0 (.slice ro p.rules.length rc) p.rules)(hp:Cn.passE p=0) :
    Calls prog 80 #[.agg #[.string p.name,.slice ro p.rules.length rc]] w fun e w'=>∃v,e=.returned v/\Cn.Acts w0 w.heap.size w' v (Cn.passF pl p)/\Bl w w':=by
  have hal:=fun o=>(qR w).alloc qN o
  have HR:Hid (∀o,Calls prog 107 #[.slice ro p.rules.length rc] (w.alloc o) fun e w'=>∃v',e=.returned v'/\Cn.Acts w0 (w.alloc o).heap.size w' v' (pl p.rules)/\Below (w.alloc o).heap.size (w.alloc o) w'):=fun o=>zo6 pl hpl w0 _ _ _ R0
  have HN:=qH<|fun W=>zf3 w0 p.name W
  have HA:Hid (∀o w',Below (w.alloc o).heap.size (w.alloc o) w'->Bl w w'):=fun o w' h=>(hal o).trans (h.mono (hal o).size)
  cases h1:(p.name.toList== []) with
  | true =>
    have h1':=eq_of_beq h1
    go_enter func80,ntmps80
    go_wp2_with fail
    refine(HR.out _).mono ?_
    rintro e w1 ⟨v,rfl,hA,hB⟩
    have HE:Hid (Cn.Acts w0 w.heap.size w1 v (pl p.rules)/\Bl w w1):=⟨hA.keep (by simp) fun _ _ _ h=>h,HA.out _ _ hB⟩
    clear hA hB
    go_wp2
    go_ret
    have e:Cn.passF pl p=pl p.rules:=by (funext x;unfold Cn.passF;rw[if_pos h1'])
    exact⟨_,rfl,by rw[e];exact HE.out.1,HE.out.2⟩
  | false =>
    have h1':¬p.name.toList= []:=by simpa using h1
    have hps:R.passes p.name=true:=by
      unfold Cn.passE at hp
      rw[if_neg h1'] at hp
      cases h:R.passes p.name with
      | true=>rfl
      | false=>rw[h] at hp;simp at hp
    go_enter func80,ntmps80
    go_wp2_with fail
    refine(HN.out _).mono ?_
    rintro e w1 ⟨v,rfl,hnm⟩
    have HE:Hid (Cn.Acts w0 w.heap.size w1 v (Cn.nameF p.name)/\Bl w w1):=⟨(hnm.1 hps).keep (by simp) fun _ _ _ h=>h,HA.out _ _ hnm.2.2.1⟩
    clear hnm
    go_wp2
    go_ret
    have e:Cn.passF pl p=Cn.nameF p.name:=by (funext x;unfold Cn.passF Cn.nameF;rw[if_neg h1'])
    exact⟨_,rfl,by rw[e];exact HE.out.1,HE.out.2⟩
theorem zdm (w:World)(p:V.Pass)(ro:Option Addr)(rc:Nat)(R0:V.Rus w (.slice ro p.rules.length rc) p.rules) :
  Calls prog 74 #[.agg #[.string p.name,.slice ro p.rules.length rc]] w fun e w'=>e=.returned (.int .i64 (Cn.passE p))/\Bl w w':=by
 have hal:=fun o=>(qR w).alloc qN o
 have hfew:=R0.few;have HR:=qH<|fun o=>zek _ _ _ (R0.below (hal o))
 have HN:=qH<|fun W=>zf3 w p.name W
 have HA:Hid (∀o w',Below (w.alloc o).heap.size (w.alloc o) w'->Bl w w'):=fun o w' h=>(hal o).trans (h.mono (hal o).size)
 have q1:∀g cb w,(binOp .eql 137 (.func (.func g) #[] cb) .nilFunc).run prog w=.ok (.bool false) w:=fun g cb w=>by kernel_rfl
 have q2:∀w,(binOp .eql 137 .nilFunc .nilFunc).run prog w=.ok (.bool true) w:=fun w=>by kernel_rfl
 have q3:∀a b w,(Instr.field 36 (.agg #[.int .i64 a,.int .i64 b]) 0).run prog w=.ok (.int .i64 a) w:=fun a b w=>by kernel_rfl
 cases h1:(p.name.toList== []) with
 | true =>
  have h1':=eq_of_beq h1;have he:Cn.passE p=(K.rulesF p.rules).1:=by unfold Cn.passE;rw[if_pos h1']
  rw[he];obtain⟨⟨r1,r2⟩,hr⟩:∃o,K.rulesF p.rules=o:=⟨_,rfl⟩;rw[hr] at HR ⊢;simp only at HR ⊢;clear hr he R0
  go_enter func74,ntmps74
  go_wp2_with fail
  refine(HR.out _).mono ?_;rintro e w1 ⟨rfl,hB⟩;have HE:=qH<|HA.out _ _ hB;clear hB;go_wp2;go_ret;exact⟨rfl,HE.out⟩
 | false =>
  have h1':¬p.name.toList= []:=by simpa using h1
  cases hps:R.passes p.name with
  | false =>
   have he:Cn.passE p=7:=by unfold Cn.passE;rw[if_neg h1',hps];rfl
   rw[he]
   go_enter func74,ntmps74
   go_wp2_with fail
   refine(HN.out _).mono ?_;rintro e w1 ⟨v,rfl,hnm⟩;obtain rfl:=hnm.2.1 hps;have HE:=qH<|HA.out _ _ hnm.2.2.1;clear hnm;go_wp2;go_ret;exact⟨rfl,HE.out⟩
  | true =>
   have he:Cn.passE p=if 0<p.rules.length then 8 else 0:=by unfold Cn.passE;rw[if_neg h1',hps];rfl
   rw[he];obtain⟨o,HO⟩:∃o:Int,Hid ((if 0<p.rules.length then 8 else 0)=o):=⟨_,rfl⟩;rw[HO.out];clear he
   go_enter func74,ntmps74
   go_wp2_with fail
   refine(HN.out _).mono ?_;rintro e w1 ⟨v,rfl,hnm⟩;obtain⟨g,cb,bx,rfl,_⟩:=hnm.1 hps;have HE:Hid (Bl w w1/\Below (w.alloc (.cells #[.string p.name,.slice ro p.rules.length rc] 74)).heap.size (w.alloc (.cells #[.string p.name,.slice ro p.rules.length rc] 74)) w1):=⟨HA.out _ _ hnm.2.2.1,hnm.2.2.1⟩;have hx:=(HE.out.2.block _ (by simp)).trans (heap_alloc_new w _);obtain⟨k0,k1,_,_⟩:=K.box2 hx;clear hnm hx
   by_cases hz:0<p.rules.length
   ·have ho:=HO.out;rw[if_pos hz] at ho;subst ho;have hz':(0:Int)<(p.rules.length:Int):=by omega
    go_wp2;go_ret
    exact⟨rfl,HE.out.1⟩
   ·have ho:=HO.out;rw[if_neg hz] at ho;subst ho;have hz':¬(0:Int)<(p.rules.length:Int):=by omega
    go_wp2;go_ret
    exact⟨rfl,HE.out.1⟩
theorem Cn.zcj (w:World)(o1 o2:Obj):((w.alloc o1).alloc o2).heap[w.heap.size]?=some o1/\((w.alloc o1).alloc o2).heap[w.heap.size+1]?=some o2/\Bl w ((w.alloc o1).alloc o2):=by
 have h:=K.za3 (qR ((w.alloc o1).alloc o2));exact⟨h.1,h.2.1,h.2.2.1⟩
theorem zn1 (w:World)(v:Value)(s:V.Script)(h0:V.ScIs w v s)(hfit:S.Fit s.only) :
  Calls prog 44 #[v] w fun e w'=>e=.returned (.agg #[.int .i64 (Cn.wrongF s).1,.int .i64 (Cn.wrongF s).2])/\Bl w w':=by
 obtain⟨oo,oc,po,pc,rfl,hO,hOl,hP⟩:=h0;have hPl:=hP.few;have HP:=qH hP;have HSw:=qH<|fun X hX=>zcc X _ _ (hO.below hX qN) hfit
 obtain⟨⟨o1,o2⟩,HO⟩:∃o,Hid (Cn.wrongF s=o):=⟨_,rfl⟩;rw[HO.out];clear hO hP;have h2:=Cn.zcj w (.cells #[.bool s.has,.slice oo s.only.length oc,.slice po s.passes.length pc] 30) (.cells #[.int .i64 0,.int .i64 0] 36);have HX2:=qH h2;clear h2;cases hh:s.has with
 | false =>
  have HS0:Hid (¬(s.has=true/\¬S.wrongE s.only=0)):=fun h=>by
   have:=h.1;rw[hh] at this;cases this
  rw[hh] at HX2;have HX:Hid (_/\_/\_):=HX2.out;clear HX2 HSw
  go_enter func44,ntmps44
  by_cases hbig:60<s.passes.length
  ·have hw:Cn.wrongF s=(5,0):=by unfold Cn.wrongF;rw[if_neg HS0.out,if_pos hbig]
   rw[HO.out] at hw;cases hw;have hbi:(60:Int)<(s.passes.length:Int):=by omega
   go_wp2;refine bodyPost_ret (v:=.agg #[.int .i64 5,.int .i64 0]) (by simp[results,results44,go_sem, *]) rfl ?_
   exact⟨rfl,(Cn.zcj w _ _).2.2⟩
  ·have hw:Cn.firstP 0 s.passes=(o1,o2):=by rw[<- HO.out];unfold Cn.wrongF;rw[if_neg HS0.out,if_neg hbig]
   have HF:=qH hw;have hbi:¬(60:Int)<(s.passes.length:Int):=by omega
   clear hw;go_wp2
   go_loopw [24] (fun i wr=>∃k:Nat,k<=s.passes.length/\i=.int .i64 k/\Hid (Cn.firstP k (s.passes.drop k)=(o1,o2))/\Hid (Bl w wr)/\Hid (wr.heap[w.heap.size+1]?=some (.cells #[.int .i64 0,.int .i64 0] 36))) (fun i _=>s.passes.length-(intOf i).toNat)
   case atStart=>exact⟨0,Nat.zero_le _,rfl,HF,HX.out.2.2,HX.out.2.1⟩
   case round =>
    obtain⟨k,hk,rfl,HE,HB,HY⟩:=hrel
    by_cases hlt:k<s.passes.length
    ·obtain⟨p,hp⟩:∃x,s.passes[k]?=some x:=⟨s.passes[k],by simp[hlt]⟩;obtain⟨ao',cap',e',_,hcs⟩:=HP.out.below HB.out;cases e';obtain⟨b,off,rfl,hcell⟩:=hcs (by intro h;rw[h] at hlt;simp at hlt);obtain⟨c0,hn,ro,rc,c1,hr⟩:=hcell k p hp;have HE2:=qH<|Cn.zcs hp;have hsz:=HB.out.size;have HW:=qH<|fun o=>zdm _ p ro rc (hr.below ((qR wr).alloc qN o))
     obtain⟨z,HZ⟩:∃z,Hid (Cn.passE p=z):=⟨_,rfl⟩;rw[HZ.out] at HW HE2;clear hp hcell hcs hr
     go_wp2_with fail
     refine(HW.out _).mono ?_;rintro e w1 ⟨rfl,b1⟩;obtain⟨_,B1,hl1⟩:=K.zau b1;have hY1:=K.zae HY.out B1;have HB1:=qH<|HB.out.trans (B1.mono hsz);have HY1:=qH hY1;obtain⟨x0,x1,f0,f1⟩:=K.box2 hY1;clear b1 B1 hY1
     by_cases hz:z=0
     ·subst hz;go_wp2
      go_roundw
      case rel=>exact⟨k+1,by omega,by go_num,by show _=_;rw[<- HE.out,HE2.out];simp,HB1,HY1⟩
      case measure=>simp[intOf];omega
     ·go_wp2;refine bodyPost_ret (v:=.agg #[.int .i64 z,.int .i64 k]) (by simp[results,results44,go_sem, *]) rfl ?_
      have h:=HE2.out;rw[HE.out,if_neg hz] at h;cases h;exact⟨rfl,((HB1.out).setCell (p:=⟨w.heap.size+1,0,none⟩) (by simp) _).setCell (p:=⟨w.heap.size+1,1,none⟩) (by simp) _⟩
    ·obtain⟨x0,x1,f0,f1⟩:=K.box2 HY.out;have h:=HE.out;rw[List.drop_eq_nil_of_le (by omega)] at h;cases h;go_wp2;refine bodyPost_ret (v:=.agg #[.int .i64 0,.int .i64 0]) (by simp[results,results44,go_sem, *]) rfl ?_;exact⟨rfl,((HB.out).setCell (p:=⟨w.heap.size+1,0,none⟩) (by simp) _).setCell (p:=⟨w.heap.size+1,1,none⟩) (by simp) _⟩
 | true =>
  rw[hh] at HX2;have hSw:=HSw.out _ HX2.out.2.2;obtain⟨z,HZ⟩:∃z,Hid (S.wrongE s.only=z):=⟨_,rfl⟩;rw[HZ.out] at hSw
  go_enter func44,ntmps44
  go_wp2_with fail
  refine hSw.mono ?_;rintro e w1 ⟨rfl,b1⟩;obtain⟨g1,g2,g3⟩:=HX2.out;have HX:Hid (w1.heap[w.heap.size]?=some (.cells #[.bool true,.slice oo s.only.length oc,.slice po s.passes.length pc] 30)/\w1.heap[w.heap.size+1]?=some (.cells #[.int .i64 0,.int .i64 0] 36)/\Bl w w1):=⟨K.zae g1 b1,K.zae g2 b1,g3.trans (b1.mono g3.size)⟩;clear g1 g2 g3 b1 hSw HX2 HSw
  by_cases hz:z=0
  ·subst hz;have HS0:Hid (¬(s.has=true/\¬S.wrongE s.only=0)):=fun h=>h.2 HZ.out
   obtain⟨kb,kf,kB⟩:=HX.out;have kp:w1.cell? ⟨w.heap.size,2,none⟩=some (.slice po s.passes.length pc):=K.zad kb rfl;obtain⟨y0,y1,f0,f1⟩:=K.box2 kf;clear kb kf kB
   by_cases hbig:60<s.passes.length
   ·have hw:Cn.wrongF s=(5,0):=by unfold Cn.wrongF;rw[if_neg HS0.out,if_pos hbig]
    rw[HO.out] at hw;cases hw;have hbi:(60:Int)<(s.passes.length:Int):=by omega
    go_wp2;refine bodyPost_ret (v:=.agg #[.int .i64 5,.int .i64 0]) (by simp[results,results44,go_sem, *]) rfl ?_
    exact⟨rfl,((HX.out.2.2).setCell (p:=⟨w.heap.size+1,0,none⟩) (by simp) _).setCell (p:=⟨w.heap.size+1,1,none⟩) (by simp) _⟩
   ·have hw:Cn.firstP 0 s.passes=(o1,o2):=by rw[<- HO.out];unfold Cn.wrongF;rw[if_neg HS0.out,if_neg hbig]
    have HF:=qH hw;have hbi:¬(60:Int)<(s.passes.length:Int):=by omega
    clear hw y0 y1 f0 f1;go_wp2
    go_loopw [24] (fun i wr=>∃k:Nat,k<=s.passes.length/\i=.int .i64 k/\Hid (Cn.firstP k (s.passes.drop k)=(o1,o2))/\Hid (Bl w wr)/\Hid (wr.heap[w.heap.size+1]?=some (.cells #[.int .i64 0,.int .i64 0] 36))) (fun i _=>s.passes.length-(intOf i).toNat)
    case atStart=>exact⟨0,Nat.zero_le _,rfl,HF,HX.out.2.2,HX.out.2.1⟩
    case round =>
     obtain⟨k,hk,rfl,HE,HB,HY⟩:=hrel
     by_cases hlt:k<s.passes.length
     ·obtain⟨p,hp⟩:∃x,s.passes[k]?=some x:=⟨s.passes[k],by simp[hlt]⟩;obtain⟨ao',cap',e',_,hcs⟩:=HP.out.below HB.out;cases e';obtain⟨b,off,rfl,hcell⟩:=hcs (by intro h;rw[h] at hlt;simp at hlt);obtain⟨c0,hn,ro,rc,c1,hr⟩:=hcell k p hp;have HE2:=qH<|Cn.zcs hp;have hsz:=HB.out.size;have HW:=qH<|fun o=>zdm _ p ro rc (hr.below ((qR wr).alloc qN o))
      obtain⟨z,HZ⟩:∃z,Hid (Cn.passE p=z):=⟨_,rfl⟩;rw[HZ.out] at HW HE2;clear hp hcell hcs hr
      go_wp2_with fail
      refine(HW.out _).mono ?_;rintro e w1 ⟨rfl,b1⟩;obtain⟨_,B1,hl1⟩:=K.zau b1;have hY1:=K.zae HY.out B1;have HB1:=qH<|HB.out.trans (B1.mono hsz);have HY1:=qH hY1;obtain⟨x0,x1,f0,f1⟩:=K.box2 hY1;clear b1 B1 hY1
      by_cases hz:z=0
      ·subst hz;go_wp2
       go_roundw
       case rel=>exact⟨k+1,by omega,by go_num,by show _=_;rw[<- HE.out,HE2.out];simp,HB1,HY1⟩
       case measure=>simp[intOf];omega
      ·go_wp2;refine bodyPost_ret (v:=.agg #[.int .i64 z,.int .i64 k]) (by simp[results,results44,go_sem, *]) rfl ?_
       have h:=HE2.out;rw[HE.out,if_neg hz] at h;cases h;exact⟨rfl,((HB1.out).setCell (p:=⟨w.heap.size+1,0,none⟩) (by simp) _).setCell (p:=⟨w.heap.size+1,1,none⟩) (by simp) _⟩
     ·obtain⟨x0,x1,f0,f1⟩:=K.box2 HY.out;have h:=HE.out;rw[List.drop_eq_nil_of_le (by omega)] at h;cases h;go_wp2;refine bodyPost_ret (v:=.agg #[.int .i64 0,.int .i64 0]) (by simp[results,results44,go_sem, *]) rfl ?_;exact⟨rfl,((HB.out).setCell (p:=⟨w.heap.size+1,0,none⟩) (by simp) _).setCell (p:=⟨w.heap.size+1,1,none⟩) (by simp) _⟩
  ·have hw:Cn.wrongF s=(z,0):=by unfold Cn.wrongF;rw[if_pos ⟨hh,by rw[HZ.out];exact hz⟩,HZ.out]
   rw[HO.out] at hw;cases hw;obtain⟨y0,y1,f0,f1⟩:=K.box2 HX.out.2.1;go_wp2;refine bodyPost_ret (v:=.agg #[.int .i64 o1,.int .i64 0]) (by simp[results,results44,go_sem, *]) rfl ?_;exact⟨rfl,((HX.out.2.2).setCell (p:=⟨w.heap.size+1,0,none⟩) (by simp) _).setCell (p:=⟨w.heap.size+1,1,none⟩) (by simp) _⟩
