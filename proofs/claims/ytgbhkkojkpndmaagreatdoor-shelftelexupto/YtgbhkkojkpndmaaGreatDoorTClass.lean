/-
 The classes: a map, made anew each time.
-/
import Derived.Test.YtgbhkkojkpndmaaGreatDoorTWhole
import Derived.MapKept
import Derived.ChangeMaps4
namespace Go.Proofs.YtgbhkkojkpndmaaGreatDoor
open Go.RowKit
set_option maxRecDepth 20000
def T.Cls (w:World) (b:Nat) (ents:List (ByteArray×List S.Sp)):Prop :=
 ∃(es:Array MapEntry) (clock:Nat),w.heap[b]?=some (.map es clock)/\es.toList.length=ents.length/\∀(i:Nat) (e:MapEntry) (x:ByteArray×List S.Sp),es.toList[i]?=some e->ents[i]?=some x->e.key= .string x.1/\S.Rd w e.val x.2
theorem zsb (w:World):T.Cls (w.alloc (.map #[] 0)) w.heap.size []:=⟨#[],0,heap_alloc_new w _,rfl,fun i e x h=>by simp at h⟩
theorem za0 {w w':World}{b:Nat}{ents:List (ByteArray×List S.Sp)}(h:T.Cls w b ents)(hb:Below w.heap.size w w'):T.Cls w' b ents:=by
 obtain⟨es,clock,h1,h2,h3⟩:=h;exact⟨es,clock,by rw[hb.block b (qA.1 h1).1];exact h1,h2,fun i e x he hx=>⟨(h3 i e x he hx).1,(h3 i e x he hx).2.below hb qN⟩⟩
theorem zff (s:ByteArray):∀(l:List MapEntry) (i:Nat),(∀e∈l,∃t,e.key= .string t/\t≠s)->Instr.findNow .string (.string s) l i=some none
 | [],_,_=>rfl
 | e::l,i,h=>by
  obtain⟨t,ht,hne⟩:=h e (by simp)
  have hb:(s==t)=false:=by
   apply Bool.eq_false_iff.2;intro hh;exact hne ((MapKept.bytes_beq _ _).1 hh).symm
  simp only[Instr.findNow,ht,Instr.sameNow,hb];exact zff s l (i+1) fun e' he'=>h e' (by simp[he'])
theorem zh0 (s:ByteArray):∀(l:List MapEntry) (i:Nat),(∀e∈l,∃t,e.key= .string t)->(∃e∈l,e.key= .string s)->∃j e,Instr.findNow .string (.string s) l i=some (some (j,e.val))/\e∈l/\e.key= .string s
 | [],_,_,h=>by obtain⟨e,he,_⟩:=h;simp at he
 | e::l,i,hk,h=>by
  obtain⟨t,ht⟩:=hk e (by simp)
  by_cases hst:s=t
  ·subst hst;exact⟨i,e,by simp only[Instr.findNow,ht,Instr.sameNow,(MapKept.bytes_beq s s).2 rfl],by simp,ht⟩
  ·have hb:(s==t)=false:=by
    apply Bool.eq_false_iff.2;intro hh;exact hst ((MapKept.bytes_beq _ _).1 hh)
   obtain⟨e0,he0,hk0⟩:=h
   have hm:e0∈l:=by
    rcases List.mem_cons.1 he0 with rfl | hm
    ·rw[ht] at hk0;cases hk0;exact absurd rfl hst
    ·exact hm
   obtain⟨j,e1,h1,h2,h3⟩:=zh0 s l (i+1) (fun x hx=>hk x (by simp[hx])) ⟨e0,hm,hk0⟩;exact⟨j,e1,by simp only[Instr.findNow,ht,Instr.sameNow,hb];exact h1,by simp[h2],h3⟩
theorem za8 {w w':World}{v:Value}{s:List S.Sp}{b:Nat}{es:Array MapEntry}{clock:Nat}(R:S.Rd w v s)(hb:w.heap[b]?=some (.map es clock))(hg:w.grownBy w' (some b)):S.Rd w' v s:=by
 obtain⟨vo,vc,rfl,hn,h⟩:=R;refine⟨vo,vc,rfl,hn,fun hz=> ?_⟩;obtain⟨g,off,rfl,hcl⟩:=h hz;refine⟨g,off,rfl,fun j x hj=> ?_⟩;have h1:=hcl j x hj
 have hne:g≠b:=by
  intro e;subst e;have:=h1.1;rw[World.cell?] at this;simp[hb] at this
 constructor
 ·rw[World.cell?_of_block (a:=⟨g,off+j*2,none⟩) (hg.block g (L.block_lt h1.1) (by simp[hne]))];exact h1.1
 ·rw[World.cell?_of_block (a:=⟨g,off+j*2+1,none⟩) (hg.block g (L.block_lt h1.2) (by simp[hne]))];exact h1.2
theorem zl7 {w:World}{b:Nat}{ents:List (ByteArray×List S.Sp)}(h:T.Cls w b ents)(s:ByteArray)(v:Value)(sp:List S.Sp)(hnew:∀x∈ents,x.1≠s)(R:S.Rd w v sp) :
  ∃w',(Instr.mapUpdate 104 (.map (some b)) (.string s) v).run Tryz.prog w= .ok () w'/\T.Cls w' b (ents++ [(s,sp)])/\w.grownBy w' (some b):=by
 obtain⟨es,clock,h1,h2,h3⟩:=h
 have hkeys:∀e∈es.toList,∃t,e.key= .string t/\t≠s:=by
  intro e he;obtain⟨i,hi⟩:=List.getElem?_of_mem he;have hlt:i<ents.length:=by rw[<- h2];exact(qL.1 hi).1
  have hx:=h3 i e ents[i] hi (by simp[hlt]);exact⟨_,hx.1,hnew _ (List.getElem_mem _)⟩
 have hf:=zff s es.toList 0 hkeys;have hlt:b<w.heap.size:=(qA.1 h1).1
 have hg:w.grownBy ({ w with heap:=w.heap.setIfInBounds b (.map (es.push { key:= .string s,val:=v,born:=clock }) (clock+1)) }:World) (some b):=⟨rfl,rfl,rfl,by simp,fun i _ hi=>by
  have hne:b≠i:=fun e=>hi (by rw[e])
  simp[hne]⟩
 refine⟨({ w with heap:=w.heap.setIfInBounds b (.map (es.push { key:= .string s,val:=v,born:=clock }) (clock+1)) }:World),?_,⟨es.push { key:= .string s,val:=v,born:=clock },clock+1,?_,?_,?_⟩,hg⟩
 ·simp[Instr.mapUpdate,run_underlying Tryz.underlying104,MapKept.run_getObj_map h1,MapKept.run_checkKey (kt:=9) Tryz.underlying9 (show MapKept.IsKey .string (.string s) from trivial),MapKept.run_findKey (kt:=9) Tryz.underlying9 hf,MapKept.run_setObj_map _ h1,Result.andThen]
 ·simp[hlt]
 ·simp;simpa using h2
 ·intro i e x he hx;have hl:es.size=ents.length:=by simpa using h2
  rw[Array.toList_push] at he
  by_cases hi:i<ents.length
  ·rw[List.getElem?_append_left (by simpa [hl] using hi)] at he;rw[List.getElem?_append_left hi] at hx;have:=h3 i e x he hx;exact⟨this.1,za8 this.2 h1 hg⟩
  ·have hi2:i=ents.length:=by
    have:=(qL.1 hx).1;simp at this;omega
   subst hi2;rw[<- h2] at he;rw[List.getElem?_append_right qN] at he hx;simp at he hx;subst he hx;exact⟨rfl,za8 R h1 hg⟩
theorem zl6 {w:World}{b:Nat}{ents:List (ByteArray×List S.Sp)}(h:T.Cls w b ents)(s:ByteArray) :
  (∃v x,x∈ents/\x.1=s/\S.Rd w v x.2/\(Instr.lookup 104 (.map (some b)) (.string s) true).run Tryz.prog w= .ok (.tuple #[v,.bool true]) w) ∨
  ((∀x∈ents,x.1≠s)/\(Instr.lookup 104 (.map (some b)) (.string s) true).run Tryz.prog w= .ok (.tuple #[.slice none 0 0,.bool false]) w):=by
 obtain⟨es,clock,h1,h2,h3⟩:=h
 have hkey:∀e∈es.toList,∃x∈ents,e.key= .string x.1/\S.Rd w e.val x.2:=by
  intro e he;obtain⟨i,hi⟩:=List.getElem?_of_mem he;have hlt:i<ents.length:=by rw[<- h2];exact(qL.1 hi).1
  have hx:=h3 i e ents[i] hi (by simp[hlt]);exact⟨_,List.getElem_mem _,hx.1,hx.2⟩
 by_cases hs:∃x∈ents,x.1=s
 ·left
  obtain⟨x,hx,hxs⟩:=hs
  have hex:∃e∈es.toList,e.key= .string s:=by
   obtain⟨i,hi⟩:=List.getElem?_of_mem hx;have hlt:i<es.toList.length:=by rw[h2];exact(qL.1 hi).1
   have:=h3 i es.toList[i] x (by simp) hi;exact⟨_,List.getElem_mem _,by rw[this.1,hxs]⟩
  obtain⟨j,e,hf,hm,hk⟩:=zh0 s es.toList 0 (fun e he=>by obtain⟨x,_,h,_⟩:=hkey e he;exact⟨_,h⟩) hex;obtain⟨y,hy,hyk,hR⟩:=hkey e hm;rw[hk] at hyk;cases hyk;refine⟨e.val,y,hy,rfl,hR,?_⟩;simp[Instr.lookup,run_underlying Tryz.underlying104,MapKept.run_getObj_map h1,MapKept.run_checkKey (kt:=9) Tryz.underlying9 (show MapKept.IsKey .string (.string y.1) from trivial),MapKept.run_findKey (kt:=9) Tryz.underlying9 hf,Result.andThen]
 ·right
  refine⟨fun x hx e=>hs ⟨x,hx,e⟩,?_⟩
  have hf:=zff s es.toList 0 fun e he=>by
   obtain⟨x,hx,hk,_⟩:=hkey e he;exact⟨x.1,hk,fun e=>hs ⟨x,hx,e⟩⟩
  have hz:=Tryz.zeroValue41;simp[Instr.lookup,run_underlying Tryz.underlying104,MapKept.run_getObj_map h1,MapKept.run_checkKey (kt:=9) Tryz.underlying9 (show MapKept.IsKey .string (.string s) from trivial),MapKept.run_findKey (kt:=9) Tryz.underlying9 hf,Result.andThen,hz]
theorem zpu (w:World)(sp:List S.Sp)(C:Array Value)(hC:C=(S.cellsOf sp).toArray)(n:Nat)(hn:n=sp.length)(c:Nat):S.Rd (w.alloc (.cells C 111)) (.slice (some ⟨w.heap.size,0,none⟩) n c) sp:=by
 subst hC hn;refine⟨_,c,rfl,(fun h=>by cases h),fun _=>⟨w.heap.size,0,rfl,fun j x hj=> ?_⟩⟩;have hg:=S.zcj hj;rw[World.cell?_alloc_at _ _ _ _ rfl,World.cell?_alloc_at _ _ _ _ rfl];simp only[Nat.zero_add];exact⟨by simpa using hg.1,by simpa using hg.2⟩
end Go.Proofs.YtgbhkkojkpndmaaGreatDoor
