import Derived.Test.YthnmmmkeamcfkaaGreatDoorJWhich
import Derived.Laws.CopyOwn
set_option maxHeartbeats 0
namespace Go.Proofs.YthnmmmkeamcfkaaGreatDoor
open Go.Proofs.Tryz
section
open Go.RowKit Go.Shelf
set_option maxRecDepth 20000
set_option linter.unusedSimpArgs false
set_option linter.unusedVariables false
theorem Tryz.infoHead:(prog.info? 307).map (fun i=>(i.zero,i.size,i.bytes))=some (some (.agg #[.int .i32 0,.int .i32 0,.slice none 0 0]),3,32):=by kernel_rfl
namespace J
abbrev Hd:=Int×Int×List Int
def cells (ps:List (Hd×Value)):List Value:=ps.flatMap fun p=> [.int .i32 p.1.1,.int .i32 p.1.2.1,p.2]
theorem zjg (a b:List (Hd×Value)):cells (a++b)=cells a++cells b:=by simp[cells]
def Own (F:Nat) (w:World) (v:Value) (hs:List Hd):Prop :=
 ∃ps:List (Hd×Value),ps.map (·.1)=hs/\w.ownsRow F 307 3 v hs.length (cells ps)/\∀p∈ps,w.ownsRow F 3 1 p.2 p.1.2.2.length (p.1.2.2.map (Value.int .i64))
theorem Own.nil (F:Nat)(w:World):Own F w (.slice none 0 0) []:=⟨[],rfl,World.ownsRow_nil _ _ _ _,fun p hp=>by cases hp⟩
theorem Own.below {F:Nat}{w w':World}{v:Value}{hs:List Hd}(h:Own F w v hs)(hb:Below w.heap.size w w'):Own F w' v hs:=by
 obtain⟨ps,h1,h2,h3⟩:=h;exact⟨ps,h1,L.zcy h2 hb qN,fun p hp=>L.zcy (h3 p hp) hb qN⟩
theorem Own.base {F F':Nat}{w:World}{v:Value}{hs:List Hd}(h:Own F w v hs)(hf:F'<=F):Own F' w v hs:=by
 obtain⟨ps,h1,h2,h3⟩:=h;exact⟨ps,h1,L.zbz h2 hf,fun p hp=>L.zbz (h3 p hp) hf⟩
theorem kept {F:Nat}{e:TypeId}{k:Nat}{w w':World}{v:Value}{n:Nat}{xs:List Value}(h:w.ownsRow F e k v n xs)(hb:∀g,F<=g->w'.heap[g]?=w.heap[g]?):w'.ownsRow F e k v n xs:=by
 obtain⟨h1,h2⟩:=h;refine⟨h1,?_⟩;rcases h2 with h2 | ⟨g,cap,cur,hv,hg,hx,r⟩
 ·exact .inl h2
 ·exact .inr ⟨g,cap,cur,hv,hg,by rw[hb g hg];exact hx,r⟩
theorem Own.kept {F:Nat}{w w':World}{v:Value}{hs:List Hd}(h:Own F w v hs)(hb:∀g,F<=g->w'.heap[g]?=w.heap[g]?):Own F w' v hs:=by
 obtain⟨ps,h1,h2,h3⟩:=h;exact⟨ps,h1,J.kept h2 hb,fun p hp=>J.kept (h3 p hp) hb⟩
theorem three (W:World)(a b:Int)(r:Value):∀j u,([Value.int .i32 a,.int .i32 b,r]:List Value)[j]?=some u->(W.alloc (.cells #[.int .i32 a,.int .i32 b,r] 307)).cell? ((⟨W.heap.size,0,none⟩:Addr).add j)=some u:=by
 intro j u hj
 have e:(W.alloc (.cells #[.int .i32 a,.int .i32 b,r] 307)).heap[W.heap.size]?=some (.cells #[.int .i32 a,.int .i32 b,r] 307):=by
  show (W.heap.push _)[W.heap.size]?=_;exact Array.getElem?_push_size
 rw[L.addr_add,Nat.zero_add]
 match j,hj with
 | 0,hj=>exact K.zad e (by simpa using hj)
 | 1,hj=>exact K.zad e (by simpa using hj)
 | 2,hj=>exact K.zad e (by simpa using hj)
 | n+3,hj=>simp at hj
theorem one_cell {F:Nat}{e:TypeId}{k:Nat}{w:World}{v:Value}{n:Nat}{xs:List Value}(h:w.ownsRow F e k v n xs):v.oneCell'=true:=by
 obtain⟨_,⟨rfl,_⟩|⟨g,cap,cur,rfl,_⟩⟩:=h <;> rfl
theorem Own.push {F:Nat}{w0 w:World}{v:Value}{hs:List Hd}(h:Own F w v hs)(hB:Below F w0 w)(hF:F<=w.heap.size)(hl:hs.length<=2000000)(a b:Int)(rs:List Int)(r:Value)(hr:w.ownsRow F 3 1 r rs.length (rs.map (Value.int .i64))) :
  ∃v' w',(Builtin.append_ #[270,270] 270 #[v,.slice (some ⟨w.heap.size,0,none⟩) 1 1]).run prog (w.alloc (.cells #[.int .i32 a,.int .i32 b,r] 307))= .ok v' w'/\Own F w' v' (hs++ [(a,b,rs)])/\Below F w0 w':=by
 obtain⟨i0,hi,hz0,hz1,hz2⟩:=info_parts Tryz.infoHead;obtain⟨ps,h1,h2,h3⟩:=h
 obtain⟨v',w',hrun,own,gr,_⟩:=run_append_own (P:=prog) (w.alloc (.cells #[.int .i32 a,.int .i32 b,r] 307)) F 270 270 307 i0 _ 3 32 underlying270 hi hz0 hz1 hz2 rfl (by decide) v hs.length (cells ps) (h2.alloc _) ⟨w.heap.size,0,none⟩ 1 1 [.int .i32 a,.int .i32 b,r] rfl (three w a b r)
  (fun u hu=>by simp at hu;rcases hu with rfl | rfl | rfl;rfl;rfl;exact one_cell hr) (by unfold maxLen;omega) (by omega) (by simp;omega)
 refine⟨v',w',hrun,⟨ps++ [((a,b,rs),r)],by simp[h1],?_,fun p hp=> ?_⟩,L.znh hB h2 qN hF gr⟩
 ·rw[zjg,List.length_append];exact own
 ·rcases List.mem_append.1 hp with hp | hp
  ·exact L.zgs h2 (h3 p hp) (by decide) gr
  ·simp at hp;subst hp;exact L.zgs h2 hr (by decide) gr
theorem zbr {t:TypeId}{ops:Array Oper}{o:Oper}{a:Act}{w:World}{K:Act->World->Prop}{Q:Exit->Act->World->Prop}{E:Prop}(hgd:o.guard=none)(s x:Operand)
  (ho:o.op= .call { callee:= .builtin .append,args:=#[s,x],argTypes:=#[t,t] }) (v vx v':Value) (w':World) (hs:a.eval s=v) (hx:a.eval x=vx)
  (hrun:(Builtin.append_ #[t,t] o.type #[v,vx]).run prog w= .ok v' w') (h:K (a.put o.dst v') w') :
  if Region.wanted o (yielded ops a.tmps)=true then Oper.wp prog o a w K Q else E:=by
 have hw:Region.wanted o (yielded ops a.tmps)=true:=by simp[Region.wanted,hgd]
 rw[if_pos hw];unfold Oper.wp;simp[execOp,ho,resolve,invoke,builtin,hs,hx,hrun,Result.andThen];exact h
def begins (l:List K.Rule) (q:Int):List Int:=which (fun r=>S.memb (K.headS r) q) 0 l
def headAt (f:Int->List Int) (c:List Int) (k:Nat):Hd:=(c.getD k 0,c.getD (k+1) 0 - 1,f (c.getD k 0))
def heads (f:Int->List Int) (c:List Int) (n:Nat):List Hd:=(List.range n).map (headAt f c)
theorem zn8 (f:Int->List Int)(c:List Int)(n:Nat):heads f c (n+1)=heads f c n++ [headAt f c n]:=by simp[heads,List.range_succ]
theorem zi5 (f:Int->List Int)(c:List Int)(n:Nat):(heads f c n).length=n:=by simp[heads]
end J
end
namespace G
structure Ed where
 kind:Int
 n:Int
 runes:List Int
abbrev St:=List Int×List Int
def step (e:Ed) (s:St):Int×St :=
 if e.kind=1 then
  if e.n<0∨(s.1.length+s.2.length:Int)<e.n then (3,s) else (0,(s.1++s.2).take e.n.toNat,(s.1++s.2).drop e.n.toNat)
 else if e.kind=2 then
  if 4000<(s.1.length+s.2.length+e.runes.length:Int) then (4,s) else (0,s.1++e.runes,s.2)
 else if e.kind=3 then
  if e.n<0∨(s.2.length:Int)<e.n then (3,s) else (0,s.1,s.2.drop e.n.toNat)
 else if e.kind=4 then
  if e.n<0∨(s.1.length:Int)<e.n then (3,s) else (0,s.1.take (s.1.length - e.n.toNat),s.2)
 else (1,s)
def play:Nat->List Ed->St->Int×Nat×St
 | _,[],s=>(0,0,s)
 | k,e::l,s=>if (step e s).1=0 then play (k+1) l (step e s).2 else ((step e s).1,k,s)
theorem zck (k:Nat)(l:List Ed)(s:St)(h:l.length<=k):play k (l.drop k) s=(0,0,s):=by
 rw[List.drop_eq_nil_of_le h];rfl
end G
section
theorem Tryz.sizeI32:(prog.info? 21).map (·.size)=some 1:=by kernel_rfl
end
namespace Gm
open Go.RowKit
structure Bs where
 b:Nat
 m:List Nat
def Bs.ok (B:Bs) (k:Nat):Prop:=B.b<=k/\k∉B.m
def Fr (B:Bs) (w w':World):Prop:=Below B.b w w'/\(∀j∈B.m,j<w.heap.size->w'.heap[j]?=w.heap[j]?)
theorem Fr.refl (B:Bs)(w:World):Fr B w w:=⟨qR _,fun _ _ _=>rfl⟩
theorem Fr.trans {B:Bs}{w w1 w2:World}(h:Fr B w w1)(h':Fr B w1 w2):Fr B w w2:=⟨h.1.trans h'.1,fun j hj hm=>(h'.2 j hj (by have:=h.1.size;omega)).trans (h.2 j hj hm)⟩
theorem Fr.drew {B:Bs}{w w1:World}(h:Fr B w w1):Fr B w w1.drew:=⟨h.1.drew,h.2⟩
theorem Fr.drewN {B:Bs}{w w1:World}(h:Fr B w w1)(q:Nat):Fr B w (w1.drewN q):=⟨below_drewN h.1 q,h.2⟩
theorem Fr.setCell {B:Bs}{w w1:World}{p:Addr}(h:Fr B w w1)(hB:B.ok p.block)(v:Value):Fr B w (w1.setCell p v):=⟨h.1.setCell hB.1 v,fun j hj hm=>(heap_setCell_other w1 p j v (fun e=>hB.2 (e▸hj))).trans (h.2 j hj hm)⟩
theorem Fr.of_below {B:Bs}{w w1:World}(h:Below w.heap.size w w1)(hb:B.b<=w.heap.size):Fr B w w1:=⟨h.mono hb,fun _ _ hm=>h.block _ hm⟩
theorem Fr.grown {B:Bs}{w w1 w2:World}{r:Option Nat}(h:Fr B w w1)(hg:w1.grownBy w2 r)(hs:B.b<=w1.heap.size)(hr:∀k,r=some k->B.ok k):Fr B w w2 :=
 ⟨h.1.grown hg hs fun k hk=>(hr k hk).1,fun j hj hm=>(hg.block j (by have:=h.1.size;omega) (fun e=>(hr j e.symm).2 hj)).trans (h.2 j hj hm)⟩
theorem Fr.size {B:Bs}{w w1:World}(h:Fr B w w1):w.heap.size<=w1.heap.size:=h.1.size
theorem Fr.below {B:Bs}{w w1:World}(h:Fr B w w1):Below B.b w w1:=h.1
def Room (B:Gm.Bs) (w:World) (ao:Option Addr) (cur:List Int):Prop :=
 (ao=none/\cur= [])∨∃r,ao=some ⟨r,0,none⟩/\B.ok r/\w.heap[r]?=some (.cells (cur.map (Value.int .i32)).toArray 21 (0,0))
def Bx3 (w:World) (g:Nat) (v0 v1 v2:Value):Prop:=w.heap[g]?=some (.cells #[v0,v1,v2] 288 (0,0))
theorem Bx3.c0 {w:World}{g:Nat}{v0 v1 v2:Value}(h:Bx3 w g v0 v1 v2):w.cell? ⟨g,0,none⟩=some v0:=by simp[World.cell?,Bx3] at h ⊢;rw[h];rfl
theorem Bx3.c1 {w:World}{g:Nat}{v0 v1 v2:Value}(h:Bx3 w g v0 v1 v2):w.cell? ⟨g,1,none⟩=some v1:=by simp[World.cell?,Bx3] at h ⊢;rw[h];rfl
theorem Bx3.c2 {w:World}{g:Nat}{v0 v1 v2:Value}(h:Bx3 w g v0 v1 v2):w.cell? ⟨g,2,none⟩=some v2:=by simp[World.cell?,Bx3] at h ⊢;rw[h];rfl
theorem Bx3.free {w:World}{g:Nat}{v0 v1 v2:Value}(h:Bx3 w g v0 v1 v2)(i:Nat):w.frozen? ⟨g,i,none⟩=false:=frozen_of_row w g i _ _ h
theorem Bx3.set0 {w:World}{g:Nat}{v0 v1 v2:Value}(h:Bx3 w g v0 v1 v2)(u:Value):Bx3 (w.setCell ⟨g,0,none⟩ u) g u v1 v2:=heap_setCell_same w g 0 _ _ u h
theorem Bx3.set1 {w:World}{g:Nat}{v0 v1 v2:Value}(h:Bx3 w g v0 v1 v2)(u:Value):Bx3 (w.setCell ⟨g,1,none⟩ u) g v0 u v2:=heap_setCell_same w g 1 _ _ u h
theorem Bx3.set2 {w:World}{g:Nat}{v0 v1 v2:Value}(h:Bx3 w g v0 v1 v2)(u:Value):Bx3 (w.setCell ⟨g,2,none⟩ u) g v0 v1 u:=heap_setCell_same w g 2 _ _ u h
theorem Bx3.block {w w':World}{g:Nat}{v0 v1 v2:Value}(h:Bx3 w g v0 v1 v2)(e:w'.heap[g]?=w.heap[g]?):Bx3 w' g v0 v1 v2:=e.trans h
theorem Bx3.lt {w:World}{g:Nat}{v0 v1 v2:Value}(h:Bx3 w g v0 v1 v2):g<w.heap.size:=lt_of_block h
structure Tx (B:Gm.Bs) (g:Nat) (ao:Option Addr) (cur A Z:List Int) (w:World):Prop where
 hB:B.ok g
 box:Bx3 w g (.slice ao cur.length cur.length) (.int .i64 A.length) (.int .i64 (cur.length - Z.length:Nat))
 room:Room B w ao cur
 ne:∀r,ao=some ⟨r,0,none⟩->r≠g
 fit:A.length+Z.length<=cur.length
 most:cur.length<=8000
 few:A.length+Z.length<=4000
 ahead:A=cur.take A.length
 behind:Z=cur.drop (cur.length - Z.length)
theorem Room.block {B:Gm.Bs}{w w':World}{ao:Option Addr}{cur:List Int}(h:Room B w ao cur)(e:∀r,ao=some ⟨r,0,none⟩->w'.heap[r]?=w.heap[r]?):Room B w' ao cur:=by
 rcases h with h | ⟨r,h1,h2,h3⟩
 ·exact .inl h
 ·exact .inr ⟨r,h1,h2,(e r h1).trans h3⟩
theorem Room.lt {B:Gm.Bs}{w:World}{ao:Option Addr}{cur:List Int}(h:Room B w ao cur)(r:Nat)(e:ao=some ⟨r,0,none⟩):B.ok r/\r<w.heap.size:=by
 rcases h with h | ⟨r',h1,h2,h3⟩
 ·rw[h.1] at e;cases e
 ·rw[h1] at e;cases e;exact⟨h2,lt_of_block h3⟩
theorem Room.cell {B:Gm.Bs}{w:World}{ao:Option Addr}{cur:List Int}(h:Room B w ao cur){r j:Nat}{z:Int}(e:ao=some ⟨r,0,none⟩)(hj:cur[j]?=some z):w.cell? ⟨r,j,none⟩=some (.int .i32 z):=by
 rcases h with h | ⟨r',h1,h2,h3⟩
 ·rw[h.1] at e;cases e
 ·rw[h1] at e;cases e;simp[World.cell?,h3,hj]
theorem Room.some {B:Gm.Bs}{w:World}{ao:Option Addr}{cur:List Int}(h:Room B w ao cur)(h0:0<cur.length):∃r,ao=some ⟨r,0,none⟩:=by
 rcases h with h | ⟨r,h1,_⟩
 ·rw[h.2] at h0;simp at h0
 ·exact⟨r,h1⟩
theorem Tx.kept {B:Gm.Bs}{g:Nat}{ao:Option Addr}{cur A Z:List Int}{w w':World}(h:Tx B g ao cur A Z w)(e:∀k,k<w.heap.size->w'.heap[k]?=w.heap[k]?):Tx B g ao cur A Z w' :=
 ⟨h.hB,h.box.block (e g h.box.lt),h.room.block fun r hr=>e r (h.room.lt r hr).2,h.ne,h.fit,h.most,h.few,h.ahead,h.behind⟩
theorem za9 {B:Gm.Bs}{g i:Nat}{w0 w:World}(hb:Gm.Fr B w0 w)(hB:B.ok g)(v:Value):Gm.Fr B w0 (w.setCell ⟨g,i,none⟩ v):=hb.setCell hB v
theorem zb7 {P:Program}{ops:Array Oper}{o:Oper}{a:Act}{w:World}{K:Act->World->Prop}{Q:Exit->Act->World->Prop}{E:Prop}(hgd:o.guard=none)(d s:Operand)(dT sT:TypeId)
  (ho:o.op= .call { callee:= .builtin .copy,args:=#[d,s],argTypes:=#[dT,sT] }) (elem:TypeId) (hu:P.underlying dT=some (.slice elem)) (hsz:(P.info? elem).map (·.size)=some 1)
  (dp sp:Option Addr) (dLen dCap sLen sCap:Nat) (hd:a.eval d= .slice dp dLen dCap) (hs:a.eval s= .slice sp sLen sCap)
  (B:Gm.Bs) (ao:Option Addr) (cur:List Int) (hR:Room B w ao cur) (off:Nat) (zs:List Int) (hn:zs.length=Nat.min sLen dLen)
  (hpos:0<zs.length->∀r,ao=some ⟨r,0,none⟩->dp=some ⟨r,off,none⟩/\∃b so,sp=some ⟨b,so,none⟩/\∀j z,zs[j]?=some z->w.cell? ⟨b,so+j,none⟩=some (.int .i32 z))
  (hfit:off+zs.length<=cur.length)
  (h:∀w',Room B w' ao (splice cur off zs)->w.grownBy w' (Value.slice ao 0 0).ownBlock->K (a.put o.dst (goInt zs.length)) w') :
  if Region.wanted o (yielded ops a.tmps)=true then Oper.wp P o a w K Q else E:=by
 have hw:Region.wanted o (yielded ops a.tmps)=true:=by simp[Region.wanted,hgd]
 rw[if_pos hw]
 by_cases h0:zs.length=0
 ·obtain rfl:zs= []:=List.eq_nil_of_length_eq_zero h0;have hrun:=run_copy_none (P:=P) w dT sT o.type elem dp sp dLen dCap sLen sCap hu hsz (by simpa using hn.symm);unfold Oper.wp;simp[execOp,ho,resolve,invoke,builtin,hd,hs,hrun,Result.andThen];exact h w (by simpa [splice] using hR) ⟨rfl,rfl,rfl,qN,fun _ _ _=>rfl⟩
 ·rcases hR with ⟨_,rfl⟩|⟨r,hr,hBr,hg⟩
  ·rw[List.length_nil] at hfit;omega
  obtain⟨rfl,b,so,rfl,hc⟩:=hpos (by omega) r hr
  have hrun:=run_copy_row (P:=P) w dT sT o.type elem r off dLen dCap ⟨b,so,none⟩ sLen sCap _ _ (zs.map (Value.int .i32)) hu hsz hg (by simpa using hn) (fun j v hj=>by
   rw[List.getElem?_map] at hj;cases hz:zs[j]? with
   | none=>rw[hz] at hj;simp at hj
   | some z=>rw[hz] at hj;simp at hj;subst hj;rw[L.addr_add];exact hc j z hz) (by simpa using hfit) (fun v hv=>by obtain⟨z,_,rfl⟩:=List.mem_map.1 hv;rfl)
  unfold Oper.wp;simp[execOp,ho,resolve,invoke,builtin,hd,hs,hrun,Result.andThen];refine h _ (.inr ⟨r,hr,hBr,?_⟩) ⟨rfl,rfl,rfl,by simp[World.setRow],fun k _ hk=>setRow_other w r k _ (fun e=>hk (by rw[e,hr];rfl))⟩;have:=setRow_heap w r _ ((((cur.map (Value.int .i32)).toArray.toList.take off)++((zs.map (Value.int .i32))++(cur.map (Value.int .i32)).toArray.toList.drop (off+(zs.map (Value.int .i32)).length)))).toArray _ _ hg;simpa [splice,List.map_take,List.map_drop] using this
end Gm
section
open Go.RowKit
theorem zep (w:World)(g:Nat)(ao:Option Addr)(n t:Nat)(v1:Value)(h:Gm.Bx3 w g (.slice ao n n) v1 (.int .i64 t))(hn:n<=8000)(ht:t<=n) :
  Calls prog 232 #[.pointer (some ⟨g,0,none⟩)] w fun e w'=>e= .returned (.int .i64 (n - t:Nat))/\∃q,w'=w.drewN q:=by
 have c0:=h.c0;have c2:=h.c2
 go_enter func232,ntmps232
 go_wp2
 go_quiet (fail)
 go_wp2;go_ret
 exact⟨L.zfs (by omega),_,rfl⟩
theorem zcm (w:World)(g:Nat)(ao:Option Addr)(n f t:Nat)(h:Gm.Bx3 w g (.slice ao n n) (.int .i64 f) (.int .i64 t))(hn:n<=8000)(ht:t<=n)(hf:f<=n) :
  Calls prog 211 #[.pointer (some ⟨g,0,none⟩)] w fun e w'=>e= .returned (.int .i64 (f+(n - t):Nat))/\∃q,w'=w.drewN q:=by
 have c1:=h.c1;have H:Hid _:=h;clear h
 go_enter func211,ntmps211
 go_wp2
 go_quiet ((go_at_call 232;exact Calls.quiet_of (zep _ g ao n t _ H.out hn ht)))
 go_wp2;go_ret
 exact⟨L.zfs (by omega),_,rfl⟩
theorem zc2 (w:World)(g f:Nat)(v0 v2:Value)(h:Gm.Bx3 w g v0 (.int .i64 f) v2) :
  Calls prog 212 #[.pointer (some ⟨g,0,none⟩)] w fun e w'=>e= .returned (.int .i64 f)/\w'=w:=by
 have c1:=h.c1
 go_enter func212,ntmps212
 go_wp2;go_ret
 exact⟨rfl,rfl⟩
