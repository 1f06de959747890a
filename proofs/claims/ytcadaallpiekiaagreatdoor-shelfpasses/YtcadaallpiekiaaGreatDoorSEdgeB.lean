import Derived.Test.YtcadaallpiekiaaGreatDoorYSame9
import Derived.Deep.AppendLies
set_option maxHeartbeats 0
namespace Go.Proofs.YtcadaallpiekiaaGreatDoor
open Go.Proofs.Tryz
section
open Go.RowKit
theorem zhg {P:Program}{w:World}{ops:Array Oper}{o:Oper}{a:Act}{K:Act->World->Prop}{Q:Exit->Act->World->Prop}{E:Prop}(hgd:o.guard=none)(s x:Operand)(t:TypeId)
  (ho:o.op=.call { callee:=.builtin .append,args:=#[s,x],argTypes:=#[t,t] })
  (base:Nat) (e:TypeId) (i:TypeInfo) (z:Value) (size bytes:Nat) (ht:P.underlying t=some (.slice e)) (hi:P.info? e=some i) (hz:i.zero=some z)
  (hsize:i.size=size) (hby:i.bytes=bytes) (hzs:z.cells.size=size) (hsz:0<size)
  (v:Value) (n:Nat) (xs:List Value) (hs:a.eval s=v) (hown:w.ownsRow base e size v n xs)
  (ad:Addr) (m c:Nat) (news:List Value) (hx:a.eval x=.slice (some ad) m c) (hl:news.length=m*size) (hnews:∀j u,news[j]?=some u->w.cell? (ad.add j)=some u) (h1:∀u∈news,u.oneCell'=true)
  (h63:n+m<=maxLen) (hbytes:(n+m)*bytes<=140737488355328) (hbase:base<=w.heap.size)
  (h:∀v' w',w'.ownsRow base e size v' (n+m) (xs++news)->w.grownBy w' v.ownBlock->K (a.put o.dst v') w') :
  if Region.wanted o (yielded ops a.tmps)=true then Oper.wp P o a w K Q else E:=by
 have hw:Region.wanted o (yielded ops a.tmps)=true:=by simp[Region.wanted,hgd]
 rw[if_pos hw];exact wp_append_own w s x t ho base e i z size bytes ht hi hz hsize hby hzs hsz v n xs hs hown ad m c news hx hl hnews h1 h63 hbytes hbase fun v' w' h2 h3 _=>h v' w' h2 h3
theorem zbi {w w':World}{base:Nat}{e:TypeId}{size:Nat}{v:Value}{n:Nat}{xs:List Value}(h:w.ownsRow base e size v n xs)(hh:w'.heap=w.heap):w'.ownsRow base e size v n xs:=by
 obtain⟨h1,h2⟩:=h;refine⟨h1,?_⟩;rcases h2 with h2|⟨g,cap,cur,hv,hg,hx,r⟩
 ·exact .inl h2
 ·exact .inr ⟨g,cap,cur,hv,hg,by rw[hh];exact hx,r⟩
attribute [local go_sem ↓] Go.wp_at_zero Go.wp_at_succ
theorem znr (W:World)(b:Nat)(v:Value):W.grownBy (W.setCell ⟨b,0,none⟩ v) (some b):=⟨rfl,rfl,rfl,by simp,fun k _ hk=>heap_setCell_other W ⟨b,0,none⟩ k v (fun e=>hk (by simp[e]))⟩
theorem za4 {w:World}{b:Nat}(h:w.frozen? ⟨b,0,none⟩=false)(hlt:b<w.heap.size)(o:Obj):(w.alloc o).frozen? ⟨b,0,none⟩=false:=by
 rw[World.frozen?_of_block (a:=⟨b,0,none⟩) (Below.heap_alloc w o b hlt)];exact h
theorem zay {w:World}{b:Nat}{v:Value}(h:w.cell? ⟨b,0,none⟩=some v)(o:Obj):(w.alloc o).cell? ⟨b,0,none⟩=some v:=by
 rw[World.cell?_of_block (a:=⟨b,0,none⟩) (Below.heap_alloc w o b (L.block_lt h))];exact h
theorem zec {W X:World}{g:Nat}{zs:List Int}(HC:∀j z,zs[j]?=some z->W.cell? ⟨g,j,none⟩=some (.int .i32 z))(hb:Bl W X)(k:Nat)(j:Nat)(u:Value)(hj:((zs.take k).map (Value.int .i32))[j]?=some u):X.cell? ((⟨g,0,none⟩:Addr).add j)=some u:=by
 rw[List.getElem?_map,List.getElem?_take] at hj;split at hj
 ·cases hz:zs[j]? with
  | none=>rw[hz] at hj;simp at hj
  | some z =>
   rw[hz] at hj;simp at hj;subst hj;have h1:=HC j z hz;rw[L.addr_add,Nat.zero_add,hb.cell (p:=⟨g,j,none⟩) (L.block_lt h1)];exact h1
 ·simp at hj
theorem zg4 {W X:World}{g:Nat}{zs:List Int}(HC:∀j z,zs[j]?=some z->W.cell? ⟨g,j,none⟩=some (.int .i32 z))(hb:Bl W X)(k:Nat)(j:Nat)(u:Value)(hj:((zs.drop k).map (Value.int .i32))[j]?=some u):X.cell? ((⟨g,k,none⟩:Addr).add j)=some u:=by
 rw[List.getElem?_map,List.getElem?_drop] at hj;cases hz:zs[k+j]? with
 | none=>rw[hz] at hj;simp at hj
 | some z =>
  rw[hz] at hj;simp at hj;subst hj;have h1:=HC (k+j) z hz;rw[L.addr_add,hb.cell (p:=⟨g,k+j,none⟩) (L.block_lt h1)];exact h1
theorem zcu (w:World)(v:Value)(t:TypeId):(w.alloc (.cells #[v] t)).cell? ⟨w.heap.size,0,none⟩=some v:=by
 rw[World.cell?_alloc_at _ _ _ _ (by simp)];rfl
theorem one_cell {X:World}{b:Nat}{z:Int}(h:X.cell? ⟨b,0,none⟩=some (.int .i32 z))(j:Nat)(u:Value)(hj: [Value.int .i32 z][j]?=some u):X.cell? ((⟨b,0,none⟩:Addr).add j)=some u:=by
 match j,hj with
 | 0,hj=>simp at hj;subst hj;rw[L.addr_add];exact h
 | j+1,hj=>simp at hj
theorem zar {P:Program}{w W0:World}{b:Nat}{vb:Value}{ops:Array Oper}{o:Oper}{a:Act}{K:Act->World->Prop}{Q:Exit->Act->World->Prop}{E:Prop}(hgd:o.guard=none)(s x:Operand)(t:TypeId)
  (ho:o.op=.call { callee:=.builtin .append,args:=#[s,x],argTypes:=#[t,t] })
  (e:TypeId) (i:TypeInfo) (z:Value) (size bytes:Nat) (ht:P.underlying t=some (.slice e)) (hi:P.info? e=some i) (hz:i.zero=some z)
  (hsize:i.size=size) (hby:i.bytes=bytes) (hzs:z.cells.size=size) (hsz:0<size)
  (v:Value) (n:Nat) (xs:List Value) (hs:a.eval s=v) (hown:w.ownsRow W0.heap.size e size v n xs)
  (ad:Addr) (m c:Nat) (news:List Value) (hx:a.eval x=.slice (some ad) m c) (hl:news.length=m*size) (hnews:∀j u,news[j]?=some u->w.cell? (ad.add j)=some u) (h1:∀u∈news,u.oneCell'=true)
  (h63:n+m<=maxLen) (hbytes:(n+m)*bytes<=140737488355328)
  (hst:(w.cell? ⟨b,0,none⟩=some vb/\w.frozen? ⟨b,0,none⟩=false)/\Bl W0 w) (hb:b<W0.heap.size)
  (h:∀v' w',w'.ownsRow W0.heap.size e size v' (n+m) (xs++news)->w.grownBy w' v.ownBlock->(w'.cell? ⟨b,0,none⟩=some vb/\w'.frozen? ⟨b,0,none⟩=false)->Bl W0 w'->K (a.put o.dst v') w') :
  if Region.wanted o (yielded ops a.tmps)=true then Oper.wp P o a w K Q else E:=by
 have hbs:=hst.2.size;refine zhg hgd s x t ho W0.heap.size e i z size bytes ht hi hz hsize hby hzs hsz v n xs hs hown ad m c news hx hl hnews h1 h63 hbytes hbs fun v' w' h2 h3=>h v' w' h2 h3 ?_ (Below.grown hst.2 h3 hbs fun k hk=>(hown.lt k hk).1)
 have hne:some b≠v.ownBlock:=fun e=>by have:=(hown.lt b e.symm).1;omega
 have hlt:b<w.heap.size:=by omega
 exact⟨by rw[World.cell?_of_block (a:=⟨b,0,none⟩) (h3.block b hlt hne)];exact hst.1.1,by rw[World.frozen?_of_block (a:=⟨b,0,none⟩) (h3.block b hlt hne)];exact hst.1.2⟩
theorem zck {P:Program}{w W0:World}{b:Nat}{vb:Value}{ops:Array Oper}{o:Oper}{a:Act}{K:Act->World->Prop}{Q:Exit->Act->World->Prop}{E:Prop}(hgd:o.guard=none)(s x:Operand)(t:TypeId)
  (ho:o.op=.call { callee:=.builtin .append,args:=#[s,x],argTypes:=#[t,t] })
  (e:TypeId) (i:TypeInfo) (z:Value) (size bytes:Nat) (ht:P.underlying t=some (.slice e)) (hi:P.info? e=some i) (hz:i.zero=some z)
  (hsize:i.size=size) (hby:i.bytes=bytes) (hzs:z.cells.size=size) (hsz:0<size)
  (v:Value) (n:Nat) (xs:List Value) (hs:a.eval s=v) (hown:w.ownsRow W0.heap.size e size v n xs)
  (ad:Addr) (m c:Nat) (news:List Value) (hx:a.eval x=.slice (some ad) m c) (hl:news.length=m*size) (hnews:∀j u,news[j]?=some u->w.cell? (ad.add j)=some u) (h1:∀u∈news,u.oneCell'=true)
  (h63:n+m<=maxLen) (hbytes:(n+m)*bytes<=140737488355328)
  (hst:(w.cell? ⟨b,0,none⟩=some vb/\w.frozen? ⟨b,0,none⟩=false)/\Bl W0 w) (hb:b<W0.heap.size)
  (N:Nat) (ys:List Value) (hN:n+m=N) (hys:xs++news=ys) (hpos:0<N)
  (h:∀g' cap' w',w'.ownsRow W0.heap.size e size (.slice (some ⟨g',0,none⟩) N cap') N ys->(w'.cell? ⟨b,0,none⟩=some vb/\w'.frozen? ⟨b,0,none⟩=false)->Bl W0 w'->K (a.put o.dst (.slice (some ⟨g',0,none⟩) N cap')) w') :
  if Region.wanted o (yielded ops a.tmps)=true then Oper.wp P o a w K Q else E:=by
 subst hN hys
 exact zar hgd s x t ho e i z size bytes ht hi hz hsize hby hzs hsz v n xs hs hown ad m c news hx hl hnews h1 h63 hbytes hst hb fun v' w' h2 _ h4 h5=>by
  rcases h2.2 with ⟨_,h0⟩|⟨g',cap',cur,rfl,_⟩
  ·omega
  ·exact h g' cap' w' h2 h4 h5
theorem zkl {zs:List Int}{r:Int}{k:Nat}(hk:k<=zs.length)(hlow:S.lowF zs r=k)(hc:¬(1114111<r∨zs[k]?=some r)) :
  0+k+1+(zs.length-k)=(S.insF zs r).length/\ []++(zs.take k).map (Value.int .i32)++ [.int .i32 r]++(zs.drop k).map (Value.int .i32)=(S.insF zs r).map (Value.int .i32)/\0<(S.insF zs r).length:=by
 have e:S.insF zs r=zs.take k++ [r]++zs.drop k:=by unfold S.insF;rw[hlow,if_neg hc]
 have hl:0+k+1+(zs.length-k)=(S.insF zs r).length:=by rw[e];simp[List.length_take,List.length_drop];omega
 exact⟨hl,by rw[e];simp,by omega⟩
theorem zkm {wr w3:World}{B bo g3 cap3:Nat}{zs:List Int}{v0:Value}(X:S.Bx wr bo 42 v0)(hbo:bo<wr.heap.size)(hB:B<=wr.heap.size)
  (own:w3.ownsRow wr.heap.size 21 1 (.slice (some ⟨g3,0,none⟩) zs.length cap3) zs.length (zs.map (Value.int .i32))) (bl:Bl wr w3) :
  ∃g' cap',S.Bx (w3.setCell ⟨bo,0,none⟩ (.slice (some ⟨g3,0,none⟩) zs.length cap3)) bo 42 (.slice (some ⟨g',0,none⟩) zs.length cap')/\(w3.setCell ⟨bo,0,none⟩ (.slice (some ⟨g3,0,none⟩) zs.length cap3)).ownsRow B 21 1 (.slice (some ⟨g',0,none⟩) zs.length cap') zs.length (zs.map (Value.int .i32))/\wr.grownBy (w3.setCell ⟨bo,0,none⟩ (.slice (some ⟨g3,0,none⟩) zs.length cap3)) (some bo) :=
 ⟨g3,cap3,(X.below bl (by omega)).set _,L.zbj (ownsRow_setCell_below own (a:=⟨bo,0,none⟩) (by show bo<_;omega) _) hB,S.zaa (S.zaf bl) (znr _ _ _)⟩
end
section
open Go.RowKit
attribute [local go_sem ↓] Go.wp_at_zero Go.wp_at_succ
theorem zu9 (W:World)(B bo g cap:Nat)(zs:List Int)(r:Int)(X:S.Bx W bo 42 (.slice (some ⟨g,0,none⟩) zs.length cap))(own:W.ownsRow B 21 1 (.slice (some ⟨g,0,none⟩) zs.length cap) zs.length (zs.map (Value.int .i32)))(hbo:bo<W.heap.size)(hB:B<=W.heap.size)
  (hl:zs.length<=1099511627776) (hyp:1114111<r∨zs[S.lowF zs r]?=some r) :
  Calls prog 117 #[.int .i32 r,.pointer (some ⟨bo,0,none⟩)] W fun e w'=>e=.returned (.tuple #[])/\∃g' cap',S.Bx w' bo 42 (.slice (some ⟨g',0,none⟩) (S.insF zs r).length cap')/\w'.ownsRow B 21 1 (.slice (some ⟨g',0,none⟩) (S.insF zs r).length cap') (S.insF zs r).length ((S.insF zs r).map (Value.int .i32))/\W.grownBy w' (some bo):=by
 obtain⟨i0,hi,hz0,hz1,hz2⟩:=info_parts Tryz.infoI32;have cb:=X.cell;have fb:=X.free;have HX:Hid _:=X;have HO:=qH own
 have hcap:zs.length<=cap:=by
  rcases own.2 with ⟨h,_⟩|⟨g',cap',cur,h,_,_,h1,_⟩
  ·cases h
  ·cases h;exact h1
 have HC:Hid (∀j z,zs[j]?=some z->W.cell? ⟨g,j,none⟩=some (.int .i32 z)):=fun j z hj=>by
  have:=own.cells (g:=g) rfl j (.int .i32 z) (by simp[hj]);rw[L.addr_add] at this;simpa using this
 have hg:=own.lt g rfl;have HY:Hid _:=hyp;clear X own hyp
 go_enter func117,ntmps117
 go_wp2
 go_loopw [3] (fun kv wr=>∃k:Nat,k<=zs.length/\kv=.int .i64 k/\wr=W/\Hid (∀i z,i<k->zs[i]?=some z->z<r)) (fun kv _=>zs.length-(intOf kv).toNat)
 case atStart=>exact⟨0,Nat.zero_le _,rfl,rfl,fun i z h=>absurd h (Nat.not_lt_zero _)⟩
 case round =>
  obtain⟨k,hk,rfl,rfl,HP⟩:=hrel
  by_cases hlt:k<zs.length
  ·obtain⟨z,hz⟩:∃z,zs[k]?=some z:=⟨zs[k],by simp[hlt]⟩;have cz:=HC.out k z hz;have HZ:=qH hz;clear hz
   by_cases hzr:z<r
   ·go_wp2
    go_roundw
    case rel =>
     refine⟨k+1,by omega,by go_num,trivial,fun i y hi hy=> ?_⟩
     by_cases e:i=k
     ·subst e;rw[HZ.out] at hy;cases hy;exact hzr
     ·exact HP.out i y (by omega) hy
    case measure=>simp[intOf];omega
   ·have hlow:=S.zc0 HP.out hk fun y hy=>by rw[HZ.out] at hy;cases hy;exact hzr
    have HLow:Hid _:=hlow;clear hlow
    by_cases hr:1114111<r
    ·go_wp2
     (try simp only[Exit.inBlock,Exit.then])
     refine bodyPost_ret (results_none rfl _ _ _) rfl ?_;have e:S.insF zs r=zs:=by unfold S.insF;rw[if_pos (.inl hr)]
     rw[e];exact⟨rfl,g,cap,HX.out,HO.out,S.zat _ _⟩
    ·have he:z=r:=by
      rcases HY.out with h|h
      ·exact absurd h hr
      ·rw[HLow.out,HZ.out] at h;exact Option.some.inj h
     subst he;go_wp2
     (try simp only[Exit.inBlock,Exit.then])
     refine bodyPost_ret (results_none rfl _ _ _) rfl ?_;have e:S.insF zs z=zs:=by unfold S.insF;rw[if_pos (.inr (by rw[HLow.out];exact HZ.out))]
     rw[e];exact⟨rfl,g,cap,HX.out,HO.out,S.zat _ _⟩
  ·have hke:k=zs.length:=by omega
   have hlow:=S.zc0 HP.out hk fun y hy=>by rw[hke] at hy;simp at hy
   have HLow:Hid _:=hlow;have HCo:Hid (zs[k]?=none):=by show _=_;rw[hke];simp
   clear hlow
   have hr:1114111<r:=by
    rcases HY.out with h|h
    ·exact h
    ·rw[HLow.out,HCo.out] at h;cases h
   go_wp2
   (try simp only[Exit.inBlock,Exit.then])
   refine bodyPost_ret (results_none rfl _ _ _) rfl ?_;have e:S.insF zs r=zs:=by unfold S.insF;rw[if_pos (.inl hr)]
   rw[e];exact⟨rfl,g,cap,HX.out,HO.out,S.zat _ _⟩
end
section
open Go.RowKit
attribute [local go_sem ↓] Go.wp_at_zero Go.wp_at_succ
theorem zt3 (W:World)(B bo g cap:Nat)(zs:List Int)(r:Int)(X:S.Bx W bo 42 (.slice (some ⟨g,0,none⟩) zs.length cap))(own:W.ownsRow B 21 1 (.slice (some ⟨g,0,none⟩) zs.length cap) zs.length (zs.map (Value.int .i32)))(hbo:bo<W.heap.size)(hB:B<=W.heap.size)
  (hl:zs.length<=1099511627776) (hyp:¬(1114111<r∨zs[S.lowF zs r]?=some r)/\S.lowF zs r<zs.length) :
  Calls prog 117 #[.int .i32 r,.pointer (some ⟨bo,0,none⟩)] W fun e w'=>e=.returned (.tuple #[])/\∃g' cap',S.Bx w' bo 42 (.slice (some ⟨g',0,none⟩) (S.insF zs r).length cap')/\w'.ownsRow B 21 1 (.slice (some ⟨g',0,none⟩) (S.insF zs r).length cap') (S.insF zs r).length ((S.insF zs r).map (Value.int .i32))/\W.grownBy w' (some bo):=by
 obtain⟨i0,hi,hz0,hz1,hz2⟩:=info_parts Tryz.infoI32;have cb:=X.cell;have fb:=X.free;have HX:Hid _:=X;have HO:=qH own
 have hcap:zs.length<=cap:=by
  rcases own.2 with ⟨h,_⟩|⟨g',cap',cur,h,_,_,h1,_⟩
  ·cases h
  ·cases h;exact h1
 have HC:Hid (∀j z,zs[j]?=some z->W.cell? ⟨g,j,none⟩=some (.int .i32 z)):=fun j z hj=>by
  have:=own.cells (g:=g) rfl j (.int .i32 z) (by simp[hj]);rw[L.addr_add] at this;simpa using this
 have hg:=own.lt g rfl;have HY:Hid _:=hyp;clear X own hyp
 go_enter func117,ntmps117
 go_wp2
 go_loopw [3] (fun kv wr=>∃k:Nat,k<=zs.length/\kv=.int .i64 k/\wr=W/\Hid (∀i z,i<k->zs[i]?=some z->z<r)) (fun kv _=>zs.length-(intOf kv).toNat)
 case atStart=>exact⟨0,Nat.zero_le _,rfl,rfl,fun i z h=>absurd h (Nat.not_lt_zero _)⟩
 case round =>
  obtain⟨k,hk,rfl,rfl,HP⟩:=hrel
  by_cases hlt:k<zs.length
  ·obtain⟨z,hz⟩:∃z,zs[k]?=some z:=⟨zs[k],by simp[hlt]⟩;have cz:=HC.out k z hz;have HZ:=qH hz;clear hz
   by_cases hzr:z<r
   ·go_wp2
    go_roundw
    case rel =>
     refine⟨k+1,by omega,by go_num,trivial,fun i y hi hy=> ?_⟩
     by_cases e:i=k
     ·subst e;rw[HZ.out] at hy;cases hy;exact hzr
     ·exact HP.out i y (by omega) hy
    case measure=>simp[intOf];omega
   ·have hlow:=S.zc0 HP.out hk fun y hy=>by rw[HZ.out] at hy;cases hy;exact hzr
    have HLow:Hid _:=hlow;clear hlow;have hr:¬ 1114111<r:=fun h=>HY.out.1 (.inl h)
    have he:¬z=r:=fun h=>HY.out.1 (.inr (by rw[HLow.out,HZ.out,h]))
    have he':(z==r)=false:=by simp[he]
    have hck:¬cap=k:=by omega
    have HCond:Hid (¬(1114111<r∨zs[k]?=some r)):=fun h=>HY.out.1 (by rw[HLow.out];exact h)
    go_wp2;have HLen:Hid ((zs.take k).length=k/\(zs.drop k).length=zs.length-k):=⟨by rw[List.length_take];omega,List.length_drop⟩
    have hk0:(0:Int)<=(k:Int):=by omega
    have hk1':(k:Int)<=(zs.length:Int):=by omega
    have hk2':(k:Int)<=(cap:Int):=by omega
    have hk3':(zs.length:Int)<=(cap:Int):=by omega
    have OM1:Hid (∀X:World,wr.heap.size<=X.heap.size->(X.alloc (.cells #[] 21)).ownsRow wr.heap.size 21 1 (.slice (some ⟨X.heap.size,0,none⟩) 0 0) 0 []):=fun X hX=>World.ownsRow_made X #[] 0 hX (Nat.zero_le _) (by simp)
    have OM2:Hid (((wr.alloc (.cells #[.int .i32 r] 21)).alloc (.cells #[] 21)).ownsRow wr.heap.size 21 1 (.slice (some ⟨wr.heap.size+1,0,none⟩) 0 0) 0 []):=by
     have h:=OM1.out (wr.alloc (.cells #[.int .i32 r] 21)) (by simp);rw[World.size_alloc] at h;exact h
    have hbl:bo<wr.heap.size:=by omega
    have KA1:Hid (∀o,((wr.alloc o).drew.cell? ⟨bo,0,none⟩=some (.slice (some ⟨g,0,none⟩) zs.length cap)/\(wr.alloc o).drew.frozen? ⟨bo,0,none⟩=false)/\Bl wr (wr.alloc o).drew):=fun o=>⟨⟨zay cb o,za4 fb hbl o⟩,below_drewN ((qR wr).alloc qN _) 1⟩
    have KA2:Hid (∀o o',(((wr.alloc o).alloc o').drew.cell? ⟨bo,0,none⟩=some (.slice (some ⟨g,0,none⟩) zs.length cap)/\((wr.alloc o).alloc o').drew.frozen? ⟨bo,0,none⟩=false)/\Bl wr ((wr.alloc o).alloc o').drew):=fun o o'=>⟨⟨zay (zay cb o) o',za4 (za4 fb hbl o) (by simp;omega) o'⟩,below_drewN (((qR wr).alloc qN _).alloc (by simp) _) 1⟩
    have HIns:Hid _:=zkl hk HLow.out HCond.out;have hne0:bo≠wr.heap.size:=by omega
    have hne00:bo≠wr.heap.size+1:=by omega
    go_region_law
     (first
      | (refine zar (W0:=wr) (b:=bo) (vb:=.slice (some ⟨g,0,none⟩) zs.length cap) (by rfl) (.tmp 34) (.tmp 37) _ (by rfl) 21 i0 _ 1 4 underlying42 hi hz0 hz1 hz2 rfl (by decide) _ 0 [] (by rfl) (by first|exact zbi (OM1.out wr qN) rfl|exact zbi ((OM1.out wr qN).alloc (.cells #[.int .i32 r] 21)) rfl|exact zbi OM2.out rfl)
          ⟨g,0,none⟩ k cap ((zs.take k).map (Value.int .i32)) (by rfl) (by rw[List.length_map,HLen.out.1,Nat.mul_one]) (zec HC.out (by first|exact(KA1.out _).2|exact(KA2.out _ _).2) k) (fun x hx=>by obtain⟨z,_,rfl⟩:=List.mem_map.1 hx;rfl)
          (by unfold maxLen;omega) (by omega) (by first|exact KA1.out _|exact KA2.out _ _) hbl ?_;intro v1 w1 hown1 hgrow1 kp1 bl1;have kc1:=kp1.1;have kf1:=kp1.2;have ka1:∀o,(w1.alloc o).cell? ⟨bo,0,none⟩=some (.slice (some ⟨g,0,none⟩) zs.length cap):=fun o=>zay kp1.1 o)
      | (refine zar (W0:=wr) (b:=bo) (vb:=.slice (some ⟨g,0,none⟩) zs.length cap) (by rfl) (.tmp 38) (.tmp 40) _ (by rfl) 21 i0 _ 1 4 underlying42 hi hz0 hz1 hz2 rfl (by decide) _ _ _ (by rfl) (hown1.alloc _)
          ⟨w1.heap.size,0,none⟩ 1 1 [.int .i32 r] (by rfl) (by rfl) (one_cell (zcu _ _ _)) (fun x hx=>by simp at hx;subst hx;rfl)
          (by unfold maxLen;omega) (by omega) ⟨⟨zay kp1.1 _,za4 kp1.2 (by have:=bl1.size;omega) _⟩,bl1.alloc bl1.size _⟩ hbl ?_;intro v2 w2 hown2 hgrow2 kp2 bl2;have kc2:=kp2.1;have kf2:=kp2.2)
      | (refine zar (W0:=wr) (b:=bo) (vb:=.slice (some ⟨g,0,none⟩) zs.length cap) (by rfl) (.tmp 38) (.tmp 40) _ (by rfl) 21 i0 _ 1 4 underlying42 hi hz0 hz1 hz2 rfl (by decide) _ _ _ (by rfl) hown1
          ⟨wr.heap.size+1,0,none⟩ 1 1 [.int .i32 r] (by rfl) (by rfl) (one_cell (by rw[hgrow1.cell_far _ (by simp <;> omega) (fun e=>by change some (wr.heap.size+1)=some wr.heap.size at e;simp at e)];simp)) (fun x hx=>by simp at hx;subst hx;rfl)
          (by unfold maxLen;omega) (by omega) ⟨kp1,bl1⟩ hbl ?_;intro v2 w2 hown2 hgrow2 kp2 bl2;have kc2:=kp2.1;have kf2:=kp2.2)
      | (refine zar (W0:=wr) (b:=bo) (vb:=.slice (some ⟨g,0,none⟩) zs.length cap) (by rfl) (.tmp 38) (.tmp 40) _ (by rfl) 21 i0 _ 1 4 underlying42 hi hz0 hz1 hz2 rfl (by decide) _ _ _ (by rfl) hown1
          ⟨wr.heap.size,0,none⟩ 1 1 [.int .i32 r] (by rfl) (by rfl) (one_cell (by rw[hgrow1.cell_far _ (by simp <;> omega) (fun e=>by change some wr.heap.size=some (wr.heap.size+1) at e;simp at e)];simp)) (fun x hx=>by simp at hx;subst hx;rfl)
          (by unfold maxLen;omega) (by omega) ⟨kp1,bl1⟩ hbl ?_;intro v2 w2 hown2 hgrow2 kp2 bl2;have kc2:=kp2.1;have kf2:=kp2.2)
      | (refine zck (W0:=wr) (b:=bo) (vb:=.slice (some ⟨g,0,none⟩) zs.length cap) (by rfl) (.tmp 41) (.tmp 44) _ (by rfl) 21 i0 _ 1 4 underlying42 hi hz0 hz1 hz2 rfl (by decide) _ _ _ (by rfl) hown2
          ⟨g,k,none⟩ (zs.length-k) (cap-k) ((zs.drop k).map (Value.int .i32)) (by rfl) (by rw[List.length_map,HLen.out.2,Nat.mul_one]) (zg4 HC.out bl2 k) (fun x hx=>by obtain⟨z,_,rfl⟩:=List.mem_map.1 hx;rfl)
          (by unfold maxLen;omega) (by omega) ⟨kp2,bl2⟩ hbl (S.insF zs r).length ((S.insF zs r).map (Value.int .i32)) HIns.out.1 HIns.out.2.1 HIns.out.2.2 ?_;intro g3 cap3 w3 hown3 kp3 bl3;have kc3:=kp3.1;have kf3:=kp3.2))
    all_goals go_wp2
    all_goals go_end0
    all_goals exact⟨rfl,zkm HX.out hbo hB hown3 bl3⟩
  ·have hke:k=zs.length:=by omega
   have hlow:=S.zc0 HP.out hk fun y hy=>by rw[hke] at hy;simp at hy
   have HLow:Hid _:=hlow;have HCo:Hid (zs[k]?=none):=by show _=_;rw[hke];simp
   clear hlow;exfalso;have h:=HY.out.2;rw[HLow.out] at h;omega
end
section
open Go.RowKit
attribute [local go_sem ↓] Go.wp_at_zero Go.wp_at_succ
theorem zr4 (W:World)(B bo g cap:Nat)(zs:List Int)(r:Int)(X:S.Bx W bo 42 (.slice (some ⟨g,0,none⟩) zs.length cap))(own:W.ownsRow B 21 1 (.slice (some ⟨g,0,none⟩) zs.length cap) zs.length (zs.map (Value.int .i32)))(hbo:bo<W.heap.size)(hB:B<=W.heap.size)
  (hl:zs.length<=1099511627776) (hyp:¬(1114111<r∨zs[S.lowF zs r]?=some r)/\S.lowF zs r=zs.length/\cap=zs.length) :
  Calls prog 117 #[.int .i32 r,.pointer (some ⟨bo,0,none⟩)] W fun e w'=>e=.returned (.tuple #[])/\∃g' cap',S.Bx w' bo 42 (.slice (some ⟨g',0,none⟩) (S.insF zs r).length cap')/\w'.ownsRow B 21 1 (.slice (some ⟨g',0,none⟩) (S.insF zs r).length cap') (S.insF zs r).length ((S.insF zs r).map (Value.int .i32))/\W.grownBy w' (some bo):=by
 obtain⟨i0,hi,hz0,hz1,hz2⟩:=info_parts Tryz.infoI32;have cb:=X.cell;have fb:=X.free;have HX:Hid _:=X;have HO:=qH own
 have hcap:zs.length<=cap:=by
  rcases own.2 with ⟨h,_⟩|⟨g',cap',cur,h,_,_,h1,_⟩
  ·cases h
  ·cases h;exact h1
 have HC:Hid (∀j z,zs[j]?=some z->W.cell? ⟨g,j,none⟩=some (.int .i32 z)):=fun j z hj=>by
  have:=own.cells (g:=g) rfl j (.int .i32 z) (by simp[hj]);rw[L.addr_add] at this;simpa using this
 have hg:=own.lt g rfl;have HY:Hid _:=hyp;clear X own hyp
 go_enter func117,ntmps117
 go_wp2
 go_loopw [3] (fun kv wr=>∃k:Nat,k<=zs.length/\kv=.int .i64 k/\wr=W/\Hid (∀i z,i<k->zs[i]?=some z->z<r)) (fun kv _=>zs.length-(intOf kv).toNat)
 case atStart=>exact⟨0,Nat.zero_le _,rfl,rfl,fun i z h=>absurd h (Nat.not_lt_zero _)⟩
 case round =>
  obtain⟨k,hk,rfl,rfl,HP⟩:=hrel
  by_cases hlt:k<zs.length
  ·obtain⟨z,hz⟩:∃z,zs[k]?=some z:=⟨zs[k],by simp[hlt]⟩;have cz:=HC.out k z hz;have HZ:=qH hz;clear hz
   by_cases hzr:z<r
   ·go_wp2
    go_roundw
    case rel =>
     refine⟨k+1,by omega,by go_num,trivial,fun i y hi hy=> ?_⟩
     by_cases e:i=k
     ·subst e;rw[HZ.out] at hy;cases hy;exact hzr
     ·exact HP.out i y (by omega) hy
    case measure=>simp[intOf];omega
   ·have hlow:=S.zc0 HP.out hk fun y hy=>by rw[HZ.out] at hy;cases hy;exact hzr
    have HLow:Hid _:=hlow;clear hlow;exfalso;have h:=HY.out.2.1;rw[HLow.out] at h;omega
  ·have hke:k=zs.length:=by omega
   have hlow:=S.zc0 HP.out hk fun y hy=>by rw[hke] at hy;simp at hy
   have HLow:Hid _:=hlow;have HCo:Hid (zs[k]?=none):=by show _=_;rw[hke];simp
   clear hlow;have hr:¬ 1114111<r:=fun h=>HY.out.1 (.inl h)
   have HKe:Hid (zs.length<=k):=by show _<=_;omega
   have HCond:Hid (¬(1114111<r∨zs[k]?=some r)):=fun h=>HY.out.1 (by rw[HLow.out];exact h)
   have hckT:(cap=k)=True:=by have:=HY.out.2.2;simp;omega
   clear hke;go_wp2;have HLen:Hid ((zs.take k).length=k/\(zs.drop k).length=zs.length-k):=⟨by rw[List.length_take];omega,List.length_drop⟩;have hk0:(0:Int)<=(k:Int):=by omega
   have hk1':(k:Int)<=(zs.length:Int):=by omega
   have hk2':(k:Int)<=(cap:Int):=by omega
   have hk3':(zs.length:Int)<=(cap:Int):=by omega
   have OM1:Hid (∀X:World,wr.heap.size<=X.heap.size->(X.alloc (.cells #[] 21)).ownsRow wr.heap.size 21 1 (.slice (some ⟨X.heap.size,0,none⟩) 0 0) 0 []):=fun X hX=>World.ownsRow_made X #[] 0 hX (Nat.zero_le _) (by simp)
   have OM2:Hid (((wr.alloc (.cells #[.int .i32 r] 21)).alloc (.cells #[] 21)).ownsRow wr.heap.size 21 1 (.slice (some ⟨wr.heap.size+1,0,none⟩) 0 0) 0 []):=by
    have h:=OM1.out (wr.alloc (.cells #[.int .i32 r] 21)) (by simp);rw[World.size_alloc] at h;exact h
   have hbl:bo<wr.heap.size:=by omega
   have KA1:Hid (∀o,((wr.alloc o).drew.cell? ⟨bo,0,none⟩=some (.slice (some ⟨g,0,none⟩) zs.length cap)/\(wr.alloc o).drew.frozen? ⟨bo,0,none⟩=false)/\Bl wr (wr.alloc o).drew):=fun o=>⟨⟨zay cb o,za4 fb hbl o⟩,below_drewN ((qR wr).alloc qN _) 1⟩
   have KA2:Hid (∀o o',(((wr.alloc o).alloc o').drew.cell? ⟨bo,0,none⟩=some (.slice (some ⟨g,0,none⟩) zs.length cap)/\((wr.alloc o).alloc o').drew.frozen? ⟨bo,0,none⟩=false)/\Bl wr ((wr.alloc o).alloc o').drew):=fun o o'=>⟨⟨zay (zay cb o) o',za4 (za4 fb hbl o) (by simp;omega) o'⟩,below_drewN (((qR wr).alloc qN _).alloc (by simp) _) 1⟩
   have HIns:Hid _:=zkl hk HLow.out HCond.out;have hne0:bo≠wr.heap.size:=by omega
   have hne00:bo≠wr.heap.size+1:=by omega
   go_region_law
    (first
     | (refine zar (W0:=wr) (b:=bo) (vb:=.slice (some ⟨g,0,none⟩) zs.length cap) (by rfl) (.tmp 34) (.tmp 37) _ (by rfl) 21 i0 _ 1 4 underlying42 hi hz0 hz1 hz2 rfl (by decide) _ 0 [] (by rfl) (by first|exact zbi (OM1.out wr qN) rfl|exact zbi ((OM1.out wr qN).alloc (.cells #[.int .i32 r] 21)) rfl|exact zbi OM2.out rfl)
         ⟨g,0,none⟩ k cap ((zs.take k).map (Value.int .i32)) (by rfl) (by rw[List.length_map,HLen.out.1,Nat.mul_one]) (zec HC.out (by first|exact(KA1.out _).2|exact(KA2.out _ _).2) k) (fun x hx=>by obtain⟨z,_,rfl⟩:=List.mem_map.1 hx;rfl)
         (by unfold maxLen;omega) (by omega) (by first|exact KA1.out _|exact KA2.out _ _) hbl ?_;intro v1 w1 hown1 hgrow1 kp1 bl1;have kc1:=kp1.1;have kf1:=kp1.2;have ka1:∀o,(w1.alloc o).cell? ⟨bo,0,none⟩=some (.slice (some ⟨g,0,none⟩) zs.length cap):=fun o=>zay kp1.1 o)
     | (refine zar (W0:=wr) (b:=bo) (vb:=.slice (some ⟨g,0,none⟩) zs.length cap) (by rfl) (.tmp 38) (.tmp 40) _ (by rfl) 21 i0 _ 1 4 underlying42 hi hz0 hz1 hz2 rfl (by decide) _ _ _ (by rfl) (hown1.alloc _)
         ⟨w1.heap.size,0,none⟩ 1 1 [.int .i32 r] (by rfl) (by rfl) (one_cell (zcu _ _ _)) (fun x hx=>by simp at hx;subst hx;rfl)
         (by unfold maxLen;omega) (by omega) ⟨⟨zay kp1.1 _,za4 kp1.2 (by have:=bl1.size;omega) _⟩,bl1.alloc bl1.size _⟩ hbl ?_;intro v2 w2 hown2 hgrow2 kp2 bl2;have kc2:=kp2.1;have kf2:=kp2.2)
     | (refine zar (W0:=wr) (b:=bo) (vb:=.slice (some ⟨g,0,none⟩) zs.length cap) (by rfl) (.tmp 38) (.tmp 40) _ (by rfl) 21 i0 _ 1 4 underlying42 hi hz0 hz1 hz2 rfl (by decide) _ _ _ (by rfl) hown1
         ⟨wr.heap.size+1,0,none⟩ 1 1 [.int .i32 r] (by rfl) (by rfl) (one_cell (by rw[hgrow1.cell_far _ (by simp <;> omega) (fun e=>by change some (wr.heap.size+1)=some wr.heap.size at e;simp at e)];simp)) (fun x hx=>by simp at hx;subst hx;rfl)
         (by unfold maxLen;omega) (by omega) ⟨kp1,bl1⟩ hbl ?_;intro v2 w2 hown2 hgrow2 kp2 bl2;have kc2:=kp2.1;have kf2:=kp2.2)
     | (refine zar (W0:=wr) (b:=bo) (vb:=.slice (some ⟨g,0,none⟩) zs.length cap) (by rfl) (.tmp 38) (.tmp 40) _ (by rfl) 21 i0 _ 1 4 underlying42 hi hz0 hz1 hz2 rfl (by decide) _ _ _ (by rfl) hown1
         ⟨wr.heap.size,0,none⟩ 1 1 [.int .i32 r] (by rfl) (by rfl) (one_cell (by rw[hgrow1.cell_far _ (by simp <;> omega) (fun e=>by change some wr.heap.size=some (wr.heap.size+1) at e;simp at e)];simp)) (fun x hx=>by simp at hx;subst hx;rfl)
         (by unfold maxLen;omega) (by omega) ⟨kp1,bl1⟩ hbl ?_;intro v2 w2 hown2 hgrow2 kp2 bl2;have kc2:=kp2.1;have kf2:=kp2.2)
     | (refine zck (W0:=wr) (b:=bo) (vb:=.slice (some ⟨g,0,none⟩) zs.length cap) (by rfl) (.tmp 41) (.tmp 44) _ (by rfl) 21 i0 _ 1 4 underlying42 hi hz0 hz1 hz2 rfl (by decide) _ _ _ (by rfl) hown2
         ⟨g,0,none⟩ (zs.length-k) (cap-k) ((zs.drop k).map (Value.int .i32)) (by rfl) (by rw[List.length_map,HLen.out.2,Nat.mul_one]) (fun j u hj=>by rw[List.drop_eq_nil_of_le HKe.out] at hj;simp at hj) (fun x hx=>by obtain⟨z,_,rfl⟩:=List.mem_map.1 hx;rfl)
         (by unfold maxLen;omega) (by omega) ⟨kp2,bl2⟩ hbl (S.insF zs r).length ((S.insF zs r).map (Value.int .i32)) HIns.out.1 HIns.out.2.1 HIns.out.2.2 ?_;intro g3 cap3 w3 hown3 kp3 bl3;have kc3:=kp3.1;have kf3:=kp3.2))
   all_goals go_wp2
   all_goals go_end0
   all_goals exact⟨rfl,zkm HX.out hbo hB hown3 bl3⟩
