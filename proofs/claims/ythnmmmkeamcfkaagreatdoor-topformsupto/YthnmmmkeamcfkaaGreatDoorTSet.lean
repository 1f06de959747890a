import Derived.Lib.MinMax
import Derived.Shelf.Abstract
import Derived.Test.YthnmmmkeamcfkaaGreatDoorTChr
set_option maxHeartbeats 0
set_option maxRecDepth 20000
namespace Go.Proofs.YthnmmmkeamcfkaaGreatDoor
open Go.Proofs.Tryz
section
open Go.RowKit
theorem zaj (W:World)(b:Nat)(v:Value):W.grownBy (W.setCell ⟨b,0,none⟩ v) (some b):=⟨rfl,rfl,rfl,by simp,fun k _ hk=>heap_setCell_other W ⟨b,0,none⟩ k v (fun e=>hk (by simp[e]))⟩
theorem ze4 (W:World)(bn bs:Nat)(v:Value)(l:List S.Sp)(j:Nat)(r:Int)(hne:bn≠bs)(hv:l≠ []->v.ownBlock≠some bn)(R:S.Rd W v l)(N:S.Nf 0 l)(hj:j<=l.length)(hl:l.length<=200)
  (X:S.Bx W bn 3 (.int .i64 j)) (Y:S.Bx W bs 24 v) (hp:S.Past l j r) (h1:r<=1114111) :
  Calls prog 288 #[.int .i32 r,.pointer (some ⟨bn,0,none⟩),.pointer (some ⟨bs,0,none⟩)] W fun e w' =>
   ∃(last:Int) (j':Nat),e= .returned (.tuple #[.bool (S.memb l r),.int .i32 last])/\r<=last/\last<=1114111/\(∀q,r<=q->q<=last->S.memb l q=S.memb l r)/\j'<=l.length/\S.Bx w' bn 3 (.int .i64 j')/\S.Past l j' r/\W.grownBy w' (some bn):=by
 obtain⟨ao,cap,rfl,hn,hc⟩:=R;have HC:Hid _:=hc;have HX:=qH X;have HY:=qH Y;clear hc X Y
 go_enter func288,ntmps288
 go_wp2
 go_loopw [] (fun wr=>∃k:Nat,k<=l.length/\Hid (S.Bx wr bn 3 (.int .i64 k))/\Hid (S.Past l k r)/\Hid (W.grownBy wr (some bn))) (fun wr=>l.length - S.num wr bn)
 case atStart=>exact⟨j,hj,HX,hp,S.zav _ _⟩
 case round =>
  obtain⟨k,hk,HB,HP,HG⟩:=hrel;have e1:=HB.out.cell;have e2:=HB.out.free;have e3:=(HY.out.grown HG.out (by simp;omega)).cell;have hnum:=HB.out.num
  by_cases hlt:k<l.length
  ·obtain⟨b,off,rfl,hcell⟩:=HC.out (by intro h;subst h;simp at hlt);obtain⟨x,hx⟩:∃x,l[k]?=some x:=⟨l[k],by simp[hlt]⟩;have hb:b≠bn:=fun e=>hv (by intro h;subst h;simp at hlt) (by simp[Value.ownBlock,e])
   have cc:∀o u,W.cell? ⟨b,o,none⟩=some u->wr.cell? ⟨b,o,none⟩=some u:=fun o u hu=>by
    rw[World.cell?_of_block (a:=⟨b,o,none⟩) (HG.out.block b (L.block_lt hu) (by simpa using hb))];exact hu
   have c1:=cc _ _ (hcell k x hx).1;have c2:=cc _ _ (hcell k x hx).2;have hm:=N.mem (List.mem_of_getElem? hx);have HX:=qH hx;obtain⟨x1,x2⟩:=x;simp only at c1 c2 hm;clear hcell hx cc
   by_cases hlow:x2<r
   ·have HB2:Hid (S.Bx (wr.setCell ⟨bn,0,none⟩ (.int .i64 ((k:Int)+1))) bn 3 (.int .i64 (k+1:Nat))):=HB.out.set _;have HG2:Hid (W.grownBy (wr.setCell ⟨bn,0,none⟩ (.int .i64 ((k:Int)+1))) (some bn)):=S.zaa HG.out (zaj _ _ _);go_wp2
    go_roundw
    case rel=>exact⟨k+1,by omega,HB2,HP.out.step HX.out hlow,HG2⟩
    case measure=>rw[HB2.out.num,hnum];omega
   ·by_cases hr:r<x1
    ·have HM:=qH <| S.zku N HP.out HX.out (Int.le_refl _) hr;go_wp2
     go_quiet (fail)
     go_wp2
     go_ret2
     refine⟨x1 - 1,k,by rw[HM.out];rfl,by omega,by omega,fun q h2 h3=> ?_,hk,HB.out,HP.out,S.zaa HG.out (S.zad (below_drewN (qR _) _))⟩;rw[HM.out];exact S.zku N HP.out HX.out h2 (by simp only;omega)
    ·have HM:Hid (S.memb l r=true):=S.za6.2 ⟨_,List.mem_of_getElem? HX.out,by simp only;omega,by simp only;omega⟩;go_wp2
     go_quiet (fail)
     go_wp2
     go_ret2
     refine⟨x2,k,by rw[HM.out];rfl,by omega,by omega,fun q h2 h3=> ?_,hk,HB.out,HP.out,S.zaa HG.out (S.zad (below_drewN (qR _) _))⟩;rw[HM.out];exact S.za6.2 ⟨_,List.mem_of_getElem? HX.out,by simp only;omega,by simp only;omega⟩
  ·have HM:Hid (∀q,r<=q->S.memb l q=false):=fun q hq=>S.zsa (by omega) HP.out hq
   have hkl:(k:Int)=l.length:=by omega
   go_wp2
   go_ret2
   refine⟨1114111,k,by rw[HM.out r (Int.le_refl _)];rfl,by omega,by omega,fun q h2 h3=> ?_,hk,HB.out,HP.out,HG.out⟩;rw[HM.out q h2,HM.out r (Int.le_refl _)]
theorem zdv (w:World)(ao:Option Addr)(n c:Nat) :
  Calls prog 278 #[.slice ao n c] w fun e w'=>e= .returned (.func (.func 288) #[] #[.pointer (some ⟨w.heap.size+1,0,none⟩),.pointer (some ⟨w.heap.size,0,none⟩)])/\Below w.heap.size w w'/\w'.heap.size=w.heap.size+2/\S.Bx w' (w.heap.size+1) 3 (.int .i64 0)/\S.Bx w' w.heap.size 24 (.slice ao n c):=by
 go_enter func278,ntmps278
 go_wp2;go_ret
 have h1:Below w.heap.size w (w.alloc (.cells #[.slice ao n c] 24)):=(qR w).alloc qN _;refine⟨rfl,h1.alloc (by simp) _,by simp,?_,?_⟩
 ·have:=S.Bx.new (w.alloc (.cells #[.slice ao n c] 24)) 3 (.int .i64 0);simpa using this
 ·exact(S.Bx.new w 24 (.slice ao n c)).below (B:=w.heap.size+1) ((qR _).alloc (by simp) _) (by omega)
theorem zsg (w:World)(b:Nat)(e1 e2:Int)(c1:w.cell? ⟨b,0,none⟩=some (.int .i64 e1))(c2:w.cell? ⟨b,1,none⟩=some (.int .i64 e2)) :
  Calls prog 277 #[.slice (some ⟨b,0,none⟩) 2 2] w fun e w'=>e= .returned (.int .i64 (if e1≠0 then e1 else e2))/\w'=w:=by
 by_cases h1:e1=0
 ·subst h1;simp only[ne_eq,not_true_eq_false,if_false]
  by_cases h2:e2=0
  ·subst h2
   go_enter func277,ntmps277
   go_wp2;refine wp_loop_rounds 3 ?_
   rw[rounds_succ];go_wp2;rw[rounds_succ];go_wp2;rw[rounds_succ];go_wp2;go_ret;exact⟨rfl,rfl⟩
  ·go_enter func277,ntmps277
   go_wp2;refine wp_loop_rounds 3 ?_
   rw[rounds_succ];go_wp2;rw[rounds_succ];go_wp2;go_ret;exact⟨rfl,rfl⟩
 ·rw[if_pos h1]
  go_enter func277,ntmps277
  go_wp2;refine wp_loop_rounds 3 ?_
  rw[rounds_succ];go_wp2;go_ret;exact⟨rfl,rfl⟩
end
section
open Go.RowKit
theorem zd9 (w:World)(a b:Value)(t:TypeId)(bl:Nat)(hb:bl=w.heap.size)(j:Nat)(u:Value)(h: [a,b][j]?=some u):(w.alloc (.cells #[a,b] t)).cell? ((⟨bl,0,none⟩:Addr).add j)=some u:=by
 subst hb;rw[L.addr_add]
 match j,h with
 | 0,h=>simp at h;subst h;rw[World.cell?_alloc_at _ _ _ _ (by simp)];rfl
 | 1,h=>simp at h;subst h;rw[World.cell?_alloc_at _ _ _ _ (by simp)];rfl
 | j+2,h=>simp at h
theorem cellsOf_set (m:List S.Sp)(p:S.Sp)(q:Int):(S.cellsOf (m++ [p])).set (m.length*2+1) (.int .i32 q)=S.cellsOf (m++ [(p.1,q)]):=by
 rw[S.zbn,S.zbn,List.set_append_right _ _ (by rw[S.zbm];omega),S.zbm];rw[show m.length*2+1 - m.length*2=1 by omega];rfl
theorem zuh (w:World)(B:Nat)(v:Value)(s:List S.Sp)(x:S.Sp)(own:w.ownsRow B 101 2 v s.length (S.cellsOf s))(hB:B<=w.heap.size)(hs:∀p∈s,p.2<=1114111/\0<=p.2)(hl:s.length<=17592186044160)
  (hx: -2147483648<=x.1/\x.1<=2147483647/\ -2147483648<=x.2/\x.2<=2147483647) :
  Calls prog 279 #[v,.agg #[.int .i32 x.1,.int .i32 x.2]] w fun e w'=>∃v',e= .returned v'/\w'.ownsRow B 101 2 v' (S.joinF s x).length (S.cellsOf (S.joinF s x))/\w.grownBy w' v.ownBlock:=by
 obtain⟨x1,x2⟩:=x;simp only at hx ⊢;obtain⟨i0,hi,hz0,hz1,hz2⟩:=info_parts Tryz.infoSp
 have hv:∃ao cap,v= .slice ao s.length cap:=by
  rcases own.2 with ⟨h,h0⟩|⟨g,cap,cur,h,_⟩
  ·exact⟨none,0,by rw[h0,h]⟩
  ·exact⟨_,cap,h⟩
 obtain⟨ao,cap,rfl⟩:=hv;have OW:=qH own
 have CL:Hid (∀g,ao=some g->g=⟨g.block,0,none⟩/\∀j u,(S.cellsOf s)[j]?=some u->w.cell? ⟨g.block,j,none⟩=some u):=by
  intro g hg;subst hg;rcases own.2 with ⟨h,h0⟩|⟨g',cap',cur,h,_⟩
  ·cases h
  ·cases h;refine⟨rfl,fun j u hj=> ?_⟩;have:=own.cells (g:=g') rfl j u hj;rw[L.addr_add] at this;simpa using this
 clear own;rcases S.zeb s with rfl | ⟨m,p,rfl⟩
 ·rw[S.zfr]
  go_enter func279,ntmps279
  go_wp2
  go_quiet (fail)
  go_wp2_with (at_builtin;go_must (refine wpList_append_own _ rfl _ _ 24 rfl B 101 i0 (.agg #[.int .i32 0,.int .i32 0]) 2 8 underlying24 hi hz0 hz1 hz2 rfl (by decide) _ _ _ rfl ((S.zeh (OW.out.alloc _) _).alloc _) ⟨w.heap.size+1,0,none⟩ 1 1 [.int .i32 x1,.int .i32 x2] rfl rfl (fun j u hj=>zd9 _ _ _ _ _ (by simp) j u hj) (fun x hx=>by simp at hx;rcases hx with rfl | rfl <;> rfl) (by unfold maxLen;simp) (by simp) (by simp;omega) ?_;intro v' w3 hown' hgrow3 hnil3))
  go_ret;refine⟨v',rfl,by simpa [S.zbn,S.zbp,S.cellsOf_nil] using hown',?_⟩
  exact S.zaa (S.zad (below_drewN ((qR w).alloc qN _) _)) (S.zaa (S.zad ((qR _).alloc qN _)) hgrow3)
 ·rw[S.zej];obtain⟨p1,p2⟩:=p;have hp:=hs (p1,p2) (by simp);simp only at hp ⊢;cases ao with
  | none =>
   have:=OW.out.1;rcases OW.out.2 with ⟨_,h0⟩|⟨g,cap,cur,h,_⟩
   ·simp at h0
   ·cases h
  | some g =>
   obtain⟨hg,hcl⟩:=CL.out g rfl;obtain⟨gb,go,gv⟩:=g;simp only at hg hcl;cases hg;have hgl:m[m.length]?=none:=by simp
   have e1:(m++ [(p1,p2)])[m.length]?=some (p1,p2):=by simp
   have c2:=hcl _ _ (S.zcp e1).2;simp only at c2;have hgb:=L.block_lt c2;have hne:gb≠w.heap.size:=by omega
   have hlen:(m++ [(p1,p2)]).length=m.length+1:=by simp
   generalize hN:(m++ [(p1,p2)]).length=N at *;subst hlen;have hx2:(m.length:Int)<(m.length:Int)+1:=by omega
   clear CL hcl e1 hgl;have HN:Hid _:=hN;clear hN;have OWa:Hid (∀o,(w.alloc o).ownsRow B 101 2 (.slice (some ⟨gb,0,none⟩) (m.length+1) cap) (m.length+1) (S.cellsOf (m++ [(p1,p2)]))):=fun o=>OW.out.alloc o
   have hg0:decide ((m.length:Int)<0)=false:=by simp
   by_cases hc:p2+1<x1
   ·rw[if_pos hc]
    go_enter func279,ntmps279
    go_wp2;have HQ:=S.boxed (wr:=w) (t:=101) (a:= .int .i32 x1) (b:= .int .i32 x2) (qR _)
    have OW1:=OWa.out (.cells #[.int .i32 x1,.int .i32 x2] 101);generalize w.alloc (.cells #[.int .i32 x1,.int .i32 x2] 101)=w1 at HQ OW1 ⊢;obtain⟨⟨d1,d2⟩,hold,hs1,hbl⟩:=HQ
    replace c2:=hold _ _ _ c2
    have HBL:=qH hbl;have hfz:w1.frozen? ⟨gb,m.length*2+1,none⟩=false:=World.ownsRow.frozenAt OW1 _
    replace OW1:Hid (w1.ownsRow B 101 2 (.slice (some ⟨gb,0,none⟩) (m.length+1) cap) (m.length+1) (S.cellsOf (m++ [(p1,p2)]))):=OW1
    clear hold hbl
    go_quiet (fail)
    go_wp2_with (at_builtin;go_must (refine wpList_append_own _ rfl _ _ 24 rfl B 101 i0 (.agg #[.int .i32 0,.int .i32 0]) 2 8 underlying24 hi hz0 hz1 hz2 rfl (by decide) _ _ _ rfl ((S.zeh OW1.out _).alloc _) ⟨w1.heap.size,0,none⟩ 1 1 [.int .i32 x1,.int .i32 x2] rfl rfl (fun j u hj=>zd9 _ _ _ _ _ (by simp) j u hj) (fun x hx=>by simp at hx;rcases hx with rfl | rfl <;> rfl) (by unfold maxLen;omega) (by omega) (by simp;omega) ?_;intro v' w3 hown' hgrow3 hnil3))
    go_ret;refine⟨v',rfl,by simpa [S.zbn,S.zbp,S.cellsOf_nil] using hown',?_⟩
    exact S.zaa (S.zad (below_drewN HBL.out _)) (S.zaa (S.zad ((qR _).alloc qN _)) hgrow3)
   ·rw[if_neg hc]
    go_enter func279,ntmps279
    go_wp2;have HQ:=S.boxed (wr:=w) (t:=101) (a:= .int .i32 x1) (b:= .int .i32 x2) (qR _)
    have OW1:=OWa.out (.cells #[.int .i32 x1,.int .i32 x2] 101);generalize w.alloc (.cells #[.int .i32 x1,.int .i32 x2] 101)=w1 at HQ OW1 ⊢;obtain⟨⟨d1,d2⟩,hold,hs1,hbl⟩:=HQ
    replace c2:=hold _ _ _ c2
    have HBL:=qH hbl;have hfz:w1.frozen? ⟨gb,m.length*2+1,none⟩=false:=World.ownsRow.frozenAt OW1 _
    replace OW1:Hid (w1.ownsRow B 101 2 (.slice (some ⟨gb,0,none⟩) (m.length+1) cap) (m.length+1) (S.cellsOf (m++ [(p1,p2)]))):=OW1
    clear hold hbl
    go_quiet (fail)
    go_wp2
    go_region
    have hst:=World.ownsRow.stored (S.zeh OW1.out (nq+1)) (m.length*2+1) (.int .i32 (max p2 x2));rw[cellsOf_set] at hst;have HST:Hid _:=hst;clear hst;go_wp2;go_ret;refine⟨_,rfl,by simpa using HST.out.1,?_⟩;exact S.zaa (S.zad (below_drewN HBL.out _)) HST.out.2
theorem zs9 (w:World)(v:Value)(s:List S.Sp)(R:S.Rd w v s)(hl:s.length<=4611686018427387903) :
  Calls prog 280 #[v] w fun e w'=>∃v',e= .returned (.tuple #[v',.int .i64 (S.fewE s)])/\S.Rd w' v' (S.fewL s)/\w'=w/\(v'=v∨v'= .slice none 0 0):=by
 have R0:=R;obtain⟨ao,cap,rfl,hn,hc⟩:=R;have HR:Hid _:=R0;clear hc R0;unfold S.fewE S.fewL
 by_cases hbig:200<s.length
 ·rw[if_pos hbig,if_pos hbig]
  go_enter func280,ntmps280
  go_wp2
  go_ret2
  exact⟨_,rfl,S.Rd.nil w,rfl,.inr rfl⟩
 ·rw[if_neg hbig,if_neg hbig]
  go_enter func280,ntmps280
  go_wp2
  go_ret2
  exact⟨_,rfl,HR.out,rfl,.inl rfl⟩
end
section
open Go.RowKit
structure Swept (a b:List S.Sp) (kp:Bool->Bool->Bool) (s:List S.Sp) (r:Int):Prop where
 nf:S.Nf 0 s
 mem:∀q,S.memb s q=(decide (q<r)&&(S.inR q&&kp (S.memb a q) (S.memb b q)))
 len:(s.length:Int)<=r
theorem Swept.ends {a b:List S.Sp}{kp:Bool->Bool->Bool}{s:List S.Sp}{r:Int}(h:Swept a b kp s r){p:S.Sp}(hp:p∈s):p.1<=p.2/\p.2<r:=by
 have h1:=h.nf.mem hp;have h2:S.memb s p.2=true:=S.za6.2 ⟨p,hp,by omega,by omega⟩;rw[h.mem] at h2;simp at h2;omega
theorem Swept.keep {a b:List S.Sp}{kp:Bool->Bool->Bool}{s:List S.Sp}{r hi:Int}(h:Swept a b kp s r)(h0:0<=r)(h1:r<=hi)(h2:hi<=1114111)
  (ha:∀q,r<=q->q<=hi->S.memb a q=S.memb a r) (hb:∀q,r<=q->q<=hi->S.memb b q=S.memb b r) (hk:kp (S.memb a r) (S.memb b r)=true):Swept a b kp (S.joinF s (r,hi)) (hi+1):=by
 have hj:=S.zl1 (x:=(r,hi)) h.nf h0 h1 h2 fun p hp=>by
  have:=h.ends (List.mem_of_getLast? hp);simp only;omega
 refine⟨hj.1,fun q=> ?_,?_⟩
 ·rw[hj.2,h.mem];simp only
  by_cases hq:r<=q/\q<=hi
  ·have h3:S.inR q=true:=by simp[S.inR];omega
   rw[ha q hq.1 hq.2,hb q hq.1 hq.2,hk,h3];simp[hq.1,hq.2];omega
  ·have e:decide (q<r)=decide (q<hi+1):=by
    apply S.zel;simp;omega
   rw[e];have:(decide (r<=q)&&decide (q<=hi))=false:=by simp;omega
   rw[this,Bool.or_false]
 ·have:=S.zi3 s (r,hi);have:=h.len;omega
theorem Swept.skip {a b:List S.Sp}{kp:Bool->Bool->Bool}{s:List S.Sp}{r hi:Int}(h:Swept a b kp s r)(h1:r<=hi)
  (ha:∀q,r<=q->q<=hi->S.memb a q=S.memb a r) (hb:∀q,r<=q->q<=hi->S.memb b q=S.memb b r) (hk:kp (S.memb a r) (S.memb b r)=false):Swept a b kp s (hi+1):=by
 refine⟨h.nf,fun q=> ?_,by have:=h.len;omega⟩;rw[h.mem]
 by_cases hq:r<=q/\q<=hi
 ·rw[ha q hq.1 hq.2,hb q hq.1 hq.2,hk];simp
 ·have e:decide (q<r)=decide (q<hi+1):=by
   apply S.zel;simp;omega
  rw[e]
theorem Swept.is {a b:List S.Sp}{kp:Bool->Bool->Bool}{s:List S.Sp}{r:Int}(h:Swept a b kp s r)(hr:1114111<r):S.Is (fun q=>S.inR q&&kp (S.memb a q) (S.memb b q)) s:=by
 refine⟨h.nf,fun q=> ?_⟩;rw[h.mem];cases hi:S.inR q with
 | false=>simp only[Bool.false_and,Bool.and_false,hi]
 | true =>
  have:q<r:=by simp[S.inR] at hi;omega
  simp only[this,decide_true,Bool.true_and,hi]
structure Walked (w:World) (n0:Nat) (va vb:Value) (a b:List S.Sp) (r:Int) (wr:World) (v:Value) (s:List S.Sp):Prop where
 ra:S.Rd wr va a
 rb:S.Rd wr vb b
 y1:S.Bx wr n0 24 va
 y2:S.Bx wr (n0+2) 24 vb
 x1:∃j:Nat,j<=a.length/\S.Bx wr (n0+1) 3 (.int .i64 j)/\S.Past a j r
 x2:∃j:Nat,j<=b.length/\S.Bx wr (n0+3) 3 (.int .i64 j)/\S.Past b j r
 own:wr.ownsRow (n0+4) 101 2 v s.length (S.cellsOf s)
 below:Below w.heap.size w wr
 size:n0+4<=wr.heap.size
theorem Walked.grown {w:World}{n0:Nat}{va vb:Value}{a b:List S.Sp}{r:Int}{wr w':World}{v v':Value}{s s':List S.Sp}(h:Walked w n0 va vb a b r wr v s)(ra:S.Rd w va a)(rb:S.Rd w vb b)(h0:w.heap.size<=n0)
  (hg:wr.grownBy w' v.ownBlock) (own:w'.ownsRow (n0+4) 101 2 v' s'.length (S.cellsOf s')) (r':Int) (hr:r<=r'):Walked w n0 va vb a b r' w' v' s':=by
 have hv:=fun g hg=>(h.own.lt g hg).1
 have hne:∀k,k<n0+4->v.ownBlock≠some k:=fun k hk e=>by have:=hv k e;omega
 obtain⟨j1,a1,a2,a3⟩:=h.x1;obtain⟨j2,b1,b2,b3⟩:=h.x2
 exact⟨ra.kept h.ra hg fun g hg'=>by have:=hv g hg';omega,rb.kept h.rb hg fun g hg'=>by have:=hv g hg';omega,h.y1.grown hg (hne _ (by omega)),h.y2.grown hg (hne _ (by omega)),⟨j1,a1,a2.grown hg (hne _ (by omega)),a3.mono hr⟩,⟨j2,b1,b2.grown hg (hne _ (by omega)),b3.mono hr⟩,own,
  Below.grown h.below hg (by have:=h.size;omega) (fun k hk=>by have:=hv k hk;omega),by have:=h.size;have:=hg.size;omega⟩
theorem Walked.stepA {w:World}{n0:Nat}{va vb:Value}{a b:List S.Sp}{r:Int}{wr w':World}{v:Value}{s:List S.Sp}(h:Walked w n0 va vb a b r wr v s)(ra:S.Rd w va a)(rb:S.Rd w vb b)(h0:w.heap.size<=n0)
  (hg:wr.grownBy w' (some (n0+1))) {j:Nat} (hj:j<=a.length) (hx:S.Bx w' (n0+1) 3 (.int .i64 j)) (hp:S.Past a j r):Walked w n0 va vb a b r w' v s:=by
 have hne:∀k,k≠n0+1->some (n0+1)≠some k:=fun k hk e=>by cases e;exact hk rfl
 obtain⟨j2,b1,b2,b3⟩:=h.x2
 exact⟨ra.kept h.ra hg fun g hg'=>by cases hg';omega,rb.kept h.rb hg fun g hg'=>by cases hg';omega,h.y1.grown hg (hne _ (by omega)),h.y2.grown hg (hne _ (by omega)),⟨j,hj,hx,hp⟩,⟨j2,b1,b2.grown hg (hne _ (by omega)),b3⟩,
  h.own.kept hg (by cases hv:v.ownBlock with | none=>exact .inl rfl | some g=>right;have:=(h.own.lt g hv).1;intro e;cases e;omega),
  Below.grown h.below hg (by have:=h.size;omega) (fun k hk=>by cases hk;omega),by have:=h.size;have:=hg.size;omega⟩
theorem Walked.stepB {w:World}{n0:Nat}{va vb:Value}{a b:List S.Sp}{r:Int}{wr w':World}{v:Value}{s:List S.Sp}(h:Walked w n0 va vb a b r wr v s)(ra:S.Rd w va a)(rb:S.Rd w vb b)(h0:w.heap.size<=n0)
  (hg:wr.grownBy w' (some (n0+3))) {j:Nat} (hj:j<=b.length) (hx:S.Bx w' (n0+3) 3 (.int .i64 j)) (hp:S.Past b j r):Walked w n0 va vb a b r w' v s:=by
 have hne:∀k,k≠n0+3->some (n0+3)≠some k:=fun k hk e=>by cases e;exact hk rfl
 obtain⟨j2,b1,b2,b3⟩:=h.x1
 exact⟨ra.kept h.ra hg fun g hg'=>by cases hg';omega,rb.kept h.rb hg fun g hg'=>by cases hg';omega,h.y1.grown hg (hne _ (by omega)),h.y2.grown hg (hne _ (by omega)),⟨j2,b1,b2.grown hg (hne _ (by omega)),b3⟩,⟨j,hj,hx,hp⟩,
  h.own.kept hg (by cases hv:v.ownBlock with | none=>exact .inl rfl | some g=>right;have:=(h.own.lt g hv).1;intro e;cases e;omega),
  Below.grown h.below hg (by have:=h.size;omega) (fun k hk=>by cases hk;omega),by have:=h.size;have:=hg.size;omega⟩
def S.Fresh (F:Nat) (v:Value):Prop:=∀g,v.ownBlock=some g->F<=g
theorem S.Fresh.nil (F:Nat):S.Fresh F (.slice none 0 0):=fun g h=>by cases h
theorem S.Fresh.mono {F F':Nat}{v:Value}(h:S.Fresh F v)(hF:F'<=F):S.Fresh F' v:=fun g hg=>Nat.le_trans hF (h g hg)
theorem zd8 (w:World)(va vb:Value)(a b:List S.Sp)(ra:S.Rd w va a)(rb:S.Rd w vb b)(fa:S.Fit a)(fb:S.Fit b)(g:Nat)(kp:Bool->Bool->Bool)
  (eg:∀args w,(callFunc g args).run prog w= .ok (.enter g args) w) (hk:∀W x y,Calls prog g #[.bool x,.bool y] W fun e w'=>e= .returned (.bool (kp x y))/\w'=W) :
  Calls prog 263 #[va,vb,.func (.func g) #[] #[]] w fun e w' =>
   ∃v,e= .returned (.tuple #[v,.int .i64 (S.resE (S.wrongE a) (S.wrongE b) fun q=>S.inR q&&kp (S.memb a q) (S.memb b q))])/\S.Rd w' v (S.resL (S.wrongE a) (S.wrongE b) fun q=>S.inR q&&kp (S.memb a q) (S.memb b q))/\Below w.heap.size w w'/\S.Fresh w.heap.size v/\(S.wrongE a=0->S.wrongE b=0->∃s,S.Is (fun q=>S.inR q&&kp (S.memb a q) (S.memb b q)) s):=by
 have HA:=qH ra;have HB:=qH rb;obtain⟨aa,ca,rfl⟩:=ra.len;obtain⟨ab,cb,rfl⟩:=rb.len;clear ra rb;have HRE:Hid (∀ea eb,S.wrongE a=ea->S.wrongE b=eb->S.resE (S.wrongE a) (S.wrongE b) (fun q=>S.inR q&&kp (S.memb a q) (S.memb b q))=S.resE ea eb (fun q=>S.inR q&&kp (S.memb a q) (S.memb b q))/\S.resL (S.wrongE a) (S.wrongE b) (fun q=>S.inR q&&kp (S.memb a q) (S.memb b q))=S.resL ea eb (fun q=>S.inR q&&kp (S.memb a q) (S.memb b q))):=fun ea eb h1 h2=>by rw[h1,h2];exact⟨rfl,rfl⟩
 generalize hE:S.resE (S.wrongE a) (S.wrongE b) (fun q=>S.inR q&&kp (S.memb a q) (S.memb b q))=E at HRE ⊢;generalize hL:S.resL (S.wrongE a) (S.wrongE b) (fun q=>S.inR q&&kp (S.memb a q) (S.memb b q))=RL at HRE ⊢;clear hE hL;have hwa:=zb4 w _ a HA.out fa;generalize hea:S.wrongE a=ea at hwa ⊢;have HEA:=qH hea;clear hea
 go_enter func263,ntmps263
 go_wp2_with fail
 refine hwa.mono ?_;clear hwa;rintro e w1 ⟨rfl,hb1⟩;have hsz1:=hb1.size;have HB1:=qH <| HB.out.below hb1 qN;have BW1:=qH hb1;clear hb1;have hwb:=zb4 w1 _ b HB1.out fb;generalize heb:S.wrongE b=eb at hwb ⊢;have HEB:=qH heb;clear heb
 go_wp2_with fail
 refine hwb.mono ?_;clear hwb;rintro e w2 ⟨rfl,hb2⟩;have hsz2:=hb2.size;have BW2:=qH <| BW1.out.trans (hb2.mono hsz1);clear hb2;have hor:=zsg (w2.alloc (.cells #[.int .i64 ea,.int .i64 eb] 36)) w2.heap.size ea eb (S.boxed (qR _)).1.1 (S.boxed (qR _)).1.2;have BW3:Hid (Below w.heap.size w (w2.alloc (.cells #[.int .i64 ea,.int .i64 eb] 36))):=BW2.out.alloc (by omega) _;have hsz3:(w2.alloc (.cells #[.int .i64 ea,.int .i64 eb] 36)).heap.size=w2.heap.size+1:=by simp
 go_wp2_with fail
 generalize w2.alloc (.cells #[.int .i64 ea,.int .i64 eb] 36)=w3 at hor BW3 hsz3 ⊢;have HS3:=qH hsz3;clear hsz3;generalize hor':(if ea≠0 then ea else eb)=er at hor ⊢;have HER:=qH hor';clear hor';refine hor.mono ?_;clear hor;rintro e w3 ⟨rfl,rfl⟩
 by_cases her:er=0
 ·have hz:ea=0/\eb=0:=by
   have h2:=HER.out
   by_cases h3:ea=0
   ·simp[h3] at h2;omega
   ·simp[h3] at h2;omega
  obtain⟨rfl,rfl⟩:=hz;subst her;obtain⟨la,na⟩:=S.zaw.1 HEA.out;obtain⟨lb,nb⟩:=S.zaw.1 HEB.out;have NA:=qH na;have NB:=qH nb;clear na nb;have hst1:=zdv w3 aa a.length ca
  go_wp2_with fail
  refine hst1.mono ?_;clear hst1;rintro e w4 ⟨rfl,hb4,hs4,X4,Y4⟩;have hsz3:=HS3.out;have BW4:=qH <| BW3.out.trans (hb4.mono (by omega));have hn0:w.heap.size<=w3.heap.size:=by omega
  clear hsz3;have HX4:Hid (S.Bx w4 (w3.heap.size+1) 3 (.int .i64 0)/\S.Bx w4 w3.heap.size 24 (.slice aa a.length ca)):=⟨X4,Y4⟩;clear hb4 X4 Y4;have hst2:=zdv w4 ab b.length cb
  go_wp2_with fail
  refine hst2.mono ?_;clear hst2;rw[hs4,show w3.heap.size+2+1=w3.heap.size+3 from rfl];rintro e w5 ⟨rfl,hb5,hs5,X5,Y5⟩
  have WK:Hid (Walked w w3.heap.size (.slice aa a.length ca) (.slice ab b.length cb) a b 0 w5 (.slice none 0 0) []):=by
   have b5:=BW4.out.trans (hb5.mono (by omega));exact⟨HA.out.below b5 qN,HB.out.below b5 qN,HX4.out.2.below hb5 (by omega),Y5,⟨0,Nat.zero_le _,HX4.out.1.below hb5 (by omega),fun i x h=>absurd h (Nat.not_lt_zero _)⟩,⟨0,Nat.zero_le _,X5,fun i x h=>absurd h (Nat.not_lt_zero _)⟩,World.ownsRow_nil _ _ _ _,b5,by omega⟩
  have SW:Hid (Swept a b kp [] 0):=⟨trivial,fun q=>by
   rw[S.zcl]
   by_cases hq:q<0
   ·have:S.inR q=false:=by simp[S.inR];omega
    simp only[this,Bool.false_and,Bool.and_false]
   ·simp[hq],by simp⟩
  clear hb5 X5 Y5 HX4 hs5 BW4 BW3 HB1 BW1 BW2 hsz1 hsz2 HS3;have HN:=qH hs4;clear hs4;generalize w3.heap.size=n0 at WK hn0 HN ⊢;have e70:∀args w,(callFunc 288 args).run prog w= .ok (.enter 288 args) w:=enters_of func288 (by kernel_rfl) rfl;go_wp2
  go_loopw [11,12] (fun v lo wr=>∃(r:Int) (s:List S.Sp),lo= .int .i32 r/\0<=r/\r<=1114112/\Hid (Walked w n0 (.slice aa a.length ca) (.slice ab b.length cb) a b r wr v s)/\Hid (Swept a b kp s r)) (fun _ lo _=>(1114112 - intOf lo).toNat)
  case atStart=>exact⟨0,[],rfl,by omega,by omega,WK,SW⟩
  case round =>
   obtain⟨r,s,rfl,h0,h1,HW,HS⟩:=hrel
   by_cases hr:r<=1114111
   ·obtain⟨j1,hj1,X1,P1⟩:=HW.out.x1
    have hst:=ze4 wr (n0+1) n0 (.slice aa a.length ca) a j1 r (by omega) (fun hne e=>by
     obtain⟨gg,hg,hlt⟩:=HA.out.block hne
     rw[hg] at e;cases e;omega) HW.out.ra NA.out hj1 la X1 HW.out.y1 P1 hr
    go_wp2_with fail
    refine hst.mono ?_;clear hst X1 P1 hj1;rintro e w6 ⟨la1,j3,rfl,l1,l2,l3,l4,X3,P3,G3⟩;have HW6:Hid _:=HW.out.stepA HA.out HB.out hn0 G3 l4 X3 P3;have HL3:=qH l3;clear X3 P3 G3 l3 l4 HW;obtain⟨j2,hj2,X2,P2⟩:=HW6.out.x2
    have hst:=ze4 w6 (n0+3) (n0+2) (.slice ab b.length cb) b j2 r (by omega) (fun hne e=>by
     obtain⟨gg,hg,hlt⟩:=HB.out.block hne
     rw[hg] at e;cases e;omega) HW6.out.rb NB.out hj2 lb X2 HW6.out.y2 P2 hr
    go_wp2_with fail
    refine hst.mono ?_;clear hst X2 P2 hj2;rintro e w7 ⟨lb1,j4,rfl,m1,m2,m3,m4,X4,P4,G4⟩;have HW7:Hid _:=HW6.out.stepB HA.out HB.out hn0 G4 m4 X4 P4;have HL4:=qH m3;clear X4 P4 G4 m3 m4 HW6;have hkk:=hk w7 (S.memb a r) (S.memb b r);cases hb:kp (S.memb a r) (S.memb b r) with
    | true =>
     rw[hb] at hkk;have HK:=qH hb;have SW2:Hid (Swept a b kp (S.joinF s (r,min la1 lb1)) (min la1 lb1+1)):=HS.out.keep h0 (by omega) (by omega) (fun q h2 h3=>HL3.out q h2 (by omega)) (fun q h2 h3=>HL4.out q h2 (by omega)) HK.out;have hjo:=zuh w7 (n0+4) _ s (r,min la1 lb1) HW7.out.own HW7.out.size (fun p hp=>by have:=HS.out.ends hp;have:=HS.out.nf.mem hp;omega) (by have:=HS.out.len;omega) (by simp only;omega);generalize S.memb a r=ma at *;generalize S.memb b r=mb at *;clear hb
     go_wp2_with fail
     refine hkk.mono ?_;clear hkk;rintro e w7 ⟨rfl,rfl⟩;generalize hmi:min la1 lb1=mi at *;have hmi2:r<=mi/\mi<=1114111:=by omega
     clear hmi
     go_wp2_with fail
     refine hjo.mono ?_;clear hjo;rintro e w8 ⟨v8,rfl,O8,G8⟩;have HW8:Hid _:=HW7.out.grown HA.out HB.out hn0 G8 O8 (mi+1) (by omega);clear O8 G8 HW7;go_wp2
     go_roundw
     case rel=>exact⟨mi+1,_,rfl,by omega,by omega,HW8,SW2⟩
     case measure=>simp[intOf];omega
    | false =>
     rw[hb] at hkk;have HK:=qH hb;have SW2:Hid (Swept a b kp s (min la1 lb1+1)):=HS.out.skip (by omega) (fun q h2 h3=>HL3.out q h2 (by omega)) (fun q h2 h3=>HL4.out q h2 (by omega)) HK.out;have HW8:Hid _:=HW7.out.grown HA.out HB.out hn0 (S.zav _ _) HW7.out.own (min la1 lb1+1) (by omega);generalize S.memb a r=ma at *;generalize S.memb b r=mb at *;clear hb HW7
     go_wp2_with fail
     refine hkk.mono ?_;clear hkk;rintro e w7 ⟨rfl,rfl⟩;generalize hmi:min la1 lb1=mi at *;have hmi2:r<=mi/\mi<=1114111:=by omega
     clear hmi;go_wp2
     go_roundw
     case rel=>exact⟨mi+1,s,rfl,by omega,by omega,HW8,SW2⟩
     case measure=>simp[intOf];omega
   ·have hfew:=zs9 wr _ s (S.Rd.zaz HW.out.own) (by have:=HS.out.len;omega);have HIS:=qH <| HS.out.is (by omega);generalize hfe:S.fewE s=fe at hfew ⊢;have HFE:=qH hfe;clear hfe
    go_wp2_with fail
    refine hfew.mono ?_;clear hfew;rintro e w9 ⟨v9,rfl,R9,rfl,hv9⟩;have HR9:=qH R9
    have HFr:Hid (S.Fresh w.heap.size v9):=by
     intro g hg;rcases hv9 with rfl | rfl
     ·have:=World.ownsRow.lt HW.out.own g hg;omega
     ·cases hg
    clear R9 hv9;go_wp2
    go_ret2
    have h1:=HRE.out 0 0 HEA.out HEB.out;have h2:=S.zxp HIS.out
    have h3:E=fe/\RL=S.fewL s:=by
     rw[h1.1,h1.2];unfold S.resE S.resL;rw[h2];simp[HFE.out]
    rw[h3.1,h3.2];exact⟨v9,rfl,HR9.out,HW.out.below,HFr.out,by intros;exact⟨s,HIS.out⟩⟩
 ·go_wp2
  go_ret2
  have h1:=(HRE.out ea eb HEA.out HEB.out);have h2:=HER.out
  have h4:E=er/\RL= []:=by
   rw[h1.1,h1.2];unfold S.resE S.resL
   by_cases h3:ea=0
   ·simp[h3] at h2 ⊢;rw[if_neg (by rw[h2];exact her)];exact⟨h2,fun h=>absurd (h2.symm.trans h) her⟩
   ·simp[h3] at h2 ⊢;exact h2
  rw[h4.1,h4.2];refine⟨_,rfl,S.Rd.nil _,BW3.out,S.Fresh.nil _,fun h5 h6=> ?_⟩;exfalso;apply her;rw[<- h2,h5,<- HEB.out,h6];simp
theorem zt0 (W:World)(x y:Bool):Calls prog 264 #[.bool x,.bool y] W fun e w'=>e= .returned (.bool (!x))/\w'=W:=by
 go_enter func264,ntmps264
 go_wp2;go_ret
 exact⟨rfl,rfl⟩
theorem zm0 (W:World)(x y:Bool):Calls prog 272 #[.bool x,.bool y] W fun e w'=>e= .returned (.bool (x||y))/\w'=W:=by
 cases x <;> cases y <;> (go_enter func272,ntmps272;go_wp2;go_ret;exact⟨rfl,rfl⟩)
theorem zra (W:World)(x y:Bool):Calls prog 270 #[.bool x,.bool y] W fun e w'=>e= .returned (.bool (x&&y))/\w'=W:=by
 cases x <;> cases y <;> (go_enter func270,ntmps270;go_wp2;go_ret;exact⟨rfl,rfl⟩)
theorem zn4 (W:World)(x y:Bool):Calls prog 271 #[.bool x,.bool y] W fun e w'=>e= .returned (.bool (x&& !y))/\w'=W:=by
 cases x <;> cases y <;> (go_enter func271,ntmps271;go_wp2;go_ret;exact⟨rfl,rfl⟩)
def TTells (w:World) (ea eb:Int) (P:Int->Bool) (e:Ending) (w':World):Prop :=
 ∃v,e= .returned (.tuple #[v,.int .i64 (S.resE ea eb P)])/\S.Rd w' v (S.resL ea eb P)/\Below w.heap.size w w'/\S.Fresh w.heap.size v/\(ea=0->eb=0->∃s,S.Is P s)
theorem ze1 (w:World)(va vb:Value)(a b:List S.Sp)(ra:S.Rd w va a)(rb:S.Rd w vb b)(fa:S.Fit a)(fb:S.Fit b) :
  Calls prog 260 #[va,vb] w (TTells w (S.wrongE a) (S.wrongE b) (S.orP a b)):=by
 have h:=zd8 w va vb a b ra rb fa fb 272 (fun x y=>x||y) (enters_of func272 (by kernel_rfl) rfl) zm0;change Calls _ _ _ _ (TTells w (S.wrongE a) (S.wrongE b) (S.orP a b)) at h;obtain⟨aa,ca,rfl⟩:=ra.len;obtain⟨ab,cb,rfl⟩:=rb.len;generalize S.wrongE a=ea at *;generalize S.wrongE b=eb at *;generalize S.orP a b=P at *
 go_enter func260,ntmps260
 go_wp2_with fail
 refine h.mono ?_;clear h ra rb fa fb;rintro e w1 ⟨v1,rfl,h⟩;generalize hre:S.resE ea eb P=re at *;have HH:Hid _:=h;clear h;go_wp2
 go_ret2
 exact⟨v1,by rw[hre];rfl,HH.out⟩
theorem zt4 (w:World)(va vb:Value)(a b:List S.Sp)(ra:S.Rd w va a)(rb:S.Rd w vb b)(fa:S.Fit a)(fb:S.Fit b) :
  Calls prog 258 #[va,vb] w (TTells w (S.wrongE a) (S.wrongE b) (S.andP a b)):=by
 have h:=zd8 w va vb a b ra rb fa fb 270 (fun x y=>x&&y) (enters_of func270 (by kernel_rfl) rfl) zra;change Calls _ _ _ _ (TTells w (S.wrongE a) (S.wrongE b) (S.andP a b)) at h;obtain⟨aa,ca,rfl⟩:=ra.len;obtain⟨ab,cb,rfl⟩:=rb.len;generalize S.wrongE a=ea at *;generalize S.wrongE b=eb at *;generalize S.andP a b=P at *
 go_enter func258,ntmps258
 go_wp2_with fail
 refine h.mono ?_;clear h ra rb fa fb;rintro e w1 ⟨v1,rfl,h⟩;generalize hre:S.resE ea eb P=re at *;have HH:Hid _:=h;clear h;go_wp2
 go_ret2
 exact⟨v1,by rw[hre];rfl,HH.out⟩
theorem zq9 (w:World)(va vb:Value)(a b:List S.Sp)(ra:S.Rd w va a)(rb:S.Rd w vb b)(fa:S.Fit a)(fb:S.Fit b) :
  Calls prog 259 #[va,vb] w (TTells w (S.wrongE a) (S.wrongE b) (S.minP a b)):=by
 have h:=zd8 w va vb a b ra rb fa fb 271 (fun x y=>x&& !y) (enters_of func271 (by kernel_rfl) rfl) zn4;change Calls _ _ _ _ (TTells w (S.wrongE a) (S.wrongE b) (S.minP a b)) at h;obtain⟨aa,ca,rfl⟩:=ra.len;obtain⟨ab,cb,rfl⟩:=rb.len;generalize S.wrongE a=ea at *;generalize S.wrongE b=eb at *;generalize S.minP a b=P at *
 go_enter func259,ntmps259
 go_wp2_with fail
 refine h.mono ?_;clear h ra rb fa fb;rintro e w1 ⟨v1,rfl,h⟩;generalize hre:S.resE ea eb P=re at *;have HH:Hid _:=h;clear h;go_wp2
 go_ret2
 exact⟨v1,by rw[hre];rfl,HH.out⟩
theorem zwp (w:World)(va:Value)(a:List S.Sp)(ra:S.Rd w va a)(fa:S.Fit a) :
  Calls prog 241 #[va] w (TTells w (S.wrongE a) 0 (S.notP a)):=by
 have h:=zd8 w va (.slice none 0 0) a [] ra (S.Rd.nil w) fa (fun x hx=>by simp at hx) 264 (fun x _=> !x) (enters_of func264 (by kernel_rfl) rfl) zt0;change Calls _ _ _ _ (TTells w (S.wrongE a) (S.wrongE []) (S.notP a)) at h;rw[show S.wrongE []=0 from rfl] at h;obtain⟨aa,ca,rfl⟩:=ra.len;generalize S.wrongE a=ea at *;generalize S.notP a=P at *
 go_enter func241,ntmps241
 go_wp2_with fail
 refine h.mono ?_;clear h ra fa;rintro e w1 ⟨v1,rfl,h⟩;generalize hre:S.resE ea 0 P=re at *;have HH:Hid _:=h;clear h;go_wp2
 go_ret2
 exact⟨v1,by rw[hre];rfl,HH.out.1,HH.out.2.1,HH.out.2.2.1,fun h _=>HH.out.2.2.2 h trivial⟩
theorem T.zqe {w w':World}{cb tb cap p:Nat}{ao:Option Addr}{l:List Int}(C:T.Cur w cb tb cap ao l p){v:Value}{s:List S.Sp}(R:S.Rd w v s)(hg:w.grownBy w' (some cb)):S.Rd w' v s:=by
 obtain⟨vo,vc,rfl,hn,h⟩:=R;refine⟨vo,vc,rfl,hn,fun hz=> ?_⟩;obtain⟨b,off,rfl,hcl⟩:=h hz
 have hne:b≠cb:=by
  intro e;subst e;obtain⟨x,hx⟩:∃x,s[0]?=some x:=⟨s[0]'(List.length_pos_iff.2 hz),by simp[List.length_pos_iff.2 hz]⟩;have h1:=(hcl 0 x hx).1;rw[World.cell?] at h1;obtain⟨_,hbk⟩:=C.blk;simp[hbk] at h1;rcases hk:off with _ | _ | k
  ·subst hk;simp at h1
  ·subst hk;simp at h1
  ·subst hk;simp at h1
 refine⟨b,off,rfl,fun j x hj=> ?_⟩;have h1:=hcl j x hj;constructor
 ·rw[World.cell?_of_block (a:=⟨b,off+j*2,none⟩) (hg.block b (L.block_lt h1.1) (by simp[hne]))];exact h1.1
 ·rw[World.cell?_of_block (a:=⟨b,off+j*2+1,none⟩) (hg.block b (L.block_lt h1.2) (by simp[hne]))];exact h1.2
def T.isSet (s:List S.Sp) (v:Value) (w:World):Prop:=S.Rd w v s/\S.Nf 0 s/\s.length<=200
theorem T.isSet.cur {w w':World}{cb tb cap p:Nat}{ao:Option Addr}{l:List Int}{s:List S.Sp}{v:Value}(h:T.isSet s v w)(C:T.Cur w cb tb cap ao l p)(hg:w.grownBy w' (some cb)):T.isSet s v w':=⟨T.zqe C h.1 hg,h.2⟩
def T.isSetF (F:Nat) (s:List S.Sp) (v:Value) (w:World):Prop:=T.isSet s v w/\S.Fresh F v
theorem zkj (w:World)(cb:Nat)(v:Value)(ao:Option Addr)(n c:Nat)(hv:v= .slice ao n c) :
  Calls prog 240 #[.pointer (some ⟨cb,0,none⟩),v,.int .i64 0] w fun e w'=>e= .returned v/\w'=w:=by
 subst hv
 go_enter func240,ntmps240
 go_wp2;go_ret
 exact⟨rfl,rfl⟩
theorem ziy (w:World)(cb tb cap p:Nat)(ao:Option Addr)(l:List Int)(C:T.Cur w cb tb cap ao l p)(v:Value)(e:Int)(he:e≠0)(ao':Option Addr)(n c:Nat)(hv:v= .slice ao' n c) :
  Calls prog 240 #[.pointer (some ⟨cb,0,none⟩),v,.int .i64 e] w fun e' w'=>e'=T.thrown e p/\w'=w:=by
 subst hv;have c1:=C.cell1;have he':(e==0)=false:=by simp[he]
 clear C
 go_enter func240,ntmps240
 go_wp2_with (go_at_call 58;refine(zas _ e p).mono ?_;unfold T.thrown;rintro e' w1 ⟨rfl,rfl⟩)
 exact⟨rfl,rfl,rfl⟩
theorem zcv (w:World)(cb tb cap p:Nat)(ao:Option Addr)(l:List Int)(C:T.Cur w cb tb cap ao l p)(P:Int->Bool)(hP:∀q,P q=(S.inR q&&P q))(v:Value)(R:S.Rd w v (S.resL 0 0 P))(F:Nat)(hF:S.Fresh F v) :
  Calls prog 240 #[.pointer (some ⟨cb,0,none⟩),v,.int .i64 (S.resE 0 0 P)] w (T.Ends w cb tb cap ao l (T.made P p) (T.isSetF F)):=by
 obtain⟨vo,vc,hv⟩:=R.len;unfold T.made;have hN:=S.zx3 hP
 by_cases h:200<(S.nf P).length
 ·rw[if_pos h];have e5:S.resE 0 0 P=5:=by simp[S.resE,S.fewE,h]
  rw[e5];refine(ziy w cb tb cap p ao l C v 5 (by decide) _ _ _ hv).mono ?_;rintro e w' ⟨rfl,rfl⟩;exact⟨rfl,S.zav _ _⟩
 ·rw[if_neg h];have hle:(S.nf P).length<=200:=by omega
  have e0:=S.zwd hle;rw[S.zwc hle] at R;rw[e0];refine(zkj w cb v _ _ _ hv).mono ?_;rintro e w' ⟨rfl,rfl⟩;exact⟨v,rfl,⟨⟨R,hN.1,hle⟩,hF⟩,C,S.zav _ _⟩
