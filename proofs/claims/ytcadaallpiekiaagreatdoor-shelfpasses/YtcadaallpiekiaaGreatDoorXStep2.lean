import Derived.Test.YtcadaallpiekiaaGreatDoorJMath
set_option maxHeartbeats 0
set_option maxRecDepth 20000
set_option linter.unusedSimpArgs false
set_option linter.unusedVariables false
namespace Go.Proofs.YtcadaallpiekiaaGreatDoor
open Go.Proofs.Tryz
section
open Go.RowKit Go.Shelf
namespace J
theorem zmb {ps:List (Hd×Value)}{k:Nat}{p:Hd×Value}(h:ps[k]?=some p):(cells ps)[k*3]?=some (.int .i32 p.1.1)/\(cells ps)[k*3+1]?=some (.int .i32 p.1.2.1)/\(cells ps)[k*3+2]?=some p.2:=by
 induction ps generalizing k with
 | nil=>simp at h
 | cons x ps ih =>
  have e:cells (x::ps)=.int .i32 x.1.1:: .int .i32 x.1.2.1::x.2::cells ps:=rfl;cases k with
  | zero=>simp at h;subst h;simp[e]
  | succ k =>
   have:=ih (k:=k) (by simpa using h);rw[e,show (k+1)*3=k*3+3 by omega];exact this
theorem Own.len {F:Nat}{w:World}{v:Value}{hs:List Hd}(h:Own F w v hs):∃ao cap,v=.slice ao hs.length cap:=by
 obtain⟨ps,_,⟨_,⟨rfl,h0⟩|⟨g,k,cur,rfl,_⟩⟩,_⟩:=h
 ·exact⟨none,0,by rw[h0]⟩
 ·exact⟨_,_,rfl⟩
def Rd (w:World) (v:Value) (hs:List Hd):Prop :=
 ∃ao cap,v=.slice ao hs.length cap/\(hs≠ []->∃X off,ao=some ⟨X,off,none⟩/\∀(k:Nat) p,hs[k]?=some p->w.cell? ⟨X,off+k*3,none⟩=some (.int .i32 p.1)/\w.cell? ⟨X,off+k*3+1,none⟩=some (.int .i32 p.2.1) /\
  ∃ro rc,w.cell? ⟨X,off+k*3+2,none⟩=some (.slice ro p.2.2.length rc)/\L.Rd w (.slice ro p.2.2.length rc) .i64 p.2.2)
theorem Own.rd {F:Nat}{w:World}{v:Value}{hs:List Hd}(h:Own F w v hs):Rd w v hs:=by
 obtain⟨ps,h1,⟨hl,hor⟩,h3⟩:=h;rcases hor with ⟨rfl,h0⟩|⟨g,cap,cur,rfl,hb,hx,hn,hm,hs',ht⟩
 ·refine⟨none,0,by rw[h0],fun hne=>absurd (List.length_eq_zero_iff.1 h0) hne⟩
 ·refine⟨_,cap,rfl,fun _=>⟨g,0,rfl,fun k p hk=> ?_⟩⟩;rw[<- h1,List.getElem?_map] at hk;cases hp:ps[k]? with
  | none=>rw[hp] at hk;simp at hk
  | some q =>
   rw[hp] at hk;simp at hk;subst hk;obtain⟨c0,c1,c2⟩:=zmb hp;have hkl:k<hs.length:=by rw[<- h1,List.length_map];exact(qL.1 hp).1
   have cell:∀j u,(cells ps)[j]?=some u->w.cell? ⟨g,j,none⟩=some u:=fun j u hj=>by
    have hj':=(qL.1 hj).1;rw[hl] at hj';refine K.zad hx ?_;rw[<- ht,List.getElem?_take_of_lt hj',Array.getElem?_toList] at hj;exact hj
   have hr:=L.Rd.zax (h3 q (List.mem_of_getElem? hp));obtain⟨ro,rc,he,_⟩:=id hr;rw[Nat.zero_add];exact⟨cell _ _ c0,cell _ _ c1,ro,rc,by rw[<- he];exact cell _ _ c2,by rw[<- he];exact hr⟩
theorem Rd.below {w w':World}{v:Value}{hs:List Hd}(h:Rd w v hs)(hb:Bl w w'):Rd w' v hs:=by
 obtain⟨ao,cap,h1,h2⟩:=h;have lift:∀b o x,w.cell? ⟨b,o,none⟩=some x->w'.cell? ⟨b,o,none⟩=some x:=fun b o x h=>by rw[(L.bcell hb).1 b o (L.block_lt h)];exact h
 refine⟨ao,cap,h1,fun hne=> ?_⟩;obtain⟨X,off,h3,h4⟩:=h2 hne;refine⟨X,off,h3,fun k p hk=> ?_⟩;obtain⟨c0,c1,ro,rc,c2,hr⟩:=h4 k p hk;exact⟨lift _ _ _ c0,lift _ _ _ c1,ro,rc,lift _ _ _ c2,hr.below hb qN⟩
theorem Rd.at {w:World}{ao:Option Addr}{n cap:Nat}{hs:List Hd}(h:Rd w (.slice ao n cap) hs){k:Nat}{p:Hd}(hk:hs[k]?=some p) :
  ∃X off ro rc,ao=some ⟨X,off,none⟩/\w.cell? ⟨X,off+k*3,none⟩=some (.int .i32 p.1)/\w.cell? ⟨X,off+k*3+1,none⟩=some (.int .i32 p.2.1)/\w.cell? ⟨X,off+k*3+2,none⟩=some (.slice ro p.2.2.length rc)/\L.Rd w (.slice ro p.2.2.length rc) .i64 p.2.2:=by
 obtain⟨ao',cap',h1,h2⟩:=h;cases h1;obtain⟨X,off,h3,h4⟩:=h2 (by intro h;subst h;simp at hk);obtain⟨c0,c1,ro,rc,c2,hr⟩:=h4 k p hk;exact⟨X,off,ro,rc,h3,c0,c1,c2,hr⟩
theorem zss {f:Int->List Int}{c:List Int}{n k:Nat}(hk:k<n):(heads f c n)[k]?=some (headAt f c k):=by simp[heads,hk]
theorem zk8 {l:List K.Rule}{c d:List Int}(h:Cuts l c)(h':Cuts l d):c=d:=by
 have hp:c.Perm d:=by
  rw[List.perm_ext_iff_of_nodup (h.1.imp fun hh=>by omega) (h'.1.imp fun hh=>by omega)];intro a;rw[h.2,h'.2]
 exact hp.eq_of_pairwise (fun a b _ _ h1 h2=>by omega) h.1 h'.1
def aRule:K.Rule:=⟨false,false,[],[[(97,98)]],[],[],0⟩
end J
theorem J.zla {l:List K.Rule}{o o':List J.Hd×Int×Int}(h:J.Comp l o)(h':J.Comp l o'):o=o':=by
 rcases h with ⟨h1,rfl⟩|⟨h1,c,hc,_,hor⟩
 ·rcases h' with ⟨_,rfl⟩|⟨h2,_⟩
  ·rfl
  ·exact absurd h2 h1
 ·rcases h' with ⟨h2,_⟩|⟨_,d,hd,_,hor'⟩
  ·exact absurd h1 h2
  ·have:=J.zk8 hc hd;subst this;rcases hor with ⟨h2,rfl⟩|⟨h2,rfl⟩ <;> rcases hor' with ⟨h3,rfl⟩|⟨h3,rfl⟩
   ·rfl
   ·omega
   ·omega
   ·rfl
end
section
open Go.RowKit Go.Lib Go.Sort
theorem jEmpty (w:World):(w.alloc (.cells #[] 3)).ownsRow w.heap.size 3 1 (.slice (some ⟨w.heap.size,0,none⟩) 0 0) 0 []:=by
 refine⟨rfl,.inr ⟨w.heap.size,0,#[],rfl,qN,?_,qN,by unfold maxLen;omega,rfl,rfl⟩⟩;show (w.heap.push _)[w.heap.size]?=_;exact Array.getElem?_push_size
theorem znn (w:World)(v:Value)(zs:List Int)(R:L.Rd w v .i64 zs)(hl:zs.length<=1000000) :
  Calls prog 214 #[v] w fun e w'=>∃v',e=.returned v'/\L.Rd w' v' .i64 zs/\Bl w w':=by
 have HR:=qH R;obtain⟨i0,hi,hz0,hz1,hz2⟩:=info_parts Tryz.infoIntJ;obtain⟨ao,cap,rfl,hn,hc⟩:=R
 have HN:Hid (ao=none->zs= []):=fun h=>by
  cases zs with
  | nil=>rfl
  | cons z zs=>obtain⟨b,off,h',_⟩:=hc (by simp);rw[h] at h';cases h'
 have q40:∀(w:World) (a:Option Addr) (n c n' c':Nat),(binOp .eql 88 (.slice a n c) (.slice none n' c')).run prog w=.ok (.bool a.isNone) w:=fun w a n c n' c'=>Lib.run_eql_slice_nil w _ _ a n c n' c' underlying88
 have HA:Hid (Bl w (w.alloc (.cells #[] 3))):=(qR w).alloc qN _;clear hc;cases ao with
 | none =>
  have:=HN.out rfl;subst this;have:=hn rfl;subst this
  go_enter func214,ntmps214
  go_wp2;go_ret
  exact⟨_,rfl,⟨none,0,rfl,fun _=>rfl,fun h=>absurd rfl h⟩,qR _⟩
 | some ad =>
  go_enter func214,ntmps214
  go_wp2_with (at_builtin;go_must (refine L.zbd rfl _ _ 88 rfl w.heap.size 3 i0 .i64 8 underlying88 hi hz0 hz1 hz2 _ _ _ rfl (jEmpty w) _ zs rfl (HR.out.below HA.out qN) (by unfold maxLen;omega) (by omega) (by simp) ?_;intro v' w4 own4 grown4))
  go_ret;have e:([]++zs.map (Value.int .i64))=zs.map (Value.int .i64):=by simp
  rw[e,Nat.zero_add] at own4;exact⟨v',rfl,L.Rd.zax own4,Below.grown HA.out grown4 (by simp) (fun j hj=>by cases hj;exact qN)⟩
theorem znl (ba bx:Nat)(v:Value)(hs:List J.Hd)(r:Int)(i:Nat)(p:J.Hd)(W:World)(hp:hs[i]?=some p)(R:J.Rd W v hs)(hl:hs.length<=1000)
  (ha:W.cell? ⟨ba,0,none⟩=some v) (hr:W.cell? ⟨bx,0,none⟩=some (.int .i32 r)) :
  Calls prog 213 (#[.int .i64 i]++#[.pointer (some ⟨ba,0,none⟩),.pointer (some ⟨bx,0,none⟩)]) W fun e w'=>e=.returned (.bool (decide (r<=p.2.1)))/\∃q os,w'=grow (W.drewN q) os:=by
 obtain⟨ao,cap,rfl,_⟩:=id R;have hlt:=(qL.1 hp).1;obtain⟨X,off,ro,rc,rfl,c0,c1,c2,_⟩:=R.at hp;have hiz:(i:Int)<(hs.length:Int):=by omega
 obtain⟨p0,p1,p2⟩:=p;simp only at c1 ⊢;clear c0 c2 hp R
 go_enter func213,ntmps213
 go_wp2
 go_quiet (fail)
 go_wp2;go_ret
 exact⟨rfl,_,#[],by rw[grow_empty]⟩
namespace J
def found (l:List K.Rule) (r:Int):List Int:=if 0<=r/\r<=1114111 then begins l r else []
theorem zsu {l:List K.Rule}{c:List Int}(h:Cuts l c)(hE:∀r∈l,K.ruleE r=0){r:Int}{k:Nat}(hk:k+1<c.length)(h1:c.getD k 0<=r)(h2:r<=c.getD (k+1) 0-1):found l r=begins l (c.getD k 0):=by
 have r1:=mem_range hE ((h.2 _).1 (h.get (k:=k) (by omega)));have r2:=mem_range hE ((h.2 _).1 (h.get (k:=k+1) (by omega)));unfold found;rw[if_pos (by omega)];exact h.same hk h1 (by omega)
theorem zns {l:List K.Rule}{c:List Int}(h:Cuts l c)(hE:∀r∈l,K.ruleE r=0){r:Int}(hn:∀k,k+1<c.length->¬(c.getD k 0<=r/\r<=c.getD (k+1) 0-1)):found l r= []:=by
 unfold found;rw[if_neg];rintro ⟨h1,h2⟩;obtain⟨k,hk,a,b⟩:=h.at hE h1 h2;exact hn k hk ⟨a,by omega⟩
end J
theorem zp8 (w:World)(v:Value)(l:List K.Rule)(c:List Int)(hc:J.Cuts l c)(hE:∀r∈l,K.ruleE r=0)(hll:l.length<=200)(hn:c.length-1<=400)(R:J.Rd w v (J.heads (J.begins l) c (c.length-1)))(r:Int) :
  Calls prog 199 #[v,.int .i32 r] w fun e w'=>∃v',e=.returned v'/\L.Rd w' v' .i64 (J.found l r)/\Bl w w':=by
 obtain⟨F,hF⟩:=qE (J.found l r);rw[<- hF];obtain⟨hs,hhs⟩:=qE (J.heads (J.begins l) c (c.length-1));have hlen:hs.length=c.length-1:=by rw[hhs,J.zbk]
 have hat:∀k,k<c.length-1->hs[k]?=some (J.headAt (J.begins l) c k):=fun k hk=>by rw[hhs];exact J.zss hk
 rw[<- hhs] at R;obtain⟨aa,ca,rfl,_⟩:=id R;obtain⟨W0,hW0⟩:=qE ((w.alloc (.cells #[.slice aa hs.length ca] 123)).alloc (.cells #[.int .i32 r] 21));have hsize:W0.heap.size=w.heap.size+2:=by rw[hW0];simp
 have hbw:Bl w W0:=by
  rw[hW0];exact((qR w).alloc qN _).alloc (by simp) _
 have x1:S.Bx W0 w.heap.size 123 (.slice aa hs.length ca):=by
  rw[hW0];exact(S.Bx.new w _ _).below (B:=w.heap.size+1) ((qR _).alloc (by simp) _) (by omega)
 have x2:S.Bx W0 (w.heap.size+1) 21 (.int .i32 r):=by
  rw[hW0];have h:=S.Bx.new (w.alloc (.cells #[.slice aa hs.length ca] 123)) 21 (.int .i32 r);rw[World.size_alloc] at h;exact h
 have R0:=R.below hbw
 have hpm:∀a b,a<=b->b<hs.length->decide (r<=c.getD (a+1) 0-1)=true->decide (r<=c.getD (b+1) 0-1)=true:=by
  intro a b hab hb h;have:=hc.le (i:=a+1) (j:=b+1) (by omega) (by omega);simp only[decide_eq_true_eq] at h ⊢;omega
 have eg:∀args w,(callFunc 213 args).run prog w=.ok (.enter 213 args) w:=enters_of func213 (by kernel_rfl) rfl
 have hS:=Any.sort_Search Tryz.search 213 #[.pointer (some ⟨w.heap.size,0,none⟩),.pointer (some ⟨w.heap.size+1,0,none⟩)] hs.length (fun i=>decide (r<=c.getD (i+1) 0-1)) W0 eg (by omega)
  (fun m os i hi=>by
   have hb:=below_grown_sl W0.heap.size W0 m os qN
   exact znl w.heap.size (w.heap.size+1) (.slice aa hs.length ca) hs r i _ (grow (W0.drewN m) os) (hat i (by omega)) (R0.below hb) (by omega) (x1.below hb (by omega)).cell (x2.below hb (by omega)).cell) hpm
 obtain⟨q,hql,hqe,hq1,hq2⟩:=zcg hs.length (fun i=>decide (r<=c.getD (i+1) 0-1)) hpm;rw[hqe] at hS;change Calls prog 125 _ _ _ at hS
 have HNo:Hid ((q=hs.length∨r<c.getD q 0)->F= []):=fun hor=>by
  rw[hF];refine J.zns hc hE fun k hk hh=> ?_
  by_cases hkq:k<q
  ·have:=hq1 k hkq;simp only[decide_eq_false_iff_not] at this;omega
  ·rcases hor with h|h
   ·omega
   ·have:=hc.le (i:=q) (j:=k) (by omega) (by omega);omega
 have HYes:Hid (q<hs.length->c.getD q 0<=r->F=J.begins l (c.getD q 0)):=fun h1 h2=>by
  rw[hF];have:=hq2 q qN h1;simp only[decide_eq_true_eq] at this;exact J.zsu hc hE (by omega) h2 this
 have HX:Hid (S.Bx W0 w.heap.size 123 (.slice aa hs.length ca)/\S.Bx W0 (w.heap.size+1) 21 (.int .i32 r)/\Bl w W0/\J.Rd W0 (.slice aa hs.length ca) hs):=⟨x1,x2,hbw,R0⟩;have HAt:Hid (∀k,k<hs.length->hs[k]?=some (J.headAt (J.begins l) c k)):=fun k hk=>hat k (by omega)
 have hbl:(J.begins l (c.getD q 0)).length<=1000000:=by
  have:=J.zcv (fun r=>S.memb (K.headS r) (c.getD q 0)) l 0;unfold J.begins;omega
 have hsl:hs.length<=400:=by omega
 clear R0 x1 x2 hpm hqe hq1 hq2 R hat hhs hlen hn hE hc hF
 go_enter func199,ntmps199
 go_wp2_with fail
 rw[<- hW0];refine hS.mono ?_;clear hS hW0;rintro e W1 ⟨rfl,n1,os,hW1⟩;have hb1:=below_grown_sl W0.heap.size W0 n1 os qN;rw[<- hW1] at hb1;clear hW1;obtain⟨x1,x2,hbw2,hR⟩:=HX.out;have e1:=(x1.below hb1 (by omega)).cell;have e2:=(x2.below hb1 (by omega)).cell;have HR1:=qH<|hR.below hb1;have BW:=qH<|hbw2.trans (hb1.mono (by omega));clear x1 x2 hb1 HX hbw2 hR hbw
 by_cases hql2:q=hs.length
 ·have h1:=HNo.out (.inl hql2);subst h1;have hqi:((q:Int)==(hs.length:Int))=true:=by simp;omega
  go_wp2_with fail
  go_quiet (fail)
  go_wp2;go_ret
  exact⟨_,rfl,⟨none,0,rfl,fun _=>rfl,fun h=>absurd rfl h⟩,below_drewN BW.out _⟩
 ·have hlt:q<hs.length:=by omega
  have hqi:((q:Int)==(hs.length:Int))=false:=by simp;omega
  obtain⟨X,off,ro,rc,rfl,c0,c1,c2,hr⟩:=HR1.out.at (HAt.out q hlt);simp only[J.headAt] at c0 c1 c2 hr;have HRr:=qH hr;clear hr HR1 HAt c1;generalize c.getD q 0=lo at HNo HYes c0 c2 hbl HRr
  by_cases hlow:r<lo
  ·have h1:=HNo.out (.inr hlow);subst h1
   go_wp2_with fail
   go_quiet (fail)
   go_wp2;go_ret
   exact⟨_,rfl,⟨none,0,rfl,fun _=>rfl,fun h=>absurd rfl h⟩,below_drewN BW.out _⟩
  ·have HFE:=qH<|HYes.out hlt (by omega);clear HYes HNo;have hlowf:=decide_eq_false hlow
   have HCl:Hid (∀n,Calls prog 214 #[.slice ro (J.begins l lo).length rc] (W1.drewN n) fun e w'=>∃v',e=.returned v'/\L.Rd w' v' .i64 (J.begins l lo)/\Bl W1 w'):=fun n=>by
    have hd:Bl W1 (W1.drewN n):=below_drewN (qR _) _;refine(znn (W1.drewN n) _ (J.begins l lo) (HRr.out.below hd qN) hbl).mono ?_;rintro e w' ⟨v',h1,h2,h3⟩;exact⟨v',h1,h2,hd.trans h3⟩
   go_wp2_with fail
   go_quiet (fail)
   go_wp2_with fail
   go_at_call 214
   refine(HCl.out _).mono ?_;rintro e w3 ⟨v3,rfl,r3,b3⟩;have HF:Hid (L.Rd w3 v3 .i64 (J.begins l lo)/\Bl w w3):=⟨r3,BW.out.trans (b3.mono BW.out.size)⟩;clear r3 b3;go_wp2;go_ret;exact⟨v3,rfl,by rw[HFE.out];exact HF.out.1,HF.out.2⟩
end
section
open Go.RowKit Go.Shelf
structure Gm.Mx (b:Nat) (ms:List Nat) (mb:Nat) (wb w:World) (g:Nat) (vr vh:Value) (l:List K.Rule) (c:List Int) (A Z:List Int):Prop where
 base:wb.heap.size<=b
 bel:Bl wb w
 box:w.heap[mb]?=some (.cells #[.pointer (some ⟨g,0,none⟩),vr,vh] 194)
 mem:mb∈ms
 old:∀j∈ms,j<w.heap.size
 tx:∃ao cur,Gm.Tx ⟨b,ms⟩ g ao cur A Z w
 rus:V.Rus wb vr l
 hd:∀W,Below b w W->J.Rd W vh (J.heads (J.begins l) c (c.length-1))
structure Gm.Ok (l:List K.Rule) (c:List Int):Prop where
 few:l.length<=200
 right:∀r∈l,K.ruleE r=0
 cuts:J.Cuts l c
 heads:c.length-1<=400
theorem zmi (b:Nat)(ms:List Nat)(mb:Nat)(wb w:World)(g:Nat)(vr vh:Value)(l:List K.Rule)(c:List Int)(A Z:List Int)(M:Gm.Mx b ms mb wb w g vr vh l c A Z)(O:Gm.Ok l c)(hz:0<Z.length)(hright:∀x∈A++Z,0<=x/\x<=1114111) :
  Calls prog 178 #[.pointer (some ⟨mb,0,none⟩)] w fun e w'=>e=.returned (.int .i64 (K.which l (A++Z) A.length))/\Bl w w':=by
 obtain⟨ao,cur,hT⟩:=M.tx;have hmb:=(qA.1 M.box).1;have hfew:=hT.few;have hbox:=M.box;obtain⟨X,hX⟩:=qE ((w.alloc (.cells #[.pointer (some ⟨mb,0,none⟩)] 188)).alloc (.cells #[.int .i64 A.length] 3));have hXw:Bl w X:=by rw[hX];exact((qR w).alloc qN _).alloc (by simp) _
 have hXs:X.heap.size=w.heap.size+2:=by rw[hX];simp
 have hX0:X.heap[w.heap.size]?=some (.cells #[.pointer (some ⟨mb,0,none⟩)] 188):=by
  rw[hX];show (((w.heap.push _).push _))[w.heap.size]?=_;rw[Array.getElem?_push,if_neg (by simp),Array.getElem?_push,if_pos rfl]
 have hX1:X.heap[w.heap.size+1]?=some (.cells #[.int .i64 A.length] 3):=by
  rw[hX];show (((w.heap.push _).push _))[w.heap.size+1]?=_;rw[Array.getElem?_push,if_pos (by simp)]
 have hcur:Calls prog 177 #[.pointer (some ⟨g,0,none⟩)] (w.alloc (.cells #[.pointer (some ⟨mb,0,none⟩)] 188)) fun e w'=>e=.returned (.int .i64 A.length)/\w'=w.alloc (.cells #[.pointer (some ⟨mb,0,none⟩)] 188) :=
  zc8 _ g A.length _ _ ((hT.kept fun k hk=>((Below.refl w.heap.size w).alloc qN (.cells #[.pointer (some ⟨mb,0,none⟩)] 188)).block k hk).box)
 have HCur:=qH hcur
 have HKp:Hid (∀W,Bl X W->W.cell? ⟨w.heap.size,0,none⟩=some (.pointer (some ⟨mb,0,none⟩))/\W.cell? ⟨mb,2,none⟩=some vh/\W.cell? ⟨mb,0,none⟩=some (.pointer (some ⟨g,0,none⟩))/\W.cell? ⟨w.heap.size+1,0,none⟩=some (.int .i64 A.length)):=fun W hW=>by
  have b1:=K.zae (K.zae hbox hXw) hW;exact⟨K.zad (i:=0) (K.zae hX0 hW) rfl,K.zad (i:=2) b1 rfl,K.zad (i:=0) b1 rfl,K.zad (i:=0) (K.zae hX1 hW) rfl⟩
 obtain⟨x,hx⟩:=qE ((A++Z).getD A.length 0)
 have hxr:0<=x/\x<=1114111:=by
  refine hright x ?_;rw[hx];simp[List.getD,List.getElem?_append,hz]
 have HAt:Hid (∀W,Bl X W->Calls prog 200 #[.pointer (some ⟨g,0,none⟩),.int .i64 A.length] W fun e w'=>e=.returned (.int .i32 x)/\Bl X w'):=fun W hW=>by
  have h1:=zol W ⟨b,ms⟩ g ao cur A Z ((hT.kept fun k hk=>hXw.block k hk).kept fun k hk=>hW.block k hk) A.length (by omega);rw[<- hx] at h1;refine h1.mono ?_;rintro e w' ⟨h2,q,rfl⟩;exact⟨h2,below_drewN hW _⟩
 have hfo:J.found l x=J.begins l x:=if_pos hxr
 have HFi:Hid (∀W,Bl X W->Calls prog 199 #[vh,.int .i32 x] W fun e w'=>∃fo fc,e=.returned (.slice fo (J.begins l x).length fc)/\L.Rd w' (.slice fo (J.begins l x).length fc) .i64 (J.begins l x)/\Bl X w'):=fun W hW=>by
  have hbW:Below b w W:=(hXw.trans (hW.mono (by omega))).mono hT.size;refine(zp8 W vh l c O.cuts O.right O.few O.heads (M.hd W hbW) x).mono ?_;rintro e w' ⟨v',h1,h2,h3⟩;rw[hfo] at h2;obtain⟨fo,fc,rfl,_⟩:=id h2;exact⟨fo,fc,h1,h2,hW.trans (h3.mono hW.size)⟩
 obtain⟨hvo,hvc,rfl,_⟩:=M.hd w (qR _)
 have HWh:Hid (∀e,Gm.Idx (fun z=>K.matchB ((l[z.toNat]?).getD K.noRule) (A++Z) A.length) (J.begins l x) e->(∃(j i:Nat) (r:K.Rule),(J.begins l x)[j]?=some (i:Int)/\l[i]?=some r/\e=.returned (.int .i64 j)/\K.which l (A++Z) A.length=i)∨(e=.returned (.int .i64 (-1))/\K.which l (A++Z) A.length= -1)):=fun e he=>by
  rw[hx] at he ⊢;exact Gm.zqb O.right he
 have hbl:(J.begins l x).length<=1000000:=by
  have:=J.zcv (fun r=>S.memb (K.headS r) x) l 0;have:=O.few;unfold J.begins;omega
 have HIx:Hid (∀W fo fc,Bl X W->L.Rd W (.slice fo (J.begins l x).length fc) .i64 (J.begins l x)->Calls prog 201 #[.slice fo (J.begins l x).length fc,.func (.func 202) #[] #[.pointer (some ⟨w.heap.size,0,none⟩),.pointer (some ⟨w.heap.size+1,0,none⟩)]] W fun e w'=>Gm.Idx (fun z=>K.matchB ((l[z.toNat]?).getD K.noRule) (A++Z) A.length) (J.begins l x) e/\L.Rd w' (.slice fo (J.begins l x).length fc) .i64 (J.begins l x)/\Bl X w'):=fun W fo fc hW hR=>by
  refine(zml W _ (J.begins l x) hR (by omega) 202 _ (fun z=>K.matchB ((l[z.toNat]?).getD K.noRule) (A++Z) A.length) (enters_of func202 (by kernel_rfl) rfl) (fun Y z hY hz'=> ?_)).mono fun e w' ⟨h1,h2⟩=>⟨h1,hR.below h2 qN,hW.trans (h2.mono hW.size)⟩
  obtain⟨i,r,hi,_,rfl⟩:=Gm.zdo.1 hz';rw[Nat.zero_add];have hXY:=hW.trans (hY.mono hW.size);have hwY:=hXw.trans (hXY.mono (by omega));have hwb:=M.bel;have hk:=HKp.out Y hXY;have hV:=Gm.Vw.of (K.zad (i:=0) hbox rfl) hT;have h9:=zjt w Y hwY w.heap.size (w.heap.size+1) mb g i vr (.slice hvo (J.heads (J.begins l) c (c.length-1)).length hvc) l (M.rus.below hwb) (A++Z) hV (by rw[List.length_append];omega) A.length (by rw[List.length_append];omega) r hi (O.right r (List.mem_of_getElem? hi)) hk.1 hk.2.2.2 (K.zad (i:=1) (K.zae hbox hwY) rfl);simp only[Int.toNat_natCast,hi,Option.getD_some];exact h9
 have HXw:=qH hXw;have e0:w.cell? ⟨mb,0,none⟩=some (.pointer (some ⟨g,0,none⟩)):=K.zad (i:=0) hbox rfl;have HE0:=qH<|fun o=>K.zai e0 o
 have e1:=HE0.out (.cells #[.pointer (some ⟨mb,0,none⟩)] 188);have HXX:=qH hX;generalize J.begins l x=bl at HFi HWh HIx hbl;generalize (J.heads (J.begins l) c (c.length-1)).length=hn at HKp HFi;clear hT hbox hX0 hX1 hcur hX hXw hfo hx hright M O e0 HE0
 go_enter func178,ntmps178
 go_wp2_with fail
 go_at_call 177
 refine HCur.out.mono ?_;rintro e w1 ⟨rfl,rfl⟩;clear e1 HCur
 go_wp2_with fail
 rw[<- HXX.out];have HQ0:Hid (Bl X X.drew):=(qR X).drew
 go_cut [4] (fun v4 wx=>∃fo fc,v4=.slice fo bl.length fc/\Hid (L.Rd wx (.slice fo bl.length fc) .i64 bl/\Bl X wx))
 case first =>
  go_region_held3 (fun w'=>w'.cell? ⟨w.heap.size,0,none⟩=some (.pointer (some ⟨mb,0,none⟩))/\w'.cell? ⟨mb,2,none⟩=some (.slice hvo hn hvc)/\w'.cell? ⟨mb,0,none⟩=some (.pointer (some ⟨g,0,none⟩))/\w'.cell? ⟨w.heap.size+1,0,none⟩=some (.int .i64 A.length))
   (first|with_reducible exact HKp.out _ HQ0.out|with_reducible exact k2|with_reducible exact k1|(go_keep;done))
   (first
    | (have hy:=z1;clear hy;go_at_call 199;refine(HFi.out _ z1).mono ?_;rintro e w2 ⟨fo,fc,rfl,r2,z2⟩;have k2:=HKp.out _ z2)
    | ((fail_if_success (have hy:=z1));go_at_call 200;refine(HAt.out _ HQ0.out).mono ?_;rintro e w1 ⟨rfl,z1⟩;have k1:=HKp.out _ z1)
    | fail)
  all_goals go_wp2
  all_goals go_meet
  all_goals exact⟨fo,fc,rfl,r2,z2⟩
 case rest =>
  obtain⟨fo,fc,rfl,HC⟩:=hcut;have HI2:=HIx.out wc fo fc HC.out.2 HC.out.1
  have HI3:Hid (Calls prog 201 #[.slice fo bl.length fc,.func (.func 202) #[] #[.pointer (some ⟨w.heap.size,0,none⟩),.pointer (some ⟨w.heap.size+1,0,none⟩)]] wc fun e w'=>((∃(j i:Nat),bl[j]?=some (i:Int)/\e=.returned (.int .i64 j)/\K.which l (A++Z) A.length=i)∨(e=.returned (.int .i64 (-1))/\K.which l (A++Z) A.length= -1))/\L.Rd w' (.slice fo bl.length fc) .i64 bl/\Bl w w'):=by
   refine HI2.mono ?_;rintro e w' ⟨h1,h2,h3⟩;refine⟨?_,h2,HXw.out.trans (h3.mono (by omega))⟩;rcases HWh.out e h1 with ⟨j,i,r,g1,_,g2,g3⟩|h
   ·exact .inl ⟨j,i,g1,g2,g3⟩
   ·exact .inr h
  clear HI2 HIx HWh HKp HAt HFi
  go_wp2_with fail
  go_at_call 201
  refine HI3.out.mono ?_;rintro e w3 ⟨h1,r3,b3⟩;have HB3:=qH b3;rcases h1 with ⟨j,i,g1,rfl,hw⟩|⟨rfl,hw⟩
  ·have HW:=qH hw;clear hw;have hjl:=(qL.1 g1).1;obtain⟨ao9,cap9,h9,_,hcs⟩:=r3;cases h9;obtain⟨fb,ff,rfl,hcell⟩:=hcs (by intro h;rw[h] at hjl;simp at hjl);have cj:=hcell j _ g1;clear hcell hcs g1 b3 HI3;go_wp2;go_ret;exact⟨by rw[HW.out];rfl,HB3.out⟩
  ·have HW:=qH hw;clear b3 HI3 r3 hw;go_wp2;go_ret;exact⟨by rw[HW.out];rfl,HB3.out⟩
theorem Gm.Room.re {B B':Gm.Bs}{w:World}{ao:Option Addr}{cur:List Int}(h:Gm.Room B w ao cur)(hr:∀r,ao=Option.some ⟨r,0,none⟩->B'.ok r):Gm.Room B' w ao cur:=by
 rcases h with h|⟨r,h1,_,h3⟩
 ·exact .inl h
 ·exact .inr ⟨r,h1,hr r h1,h3⟩
theorem Gm.Tx.re {B B':Gm.Bs}{g:Nat}{ao:Option Addr}{cur A Z:List Int}{w:World}(h:Gm.Tx B g ao cur A Z w)(hg:B'.ok g)(hr:∀r,ao=some ⟨r,0,none⟩->B'.ok r):Gm.Tx B' g ao cur A Z w :=
 ⟨hg,h.box,h.room.re hr,h.ne,h.fit,h.most,h.few,h.ahead,h.behind⟩
theorem Gm.Mx.below {b:Nat}{ms:List Nat}{mb:Nat}{wb w w':World}{g:Nat}{vr vh:Value}{l:List K.Rule}{c A Z:List Int}(M:Gm.Mx b ms mb wb w g vr vh l c A Z)(h:Bl w w'):Gm.Mx b ms mb wb w' g vr vh l c A Z:=by
 obtain⟨ao,cur,hT⟩:=M.tx;have hb:b<=w.heap.size:=hT.size;exact⟨M.base,M.bel.trans (h.mono M.bel.size),K.zae M.box h,M.mem,fun j hj=>Nat.lt_of_lt_of_le (M.old j hj) h.size,⟨ao,cur,hT.kept fun k hk=>h.block k hk⟩,M.rus,fun W hW=>M.hd W ((h.mono hb).trans hW)⟩
theorem Gm.Mx.lt {b:Nat}{ms:List Nat}{mb:Nat}{wb w:World}{g:Nat}{vr vh:Value}{l:List K.Rule}{c A Z:List Int}(M:Gm.Mx b ms mb wb w g vr vh l c A Z):mb<w.heap.size:=(qA.1 M.box).1
theorem Gm.Mx.told {b:Nat}{ms ns:List Nat}{mb:Nat}{wb w w':World}{g:Nat}{vr vh:Value}{l:List K.Rule}{c A Z A' Z':List Int}(M:Gm.Mx b ms mb wb w g vr vh l c A Z)(hm:∀j∈ms,j∈ns)(h:Gm.Told ⟨b,ns⟩ g w A' Z' w'):Gm.Mx b ms mb wb w' g vr vh l c A' Z':=by
 obtain⟨⟨ao,cur,hT⟩,hF⟩:=h;refine⟨M.base,M.bel.trans (hF.1.mono M.base),(hF.2 mb (hm mb M.mem) M.lt).trans M.box,M.mem,fun j hj=>Nat.lt_of_lt_of_le (M.old j hj) hF.size,⟨ao,cur,hT.re ⟨hT.hB.1,fun e=>hT.hB.2 (hm _ e)⟩ fun r hr=> ?_⟩,M.rus,fun W hW=>M.hd W (hF.1.trans hW)⟩;have hk:=hT.room;rcases hk with ⟨h0,_⟩|⟨r',h1,h2,_⟩
 ·rw[h0] at hr;cases hr
 ·rw[h1] at hr;cases hr;exact⟨h2.1,fun e=>h2.2 (hm _ e)⟩
theorem Gm.Fr.less {b:Nat}{ms ns:List Nat}{w w':World}(h:Gm.Fr ⟨b,ns⟩ w w')(hm:∀j∈ms,j∈ns):Gm.Fr ⟨b,ms⟩ w w':=⟨h.1,fun j hj hl=>h.2 j (hm j hj) hl⟩
theorem zog (w:World)(B:Gm.Bs)(g:Nat)(ao:Option Addr)(cur A Z:List Int)(h:Gm.Tx B g ao cur A Z w)(k:Nat)(hk:k<=A.length) :
  Calls prog 197 #[.pointer (some ⟨g,0,none⟩),.int .i64 k] w fun e w'=>e=.returned (.int .i64 0)/\Gm.Told B g w (A.take k) (A.drop k++Z) w':=by
 by_cases hlt:k<A.length
 ·obtain⟨r,rfl⟩:=h.room.some (by have:=h.fit;omega);exact ziz w B g r cur A Z h k hlt
 ·obtain rfl:k=A.length:=by omega
  have:=ziy w B g ao cur A Z h;rw[List.take_length,List.drop_length,List.nil_append];exact this
theorem zh5 (b:Nat)(ms:List Nat)(mb:Nat)(wb w:World)(g:Nat)(vr vh:Value)(l:List K.Rule)(c:List Int)(A Z:List Int)(M:Gm.Mx b ms mb wb w g vr vh l c A Z)(v:Value)(r:K.Rule)(hr:K.RuIs wb v r)(hE:K.ruleE r=0)(hs:r.source.length<=Z.length) :
  Calls prog 204 #[.pointer (some ⟨mb,0,none⟩),v] w fun e w'=>∃x:Int,e=.returned (.int .i64 x) /\
   ((4000<A.length+(K.restOf r Z).length/\x=4/\Below b w w')∨(¬ 4000<A.length+(K.restOf r Z).length/\x=0/\Gm.Mx b ms mb wb w' g vr vh l c (A++(K.restOf r Z).take r.cursor.toNat) ((K.restOf r Z).drop r.cursor.toNat)/\Gm.Fr ⟨b,ms⟩ w w')):=by
 have hmb:=M.lt;obtain⟨z1,z2,z3,z4,z5,z6,z7,z8⟩:=K.zas hE;obtain⟨bo,bc,so,sc,ao2,ac,tt,tc,rfl,R1,R2,R3,R4,hl4,hcu⟩:=hr;obtain⟨X,hX⟩:=qE (w.alloc (.cells #[.bool r.start,.bool r.fin,.slice bo r.before.length bc,.slice so r.source.length sc,.slice ao2 r.after.length ac,.slice tt r.target.length tc,.int .i64 r.cursor] 79));have hXw:Bl w X:=by rw[hX];exact(qR w).alloc qN _
 have hXs:X.heap.size=w.heap.size+1:=by rw[hX];simp
 have hXr:X.heap[w.heap.size]?=some (.cells #[.bool r.start,.bool r.fin,.slice bo r.before.length bc,.slice so r.source.length sc,.slice ao2 r.after.length ac,.slice tt r.target.length tc,.int .i64 r.cursor] 79):=by
  rw[hX];show (w.heap.push _)[w.heap.size]?=_;exact Array.getElem?_push_size
 have MX:=M.below hXw;obtain⟨ao0,cur0,hT0⟩:=M.tx;have hgs:=hT0.box.lt;have hbw:b<=w.heap.size:=hT0.size
 have hT1:Gm.Tx ⟨b,w.heap.size::ms⟩ g ao0 cur0 A Z X:=(hT0.kept fun k hk=>hXw.block k hk).re ⟨hT0.hB.1,fun e=>by
   rcases List.mem_cons.1 e with e|e
   ·omega
   ·exact hT0.hB.2 e⟩ fun q hq=>by
  have h1:=hT0.room.lt q hq;refine⟨h1.1.1,fun e=> ?_⟩;rcases List.mem_cons.1 e with e|e
  ·omega
  ·exact h1.1.2 e
 have HKp:Hid (∀W,Gm.Fr ⟨b,w.heap.size::ms⟩ X W->W.cell? ⟨mb,0,none⟩=some (.pointer (some ⟨g,0,none⟩))/\W.cell? ⟨w.heap.size,3,none⟩=some (.slice so r.source.length sc)/\W.cell? ⟨w.heap.size,5,none⟩=some (.slice tt r.target.length tc)/\W.cell? ⟨w.heap.size,6,none⟩=some (.int .i64 r.cursor)):=fun W hW=>by
  have b1:W.heap[mb]?=_:=(hW.2 mb (List.mem_cons_of_mem _ MX.mem) MX.lt).trans MX.box;have b2:W.heap[w.heap.size]?=_:=(hW.2 w.heap.size (by simp) (by omega)).trans hXr;exact⟨K.zad (i:=0) b1 rfl,K.zad (i:=3) b2 rfl,K.zad (i:=5) b2 rfl,K.zad (i:=6) b2 rfl⟩
 have HCur:=qH<|zc8 X g A.length _ _ hT1.box
 have HDel:Hid (∀W,W=X.drew->Calls prog 216 #[.pointer (some ⟨g,0,none⟩),.int .i64 r.source.length] W fun e w'=>e=.returned (.int .i64 0)/\(∃ao cur,Gm.Tx ⟨b,w.heap.size::ms⟩ g ao cur A (Z.drop r.source.length) w')/\Gm.Fr ⟨b,w.heap.size::ms⟩ X w'):=fun W hW=>by
  subst hW;exact(zvf X.drew _ g ao0 cur0 A Z (hT1.drew 1) r.source.length hs).mono fun e w' ⟨h1,h2⟩=>⟨h1,h2.1,(Gm.Fr.refl _ X).drew.trans h2.2⟩
 have hZl:(Z.drop r.source.length).length=Z.length-r.source.length:=List.length_drop;have hro:(K.restOf r Z).length=r.target.length+(Z.length-r.source.length):=by unfold K.restOf;rw[List.length_append,hZl]
 have HV:Hid (∀W,Gm.Fr ⟨b,w.heap.size::ms⟩ X W->L.Rd W (.slice tt r.target.length tc) .i32 r.target):=fun W hW=>by
  have h1:=MX.bel.trans (hW.1.mono M.base);exact R4.below h1 qN
 have HSz:Hid (∀W,Gm.Fr ⟨b,w.heap.size::ms⟩ X W->∀j∈w.heap.size::ms,j<W.heap.size):=fun W hW j hj=>by
  have:=hW.size;rcases List.mem_cons.1 hj with hj|hj
  ·omega
  ·have:=MX.old j hj;omega
 have HMx:Hid (∀W A' Z',(∃ao cur,Gm.Tx ⟨b,w.heap.size::ms⟩ g ao cur A' Z' W)->Gm.Fr ⟨b,w.heap.size::ms⟩ X W->Gm.Mx b ms mb wb W g vr vh l c A' Z'/\Gm.Fr ⟨b,ms⟩ w W):=fun W A' Z' h1 h2=>⟨MX.told (ns:=w.heap.size::ms) (fun j hj=>List.mem_cons_of_mem _ hj) ⟨h1,h2⟩,(Gm.Fr.of_below hXw hbw).trans (h2.less fun j hj=>List.mem_cons_of_mem _ hj)⟩
 have HBl:Hid (∀W,Gm.Fr ⟨b,w.heap.size::ms⟩ X W->Below b w W):=fun W hW=>(hXw.mono hbw).trans hW.1
 have HXX:=qH hX;have HT4:=qH hT0.few;clear hXr MX hT0 hT1 hgs R1 R2 R3 R4 hX hXw M z1 z2 z3 z6 hE;obtain⟨st,fi,be,sou,af,ta,cu⟩:=r;simp only at z4 z5 z7 z8 HKp HDel hro HV HXX hs hl4 hcu hZl;obtain⟨n,rfl⟩:∃n:Nat,cu=n:=⟨cu.toNat,by omega⟩;obtain⟨Rs,hRs⟩:=qE (K.restOf ⟨st,fi,be,sou,af,ta,(n:Int)⟩ Z);have HRs:Hid (Rs=ta++Z.drop sou.length):=by show _=_;rw[hRs];rfl
 rw[<- hRs] at hro ⊢;simp only[Int.toNat_natCast];clear hRs;obtain⟨k0,k3,k5,k6⟩:=HKp.out X (Gm.Fr.refl _ _)
 go_enter func204,ntmps204
 have m0:=k0;rw[HXX.out] at m0
 go_wp2_with fail
 rw[<- HXX.out];refine HCur.out.mono ?_;rintro e w1 ⟨rfl,rfl⟩;clear m0 HCur
 go_upto_region 2 with fail
 go_cut [6] (fun v6 wx=>v6=.int .i64 0/\Hid ((∃ao cur,Gm.Tx ⟨b,w.heap.size::ms⟩ g ao cur A (Z.drop sou.length) wx)/\Gm.Fr ⟨b,w.heap.size::ms⟩ w1 wx))
 case first =>
  go_region_with (go_at_call 216;refine(HDel.out _ rfl).mono ?_;rintro e w2 ⟨rfl,s2⟩)
  all_goals go_wp2
  all_goals go_meet
  all_goals exact⟨rfl,s2⟩
 case rest =>
  obtain⟨rfl,HS⟩:=hcut;obtain⟨c0,c3,c5,c6⟩:=HKp.out wc HS.out.2;clear HDel k0 k3 k5 k6
  by_cases hbig:4000<A.length+Rs.length
  ·have HPut:Hid (∀W,W=wc.drew->Calls prog 196 #[.pointer (some ⟨g,0,none⟩),.slice tt ta.length tc] W fun e w'=>e=.returned (.int .i64 4)/\Below b w w'):=fun W hW=>by
    subst hW;obtain⟨⟨ao,cur,hT⟩,hF⟩:=HS.out;refine(zt4 wc.drew _ g ao cur A (Z.drop sou.length) (hT.drew 1) tt ta.length tc (by unfold maxLen;omega) (by rw[hZl];omega)).mono ?_;rintro e w' ⟨h1,h2⟩;exact⟨h1,HBl.out w' (hF.drew.trans h2.2)⟩
   clear HS
   go_upto_region 5 with fail
   go_cut [7] (fun v7 wx=>v7=.int .i64 4/\Hid (Below b w wx))
   case first =>
    go_region_with (go_at_call 196;refine(HPut.out _ rfl).mono ?_;rintro e w2 ⟨rfl,s2⟩)
    all_goals go_wp2
    all_goals go_meet
    all_goals exact⟨rfl,s2⟩
   case rest =>
    obtain⟨rfl,HE⟩:=hcut;go_wp2;go_ret;exact⟨4,rfl,.inl ⟨hbig,rfl,HE.out⟩⟩
  ·have HPut:Hid (∀W,W=wc.drew->Calls prog 196 #[.pointer (some ⟨g,0,none⟩),.slice tt ta.length tc] W fun e w'=>e=.returned (.int .i64 0)/\(∃ao cur,Gm.Tx ⟨b,w.heap.size::ms⟩ g ao cur (A++ta) (Z.drop sou.length) w')/\Gm.Fr ⟨b,w.heap.size::ms⟩ w1 w'):=fun W hW=>by
    subst hW;obtain⟨⟨ao,cur,hT⟩,hF⟩:=HS.out;refine(ztg wc.drew _ g ao cur A (Z.drop sou.length) (hT.drew 1) _ ta (fun w' hw'=>HV.out w' (hF.drew.trans hw')) (by rw[hZl];omega) (HSz.out wc hF)).mono ?_;rintro e w' ⟨h1,h2⟩;exact⟨h1,h2.1,hF.drew.trans h2.2⟩
   clear HS
   go_upto_region 5 with fail
   go_cut [7] (fun v7 wx=>v7=.int .i64 0/\Hid ((∃ao cur,Gm.Tx ⟨b,w.heap.size::ms⟩ g ao cur (A++ta) (Z.drop sou.length) wx)/\Gm.Fr ⟨b,w.heap.size::ms⟩ w1 wx))
   case first =>
    go_region_with (go_at_call 196;refine(HPut.out _ rfl).mono ?_;rintro e w2 ⟨rfl,s2⟩)
    all_goals go_wp2
    all_goals go_meet
    all_goals exact⟨rfl,s2⟩
   case rest =>
    obtain⟨rfl,HS⟩:=hcut;clear c0 c3 c5 c6 HPut;obtain⟨c0,c3,c5,c6⟩:=HKp.out wc HS.out.2;obtain⟨p,hp⟩:∃p:Nat,p=A.length+n:=⟨_,rfl⟩;have hpi:(A.length:Int)+n=p:=by omega
    have HMv:Hid (∀W,W=wc.drew->Calls prog 197 #[.pointer (some ⟨g,0,none⟩),.int .i64 (IntKind.i64.wrap ((A.length:Int)+(n:Int)))] W fun e w'=>e=.returned (.int .i64 0)/\Gm.Mx b ms mb wb w' g vr vh l c (A++Rs.take n) (Rs.drop n)/\Gm.Fr ⟨b,ms⟩ w w'):=fun W hW=>by
     subst hW;rw[show IntKind.i64.wrap ((A.length:Int)+(n:Int))=(p:Int) by rw[IntKind.wrap_i64];omega];obtain⟨⟨ao,cur,hT⟩,hF⟩:=HS.out;refine(zog wc.drew _ g ao cur (A++ta) (Z.drop sou.length) (hT.drew 1) p (by rw[List.length_append];omega)).mono ?_;rintro e w' ⟨h1,h2⟩;have e1:(A++ta).take p=A++Rs.take n:=by rw[hp,HRs.out,List.take_append,List.take_append_of_le_length (by omega),List.take_of_length_le (by omega),show A.length+n-A.length=n by omega]
     have e2:(A++ta).drop p++Z.drop sou.length=Rs.drop n:=by rw[hp,HRs.out,List.drop_append,List.drop_of_length_le (by omega),List.nil_append,show A.length+n-A.length=n by omega,List.drop_append_of_le_length (by omega)]
     rw[e1,e2] at h2;exact⟨h1,HMx.out w' _ _ h2.1 (hF.drew.trans h2.2)⟩
    have hA4:A.length<=4000:=by have:=HT4.out;omega
    have hn4:n<=20:=by omega
    clear HS hp hpi
    go_upto_region 8 with fail
    go_cut [4] (fun v4 wx=>v4=.int .i64 0/\Hid (Gm.Mx b ms mb wb wx g vr vh l c (A++Rs.take n) (Rs.drop n)/\Gm.Fr ⟨b,ms⟩ w wx))
    case first =>
     go_region_with (go_at_call 197;refine(HMv.out _ rfl).mono ?_;rintro e w2 ⟨rfl,s2⟩)
     all_goals go_wp2
     all_goals go_meet
     all_goals exact⟨rfl,s2⟩
    case rest =>
     obtain⟨rfl,HE⟩:=hcut;go_wp2;go_ret;exact⟨0,rfl,.inr ⟨hbig,rfl,HE.out⟩⟩
theorem Gm.right1 (w:World)(B:Gm.Bs)(g:Nat)(ao:Option Addr)(cur A Z:List Int)(h:Gm.Tx B g ao cur A Z w)(hz:0<Z.length) :
  Calls prog 197 #[.pointer (some ⟨g,0,none⟩),.int .i64 ((A.length+1:Nat):Int)] w fun e w'=>e=.returned (.int .i64 0)/\Gm.Told B g w (A++Z.take 1) (Z.drop 1) w':=by
 obtain⟨r,rfl⟩:=h.room.some (by have:=h.fit;omega);exact zgy w B g r cur A Z h (A.length+1) 1 rfl (by omega) (by omega)
theorem zrd (b:Nat)(ms:List Nat)(mb:Nat)(wb w:World)(g:Nat)(vr vh:Value)(l:List K.Rule)(c:List Int)(A Z:List Int)(M:Gm.Mx b ms mb wb w g vr vh l c A Z)(hz:0<Z.length) :
  Calls prog 179 #[.pointer (some ⟨mb,0,none⟩),.int .i64 (-1)] w fun e w'=>e=.returned (.int .i64 0)/\Gm.Mx b ms mb wb w' g vr vh l c (A++Z.take 1) (Z.drop 1)/\Gm.Fr ⟨b,ms⟩ w w':=by
 obtain⟨ao,cur,hT⟩:=M.tx;have hf:=hT.few;have k0:w.cell? ⟨mb,0,none⟩=some (.pointer (some ⟨g,0,none⟩)):=K.zad (i:=0) M.box rfl
 have HCur:Hid (∀W,W=w.drew->Calls prog 177 #[.pointer (some ⟨g,0,none⟩)] W fun e w'=>e=.returned (.int .i64 A.length)/\w'=W):=fun W hW=>by
  subst hW;exact zc8 w.drew g A.length _ _ (hT.drew 1).box
 have HMv:Hid (∀W,W=w.drew->Calls prog 197 #[.pointer (some ⟨g,0,none⟩),.int .i64 (IntKind.i64.wrap ((A.length:Int)+1))] W fun e w'=>e=.returned (.int .i64 0)/\Gm.Mx b ms mb wb w' g vr vh l c (A++Z.take 1) (Z.drop 1)/\Gm.Fr ⟨b,ms⟩ w w'):=fun W hW=>by
  subst hW;rw[show IntKind.i64.wrap ((A.length:Int)+1)=((A.length+1:Nat):Int) by rw[IntKind.wrap_i64];omega];refine(Gm.right1 w.drew _ g ao cur A Z (hT.drew 1) hz).mono ?_;rintro e w' ⟨h1,h2⟩;exact⟨h1,M.told (ns:=ms) (fun j hj=>hj) ⟨h2.1,(Gm.Fr.refl _ w).drew.trans h2.2⟩,(Gm.Fr.refl _ w).drew.trans h2.2⟩
 clear hT M
 go_enter func179,ntmps179
 go_wp2_with fail
 go_region_with (first
  | (go_at_call 177;refine(HCur.out _ rfl).mono ?_;rintro e w1 ⟨rfl,rfl⟩)
  | (go_at_call 197;refine(HMv.out _ rfl).mono ?_;rintro e w2 ⟨rfl,s2⟩))
 all_goals go_wp2
 all_goals go_ret
 all_goals exact⟨rfl,s2⟩
theorem zod (b:Nat)(ms:List Nat)(mb:Nat)(wb w:World)(g:Nat)(vr vh:Value)(l:List K.Rule)(c:List Int)(A Z:List Int)(M:Gm.Mx b ms mb wb w g vr vh l c A Z)(k:Nat)(r:K.Rule)(hk:l[k]?=some r)(hE:K.ruleE r=0)(hm:K.matchB r (A++Z) A.length=true) :
  Calls prog 179 #[.pointer (some ⟨mb,0,none⟩),.int .i64 k] w fun e w'=>∃x:Int,e=.returned (.int .i64 x) /\
   ((4000<A.length+(K.restOf r Z).length/\x=4/\Below b w w')∨(¬ 4000<A.length+(K.restOf r Z).length/\x=0/\Gm.Mx b ms mb wb w' g vr vh l c (A++(K.restOf r Z).take r.cursor.toNat) ((K.restOf r Z).drop r.cursor.toNat)/\Gm.Fr ⟨b,ms⟩ w w')):=by
 have hs:r.source.length<=Z.length:=by
  refine Nat.le_of_not_lt fun h=> ?_
  have:=K.zl0 (r:=r) (t:=A++Z) (at_:=A.length) (K.zas hE).2.2.2.1 (.inr (.inl (by rw[List.length_append];omega)));rw[this] at hm;cases hm
 have hwb:=M.bel;have hkl:=(qL.1 hk).1;have hlf:=M.rus.few;have hRus:=M.rus;obtain⟨ao,cap,rfl⟩:=M.rus.len;obtain⟨ba,oa,bo,bc,so,sc,ao2,ac,tt,tc,rfl,a0,a1,a2,a3,a4,a5,a6,hP⟩:=K.Rus.rule hRus hk;have lift:∀b o x,wb.cell? ⟨b,o,none⟩=some x->w.cell? ⟨b,o,none⟩=some x:=fun b o x h=>by rw[(L.bcell hwb).1 b o (L.block_lt h)];exact h
 replace a0:=lift _ _ _ a0
 replace a1:=lift _ _ _ a1
 replace a2:=lift _ _ _ a2
 replace a3:=lift _ _ _ a3
 replace a4:=lift _ _ _ a4
 replace a5:=lift _ _ _ a5
 replace a6:=lift _ _ _ a6
 have k1:w.cell? ⟨mb,1,none⟩=some (.slice (some ⟨ba,oa,none⟩) l.length cap):=K.zad (i:=1) M.box rfl;have HRp:=zh5 b ms mb wb w g _ vh l c A Z M _ r hP hE hs
 have HRP:Hid (Calls prog 204 #[.pointer (some ⟨mb,0,none⟩),.agg #[.bool r.start,.bool r.fin,.slice bo r.before.length bc,.slice so r.source.length sc,.slice ao2 r.after.length ac,.slice tt r.target.length tc,.int .i64 r.cursor]] w fun e w'=>∃x:Int,e=.returned (.int .i64 x) /\
   ((4000<A.length+(K.restOf r Z).length/\x=4/\Below b w w')∨(¬ 4000<A.length+(K.restOf r Z).length/\x=0/\Gm.Mx b ms mb wb w' g (.slice (some ⟨ba,oa,none⟩) l.length cap) vh l c (A++(K.restOf r Z).take r.cursor.toNat) ((K.restOf r Z).drop r.cursor.toNat)/\Gm.Fr ⟨b,ms⟩ w w'))):=HRp
 clear HRp hP lift hRus hwb hk hE hm hs M;obtain⟨st,fi,be,sou,af,ta,cu⟩:=r;simp only at a0 a1 a2 a3 a4 a5 a6 HRP
 go_enter func179,ntmps179
 go_wp2_with fail
 go_at_call 204
 refine HRP.out.mono ?_;rintro e w1 ⟨x,rfl,h1⟩;have H1:Hid _:=h1;clear h1;go_wp2;go_ret;exact⟨x,rfl,H1.out⟩
