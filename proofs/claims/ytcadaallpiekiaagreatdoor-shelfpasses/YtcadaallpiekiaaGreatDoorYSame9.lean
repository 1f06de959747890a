import Derived.Test.YtcadaallpiekiaaGreatDoorMRefM
set_option maxHeartbeats 0
set_option maxRecDepth 20000
set_option linter.unusedSimpArgs false
set_option linter.unusedVariables false
namespace Go.Proofs.YtcadaallpiekiaaGreatDoor
open Go.Proofs.Tryz
namespace S
def lowF:List Int->Int->Nat
 | [],_=>0
 | x::zs,r=>if x<r then lowF zs r+1 else 0
def insF (zs:List Int) (r:Int):List Int:=if 1114111<r∨zs[lowF zs r]?=some r then zs else zs.take (lowF zs r)++ [r]++zs.drop (lowF zs r)
theorem zd4 (zs:List Int)(r:Int):lowF zs r<=zs.length/\(∀i z,i<lowF zs r->zs[i]?=some z->z<r)/\(∀z,zs[lowF zs r]?=some z->r<=z):=by
 induction zs with
 | nil=>exact⟨by simp[lowF],fun i z h=>by simp[lowF] at h,fun z h=>by simp at h⟩
 | cons x zs ih =>
  by_cases hx:x<r
  ·simp only[lowF,hx,if_true];refine⟨by simp;exact ih.1,fun i z hi hz=> ?_,fun z hz=>ih.2.2 z (by simpa using hz)⟩;cases i with
   | zero=>simp at hz;omega
   | succ i=>exact ih.2.1 i z (by omega) (by simpa using hz)
  ·simp only[lowF,hx,if_false];exact⟨by omega,fun i z h=>by omega,fun z hz=>by simp at hz;omega⟩
theorem zp2 (zs:List Int)(r:Int):lowF zs r<=zs.length:=(zd4 zs r).1
theorem zc0 {zs:List Int}{r:Int}{k:Nat}(h1:∀i z,i<k->zs[i]?=some z->z<r)(hk:k<=zs.length)(h2:∀z,zs[k]?=some z->¬z<r):lowF zs r=k:=by
 obtain⟨a,b,c⟩:=zd4 zs r;rcases Nat.lt_trichotomy (lowF zs r) k with h|h|h
 ·obtain⟨z,hz⟩:∃z,zs[lowF zs r]?=some z:=⟨zs[lowF zs r]'(by omega),by simp[show lowF zs r<zs.length by omega]⟩;have:=h1 _ z h hz;have:=c z hz;omega
 ·exact h
 ·obtain⟨z,hz⟩:∃z,zs[k]?=some z:=⟨zs[k]'(by omega),by simp[show k<zs.length by omega]⟩;exact absurd (b k z h hz) (h2 z hz)
theorem zqa {zs:List Int}{r:Int}(hs:zs.Pairwise (· < ·)):(insF zs r).Pairwise (· < ·)/\(∀q,q∈insF zs r↔q∈zs∨(q=r/\r<=1114111))/\(insF zs r).length<=zs.length+1:=by
 have hlow:∀z∈zs.take (lowF zs r),z<r:=by
  intro z hz;obtain⟨i,hi⟩:=List.getElem?_of_mem hz;rw[List.getElem?_take] at hi;split at hi
  ·exact(zd4 zs r).2.1 i z (by assumption) hi
  ·cases hi
 have hhigh:=(zd4 zs r).2.2
 have hdrop:∀z∈zs.drop (lowF zs r),r<=z/\(z=r->zs[lowF zs r]?=some r):=by
  intro z hz;obtain⟨i,hi⟩:=List.getElem?_of_mem hz;rw[List.getElem?_drop] at hi
  obtain⟨y,hy⟩:∃y,zs[lowF zs r]?=some y:=by
   have:=(qL.1 hi).1;exact⟨zs[lowF zs r]'(by omega),by simp[show lowF zs r<zs.length by omega]⟩
  have hy2:=hhigh y hy
  by_cases e:i=0
  ·subst e;rw[Nat.add_zero,hy] at hi;cases hi;exact⟨hy2,fun h=>by rw[hy,h]⟩
  ·have h1:=(qL.1 hi).1;have h2:=(qL.1 hy).1;have:=(List.pairwise_iff_getElem.1 hs) (lowF zs r) (lowF zs r+i) h2 h1 (by omega);rw[List.getElem?_eq_getElem h1] at hi;rw[List.getElem?_eq_getElem h2] at hy;cases hi;cases hy;exact⟨by omega,fun h=>by omega⟩
 unfold insF
 by_cases hc:1114111<r∨zs[lowF zs r]?=some r
 ·rw[if_pos hc];refine⟨hs,fun q=>⟨Or.inl,fun h=> ?_⟩,by omega⟩;rcases h with h|⟨rfl,h⟩
  ·exact h
  ·rcases hc with hc|hc
   ·omega
   ·exact List.mem_of_getElem? hc
 ·rw[if_neg hc]
  have hne:∀z∈zs.drop (lowF zs r),r<z:=fun z hz=>by
   have h1:=hdrop z hz;rcases Int.lt_trichotomy r z with h|h|h
   ·exact h
   ·exact absurd (.inr (h1.2 h.symm)) hc
   ·omega
  refine⟨?_,fun q=> ?_,by simp[List.length_take,List.length_drop];have:=zp2 zs r;omega⟩
  ·rw[List.append_assoc,List.pairwise_append];refine⟨hs.sublist (List.take_sublist _ _),?_,?_⟩
   ·rw[List.singleton_append,List.pairwise_cons];exact⟨hne,hs.sublist (List.drop_sublist _ _)⟩
   ·intro x hx y hy;have:=hlow x hx;rw[List.singleton_append,List.mem_cons] at hy;rcases hy with rfl|hy
    ·exact this
    ·have:=hne y hy;omega
  ·rw[List.mem_append,List.mem_append,List.mem_singleton]
   have e:q∈zs↔q∈zs.take (lowF zs r)∨q∈zs.drop (lowF zs r):=by
    conv=>lhs;rw[<- List.take_append_drop (lowF zs r) zs]
    exact List.mem_append
   rw[e];have:r<=1114111:=by omega
   constructor
   ·rintro ((h|h)|h)
    ·exact .inl (.inl h)
    ·exact .inr ⟨h,this⟩
    ·exact .inl (.inr h)
   ·rintro ((h|h)|h)
    ·exact .inl (.inl h)
    ·exact .inr h
    ·exact .inl (.inr h.1)
end S
namespace S
def edgesOf (l:List Sp):List Int:=l.flatMap fun x=> [x.1,x.2+1]
def edgesF (ls:List (List Sp)):List Int:=(ls.flatMap edgesOf).foldl insF [0]
theorem zfw (D:List Int):∀zs:List Int,zs.Pairwise (· < ·)->(D.foldl insF zs).Pairwise (· < ·)/\(∀q,q∈D.foldl insF zs↔q∈zs∨(q∈D/\q<=1114111))/\(D.foldl insF zs).length<=zs.length+D.length:=by
 induction D with
 | nil=>intro zs h;exact⟨h,fun q=>by simp,by simp⟩
 | cons d D ih =>
  intro zs h;obtain⟨h1,h2,h3⟩:=zqa (r:=d) h;obtain⟨i1,i2,i3⟩:=ih _ h1;refine⟨i1,fun q=> ?_,by simp only[List.foldl_cons,List.length_cons];omega⟩;rw[List.foldl_cons,i2,h2,List.mem_cons];constructor
  ·rintro ((h|⟨rfl,h⟩)|⟨h,h'⟩)
   ·exact .inl h
   ·exact .inr ⟨.inl rfl,h⟩
   ·exact .inr ⟨.inr h,h'⟩
  ·rintro (h|⟨rfl|h,h'⟩)
   ·exact .inl (.inl h)
   ·exact .inl (.inr ⟨rfl,h'⟩)
   ·exact .inr ⟨h,h'⟩
theorem zk7 {ls:List (List Sp)}(hb:∀l∈ls,l.any bad=false):(edgesF ls).Pairwise (· < ·)/\(edgesF ls)[0]?=some 0/\(∀q,q∈edgesF ls↔q=0∨(q<=1114111/\∃l∈ls,∃x∈l,q=x.1∨q=x.2+1))/\(edgesF ls).length<=1+(ls.flatMap edgesOf).length:=by
 obtain⟨h1,h2,h3⟩:=zfw (ls.flatMap edgesOf) [0] (by simp)
 have hm:∀q,q∈edgesF ls↔q=0∨(q<=1114111/\∃l∈ls,∃x∈l,q=x.1∨q=x.2+1):=by
  intro q;unfold edgesF;rw[h2];simp only[List.mem_flatMap,edgesOf,List.mem_cons,List.not_mem_nil,or_false];constructor
  ·rintro (h|⟨⟨l,hl,x,hx,h⟩,h'⟩)
   ·exact .inl h
   ·exact .inr ⟨h',l,hl,x,hx,h⟩
  ·rintro (h|⟨h',l,hl,x,hx,h⟩)
   ·exact .inl h
   ·exact .inr ⟨⟨l,hl,x,hx,h⟩,h'⟩
 refine⟨h1,?_,hm,by simpa [edgesF] using h3⟩;have h0:=(hm 0).2 (.inl rfl);cases he:edgesF ls with
 | nil=>rw[he] at h0;simp at h0
 | cons z zs =>
  have hz:z∈edgesF ls:=by rw[he];simp
  have hz0:0<=z:=by
   rcases (hm z).1 hz with h|⟨_,l,hl,x,hx,h⟩
   ·omega
   ·have:=bad_false.1 (by simpa using (List.any_eq_false.1 (hb l hl)) x hx);omega
  rw[he] at h0;rcases List.mem_cons.1 h0 with h|h
  ·simp[h]
  ·have hp:(z::zs).Pairwise (· < ·):=by rw[<- he];exact h1
   have:=(List.pairwise_cons.1 hp).1 0 h;omega
end S
section
open Go.RowKit
namespace S
theorem zgo:∀(zs:List Int) (a b:Int),zs.Pairwise (· < ·)->(∀z∈zs,a<=z/\z<=b)->a<=b+1->(zs.length:Int)<=b-a+1
 | [],a,b,_,_,h=>by simp;omega
 | z::zs,a,b,hp,hb,h=>by
  have h1:=hb z List.mem_cons_self;have h2:=zgo zs (z+1) b (List.pairwise_cons.1 hp).2 (fun y hy=>⟨by have:=(List.pairwise_cons.1 hp).1 y hy;omega,(hb y (List.mem_cons_of_mem _ hy)).2⟩) (by omega);simp only[List.length_cons];omega
theorem zl4 (D:List Int)(h:∀d∈D,0<=d):(D.foldl insF [0]).length<=1114112:=by
 obtain⟨h1,h2,_⟩:=zfw D [0] (by simp)
 have:=zgo _ 0 1114111 h1 (fun z hz=>by
  rcases (h2 z).1 hz with hz|hz
  ·simp at hz;omega
  ·exact⟨h z hz.1,hz.2⟩) (by omega)
 omega
theorem zf1 {l:List Sp}(hb:l.any bad=false):∀d∈edgesOf l,0<=d:=fun d hd=>by
 simp only[edgesOf,List.mem_flatMap,List.mem_cons,List.not_mem_nil,or_false] at hd;obtain⟨x,hx,hd⟩:=hd;have:=bad_false.1 (by simpa using (List.any_eq_false.1 hb) x hx);omega
theorem zny {ls:List (List Sp)}(hb:∀l∈ls,l.any bad=false):(edgesF ls).length<=1114112:=by
 refine zl4 _ fun d hd=> ?_
 obtain⟨l,hl,hd⟩:=List.mem_flatMap.1 hd;exact zf1 (hb l hl) d hd
end S
end
section
open Go.RowKit Go.Shelf
namespace J
theorem zuu {l:List K.Rule}(hE:∀r∈l,K.ruleE r=0):Cuts l (S.edgesF (l.map K.headS)++ [1114112])/\(S.edgesF (l.map K.headS))[0]?=some 0:=by
 have hb:∀s∈l.map K.headS,s.any S.bad=false:=fun s hs=>by
  obtain⟨r,hr,rfl⟩:=List.mem_map.1 hs;rw[List.any_eq_false];intro x hx;have:=S.bad_false.2 ((K.zcb (hE r hr)).1.mem hx);simp[this]
 obtain⟨h1,h2,h3,_⟩:=S.zk7 hb
 have hle:∀q∈S.edgesF (l.map K.headS),q<=1114111:=fun q hq=>by
  rcases (h3 q).1 hq with rfl|⟨h,_⟩
  ·omega
  ·exact h
 refine⟨⟨?_,fun y=> ?_⟩,h2⟩
 ·rw[List.pairwise_append];refine⟨h1,by simp,fun x hx z hz=> ?_⟩;simp at hz;have:=hle x hx;omega
 ·rw[List.mem_append,h3,List.mem_singleton];unfold edgesL;rw[List.mem_append,List.mem_flatMap];simp only[List.mem_cons,List.not_mem_nil,or_false,ze2];constructor
  ·rintro ((rfl|⟨_,s,hs,x,hx,h⟩)|rfl)
   ·exact .inl (.inl rfl)
   ·obtain⟨r,hr,rfl⟩:=List.mem_map.1 hs;exact .inr ⟨r,hr,x,hx,h⟩
   ·exact .inl (.inr rfl)
  ·rintro ((rfl|rfl)|⟨r,hr,x,hx,h⟩)
   ·exact .inl (.inl rfl)
   ·exact .inr rfl
   ·have:=(K.zcb (hE r hr)).1.mem hx
    by_cases hy:y<=1114111
    ·exact .inl (.inr ⟨hy,_,List.mem_map.2 ⟨r,hr,rfl⟩,x,hx,h⟩)
    ·exact .inr (by omega)
def part (f:Int->List Int) (c:List Int):Nat->List Hd
 | 0=> []
 | m+1=>heads f c m++ [(c.getD m 0,1114111,f (c.getD m 0))]
theorem zsa (f:Int->List Int)(c:List Int)(k:Nat):(part f c k).length=k:=by
 cases k with
 | zero=>rfl
 | succ m=>rw[part,List.length_append,zbk];rfl
theorem zsb {l:List K.Rule}{c:List Int}(h:Cuts l c)(hE:∀r∈l,K.ruleE r=0)(f:Int->List Int):part f c (c.length-1)=heads f c (c.length-1):=by
 have h2:=h.two;have h3:=h.last hE;obtain⟨m,hm⟩:∃m,c.length-1=m+1:=⟨c.length-2,by omega⟩;rw[hm] at h3 ⊢;rw[part,zeq,headAt,h3];rfl
theorem zrr {F:Nat}{w:World}{X cap n:Nat}{xs:List Value}{e:TypeId}{size:Nat}(h:w.ownsRow F e size (.slice (some ⟨X,0,none⟩) n cap) n xs)(j:Nat)(hj:j<n*size)(u:Value) :
  (w.setCell ⟨X,j,none⟩ u).ownsRow F e size (.slice (some ⟨X,0,none⟩) n cap) n (xs.set j u)/\w.grownBy (w.setCell ⟨X,j,none⟩ u) (some X):=by
 obtain⟨h1,⟨h0,_⟩|⟨g,k,cur,h0,hb,hx,hn,hm,hs,ht⟩⟩:=h
 ·cases h0
 cases h0;refine⟨⟨by simp[h1],.inr ⟨X,cap,cur.setIfInBounds j u,rfl,hb,heap_setCell_same w X j _ _ _ hx,hn,hm,by simp[hs],?_⟩⟩,rfl,rfl,rfl,by simp,fun k hk hne=> ?_⟩
 ·rw[<- ht,Array.toList_setIfInBounds,List.take_set]
 ·exact heap_setCell_other w ⟨X,j,none⟩ k u (fun e=>hne (by rw[e]))
theorem Own.high {F:Nat}{w:World}{v:Value}{hs:List Hd}{a x:Int}{rs:List Int}(h:Own F w v (hs++ [(a,x,rs)])) :
  ∃X cap,v=.slice (some ⟨X,0,none⟩) (hs.length+1) cap/\F<=X/\w.cell? ⟨X,hs.length*3+1,none⟩=some (.int .i32 x)/\w.frozen? ⟨X,hs.length*3+1,none⟩=false /\
   ∀y,Own F (w.setCell ⟨X,hs.length*3+1,none⟩ (.int .i32 y)) v (hs++ [(a,y,rs)])/\∀(r:Value) (n:Nat) (xs:List Value),w.ownsRow F 3 1 r n xs->(w.setCell ⟨X,hs.length*3+1,none⟩ (.int .i32 y)).ownsRow F 3 1 r n xs:=by
 obtain⟨ps,h1,h2,h3⟩:=h;obtain⟨ps0,ps1,rfl,hp0,hp1⟩:=List.map_eq_append_iff.1 h1
 obtain⟨p,rfl,hp⟩:∃p,ps1= [p]/\p.1=(a,x,rs):=by
  match ps1,hp1 with
  | [p],h=>exact⟨p,rfl,by simpa using h⟩
  | [],h=>simp at h
  | _::_::_,h=>simp at h
 obtain⟨⟨a',x',rs'⟩,r⟩:=p;cases hp;have hl0:ps0.length=hs.length:=by rw[<- hp0,List.length_map]
 have hlen:(hs++ [(a,x,rs)]).length=hs.length+1:=by simp
 obtain⟨X,cap,rfl,hF,hx⟩:∃X cap,v=.slice (some ⟨X,0,none⟩) (hs++ [(a,x,rs)]).length cap/\F<=X/\∃cur,w.heap[X]?=some (.cells cur 154 (0,0)):=by
  obtain⟨_,⟨rfl,h0⟩|⟨g,k,cur,rfl,hb,hx,_⟩⟩:=h2
  ·simp at h0
  ·exact⟨g,k,rfl,hb,cur,hx⟩
 obtain⟨cur,hx⟩:=hx;have hj:hs.length*3+1<(hs++ [(a,x,rs)]).length*3:=by rw[hlen];omega
 refine⟨X,cap,by rw[hlen],hF,?_,frozen_of_row w _ _ _ _ hx,fun y=> ?_⟩
 ·rw[h2.cellAt _ hj];have:=(zmb (ps:=ps0++ [((a,x,rs),r)]) (k:=hs.length) (p:=((a,x,rs),r)) (by rw[<- hl0];simp)).2.1;exact this
 ·obtain⟨o1,g1⟩:=zrr h2 (hs.length*3+1) hj (.int .i32 y);refine⟨⟨ps0++ [((a,y,rs),r)],by simp[hp0],?_,fun p hp=> ?_⟩,fun r' n' xs' hq=>hq.kept g1 (L.zc5 h2 hq (by decide))⟩
  ·have e:(cells (ps0++ [((a,x,rs),r)])).set (hs.length*3+1) (.int .i32 y)=cells (ps0++ [((a,y,rs),r)]):=by
    rw[zc1,zc1,List.set_append_right _ _ (by rw[zez,hl0];omega),zez,hl0];rw[show hs.length*3+1-hs.length*3=1 by omega];rfl
   rw[e] at o1;have e2:(hs++ [(a,y,rs)]).length=(hs++ [(a,x,rs)]).length:=by simp
   rw[e2];exact o1
  ·rcases List.mem_append.1 hp with hp|hp
   ·have hq:=h3 p (List.mem_append_left _ hp);exact hq.kept g1 (L.zc5 h2 hq (by decide))
   ·simp at hp;subst hp;have hq:=h3 ((a,x,rs),r) (by simp);exact hq.kept g1 (L.zc5 h2 hq (by decide))
end J
theorem zmz (w:World)(v:Value)(l:List K.Rule)(R0:V.Rus w v l)(hl:l.length<=200)(hE:∀r∈l,K.ruleE r=0)(q:Int) :
  Calls prog 97 #[v,.int .i32 q] w fun e w'=>∃v',e=.returned v'/\w'.ownsRow w.heap.size 3 1 v' (J.begins l q).length ((J.begins l q).map (Value.int .i64))/\Bl w w':=by
 have HR:=qH R0;have HE:=qH hE;obtain⟨i0,hi,hz0,hz1,hz2⟩:=info_parts Tryz.infoIntJ;obtain⟨ao,cap,rfl⟩:=R0.len;obtain⟨P,hP⟩:∃P:K.Rule->Bool,P=fun r=>S.memb (K.headS r) q:=⟨_,rfl⟩
 have HPq:Hid (∀r,P r=S.memb (K.headS r) q):=fun r=>by rw[hP]
 have hbg:J.begins l q=J.which P 0 l:=by rw[hP];rfl
 rw[hbg];clear R0 hE hP hbg
 go_enter func97,ntmps97
 go_wp2_with fail
 go_loopw [5,9] (fun vo i wr=>∃k:Nat,k<=l.length/\i=.int .i64 k/\Hid (wr.ownsRow w.heap.size 3 1 vo (J.which P 0 (l.take k)).length ((J.which P 0 (l.take k)).map (Value.int .i64))/\Bl w wr)) (fun _ i _=>l.length-(RowKit.intOf i).toNat)
 case atStart=>exact⟨0,Nat.zero_le _,rfl,World.ownsRow_nil _ _ _ _,qR _⟩
 case round =>
  obtain⟨k,hk,rfl,HO⟩:=hrel;have hwr:=HO.out.2.size
  by_cases hlt:k<l.length
  ·obtain⟨p,hp⟩:∃x,l[k]?=some x:=⟨l[k],by simp[hlt]⟩;obtain⟨ba,oa,bo,bc,so,sc,ao2,ac,tt,tc,rfl,a0,a1,a2,a3,a4,a5,a6,hP⟩:=K.Rus.rule (HR.out.below HO.out.2) hp;have HT:Hid (J.which P 0 (l.take (k+1))=J.which P 0 (l.take k)++(if P p then [(k:Int)] else [])):=J.zgc hp;have hep:=HE.out p (List.mem_of_getElem? hp);have hsp:=(K.zas hep).2.2.2.1;obtain⟨s,hs⟩:∃s,p.source[0]?=some s:=⟨p.source[0],by simp⟩;have hhd:=K.zfs hs;have hok:=K.zcb hep;rw[hhd] at hok;obtain⟨bo',bc',so',sc',ao',ac',tt',tc',hv,_,hS,_⟩:=hP;have hv2:=Value.agg.inj hv;simp only[Array.mk.injEq,List.cons.injEq,Value.slice.injEq,true_and,and_true] at hv2;obtain⟨⟨rfl,rfl⟩,⟨rfl,rfl⟩,⟨rfl,rfl⟩,rfl,rfl⟩:=hv2;obtain⟨gb,go,s2,c2,rfl,hc0,hr0,_⟩:=hS.at hs;rw[Nat.add_zero] at hc0
   have HC:Hid (Calls prog 67 #[.slice s2 s.length c2,.int .i32 q] wr fun e w'=>e=.returned (.bool (P p))/\(w'.ownsRow w.heap.size 3 1 u5 (J.which P 0 (l.take k)).length ((J.which P 0 (l.take k)).map (Value.int .i64))/\Bl w w')):=by
    show Calls _ _ _ _ _;rw[HPq.out p,hhd];refine(zei wr _ s q hr0 (by omega)).mono fun e w' ⟨h1,h2⟩=>⟨h1,L.zby HO.out.1 h2 qN,HO.out.2.trans (h2.mono hwr)⟩
   have hlen:=J.zcv P (l.take k) 0;rw[List.length_take] at hlen;generalize hZ:P p=z at HT HC;clear hp hZ hv hS hr0 hep hs hhd hok;obtain⟨st,fi,be,sou,af,ta,cu⟩:=p;simp only at a0 a1 a2 a3 a4 a5 a6 hsp;generalize hU:J.which P 0 (l.take k)=U at HT HC hlen;clear hU HO
   go_wp2_with fail
   go_at_call 67
   refine HC.out.mono ?_;rintro e w3 ⟨rfl,own3,b3⟩;have HO3:=qH own3;have HB3:=qH b3;have hw3:=b3.size
   have hblk:Hid (∀g,u5.ownBlock=some g->w.heap.size<=g):=fun g hg=>by
    obtain⟨_,⟨rfl,_⟩|⟨g',cap',cur',rfl,hb',_⟩⟩:=own3
    ·cases hg
    ·cases hg;exact hb'
   clear own3 b3 a0 a1 a2 a3 a4 a5 a6 HC;cases z with
   | false =>
    go_wp2
    go_roundw
    case rel =>
     refine⟨k+1,by omega,by go_num,?_⟩;rw[HT.out,if_neg (by decide),List.append_nil];exact⟨HO3.out,HB3.out⟩
    case measure=>simp[RowKit.intOf];omega
   | true =>
    go_wp2_with (at_builtin;go_must (refine wpList_append_own _ rfl _ _ 88 rfl w.heap.size 3 i0 (.int .i64 0) 1 8 underlying88 hi hz0 hz1 hz2 rfl (by decide) _ _ _ rfl (HO3.out.alloc _) ⟨w3.heap.size,0,none⟩ 1 1 [.int .i64 (k:Int)] rfl rfl (cell_one_new _ _ _) (fun x hx=>by simp at hx;subst hx;rfl) (by unfold maxLen;omega) (by omega) (by simp;omega) ?_;intro v' w4 hown' hgrow4 hnil4))
    have HX4:Hid (w4.ownsRow w.heap.size 3 1 v' (U.length+1) (U.map (Value.int .i64)++ [.int .i64 (k:Int)])/\Bl w w4):=⟨hown',Below.grown (HB3.out.alloc hw3 _) hgrow4 (by simp;omega) (fun j hj=>hblk.out j hj)⟩
    go_roundw
    case rel =>
     refine⟨k+1,by omega,by go_num,?_⟩;rw[HT.out,if_pos trivial,List.length_append,List.map_append];exact HX4.out
    case measure=>simp[RowKit.intOf];omega
  ·have hke:k=l.length:=by omega
   subst hke;rw[List.take_length] at HO;go_wp2;go_ret;exact⟨_,rfl,HO.out⟩
end
section
open Go.RowKit
theorem zhe {a b:List Int}{k:Nat}{x y:Int}(h:a.take k=b.take k)(hx:a[k]?=some x)(hy:b[k]?=some y)(e:x=y):a.take (k+1)=b.take (k+1):=by
 rw[List.take_add_one,List.take_add_one,h,hx,hy,e]
theorem zki (w:World)(va vb:Value)(za zb:List Int)(ha:L.Rd w va .i64 za)(hb:L.Rd w vb .i64 zb)(hla:za.length<=4611686018427387903)(hlb:zb.length<=4611686018427387903) :
  Calls prog 98 #[va,vb] w fun e w'=>e=.returned (.bool (decide (za=zb)))/\∃n,w'=w.drewN n:=by
 obtain⟨ao,ca,rfl,_,ha⟩:=ha;obtain⟨bo,cb,rfl,_,hb⟩:=hb
 by_cases hl:za.length=zb.length
 ·go_enter func98,ntmps98
  go_wp2
  go_loopw [13] (fun i wr=>∃k n:Nat,k<=za.length/\i=.int .i64 k/\za.take k=zb.take k/\wr=w.drewN n) (fun i _=>za.length-(intOf i).toNat)
  case atStart=>exact⟨0,0,Nat.zero_le _,rfl,by simp,rfl⟩
  case round =>
   obtain⟨k,n,hk,rfl,ht,rfl⟩:=hrel
   by_cases hlt:k<za.length
   ·obtain⟨b1,o1,rfl,hc1⟩:=ha (by intro h;subst h;simp at hlt);obtain⟨b2,o2,rfl,hc2⟩:=hb (by intro h;subst h;simp at hl;rw[hl] at hlt;simp at hlt);obtain⟨x,hx⟩:∃x,za[k]?=some x:=⟨za[k],by simp[hlt]⟩;obtain⟨y,hy⟩:∃y,zb[k]?=some y:=⟨zb[k]'(by omega),by simp[show k<zb.length by omega]⟩;have c1:=hc1 k x hx;have c2:=hc2 k y hy;clear hc1 hc2 ha hb;have HX:Hid (za[k]?=some x/\zb[k]?=some y/\za.take k=zb.take k):=⟨hx,hy,ht⟩;clear hx hy ht
    by_cases hxy:x=y
    ·go_wp2
     go_quiet (fail)
     go_wp2
     go_roundw
     case rel=>exact⟨k+1,_,by omega,by go_num,zhe HX.out.2.2 HX.out.1 HX.out.2.1 hxy,rfl⟩
     case measure=>simp[intOf];omega
    ·go_wp2
     go_quiet (fail)
     go_wp2;go_ret
     refine⟨L.zaj ?_,⟨_,World.drewN_drewN _ _ _⟩⟩
     have:za≠zb:=by
      intro e;rw[e] at HX;have h1:=HX.out.1;rw[HX.out.2.1] at h1;exact hxy (Option.some.inj h1).symm
     simp[this]
   ·go_wp2;go_ret
    refine⟨L.zaj ?_,⟨_,rfl⟩⟩;rw[List.take_of_length_le (by omega),List.take_of_length_le (by omega)] at ht;simp[ht]
 ·go_enter func98,ntmps98
  go_wp2;go_ret
  refine⟨L.zaj ?_,⟨0,rfl⟩⟩;have:za≠zb:=by intro e;exact hl (by rw[e])
  simp[this]
