/-
 There are heads of any right rules: plain lists.
-/
import Derived.Test.YtmcljejgbikbhaaGreatDoorCnPl
import Derived.Test.YtmcljejgbikbhaaGreatDoorYRus
import Derived.Test.YtmcljejgbikbhaaGreatDoorTpAlive
import Derived.Test.YtmcljejgbikbhaaGreatDoorYIdx
import Derived.Test.YtmcljejgbikbhaaGreatDoorYFirsts
import Derived.Test.YtmcljejgbikbhaaGreatDoorTWhole
import Derived.MapKept
import Derived.ChangeMaps4
set_option maxRecDepth 20000
namespace Go.Proofs.YtmcljejgbikbhaaGreatDoor.Cn
theorem rise:∀l:List Int,∃c:List Int,c.Pairwise (· < ·)/\∀y,y∈c↔y∈l:=by
 intro l
 induction l with
 | nil=>exact⟨[],by simp,fun y=>by simp⟩
 | cons x l ih =>
  obtain⟨c,h1,h2⟩:=ih
  refine⟨c.filter (· < x)++x::c.filter (x< ·),?_,fun y=> ?_⟩
  ·rw[List.pairwise_append,List.pairwise_cons]
   refine⟨h1.filter _,⟨fun a ha=>by simpa using (List.mem_filter.1 ha).2,h1.filter _⟩,fun a ha b hb=> ?_⟩
   have ha2:a<x:=by simpa using (List.mem_filter.1 ha).2
   rcases List.mem_cons.1 hb with rfl | hb
   ·exact ha2
   ·have hb2:x<b:=by simpa using (List.mem_filter.1 hb).2
    omega
  ·rw[List.mem_append,List.mem_cons,List.mem_cons,List.mem_filter,List.mem_filter,h2]
   constructor
   ·rintro (h | h | h)
    ·exact .inr h.1
    ·exact .inl h
    ·exact .inr h.1
   ·rintro (h | h)
    ·exact .inr (.inl h)
    ·rcases Int.lt_trichotomy y x with h3 | h3 | h3
     ·exact .inl ⟨h,by simpa using h3⟩
     ·exact .inr (.inl h3)
     ·exact .inr (.inr ⟨h,by simpa using h3⟩)
theorem comp_some {l:List K.Rule}(h:(K.rulesF l).1=0):∃o,J.Comp l o:=by
 obtain⟨c,h1,h2⟩:=rise (J.edgesL l)
 have hc:J.Cuts l c:=⟨h1,h2⟩
 by_cases h4:400<c.length - 1
 ·exact⟨_,.inr ⟨h,c,hc,hc.two,.inl ⟨h4,rfl⟩⟩⟩
 ·exact⟨_,.inr ⟨h,c,hc,hc.two,.inr ⟨by omega,rfl⟩⟩⟩
end Go.Proofs.YtmcljejgbikbhaaGreatDoor.Cn
namespace Go.Proofs.YtmcljejgbikbhaaGreatDoor.Cn
theorem play_still {l:List K.Rule}(hE:∀r∈l,K.ruleE r=0):∀(left:Nat) (A Z:List Int) (s p:Int),Z.length<=left->(∀r∈Z,S.memb (K.firstsL l) r=false)->K.play l left A Z s p=(0,A++Z,s+Z.length,p):=by
 intro left
 induction left with
 | zero =>
  intro A Z s p h _
  have hz:Z= []:=List.eq_nil_of_length_eq_zero (by omega)
  subst hz
  rw[K.play_end rfl];simp
 | succ n ih =>
  intro A Z s p h hZ
  cases Z with
  | nil=>rw[K.play_end rfl];simp
  | cons z Z =>
   have hk:K.which l (A++z::Z) A.length= -1:=by
    rcases K.which_is (l:=l) (t:=A++z::Z) (k:=(A.length:Int)) with hk | ⟨j,r,hr,hm,hk⟩
    ·exact hk
    ·have h1:=Gm.match_first (hE r (List.mem_of_getElem? hr)) hm
     have h2:=hZ z List.mem_cons_self
     rw[Int.toNat_natCast] at h1
     have h3:(A++z::Z).getD A.length 0=z:=by simp[List.getD]
     rw[h3] at h1
     obtain⟨x,hx,hx2⟩:=S.memb_iff.1 h1
     have h4:S.memb (K.firstsL l) z=true:=S.memb_iff.2 ⟨x,List.mem_flatMap.2 ⟨r,List.mem_of_getElem? hr,hx⟩,hx2⟩
     rw[h4] at h2;cases h2
   rw[K.play_on (by simp) hk]
   show K.play l n (A++ [z]) Z (s+1) p=_
   rw[ih _ _ _ _ (by simp at h;omega) fun r hr=>hZ r (List.mem_cons_of_mem _ hr)]
   simp
   omega
def Still (t:List Int) (p:V.Pass):Prop:=¬p.name.toList= [114,101,109,111,118,101]/\(K.rulesF p.rules).1=0/\∀r∈t,S.memb (K.firstsL p.rules) r=false/\up r=r/\low r=r
theorem map_still {f:Int->Int}{x:List Int}(h:∀r∈x,f r=r):x.map f=x:=by
 induction x with
 | nil=>rfl
 | cons y x ih=>rw[List.map_cons,h y List.mem_cons_self,ih fun r hr=>h r (List.mem_cons_of_mem _ hr)]
theorem pass_still {pl:Pl}(hpl:PlOk pl){p:V.Pass}(hw:passE p=0){t x:List Int}(hS:Still t p)(hx:Tx x)(hs:∀r∈x,r∈t):passF pl p x=(x,0)∨(passF pl p x).2=5:=by
 obtain⟨h1,h2,h3⟩:=hS
 unfold passF
 split
 ·obtain⟨hl,hE,_⟩:=K.rulesF_zero h2
  obtain⟨o,ho⟩:∃o,J.Comp p.rules o:=comp_some h2
  have hc:Gm.Chk p.rules x o:= .inr (.inr ⟨h2,text_tx.2 hx,ho⟩)
  by_cases h0:o.2.1=0
  ·have hp:=play_still hE (8*x.length+40) [] x 0 0 (by omega) fun r hr=>(h3 r (hs r hr)).1
   rw[List.nil_append] at hp
   exact .inl (hpl.1 _ _ _ _ _ _ _ ⟨o,hc,.inr ⟨h0,hp,rfl⟩⟩)
  ·have h5:o.2.1=5:=by
    rcases ho with ⟨h,_⟩|⟨_,c,_,_,⟨_,rfl⟩|⟨_,rfl⟩⟩
    ·exact absurd h2 h
    ·rfl
    ·exact absurd rfl h0
   right
   rw[hpl.1 _ _ [] 0 0 o.2.1 o.2.2 ⟨o,hc,.inl ⟨h0,rfl,rfl,rfl,rfl,rfl⟩⟩]
   exact h5
 ·rename_i hn
  split
  ·exact .inl (by rw[map_still fun r hr=>(h3 r (hs r hr)).2.1])
  ·split
   ·exact .inl (by rw[map_still fun r hr=>(h3 r (hs r hr)).2.2])
   ·split
    ·exact .inl rfl
    ·exfalso
     unfold passE at hw
     rw[if_neg hn] at hw
     by_cases hp:R.passes p.name=true
     ·unfold R.passes at hp
      simp at hp
      rcases hp with hp | hp | hp | hp
      ·contradiction
      ·contradiction
      ·exact h1 hp
      ·contradiction
     ·rw[if_neg hp] at hw;exact absurd hw (by decide)
theorem thru_still {pl:Pl}(hpl:PlOk pl){t x:List Int}(hx:Tx x)(hs:∀r∈x,r∈t):∀ {l:List V.Pass} {k:Nat},(∀p∈l,passE p=0/\Still t p)->thru pl k l x=(x,0,0)∨(thru pl k l x).2.1=5:=by
 intro l
 induction l with
 | nil=>intro k _;exact .inl rfl
 | cons p l ih =>
  intro k h
  rw[thru]
  rcases pass_still hpl (h p List.mem_cons_self).1 (h p List.mem_cons_self).2 hx hs with e | e
  ·rw[e]
   exact ih fun q hq=>h q (List.mem_cons_of_mem _ hq)
  ·rw[if_neg (by rw[e];decide)];exact .inr e
theorem run_still {pl:Pl}(hpl:PlOk pl){ps:List V.Pass}{t:List Int}(hp:∀p∈ps,passE p=0/\Still t p):∀ {q:List (List Int×Bool)} {out:List Int},(∀x∈q,Tx x.1/\∀r∈x.1,r∈t)->runP pl ps q out=(out++q.flatMap (·.1),0,0)∨(runP pl ps q out).2.1=5:=by
 intro q
 induction q with
 | nil=>intro out _;exact .inl (by simp[runP])
 | cons x q ih =>
  intro out h
  obtain⟨h1,h2⟩:=h x List.mem_cons_self
  rw[runP,List.flatMap_cons,<- List.append_assoc]
  split
  ·rcases thru_still hpl (k:=0) h1 h2 hp with e | e
   ·rw[e]
    exact ih fun y hy=>h y (List.mem_cons_of_mem _ hy)
   ·rw[if_neg (by rw[e];decide)];exact .inr e
  ·exact ih fun y hy=>h y (List.mem_cons_of_mem _ hy)
theorem cut_whole {P:Int->Bool}:∀ {t:List Int},(cut P t).flatMap (·.1)=t:=by
 have hj:∀(r:Int) (l:List (List Int×Bool)),(joinP r l).flatMap (·.1)=r::l.flatMap (·.1):=fun r l=>by
  unfold joinP;split <;> simp
 intro t
 induction t with
 | nil=>rfl
 | cons r t ih =>
  rw[cut]
  split
  ·rw[hj,ih]
  ·rw[List.flatMap_cons,ih];rfl
theorem go_still {pl:Pl}(hpl:PlOk pl){s:V.Script}(hw:(wrongF s).1=0){t:List Int}(hR:K.allR t=true)(hp:∀p∈s.passes,Still t p):goF pl s t=(t,0,0)∨(goF pl s t).2.1=5∨((goF pl s t).2.1=4/\4000<t.length):=by
 have hpE:=(wrongF_zero hw).2.2.1
 unfold goF
 rw[if_pos hw]
 by_cases ht:K.textE t=0
 ·have hT:=text_tx.1 ht
  rw[if_pos ht]
  rcases run_still hpl (fun p h=>⟨hpE p h,hp p h⟩) (q:=cut (inS s) t) (out:= []) (fun x hx=>⟨cut_tx hT x hx,cut_sub x hx⟩) with e | e
  ·rw[e,cut_whole]
   rw[if_pos rfl,if_neg (by simp;exact hT.1)]
   exact .inl rfl
  ·rw[if_neg (by rw[e];decide)];exact .inr (.inl e)
 ·rw[if_neg ht]
  refine .inr (.inr ?_)
  unfold K.textE at ht ⊢
  by_cases h4:4000<t.length
  ·rw[if_pos h4];exact⟨rfl,h4⟩
  ·rw[if_neg h4,if_pos hR] at ht;exact absurd rfl ht
end Go.Proofs.YtmcljejgbikbhaaGreatDoor.Cn
namespace Go.Proofs.YtmcljejgbikbhaaGreatDoor
open Go.RowKit Go.Lib
set_option linter.unusedSimpArgs false
set_option linter.unusedVariables false
theorem Tp.script_right {t:List Int}(h:(Tp.scriptF t).2=true):(Cn.wrongF (Tp.scriptF t).1).1=0:=by
 unfold Tp.scriptF at h ⊢
 split at h
 ·simp at h;exact h.2
 ·cases h
set_option maxHeartbeats 16000000 in
theorem topUntouched_any (hK:T.ClassOk)(w:World)(fs ts:ByteArray)(hfs:fs.size<=1099511627776)(hts:ts.size<=1099511627776) :
  Calls Tryz.prog 7 #[.string fs,.string ts] w fun e w'=>e= .returned (.bool true)/\Below w.heap.size w w':=by
 obtain⟨pl,hpl⟩:=Cn.pl_some
 have HSc:Hid (∀X,Calls Tryz.prog 10 #[.string fs] X fun e w'=>∃v',e= .returned (.tuple #[v',.bool (Tp.scriptF (M.rn fs)).2])/\V.ScIs w' v' (Tp.scriptF (M.rn fs)).1/\Below X.heap.size X w'):=fun X=>tScript_any hK fs hfs X
 have hfit:=Tp.scriptF_fit (M.rn fs)
 have hok:=Tp.script_right (t:=M.rn fs)
 obtain⟨⟨sc,ok⟩,hsc⟩:∃o,Tp.scriptF (M.rn fs)=o:=⟨_,rfl⟩
 rw[hsc] at HSc hfit hok
 simp only at HSc hfit hok
 have HDe:Hid (∀X,Calls Tryz.prog 11 #[.string ts] X fun e w'=>∃xo xc,e= .returned (.slice xo (M.rn ts).length xc)/\L.Rd w' (.slice xo (M.rn ts).length xc) .i32 (M.rn ts)/\(M.rn ts).length<=xc/\Below X.heap.size X w'):=fun X=>Tp.decode ts hts X
 have hrl:(M.rn ts).length<=140737488355328:=by have:=M.rn_length ts;omega
 have HRt:Hid (∀z∈M.rn ts,M.right z=true):=rn_right ts
 generalize M.rn ts=t at *
 clear hsc
 go_enter Tryz.func7,Tryz.ntmps7
 go_wp2_with fail
 refine(tAlive_any hK w).mono ?_
 rintro e w1 ⟨rfl,b1⟩
 have HB1:Hid (Below w.heap.size w w1):=b1
 clear b1
 go_wp2_with fail
 refine(HSc.out _).mono ?_
 rintro e w2 ⟨v2,rfl,hS2,b2⟩
 have HB2:Hid (Below w.heap.size w w2):=HB1.out.trans (b2.mono HB1.out.size)
 have HA2:Hid (∀o,Below w.heap.size w (w2.alloc o)):=fun o=>HB2.out.alloc HB2.out.size o
 clear b2 HSc HB1
 obtain⟨oo,oc,po,pc,rfl,hO,hOl,hP⟩:=id hS2
 cases ok with
 | false =>
  clear HDe
  go_wp2
  go_ret
  exact⟨rfl,HA2.out _⟩
 | true =>
  obtain⟨hsh,only,passes⟩:=sc
  simp only at hS2 hO hOl hP hfit hok
  have hwr:=hok (by trivial)
  have HS2:Hid (V.ScIs w2 (.agg #[.bool hsh,.slice oo only.length oc,.slice po passes.length pc]) ⟨hsh,only,passes⟩):=hS2
  have HP:Hid (V.Pas w2 (.slice po passes.length pc) passes):=hP
  have HGo:=fun (X:World) (hX:Below w2.heap.size w2 X) xo xc (hd:L.Rd X (.slice xo t.length xc) .i32 t) (hc:t.length<=xc)=>cGo_any pl hpl X _ ⟨hsh,only,passes⟩ (HS2.out.below hX) hfit xo xc t hd hc hrl
  have HG:Hid (∀(X:World),Below w2.heap.size w2 X->∀xo xc,L.Rd X (.slice xo t.length xc) .i32 t->t.length<=xc->Calls Tryz.prog 12 #[.agg #[.bool hsh,.slice oo only.length oc,.slice po passes.length pc],.slice xo t.length xc] X fun e w'=>∃v',e= .returned (.tuple #[v',.agg #[.int .i64 (Cn.goF pl ⟨hsh,only,passes⟩ t).2.1,.int .i64 (Cn.goF pl ⟨hsh,only,passes⟩ t).2.2]])/\L.Rd w' v' .i32 (Cn.goF pl ⟨hsh,only,passes⟩ t).1/\Below X.heap.size X w'):=HGo
  have HSt:Hid ((∀p∈passes,Cn.Still t p)->Cn.goF pl ⟨hsh,only,passes⟩ t=(t,0,0)∨(Cn.goF pl ⟨hsh,only,passes⟩ t).2.1=5∨((Cn.goF pl ⟨hsh,only,passes⟩ t).2.1=4/\4000<t.length)):=fun h=>Cn.go_still hpl (s:=⟨hsh,only,passes⟩) hwr (List.all_eq_true.2 HRt.out) h
  have hpf:passes.length<=60:=(Cn.wrongF_zero hwr).2.1
  generalize Cn.goF pl ⟨hsh,only,passes⟩ t=g at *
  obtain⟨ga,g1,g2⟩:=g
  simp only at HG HSt
  clear HGo hok hwr hS2 hO hOl hP hfit HA2
  go_wp2_with fail
  go_at_call 11
  refine(HDe.out _).mono ?_
  rintro e w3 ⟨xo,xc,rfl,d3,hxc,b3⟩
  obtain⟨hbx,B3,s3⟩:=K.one_box b3
  have HX3:Hid (w3.heap[w2.heap.size]?=some (.cells #[.bool hsh,.slice oo only.length oc,.slice po passes.length pc] 26)/\Below w2.heap.size w2 w3/\L.Rd w3 (.slice xo t.length xc) .i32 t):=⟨hbx,B3,d3⟩
  have kp:w3.cell? ⟨w2.heap.size,2,none⟩=some (.slice po passes.length pc):=K.at_box (i:=2) hbx rfl
  have hs3:w2.heap.size+1<=w3.heap.size:=s3
  clear HDe b3 B3 d3 hbx
  go_wp2
  clear kp
  go_loopw [30] (fun i30 wr=>∃(k:Nat),k<=passes.length/\i30= .int .i64 k/\Hid (∀p∈passes.take k,Cn.Still t p)/\Hid (Below w3.heap.size w3 wr)) (fun i30 _=>passes.length - (RowKit.intOf i30).toNat)
  case atStart=>exact⟨0,Nat.zero_le _,rfl,by show ∀p∈passes.take 0,_;simp,Below.refl _ _⟩
  case round =>
   obtain⟨k,hk,rfl,HSk,HBk⟩:=hrel
   obtain⟨wo,hwo⟩:∃wo,wo=wr:=⟨_,rfl⟩
   subst hwo
   have hBw:Below w2.heap.size w2 wo:=HX3.out.2.1.trans (HBk.out.mono HX3.out.2.1.size)
   have HBw:Hid (Below w2.heap.size w2 wo):=hBw
   have hBa:Below w.heap.size w wo:=HB2.out.trans (hBw.mono HB2.out.size)
   have HBa:Hid (Below w.heap.size w wo):=hBa
   by_cases hlt:k<passes.length
   ·obtain⟨p,hp⟩:∃x,passes[k]?=some x:=⟨passes[k],by simp[hlt]⟩
    obtain⟨ao',cap',e',_,hcs⟩:=HP.out.below hBw
    cases e'
    obtain⟨b,off,rfl,hcell⟩:=hcs (by intro h;rw[h] at hlt;simp at hlt)
    obtain⟨c0,hn,ro,rc,c1,hr⟩:=hcell k p hp
    have hbl:b<wo.heap.size:=L.block_lt c0
    have HFi:Hid (∀o,Calls Tryz.prog 22 #[.slice ro p.rules.length rc] (wo.alloc o) fun e w'=>∃v',e= .returned (.tuple #[v',.agg #[.int .i64 (K.firstsF p.rules).2.1,.int .i64 (K.firstsF p.rules).2.2]])/\S.Rd w' v' (K.firstsF p.rules).1/\Below (wo.alloc o).heap.size (wo.alloc o) w'/\((K.rulesF p.rules).1=0->∃s,S.Is (S.memb (K.firstsL p.rules)) s)):=fun o=>yFirsts_any _ _ _ (hr.below ((Below.refl _ wo).alloc (Nat.le_refl _) o))
    have HZ:Hid ((K.firstsF p.rules).2.1=0->(K.rulesF p.rules).1=0/\((∃s,S.Is (S.memb (K.firstsL p.rules)) s)->S.Nf 0 (K.firstsF p.rules).1/\(K.firstsF p.rules).1.length<=200/\∀r,S.memb (K.firstsF p.rules).1 r=S.memb (K.firstsL p.rules) r)):=fun h=>by
     obtain⟨z1,z2,z3,z4⟩:=K.firstsF_zero h
     refine⟨z1,fun hex=> ?_⟩
     have hset:=K.res_set hex z3
     rw[<- z4] at hset
     exact⟨hset.1.1,hset.2,hset.1.2⟩
    have HN:Hid (∀p'∈passes.take (k+1),Cn.Still t p'∨p'=p):=fun p' hp'=>by
     rw[List.take_add_one,hp] at hp'
     rcases List.mem_append.1 hp' with h | h
     ·exact .inl (HSk.out p' h)
     ·simp at h;exact .inr h
    generalize K.firstsF p.rules=ff at *
    obtain⟨fl,e1,e2⟩:=ff
    simp only at HFi HZ
    clear hcell hcs hr hp hBw hBa
    cases hnm:(p.name.toList== [114,101,109,111,118,101]) with
    | true =>
     have HE:Hid (∀o,Below w.heap.size w (wo.alloc o)):=fun o=>HBa.out.alloc HBa.out.size o
     clear HFi HZ HN
     go_wp2
     go_ret
     exact⟨rfl,HE.out _⟩
    | false =>
     have HNm:Hid (¬p.name.toList= [114,101,109,111,118,101]):=by
      intro h
      rw[h] at hnm
      simp at hnm
     go_wp2_with fail
     go_at_call 22
     refine(HFi.out _).mono ?_
     rintro e w4 ⟨v4,rfl,d4,b4,hex⟩
     have B4:Below wo.heap.size wo w4:=(K.one_box b4).2.1
     have HB4:Hid (Below wo.heap.size wo w4/\∀o,Below w.heap.size w (w4.alloc o)):=⟨B4,fun o=>(HBa.out.trans (B4.mono HBa.out.size)).alloc (by have:=HBa.out.size;have:=B4.size;omega) o⟩
     have HD4:Hid (S.Rd w4 v4 fl):=d4
     obtain⟨vfo,vfc,rfl⟩:∃a c,v4= .slice a fl.length c:=by obtain⟨a,c,h,_⟩:=d4;exact⟨a,c,h⟩
     have HEx:Hid ((K.rulesF p.rules).1=0->∃s,S.Is (S.memb (K.firstsL p.rules)) s):=hex
     clear HFi b4 B4 d4 hex c0 c1
     by_cases q:e1=0
     ·subst q
      obtain⟨z1,z2⟩:=HZ.out rfl
      obtain⟨hNf,hfl,hmm⟩:=z2 (HEx.out z1)
      have HF:Hid (S.Nf 0 fl/\(K.rulesF p.rules).1=0/\∀r,S.memb fl r=S.memb (K.firstsL p.rules) r):=⟨hNf,z1,hmm⟩
      obtain⟨W5,hW5⟩:∃W5,W5=w4.alloc (.cells #[.int .i64 0,.int .i64 e2] 33):=⟨_,rfl⟩
      have HB5:Hid (Below w4.heap.size w4 W5):=by show Below _ _ _;rw[hW5];exact(Below.refl _ w4).alloc (Nat.le_refl _) _
      clear HZ HEx z1 z2 hNf hmm
      go_wp2
      try rw[<- hW5]
      clear hW5
      go_loopw [48] (fun i48 wr=>∃(j:Nat),j<=t.length/\i48= .int .i64 j/\Hid (∀r∈t.take j,S.memb fl r=false/\Cn.up r=r/\Cn.low r=r)/\Hid (Below W5.heap.size W5 wr)) (fun i48 _=>t.length - (RowKit.intOf i48).toNat)
      case atStart=>exact⟨0,Nat.zero_le _,rfl,by show ∀r∈t.take 0,_;simp,Below.refl _ _⟩
      case round =>
       obtain⟨j,hj,rfl,HJ,HBj⟩:=hrel
       have hB5j:Below w4.heap.size w4 wr:=HB5.out.trans (HBj.out.mono HB5.out.size)
       have HB4j:Hid (Below wo.heap.size wo wr):=HB4.out.1.trans (hB5j.mono HB4.out.1.size)
       by_cases hjl:j<t.length
       ·obtain⟨r,hr⟩:∃r,t[j]?=some r:=⟨t[j],by simp[hjl]⟩
        have hB3:Below w3.heap.size w3 wr:=HBk.out.trans (HB4j.out.mono HBk.out.size)
        obtain⟨_,_,e3,_,hc3⟩:=HX3.out.2.2
        cases e3
        obtain⟨tb,tof,rfl,hcell⟩:=hc3 (by intro h;subst h;simp at hjl)
        have c0:=hcell j r hr
        have htb:tb<w3.heap.size:=L.block_lt c0
        rw[<- hB3.cell (p:=⟨tb,_,none⟩) htb] at c0
        have hrr:=HRt.out r (List.mem_of_getElem? hr)
        have hr0:0<=r/\r<=1114111:=by
         simp[M.right] at hrr
         omega
        have HHas:Hid (Calls Tryz.prog 23 #[.slice vfo fl.length vfc,.int .i32 r] wr fun e w'=>e= .returned (.bool (S.memb fl r))/\Below wr.heap.size wr w'):=has_any wr _ fl r (HD4.out.below hB5j (Nat.le_refl _)) HF.out.1 hfl
        have HUp:Hid (∀W,Calls Tryz.prog 14 #[.int .i32 r] W fun e w'=>e= .returned (.int .i32 (Cn.up r))/\w'=W):=fun W=>upper_any r (by omega) (by omega) W
        have HLo:Hid (∀W,Calls Tryz.prog 15 #[.int .i32 r] W fun e w'=>e= .returned (.int .i32 (Cn.low r))/\w'=W):=fun W=>cnLower_any r (by omega) (by omega) W
        have HNx:Hid (S.memb fl r=false->Cn.up r=r->Cn.low r=r->∀x∈t.take (j+1),S.memb fl x=false/\Cn.up x=x/\Cn.low x=x):=fun h1 h2 h3 x hx=>by
         rw[List.take_add_one,hr] at hx
         rcases List.mem_append.1 hx with h | h
         ·exact HJ.out x h
         ·simp at h;subst h;exact⟨h1,h2,h3⟩
        generalize S.memb fl r=mb at *
        generalize Cn.up r=ru at *
        generalize Cn.low r=rl at *
        clear hr hcell hc3 hB3 hrr hB5j
        go_wp2_with fail
        go_at_call 23
        refine HHas.out.mono ?_
        rintro e w6 ⟨rfl,b6⟩
        have HB6:Hid (Below wr.heap.size wr w6):=b6
        have HE6:Hid (Below w.heap.size w w6):=by
         have h1:=HBa.out.trans (HB4j.out.mono HBa.out.size)
         exact h1.trans (b6.mono h1.size)
        clear HHas b6 c0
        cases mb with
        | true =>
         go_wp2
         go_ret
         exact⟨rfl,HE6.out⟩
        | false =>
         by_cases h1:ru=r
         ·subst h1
          by_cases h2:rl=ru
          ·subst h2
           have HN2:Hid (∀x∈t.take (j+1),S.memb fl x=false/\Cn.up x=x/\Cn.low x=x):=HNx.out rfl rfl rfl
           clear HNx
           go_wp2_with (first | (go_at_call 14;refine(HUp.out _).mono ?_;rintro e w' ⟨rfl,rfl⟩) | (go_at_call 15;refine(HLo.out _).mono ?_;rintro e w' ⟨rfl,rfl⟩))
           go_roundw
           case rel=>exact⟨j+1,by omega,by go_num,HN2,HBj.out.trans (HB6.out.mono HBj.out.size)⟩
           case measure=>simp[RowKit.intOf];omega
          ·clear HNx
           go_wp2_with (first | (go_at_call 14;refine(HUp.out _).mono ?_;rintro e w' ⟨rfl,rfl⟩) | (go_at_call 15;refine(HLo.out _).mono ?_;rintro e w' ⟨rfl,rfl⟩))
           go_ret
           exact⟨rfl,HE6.out⟩
         ·clear HNx
          go_wp2_with (first | (go_at_call 14;refine(HUp.out _).mono ?_;rintro e w' ⟨rfl,rfl⟩) | (go_at_call 15;refine(HLo.out _).mono ?_;rintro e w' ⟨rfl,rfl⟩))
          go_ret
          exact⟨rfl,HE6.out⟩
       ·have hje:j=t.length:=by omega
        have HN2:Hid (∀p'∈passes.take (k+1),Cn.Still t p'):=fun p' hp'=>by
         rcases HN.out p' hp' with h | rfl
         ·exact h
         ·refine⟨HNm.out,HF.out.2.1,fun r hr=> ?_⟩
          have:=HJ.out r (by rw[hje,List.take_length];exact hr)
          rw[HF.out.2.2] at this
          exact this
        clear hje
        go_wp2
        go_roundw
        case rel=>exact⟨k+1,by omega,by go_num,HN2,HBk.out.trans (HB4j.out.mono HBk.out.size)⟩
        case measure=>simp[RowKit.intOf];omega
     ·clear HZ HEx HN
      go_wp2
      go_ret
      exact⟨rfl,HB4.out.2 _⟩
   ·have hke:k=passes.length:=by omega
    have hall:∀p∈passes,Cn.Still t p:=fun p hp=>HSk.out p (by rw[hke,List.take_length];exact hp)
    have hst:=HSt.out hall
    have hbx:=K.blk_below HX3.out.1 HBk.out
    have k0:=K.at_box (i:=0) hbx rfl
    have k1:=K.at_box (i:=1) hbx rfl
    have k2:=K.at_box (i:=2) hbx rfl
    have hd:=HX3.out.2.2.below HBk.out (Nat.le_refl _)
    have HGo:Hid (Calls Tryz.prog 12 #[.agg #[.bool hsh,.slice oo only.length oc,.slice po passes.length pc],.slice xo t.length xc] wo fun e w'=>∃v',e= .returned (.tuple #[v',.agg #[.int .i64 g1,.int .i64 g2]])/\L.Rd w' v' .i32 ga/\Below wo.heap.size wo w'):=HG.out wo hBw xo xc hd hxc
    have HD:Hid (L.Rd wo (.slice xo t.length xc) .i32 t):=hd
    clear hall hbx hd hBw hBa HG HSt hke
    go_wp2_with fail
    go_at_call 12
    refine HGo.out.mono ?_
    rintro e w7 ⟨v7,rfl,d7,b7⟩
    obtain⟨va,vc,rfl⟩:∃a c,v7= .slice a ga.length c:=by obtain⟨a,c,h,_⟩:=d7;exact⟨a,c,h⟩
    have HE7:Hid (∀o,Below w.heap.size w (w7.alloc o)):=fun o=>by
     have h1:=HBa.out.trans (b7.mono HBa.out.size)
     exact h1.alloc h1.size o
    have HSm:Hid (∀o,ga=t->Calls Tryz.prog 17 #[.slice va ga.length vc,.slice xo t.length xc] (w7.alloc o) fun e w'=>e= .returned (.bool true)/\Below (w7.alloc o).heap.size (w7.alloc o) w'):=fun o hg=>by
     subst hg
     have hal:=Cn.al w7 o
     refine(rsame_any (w7.alloc o) _ _ ga ga (d7.below hal (Nat.le_refl _)) ((HD.out.below b7 (Nat.le_refl _)).below hal (Nat.le_refl _)) (by omega) (by omega)).mono ?_
     rintro e w' ⟨rfl,h⟩
     exact⟨by simp,h⟩
    clear HGo k0 k1 k2 d7 b7
    rcases hst with hst | hst | ⟨hst,h4⟩
    ·simp only[Prod.mk.injEq] at hst
     obtain⟨hga,rfl,rfl⟩:=hst
     have HSm2:Hid (∀o,Calls Tryz.prog 17 #[.slice va ga.length vc,.slice xo t.length xc] (w7.alloc o) fun e w'=>e= .returned (.bool true)/\Below (w7.alloc o).heap.size (w7.alloc o) w'):=fun o=>HSm.out o hga
     clear hga HSm
     go_wp2_with fail
     refine(HSm2.out _).mono ?_
     rintro e w8 ⟨rfl,b8⟩
     have HE8:Hid (Below w.heap.size w w8):=(HE7.out _).trans (b8.mono (HE7.out _).size)
     clear b8 HSm2
     go_wp2
     go_ret
     exact⟨rfl,HE8.out⟩
    ·subst hst
     clear HSm
     go_wp2
     go_ret
     exact⟨rfl,HE7.out _⟩
    ·subst hst
     have h4':(4000:Int)<t.length:=by omega
     clear HSm
     go_wp2
     go_ret
     exact⟨by simp[h4'],HE7.out _⟩
end Go.Proofs.YtmcljejgbikbhaaGreatDoor
namespace Go.Proofs.YtmcljejgbikbhaaGreatDoor
open Go.RowKit
def T.Cls (w:World) (b:Nat) (ents:List (ByteArray×List S.Sp)):Prop :=
 ∃(es:Array MapEntry) (clock:Nat),w.heap[b]?=some (.map es clock)/\es.toList.length=ents.length/\∀(i:Nat) (e:MapEntry) (x:ByteArray×List S.Sp),es.toList[i]?=some e->ents[i]?=some x->e.key= .string x.1/\S.Rd w e.val x.2
theorem cls_new (w:World):T.Cls (w.alloc (.map #[] 0)) w.heap.size []:=⟨#[],0,heap_alloc_new w _,rfl,fun i e x h=>by simp at h⟩
theorem cls_below {w w':World}{b:Nat}{ents:List (ByteArray×List S.Sp)}(h:T.Cls w b ents)(hb:Below w.heap.size w w'):T.Cls w' b ents:=by
 obtain⟨es,clock,h1,h2,h3⟩:=h
 exact⟨es,clock,by rw[hb.block b (Array.getElem?_eq_some_iff.1 h1).1];exact h1,h2,fun i e x he hx=>⟨(h3 i e x he hx).1,(h3 i e x he hx).2.below hb (Nat.le_refl _)⟩⟩
theorem find_none (s:ByteArray):∀(l:List MapEntry) (i:Nat),(∀e∈l,∃t,e.key= .string t/\t≠s)->Instr.findNow .string (.string s) l i=some none
 | [],_,_=>rfl
 | e::l,i,h=>by
  obtain⟨t,ht,hne⟩:=h e (by simp)
  have hb:(s==t)=false:=by
   apply Bool.eq_false_iff.2
   intro hh
   exact hne ((MapKept.bytes_beq _ _).1 hh).symm
  simp only[Instr.findNow,ht,Instr.sameNow,hb]
  exact find_none s l (i+1) fun e' he'=>h e' (by simp[he'])
theorem find_some (s:ByteArray):∀(l:List MapEntry) (i:Nat),(∀e∈l,∃t,e.key= .string t)->(∃e∈l,e.key= .string s)->∃j e,Instr.findNow .string (.string s) l i=some (some (j,e.val))/\e∈l/\e.key= .string s
 | [],_,_,h=>by obtain⟨e,he,_⟩:=h;simp at he
 | e::l,i,hk,h=>by
  obtain⟨t,ht⟩:=hk e (by simp)
  by_cases hst:s=t
  ·subst hst
   exact⟨i,e,by simp only[Instr.findNow,ht,Instr.sameNow,(MapKept.bytes_beq s s).2 rfl],by simp,ht⟩
  ·have hb:(s==t)=false:=by
    apply Bool.eq_false_iff.2
    intro hh
    exact hst ((MapKept.bytes_beq _ _).1 hh)
   obtain⟨e0,he0,hk0⟩:=h
   have hm:e0∈l:=by
    rcases List.mem_cons.1 he0 with rfl | hm
    ·rw[ht] at hk0;cases hk0;exact absurd rfl hst
    ·exact hm
   obtain⟨j,e1,h1,h2,h3⟩:=find_some s l (i+1) (fun x hx=>hk x (by simp[hx])) ⟨e0,hm,hk0⟩
   exact⟨j,e1,by simp only[Instr.findNow,ht,Instr.sameNow,hb];exact h1,by simp[h2],h3⟩
theorem rd_block {w w':World}{v:Value}{s:List S.Sp}{b:Nat}{es:Array MapEntry}{clock:Nat}(R:S.Rd w v s)(hb:w.heap[b]?=some (.map es clock))(hg:w.grownBy w' (some b)):S.Rd w' v s:=by
 obtain⟨vo,vc,rfl,hn,h⟩:=R
 refine⟨vo,vc,rfl,hn,fun hz=> ?_⟩
 obtain⟨g,off,rfl,hcl⟩:=h hz
 refine⟨g,off,rfl,fun j x hj=> ?_⟩
 have h1:=hcl j x hj
 have hne:g≠b:=by
  intro e
  subst e
  have:=h1.1
  rw[World.cell?] at this
  simp[hb] at this
 constructor
 ·rw[World.cell?_of_block (a:=⟨g,off+j*2,none⟩) (hg.block g (L.block_lt h1.1) (by simp[hne]))];exact h1.1
 ·rw[World.cell?_of_block (a:=⟨g,off+j*2+1,none⟩) (hg.block g (L.block_lt h1.2) (by simp[hne]))];exact h1.2
theorem cls_insert {w:World}{b:Nat}{ents:List (ByteArray×List S.Sp)}(h:T.Cls w b ents)(s:ByteArray)(v:Value)(sp:List S.Sp)(hnew:∀x∈ents,x.1≠s)(R:S.Rd w v sp) :
  ∃w',(Instr.mapUpdate 131 (.map (some b)) (.string s) v).run Tryz.prog w= .ok () w'/\T.Cls w' b (ents++ [(s,sp)])/\w.grownBy w' (some b):=by
 obtain⟨es,clock,h1,h2,h3⟩:=h
 have hkeys:∀e∈es.toList,∃t,e.key= .string t/\t≠s:=by
  intro e he
  obtain⟨i,hi⟩:=List.getElem?_of_mem he
  have hlt:i<ents.length:=by rw[<- h2];exact(List.getElem?_eq_some_iff.1 hi).1
  have hx:=h3 i e ents[i] hi (by simp[hlt])
  exact⟨_,hx.1,hnew _ (List.getElem_mem _)⟩
 have hf:=find_none s es.toList 0 hkeys
 have hlt:b<w.heap.size:=(Array.getElem?_eq_some_iff.1 h1).1
 have hg:w.grownBy ({ w with heap:=w.heap.setIfInBounds b (.map (es.push { key:= .string s,val:=v,born:=clock }) (clock+1)) }:World) (some b):=⟨rfl,rfl,rfl,by simp,fun i _ hi=>by
  have hne:b≠i:=fun e=>hi (by rw[e])
  simp[hne]⟩
 refine⟨({ w with heap:=w.heap.setIfInBounds b (.map (es.push { key:= .string s,val:=v,born:=clock }) (clock+1)) }:World),?_,⟨es.push { key:= .string s,val:=v,born:=clock },clock+1,?_,?_,?_⟩,hg⟩
 ·simp[Instr.mapUpdate,run_underlying Tryz.underlying131,MapKept.run_getObj_map h1,MapKept.run_checkKey (kt:=9) Tryz.underlying9 (show MapKept.IsKey .string (.string s) from trivial),MapKept.run_findKey (kt:=9) Tryz.underlying9 hf,MapKept.run_setObj_map _ h1,Result.andThen]
 ·simp[hlt]
 ·simp;simpa using h2
 ·intro i e x he hx
  have hl:es.size=ents.length:=by simpa using h2
  rw[Array.toList_push] at he
  by_cases hi:i<ents.length
  ·rw[List.getElem?_append_left (by simpa [hl] using hi)] at he
   rw[List.getElem?_append_left hi] at hx
   have:=h3 i e x he hx
   exact⟨this.1,rd_block this.2 h1 hg⟩
  ·have hi2:i=ents.length:=by
    have:=(List.getElem?_eq_some_iff.1 hx).1
    simp at this
    omega
   subst hi2
   rw[<- h2] at he
   rw[List.getElem?_append_right (Nat.le_refl _)] at he hx
   simp at he hx
   subst he hx
   exact⟨rfl,rd_block R h1 hg⟩
theorem cls_lookup {w:World}{b:Nat}{ents:List (ByteArray×List S.Sp)}(h:T.Cls w b ents)(s:ByteArray) :
  (∃v x,x∈ents/\x.1=s/\S.Rd w v x.2/\(Instr.lookup 131 (.map (some b)) (.string s) true).run Tryz.prog w= .ok (.tuple #[v,.bool true]) w) ∨
  ((∀x∈ents,x.1≠s)/\(Instr.lookup 131 (.map (some b)) (.string s) true).run Tryz.prog w= .ok (.tuple #[.slice none 0 0,.bool false]) w):=by
 obtain⟨es,clock,h1,h2,h3⟩:=h
 have hkey:∀e∈es.toList,∃x∈ents,e.key= .string x.1/\S.Rd w e.val x.2:=by
  intro e he
  obtain⟨i,hi⟩:=List.getElem?_of_mem he
  have hlt:i<ents.length:=by rw[<- h2];exact(List.getElem?_eq_some_iff.1 hi).1
  have hx:=h3 i e ents[i] hi (by simp[hlt])
  exact⟨_,List.getElem_mem _,hx.1,hx.2⟩
 by_cases hs:∃x∈ents,x.1=s
 ·left
  obtain⟨x,hx,hxs⟩:=hs
  have hex:∃e∈es.toList,e.key= .string s:=by
   obtain⟨i,hi⟩:=List.getElem?_of_mem hx
   have hlt:i<es.toList.length:=by rw[h2];exact(List.getElem?_eq_some_iff.1 hi).1
   have:=h3 i es.toList[i] x (by simp) hi
   exact⟨_,List.getElem_mem _,by rw[this.1,hxs]⟩
  obtain⟨j,e,hf,hm,hk⟩:=find_some s es.toList 0 (fun e he=>by obtain⟨x,_,h,_⟩:=hkey e he;exact⟨_,h⟩) hex
  obtain⟨y,hy,hyk,hR⟩:=hkey e hm
  rw[hk] at hyk
  cases hyk
  refine⟨e.val,y,hy,rfl,hR,?_⟩
  simp[Instr.lookup,run_underlying Tryz.underlying131,MapKept.run_getObj_map h1,MapKept.run_checkKey (kt:=9) Tryz.underlying9 (show MapKept.IsKey .string (.string y.1) from trivial),MapKept.run_findKey (kt:=9) Tryz.underlying9 hf,Result.andThen]
 ·right
  refine⟨fun x hx e=>hs ⟨x,hx,e⟩,?_⟩
  have hf:=find_none s es.toList 0 fun e he=>by
   obtain⟨x,hx,hk,_⟩:=hkey e he
   exact⟨x.1,hk,fun e=>hs ⟨x,hx,e⟩⟩
  have hz:=Tryz.zeroValue23
  simp[Instr.lookup,run_underlying Tryz.underlying131,MapKept.run_getObj_map h1,MapKept.run_checkKey (kt:=9) Tryz.underlying9 (show MapKept.IsKey .string (.string s) from trivial),MapKept.run_findKey (kt:=9) Tryz.underlying9 hf,Result.andThen,hz]
theorem rd_alloc (w:World)(sp:List S.Sp)(C:Array Value)(hC:C=(S.cellsOf sp).toArray)(n:Nat)(hn:n=sp.length)(c:Nat):S.Rd (w.alloc (.cells C 125)) (.slice (some ⟨w.heap.size,0,none⟩) n c) sp:=by
 subst hC hn
 refine⟨_,c,rfl,(fun h=>by cases h),fun _=>⟨w.heap.size,0,rfl,fun j x hj=> ?_⟩⟩
 have hg:=S.cellsOf_get hj
 rw[World.cell?_alloc_at _ _ _ _ rfl,World.cell?_alloc_at _ _ _ _ rfl]
 simp only[Nat.zero_add]
 exact⟨by simpa using hg.1,by simpa using hg.2⟩
end Go.Proofs.YtmcljejgbikbhaaGreatDoor
