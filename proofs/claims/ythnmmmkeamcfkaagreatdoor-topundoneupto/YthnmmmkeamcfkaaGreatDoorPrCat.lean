import Derived.Test.YthnmmmkeamcfkaaGreatDoorYIdx
import Derived.Test.YthnmmmkeamcfkaaGreatDoorPrMath
set_option maxHeartbeats 0
set_option maxRecDepth 20000
set_option linter.unusedSimpArgs false
set_option linter.unusedVariables false
namespace Go.Proofs.YthnmmmkeamcfkaaGreatDoor
open Go.Proofs.Tryz
section
open Go.RowKit
namespace Pr
def ImIs (w:World) (v:Value) (m:Int×List Int):Prop:=∃mo mc,v= .agg #[.int .i32 m.1,.slice mo m.2.length mc]/\L.Rd w (.slice mo m.2.length mc) .i32 m.2
def Ims (w:World) (v:Value) (l:List (Int×List Int)):Prop :=
 ∃ao cap,v= .slice ao l.length cap/\l.length<=8000/\(l≠ []->∃b off,ao=some ⟨b,off,none⟩/\∀(j:Nat) m,l[j]?=some m ->
  ∃mo mc,w.cell? ⟨b,off+j*2,none⟩=some (.int .i32 m.1)/\w.cell? ⟨b,off+j*2+1,none⟩=some (.slice mo m.2.length mc)/\L.Rd w (.slice mo m.2.length mc) .i32 m.2)
theorem Ims.len {w:World}{v:Value}{l:List (Int×List Int)}(h:Ims w v l):∃ao cap,v= .slice ao l.length cap:=by
 obtain⟨ao,cap,rfl,_⟩:=h;exact⟨ao,cap,rfl⟩
theorem Ims.few {w:World}{v:Value}{l:List (Int×List Int)}(h:Ims w v l):l.length<=8000:=by
 obtain⟨ao,cap,rfl,h,_⟩:=h;exact h
theorem ImIs.below {w w':World}{v:Value}{m:Int×List Int}(h:ImIs w v m)(hb:Below w.heap.size w w'):ImIs w' v m:=by
 obtain⟨mo,mc,rfl,h⟩:=h;exact⟨mo,mc,rfl,h.below hb qN⟩
theorem Ims.below {w w':World}{v:Value}{l:List (Int×List Int)}(h:Ims w v l)(hb:Below w.heap.size w w'):Ims w' v l:=by
 obtain⟨ao,cap,rfl,hl,h⟩:=h;refine⟨ao,cap,rfl,hl,fun hz=> ?_⟩;obtain⟨b,off,rfl,hc⟩:=h hz;refine⟨b,off,rfl,fun j m hj=> ?_⟩;obtain⟨mo,mc,c0,c1,hr⟩:=hc j m hj;exact⟨mo,mc,by rw[hb.cell (p:=⟨b,off+j*2,none⟩) (L.block_lt c0)];exact c0,by rw[hb.cell (p:=⟨b,off+j*2+1,none⟩) (L.block_lt c1)];exact c1,hr.below hb qN⟩
end Pr
theorem zcj (w:World)(v:Value)(l:List K.Rule)(R0:V.Rus w v l)(g:Nat)(cb:Array Value)(P:K.Rule->Bool)(eg:∀args w,(callFunc g args).run prog w= .ok (.enter g args) w)
  (hh:∀W r u,Below w.heap.size w W->r∈l->K.RuIs W u r->Calls prog g (#[u]++cb) W fun e w'=>e= .returned (.bool (P r))/\Below W.heap.size W w') :
  Calls prog 75 #[v,.func (.func g) #[] cb] w fun e w'=>e= .returned (.int .i64 (Pr.firstI P l))/\Below w.heap.size w w':=by
 have HR:=qH R0;have HH:=qH hh;have hl:=R0.few;obtain⟨o,HO⟩:∃o,Hid (Pr.firstN P 0 l=o):=⟨_,rfl⟩;unfold Pr.firstI;rw[HO.out];obtain⟨lao,lcap,rfl⟩:=R0.len;clear R0 hh
 go_enter func75,ntmps75
 go_wp2
 go_loopw [8] (fun i wr=>∃j:Nat,j<=l.length/\i= .int .i64 j/\Hid (Pr.firstN P j (l.drop j)=o)/\Hid (Below w.heap.size w wr)) (fun i _=>l.length - (intOf i).toNat)
 case atStart=>exact⟨0,Nat.zero_le _,rfl,HO,qR w⟩
 case round =>
  obtain⟨j,hj,rfl,HW,HB⟩:=hrel
  by_cases hlt:j<l.length
  ·obtain⟨p,hp⟩:∃x,l[j]?=some x:=⟨l[j],by simp[hlt]⟩;obtain⟨ao',cap',e',_,hcs⟩:=HR.out.below HB.out;cases e';obtain⟨b,off,rfl,hcell⟩:=hcs (by intro h;subst h;simp at hlt);obtain⟨bo,bc,so,sc,ao,ac,tgo,tc,a0,a1,a2,a3,a4,a5,a6,hP⟩:=hcell j p hp;have HE2:Hid (Pr.firstN P j (l.drop j)=if P p=true then (j:Int) else Pr.firstN P (j+1) (l.drop (j+1))):=Pr.zk1 hp;have hsz:=HB.out.size;have HW2:=qH <| HH.out wr p _ HB.out (List.mem_of_getElem? hp) hP;generalize P p=z at HW2 HE2;clear hp hcell hcs hP;obtain⟨st,fi,be,sou,af,ta,cu⟩:=p;simp only at a0 a1 a2 a3 a4 a5 a6 HW2
   go_wp2_with fail
   refine HW2.out.mono ?_;rintro e w1 ⟨rfl,B1⟩;have HB1:=qH <| HB.out.trans (B1.mono hsz);clear B1;cases z with
   | false =>
    have HT:Hid (Pr.firstN P (j+1) (l.drop (j+1))=o):=by
     have h:=HE2.out;rw[HW.out,if_neg (by decide)] at h;exact h.symm
    clear HE2;go_wp2
    go_roundw
    case rel=>exact⟨j+1,by omega,by go_num,HT,HB1⟩
    case measure=>simp[intOf];omega
   | true =>
    have HT:Hid (o=(j:Int)):=by
     have h:=HE2.out;rw[HW.out,if_pos rfl] at h;exact h
    clear HE2;go_wp2;go_ret;exact⟨by rw[HT.out];rfl,HB1.out⟩
  ·have hkl:j=l.length:=by omega
   subst hkl;go_wp2;go_ret;exact⟨by have:=HW.out;rw[List.drop_length] at this;rw[<- this];rfl,HB.out⟩
theorem zks (w:World)(v:Value)(l:List (Int×List Int))(R0:Pr.Ims w v l)(g:Nat)(cb:Array Value)(P:Int×List Int->Bool)(eg:∀args w,(callFunc g args).run prog w= .ok (.enter g args) w)
  (hh:∀W r u,Below w.heap.size w W->r∈l->Pr.ImIs W u r->Calls prog g (#[u]++cb) W fun e w'=>e= .returned (.bool (P r))/\Below W.heap.size W w') :
  Calls prog 177 #[v,.func (.func g) #[] cb] w fun e w'=>∃i:Int,e= .returned (.int .i64 i)/\decide (0<=i)=l.any P/\Below w.heap.size w w':=by
 have HR:=qH R0;have HH:=qH hh;have hl:=R0.few;obtain⟨lao,lcap,rfl⟩:=R0.len;clear R0 hh
 go_enter func177,ntmps177
 go_wp2
 go_loopw [8] (fun i wr=>∃j:Nat,j<=l.length/\i= .int .i64 j/\Hid ((l.take j).any P=false)/\Hid (Below w.heap.size w wr)) (fun i _=>l.length - (intOf i).toNat)
 case atStart=>exact⟨0,Nat.zero_le _,rfl,by show (l.take 0).any P=false;simp,qR w⟩
 case round =>
  obtain⟨j,hj,rfl,HW,HB⟩:=hrel
  by_cases hlt:j<l.length
  ·obtain⟨p,hp⟩:∃x,l[j]?=some x:=⟨l[j],by simp[hlt]⟩;obtain⟨ao',cap',e',_,hcs⟩:=HR.out.below HB.out;cases e';obtain⟨b,off,rfl,hcell⟩:=hcs (by intro h;subst h;simp at hlt);obtain⟨mo,mc,a0,a1,hP⟩:=hcell j p hp;have HE2:Hid ((l.take (j+1)).any P=P p/\(P p=true->l.any P=true)):=⟨by rw[ze6 hp,HW.out,Bool.false_or],fun h=>List.any_eq_true.2 ⟨p,List.mem_of_getElem? hp,h⟩⟩;have hsz:=HB.out.size;have HW2:=qH <| HH.out wr p _ HB.out (List.mem_of_getElem? hp) ⟨mo,mc,rfl,hP⟩;generalize P p=z at HW2 HE2;clear hp hcell hcs hP;obtain⟨pu,pm⟩:=p;simp only at a0 a1 HW2
   go_wp2_with fail
   refine HW2.out.mono ?_;rintro e w1 ⟨rfl,B1⟩;have HB1:=qH <| HB.out.trans (B1.mono hsz);clear B1;cases z with
   | false =>
    have HT:=qH HE2.out.1;clear HE2;go_wp2
    go_roundw
    case rel=>exact⟨j+1,by omega,by go_num,HT,HB1⟩
    case measure=>simp[intOf];omega
   | true =>
    have HT:=qH <| HE2.out.2 rfl;clear HE2;go_wp2;go_ret;exact⟨j,rfl,by rw[HT.out];simp,HB1.out⟩
  ·have hkl:j=l.length:=by omega
   subst hkl;go_wp2;go_ret;exact⟨-1,rfl,by have:=HW.out;rw[List.take_length] at this;rw[this];rfl,HB.out⟩
theorem zf3 (w:World)(v:Value)(l:List (Int×List Int))(R0:Pr.Ims w v l)(g:Nat)(cb:Array Value)(P:Int×List Int->Bool)(eg:∀args w,(callFunc g args).run prog w= .ok (.enter g args) w)
  (hh:∀W r u,Below w.heap.size w W->r∈l->Pr.ImIs W u r->Calls prog g (#[u]++cb) W fun e w'=>e= .returned (.bool (P r))/\Below W.heap.size W w') :
  Calls prog 136 #[v,.func (.func g) #[] cb] w fun e w'=>e= .returned (.bool (l.any P))/\Below w.heap.size w w':=by
 have h:=zks w v l R0 g cb P eg hh;obtain⟨aa,ca,rfl⟩:=R0.len;clear R0 hh
 go_enter func136,ntmps136
 go_wp2_with fail
 refine h.mono ?_;rintro e w1 ⟨i,rfl,hi,hb⟩;have HI:Hid _:=hi;clear hi;go_wp2;go_ret;exact⟨L.zaj HI.out,hb⟩
theorem zj0 (w:World)(v:Value)(l:List (List S.Sp))(R0:K.Ss w v l)(g:Nat)(cb:Array Value)(P:List S.Sp->Bool)(eg:∀args w,(callFunc g args).run prog w= .ok (.enter g args) w)
  (hh:∀W r u,Below w.heap.size w W->r∈l->K.SetIs W u r->Calls prog g (#[u]++cb) W fun e w'=>e= .returned (.bool (P r))/\Below W.heap.size W w') :
  Calls prog 175 #[v,.func (.func g) #[] cb] w fun e w'=>∃i:Int,e= .returned (.int .i64 i)/\decide (0<=i)=l.any P/\Below w.heap.size w w':=by
 have HR:=qH R0;have HH:=qH hh;have hl:=R0.few;obtain⟨lao,lcap,rfl⟩:=R0.len;clear R0 hh
 go_enter func175,ntmps175
 go_wp2
 go_loopw [8] (fun i wr=>∃j:Nat,j<=l.length/\i= .int .i64 j/\Hid ((l.take j).any P=false)/\Hid (Below w.heap.size w wr)) (fun i _=>l.length - (intOf i).toNat)
 case atStart=>exact⟨0,Nat.zero_le _,rfl,by show (l.take 0).any P=false;simp,qR w⟩
 case round =>
  obtain⟨j,hj,rfl,HW,HB⟩:=hrel
  by_cases hlt:j<l.length
  ·obtain⟨p,hp⟩:∃x,l[j]?=some x:=⟨l[j],by simp[hlt]⟩;obtain⟨b,off,so,sc,rfl,a0,hP,hF⟩:=(HR.out.below HB.out).at hp;have HE2:Hid ((l.take (j+1)).any P=P p/\(P p=true->l.any P=true)):=⟨by rw[ze6 hp,HW.out,Bool.false_or],fun h=>List.any_eq_true.2 ⟨p,List.mem_of_getElem? hp,h⟩⟩;have hsz:=HB.out.size;have HW2:=qH <| HH.out wr p _ HB.out (List.mem_of_getElem? hp) ⟨⟨so,sc,rfl⟩,hP,hF⟩;generalize P p=z at HW2 HE2;clear hp hP
   go_wp2_with fail
   refine HW2.out.mono ?_;rintro e w1 ⟨rfl,B1⟩;have HB1:=qH <| HB.out.trans (B1.mono hsz);clear B1;cases z with
   | false =>
    have HT:=qH HE2.out.1;clear HE2;go_wp2
    go_roundw
    case rel=>exact⟨j+1,by omega,by go_num,HT,HB1⟩
    case measure=>simp[intOf];omega
   | true =>
    have HT:=qH <| HE2.out.2 rfl;clear HE2;go_wp2;go_ret;exact⟨j,rfl,by rw[HT.out];simp,HB1.out⟩
  ·have hkl:j=l.length:=by omega
   subst hkl;go_wp2;go_ret;exact⟨-1,rfl,by have:=HW.out;rw[List.take_length] at this;rw[this];rfl,HB.out⟩
theorem zpt (w:World)(v:Value)(l:List (List S.Sp))(R0:K.Ss w v l)(g:Nat)(cb:Array Value)(P:List S.Sp->Bool)(eg:∀args w,(callFunc g args).run prog w= .ok (.enter g args) w)
  (hh:∀W r u,Below w.heap.size w W->r∈l->K.SetIs W u r->Calls prog g (#[u]++cb) W fun e w'=>e= .returned (.bool (P r))/\Below W.heap.size W w') :
  Calls prog 134 #[v,.func (.func g) #[] cb] w fun e w'=>e= .returned (.bool (l.any P))/\Below w.heap.size w w':=by
 have h:=zj0 w v l R0 g cb P eg hh;obtain⟨aa,ca,rfl⟩:=R0.len;clear R0 hh
 go_enter func134,ntmps134
 go_wp2_with fail
 refine h.mono ?_;rintro e w1 ⟨i,rfl,hi,hb⟩;have HI:Hid _:=hi;clear hi;go_wp2;go_ret;exact⟨L.zaj HI.out,hb⟩
end
section
open Go.RowKit Go.Shelf
theorem zq2 (w:World)(va:Value)(r:K.Rule)(u:Int)(bx:Nat)(Ra:K.RuIs w va r)(hr:K.ruleE r=0)(hc:w.heap[bx]?=some (.cells #[.int .i32 u] 21)) :
  Calls prog 176 (#[va]++#[.pointer (some ⟨bx,0,none⟩)]) w fun e w'=>e= .returned (.bool (Pr.hitB u r))/\Below w.heap.size w w':=by
 have hbl:=(qA.1 hc).1;have x0:∀o,(w.alloc o).cell? ⟨bx,0,none⟩=some (.int .i32 u):=fun o=>K.zai (K.zad (i:=0) hc rfl) o
 obtain⟨s,hs⟩:∃s,r.source[0]?=some s:=⟨r.source[0]'(K.zal hr).2.2.2.1,by simp⟩;have hok:=K.zf4 hr;have hsm:=(K.zal hr).2.1.1;unfold Pr.hitB;rw[K.zh2 hs] at hok ⊢;obtain⟨bo,bc,so,sc,ao,ac,tt,tc,rfl,_,hS,_⟩:=Ra;have hsl:=(K.zal hr).2.2.2.1;obtain⟨gb,go,s2,c2,rfl,hc0,hr0,_⟩:=hS.at hs;rw[Nat.add_zero] at hc0;have hcc:=fun o=>K.zai hc0 o
 have HH:Hid (∀o W,Below (w.alloc o).heap.size (w.alloc o) W->Calls prog 17 #[.slice s2 s.length c2,.int .i32 u] W fun e w'=>e= .returned (.bool (S.memb s u))/\Below w.heap.size w w'):=fun o W hW=>by
  have hB:=((qR w).alloc qN o).trans (hW.mono (by simp));exact(zde W _ s u (hr0.below hB qN) hok.1 hok.2).mono fun e w' ⟨h1,h2⟩=>⟨h1,hB.trans (h2.mono hB.size)⟩
 have HA:=qH <| fun o=>(qR w).alloc qN o
 generalize S.memb s u=z at HH ⊢;obtain⟨st,fi,be,sou,af,ta,cu⟩:=r;simp only at hsl hsm ⊢;clear hc hs hok hS hr0 hc0 hr;show Calls prog 176 #[_,.pointer (some ⟨bx,0,none⟩)] w _
 by_cases q:sou.length=1
 ·rw[q,show (decide ((1:Nat)=1)&&z)=z from by simp]
  go_enter func176,ntmps176
  go_wp2_with fail
  go_region_with (go_at_call 17;refine(HH.out _ _ (by first | exact qR _ | exact(qR _).drew)).mono ?_;rintro e w1 ⟨rfl,z1⟩)
  all_goals go_wp2
  all_goals go_ret
  all_goals exact⟨rfl,by assumption⟩
 ·have q2:((sou.length:Int)==1)=false:=by simp;omega
  have q3:decide ((sou.length:Int)=1)=false:=by simp;omega
  have q4:decide (sou.length=1)=false:=by simp;omega
  rw[q4,Bool.false_and]
  go_enter func176,ntmps176
  go_wp2_with fail
  go_quiet (fail)
  go_wp2;go_ret
  exact⟨by simp,below_drewN (HA.out _) _⟩
theorem zni (w0 w:World)(hB:Below w0.heap.size w0 w)(v:Value)(l:List K.Rule)(R0:V.Rus w0 v l)(hl:l.length<=200)(hE:∀r∈l,K.ruleE r=0)(u:Int) :
  Calls prog 135 #[v,.int .i32 u] w fun e w'=>∃v',e= .returned v'/\L.Rd w' v' .i32 (Pr.made l u)/\(Pr.made l u≠ []->∀g,v'.ownBlock=some g->g<w0.heap.size∨w.heap.size<=g)/\Below w.heap.size w w':=by
 have hmf:∀(fn:Fn) (first cap:Array Value) (w:World),(Instr.makeFunc fn first cap).run prog w= .ok (.func fn first cap) w:=fun _ _ _ _=>rfl
 obtain⟨X,hX⟩:∃X,X=w.alloc (.cells #[.int .i32 u] 21):=⟨_,rfl⟩;have hb:=K.zau (w:=w) (qR (w.alloc (.cells #[.int .i32 u] 21)));rw[<- hX] at hb
 have HC:Hid (Calls prog 75 #[v,.func (.func 176) #[] #[.pointer (some ⟨w.heap.size,0,none⟩)]] X fun e w'=>e= .returned (.int .i64 (Pr.firstI (Pr.hitB u) l))/\Below X.heap.size X w') :=
  zcj X v l ((R0.below hB).below hb.2.1) 176 _ (Pr.hitB u) (enters_of func176 (by kernel_rfl) rfl)
   (fun W r v' hW hr hu=>zq2 W v' r u w.heap.size hu (hE r hr) (K.zae hb.1 hW))
 have HX:=qH hb;have HR:Hid (V.Rus w0 v l/\Below w0.heap.size w0 w):=⟨R0,hB⟩;obtain⟨aa,ca,rfl⟩:=R0.len;clear R0 hb hE hB;rcases Pr.zd3 (P:=Pr.hitB u) (l:=l) with hk | ⟨j,r,hj,hh,hk⟩
 ·have hm:Pr.made l u= [u]:=by unfold Pr.made;rw[hk,if_pos (by decide)]
  rw[hm];rw[hk] at HC;clear hk hm
  go_enter func135,ntmps135
  go_wp2_with fail
  rw[<- hX];refine HC.out.mono ?_;rintro e w1 ⟨rfl,b1⟩;have h1:=K.zae HX.out.1 b1;have y0:=K.zad (i:=0) h1 rfl;have HB1:=qH <| HX.out.2.1.trans (b1.mono (by have:=HX.out.2.2;omega));clear b1 HC hX h1;have HN:=qH <| fun o=>HB1.out.alloc HB1.out.size o
  have HNw:Hid ((w1.alloc (.cells #[.int .i32 u] 21)).heap[w1.heap.size]?=some (.cells #[.int .i32 u] 21)):=heap_alloc_new w1 _;have HSz:=qH HB1.out.size;go_wp2;go_ret;refine⟨_,rfl,⟨_,_,rfl,fun e=>(by cases e),fun _=>⟨_,0,rfl,fun j y hj=> ?_⟩⟩,fun _ g hg=> ?_,HN.out _⟩
  ·match j,hj with
   | 0,hj=>cases hj;exact K.zad HNw.out rfl
   | n+1,hj=>simp at hj
  ·cases hg;exact .inr HSz.out
 ·have hm:Pr.made l u=r.target:=by unfold Pr.made;rw[hk,if_neg (by omega),Int.toNat_natCast,hj];rfl
  rw[hm];rw[hk] at HC;clear hk hm hh;have hjl:=(qL.1 hj).1;have hjz:(j:Int)<(l.length:Int):=by omega
  obtain⟨ao',cap',e',_,hcs⟩:=HR.out.1;cases e';obtain⟨b,off,rfl,hcell⟩:=hcs (by intro h;subst h;simp at hj);obtain⟨bo,bc,so,sc,ao,ac,tgo,tc,_,_,_,_,_,a5,_,hP⟩:=hcell j r hj;obtain⟨bo',bc',so',sc',ao',ac',tgo',tc',e',_,_,_,hT,_⟩:=hP;have e2:=Value.agg.inj e';simp only[Array.mk.injEq,List.cons.injEq,Value.slice.injEq,true_and,and_true] at e2;obtain⟨⟨rfl,rfl⟩,⟨rfl,rfl⟩,⟨rfl,rfl⟩,rfl,rfl⟩:=e2
  have HT:Hid (L.Rd w0 (.slice tgo r.target.length tc) .i32 r.target/\(r.target≠ []->∀g,(Value.slice tgo r.target.length tc).ownBlock=some g->g<w0.heap.size∨w.heap.size<=g)):=by
   refine⟨hT,fun hne g hg=> .inl ?_⟩;obtain⟨a,c,e,_,hc⟩:=hT;cases e;obtain⟨b',o',rfl,hc'⟩:=hc hne;cases hg;obtain⟨z,zs,hz⟩:=List.exists_cons_of_ne_nil hne;exact L.block_lt (hc' 0 z (by rw[hz];rfl))
  have HA5:=qH a5;clear hT hcs hcell hj e' a5
  go_enter func135,ntmps135
  go_wp2_with fail
  rw[<- hX];refine HC.out.mono ?_;rintro e w1 ⟨rfl,b1⟩;have HB1:=qH <| HX.out.2.1.trans (b1.mono (by have:=HX.out.2.2;omega));have HB0:=qH <| HR.out.2.trans (HB1.out.mono HR.out.2.size);have c5:w1.cell? ⟨b,off+j*7+5,none⟩=some (.slice tgo r.target.length tc):=by rw[HB0.out.cell (p:=⟨b,off+j*7+5,none⟩) (L.block_lt HA5.out)];exact HA5.out
  clear b1 HC hX;go_wp2;go_ret;exact⟨_,rfl,HT.out.1.below HB0.out qN,HT.out.2,HB1.out⟩
theorem Tryz.infoImage:(prog.info? 218).map (fun i=>(i.zero,i.size,i.bytes))=some (some (.agg #[.int .i32 0,.slice none 0 0]),2,32):=by kernel_rfl
namespace Pr
def IRow (w:World) (g:Nat) (cur:List Value):Prop:=w.heap[g]?=some (.cells cur.toArray 218 (0,0))
theorem IRow.cell {w:World}{g:Nat}{cur:List Value}(h:IRow w g cur)(j:Nat):w.cell? ⟨g,j,none⟩=cur[j]?:=by
 simp[World.cell?,show w.heap[g]?=_ from h]
theorem IRow.free {w:World}{g:Nat}{cur:List Value}(h:IRow w g cur)(j:Nat):w.frozen? ⟨g,j,none⟩=false:=frozen_of_row w g j _ _ h
theorem IRow.set {w:World}{g k:Nat}{cur:List Value}(h:IRow w g cur)(u:Value):IRow (w.setCell ⟨g,k,none⟩ u) g (cur.set k u):=by
 have:=heap_setCell_same w g k _ _ u h;unfold IRow;rw[this];simp
theorem zto (w:World)(n:Nat)(hn:n<=8000):∃W cur,(∀kl kc,(Instr.makeSlice 156 (.int kl (n:Int)) (.int kc (n:Int))).run prog w= .ok (.slice (some ⟨w.heap.size,0,none⟩) n n) W)/\IRow W w.heap.size cur/\cur.length=n*2/\Below w.heap.size w W:=by
 obtain⟨i0,hi,hz0,hz1,hz2⟩:=info_parts Tryz.infoImage;have hr:=fun kl kc=>run_make (P:=prog) w 156 218 i0 (.agg #[.int .i32 0,.slice none 0 0]) underlying156 hi hz0 kl kc n n (by omega) (Int.le_refl _) (by rw[hz2];omega) (by omega)
 simp only[Int.toNat_natCast] at hr;have h1:=Go.heap_alloc_new w (.cells (madeCells (Value.agg #[.int .i32 0,.slice none 0 0]).cells (n*i0.size)) 218);refine⟨_,(madeCells (Value.agg #[.int .i32 0,.slice none 0 0]).cells (n*i0.size)).toList,hr,?_,?_,(qR w).alloc qN _⟩
 ·unfold IRow;rw[h1]
 ·rw[hz1];simp[madeCells]
def Mk (forth:List K.Rule) (dom:List Int) (w wr:World) (k:Nat) (cur:List Value):Prop :=
 IRow wr w.heap.size cur/\cur.length=dom.length*2/\Below w.heap.size w wr/\∀(j:Nat) u,j<k->dom[j]?=some u->∃mo mc,cur[j*2]?=some (.int .i32 u)/\cur[j*2+1]?=some (.slice mo (made forth u).length mc)/\L.Rd wr (.slice mo (made forth u).length mc) .i32 (made forth u)/\(made forth u≠ []->(Value.slice mo (made forth u).length mc).ownBlock≠some w.heap.size)
theorem Mk.below {forth:List K.Rule}{dom:List Int}{w wr w':World}{k:Nat}{cur:List Value}(h:Mk forth dom w wr k cur)(hb:Below wr.heap.size wr w'):Mk forth dom w w' k cur:=by
 obtain⟨h1,h2,h3,h4⟩:=h;refine⟨K.zae h1 hb,h2,h3.trans (hb.mono h3.size),fun j u hj hu=> ?_⟩;obtain⟨mo,mc,g1,g2,g3,g4⟩:=h4 j u hj hu;exact⟨mo,mc,g1,g2,g3.below hb qN,g4⟩
theorem Mk.put {forth:List K.Rule}{dom:List Int}{w wr:World}{k:Nat}{cur:List Value}(h:Mk forth dom w wr k cur){u:Int}(hu:dom[k]?=some u){mo:Option Addr}{mc:Nat}(hr:L.Rd wr (.slice mo (made forth u).length mc) .i32 (made forth u))(hne:made forth u≠ []->(Value.slice mo (made forth u).length mc).ownBlock≠some w.heap.size) :
  Mk forth dom w ((wr.setCell ⟨w.heap.size,k*2,none⟩ (.int .i32 u)).setCell ⟨w.heap.size,k*2+1,none⟩ (.slice mo (made forth u).length mc)) (k+1) ((cur.set (k*2) (.int .i32 u)).set (k*2+1) (.slice mo (made forth u).length mc)):=by
 obtain⟨h1,h2,h3,h4⟩:=h
 have keep:∀v z,L.Rd wr v .i32 z->(z≠ []->v.ownBlock≠some w.heap.size)->L.Rd ((wr.setCell ⟨w.heap.size,k*2,none⟩ (.int .i32 u)).setCell ⟨w.heap.size,k*2+1,none⟩ (.slice mo (made forth u).length mc)) v .i32 z:=fun v z hv hz=>by
  refine K.zbd hv fun hz1 b hb=> ?_
  have:b≠w.heap.size:=fun e=>hz hz1 (by rw[hb,e])
  rw[heap_setCell_other _ ⟨w.heap.size,k*2+1,none⟩ b _ (by simpa using this),heap_setCell_other _ ⟨w.heap.size,k*2,none⟩ b _ (by simpa using this)]
 have hlt:=(qL.1 hu).1;refine⟨(h1.set _).set _,by simpa using h2,(h3.setCell (p:=⟨w.heap.size,k*2,none⟩) qN _).setCell (p:=⟨w.heap.size,k*2+1,none⟩) qN _,fun j q hj hq=> ?_⟩
 by_cases e:j=k
 ·subst e;rw[hu] at hq;cases hq;refine⟨mo,mc,?_,?_,keep _ _ hr hne,hne⟩
  ·rw[List.getElem?_set_ne (by omega)];exact List.getElem?_set_self (by omega)
  ·exact List.getElem?_set_self (by simp;omega)
 ·obtain⟨mo',mc',g1,g2,g3,g4⟩:=h4 j q (by omega) hq;refine⟨mo',mc',?_,?_,keep _ _ g3 g4,g4⟩
  ·rw[List.getElem?_set_ne (by omega),List.getElem?_set_ne (by omega)];exact g1
  ·rw[List.getElem?_set_ne (by omega),List.getElem?_set_ne (by omega)];exact g2
end Pr
theorem zn7 (w:World)(v:Value)(l:List K.Rule)(R0:V.Rus w v l)(hl:l.length<=200)(hE:∀r∈l,K.ruleE r=0)(vd:Value)(dom:List Int)(Rd:L.Rd w vd .i32 dom)(hd:dom.length<=40) :
  Calls prog 84 #[v,vd] w fun e w'=>∃v',e= .returned v'/\Pr.Ims w' v' (Pr.images l dom)/\Below w.heap.size w w':=by
 have HR:Hid (V.Rus w v l/\∀r∈l,K.ruleE r=0):=⟨R0,hE⟩;obtain⟨W,cur0,hmk,hrow,hcl,hB⟩:=Pr.zto w dom.length (by omega);have HW:Hid (Pr.Mk l dom w W 0 cur0):=⟨hrow,hcl,hB,fun j p hj=>by omega⟩;obtain⟨aa,ca,rfl⟩:=R0.len;obtain⟨xo,xc,rfl,_,hcs⟩:=Rd;have HC:=qH hcs;clear R0 hE hrow hB hcl hcs
 go_enter func84,ntmps84
 go_wp2
 go_loopw [13] (fun i wr=>∃(k:Nat) (cur:List Value),k<=dom.length/\i= .int .i64 k/\Hid (Pr.Mk l dom w wr k cur)) (fun i _=>dom.length - (intOf i).toNat)
 case atStart=>exact⟨0,_,Nat.zero_le _,rfl,HW⟩
 case round =>
  obtain⟨k,cur,hk,rfl,HI⟩:=hrel
  by_cases hlt:k<dom.length
  ·obtain⟨u,hu⟩:∃x,dom[k]?=some x:=⟨dom[k],by simp[hlt]⟩;obtain⟨b,off,rfl,hcell⟩:=HC.out (by intro h;rw[h] at hlt;simp at hlt);have c0:=hcell k u hu;rw[<- HI.out.2.2.1.cell (p:=⟨b,off+k,none⟩) (L.block_lt c0)] at c0;have HM:=zni w wr HI.out.2.2.1 _ l HR.out.1 hl HR.out.2 u;have HMd:=qH HM;have HQ:=qH hu;clear hcell hu HM
   go_wp2_with fail
   refine HMd.out.mono ?_;rintro e w1 ⟨v1,rfl,d1,n1,b1⟩;have hsz:=lt_of_block HI.out.1;have hM1:=HI.out.below b1;obtain⟨mo,mc,rfl⟩:∃mo mc,v1= .slice mo (Pr.made l u).length mc:=by obtain⟨a,c,h,_⟩:=d1;exact⟨a,c,h⟩
   have hput:=hM1.put HQ.out d1 (fun h e=>by have:=n1 h _ e;omega);have hcl:k*2+1<cur.length:=by have:=HI.out.2.1;omega
   obtain⟨n,hn⟩:∃n,n=(Pr.made l u).length:=⟨_,rfl⟩;rw[<- hn] at hput;have HN:=qH hput;have k1:w1.cell? ⟨w.heap.size,k*2,none⟩=some (cur[k*2]):=by rw[hM1.1.cell];simp[show k*2<cur.length by omega]
   have k2:w1.cell? ⟨w.heap.size,k*2+1,none⟩=some (cur[k*2+1]):=by rw[hM1.1.cell];simp[hcl]
   have fz1:w1.frozen? ⟨w.heap.size,k*2,none⟩=false:=hM1.1.free _;have fz2:w1.frozen? ⟨w.heap.size,k*2+1,none⟩=false:=hM1.1.free _;rw[<- hn];clear b1 hM1 HMd d1 n1 hput hn;go_wp2
   go_roundw
   case rel=>exact⟨k+1,_,by omega,by go_num,HN⟩
   case measure=>simp[intOf];omega
  ·have hkl:k=dom.length:=by omega
   subst hkl;go_wp2;go_ret;obtain⟨h1,h2,h3,h4⟩:=HI.out;have hil:(Pr.images l dom).length=dom.length:=by unfold Pr.images;simp
   refine⟨_,rfl,⟨_,_,by rw[hil];rfl,by rw[hil];omega,fun _=>⟨w.heap.size,0,rfl,fun j m hj=> ?_⟩⟩,h3⟩;unfold Pr.images at hj;rw[List.getElem?_map] at hj;cases hp:dom[j]? with
   | none=>rw[hp] at hj;cases hj
   | some u =>
    rw[hp] at hj;cases hj;obtain⟨mo,mc,g1,g2,g3,_⟩:=h4 j u (qL.1 hp).1 hp;exact⟨mo,mc,by rw[h1.cell,Nat.zero_add];exact g1,by rw[h1.cell,Nat.zero_add];exact g2,g3⟩
end
section
open Go.RowKit Go.Lib
theorem zt1 (w:World)(n:Nat)(hn:n<=8000) :
  Calls prog 203 #[.slice none 0 0,.int .i64 n] w fun e w'=>∃v,e= .returned v/\w'.ownsRow w.heap.size 21 1 v 0 []/\Below w.heap.size w w':=by
 by_cases h0:n=0
 ·subst h0
  go_enter func203,ntmps203
  go_wp2;go_ret
  exact⟨_,rfl,World.ownsRow_nil _ _ _ _,qR _⟩
 ·obtain⟨i0,hi,hz0,hz1,hz2⟩:=info_parts Tryz.infoI32;have hG:n<=grownCap w n 0 21:=grownCap_ge w _ _ _;have hG63:=grownCap_le_maxLen w n 0 21 (by unfold maxLen;omega)
  have hrz:∀ty,(Builtin.append_ #[33,3] ty #[.slice none 0 0,.int .i64 (n:Int)]).run prog w =
    .ok (.slice (some ⟨w.heap.size,0,none⟩) n (grownCap w n 0 21)) (w.drew.alloc (.cells (([]:List Value).toArray++Builtin.zeroCells (Value.int .i32 0).cells n++Builtin.zeroCells (Value.int .i32 0).cells (grownCap w n 0 21 - n)) 21)):=fun ty=>by
   have h:=Lib.run_append_grow_zeros w 33 3 ty 21 i0 (.int .i32 0) .i64 .i64 underlying33 underlying3 hi hz0 none 0 0 [] (run_firstCells_none w.drew i0.size 0 0 0) n (by omega) (by omega) (by omega) (by omega)
    (by rw[hz2];omega) (by rw[hz2];exact growslice_fits (by omega) (by omega))
   simpa using h
  obtain⟨Gc,hGc⟩:∃Gc,Gc=grownCap w n 0 21:=⟨_,rfl⟩;rw[<- hGc] at hrz hG hG63
  have HO:Hid ((w.drew.alloc (.cells (([]:List Value).toArray++Builtin.zeroCells (Value.int .i32 0).cells n++Builtin.zeroCells (Value.int .i32 0).cells (Gc - n)) 21)).ownsRow w.heap.size 21 1 (.slice (some ⟨w.heap.size,0,none⟩) 0 Gc) 0 []) :=
   World.ownsRow_made w.drew _ Gc qN hG63 (by simp[Builtin.zeroCells,Value.cells];omega)
  have HB:Hid (Below w.heap.size w (w.drew.alloc (.cells (([]:List Value).toArray++Builtin.zeroCells (Value.int .i32 0).cells n++Builtin.zeroCells (Value.int .i32 0).cells (Gc - n)) 21))):=(qR w).drew.alloc qN _;generalize (w.drew.alloc (.cells (([]:List Value).toArray++Builtin.zeroCells (Value.int .i32 0).cells n++Builtin.zeroCells (Value.int .i32 0).cells (Gc - n)) 21))=W at *;unfold maxLen at hG63;clear hGc
  go_enter func203,ntmps203
  go_wp2_with (at_builtin;refine Lib.wpList_append_run _ rfl _ _ _ _ rfl _ _ rfl rfl _ _ (hrz _) ?_)
  all_goals
   go_ret;exact⟨_,rfl,HO.out,HB.out⟩
end
section
open Go.RowKit Go.Lib
theorem zdg (w:World)(b:Nat)(v1 v2:Value)(z1 z2:List Int)(c1:w.cell? ⟨b,0,none⟩=some v1)(c2:w.cell? ⟨b,1,none⟩=some v2)(R1:L.Rd w v1 .i32 z1)(R2:L.Rd w v2 .i32 z2)(hl:z1.length+z2.length<=4000) :
  Calls prog 178 #[.slice (some ⟨b,0,none⟩) 2 2] w fun e w'=>∃v,e= .returned v/\w'.ownsRow w.heap.size 21 1 v (z1++z2).length ((z1++z2).map (Value.int .i32))/\Below w.heap.size w w':=by
 obtain⟨i0,hi,hz0,hz1,hz2⟩:=info_parts Tryz.infoI32;have HR1:=qH R1;have HR2:=qH R2;obtain⟨a1,k1,rfl,_⟩:=R1;obtain⟨a2,k2,rfl,_⟩:=R2;have hb:=L.block_lt c1
 go_enter func178,ntmps178
 go_wp2;refine wp_loop_rounds 3 ?_
 rw[rounds_succ];go_wp2;rw[rounds_succ];go_wp2;rw[rounds_succ];go_wp2_with fail;have hgr:=zt1 w (z1.length+z2.length) (by omega);rw[Int.natCast_add] at hgr;refine hgr.mono ?_;clear hgr;rintro e W ⟨v,rfl,own,hbl⟩;have HO:=qH own;have HB:=qH hbl;have d1:W.cell? ⟨b,0,none⟩=some (.slice a1 z1.length k1):=by rw[hbl.cell (p:=⟨b,0,none⟩) hb];exact c1
 have d2:W.cell? ⟨b,1,none⟩=some (.slice a2 z2.length k2):=by rw[hbl.cell (p:=⟨b,1,none⟩) hb];exact c2
 have HC2:=qH c2;clear own hbl c1 c2;go_wp2;refine wp_loop_rounds 3 ?_;rw[rounds_succ]
 go_wp2_with (at_builtin;go_must (refine L.za2 rfl _ _ 33 rfl w.heap.size 21 i0 .i32 4 underlying33 hi hz0 hz1 hz2 _ _ _ rfl HO.out _ z1 rfl (HR1.out.below HB.out qN) (by unfold maxLen;omega) (by omega) HB.out.size ?_;intro v' W1 own1 grown1))
 have HO1:=qH own1;have HB1:=qH <| HB.out.grown grown1 HB.out.size fun k hk=>(HO.out.lt k hk).1
 have f2:W1.cell? ⟨b,1,none⟩=some (.slice a2 z2.length k2):=by rw[HB1.out.cell (p:=⟨b,1,none⟩) hb];exact HC2.out
 clear own1 grown1 d1 d2;rw[rounds_succ]
 go_wp2_with (at_builtin;go_must (refine L.za2 rfl _ _ 33 rfl w.heap.size 21 i0 .i32 4 underlying33 hi hz0 hz1 hz2 _ _ _ rfl HO1.out _ z2 rfl (HR2.out.below HB1.out qN) (by unfold maxLen;omega) (by omega) HB1.out.size ?_;intro v'' W2 own2 grown2))
 have HO2:=qH own2;have HB2:=qH <| HB1.out.grown grown2 HB1.out.size fun k hk=>(HO1.out.lt k hk).1
 clear own2 grown2 f2;rw[rounds_succ];go_wp2;go_ret;refine⟨_,rfl,?_,HB2.out⟩;have h:=HO2.out;rw[show 0+z1.length+z2.length=(z1++z2).length by simp,show []++z1.map (Value.int .i32)++z2.map (Value.int .i32)=(z1++z2).map (Value.int .i32) by simp] at h;exact h
