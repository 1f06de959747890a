import Derived.Test.YtcadaallpiekiaaGreatDoorZSort
set_option maxHeartbeats 0
set_option maxRecDepth 20000
set_option linter.unusedSimpArgs false
set_option linter.unusedVariables false
namespace Go.Proofs.YtcadaallpiekiaaGreatDoor
open Go.Proofs.Tryz
section
open Go.RowKit Go.Shelf
namespace J
def ends (s:List S.Sp):List Int:=s.flatMap fun x=> [x.1,x.2+1]
def edgesL (l:List K.Rule):List Int:= [0,1114112]++l.flatMap fun r=>ends (K.headS r)
theorem zqm {s:List S.Sp}{k:Nat}{x:S.Sp}(h:s[k]?=some x):ends (s.take (k+1))=ends (s.take k)++ [x.1,x.2+1]:=by
 unfold ends;rw[List.take_add_one,h,List.flatMap_append];simp
theorem zk6 {l:List K.Rule}{k:Nat}{r:K.Rule}(h:l[k]?=some r):edgesL (l.take (k+1))=edgesL (l.take k)++ends (K.headS r):=by
 unfold edgesL;rw[List.take_add_one,h,List.flatMap_append,List.append_assoc];simp
theorem zl7 (s:List S.Sp):(ends s).length=2*s.length:=by
 unfold ends
 induction s with
 | nil=>rfl
 | cons x s ih=>rw[List.flatMap_cons,List.length_append,ih];simp;omega
theorem zg3 {l:List K.Rule}(hE:∀r∈l,K.ruleE r=0):(edgesL l).length<=2+400*l.length:=by
 induction l with
 | nil=>simp[edgesL]
 | cons x l ih =>
  have h1:=(K.zcb (hE x (List.mem_cons_self ..))).2;have h2:=ih fun r hr=>hE r (List.mem_cons_of_mem _ hr)
  have h3:=zl7 (K.headS x);unfold edgesL at h2 ⊢;rw[List.length_append,show ([0,1114112]:List Int).length=2 from rfl] at h2 ⊢;rw[List.flatMap_cons,List.length_append,List.length_cons];omega
theorem two (W:World)(a b:Int):L.Rd (W.alloc (.cells #[.int .i32 a,.int .i32 b] 21)) (.slice (some ⟨W.heap.size,0,none⟩) 2 2) .i32 [a,b]:=by
 refine⟨_,_,rfl,by simp,fun _=>⟨W.heap.size,0,rfl,fun j x hj=> ?_⟩⟩
 have e:(W.alloc (.cells #[.int .i32 a,.int .i32 b] 21)).heap[W.heap.size]?=some (.cells #[.int .i32 a,.int .i32 b] 21):=by
  show (W.heap.push _)[W.heap.size]?=_;exact Array.getElem?_push_size
 match j,hj with
 | 0,hj=>exact K.zad e (by simpa using hj)
 | 1,hj=>exact K.zad e (by simpa using hj)
 | n+2,hj=>simp at hj
theorem own2 (w:World):(w.alloc (.cells #[.int .i32 0,.int .i32 1114112] 21)).ownsRow w.heap.size 21 1 (.slice (some ⟨w.heap.size,0,none⟩) 2 2) (edgesL []).length (Z.ints (edgesL [])):=by
 refine⟨rfl,.inr ⟨w.heap.size,2,#[.int .i32 0,.int .i32 1114112],rfl,qN,?_,qN,by unfold maxLen;omega,rfl,rfl⟩⟩;show (w.heap.push _)[w.heap.size]?=_;exact Array.getElem?_push_size
end J
theorem znm (w:World)(v:Value)(l:List K.Rule)(R0:V.Rus w v l)(hl:l.length<=200)(hE:∀r∈l,K.ruleE r=0) :
  Calls prog 209 #[v] w fun e w'=>∃(v':Value) (c:List Int),e=.returned v'/\c.Pairwise (· < ·)/\(∀y,y∈c↔y∈J.edgesL l)/\w'.ownsRow w.heap.size 21 1 v' c.length (Z.ints c)/\Bl w w':=by
 have HR:=qH R0;have HE:=qH hE;obtain⟨i0,hi,hz0,hz1,hz2⟩:=info_parts Tryz.infoI32;obtain⟨ao,cap,rfl⟩:=R0.len;clear R0 hE
 go_enter func209,ntmps209
 go_wp2_with fail
 go_loopw [3,11] (fun vo i wr=>∃k:Nat,k<=l.length/\i=.int .i64 k/\Hid (wr.ownsRow w.heap.size 21 1 vo (J.edgesL (l.take k)).length (Z.ints (J.edgesL (l.take k)))/\Bl w wr)) (fun _ i _=>l.length-(RowKit.intOf i).toNat)
 case atStart=>exact⟨0,Nat.zero_le _,rfl,J.own2 w,(qR w).alloc qN _⟩
 case round =>
  obtain⟨k,hk,rfl,HO⟩:=hrel;have hwr:=HO.out.2.size
  by_cases hlt:k<l.length
  ·obtain⟨p,hp⟩:∃x,l[k]?=some x:=⟨l[k],by simp[hlt]⟩;obtain⟨ba,oa,bo,bc,so,sc,ao2,ac,tt,tc,rfl,a0,a1,a2,a3,a4,a5,a6,hP⟩:=K.Rus.rule HR.out hp;have lift:∀b o x,w.cell? ⟨b,o,none⟩=some x->wr.cell? ⟨b,o,none⟩=some x:=fun b o x h=>by rw[(L.bcell HO.out.2).1 b o (L.block_lt h)];exact h
   replace a0:=lift _ _ _ a0
   replace a1:=lift _ _ _ a1
   replace a2:=lift _ _ _ a2
   replace a3:=lift _ _ _ a3
   replace a4:=lift _ _ _ a4
   replace a5:=lift _ _ _ a5
   replace a6:=lift _ _ _ a6
   have hep:=HE.out p (List.mem_of_getElem? hp);have hsp:=(K.zas hep).2.2.2.1;obtain⟨s,hs⟩:∃s,p.source[0]?=some s:=⟨p.source[0],by simp⟩;have hhd:=K.zfs hs;have hok:=K.zcb hep;rw[hhd] at hok;have hlen:=J.zg3 (l:=l.take k) fun r hr=>HE.out r (List.mem_of_mem_take hr)
   rw[List.length_take] at hlen;have HF:Hid (J.edgesL (l.take (k+1))=J.edgesL (l.take k)++J.ends s):=by show _=_;rw[J.zk6 hp,hhd]
   obtain⟨bo',bc',so',sc',ao',ac',tt',tc',hv,_,hS,_⟩:=hP;have hv2:=Value.agg.inj hv;simp only[Array.mk.injEq,List.cons.injEq,Value.slice.injEq,true_and,and_true] at hv2;obtain⟨⟨rfl,rfl⟩,⟨rfl,rfl⟩,⟨rfl,rfl⟩,rfl,rfl⟩:=hv2;obtain⟨gb,go,s2,c2,rfl,hc0,hr0,_⟩:=hS.at hs;rw[Nat.add_zero] at hc0;have HRd:=qH hr0
   replace hc0:=lift _ _ _ hc0
   have HNf:=qH hok.1;have hcc:=fun o=>K.zai hc0 o
   obtain⟨T,hT⟩:=qE (J.edgesL (l.take k));rw[<- hT] at HF HO hlen;have HOa:Hid (∀o,(wr.alloc o).ownsRow w.heap.size 21 1 u3 T.length (Z.ints T)/\Bl w (wr.alloc o)/\Bl wr (wr.alloc o)):=fun o=>⟨HO.out.1.alloc o,HO.out.2.alloc hwr o,(qR wr).alloc qN o⟩
   have hsl:=hok.2;clear hp hep hs hhd hok hv hS hr0 hc0 hT lift;obtain⟨st,fi,be,sou,af,ta,cu⟩:=p;simp only at a0 a1 a2 a3 a4 a5 a6 hsp
   go_wp2_with fail
   go_loopw [3,20] (fun vo i wx=>∃q:Nat,q<=s.length/\i=.int .i64 q/\Hid (wx.ownsRow w.heap.size 21 1 vo (T++J.ends (s.take q)).length (Z.ints (T++J.ends (s.take q)))/\Bl w wx)) (fun _ i _=>s.length-(RowKit.intOf i).toNat)
   case atStart =>
    refine⟨0,Nat.zero_le _,rfl,?_,(HOa.out _).2.1⟩;simp only[List.take_zero,J.ends,List.flatMap_nil,List.append_nil];exact(HOa.out _).1
   case round =>
    obtain⟨q,hq,rfl,HQ⟩:=hrel;have hw2:=HQ.out.2.size;clear HOa hcc a0 a1 a2 a3 a4 a5 a6
    by_cases hqs:q<s.length
    ·obtain⟨x,hx⟩:∃x,s[q]?=some x:=⟨s[q],by simp[hqs]⟩;have hxr:=HNf.out.mem (List.mem_of_getElem? hx);have HX:Hid (T++J.ends (s.take (q+1))=T++J.ends (s.take q)++ [x.1,x.2+1]):=by show _=_;rw[J.zqm hx,List.append_assoc]
     obtain⟨a9,c9,e9,_,hc9⟩:=HRd.out.below HQ.out.2 qN;cases e9;obtain⟨sb,sf,rfl,hcell⟩:=hc9 (by intro h;subst h;simp at hx);obtain⟨y0,y1⟩:=hcell q x hx;have hl3:=J.zl7 (s.take q);rw[List.length_take] at hl3;have HBx:=qH<|fun o o'=>((qR wr).alloc qN o).alloc (by simp) o'
     have HOx:=qH<|fun o o'=>(HQ.out.1.alloc o).alloc o'
     have h63:(T++J.ends (s.take q)).length+2<=200000:=by rw[List.length_append];omega
     obtain⟨x1,x2⟩:=x;simp only at hxr y0 y1 HX;generalize hU:T++J.ends (s.take q)=U at HX HOx h63 HQ;clear hU hl3;have HQB:=qH HQ.out.2
     have hblk:Hid (∀g,u3.ownBlock=some g->w.heap.size<=g):=fun g hg=>by
      obtain⟨_,⟨rfl,_⟩|⟨g',cap',cur',rfl,hb',_⟩⟩:=HQ.out.1
      ·cases hg
      ·cases hg;exact hb'
     have HTw:=qH<|fun o=>by
      have:=J.two (wr.alloc o) x1 (x2+1);rw[show (wr.alloc o).heap.size=wr.heap.size+1 by simp] at this;exact this
     obtain⟨hx1,hx2,hx3⟩:=hxr;clear HQ hcell hx hc9
     go_wp2_with (at_builtin;go_must (refine L.zbd rfl _ _ 42 rfl w.heap.size 21 i0 .i32 4 underlying42 hi hz0 hz1 hz2 _ _ _ rfl (HOx.out _ _) _ [x1,x2+1] rfl (HTw.out _) (by unfold maxLen;simp;omega) (by simp;omega) (by simp;omega) ?_;intro v' w4 own4 grown4))
     have HX4:Hid (w4.ownsRow w.heap.size 21 1 v' (T++J.ends (s.take (q+1))).length (Z.ints (T++J.ends (s.take (q+1))))/\Bl w w4):=by
      refine⟨?_,Below.grown (HQB.out.trans ((HBx.out _ _).mono hw2)) grown4 (by simp;omega) (fun j hj=>hblk.out j hj)⟩;rw[HX.out,List.length_append,Z.ints,List.map_append];exact own4
     go_roundw
     case rel=>exact⟨q+1,by omega,by go_num,HX4.out⟩
     case measure=>simp[RowKit.intOf];omega
    ·have hqe:q=s.length:=by omega
     subst hqe;rw[List.take_length,<- HF.out] at HQ
     go_wp2_with fail
     go_roundw
     case rel=>exact⟨k+1,by omega,by go_num,HQ.out⟩
     case measure=>simp[RowKit.intOf];omega
  ·have hke:k=l.length:=by omega
   subst hke;rw[List.take_length] at HO;have hlen:=J.zg3 HE.out;have hne:J.edgesL l≠ []:=by simp[J.edgesL]
   have hso:=zn5 wr w.heap.size u3 (J.edgesL l) HO.out.1 hne (by omega);have HSo:=qH hso
   have hblk:Hid (∀g,u3.ownBlock=some g->w.heap.size<=g):=fun g hg=>by
    obtain⟨_,⟨rfl,_⟩|⟨g',cap',cur',rfl,hb',_⟩⟩:=HO.out.1
    ·cases hg
    ·cases hg;exact hb'
   have hpos:=List.length_pos_iff.2 hne;clear hso
   go_wp2_with fail
   go_at_call 219
   refine HSo.out.mono ?_;rintro _ w2 ⟨rfl,R,hR,hS,hM,own2,gr2⟩;have hB2:=Below.grown HO.out.2 gr2 hwr (fun j hj=>hblk.out j hj);rw[<- hR] at own2;have hco:=zh4 w2 w.heap.size u3 R own2 (by omega) hS;have HCo:=qH hco;have HM:=qH hM;have HB2:=qH hB2;clear hco hM hB2 own2 gr2 HSo hS hR
   go_wp2_with fail
   go_at_call 220
   refine HCo.out.mono ?_;rintro _ w3 ⟨v',c,rfl,hp,hm,own3,gr3,hv'⟩;have HF:Hid (c.Pairwise (· < ·)/\(∀y,y∈c↔y∈J.edgesL l)/\w3.ownsRow w.heap.size 21 1 v' c.length (Z.ints c)/\Bl w w3):=⟨hp,fun y=>(hm y).trans (HM.out y),own3,Below.grown HB2.out gr3 HB2.out.size (fun j hj=>hblk.out j hj)⟩;clear hp hm own3 gr3 hv' HCo
   go_wp2_with fail
   go_ret;exact⟨v',c,rfl,HF.out⟩
end
section
open Go.RowKit
namespace K
theorem zkc {w:World}{xo:Option Addr}{xc:Nat}{t:List Int}(h:L.Rd w (.slice xo t.length xc) .i32 t){n:Nat}(hn:n<=t.length):L.Rd w (.slice xo n xc) .i32 (t.take n):=by
 obtain⟨ao,cap,he,hz,hc⟩:=h;cases he;refine⟨xo,xc,by rw[List.length_take,Nat.min_eq_left hn],hz,fun hne=> ?_⟩;obtain⟨b,off,rfl,hcell⟩:=hc (by intro h;subst h;simp at hne);refine⟨b,off,rfl,fun j z hj=>hcell j z ?_⟩;rw[List.getElem?_take] at hj;split at hj
 ·exact hj
 ·cases hj
theorem zej {w:World}{xo:Option Addr}{xc:Nat}{t:List Int}(h:L.Rd w (.slice xo t.length xc) .i32 t){d:Nat}(hd:d<=t.length)(hcap:t.length<=xc):L.Rd w (.slice (if xc=d then xo else Option.map (fun x=>x.add d) xo) (t.length-d) (xc-d)) .i32 (t.drop d):=by
 obtain⟨ao,cap,he,hz,hc⟩:=h;cases he;refine⟨_,_,by rw[List.length_drop],fun e=> ?_,fun hne=> ?_⟩
 ·cases xo with
  | none=>rw[hz rfl];simp
  | some a=>split at e <;> cases e
 ·have hp:=List.length_pos_iff.2 hne;rw[List.length_drop] at hp;obtain⟨b,off,rfl,hcell⟩:=hc (by intro h;subst h;simp at hp);rw[if_neg (by omega)];refine⟨b,off+d,by rw[Option.map_some,L.addr_add],fun j z hj=> ?_⟩;rw[List.getElem?_drop] at hj;rw[Nat.add_assoc];exact hcell _ z hj
end K
theorem K.zee (xo:Option Addr)(N xc n:Nat)(h:n<=xc)(w':World):(Instr.slice 42 (.slice xo N xc) none (some (.int .i64 (n:Int))) none).run prog w'=.ok (.slice xo n xc) w':=by
 have a1:(n:Int)<=xc:=by omega
 have a0:(0:Int)<=n:=by omega
 go_simp
theorem K.zbw (xo:Option Addr)(N xc D:Nat)(h:D<=N)(hc:N<=xc)(w':World):(Instr.slice 42 (.slice xo N xc) (some (.int .i64 (D:Int))) none none).run prog w'=.ok (.slice (if xc=D then xo else Option.map (fun x=>x.add D) xo) (N-D) (xc-D)) w':=by
 have a1:(D:Int)<=N:=by omega
 have a2:(N:Int)<=xc:=by omega
 have a0:(0:Int)<=D:=by omega
 go_simp
end
/-
 compile.Compile.
-/
section
open Go.RowKit Go.Shelf
namespace J
def Cuts (l:List K.Rule) (c:List Int):Prop:=c.Pairwise (· < ·)/\∀y,y∈c↔y∈edgesL l
def Comp (l:List K.Rule) (o:List Hd×Int×Int):Prop :=
 ((K.rulesF l).1≠0/\o=([],K.rulesF l))∨((K.rulesF l).1=0/\∃c,Cuts l c/\2<=c.length/\((400<c.length-1/\o=([],5,0))∨(c.length-1<=400/\o=(heads (begins l) c (c.length-1),0,0))))
theorem Cuts.two {l:List K.Rule}{c:List Int}(h:Cuts l c):2<=c.length:=by
 have h0:=(h.2 0).2 (by simp[edgesL]);have h1:(1114112:Int)∈c:=(h.2 _).2 (by simp[edgesL])
 match c,h0,h1 with
 | [],h0,_=>simp at h0
 | [x],h0,h1=>simp at h0 h1;omega
 | x::y::t,_,_=>simp
theorem mem_range {l:List K.Rule}(hE:∀r∈l,K.ruleE r=0){y:Int}(h:y∈edgesL l):0<=y/\y<=1114112:=by
 unfold edgesL at h;rcases List.mem_append.1 h with h|h
 ·simp at h;omega
 ·obtain⟨r,hr,h⟩:=List.mem_flatMap.1 h;unfold ends at h;obtain⟨x,hx,h⟩:=List.mem_flatMap.1 h;have:=(K.zcb (hE r hr)).1.mem hx;simp at h;omega
end J
theorem zi7 (w:World)(v:Value)(l:List K.Rule)(R0:V.Rus w v l) :
  Calls prog 195 #[v] w fun e w'=>∃(v':Value) (o:List J.Hd×Int×Int),J.Comp l o/\e=.returned (.tuple #[v',.agg #[.int .i64 o.2.1,.int .i64 o.2.2]])/\J.Own w.heap.size w' v' o.1/\Bl w w':=by
 have HA:=qH<|fun o=>(qR w).alloc qN o
 have HC:=qH<|fun o=>zek _ _ l (R0.below (HA.out o))
 have HE:Hid ((K.rulesF l).1=0->l.length<=200/\∀r∈l,K.ruleE r=0):=fun h=>⟨(K.zba h).1,(K.zba h).2.1⟩
 have HR:=qH R0;have HN:Hid ((K.rulesF l).1≠0->J.Comp l ([],K.rulesF l)):=fun h=> .inl ⟨h,rfl⟩
 have HY:Hid ((K.rulesF l).1=0->∀c,J.Cuts l c->∀o,((400<c.length-1/\o=([],5,0))∨(c.length-1<=400/\o=(J.heads (J.begins l) c (c.length-1),0,0)))->J.Comp l o):=fun h c hc o ho=> .inr ⟨h,c,hc,hc.two,ho⟩
 obtain⟨ao,cap,rfl⟩:=R0.len;obtain⟨⟨e1,e2⟩,he⟩:∃o,K.rulesF l=o:=⟨_,rfl⟩;rw[he] at HC HE HN HY;simp only at HC HE HN HY;clear he R0
 go_enter func195,ntmps195
 go_wp2_with fail
 refine(HC.out _).mono ?_;rintro e w1 ⟨rfl,b1⟩;obtain⟨h1,B1,s1⟩:=K.zau b1;have HB1:=qH B1;have HX1:Hid (w1.heap[w.heap.size]?=some (.cells #[.int .i64 0,.int .i64 0] 36)):=h1;obtain⟨x0,x1,f0,f1⟩:=K.box2 h1;have k0:=fun o=>K.zai x0 o
 have k1:=fun o=>K.zai x1 o
 have g0:=fun o=>K.zal h1 o 0
 have g1:=fun o=>K.zal h1 o 1
 have HB2:=qH<|fun o=>HB1.out.alloc (by omega) o
 clear b1 B1 HC x0 x1 f0 f1 h1
 by_cases q:e1=0
 ·subst q;obtain⟨hl,hE⟩:=HE.out rfl;have HE2:=qH hE;have HY2:=qH<|HY.out rfl;clear hE HE HN HY;obtain⟨X,hX⟩:=qE (w1.alloc (.cells #[.int .i64 0,.int .i64 e2] 36));have HXX:=qH hX;have HBX:Hid (Bl w X):=by show Below _ _ _;rw[hX];exact HB2.out _
  have hXs:w.heap.size<X.heap.size:=by rw[hX];simp;omega
  have HXb:Hid (X.heap[w.heap.size]?=some (.cells #[.int .i64 0,.int .i64 0] 36)):=by
   show X.heap[w.heap.size]?=_;rw[hX,Below.heap_alloc w1 _ w.heap.size (by omega)];exact HX1.out
  have HEd:=znm X (.slice ao l.length cap) l (HR.out.below HBX.out) hl HE2.out;have HEd2:Hid (∀Y,Y=X->Calls prog 209 #[.slice ao l.length cap] Y fun e w'=>∃(v':Value) (c:List Int),e=.returned v'/\c.Pairwise (· < ·)/\(∀y,y∈c↔y∈J.edgesL l)/\w'.ownsRow X.heap.size 21 1 v' c.length (Z.ints c)/\Bl X w'):=fun Y hY=>by rw[hY];exact HEd
  clear hX k0 k1 g0 g1 HEd
  go_wp2_with fail
  go_at_call 209
  refine(HEd2.out _ HXX.out.symm).mono ?_;rintro e w2 ⟨vc,c,rfl,hc1,hc2,own2,b2⟩;have HCu:Hid (J.Cuts l c):=⟨hc1,hc2⟩;have hc3:=J.Cuts.two ⟨hc1,hc2⟩;have HOw:=qH own2;have HB3:=qH b2;have hx2:=K.zae HXb.out b2;have hw2:w.heap.size<w2.heap.size:=by have:=b2.size;omega
  have HX2:=qH hx2;obtain⟨x0,x1,f0,f1⟩:=K.box2 hx2
  obtain⟨vg,vk,rfl,hvk,hvm⟩:∃g k,vc=.slice (some ⟨g,0,none⟩) c.length k/\c.length<=k/\k<=9223372036854775807:=by
   obtain⟨_,⟨rfl,h⟩|⟨g,k,cur,rfl,_,_,h,h',_⟩⟩:=own2
   ·omega
   ·exact⟨g,k,rfl,h,h'⟩
  have HCell:Hid (∀W,Bl w2 W->∀j,j<c.length->W.cell? ⟨vg,j,none⟩=some (.int .i32 (c.getD j 0))):=fun W hW j hj=>by
   obtain⟨ao',cap',h9,_,hcs⟩:=(L.Rd.zax own2).below hW qN;cases h9;obtain⟨b',off',h9,hcell⟩:=hcs (by intro h;subst h;simp at hj);cases h9;have:=hcell j c[j] (by simp[hj]);rw[Nat.zero_add] at this;rw[this];simp[List.getD,hj]
  have HRange:Hid (∀j,j<c.length->0<=c.getD j 0/\c.getD j 0<=1114112):=fun j hj=>by
   have:c.getD j 0∈c:=by simp[List.getD,hj]
   exact J.mem_range HE2.out ((hc2 _).1 this)
  clear hc1 hc2 own2 b2 hx2
  by_cases hm:400<c.length-1
  ·have HOo:=qH<|HY2.out c HCu.out _ (.inl ⟨hm,rfl⟩);go_wp2;refine bodyPost_ret (v:=.tuple #[.slice none 0 0,.agg #[.int .i64 5,.int .i64 0]]) (by simp[results,results195,go_sem, *]) rfl ?_;exact⟨_,_,HOo.out,rfl,J.Own.nil _ _,(((HBX.out.trans (HB3.out.mono (by omega))).setCell (p:=⟨w.heap.size,0,none⟩) qN _).setCell (p:=⟨w.heap.size,1,none⟩) qN _)⟩
  ·have HOo:=qH<|HY2.out c HCu.out _ (.inr ⟨by omega,rfl⟩)
   go_wp2_with fail
   go_loopw [6,27] (fun vo i wr=>∃k:Nat,k<=c.length-1/\i=.int .i64 k/\Hid (J.Own w2.heap.size wr vo (J.heads (J.begins l) c k)/\Bl w2 wr)) (fun _ i _=>c.length-1-(RowKit.intOf i).toNat)
   case atStart=>exact⟨0,Nat.zero_le _,rfl,J.Own.nil _ _,qR _⟩
   case round =>
    obtain⟨k,hk,rfl,HO⟩:=hrel;clear x0 x1 f0 f1;have hwr:=HO.out.2.size
    by_cases hlt:k<c.length-1
    ·have y0:=HCell.out wr HO.out.2 k (by omega);have y1:wr.cell? ⟨vg,1+k,none⟩=some (.int .i32 (c.getD (k+1) 0)):=by rw[Nat.add_comm 1 k];exact HCell.out wr HO.out.2 (k+1) (by omega)
     have r0:=HRange.out k (by omega);have r1:=HRange.out (k+1) (by omega);have HS:Hid (J.heads (J.begins l) c (k+1)=J.heads (J.begins l) c k++ [(c.getD k 0,c.getD (k+1) 0-1,J.begins l (c.getD k 0))]):=J.zeq _ _ _;have HLn:Hid ((J.heads (J.begins l) c k).length<=2000000):=by show _<=_;rw[J.zbk];omega
     generalize c.getD k 0=lo at y0 r0 HS;generalize c.getD (k+1) 0=nx at y1 r1 HS;generalize J.heads (J.begins l) c k=hs at HO HS HLn
     obtain⟨ua,un,uc,rfl⟩:∃a b c,u6=.slice a b c:=by
      obtain⟨ps,_,⟨_,⟨rfl,_⟩|⟨g,k,cur,rfl,_⟩⟩,_⟩:=HO.out.1
      ·exact⟨_,_,_,rfl⟩
      ·exact⟨_,_,_,rfl⟩
     obtain⟨Y,hY⟩:=qE (wr.alloc (.cells #[.int .i32 lo] 21));have hYw:Bl wr Y:=by rw[hY];exact(qR wr).alloc qN _
     have hYb:Y.heap[wr.heap.size]?=some (.cells #[.int .i32 lo] 21):=by
      rw[hY];show (wr.heap.push _)[wr.heap.size]?=_;exact Array.getElem?_push_size
     have hYs:wr.heap.size<Y.heap.size:=by rw[hY];simp
     have hBw:=((HBX.out.trans (HB3.out.mono (by omega))).trans (HO.out.2.mono (by omega))).trans (hYw.mono (by omega))
     have HCall:Hid (∀W,W=Y.drew->Calls prog 211 #[.slice ao l.length cap,.func (.func 210) #[] #[.pointer (some ⟨wr.heap.size,0,none⟩)]] W fun e w3=>∃vo vn vq,e=.returned (.slice vo vn vq)/\w3.cell? ⟨wr.heap.size,0,none⟩=some (.int .i32 lo) /\
       ∃v4 w4,(Builtin.append_ #[123,123] 123 #[.slice ua un uc,.slice (some ⟨w3.heap.size,0,none⟩) 1 1]).run prog (w3.alloc (.cells #[.int .i32 lo,.int .i32 (IntKind.i32.wrap (nx-1)),.slice vo vn vq] 154))=.ok v4 w4/\J.Own w2.heap.size w4 v4 (hs++ [(lo,nx-1,J.begins l lo)])/\Bl w2 w4):=fun W hW=>by
      subst hW;rw[show IntKind.i32.wrap (nx-1)=nx-1 by rw[IntKind.wrap_i32];omega];have hD:Bl Y Y.drew:=(qR Y).drew;refine(znk Y.drew _ l ((HR.out.below hBw).below hD) hl 210 #[.pointer (some ⟨wr.heap.size,0,none⟩)] (fun r=>S.memb (K.headS r) lo) (enters_of func210 (by kernel_rfl) rfl) (fun W r u hW hr hu=>zkt W u r lo wr.heap.size hu (HE2.out r hr) (K.zae hYb (hD.trans hW)))).mono ?_;rintro e w3 ⟨v3,he,own3,b3⟩;have b3':=hD.trans b3;have bw3:=hYw.trans (b3'.mono (by omega));obtain⟨v4,w4,r4,o4,B4⟩:=(HO.out.1.below bw3).push (HO.out.2.trans (bw3.mono hwr)) (by have:=bw3.size;omega) HLn.out lo (nx-1) (J.begins l lo) v3 (L.zbj own3 (by show w2.heap.size<=Y.heap.size;omega))
      obtain⟨vo,vn,vq,rfl⟩:∃a b c,v3=.slice a b c:=by
       obtain⟨_,⟨rfl,_⟩|⟨g,k,cur,rfl,_⟩⟩:=own3
       ·exact⟨_,_,_,rfl⟩
       ·exact⟨_,_,_,rfl⟩
      exact⟨vo,vn,vq,he,K.zad (K.zae hYb b3') rfl,v4,w4,r4,o4,B4⟩
     clear hYb hYw hBw HO hYs
     go_wp2_with fail
     rw[<- hY];have y2:Y.cell? ⟨wr.heap.size,0,none⟩=some (.int .i32 lo):=by rw[hY];exact K.zad (c:=#[.int .i32 lo]) (t:=21) (by show (wr.heap.push _)[wr.heap.size]?=_;exact Array.getElem?_push_size) rfl
     clear hY y0 y1;obtain⟨r2,r3⟩:=r1
     go_region_law
      (first
       | ((fail_if_success (have hz:=run4));go_simp;go_at_call 211;refine(HCall.out _ rfl).mono ?_;rintro e w3 ⟨vo,vn,vq,rfl,x3,v4,w4,run4,own4,b4⟩;have HX4:Hid (J.Own w2.heap.size w4 v4 (hs++ [(lo,nx-1,J.begins l lo)])/\Bl w2 w4):=⟨own4,b4⟩;clear own4 b4)
       | (have hh:=run4;clear hh;refine J.za7 (by rfl) (.tmp 37) (.tmp 45) (by rfl) (.slice ua un uc) (.slice (some ⟨w3.heap.size,0,none⟩) 1 1) v4 w4 (by rfl) (by rfl) run4 ?_))
     all_goals go_wp2
     all_goals go_roundw
     all_goals first|(exact⟨k+1,by omega,by go_num,by rw[HS.out];exact HX4.out⟩)|(simp[RowKit.intOf];omega)
    ·have hke:k=c.length-1:=by omega
     subst hke;have hx5:=K.zae HX2.out HO.out.2;obtain⟨x0,x1,f0,f1⟩:=K.box2 hx5
     have HFin:Hid (∀u u',J.Own w.heap.size ((wr.setCell ⟨w.heap.size,0,none⟩ u).setCell ⟨w.heap.size,1,none⟩ u') u6 (J.heads (J.begins l) c (c.length-1))/\Bl w ((wr.setCell ⟨w.heap.size,0,none⟩ u).setCell ⟨w.heap.size,1,none⟩ u')):=fun u u'=>by
      refine⟨(HO.out.1.kept fun g hg=> ?_).base (by omega),(((HBX.out.trans (HB3.out.mono (by omega))).trans (HO.out.2.mono (by omega))).setCell (p:=⟨w.heap.size,0,none⟩) qN _).setCell (p:=⟨w.heap.size,1,none⟩) qN _⟩;have hne:g≠w.heap.size:=by omega
      rw[heap_setCell_other _ ⟨w.heap.size,1,none⟩ g _ hne,heap_setCell_other _ ⟨w.heap.size,0,none⟩ g _ hne]
     clear hx5;go_wp2;refine bodyPost_ret (v:=.tuple #[u6,.agg #[.int .i64 0,.int .i64 0]]) (by simp[results,results195,go_sem, *]) rfl ?_;exact⟨u6,_,HOo.out,rfl,HFin.out _ _⟩
 ·have HNN:=qH<|HN.out q;go_wp2
  go_region
  go_wp2;refine bodyPost_ret (v:=.tuple #[.slice none 0 0,.agg #[.int .i64 e1,.int .i64 e2]]) (by simp[results,results195,go_sem, *]) rfl ?_
  exact⟨_,([],e1,e2),HNN.out,rfl,J.Own.nil _ _,(((HB2.out _).setCell (p:=⟨w.heap.size,0,none⟩) qN _).setCell (p:=⟨w.heap.size,1,none⟩) qN _).drew⟩
namespace J
theorem ze2 {s:List S.Sp}{y:Int}:y∈ends s↔∃x∈s,y=x.1∨y=x.2+1:=by
 unfold ends;rw[List.mem_flatMap];simp
theorem between {s:List S.Sp}:∀(n:Nat) {a q:Int},q=a+n->(∀y∈ends s,¬(a<y/\y<=q))->S.memb s q=S.memb s a:=by
 intro n
 induction n with
 | zero=>intro a q hq _;rw[hq];simp
 | succ n ih =>
  intro a q hq h;have h1:=ih (a:=a) (q:=q-1) (by omega) (fun y hy hh=>h y hy ⟨hh.1,by omega⟩);rw[<- h1];cases e1:S.memb s q with
  | true =>
   cases e2:S.memb s (q-1) with
   | true=>rfl
   | false =>
    obtain⟨x,hx,he⟩:=List.mem_map.1 (S.starts e1 e2);exact absurd ⟨by omega,by omega⟩ (h q (ze2.2 ⟨x,hx,.inl he.symm⟩))
  | false =>
   cases e2:S.memb s (q-1) with
   | false=>rfl
   | true =>
    obtain⟨x,hx,he⟩:=List.mem_map.1 (S.stops e1 e2);exact absurd ⟨by omega,by omega⟩ (h q (ze2.2 ⟨x,hx,.inr he.symm⟩))
theorem after {b:Int}{s:List S.Sp}(h:S.Nf b s){x:S.Sp}(hx:x∈s):S.memb s x.2=true/\S.memb s (x.2+1)=false:=by
 have h0:=h.mem hx;refine⟨S.za9.2 ⟨x,hx,h0.2.1,Int.le_refl _⟩,?_⟩;cases e:S.memb s (x.2+1) with
 | false=>rfl
 | true =>
  obtain⟨y,hy,h1,h2⟩:=S.za9.1 e;obtain⟨i,hi⟩:=List.getElem?_of_mem hx;obtain⟨j,hj⟩:=List.getElem?_of_mem hy;rcases Nat.lt_trichotomy i j with hij|rfl|hij
  ·have:=h.rise hij hi hj;omega
  ·rw[hi] at hj;cases hj;omega
  ·have:=h.rise hij hj hi;have:=h0.2.1;omega
theorem change {b:Int}{s:List S.Sp}(h:S.Nf b s){y:Int}(hy:y∈ends s):S.memb s y≠S.memb s (y-1):=by
 obtain⟨x,hx,rfl|rfl⟩:=ze2.1 hy
 ·obtain⟨h1,h2⟩:=h.begins hx;rw[h1,h2];decide
 ·obtain⟨h1,h2⟩:=after h hx;rw[show x.2+1-1=x.2 by omega,h1,h2];decide
theorem zjw {f g:K.Rule->Bool}{l:List K.Rule}(h:∀r∈l,f r=g r):∀i,which f i l=which g i l:=by
 induction l with
 | nil=>intro i;rfl
 | cons x l ih=>intro i;rw[which,which,h x (List.mem_cons_self ..),ih fun r hr=>h r (List.mem_cons_of_mem _ hr)]
theorem zlp {f:K.Rule->Bool}{l:List K.Rule}:∀i,∀z∈which f i l,(i:Int)<=z:=by
 induction l with
 | nil=>intro i z hz;simp[which] at hz
 | cons x l ih =>
  intro i z hz;rw[which] at hz;rcases List.mem_append.1 hz with hz|hz
  ·split at hz <;> simp at hz
   omega
  ·have:=ih (i+1) z hz;omega
theorem zh6 {f g:K.Rule->Bool}{l:List K.Rule}:∀i,which f i l=which g i l->∀r∈l,f r=g r:=by
 induction l with
 | nil=>intro i _ r hr;cases hr
 | cons x l ih =>
  intro i h r hr;rw[which,which] at h
  have key:f x=g x/\which f (i+1) l=which g (i+1) l:=by
   cases hf:f x <;> cases hg:g x <;> rw[hf,hg] at h
   ·simpa using h
   ·simp at h;have:=zlp (f:=f) (l:=l) (i+1) i (by rw[h];simp);omega
   ·simp at h;have:=zlp (f:=g) (l:=l) (i+1) i (by rw[<- h];simp);omega
   ·simpa using h
  rcases List.mem_cons.1 hr with rfl|hr
  ·exact key.1
  ·exact ih (i+1) key.2 r hr
section
variable {l:List K.Rule} {c:List Int}
theorem Cuts.get (h:Cuts l c){k:Nat}(hk:k<c.length):c.getD k 0∈c:=by simp[List.getD,hk]
theorem Cuts.lt (h:Cuts l c){i j:Nat}(hij:i<j)(hj:j<c.length):c.getD i 0<c.getD j 0:=by
 have:=List.pairwise_iff_getElem.1 h.1 i j (by omega) hj hij;simpa [List.getD,hj,show i<c.length by omega] using this
theorem Cuts.le (h:Cuts l c){i j:Nat}(hij:i<=j)(hj:j<c.length):c.getD i 0<=c.getD j 0:=by
 rcases Nat.lt_or_eq_of_le hij with h1|rfl
 ·have:=h.lt h1 hj;omega
 ·exact Int.le_refl _
theorem Cuts.ix (h:Cuts l c){y:Int}(hy:y∈edgesL l):∃j,j<c.length/\c.getD j 0=y:=by
 obtain⟨j,hj,he⟩:=List.getElem_of_mem ((h.2 y).2 hy);exact⟨j,hj,by simp[List.getD,hj,he]⟩
theorem Cuts.first (h:Cuts l c)(hE:∀r∈l,K.ruleE r=0):c.getD 0 0=0:=by
 obtain⟨j,hj,he⟩:=h.ix (y:=0) (by simp[edgesL]);have h1:=h.le (Nat.zero_le j) hj;have h2:=mem_range hE ((h.2 _).1 (h.get (k:=0) (by omega)));omega
theorem Cuts.last (h:Cuts l c)(hE:∀r∈l,K.ruleE r=0):c.getD (c.length-1) 0=1114112:=by
 obtain⟨j,hj,he⟩:=h.ix (y:=1114112) (by simp[edgesL]);have h1:=h.le (i:=j) (j:=c.length-1) (by omega) (by omega);have h2:=mem_range hE ((h.2 _).1 (h.get (k:=c.length-1) (by omega)));omega
theorem Cuts.none (h:Cuts l c){k:Nat}(hk:k+1<c.length){y:Int}(hy:y∈edgesL l):¬(c.getD k 0<y/\y<c.getD (k+1) 0):=by
 obtain⟨j,hj,rfl⟩:=h.ix hy;rintro ⟨h1,h2⟩;have h3:k<j:=Nat.lt_of_not_le fun hh=>by have:=h.le hh (by omega);omega
 have:=h.le (i:=k+1) (j:=j) (by omega) hj;omega
theorem zus {r:K.Rule}(hr:r∈l){y:Int}(hy:y∈ends (K.headS r)):y∈edgesL l:=by
 unfold edgesL;exact List.mem_append_right _ (List.mem_flatMap.2 ⟨r,hr,hy⟩)
theorem Cuts.same (h:Cuts l c){k:Nat}(hk:k+1<c.length){q:Int}(h1:c.getD k 0<=q)(h2:q<c.getD (k+1) 0):begins l q=begins l (c.getD k 0):=by
 refine zjw (fun r hr=> ?_) 0;refine between (q-c.getD k 0).toNat (by omega) fun y hy hh=> ?_
 exact h.none hk (zus hr hy) ⟨hh.1,by omega⟩
theorem Cuts.diff (h:Cuts l c)(hE:∀r∈l,K.ruleE r=0){k:Nat}(hk:k+2<c.length):begins l (c.getD k 0)≠begins l (c.getD (k+1) 0):=by
 intro he;have hf:=h.first hE
 have hl:=h.last hE;have h1:=h.lt (i:=k) (j:=k+1) (by omega) (by omega);have h2:=h.lt (i:=k+1) (j:=c.length-1) (by omega) (by omega);have h0:=h.le (i:=0) (j:=k) (by omega) (by omega);have hm:=(h.2 _).1 (h.get (k:=k+1) (by omega));unfold edgesL at hm;rcases List.mem_append.1 hm with hm|hm
 ·simp only[List.mem_cons,List.not_mem_nil,or_false] at hm;omega
 ·obtain⟨r,hr,hy⟩:=List.mem_flatMap.1 hm;have e1:=zh6 0 he r hr;have e2:=h.same (k:=k) (by omega) (q:=c.getD (k+1) 0-1) (by omega) (by omega);have e3:=zh6 0 e2 r hr;exact change (K.zcb (hE r hr)).1 hy (by rw[e3,<- e1])
theorem Cuts.at (h:Cuts l c)(hE:∀r∈l,K.ruleE r=0){q:Int}(h0:0<=q)(h1:q<=1114111):∃k,k+1<c.length/\c.getD k 0<=q/\q<c.getD (k+1) 0:=by
 have hf:=h.first hE
 have hl:=h.last hE;have ht:=h.two
 have key:∀n,n<c.length->q<c.getD n 0->∃k,k+1<c.length/\c.getD k 0<=q/\q<c.getD (k+1) 0:=by
  intro n
  induction n with
  | zero=>intro _ hq;omega
  | succ n ih =>
   intro hn hq
   by_cases hc:q<c.getD n 0
   ·exact ih (by omega) hc
   ·exact⟨n,hn,by omega,hq⟩
 exact key (c.length-1) (by omega) (by omega)
end
end J
