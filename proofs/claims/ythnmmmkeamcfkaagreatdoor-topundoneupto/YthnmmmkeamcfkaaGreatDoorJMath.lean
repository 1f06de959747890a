import Derived.Test.YthnmmmkeamcfkaaGreatDoorJEdges
set_option maxHeartbeats 0
set_option maxRecDepth 20000
set_option linter.unusedSimpArgs false
set_option linter.unusedVariables false
namespace Go.Proofs.YthnmmmkeamcfkaaGreatDoor
open Go.Proofs.Tryz
section
open Go.RowKit
namespace K
theorem zkb {w:World}{xo:Option Addr}{xc:Nat}{t:List Int}(h:L.Rd w (.slice xo t.length xc) .i32 t){n:Nat}(hn:n<=t.length):L.Rd w (.slice xo n xc) .i32 (t.take n):=by
 obtain⟨ao,cap,he,hz,hc⟩:=h;cases he;refine⟨xo,xc,by rw[List.length_take,Nat.min_eq_left hn],hz,fun hne=> ?_⟩;obtain⟨b,off,rfl,hcell⟩:=hc (by intro h;subst h;simp at hne);refine⟨b,off,rfl,fun j z hj=>hcell j z ?_⟩;rw[List.getElem?_take] at hj;split at hj
 ·exact hj
 ·cases hj
theorem zkc {w:World}{xo:Option Addr}{xc:Nat}{t:List Int}(h:L.Rd w (.slice xo t.length xc) .i32 t){d:Nat}(hd:d<=t.length)(hcap:t.length<=xc):L.Rd w (.slice (if xc=d then xo else Option.map (fun x=>x.add d) xo) (t.length - d) (xc - d)) .i32 (t.drop d):=by
 obtain⟨ao,cap,he,hz,hc⟩:=h;cases he;refine⟨_,_,by rw[List.length_drop],fun e=> ?_,fun hne=> ?_⟩
 ·cases xo with
  | none=>rw[hz rfl];simp
  | some a=>split at e <;> cases e
 ·have hp:=List.length_pos_iff.2 hne;rw[List.length_drop] at hp;obtain⟨b,off,rfl,hcell⟩:=hc (by intro h;subst h;simp at hp);rw[if_neg (by omega)];refine⟨b,off+d,by rw[Option.map_some,L.addr_add],fun j z hj=> ?_⟩;rw[List.getElem?_drop] at hj;rw[Nat.add_assoc];exact hcell _ z hj
end K
theorem K.zbb (xo:Option Addr)(N xc n:Nat)(h:n<=xc)(w':World):(Instr.slice 33 (.slice xo N xc) none (some (.int .i64 (n:Int))) none).run prog w'= .ok (.slice xo n xc) w':=by
 have a1:(n:Int)<=xc:=by omega
 have a0:(0:Int)<=n:=by omega
 go_simp
theorem K.zaz (xo:Option Addr)(N xc D:Nat)(h:D<=N)(hc:N<=xc)(w':World):(Instr.slice 33 (.slice xo N xc) (some (.int .i64 (D:Int))) none none).run prog w'= .ok (.slice (if xc=D then xo else Option.map (fun x=>x.add D) xo) (N - D) (xc - D)) w':=by
 have a1:(D:Int)<=N:=by omega
 have a2:(N:Int)<=xc:=by omega
 have a0:(0:Int)<=D:=by omega
 go_simp
end
/-
 compile.Compile.
-/
section
open Go.RowKit Go.Shelf
namespace J
def Cuts (l:List K.Rule) (c:List Int):Prop:=c.Pairwise (· < ·)/\∀y,y∈c↔y∈edgesL l
def Comp (l:List K.Rule) (o:List Hd×Int×Int):Prop :=
 ((K.rulesF l).1≠0/\o=([],K.rulesF l))∨((K.rulesF l).1=0/\∃c,Cuts l c/\2<=c.length/\((400<c.length - 1/\o=([],5,0))∨(c.length - 1<=400/\o=(heads (begins l) c (c.length - 1),0,0))))
theorem Cuts.two {l:List K.Rule}{c:List Int}(h:Cuts l c):2<=c.length:=by
 have h0:=(h.2 0).2 (by simp[edgesL]);have h1:(1114112:Int)∈c:=(h.2 _).2 (by simp[edgesL])
 match c,h0,h1 with
 | [],h0,_=>simp at h0
 | [x],h0,h1=>simp at h0 h1;omega
 | x::y::t,_,_=>simp
theorem mem_range {l:List K.Rule}(hE:∀r∈l,K.ruleE r=0){y:Int}(h:y∈edgesL l):0<=y/\y<=1114112:=by
 unfold edgesL at h;rcases List.mem_append.1 h with h | h
 ·simp at h;omega
 ·obtain⟨r,hr,h⟩:=List.mem_flatMap.1 h;unfold ends at h;obtain⟨x,hx,h⟩:=List.mem_flatMap.1 h;have:=(K.zf4 (hE r hr)).1.mem hx;simp at h;omega
end J
theorem zi2 (w:World)(v:Value)(l:List K.Rule)(R0:V.Rus w v l) :
  Calls prog 229 #[v] w fun e w'=>∃(v':Value) (o:List J.Hd×Int×Int),J.Comp l o/\e= .returned (.tuple #[v',.agg #[.int .i64 o.2.1,.int .i64 o.2.2]])/\J.Own w.heap.size w' v' o.1/\Below w.heap.size w w':=by
 have HA:=qH <| fun o=>(qR w).alloc qN o
 have HC:=qH <| fun o=>zbv _ _ l (R0.below (HA.out o))
 have HE:Hid ((K.rulesF l).1=0->l.length<=200/\∀r∈l,K.ruleE r=0):=fun h=>⟨(K.zax h).1,(K.zax h).2.1⟩
 have HR:=qH R0;have HN:Hid ((K.rulesF l).1≠0->J.Comp l ([],K.rulesF l)):=fun h=> .inl ⟨h,rfl⟩
 have HY:Hid ((K.rulesF l).1=0->∀c,J.Cuts l c->∀o,((400<c.length - 1/\o=([],5,0))∨(c.length - 1<=400/\o=(J.heads (J.begins l) c (c.length - 1),0,0)))->J.Comp l o):=fun h c hc o ho=> .inr ⟨h,c,hc,hc.two,ho⟩
 obtain⟨ao,cap,rfl⟩:=R0.len;obtain⟨⟨e1,e2⟩,he⟩:∃o,K.rulesF l=o:=⟨_,rfl⟩;rw[he] at HC HE HN HY;simp only at HC HE HN HY;clear he R0
 go_enter func229,ntmps229
 go_wp2_with fail
 refine(HC.out _).mono ?_;rintro e w1 ⟨rfl,b1⟩;obtain⟨h1,B1,s1⟩:=K.zau b1;have HB1:=qH B1;have HX1:Hid (w1.heap[w.heap.size]?=some (.cells #[.int .i64 0,.int .i64 0] 38)):=h1;obtain⟨x0,x1,f0,f1⟩:=K.box2 h1;have k0:=fun o=>K.zai x0 o
 have k1:=fun o=>K.zai x1 o
 have g0:=fun o=>K.zao h1 o 0
 have g1:=fun o=>K.zao h1 o 1
 have HB2:=qH <| fun o=>HB1.out.alloc (by omega) o
 clear b1 B1 HC x0 x1 f0 f1 h1
 by_cases q:e1=0
 ·subst q;obtain⟨hl,hE⟩:=HE.out rfl;have HE2:=qH hE;have HY2:=qH <| HY.out rfl;clear hE HE HN HY;obtain⟨X,hX⟩:∃X,X=w1.alloc (.cells #[.int .i64 0,.int .i64 e2] 38):=⟨_,rfl⟩;have HXX:=qH hX;have HBX:Hid (Below w.heap.size w X):=by show Below _ _ _;rw[hX];exact HB2.out _
  have hXs:w.heap.size<X.heap.size:=by rw[hX];simp;omega
  have HXb:Hid (X.heap[w.heap.size]?=some (.cells #[.int .i64 0,.int .i64 0] 38)):=by
   show X.heap[w.heap.size]?=_;rw[hX,Below.heap_alloc w1 _ w.heap.size (by omega)];exact HX1.out
  have HEd:=zn2 X (.slice ao l.length cap) l (HR.out.below HBX.out) hl HE2.out;have HEd2:Hid (∀Y,Y=X->Calls prog 247 #[.slice ao l.length cap] Y fun e w'=>∃(v':Value) (c:List Int),e= .returned v'/\c.Pairwise (· < ·)/\(∀y,y∈c↔y∈J.edgesL l)/\w'.ownsRow X.heap.size 21 1 v' c.length (Z.ints c)/\Below X.heap.size X w'):=fun Y hY=>by rw[hY];exact HEd
  clear hX k0 k1 g0 g1 HEd
  go_wp2_with fail
  go_at_call 247
  refine(HEd2.out _ HXX.out.symm).mono ?_;rintro e w2 ⟨vc,c,rfl,hc1,hc2,own2,b2⟩;have HCu:Hid (J.Cuts l c):=⟨hc1,hc2⟩;have hc3:=J.Cuts.two ⟨hc1,hc2⟩;have HOw:=qH own2;have HB3:=qH b2;have hx2:=K.zae HXb.out b2;have hw2:w.heap.size<w2.heap.size:=by have:=b2.size;omega
  have HX2:=qH hx2;obtain⟨x0,x1,f0,f1⟩:=K.box2 hx2
  obtain⟨vg,vk,rfl,hvk,hvm⟩:∃g k,vc= .slice (some ⟨g,0,none⟩) c.length k/\c.length<=k/\k<=9223372036854775807:=by
   obtain⟨_,⟨rfl,h⟩|⟨g,k,cur,rfl,_,_,h,h',_⟩⟩:=own2
   ·omega
   ·exact⟨g,k,rfl,h,h'⟩
  have HCell:Hid (∀W,Below w2.heap.size w2 W->∀j,j<c.length->W.cell? ⟨vg,j,none⟩=some (.int .i32 (c.getD j 0))):=fun W hW j hj=>by
   obtain⟨ao',cap',h9,_,hcs⟩:=(L.Rd.za4 own2).below hW qN;cases h9;obtain⟨b',off',h9,hcell⟩:=hcs (by intro h;subst h;simp at hj);cases h9;have:=hcell j c[j] (by simp[hj]);rw[Nat.zero_add] at this;rw[this];simp[List.getD,hj]
  have HRange:Hid (∀j,j<c.length->0<=c.getD j 0/\c.getD j 0<=1114112):=fun j hj=>by
   have:c.getD j 0∈c:=by simp[List.getD,hj]
   exact J.mem_range HE2.out ((hc2 _).1 this)
  clear hc1 hc2 own2 b2 hx2
  by_cases hm:400<c.length - 1
  ·have HOo:=qH <| HY2.out c HCu.out _ (.inl ⟨hm,rfl⟩);go_wp2;refine bodyPost_ret (v:= .tuple #[.slice none 0 0,.agg #[.int .i64 5,.int .i64 0]]) (by simp[results,results229,go_sem, *]) rfl ?_;exact⟨_,_,HOo.out,rfl,J.Own.nil _ _,(((HBX.out.trans (HB3.out.mono (by omega))).setCell (p:=⟨w.heap.size,0,none⟩) qN _).setCell (p:=⟨w.heap.size,1,none⟩) qN _)⟩
  ·have HOo:=qH <| HY2.out c HCu.out _ (.inr ⟨by omega,rfl⟩)
   go_wp2_with fail
   go_loopw [6,27] (fun vo i wr=>∃k:Nat,k<=c.length - 1/\i= .int .i64 k/\Hid (J.Own w2.heap.size wr vo (J.heads (J.begins l) c k)/\Below w2.heap.size w2 wr)) (fun _ i _=>c.length - 1 - (RowKit.intOf i).toNat)
   case atStart=>exact⟨0,Nat.zero_le _,rfl,J.Own.nil _ _,qR _⟩
   case round =>
    obtain⟨k,hk,rfl,HO⟩:=hrel;clear x0 x1 f0 f1;have hwr:=HO.out.2.size
    by_cases hlt:k<c.length - 1
    ·have y0:=HCell.out wr HO.out.2 k (by omega);have y1:wr.cell? ⟨vg,1+k,none⟩=some (.int .i32 (c.getD (k+1) 0)):=by rw[Nat.add_comm 1 k];exact HCell.out wr HO.out.2 (k+1) (by omega)
     have r0:=HRange.out k (by omega);have r1:=HRange.out (k+1) (by omega);have HS:Hid (J.heads (J.begins l) c (k+1)=J.heads (J.begins l) c k++ [(c.getD k 0,c.getD (k+1) 0 - 1,J.begins l (c.getD k 0))]):=J.zn8 _ _ _;have HLn:Hid ((J.heads (J.begins l) c k).length<=2000000):=by show _<=_;rw[J.zi5];omega
     generalize c.getD k 0=lo at y0 r0 HS;generalize c.getD (k+1) 0=nx at y1 r1 HS;generalize J.heads (J.begins l) c k=hs at HO HS HLn
     obtain⟨ua,un,uc,rfl⟩:∃a b c,u6= .slice a b c:=by
      obtain⟨ps,_,⟨_,⟨rfl,_⟩|⟨g,k,cur,rfl,_⟩⟩,_⟩:=HO.out.1
      ·exact⟨_,_,_,rfl⟩
      ·exact⟨_,_,_,rfl⟩
     obtain⟨Y,hY⟩:∃Y,Y=wr.alloc (.cells #[.int .i32 lo] 21):=⟨_,rfl⟩;have hYw:Below wr.heap.size wr Y:=by rw[hY];exact(qR wr).alloc qN _
     have hYb:Y.heap[wr.heap.size]?=some (.cells #[.int .i32 lo] 21):=by
      rw[hY];show (wr.heap.push _)[wr.heap.size]?=_;exact Array.getElem?_push_size
     have hYs:wr.heap.size<Y.heap.size:=by rw[hY];simp
     have hBw:=((HBX.out.trans (HB3.out.mono (by omega))).trans (HO.out.2.mono (by omega))).trans (hYw.mono (by omega))
     have HCall:Hid (∀W,W=Y.drew->Calls prog 249 #[.slice ao l.length cap,.func (.func 248) #[] #[.pointer (some ⟨wr.heap.size,0,none⟩)]] W fun e w3=>∃vo vn vq,e= .returned (.slice vo vn vq)/\w3.cell? ⟨wr.heap.size,0,none⟩=some (.int .i32 lo) /\
       ∃v4 w4,(Builtin.append_ #[270,270] 270 #[.slice ua un uc,.slice (some ⟨w3.heap.size,0,none⟩) 1 1]).run prog (w3.alloc (.cells #[.int .i32 lo,.int .i32 (IntKind.i32.wrap (nx - 1)),.slice vo vn vq] 307))= .ok v4 w4/\J.Own w2.heap.size w4 v4 (hs++ [(lo,nx - 1,J.begins l lo)])/\Below w2.heap.size w2 w4):=fun W hW=>by
      subst hW;rw[show IntKind.i32.wrap (nx - 1)=nx - 1 by rw[IntKind.wrap_i32];omega];have hD:Below Y.heap.size Y Y.drew:=(qR Y).drew;refine(zn0 Y.drew _ l ((HR.out.below hBw).below hD) hl 248 #[.pointer (some ⟨wr.heap.size,0,none⟩)] (fun r=>S.memb (K.headS r) lo) (enters_of func248 (by kernel_rfl) rfl) (fun W r u hW hr hu=>zkp W u r lo wr.heap.size hu (HE2.out r hr) (K.zae hYb (hD.trans hW)))).mono ?_;rintro e w3 ⟨v3,he,own3,b3⟩;have b3':=hD.trans b3;have bw3:=hYw.trans (b3'.mono (by omega));obtain⟨v4,w4,r4,o4,B4⟩:=(HO.out.1.below bw3).push (HO.out.2.trans (bw3.mono hwr)) (by have:=bw3.size;omega) HLn.out lo (nx - 1) (J.begins l lo) v3 (L.zbz own3 (by show w2.heap.size<=Y.heap.size;omega))
      obtain⟨vo,vn,vq,rfl⟩:∃a b c,v3= .slice a b c:=by
       obtain⟨_,⟨rfl,_⟩|⟨g,k,cur,rfl,_⟩⟩:=own3
       ·exact⟨_,_,_,rfl⟩
       ·exact⟨_,_,_,rfl⟩
      exact⟨vo,vn,vq,he,K.zad (K.zae hYb b3') rfl,v4,w4,r4,o4,B4⟩
     clear hYb hYw hBw HO hYs
     go_wp2_with fail
     rw[<- hY];have y2:Y.cell? ⟨wr.heap.size,0,none⟩=some (.int .i32 lo):=by rw[hY];exact K.zad (c:=#[.int .i32 lo]) (t:=21) (by show (wr.heap.push _)[wr.heap.size]?=_;exact Array.getElem?_push_size) rfl
     clear hY y0 y1;obtain⟨r2,r3⟩:=r1
     go_region_law
      (first
       | ((fail_if_success (have hz:=run4));go_simp;go_at_call 249;refine(HCall.out _ rfl).mono ?_;rintro e w3 ⟨vo,vn,vq,rfl,x3,v4,w4,run4,own4,b4⟩;have HX4:Hid (J.Own w2.heap.size w4 v4 (hs++ [(lo,nx - 1,J.begins l lo)])/\Below w2.heap.size w2 w4):=⟨own4,b4⟩;clear own4 b4)
       | (have hh:=run4;clear hh;refine J.zbr (by rfl) (.tmp 37) (.tmp 45) (by rfl) (.slice ua un uc) (.slice (some ⟨w3.heap.size,0,none⟩) 1 1) v4 w4 (by rfl) (by rfl) run4 ?_))
     all_goals go_wp2
     all_goals go_roundw
     all_goals first | (exact⟨k+1,by omega,by go_num,by rw[HS.out];exact HX4.out⟩) | (simp[RowKit.intOf];omega)
    ·have hke:k=c.length - 1:=by omega
     subst hke;have hx5:=K.zae HX2.out HO.out.2;obtain⟨x0,x1,f0,f1⟩:=K.box2 hx5
     have HFin:Hid (∀u u',J.Own w.heap.size ((wr.setCell ⟨w.heap.size,0,none⟩ u).setCell ⟨w.heap.size,1,none⟩ u') u6 (J.heads (J.begins l) c (c.length - 1))/\Below w.heap.size w ((wr.setCell ⟨w.heap.size,0,none⟩ u).setCell ⟨w.heap.size,1,none⟩ u')):=fun u u'=>by
      refine⟨(HO.out.1.kept fun g hg=> ?_).base (by omega),(((HBX.out.trans (HB3.out.mono (by omega))).trans (HO.out.2.mono (by omega))).setCell (p:=⟨w.heap.size,0,none⟩) qN _).setCell (p:=⟨w.heap.size,1,none⟩) qN _⟩;have hne:g≠w.heap.size:=by omega
      rw[heap_setCell_other _ ⟨w.heap.size,1,none⟩ g _ hne,heap_setCell_other _ ⟨w.heap.size,0,none⟩ g _ hne]
     clear hx5;go_wp2;refine bodyPost_ret (v:= .tuple #[u6,.agg #[.int .i64 0,.int .i64 0]]) (by simp[results,results229,go_sem, *]) rfl ?_;exact⟨u6,_,HOo.out,rfl,HFin.out _ _⟩
 ·have HNN:=qH <| HN.out q;go_wp2
  go_region
  go_wp2;refine bodyPost_ret (v:= .tuple #[.slice none 0 0,.agg #[.int .i64 e1,.int .i64 e2]]) (by simp[results,results229,go_sem, *]) rfl ?_
  exact⟨_,([],e1,e2),HNN.out,rfl,J.Own.nil _ _,(((HB2.out _).setCell (p:=⟨w.heap.size,0,none⟩) qN _).setCell (p:=⟨w.heap.size,1,none⟩) qN _).drew⟩
namespace J
theorem zhw {s:List S.Sp}{y:Int}:y∈ends s↔∃x∈s,y=x.1∨y=x.2+1:=by
 unfold ends;rw[List.mem_flatMap];simp
theorem between {s:List S.Sp}:∀(n:Nat) {a q:Int},q=a+n->(∀y∈ends s,¬(a<y/\y<=q))->S.memb s q=S.memb s a:=by
 intro n
 induction n with
 | zero=>intro a q hq _;rw[hq];simp
 | succ n ih =>
  intro a q hq h;have h1:=ih (a:=a) (q:=q - 1) (by omega) (fun y hy hh=>h y hy ⟨hh.1,by omega⟩);rw[<- h1];cases e1:S.memb s q with
  | true =>
   cases e2:S.memb s (q - 1) with
   | true=>rfl
   | false =>
    obtain⟨x,hx,he⟩:=List.mem_map.1 (S.starts e1 e2);exact absurd ⟨by omega,by omega⟩ (h q (zhw.2 ⟨x,hx,.inl he.symm⟩))
  | false =>
   cases e2:S.memb s (q - 1) with
   | false=>rfl
   | true =>
    obtain⟨x,hx,he⟩:=List.mem_map.1 (S.stops e1 e2);exact absurd ⟨by omega,by omega⟩ (h q (zhw.2 ⟨x,hx,.inr he.symm⟩))
theorem after {b:Int}{s:List S.Sp}(h:S.Nf b s){x:S.Sp}(hx:x∈s):S.memb s x.2=true/\S.memb s (x.2+1)=false:=by
 have h0:=h.mem hx;refine⟨S.za8.2 ⟨x,hx,h0.2.1,Int.le_refl _⟩,?_⟩;cases e:S.memb s (x.2+1) with
 | false=>rfl
 | true =>
  obtain⟨y,hy,h1,h2⟩:=S.za8.1 e;obtain⟨i,hi⟩:=List.getElem?_of_mem hx;obtain⟨j,hj⟩:=List.getElem?_of_mem hy;rcases Nat.lt_trichotomy i j with hij | rfl | hij
  ·have:=h.rise hij hi hj;omega
  ·rw[hi] at hj;cases hj;omega
  ·have:=h.rise hij hj hi;have:=h0.2.1;omega
theorem change {b:Int}{s:List S.Sp}(h:S.Nf b s){y:Int}(hy:y∈ends s):S.memb s y≠S.memb s (y - 1):=by
 obtain⟨x,hx,rfl | rfl⟩:=zhw.1 hy
 ·obtain⟨h1,h2⟩:=h.begins hx;rw[h1,h2];decide
 ·obtain⟨h1,h2⟩:=after h hx;rw[show x.2+1 - 1=x.2 by omega,h1,h2];decide
theorem zch {f g:K.Rule->Bool}{l:List K.Rule}(h:∀r∈l,f r=g r):∀i,which f i l=which g i l:=by
 induction l with
 | nil=>intro i;rfl
 | cons x l ih=>intro i;rw[which,which,h x (List.mem_cons_self ..),ih fun r hr=>h r (List.mem_cons_of_mem _ hr)]
section
variable {l:List K.Rule} {c:List Int}
theorem Cuts.get (h:Cuts l c){k:Nat}(hk:k<c.length):c.getD k 0∈c:=by simp[List.getD,hk]
theorem Cuts.lt (h:Cuts l c){i j:Nat}(hij:i<j)(hj:j<c.length):c.getD i 0<c.getD j 0:=by
 have:=List.pairwise_iff_getElem.1 h.1 i j (by omega) hj hij;simpa [List.getD,hj,show i<c.length by omega] using this
theorem Cuts.le (h:Cuts l c){i j:Nat}(hij:i<=j)(hj:j<c.length):c.getD i 0<=c.getD j 0:=by
 rcases Nat.lt_or_eq_of_le hij with h1 | rfl
 ·have:=h.lt h1 hj;omega
 ·exact Int.le_refl _
theorem Cuts.ix (h:Cuts l c){y:Int}(hy:y∈edgesL l):∃j,j<c.length/\c.getD j 0=y:=by
 obtain⟨j,hj,he⟩:=List.getElem_of_mem ((h.2 y).2 hy);exact⟨j,hj,by simp[List.getD,hj,he]⟩
theorem Cuts.first (h:Cuts l c)(hE:∀r∈l,K.ruleE r=0):c.getD 0 0=0:=by
 obtain⟨j,hj,he⟩:=h.ix (y:=0) (by simp[edgesL]);have h1:=h.le (Nat.zero_le j) hj;have h2:=mem_range hE ((h.2 _).1 (h.get (k:=0) (by omega)));omega
theorem Cuts.last (h:Cuts l c)(hE:∀r∈l,K.ruleE r=0):c.getD (c.length - 1) 0=1114112:=by
 obtain⟨j,hj,he⟩:=h.ix (y:=1114112) (by simp[edgesL]);have h1:=h.le (i:=j) (j:=c.length - 1) (by omega) (by omega);have h2:=mem_range hE ((h.2 _).1 (h.get (k:=c.length - 1) (by omega)));omega
theorem Cuts.none (h:Cuts l c){k:Nat}(hk:k+1<c.length){y:Int}(hy:y∈edgesL l):¬(c.getD k 0<y/\y<c.getD (k+1) 0):=by
 obtain⟨j,hj,rfl⟩:=h.ix hy;rintro ⟨h1,h2⟩;have h3:k<j:=Nat.lt_of_not_le fun hh=>by have:=h.le hh (by omega);omega
 have:=h.le (i:=k+1) (j:=j) (by omega) hj;omega
theorem zv6 {r:K.Rule}(hr:r∈l){y:Int}(hy:y∈ends (K.headS r)):y∈edgesL l:=by
 unfold edgesL;exact List.mem_append_right _ (List.mem_flatMap.2 ⟨r,hr,hy⟩)
theorem Cuts.same (h:Cuts l c){k:Nat}(hk:k+1<c.length){q:Int}(h1:c.getD k 0<=q)(h2:q<c.getD (k+1) 0):begins l q=begins l (c.getD k 0):=by
 refine zch (fun r hr=> ?_) 0;refine between (q - c.getD k 0).toNat (by omega) fun y hy hh=> ?_
 exact h.none hk (zv6 hr hy) ⟨hh.1,by omega⟩
theorem Cuts.at (h:Cuts l c)(hE:∀r∈l,K.ruleE r=0){q:Int}(h0:0<=q)(h1:q<=1114111):∃k,k+1<c.length/\c.getD k 0<=q/\q<c.getD (k+1) 0:=by
 have hf:=h.first hE
 have hl:=h.last hE;have ht:=h.two
 have key:∀n,n<c.length->q<c.getD n 0->∃k,k+1<c.length/\c.getD k 0<=q/\q<c.getD (k+1) 0:=by
  intro n
  induction n with
  | zero=>intro _ hq;omega
  | succ n ih =>
   intro hn hq
   by_cases hc:q<c.getD n 0
   ·exact ih (by omega) hc
   ·exact⟨n,hn,by omega,hq⟩
 exact key (c.length - 1) (by omega) (by omega)
end
end J
