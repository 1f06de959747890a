import Derived.Test.YthnmmmkeamcfkaaGreatDoorKCut
import Derived.Test.YthnmmmkeamcfkaaGreatDoorXLib
set_option maxHeartbeats 0
set_option maxRecDepth 20000
set_option linter.unusedSimpArgs false
set_option linter.unusedVariables false
/-
 compile.Compile.
-/
namespace Go.Proofs.YthnmmmkeamcfkaaGreatDoor
open Go.Proofs.Tryz
section
open Go.RowKit Go.Shelf
namespace J
def Cuts (l:List K.Rule) (c:List Int):Prop:=c.Pairwise (· < ·)/\∀y,y∈c↔y∈edgesL l
def Comp (l:List K.Rule) (o:List Hd×Int×Int):Prop :=
 ((K.rulesF l).1≠0/\o=([],K.rulesF l))∨((K.rulesF l).1=0/\∃c,Cuts l c/\2<=c.length/\((400<c.length - 1/\o=([],5,0))∨(c.length - 1<=400/\o=(heads (begins l) c (c.length - 1),0,0))))
theorem Cuts.two {l:List K.Rule}{c:List Int}(h:Cuts l c):2<=c.length:=by
 have h0:=(h.2 0).2 (by simp[edgesL]);have h1:(1114112:Int)∈c:=(h.2 _).2 (by simp[edgesL])
 match c,h0,h1 with
 | [],h0,_=>simp at h0
 | [x],h0,h1=>simp at h0 h1;omega
 | x::y::t,_,_=>simp
theorem mem_range {l:List K.Rule}(hE:∀r∈l,K.ruleE r=0){y:Int}(h:y∈edgesL l):0<=y/\y<=1114112:=by
 unfold edgesL at h;rcases List.mem_append.1 h with h | h
 ·simp at h;omega
 ·obtain⟨r,hr,h⟩:=List.mem_flatMap.1 h;unfold ends at h;obtain⟨x,hx,h⟩:=List.mem_flatMap.1 h;have:=(K.zhw (hE r hr)).1.mem hx;simp at h;omega
end J
theorem zi4 (w:World)(v:Value)(l:List K.Rule)(R0:V.Rus w v l) :
  Calls prog 229 #[v] w fun e w'=>∃(v':Value) (o:List J.Hd×Int×Int),J.Comp l o/\e= .returned (.tuple #[v',.agg #[.int .i64 o.2.1,.int .i64 o.2.2]])/\J.Own w.heap.size w' v' o.1/\Below w.heap.size w w':=by
 have HA:=qH <| fun o=>(qR w).alloc qN o
 have HC:=qH <| fun o=>zef _ _ l (R0.below (HA.out o))
 have HE:Hid ((K.rulesF l).1=0->l.length<=200/\∀r∈l,K.ruleE r=0):=fun h=>⟨(K.zbu h).1,(K.zbu h).2.1⟩
 have HR:=qH R0;have HN:Hid ((K.rulesF l).1≠0->J.Comp l ([],K.rulesF l)):=fun h=> .inl ⟨h,rfl⟩
 have HY:Hid ((K.rulesF l).1=0->∀c,J.Cuts l c->∀o,((400<c.length - 1/\o=([],5,0))∨(c.length - 1<=400/\o=(J.heads (J.begins l) c (c.length - 1),0,0)))->J.Comp l o):=fun h c hc o ho=> .inr ⟨h,c,hc,hc.two,ho⟩
 obtain⟨ao,cap,rfl⟩:=R0.len;obtain⟨⟨e1,e2⟩,he⟩:∃o,K.rulesF l=o:=⟨_,rfl⟩;rw[he] at HC HE HN HY;simp only at HC HE HN HY;clear he R0
 go_enter func229,ntmps229
 go_wp2_with fail
 refine(HC.out _).mono ?_;rintro e w1 ⟨rfl,b1⟩;obtain⟨h1,B1,s1⟩:=K.zbh b1;have HB1:=qH B1;have HX1:Hid (w1.heap[w.heap.size]?=some (.cells #[.int .i64 0,.int .i64 0] 38)):=h1;obtain⟨x0,x1,f0,f1⟩:=K.box2 h1;have k0:=fun o=>K.zai x0 o
 have k1:=fun o=>K.zai x1 o
 have g0:=fun o=>K.zaq h1 o 0
 have g1:=fun o=>K.zaq h1 o 1
 have HB2:=qH <| fun o=>HB1.out.alloc (by omega) o
 clear b1 B1 HC x0 x1 f0 f1 h1
 by_cases q:e1=0
 ·subst q;obtain⟨hl,hE⟩:=HE.out rfl;have HE2:=qH hE;have HY2:=qH <| HY.out rfl;clear hE HE HN HY;obtain⟨X,hX⟩:∃X,X=w1.alloc (.cells #[.int .i64 0,.int .i64 e2] 38):=⟨_,rfl⟩;have HXX:=qH hX;have HBX:Hid (Below w.heap.size w X):=by show Below _ _ _;rw[hX];exact HB2.out _
  have hXs:w.heap.size<X.heap.size:=by rw[hX];simp;omega
  have HXb:Hid (X.heap[w.heap.size]?=some (.cells #[.int .i64 0,.int .i64 0] 38)):=by
   show X.heap[w.heap.size]?=_;rw[hX,Below.heap_alloc w1 _ w.heap.size (by omega)];exact HX1.out
  have HEd:=zoe X (.slice ao l.length cap) l (HR.out.below HBX.out) hl HE2.out;have HEd2:Hid (∀Y,Y=X->Calls prog 247 #[.slice ao l.length cap] Y fun e w'=>∃(v':Value) (c:List Int),e= .returned v'/\c.Pairwise (· < ·)/\(∀y,y∈c↔y∈J.edgesL l)/\w'.ownsRow X.heap.size 21 1 v' c.length (Z.ints c)/\Below X.heap.size X w'):=fun Y hY=>by rw[hY];exact HEd
  clear hX k0 k1 g0 g1 HEd
  go_wp2_with fail
  go_at_call 247
  refine(HEd2.out _ HXX.out.symm).mono ?_;rintro e w2 ⟨vc,c,rfl,hc1,hc2,own2,b2⟩;have HCu:Hid (J.Cuts l c):=⟨hc1,hc2⟩;have hc3:=J.Cuts.two ⟨hc1,hc2⟩;have HOw:=qH own2;have HB3:=qH b2;have hx2:=K.zae HXb.out b2;have hw2:w.heap.size<w2.heap.size:=by have:=b2.size;omega
  have HX2:=qH hx2;obtain⟨x0,x1,f0,f1⟩:=K.box2 hx2
  obtain⟨vg,vk,rfl,hvk,hvm⟩:∃g k,vc= .slice (some ⟨g,0,none⟩) c.length k/\c.length<=k/\k<=9223372036854775807:=by
   obtain⟨_,⟨rfl,h⟩|⟨g,k,cur,rfl,_,_,h,h',_⟩⟩:=own2
   ·omega
   ·exact⟨g,k,rfl,h,h'⟩
  have HCell:Hid (∀W,Below w2.heap.size w2 W->∀j,j<c.length->W.cell? ⟨vg,j,none⟩=some (.int .i32 (c.getD j 0))):=fun W hW j hj=>by
   obtain⟨ao',cap',h9,_,hcs⟩:=(L.Rd.zaz own2).below hW qN;cases h9;obtain⟨b',off',h9,hcell⟩:=hcs (by intro h;subst h;simp at hj);cases h9;have:=hcell j c[j] (by simp[hj]);rw[Nat.zero_add] at this;rw[this];simp[List.getD,hj]
  have HRange:Hid (∀j,j<c.length->0<=c.getD j 0/\c.getD j 0<=1114112):=fun j hj=>by
   have:c.getD j 0∈c:=by simp[List.getD,hj]
   exact J.mem_range HE2.out ((hc2 _).1 this)
  clear hc1 hc2 own2 b2 hx2
  by_cases hm:400<c.length - 1
  ·have HOo:=qH <| HY2.out c HCu.out _ (.inl ⟨hm,rfl⟩);go_wp2;refine bodyPost_ret (v:= .tuple #[.slice none 0 0,.agg #[.int .i64 5,.int .i64 0]]) (by simp[results,results229,go_sem, *]) rfl ?_;exact⟨_,_,HOo.out,rfl,J.Own.nil _ _,(((HBX.out.trans (HB3.out.mono (by omega))).setCell (p:=⟨w.heap.size,0,none⟩) qN _).setCell (p:=⟨w.heap.size,1,none⟩) qN _)⟩
  ·have HOo:=qH <| HY2.out c HCu.out _ (.inr ⟨by omega,rfl⟩)
   go_wp2_with fail
   go_loopw [6,27] (fun vo i wr=>∃k:Nat,k<=c.length - 1/\i= .int .i64 k/\Hid (J.Own w2.heap.size wr vo (J.heads (J.begins l) c k)/\Below w2.heap.size w2 wr)) (fun _ i _=>c.length - 1 - (RowKit.intOf i).toNat)
   case atStart=>exact⟨0,Nat.zero_le _,rfl,J.Own.nil _ _,qR _⟩
   case round =>
    obtain⟨k,hk,rfl,HO⟩:=hrel;clear x0 x1 f0 f1;have hwr:=HO.out.2.size
    by_cases hlt:k<c.length - 1
    ·have y0:=HCell.out wr HO.out.2 k (by omega);have y1:wr.cell? ⟨vg,1+k,none⟩=some (.int .i32 (c.getD (k+1) 0)):=by rw[Nat.add_comm 1 k];exact HCell.out wr HO.out.2 (k+1) (by omega)
     have r0:=HRange.out k (by omega);have r1:=HRange.out (k+1) (by omega);have HS:Hid (J.heads (J.begins l) c (k+1)=J.heads (J.begins l) c k++ [(c.getD k 0,c.getD (k+1) 0 - 1,J.begins l (c.getD k 0))]):=J.zok _ _ _;have HLn:Hid ((J.heads (J.begins l) c k).length<=2000000):=by show _<=_;rw[J.zi8];omega
     generalize c.getD k 0=lo at y0 r0 HS;generalize c.getD (k+1) 0=nx at y1 r1 HS;generalize J.heads (J.begins l) c k=hs at HO HS HLn
     obtain⟨ua,un,uc,rfl⟩:∃a b c,u6= .slice a b c:=by
      obtain⟨ps,_,⟨_,⟨rfl,_⟩|⟨g,k,cur,rfl,_⟩⟩,_⟩:=HO.out.1
      ·exact⟨_,_,_,rfl⟩
      ·exact⟨_,_,_,rfl⟩
     obtain⟨Y,hY⟩:∃Y,Y=wr.alloc (.cells #[.int .i32 lo] 21):=⟨_,rfl⟩;have hYw:Below wr.heap.size wr Y:=by rw[hY];exact(qR wr).alloc qN _
     have hYb:Y.heap[wr.heap.size]?=some (.cells #[.int .i32 lo] 21):=by
      rw[hY];show (wr.heap.push _)[wr.heap.size]?=_;exact Array.getElem?_push_size
     have hYs:wr.heap.size<Y.heap.size:=by rw[hY];simp
     have hBw:=((HBX.out.trans (HB3.out.mono (by omega))).trans (HO.out.2.mono (by omega))).trans (hYw.mono (by omega))
     have HCall:Hid (∀W,W=Y.drew->Calls prog 249 #[.slice ao l.length cap,.func (.func 248) #[] #[.pointer (some ⟨wr.heap.size,0,none⟩)]] W fun e w3=>∃vo vn vq,e= .returned (.slice vo vn vq)/\w3.cell? ⟨wr.heap.size,0,none⟩=some (.int .i32 lo) /\
       ∃v4 w4,(Builtin.append_ #[270,270] 270 #[.slice ua un uc,.slice (some ⟨w3.heap.size,0,none⟩) 1 1]).run prog (w3.alloc (.cells #[.int .i32 lo,.int .i32 (IntKind.i32.wrap (nx - 1)),.slice vo vn vq] 307))= .ok v4 w4/\J.Own w2.heap.size w4 v4 (hs++ [(lo,nx - 1,J.begins l lo)])/\Below w2.heap.size w2 w4):=fun W hW=>by
      subst hW;rw[show IntKind.i32.wrap (nx - 1)=nx - 1 by rw[IntKind.wrap_i32];omega];have hD:Below Y.heap.size Y Y.drew:=(qR Y).drew;refine(zoc Y.drew _ l ((HR.out.below hBw).below hD) hl 248 #[.pointer (some ⟨wr.heap.size,0,none⟩)] (fun r=>S.memb (K.headS r) lo) (enters_of func248 (by kernel_rfl) rfl) (fun W r u hW hr hu=>zkl W u r lo wr.heap.size hu (HE2.out r hr) (K.zae hYb (hD.trans hW)))).mono ?_;rintro e w3 ⟨v3,he,own3,b3⟩;have b3':=hD.trans b3;have bw3:=hYw.trans (b3'.mono (by omega));obtain⟨v4,w4,r4,o4,B4⟩:=(HO.out.1.below bw3).push (HO.out.2.trans (bw3.mono hwr)) (by have:=bw3.size;omega) HLn.out lo (nx - 1) (J.begins l lo) v3 (L.zar own3 (by show w2.heap.size<=Y.heap.size;omega))
      obtain⟨vo,vn,vq,rfl⟩:∃a b c,v3= .slice a b c:=by
       obtain⟨_,⟨rfl,_⟩|⟨g,k,cur,rfl,_⟩⟩:=own3
       ·exact⟨_,_,_,rfl⟩
       ·exact⟨_,_,_,rfl⟩
      exact⟨vo,vn,vq,he,K.zah (K.zae hYb b3') rfl,v4,w4,r4,o4,B4⟩
     clear hYb hYw hBw HO hYs
     go_wp2_with fail
     rw[<- hY];have y2:Y.cell? ⟨wr.heap.size,0,none⟩=some (.int .i32 lo):=by rw[hY];exact K.zah (c:=#[.int .i32 lo]) (t:=21) (by show (wr.heap.push _)[wr.heap.size]?=_;exact Array.getElem?_push_size) rfl
     clear hY y0 y1;obtain⟨r2,r3⟩:=r1
     go_region_law
      (first
       | ((fail_if_success (have hz:=run4));go_simp;go_at_call 249;refine(HCall.out _ rfl).mono ?_;rintro e w3 ⟨vo,vn,vq,rfl,x3,v4,w4,run4,own4,b4⟩;have HX4:Hid (J.Own w2.heap.size w4 v4 (hs++ [(lo,nx - 1,J.begins l lo)])/\Below w2.heap.size w2 w4):=⟨own4,b4⟩;clear own4 b4)
       | (have hh:=run4;clear hh;refine J.za5 (by rfl) (.tmp 37) (.tmp 45) (by rfl) (.slice ua un uc) (.slice (some ⟨w3.heap.size,0,none⟩) 1 1) v4 w4 (by rfl) (by rfl) run4 ?_))
     all_goals go_wp2
     all_goals go_roundw
     all_goals first | (exact⟨k+1,by omega,by go_num,by rw[HS.out];exact HX4.out⟩) | (simp[RowKit.intOf];omega)
    ·have hke:k=c.length - 1:=by omega
     subst hke;have hx5:=K.zae HX2.out HO.out.2;obtain⟨x0,x1,f0,f1⟩:=K.box2 hx5
     have HFin:Hid (∀u u',J.Own w.heap.size ((wr.setCell ⟨w.heap.size,0,none⟩ u).setCell ⟨w.heap.size,1,none⟩ u') u6 (J.heads (J.begins l) c (c.length - 1))/\Below w.heap.size w ((wr.setCell ⟨w.heap.size,0,none⟩ u).setCell ⟨w.heap.size,1,none⟩ u')):=fun u u'=>by
      refine⟨(HO.out.1.kept fun g hg=> ?_).base (by omega),(((HBX.out.trans (HB3.out.mono (by omega))).trans (HO.out.2.mono (by omega))).setCell (p:=⟨w.heap.size,0,none⟩) qN _).setCell (p:=⟨w.heap.size,1,none⟩) qN _⟩;have hne:g≠w.heap.size:=by omega
      rw[heap_setCell_other _ ⟨w.heap.size,1,none⟩ g _ hne,heap_setCell_other _ ⟨w.heap.size,0,none⟩ g _ hne]
     clear hx5;go_wp2;refine bodyPost_ret (v:= .tuple #[u6,.agg #[.int .i64 0,.int .i64 0]]) (by simp[results,results229,go_sem, *]) rfl ?_;exact⟨u6,_,HOo.out,rfl,HFin.out _ _⟩
 ·have HNN:=qH <| HN.out q;go_wp2
  go_region
  go_wp2;refine bodyPost_ret (v:= .tuple #[.slice none 0 0,.agg #[.int .i64 e1,.int .i64 e2]]) (by simp[results,results229,go_sem, *]) rfl ?_
  exact⟨_,([],e1,e2),HNN.out,rfl,J.Own.nil _ _,(((HB2.out _).setCell (p:=⟨w.heap.size,0,none⟩) qN _).setCell (p:=⟨w.heap.size,1,none⟩) qN _).drew⟩
namespace J
theorem zhr {s:List S.Sp}{y:Int}:y∈ends s↔∃x∈s,y=x.1∨y=x.2+1:=by
 unfold ends;rw[List.mem_flatMap];simp
theorem between {s:List S.Sp}:∀(n:Nat) {a q:Int},q=a+n->(∀y∈ends s,¬(a<y/\y<=q))->S.memb s q=S.memb s a:=by
 intro n
 induction n with
 | zero=>intro a q hq _;rw[hq];simp
 | succ n ih =>
  intro a q hq h;have h1:=ih (a:=a) (q:=q - 1) (by omega) (fun y hy hh=>h y hy ⟨hh.1,by omega⟩);rw[<- h1];cases e1:S.memb s q with
  | true =>
   cases e2:S.memb s (q - 1) with
   | true=>rfl
   | false =>
    obtain⟨x,hx,he⟩:=List.mem_map.1 (S.starts e1 e2);exact absurd ⟨by omega,by omega⟩ (h q (zhr.2 ⟨x,hx,.inl he.symm⟩))
  | false =>
   cases e2:S.memb s (q - 1) with
   | false=>rfl
   | true =>
    obtain⟨x,hx,he⟩:=List.mem_map.1 (S.stops e1 e2);exact absurd ⟨by omega,by omega⟩ (h q (zhr.2 ⟨x,hx,.inr he.symm⟩))
theorem after {b:Int}{s:List S.Sp}(h:S.Nf b s){x:S.Sp}(hx:x∈s):S.memb s x.2=true/\S.memb s (x.2+1)=false:=by
 have h0:=h.mem hx;refine⟨S.za6.2 ⟨x,hx,h0.2.1,Int.le_refl _⟩,?_⟩;cases e:S.memb s (x.2+1) with
 | false=>rfl
 | true =>
  obtain⟨y,hy,h1,h2⟩:=S.za6.1 e;obtain⟨i,hi⟩:=List.getElem?_of_mem hx;obtain⟨j,hj⟩:=List.getElem?_of_mem hy;rcases Nat.lt_trichotomy i j with hij | rfl | hij
  ·have:=h.rise hij hi hj;omega
  ·rw[hi] at hj;cases hj;omega
  ·have:=h.rise hij hj hi;have:=h0.2.1;omega
theorem change {b:Int}{s:List S.Sp}(h:S.Nf b s){y:Int}(hy:y∈ends s):S.memb s y≠S.memb s (y - 1):=by
 obtain⟨x,hx,rfl | rfl⟩:=zhr.1 hy
 ·obtain⟨h1,h2⟩:=h.begins hx;rw[h1,h2];decide
 ·obtain⟨h1,h2⟩:=after h hx;rw[show x.2+1 - 1=x.2 by omega,h1,h2];decide
theorem zjw {f g:K.Rule->Bool}{l:List K.Rule}(h:∀r∈l,f r=g r):∀i,which f i l=which g i l:=by
 induction l with
 | nil=>intro i;rfl
 | cons x l ih=>intro i;rw[which,which,h x (List.mem_cons_self ..),ih fun r hr=>h r (List.mem_cons_of_mem _ hr)]
section
variable {l:List K.Rule} {c:List Int}
theorem Cuts.get (h:Cuts l c){k:Nat}(hk:k<c.length):c.getD k 0∈c:=by simp[List.getD,hk]
theorem Cuts.lt (h:Cuts l c){i j:Nat}(hij:i<j)(hj:j<c.length):c.getD i 0<c.getD j 0:=by
 have:=List.pairwise_iff_getElem.1 h.1 i j (by omega) hj hij;simpa [List.getD,hj,show i<c.length by omega] using this
theorem Cuts.le (h:Cuts l c){i j:Nat}(hij:i<=j)(hj:j<c.length):c.getD i 0<=c.getD j 0:=by
 rcases Nat.lt_or_eq_of_le hij with h1 | rfl
 ·have:=h.lt h1 hj;omega
 ·exact Int.le_refl _
theorem Cuts.ix (h:Cuts l c){y:Int}(hy:y∈edgesL l):∃j,j<c.length/\c.getD j 0=y:=by
 obtain⟨j,hj,he⟩:=List.getElem_of_mem ((h.2 y).2 hy);exact⟨j,hj,by simp[List.getD,hj,he]⟩
theorem Cuts.first (h:Cuts l c)(hE:∀r∈l,K.ruleE r=0):c.getD 0 0=0:=by
 obtain⟨j,hj,he⟩:=h.ix (y:=0) (by simp[edgesL]);have h1:=h.le (Nat.zero_le j) hj;have h2:=mem_range hE ((h.2 _).1 (h.get (k:=0) (by omega)));omega
theorem Cuts.last (h:Cuts l c)(hE:∀r∈l,K.ruleE r=0):c.getD (c.length - 1) 0=1114112:=by
 obtain⟨j,hj,he⟩:=h.ix (y:=1114112) (by simp[edgesL]);have h1:=h.le (i:=j) (j:=c.length - 1) (by omega) (by omega);have h2:=mem_range hE ((h.2 _).1 (h.get (k:=c.length - 1) (by omega)));omega
theorem Cuts.none (h:Cuts l c){k:Nat}(hk:k+1<c.length){y:Int}(hy:y∈edgesL l):¬(c.getD k 0<y/\y<c.getD (k+1) 0):=by
 obtain⟨j,hj,rfl⟩:=h.ix hy;rintro ⟨h1,h2⟩;have h3:k<j:=Nat.lt_of_not_le fun hh=>by have:=h.le hh (by omega);omega
 have:=h.le (i:=k+1) (j:=j) (by omega) hj;omega
theorem zw7 {r:K.Rule}(hr:r∈l){y:Int}(hy:y∈ends (K.headS r)):y∈edgesL l:=by
 unfold edgesL;exact List.mem_append_right _ (List.mem_flatMap.2 ⟨r,hr,hy⟩)
theorem Cuts.same (h:Cuts l c){k:Nat}(hk:k+1<c.length){q:Int}(h1:c.getD k 0<=q)(h2:q<c.getD (k+1) 0):begins l q=begins l (c.getD k 0):=by
 refine zjw (fun r hr=> ?_) 0;refine between (q - c.getD k 0).toNat (by omega) fun y hy hh=> ?_
 exact h.none hk (zw7 hr hy) ⟨hh.1,by omega⟩
theorem Cuts.at (h:Cuts l c)(hE:∀r∈l,K.ruleE r=0){q:Int}(h0:0<=q)(h1:q<=1114111):∃k,k+1<c.length/\c.getD k 0<=q/\q<c.getD (k+1) 0:=by
 have hf:=h.first hE
 have hl:=h.last hE;have ht:=h.two
 have key:∀n,n<c.length->q<c.getD n 0->∃k,k+1<c.length/\c.getD k 0<=q/\q<c.getD (k+1) 0:=by
  intro n
  induction n with
  | zero=>intro _ hq;omega
  | succ n ih =>
   intro hn hq
   by_cases hc:q<c.getD n 0
   ·exact ih (by omega) hc
   ·exact⟨n,hn,by omega,hq⟩
 exact key (c.length - 1) (by omega) (by omega)
end
end J
namespace J
theorem zu9 {ps:List (Hd×Value)}{k:Nat}{p:Hd×Value}(h:ps[k]?=some p):(cells ps)[k*3]?=some (.int .i32 p.1.1)/\(cells ps)[k*3+1]?=some (.int .i32 p.1.2.1)/\(cells ps)[k*3+2]?=some p.2:=by
 induction ps generalizing k with
 | nil=>simp at h
 | cons x ps ih =>
  have e:cells (x::ps)= .int .i32 x.1.1:: .int .i32 x.1.2.1::x.2::cells ps:=rfl;cases k with
  | zero=>simp at h;subst h;simp[e]
  | succ k =>
   have:=ih (k:=k) (by simpa using h);rw[e,show (k+1)*3=k*3+3 by omega];exact this
theorem Own.len {F:Nat}{w:World}{v:Value}{hs:List Hd}(h:Own F w v hs):∃ao cap,v= .slice ao hs.length cap:=by
 obtain⟨ps,_,⟨_,⟨rfl,h0⟩|⟨g,k,cur,rfl,_⟩⟩,_⟩:=h
 ·exact⟨none,0,by rw[h0]⟩
 ·exact⟨_,_,rfl⟩
def Rd (w:World) (v:Value) (hs:List Hd):Prop :=
 ∃ao cap,v= .slice ao hs.length cap/\(hs≠ []->∃X off,ao=some ⟨X,off,none⟩/\∀(k:Nat) p,hs[k]?=some p->w.cell? ⟨X,off+k*3,none⟩=some (.int .i32 p.1)/\w.cell? ⟨X,off+k*3+1,none⟩=some (.int .i32 p.2.1) /\
  ∃ro rc,w.cell? ⟨X,off+k*3+2,none⟩=some (.slice ro p.2.2.length rc)/\L.Rd w (.slice ro p.2.2.length rc) .i64 p.2.2)
theorem Own.rd {F:Nat}{w:World}{v:Value}{hs:List Hd}(h:Own F w v hs):Rd w v hs:=by
 obtain⟨ps,h1,⟨hl,hor⟩,h3⟩:=h;rcases hor with ⟨rfl,h0⟩|⟨g,cap,cur,rfl,hb,hx,hn,hm,hs',ht⟩
 ·refine⟨none,0,by rw[h0],fun hne=>absurd (List.length_eq_zero_iff.1 h0) hne⟩
 ·refine⟨_,cap,rfl,fun _=>⟨g,0,rfl,fun k p hk=> ?_⟩⟩;rw[<- h1,List.getElem?_map] at hk;cases hp:ps[k]? with
  | none=>rw[hp] at hk;simp at hk
  | some q =>
   rw[hp] at hk;simp at hk;subst hk;obtain⟨c0,c1,c2⟩:=zu9 hp;have hkl:k<hs.length:=by rw[<- h1,List.length_map];exact(qL.1 hp).1
   have cell:∀j u,(cells ps)[j]?=some u->w.cell? ⟨g,j,none⟩=some u:=fun j u hj=>by
    have hj':=(qL.1 hj).1;rw[hl] at hj';refine K.zah hx ?_;rw[<- ht,List.getElem?_take_of_lt hj',Array.getElem?_toList] at hj;exact hj
   have hr:=L.Rd.zaz (h3 q (List.mem_of_getElem? hp));obtain⟨ro,rc,he,_⟩:=id hr;rw[Nat.zero_add];exact⟨cell _ _ c0,cell _ _ c1,ro,rc,by rw[<- he];exact cell _ _ c2,by rw[<- he];exact hr⟩
theorem Rd.below {w w':World}{v:Value}{hs:List Hd}(h:Rd w v hs)(hb:Below w.heap.size w w'):Rd w' v hs:=by
 obtain⟨ao,cap,h1,h2⟩:=h;have lift:∀b o x,w.cell? ⟨b,o,none⟩=some x->w'.cell? ⟨b,o,none⟩=some x:=fun b o x h=>by rw[(L.bcell hb).1 b o (L.block_lt h)];exact h
 refine⟨ao,cap,h1,fun hne=> ?_⟩;obtain⟨X,off,h3,h4⟩:=h2 hne;refine⟨X,off,h3,fun k p hk=> ?_⟩;obtain⟨c0,c1,ro,rc,c2,hr⟩:=h4 k p hk;exact⟨lift _ _ _ c0,lift _ _ _ c1,ro,rc,lift _ _ _ c2,hr.below hb qN⟩
theorem Rd.at {w:World}{ao:Option Addr}{n cap:Nat}{hs:List Hd}(h:Rd w (.slice ao n cap) hs){k:Nat}{p:Hd}(hk:hs[k]?=some p) :
  ∃X off ro rc,ao=some ⟨X,off,none⟩/\w.cell? ⟨X,off+k*3,none⟩=some (.int .i32 p.1)/\w.cell? ⟨X,off+k*3+1,none⟩=some (.int .i32 p.2.1)/\w.cell? ⟨X,off+k*3+2,none⟩=some (.slice ro p.2.2.length rc)/\L.Rd w (.slice ro p.2.2.length rc) .i64 p.2.2:=by
 obtain⟨ao',cap',h1,h2⟩:=h;cases h1;obtain⟨X,off,h3,h4⟩:=h2 (by intro h;subst h;simp at hk);obtain⟨c0,c1,ro,rc,c2,hr⟩:=h4 k p hk;exact⟨X,off,ro,rc,h3,c0,c1,c2,hr⟩
theorem zus {f:Int->List Int}{c:List Int}{n k:Nat}(hk:k<n):(heads f c n)[k]?=some (headAt f c k):=by simp[heads,hk]
theorem zk3 {l:List K.Rule}{c d:List Int}(h:Cuts l c)(h':Cuts l d):c=d:=by
 have hp:c.Perm d:=by
  rw[List.perm_ext_iff_of_nodup (h.1.imp fun hh=>by omega) (h'.1.imp fun hh=>by omega)];intro a;rw[h.2,h'.2]
 exact hp.eq_of_pairwise (fun a b _ _ h1 h2=>by omega) h.1 h'.1
def aRule:K.Rule:=⟨false,false,[],[[(97,98)]],[],[],0⟩
end J
theorem J.zk5 {l:List K.Rule}{o o':List J.Hd×Int×Int}(h:J.Comp l o)(h':J.Comp l o'):o=o':=by
 rcases h with ⟨h1,rfl⟩|⟨h1,c,hc,_,hor⟩
 ·rcases h' with ⟨_,rfl⟩|⟨h2,_⟩
  ·rfl
  ·exact absurd h2 h1
 ·rcases h' with ⟨h2,_⟩|⟨_,d,hd,_,hor'⟩
  ·exact absurd h1 h2
  ·have:=J.zk3 hc hd;subst this;rcases hor with ⟨h2,rfl⟩|⟨h2,rfl⟩ <;> rcases hor' with ⟨h3,rfl⟩|⟨h3,rfl⟩
   ·rfl
   ·omega
   ·omega
   ·rfl
end
section
open Go.RowKit Go.Lib Go.Sort
theorem jEmpty (w:World):(w.alloc (.cells #[] 3)).ownsRow w.heap.size 3 1 (.slice (some ⟨w.heap.size,0,none⟩) 0 0) 0 []:=by
 refine⟨rfl,.inr ⟨w.heap.size,0,#[],rfl,qN,?_,qN,by unfold maxLen;omega,rfl,rfl⟩⟩;show (w.heap.push _)[w.heap.size]?=_;exact Array.getElem?_push_size
theorem zof (w:World)(v:Value)(zs:List Int)(R:L.Rd w v .i64 zs)(hl:zs.length<=1000000) :
  Calls prog 252 #[v] w fun e w'=>∃v',e= .returned v'/\L.Rd w' v' .i64 zs/\Below w.heap.size w w':=by
 have HR:=qH R;obtain⟨i0,hi,hz0,hz1,hz2⟩:=info_parts Tryz.infoIntJ;obtain⟨ao,cap,rfl,hn,hc⟩:=R
 have HN:Hid (ao=none->zs= []):=fun h=>by
  cases zs with
  | nil=>rfl
  | cons z zs=>obtain⟨b,off,h',_⟩:=hc (by simp);rw[h] at h';cases h'
 have q40:∀(w:World) (a:Option Addr) (n c n' c':Nat),(binOp .eql 45 (.slice a n c) (.slice none n' c')).run prog w= .ok (.bool a.isNone) w:=fun w a n c n' c'=>Lib.run_eql_slice_nil w _ _ a n c n' c' underlying45
 have HA:Hid (Below w.heap.size w (w.alloc (.cells #[] 3))):=(qR w).alloc qN _;clear hc;cases ao with
 | none =>
  have:=HN.out rfl;subst this;have:=hn rfl;subst this
  go_enter func252,ntmps252
  go_wp2;go_ret
  exact⟨_,rfl,⟨none,0,rfl,fun _=>rfl,fun h=>absurd rfl h⟩,qR _⟩
 | some ad =>
  go_enter func252,ntmps252
  go_wp2_with (at_builtin;go_must (refine L.zba rfl _ _ 45 rfl w.heap.size 3 i0 .i64 8 underlying45 hi hz0 hz1 hz2 _ _ _ rfl (jEmpty w) _ zs rfl (HR.out.below HA.out qN) (by unfold maxLen;omega) (by omega) (by simp) ?_;intro v' w4 own4 grown4))
  go_ret;have e:([]++zs.map (Value.int .i64))=zs.map (Value.int .i64):=by simp
  rw[e,Nat.zero_add] at own4;exact⟨v',rfl,L.Rd.zaz own4,Below.grown HA.out grown4 (by simp) (fun j hj=>by cases hj;exact qN)⟩
theorem zod (ba bx:Nat)(v:Value)(hs:List J.Hd)(r:Int)(i:Nat)(p:J.Hd)(W:World)(hp:hs[i]?=some p)(R:J.Rd W v hs)(hl:hs.length<=1000)
  (ha:W.cell? ⟨ba,0,none⟩=some v) (hr:W.cell? ⟨bx,0,none⟩=some (.int .i32 r)) :
  Calls prog 251 (#[.int .i64 i]++#[.pointer (some ⟨ba,0,none⟩),.pointer (some ⟨bx,0,none⟩)]) W fun e w'=>e= .returned (.bool (decide (r<=p.2.1)))/\∃q os,w'=grow (W.drewN q) os:=by
 obtain⟨ao,cap,rfl,_⟩:=id R;have hlt:=(qL.1 hp).1;obtain⟨X,off,ro,rc,rfl,c0,c1,c2,_⟩:=R.at hp;have hiz:(i:Int)<(hs.length:Int):=by omega
 obtain⟨p0,p1,p2⟩:=p;simp only at c1 ⊢;clear c0 c2 hp R
 go_enter func251,ntmps251
 go_wp2
 go_quiet (fail)
 go_wp2;go_ret
 exact⟨rfl,_,#[],by rw[grow_empty]⟩
namespace J
def found (l:List K.Rule) (r:Int):List Int:=if 0<=r/\r<=1114111 then begins l r else []
theorem zuu {l:List K.Rule}{c:List Int}(h:Cuts l c)(hE:∀r∈l,K.ruleE r=0){r:Int}{k:Nat}(hk:k+1<c.length)(h1:c.getD k 0<=r)(h2:r<=c.getD (k+1) 0 - 1):found l r=begins l (c.getD k 0):=by
 have r1:=mem_range hE ((h.2 _).1 (h.get (k:=k) (by omega)));have r2:=mem_range hE ((h.2 _).1 (h.get (k:=k+1) (by omega)));unfold found;rw[if_pos (by omega)];exact h.same hk h1 (by omega)
theorem zol {l:List K.Rule}{c:List Int}(h:Cuts l c)(hE:∀r∈l,K.ruleE r=0){r:Int}(hn:∀k,k+1<c.length->¬(c.getD k 0<=r/\r<=c.getD (k+1) 0 - 1)):found l r= []:=by
 unfold found;rw[if_neg];rintro ⟨h1,h2⟩;obtain⟨k,hk,a,b⟩:=h.at hE h1 h2;exact hn k hk ⟨a,by omega⟩
end J
theorem zrl (w:World)(v:Value)(l:List K.Rule)(c:List Int)(hc:J.Cuts l c)(hE:∀r∈l,K.ruleE r=0)(hll:l.length<=200)(hn:c.length - 1<=400)(R:J.Rd w v (J.heads (J.begins l) c (c.length - 1)))(r:Int) :
  Calls prog 233 #[v,.int .i32 r] w fun e w'=>∃v',e= .returned v'/\L.Rd w' v' .i64 (J.found l r)/\Below w.heap.size w w':=by
 obtain⟨F,hF⟩:∃F,F=J.found l r:=⟨_,rfl⟩;rw[<- hF];obtain⟨hs,hhs⟩:∃hs,hs=J.heads (J.begins l) c (c.length - 1):=⟨_,rfl⟩;have hlen:hs.length=c.length - 1:=by rw[hhs,J.zi8]
 have hat:∀k,k<c.length - 1->hs[k]?=some (J.headAt (J.begins l) c k):=fun k hk=>by rw[hhs];exact J.zus hk
 rw[<- hhs] at R;obtain⟨aa,ca,rfl,_⟩:=id R;obtain⟨W0,hW0⟩:∃W0,W0=(w.alloc (.cells #[.slice aa hs.length ca] 270)).alloc (.cells #[.int .i32 r] 21):=⟨_,rfl⟩;have hsize:W0.heap.size=w.heap.size+2:=by rw[hW0];simp
 have hbw:Below w.heap.size w W0:=by
  rw[hW0];exact((qR w).alloc qN _).alloc (by simp) _
 have x1:S.Bx W0 w.heap.size 270 (.slice aa hs.length ca):=by
  rw[hW0];exact(S.Bx.new w _ _).below (B:=w.heap.size+1) ((qR _).alloc (by simp) _) (by omega)
 have x2:S.Bx W0 (w.heap.size+1) 21 (.int .i32 r):=by
  rw[hW0];have h:=S.Bx.new (w.alloc (.cells #[.slice aa hs.length ca] 270)) 21 (.int .i32 r);rw[World.size_alloc] at h;exact h
 have R0:=R.below hbw
 have hpm:∀a b,a<=b->b<hs.length->decide (r<=c.getD (a+1) 0 - 1)=true->decide (r<=c.getD (b+1) 0 - 1)=true:=by
  intro a b hab hb h;have:=hc.le (i:=a+1) (j:=b+1) (by omega) (by omega);simp only[decide_eq_true_eq] at h ⊢;omega
 have eg:∀args w,(callFunc 251 args).run prog w= .ok (.enter 251 args) w:=enters_of func251 (by kernel_rfl) rfl
 have hS:=Any.sort_Search Tryz.search 251 #[.pointer (some ⟨w.heap.size,0,none⟩),.pointer (some ⟨w.heap.size+1,0,none⟩)] hs.length (fun i=>decide (r<=c.getD (i+1) 0 - 1)) W0 eg (by omega)
  (fun m os i hi=>by
   have hb:=below_grown_sl W0.heap.size W0 m os qN
   exact zod w.heap.size (w.heap.size+1) (.slice aa hs.length ca) hs r i _ (grow (W0.drewN m) os) (hat i (by omega)) (R0.below hb) (by omega) (x1.below hb (by omega)).cell (x2.below hb (by omega)).cell) hpm
 obtain⟨q,hql,hqe,hq1,hq2⟩:=zcd hs.length (fun i=>decide (r<=c.getD (i+1) 0 - 1)) hpm;rw[hqe] at hS;change Calls prog 87 _ _ _ at hS
 have HNo:Hid ((q=hs.length∨r<c.getD q 0)->F= []):=fun hor=>by
  rw[hF];refine J.zol hc hE fun k hk hh=> ?_
  by_cases hkq:k<q
  ·have:=hq1 k hkq;simp only[decide_eq_false_iff_not] at this;omega
  ·rcases hor with h | h
   ·omega
   ·have:=hc.le (i:=q) (j:=k) (by omega) (by omega);omega
 have HYes:Hid (q<hs.length->c.getD q 0<=r->F=J.begins l (c.getD q 0)):=fun h1 h2=>by
  rw[hF];have:=hq2 q qN h1;simp only[decide_eq_true_eq] at this;exact J.zuu hc hE (by omega) h2 this
 have HX:Hid (S.Bx W0 w.heap.size 270 (.slice aa hs.length ca)/\S.Bx W0 (w.heap.size+1) 21 (.int .i32 r)/\Below w.heap.size w W0/\J.Rd W0 (.slice aa hs.length ca) hs):=⟨x1,x2,hbw,R0⟩;have HAt:Hid (∀k,k<hs.length->hs[k]?=some (J.headAt (J.begins l) c k)):=fun k hk=>hat k (by omega)
 have hbl:(J.begins l (c.getD q 0)).length<=1000000:=by
  have:=J.zey (fun r=>S.memb (K.headS r) (c.getD q 0)) l 0;unfold J.begins;omega
 have hsl:hs.length<=400:=by omega
 clear R0 x1 x2 hpm hqe hq1 hq2 R hat hhs hlen hn hE hc hF
 go_enter func233,ntmps233
 go_wp2_with fail
 rw[<- hW0];refine hS.mono ?_;clear hS hW0;rintro e W1 ⟨rfl,n1,os,hW1⟩;have hb1:=below_grown_sl W0.heap.size W0 n1 os qN;rw[<- hW1] at hb1;clear hW1;obtain⟨x1,x2,hbw2,hR⟩:=HX.out;have e1:=(x1.below hb1 (by omega)).cell;have e2:=(x2.below hb1 (by omega)).cell;have HR1:=qH <| hR.below hb1;have BW:=qH <| hbw2.trans (hb1.mono (by omega));clear x1 x2 hb1 HX hbw2 hR hbw
 by_cases hql2:q=hs.length
 ·have h1:=HNo.out (.inl hql2);subst h1;have hqi:((q:Int)==(hs.length:Int))=true:=by simp;omega
  go_wp2_with fail
  go_quiet (fail)
  go_wp2;go_ret
  exact⟨_,rfl,⟨none,0,rfl,fun _=>rfl,fun h=>absurd rfl h⟩,below_drewN BW.out _⟩
 ·have hlt:q<hs.length:=by omega
  have hqi:((q:Int)==(hs.length:Int))=false:=by simp;omega
  obtain⟨X,off,ro,rc,rfl,c0,c1,c2,hr⟩:=HR1.out.at (HAt.out q hlt);simp only[J.headAt] at c0 c1 c2 hr;have HRr:=qH hr;clear hr HR1 HAt c1;generalize c.getD q 0=lo at HNo HYes c0 c2 hbl HRr
  by_cases hlow:r<lo
  ·have h1:=HNo.out (.inr hlow);subst h1
   go_wp2_with fail
   go_quiet (fail)
   go_wp2;go_ret
   exact⟨_,rfl,⟨none,0,rfl,fun _=>rfl,fun h=>absurd rfl h⟩,below_drewN BW.out _⟩
  ·have HFE:=qH <| HYes.out hlt (by omega);clear HYes HNo;have hlowf:=decide_eq_false hlow
   have HCl:Hid (∀n,Calls prog 252 #[.slice ro (J.begins l lo).length rc] (W1.drewN n) fun e w'=>∃v',e= .returned v'/\L.Rd w' v' .i64 (J.begins l lo)/\Below W1.heap.size W1 w'):=fun n=>by
    have hd:Below W1.heap.size W1 (W1.drewN n):=below_drewN (qR _) _;refine(zof (W1.drewN n) _ (J.begins l lo) (HRr.out.below hd qN) hbl).mono ?_;rintro e w' ⟨v',h1,h2,h3⟩;exact⟨v',h1,h2,hd.trans h3⟩
   go_wp2_with fail
   go_quiet (fail)
   go_wp2_with fail
   go_at_call 252
   refine(HCl.out _).mono ?_;rintro e w3 ⟨v3,rfl,r3,b3⟩;have HF:Hid (L.Rd w3 v3 .i64 (J.begins l lo)/\Below w.heap.size w w3):=⟨r3,BW.out.trans (b3.mono BW.out.size)⟩;clear r3 b3;go_wp2;go_ret;exact⟨v3,rfl,by rw[HFE.out];exact HF.out.1,HF.out.2⟩
