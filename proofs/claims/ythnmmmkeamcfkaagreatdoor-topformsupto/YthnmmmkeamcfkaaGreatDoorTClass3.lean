import Derived.SliceStrings
import Derived.Test.YthnmmmkeamcfkaaGreatDoorOdSort
import Derived.MapKept
import Derived.ChangeMaps4
set_option maxHeartbeats 0
set_option maxRecDepth 20000
set_option linter.unusedSimpArgs false
set_option linter.unusedVariables false
namespace Go.Proofs.YthnmmmkeamcfkaaGreatDoor
open Go.Proofs.Tryz
section
open Go.ChangeShapes Go.WideShapes Go.ChangeAt Go.RowKit
def Tp.Ss (w:World) (v:Value) (ss:List ByteArray):Prop :=
 ∃ao cap,v= .slice ao ss.length cap/\(ss≠ []->∃b off,ao=some ⟨b,off,none⟩/\∀j s,ss[j]?=some s->w.cell? ⟨b,off+j,none⟩=some (.string s))
theorem zsj {H:Type}{s:ByteArray}{l:List ByteArray}(h:s∈l):s.size+1<=Rows.uptoBulkAll (strs (H:=H) l):=by
 have h1:(DataW.lit (H:=H) (.string s.data.toList))∈strs (H:=H) l:=List.mem_map.2 ⟨s,h,rfl⟩;have h2:=zmg h1;rw[zf2] at h2;exact h2
set_option maxRecDepth 100000 in
theorem zv2 {H:Type}{enc:TypeId×Value->H}{W:World}{base:Nat}{v:Value}{d:DataW H}{p:List MemPlace}
  (hv:Value.okWide prog W .any base 22 v) (h:DataW.Trod enc prog W 0 (fun _=>true) true 22 v d p) :
  ∃ss:List ByteArray,Tp.Ss W v ss/\ss.length<=Rows.uptoBulk d/\∀s∈ss,s.size<=Rows.uptoBulk d:=by
 obtain⟨a0,len0,cap0,rfl⟩:=okWide_slice underlying22 hv;obtain⟨fuel,hf⟩:=h;rcases open_strings underlying22 underlying9 (by kernel_rfl) hf with ⟨hcs,hx⟩|⟨a,len,cap,ss,hcs,_,hl,hm,hz,hx,hcell,hsz⟩
 ·simp[Value.cells] at hcs;obtain⟨rfl,rfl,rfl⟩:=hcs;exact⟨[],⟨none,0,rfl,fun h=>absurd rfl h⟩,by simp,fun s hs=>by cases hs⟩
 ·simp[Value.cells] at hcs;obtain⟨rfl,rfl,rfl⟩:=hcs;simp only[Prod.mk.injEq] at hx;obtain⟨rfl,rfl⟩:=hx;simp only[if_true] at hz;have hlt:(ss.take len0).length=len0:=by rw[List.length_take];omega
  refine⟨ss.take len0,⟨some a,cap0,by rw[hlt],fun hne=> ?_⟩,?_,fun s hs=> ?_⟩
  ·have h0:0<ss.length:=by
    cases ss with
    | nil=>simp at hne
    | cons=>simp
   obtain⟨b,off,spot⟩:=a
   have hsp:spot=none:=by
    have:=hcell 0 h0;simpa [Addr.add] using World.cell?_spot this
   subst hsp;refine⟨b,off,rfl,fun j s hj=> ?_⟩
   have hj2:j<len0:=by
    have:=(qL.1 hj).1
    rwa [hlt] at this
   have h3:=hcell j (by omega);rw[L.addr_add] at h3;rw[h3];rw[List.getElem?_take,if_pos hj2] at hj;simp[List.getD,hj]
  ·have h1:=zot (H:=H) (strs (ss.take len0)) (strs (ss.drop len0));have e:(strs (H:=H) (ss.take len0)).length=(ss.take len0).length:=by unfold strs;rw[List.length_map]
   rw[e] at h1;omega
  ·have h1:=zsj (H:=H) hs;simp only[Rows.uptoBulk];omega
end
section
open Go.RowKit Go.Lib
namespace Tp
structure Fm (w:World) (F:Nat) (a b c:Value) (j:Nat) (T A B:List (List Int)):Prop where
 tr:Tr w F a b c T A B
 al:Al T A B
 n1:T.length=j
 n2:A.length=j
 n3:B.length=j
 m1:∀t∈T,t.length<=140737488355328
 m2:∀t∈A,t.length<=140737488355328
 m3:∀t∈B,t.length<=140737488355328
theorem Fm.nil (w:World)(F:Nat):Fm w F (.slice none 0 0) (.slice none 0 0) (.slice none 0 0) 0 [] [] [] :=
 ⟨Tr.nil _ _,⟨rfl,rfl⟩,rfl,rfl,rfl,(fun _ h=>nomatch h),(fun _ h=>nomatch h),(fun _ h=>nomatch h)⟩
theorem zs8 (t:List Int):(Nm.togF t).1.length<=4000:=by
 unfold Nm.togF;split
 ·simp
 ·exact Nat.le_trans (Nm.zjy _) (Nm.zcf t)
theorem zhq {P:List Int->Prop}{T:List (List Int)}{t:List Int}(h:∀t∈T,P t)(ht:P t):∀u∈T++ [t],P u:=fun u hu=>by
 rcases List.mem_append.1 hu with hu | hu
 ·exact h u hu
 ·simp at hu;subst hu;exact ht
theorem Fm.push {w w':World}{F:Nat}{a b c a' b' c':Value}{j:Nat}{T A B:List (List Int)}(h:Fm w F a b c j T A B){t:List Int}(h0:(Nm.apartF t).2=0)(hl:t.length<=140737488355328)(tr:Tr w' F a' b' c' (T++ [t]) (A++ [(Nm.apartF t).1]) (B++ [(Nm.togF t).1])):Fm w' F a' b' c' (j+1) (T++ [t]) (A++ [(Nm.apartF t).1]) (B++ [(Nm.togF t).1]):=by
 have e1:=Nm.zcf t;have e2:=zs8 t;exact⟨tr,h.al.push h0,by simp[h.n1],by simp[h.n2],by simp[h.n3],zhq h.m1 hl,zhq h.m2 (by omega),zhq h.m3 (by omega)⟩
end Tp
theorem zia (hK:T.ClassOk)(w:World)(v:Value)(ss:List ByteArray)(R:Tp.Ss w v ss)(hs:∀s∈ss,s.size<=1099511627776)(hn:ss.length<=1099511627776) :
  Calls prog 6 #[v] w fun e w'=>e= .returned (.bool true)/\Below w.heap.size w w':=by
 obtain⟨ao,cap,rfl,hc⟩:=R
 have HE:Hid (∀(j:Nat) s W,Below w.heap.size w W->ss[j]?=some s->∃b off,ao=some ⟨b,off,none⟩/\W.cell? ⟨b,off+j,none⟩=some (.string s)):=fun j s W hW hj=>by
  obtain⟨b,off,rfl,hcell⟩:=hc (by intro h;subst h;simp at hj);have h1:=hcell j s hj;exact⟨b,off,rfl,(hW.cell (p:=⟨b,off+j,none⟩) (L.block_lt h1)).trans h1⟩
 have HD:Hid (∀(j:Nat) s W,ss[j]?=some s->∃t:List Int,t.length<=140737488355328/\Calls prog 10 #[.string s] W fun e w'=>∃v,e= .returned v/\w'.ownsRow W.heap.size 21 1 v t.length (K.ints t)/\Below W.heap.size W w'):=fun j s W hj=>by
  have h1:=hs s (List.mem_of_getElem? hj);have h2:=M.zqa s;exact⟨M.rn s,by omega,(zcy s W h1).mono fun e w' ⟨v,he,ho,hb⟩=>⟨v,he,L.zar ho (by omega),hb⟩⟩
 have hA:=zm4 hK w;clear hc hs
 go_enter func6,ntmps6
 go_wp2_with fail
 refine hA.mono ?_;clear hA;rintro e w1 ⟨rfl,b1⟩;have HB1:=qH b1;clear b1;go_wp2
 go_loopw [3,4,5,23] (fun v3 v4 v5 vi wr=>∃(va vb vc:Value) (j:Nat) (T A B:List (List Int)),v3=va/\v4=vb/\v5=vc/\vi= .int .i64 j/\j<=ss.length/\Hid (Tp.Fm wr w1.heap.size va vb vc j T A B/\Below w1.heap.size w1 wr)) (fun _ _ _ vi _=>ss.length - (intOf vi).toNat)
 case atStart=>exact⟨_,_,_,0,[],[],[],rfl,rfl,rfl,rfl,Nat.zero_le _,Tp.Fm.nil _ _,qR _⟩
 case round =>
  obtain⟨va,vb,vc,j,T,A,B,h3,h4,h5,rfl,hj,HO⟩:=hrel;obtain rfl:=h3.symm;obtain rfl:=h4.symm;obtain rfl:=h5.symm;clear h3 h4 h5;have HBr:=qH <| HB1.out.trans (HO.out.2.mono HB1.out.size)
  by_cases hlt:j<ss.length
  ·obtain⟨s,hsj⟩:∃s,ss[j]?=some s:=⟨ss[j],by simp[hlt]⟩;obtain⟨b,off,rfl,cu⟩:=HE.out j s wr HBr.out hsj;obtain⟨t,htl,h2⟩:=HD.out j s wr hsj;clear hsj
   go_wp2_with fail
   refine h2.mono ?_;clear h2;rintro e w2 ⟨v2,rfl,o2,b2⟩;obtain⟨xa,ya,rfl,_⟩:=Al.lies o2;have h3:=zdg w2 _ t (L.Rd.zaz o2) htl;have HF:=qH HO.out.2.size;have HO2:Hid (w2.ownsRow w1.heap.size 21 1 (.slice xa t.length ya) t.length (K.ints t)/\Tp.Fm wr w1.heap.size va vb vc j T A B/\Below wr.heap.size wr w2):=⟨L.zar o2 HF.out,HO.out.1,b2⟩;have HBw:=qH <| HO.out.2.trans (b2.mono HF.out);obtain⟨q,hq⟩:∃q,q=Nm.apartF t:=⟨_,rfl⟩;obtain⟨p,hp⟩:∃p,p=Nm.togF t:=⟨_,rfl⟩;have HQ:Hid (q=Nm.apartF t/\p=Nm.togF t):=⟨hq,hp⟩;rw[<- hq] at h3;obtain⟨q1,q2⟩:=q;obtain⟨p1,p2⟩:=p
   have HP:Hid (p2=q2):=by
    have:=Tp.zs4 (t:=t);rw[<- hq,<- hp] at this;exact this
   simp only at h3;clear hq hp o2 b2 HO cu
   go_wp2_with fail
   refine h3.mono ?_;clear h3;rintro e w3 ⟨v3,rfl,o3,b3⟩;obtain⟨xb,yb,rfl,_⟩:=Al.lies o3;have h4:=zq0 w3 _ t (L.Rd.zaz (L.zao HO2.out.1 b3 qN)) htl;rw[<- HQ.out.2] at h4;simp only at h4;rw[HP.out] at h4
   have HO3:Hid (w3.ownsRow w1.heap.size 21 1 (.slice xa t.length ya) t.length (K.ints t)/\w3.ownsRow w1.heap.size 21 1 (.slice xb q1.length yb) q1.length (K.ints q1)/\Below wr.heap.size wr w3/\Below w1.heap.size w1 w3) :=
    ⟨L.zao HO2.out.1 b3 qN,L.zar o3 HBw.out.size,HO2.out.2.2.trans (b3.mono HO2.out.2.2.size),HBw.out.trans (b3.mono HBw.out.size)⟩
   clear o3 b3
   go_wp2_with fail
   refine h4.mono ?_;clear h4;rintro e w4 ⟨v4,rfl,o4,b4⟩;obtain⟨xd,yd,rfl,_⟩:=Al.lies o4;have HB4:=qH <| HO3.out.2.2.2.trans (b4.mono HO3.out.2.2.2.size)
   by_cases hz:q2=0
   ·subst hz;have HTr:=qH <| HO2.out.2.1.tr.below (HO3.out.2.2.1.trans (b4.mono HO3.out.2.2.1.size));obtain⟨a1,a2,w5,c1,c2,w6,d1,d2,w7,r5,r6,r7,t7,b7⟩:=Tp.push3 HTr.out HB4.out.size (by rw[HO2.out.2.1.n1];omega) (by rw[HO2.out.2.1.n2];omega) (by rw[HO2.out.2.1.n3];omega) (L.zao HO3.out.1 b4 qN) (L.zao HO3.out.2.1 b4 qN) (L.zar o4 HO3.out.2.2.2.size)
    have HN:Hid (∃T' A' B',Tp.Fm w7 w1.heap.size (.slice a1 (T.length+1) a2) (.slice c1 (A.length+1) c2) (.slice d1 (B.length+1) d2) (j+1) T' A' B'/\Below w1.heap.size w1 w7):=by
     have h:=HO2.out.2.1.push (w':=w7) (t:=t) (by rw[<- HQ.out.1]) htl (by rw[<- HQ.out.1,<- HQ.out.2];exact t7);exact⟨_,_,_,h,HB4.out.trans b7⟩
    clear t7 b7 o4 b4 HTr HO3 HO2 HQ HP HBw HF HBr HB4
    go_wp2_with (at_builtin;first | refine Lib.wpList_append_run _ rfl _ _ _ _ rfl _ _ rfl rfl _ _ (r5 _) ?_ | refine Lib.wpList_append_run _ rfl _ _ _ _ rfl _ _ rfl rfl _ _ (r6 _) ?_ | refine Lib.wpList_append_run _ rfl _ _ _ _ rfl _ _ rfl rfl _ _ (r7 _) ?_)
    obtain⟨T',A',B',hN⟩:=HN.out;have HN':=qH hN;clear hN
    go_roundw
    case rel=>exact⟨_,_,_,j+1,T',A',B',rfl,rfl,rfl,by go_num,by omega,HN'⟩
    case measure=>simp[intOf];omega
   ·have HE4:=qH <| HB1.out.trans (HB4.out.mono HB1.out.size);clear o4 b4 HO3 HO2 HQ HP HBw HF HBr HB4;go_wp2;go_ret;exact⟨rfl,HE4.out⟩
  ·obtain⟨e1,e2⟩:=Od.zl0 HO.out.1.al.k1;obtain⟨e3,e4⟩:=Od.zl0 HO.out.1.al.k2;have h2:=zde wr _ T HO.out.1.tr.o1.rd HO.out.1.m1 (by rw[HO.out.1.n1];omega)
   have H3:=qH <| fun X hX=>by
    have h:=zde X _ A (HO.out.1.tr.below hX).o2.rd HO.out.1.m2 (by rw[HO.out.1.n2];omega);rw[e1,e2] at h;exact h
   have H4:=qH <| fun X hX=>by
    have h:=zde X _ B (HO.out.1.tr.below hX).o3.rd HO.out.1.m3 (by rw[HO.out.1.n3];omega);rw[e3,e4] at h;exact h
   have hol:(Od.outS T).length<=4611686018427387903:=by
    have:=Od.ztz T (by
     by_cases h:T.length<=100
     ·exact .inl h
     ·refine .inr ?_;unfold Od.wrongS;rw[if_pos (by omega)]
      simp)
    omega
   generalize Od.outS T=os at h2 H3 H4 hol;obtain⟨⟨f1,f2⟩,hf⟩:∃f,f=Od.wrongS T:=⟨_,rfl⟩;rw[<- hf] at h2 H3 H4;simp only at h2 H3 H4;have HLn:=qH hol;obtain⟨o1,c1,hva⟩:=HO.out.1.tr.o1.len;obtain⟨o2,c2,hvb⟩:=HO.out.1.tr.o2.len;obtain⟨o3,c3,hvc⟩:=HO.out.1.tr.o3.len;clear hf e1 e2 e3 e4 hol HO;subst hva hvb hvc
   go_wp2_with fail
   refine h2.mono ?_;clear h2;rintro e w2 ⟨v2,rfl,r2,b2⟩;obtain⟨p2,d2,hv,_⟩:=id r2;subst hv;obtain⟨X,hX⟩:∃X,X=w2.alloc (.cells #[.int .i64 f1,.int .i64 f2] 38):=⟨_,rfl⟩;have bX:Below w2.heap.size w2 X:=by rw[hX];exact(qR w2).alloc qN _
   have hxX:X.heap[w2.heap.size]?=some (.cells #[.int .i64 f1,.int .i64 f2] 38):=by rw[hX];exact heap_alloc_new w2 _
   have HXe:=qH hX;have HBX:=qH <| b2.trans (bX.mono b2.size);have HRX:Hid (L.Rd X (.slice p2 os.length d2) .i64 os/\X.heap[w2.heap.size]?=some (.cells #[.int .i64 f1,.int .i64 f2] 38)):=⟨r2.below bX qN,hxX⟩;have h3:=H3.out X HBX.out;clear b2 bX hxX hX H3 r2
   go_wp2_with fail
   rw[<- HXe.out];refine h3.mono ?_;clear h3 HXe;rintro e w3 ⟨v3,rfl,r3,b3⟩;obtain⟨p3,d3,hv,_⟩:=id r3;subst hv;obtain⟨Y,hY⟩:∃Y,Y=w3.alloc (.cells #[.int .i64 f1,.int .i64 f2] 38):=⟨_,rfl⟩;have bY:Below w3.heap.size w3 Y:=by rw[hY];exact(qR w3).alloc qN _
   have hyY:Y.heap[w3.heap.size]?=some (.cells #[.int .i64 f1,.int .i64 f2] 38):=by rw[hY];exact heap_alloc_new w3 _
   have hxY:=K.zae (K.zae HRX.out.2 b3) bY;have HYe:=qH hY;have HBY:=qH <| (HBX.out.trans (b3.mono HBX.out.size)).trans (bY.mono (Nat.le_trans HBX.out.size b3.size));have HRY:Hid (L.Rd Y (.slice p2 os.length d2) .i64 os/\L.Rd Y (.slice p3 os.length d3) .i64 os/\Y.heap[w2.heap.size]?=some (.cells #[.int .i64 f1,.int .i64 f2] 38)/\Y.heap[w3.heap.size]?=some (.cells #[.int .i64 f1,.int .i64 f2] 38)):=⟨(HRX.out.1.below b3 qN).below bY qN,r3.below bY qN,hxY,hyY⟩;have h4:=H4.out Y HBY.out;clear b3 bY hyY hxY hY H4 r3 HBX HRX
   go_wp2_with fail
   rw[<- HYe.out];refine h4.mono ?_;clear h4 HYe;rintro e w4 ⟨v4,rfl,r4,b4⟩;obtain⟨p4,d4,hv,_⟩:=id r4;subst hv;obtain⟨Z,hZ⟩:∃Z,Z=w4.alloc (.cells #[.int .i64 f1,.int .i64 f2] 38):=⟨_,rfl⟩;have bZ:Below w4.heap.size w4 Z:=by rw[hZ];exact(qR w4).alloc qN _
   have HZe:=qH hZ;have HBZ:=qH <| HBr.out.trans (((HBY.out.trans (b4.mono HBY.out.size)).trans (bZ.mono (Nat.le_trans HBY.out.size b4.size))).mono HBr.out.size);have hx4:=K.zae HRY.out.2.2.1 b4;have hy4:=K.zae HRY.out.2.2.2 b4;obtain⟨x0,x1,_,_⟩:=K.box2 hx4;obtain⟨y0,y1,_,_⟩:=K.box2 hy4;have k0:=fun o=>K.zai x0 o
   have k1:=fun o=>K.zai x1 o
   have k2:=fun o=>K.zai y0 o
   have k3:=fun o=>K.zai y1 o
   have HS:Hid (∀X,Below Z.heap.size Z X->(Calls prog 22 #[.slice p2 os.length d2,.slice p3 os.length d3] X fun e w'=>e= .returned (.bool true)/\Below X.heap.size X w')/\(Calls prog 22 #[.slice p3 os.length d3,.slice p4 os.length d4] X fun e w'=>e= .returned (.bool true)/\Below X.heap.size X w')):=fun X hX=>by
    have a:=((HRY.out.1.below b4 qN).below bZ qN).below hX qN;have b:=((HRY.out.2.1.below b4 qN).below bZ qN).below hX qN;have c:=(r4.below bZ qN).below hX qN;refine⟨(zgc X _ _ os os a b HLn.out HLn.out).mono ?_,(zgc X _ _ os os b c HLn.out HLn.out).mono ?_⟩
    ·rintro e w' ⟨h1,h2⟩;exact⟨by simpa using h1,h2⟩
    ·rintro e w' ⟨h1,h2⟩;exact⟨by simpa using h1,h2⟩
   have s1:=(HS.out Z (qR _)).1;have hl2:=lt_of_block hx4;have hl3:=lt_of_block hy4;clear b4 bZ hZ HBY HRY r4 hx4 hy4 x0 x1 y0 y1
   go_wp2_with fail
   rw[<- HZe.out];refine s1.mono ?_;clear s1 HZe k0 k1 k2 k3;rintro e w5 ⟨rfl,b5⟩;have s2:=(HS.out w5 b5).2;have HB5:=qH <| HBZ.out.trans (b5.mono HBZ.out.size);clear b5 HS HBZ
   go_wp2_with fail
   refine s2.mono ?_;clear s2;rintro e w6 ⟨rfl,b6⟩;have HE6:=qH <| HB5.out.trans (b6.mono HB5.out.size);clear b6 HB5;go_wp2;go_ret;exact⟨by simp,HE6.out⟩
end
section
open Go.RowKit
def T.Cls (w:World) (b:Nat) (ents:List (ByteArray×List S.Sp)):Prop :=
 ∃(es:Array MapEntry) (clock:Nat),w.heap[b]?=some (.map es clock)/\es.toList.length=ents.length/\∀(i:Nat) (e:MapEntry) (x:ByteArray×List S.Sp),es.toList[i]?=some e->ents[i]?=some x->e.key= .string x.1/\S.Rd w e.val x.2
theorem zxa (w:World):T.Cls (w.alloc (.map #[] 0)) w.heap.size []:=⟨#[],0,heap_alloc_new w _,rfl,fun i e x h=>by simp at h⟩
theorem za2 {w w':World}{b:Nat}{ents:List (ByteArray×List S.Sp)}(h:T.Cls w b ents)(hb:Below w.heap.size w w'):T.Cls w' b ents:=by
 obtain⟨es,clock,h1,h2,h3⟩:=h;exact⟨es,clock,by rw[hb.block b (qA.1 h1).1];exact h1,h2,fun i e x he hx=>⟨(h3 i e x he hx).1,(h3 i e x he hx).2.below hb qN⟩⟩
theorem zfy (s:ByteArray):∀(l:List MapEntry) (i:Nat),(∀e∈l,∃t,e.key= .string t/\t≠s)->Instr.findNow .string (.string s) l i=some none
 | [],_,_=>rfl
 | e::l,i,h=>by
  obtain⟨t,ht,hne⟩:=h e (by simp)
  have hb:(s==t)=false:=by
   apply Bool.eq_false_iff.2;intro hh;exact hne ((MapKept.bytes_beq _ _).1 hh).symm
  simp only[Instr.findNow,ht,Instr.sameNow,hb];exact zfy s l (i+1) fun e' he'=>h e' (by simp[he'])
theorem zjc (s:ByteArray):∀(l:List MapEntry) (i:Nat),(∀e∈l,∃t,e.key= .string t)->(∃e∈l,e.key= .string s)->∃j e,Instr.findNow .string (.string s) l i=some (some (j,e.val))/\e∈l/\e.key= .string s
 | [],_,_,h=>by obtain⟨e,he,_⟩:=h;simp at he
 | e::l,i,hk,h=>by
  obtain⟨t,ht⟩:=hk e (by simp)
  by_cases hst:s=t
  ·subst hst;exact⟨i,e,by simp only[Instr.findNow,ht,Instr.sameNow,(MapKept.bytes_beq s s).2 rfl],by simp,ht⟩
  ·have hb:(s==t)=false:=by
    apply Bool.eq_false_iff.2;intro hh;exact hst ((MapKept.bytes_beq _ _).1 hh)
   obtain⟨e0,he0,hk0⟩:=h
   have hm:e0∈l:=by
    rcases List.mem_cons.1 he0 with rfl | hm
    ·rw[ht] at hk0;cases hk0;exact absurd rfl hst
    ·exact hm
   obtain⟨j,e1,h1,h2,h3⟩:=zjc s l (i+1) (fun x hx=>hk x (by simp[hx])) ⟨e0,hm,hk0⟩;exact⟨j,e1,by simp only[Instr.findNow,ht,Instr.sameNow,hb];exact h1,by simp[h2],h3⟩
theorem zbl {w w':World}{v:Value}{s:List S.Sp}{b:Nat}{es:Array MapEntry}{clock:Nat}(R:S.Rd w v s)(hb:w.heap[b]?=some (.map es clock))(hg:w.grownBy w' (some b)):S.Rd w' v s:=by
 obtain⟨vo,vc,rfl,hn,h⟩:=R;refine⟨vo,vc,rfl,hn,fun hz=> ?_⟩;obtain⟨g,off,rfl,hcl⟩:=h hz;refine⟨g,off,rfl,fun j x hj=> ?_⟩;have h1:=hcl j x hj
 have hne:g≠b:=by
  intro e;subst e;have:=h1.1;rw[World.cell?] at this;simp[hb] at this
 constructor
 ·rw[World.cell?_of_block (a:=⟨g,off+j*2,none⟩) (hg.block g (L.block_lt h1.1) (by simp[hne]))];exact h1.1
 ·rw[World.cell?_of_block (a:=⟨g,off+j*2+1,none⟩) (hg.block g (L.block_lt h1.2) (by simp[hne]))];exact h1.2
theorem zor {w:World}{b:Nat}{ents:List (ByteArray×List S.Sp)}(h:T.Cls w b ents)(s:ByteArray)(v:Value)(sp:List S.Sp)(hnew:∀x∈ents,x.1≠s)(R:S.Rd w v sp) :
  ∃w',(Instr.mapUpdate 131 (.map (some b)) (.string s) v).run prog w= .ok () w'/\T.Cls w' b (ents++ [(s,sp)])/\w.grownBy w' (some b):=by
 obtain⟨es,clock,h1,h2,h3⟩:=h
 have hkeys:∀e∈es.toList,∃t,e.key= .string t/\t≠s:=by
  intro e he;obtain⟨i,hi⟩:=List.getElem?_of_mem he;have hlt:i<ents.length:=by rw[<- h2];exact(qL.1 hi).1
  have hx:=h3 i e ents[i] hi (by simp[hlt]);exact⟨_,hx.1,hnew _ (List.getElem_mem _)⟩
 have hf:=zfy s es.toList 0 hkeys;have hlt:=(qA.1 h1).1
 have hg:w.grownBy ({ w with heap:=w.heap.setIfInBounds b (.map (es.push { key:= .string s,val:=v,born:=clock }) (clock+1)) }:World) (some b):=⟨rfl,rfl,rfl,by simp,fun i _ hi=>by
  have hne:b≠i:=fun e=>hi (by rw[e])
  simp[hne]⟩
 refine⟨({ w with heap:=w.heap.setIfInBounds b (.map (es.push { key:= .string s,val:=v,born:=clock }) (clock+1)) }:World),?_,⟨es.push { key:= .string s,val:=v,born:=clock },clock+1,?_,?_,?_⟩,hg⟩
 ·simp[Instr.mapUpdate,run_underlying underlying131,MapKept.run_getObj_map h1,MapKept.run_checkKey (kt:=9) underlying9 (show MapKept.IsKey .string (.string s) from trivial),MapKept.run_findKey (kt:=9) underlying9 hf,MapKept.run_setObj_map _ h1,Result.andThen]
 ·simp[hlt]
 ·simp;simpa using h2
 ·intro i e x he hx;have hl:es.size=ents.length:=by simpa using h2
  rw[Array.toList_push] at he
  by_cases hi:i<ents.length
  ·rw[List.getElem?_append_left (by simpa [hl] using hi)] at he;rw[List.getElem?_append_left hi] at hx;have:=h3 i e x he hx;exact⟨this.1,zbl this.2 h1 hg⟩
  ·have hi2:i=ents.length:=by
    have:=(qL.1 hx).1;simp at this;omega
   subst hi2;rw[<- h2] at he;rw[List.getElem?_append_right qN] at he hx;simp at he hx;subst he hx;exact⟨rfl,zbl R h1 hg⟩
theorem zoq {w:World}{b:Nat}{ents:List (ByteArray×List S.Sp)}(h:T.Cls w b ents)(s:ByteArray) :
  (∃v x,x∈ents/\x.1=s/\S.Rd w v x.2/\(Instr.lookup 131 (.map (some b)) (.string s) true).run prog w= .ok (.tuple #[v,.bool true]) w) ∨
  ((∀x∈ents,x.1≠s)/\(Instr.lookup 131 (.map (some b)) (.string s) true).run prog w= .ok (.tuple #[.slice none 0 0,.bool false]) w):=by
 obtain⟨es,clock,h1,h2,h3⟩:=h
 have hkey:∀e∈es.toList,∃x∈ents,e.key= .string x.1/\S.Rd w e.val x.2:=by
  intro e he;obtain⟨i,hi⟩:=List.getElem?_of_mem he;have hlt:i<ents.length:=by rw[<- h2];exact(qL.1 hi).1
  have hx:=h3 i e ents[i] hi (by simp[hlt]);exact⟨_,List.getElem_mem _,hx.1,hx.2⟩
 by_cases hs:∃x∈ents,x.1=s
 ·left
  obtain⟨x,hx,hxs⟩:=hs
  have hex:∃e∈es.toList,e.key= .string s:=by
   obtain⟨i,hi⟩:=List.getElem?_of_mem hx;have hlt:i<es.toList.length:=by rw[h2];exact(qL.1 hi).1
   have:=h3 i es.toList[i] x (by simp) hi;exact⟨_,List.getElem_mem _,by rw[this.1,hxs]⟩
  obtain⟨j,e,hf,hm,hk⟩:=zjc s es.toList 0 (fun e he=>by obtain⟨x,_,h,_⟩:=hkey e he;exact⟨_,h⟩) hex;obtain⟨y,hy,hyk,hR⟩:=hkey e hm;rw[hk] at hyk;cases hyk;refine⟨e.val,y,hy,rfl,hR,?_⟩;simp[Instr.lookup,run_underlying underlying131,MapKept.run_getObj_map h1,MapKept.run_checkKey (kt:=9) underlying9 (show MapKept.IsKey .string (.string y.1) from trivial),MapKept.run_findKey (kt:=9) underlying9 hf,Result.andThen]
 ·right
  refine⟨fun x hx e=>hs ⟨x,hx,e⟩,?_⟩
  have hf:=zfy s es.toList 0 fun e he=>by
   obtain⟨x,hx,hk,_⟩:=hkey e he;exact⟨x.1,hk,fun e=>hs ⟨x,hx,e⟩⟩
  have hz:=Tryz.zeroValue24;simp[Instr.lookup,run_underlying underlying131,MapKept.run_getObj_map h1,MapKept.run_checkKey (kt:=9) underlying9 (show MapKept.IsKey .string (.string s) from trivial),MapKept.run_findKey (kt:=9) underlying9 hf,Result.andThen,hz]
theorem ztp (w:World)(sp:List S.Sp)(C:Array Value)(hC:C=(S.cellsOf sp).toArray)(n:Nat)(hn:n=sp.length)(c:Nat):S.Rd (w.alloc (.cells C 101)) (.slice (some ⟨w.heap.size,0,none⟩) n c) sp:=by
 subst hC hn;refine⟨_,c,rfl,(fun h=>by cases h),fun _=>⟨w.heap.size,0,rfl,fun j x hj=> ?_⟩⟩;have hg:=S.zcp hj;rw[World.cell?_alloc_at _ _ _ _ rfl,World.cell?_alloc_at _ _ _ _ rfl];simp only[Nat.zero_add];exact⟨by simpa using hg.1,by simpa using hg.2⟩
end
section
open Go.RowKit
def T.names:List (ByteArray×List S.Sp) :=
  [(⟨#[100,105,103,105,116]⟩,[(48,57)]),(⟨#[108,111,119,101,114]⟩,[(97,122),(223,246),(248,255)]),
   (⟨#[117,112,112,101,114]⟩,[(65,90),(192,214),(216,222)]),(⟨#[108,101,116,116,101,114]⟩,[(65,90),(97,122),(192,214),(216,246),(248,255)]),
   (⟨#[118,111,119,101,108]⟩,[(65,65),(69,69),(73,73),(79,79),(85,85),(97,97),(101,101),(105,105),(111,111),(117,117)]),
   (⟨#[103,114,101,101,107]⟩,[(880,1023)]),(⟨#[99,121,114,105,108,108,105,99]⟩,[(1024,1279)]),(⟨#[115,112,97,99,101]⟩,[(9,10),(32,32)]),(⟨#[97,110,121]⟩,[(0,1114111)])]
theorem zsh (w:World):∃w1 b,(Instr.makeMap 131 none).run prog w= .ok (.map (some b)) w1/\T.Cls w1 b []/\Hid (w.heap.size<=b/\Below w.heap.size w w1) :=
  ⟨_,_,run_makeMap _ _,zxa w,⟨qN,(qR _).alloc qN _⟩⟩
theorem zbs {w w1:World}{b:Nat}{ents:List (ByteArray×List S.Sp)}(hC:T.Cls w1 b ents)(hB:Hid (w.heap.size<=b/\Below w.heap.size w w1))(s:ByteArray)(sp:List S.Sp)(C:Array Value)(hCC:C=(S.cellsOf sp).toArray)(n c:Nat)(hn:n=sp.length)(hnew:∀x∈ents,x.1≠s) :
    ∃w2,(Instr.mapUpdate 131 (.map (some b)) (.string s) (.slice (some ⟨w1.heap.size,0,none⟩) n c)).run prog (w1.alloc (.cells C 101))= .ok () w2/\T.Cls w2 b (ents++ [(s,sp)])/\Hid (w.heap.size<=b/\Below w.heap.size w w2):=by
  have b1:Below w1.heap.size w1 (w1.alloc (.cells C 101)):=(qR _).alloc qN _;obtain⟨w2,r,h1,h2⟩:=zor (za2 hC b1) s _ sp hnew (ztp w1 sp C hCC n hn c);have hB1:Below w.heap.size w (w1.alloc (.cells C 101)):=hB.out.2.alloc hB.out.2.size _;exact⟨w2,r,h1,hB.out.1,hB1.grown h2 hB1.size (fun j hj=>by cases hj;exact hB.out.1)⟩
theorem zdl (w:World):Calls prog 274 #[] w fun e w'=>∃b,e= .returned (.map (some b))/\w.heap.size<=b/\T.Cls w' b T.names/\Below w.heap.size w w':=by
  go_enter func274,ntmps274
  go_wp2_with fail
  obtain⟨w1,b,r,hC,hB⟩:=zsh w;rw[r];clear r
  go_wp2_with fail
  obtain⟨w2,r,hC,hB⟩:=zbs hC hB ⟨#[100,105,103,105,116]⟩ [(48,57)] #[.int .i32 48,.int .i32 57] rfl 1 1 rfl (by decide);rw[r];clear r
  go_wp2_with fail
  obtain⟨w3,r,hC,hB⟩:=zbs hC hB ⟨#[108,111,119,101,114]⟩ [(97,122),(223,246),(248,255)] #[.int .i32 97,.int .i32 122,.int .i32 223,.int .i32 246,.int .i32 248,.int .i32 255] rfl 3 3 rfl (by decide);rw[r];clear r
  go_wp2_with fail
  obtain⟨w4,r,hC,hB⟩:=zbs hC hB ⟨#[117,112,112,101,114]⟩ [(65,90),(192,214),(216,222)] #[.int .i32 65,.int .i32 90,.int .i32 192,.int .i32 214,.int .i32 216,.int .i32 222] rfl 3 3 rfl (by decide);rw[r];clear r
  go_wp2_with fail
  obtain⟨w5,r,hC,hB⟩:=zbs hC hB ⟨#[108,101,116,116,101,114]⟩ [(65,90),(97,122),(192,214),(216,246),(248,255)] #[.int .i32 65,.int .i32 90,.int .i32 97,.int .i32 122,.int .i32 192,.int .i32 214,.int .i32 216,.int .i32 246,.int .i32 248,.int .i32 255] rfl 5 5 rfl (by decide);rw[r];clear r
  go_wp2_with fail
  refine(zbj 65 _).mono ?_;rintro e w6 ⟨rfl,hb⟩
  replace hC:=za2 hC hb
  replace hB:Hid (w.heap.size<=b/\Below w.heap.size w w6):=⟨hB.out.1,hB.out.2.trans (hb.mono hB.out.2.size)⟩
  clear hb
  go_wp2_with fail
  refine(zbj 69 _).mono ?_;rintro e w7 ⟨rfl,hb⟩
  replace hC:=za2 hC hb
  replace hB:Hid (w.heap.size<=b/\Below w.heap.size w w7):=⟨hB.out.1,hB.out.2.trans (hb.mono hB.out.2.size)⟩
  clear hb
  go_wp2_with fail
  refine(zbj 73 _).mono ?_;rintro e w8 ⟨rfl,hb⟩
  replace hC:=za2 hC hb
  replace hB:Hid (w.heap.size<=b/\Below w.heap.size w w8):=⟨hB.out.1,hB.out.2.trans (hb.mono hB.out.2.size)⟩
  clear hb
  go_wp2_with fail
  refine(zbj 79 _).mono ?_;rintro e w9 ⟨rfl,hb⟩
  replace hC:=za2 hC hb
  replace hB:Hid (w.heap.size<=b/\Below w.heap.size w w9):=⟨hB.out.1,hB.out.2.trans (hb.mono hB.out.2.size)⟩
  clear hb
  go_wp2_with fail
  refine(zbj 85 _).mono ?_;rintro e w10 ⟨rfl,hb⟩
  replace hC:=za2 hC hb
  replace hB:Hid (w.heap.size<=b/\Below w.heap.size w w10):=⟨hB.out.1,hB.out.2.trans (hb.mono hB.out.2.size)⟩
  clear hb
  go_wp2_with fail
  refine(zbj 97 _).mono ?_;rintro e w11 ⟨rfl,hb⟩
  replace hC:=za2 hC hb
  replace hB:Hid (w.heap.size<=b/\Below w.heap.size w w11):=⟨hB.out.1,hB.out.2.trans (hb.mono hB.out.2.size)⟩
  clear hb
  go_wp2_with fail
  refine(zbj 101 _).mono ?_;rintro e w12 ⟨rfl,hb⟩
  replace hC:=za2 hC hb
  replace hB:Hid (w.heap.size<=b/\Below w.heap.size w w12):=⟨hB.out.1,hB.out.2.trans (hb.mono hB.out.2.size)⟩
  clear hb
  go_wp2_with fail
  refine(zbj 105 _).mono ?_;rintro e w13 ⟨rfl,hb⟩
  replace hC:=za2 hC hb
  replace hB:Hid (w.heap.size<=b/\Below w.heap.size w w13):=⟨hB.out.1,hB.out.2.trans (hb.mono hB.out.2.size)⟩
  clear hb
  go_wp2_with fail
  refine(zbj 111 _).mono ?_;rintro e w14 ⟨rfl,hb⟩
  replace hC:=za2 hC hb
  replace hB:Hid (w.heap.size<=b/\Below w.heap.size w w14):=⟨hB.out.1,hB.out.2.trans (hb.mono hB.out.2.size)⟩
  clear hb
  go_wp2_with fail
  refine(zbj 117 _).mono ?_;rintro e w15 ⟨rfl,hb⟩
  replace hC:=za2 hC hb
  replace hB:Hid (w.heap.size<=b/\Below w.heap.size w w15):=⟨hB.out.1,hB.out.2.trans (hb.mono hB.out.2.size)⟩
  clear hb
  go_wp2_with fail
  obtain⟨w16,r,hC,hB⟩:=zbs hC hB ⟨#[118,111,119,101,108]⟩ [(65,65),(69,69),(73,73),(79,79),(85,85),(97,97),(101,101),(105,105),(111,111),(117,117)] #[.int .i32 65,.int .i32 65,.int .i32 69,.int .i32 69,.int .i32 73,.int .i32 73,.int .i32 79,.int .i32 79,.int .i32 85,.int .i32 85,.int .i32 97,.int .i32 97,.int .i32 101,.int .i32 101,.int .i32 105,.int .i32 105,.int .i32 111,.int .i32 111,.int .i32 117,.int .i32 117] rfl 10 10 rfl (by decide);rw[r];clear r
  go_wp2_with fail
  obtain⟨w17,r,hC,hB⟩:=zbs hC hB ⟨#[103,114,101,101,107]⟩ [(880,1023)] #[.int .i32 880,.int .i32 1023] rfl 1 1 rfl (by decide);rw[r];clear r
  go_wp2_with fail
  obtain⟨w18,r,hC,hB⟩:=zbs hC hB ⟨#[99,121,114,105,108,108,105,99]⟩ [(1024,1279)] #[.int .i32 1024,.int .i32 1279] rfl 1 1 rfl (by decide);rw[r];clear r
  go_wp2_with fail
  refine(zbj 32 _).mono ?_;rintro e w19 ⟨rfl,hb⟩
  replace hC:=za2 hC hb
  replace hB:Hid (w.heap.size<=b/\Below w.heap.size w w19):=⟨hB.out.1,hB.out.2.trans (hb.mono hB.out.2.size)⟩
  clear hb
  go_wp2_with fail
  obtain⟨w20,r,hC,hB⟩:=zbs hC hB ⟨#[115,112,97,99,101]⟩ [(9,10),(32,32)] #[.int .i32 9,.int .i32 10,.int .i32 32,.int .i32 32] rfl 2 2 rfl (by decide);rw[r];clear r
  go_wp2_with fail
  obtain⟨w21,r,hC,hB⟩:=zbs hC hB ⟨#[97,110,121]⟩ [(0,1114111)] #[.int .i32 0,.int .i32 1114111] rfl 1 1 rfl (by decide);rw[r];clear r
  go_wp2_with fail
  go_ret;exact⟨b,rfl,hB.out.1,hC,hB.out.2⟩
theorem zmb (z:Int)(h:¬(0<=z/\z<128)):∃a t,M.enc z=a::t/\128<=a.toNat:=by
 by_cases hr:M.right z=true
 ·have hz:0<=z/\z<=1114111:=by
   have:=of_decide_eq_true hr;omega
  obtain⟨n,rfl⟩:∃n:Nat,z=(n:Int):=⟨z.toNat,by omega⟩;rw[M.zer n hr,if_neg (by omega)]
  repeat' split
  all_goals exact⟨_,_,rfl,by rw[M.u8 _ (by omega)];omega⟩
 ·have e:M.enc z=M.enc ((65533:Nat):Int):=by
   have h1:Utf8.valid z=false:=by rw[M.zfe];exact Bool.eq_false_iff.2 hr
   have h2:Utf8.valid ((65533:Nat):Int)=true:=by decide
   unfold M.enc Utf8.encode;rw[h1,h2];rfl
  rw[e,M.zer 65533 (by decide)];exact⟨_,_,rfl,by decide⟩
theorem zk1 (n:Nat)(h:n<128):M.enc (n:Int)= [UInt8.ofNat n]:=by
 have hr:M.right (n:Int)=true:=by unfold M.right;exact decide_eq_true (by omega)
 rw[M.zer n hr,if_pos (by omega)]
theorem zgy:∀(ns:List Nat) (zs:List Int),(∀n∈ns,n<128)->(zs.flatMap fun z=>M.enc z)=ns.map UInt8.ofNat->zs=ns.map Int.ofNat
 | [],[],_,_=>rfl
 | [],z::zs,_,h=>by
  exfalso
  by_cases hz:0<=z/\z<128
  ·obtain⟨n,rfl⟩:∃n:Nat,z=(n:Int):=⟨z.toNat,by omega⟩;rw[List.flatMap_cons,zk1 n (by omega)] at h;simp at h
  ·obtain⟨a,t,he,_⟩:=zmb z hz;rw[List.flatMap_cons,he] at h;simp at h
 | n::ns,[],_,h=>by simp at h
 | n::ns,z::zs,hn,h=>by
  have h0:=hn n (by simp)
  by_cases hz:0<=z/\z<128
  ·obtain⟨m,rfl⟩:∃m:Nat,z=(m:Int):=⟨z.toNat,by omega⟩;rw[List.flatMap_cons,zk1 m (by omega),List.map_cons,List.singleton_append,List.cons.injEq] at h;have e:=congrArg UInt8.toNat h.1;rw[M.u8 _ (by omega),M.u8 _ (by omega)] at e;subst e;rw[zgy ns zs (fun x hx=>hn x (by simp[hx])) h.2,List.map_cons];rfl
  ·exfalso;obtain⟨a,t,he,ha⟩:=zmb z hz;rw[List.flatMap_cons,he,List.map_cons,List.cons_append,List.cons.injEq] at h;have e:=congrArg UInt8.toNat h.1;rw[M.u8 _ (by omega)] at e;omega
theorem zck (ns:List Nat)(s:ByteArray)(hs:s.data.toList=ns.map UInt8.ofNat)(hn:∀n∈ns,n<128)(zs:List Int):runesBytes zs=s↔zs=ns.map Int.ofNat:=by
 constructor
 ·intro h;refine zgy ns zs hn ?_;rw[<- hs,<- h,zbf]
 ·rintro rfl;apply ByteArray.ext;apply Array.toList_inj.1;rw[zbf,hs,List.flatMap_map];clear hs
  induction ns with
  | nil=>rfl
  | cons n ns ih =>
   have e:M.enc (Int.ofNat n)= [UInt8.ofNat n]:=zk1 n (hn n (by simp));rw[List.flatMap_cons,e,List.map_cons,ih fun x hx=>hn x (by simp[hx])];rfl
theorem zgr (zs:List Int):runesBytes zs=⟨#[100,105,103,105,116]⟩↔zs= [100,105,103,105,116]:=zck [100,105,103,105,116] _ rfl (by decide) zs
theorem zgp (zs:List Int):runesBytes zs=⟨#[108,111,119,101,114]⟩↔zs= [108,111,119,101,114]:=zck [108,111,119,101,114] _ rfl (by decide) zs
theorem zgn (zs:List Int):runesBytes zs=⟨#[117,112,112,101,114]⟩↔zs= [117,112,112,101,114]:=zck [117,112,112,101,114] _ rfl (by decide) zs
theorem zfn (zs:List Int):runesBytes zs=⟨#[108,101,116,116,101,114]⟩↔zs= [108,101,116,116,101,114]:=zck [108,101,116,116,101,114] _ rfl (by decide) zs
theorem zgm (zs:List Int):runesBytes zs=⟨#[118,111,119,101,108]⟩↔zs= [118,111,119,101,108]:=zck [118,111,119,101,108] _ rfl (by decide) zs
theorem zgq (zs:List Int):runesBytes zs=⟨#[103,114,101,101,107]⟩↔zs= [103,114,101,101,107]:=zck [103,114,101,101,107] _ rfl (by decide) zs
theorem zd1 (zs:List Int):runesBytes zs=⟨#[99,121,114,105,108,108,105,99]⟩↔zs= [99,121,114,105,108,108,105,99]:=zck [99,121,114,105,108,108,105,99] _ rfl (by decide) zs
theorem zgo (zs:List Int):runesBytes zs=⟨#[115,112,97,99,101]⟩↔zs= [115,112,97,99,101]:=zck [115,112,97,99,101] _ rfl (by decide) zs
theorem zlw (zs:List Int):runesBytes zs=⟨#[97,110,121]⟩↔zs= [97,110,121]:=zck [97,110,121] _ rfl (by decide) zs
theorem zn1 (zs:List Int)(x:ByteArray×List S.Sp)(hx:x∈T.names)(h:x.1=runesBytes zs):T.classOf zs=some x.2:=by
 unfold T.names at hx;simp only[List.mem_cons,List.not_mem_nil,or_false] at hx;rcases hx with rfl | rfl | rfl | rfl | rfl | rfl | rfl | rfl | rfl
 ·rw[(zgr zs).1 h.symm];rfl
 ·rw[(zgp zs).1 h.symm];rfl
 ·rw[(zgn zs).1 h.symm];rfl
 ·rw[(zfn zs).1 h.symm];rfl
 ·rw[(zgm zs).1 h.symm];rfl
 ·rw[(zgq zs).1 h.symm];rfl
 ·rw[(zd1 zs).1 h.symm];rfl
 ·rw[(zgo zs).1 h.symm];rfl
 ·rw[(zlw zs).1 h.symm];rfl
theorem zn2 (zs:List Int)(h:∀x∈T.names,x.1≠runesBytes zs):T.classOf zs=none:=by
 unfold T.classOf;rw[if_neg fun e=>h _ (.head _) ((zgr zs).2 e).symm];rw[if_neg fun e=>h _ (.tail _ (.head _)) ((zgp zs).2 e).symm];rw[if_neg fun e=>h _ (.tail _ (.tail _ (.head _))) ((zgn zs).2 e).symm];rw[if_neg fun e=>h _ (.tail _ (.tail _ (.tail _ (.head _)))) ((zfn zs).2 e).symm];rw[if_neg fun e=>h _ (.tail _ (.tail _ (.tail _ (.tail _ (.head _))))) ((zgm zs).2 e).symm];rw[if_neg fun e=>h _ (.tail _ (.tail _ (.tail _ (.tail _ (.tail _ (.head _)))))) ((zgq zs).2 e).symm];rw[if_neg fun e=>h _ (.tail _ (.tail _ (.tail _ (.tail _ (.tail _ (.tail _ (.head _))))))) ((zd1 zs).2 e).symm];rw[if_neg fun e=>h _ (.tail _ (.tail _ (.tail _ (.tail _ (.tail _ (.tail _ (.tail _ (.head _)))))))) ((zgo zs).2 e).symm];rw[if_neg fun e=>h _ (.tail _ (.tail _ (.tail _ (.tail _ (.tail _ (.tail _ (.tail _ (.tail _ (.head _))))))))) ((zlw zs).2 e).symm]
