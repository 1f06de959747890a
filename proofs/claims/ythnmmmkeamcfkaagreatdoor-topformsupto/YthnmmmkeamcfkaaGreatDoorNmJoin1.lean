import Derived.Test.YthnmmmkeamcfkaaGreatDoorNmPairs
import Derived.Test.YthnmmmkeamcfkaaGreatDoorNmSorts
import Derived.WideKeyArr
import Derived.Maps.Keyed
import Derived.Test.YthnmmmkeamcfkaaGreatDoorTpSameN
set_option maxHeartbeats 0
set_option linter.unusedSimpArgs false
set_option linter.unusedVariables false
namespace Go.Proofs.YthnmmmkeamcfkaaGreatDoor
open Go.Proofs.Tryz
section
open Go.RowKit Go.Maps Go.Shelf
set_option maxRecDepth 40000
namespace Nm
theorem Prs.move {W W':World}{g cap n:Nat}{l:List Pr}(h:Prs W (.slice (some ⟨g,0,none⟩) n cap) l)(e:W'.heap[g]?=W.heap[g]?):Prs W' (.slice (some ⟨g,0,none⟩) n cap) l:=by
 obtain⟨b,cap',e',hc⟩:=h;cases e';exact⟨g,cap,rfl,fun j x hj=>by rw[zdm e,zdm e,zdm e];exact hc j x hj⟩
def Ld (w wr:World) (g cap j:Nat):Prop:=wr.heap[w.heap.size+1]?=some (.cells #[.map (some w.heap.size)] 164)/\MapI wr w.heap.size j (fun r=>(look (tab.take j).reverse r).map pv)/\Prs wr (.slice (some ⟨g,0,none⟩) 74 cap) tab/\Below w.heap.size w wr
theorem Ld.step {w wr:World}{g cap j:Nat}(h:Ld w wr g cap j)(hj:j<74){x1 x2 x3:Int}(hx:tab[j]?=some (x1,x2,x3))(o:Obj) :
  ∃w3,(Instr.mapUpdate 164 (.map (some w.heap.size)) (.int .i32 x3) (.agg #[.int .i32 x1,.int .i32 x2,.int .i32 x3])).run prog (wr.alloc o)= .ok () w3/\Ld w w3 g cap (j+1):=by
 obtain⟨h1,h2,h3,h4⟩:=h;have hb:=zid _ (List.mem_of_getElem? hx);simp only at hb;have hal:=(qR wr).alloc qN o;obtain⟨b,cap',e',hc⟩:=id h3;cases e';have hgl:=L.block_lt (hc j _ hx).1;have h2':MapI (wr.alloc o) w.heap.size j (fun r=>(look (tab.take j).reverse r).map pv):=h2.below hal h2.lt;have h1':=(hal.block _ (lt_of_block h1)).trans h1;obtain⟨w3,hrun,r1,r2⟩:=h2'.put (t:=164) (e:=168) keyedI underlying164 (by omega) x3 (by unfold okI;omega) (.int .i32 x3) (keyI (by unfold okI;omega)) (fun s _=>trivial) (fun a b _ _ h=>by unfold klI at h;simpa using h) (.agg #[.int .i32 x1,.int .i32 x2,.int .i32 x3])
 have hgB:g≠w.heap.size:=by
  intro e;obtain⟨D,⟨es,clock,hbk,_⟩,_⟩:=h2;have:=(hc j _ hx).1;rw[e,World.cell?] at this;simp[hbk] at this
 refine⟨w3,hrun,?_,?_,h3.move ?_,?_⟩
 ·rw[r2.block _ (lt_of_block h1') (by simp)];exact h1'
 ·have e:(fun x=>if x=x3 then some (Value.agg #[.int .i32 x1,.int .i32 x2,.int .i32 x3]) else (look (tab.take j).reverse x).map pv)=fun r=>(look (tab.take (j+1)).reverse r).map pv:=by
   funext r;rw[List.take_add_one,hx];show _=(look ((tab.take j++ [(x1,x2,x3)]).reverse) r).map pv;rw[List.reverse_append];unfold look;simp only[List.reverse_cons,List.reverse_nil,List.nil_append,List.singleton_append,List.find?_cons]
   by_cases h:r=x3
   ·subst h;simp[pv]
   ·have:(x3==r)=false:=by simp;exact fun e=>h e.symm
    rw[if_neg h,this]
  rw[e] at r1;exact r1
 ·rw[r2.block _ (by have:=hal.size;omega) (by simp;exact fun e=>hgB e)];exact hal.block _ hgl
 ·exact Below.grown (h4.trans (hal.mono h4.size)) r2 (Nat.le_trans h4.size hal.size) (fun k hk=>by cases hk;exact qN)
end Nm
theorem zho (w:World):Calls prog 46 #[] w fun e w'=>∃bm bf B,e= .returned (Nm.fv bm bf)/\Nm.Part w' bm bf B/\Below w.heap.size w w':=by
 have hmm:=@run_makeMap prog;obtain⟨W0,hW0⟩:∃W0,W0=(w.alloc (.map #[] 0)).alloc (.cells #[.map (some w.heap.size)] 164):=⟨_,rfl⟩
 have HL0:Hid (W0.heap[w.heap.size+1]?=some (.cells #[.map (some w.heap.size)] 164)/\Nm.MapI W0 w.heap.size 0 (fun _=>none)/\Below w.heap.size w W0):=by
  have ha:Below w.heap.size w (w.alloc (.map #[] 0)):=(qR w).alloc qN _;have hb:Below (w.alloc (.map #[] 0)).heap.size (w.alloc (.map #[] 0)) W0:=by rw[hW0];exact(qR _).alloc qN _
  refine⟨?_,(Nm.MapG.made w).below hb (by simp),ha.trans (hb.mono (by simp))⟩;rw[hW0];have:=heap_alloc_new (w.alloc (.map #[] 0)) (.cells #[.map (some w.heap.size)] 164);simpa using this
 go_enter func46,ntmps46
 go_wp2_with fail
 rw[<- hW0];refine(zfm W0).mono ?_;rintro e w1 ⟨v,rfl,hP,b1⟩;obtain⟨g,cap,rfl,hc⟩:=id hP;have HL:Hid (Nm.Ld w w1 g cap 0):=⟨K.zae HL0.out.1 b1,HL0.out.2.1.below b1 HL0.out.2.1.lt,hP,HL0.out.2.2.trans (b1.mono HL0.out.2.2.size)⟩;rw[show Nm.tab.length=74 from rfl];clear hc hP b1 HL0 hW0 hmm;obtain⟨N,hN⟩:∃N,N=w.heap.size:=⟨_,rfl⟩;go_wp2
 go_loopw [8] (fun vi wr=>∃j:Nat,vi= .int .i64 j/\j<=74/\Hid (Nm.Ld w wr g cap j)) (fun vi _=>74 - (intOf vi).toNat)
 case atStart=>exact⟨0,rfl,by omega,HL⟩
 case round =>
  obtain⟨j,rfl,hj,HD⟩:=hrel;clear HL
  by_cases hlt:j<74
  ·obtain⟨⟨x1,x2,x3⟩,hx⟩:∃x,Nm.tab[j]?=some x:=⟨Nm.tab[j]'(show j<Nm.tab.length from hlt),by simp⟩;obtain⟨d1,d2,d3,d4⟩:=HD.out;obtain⟨b,cap',e',hc⟩:=d3;cases e';obtain⟨c0,c1,c2⟩:=hc j _ hx;have k0:wr.cell? ⟨w.heap.size+1,0,none⟩=some (.map (some w.heap.size)):=K.zah (i:=0) d1 rfl;obtain⟨w3,hrun,hL3⟩:=HD.out.step hlt hx (.cells #[.int .i32 x1,.int .i32 x2,.int .i32 x3] 168);have HL3:=qH hL3;have hbl:=lt_of_block d1;have k1:(wr.alloc (.cells #[.int .i32 x1,.int .i32 x2,.int .i32 x3] 168)).cell? ⟨w.heap.size+1,0,none⟩=some (.map (some w.heap.size)):=K.zai k0 _;simp only at c0 c1 c2;clear hc d1 d4 hL3 hx HD;clear d2;go_wp2
   go_roundw
   case rel=>exact⟨j+1,by go_num,by omega,HL3⟩
   case measure=>simp[intOf];omega
  ·have e:j=74:=by omega
   subst e
   have hlf:(fun r=>(Nm.look (Nm.tab.take 74).reverse r).map Nm.pv)=fun r=>(Nm.look Nm.tab r).map Nm.pv:=by
    funext r;rw[show Nm.tab.take 74=Nm.tab from rfl,Nm.zt7]
   have HE:Hid (wr.heap[w.heap.size+1]?=some (.cells #[.map (some w.heap.size)] 164)/\Nm.MapI wr w.heap.size 74 (fun r=>(Nm.look Nm.tab r).map Nm.pv)/\Below w.heap.size w wr):=⟨HD.out.1,by rw[<- hlf];exact HD.out.2.1,HD.out.2.2.2⟩;clear hlf HD;go_wp2;go_ret;exact⟨w.heap.size+1,wr.heap.size,w.heap.size,rfl,⟨(Below.heap_alloc wr _ _ (lt_of_block HE.out.1)).trans HE.out.1,heap_alloc_new wr _,HE.out.2.1.block (Below.heap_alloc wr _ _ HE.out.2.1.lt)⟩,HE.out.2.2.alloc HE.out.2.2.size _⟩
end
section
open Go.RowKit Go.Shelf
set_option maxRecDepth 20000
theorem zfj (w:World)(F0:Nat)(v:Value)(ls:List Int)(own:w.ownsRow F0 21 1 v ls.length (K.ints ls))(hl:ls.length<=1000000) :
  Calls prog 47 #[v] w fun e w'=>e= .returned (.tuple #[])/\w'.ownsRow F0 21 1 v (ls.foldl Nm.insR []).length (K.ints (ls.foldl Nm.insR []))/\Below F0 w w':=by
 have hfl:(ls.foldl Nm.insR []).length=ls.length:=by rw[Nm.zew];simp
 rw[hfl];have own0:=own;rcases own.2 with ⟨rfl,h0⟩|⟨g,cap,cur,rfl,hg,_,hn,hm,_⟩
 ·have e:=List.eq_nil_of_length_eq_zero h0;subst e;exact(nmSmEmpty w none 0).mono fun e w' ⟨h1,h2⟩=>⟨h1,h2▸own0,h2▸qR _⟩
 ·exact nmSmSome w F0 g ls.length cap ls own0 rfl hl hn hm
theorem zdg (w:World)(v:Value)(l:List Int)(R:L.Rd w v .i32 l)(hl:l.length<=140737488355328) :
  Calls prog 19 #[v] w fun e w'=>∃v',e= .returned (.tuple #[v',.int .i64 (Nm.apartF l).2])/\w'.ownsRow w.heap.size 21 1 v' (Nm.apartF l).1.length (K.ints (Nm.apartF l).1)/\Below w.heap.size w w':=by
 have HT:=qH <| zfo w v l R hl;obtain⟨q,hq⟩:∃q,q=Nm.apartF l:=⟨_,rfl⟩;have HQ:=qH hq;rw[<- hq];have HR:=qH R;obtain⟨ao,cap,rfl,_,_⟩:=R;clear hq
 by_cases he:K.textE l=0
 ·obtain⟨h4,hr⟩:=Nm.zpr he;rw[he] at HT;have HRt:=qH hr;have HE:=qH he;have eg:∀args w,(callFunc 92 args).run prog w= .ok (.enter 92 args) w:=enters_of func92 (by kernel_rfl) rfl;clear he hr
  go_enter func19,ntmps19
  go_wp2_with fail
  refine HT.out.mono ?_;clear HT;rintro e w1 ⟨rfl,b1⟩;have HB1:=qH b1;clear b1
  go_wp2_with fail
  refine(zho w1).mono ?_;rintro e w2 ⟨bm,bf,B,rfl,hP,b2⟩;have HB2:=qH <| HB1.out.trans (b2.mono HB1.out.size);have HP:=qH hP;clear hP b2 HB1;go_wp2
  go_loopw [6,17] (fun vt vi wr=>∃(j:Nat) (vo:Value) (acc:List Int),vt=vo/\vi= .int .i64 j/\j<=l.length/\Hid (acc=(l.take j).flatMap Nm.fl)/\Hid (wr.ownsRow w2.heap.size 21 1 vo acc.length (K.ints acc)/\Below w2.heap.size w2 wr)) (fun _ vi _=>l.length - (intOf vi).toNat)
  case atStart=>exact⟨0,.slice none 0 0,[],rfl,rfl,Nat.zero_le _,rfl,World.ownsRow_nil _ _ _ _,qR _⟩
  case round =>
   obtain⟨j,vo,acc,hvo,rfl,hj,HA,HO⟩:=hrel;obtain rfl:=hvo.symm
   have hal:acc.length<=12000:=by
    have:=Nm.zuw (l.take j);rw[<- HA.out,List.length_take] at this;omega
   have HBw:=qH <| HB2.out.trans (HO.out.2.mono HB2.out.size)
   by_cases hlt:j<l.length
   ·obtain⟨r,hr⟩:∃r,l[j]?=some r:=⟨l[j],by simp[hlt]⟩;obtain⟨_,_,e',_,hc⟩:=HR.out;obtain⟨rfl,-,rfl⟩:=Value.slice.inj e';obtain⟨b,off,rfl,hcell⟩:=hc (by intro h;subst h;simp at hlt);have c0:=hcell j r hr;rw[<- HBw.out.cell (p:=⟨b,off+j,none⟩) (L.block_lt c0)] at c0;have hrb:=HRt.out r (List.mem_of_getElem? hr);have hp:=HP.out;have hs2:=HO.out.2.size;have hPw:=hp.block (HO.out.2.block _ (lt_of_block hp.1)) (HO.out.2.block _ (lt_of_block hp.2.1)) (HO.out.2.block _ hp.2.2.lt);have hC:=zfl 2 r wr bm bf B w2.heap.size vo acc qN (Nm.zmd r) (by unfold Nm.okI;omega) hPw (lt_of_block hp.1) (lt_of_block hp.2.1) hp.2.2.lt hs2 HO.out.1 (by omega)
    have HA2:Hid (acc++Nm.full 2 r=(l.take (j+1)).flatMap Nm.fl):=by
     show _=_;rw[List.take_add_one,hr,List.flatMap_append,<- HA.out];simp[Nm.fl]
    have HO2:=qH HO.out.2;clear hr hc hcell hrb hp hPw HA HO e'
    go_wp2_with fail
    refine hC.mono ?_;clear hC;rintro e w3 ⟨v3,rfl,own3,b3,_,_⟩;have HO3:Hid (w3.ownsRow w2.heap.size 21 1 v3 (acc++Nm.full 2 r).length (K.ints (acc++Nm.full 2 r))/\Below w2.heap.size w2 w3):=⟨own3,HO2.out.trans b3⟩;clear own3 b3 HO2;go_wp2
    go_roundw
    case rel=>exact⟨j+1,v3,acc++Nm.full 2 r,rfl,by go_num,by omega,HA2,HO3⟩
    case measure=>simp[intOf];omega
   ·have e:j=l.length:=by omega
    subst e;have ha:acc=l.flatMap Nm.fl:=by rw[HA.out,List.take_length]
    have hO:=HO.out;obtain⟨xo,xc,rfl,hxc,hxm⟩:=K.zb8 hO.1
    by_cases hm:4000<acc.length
    ·have hQ:q=([],4):=by rw[HQ.out];unfold Nm.apartF;rw[if_neg (by rw[HE.out];simp),if_pos (by rw[<- ha];exact hm)]
     subst hQ;clear HA HO hO ha HR HP HB2 HQ HE HRt hxc hxm;go_wp2;refine bodyPost_ret (v:= .tuple #[.slice none 0 0,.int .i64 4]) (by simp[results,results19,go_sem, *]) rfl ?_;exact⟨_,rfl,World.ownsRow_nil _ _ _ _,HBw.out⟩
    ·have hQ:q=(acc.foldl Nm.insR [],0):=by rw[HQ.out];unfold Nm.apartF;rw[if_neg (by rw[HE.out];simp),if_neg (by rw[<- ha];exact hm),<- ha]
     have hS:=zfj wr w2.heap.size _ acc hO.1 (by omega);obtain⟨fq,hfq⟩:∃fq,fq=acc.foldl Nm.insR []:=⟨_,rfl⟩;rw[<- hfq] at hQ hS;subst hQ;clear HA HO hO ha HR HP HQ HE HRt hxc hxm hfq
     go_wp2_with fail
     refine hS.mono ?_;clear hS;rintro e w3 ⟨rfl,own3,b3⟩;have HF:Hid (w3.ownsRow w.heap.size 21 1 (.slice xo acc.length xc) fq.length (K.ints fq)/\Below w.heap.size w w3):=⟨L.zar own3 HB2.out.size,HBw.out.trans (b3.mono HB2.out.size)⟩;clear own3 b3 HB2;go_wp2;refine bodyPost_ret (v:= .tuple #[.slice xo acc.length xc,.int .i64 0]) (by simp[results,results19,go_sem, *]) rfl ?_;exact⟨_,rfl,HF.out⟩
 ·have hQ:q=([],K.textE l):=by rw[HQ.out];unfold Nm.apartF;rw[if_pos he]
  subst hQ;obtain⟨te,hte⟩:∃te,te=K.textE l:=⟨_,rfl⟩;rw[<- hte] at HT he ⊢;clear HQ HR hte
  go_enter func19,ntmps19
  go_wp2_with fail
  refine HT.out.mono ?_;clear HT;rintro e w1 ⟨rfl,b1⟩;have HB1:=qH b1;clear b1;go_wp2;refine bodyPost_ret (v:= .tuple #[.slice none 0 0,.int .i64 te]) (by simp[results,results19,go_sem, *]) rfl ?_;exact⟨_,rfl,World.ownsRow_nil _ _ _ _,HB1.out⟩
end
namespace Nm
open Go.RowKit Go.Maps Go.WideMaps
set_option maxRecDepth 40000
theorem arr2:ArrKey prog 174 21 2:=⟨underlying174,by kernel_rfl,by kernel_rfl,by kernel_rfl⟩
theorem keyed2:Keyed prog 174:=Keyed.of_law arr2.law
abbrev kv2 (p:Int×Int):Value:= .agg #[.int .i32 p.1,.int .i32 p.2]
def kl2 (p:Int×Int):Lit:= .string (keyBytes [.int .i32 p.1,.int .i32 p.2])
def ok2 (p:Int×Int):Prop:=okI p.1/\okI p.2
theorem wf_i32 {r:Int}(h:okI r):(Lit.int .i32 r).wf=true:=by
 unfold okI at h;simp only[Lit.wf,IntKind.min,IntKind.max,IntKind.signed,IntKind.bits,Bool.and_eq_true,decide_eq_true_eq,if_true];omega
theorem zm1:∃m,prog.types.size=m+1:=by
 have h:0<prog.types.size:=of_decide_eq_true (by kernel_rfl);exact⟨prog.types.size - 1,by omega⟩
theorem zlz (m:Nat){r:Int}(h:okI r):prog.keyLits (m+1) 21 [.int .i32 r]=some [.int .i32 r]:=by
 unfold Program.keyLits;rw[underlying21];simp[wf_i32 h]
theorem key2 {p:Int×Int}(h:ok2 p):keyOf prog 174 (kv2 p)=some (kl2 p):=by
 obtain⟨m,hm⟩:=zm1;have hk:=arr2.keyType ⟨m,hm⟩;have h1:=arr2.one;have h2:=arr2.size
 have hl:prog.keyLits (m+1+1) 174 [.int .i32 p.1,.int .i32 p.2]=some [.int .i32 p.1,.int .i32 p.2]:=by
  unfold Program.keyLits;rw[underlying174];simp only[h1,h2,List.length_cons,List.length_nil];simp[List.range,List.range.loop,zlz m h.1,zlz m h.2,List.mapM_cons]
 unfold keyOf;rw[underlying174];have hf:(kv2 p).formed prog 174=true:=by simp[Value.formed,underlying174,h2]
 simp only[hk,hf,Bool.and_self,if_true];rw[hm];show (Option.map _ (prog.keyLits (m+1+1) 174 [.int .i32 p.1,.int .i32 p.2]))=_;rw[hl];rfl
theorem zwx (a b:Int×Int)(ha:ok2 a)(hb:ok2 b)(h:kl2 a=kl2 b):a=b:=by
 have:=keyed2.inj (key2 ha) (by rw[h];exact key2 hb);have h1:=congrArg (fun v:Value=>match v with | .agg c=>c.toList | _=> []) this;simp at h1;exact Prod.ext h1.1 h1.2
theorem zww (a:Int×Int)(ha:ok2 a):WideAt.IsKeyLit (kl2 a):=keyed2.key (key2 ha)
theorem zeroR (w:World):(zeroValue 21).run prog w= .ok (.int .i32 0) w:=by kernel_rfl
abbrev MapJ (w:World) (B n:Nat) (f:Int×Int->Option Value):Prop:=MapG 174 kl2 ok2 (.int .i32 0) w B n f
end Nm
namespace K
open Go.RowKit
theorem zqo {F:Nat}{w:World}{X cap n:Nat}{xs:List Value}{e:TypeId}{size:Nat}(h:w.ownsRow F e size (.slice (some ⟨X,0,none⟩) n cap) n xs)(j:Nat)(u:Value) :
  (w.setCell ⟨X,j,none⟩ u).ownsRow F e size (.slice (some ⟨X,0,none⟩) n cap) n (xs.set j u)/\w.grownBy (w.setCell ⟨X,j,none⟩ u) (some X):=by
 obtain⟨h1,⟨h0,_⟩|⟨g,k,cur,h0,hb,hx,hn,hm,hs,ht⟩⟩:=h
 ·cases h0
 cases h0;refine⟨⟨by simp[h1],.inr ⟨X,cap,cur.setIfInBounds j u,rfl,hb,heap_setCell_same w X j _ _ _ hx,hn,hm,by simp[hs],?_⟩⟩,rfl,rfl,rfl,by simp,fun k hk hne=> ?_⟩
 ·rw[<- ht,Array.toList_setIfInBounds,List.take_set]
 ·exact heap_setCell_other w ⟨X,j,none⟩ k u (fun e=>hne (by rw[e]))
theorem zlu {F:Nat}{w:World}{X cap n:Nat}{xs:List Value}{e:TypeId}{size:Nat}(h:w.ownsRow F e size (.slice (some ⟨X,0,none⟩) n cap) n xs)(j:Nat):w.frozen? ⟨X,j,none⟩=false:=by
 obtain⟨h1,⟨h0,_⟩|⟨g,k,cur,h0,hb,hx,_⟩⟩:=h
 ·cases h0
 cases h0;rw[World.frozen?];simp[hx]
theorem zxn {F:Nat}{w:World}{v:Value}{n:Nat}{xs:List Value}{e:TypeId}{size:Nat}(h:w.ownsRow F e size v n xs)(hn:0<n):∃g cap,v= .slice (some ⟨g,0,none⟩) n cap/\F<=g/\n<=cap/\cap<=maxLen/\g<w.heap.size:=by
 obtain⟨h1,⟨h0,h2⟩|⟨g,k,cur,h0,hb,hx,hn2,hm,hs,ht⟩⟩:=h
 ·omega
 ·exact⟨g,k,h0,hb,hn2,hm,(qA.1 hx).1⟩
theorem zwn (w:World)(e:TypeId)(u:Value):(w.alloc (.cells #[u] e)).ownsRow w.heap.size e 1 (.slice (some ⟨w.heap.size,0,none⟩) 1 1) 1 [u] :=
 ⟨rfl,.inr ⟨w.heap.size,1,#[u],rfl,qN,heap_alloc_new w _,qN,by unfold maxLen;omega,rfl,rfl⟩⟩
end K
section
open Go.RowKit Go.Maps Go.Shelf
set_option maxRecDepth 40000
namespace Nm
def Jo (W:World) (bj B:Nat):Prop:=W.heap[bj]?=some (.cells #[.map (some B)] 173)/\MapJ W B 74 fun p=>(join tab p.1 p.2).map fun q=> .int .i32 q.2.2
theorem Jo.block {W W':World}{bj B:Nat}(h:Jo W bj B)(h1:W'.heap[bj]?=W.heap[bj]?)(h3:W'.heap[B]?=W.heap[B]?):Jo W' bj B:=⟨h1.trans h.1,h.2.block h3⟩
theorem Jo.lt {W:World}{bj B:Nat}(h:Jo W bj B):bj<W.heap.size/\B<W.heap.size:=⟨lt_of_block h.1,h.2.lt⟩
theorem Jo.below {W W':World}{bj B:Nat}(h:Jo W bj B)(hb:Below W.heap.size W W'):Jo W' bj B:=h.block (hb.block _ h.lt.1) (hb.block _ h.lt.2)
end Nm
theorem zkf (W:World)(bj B:Nat)(h:Int)(vm:Value)(ms:List Int)(hJ:Nm.Jo W bj B)(hh:0<=h/\h<=1114111)(R:L.Rd W vm .i32 ms)(hm:∀m∈ms,0<=m/\m<=1114111)(hl:ms.length<=4000) :
  Calls prog 97 #[.int .i32 h,vm,.pointer (some ⟨bj,0,none⟩)] W fun e w'=>∃v',e= .returned v'/\w'.ownsRow W.heap.size 21 1 v' (Nm.jn h ms).length (K.ints (Nm.jn h ms))/\Below W.heap.size W w':=by
 have HR:=qH R;have HM:=qH hm;have HJ:=qH hJ;have HC:=qH <| fun r X=>zcj r X
 obtain⟨o,ho⟩:∃o,o=Nm.jn h ms:=⟨_,rfl⟩;have HO:=qH ho;rw[<- ho];obtain⟨ao,mc,rfl,_,_⟩:=R;clear hm hJ ho
 go_enter func97,ntmps97
 go_wp2_with fail
 have own0:(W.alloc (.cells #[.int .i32 h] 21)).ownsRow W.heap.size 21 1 (.slice (some ⟨W.heap.size,0,none⟩) 1 1) [h].length (K.ints [h]):=K.zwn W _ _;have b0:Below W.heap.size W (W.alloc (.cells #[.int .i32 h] 21)):=(qR W).alloc qN _
 go_loopw [6,7,16] (fun vo vl vi wr=>∃(j:Nat) (hd:Int) (left:List Int) (high:Int),vi= .int .i64 j/\j<=ms.length/\vl= .int .i64 high/\Hid ((ms.take j).foldl Nm.js (h,[],0)=(hd,left,high))/\Hid (wr.ownsRow W.heap.size 21 1 vo (hd::left).length (K.ints (hd::left))/\Below W.heap.size W wr)) (fun _ _ vi _=>ms.length - (intOf vi).toNat)
 case atStart=>exact⟨0,h,[],0,rfl,Nat.zero_le _,rfl,rfl,own0,b0⟩
 case round =>
  clear own0 b0;obtain⟨j,hd,left,high,rfl,hj,rfl,HS,HW⟩:=hrel;obtain⟨g,oc,rfl,hg,hoc,hocm,hgl⟩:=K.zxn HW.out.1 (by simp);have hbd:=Nm.zxr (ms.take j) (h,[],0) hh;have hln:=Nm.zrk (ms.take j) (h,[],0);rw[HS.out] at hbd hln;simp only[List.length_nil,Nat.zero_add,List.length_take] at hbd hln;have hll:left.length<=4000:=by omega
  have hBJ:=HJ.out.below HW.out.2;have cj:wr.cell? ⟨bj,0,none⟩=some (.map (some B)):=K.zah (i:=0) hBJ.1 rfl
  have ch:wr.cell? ⟨g,0,none⟩=some (.int .i32 hd):=by
   have:=HW.out.1.cells (g:=g) rfl 0 (.int .i32 hd) (by simp[K.ints])
   rwa [L.addr_add] at this
  have fz:=K.zlu HW.out.1 0
  by_cases hlt:j<ms.length
  ·obtain⟨m,hmj⟩:∃m,ms[j]?=some m:=⟨ms[j],by simp[hlt]⟩;obtain⟨_,_,e',_,hc⟩:=HR.out;obtain⟨rfl,-,rfl⟩:=Value.slice.inj e';obtain⟨b,off,rfl,hcell⟩:=hc (by intro h;subst h;simp at hlt);have c0:=hcell j m hmj;rw[<- HW.out.2.cell (p:=⟨b,off+j,none⟩) (L.block_lt c0)] at c0;have hmb:=HM.out m (List.mem_of_getElem? hmj);have hok:Nm.ok2 (hd,m):=⟨by unfold Nm.okI;omega,by unfold Nm.okI;omega⟩;have hlk:=(hBJ.2.block (w':=wr.drew) rfl).look_ok (t:=173) (e:=21) Nm.keyed2 underlying173 Nm.zeroR (hd,m) hok (.agg #[.int .i32 hd,.int .i32 m]) (Nm.key2 hok);have hst:(ms.take (j+1)).foldl Nm.js (h,[],0)=Nm.js (hd,left,high) m:=by rw[List.take_add_one,hmj,List.foldl_append,HS.out];rfl
   have hCm:=HC.out m;cases hjn:Nm.join Nm.tab hd m with
   | none =>
    rw[hjn] at hlk;simp only[Option.map_none,Option.getD_none,Option.isSome_none] at hlk;have hj2:Nm.js (hd,left,high) m=(hd,left++ [m],Nm.cls m):=by unfold Nm.js;rw[if_neg (by simp only[Nm.zhv hjn];omega)]
    rw[hj2] at hst;have HS2:=qH hst;clear hst hj2 hjn hok hmj hc hcell hbd hln hBJ e'
    go_wp2_with fail
    go_region
    obtain⟨v3,w3,run3,own3,kp3,sz3,be3,nw3⟩:=Nm.app1x (w:=wr.drew) (B:=W.heap.size) (o:=hd::left) HW.out.1 HW.out.2.size (by simp only[List.length_cons];omega) m;have HN:Hid (w3.ownsRow W.heap.size 21 1 v3 (hd::(left++ [m])).length (K.ints (hd::(left++ [m])))/\Below W.heap.size W w3):=⟨own3,(Nm.za8 HW.out.2).trans be3⟩;clear own3 kp3 sz3 be3 nw3 HW
    go_wp2_with (at_builtin;first | refine Lib.wpList_append_run _ rfl _ _ _ _ rfl _ _ rfl rfl _ _ (run3 _) ?_)
    refine(hCm _).mono ?_;rintro e w4 ⟨rfl,rfl⟩;go_wp2
    go_roundw
    case rel=>exact⟨j+1,hd,left++ [m],Nm.cls m,by go_num,by omega,rfl,HS2,HN⟩
    case measure=>simp[intOf];omega
   | some p =>
    obtain⟨x1,x2,x3⟩:=p;rw[hjn] at hlk;simp only[Option.map_some,Option.getD_some,Option.isSome_some] at hlk;obtain⟨hj1,hj2,hj3⟩:=Nm.zhu hjn;simp only at hj1 hj2 hj3
    by_cases hcl:high<Nm.cls m
    ·have hj4:Nm.js (hd,left,high) m=(x3,left,high):=by unfold Nm.js;rw[if_pos (by simp only[hj1];exact⟨hj2,hcl⟩),hj1]
     rw[hj4] at hst;have HS2:=qH hst;obtain⟨s1,s2⟩:=K.zqo HW.out.1 0 (.int .i32 x3);have HN:Hid ((wr.setCell ⟨g,0,none⟩ (.int .i32 x3)).ownsRow W.heap.size 21 1 (.slice (some ⟨g,0,none⟩) (x3::left).length oc) (x3::left).length (K.ints (x3::left))/\Below W.heap.size W (wr.setCell ⟨g,0,none⟩ (.int .i32 x3))):=⟨s1,HW.out.2.grown s2 HW.out.2.size (fun k hk=>by cases hk;exact hg)⟩;clear hst hj4 hjn hok hmj hc hcell hbd hln hBJ e' s1 s2 hj1 hj2 hj3
     go_wp2_with fail
     go_region
     go_wp2_with fail
     refine(hCm _).mono ?_;rintro e w4 ⟨rfl,rfl⟩;have fz':wr.drew.frozen? ⟨g,0,none⟩=false:=fz;have ch':wr.drew.cell? ⟨g,0,none⟩=some (.int .i32 hd):=ch;clear fz ch;go_wp2
     go_roundw
     case rel=>exact⟨j+1,x3,left,high,by go_num,by omega,rfl,HS2,HN.out.1,Nm.za8 HN.out.2⟩
     case measure=>simp[intOf];omega
    ·have hj4:Nm.js (hd,left,high) m=(hd,left++ [m],Nm.cls m):=by unfold Nm.js;rw[if_neg (fun h=>hcl h.2)]
     rw[hj4] at hst;have HS2:=qH hst;clear hst hj4 hjn hok hmj hc hcell hbd hln hBJ e' hj1 hj2 hj3
     go_wp2_with fail
     go_region
     go_wp2_with fail
     refine(hCm _).mono ?_;rintro e w4 ⟨rfl,rfl⟩;obtain⟨v3,w3,run3,own3,kp3,sz3,be3,nw3⟩:=Nm.app1x (w:=wr.drew) (B:=W.heap.size) (o:=hd::left) HW.out.1 HW.out.2.size (by simp only[List.length_cons];omega) m;have HN:Hid (w3.ownsRow W.heap.size 21 1 v3 (hd::(left++ [m])).length (K.ints (hd::(left++ [m])))/\Below W.heap.size W w3):=⟨own3,(Nm.za8 HW.out.2).trans be3⟩;clear own3 kp3 sz3 be3 nw3 HW
     go_wp2_with (at_builtin;first | refine Lib.wpList_append_run _ rfl _ _ _ _ rfl _ _ rfl rfl _ _ (run3 _) ?_)
     refine(hCm _).mono ?_;rintro e w4 ⟨rfl,rfl⟩;go_wp2
     go_roundw
     case rel=>exact⟨j+1,hd,left++ [m],Nm.cls m,by go_num,by omega,rfl,HS2,HN⟩
     case measure=>simp[intOf];omega
  ·have e:j=ms.length:=by omega
   subst e
   have hoe:o=hd::left:=by
    have:=HS.out;rw[List.take_length] at this;rw[HO.out];unfold Nm.jn;rw[this]
   subst hoe;go_wp2;go_ret;exact⟨_,rfl,HW.out⟩
