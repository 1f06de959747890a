import Derived.Test.YthnmmmkeamcfkaaGreatDoorNmJoin1
set_option maxHeartbeats 0
set_option maxRecDepth 20000
set_option linter.unusedSimpArgs false
set_option linter.unusedVariables false
namespace Go.Proofs.YthnmmmkeamcfkaaGreatDoor
open Go.Proofs.Tryz
section
open Go.RowKit Go.Maps Go.Shelf
set_option maxRecDepth 40000
namespace Nm
abbrev fj (bj:Nat):Value:= .func (.func 97) #[] #[.pointer (some ⟨bj,0,none⟩)]
def Lj (w wr:World) (g cap j:Nat):Prop:=wr.heap[w.heap.size+1]?=some (.cells #[.map (some w.heap.size)] 173)/\MapJ wr w.heap.size j (fun p=>(join (tab.take j).reverse p.1 p.2).map fun q=> .int .i32 q.2.2)/\Prs wr (.slice (some ⟨g,0,none⟩) 74 cap) tab/\Below w.heap.size w wr
theorem Lj.step {w wr:World}{g cap j:Nat}(h:Lj w wr g cap j)(hj:j<74){x1 x2 x3:Int}(hx:tab[j]?=some (x1,x2,x3))(o:Obj) :
  ∃w3,(Instr.mapUpdate 173 (.map (some w.heap.size)) (.agg #[.int .i32 x1,.int .i32 x2]) (.int .i32 x3)).run prog (wr.alloc o)= .ok () w3/\Lj w w3 g cap (j+1):=by
 obtain⟨h1,h2,h3,h4⟩:=h;have hb:=zid _ (List.mem_of_getElem? hx);simp only at hb;have hal:=(qR wr).alloc qN o;obtain⟨b,cap',e',hc⟩:=id h3;cases e';have hgl:=L.block_lt (hc j _ hx).1;have h2':MapJ (wr.alloc o) w.heap.size j (fun p=>(join (tab.take j).reverse p.1 p.2).map fun q=> .int .i32 q.2.2):=h2.below hal h2.lt;have h1':=(hal.block _ (lt_of_block h1)).trans h1;have hok:ok2 (x1,x2):=⟨by unfold okI;omega,by unfold okI;omega⟩;obtain⟨w3,hrun,r1,r2⟩:=h2'.put (t:=173) (e:=21) keyed2 underlying173 (by omega) (x1,x2) hok (.agg #[.int .i32 x1,.int .i32 x2]) (key2 hok) zww zwx (.int .i32 x3)
 have hgB:g≠w.heap.size:=by
  intro e;obtain⟨D,⟨es,clock,hbk,_⟩,_⟩:=h2;have:=(hc j _ hx).1;rw[e,World.cell?] at this;simp[hbk] at this
 refine⟨w3,hrun,?_,?_,h3.move ?_,?_⟩
 ·rw[r2.block _ (lt_of_block h1') (by simp)];exact h1'
 ·have e:(fun x:Int×Int=>if x=(x1,x2) then some (Value.int .i32 x3) else (join (tab.take j).reverse x.1 x.2).map fun q:Pr=>Value.int .i32 q.2.2)=fun p=>(join (tab.take (j+1)).reverse p.1 p.2).map fun q:Pr=>Value.int .i32 q.2.2:=by
   funext r;obtain⟨a,b⟩:=r;rw[List.take_add_one,hx];show _=(join ((tab.take j++ [(x1,x2,x3)]).reverse) a b).map _;rw[List.reverse_append];unfold join;simp only[List.reverse_cons,List.reverse_nil,List.nil_append,List.singleton_append,List.find?_cons]
   by_cases h:(a,b)=(x1,x2)
   ·cases h;simp
   ·have:(x1==a&&x2==b)=false:=by
     rw[Bool.eq_false_iff];intro h2;simp at h2;exact h (by rw[h2.1,h2.2])
    rw[if_neg h,this]
  rw[e] at r1;exact r1
 ·rw[r2.block _ (by have:=hal.size;omega) (by simp;exact fun e=>hgB e)];exact hal.block _ hgl
 ·exact Below.grown (h4.trans (hal.mono h4.size)) r2 (Nat.le_trans h4.size hal.size) (fun k hk=>by cases hk;exact qN)
end Nm
theorem zhp (w:World):Calls prog 48 #[] w fun e w'=>∃bj B,e= .returned (Nm.fj bj)/\Nm.Jo w' bj B/\Below w.heap.size w w':=by
 have hmm:=@run_makeMap prog;obtain⟨W0,hW0⟩:∃W0,W0=(w.alloc (.map #[] 0)).alloc (.cells #[.map (some w.heap.size)] 173):=⟨_,rfl⟩
 have HL0:Hid (W0.heap[w.heap.size+1]?=some (.cells #[.map (some w.heap.size)] 173)/\Nm.MapJ W0 w.heap.size 0 (fun _=>none)/\Below w.heap.size w W0):=by
  have ha:Below w.heap.size w (w.alloc (.map #[] 0)):=(qR w).alloc qN _;have hb:Below (w.alloc (.map #[] 0)).heap.size (w.alloc (.map #[] 0)) W0:=by rw[hW0];exact(qR _).alloc qN _
  refine⟨?_,(Nm.MapG.made w).below hb (by simp),ha.trans (hb.mono (by simp))⟩;rw[hW0];have:=heap_alloc_new (w.alloc (.map #[] 0)) (.cells #[.map (some w.heap.size)] 173);simpa using this
 go_enter func48,ntmps48
 go_wp2_with fail
 rw[<- hW0];refine(zfm W0).mono ?_;rintro e w1 ⟨v,rfl,hP,b1⟩;obtain⟨g,cap,rfl,hc⟩:=id hP;have HL:Hid (Nm.Lj w w1 g cap 0):=⟨K.zae HL0.out.1 b1,HL0.out.2.1.below b1 HL0.out.2.1.lt,hP,HL0.out.2.2.trans (b1.mono HL0.out.2.2.size)⟩;rw[show Nm.tab.length=74 from rfl];clear hc hP b1 HL0 hW0 hmm;go_wp2
 go_loopw [7] (fun vi wr=>∃j:Nat,vi= .int .i64 j/\j<=74/\Hid (Nm.Lj w wr g cap j)) (fun vi _=>74 - (intOf vi).toNat)
 case atStart=>exact⟨0,rfl,by omega,HL⟩
 case round =>
  obtain⟨j,rfl,hj,HD⟩:=hrel;clear HL
  by_cases hlt:j<74
  ·obtain⟨⟨x1,x2,x3⟩,hx⟩:∃x,Nm.tab[j]?=some x:=⟨Nm.tab[j]'(show j<Nm.tab.length from hlt),by simp⟩;obtain⟨d1,d2,d3,d4⟩:=HD.out;obtain⟨b,cap',e',hc⟩:=d3;cases e';obtain⟨c0,c1,c2⟩:=hc j _ hx;have k0:wr.cell? ⟨w.heap.size+1,0,none⟩=some (.map (some w.heap.size)):=K.zah (i:=0) d1 rfl;obtain⟨w3,hrun,hL3⟩:=HD.out.step hlt hx (.cells #[.int .i32 x1,.int .i32 x2,.int .i32 x3] 168);have HL3:=qH hL3;have hbl:=lt_of_block d1;have k1:(wr.alloc (.cells #[.int .i32 x1,.int .i32 x2,.int .i32 x3] 168)).cell? ⟨w.heap.size+1,0,none⟩=some (.map (some w.heap.size)):=K.zai k0 _;simp only at c0 c1 c2;clear hc d1 d4 hL3 hx HD;clear d2;go_wp2
   go_roundw
   case rel=>exact⟨j+1,by go_num,by omega,HL3⟩
   case measure=>simp[intOf];omega
  ·have e:j=74:=by omega
   subst e
   have hlf:(fun p:Int×Int=>(Nm.join (Nm.tab.take 74).reverse p.1 p.2).map fun q:Nm.Pr=>Value.int .i32 q.2.2)=fun p=>(Nm.join Nm.tab p.1 p.2).map fun q:Nm.Pr=>Value.int .i32 q.2.2:=by
    funext r;rw[show Nm.tab.take 74=Nm.tab from rfl,Nm.zug]
   have HE:Hid (Nm.Jo wr (w.heap.size+1) w.heap.size/\Below w.heap.size w wr):=⟨⟨HD.out.1,by rw[<- hlf];exact HD.out.2.1⟩,HD.out.2.2.2⟩;clear hlf HD;go_wp2;go_ret;exact⟨w.heap.size+1,w.heap.size,rfl,HE.out.1,HE.out.2⟩
end
section
open Go.RowKit Go.Lib
theorem zob (w:World)(v:Value)(t:List Int)(R:L.Rd w v .i32 t)(hl:t.length<=1000000) :
  Calls prog 43 #[v] w fun e w'=>∃v',e= .returned v'/\w'.ownsRow w.heap.size 21 1 v' t.length (K.ints t)/\Below w.heap.size w w':=by
 have R0:=R;obtain⟨ao,cap,rfl,hn,hc⟩:=R;have q22:∀(w:World) (a:Option Addr) (n c n' c':Nat),(binOp .eql 33 (.slice a n c) (.slice none n' c')).run prog w= .ok (.bool a.isNone) w:=fun w a n c n' c'=>Lib.run_eql_slice_nil w _ _ a n c n' c' underlying33
 cases ao with
 | none =>
  have h0:t= []:=by
   cases t with
   | nil=>rfl
   | cons z zs=>obtain⟨b,off,h,_⟩:=hc (by simp);simp at h
  subst h0;have:=hn rfl;subst this;clear hc R0
  go_enter func43,ntmps43
  go_wp2;go_ret
  exact⟨_,rfl,World.ownsRow_nil _ _ _ _,qR _⟩
 | some ad =>
  clear hc hn;have b0:Below w.heap.size w (w.alloc (.cells #[] 21)):=(qR w).alloc qN _;obtain⟨v3,w3,run3,own3,gr3,_⟩:=K.zjl (w.alloc (.cells #[] 21)) w.heap.size (.slice (some ⟨w.heap.size,0,none⟩) 0 0) [] (World.ownsRow_made w #[] 0 qN (Nat.zero_le _) (by simp)) _ t (R0.below b0 qN) (by simp;omega) b0.size;have HE:Hid (w3.ownsRow w.heap.size 21 1 v3 t.length (K.ints t)/\Below w.heap.size w w3):=⟨by simpa using own3,b0.grown gr3 b0.size fun k hk=>by simp[Value.ownBlock] at hk;omega⟩;clear own3 gr3 b0 R0
  go_enter func43,ntmps43
  go_wp2_with (at_builtin;first | refine Lib.wpList_append_run _ rfl _ _ _ _ rfl _ _ rfl rfl _ _ (run3 _) ?_)
  go_ret;exact⟨v3,rfl,HE.out⟩
end
section
open Go.RowKit Go.Shelf
set_option maxRecDepth 40000
namespace Nm
theorem zpz (xo:Option Addr)(N xc i j:Nat)(h:i<=j)(hj:j<=xc)(w':World):(Instr.slice 33 (.slice xo N xc) (some (.int .i64 (i:Int))) (some (.int .i64 (j:Int))) none).run prog w'= .ok (.slice (if xc=i then xo else Option.map (fun x=>x.add i) xo) (j - i) (xc - i)) w':=by
 have a1:(i:Int)<=j:=by omega
 have a2:(j:Int)<=xc:=by omega
 have a0:(0:Int)<=i:=by omega
 have a3:(0:Int)<=j:=by omega
 go_simp
def Sl (W:World) (xo:Option Addr) (xc:Nat) (t:List Int):Prop:=L.Rd W (.slice xo t.length xc) .i32 t/\t.length<=xc/\xc<=maxLen
theorem Sl.drop {W:World}{xo:Option Addr}{xc:Nat}{t:List Int}(h:Sl W xo xc t){d:Nat}(hd:d<=t.length):Sl W (if xc=d then xo else Option.map (fun x=>x.add d) xo) (xc - d) (t.drop d):=by
 have:=h.2.1;have:=h.2.2;refine⟨?_,by rw[List.length_drop];omega,by omega⟩;rw[List.length_drop];exact K.zhj h.1 hd h.2.1
theorem Sl.below {W W':World}{xo:Option Addr}{xc:Nat}{t:List Int}{B:Nat}(h:Sl W xo xc t)(hb:Below B W W')(hB:W.heap.size<=B):Sl W' xo xc t:=⟨h.1.below hb hB,h.2⟩
def Tg (t R acc:List Int):Prop:=acc++tog R=tog t/\(R= []∨∃h r,R=h::r/\isM h=false)/\(∀r∈R,0<=r/\r<=1114111)/\R.length<=4000/\acc.length<=4000
theorem Tg.start {t:List Int}(hb:∀r∈t,0<=r/\r<=1114111)(hl:t.length<=4000):Tg t (t.drop (lead t)) (t.take (lead t)):=by
 refine⟨(zs7 t).symm,zcx t,fun r hr=>hb r (List.mem_of_mem_drop hr),?_,?_⟩
 ·rw[List.length_drop];omega
 ·rw[List.length_take];omega
theorem Tg.step {t r acc:List Int}{h:Int}(hl:t.length<=4000)(H:Tg t (h::r) acc):Tg t (r.drop (lead r)) (acc++jn h (r.take (lead r))):=by
 obtain⟨h1,h2,h3,h4,h5⟩:=H
 have hm:isM h=false:=by
  rcases h2 with h2 | ⟨h',r',e,h2⟩
  ·cases h2
  ·cases e;exact h2
 rw[zs5 r hm,<- List.append_assoc] at h1;have hn:=congrArg List.length h1;rw[List.length_append] at hn;have:=zjy t;simp only[List.length_cons] at h4;refine⟨h1,zcx r,fun x hx=>h3 x (List.mem_cons_of_mem _ (List.mem_of_mem_drop hx)),?_,by omega⟩;rw[List.length_drop];omega
end Nm
theorem zq0 (w:World)(v:Value)(l:List Int)(R:L.Rd w v .i32 l)(hl:l.length<=140737488355328) :
  Calls prog 20 #[v] w fun e w'=>∃v',e= .returned (.tuple #[v',.int .i64 (Nm.togF l).2])/\w'.ownsRow w.heap.size 21 1 v' (Nm.togF l).1.length (K.ints (Nm.togF l).1)/\Below w.heap.size w w':=by
 have HT:=zdg w v l R hl;obtain⟨q,hq⟩:∃q,q=Nm.togF l:=⟨_,rfl⟩;have HQ:=qH hq;rw[<- hq];obtain⟨ao,cap,rfl,_,_⟩:=R;clear hq;obtain⟨q1,q2⟩:=q;have hn:=Nm.zcf l;have hbd:=Nm.zml l;unfold Nm.togF at HQ;obtain⟨⟨t,te⟩,ht⟩:∃p,p=Nm.apartF l:=⟨_,rfl⟩;rw[<- ht] at HT HQ hn hbd;simp only at HT HQ hn hbd;clear ht
 go_enter func20,ntmps20
 go_wp2_with fail
 refine HT.mono ?_;clear HT;rintro e w1 ⟨vt,rfl,own1,b1⟩;obtain⟨xo,xc,rfl,hxc,hxm⟩:=K.zb8 own1;have HB1:=qH b1
 by_cases he:te=0
 ·have hQ:(q1,q2)=(Nm.tog t,0):=by rw[HQ.out,if_neg (by simp[he])]
  have h1:=(Prod.mk.inj hQ).1;obtain rfl:=(Prod.mk.inj hQ).2;subst he;have HQ1:=qH h1;have S1:Nm.Sl w1 xo xc t:=⟨K.zj5 own1,hxc,hxm⟩;have HBd:=qH hbd;clear HQ hQ own1 h1 hbd
  go_wp2_with fail
  refine(zhp w1).mono ?_;rintro e w2 ⟨bj,B,rfl,hJ,b2⟩;have S2:=S1.below b2 qN;have HB2:=qH <| HB1.out.trans (b2.mono b1.size);clear S1 HB1 b1 b2
  go_wp2_with fail
  refine(zdf w2 _ t S2.1 (by omega)).mono ?_;rintro e w3 ⟨rfl,b3⟩;have S3:=S2.below b3 qN;have HJ:=qH <| hJ.below b3;have HB3:=qH <| HB2.out.trans (b3.mono HB2.out.size);have hle:=Nm.zkk t;have HStart:=qH <| Nm.Tg.start HBd.out hn;have HS4:=qH <| S3.drop hle;have hCl:=zob w3 (.slice xo (Nm.lead t) xc) (t.take (Nm.lead t)) (K.zhi S3.1 hle) (by rw[List.length_take];omega);have hs1:=K.zb7 xo t.length xc (Nm.lead t) (by omega);have hs2:=K.zbd xo t.length xc (Nm.lead t) hle hxc;rw[<- List.length_drop] at hs2;generalize (if xc=Nm.lead t then xo else Option.map (fun x=>x.add (Nm.lead t)) xo)=xo2 at hs2 HS4;generalize xc - Nm.lead t=xc2 at hs2 HS4;generalize t.drop (Nm.lead t)=R2 at hs2 HS4 HStart;generalize t.take (Nm.lead t)=A2 at hCl HStart;generalize Nm.lead t=n7 at hs1 hs2 hCl hle;clear S2 S3 b3 hJ HB2
  go_wp2_with fail
  refine hCl.mono ?_;clear hCl hs1;rintro e w4 ⟨v4,rfl,own4,b4⟩;have HW4:Hid (w4.ownsRow w3.heap.size 21 1 v4 A2.length (K.ints A2)/\Below w3.heap.size w3 w4):=⟨own4,b4⟩;clear own4 b4;have eg:∀args w,(callFunc 97 args).run prog w= .ok (.enter 97 args) w:=enters_of func97 (by kernel_rfl) rfl
  go_wp2_with fail
  go_loopw [4,7,8] (fun vl vn vo wr=>∃(R acc:List Int) (yo:Option Addr) (yc n:Nat),vl= .slice yo R.length yc/\vn= .int .i64 n/\Hid (Nm.Sl w3 yo yc R)/\Hid (Nm.Tg t R acc)/\Hid (wr.ownsRow w3.heap.size 21 1 vo acc.length (K.ints acc)/\Below w3.heap.size w3 wr)) (fun vl _ _ _=>Nm.lenOf vl)
  case atStart=>exact⟨R2,A2,xo2,xc2,n7,rfl,rfl,HS4,HStart,HW4⟩
  case round =>
   clear HS4 HStart HW4;obtain⟨R,acc,yo,yc,n,rfl,rfl,HS,HG,HW⟩:=hrel;obtain⟨oo,oc,rfl,hoc,_⟩:=K.zb8 HW.out.1;cases R with
   | nil =>
    have hqe:q1=acc:=by
     have:=HG.out.1;rw[Nm.zpn,List.append_nil] at this;rw[HQ1.out,this]
    subst hqe;have HF:Hid (wr.ownsRow w.heap.size 21 1 (.slice oo q1.length oc) q1.length (K.ints q1)/\Below w.heap.size w wr):=⟨L.zar HW.out.1 HB3.out.size,HB3.out.trans (HW.out.2.mono HB3.out.size)⟩;clear HW HS HG HQ1;go_wp2;refine bodyPost_ret (v:= .tuple #[.slice oo q1.length oc,.int .i64 0]) (by simp[results,results20,go_sem, *]) rfl ?_;exact⟨_,rfl,HF.out⟩
   | cons h r =>
    obtain⟨hS1,hS2,hS3⟩:=HS.out;obtain⟨_,_,e',_,hc⟩:=id hS1;obtain⟨rfl,-,rfl⟩:=Value.slice.inj e';obtain⟨b,off,rfl,hcell⟩:=hc (by simp);have c0:=hcell 0 h rfl;have hrb:=HG.out.2.2.1;have hRl:=HG.out.2.2.2.1;simp only[List.length_cons] at hS2 hRl;have HSd:Hid (Nm.Sl w3 (if yc=1 then (some ⟨b,off,none⟩:Option Addr) else Option.map (fun x:Addr=>x.add 1) (some ⟨b,off,none⟩)) (yc - 1) r):=HS.out.drop (d:=1) (by simp);have hlr:=Nm.zkk r;obtain⟨m,hm⟩:∃m,m=1+Nm.lead r:=⟨_,rfl⟩;have hm1:(1:Int)+(Nm.lead r:Int)=(m:Int):=by omega
    have hm2:m - 1=Nm.lead r:=by omega
    have HSm:Hid (Nm.Sl w3 (if yc=m then (some ⟨b,off,none⟩:Option Addr) else Option.map (fun x:Addr=>x.add m) (some ⟨b,off,none⟩)) (yc - m) (r.drop (Nm.lead r))):=by
     have hz:=HS.out.drop (d:=m) (by simp only[List.length_cons];omega);rw[show (h::r).drop m=r.drop (Nm.lead r) by rw[hm,Nat.add_comm];rfl] at hz;exact hz
    have hs1:∀w',(Instr.slice 33 (.slice (some ⟨b,off,none⟩) (r.length+1) yc) (some (.int .i64 1)) none none).run prog w'=_:=K.zbd (some ⟨b,off,none⟩) (r.length+1) yc 1 (by omega) (by omega);have hs2:∀w',(Instr.slice 33 (.slice (some ⟨b,off,none⟩) (r.length+1) yc) (some (.int .i64 1)) (some (.int .i64 (m:Int))) none).run prog w'=_:=Nm.zpz (some ⟨b,off,none⟩) (r.length+1) yc 1 m (by omega) (by omega);have hs3:=K.zbd (some ⟨b,off,none⟩) (r.length+1) yc m (by omega) (by omega);rw[Nat.add_sub_cancel] at hs1;rw[hm2] at hs2;generalize (if yc=1 then (some ⟨b,off,none⟩:Option Addr) else Option.map (fun x:Addr=>x.add 1) (some ⟨b,off,none⟩))=xo3 at hs1 hs2 HSd;generalize (if yc=m then (some ⟨b,off,none⟩:Option Addr) else Option.map (fun x:Addr=>x.add m) (some ⟨b,off,none⟩))=xo4 at hs3 HSm;generalize yc - 1=yc3 at hs1 hs2 HSd;generalize yc - m=yc4 at hs3 HSm;have hrl:r.length+1 - m=(r.drop (Nm.lead r)).length:=by rw[List.length_drop];omega
    rw[hrl] at hs3;have HMk:=qH <| fun W hW=>zdf W _ r (HSd.out.below hW qN).1 (by omega)
    have HG2:=qH <| HG.out.step hn;have HRt:=qH <| K.zhi HSd.out.1 hlr;have HRb:Hid (∀m∈r.take (Nm.lead r),0<=m/\m<=1114111):=fun x hx=>hrb x (List.mem_cons_of_mem _ (List.mem_of_mem_take hx))
    have hhb:=hrb h List.mem_cons_self;have hjl:=Nm.zvl h (r.take (Nm.lead r));have htl:(r.take (Nm.lead r)).length=Nm.lead r:=by rw[List.length_take];omega
    have hal:=HG.out.2.2.2.2;have hml:(r.drop (Nm.lead r)).length<=r.length:=by rw[List.length_drop];omega
    have HL:=qH hml;generalize Nm.lead r=lr at hlr hm hm1 hm2 HMk HG2 HRt HRb hjl htl HSm hs2 hs3 HL;generalize r.drop lr=R3 at HSm HG2 hs3 HL;generalize r.take lr=A3 at HRt HRb hjl htl HG2;have HB4:=qH HW.out.2;have HBb:=qH <| L.block_lt c0;rw[<- HB4.out.cell (p:=⟨b,off+0,none⟩) (L.block_lt c0)] at c0;clear hc hcell hS1 hS3 hrb HG HS e' hrl hml hm
    go_wp2_with fail
    refine(HMk.out wr HB4.out).mono ?_;rintro e w5 ⟨rfl,b5⟩;have B5:=HB4.out.trans (b5.mono HB4.out.size);have O5:=L.zao HW.out.1 b5 qN;have HO5:Hid (w5.drew.ownsRow w3.heap.size 21 1 (.slice oo acc.length oc) acc.length (K.ints acc)/\Below w3.heap.size w3 w5.drew):=⟨O5,Nm.za8 B5⟩;rw[<- b5.cell (p:=⟨b,off+0,none⟩) (L.block_lt c0)] at c0;have hJw:Nm.Jo w5.drew bj B:=(HJ.out.below B5).block rfl rfl;have hRw:=HRt.out.below (Nm.za8 B5) qN;have HJ1:=qH <| zkf w5.drew bj B h _ A3 hJw hhb hRw HRb.out (by omega);have hs5:w3.heap.size<=w5.drew.heap.size:=B5.size;have hln5:acc.length+(Nm.jn h A3).length<=100000000:=by omega
    generalize Nm.jn h A3=jl at HJ1 HG2 hln5;clear B5 O5 b5 hJw hRw HRt HRb HMk HW HB4 hjl htl HJ HBd;have hmS1:(1:Int)<=m:=by omega
    have HC5:Hid (w5.drew.cell? ⟨b,off,none⟩=some (.int .i32 h)):=c0
    go_upto_region 11 with fail
    go_region_held3 (fun w'=>w'.cell? ⟨b,off,none⟩=some (.int .i32 h)) (first | with_reducible exact HC5.out | with_reducible exact x1 | with_reducible exact x6 | fail)
     (first
      | (go_at_call 97;with_reducible refine HJ1.out.mono ?_;rintro e wd1 ⟨vd1,rfl,own1,b1⟩;have q5:=L.zao HO5.out.1 b1 qN;obtain⟨v6,w6,run6,own6,gr6,nw6⟩:=K.zjl wd1 w3.heap.size (.slice oo acc.length oc) acc q5 vd1 jl (K.zj5 own1) hln5 (Nat.le_trans hs5 b1.size);have be6:Below w3.heap.size wd1 w6:=(qR wd1).grown gr6 (Nat.le_trans hs5 b1.size) (fun k hk=>(q5.lt k hk).1);have hfin:=And.intro own6 (HO5.out.2.trans ((b1.mono hs5).trans be6));have x1:wd1.cell? ⟨b,off,none⟩=some (.int .i32 h):=(b1.cell (p:=⟨b,off,none⟩) (Nat.lt_of_lt_of_le HBb.out hs5)).trans HC5.out;have x6:w6.cell? ⟨b,off,none⟩=some (.int .i32 h):=(be6.cell (p:=⟨b,off,none⟩) HBb.out).trans x1;clear q5 own6 gr6 nw6 be6 own1 b1)
      | (refine K.za5 (by rfl) (.tmp 37) (.tmp 45) (by rfl) _ _ _ w6 (by rfl) (by rfl) run6 ?_)
      | fail)
    all_goals
     have HFin:=qH hfin;clear x1 x6 HC5 c0 run6 HJ1 HO5 hfin;obtain⟨n9,hn9⟩:∃n9,n9=(acc++jl).length:=⟨_,rfl⟩;go_wp2
     go_roundw
     case rel=>exact⟨R3,acc++jl,xo4,yc4,m,rfl,rfl,HSm,HG2,HFin⟩
     case measure=>have:=HL.out;simp[Nm.lenOf];omega
 ·have hQ:(q1,q2)=([],te):=by rw[HQ.out,if_pos he]
  obtain⟨rfl,rfl⟩:=Prod.mk.inj hQ;clear hQ;clear HQ own1 b1 hbd;go_wp2;refine bodyPost_ret (v:= .tuple #[.slice none 0 0,.int .i64 q2]) (by simp[results,results20,go_sem, *]) rfl ?_;exact⟨_,rfl,World.ownsRow_nil _ _ _ _,HB1.out⟩
end
section
open Go.RowKit
theorem zqx (b:Bool)(w:World):Calls prog 148 #[.bool b] w fun e w'=>e= .returned (.int .i64 (if b=true then 1 else 0))/\w'=w:=by
 cases b with
 | true =>
  go_enter func148,ntmps148
  go_wp2;go_ret
  exact⟨by simp,rfl⟩
 | false =>
  go_enter func148,ntmps148
  go_wp2;go_ret
  exact⟨by simp,rfl⟩
namespace Od
theorem drop_at {l:List Int}{j:Nat}{x:Int}(h:l[j]?=some x):l.drop j=x::l.drop (j+1):=by
 obtain⟨hj,e⟩:=qL.1 h;rw[List.drop_eq_getElem_cons hj,e]
end Od
theorem zhm (w:World)(va vb:Value)(a b:List Int)(Ra:L.Rd w va .i64 a)(Rb:L.Rd w vb .i64 b)(ha:a.length<=1000000)(hb:b.length<=1000000) :
  Calls prog 103 #[va,vb] w fun e w'=>e= .returned (.int .i64 (Od.cmpL a b))/\w'=w:=by
 obtain⟨ao,ca,rfl,_,hca⟩:=Ra;obtain⟨bo,cb,rfl,_,hcb⟩:=Rb;obtain⟨o,ho⟩:∃o,o=Od.cmpL a b:=⟨_,rfl⟩;have HO:=qH ho;rw[<- ho];have HC:=qH <| fun X x y=>zdz X x y
 have HA:Hid (∀(j:Nat) z,a[j]?=some z->∃g off,ao=some ⟨g,off,none⟩/\w.cell? ⟨g,off+j,none⟩=some (.int .i64 z)):=fun j z hj=>by
  obtain⟨g,off,rfl,hc⟩:=hca (by intro h;subst h;simp at hj);exact⟨g,off,rfl,hc j z hj⟩
 have HB:Hid (∀(j:Nat) z,b[j]?=some z->∃g off,bo=some ⟨g,off,none⟩/\w.cell? ⟨g,off+j,none⟩=some (.int .i64 z)):=fun j z hj=>by
  obtain⟨g,off,rfl,hc⟩:=hcb (by intro h;subst h;simp at hj);exact⟨g,off,rfl,hc j z hj⟩
 clear hca hcb ho
 go_enter func103,ntmps103
 go_wp2
 go_loopw [11] (fun vi wr=>∃j:Nat,vi= .int .i64 j/\j<=a.length/\j<=b.length/\wr=w/\Hid (Od.cmpL (a.drop j) (b.drop j)=o)) (fun vi _=>a.length - (intOf vi).toNat)
 case atStart=>exact⟨0,rfl,Nat.zero_le _,Nat.zero_le _,rfl,HO.out.symm⟩
 case round =>
  obtain⟨j,rfl,hja,hjb,rfl,HD⟩:=hrel
  by_cases h1:j<a.length
  ·obtain⟨x,hx⟩:∃x,a[j]?=some x:=⟨a[j],by simp[h1]⟩;obtain⟨ga,oa,rfl,c1⟩:=HA.out j x hx
   by_cases h2:j<b.length
   ·obtain⟨y,hy⟩:∃y,b[j]?=some y:=⟨b[j],by simp[h2]⟩;obtain⟨gb,ob,rfl,c2⟩:=HB.out j y hy;have hd:=HD.out;rw[Od.drop_at hx,Od.drop_at hy,Od.cmpL] at hd;have hC:=HC.out wr x y;obtain⟨c,hc⟩:∃c:Int,c=if x<y then -1 else if y<x then 1 else 0:=⟨_,rfl⟩
    rw[<- hc] at hC
    by_cases hz:c=0
    ·have HE:Hid (Od.cmpL (a.drop (j+1)) (b.drop (j+1))=o):=by
      by_cases e1:x<y
      ·rw[if_pos e1] at hc;omega
      ·rw[if_neg e1] at hd hc
       by_cases e2:y<x
       ·rw[if_pos e2] at hc;omega
       ·rw[if_neg e2] at hd;exact hd
     clear hd hc hx hy HD;subst hz
     go_wp2_with fail
     refine hC.mono ?_;rintro e w1 ⟨rfl,h3⟩;obtain rfl:=h3.symm;clear hC h3;go_wp2
     go_roundw
     case rel=>exact⟨j+1,by go_num,by omega,by omega,by simp,HE⟩
     case measure=>simp[intOf];omega
    ·have ho:o=c:=by
      rw[<- hd,hc]
      by_cases e1:x<y
      ·rw[if_pos e1,if_pos e1]
      ·rw[if_neg e1] at hc;rw[if_neg e1,if_neg e1]
       by_cases e2:y<x
       ·rw[if_pos e2,if_pos e2]
       ·rw[if_neg e2] at hc;exact absurd hc hz
     clear hd hc hx hy HD HO;subst ho
     go_wp2_with fail
     refine hC.mono ?_;rintro e w1 ⟨rfl,h3⟩;obtain rfl:=h3.symm;clear hC h3;go_wp2;go_ret;exact⟨rfl,rfl⟩
   ·have hj:j=b.length:=by omega
    have ho:o=1:=by
     rw[<- HD.out,Od.drop_at hx,hj,List.drop_length];rfl
    have h4:b.length<=j:=by omega
    clear HD HO hx hj;subst ho;go_wp2;go_ret;exact⟨rfl,rfl⟩
  ·have hj:j=a.length:=by omega
   by_cases h2:j<b.length
   ·obtain⟨y,hy⟩:∃y,b[j]?=some y:=⟨b[j],by simp[h2]⟩
    have ho:o= -1:=by
     rw[<- HD.out,Od.drop_at hy,hj,List.drop_length];rfl
    have h3:a.length<b.length:=by omega
    clear HD HO hy hj;subst ho;go_wp2;go_ret;exact⟨rfl,rfl⟩
   ·have hj2:j=b.length:=by omega
    have ho:o=0:=by
     rw[<- HD.out,hj,List.drop_length,<- hj,hj2,List.drop_length];rfl
    have h3:¬a.length<b.length:=by omega
    clear HD HO hj hj2;subst ho;go_wp2;go_ret;exact⟨rfl,rfl⟩
namespace Od
def KRd (w:World) (g i:Nat) (k:K3):Prop:=∃s1 s2 s3:Value,w.cell? ⟨g,i,none⟩=some s1/\w.cell? ⟨g,i+1,none⟩=some s2/\w.cell? ⟨g,i+2,none⟩=some s3/\L.Rd w s1 .i64 k.1/\L.Rd w s2 .i64 k.2.1/\L.Rd w s3 .i64 k.2.2
def Ks (w:World) (v:Value) (ks:List K3):Prop:=∃ao cap,v= .slice ao ks.length cap/\(ks≠ []->∃g,ao=some ⟨g,0,none⟩/\∀j k,ks[j]?=some k->KRd w g (j*3) k)
theorem zlq {w w':World}{v:Value}{l:List Int}(P:Nat->Prop)(h:L.Rd w v .i64 l)(hc:∀a:Addr,P a.block->w'.cell? a=w.cell? a)(hb:∀b off c n,v= .slice (some ⟨b,off,none⟩) n c->0<n->P b):L.Rd w' v .i64 l:=by
 obtain⟨ao,cap,rfl,hz,hcell⟩:=h;refine⟨ao,cap,rfl,hz,fun hne=> ?_⟩;obtain⟨b,off,rfl,hcl⟩:=hcell hne;exact⟨b,off,rfl,fun j z hj=>(hc _ (hb b off _ _ rfl (List.length_pos_iff.2 hne))).trans (hcl j z hj)⟩
end Od
end
section
open Go.RowKit
theorem zke (X:World)(kb:Nat)(v:Value)(ks:List Od.K3)(hK:Od.Ks X v ks)(hb:X.cell? ⟨kb,0,none⟩=some v)(hl:∀k∈ks,k.1.length<=4000/\k.2.1.length<=4000/\k.2.2.length<=4000)(i j:Nat)(k1 k2:Od.K3)(h1:ks[i]?=some k1)(h2:ks[j]?=some k2)(hn:ks.length<=100) :
  Calls prog 102 #[.int .i64 i,.int .i64 j,.pointer (some ⟨kb,0,none⟩)] X fun e w'=>e= .returned (.int .i64 (Od.cmpK k1 k2))/\w'=X:=by
 obtain⟨ao,cap,rfl,hc⟩:=hK;obtain⟨g,rfl,hcell⟩:=hc (by intro h;subst h;simp at h1);obtain⟨s1,s2,s3,a1,a2,a3,r1,r2,r3⟩:=hcell i k1 h1;obtain⟨t1,t2,t3,b1,b2,b3,q1,q2,q3⟩:=hcell j k2 h2;have hi:=(qL.1 h1).1;have hj:=(qL.1 h2).1;have l1:=hl k1 (List.mem_of_getElem? h1);have l2:=hl k2 (List.mem_of_getElem? h2);obtain⟨p1,p2,p3⟩:=k1;obtain⟨m1,m2,m3⟩:=k2;simp only at r1 r2 r3 q1 q2 q3 l1 l2;have HC1:=qH <| zhm X s1 t1 p1 m1 r1 q1 (by omega) (by omega);have HC2:=qH <| zhm X s2 t2 p2 m2 r2 q2 (by omega) (by omega);have HC3:=qH <| zhm X s3 t3 p3 m3 r3 q3 (by omega) (by omega);obtain⟨o,ho⟩:∃o,o=Od.cmpK (p1,p2,p3) (m1,m2,m3):=⟨_,rfl⟩;rw[<- ho];unfold Od.cmpK at ho;simp only at ho;generalize Od.cmpL p1 m1=c1 at HC1 ho;generalize Od.cmpL p2 m2=c2 at HC2 ho;generalize Od.cmpL p3 m3=c3 at HC3 ho;have HO:=qH ho;have x0:∀w,(Instr.index 179 (.agg #[s1,s2,s3]) (.int .i64 0)).run prog w= .ok s1 w:=fun w=>by kernel_rfl
 have x1:∀w,(Instr.index 179 (.agg #[s1,s2,s3]) (.int .i64 1)).run prog w= .ok s2 w:=fun w=>by kernel_rfl
 have x2:∀w,(Instr.index 179 (.agg #[s1,s2,s3]) (.int .i64 2)).run prog w= .ok s3 w:=fun w=>by kernel_rfl
 clear r1 r2 r3 q1 q2 q3 l1 l2 hcell hc hl h1 h2 ho
 go_enter func102,ntmps102
 go_wp2
 go_loopw [13] (fun vk wr=>∃k:Nat,vk= .int .i64 k/\k<=3/\wr=X/\Hid ((0<k->c1=0)/\(1<k->c2=0)/\(2<k->c3=0))) (fun vk _=>3 - (intOf vk).toNat)
 case atStart=>exact⟨0,rfl,by omega,rfl,fun h=>by omega,fun h=>by omega,fun h=>by omega⟩
 case round =>
  obtain⟨k,rfl,hk,rfl,HD⟩:=hrel;have hk4:k=0∨k=1∨k=2∨k=3:=by omega
  rcases hk4 with rfl | rfl | rfl | rfl
  ·have hC:=HC1.out
   by_cases hz:c1=0
   ·subst hz;have HE:=HD.out;clear HC1 HC2 HC3 HD
    go_wp2_with fail
    refine hC.mono ?_;rintro e w1 ⟨rfl,h3⟩;obtain rfl:=h3.symm;clear hC h3;go_wp2
    go_roundw
    case rel=>exact⟨1,by go_num,by omega,by simp,by simp,fun h=>by omega,fun h=>by omega⟩
    case measure=>simp[intOf]
   ·have he:o=c1:=by
     have HE:=HD.out;rw[HO.out];rw[if_pos hz]
    clear HC1 HC2 HC3 HD HO;subst he
    go_wp2_with fail
    refine hC.mono ?_;rintro e w1 ⟨rfl,h3⟩;obtain rfl:=h3.symm;clear hC h3;go_wp2;go_ret;exact⟨rfl,rfl⟩
  ·have hC:=HC2.out
   by_cases hz:c2=0
   ·subst hz;have HE:=HD.out;clear HC1 HC2 HC3 HD
    go_wp2_with fail
    refine hC.mono ?_;rintro e w1 ⟨rfl,h3⟩;obtain rfl:=h3.symm;clear hC h3;go_wp2
    go_roundw
    case rel=>exact⟨2,by go_num,by omega,by simp,fun _=>HE.1 (by omega),by simp,fun h=>by omega⟩
    case measure=>simp[intOf]
   ·have he:o=c2:=by
     have HE:=HD.out;rw[HO.out];rw[if_neg (by rw[HE.1 (by omega)];simp)];rw[if_pos hz]
    clear HC1 HC2 HC3 HD HO;subst he
    go_wp2_with fail
    refine hC.mono ?_;rintro e w1 ⟨rfl,h3⟩;obtain rfl:=h3.symm;clear hC h3;go_wp2;go_ret;exact⟨rfl,rfl⟩
  ·have hC:=HC3.out
   by_cases hz:c3=0
   ·subst hz;have HE:=HD.out;clear HC1 HC2 HC3 HD
    go_wp2_with fail
    refine hC.mono ?_;rintro e w1 ⟨rfl,h3⟩;obtain rfl:=h3.symm;clear hC h3;go_wp2
    go_roundw
    case rel=>exact⟨3,by go_num,by omega,by simp,fun _=>HE.1 (by omega),fun h=>HE.2.1 (by omega),by simp⟩
    case measure=>simp[intOf]
   ·have he:o=c3:=by
     have HE:=HD.out;rw[HO.out];rw[if_neg (by rw[HE.1 (by omega)];simp)];rw[if_neg (by rw[HE.2.1 (by omega)];simp)]
    clear HC1 HC2 HC3 HD HO;subst he
    go_wp2_with fail
    refine hC.mono ?_;rintro e w1 ⟨rfl,h3⟩;obtain rfl:=h3.symm;clear hC h3;go_wp2;go_ret;exact⟨rfl,rfl⟩
  ·have he:o=0:=by
    obtain⟨h1,h2,h3⟩:=HD.out;rw[HO.out,h1 (by omega),h2 (by omega),h3 (by omega)];rfl
   clear HC1 HC2 HC3 HD HO;subst he;go_wp2;go_ret;exact⟨rfl,rfl⟩
