import Derived.Test.YthnmmmkeamcfkaaGreatDoorTClass
set_option maxHeartbeats 0
set_option maxRecDepth 20000
namespace Go.Proofs.YthnmmmkeamcfkaaGreatDoor
open Go.Proofs.Tryz
section
open Go.RowKit
def T.names:List (ByteArray×List S.Sp) :=
  [(⟨#[100,105,103,105,116]⟩,[(48,57)]),(⟨#[108,111,119,101,114]⟩,[(97,122),(223,246),(248,255)]),
   (⟨#[117,112,112,101,114]⟩,[(65,90),(192,214),(216,222)]),(⟨#[108,101,116,116,101,114]⟩,[(65,90),(97,122),(192,214),(216,246),(248,255)]),
   (⟨#[118,111,119,101,108]⟩,[(65,65),(69,69),(73,73),(79,79),(85,85),(97,97),(101,101),(105,105),(111,111),(117,117)]),
   (⟨#[103,114,101,101,107]⟩,[(880,1023)]),(⟨#[99,121,114,105,108,108,105,99]⟩,[(1024,1279)]),(⟨#[115,112,97,99,101]⟩,[(9,10),(32,32)]),(⟨#[97,110,121]⟩,[(0,1114111)])]
theorem zry (w:World):∃w1 b,(Instr.makeMap 131 none).run prog w= .ok (.map (some b)) w1/\T.Cls w1 b []/\Hid (w.heap.size<=b/\Below w.heap.size w w1) :=
  ⟨_,_,run_makeMap _ _,zv9 w,⟨qN,(qR _).alloc qN _⟩⟩
theorem zbt {w w1:World}{b:Nat}{ents:List (ByteArray×List S.Sp)}(hC:T.Cls w1 b ents)(hB:Hid (w.heap.size<=b/\Below w.heap.size w w1))(s:ByteArray)(sp:List S.Sp)(C:Array Value)(hCC:C=(S.cellsOf sp).toArray)(n c:Nat)(hn:n=sp.length)(hnew:∀x∈ents,x.1≠s) :
    ∃w2,(Instr.mapUpdate 131 (.map (some b)) (.string s) (.slice (some ⟨w1.heap.size,0,none⟩) n c)).run prog (w1.alloc (.cells C 101))= .ok () w2/\T.Cls w2 b (ents++ [(s,sp)])/\Hid (w.heap.size<=b/\Below w.heap.size w w2):=by
  have b1:Below w1.heap.size w1 (w1.alloc (.cells C 101)):=(qR _).alloc qN _;obtain⟨w2,r,h1,h2⟩:=zok (za6 hC b1) s _ sp hnew (zs7 w1 sp C hCC n hn c);have hB1:Below w.heap.size w (w1.alloc (.cells C 101)):=hB.out.2.alloc hB.out.2.size _;exact⟨w2,r,h1,hB.out.1,hB1.grown h2 hB1.size (fun j hj=>by cases hj;exact hB.out.1)⟩
theorem zdh (w:World):Calls prog 274 #[] w fun e w'=>∃b,e= .returned (.map (some b))/\w.heap.size<=b/\T.Cls w' b T.names/\Below w.heap.size w w':=by
  go_enter func274,ntmps274
  go_wp2_with fail
  obtain⟨w1,b,r,hC,hB⟩:=zry w;rw[r];clear r
  go_wp2_with fail
  obtain⟨w2,r,hC,hB⟩:=zbt hC hB ⟨#[100,105,103,105,116]⟩ [(48,57)] #[.int .i32 48,.int .i32 57] rfl 1 1 rfl (by decide);rw[r];clear r
  go_wp2_with fail
  obtain⟨w3,r,hC,hB⟩:=zbt hC hB ⟨#[108,111,119,101,114]⟩ [(97,122),(223,246),(248,255)] #[.int .i32 97,.int .i32 122,.int .i32 223,.int .i32 246,.int .i32 248,.int .i32 255] rfl 3 3 rfl (by decide);rw[r];clear r
  go_wp2_with fail
  obtain⟨w4,r,hC,hB⟩:=zbt hC hB ⟨#[117,112,112,101,114]⟩ [(65,90),(192,214),(216,222)] #[.int .i32 65,.int .i32 90,.int .i32 192,.int .i32 214,.int .i32 216,.int .i32 222] rfl 3 3 rfl (by decide);rw[r];clear r
  go_wp2_with fail
  obtain⟨w5,r,hC,hB⟩:=zbt hC hB ⟨#[108,101,116,116,101,114]⟩ [(65,90),(97,122),(192,214),(216,246),(248,255)] #[.int .i32 65,.int .i32 90,.int .i32 97,.int .i32 122,.int .i32 192,.int .i32 214,.int .i32 216,.int .i32 246,.int .i32 248,.int .i32 255] rfl 5 5 rfl (by decide);rw[r];clear r
  go_wp2_with fail
  refine(zbi 65 _).mono ?_;rintro e w6 ⟨rfl,hb⟩
  replace hC:=za6 hC hb
  replace hB:Hid (w.heap.size<=b/\Below w.heap.size w w6):=⟨hB.out.1,hB.out.2.trans (hb.mono hB.out.2.size)⟩
  clear hb
  go_wp2_with fail
  refine(zbi 69 _).mono ?_;rintro e w7 ⟨rfl,hb⟩
  replace hC:=za6 hC hb
  replace hB:Hid (w.heap.size<=b/\Below w.heap.size w w7):=⟨hB.out.1,hB.out.2.trans (hb.mono hB.out.2.size)⟩
  clear hb
  go_wp2_with fail
  refine(zbi 73 _).mono ?_;rintro e w8 ⟨rfl,hb⟩
  replace hC:=za6 hC hb
  replace hB:Hid (w.heap.size<=b/\Below w.heap.size w w8):=⟨hB.out.1,hB.out.2.trans (hb.mono hB.out.2.size)⟩
  clear hb
  go_wp2_with fail
  refine(zbi 79 _).mono ?_;rintro e w9 ⟨rfl,hb⟩
  replace hC:=za6 hC hb
  replace hB:Hid (w.heap.size<=b/\Below w.heap.size w w9):=⟨hB.out.1,hB.out.2.trans (hb.mono hB.out.2.size)⟩
  clear hb
  go_wp2_with fail
  refine(zbi 85 _).mono ?_;rintro e w10 ⟨rfl,hb⟩
  replace hC:=za6 hC hb
  replace hB:Hid (w.heap.size<=b/\Below w.heap.size w w10):=⟨hB.out.1,hB.out.2.trans (hb.mono hB.out.2.size)⟩
  clear hb
  go_wp2_with fail
  refine(zbi 97 _).mono ?_;rintro e w11 ⟨rfl,hb⟩
  replace hC:=za6 hC hb
  replace hB:Hid (w.heap.size<=b/\Below w.heap.size w w11):=⟨hB.out.1,hB.out.2.trans (hb.mono hB.out.2.size)⟩
  clear hb
  go_wp2_with fail
  refine(zbi 101 _).mono ?_;rintro e w12 ⟨rfl,hb⟩
  replace hC:=za6 hC hb
  replace hB:Hid (w.heap.size<=b/\Below w.heap.size w w12):=⟨hB.out.1,hB.out.2.trans (hb.mono hB.out.2.size)⟩
  clear hb
  go_wp2_with fail
  refine(zbi 105 _).mono ?_;rintro e w13 ⟨rfl,hb⟩
  replace hC:=za6 hC hb
  replace hB:Hid (w.heap.size<=b/\Below w.heap.size w w13):=⟨hB.out.1,hB.out.2.trans (hb.mono hB.out.2.size)⟩
  clear hb
  go_wp2_with fail
  refine(zbi 111 _).mono ?_;rintro e w14 ⟨rfl,hb⟩
  replace hC:=za6 hC hb
  replace hB:Hid (w.heap.size<=b/\Below w.heap.size w w14):=⟨hB.out.1,hB.out.2.trans (hb.mono hB.out.2.size)⟩
  clear hb
  go_wp2_with fail
  refine(zbi 117 _).mono ?_;rintro e w15 ⟨rfl,hb⟩
  replace hC:=za6 hC hb
  replace hB:Hid (w.heap.size<=b/\Below w.heap.size w w15):=⟨hB.out.1,hB.out.2.trans (hb.mono hB.out.2.size)⟩
  clear hb
  go_wp2_with fail
  obtain⟨w16,r,hC,hB⟩:=zbt hC hB ⟨#[118,111,119,101,108]⟩ [(65,65),(69,69),(73,73),(79,79),(85,85),(97,97),(101,101),(105,105),(111,111),(117,117)] #[.int .i32 65,.int .i32 65,.int .i32 69,.int .i32 69,.int .i32 73,.int .i32 73,.int .i32 79,.int .i32 79,.int .i32 85,.int .i32 85,.int .i32 97,.int .i32 97,.int .i32 101,.int .i32 101,.int .i32 105,.int .i32 105,.int .i32 111,.int .i32 111,.int .i32 117,.int .i32 117] rfl 10 10 rfl (by decide);rw[r];clear r
  go_wp2_with fail
  obtain⟨w17,r,hC,hB⟩:=zbt hC hB ⟨#[103,114,101,101,107]⟩ [(880,1023)] #[.int .i32 880,.int .i32 1023] rfl 1 1 rfl (by decide);rw[r];clear r
  go_wp2_with fail
  obtain⟨w18,r,hC,hB⟩:=zbt hC hB ⟨#[99,121,114,105,108,108,105,99]⟩ [(1024,1279)] #[.int .i32 1024,.int .i32 1279] rfl 1 1 rfl (by decide);rw[r];clear r
  go_wp2_with fail
  refine(zbi 32 _).mono ?_;rintro e w19 ⟨rfl,hb⟩
  replace hC:=za6 hC hb
  replace hB:Hid (w.heap.size<=b/\Below w.heap.size w w19):=⟨hB.out.1,hB.out.2.trans (hb.mono hB.out.2.size)⟩
  clear hb
  go_wp2_with fail
  obtain⟨w20,r,hC,hB⟩:=zbt hC hB ⟨#[115,112,97,99,101]⟩ [(9,10),(32,32)] #[.int .i32 9,.int .i32 10,.int .i32 32,.int .i32 32] rfl 2 2 rfl (by decide);rw[r];clear r
  go_wp2_with fail
  obtain⟨w21,r,hC,hB⟩:=zbt hC hB ⟨#[97,110,121]⟩ [(0,1114111)] #[.int .i32 0,.int .i32 1114111] rfl 1 1 rfl (by decide);rw[r];clear r
  go_wp2_with fail
  go_ret;exact⟨b,rfl,hB.out.1,hC,hB.out.2⟩
theorem zmf (z:Int)(h:¬(0<=z/\z<128)):∃a t,M.enc z=a::t/\128<=a.toNat:=by
 by_cases hr:M.right z=true
 ·have hz:0<=z/\z<=1114111:=by
   have:=of_decide_eq_true hr;omega
  obtain⟨n,rfl⟩:∃n:Nat,z=(n:Int):=⟨z.toNat,by omega⟩;rw[M.ze0 n hr,if_neg (by omega)]
  repeat' split
  all_goals exact⟨_,_,rfl,by rw[M.u8 _ (by omega)];omega⟩
 ·have e:M.enc z=M.enc ((65533:Nat):Int):=by
   have h1:Utf8.valid z=false:=by rw[M.zfp];exact Bool.eq_false_iff.2 hr
   have h2:Utf8.valid ((65533:Nat):Int)=true:=by decide
   unfold M.enc Utf8.encode;rw[h1,h2];rfl
  rw[e,M.ze0 65533 (by decide)];exact⟨_,_,rfl,by decide⟩
theorem zk4 (n:Nat)(h:n<128):M.enc (n:Int)= [UInt8.ofNat n]:=by
 have hr:M.right (n:Int)=true:=by unfold M.right;exact decide_eq_true (by omega)
 rw[M.ze0 n hr,if_pos (by omega)]
theorem zg7:∀(ns:List Nat) (zs:List Int),(∀n∈ns,n<128)->(zs.flatMap fun z=>M.enc z)=ns.map UInt8.ofNat->zs=ns.map Int.ofNat
 | [],[],_,_=>rfl
 | [],z::zs,_,h=>by
  exfalso
  by_cases hz:0<=z/\z<128
  ·obtain⟨n,rfl⟩:∃n:Nat,z=(n:Int):=⟨z.toNat,by omega⟩;rw[List.flatMap_cons,zk4 n (by omega)] at h;simp at h
  ·obtain⟨a,t,he,_⟩:=zmf z hz;rw[List.flatMap_cons,he] at h;simp at h
 | n::ns,[],_,h=>by simp at h
 | n::ns,z::zs,hn,h=>by
  have h0:=hn n (by simp)
  by_cases hz:0<=z/\z<128
  ·obtain⟨m,rfl⟩:∃m:Nat,z=(m:Int):=⟨z.toNat,by omega⟩;rw[List.flatMap_cons,zk4 m (by omega),List.map_cons,List.singleton_append,List.cons.injEq] at h;have e:=congrArg UInt8.toNat h.1;rw[M.u8 _ (by omega),M.u8 _ (by omega)] at e;subst e;rw[zg7 ns zs (fun x hx=>hn x (by simp[hx])) h.2,List.map_cons];rfl
  ·exfalso;obtain⟨a,t,he,ha⟩:=zmf z hz;rw[List.flatMap_cons,he,List.map_cons,List.cons_append,List.cons.injEq] at h;have e:=congrArg UInt8.toNat h.1;rw[M.u8 _ (by omega)] at e;omega
theorem zcl (ns:List Nat)(s:ByteArray)(hs:s.data.toList=ns.map UInt8.ofNat)(hn:∀n∈ns,n<128)(zs:List Int):runesBytes zs=s↔zs=ns.map Int.ofNat:=by
 constructor
 ·intro h;refine zg7 ns zs hn ?_;rw[<- hs,<- h,zbf]
 ·rintro rfl;apply ByteArray.ext;apply Array.toList_inj.1;rw[zbf,hs,List.flatMap_map];clear hs
  induction ns with
  | nil=>rfl
  | cons n ns ih =>
   have e:M.enc (Int.ofNat n)= [UInt8.ofNat n]:=zk4 n (hn n (by simp));rw[List.flatMap_cons,e,List.map_cons,ih fun x hx=>hn x (by simp[hx])];rfl
theorem zgz (zs:List Int):runesBytes zs=⟨#[100,105,103,105,116]⟩↔zs= [100,105,103,105,116]:=zcl [100,105,103,105,116] _ rfl (by decide) zs
theorem zgx (zs:List Int):runesBytes zs=⟨#[108,111,119,101,114]⟩↔zs= [108,111,119,101,114]:=zcl [108,111,119,101,114] _ rfl (by decide) zs
theorem zgv (zs:List Int):runesBytes zs=⟨#[117,112,112,101,114]⟩↔zs= [117,112,112,101,114]:=zcl [117,112,112,101,114] _ rfl (by decide) zs
theorem zfx (zs:List Int):runesBytes zs=⟨#[108,101,116,116,101,114]⟩↔zs= [108,101,116,116,101,114]:=zcl [108,101,116,116,101,114] _ rfl (by decide) zs
theorem zgu (zs:List Int):runesBytes zs=⟨#[118,111,119,101,108]⟩↔zs= [118,111,119,101,108]:=zcl [118,111,119,101,108] _ rfl (by decide) zs
theorem zgy (zs:List Int):runesBytes zs=⟨#[103,114,101,101,107]⟩↔zs= [103,114,101,101,107]:=zcl [103,114,101,101,107] _ rfl (by decide) zs
theorem zdy (zs:List Int):runesBytes zs=⟨#[99,121,114,105,108,108,105,99]⟩↔zs= [99,121,114,105,108,108,105,99]:=zcl [99,121,114,105,108,108,105,99] _ rfl (by decide) zs
theorem zgw (zs:List Int):runesBytes zs=⟨#[115,112,97,99,101]⟩↔zs= [115,112,97,99,101]:=zcl [115,112,97,99,101] _ rfl (by decide) zs
theorem zl8 (zs:List Int):runesBytes zs=⟨#[97,110,121]⟩↔zs= [97,110,121]:=zcl [97,110,121] _ rfl (by decide) zs
theorem znr (zs:List Int)(x:ByteArray×List S.Sp)(hx:x∈T.names)(h:x.1=runesBytes zs):T.classOf zs=some x.2:=by
 unfold T.names at hx;simp only[List.mem_cons,List.not_mem_nil,or_false] at hx;rcases hx with rfl | rfl | rfl | rfl | rfl | rfl | rfl | rfl | rfl
 ·rw[(zgz zs).1 h.symm];rfl
 ·rw[(zgx zs).1 h.symm];rfl
 ·rw[(zgv zs).1 h.symm];rfl
 ·rw[(zfx zs).1 h.symm];rfl
 ·rw[(zgu zs).1 h.symm];rfl
 ·rw[(zgy zs).1 h.symm];rfl
 ·rw[(zdy zs).1 h.symm];rfl
 ·rw[(zgw zs).1 h.symm];rfl
 ·rw[(zl8 zs).1 h.symm];rfl
theorem zns (zs:List Int)(h:∀x∈T.names,x.1≠runesBytes zs):T.classOf zs=none:=by
 unfold T.classOf;rw[if_neg fun e=>h _ (.head _) ((zgz zs).2 e).symm];rw[if_neg fun e=>h _ (.tail _ (.head _)) ((zgx zs).2 e).symm];rw[if_neg fun e=>h _ (.tail _ (.tail _ (.head _))) ((zgv zs).2 e).symm];rw[if_neg fun e=>h _ (.tail _ (.tail _ (.tail _ (.head _)))) ((zfx zs).2 e).symm];rw[if_neg fun e=>h _ (.tail _ (.tail _ (.tail _ (.tail _ (.head _))))) ((zgu zs).2 e).symm];rw[if_neg fun e=>h _ (.tail _ (.tail _ (.tail _ (.tail _ (.tail _ (.head _)))))) ((zgy zs).2 e).symm];rw[if_neg fun e=>h _ (.tail _ (.tail _ (.tail _ (.tail _ (.tail _ (.tail _ (.head _))))))) ((zdy zs).2 e).symm];rw[if_neg fun e=>h _ (.tail _ (.tail _ (.tail _ (.tail _ (.tail _ (.tail _ (.tail _ (.head _)))))))) ((zgw zs).2 e).symm];rw[if_neg fun e=>h _ (.tail _ (.tail _ (.tail _ (.tail _ (.tail _ (.tail _ (.tail _ (.tail _ (.head _))))))))) ((zl8 zs).2 e).symm]
end
section
open Go.RowKit
theorem zct {w:World}{b:Nat}(h:T.Cls w b T.names)(zs:List Int)(str:ByteArray)(hs:runesBytes zs=str) :
  ∃v ok,(Instr.lookup 131 (.map (some b)) (.string str) true).run prog w= .ok (.tuple #[v,.bool ok]) w/\Hid ((∃sp,T.classOf zs=some sp/\ok=true/\S.Rd w v sp)∨(T.classOf zs=none/\ok=false)):=by
 subst hs;rcases zoj h (runesBytes zs) with ⟨v,x,hx,he,hR,hr⟩|⟨hn,hr⟩
 ·exact⟨v,true,hr,.inl ⟨x.2,znr zs x hx he,rfl,hR⟩⟩
 ·exact⟨_,false,hr,.inr ⟨zns zs hn,rfl⟩⟩
theorem zui (zs:List Int)(sp:List S.Sp)(h:T.classOf zs=some sp):S.Nf 0 sp/\sp.length<=200:=by
 unfold T.classOf at h
 repeat' split at h
 all_goals first
  | (cases h;done)
  | (cases h;exact⟨by simp[S.Nf],by decide⟩)
theorem zuh:T.ClassOk:=by
 intro w cb tb cap p ao l C h91 h58;have hp:=C.inside (by rw[h91];decide);have hlen:=C.len;have HC:=qH C;clear C;obtain⟨o,HO⟩:∃o,Hid (T.cls l p=o):=⟨_,rfl⟩;rw[HO.out]
 go_enter func261,ntmps261
 go_wp2_with fail
 refine(za1 _ cb tb cap p ao l 91 (by decide) HC.out h91).mono ?_;rintro e w1 ⟨rfl,C1,g1⟩;have G1:=qH g1;clear g1
 go_wp2_with fail
 refine(za1 _ cb tb cap (p+1) ao l 58 (by decide) C1 h58).mono ?_;rintro e w2 ⟨rfl,C2,g2⟩;have G2:=qH <| S.zaa G1.out g2;obtain⟨f,HF⟩:∃f,Hid (p+2=f):=⟨_,rfl⟩;have d1:w2.cell? ⟨cb,1,none⟩=some (.int .i64 (f:Int)):=by rw[<- HF.out];exact C2.cell1
 have HC2:Hid (T.Cur w2 cb tb cap ao l (p+2)):=C2;have hle2:=C2.le;clear C2 C1 G1 g2;go_wp2
 go_loopw [15] (fun _ wr=>∃q:Nat,p+2<=q/\Hid (∀i,p+2<=i->i<q->T.ordy (T.see l i)=true)/\Hid (T.Cur wr cb tb cap ao l q)/\Hid (w.grownBy wr (some cb))) (fun _ wr=>l.length - T.pos wr cb)
 case atStart=>exact⟨p+2,qN,fun i h1 h2=>by omega,HC2,G2⟩
 case round =>
  obtain⟨q,hq,HA,HCq,HG⟩:=hrel;have HP:Hid _:=HCq.out.pos;have hql:=HCq.out.le
  go_wp2_with fail
  refine(zhu _ cb tb cap q ao l HCq.out).mono ?_;rintro e w3 ⟨rfl,b3⟩;have C3:=HCq.out.below b3;have c3:=C3.cell1;have c3t:=C3.cell0;have f3:=C3.frz1;have HC3:=qH C3;have HG3:=qH <| S.zaa HG.out (S.zaf b3);clear C3
  by_cases hb:T.ordy (T.see l q)=true
  ·have hlt:=HCq.out.inside (by intro h;rw[h] at hb;revert hb;decide);go_wp2
   go_roundw
   case rel =>
    refine⟨q+1,by omega,fun i h1 h2=> ?_,HC3.out.set (q:=q+1) (by omega),S.zaa HG3.out (zc4 _ _ _ _)⟩
    by_cases e:i=q
    ·rw[e];exact hb
    ·exact HA.out i h1 (by omega)
   case measure =>
    have h1:T.pos (w3.setCell ⟨cb,1,none⟩ (.int .i64 ((q:Int)+1))) cb=q+1:=(HC3.out.set (q:=q+1) (by omega)).pos;rw[h1,HP.out];omega
  ·have hb':T.ordy (T.see l q)=false:=by simpa using hb
   have HK:=qH <| T.zci hq hql HA.out hb' (by decide);have hao:=HC3.out.txt (by intro h;subst h;simp at hp);subst hao;have hcp:=HC3.out.cp;have hfq:f<=q:=by have:=HF.out;omega
   have i1:(0:Int)<=(f:Int):=by omega
   have i2:(f:Int)<=(q:Int):=by omega
   have i3:(q:Int)<=(cap:Int):=by omega
   have HB3:Hid (w3.heap.size=w3.heap.size):=rfl
   by_cases hlt:f<q
   ·have hcf:¬cap=f:=by omega
    obtain⟨str,HS⟩:∃s,Hid (runesBytes (T.cut l f q)=s):=⟨_,rfl⟩;have HC3':Hid (T.Cur w3.drew cb tb cap (some ⟨tb,0,none⟩) l q):=HC3.out.drewN 1;have kp3:(w3.drew.cell? ⟨cb,0,none⟩=some (.slice (some ⟨tb,0,none⟩) l.length cap)/\w3.drew.cell? ⟨cb,1,none⟩=some (.int .i64 q))/\(convert 33 9 (.slice (some ⟨tb,f,none⟩) (q - f) (cap - f))).run prog w3.drew= .ok (.string str) w3.drew:=⟨⟨HC3'.out.cell0,HC3'.out.cell1⟩,by rw[<- HS.out];exact HC3'.out.text hfq hql _ (fun _=>rfl) _⟩
    go_wp2_with fail
    go_region_held3 (fun w'=>(w'.cell? ⟨cb,0,none⟩=some (.slice (some ⟨tb,0,none⟩) l.length cap)/\w'.cell? ⟨cb,1,none⟩=some (.int .i64 q))/\(convert 33 9 (.slice (some ⟨tb,f,none⟩) (q - f) (cap - f))).run prog w'= .ok (.string str) w')
     (first
      | exact kp4
      | exact kp3
      | (go_keep;done))
     (first
      | (go_at_call 274;refine(zdh _).mono ?_;rintro e w4 ⟨b,rfl,hbs,HCl,b4⟩;have C4:=HC3'.out.below b4;have HC4:Hid (T.Cur w4 cb tb cap (some ⟨tb,0,none⟩) l q):=C4;have kp4:(w4.cell? ⟨cb,0,none⟩=some (.slice (some ⟨tb,0,none⟩) l.length cap)/\w4.cell? ⟨cb,1,none⟩=some (.int .i64 q))/\(convert 33 9 (.slice (some ⟨tb,f,none⟩) (q - f) (cap - f))).run prog w4= .ok (.string str) w4:=⟨⟨C4.cell0,C4.cell1⟩,by rw[<- HS.out];exact C4.text hfq hql _ (fun _=>rfl) _⟩;obtain⟨v4,ok4,hlk,HV⟩:=zct HCl (T.cut l f q) str HS.out;have HB4:Hid _:=b4;clear b4 C4))
    have HG4:=qH <| S.zaa HG3.out (S.zaa (zb5 _ 1 _) (S.zaf HB4.out));clear kp3 kp4 hlk HCl c3 c3t f3;rcases HV.out with ⟨sp,hcl,rfl,hR⟩|⟨hcl,rfl⟩
    ·have HR:=qH hR;have HCL:Hid _:=hcl;clear hR hcl HV
     by_cases e1:T.see l q=58
     ·go_wp2_with fail
      refine(za1 _ cb tb cap q _ l 58 (by decide) HC4.out e1).mono ?_;rintro e w5 ⟨rfl,C5,g5⟩;have HC5:=qH C5;have HG5:=qH <| S.zaa HG4.out g5;have HR5:=qH <| T.zqf HC4.out HR.out g5;clear C5 g5
      by_cases e2:T.see l (q+1)=93
      ·go_wp2_with fail
       refine(za1 _ cb tb cap (q+1) _ l 93 (by decide) HC5.out e2).mono ?_;rintro e w6 ⟨rfl,C6,g6⟩;have HC6:Hid (T.Cur w6 cb tb cap (some ⟨tb,0,none⟩) l (q+2)):=C6;have HG6:=qH <| S.zaa HG5.out g6;have HR6:=qH <| T.zqf HC5.out HR5.out g6;clear C6 g6;go_wp2;go_ret;rw[<- HO.out];unfold T.cls;rw[HK.out,HF.out,HCL.out];simp only;rw[if_neg (by simp[e1]),if_neg (by simp[e2])];exact⟨_,rfl,⟨HR6.out,zui _ _ HCL.out⟩,HC6.out,HG6.out⟩
      ·go_wp2_with fail
       refine(zb0 _ cb tb cap (q+1) _ l 93 (by decide) HC5.out e2).mono ?_;unfold T.thrown;rintro e w6 ⟨rfl,g6⟩;go_wp2;refine⟨rfl,?_⟩;rw[<- HO.out];unfold T.cls;rw[HK.out,HF.out,HCL.out];simp only;rw[if_neg (by simp[e1]),if_pos e2];exact⟨rfl,S.zaa HG5.out g6⟩
     ·go_wp2_with fail
      refine(zb0 _ cb tb cap q _ l 58 (by decide) HC4.out e1).mono ?_;unfold T.thrown;rintro e w5 ⟨rfl,g5⟩;go_wp2;refine⟨rfl,?_⟩;rw[<- HO.out];unfold T.cls;rw[HK.out,HF.out,HCL.out];simp only;rw[if_pos e1];exact⟨rfl,S.zaa HG4.out g5⟩
    ·go_wp2_with (go_at_call 58;refine(zav _ 7 f).mono ?_;unfold T.thrown;rintro e w5 ⟨rfl,rfl⟩)
     refine⟨rfl,?_⟩;rw[<- HO.out];unfold T.cls;rw[HK.out,HF.out,hcl];exact⟨rfl,HG4.out⟩
   ·have hqf:q=f:=by omega
    subst hqf
    have hnone:T.classOf (T.cut l q q)=none:=by
     have:T.cut l q q= []:=List.length_eq_zero_iff.1 (by rw[zen hfq hql];omega);rw[this];rfl
    obtain⟨str,HS⟩:∃s,Hid (runesBytes (T.cut l q q)=s):=⟨_,rfl⟩;have HC3':Hid (T.Cur w3.drew cb tb cap (some ⟨tb,0,none⟩) l q):=HC3.out.drewN 1;have kp3:(w3.drew.cell? ⟨cb,0,none⟩=some (.slice (some ⟨tb,0,none⟩) l.length cap)/\w3.drew.cell? ⟨cb,1,none⟩=some (.int .i64 q))/\∀a c,(convert 33 9 (.slice (some a) 0 c)).run prog w3.drew= .ok (.string str) w3.drew:=⟨⟨HC3'.out.cell0,HC3'.out.cell1⟩,fun a c=>by have:=HC3'.out.text hfq hql a (fun h=>absurd h (Nat.lt_irrefl _)) c;rw[Nat.sub_self,HS.out] at this;exact this⟩
    by_cases hcf:cap=q
    ·go_wp2_with fail
     go_region_held3 (fun w'=>(w'.cell? ⟨cb,0,none⟩=some (.slice (some ⟨tb,0,none⟩) l.length cap)/\w'.cell? ⟨cb,1,none⟩=some (.int .i64 q))/\∀a c,(convert 33 9 (.slice (some a) 0 c)).run prog w'= .ok (.string str) w')
      (first
       | exact kp4
       | exact kp3
       | (go_keep;done))
      (first
       | (go_at_call 274;refine(zdh _).mono ?_;rintro e w4 ⟨b,rfl,hbs,HCl,b4⟩;have C4:=HC3'.out.below b4;have kp4:(w4.cell? ⟨cb,0,none⟩=some (.slice (some ⟨tb,0,none⟩) l.length cap)/\w4.cell? ⟨cb,1,none⟩=some (.int .i64 q))/\∀a c,(convert 33 9 (.slice (some a) 0 c)).run prog w4= .ok (.string str) w4:=⟨⟨C4.cell0,C4.cell1⟩,fun a c=>by have:=C4.text hfq hql a (fun h=>absurd h (Nat.lt_irrefl _)) c;rw[Nat.sub_self,HS.out] at this;exact this⟩;obtain⟨v4,ok4,hlk,HV⟩:=zct HCl (T.cut l q q) str HS.out;have HB4:Hid _:=b4;clear b4 C4))
     have HG4:=qH <| S.zaa HG3.out (S.zaa (zb5 _ 1 _) (S.zaf HB4.out));clear kp3 kp4 hlk HCl c3 c3t f3;rcases HV.out with ⟨sp,hcl,rfl,hR⟩|⟨hcl,rfl⟩
     ·rw[hnone] at hcl;cases hcl
     ·go_wp2_with (go_at_call 58;refine(zav _ 7 q).mono ?_;unfold T.thrown;rintro e w5 ⟨rfl,rfl⟩)
      refine⟨rfl,?_⟩;rw[<- HO.out];unfold T.cls;rw[HK.out,HF.out,hcl];exact⟨rfl,HG4.out⟩
    ·go_wp2_with fail
     go_region_held3 (fun w'=>(w'.cell? ⟨cb,0,none⟩=some (.slice (some ⟨tb,0,none⟩) l.length cap)/\w'.cell? ⟨cb,1,none⟩=some (.int .i64 q))/\∀a c,(convert 33 9 (.slice (some a) 0 c)).run prog w'= .ok (.string str) w')
      (first
       | exact kp4
       | exact kp3
       | (go_keep;done))
      (first
       | (go_at_call 274;refine(zdh _).mono ?_;rintro e w4 ⟨b,rfl,hbs,HCl,b4⟩;have C4:=HC3'.out.below b4;have kp4:(w4.cell? ⟨cb,0,none⟩=some (.slice (some ⟨tb,0,none⟩) l.length cap)/\w4.cell? ⟨cb,1,none⟩=some (.int .i64 q))/\∀a c,(convert 33 9 (.slice (some a) 0 c)).run prog w4= .ok (.string str) w4:=⟨⟨C4.cell0,C4.cell1⟩,fun a c=>by have:=C4.text hfq hql a (fun h=>absurd h (Nat.lt_irrefl _)) c;rw[Nat.sub_self,HS.out] at this;exact this⟩;obtain⟨v4,ok4,hlk,HV⟩:=zct HCl (T.cut l q q) str HS.out;have HB4:Hid _:=b4;clear b4 C4))
     have HG4:=qH <| S.zaa HG3.out (S.zaa (zb5 _ 1 _) (S.zaf HB4.out));clear kp3 kp4 hlk HCl c3 c3t f3;rcases HV.out with ⟨sp,hcl,rfl,hR⟩|⟨hcl,rfl⟩
     ·rw[hnone] at hcl;cases hcl
     ·go_wp2_with (go_at_call 58;refine(zav _ 7 q).mono ?_;unfold T.thrown;rintro e w5 ⟨rfl,rfl⟩)
      refine⟨rfl,?_⟩;rw[<- HO.out];unfold T.cls;rw[HK.out,HF.out,hcl];exact⟨rfl,HG4.out⟩
