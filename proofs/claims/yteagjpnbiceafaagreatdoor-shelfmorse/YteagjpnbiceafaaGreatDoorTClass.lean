/-
 Small letters in dots and dashes, and back. Plain lists.
-/
import Derived.Test.YteagjpnbiceafaaGreatDoorShByP
import Derived.Test.YteagjpnbiceafaaGreatDoorShBack
import Derived.Test.YteagjpnbiceafaaGreatDoorRName
import Derived.Test.YteagjpnbiceafaaGreatDoorShLawP
import Derived.Laws.Concat
import Derived.Test.YteagjpnbiceafaaGreatDoorTWhole
import Derived.MapKept
import Derived.ChangeMaps4
set_option maxHeartbeats 0
set_option maxRecDepth 20000
set_option linter.unusedSimpArgs false
namespace Go.Proofs.YteagjpnbiceafaaGreatDoor.Sh
def moC:List (List Int):= [[46,45],[45,46,46,46],[45,46,45,46],[45,46,46],[46],[46,46,45,46],[45,45,46],[46,46,46,46],[46,46],[46,45,45,45],[45,46,45],[46,45,46,46],[45,45],[45,46],[45,45,45],[46,45,45,46],[45,45,46,45],[46,45,46],[46,46,46],[45],[46,46,45],[46,46,46,45],[46,45,45],[45,46,46,45],[45,46,45,45],[45,45,46,46]]
def moA (k:Nat):Int:=((97+k:Nat):Int)
def moB (k:Nat):List Int:=moC.getD k []++ [32]
def moF:List (List S.Sp×List Int):=(List.range 26).map fun k=>([(moA k,moA k)],moB k)
def moR:List Sr:=(List.range 26).map fun k=>(moB k,[moA k])
theorem ztp:∀k,k<26->by1 moF (moA k)=moB k:=by decide +kernel
theorem zn7:∀k,k<26->1<=(moB k).length/\(moB k).length<=5:=by decide +kernel
theorem zhm:∀k,k<26->∀z∈moB k,M.right z=true:=by decide +kernel
theorem zes:∀k,k<26->M.right (moA k)=true:=by decide +kernel
theorem zrg:∀ {a b:List Int} (r:List Int),a.isPrefixOf b=false->b.isPrefixOf a=false->a.isPrefixOf (b++r)=false
 | [],b,r,h,_=>by simp at h
 | x::a,[],r,_,h=>by simp at h
 | x::a,y::b,r,h1,h2=>by
  rw[List.isPrefixOf] at h1 h2;rw[List.cons_append,List.isPrefixOf]
  by_cases h:x=y
  ·subst h;simp only[beq_self_eq_true,Bool.true_and] at h1 h2 ⊢;exact zrg r h1 h2
  ·have:(x==y)=false:=by simp[h]
   rw[this];rfl
theorem zsb {l:List Sr}{x:Sr}(hx:x∈l)(h:∀y∈l,y≠x->y.1.isPrefixOf x.1=false/\x.1.isPrefixOf y.1=false)(r:List Int):pfx l (x.1++r)=some x:=by
 unfold pfx
 induction l with
 | nil=>cases hx
 | cons y l ih =>
  rw[List.find?_cons]
  by_cases e:y=x
  ·subst e;have:y.1.isPrefixOf (y.1++r)=true:=List.isPrefixOf_iff_prefix.2 (List.prefix_append _ _);rw[this]
  ·obtain⟨h1,h2⟩:=h y List.mem_cons_self e;rw[zrg r h1 h2];exact ih ((List.mem_cons.1 hx).resolve_left fun e'=>e e'.symm) fun z hz=>h z (List.mem_cons_of_mem _ hz)
theorem zqe:∀x∈moR,∀y∈moR,y≠x->y.1.isPrefixOf x.1=false/\x.1.isPrefixOf y.1=false:=by decide +kernel
theorem zrh {k:Nat}(h:k<26):(moB k,[moA k])∈moR:=List.mem_map.2 ⟨k,List.mem_range.2 h,rfl⟩
theorem ztq:∀x∈moR,1<=x.1.length/\x.2.length<=x.1.length:=by decide +kernel
theorem zs3:∀(ks:List Nat) (n:Nat),(∀k∈ks,k<26)->ks.length<=n->sc moR n (ks.flatMap moB)=ks.map moA
 | [],n,_,_=>by cases n <;> rfl
 | k::ks,n,h,hn=>by
  obtain⟨m,rfl⟩:∃m,n=m+1:=⟨n - 1,by simp at hn;omega⟩;have hk:=h k List.mem_cons_self;have hp:=zsb (zrh hk) (zqe _ (zrh hk)) (ks.flatMap moB);rw[List.flatMap_cons,List.map_cons]
  obtain⟨c,B,hB⟩:∃c B,moB k=c::B:=by
   have:=(zn7 k hk).1;cases hb:moB k with
   | nil=>rw[hb] at this;simp at this
   | cons c B=>exact⟨c,B,rfl⟩
  have e:moB k++ks.flatMap moB=c::(B++ks.flatMap moB):=by rw[hB];rfl
  simp only at hp;rw[e] at hp ⊢;rw[sc,hp];simp only;rw[<- e,List.drop_left,zs3 ks m (fun z hz=>h z (List.mem_cons_of_mem _ hz)) (by simp at hn;omega)];rfl
theorem zsh (ks:List Nat)(h:∀k∈ks,k<26):(ks.map moA).flatMap (by1 moF)=ks.flatMap moB:=by
 induction ks with
 | nil=>rfl
 | cons k ks ih=>rw[List.map_cons,List.flatMap_cons,List.flatMap_cons,ztp k (h k List.mem_cons_self),ih fun z hz=>h z (List.mem_cons_of_mem _ hz)]
theorem zcw (ks:List Nat)(h:∀k∈ks,k<26):ks.length<=(ks.flatMap moB).length/\(ks.flatMap moB).length<=5*ks.length:=by
 induction ks with
 | nil=>simp
 | cons k ks ih =>
  have h1:=zn7 k (h k List.mem_cons_self);have h2:=ih fun z hz=>h z (List.mem_cons_of_mem _ hz)
  rw[List.flatMap_cons,List.length_append,List.length_cons];omega
theorem zfx {ks:List Nat}(h:∀k∈ks,k<26):(∀z∈ks.map moA,M.right z=true)/\∀z∈ks.flatMap moB,M.right z=true :=
 ⟨fun z hz=>by obtain⟨k,h1,rfl⟩:=List.mem_map.1 hz;exact zes k (h k h1),fun z hz=>by obtain⟨k,h1,h2⟩:=List.mem_flatMap.1 hz;exact zhm k (h k h1) z h2⟩
theorem zte {pl:Cn.Pl}(hpl:Cn.PlOk pl){l:List (List S.Sp×List Int)}(hr:(K.rulesF (l.map r1)).1=0)(hed:(J.edgesL (l.map r1)).length<=400)(hl:∀x∈l,x.2.length<=5)
  {t:List Int} (ht:t.length<=500) (hR:∀z∈t,M.right z=true):Cn.goF pl (oneS (l.map r1)) t=(t.flatMap (by1 l),0,0):=by
 have h:∀done r rest,(K.which (l.map r1) (done++r::rest) done.length= -1/\by1 l r= [r])∨∃(j:Nat) (x:K.Rule),K.which (l.map r1) (done++r::rest) done.length=(j:Int)/\(l.map r1)[j]?=some x/\x.source.length=1/\x.cursor=x.target.length/\x.target.length<=5/\by1 l r=x.target:=fun done r rest=>by
  rcases zrr done r rest l 0 with ⟨h1,h2⟩|⟨j,x,h1,h2,h3⟩
  ·exact .inl ⟨h1,by unfold by1;rw[h2];rfl⟩
  ·refine .inr ⟨j,r1 x,by unfold K.which;rw[h1,Nat.zero_add],by rw[List.getElem?_map,h2];rfl,rfl,rfl,hl x (List.mem_of_getElem? h2),by unfold by1;rw[h3];rfl⟩
 obtain⟨s,p,hp⟩:=zr9 (f:=fun _ r _=>by1 l r) (m:=5) (by omega) h t (8*t.length+40) [] 0 0 (by omega) (by simp;omega);have h2:=zri hpl hr hed ⟨by omega,by unfold K.allR;rw[List.all_eq_true];exact hR⟩ hp;rw[h2,zts];rfl
theorem ztb {pl:Cn.Pl}(hpl:Cn.PlOk pl){l:List Sr}(hl:∀x∈l,1<=x.1.length/\x.2.length<=x.1.length)(hr:(K.rulesF (l.map rl)).1=0)(hed:(J.edgesL (l.map rl)).length<=400){t:List Int}(ht:t.length<=4000)(hR:∀z∈t,M.right z=true):Cn.goF pl (oneS (l.map rl)) t=(sc l (8*t.length+40) t,0,0):=by
 obtain⟨s,p,hp⟩:=zr8 hl (8*t.length+40) t [] 0 0 (by omega) (by simp;omega);exact zri hpl hr hed ⟨by omega,by unfold K.allR;rw[List.all_eq_true];exact hR⟩ hp
theorem ztd {pl:Cn.Pl}(hpl:Cn.PlOk pl){ks:List Nat}(h:∀k∈ks,k<26)(hn:ks.length<=500):Cn.goF pl (oneS (moF.map r1)) (ks.map moA)=(ks.flatMap moB,0,0):=by
 rw[zte hpl (by decide +kernel) (by decide +kernel) (by decide +kernel) (by simpa using hn) (zfx h).1,zsh ks h]
theorem ztc {pl:Cn.Pl}(hpl:Cn.PlOk pl){ks:List Nat}(h:∀k∈ks,k<26)(hn:ks.length<=500):Cn.goF pl (oneS (moR.map rl)) (ks.flatMap moB)=(ks.map moA,0,0):=by
 have h1:=zcw ks h;rw[ztb hpl ztq (by decide +kernel) (by decide +kernel) (by omega) (zfx h).2,zs3 ks _ h (by omega)]
end Go.Proofs.YteagjpnbiceafaaGreatDoor.Sh
namespace Go.Proofs.YteagjpnbiceafaaGreatDoor.Sh
open Go.RowKit
set_option maxRecDepth 40000
def uMorse:List Int:= [97,32,60,62,32,39,46,45,32,39,32,59,10,98,32,60,62,32,39,45,46,46,46,32,39,32,59,10,99,32,60,62,32,39,45,46,45,46,32,39,32,59,10,100,32,60,62,32,39,45,46,46,32,39,32,59,10,101,32,60,62,32,39,46,32,39,32,59,10,102,32,60,62,32,39,46,46,45,46,32,39,32,59,10,103,32,60,62,32,39,45,45,46,32,39,32,59,10,104,32,60,62,32,39,46,46,46,46,32,39,32,59,10,105,32,60,62,32,39,46,46,32,39,32,59,10,106,32,60,62,32,39,46,45,45,45,32,39,32,59,10,107,32,60,62,32,39,45,46,45,32,39,32,59,10,108,32,60,62,32,39,46,45,46,46,32,39,32,59,10,109,32,60,62,32,39,45,45,32,39,32,59,10,110,32,60,62,32,39,45,46,32,39,32,59,10,111,32,60,62,32,39,45,45,45,32,39,32,59,10,112,32,60,62,32,39,46,45,45,46,32,39,32,59,10,113,32,60,62,32,39,45,45,46,45,32,39,32,59,10,114,32,60,62,32,39,46,45,46,32,39,32,59,10,115,32,60,62,32,39,46,46,46,32,39,32,59,10,116,32,60,62,32,39,45,32,39,32,59,10,117,32,60,62,32,39,46,46,45,32,39,32,59,10,118,32,60,62,32,39,46,46,46,45,32,39,32,59,10,119,32,60,62,32,39,46,45,45,32,39,32,59,10,120,32,60,62,32,39,45,46,46,45,32,39,32,59,10,121,32,60,62,32,39,45,46,45,45,32,39,32,59,10,122,32,60,62,32,39,45,45,46,46,32,39,32,59,10]
theorem zs2:Scr nMorse (oneS (moF.map r1)):=by
 have hx:M.rn tMorse=uMorse:=by
  have h:=T.zgl (l:=uMorse) (by unfold T.rightL;decide +kernel);have e:T.bytesR uMorse=tMorse.data.toList:=by decide +kernel
  rw[e] at h;exact h
 have key:(match R.read uMorse with | .ok l _=>V.forthF l | .bad _ _=>(oneS (moF.map r1),1,1))=(oneS (moF.map r1),0,0):=by kernel_rfl
 cases h:R.read uMorse with
 | ok l q=>rw[h] at key;exact⟨tMorse,l,q,by decide +kernel,by decide,by rw[hx];exact h,key⟩
 | bad e q=>rw[h] at key;simp at key
theorem zr0:ScrB nMorse (oneS (moR.map rl)):=by
 have hx:M.rn tMorse=uMorse:=by
  have h:=T.zgl (l:=uMorse) (by unfold T.rightL;decide +kernel);have e:T.bytesR uMorse=tMorse.data.toList:=by decide +kernel
  rw[e] at h;exact h
 have key:(match R.read uMorse with | .ok l _=>V.backF l | .bad _ _=>(oneS (moR.map rl),1,1))=(oneS (moR.map rl),0,0):=by kernel_rfl
 cases h:R.read uMorse with
 | ok l q=>rw[h] at key;exact⟨tMorse,l,q,by decide +kernel,by decide,by rw[hx];exact h,key⟩
 | bad e q=>rw[h] at key;simp at key
end Go.Proofs.YteagjpnbiceafaaGreatDoor.Sh
namespace Go.Proofs.YteagjpnbiceafaaGreatDoor
open Go.RowKit Go.Lib
set_option linter.unusedVariables false
theorem Sh.zq3 {k:Nat}(L:List Value)(h:k<L.length)(e:L=Sh.moC.map fun x=>Value.string (runesBytes x)):L[k]=Value.string (runesBytes (Sh.moC.getD k [])):=by
 subst e;have hk:k<Sh.moC.length:=by simpa using h
 rw[List.getElem_map,List.getD_eq_getElem?_getD,List.getElem?_eq_getElem hk];rfl
theorem zlc (k:Nat)(hk:k<26)(w:World):Calls Tryz.prog 24 #[.int .i32 (Sh.moA k)] w fun e w'=>e= .returned (.string (runesBytes (Sh.moC.getD k [])))/\Below w.heap.size w w':=by
 have hm:Sh.moA k=97+(k:Int):=by unfold Sh.moA;omega
 rw[hm];obtain⟨X,hX⟩:∃X,X=runesBytes (Sh.moC.getD k []):=⟨_,rfl⟩;rw[<- hX];have HX:Hid (X=runesBytes (Sh.moC.getD k [])):=hX;clear hX hm
 go_enter Tryz.func24,Tryz.ntmps24
 go_wp2;go_ret
 refine⟨?_,(qR w).alloc qN _⟩;rw[HX.out];refine congrArg Ending.returned ?_;show (_:List Value)[k]'_=_;exact Sh.zq3 _ _ (by kernel_rfl)
theorem Sh.zju (A:ByteArray)(c:List Int):A++runesBytes c++ { data:=#[32] }=A++runesBytes (c++ [32]):=by
 rw[Sh.ze4];have e:runesBytes [32]= { data:=#[32] }:=by decide +kernel
 rw[e];apply ByteArray.ext;simp[ByteArray.data_append,Array.append_assoc]
theorem ze8 (hK:T.ClassOk)(w:World)(v:Value)(zs:List Int)(R:L.Rd w v .i64 zs)(hl:zs.length<=140737488355328):Calls Tryz.prog 5 #[v] w fun e w'=>e= .returned (.bool true)/\Below w.heap.size w w':=by
 obtain⟨pl,hpl⟩:=Cn.zsa;obtain⟨ao,cap,rfl,hn,hc⟩:=R;have HC:Hid (zs≠ []->∃b off,ao=some ⟨b,off,none⟩/\∀j z,zs[j]?=some z->w.cell? ⟨b,off+j,none⟩=some (.int .i64 z)):=hc;have HP:Hid (∀X k,k<26->Calls Tryz.prog 23 #[.int .i32 (Sh.moA k)] X fun e w'=>e= .returned (.string (runesBytes [Sh.moA k]))/\Below X.heap.size X w'):=fun X k hk=>zin _ (Sh.zes k hk) X
 have HCo:Hid (∀X k,k<26->Calls Tryz.prog 24 #[.int .i32 (Sh.moA k)] X fun e w'=>e= .returned (.string (runesBytes (Sh.moC.getD k [])))/\Below X.heap.size X w'):=fun X k hk=>zlc k hk X
 have HTu:Hid (∀X (ks:List Nat),(∀k∈ks,k<26)->ks.length<=500->Calls Tryz.prog 25 #[.string { data:=#[109,111,114,115,101] },.string (runesBytes (ks.map Sh.moA)),.string (runesBytes (ks.flatMap Sh.moB))] X fun e w'=>e= .returned (.bool true)/\Below X.heap.size X w'):=fun X ks hk hl=>by
  have h1:=Sh.zfx hk;refine zg8 hK Sh.nMorse _ Sh.zs2 _ (Nat.le_trans (Sh.zbp _ h1.1) (by simp;omega)) pl hpl _ ?_ h1.2 _ rfl X;rw[Sh.znl h1.1];exact Sh.ztd hpl hk hl
 have HTb:Hid (∀X (ks:List Nat),(∀k∈ks,k<26)->ks.length<=500->Calls Tryz.prog 11 #[.string { data:=#[109,111,114,115,101] },.bool true,.string (runesBytes (ks.flatMap Sh.moB))] X fun e w'=>e= .returned (.tuple #[.string (runesBytes (ks.map Sh.moA)),.int .i64 0])/\Below X.heap.size X w'):=fun X ks hk hl=>by
  have h1:=Sh.zfx hk;have h2:=Sh.zcw ks hk;refine zil hK Sh.nMorse _ Sh.zr0 _ (Nat.le_trans (Sh.zbp _ h1.2) (by omega)) pl hpl _ ?_ h1.1 X;rw[Sh.znl h1.2];exact Sh.ztc hpl hk hl
 clear hc
 go_enter Tryz.func5,Tryz.ntmps5
 go_wp2
 go_loopw [3,4,11] (fun vs vt vi wr=>∃(j:Nat) (ks:List Nat),j<=zs.length/\vi= .int .i64 j/\Hid (vs= .string (runesBytes (ks.map Sh.moA))/\vt= .string (runesBytes (ks.flatMap Sh.moB)))/\Hid (ks.length=j/\∀k∈ks,k<26)/\Hid (Below w.heap.size w wr)) (fun _ _ vi _=>zs.length - (intOf vi).toNat)
 case atStart=>exact⟨0,[],Nat.zero_le _,rfl,⟨rfl,rfl⟩,⟨rfl,fun k hk=>by cases hk⟩,qR _⟩
 case round =>
  obtain⟨j,ks,hj,rfl,HV,HK,HB⟩:=hrel;obtain⟨A,hA⟩:∃A,A=runesBytes (ks.map Sh.moA):=⟨_,rfl⟩;obtain⟨B,hB⟩:∃B,B=runesBytes (ks.flatMap Sh.moB):=⟨_,rfl⟩;have hAs:A.size<=4*j:=by have:=Sh.zbp _ (Sh.zfx HK.out.2).1;rw[List.length_map,HK.out.1] at this;rw[hA];exact this
  have hBs:B.size<=20*j:=by have:=Sh.zbp _ (Sh.zfx HK.out.2).2;have:=(Sh.zcw ks HK.out.2).2;have:=HK.out.1;rw[hB];omega
  obtain⟨hv1,hv2⟩:=HV.out;rw[<- hA] at hv1;rw[<- hB] at hv2;subst hv1 hv2;have HAB:Hid (A=runesBytes (ks.map Sh.moA)/\B=runesBytes (ks.flatMap Sh.moB)):=⟨hA,hB⟩;clear HV hA hB
  by_cases hlt:j<zs.length
  ·obtain⟨r,hr⟩:∃x,zs[j]?=some x:=⟨zs[j],by simp[hlt]⟩;obtain⟨b,off,rfl,hcell⟩:=HC.out (by intro h;subst h;simp at hlt);have c0:=hcell j r hr;rw[<- HB.out.cell (p:=⟨b,off+j,none⟩) (L.block_lt c0)] at c0;clear hr hcell
   by_cases h0:r<0
   ·clear HTu HTb HP HCo;go_wp2;go_ret;exact⟨rfl,HB.out⟩
   ·by_cases h25:25<r
    ·clear HTu HTb HP HCo;go_wp2;go_ret;exact⟨rfl,HB.out⟩
    ·obtain⟨k,rfl⟩:∃k:Nat,r=(k:Int):=⟨r.toNat,by omega⟩;have hk:k<26:=by omega
     have hm:Sh.moA k=97+(k:Int):=by unfold Sh.moA;omega
     have hP:=HP.out;have hCo:=HCo.out;have hb1:(runesBytes [Sh.moA k]).size<=4:=by have:=Sh.zbp [Sh.moA k] (fun z hz=>by simp at hz;subst hz;exact Sh.zes k hk);simpa using this
     have hb2:(runesBytes (Sh.moC.getD k [])).size<=20:=by
      have h1:=(Sh.zn7 k hk).2;have h2:∀z∈Sh.moC.getD k [],M.right z=true:=fun z hz=>Sh.zhm k hk z (by unfold Sh.moB;exact List.mem_append_left _ hz)
      have:=Sh.zbp _ h2;unfold Sh.moB at h1;rw[List.length_append] at h1;omega
     have HN:Hid (A++runesBytes [Sh.moA k]=runesBytes ((ks++ [k]).map Sh.moA)/\B++runesBytes (Sh.moC.getD k [])++ { data:=#[32] }=runesBytes ((ks++ [k]).flatMap Sh.moB)):=by
      refine⟨?_,?_⟩
      ·rw[HAB.out.1,List.map_append,Sh.ze4];rfl
      ·have e:(ks++ [k]).flatMap Sh.moB=ks.flatMap Sh.moB++(Sh.moC.getD k []++ [32]):=by rw[List.flatMap_append];simp[Sh.moB]
       rw[e,Sh.zju,HAB.out.2,Sh.ze4 (ks.flatMap Sh.moB)]
     have hP1:Hid (∀X,Calls Tryz.prog 23 #[.int .i32 (97+(k:Int))] X fun e w'=>e= .returned (.string (runesBytes [Sh.moA k]))/\Below X.heap.size X w'):=fun X=>by
      have h:=HP.out X k hk;rw[hm] at h ⊢;exact h
     have hC1:Hid (∀X,Calls Tryz.prog 24 #[.int .i32 (97+(k:Int))] X fun e w'=>e= .returned (.string (runesBytes (Sh.moC.getD k [])))/\Below X.heap.size X w'):=fun X=>by
      have h:=HCo.out X k hk;rw[hm] at h;exact h
     obtain⟨U,hU⟩:∃U,U=runesBytes [Sh.moA k]:=⟨_,rfl⟩;obtain⟨Vv,hV⟩:∃V,V=runesBytes (Sh.moC.getD k []):=⟨_,rfl⟩;rw[<- hU] at hP1 hb1 HN;rw[<- hV] at hC1 hb2 HN;clear hU hV hm hP hCo HTu HTb HP HCo
     go_wp2_with fail
     refine(hP1.out _).mono ?_;rintro e w1 ⟨rfl,b1⟩;have HB1:Hid (Below w.heap.size w w1):=HB.out.trans (b1.mono HB.out.size);clear b1 hP1
     go_wp2_with fail
     refine(hC1.out _).mono ?_;rintro e w2 ⟨rfl,b2⟩;have HB2:Hid (Below w.heap.size w w2):=HB1.out.trans (b2.mono HB1.out.size);clear b2 hC1;go_wp2
     go_roundw
     case rel=>exact⟨j+1,ks++ [k],by omega,by go_num,⟨by rw[HN.out.1],by rw[HN.out.2]⟩,⟨by have:=HK.out.1;simp;omega,fun z hz=>(List.mem_append.1 hz).elim (HK.out.2 z) fun h=>by simp at h;omega⟩,HB2⟩
     case measure=>simp[intOf];omega
  ·by_cases h5:500<zs.length
   ·clear HTu HTb HP HCo;go_wp2;go_ret;exact⟨rfl,HB.out⟩
   ·have hks:ks.length<=500:=by have:=HK.out.1;omega
    have hT1:Hid (∀X,Calls Tryz.prog 11 #[.string { data:=#[109,111,114,115,101] },.bool true,.string B] X fun e w'=>e= .returned (.tuple #[.string A,.int .i64 0])/\Below X.heap.size X w'):=fun X=>by
     have h:=HTb.out X ks HK.out.2 hks;rw[<- HAB.out.1,<- HAB.out.2] at h;exact h
    have hT2:Hid (∀X,Calls Tryz.prog 25 #[.string { data:=#[109,111,114,115,101] },.string A,.string B] X fun e w'=>e= .returned (.bool true)/\Below X.heap.size X w'):=fun X=>by
     have h:=HTu.out X ks HK.out.2 hks;rw[<- HAB.out.1,<- HAB.out.2] at h;exact h
    clear HTu HTb HP HCo HAB hks
    go_wp2_with fail
    refine(hT1.out _).mono ?_;rintro e w1 ⟨rfl,b1⟩;have HB1:Hid (Below w.heap.size w w1):=HB.out.trans (b1.mono HB.out.size);clear b1 hT1
    go_wp2_with fail
    refine(hT2.out _).mono ?_;rintro e w2 ⟨rfl,b2⟩;have HB2:Hid (Below w.heap.size w w2):=HB1.out.trans (b2.mono HB1.out.size);clear b2 hT2;go_wp2;go_ret;exact⟨L.zak (by simp),HB2.out⟩
end Go.Proofs.YteagjpnbiceafaaGreatDoor
namespace Go.Proofs.YteagjpnbiceafaaGreatDoor
open Go.RowKit
def T.Cls (w:World) (b:Nat) (ents:List (ByteArray×List S.Sp)):Prop :=
 ∃(es:Array MapEntry) (clock:Nat),w.heap[b]?=some (.map es clock)/\es.toList.length=ents.length/\∀(i:Nat) (e:MapEntry) (x:ByteArray×List S.Sp),es.toList[i]?=some e->ents[i]?=some x->e.key= .string x.1/\S.Rd w e.val x.2
theorem zsu (w:World):T.Cls (w.alloc (.map #[] 0)) w.heap.size []:=⟨#[],0,heap_alloc_new w _,rfl,fun i e x h=>by simp at h⟩
theorem za1 {w w':World}{b:Nat}{ents:List (ByteArray×List S.Sp)}(h:T.Cls w b ents)(hb:Below w.heap.size w w'):T.Cls w' b ents:=by
 obtain⟨es,clock,h1,h2,h3⟩:=h;exact⟨es,clock,by rw[hb.block b (qA.1 h1).1];exact h1,h2,fun i e x he hx=>⟨(h3 i e x he hx).1,(h3 i e x he hx).2.below hb qN⟩⟩
theorem ze1 (s:ByteArray):∀(l:List MapEntry) (i:Nat),(∀e∈l,∃t,e.key= .string t/\t≠s)->Instr.findNow .string (.string s) l i=some none
 | [],_,_=>rfl
 | e::l,i,h=>by
  obtain⟨t,ht,hne⟩:=h e (by simp)
  have hb:(s==t)=false:=by
   apply Bool.eq_false_iff.2;intro hh;exact hne ((MapKept.bytes_beq _ _).1 hh).symm
  simp only[Instr.findNow,ht,Instr.sameNow,hb];exact ze1 s l (i+1) fun e' he'=>h e' (by simp[he'])
theorem zhz (s:ByteArray):∀(l:List MapEntry) (i:Nat),(∀e∈l,∃t,e.key= .string t)->(∃e∈l,e.key= .string s)->∃j e,Instr.findNow .string (.string s) l i=some (some (j,e.val))/\e∈l/\e.key= .string s
 | [],_,_,h=>by obtain⟨e,he,_⟩:=h;simp at he
 | e::l,i,hk,h=>by
  obtain⟨t,ht⟩:=hk e (by simp)
  by_cases hst:s=t
  ·subst hst;exact⟨i,e,by simp only[Instr.findNow,ht,Instr.sameNow,(MapKept.bytes_beq s s).2 rfl],by simp,ht⟩
  ·have hb:(s==t)=false:=by
    apply Bool.eq_false_iff.2;intro hh;exact hst ((MapKept.bytes_beq _ _).1 hh)
   obtain⟨e0,he0,hk0⟩:=h
   have hm:e0∈l:=by
    rcases List.mem_cons.1 he0 with rfl | hm
    ·rw[ht] at hk0;cases hk0;exact absurd rfl hst
    ·exact hm
   obtain⟨j,e1,h1,h2,h3⟩:=zhz s l (i+1) (fun x hx=>hk x (by simp[hx])) ⟨e0,hm,hk0⟩;exact⟨j,e1,by simp only[Instr.findNow,ht,Instr.sameNow,hb];exact h1,by simp[h2],h3⟩
theorem za8 {w w':World}{v:Value}{s:List S.Sp}{b:Nat}{es:Array MapEntry}{clock:Nat}(R:S.Rd w v s)(hb:w.heap[b]?=some (.map es clock))(hg:w.grownBy w' (some b)):S.Rd w' v s:=by
 obtain⟨vo,vc,rfl,hn,h⟩:=R;refine⟨vo,vc,rfl,hn,fun hz=> ?_⟩;obtain⟨g,off,rfl,hcl⟩:=h hz;refine⟨g,off,rfl,fun j x hj=> ?_⟩;have h1:=hcl j x hj
 have hne:g≠b:=by
  intro e;subst e;have:=h1.1;rw[World.cell?] at this;simp[hb] at this
 constructor
 ·rw[World.cell?_of_block (a:=⟨g,off+j*2,none⟩) (hg.block g (L.block_lt h1.1) (by simp[hne]))];exact h1.1
 ·rw[World.cell?_of_block (a:=⟨g,off+j*2+1,none⟩) (hg.block g (L.block_lt h1.2) (by simp[hne]))];exact h1.2
theorem zmd {w:World}{b:Nat}{ents:List (ByteArray×List S.Sp)}(h:T.Cls w b ents)(s:ByteArray)(v:Value)(sp:List S.Sp)(hnew:∀x∈ents,x.1≠s)(R:S.Rd w v sp) :
  ∃w',(Instr.mapUpdate 70 (.map (some b)) (.string s) v).run Tryz.prog w= .ok () w'/\T.Cls w' b (ents++ [(s,sp)])/\w.grownBy w' (some b):=by
 obtain⟨es,clock,h1,h2,h3⟩:=h
 have hkeys:∀e∈es.toList,∃t,e.key= .string t/\t≠s:=by
  intro e he;obtain⟨i,hi⟩:=List.getElem?_of_mem he;have hlt:i<ents.length:=by rw[<- h2];exact(qL.1 hi).1
  have hx:=h3 i e ents[i] hi (by simp[hlt]);exact⟨_,hx.1,hnew _ (List.getElem_mem _)⟩
 have hf:=ze1 s es.toList 0 hkeys;have hlt:b<w.heap.size:=(qA.1 h1).1
 have hg:w.grownBy ({ w with heap:=w.heap.setIfInBounds b (.map (es.push { key:= .string s,val:=v,born:=clock }) (clock+1)) }:World) (some b):=⟨rfl,rfl,rfl,by simp,fun i _ hi=>by
  have hne:b≠i:=fun e=>hi (by rw[e])
  simp[hne]⟩
 refine⟨({ w with heap:=w.heap.setIfInBounds b (.map (es.push { key:= .string s,val:=v,born:=clock }) (clock+1)) }:World),?_,⟨es.push { key:= .string s,val:=v,born:=clock },clock+1,?_,?_,?_⟩,hg⟩
 ·simp[Instr.mapUpdate,run_underlying Tryz.underlying70,MapKept.run_getObj_map h1,MapKept.run_checkKey (kt:=9) Tryz.underlying9 (show MapKept.IsKey .string (.string s) from trivial),MapKept.run_findKey (kt:=9) Tryz.underlying9 hf,MapKept.run_setObj_map _ h1,Result.andThen]
 ·simp[hlt]
 ·simp;simpa using h2
 ·intro i e x he hx;have hl:es.size=ents.length:=by simpa using h2
  rw[Array.toList_push] at he
  by_cases hi:i<ents.length
  ·rw[List.getElem?_append_left (by simpa [hl] using hi)] at he;rw[List.getElem?_append_left hi] at hx;have:=h3 i e x he hx;exact⟨this.1,za8 this.2 h1 hg⟩
  ·have hi2:i=ents.length:=by
    have:=(qL.1 hx).1;simp at this;omega
   subst hi2;rw[<- h2] at he;rw[List.getElem?_append_right qN] at he hx;simp at he hx;subst he hx;exact⟨rfl,za8 R h1 hg⟩
theorem zmc {w:World}{b:Nat}{ents:List (ByteArray×List S.Sp)}(h:T.Cls w b ents)(s:ByteArray) :
  (∃v x,x∈ents/\x.1=s/\S.Rd w v x.2/\(Instr.lookup 70 (.map (some b)) (.string s) true).run Tryz.prog w= .ok (.tuple #[v,.bool true]) w) ∨
  ((∀x∈ents,x.1≠s)/\(Instr.lookup 70 (.map (some b)) (.string s) true).run Tryz.prog w= .ok (.tuple #[.slice none 0 0,.bool false]) w):=by
 obtain⟨es,clock,h1,h2,h3⟩:=h
 have hkey:∀e∈es.toList,∃x∈ents,e.key= .string x.1/\S.Rd w e.val x.2:=by
  intro e he;obtain⟨i,hi⟩:=List.getElem?_of_mem he;have hlt:i<ents.length:=by rw[<- h2];exact(qL.1 hi).1
  have hx:=h3 i e ents[i] hi (by simp[hlt]);exact⟨_,List.getElem_mem _,hx.1,hx.2⟩
 by_cases hs:∃x∈ents,x.1=s
 ·left
  obtain⟨x,hx,hxs⟩:=hs
  have hex:∃e∈es.toList,e.key= .string s:=by
   obtain⟨i,hi⟩:=List.getElem?_of_mem hx;have hlt:i<es.toList.length:=by rw[h2];exact(qL.1 hi).1
   have:=h3 i es.toList[i] x (by simp) hi;exact⟨_,List.getElem_mem _,by rw[this.1,hxs]⟩
  obtain⟨j,e,hf,hm,hk⟩:=zhz s es.toList 0 (fun e he=>by obtain⟨x,_,h,_⟩:=hkey e he;exact⟨_,h⟩) hex;obtain⟨y,hy,hyk,hR⟩:=hkey e hm;rw[hk] at hyk;cases hyk;refine⟨e.val,y,hy,rfl,hR,?_⟩;simp[Instr.lookup,run_underlying Tryz.underlying70,MapKept.run_getObj_map h1,MapKept.run_checkKey (kt:=9) Tryz.underlying9 (show MapKept.IsKey .string (.string y.1) from trivial),MapKept.run_findKey (kt:=9) Tryz.underlying9 hf,Result.andThen]
 ·right
  refine⟨fun x hx e=>hs ⟨x,hx,e⟩,?_⟩
  have hf:=ze1 s es.toList 0 fun e he=>by
   obtain⟨x,hx,hk,_⟩:=hkey e he;exact⟨x.1,hk,fun e=>hs ⟨x,hx,e⟩⟩
  have hz:=Tryz.zeroValue27;simp[Instr.lookup,run_underlying Tryz.underlying70,MapKept.run_getObj_map h1,MapKept.run_checkKey (kt:=9) Tryz.underlying9 (show MapKept.IsKey .string (.string s) from trivial),MapKept.run_findKey (kt:=9) Tryz.underlying9 hf,Result.andThen,hz]
theorem zp2 (w:World)(sp:List S.Sp)(C:Array Value)(hC:C=(S.cellsOf sp).toArray)(n:Nat)(hn:n=sp.length)(c:Nat):S.Rd (w.alloc (.cells C 116)) (.slice (some ⟨w.heap.size,0,none⟩) n c) sp:=by
 subst hC hn;refine⟨_,c,rfl,(fun h=>by cases h),fun _=>⟨w.heap.size,0,rfl,fun j x hj=> ?_⟩⟩;have hg:=S.zce hj;rw[World.cell?_alloc_at _ _ _ _ rfl,World.cell?_alloc_at _ _ _ _ rfl];simp only[Nat.zero_add];exact⟨by simpa using hg.1,by simpa using hg.2⟩
end Go.Proofs.YteagjpnbiceafaaGreatDoor
