/-
 What a file of the shelf makes of a text, forth: shelf.Turn.
-/
import Derived.Test.YteagjpnbiceafaaGreatDoorTpGo
import Derived.Deep.DeepCutAuto
import Derived.Deep.RegionHeld3
import Derived.Laws.Cover4
import Derived.Test.YteagjpnbiceafaaGreatDoorTRight
import Derived.Test.YteagjpnbiceafaaGreatDoorTMath
import Derived.Deep.QuietTactic
import Derived.BigQuiet
import Derived.Laws.IdiomStrings
set_option maxHeartbeats 0
set_option maxRecDepth 20000
set_option linter.unusedSimpArgs false
set_option linter.unusedVariables false
namespace Go.Proofs.YteagjpnbiceafaaGreatDoor
open Go.RowKit Go.Lib
def Sh.Scr (name:ByteArray) (sc:V.Script):Prop:=∃t l q,Sh.textF name=(t,0)/\t.size<=1099511627776/\R.read (M.rn t)= .ok l q/\V.forthF l=(sc,0,0)
theorem zg9 (hK:T.ClassOk)(name:ByteArray)(sc:V.Script)(h0:Sh.Scr name sc)(s:ByteArray)(hs:s.size<=1099511627776)(pl:Cn.Pl)(hpl:Cn.PlOk pl)(out:List Int)(hgo:Cn.goF pl sc (M.rn s)=(out,0,0))(hall:∀z∈out,M.right z=true)(w:World) :
  Calls Tryz.prog 11 #[.string name,.bool false,.string s] w fun e w'=>e= .returned (.tuple #[.string (runesBytes out),.int .i64 0])/\Below w.heap.size w w':=by
 obtain⟨t,l,q,ht,hsz,hr,hf⟩:=h0;have HS:Hid (Calls Tryz.prog 10 #[.string name,.bool false] w fun e w'=>∃v',e= .returned (.tuple #[v',.int .i64 0])/\V.ScIs w' v' sc/\Below w.heap.size w w'):=ze9 hK name t l q sc ht hsz hr hf w;have hfit:S.Fit sc.only:=by have h:=Tp.zon l;rw[hf] at h;exact h
 have hol:out.length<=16000000:=by have h:=Tp.zrj hpl sc (M.rn s);rw[hgo] at h;exact h
 have hnl:(M.rn s).length<=1099511627776:=Nat.le_trans (M.zhb s) hs;have HEn:Hid (∀X v,L.Rd X v .i32 out->Calls Tryz.prog 31 #[v] X fun e w'=>e= .returned (.tuple #[.string (runesBytes out),.int .i64 0])/\w'=X):=fun X v hv=>zf2 X v out hv (by omega) hall
 have HDe:Hid (∀X,Calls Tryz.prog 30 #[.string s] X fun e w'=>∃xo xc,e= .returned (.slice xo (M.rn s).length xc)/\L.Rd w' (.slice xo (M.rn s).length xc) .i32 (M.rn s)/\(M.rn s).length<=xc/\Below X.heap.size X w'):=fun X=>Tp.decode s hs X
 have HG0:Hid (∀X v xo xc,V.ScIs X v sc->L.Rd X (.slice xo (M.rn s).length xc) .i32 (M.rn s)->(M.rn s).length<=xc->Calls Tryz.prog 21 #[v,.slice xo (M.rn s).length xc] X fun e w'=>∃v',e= .returned (.tuple #[v',.agg #[.int .i64 0,.int .i64 0]])/\L.Rd w' v' .i32 out/\Below X.heap.size X w'):=fun X v xo xc hv hd hc=>by
  have h:=zo4 pl hpl X v sc hv hfit xo xc (M.rn s) hd hc (by omega);rw[hgo] at h;exact h
 clear ht hsz hr hf hgo hall hfit hnl;generalize M.rn s=tx at HDe HG0
 go_enter Tryz.func11,Tryz.ntmps11
 go_wp2_with fail
 refine HS.out.mono ?_;clear HS;rintro e w1 ⟨v1,rfl,hSc,b1⟩;obtain⟨oo,oc,po,pc,hv1,_⟩:=id hSc;subst hv1;obtain⟨Z,hZ⟩:∃Z,Z=w1.alloc (.cells #[.bool sc.has,.slice oo sc.only.length oc,.slice po sc.passes.length pc] 30):=⟨_,rfl⟩;have k4:=K.zay (w:=w1) (qR (w1.alloc (.cells #[.bool sc.has,.slice oo sc.only.length oc,.slice po sc.passes.length pc] 30)));rw[<- hZ] at k4;have HZ:Hid (Below w.heap.size w Z):=b1.trans (k4.2.1.mono b1.size);have HAtz:Hid (Tp.At Z Z w1.heap.size (.bool sc.has) (.slice oo sc.only.length oc) (.slice po sc.passes.length pc)):=⟨qR _,K.zaf (i:=0) k4.1 rfl,K.zaf (i:=1) k4.1 rfl,K.zaf (i:=2) k4.1 rfl⟩;have hsb:w1.heap.size<Z.heap.size:=lt_of_block k4.1;have HScZ:Hid (V.ScIs Z (.agg #[.bool sc.has,.slice oo sc.only.length oc,.slice po sc.passes.length pc]) sc):=hSc.below k4.2.1;have HGo:Hid (∀X xo xc,Tp.At Z X w1.heap.size (.bool sc.has) (.slice oo sc.only.length oc) (.slice po sc.passes.length pc)->L.Rd X (.slice xo tx.length xc) .i32 tx->tx.length<=xc->Calls Tryz.prog 21 #[.agg #[.bool sc.has,.slice oo sc.only.length oc,.slice po sc.passes.length pc],.slice xo tx.length xc] X fun e w'=>∃v',e= .returned (.tuple #[v',.agg #[.int .i64 0,.int .i64 0]])/\L.Rd w' v' .i32 out/\Below X.heap.size X w'):=fun X xo xc hX hd hc=>HG0.out X _ xo xc (HScZ.out.below hX.1) hd hc
 clear k4 hSc b1 HG0
 go_upto_region 4 with fail
 rw[<- hZ];clear hZ;have HKz:Hid (Tp.At Z Z.drew (w1.heap.size) (.bool sc.has) (.slice oo sc.only.length oc) (.slice po sc.passes.length pc)):=HAtz.out.drew;have HKDz:Hid (∀o,Tp.At Z (Z.alloc o).drew (w1.heap.size) (.bool sc.has) (.slice oo sc.only.length oc) (.slice po sc.passes.length pc)):=fun o=>(HAtz.out.alloc o).drew
 go_cut [10,11] (fun va vf wx=>Hid (Tp.Got Z wx va vf (out,0,0)))
 case first =>
  go_region_held3 (fun w'=>Below Z.heap.size Z w'/\w'.cell? ⟨w1.heap.size,0,none⟩=some (.bool sc.has)/\w'.cell? ⟨w1.heap.size,1,none⟩=some (.slice oo sc.only.length oc)/\w'.cell? ⟨w1.heap.size,2,none⟩=some (.slice po sc.passes.length pc))
   (first | with_reducible exact HKz.out | with_reducible exact k2 | with_reducible exact k1 | with_reducible exact k2.alloc _ | with_reducible exact k1.alloc _ | with_reducible exact HKz.out.alloc _ | with_reducible exact HKDz.out _ | with_reducible exact Tp.At.set2 k2 hsb k1.1.size _ _ | with_reducible exact Tp.At.set2 k2 hsb qN _ _ | fail)
   (first
    | (have hy:=k1;clear hy;go_at_call 21;refine(HGo.out _ _ _ (by first | with_reducible exact k1 | with_reducible exact k1.alloc _) (by first | with_reducible exact d1 | with_reducible exact d1.below (Cn.al _ _) qN) hc1).mono ?_;rintro e wd2 ⟨vd2,rfl,d2,z2⟩;have k2:Tp.At Z wd2 (w1.heap.size) (.bool sc.has) (.slice oo sc.only.length oc) (.slice po sc.passes.length pc):=(by first | with_reducible exact k1.below z2 | with_reducible exact(k1.alloc _).below z2);first | (have r2:=K.zae r1 z2;obtain⟨y0,y1,ff0,ff1⟩:=V.box2 r2) | (have r2:=Cn.rb z2;obtain⟨y0,y1,ff0,ff1⟩:=V.box2 r2) | skip)
    | ((fail_if_success (have hy:=k1));go_at_call 30;refine(HDe.out _).mono ?_;rintro e wd1 ⟨xo1,xc1,rfl,d1,hc1,z1⟩;have k1:Tp.At Z wd1 (w1.heap.size) (.bool sc.has) (.slice oo sc.only.length oc) (.slice po sc.passes.length pc):=(by first | with_reducible exact HKz.out.below z1 | with_reducible exact(HKz.out.alloc _).below z1 | with_reducible exact(HKDz.out _).below z1);first | (have r1:=Cn.rbD z1) | skip)
    | fail)
  all_goals
   first
    | (have HM:=Tp.zgu (r1:=0) (r2:=0) k2 hsb d2 r2 (by first | with_reducible exact k1.1.size | with_reducible exact qN))
    | (have HM:=Tp.zgv (r1:=0) (r2:=0) k2 d2)
   clear k2 k1 d2 d1 z2 z1
   go_wp2_with fail
   go_meet
   case rel=>exact HM
 case rest =>
  obtain⟨fb,rfl,hfb,hbox,hrd,hbl⟩:=hcut.out;obtain⟨va,vc,rfl⟩:∃va vc,_=Value.slice va out.length vc:=by obtain⟨a,c,h,_⟩:=hrd;exact⟨a,c,h⟩
  have p3:=K.zaf (i:=0) hbox rfl;have HE:Hid (Below w.heap.size w wc):=HZ.out.trans (hbl.mono HZ.out.size);have hEn:=HEn.out wc _ hrd;clear hcut hbox hrd hbl HGo HDe HKz HKDz HAtz HZ HScZ HEn
  go_wp2_with fail
  refine hEn.mono ?_;clear hEn;rintro e w' ⟨rfl,rfl⟩;go_wp2;refine bodyPost_ret (v:= .tuple #[.string (runesBytes out),.int .i64 0]) (by simp[results,Tryz.results11,go_sem, *]) rfl ?_;exact⟨rfl,HE.out⟩
end Go.Proofs.YteagjpnbiceafaaGreatDoor
namespace Go.Proofs.YteagjpnbiceafaaGreatDoor
open Go.RowKit
def oneR (n c b1 b2 b3:Nat):Nat×Nat:=if M.bad (Lib.decodeN n c b1 b2 b3) then (0,0) else Lib.decodeN n c b1 b2 b3
end Go.Proofs.YteagjpnbiceafaaGreatDoor
namespace Go.Proofs.YteagjpnbiceafaaGreatDoor
open Go.RowKit
def encI (r:Int):List Int:=(M.enc r).map fun b=>(b.toNat:Int)
theorem zou (r:Nat)(h:M.right (r:Int)=true):encI (r:Int) =
  if r<128 then [(r:Int)] else if r<2048 then [192+(r:Int) / 64,128+(r:Int) % 64]
  else if r<65536 then [224+(r:Int) / 4096,128+(r:Int) / 64 % 64,128+(r:Int) % 64]
  else [240+(r:Int) / 262144,128+(r:Int) / 4096 % 64,128+(r:Int) / 64 % 64,128+(r:Int) % 64]:=by
 have hb:=M.zd8 h;unfold encI;rw[M.zdl r h]
 by_cases h1:r<128
 ·rw[if_pos h1,if_pos h1];simp only[List.map_cons,List.map_nil,M.u8 r (by omega)]
 ·rw[if_neg h1,if_neg h1]
  by_cases h2:r<2048
  ·rw[if_pos h2,if_pos h2];simp only[List.map_cons,List.map_nil,M.u8 (192+r / 64) (by omega),M.u8 (128+r % 64) (by omega)];simp
  ·rw[if_neg h2,if_neg h2]
   by_cases h3:r<65536
   ·rw[if_pos h3,if_pos h3];simp only[List.map_cons,List.map_nil,M.u8 (224+r / 4096) (by omega),M.u8 (128+r / 64 % 64) (by omega),M.u8 (128+r % 64) (by omega)];simp
   ·rw[if_neg h3,if_neg h3];simp only[List.map_cons,List.map_nil,M.u8 (240+r / 262144) (by omega),M.u8 (128+r / 4096 % 64) (by omega),M.u8 (128+r / 64 % 64) (by omega),M.u8 (128+r % 64) (by omega)];simp
theorem zfn {x:Int}(h:M.right x=true):0<=x:=by unfold M.right at h;exact(of_decide_eq_true h).1
theorem zj9 (w:World)(k:IntKind)(zs:List Int)(t:TypeId)(C:Array Value)(hC:C=(zs.map (Value.int k)).toArray)(n:Nat)(hn:n=zs.length)(cap:Nat):L.Rd (w.alloc (.cells C t)) (.slice (some ⟨w.heap.size,0,none⟩) n cap) k zs:=by
 subst hC hn;refine⟨_,cap,rfl,fun h=>by simp at h,fun _=>⟨w.heap.size,0,rfl,fun j z hj=> ?_⟩⟩;have h:=World.cell?_alloc_mark w (zs.map (Value.int k)).toArray t (0,0) j;rw[Nat.zero_add];rw[h];simp[hj]
theorem zo5 (r:Nat)(w:World)(h:M.right (r:Int)=true) :
  Calls Tryz.prog 47 #[.int .i32 (r:Int)] w fun e w'=>∃v,e= .returned v/\L.Rd w' v .u8 (encI (r:Int))/\Below w.heap.size w w':=by
 have hb:=M.zd8 h;have HE:Hid _:=zou r h
 by_cases h1:(r:Int)<128
 ·go_enter Tryz.func47,Tryz.ntmps47
  go_wp2;go_ret
  refine⟨.slice (some ⟨w.heap.size,0,none⟩) 1 1,rfl,?_,(qR _).alloc qN _⟩;rw[HE.out,if_pos (by omega)];exact zj9 w .u8 _ 5 _ (by rfl) _ (by rfl) _
 ·by_cases h2:(r:Int)<2048
  ·go_enter Tryz.func47,Tryz.ntmps47
   go_wp2;go_ret
   refine⟨.slice (some ⟨w.heap.size,0,none⟩) 2 2,rfl,?_,(qR _).alloc qN _⟩;rw[HE.out,if_neg (by omega),if_pos (by omega)];exact zj9 w .u8 _ 5 _ (by rfl) _ (by rfl) _
  ·by_cases h3:(r:Int)<65536
   ·go_enter Tryz.func47,Tryz.ntmps47
    go_wp2;go_ret
    refine⟨.slice (some ⟨w.heap.size,0,none⟩) 3 3,rfl,?_,(qR _).alloc qN _⟩;rw[HE.out,if_neg (by omega),if_neg (by omega),if_pos (by omega)];exact zj9 w .u8 _ 5 _ (by rfl) _ (by rfl) _
   ·go_enter Tryz.func47,Tryz.ntmps47
    go_wp2;go_ret
    refine⟨.slice (some ⟨w.heap.size,0,none⟩) 4 4,rfl,?_,(qR _).alloc qN _⟩;rw[HE.out,if_neg (by omega),if_neg (by omega),if_neg (by omega)];exact zj9 w .u8 _ 5 _ (by rfl) _ (by rfl) _
theorem zqz (r:Nat)(h:M.right (r:Int)=true):(encI (r:Int)).length<=4:=by
 rw[zou r h]
 repeat' split
 all_goals simp
theorem zdj:∀zs:List Int,(∀z∈zs,M.right z=true)->(zs.flatMap encI).length<=4*zs.length
 | [],_=>by simp
 | z::zs,h=>by
  have i:=zdj zs (fun x hx=>h x (by simp[hx]));have h0:=h z (by simp);have h1:=zfn h0;obtain⟨r,rfl⟩:∃r:Nat,z=(r:Int):=⟨z.toNat,by omega⟩;have h2:=zqz r h0;rw[List.flatMap_cons,List.length_append,List.length_cons];omega
end Go.Proofs.YteagjpnbiceafaaGreatDoor
namespace Go.Proofs.YteagjpnbiceafaaGreatDoor
open Go.RowKit Go.Lib
theorem zq7 {P:Program}{w:World}{v:Value}{r:Int}(src dst e:TypeId)
  (hs:P.underlying src=some (.slice e)) (he:P.underlying e=some (.int .u8)) (hd:P.underlying dst=some .string)
  (h:L.Rd w v .u8 (encI r)):∃ao n cap,v= .slice ao n cap/\(convert src dst (.slice ao n cap)).run P w= .ok (.string (runesBytes [r])) w:=by
 have hbytes:runesBytes [r]=⟨(M.enc r).toArray⟩:=by
  apply ByteArray.ext;apply Array.toList_inj.1;rw[zaq];simp
 obtain⟨ao,cap,rfl,hn,hc⟩:=h;refine⟨ao,_,cap,rfl,?_⟩;rw[hbytes];unfold encI at hc ⊢;generalize M.enc r=l at hc ⊢;cases ao with
 | none =>
  have h0:l= []:=by
   cases l with
   | nil=>rfl
   | cons z l=>obtain⟨b,off,h,_⟩:=hc (by simp);simp at h
  subst h0;rw[run_convert_bytes_string w src dst e none _ cap hs he hd];rfl
 | some ad =>
  have:=run_convert_bytes_back (P:=P) w src dst e ad cap l hs he hd (fun j hj=>by
   obtain⟨b,off,hao,hcell⟩:=hc (by intro h;simp at h;subst h;simp at hj);simp at hao;subst hao;rw[L.addr_add]
   exact hcell j _ (by simp[hj]))
  simpa using this
namespace Sh
theorem ze4 (a b:List Int):runesBytes (a++b)=runesBytes a++runesBytes b:=by
 apply ByteArray.ext;apply Array.toList_inj.1;rw[ByteArray.data_append,Array.toList_append,zaq,zaq,zaq,List.flatMap_append]
theorem zbp (l:List Int)(h:∀z∈l,M.right z=true):(runesBytes l).size<=4*l.length:=by
 have e:(runesBytes l).size=(l.flatMap encI).length:=by
  have h1:(runesBytes l).size=(runesBytes l).data.toList.length:=by rw[Array.length_toList];rfl
  have h2:l.flatMap encI=(l.flatMap fun z=>M.enc z).map fun b=>(b.toNat:Int):=by rw[List.map_flatMap];rfl
  rw[h1,zaq,h2,List.length_map]
 rw[e];exact zdj l h
theorem znl {l:List Int}(h:∀z∈l,M.right z=true):M.rn (runesBytes l)=l:=by
 have e:runesBytes l=⟨(T.bytesR l).toArray⟩:=by
  apply ByteArray.ext;apply Array.toList_inj.1;rw[zaq];rfl
 rw[e];exact T.zgl h
end Sh
theorem zin (r:Int)(h:M.right r=true)(w:World):Calls Tryz.prog 23 #[.int .i32 r] w fun e w'=>e= .returned (.string (runesBytes [r]))/\Below w.heap.size w w':=by
 have h0:=zfn h;obtain⟨n,rfl⟩:∃n:Nat,r=(n:Int):=⟨r.toNat,by omega⟩;have HB:Hid (Calls Tryz.prog 47 #[.int .i32 (n:Int)] w fun e w'=>∃v,e= .returned v/\L.Rd w' v .u8 (encI (n:Int))/\Below w.heap.size w w'):=zo5 n w h;generalize (n:Int)=z at HB;clear h h0
 go_enter Tryz.func23,Tryz.ntmps23
 go_wp2_with fail
 refine HB.out.mono ?_;clear HB;rintro e w1 ⟨v,rfl,hv,b1⟩;obtain⟨ao,k,cap,rfl,hcv⟩:=zq7 (P:=Tryz.prog) 94 9 5 Tryz.underlying94 Tryz.underlying5 Tryz.underlying9 hv;have HB:Hid (Below w.heap.size w w1):=b1;clear hv b1;go_wp2;go_ret;exact⟨rfl,HB.out⟩
theorem zg8 (hK:T.ClassOk)(name:ByteArray)(sc:V.Script)(h0:Sh.Scr name sc)(s:ByteArray)(hs:s.size<=1099511627776)(pl:Cn.Pl)(hpl:Cn.PlOk pl)(out:List Int)(hgo:Cn.goF pl sc (M.rn s)=(out,0,0))(hall:∀z∈out,M.right z=true)(want:ByteArray)(hw:want=runesBytes out)(w:World) :
  Calls Tryz.prog 25 #[.string name,.string s,.string want] w fun e w'=>e= .returned (.bool true)/\Below w.heap.size w w':=by
 have h:=zg9 hK name sc h0 s hs pl hpl out hgo hall w;rw[<- hw] at h;clear hw
 go_enter Tryz.func25,Tryz.ntmps25
 go_wp2_with fail
 refine h.mono ?_;clear h;rintro e w1 ⟨rfl,b1⟩;have HB:Hid (Below w.heap.size w w1):=b1;clear b1;go_wp2;go_ret;exact⟨L.zak (by simp),HB.out⟩
end Go.Proofs.YteagjpnbiceafaaGreatDoor
