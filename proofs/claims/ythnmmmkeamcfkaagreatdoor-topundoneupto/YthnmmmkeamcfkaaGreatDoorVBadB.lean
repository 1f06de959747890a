import Derived.Test.YthnmmmkeamcfkaaGreatDoorCnGo
set_option maxHeartbeats 0
set_option maxRecDepth 20000
set_option linter.unusedSimpArgs false
set_option linter.unusedVariables false
namespace Go.Proofs.YthnmmmkeamcfkaaGreatDoor
open Go.Proofs.Tryz
section
open Go.RowKit Go.Lib
namespace Tp
abbrev At (W X:World) (sb:Nat) (v0 v1 v2:Value):Prop :=
 Below W.heap.size W X/\X.cell? ⟨sb,0,none⟩=some v0/\X.cell? ⟨sb,1,none⟩=some v1/\X.cell? ⟨sb,2,none⟩=some v2
theorem At.below {W X Y:World}{sb:Nat}{v0 v1 v2:Value}(h:At W X sb v0 v1 v2)(hb:Below X.heap.size X Y):At W Y sb v0 v1 v2:=by
 obtain⟨h0,h1,h2,h3⟩:=h;exact⟨h0.trans (hb.mono h0.size),(hb.cell (p:=⟨sb,0,none⟩) (L.block_lt h1)).trans h1,(hb.cell (p:=⟨sb,1,none⟩) (L.block_lt h2)).trans h2,(hb.cell (p:=⟨sb,2,none⟩) (L.block_lt h3)).trans h3⟩
theorem At.alloc {W X:World}{sb:Nat}{v0 v1 v2:Value}(h:At W X sb v0 v1 v2)(o:Obj):At W (X.alloc o) sb v0 v1 v2:=h.below ((qR X).alloc qN o)
theorem At.drew {W X:World}{sb:Nat}{v0 v1 v2:Value}(h:At W X sb v0 v1 v2):At W X.drew sb v0 v1 v2:=h.below (qR X).drew
theorem At.set2 {W X:World}{sb fb:Nat}{v0 v1 v2:Value}(h:At W X sb v0 v1 v2)(hs:sb<W.heap.size)(hb:W.heap.size<=fb)(a b:Value):At W ((X.setCell ⟨fb,0,none⟩ a).setCell ⟨fb,1,none⟩ b) sb v0 v1 v2:=by
 obtain⟨h0,h1,h2,h3⟩:=h
 have c:∀i,((X.setCell ⟨fb,0,none⟩ a).setCell ⟨fb,1,none⟩ b).cell? ⟨sb,i,none⟩=X.cell? ⟨sb,i,none⟩:=fun i=>World.cell?_of_block (a:=⟨sb,i,none⟩) (by
  rw[heap_setCell_other _ ⟨fb,1,none⟩ sb _ (by simp;omega),heap_setCell_other _ ⟨fb,0,none⟩ sb _ (by simp;omega)])
 exact⟨(h0.setCell (p:=⟨fb,0,none⟩) hb _).setCell (p:=⟨fb,1,none⟩) hb _,by rw[c];exact h1,by rw[c];exact h2,by rw[c];exact h3⟩
theorem three (w:World)(o1 o2 o3:Obj):(((w.alloc o1).alloc o2).alloc o3).heap[w.heap.size]?=some o1/\(((w.alloc o1).alloc o2).alloc o3).heap[w.heap.size+1]?=some o2/\(((w.alloc o1).alloc o2).alloc o3).heap[w.heap.size+1+1]?=some o3/\Below w.heap.size w (((w.alloc o1).alloc o2).alloc o3):=by
 have k:=K.zar (w:=w) (o1:=o1) (o2:=o2) (qR _);have e:=heap_alloc_new ((w.alloc o1).alloc o2) o3;have hs:((w.alloc o1).alloc o2).heap.size=w.heap.size+1+1:=by simp
 rw[hs] at e;exact⟨K.zae k.1 (Cn.al _ _),K.zae k.2.1 (Cn.al _ _),e,k.2.2.1.trans ((Cn.al _ _).mono k.2.2.1.size)⟩
def Got (W wx:World) (v8 v9:Value) (q:List Int×Int×Int):Prop :=
 ∃fb,v9= .pointer (some ⟨fb,0,none⟩)/\W.heap.size<=fb/\wx.heap[fb]?=some (.cells #[.int .i64 q.2.1,.int .i64 q.2.2] 38)/\L.Rd wx v8 .i32 q.1/\Below W.heap.size W wx
theorem zku {W X:World}{sb:Nat}{v0 v1 v2 v8:Value}{q:List Int}{r1 r2:Int}(h:At W X sb v0 v1 v2)(hr:L.Rd X v8 .i32 q):Got W (X.alloc (.cells #[.int .i64 r1,.int .i64 r2] 38)) v8 (.pointer (some ⟨X.heap.size,0,none⟩)) (q,r1,r2) :=
 ⟨_,rfl,h.1.size,heap_alloc_new X _,hr.below (Cn.al _ _) qN,(h.alloc _).1⟩
theorem zkt {W X:World}{sb fb:Nat}{v0 v1 v2 v8:Value}{q:List Int}{r1 r2:Int}(h:At W X sb v0 v1 v2)(hs:sb<W.heap.size)(hr:L.Rd X v8 .i32 q)(hb:X.heap[fb]?=some (.cells #[.int .i64 0,.int .i64 0] 38))(hfb:W.heap.size<=fb):Got W ((X.setCell ⟨fb,0,none⟩ (.int .i64 r1)).setCell ⟨fb,1,none⟩ (.int .i64 r2)) v8 (.pointer (some ⟨fb,0,none⟩)) (q,r1,r2):=by
 have hb1:=heap_setCell_same X fb 0 _ _ (.int .i64 r1) hb;have hb2:=heap_setCell_same _ fb 1 _ _ (.int .i64 r2) hb1;refine⟨fb,rfl,hfb,hb2,K.zbd hr fun hz k hk=> ?_,(h.set2 hs hfb _ _).1⟩;have hne:=K.zqe hr hb hz k hk;rw[heap_setCell_other _ ⟨fb,1,none⟩ k _ hne,heap_setCell_other _ ⟨fb,0,none⟩ k _ hne]
theorem decode (s:ByteArray)(hs:s.size<=1099511627776)(X:World):Calls prog 10 #[.string s] X fun e w'=>∃xo xc,e= .returned (.slice xo (M.rn s).length xc)/\L.Rd w' (.slice xo (M.rn s).length xc) .i32 (M.rn s)/\(M.rn s).length<=xc/\Below X.heap.size X w' :=
 (zha s X hs).mono fun e w' ⟨v,h1,own,hb⟩=>by
  subst h1;rcases own.2 with ⟨hv,h0⟩|⟨g,cap,cur,hv,_,_,hc,_⟩
  ·refine⟨none,0,by rw[hv,h0],?_,by omega,hb⟩;have:=L.Rd.za4 own;rw[hv] at this;rw[h0];exact this
  ·refine⟨_,cap,by rw[hv],?_,hc,hb⟩;have:=L.Rd.za4 own;rw[hv] at this;exact this
end Tp
end
section
open Go.RowKit
namespace Tp
def aBytes:ByteArray:= { data:=#[36,118,32,61,32,91,97,45,99,93,59,10,36,118,32,125,32,120,32,62,32,121,32,59,10,58,58,32,117,112,112,101,114,32,59,10] }
def aRunes:List Int:= [36,118,32,61,32,91,97,45,99,93,59,10,36,118,32,125,32,120,32,62,32,121,32,59,10,58,58,32,117,112,112,101,114,32,59,10]
theorem aText:M.rn aBytes=aRunes:=by
 have h:=T.zly (l:=aRunes) (by unfold T.rightL;decide);have e:T.bytesR aRunes= [36,118,32,61,32,91,97,45,99,93,59,10,36,118,32,125,32,120,32,62,32,121,32,59,10,58,58,32,117,112,112,101,114,32,59,10]:=by decide +kernel
 rw[e] at h;exact h
theorem aWord:M.rn { data:=#[97,120,98,195,169] }= [97,120,98,233]:=by
 have h:=T.zly (l:= [97,120,98,233]) (by unfold T.rightL;decide);have e:T.bytesR [97,120,98,233]= [97,120,98,195,169]:=by decide +kernel
 rw[e] at h;exact h
def aRule:K.Rule:=⟨false,false,[],[[(97,99)]],[[(120,120)]],[121],1⟩
def aScript:V.Script:=⟨false,[],[⟨⟨#[]⟩,[aRule]⟩,⟨⟨#[117,112,112,101,114]⟩,[]⟩]⟩
theorem aSet:T.setN 20 aRunes 5= .ok [(97,99)] 10:=by
 have e1:T.setN 20 aRunes 5=T.loop 37 (T.setN 19 aRunes) aRunes [] 6:=by kernel_rfl
 have e2:T.loop 37 (T.setN 19 aRunes) aRunes [] 6=(match T.part (T.setN 19 aRunes) aRunes [] 6 with | .bad e q=> .bad e q | .ok t q=>T.loop 36 (T.setN 19 aRunes) aRunes t (T.skipW T.blank aRunes q)):=by kernel_rfl
 have e3:T.part (T.setN 19 aRunes) aRunes [] 6=T.made (S.orP [] [(97,99)]) 9:=by kernel_rfl
 have e4:T.made (S.orP [] [(97,99)]) 9= .ok [(97,99)] 9:=by
  have hi:S.Is (S.orP [] [(97,99)]) [(97,99)]:=⟨(S.zat.1 (by decide)).2,fun r=>by simp[S.orP,S.memb];intro h1 h2;simp[S.inR];omega⟩;unfold T.made;rw[S.zws hi];rfl
 have e5:T.loop 36 (T.setN 19 aRunes) aRunes [(97,99)] (T.skipW T.blank aRunes 9)= .ok [(97,99)] 10:=by kernel_rfl
 rw[e1,e2,e3,e4];exact e5
def aPart:R.Part:=⟨1,⟨#[118]⟩,[(97,99)],0,R.noSide,R.noSide⟩
theorem zur:R.part aRunes 0= .ok aPart 10:=by
 have e1:R.part aRunes 0=(match T.setN 20 aRunes 5 with | .bad e r=> .bad e r | .ok s r=> .ok ⟨1,⟨#[118]⟩,s,0,R.noSide,R.noSide⟩ r):=by kernel_rfl
 rw[e1,aSet];rfl
theorem aEnded:R.ended aRunes 0= .ok aPart 11:=by
 have h1:¬(T.see aRunes (R.gap aRunes 10)≠59):=by decide +kernel
 have h2:¬(R.partE aPart≠0):=by decide +kernel
 have h3:R.gap aRunes 10+1=11:=by decide +kernel
 unfold R.ended;rw[zur];simp only;rw[if_neg h1,if_neg h2,h3]
theorem aRead:∃l q,R.read aRunes= .ok l q/\V.forthF l=(aScript,0,0):=by
 have e1:R.read aRunes=(match R.ended aRunes 0 with | .bad e q=> .bad e q | .ok x q=>R.partsN 201 aRunes ([]++ [x]) (R.gap aRunes q)):=by kernel_rfl
 rw[aEnded] at e1;simp only at e1;have key:(match R.partsN 201 aRunes ([]++ [aPart]) (R.gap aRunes 11) with | .ok l _=>V.forthF l | .bad _ _=>(aScript,1,1))=(aScript,0,0):=by kernel_rfl
 cases h:R.partsN 201 aRunes ([]++ [aPart]) (R.gap aRunes 11) with
 | ok l q=>rw[h] at key e1;exact⟨l,q,e1,key⟩
 | bad e q=>rw[h] at key;simp at key
end Tp
end
section
open Go.RowKit Go.Lib
namespace Tp
theorem aCuts:J.Cuts [aRule] [0,97,100,1114112]:=by
 refine⟨by decide,fun y=> ?_⟩;have e:J.edgesL [aRule]= [0,1114112,97,100]:=by decide +kernel
 rw[e];simp only[List.mem_cons,List.not_mem_nil,or_false];omega
theorem aComp:J.Comp [aRule] (J.heads (J.begins [aRule]) [0,97,100,1114112] 3,0,0):= .inr ⟨by decide +kernel,_,aCuts,by decide,.inr ⟨by decide,rfl⟩⟩
theorem aPlay:∃s p,K.play [aRule] (8* [97,120,98,233].length+40) [] [97,120,98,233] 0 0=(0,[121,120,98,233],s,p):=⟨4,1,by decide +kernel⟩
theorem aPl {pl:Cn.Pl}(h:Cn.PlOk pl):pl [aRule] [97,120,98,233]=([121,120,98,233],0):=by
 obtain⟨s,p,hp⟩:=aPlay;exact h.1 _ _ _ s p 0 0 ⟨_,.inr (.inr ⟨by decide +kernel,by decide +kernel,aComp⟩),.inr ⟨rfl,hp,rfl⟩⟩
theorem aGo {pl:Cn.Pl}(h:Cn.PlOk pl):Cn.goF pl aScript [97,120,98,233]=([89,88,66,201],0,0):=by
 have hw:(Cn.wrongF aScript).1=0:=by decide +kernel
 have ht:K.textE [97,120,98,233]=0:=by decide +kernel
 have hc:Cn.cut (Cn.inS aScript) [97,120,98,233]= [([97,120,98,233],true)]:=by decide +kernel
 have hp1:Cn.passF pl ⟨⟨#[]⟩,[aRule]⟩ [97,120,98,233]=([121,120,98,233],0):=by
  unfold Cn.passF;rw[if_pos (by decide +kernel)];exact aPl h
 have hp2:Cn.passF pl ⟨⟨#[117,112,112,101,114]⟩,[]⟩ [121,120,98,233]=([89,88,66,201],0):=by
  unfold Cn.passF;rw[if_neg (by decide +kernel),if_pos (by decide +kernel)];decide +kernel
 have hth:Cn.thru pl 0 aScript.passes [97,120,98,233]=([89,88,66,201],0,0):=by
  show Cn.thru pl 0 [⟨⟨#[]⟩,[aRule]⟩,⟨⟨#[117,112,112,101,114]⟩,[]⟩] _=_;rw[Cn.thru,hp1,if_pos rfl,Cn.thru];simp only;rw[hp2,if_pos rfl];rfl
 have hr:Cn.runP pl aScript.passes (Cn.cut (Cn.inS aScript) [97,120,98,233]) []=([89,88,66,201],0,0):=by
  rw[hc,Cn.runP,if_pos rfl];simp only;rw[hth,if_pos rfl];rfl
 unfold Cn.goF;rw[if_pos hw,if_pos ht,hr];rfl
theorem aStr (w:World)(va:Option Addr)(vc:Nat)(h:L.Rd w (.slice va 4 vc) .i32 [89,88,66,201]):(convert 33 9 (.slice va 4 vc)).run prog w= .ok (.string ⟨#[89,88,66,195,137]⟩) w:=by
 obtain⟨a,c,e,_,hc⟩:=h;obtain⟨rfl,-,rfl⟩:=Value.slice.inj e;obtain⟨b,off,rfl,hcell⟩:=hc (by simp)
 have h:=run_convert_runes (P:=prog) w 33 9 21 ⟨b,off,none⟩ 4 vc [89,88,66,201] (by decide) underlying33 underlying21 underlying9 (fun j hj=>by
  rw[L.addr_add]
  match j,hj with
  | 0,_=>exact hcell 0 89 rfl
  | 1,_=>exact hcell 1 88 rfl
  | 2,_=>exact hcell 2 66 rfl
  | 3,_=>exact hcell 3 201 rfl
  | n+4,hj=>simp at hj;omega)
 rw[h];have e2:runesBytes (List.take 4 [89,88,66,201])=⟨#[89,88,66,195,137]⟩:=by kernel_rfl
 rw[e2]
end Tp
theorem zm7 (hK:T.ClassOk)(w:World):Calls prog 8 #[] w fun e w'=>e= .returned (.bool true)/\Below w.heap.size w w':=by
 obtain⟨pl,hpl⟩:=Cn.zvq;obtain⟨l,q,hr,hf⟩:=Tp.aRead
 have HR:Hid (Calls prog 24 #[.string { data:=#[36,118,32,61,32,91,97,45,99,93,59,10,36,118,32,125,32,120,32,62,32,121,32,59,10,58,58,32,117,112,112,101,114,32,59,10] }] w fun e w'=>∃v,e= .returned (.tuple #[v,.agg #[.int .i64 0,.int .i64 0]])/\R.Pts w' v l/\Below w.heap.size w w'):=by
  have h:=zfo hK Tp.aBytes (by decide) w;rw[Tp.aText,hr] at h;exact h.mono fun e w' ⟨v,h1,h2,_,h4⟩=>⟨v,h1,(R.RowP.pts h2).here,h4⟩
 have HF:Hid (∀Y v,R.Pts Y v l->Calls prog 25 #[v] Y fun e w'=>∃v',e= .returned (.tuple #[v',.agg #[.int .i64 0,.int .i64 0]])/\V.ScIs w' v' Tp.aScript/\Below Y.heap.size Y w'):=fun Y v hv=>by
  have h:=zrk Y v l hv;rw[hf] at h;exact h
 have HDe:Hid (∀X,Calls prog 10 #[.string { data:=#[97,120,98,195,169] }] X fun e w'=>∃xo xc,e= .returned (.slice xo 4 xc)/\L.Rd w' (.slice xo 4 xc) .i32 [97,120,98,233]/\4<=xc/\Below X.heap.size X w'):=fun X=>by
  have h:=Tp.decode { data:=#[97,120,98,195,169] } (by decide) X;rw[Tp.aWord] at h;exact h
 clear hr hf q
 go_enter func8,ntmps8
 go_wp2_with fail
 refine HR.out.mono ?_;rintro e w1 ⟨v1,rfl,hp1,b1⟩;obtain⟨Y,hY⟩:∃Y,Y=w1.alloc (.cells #[.int .i64 0,.int .i64 0] 38):=⟨_,rfl⟩;have k2:=K.zau (w:=w1) (qR (w1.alloc (.cells #[.int .i64 0,.int .i64 0] 38)));rw[<- hY] at k2;have hF:=HF.out Y v1 (hp1.below k2.2.1);have HY:Hid (Y.heap[w1.heap.size]?=some (.cells #[.int .i64 0,.int .i64 0] 38)/\Below w.heap.size w Y):=⟨k2.1,b1.trans (k2.2.1.mono b1.size)⟩;obtain⟨la,lc,rfl⟩:∃a c,v1= .slice a l.length c:=by obtain⟨a,c,h⟩:=hp1.len;exact⟨a,c,h⟩
 clear hp1 b1 k2 HF HR
 go_wp2_with fail
 rw[<- hY];refine hF.mono ?_;clear hY hF;rintro e w3 ⟨v3,rfl,hSc,b3⟩;have hf3:=K.zae HY.out.1 b3;have hB3:=HY.out.2.trans (b3.mono HY.out.2.size);obtain⟨oo,oc,po,pc,hv3,_⟩:=id hSc;subst hv3;obtain⟨Z,hZ⟩:∃Z,Z=(w3.alloc (.cells #[.bool Tp.aScript.has,.slice oo Tp.aScript.only.length oc,.slice po Tp.aScript.passes.length pc] 27)).alloc (.cells #[.int .i64 0,.int .i64 0] 38):=⟨_,rfl⟩;have k4:=K.zar (w:=w3) (qR ((w3.alloc (.cells #[.bool Tp.aScript.has,.slice oo Tp.aScript.only.length oc,.slice po Tp.aScript.passes.length pc] 27)).alloc (.cells #[.int .i64 0,.int .i64 0] 38)));rw[<- hZ] at k4;have HZ:Hid (Z.heap[w1.heap.size]?=some (.cells #[.int .i64 0,.int .i64 0] 38)/\Z.heap[w3.heap.size+1]?=some (.cells #[.int .i64 0,.int .i64 0] 38)/\Below w.heap.size w Z):=⟨K.zae hf3 k4.2.2.1,k4.2.1,hB3.trans (k4.2.2.1.mono hB3.size)⟩;have HAtz:Hid (Tp.At Z Z w3.heap.size (.bool Tp.aScript.has) (.slice oo Tp.aScript.only.length oc) (.slice po Tp.aScript.passes.length pc)):=⟨qR _,K.zad (i:=0) k4.1 rfl,K.zad (i:=1) k4.1 rfl,K.zad (i:=2) k4.1 rfl⟩;have hsb:=lt_of_block k4.1;have HScZ:=qH <| hSc.below k4.2.2.1
 have HGo:Hid (∀X xo xc,Tp.At Z X w3.heap.size (.bool Tp.aScript.has) (.slice oo Tp.aScript.only.length oc) (.slice po Tp.aScript.passes.length pc)->L.Rd X (.slice xo 4 xc) .i32 [97,120,98,233]->4<=xc->Calls prog 11 #[.agg #[.bool Tp.aScript.has,.slice oo Tp.aScript.only.length oc,.slice po Tp.aScript.passes.length pc],.slice xo 4 xc] X fun e w'=>∃v',e= .returned (.tuple #[v',.agg #[.int .i64 0,.int .i64 0]])/\L.Rd w' v' .i32 [89,88,66,201]/\Below X.heap.size X w'):=fun X xo xc hX hd hc=>by
  have h:=zwb pl hpl X _ Tp.aScript (HScZ.out.below hX.1) (fun x hx=>by cases hx) xo xc [97,120,98,233] hd hc (by decide);rw[Tp.aGo hpl] at h;exact h
 clear hf3 hB3 b3 k4 hSc HY
 go_upto_region 3 with fail
 rw[<- hZ];clear hZ;have HKz:=qH HAtz.out.drew;have HKDz:=qH <| fun o=>(HAtz.out.alloc o).drew
 go_cut [5,6] (fun va vf wx=>Hid (Tp.Got Z wx va vf ([89,88,66,201],0,0)))
 case first =>
  go_region_held3 (fun w'=>Below Z.heap.size Z w'/\w'.cell? ⟨w3.heap.size,0,none⟩=some (.bool Tp.aScript.has)/\w'.cell? ⟨w3.heap.size,1,none⟩=some (.slice oo Tp.aScript.only.length oc)/\w'.cell? ⟨w3.heap.size,2,none⟩=some (.slice po Tp.aScript.passes.length pc))
   (first | with_reducible exact HKz.out | with_reducible exact k2 | with_reducible exact k1 | with_reducible exact k2.alloc _ | with_reducible exact k1.alloc _ | with_reducible exact HKz.out.alloc _ | with_reducible exact HKDz.out _ | with_reducible exact Tp.At.set2 k2 hsb k1.1.size _ _ | with_reducible exact Tp.At.set2 k2 hsb qN _ _ | fail)
   (first
    | (have hy:=k1;clear hy;go_at_call 11;refine(HGo.out _ _ _ (by first | with_reducible exact k1 | with_reducible exact k1.alloc _) (by first | with_reducible exact d1 | with_reducible exact d1.below (Cn.al _ _) qN) hc1).mono ?_;rintro e wd2 ⟨vd2,rfl,d2,z2⟩;have k2:Tp.At Z wd2 (w3.heap.size) (.bool Tp.aScript.has) (.slice oo Tp.aScript.only.length oc) (.slice po Tp.aScript.passes.length pc):=(by first | with_reducible exact k1.below z2 | with_reducible exact(k1.alloc _).below z2);first | (have r2:=K.zae r1 z2;obtain⟨y0,y1,ff0,ff1⟩:=V.box2 r2) | (have r2:=Cn.rb z2;obtain⟨y0,y1,ff0,ff1⟩:=V.box2 r2) | skip)
    | ((fail_if_success (have hy:=k1));go_at_call 10;refine(HDe.out _).mono ?_;rintro e wd1 ⟨xo1,xc1,rfl,d1,hc1,z1⟩;have k1:Tp.At Z wd1 (w3.heap.size) (.bool Tp.aScript.has) (.slice oo Tp.aScript.only.length oc) (.slice po Tp.aScript.passes.length pc):=(by first | with_reducible exact HKz.out.below z1 | with_reducible exact(HKz.out.alloc _).below z1 | with_reducible exact(HKDz.out _).below z1);first | (have r1:=Cn.rbD z1) | skip)
    | fail)
  all_goals
   first
    | (have HM:=Tp.zkt (r1:=0) (r2:=0) k2 hsb d2 r2 (by first | with_reducible exact k1.1.size | with_reducible exact qN))
    | (have HM:=Tp.zku (r1:=0) (r2:=0) k2 d2)
   clear k2 k1 d2 d1 z2 z1
   go_wp2_with fail
   go_meet
   case rel=>exact HM
 case rest =>
  obtain⟨fb,rfl,hfb,hbox,hrd,hbl⟩:=hcut.out;obtain⟨va,vc,rfl⟩:∃va vc,_=Value.slice va 4 vc:=by obtain⟨a,c,h,_⟩:=hrd;exact⟨a,c,h⟩
  have hstr:=Tp.aStr wc va vc hrd;have p1:=K.zad (i:=0) (K.zae HZ.out.1 hbl) rfl;have p2:=K.zad (i:=0) (K.zae HZ.out.2.1 hbl) rfl;have p3:=K.zad (i:=0) hbox rfl;have HE:=qH <| HZ.out.2.2.trans (hbl.mono HZ.out.2.2.size);clear hcut hbox hrd hbl HGo HDe HKz HKDz HAtz HZ HScZ;go_wp2;go_ret;exact⟨rfl,HE.out⟩
end
section
open Go.RowKit Go.Lib
theorem zum (w:World)(v:Value)(l:List R.Part)(R0:R.Pts w v l)(hbad:(V.varsF l).1.1≠0) :
  Calls prog 37 #[v] w fun e w'=>e= .returned (.tuple #[.agg #[.bool false,.slice none 0 0,.slice none 0 0],.agg #[.int .i64 (V.varsF l).1.1,.int .i64 (V.varsF l).1.2]])/\Below w.heap.size w w':=by
 have HA:=qH <| fun o1 o2=>((qR w).alloc qN o1).alloc (by simp) o2
 have HC:Hid (∀o1 o2,Calls prog 60 #[v] ((w.alloc o1).alloc o2) fun e w'=>e= .returned (.tuple #[.map none,.agg #[.int .i64 (V.varsF l).1.1,.int .i64 (V.varsF l).1.2]])/\Below ((w.alloc o1).alloc o2).heap.size ((w.alloc o1).alloc o2) w'):=fun o1 o2 =>
  (zbq _ _ l (R0.below (HA.out _ _))).mono fun e w' ⟨h1,h2⟩=>⟨h1.elim (fun h=>absurd h.1 hbad) fun h=>h.2,h2⟩
 obtain⟨ao,cap,rfl⟩:=R0.len;obtain⟨⟨⟨e1,e2⟩,kn⟩,he⟩:∃o,V.varsF l=o:=⟨_,rfl⟩;rw[he] at HC hbad ⊢;simp only at HC hbad ⊢;clear he R0
 go_enter func37,ntmps37
 go_wp2_with fail
 refine(HC.out _ _).mono ?_;rintro e w1 ⟨rfl,b1⟩;obtain⟨h1,h2,B1,s1⟩:=K.zar b1;have HB2:=qH <| fun o=>B1.alloc (by omega) o
 have k0:∀o,(w1.alloc o).cell? ⟨w.heap.size,0,none⟩=some (.bool false):=fun o=>K.zai (K.zad h1 rfl) o
 have k1:∀o,(w1.alloc o).cell? ⟨w.heap.size,1,none⟩=some (.slice none 0 0):=fun o=>K.zai (K.zad h1 rfl) o
 have k2:∀o,(w1.alloc o).cell? ⟨w.heap.size,2,none⟩=some (.slice none 0 0):=fun o=>K.zai (K.zad h1 rfl) o
 have k3:∀o,(w1.alloc o).cell? ⟨w.heap.size+1,0,none⟩=some (.int .i64 0):=fun o=>K.zai (K.zad h2 rfl) o
 have k4:∀o,(w1.alloc o).cell? ⟨w.heap.size+1,1,none⟩=some (.int .i64 0):=fun o=>K.zai (K.zad h2 rfl) o
 have g0:=fun o i=>K.zao h1 o i
 have g1:=fun o i=>K.zao h2 o i
 clear b1 B1 HC h1 h2;go_wp2
 go_region
 go_wp2;refine bodyPost_ret (v:= .tuple #[.agg #[.bool false,.slice none 0 0,.slice none 0 0],.agg #[.int .i64 e1,.int .i64 e2]]) (by simp[results,results37,go_sem, *]) rfl ?_
 exact⟨rfl,(V.five (HB2.out _) qN (by omega) _ _ _ _ _).drew⟩
