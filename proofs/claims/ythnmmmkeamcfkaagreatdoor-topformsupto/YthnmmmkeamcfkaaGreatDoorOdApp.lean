import Derived.Test.YthnmmmkeamcfkaaGreatDoorTpGo
set_option maxHeartbeats 0
set_option maxRecDepth 20000
set_option linter.unusedSimpArgs false
set_option linter.unusedVariables false
namespace Go.Proofs.YthnmmmkeamcfkaaGreatDoor
open Go.Proofs.Tryz
section
open Go.RowKit
namespace Tp
def aBytes:ByteArray:= { data:=#[36,118,32,61,32,91,97,45,99,93,59,10,36,118,32,125,32,120,32,62,32,121,32,59,10,58,58,32,117,112,112,101,114,32,59,10] }
def aRunes:List Int:= [36,118,32,61,32,91,97,45,99,93,59,10,36,118,32,125,32,120,32,62,32,121,32,59,10,58,58,32,117,112,112,101,114,32,59,10]
theorem aText:M.rn aBytes=aRunes:=by
 have h:=T.zln (l:=aRunes) (by unfold T.rightL;decide);have e:T.bytesR aRunes= [36,118,32,61,32,91,97,45,99,93,59,10,36,118,32,125,32,120,32,62,32,121,32,59,10,58,58,32,117,112,112,101,114,32,59,10]:=by decide +kernel
 rw[e] at h;exact h
theorem aWord:M.rn { data:=#[97,120,98,195,169] }= [97,120,98,233]:=by
 have h:=T.zln (l:= [97,120,98,233]) (by unfold T.rightL;decide);have e:T.bytesR [97,120,98,233]= [97,120,98,195,169]:=by decide +kernel
 rw[e] at h;exact h
def aRule:K.Rule:=⟨false,false,[],[[(97,99)]],[[(120,120)]],[121],1⟩
def aScript:V.Script:=⟨false,[],[⟨⟨#[]⟩,[aRule]⟩,⟨⟨#[117,112,112,101,114]⟩,[]⟩]⟩
theorem aSet:T.setN 20 aRunes 5= .ok [(97,99)] 10:=by
 have e1:T.setN 20 aRunes 5=T.loop 37 (T.setN 19 aRunes) aRunes [] 6:=by kernel_rfl
 have e2:T.loop 37 (T.setN 19 aRunes) aRunes [] 6=(match T.part (T.setN 19 aRunes) aRunes [] 6 with | .bad e q=> .bad e q | .ok t q=>T.loop 36 (T.setN 19 aRunes) aRunes t (T.skipW T.blank aRunes q)):=by kernel_rfl
 have e3:T.part (T.setN 19 aRunes) aRunes [] 6=T.made (S.orP [] [(97,99)]) 9:=by kernel_rfl
 have e4:T.made (S.orP [] [(97,99)]) 9= .ok [(97,99)] 9:=by
  have hi:S.Is (S.orP [] [(97,99)]) [(97,99)]:=⟨(S.zaw.1 (by decide)).2,fun r=>by simp[S.orP,S.memb];intro h1 h2;simp[S.inR];omega⟩;unfold T.made;rw[S.zxp hi];rfl
 have e5:T.loop 36 (T.setN 19 aRunes) aRunes [(97,99)] (T.skipW T.blank aRunes 9)= .ok [(97,99)] 10:=by kernel_rfl
 rw[e1,e2,e3,e4];exact e5
def aPart:R.Part:=⟨1,⟨#[118]⟩,[(97,99)],0,R.noSide,R.noSide⟩
theorem zve:R.part aRunes 0= .ok aPart 10:=by
 have e1:R.part aRunes 0=(match T.setN 20 aRunes 5 with | .bad e r=> .bad e r | .ok s r=> .ok ⟨1,⟨#[118]⟩,s,0,R.noSide,R.noSide⟩ r):=by kernel_rfl
 rw[e1,aSet];rfl
theorem aEnded:R.ended aRunes 0= .ok aPart 11:=by
 have h1:¬(T.see aRunes (R.gap aRunes 10)≠59):=by decide +kernel
 have h2:¬(R.partE aPart≠0):=by decide +kernel
 have h3:R.gap aRunes 10+1=11:=by decide +kernel
 unfold R.ended;rw[zve];simp only;rw[if_neg h1,if_neg h2,h3]
theorem aRead:∃l q,R.read aRunes= .ok l q/\V.forthF l=(aScript,0,0):=by
 have e1:R.read aRunes=(match R.ended aRunes 0 with | .bad e q=> .bad e q | .ok x q=>R.partsN 201 aRunes ([]++ [x]) (R.gap aRunes q)):=by kernel_rfl
 rw[aEnded] at e1;simp only at e1;have key:(match R.partsN 201 aRunes ([]++ [aPart]) (R.gap aRunes 11) with | .ok l _=>V.forthF l | .bad _ _=>(aScript,1,1))=(aScript,0,0):=by kernel_rfl
 cases h:R.partsN 201 aRunes ([]++ [aPart]) (R.gap aRunes 11) with
 | ok l q=>rw[h] at key e1;exact⟨l,q,e1,key⟩
 | bad e q=>rw[h] at key;simp at key
end Tp
end
section
open Go.RowKit Go.Lib
namespace Tp
theorem aCuts:J.Cuts [aRule] [0,97,100,1114112]:=by
 refine⟨by decide,fun y=> ?_⟩;have e:J.edgesL [aRule]= [0,1114112,97,100]:=by decide +kernel
 rw[e];simp only[List.mem_cons,List.not_mem_nil,or_false];omega
theorem aComp:J.Comp [aRule] (J.heads (J.begins [aRule]) [0,97,100,1114112] 3,0,0):= .inr ⟨by decide +kernel,_,aCuts,by decide,.inr ⟨by decide,rfl⟩⟩
theorem aPlay:∃s p,K.play [aRule] (8* [97,120,98,233].length+40) [] [97,120,98,233] 0 0=(0,[121,120,98,233],s,p):=⟨4,1,by decide +kernel⟩
theorem aPl {pl:Cn.Pl}(h:Cn.PlOk pl):pl [aRule] [97,120,98,233]=([121,120,98,233],0):=by
 obtain⟨s,p,hp⟩:=aPlay;exact h.1 _ _ _ s p 0 0 ⟨_,.inr (.inr ⟨by decide +kernel,by decide +kernel,aComp⟩),.inr ⟨rfl,hp,rfl⟩⟩
theorem aGo {pl:Cn.Pl}(h:Cn.PlOk pl):Cn.goF pl aScript [97,120,98,233]=([89,88,66,201],0,0):=by
 have hw:(Cn.wrongF aScript).1=0:=by decide +kernel
 have ht:K.textE [97,120,98,233]=0:=by decide +kernel
 have hc:Cn.cut (Cn.inS aScript) [97,120,98,233]= [([97,120,98,233],true)]:=by decide +kernel
 have hp1:Cn.passF pl ⟨⟨#[]⟩,[aRule]⟩ [97,120,98,233]=([121,120,98,233],0):=by
  unfold Cn.passF;rw[if_pos (by decide +kernel)];exact aPl h
 have hp2:Cn.passF pl ⟨⟨#[117,112,112,101,114]⟩,[]⟩ [121,120,98,233]=([89,88,66,201],0):=by
  unfold Cn.passF;rw[if_neg (by decide +kernel),if_pos (by decide +kernel)];decide +kernel
 have hth:Cn.thru pl 0 aScript.passes [97,120,98,233]=([89,88,66,201],0,0):=by
  show Cn.thru pl 0 [⟨⟨#[]⟩,[aRule]⟩,⟨⟨#[117,112,112,101,114]⟩,[]⟩] _=_;rw[Cn.thru,hp1,if_pos rfl,Cn.thru];simp only;rw[hp2,if_pos rfl];rfl
 have hr:Cn.runP pl aScript.passes (Cn.cut (Cn.inS aScript) [97,120,98,233]) []=([89,88,66,201],0,0):=by
  rw[hc,Cn.runP,if_pos rfl];simp only;rw[hth,if_pos rfl];rfl
 unfold Cn.goF;rw[if_pos hw,if_pos ht,hr];rfl
theorem aStr (w:World)(va:Option Addr)(vc:Nat)(h:L.Rd w (.slice va 4 vc) .i32 [89,88,66,201]):(convert 33 9 (.slice va 4 vc)).run prog w= .ok (.string ⟨#[89,88,66,195,137]⟩) w:=by
 obtain⟨a,c,e,_,hc⟩:=h;obtain⟨rfl,-,rfl⟩:=Value.slice.inj e;obtain⟨b,off,rfl,hcell⟩:=hc (by simp)
 have h:=run_convert_runes (P:=prog) w 33 9 21 ⟨b,off,none⟩ 4 vc [89,88,66,201] (by decide) underlying33 underlying21 underlying9 (fun j hj=>by
  rw[L.addr_add]
  match j,hj with
  | 0,_=>exact hcell 0 89 rfl
  | 1,_=>exact hcell 1 88 rfl
  | 2,_=>exact hcell 2 66 rfl
  | 3,_=>exact hcell 3 201 rfl
  | n+4,hj=>simp at hj;omega)
 rw[h];have e2:runesBytes (List.take 4 [89,88,66,201])=⟨#[89,88,66,195,137]⟩:=by kernel_rfl
 rw[e2]
end Tp
theorem zm4 (hK:T.ClassOk)(w:World):Calls prog 8 #[] w fun e w'=>e= .returned (.bool true)/\Below w.heap.size w w':=by
 obtain⟨pl,hpl⟩:=Cn.zwj;obtain⟨l,q,hr,hf⟩:=Tp.aRead
 have HR:Hid (Calls prog 24 #[.string { data:=#[36,118,32,61,32,91,97,45,99,93,59,10,36,118,32,125,32,120,32,62,32,121,32,59,10,58,58,32,117,112,112,101,114,32,59,10] }] w fun e w'=>∃v,e= .returned (.tuple #[v,.agg #[.int .i64 0,.int .i64 0]])/\R.Pts w' v l/\Below w.heap.size w w'):=by
  have h:=zp8 hK Tp.aBytes (by decide) w;rw[Tp.aText,hr] at h;exact h.mono fun e w' ⟨v,h1,h2,_,h4⟩=>⟨v,h1,(R.RowP.pts h2).here,h4⟩
 have HF:Hid (∀Y v,R.Pts Y v l->Calls prog 25 #[v] Y fun e w'=>∃v',e= .returned (.tuple #[v',.agg #[.int .i64 0,.int .i64 0]])/\V.ScIs w' v' Tp.aScript/\Below Y.heap.size Y w'):=fun Y v hv=>by
  have h:=zr0 Y v l hv;rw[hf] at h;exact h
 have HDe:Hid (∀X,Calls prog 10 #[.string { data:=#[97,120,98,195,169] }] X fun e w'=>∃xo xc,e= .returned (.slice xo 4 xc)/\L.Rd w' (.slice xo 4 xc) .i32 [97,120,98,233]/\4<=xc/\Below X.heap.size X w'):=fun X=>by
  have h:=Tp.decode { data:=#[97,120,98,195,169] } (by decide) X;rw[Tp.aWord] at h;exact h
 clear hr hf q
 go_enter func8,ntmps8
 go_wp2_with fail
 refine HR.out.mono ?_;rintro e w1 ⟨v1,rfl,hp1,b1⟩;obtain⟨Y,hY⟩:∃Y,Y=w1.alloc (.cells #[.int .i64 0,.int .i64 0] 38):=⟨_,rfl⟩;have k2:=K.zbh (w:=w1) (qR (w1.alloc (.cells #[.int .i64 0,.int .i64 0] 38)));rw[<- hY] at k2;have hF:=HF.out Y v1 (hp1.below k2.2.1);have HY:Hid (Y.heap[w1.heap.size]?=some (.cells #[.int .i64 0,.int .i64 0] 38)/\Below w.heap.size w Y):=⟨k2.1,b1.trans (k2.2.1.mono b1.size)⟩;obtain⟨la,lc,rfl⟩:∃a c,v1= .slice a l.length c:=by obtain⟨a,c,h⟩:=hp1.len;exact⟨a,c,h⟩
 clear hp1 b1 k2 HF HR
 go_wp2_with fail
 rw[<- hY];refine hF.mono ?_;clear hY hF;rintro e w3 ⟨v3,rfl,hSc,b3⟩;have hf3:=K.zae HY.out.1 b3;have hB3:=HY.out.2.trans (b3.mono HY.out.2.size);obtain⟨oo,oc,po,pc,hv3,_⟩:=id hSc;subst hv3;obtain⟨Z,hZ⟩:∃Z,Z=(w3.alloc (.cells #[.bool Tp.aScript.has,.slice oo Tp.aScript.only.length oc,.slice po Tp.aScript.passes.length pc] 27)).alloc (.cells #[.int .i64 0,.int .i64 0] 38):=⟨_,rfl⟩;have k4:=K.zbo (w:=w3) (qR ((w3.alloc (.cells #[.bool Tp.aScript.has,.slice oo Tp.aScript.only.length oc,.slice po Tp.aScript.passes.length pc] 27)).alloc (.cells #[.int .i64 0,.int .i64 0] 38)));rw[<- hZ] at k4;have HZ:Hid (Z.heap[w1.heap.size]?=some (.cells #[.int .i64 0,.int .i64 0] 38)/\Z.heap[w3.heap.size+1]?=some (.cells #[.int .i64 0,.int .i64 0] 38)/\Below w.heap.size w Z):=⟨K.zae hf3 k4.2.2.1,k4.2.1,hB3.trans (k4.2.2.1.mono hB3.size)⟩;have HAtz:Hid (Tp.At Z Z w3.heap.size (.bool Tp.aScript.has) (.slice oo Tp.aScript.only.length oc) (.slice po Tp.aScript.passes.length pc)):=⟨qR _,K.zah (i:=0) k4.1 rfl,K.zah (i:=1) k4.1 rfl,K.zah (i:=2) k4.1 rfl⟩;have hsb:=lt_of_block k4.1;have HScZ:=qH <| hSc.below k4.2.2.1
 have HGo:Hid (∀X xo xc,Tp.At Z X w3.heap.size (.bool Tp.aScript.has) (.slice oo Tp.aScript.only.length oc) (.slice po Tp.aScript.passes.length pc)->L.Rd X (.slice xo 4 xc) .i32 [97,120,98,233]->4<=xc->Calls prog 11 #[.agg #[.bool Tp.aScript.has,.slice oo Tp.aScript.only.length oc,.slice po Tp.aScript.passes.length pc],.slice xo 4 xc] X fun e w'=>∃v',e= .returned (.tuple #[v',.agg #[.int .i64 0,.int .i64 0]])/\L.Rd w' v' .i32 [89,88,66,201]/\Below X.heap.size X w'):=fun X xo xc hX hd hc=>by
  have h:=zxc pl hpl X _ Tp.aScript (HScZ.out.below hX.1) (fun x hx=>by cases hx) xo xc [97,120,98,233] hd hc (by decide);rw[Tp.aGo hpl] at h;exact h
 clear hf3 hB3 b3 k4 hSc HY
 go_upto_region 3 with fail
 rw[<- hZ];clear hZ;have HKz:=qH HAtz.out.drew;have HKDz:=qH <| fun o=>(HAtz.out.alloc o).drew
 go_cut [5,6] (fun va vf wx=>Hid (Tp.Got Z wx va vf ([89,88,66,201],0,0)))
 case first =>
  go_region_held3 (fun w'=>Below Z.heap.size Z w'/\w'.cell? ⟨w3.heap.size,0,none⟩=some (.bool Tp.aScript.has)/\w'.cell? ⟨w3.heap.size,1,none⟩=some (.slice oo Tp.aScript.only.length oc)/\w'.cell? ⟨w3.heap.size,2,none⟩=some (.slice po Tp.aScript.passes.length pc))
   (first | with_reducible exact HKz.out | with_reducible exact k2 | with_reducible exact k1 | with_reducible exact k2.alloc _ | with_reducible exact k1.alloc _ | with_reducible exact HKz.out.alloc _ | with_reducible exact HKDz.out _ | with_reducible exact Tp.At.set2 k2 hsb k1.1.size _ _ | with_reducible exact Tp.At.set2 k2 hsb qN _ _ | fail)
   (first
    | (have hy:=k1;clear hy;go_at_call 11;refine(HGo.out _ _ _ (by first | with_reducible exact k1 | with_reducible exact k1.alloc _) (by first | with_reducible exact d1 | with_reducible exact d1.below (Cn.al _ _) qN) hc1).mono ?_;rintro e wd2 ⟨vd2,rfl,d2,z2⟩;have k2:Tp.At Z wd2 (w3.heap.size) (.bool Tp.aScript.has) (.slice oo Tp.aScript.only.length oc) (.slice po Tp.aScript.passes.length pc):=(by first | with_reducible exact k1.below z2 | with_reducible exact(k1.alloc _).below z2);first | (have r2:=K.zae r1 z2;obtain⟨y0,y1,ff0,ff1⟩:=V.box2 r2) | (have r2:=Cn.rb z2;obtain⟨y0,y1,ff0,ff1⟩:=V.box2 r2) | skip)
    | ((fail_if_success (have hy:=k1));go_at_call 10;refine(HDe.out _).mono ?_;rintro e wd1 ⟨xo1,xc1,rfl,d1,hc1,z1⟩;have k1:Tp.At Z wd1 (w3.heap.size) (.bool Tp.aScript.has) (.slice oo Tp.aScript.only.length oc) (.slice po Tp.aScript.passes.length pc):=(by first | with_reducible exact HKz.out.below z1 | with_reducible exact(HKz.out.alloc _).below z1 | with_reducible exact(HKDz.out _).below z1);first | (have r1:=Cn.rbD z1) | skip)
    | fail)
  all_goals
   first
    | (have HM:=Tp.zks (r1:=0) (r2:=0) k2 hsb d2 r2 (by first | with_reducible exact k1.1.size | with_reducible exact qN))
    | (have HM:=Tp.zkt (r1:=0) (r2:=0) k2 d2)
   clear k2 k1 d2 d1 z2 z1
   go_wp2_with fail
   go_meet
   case rel=>exact HM
 case rest =>
  obtain⟨fb,rfl,hfb,hbox,hrd,hbl⟩:=hcut.out;obtain⟨va,vc,rfl⟩:∃va vc,_=Value.slice va 4 vc:=by obtain⟨a,c,h,_⟩:=hrd;exact⟨a,c,h⟩
  have hstr:=Tp.aStr wc va vc hrd;have p1:=K.zah (i:=0) (K.zae HZ.out.1 hbl) rfl;have p2:=K.zah (i:=0) (K.zae HZ.out.2.1 hbl) rfl;have p3:=K.zah (i:=0) hbox rfl;have HE:=qH <| HZ.out.2.2.trans (hbl.mono HZ.out.2.2.size);clear hcut hbox hrd hbl HGo HDe HKz HKDz HAtz HZ HScZ;go_wp2;go_ret;exact⟨rfl,HE.out⟩
end
section
open Go.RowKit
end
section
open Go.RowKit Go.Shelf
namespace Al
theorem app {sl e:TypeId}{z:Value}{k y:Nat}(hs:prog.underlying sl=some (.slice e))(hinfo:(prog.info? e).map (fun i=>(i.zero,i.size,i.bytes))=some (some z,k,y))(hzk:z.cells.size=k)(hk:0<k)(hy:y<=100)
  {w:World} {B n:Nat} {vo:Value} {xs:List Value} (own:w.ownsRow B e k vo n xs) (hB:B<=w.heap.size) (hl:n<=1000000) (news:List Value) (hn:news.length=k) (h1:∀u∈news,u.oneCell'=true) :
  ∃ao' vc' w',(∀ty,(Builtin.append_ #[sl,sl] ty #[vo,.slice (some ⟨w.heap.size,0,none⟩) 1 1]).run prog (w.alloc (.cells news.toArray e))= .ok (.slice ao' (n+1) vc') w')/\w'.ownsRow B e k (.slice ao' (n+1) vc') (n+1) (xs++news)/\(∀b,b<w.heap.size->vo.ownBlock≠some b->w'.heap[b]?=w.heap[b]?)/\w.heap.size<=w'.heap.size/\Below B w w':=by
 have hal:Below w.heap.size w (w.alloc (.cells news.toArray e)):=(qR w).alloc qN _;have hnew:=heap_alloc_new w (.cells news.toArray e);obtain⟨i0,hi,hz0,hz1,hz2⟩:=info_parts hinfo
 have hcells:∀j u,news[j]?=some u->(w.alloc (.cells news.toArray e)).cell? ((⟨w.heap.size,0,none⟩:Addr).add j)=some u:=fun j u hj=>by
  rw[L.addr_add,Nat.zero_add];exact K.zah hnew (by simpa using hj)
 have hyb:(n+1)*y<=140737488355328:=Nat.le_trans (Nat.mul_le_mul (Nat.succ_le_succ hl) hy) (by decide);obtain⟨v',w',run,own',gr,_⟩:=run_append_own (P:=prog) (w.alloc (.cells news.toArray e)) B sl sl e i0 _ k y hs hi hz0 hz1 hz2 hzk hk vo n xs (own.alloc _) ⟨w.heap.size,0,none⟩ 1 1 news (by rw[hn];omega) hcells h1 (by unfold maxLen;omega) hyb (by simp;omega)
 obtain⟨ao',vc',rfl⟩:∃ao cap,v'= .slice ao (n+1) cap:=by
  rcases own'.2 with ⟨hv,h0⟩|⟨g,cap,cur,hv,_⟩
  ·omega
  ·exact⟨_,cap,hv⟩
 refine⟨ao',vc',w',fun ty=>run,own',fun b hb hne=> ?_,?_,(hal.mono hB).grown gr (by simp;omega) fun k hk=>(own.lt k hk).1⟩
 ·rw[gr.block b (by simp;omega) (fun e=>hne e.symm)];exact hal.block b hb
 ·have:=gr.size;simp at this;omega
theorem held {F:Nat}{e:TypeId}{k:Nat}{w w':World}{v:Value}{n:Nat}{xs:List Value}(h:w.ownsRow F e k v n xs)(hb:∀q,v.ownBlock=some q->q<w.heap.size->w'.heap[q]?=w.heap[q]?):w'.ownsRow F e k v n xs:=by
 obtain⟨h1,h2⟩:=h;refine⟨h1,?_⟩;rcases h2 with h2 | ⟨g,cap,cur,hv,hg,hx,r⟩
 ·exact .inl h2
 ·exact .inr ⟨g,cap,cur,hv,hg,by rw[hb g (by rw[hv];rfl) (lt_of_block hx)];exact hx,r⟩
theorem block {F:Nat}{e:TypeId}{k:Nat}{w:World}{v:Value}{n:Nat}{xs:List Value}(h:w.ownsRow F e k v n xs){q:Nat}(hq:v.ownBlock=some q):F<=q/\∃cs p,w.heap[q]?=some (.cells cs e p):=by
 obtain⟨h1,h2⟩:=h;rcases h2 with ⟨h2,_⟩|⟨g,cap,cur,hv,hg,hx,r⟩
 ·rw[h2] at hq;cases hq
 ·rw[hv] at hq;have hq':some g=some q:=hq;cases hq';exact⟨hg,_,_,hx⟩
theorem lies {F:Nat}{e:TypeId}{k:Nat}{w:World}{v:Value}{n:Nat}{xs:List Value}(h:w.ownsRow F e k v n xs):∃ao cap,v= .slice ao n cap/\(0<n->∃g,ao=some ⟨g,0,none⟩/\g<w.heap.size/\∀j u,xs[j]?=some u->w.cell? ⟨g,j,none⟩=some u):=by
 have h0:=h;obtain⟨h1,h2⟩:=h;rcases h2 with ⟨rfl,h2⟩|⟨g,cap,cur,rfl,hg,hx,r⟩
 ·exact⟨none,0,by rw[h2],fun h=>by omega⟩
 ·refine⟨_,cap,rfl,fun _=>⟨g,rfl,lt_of_block hx,fun j u hu=> ?_⟩⟩;have:=h0.cells (g:=g) rfl j u hu;rw[L.addr_add,Nat.zero_add] at this;exact this
end Al
theorem Tryz.infoInt:(prog.info? 3).map (fun i=>(i.zero,i.size,i.bytes))=some (some (.int .i64 0),1,8):=by kernel_rfl
namespace Od
theorem app {sl e:TypeId}{z:Value}{k y:Nat}(hs:prog.underlying sl=some (.slice e))(hinfo:(prog.info? e).map (fun i=>(i.zero,i.size,i.bytes))=some (some z,k,y))(hzk:z.cells.size=k)(hk:0<k)(hy:y<=100)
  {w:World} {B n:Nat} {vo:Value} {xs:List Value} (own:w.ownsRow B e k vo n xs) (hB:B<=w.heap.size) (hl:n<=1099511627776) (news:List Value) (hn:news.length=k) (h1:∀u∈news,u.oneCell'=true) :
  ∃ao' vc' w',(∀ty,(Builtin.append_ #[sl,sl] ty #[vo,.slice (some ⟨w.heap.size,0,none⟩) 1 1]).run prog (w.alloc (.cells news.toArray e))= .ok (.slice ao' (n+1) vc') w')/\w'.ownsRow B e k (.slice ao' (n+1) vc') (n+1) (xs++news)/\(∀b,b<w.heap.size->vo.ownBlock≠some b->w'.heap[b]?=w.heap[b]?)/\w.heap.size<=w'.heap.size/\Below B w w'/\((Value.slice ao' (n+1) vc').ownBlock=vo.ownBlock∨∃q,(Value.slice ao' (n+1) vc').ownBlock=some q/\w.heap.size<=q):=by
 have hal:Below w.heap.size w (w.alloc (.cells news.toArray e)):=(qR w).alloc qN _;have hnew:=heap_alloc_new w (.cells news.toArray e);obtain⟨i0,hi,hz0,hz1,hz2⟩:=info_parts hinfo
 have hcells:∀j u,news[j]?=some u->(w.alloc (.cells news.toArray e)).cell? ((⟨w.heap.size,0,none⟩:Addr).add j)=some u:=fun j u hj=>by
  rw[L.addr_add,Nat.zero_add];exact K.zah hnew (by simpa using hj)
 have hyb:(n+1)*y<=140737488355328:=Nat.le_trans (Nat.mul_le_mul (Nat.succ_le_succ hl) hy) (by decide);have hw1:(w.alloc (.cells news.toArray e)).heap.size=w.heap.size+1:=by simp
 have fin:∀(v':Value) (w':World),(∀ty,(Builtin.append_ #[sl,sl] ty #[vo,.slice (some ⟨w.heap.size,0,none⟩) 1 1]).run prog (w.alloc (.cells news.toArray e))= .ok v' w')->w'.ownsRow B e k v' (n+1) (xs++news)->(w.alloc (.cells news.toArray e)).grownBy w' vo.ownBlock->(v'.ownBlock=vo.ownBlock∨∃q,v'.ownBlock=some q/\w.heap.size<=q)->∃ao' vc' w',(∀ty,(Builtin.append_ #[sl,sl] ty #[vo,.slice (some ⟨w.heap.size,0,none⟩) 1 1]).run prog (w.alloc (.cells news.toArray e))= .ok (.slice ao' (n+1) vc') w')/\w'.ownsRow B e k (.slice ao' (n+1) vc') (n+1) (xs++news)/\(∀b,b<w.heap.size->vo.ownBlock≠some b->w'.heap[b]?=w.heap[b]?)/\w.heap.size<=w'.heap.size/\Below B w w'/\((Value.slice ao' (n+1) vc').ownBlock=vo.ownBlock∨∃q,(Value.slice ao' (n+1) vc').ownBlock=some q/\w.heap.size<=q):=by
  intro v' w' run own' gr hd
  obtain⟨ao',vc',rfl⟩:∃ao cap,v'= .slice ao (n+1) cap:=by
   rcases own'.2 with ⟨hv,h0⟩|⟨g,cap,cur,hv,_⟩
   ·omega
   ·exact⟨_,cap,hv⟩
  refine⟨ao',vc',w',run,own',fun b hb hne=> ?_,?_,(hal.mono hB).grown gr (by simp;omega) fun k hk=>(own.lt k hk).1,hd⟩
  ·rw[gr.block b (by simp;omega) (fun e=>hne e.symm)];exact hal.block b hb
  ·have:=gr.size;simp at this;omega
 have blk:∀(v':Value) (w':World) (G:Nat),w'.ownsRow G e k v' (n+1) (xs++news)->w.heap.size<=G->∃q,v'.ownBlock=some q/\w.heap.size<=q:=fun v' w' G h hG=>by
  rcases h.2 with ⟨_,h1⟩|⟨g,cap,cur,h,hg,_⟩
  ·omega
  ·exact⟨g,by rw[h];rfl,by omega⟩
 rcases own.2 with ⟨hv,h0⟩|⟨g,cap,cur,hv,hBg,hg,hnc,hcm,hcs,htk⟩
 ·subst h0 hv;have hx:xs= []:=List.eq_nil_of_length_eq_zero (by have:=own.1;omega);subst hx;obtain⟨v',w',hrun,r1,r2,_⟩:=run_append_own (P:=prog) (w.alloc (.cells news.toArray e)) w.heap.size sl sl e i0 _ k y hs hi hz0 hz1 hz2 hzk hk (.slice none 0 0) 0 [] (World.ownsRow_nil _ _ _ _) ⟨w.heap.size,0,none⟩ 1 1 news (by rw[hn];omega) hcells h1 (by unfold maxLen;omega) hyb (by simp);exact fin v' w' (fun ty=>hrun) (L.zar r1 hB) r2 (.inr (blk v' w' _ r1 qN))
 ·subst hv
  by_cases hf:n+1<=cap
  ·obtain⟨w',hrun,r1,r2⟩:=run_append_fits (P:=prog) (w.alloc (.cells news.toArray e)) B sl sl e i0 k hs hi hz1 g n cap xs (own.alloc _) ⟨w.heap.size,0,none⟩ 1 1 news (by rw[hn];omega) hcells h1 hf;exact fin _ w' (fun ty=>hrun) r1 r2 (.inl rfl)
  ·obtain⟨v',w',hrun,r1,r2⟩:=run_append_arg_grows (P:=prog) (w.alloc (.cells news.toArray e)) sl sl e i0 _ k y hs hi hz0 hz1 hz2 hzk hk ⟨g,0,none⟩ n cap xs (by have:=own.1;omega) (fun j u hj=>World.ownsRow.cells (own.alloc _) (g:=g) rfl j u hj) ⟨w.heap.size,0,none⟩ 1 1 news (by rw[hn];omega) hcells (by omega) (by unfold maxLen;omega) hyb;exact fin v' w' (fun ty=>hrun) (L.zar r1 (by omega)) ⟨r2.os,r2.tape,r2.output,r2.size,fun k hk _=>r2.block k hk (by simp)⟩ (.inr (blk v' w' _ r1 (by omega)))
abbrev longs (l:List Int):List Value:=l.map (Value.int .i64)
abbrev Ow (w:World) (F:Nat) (v:Value) (l:List Int):Prop:=w.ownsRow F 3 1 v l.length (longs l)
theorem Ow.rd {w:World}{F:Nat}{v:Value}{l:List Int}(h:Ow w F v l):L.Rd w v .i64 l:=L.Rd.zaz h
def Apt (a b:Value):Prop:=∀q,a.ownBlock=some q->b.ownBlock≠some q
theorem Apt.symm {a b:Value}(h:Apt a b):Apt b a:=fun q h1 h2=>h q h2 h1
theorem zen (b:Value):Apt (.slice none 0 0) b:=fun q h=>by cases h
theorem push {w:World}{F:Nat}{v:Value}{l:List Int}(own:Ow w F v l)(hF:F<=w.heap.size)(hl:l.length<=100000)(z:Int) :
  ∃v' w',(∀ty,(Builtin.append_ #[45,45] ty #[v,.slice (some ⟨w.heap.size,0,none⟩) 1 1]).run prog (w.alloc (.cells #[.int .i64 z] 3))= .ok v' w')/\Ow w' F v' (l++ [z])/\Below F w w'/\(∀b,b<w.heap.size->v.ownBlock≠some b->w'.heap[b]?=w.heap[b]?)/\w.heap.size<=w'.heap.size/\(∀(u:Value) (e:TypeId) (k n:Nat) (xs:List Value) (G:Nat),w.ownsRow G e k u n xs->Apt v u->w'.ownsRow G e k u n xs/\Apt v' u):=by
 obtain⟨ao,cap,w',run,own',kp,sz,be,nw⟩:=app (sl:=45) underlying45 Tryz.infoInt rfl (by decide) (by decide) own hF (by omega) [.int .i64 z] rfl (fun u hu=>by simp at hu;subst hu;rfl);refine⟨_,w',run,?_,be,kp,sz,fun u e k n xs G hu ha=>⟨Al.held hu fun q hq hlt=>kp q hlt fun h=>ha q h hq,fun q h1 h2=> ?_⟩⟩
 ·unfold Ow longs;rw[List.map_append,List.length_append];exact own'
 ·rcases nw with h | ⟨p,h,hp⟩
  ·exact ha q (h.symm.trans h1) h2
  ·rw[h] at h1;have:=(hu.lt q h2).2;have:=Option.some.inj h1;omega
structure Tri (w:World) (F:Nat) (a b c:Value) (k:List Int×List Int×List Int):Prop where
 o1:Ow w F a k.1
 o2:Ow w F b k.2.1
 o3:Ow w F c k.2.2
 a12:Apt a b
 a13:Apt a c
 a23:Apt b c
theorem Tri.start (w:World)(F:Nat):Tri w F (.slice none 0 0) (.slice none 0 0) (.slice none 0 0) ([],[],[]):=⟨World.ownsRow_nil _ _ _ _,World.ownsRow_nil _ _ _ _,World.ownsRow_nil _ _ _ _,zen _,zen _,zen _⟩
theorem Tri.push1 {w:World}{F:Nat}{a b c:Value}{k:List Int×List Int×List Int}(h:Tri w F a b c k)(hF:F<=w.heap.size)(hl:k.1.length<=100000)(z:Int) :
  ∃v' w',(∀ty,(Builtin.append_ #[45,45] ty #[a,.slice (some ⟨w.heap.size,0,none⟩) 1 1]).run prog (w.alloc (.cells #[.int .i64 z] 3))= .ok v' w')/\Tri w' F v' b c (k.1++ [z],k.2.1,k.2.2)/\Below F w w'/\w.heap.size<=w'.heap.size:=by
 obtain⟨v',w',run,own,be,_,sz,kp⟩:=push h.o1 hF hl z;obtain⟨p1,p2⟩:=kp b _ _ _ _ _ h.o2 h.a12;obtain⟨q1,q2⟩:=kp c _ _ _ _ _ h.o3 h.a13;exact⟨v',w',run,⟨own,p1,q1,p2,q2,h.a23⟩,be,sz⟩
theorem Tri.push2 {w:World}{F:Nat}{a b c:Value}{k:List Int×List Int×List Int}(h:Tri w F a b c k)(hF:F<=w.heap.size)(hl:k.2.1.length<=100000)(z:Int) :
  ∃v' w',(∀ty,(Builtin.append_ #[45,45] ty #[b,.slice (some ⟨w.heap.size,0,none⟩) 1 1]).run prog (w.alloc (.cells #[.int .i64 z] 3))= .ok v' w')/\Tri w' F a v' c (k.1,k.2.1++ [z],k.2.2)/\Below F w w'/\w.heap.size<=w'.heap.size:=by
 obtain⟨v',w',run,own,be,_,sz,kp⟩:=push h.o2 hF hl z;obtain⟨p1,p2⟩:=kp a _ _ _ _ _ h.o1 h.a12.symm;obtain⟨q1,q2⟩:=kp c _ _ _ _ _ h.o3 h.a23;exact⟨v',w',run,⟨p1,own,q1,p2.symm,h.a13,q2⟩,be,sz⟩
theorem Tri.push3 {w:World}{F:Nat}{a b c:Value}{k:List Int×List Int×List Int}(h:Tri w F a b c k)(hF:F<=w.heap.size)(hl:k.2.2.length<=100000)(z:Int) :
  ∃v' w',(∀ty,(Builtin.append_ #[45,45] ty #[c,.slice (some ⟨w.heap.size,0,none⟩) 1 1]).run prog (w.alloc (.cells #[.int .i64 z] 3))= .ok v' w')/\Tri w' F a b v' (k.1,k.2.1,k.2.2++ [z])/\Below F w w'/\w.heap.size<=w'.heap.size:=by
 obtain⟨v',w',run,own,be,_,sz,kp⟩:=push h.o3 hF hl z;obtain⟨p1,p2⟩:=kp a _ _ _ _ _ h.o1 h.a13.symm;obtain⟨q1,q2⟩:=kp b _ _ _ _ _ h.o2 h.a23.symm;exact⟨v',w',run,⟨p1,q1,own,h.a12,p2.symm,q2.symm⟩,be,sz⟩
theorem Tri.base {w:World}{F G:Nat}{a b c:Value}{k:List Int×List Int×List Int}(h:Tri w F a b c k)(hG:G<=F):Tri w G a b c k:=⟨L.zar h.o1 hG,L.zar h.o2 hG,L.zar h.o3 hG,h.a12,h.a13,h.a23⟩
theorem Tri.below {w w':World}{F:Nat}{a b c:Value}{k:List Int×List Int×List Int}(h:Tri w F a b c k)(hb:Below w.heap.size w w'):Tri w' F a b c k :=
 ⟨L.zao h.o1 hb qN,L.zao h.o2 hb qN,L.zao h.o3 hb qN,h.a12,h.a13,h.a23⟩
end Od
