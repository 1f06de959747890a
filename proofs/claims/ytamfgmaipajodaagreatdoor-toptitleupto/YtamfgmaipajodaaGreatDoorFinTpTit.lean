/-
 Whatever comes in, where it is of bulk at most 1048576: scripttop.TopTitle returns true, and each argument reads behind the call as it read before. (The row lists tables and sentinels of the library; the card ties them to the program's text.)
-/
import Derived.Test.YtamfgmaipajodaaGreatDoorUni
import Derived.Test.YtamfgmaipajodaaGreatDoorTClass2
import Derived.Test.YtamfgmaipajodaaGreatDoorTClass4
namespace Go.Proofs.YtamfgmaipajodaaGreatDoor
open Go.ChangeShapes Go.WideShapes Go.ChangeAt Go.RowKit
open Go.ChangeMaps (open_string shut_string)
set_option linter.unusedVariables false
set_option linter.unusedSimpArgs false
set_option maxRecDepth 100000 in
theorem topTitleArgs {H:Type}{enc:TypeId×Value->H}{W:World}{base:Nat}{args:Array Value}{ds gs:List (DataW H)}{p:List MemPlace}
  (hval:∀(j:Nat) t v,Tryz.f6.params[j]?=some t->args[j]?=some v->Value.okWide Tryz.prog W .any base t v)
  (hA:DataW.TrodAll enc Tryz.prog W 0 (fun _=>true) true Tryz.f6.params.toList args.toList ds p) (hk:Rows.uptoSmall H (ds++gs)=true) :
  Calls Tryz.prog 6 args W fun e W'=>e= .returned (.bool true)/\Below W.heap.size W W':=by
 rw[Tryz.params6] at hA hval;obtain⟨v0,vs0,d0,ds0,p0,q0,hargs,rfl,rfl,h0,r0⟩:=trodAll_cons hA;obtain⟨v1,vs1,d1,ds1,p1,q1,rfl,rfl,rfl,h1,r1⟩:=trodAll_cons r0;obtain⟨rfl,rfl,rfl⟩:=trodAll_nil r1;obtain rfl:args=#[v0,v1]:=by cases args;simp_all
 obtain⟨z0,R0,F0,hbk0,hcp0⟩:=zre (hval 0 24 v0 rfl rfl) h0;obtain⟨a1,rfl,rfl,rfl,w1⟩:=open_string Tryz.underlying9 (hval 1 9 v1 rfl rfl) h1;have hb:=zu9 hk;simp only[zlf,Rows.uptoBulkAll,zka] at hb;exact zhe zsx W _ z0 R0 F0 a1 (by omega)
set_option maxRecDepth 100000 in
theorem topTitleContract (H:Type)(enc:TypeId×Value->H)(F:Stop.Interp)(W:World)(base:Nat)(args:Array Value)(ds gs:List (DataW H))(before:List MemPlace)
  (hval:∀(j:Nat) t v,Tryz.f6.params[j]?=some t->args[j]?=some v->Value.okWide Tryz.prog W .any base t v)
  (hW:DataW.Whole enc Tryz.prog Tryz.f6.params.toList (Rows.OpenSpec.upto Rows.topTitleSpec).vars false W args.toList ds gs before) (hk:∀k,(Rows.OpenSpec.upto Rows.topTitleSpec).cond=some k->k H (ds++gs)=true) (hL:laidMetH Tryz.prog Rows.topTitleUptoRow.laid W) :
  Calls Tryz.prog 6 args W fun e W'=>∃v,e= .returned v/\((Rows.OpenSpec.upto Rows.topTitleSpec).at F).post enc Tryz.prog Tryz.f6 false true false false W args v W':=by
 have hW':=hW;obtain⟨p,q,hA0,hV,rfl,hfz,hnd⟩:=hW;have hA:DataW.TrodAll enc Tryz.prog W 0 (fun _=>true) true Tryz.f6.params.toList args.toList ds p:=hA0;obtain⟨rfl,rfl⟩:=trodVars_none hV;refine(topTitleArgs hval hA (hk Rows.uptoSmall rfl)).mono fun e W' ⟨he,bel⟩=> ?_
 subst he;have hA':=zdd Tryz.laidOut bel _ _ _ _ (by kernel_rfl) hA
 obtain⟨x0,x1,rfl⟩:∃x0 x1,ds= [x0,x1]:=by
  rw[Tryz.params6] at hA;obtain⟨v0,vs0,d0,ds0,p0,q0,hargs,rfl,rfl,h0,r0⟩:=trodAll_cons hA;obtain⟨v1,vs1,d1,ds1,p1,q1,rfl,rfl,rfl,h1,r1⟩:=trodAll_cons r0;obtain⟨rfl,rfl,rfl⟩:=trodAll_nil r1;exact⟨_,_,rfl⟩
 exact⟨_,rfl,_,_,_,[],p,[],hW',trodAll_mk1 (shut_bool Tryz.underlying4 _),hA',rfl,bel.frame _,fun h=>by cases h⟩
noncomputable def topTitleLow:Nat:=(World.holding Tryz.prog default ⟨#[],#[],[]⟩).heap.size
noncomputable def topTitleWorld (os:Os):World :=
 let w0:=World.holding Tryz.prog os ⟨#[.cells #[.string ⟨#[105,110,118,97,108,105,100,32,115,121,110,116,97,120]⟩] 365,.cells #[.string ⟨#[118,97,108,117,101,32,111,117,116,32,111,102,32,114,97,110,103,101]⟩] 365],#[],[]⟩
 { w0 with heap:=((((w0.heap.modify 3 (relay pow10Cells)).modify 4 (relay tab32Cells)).modify 5 (relay tab64Cells)).modify 1 (relay #[.iface 363 (.pointer (some ⟨topTitleLow,0,none⟩))])).modify 2 (relay #[.iface 363 (.pointer (some ⟨topTitleLow+1,0,none⟩))]) }
theorem topTitleMet (os:Os):laidMet Tryz.prog Rows.topTitleUptoRow.laid ((topTitleWorld os).forCall (fun _ _=>0) ⟨#[],#[.slice none 0 0,.string .empty],[]⟩).memory :=
 laidMet_of_run' 8 (by kernel_rfl) (by kernel_rfl)
theorem topTitleReads (os:Os){H:Type}(enc:TypeId×Value->H):∃places,DataW.whole enc Tryz.prog ((topTitleWorld os).forCall (fun _ _=>0) ⟨#[],#[.slice none 0 0,.string .empty],[]⟩).memory Tryz.f6.params.toList (Rows.OpenSpec.upto Rows.topTitleSpec).vars false (#[.slice none 0 0,.string .empty]:Array Value).toList 8=some ([.nil,.lit (.string [])],[],places) :=
 ⟨[],by kernel_rfl⟩
set_option maxRecDepth 100000 in
theorem topTitleLifted (os:Os)(started:os.Started)(H:Type)(enc:TypeId×Value->H)(F:Stop.Interp) :
  ReturnsInHanded {} Tryz.checked os 6 .any ((Rows.OpenSpec.upto Rows.topTitleSpec).preRow enc Tryz.prog Tryz.f6 Rows.topTitleUptoRow.domain false Rows.topTitleUptoRow.laid) (((Rows.OpenSpec.upto Rows.topTitleSpec).at F).post enc Tryz.prog Tryz.f6 false true false false):=by
 obtain⟨places,hx⟩:=topTitleReads os enc
 refine returnsInHanded_of_row (C:=Tryz.checked) (s:=(Rows.OpenSpec.upto Rows.topTitleSpec)) Tryz.own started (by kernel_rfl) Tryz.func6
  (witness_row_at (enc:=enc) (C:=Tryz.checked) false (topTitleWorld os) #[.slice none 0 0,.string .empty] rfl (by kernel_rfl) (by kernel_rfl) (by kernel_rfl)
   (OpenSpec.preRow_of_cond 8 hx (by kernel_rfl) (fun k hk=>by cases hk;kernel_rfl) (by kernel_rfl) (topTitleMet os))) ?_
 intro W base args ds gs before hval hW _ hk hsz hL _ _;exact topTitleContract H enc F W base args ds gs before hval hW hk hL
theorem topTitleC0:(Rows.topTitleUptoRow.inPlace==Tryz.pinned.checked.prog.inPlace 6)=true:=by kernel_rfl
theorem topTitleC1:(Rows.topTitleUptoRow.unfollowed==Tryz.pinned.checked.prog.unfollowed 6)=true:=by kernel_rfl
theorem topTitleC2:(Rows.topTitleUptoRow.recurses==Tryz.pinned.checked.prog.recurses 6)=true:=by kernel_rfl
theorem topTitleC3:(Rows.topTitleUptoRow.named==Tryz.pinned.checked.prog.varsNamed 6)=true:=by kernel_rfl
theorem topTitleClosed:joinedFacts Tryz.pinned.checked.prog 6 Tryz.f6 (Rows.OpenSpec.upto Rows.topTitleSpec).bare Rows.topTitleUptoRow=true:=by
 unfold joinedFacts;rw[topTitleC0,topTitleC1,topTitleC2,topTitleC3]
 kernel_rfl
theorem topTitleNamed:Tryz.pinned.checked.prog.funcNamed Rows.topTitleUptoRow.func=some 6:=by kernel_rfl
theorem topTitleSaid:Rows.TopTitleUptoSaid :=
 OpenClaim.holds_of_cond 6 Tryz.f6 rfl rfl rfl rfl rfl rfl rfl ⟨rfl,rfl,rfl,rfl,rfl⟩ rfl rfl rfl rfl rfl topTitleNamed Tryz.func6 topTitleClosed
  (of_decide_eq_true (by kernel_rfl)) (by unfold Func.isWrapper;first | (rw[if_pos (by decide +kernel)];kernel_rfl) | (rw[if_neg (by decide +kernel)];exact⟨rfl,rfl⟩))
  (fun os started H enc _ F=>by rw[OpenClaim.pre_eq_preRow];exact topTitleLifted os started H enc F)
theorem topTitlePlain (f:FuncId)(fn:Func)(hf:Tryz.pinned.checked.prog.funcNamed "scriptshift/scripttop.TopTitle"=some f)(hfn:Tryz.pinned.checked.prog.funcs[f]?=some fn) :
  true=Tryz.pinned.checked.prog.looks []/\∀(j:Nat) t,fn.params[j]?=some t->Tryz.pinned.checked.prog.wantsStandIn t=false:=by
 obtain rfl:f=6:=Option.some.inj ((show Tryz.prog.funcNamed "scriptshift/scripttop.TopTitle"=some 6 by kernel_rfl).symm.trans hf) |>.symm
 obtain rfl:fn=Tryz.f6:=(Option.some.inj (Tryz.func6.symm.trans hfn)).symm;refine⟨by kernel_rfl,fun j t ht=> ?_⟩;rw[Tryz.params6] at ht;have hm:=Array.mem_of_getElem? ht;have hm2:t=24∨t=9:=by simpa using hm
 rcases hm2 with rfl | rfl
 ·exact(show Tryz.prog.wantsStandIn 24=false by kernel_rfl)
 ·exact(show Tryz.prog.wantsStandIn 9=false by kernel_rfl)
theorem topTitle_card:Rows.TopTitleUptoCardSaid :=
 Claim7.holds_tied_plain_at .later [] _ _ _ _ topTitleSaid (fun _ h=>by cases h) (by kernel_rfl) (fun _ h=>by cases h) topTitleUpto_row_tie rfl ⟨rfl,rfl⟩ (by kernel_rfl) rfl topTitlePlain (by kernel_rfl)
#print axioms topTitle_card
end Go.Proofs.YtamfgmaipajodaaGreatDoor
