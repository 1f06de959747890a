/-
 Whatever comes in, where it is of bulk at most 1048576: scripttop.TopFile returns true, and each argument reads behind the call as it read before. (The row lists tables and sentinels of the library; the card ties them to the program's text.)
-/
import Derived.Test.YtmcljejgbikbhaaGreatDoorMath
import Derived.Test.YtmcljejgbikbhaaGreatDoorLawTpFile
import Derived.Test.YtmcljejgbikbhaaGreatDoorTClass4
namespace Go.Proofs.YtmcljejgbikbhaaGreatDoor
open Go.ChangeShapes Go.WideShapes Go.ChangeAt Go.RowKit
open Go.ChangeMaps (open_string shut_string)
set_option linter.unusedVariables false
set_option linter.unusedSimpArgs false
set_option maxRecDepth 100000 in
theorem topFileArgs {H:Type}{enc:TypeId×Value->H}{W:World}{base:Nat}{args:Array Value}{ds gs:List (DataW H)}{p:List MemPlace}
  (hval:∀(j:Nat) t v,Tryz.f3.params[j]?=some t->args[j]?=some v->Value.okWide Tryz.prog W .any base t v)
  (hA:DataW.TrodAll enc Tryz.prog W 0 (fun _=>true) true Tryz.f3.params.toList args.toList ds p) (hk:Rows.uptoSmall H (ds++gs)=true) :
  Calls Tryz.prog 3 args W fun e W'=>e= .returned (.bool true)/\Below W.heap.size W W':=by
 rw[Tryz.params3] at hA hval
 obtain⟨v0,vs0,d0,ds0,p0,q0,hargs,rfl,rfl,h0,r0⟩:=trodAll_cons hA
 obtain⟨v1,vs1,d1,ds1,p1,q1,rfl,rfl,rfl,h1,r1⟩:=trodAll_cons r0
 obtain⟨rfl,rfl,rfl⟩:=trodAll_nil r1
 obtain rfl:args=#[v0,v1]:=by cases args;simp_all
 obtain⟨a0,rfl,rfl,rfl,w0⟩:=open_string Tryz.underlying9 (hval 0 9 v0 rfl rfl) h0
 obtain⟨a1,rfl,rfl,rfl,w1⟩:=open_string Tryz.underlying9 (hval 1 9 v1 rfl rfl) h1
 have hb:=bulk_bd hk
 simp only[bulk_app,Rows.uptoBulkAll,bulk_string] at hb
 exact topFile_any class_ok W a0 a1 (by omega) (by omega)
set_option maxRecDepth 100000 in
theorem topFileContract (H:Type)(enc:TypeId×Value->H)(F:Stop.Interp)(W:World)(base:Nat)(args:Array Value)(ds gs:List (DataW H))(before:List MemPlace)
  (hval:∀(j:Nat) t v,Tryz.f3.params[j]?=some t->args[j]?=some v->Value.okWide Tryz.prog W .any base t v)
  (hW:DataW.Whole enc Tryz.prog Tryz.f3.params.toList (Rows.OpenSpec.upto Rows.topFileSpec).vars false W args.toList ds gs before) (hk:∀k,(Rows.OpenSpec.upto Rows.topFileSpec).cond=some k->k H (ds++gs)=true) (hL:laidMetH Tryz.prog Rows.topFileUptoRow.laid W) :
  Calls Tryz.prog 3 args W fun e W'=>∃v,e= .returned v/\((Rows.OpenSpec.upto Rows.topFileSpec).at F).post enc Tryz.prog Tryz.f3 false true false false W args v W':=by
 have hW':=hW
 obtain⟨p,q,hA0,hV,rfl,hfz,hnd⟩:=hW
 have hA:DataW.TrodAll enc Tryz.prog W 0 (fun _=>true) true Tryz.f3.params.toList args.toList ds p:=hA0
 obtain⟨rfl,rfl⟩:=trodVars_none hV
 refine(topFileArgs hval hA (hk Rows.uptoSmall rfl)).mono fun e W' ⟨he,bel⟩=> ?_
 subst he
 have hA':=trodAll_below Tryz.laidOut bel _ _ _ _ (by kernel_rfl) hA
 obtain⟨x0,x1,rfl⟩:∃x0 x1,ds= [x0,x1]:=by
  rw[Tryz.params3] at hA
  obtain⟨v0,vs0,d0,ds0,p0,q0,hargs,rfl,rfl,h0,r0⟩:=trodAll_cons hA
  obtain⟨v1,vs1,d1,ds1,p1,q1,rfl,rfl,rfl,h1,r1⟩:=trodAll_cons r0
  obtain⟨rfl,rfl,rfl⟩:=trodAll_nil r1
  exact⟨_,_,rfl⟩
 exact⟨_,rfl,_,_,_,[],p,[],hW',trodAll_mk1 (shut_bool Tryz.underlying4 _),hA',rfl,bel.frame _,fun h=>by cases h⟩
noncomputable def topFileLow:Nat:=(World.holding Tryz.prog default ⟨#[],#[],[]⟩).heap.size
noncomputable def topFileWorld (os:Os):World :=
 let w0:=World.holding Tryz.prog os ⟨#[.cells #[.string ⟨#[105,110,118,97,108,105,100,32,115,121,110,116,97,120]⟩] 362,.cells #[.string ⟨#[118,97,108,117,101,32,111,117,116,32,111,102,32,114,97,110,103,101]⟩] 362],#[],[]⟩
 { w0 with heap:=((((w0.heap.modify 1 (relay pow10Cells)).modify 2 (relay tab32Cells)).modify 3 (relay tab64Cells)).modify 4 (relay #[.iface 360 (.pointer (some ⟨topFileLow,0,none⟩))])).modify 5 (relay #[.iface 360 (.pointer (some ⟨topFileLow+1,0,none⟩))]) }
theorem topFileMet (os:Os):laidMet Tryz.prog Rows.topFileUptoRow.laid ((topFileWorld os).forCall (fun _ _=>0) ⟨#[],#[.string .empty,.string .empty],[]⟩).memory :=
 laidMet_of_run' 8 (by kernel_rfl) (by kernel_rfl)
theorem topFileReads (os:Os){H:Type}(enc:TypeId×Value->H):∃places,DataW.whole enc Tryz.prog ((topFileWorld os).forCall (fun _ _=>0) ⟨#[],#[.string .empty,.string .empty],[]⟩).memory Tryz.f3.params.toList (Rows.OpenSpec.upto Rows.topFileSpec).vars false (#[.string .empty,.string .empty]:Array Value).toList 8=some ([.lit (.string []),.lit (.string [])],[],places) :=
 ⟨[],by kernel_rfl⟩
set_option maxRecDepth 100000 in
theorem topFileLifted (os:Os)(started:os.Started)(H:Type)(enc:TypeId×Value->H)(F:Stop.Interp) :
  ReturnsInHanded {} Tryz.checked os 3 .any ((Rows.OpenSpec.upto Rows.topFileSpec).preRow enc Tryz.prog Tryz.f3 Rows.topFileUptoRow.domain false Rows.topFileUptoRow.laid) (((Rows.OpenSpec.upto Rows.topFileSpec).at F).post enc Tryz.prog Tryz.f3 false true false false):=by
 obtain⟨places,hx⟩:=topFileReads os enc
 refine returnsInHanded_of_row (C:=Tryz.checked) (s:=(Rows.OpenSpec.upto Rows.topFileSpec)) Tryz.own started (by kernel_rfl) Tryz.func3
  (witness_row_at (enc:=enc) (C:=Tryz.checked) false (topFileWorld os) #[.string .empty,.string .empty] rfl (by kernel_rfl) (by kernel_rfl) (by kernel_rfl)
   (OpenSpec.preRow_of_cond 8 hx (by kernel_rfl) (fun k hk=>by cases hk;kernel_rfl) (by kernel_rfl) (topFileMet os))) ?_
 intro W base args ds gs before hval hW _ hk _ hL _ _
 exact topFileContract H enc F W base args ds gs before hval hW hk hL
theorem topFileC0:(Rows.topFileUptoRow.inPlace==Tryz.pinned.checked.prog.inPlace 3)=true:=by kernel_rfl
theorem topFileC1:(Rows.topFileUptoRow.unfollowed==Tryz.pinned.checked.prog.unfollowed 3)=true:=by kernel_rfl
theorem topFileC2:(Rows.topFileUptoRow.recurses==Tryz.pinned.checked.prog.recurses 3)=true:=by kernel_rfl
theorem topFileC3:(Rows.topFileUptoRow.named==Tryz.pinned.checked.prog.varsNamed 3)=true:=by kernel_rfl
theorem topFileClosed:joinedFacts Tryz.pinned.checked.prog 3 Tryz.f3 (Rows.OpenSpec.upto Rows.topFileSpec).bare Rows.topFileUptoRow=true:=by
 unfold joinedFacts
 rw[topFileC0,topFileC1,topFileC2,topFileC3]
 kernel_rfl
theorem topFileNamed:Tryz.pinned.checked.prog.funcNamed Rows.topFileUptoRow.func=some 3:=by kernel_rfl
theorem topFileSaid:Rows.TopFileUptoSaid :=
 OpenClaim.holds_of_cond 3 Tryz.f3 rfl rfl rfl rfl rfl rfl rfl ⟨rfl,rfl,rfl,rfl,rfl⟩ rfl rfl rfl rfl rfl topFileNamed Tryz.func3 topFileClosed
  (of_decide_eq_true (by kernel_rfl)) (by unfold Func.isWrapper;first | (rw[if_pos (by decide +kernel)];kernel_rfl) | (rw[if_neg (by decide +kernel)];exact⟨rfl,rfl⟩))
  (fun os started H enc _ F=>by rw[OpenClaim.pre_eq_preRow];exact topFileLifted os started H enc F)
theorem topFilePlain (f:FuncId)(fn:Func)(hf:Tryz.pinned.checked.prog.funcNamed "scriptshift/scripttop.TopFile"=some f)(hfn:Tryz.pinned.checked.prog.funcs[f]?=some fn) :
  true=Tryz.pinned.checked.prog.looks []/\∀(j:Nat) t,fn.params[j]?=some t->Tryz.pinned.checked.prog.wantsStandIn t=false:=by
 obtain rfl:f=3:=Option.some.inj ((show Tryz.prog.funcNamed "scriptshift/scripttop.TopFile"=some 3 by kernel_rfl).symm.trans hf) |>.symm
 obtain rfl:fn=Tryz.f3:=(Option.some.inj (Tryz.func3.symm.trans hfn)).symm
 refine⟨by kernel_rfl,fun j t ht=> ?_⟩
 rw[Tryz.params3] at ht
 have hm:=Array.mem_of_getElem? ht
 have hm2:t=9:=by simpa using hm
 subst hm2
 exact(show Tryz.prog.wantsStandIn 9=false by kernel_rfl)
theorem topFile_card:Rows.TopFileUptoCardSaid :=
 Claim7.holds_tied_plain_at .later [] _ _ _ _ topFileSaid (fun _ h=>by cases h) (by kernel_rfl) (fun _ h=>by cases h) topFileUpto_row_tie rfl ⟨rfl,rfl⟩ (by kernel_rfl) rfl topFilePlain (by kernel_rfl)
#print axioms topFile_card
end Go.Proofs.YtmcljejgbikbhaaGreatDoor
