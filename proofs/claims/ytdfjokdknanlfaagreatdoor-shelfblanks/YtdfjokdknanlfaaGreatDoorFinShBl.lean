/-
 Whatever comes in: scriptlaw16.ShelfBlanks returns true, and each argument reads behind the call as it read before. (The row lists tables and sentinels of the library; the card ties them to the program's text.)
-/
import Derived.Test.YtdfjokdknanlfaaGreatDoorMath
import Derived.Test.YtdfjokdknanlfaaGreatDoorLawShBl
import Derived.Test.YtdfjokdknanlfaaGreatDoorTClass4
namespace Go.Proofs.YtdfjokdknanlfaaGreatDoor
open Go.ChangeShapes Go.WideShapes Go.ChangeAt Go.RowKit
open Go.ChangeMaps (open_string shut_string)
set_option linter.unusedVariables false
set_option linter.unusedSimpArgs false
set_option maxRecDepth 100000 in
theorem shelfBlanksArgs {H:Type}{enc:TypeId×Value->H}{W:World}{base:Nat}{args:Array Value}{ds gs:List (DataW H)}{p:List MemPlace}
  (hval:∀(j:Nat) t v,Tryz.f3.params[j]?=some t->args[j]?=some v->Value.okWide Tryz.prog W .any base t v)
  (hA:DataW.TrodAll enc Tryz.prog W 0 (fun _=>true) true Tryz.f3.params.toList args.toList ds p) :
  Calls Tryz.prog 3 args W fun e W'=>e= .returned (.bool true)/\Below W.heap.size W W':=by
 rw[Tryz.params3] at hA hval;obtain⟨v0,vs0,d0,ds0,p0,q0,hargs,rfl,rfl,h0,r0⟩:=trodAll_cons hA;obtain⟨rfl,rfl,rfl⟩:=trodAll_nil r0;obtain rfl:args=#[v0]:=by cases args;simp_all
 obtain⟨a0,rfl,rfl,rfl,w0⟩:=open_string Tryz.underlying9 (hval 0 9 v0 rfl rfl) h0;exact zeo zqt W a0
set_option maxRecDepth 100000 in
theorem shelfBlanksContract (H:Type)(enc:TypeId×Value->H)(F:Stop.Interp)(W:World)(base:Nat)(args:Array Value)(ds gs:List (DataW H))(before:List MemPlace)
  (hval:∀(j:Nat) t v,Tryz.f3.params[j]?=some t->args[j]?=some v->Value.okWide Tryz.prog W .any base t v)
  (hW:DataW.Whole enc Tryz.prog Tryz.f3.params.toList (OpenSpec.ofChange Rows.shelfBlanksSpec).vars false W args.toList ds gs before) (hL:laidMetH Tryz.prog Rows.shelfBlanksRow.laid W) :
  Calls Tryz.prog 3 args W fun e W'=>∃v,e= .returned v/\((OpenSpec.ofChange Rows.shelfBlanksSpec).at F).post enc Tryz.prog Tryz.f3 false true false false W args v W':=by
 have hW':=hW;obtain⟨p,q,hA0,hV,rfl,hfz,hnd⟩:=hW;have hA:DataW.TrodAll enc Tryz.prog W 0 (fun _=>true) true Tryz.f3.params.toList args.toList ds p:=hA0;obtain⟨rfl,rfl⟩:=trodVars_none hV;refine(shelfBlanksArgs hval hA (gs:= [])).mono fun e W' ⟨he,bel⟩=> ?_
 subst he;have hA':=zc6 Tryz.laidOut bel _ _ _ _ (by kernel_rfl) hA
 obtain⟨x0,rfl⟩:∃x0,ds= [x0]:=by
  rw[Tryz.params3] at hA;obtain⟨v0,vs0,d0,ds0,p0,q0,hargs,rfl,rfl,h0,r0⟩:=trodAll_cons hA;obtain⟨rfl,rfl,rfl⟩:=trodAll_nil r0;exact⟨_,rfl⟩
 exact⟨_,rfl,_,_,_,[],p,[],hW',trodAll_mk1 (shut_bool Tryz.underlying4 _),hA',rfl,bel.frame _,fun h=>by cases h⟩
noncomputable def shelfBlanksLow:Nat:=(World.holding Tryz.prog default ⟨#[],#[],[]⟩).heap.size
noncomputable def shelfBlanksWorld (os:Os):World :=
 let w0:=World.holding Tryz.prog os ⟨#[.cells #[.string ⟨#[105,110,118,97,108,105,100,32,115,121,110,116,97,120]⟩] 278,.cells #[.string ⟨#[118,97,108,117,101,32,111,117,116,32,111,102,32,114,97,110,103,101]⟩] 278],#[],[]⟩
 { w0 with heap:=((((w0.heap.modify 3 (relay pow10Cells)).modify 4 (relay tab32Cells)).modify 5 (relay tab64Cells)).modify 1 (relay #[.iface 276 (.pointer (some ⟨shelfBlanksLow,0,none⟩))])).modify 2 (relay #[.iface 276 (.pointer (some ⟨shelfBlanksLow+1,0,none⟩))]) }
theorem shelfBlanksMet (os:Os):laidMet Tryz.prog Rows.shelfBlanksRow.laid ((shelfBlanksWorld os).forCall (fun _ _=>0) ⟨#[],#[.string .empty],[]⟩).memory :=
 laidMet_of_run' 8 (by kernel_rfl) (by kernel_rfl)
theorem shelfBlanksReads (os:Os){H:Type}(enc:TypeId×Value->H):∃places,DataW.whole enc Tryz.prog ((shelfBlanksWorld os).forCall (fun _ _=>0) ⟨#[],#[.string .empty],[]⟩).memory Tryz.f3.params.toList (OpenSpec.ofChange Rows.shelfBlanksSpec).vars false (#[.string .empty]:Array Value).toList 8=some ([.lit (.string [])],[],places) :=
 ⟨[],by kernel_rfl⟩
set_option maxRecDepth 100000 in
theorem shelfBlanksLifted (os:Os)(started:os.Started)(H:Type)(enc:TypeId×Value->H)(F:Stop.Interp) :
  ReturnsInHanded {} Tryz.checked os 3 .any ((OpenSpec.ofChange Rows.shelfBlanksSpec).preRow enc Tryz.prog Tryz.f3 Rows.shelfBlanksRow.domain false Rows.shelfBlanksRow.laid) (((OpenSpec.ofChange Rows.shelfBlanksSpec).at F).post enc Tryz.prog Tryz.f3 false true false false):=by
 obtain⟨places,hx⟩:=shelfBlanksReads os enc
 refine returnsInHanded_of_row (C:=Tryz.checked) (s:=(OpenSpec.ofChange Rows.shelfBlanksSpec)) Tryz.own started (by kernel_rfl) Tryz.func3
  (witness_row_at (enc:=enc) (C:=Tryz.checked) false (shelfBlanksWorld os) #[.string .empty] rfl (by kernel_rfl) (by kernel_rfl) (by kernel_rfl)
   (OpenSpec.preRow_of_cond 8 hx (by kernel_rfl) (fun k hk=>by cases hk) (by kernel_rfl) (shelfBlanksMet os))) ?_
 intro W base args ds gs before hval hW _ hk _ hL _ _;exact shelfBlanksContract H enc F W base args ds gs before hval hW hL
theorem shelfBlanksC0:(Rows.shelfBlanksRow.inPlace==Tryz.pinned.checked.prog.inPlace 3)=true:=by kernel_rfl
theorem shelfBlanksC1:(Rows.shelfBlanksRow.unfollowed==Tryz.pinned.checked.prog.unfollowed 3)=true:=by kernel_rfl
theorem shelfBlanksC2:(Rows.shelfBlanksRow.recurses==Tryz.pinned.checked.prog.recurses 3)=true:=by kernel_rfl
theorem shelfBlanksC3:(Rows.shelfBlanksRow.named==Tryz.pinned.checked.prog.varsNamed 3)=true:=by kernel_rfl
theorem shelfBlanksClosed:joinedFacts Tryz.pinned.checked.prog 3 Tryz.f3 (OpenSpec.ofChange Rows.shelfBlanksSpec).bare Rows.shelfBlanksRow=true:=by
 unfold joinedFacts;rw[shelfBlanksC0,shelfBlanksC1,shelfBlanksC2,shelfBlanksC3]
 kernel_rfl
theorem shelfBlanksNamed:Tryz.pinned.checked.prog.funcNamed Rows.shelfBlanksRow.func=some 3:=by kernel_rfl
theorem shelfBlanksSaid:Rows.ShelfBlanksSaid :=
 OpenClaim.holds_of_cond 3 Tryz.f3 rfl rfl rfl rfl rfl rfl rfl ⟨rfl,rfl,rfl,rfl,rfl⟩ rfl rfl rfl rfl rfl shelfBlanksNamed Tryz.func3 shelfBlanksClosed
  (of_decide_eq_true (by kernel_rfl)) (by unfold Func.isWrapper;first | (rw[if_pos (by decide +kernel)];kernel_rfl) | (rw[if_neg (by decide +kernel)];exact⟨rfl,rfl⟩))
  (fun os started H enc _ F=>by rw[OpenClaim.pre_eq_preRow];exact shelfBlanksLifted os started H enc F)
theorem shelfBlanksPlain (f:FuncId)(fn:Func)(hf:Tryz.pinned.checked.prog.funcNamed "scriptshift/scriptlaw16.ShelfBlanks"=some f)(hfn:Tryz.pinned.checked.prog.funcs[f]?=some fn) :
  true=Tryz.pinned.checked.prog.looks []/\∀(j:Nat) t,fn.params[j]?=some t->Tryz.pinned.checked.prog.wantsStandIn t=false:=by
 obtain rfl:f=3:=Option.some.inj ((show Tryz.prog.funcNamed "scriptshift/scriptlaw16.ShelfBlanks"=some 3 by kernel_rfl).symm.trans hf) |>.symm
 obtain rfl:fn=Tryz.f3:=(Option.some.inj (Tryz.func3.symm.trans hfn)).symm;refine⟨by kernel_rfl,fun j t ht=> ?_⟩;rw[Tryz.params3] at ht;have hm:=Array.mem_of_getElem? ht;have hm2:t=9:=by simpa using hm
 subst hm2;exact(show Tryz.prog.wantsStandIn 9=false by kernel_rfl)
theorem shelfBlanks_card:Rows.ShelfBlanksCardSaid :=
 Claim7.holds_tied_plain_at .later [] _ _ _ _ shelfBlanksSaid (fun _ h=>by cases h) (by kernel_rfl) (fun _ h=>by cases h) shelfBlanks_row_tie rfl ⟨rfl,rfl⟩ (by kernel_rfl) rfl shelfBlanksPlain (by kernel_rfl)
#print axioms shelfBlanks_card
end Go.Proofs.YtdfjokdknanlfaaGreatDoor
