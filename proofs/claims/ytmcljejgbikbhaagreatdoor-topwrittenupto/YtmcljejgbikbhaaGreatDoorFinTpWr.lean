/-
scripttop.TopWritten, upto.
-/
import Derived.Test.YtmcljejgbikbhaaGreatDoorMath
import Derived.Test.YtmcljejgbikbhaaGreatDoorTClass3
import Derived.Test.YtmcljejgbikbhaaGreatDoorTClass4
namespace Go.Proofs.YtmcljejgbikbhaaGreatDoor
open Go.ChangeShapes Go.WideShapes Go.ChangeAt Go.RowKit
open Go.ChangeMaps (open_string shut_string)
set_option linter.unusedVariables false
set_option linter.unusedSimpArgs false
set_option maxRecDepth 100000 in
theorem topWrittenArgs {H:Type}{enc:TypeId×Value->H}{W:World}{base:Nat}{args:Array Value}{ds gs:List (DataW H)}{p:List MemPlace}
  (hval:∀(j:Nat) t v,Tryz.f4.params[j]?=some t->args[j]?=some v->Value.okWide Tryz.prog W .any base t v)
  (hA:DataW.TrodAll enc Tryz.prog W 0 (fun _=>true) true Tryz.f4.params.toList args.toList ds p) (hT:T.Tz W) (hk:Rows.uptoSmall H (ds++gs)=true) :
  Calls Tryz.prog 4 args W fun e W'=>e= .returned (.bool true)/\Below W.heap.size W W':=by
 rw[Tryz.params4] at hA hval;obtain⟨v0,vs0,d0,ds0,p0,q0,hargs,rfl,rfl,h0,r0⟩:=trodAll_cons hA;obtain⟨v1,vs1,d1,ds1,p1,q1,rfl,rfl,rfl,h1,r1⟩:=trodAll_cons r0;obtain⟨rfl,rfl,rfl⟩:=trodAll_nil r1;obtain rfl:args=#[v0,v1]:=by cases args;simp_all
 obtain⟨a0,rfl,rfl,rfl,w0⟩:=open_string Tryz.underlying9 (hval 0 9 v0 rfl rfl) h0;obtain⟨a1,rfl,rfl,rfl,w1⟩:=open_string Tryz.underlying9 (hval 1 9 v1 rfl rfl) h1;have hb:=zvs hk;simp only[zmg,Rows.uptoBulkAll,zli] at hb;exact zgm zt0 W hT a0 a1 (by omega) (by omega)
set_option maxRecDepth 100000 in
theorem topWrittenContract (H:Type)(enc:TypeId×Value->H)(F:Stop.Interp)(W:World)(base:Nat)(args:Array Value)(ds gs:List (DataW H))(before:List MemPlace)
  (hval:∀(j:Nat) t v,Tryz.f4.params[j]?=some t->args[j]?=some v->Value.okWide Tryz.prog W .any base t v)
  (hW:DataW.Whole enc Tryz.prog Tryz.f4.params.toList (Rows.OpenSpec.upto Rows.topWrittenSpec).vars false W args.toList ds gs before) (hk:∀k,(Rows.OpenSpec.upto Rows.topWrittenSpec).cond=some k->k H (ds++gs)=true) (hL:laidMetH Tryz.prog Rows.topWrittenUptoRow.laid W) :
  Calls Tryz.prog 4 args W fun e W'=>∃v,e= .returned v/\((Rows.OpenSpec.upto Rows.topWrittenSpec).at F).post enc Tryz.prog Tryz.f4 false true false false W args v W':=by
 have hT:T.Tz W:=(zvw hL).cell gTab 15 (by decide);have hW':=hW;obtain⟨p,q,hA0,hV,rfl,hfz,hnd⟩:=hW;have hA:DataW.TrodAll enc Tryz.prog W 0 (fun _=>true) true Tryz.f4.params.toList args.toList ds p:=hA0;obtain⟨rfl,rfl⟩:=trodVars_none hV;refine(topWrittenArgs hval hA hT (hk Rows.uptoSmall rfl)).mono fun e W' ⟨he,bel⟩=> ?_
 subst he;have hA':=zdx Tryz.laidOut bel _ _ _ _ (by kernel_rfl) hA
 obtain⟨x0,x1,rfl⟩:∃x0 x1,ds= [x0,x1]:=by
  rw[Tryz.params4] at hA;obtain⟨v0,vs0,d0,ds0,p0,q0,hargs,rfl,rfl,h0,r0⟩:=trodAll_cons hA;obtain⟨v1,vs1,d1,ds1,p1,q1,rfl,rfl,rfl,h1,r1⟩:=trodAll_cons r0;obtain⟨rfl,rfl,rfl⟩:=trodAll_nil r1;exact⟨_,_,rfl⟩
 exact⟨_,rfl,_,_,_,[],p,[],hW',trodAll_mk1 (shut_bool Tryz.underlying4 _),hA',rfl,bel.frame _,fun h=>by cases h⟩
noncomputable def topWrittenLow:Nat:=(World.holding Tryz.prog default ⟨#[],#[],[]⟩).heap.size
noncomputable def topWrittenWorld (os:Os):World :=
 let w0:=World.holding Tryz.prog os ⟨#[.cells #[.string ⟨#[105,110,118,97,108,105,100,32,115,121,110,116,97,120]⟩] 362,.cells #[.string ⟨#[118,97,108,117,101,32,111,117,116,32,111,102,32,114,97,110,103,101]⟩] 362],#[],[]⟩
 { w0 with heap:=((((w0.heap.modify 1 (relay pow10Cells)).modify 2 (relay tab32Cells)).modify 3 (relay tab64Cells)).modify 4 (relay #[.iface 360 (.pointer (some ⟨topWrittenLow,0,none⟩))])).modify 5 (relay #[.iface 360 (.pointer (some ⟨topWrittenLow+1,0,none⟩))]) }
theorem topWrittenMet (os:Os):laidMet Tryz.prog Rows.topWrittenUptoRow.laid ((topWrittenWorld os).forCall (fun _ _=>0) ⟨#[],#[.string .empty,.string .empty],[]⟩).memory :=
 laidMet_of_run' 8 (by kernel_rfl) (by kernel_rfl)
theorem topWrittenReads (os:Os){H:Type}(enc:TypeId×Value->H):∃places,DataW.whole enc Tryz.prog ((topWrittenWorld os).forCall (fun _ _=>0) ⟨#[],#[.string .empty,.string .empty],[]⟩).memory Tryz.f4.params.toList (Rows.OpenSpec.upto Rows.topWrittenSpec).vars false (#[.string .empty,.string .empty]:Array Value).toList 8=some ([.lit (.string []),.lit (.string [])],[],places) :=
 ⟨[],by kernel_rfl⟩
set_option maxRecDepth 100000 in
theorem topWrittenLifted (os:Os)(started:os.Started)(H:Type)(enc:TypeId×Value->H)(F:Stop.Interp) :
  ReturnsInHanded {} Tryz.checked os 4 .any ((Rows.OpenSpec.upto Rows.topWrittenSpec).preRow enc Tryz.prog Tryz.f4 Rows.topWrittenUptoRow.domain false Rows.topWrittenUptoRow.laid) (((Rows.OpenSpec.upto Rows.topWrittenSpec).at F).post enc Tryz.prog Tryz.f4 false true false false):=by
 obtain⟨places,hx⟩:=topWrittenReads os enc
 refine returnsInHanded_of_row (C:=Tryz.checked) (s:=(Rows.OpenSpec.upto Rows.topWrittenSpec)) Tryz.own started (by kernel_rfl) Tryz.func4
  (witness_row_at (enc:=enc) (C:=Tryz.checked) false (topWrittenWorld os) #[.string .empty,.string .empty] rfl (by kernel_rfl) (by kernel_rfl) (by kernel_rfl)
   (OpenSpec.preRow_of_cond 8 hx (by kernel_rfl) (fun k hk=>by cases hk;kernel_rfl) (by kernel_rfl) (topWrittenMet os))) ?_
 intro W base args ds gs before hval hW _ hk _ hL _ _;exact topWrittenContract H enc F W base args ds gs before hval hW hk hL
theorem topWrittenC0:(Rows.topWrittenUptoRow.inPlace==Tryz.pinned.checked.prog.inPlace 4)=true:=by kernel_rfl
theorem topWrittenC1:(Rows.topWrittenUptoRow.unfollowed==Tryz.pinned.checked.prog.unfollowed 4)=true:=by kernel_rfl
theorem topWrittenC2:(Rows.topWrittenUptoRow.recurses==Tryz.pinned.checked.prog.recurses 4)=true:=by kernel_rfl
theorem topWrittenC3:(Rows.topWrittenUptoRow.named==Tryz.pinned.checked.prog.varsNamed 4)=true:=by kernel_rfl
theorem topWrittenClosed:joinedFacts Tryz.pinned.checked.prog 4 Tryz.f4 (Rows.OpenSpec.upto Rows.topWrittenSpec).bare Rows.topWrittenUptoRow=true:=by
 unfold joinedFacts;rw[topWrittenC0,topWrittenC1,topWrittenC2,topWrittenC3]
 kernel_rfl
theorem topWrittenNamed:Tryz.pinned.checked.prog.funcNamed Rows.topWrittenUptoRow.func=some 4:=by kernel_rfl
theorem topWrittenSaid:Rows.TopWrittenUptoSaid :=
 OpenClaim.holds_of_cond 4 Tryz.f4 rfl rfl rfl rfl rfl rfl rfl ⟨rfl,rfl,rfl,rfl,rfl⟩ rfl rfl rfl rfl rfl topWrittenNamed Tryz.func4 topWrittenClosed
  (of_decide_eq_true (by kernel_rfl)) (by unfold Func.isWrapper;first | (rw[if_pos (by decide +kernel)];kernel_rfl) | (rw[if_neg (by decide +kernel)];exact⟨rfl,rfl⟩))
  (fun os started H enc _ F=>by rw[OpenClaim.pre_eq_preRow];exact topWrittenLifted os started H enc F)
theorem topWrittenPlain (f:FuncId)(fn:Func)(hf:Tryz.pinned.checked.prog.funcNamed "scriptshift/scripttop.TopWritten"=some f)(hfn:Tryz.pinned.checked.prog.funcs[f]?=some fn) :
  true=Tryz.pinned.checked.prog.looks []/\∀(j:Nat) t,fn.params[j]?=some t->Tryz.pinned.checked.prog.wantsStandIn t=false:=by
 obtain rfl:f=4:=Option.some.inj ((show Tryz.prog.funcNamed "scriptshift/scripttop.TopWritten"=some 4 by kernel_rfl).symm.trans hf) |>.symm
 obtain rfl:fn=Tryz.f4:=(Option.some.inj (Tryz.func4.symm.trans hfn)).symm;refine⟨by kernel_rfl,fun j t ht=> ?_⟩;rw[Tryz.params4] at ht;have hm:=Array.mem_of_getElem? ht;have hm2:t=9:=by simpa using hm
 subst hm2;exact(show Tryz.prog.wantsStandIn 9=false by kernel_rfl)
theorem topWritten_card:Rows.TopWrittenUptoCardSaid :=
 Claim7.holds_tied_plain_at .later [] _ _ _ _ topWrittenSaid (fun _ h=>by cases h) (by kernel_rfl) (fun _ h=>by cases h) topWrittenUpto_row_tie rfl ⟨rfl,rfl⟩ (by kernel_rfl) rfl topWrittenPlain (by kernel_rfl)
#print axioms topWritten_card
end Go.Proofs.YtmcljejgbikbhaaGreatDoor
