import Derived.Test.YthnmmmkeamcfkaaGreatDoorLawTpFd
import Derived.Test.YthnmmmkeamcfkaaGreatDoorTClass4
namespace Go.Proofs.YthnmmmkeamcfkaaGreatDoor
open Go.Proofs.Tryz
section
open Go.ChangeShapes Go.WideShapes Go.ChangeAt Go.RowKit
open Go.ChangeMaps (open_string shut_string)
set_option linter.unusedVariables false
set_option linter.unusedSimpArgs false
set_option maxRecDepth 100000 in
theorem topFoundArgs {H:Type}{enc:TypeId×Value->H}{W:World}{base:Nat}{args:Array Value}{ds gs:List (DataW H)}{p:List MemPlace}
  (hval:∀(j:Nat) t v,Tryz.f7.params[j]?=some t->args[j]?=some v->Value.okWide prog W .any base t v)
  (hA:DataW.TrodAll enc prog W 0 (fun _=>true) true Tryz.f7.params.toList args.toList ds p) (hk:Rows.uptoSmall H (ds++gs)=true) :
  Calls prog 7 args W fun e W'=>e= .returned (.bool true)/\Below W.heap.size W W':=by
 rw[Tryz.params7] at hA hval;obtain⟨v0,vs0,d0,ds0,p0,q0,hargs,rfl,rfl,h0,r0⟩:=trodAll_cons hA;obtain⟨v1,vs1,d1,ds1,p1,q1,rfl,rfl,rfl,h1,r1⟩:=trodAll_cons r0;obtain⟨rfl,rfl,rfl⟩:=trodAll_nil r1;obtain rfl:args=#[v0,v1]:=by cases args;simp_all
 obtain⟨a0,rfl,rfl,rfl,w0⟩:=open_string underlying9 (hval 0 9 v0 rfl rfl) h0;obtain⟨a1,rfl,rfl,rfl,w1⟩:=open_string underlying9 (hval 1 9 v1 rfl rfl) h1;have hb:=zux hk;simp only[zlr,Rows.uptoBulkAll,zkr] at hb;exact zh1 zsx W a0 a1 (by omega) (by omega)
set_option maxRecDepth 100000 in
theorem topFoundContract (H:Type)(enc:TypeId×Value->H)(F:Stop.Interp)(W:World)(base:Nat)(args:Array Value)(ds gs:List (DataW H))(before:List MemPlace)
  (hval:∀(j:Nat) t v,Tryz.f7.params[j]?=some t->args[j]?=some v->Value.okWide prog W .any base t v)
  (hW:DataW.Whole enc prog Tryz.f7.params.toList (Rows.OpenSpec.upto Rows.topFoundSpec).vars false W args.toList ds gs before) (hk:∀k,(Rows.OpenSpec.upto Rows.topFoundSpec).cond=some k->k H (ds++gs)=true) (hL:laidMetH prog Rows.topFoundUptoRow.laid W) :
  Calls prog 7 args W fun e W'=>∃v,e= .returned v/\((Rows.OpenSpec.upto Rows.topFoundSpec).at F).post enc prog Tryz.f7 false true false false W args v W':=by
 have hW':=hW;obtain⟨p,q,hA0,hV,rfl,hfz,hnd⟩:=hW;have hA:=hA0;obtain⟨rfl,rfl⟩:=trodVars_none hV;refine(topFoundArgs hval hA (hk Rows.uptoSmall rfl)).mono fun e W' ⟨he,bel⟩=> ?_
 subst he;have hA':=zdm Tryz.laidOut bel _ _ _ _ (by kernel_rfl) hA
 obtain⟨x0,x1,rfl⟩:∃x0 x1,ds= [x0,x1]:=by
  rw[Tryz.params7] at hA;obtain⟨v0,vs0,d0,ds0,p0,q0,hargs,rfl,rfl,h0,r0⟩:=trodAll_cons hA;obtain⟨v1,vs1,d1,ds1,p1,q1,rfl,rfl,rfl,h1,r1⟩:=trodAll_cons r0;obtain⟨rfl,rfl,rfl⟩:=trodAll_nil r1;exact⟨_,_,rfl⟩
 exact⟨_,rfl,_,_,_,[],p,[],hW',trodAll_mk1 (shut_bool underlying4 _),hA',rfl,bel.frame _,fun h=>by cases h⟩
noncomputable def topFoundLow:Nat:=(World.holding prog default ⟨#[],#[],[]⟩).heap.size
noncomputable def topFoundWorld (os:Os):World :=
 let w0:=World.holding prog os ⟨#[.cells #[.string ⟨#[105,110,118,97,108,105,100,32,115,121,110,116,97,120]⟩] 373,.cells #[.string ⟨#[118,97,108,117,101,32,111,117,116,32,111,102,32,114,97,110,103,101]⟩] 373],#[],[]⟩
 { w0 with heap:=((((w0.heap.modify 3 (relay pow10Cells)).modify 4 (relay tab32Cells)).modify 5 (relay tab64Cells)).modify 1 (relay #[.iface 371 (.pointer (some ⟨topFoundLow,0,none⟩))])).modify 2 (relay #[.iface 371 (.pointer (some ⟨topFoundLow+1,0,none⟩))]) }
theorem topFoundMet (os:Os):laidMet prog Rows.topFoundUptoRow.laid ((topFoundWorld os).forCall (fun _ _=>0) ⟨#[],#[.string .empty,.string .empty],[]⟩).memory :=
 laidMet_of_run' 8 (by kernel_rfl) (by kernel_rfl)
theorem topFoundReads (os:Os){H:Type}(enc:TypeId×Value->H):∃places,DataW.whole enc prog ((topFoundWorld os).forCall (fun _ _=>0) ⟨#[],#[.string .empty,.string .empty],[]⟩).memory Tryz.f7.params.toList (Rows.OpenSpec.upto Rows.topFoundSpec).vars false (#[.string .empty,.string .empty]:Array Value).toList 8=some ([.lit (.string []),.lit (.string [])],[],places) :=
 ⟨[],by kernel_rfl⟩
set_option maxRecDepth 100000 in
theorem topFoundLifted (os:Os)(started:os.Started)(H:Type)(enc:TypeId×Value->H)(F:Stop.Interp) :
  ReturnsInHanded {} Tryz.checked os 7 .any ((Rows.OpenSpec.upto Rows.topFoundSpec).preRow enc prog Tryz.f7 Rows.topFoundUptoRow.domain false Rows.topFoundUptoRow.laid) (((Rows.OpenSpec.upto Rows.topFoundSpec).at F).post enc prog Tryz.f7 false true false false):=by
 obtain⟨places,hx⟩:=topFoundReads os enc
 refine returnsInHanded_of_row (C:=Tryz.checked) (s:=(Rows.OpenSpec.upto Rows.topFoundSpec)) Tryz.own started (by kernel_rfl) func7
  (witness_row_at (enc:=enc) (C:=Tryz.checked) false (topFoundWorld os) #[.string .empty,.string .empty] rfl (by kernel_rfl) (by kernel_rfl) (by kernel_rfl)
   (OpenSpec.preRow_of_cond 8 hx (by kernel_rfl) (fun k hk=>by cases hk;kernel_rfl) (by kernel_rfl) (topFoundMet os))) ?_
 intro W base args ds gs before hval hW _ hk hsz hL _ _;exact topFoundContract H enc F W base args ds gs before hval hW hk hL
theorem topFoundC0:(Rows.topFoundUptoRow.inPlace==Tryz.pinned.checked.prog.inPlace 7)=true:=by kernel_rfl
theorem topFoundC1:(Rows.topFoundUptoRow.unfollowed==Tryz.pinned.checked.prog.unfollowed 7)=true:=by kernel_rfl
theorem topFoundC2:(Rows.topFoundUptoRow.recurses==Tryz.pinned.checked.prog.recurses 7)=true:=by kernel_rfl
theorem topFoundC3:(Rows.topFoundUptoRow.named==Tryz.pinned.checked.prog.varsNamed 7)=true:=by kernel_rfl
theorem topFoundClosed:joinedFacts Tryz.pinned.checked.prog 7 Tryz.f7 (Rows.OpenSpec.upto Rows.topFoundSpec).bare Rows.topFoundUptoRow=true:=by
 unfold joinedFacts;rw[topFoundC0,topFoundC1,topFoundC2,topFoundC3]
 kernel_rfl
theorem topFoundNamed:Tryz.pinned.checked.prog.funcNamed Rows.topFoundUptoRow.func=some 7:=by kernel_rfl
theorem topFoundSaid:Rows.TopFoundUptoSaid :=
 OpenClaim.holds_of_cond 7 Tryz.f7 rfl rfl rfl rfl rfl rfl rfl ⟨rfl,rfl,rfl,rfl,rfl⟩ rfl rfl rfl rfl rfl topFoundNamed func7 topFoundClosed
  (of_decide_eq_true (by kernel_rfl)) (by unfold Func.isWrapper;first | (rw[if_pos (by decide +kernel)];kernel_rfl) | (rw[if_neg (by decide +kernel)];exact⟨rfl,rfl⟩))
  (fun os started H enc _ F=>by rw[OpenClaim.pre_eq_preRow];exact topFoundLifted os started H enc F)
theorem topFoundPlain (f:FuncId)(fn:Func)(hf:Tryz.pinned.checked.prog.funcNamed "scriptshift/scripttop.TopFound"=some f)(hfn:Tryz.pinned.checked.prog.funcs[f]?=some fn) :
  true=Tryz.pinned.checked.prog.looks []/\∀(j:Nat) t,fn.params[j]?=some t->Tryz.pinned.checked.prog.wantsStandIn t=false:=by
 obtain rfl:f=7:=Option.some.inj ((show prog.funcNamed "scriptshift/scripttop.TopFound"=some 7 by kernel_rfl).symm.trans hf) |>.symm
 obtain rfl:fn=Tryz.f7:=(Option.some.inj (func7.symm.trans hfn)).symm;refine⟨by kernel_rfl,fun j t ht=> ?_⟩;rw[Tryz.params7] at ht;have hm:=Array.mem_of_getElem? ht;have hm2:t=9:=by simpa using hm
 subst hm2;exact(show prog.wantsStandIn 9=false by kernel_rfl)
theorem topFound_card:Rows.TopFoundUptoCardSaid :=
 Claim7.holds_tied_plain_at .later [] _ _ _ _ topFoundSaid (fun _ h=>by cases h) (by kernel_rfl) (fun _ h=>by cases h) topFoundUpto_row_tie rfl ⟨rfl,rfl⟩ (by kernel_rfl) rfl topFoundPlain (by kernel_rfl)
#print axioms topFound_card
