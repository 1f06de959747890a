import Derived.Test.YthnmmmkeamcfkaaGreatDoorTClass4
namespace Go.Proofs.YthnmmmkeamcfkaaGreatDoor
open Go.Proofs.Tryz
section
open Go.ChangeShapes Go.WideShapes Go.ChangeAt Go.RowKit
open Go.ChangeMaps (open_string shut_string)
set_option linter.unusedVariables false
set_option linter.unusedSimpArgs false
set_option maxRecDepth 100000 in
theorem topUndoneArgs {H:Type}{enc:TypeId×Value->H}{W:World}{base:Nat}{args:Array Value}{ds gs:List (DataW H)}{p:List MemPlace}
  (hval:∀(j:Nat) t v,Tryz.f5.params[j]?=some t->args[j]?=some v->Value.okWide prog W .any base t v)
  (hA:DataW.TrodAll enc prog W 0 (fun _=>true) true Tryz.f5.params.toList args.toList ds p) (hk:Rows.uptoSmall H (ds++gs)=true) :
  Calls prog 5 args W fun e W'=>e= .returned (.bool true)/\Below W.heap.size W W':=by
 rw[Tryz.params5] at hA hval;obtain⟨v0,vs0,d0,ds0,p0,q0,hargs,rfl,rfl,h0,r0⟩:=trodAll_cons hA;obtain⟨v1,vs1,d1,ds1,p1,q1,rfl,rfl,rfl,h1,r1⟩:=trodAll_cons r0;obtain⟨v2,vs2,d2,ds2,p2,q2,rfl,rfl,rfl,h2,r2⟩:=trodAll_cons r1;obtain⟨rfl,rfl,rfl⟩:=trodAll_nil r2;obtain rfl:args=#[v0,v1,v2]:=by cases args;simp_all
 obtain⟨a0,rfl,rfl,rfl,w0⟩:=open_string underlying9 (hval 0 9 v0 rfl rfl) h0;obtain⟨z1,R1,F1,hbk1,hcp1⟩:=zsv (hval 1 24 v1 rfl rfl) h1;obtain⟨a2,rfl,rfl,rfl,w2⟩:=open_string underlying9 (hval 2 9 v2 rfl rfl) h2;have hb:=zwc hk;simp only[zml,Rows.uptoBulkAll,zle] at hb;exact zhg zuh W a0 (by omega) _ z1 R1 F1 a2 (by omega)
set_option maxRecDepth 100000 in
theorem topUndoneContract (H:Type)(enc:TypeId×Value->H)(F:Stop.Interp)(W:World)(base:Nat)(args:Array Value)(ds gs:List (DataW H))(before:List MemPlace)
  (hval:∀(j:Nat) t v,Tryz.f5.params[j]?=some t->args[j]?=some v->Value.okWide prog W .any base t v)
  (hW:DataW.Whole enc prog Tryz.f5.params.toList (Rows.OpenSpec.upto Rows.topUndoneSpec).vars false W args.toList ds gs before) (hk:∀k,(Rows.OpenSpec.upto Rows.topUndoneSpec).cond=some k->k H (ds++gs)=true) (hL:laidMetH prog Rows.topUndoneUptoRow.laid W) :
  Calls prog 5 args W fun e W'=>∃v,e= .returned v/\((Rows.OpenSpec.upto Rows.topUndoneSpec).at F).post enc prog Tryz.f5 false true false false W args v W':=by
 have hW':=hW;obtain⟨p,q,hA0,hV,rfl,hfz,hnd⟩:=hW;have hA:DataW.TrodAll enc prog W 0 (fun _=>true) true Tryz.f5.params.toList args.toList ds p:=hA0;obtain⟨rfl,rfl⟩:=trodVars_none hV;refine(topUndoneArgs hval hA (hk Rows.uptoSmall rfl)).mono fun e W' ⟨he,bel⟩=> ?_
 subst he;have hA':=zdo Tryz.laidOut bel _ _ _ _ (by kernel_rfl) hA
 obtain⟨x0,x1,x2,rfl⟩:∃x0 x1 x2,ds= [x0,x1,x2]:=by
  rw[Tryz.params5] at hA;obtain⟨v0,vs0,d0,ds0,p0,q0,hargs,rfl,rfl,h0,r0⟩:=trodAll_cons hA;obtain⟨v1,vs1,d1,ds1,p1,q1,rfl,rfl,rfl,h1,r1⟩:=trodAll_cons r0;obtain⟨v2,vs2,d2,ds2,p2,q2,rfl,rfl,rfl,h2,r2⟩:=trodAll_cons r1;obtain⟨rfl,rfl,rfl⟩:=trodAll_nil r2;exact⟨_,_,_,rfl⟩
 exact⟨_,rfl,_,_,_,[],p,[],hW',trodAll_mk1 (shut_bool underlying4 _),hA',rfl,bel.frame _,fun h=>by cases h⟩
noncomputable def topUndoneLow:Nat:=(World.holding prog default ⟨#[],#[],[]⟩).heap.size
noncomputable def topUndoneWorld (os:Os):World :=
 let w0:=World.holding prog os ⟨#[.cells #[.string ⟨#[105,110,118,97,108,105,100,32,115,121,110,116,97,120]⟩] 373,.cells #[.string ⟨#[118,97,108,117,101,32,111,117,116,32,111,102,32,114,97,110,103,101]⟩] 373],#[],[]⟩
 { w0 with heap:=((((w0.heap.modify 3 (relay pow10Cells)).modify 4 (relay tab32Cells)).modify 5 (relay tab64Cells)).modify 1 (relay #[.iface 371 (.pointer (some ⟨topUndoneLow,0,none⟩))])).modify 2 (relay #[.iface 371 (.pointer (some ⟨topUndoneLow+1,0,none⟩))]) }
theorem topUndoneMet (os:Os):laidMet prog Rows.topUndoneUptoRow.laid ((topUndoneWorld os).forCall (fun _ _=>0) ⟨#[],#[.string .empty,.slice none 0 0,.string .empty],[]⟩).memory :=
 laidMet_of_run' 8 (by kernel_rfl) (by kernel_rfl)
theorem topUndoneReads (os:Os){H:Type}(enc:TypeId×Value->H):∃places,DataW.whole enc prog ((topUndoneWorld os).forCall (fun _ _=>0) ⟨#[],#[.string .empty,.slice none 0 0,.string .empty],[]⟩).memory Tryz.f5.params.toList (Rows.OpenSpec.upto Rows.topUndoneSpec).vars false (#[.string .empty,.slice none 0 0,.string .empty]:Array Value).toList 8=some ([.lit (.string []),.nil,.lit (.string [])],[],places) :=
 ⟨[],by kernel_rfl⟩
set_option maxRecDepth 100000 in
theorem topUndoneLifted (os:Os)(started:os.Started)(H:Type)(enc:TypeId×Value->H)(F:Stop.Interp) :
  ReturnsInHanded {} Tryz.checked os 5 .any ((Rows.OpenSpec.upto Rows.topUndoneSpec).preRow enc prog Tryz.f5 Rows.topUndoneUptoRow.domain false Rows.topUndoneUptoRow.laid) (((Rows.OpenSpec.upto Rows.topUndoneSpec).at F).post enc prog Tryz.f5 false true false false):=by
 obtain⟨places,hx⟩:=topUndoneReads os enc
 refine returnsInHanded_of_row (C:=Tryz.checked) (s:=(Rows.OpenSpec.upto Rows.topUndoneSpec)) Tryz.own started (by kernel_rfl) func5
  (witness_row_at (enc:=enc) (C:=Tryz.checked) false (topUndoneWorld os) #[.string .empty,.slice none 0 0,.string .empty] rfl (by kernel_rfl) (by kernel_rfl) (by kernel_rfl)
   (OpenSpec.preRow_of_cond 8 hx (by kernel_rfl) (fun k hk=>by cases hk;kernel_rfl) (by kernel_rfl) (topUndoneMet os))) ?_
 intro W base args ds gs before hval hW _ hk hsz hL _ _;exact topUndoneContract H enc F W base args ds gs before hval hW hk hL
theorem topUndoneC0:(Rows.topUndoneUptoRow.inPlace==Tryz.pinned.checked.prog.inPlace 5)=true:=by kernel_rfl
theorem topUndoneC1:(Rows.topUndoneUptoRow.unfollowed==Tryz.pinned.checked.prog.unfollowed 5)=true:=by kernel_rfl
theorem topUndoneC2:(Rows.topUndoneUptoRow.recurses==Tryz.pinned.checked.prog.recurses 5)=true:=by kernel_rfl
theorem topUndoneC3:(Rows.topUndoneUptoRow.named==Tryz.pinned.checked.prog.varsNamed 5)=true:=by kernel_rfl
theorem topUndoneClosed:joinedFacts Tryz.pinned.checked.prog 5 Tryz.f5 (Rows.OpenSpec.upto Rows.topUndoneSpec).bare Rows.topUndoneUptoRow=true:=by
 unfold joinedFacts;rw[topUndoneC0,topUndoneC1,topUndoneC2,topUndoneC3]
 kernel_rfl
theorem topUndoneNamed:Tryz.pinned.checked.prog.funcNamed Rows.topUndoneUptoRow.func=some 5:=by kernel_rfl
theorem topUndoneSaid:Rows.TopUndoneUptoSaid :=
 OpenClaim.holds_of_cond 5 Tryz.f5 rfl rfl rfl rfl rfl rfl rfl ⟨rfl,rfl,rfl,rfl,rfl⟩ rfl rfl rfl rfl rfl topUndoneNamed func5 topUndoneClosed
  (of_decide_eq_true (by kernel_rfl)) (by unfold Func.isWrapper;first | (rw[if_pos (by decide +kernel)];kernel_rfl) | (rw[if_neg (by decide +kernel)];exact⟨rfl,rfl⟩))
  (fun os started H enc _ F=>by rw[OpenClaim.pre_eq_preRow];exact topUndoneLifted os started H enc F)
theorem topUndonePlain (f:FuncId)(fn:Func)(hf:Tryz.pinned.checked.prog.funcNamed "scriptshift/scripttop.TopUndone"=some f)(hfn:Tryz.pinned.checked.prog.funcs[f]?=some fn) :
  true=Tryz.pinned.checked.prog.looks []/\∀(j:Nat) t,fn.params[j]?=some t->Tryz.pinned.checked.prog.wantsStandIn t=false:=by
 obtain rfl:f=5:=Option.some.inj ((show prog.funcNamed "scriptshift/scripttop.TopUndone"=some 5 by kernel_rfl).symm.trans hf) |>.symm
 obtain rfl:fn=Tryz.f5:=(Option.some.inj (func5.symm.trans hfn)).symm;refine⟨by kernel_rfl,fun j t ht=> ?_⟩;rw[Tryz.params5] at ht;have hm:=Array.mem_of_getElem? ht;have hm2:t=9∨t=24:=by have h:=hm;simp at h;first | exact h | (rcases h with rfl | rfl | rfl <;> simp)
 rcases hm2 with rfl | rfl
 ·exact(show prog.wantsStandIn 9=false by kernel_rfl)
 ·exact(show prog.wantsStandIn 24=false by kernel_rfl)
theorem topUndone_card:Rows.TopUndoneUptoCardSaid :=
 Claim7.holds_tied_plain_at .later [] _ _ _ _ topUndoneSaid (fun _ h=>by cases h) (by kernel_rfl) (fun _ h=>by cases h) topUndoneUpto_row_tie rfl ⟨rfl,rfl⟩ (by kernel_rfl) rfl topUndonePlain (by kernel_rfl)
#print axioms topUndone_card
