import Derived.Test.YthnmmmkeamcfkaaGreatDoorTClass4
namespace Go.Proofs.YthnmmmkeamcfkaaGreatDoor
open Go.Proofs.Tryz
section
open Go.ChangeShapes Go.WideShapes Go.ChangeAt Go.RowKit
open Go.ChangeMaps (open_string shut_string)
set_option linter.unusedVariables false
set_option linter.unusedSimpArgs false
set_option maxRecDepth 100000 in
theorem topFormsArgs {H:Type}{enc:TypeId×Value->H}{W:World}{base:Nat}{args:Array Value}{ds gs:List (DataW H)}{p:List MemPlace}
  (hval:∀(j:Nat) t v,Tryz.f6.params[j]?=some t->args[j]?=some v->Value.okWide prog W .any base t v)
  (hA:DataW.TrodAll enc prog W 0 (fun _=>true) true Tryz.f6.params.toList args.toList ds p) (hk:Rows.uptoSmall H (ds++gs)=true) :
  Calls prog 6 args W fun e W'=>e= .returned (.bool true)/\Below W.heap.size W W':=by
 rw[Tryz.params6] at hA hval;obtain⟨v0,vs0,d0,ds0,p0,q0,hargs,rfl,rfl,h0,r0⟩:=trodAll_cons hA;obtain⟨rfl,rfl,rfl⟩:=trodAll_nil r0;obtain rfl:args=#[v0]:=by cases args;simp_all
 obtain⟨z0,R0,N0,L0⟩:=zv2 (hval 0 22 v0 rfl rfl) h0;have hb:=zxd hk;simp only[zmi,Rows.uptoBulkAll,zf2] at hb;exact zia zu7 W _ z0 R0 (fun s hs=>by have:=L0 s hs;omega) (by omega)
set_option maxRecDepth 100000 in
theorem topFormsContract (H:Type)(enc:TypeId×Value->H)(F:Stop.Interp)(W:World)(base:Nat)(args:Array Value)(ds gs:List (DataW H))(before:List MemPlace)
  (hval:∀(j:Nat) t v,Tryz.f6.params[j]?=some t->args[j]?=some v->Value.okWide prog W .any base t v)
  (hW:DataW.Whole enc prog Tryz.f6.params.toList (Rows.OpenSpec.upto Rows.topFormsSpec).vars false W args.toList ds gs before) (hk:∀k,(Rows.OpenSpec.upto Rows.topFormsSpec).cond=some k->k H (ds++gs)=true) (hL:laidMetH prog Rows.topFormsUptoRow.laid W) :
  Calls prog 6 args W fun e W'=>∃v,e= .returned v/\((Rows.OpenSpec.upto Rows.topFormsSpec).at F).post enc prog Tryz.f6 false true false false W args v W':=by
 have hW':=hW;obtain⟨p,q,hA0,hV,rfl,hfz,hnd⟩:=hW;have hA:=hA0;obtain⟨rfl,rfl⟩:=trodVars_none hV;refine(topFormsArgs hval hA (hk Rows.uptoSmall rfl)).mono fun e W' ⟨he,bel⟩=> ?_
 subst he;have hA':=zdt Tryz.laidOut bel _ _ _ _ (by kernel_rfl) hA
 obtain⟨x0,rfl⟩:∃x0,ds= [x0]:=by
  rw[Tryz.params6] at hA;obtain⟨v0,vs0,d0,ds0,p0,q0,hargs,rfl,rfl,h0,r0⟩:=trodAll_cons hA;obtain⟨rfl,rfl,rfl⟩:=trodAll_nil r0;exact⟨_,rfl⟩
 exact⟨_,rfl,_,_,_,[],p,[],hW',trodAll_mk1 (shut_bool underlying4 _),hA',rfl,bel.frame _,fun h=>by cases h⟩
noncomputable def topFormsLow:Nat:=(World.holding prog default ⟨#[],#[],[]⟩).heap.size
noncomputable def topFormsWorld (os:Os):World :=
 let w0:=World.holding prog os ⟨#[.cells #[.string ⟨#[105,110,118,97,108,105,100,32,115,121,110,116,97,120]⟩] 373,.cells #[.string ⟨#[118,97,108,117,101,32,111,117,116,32,111,102,32,114,97,110,103,101]⟩] 373],#[],[]⟩
 { w0 with heap:=((((w0.heap.modify 3 (relay pow10Cells)).modify 4 (relay tab32Cells)).modify 5 (relay tab64Cells)).modify 1 (relay #[.iface 371 (.pointer (some ⟨topFormsLow,0,none⟩))])).modify 2 (relay #[.iface 371 (.pointer (some ⟨topFormsLow+1,0,none⟩))]) }
theorem topFormsMet (os:Os):laidMet prog Rows.topFormsUptoRow.laid ((topFormsWorld os).forCall (fun _ _=>0) ⟨#[],#[.slice none 0 0],[]⟩).memory :=
 laidMet_of_run' 8 (by kernel_rfl) (by kernel_rfl)
theorem topFormsReads (os:Os){H:Type}(enc:TypeId×Value->H):∃places,DataW.whole enc prog ((topFormsWorld os).forCall (fun _ _=>0) ⟨#[],#[.slice none 0 0],[]⟩).memory Tryz.f6.params.toList (Rows.OpenSpec.upto Rows.topFormsSpec).vars false (#[.slice none 0 0]:Array Value).toList 8=some ([.nil],[],places) :=
 ⟨[],by kernel_rfl⟩
set_option maxRecDepth 100000 in
theorem topFormsLifted (os:Os)(started:os.Started)(H:Type)(enc:TypeId×Value->H)(F:Stop.Interp) :
  ReturnsInHanded {} Tryz.checked os 6 .any ((Rows.OpenSpec.upto Rows.topFormsSpec).preRow enc prog Tryz.f6 Rows.topFormsUptoRow.domain false Rows.topFormsUptoRow.laid) (((Rows.OpenSpec.upto Rows.topFormsSpec).at F).post enc prog Tryz.f6 false true false false):=by
 obtain⟨places,hx⟩:=topFormsReads os enc
 refine returnsInHanded_of_row (C:=Tryz.checked) (s:=(Rows.OpenSpec.upto Rows.topFormsSpec)) Tryz.own started (by kernel_rfl) func6
  (witness_row_at (enc:=enc) (C:=Tryz.checked) false (topFormsWorld os) #[.slice none 0 0] rfl (by kernel_rfl) (by kernel_rfl) (by kernel_rfl)
   (OpenSpec.preRow_of_cond 8 hx (by kernel_rfl) (fun k hk=>by cases hk;kernel_rfl) (by kernel_rfl) (topFormsMet os))) ?_
 intro W base args ds gs before hval hW _ hk hsz hL _ _;exact topFormsContract H enc F W base args ds gs before hval hW hk hL
theorem topFormsC0:(Rows.topFormsUptoRow.inPlace==Tryz.pinned.checked.prog.inPlace 6)=true:=by kernel_rfl
theorem topFormsC1:(Rows.topFormsUptoRow.unfollowed==Tryz.pinned.checked.prog.unfollowed 6)=true:=by kernel_rfl
theorem topFormsC2:(Rows.topFormsUptoRow.recurses==Tryz.pinned.checked.prog.recurses 6)=true:=by kernel_rfl
theorem topFormsC3:(Rows.topFormsUptoRow.named==Tryz.pinned.checked.prog.varsNamed 6)=true:=by kernel_rfl
theorem topFormsClosed:joinedFacts Tryz.pinned.checked.prog 6 Tryz.f6 (Rows.OpenSpec.upto Rows.topFormsSpec).bare Rows.topFormsUptoRow=true:=by
 unfold joinedFacts;rw[topFormsC0,topFormsC1,topFormsC2,topFormsC3]
 kernel_rfl
theorem topFormsNamed:Tryz.pinned.checked.prog.funcNamed Rows.topFormsUptoRow.func=some 6:=by kernel_rfl
theorem topFormsSaid:Rows.TopFormsUptoSaid :=
 OpenClaim.holds_of_cond 6 Tryz.f6 rfl rfl rfl rfl rfl rfl rfl ⟨rfl,rfl,rfl,rfl,rfl⟩ rfl rfl rfl rfl rfl topFormsNamed func6 topFormsClosed
  (of_decide_eq_true (by kernel_rfl)) (by unfold Func.isWrapper;first | (rw[if_pos (by decide +kernel)];kernel_rfl) | (rw[if_neg (by decide +kernel)];exact⟨rfl,rfl⟩))
  (fun os started H enc _ F=>by rw[OpenClaim.pre_eq_preRow];exact topFormsLifted os started H enc F)
theorem topFormsPlain (f:FuncId)(fn:Func)(hf:Tryz.pinned.checked.prog.funcNamed "scriptshift/scripttop.TopForms"=some f)(hfn:Tryz.pinned.checked.prog.funcs[f]?=some fn) :
  true=Tryz.pinned.checked.prog.looks []/\∀(j:Nat) t,fn.params[j]?=some t->Tryz.pinned.checked.prog.wantsStandIn t=false:=by
 obtain rfl:f=6:=Option.some.inj ((show prog.funcNamed "scriptshift/scripttop.TopForms"=some 6 by kernel_rfl).symm.trans hf) |>.symm
 obtain rfl:fn=Tryz.f6:=(Option.some.inj (func6.symm.trans hfn)).symm;refine⟨by kernel_rfl,fun j t ht=> ?_⟩;rw[Tryz.params6] at ht;have hm:=Array.mem_of_getElem? ht;have hm2:t=22:=by simpa using hm
 subst hm2;exact(show prog.wantsStandIn 22=false by kernel_rfl)
theorem topForms_card:Rows.TopFormsUptoCardSaid :=
 Claim7.holds_tied_plain_at .later [] _ _ _ _ topFormsSaid (fun _ h=>by cases h) (by kernel_rfl) (fun _ h=>by cases h) topFormsUpto_row_tie rfl ⟨rfl,rfl⟩ (by kernel_rfl) rfl topFormsPlain (by kernel_rfl)
#print axioms topForms_card
