import Derived.Test.YtcadaallpiekiaaGreatDoorRuFrame
namespace Go.Proofs.YtcadaallpiekiaaGreatDoor
open Go.Proofs.Tryz
section
open Go.ChangeShapes Go.WideShapes Go.ChangeAt Go.RowKit
open Go.ChangeMaps (open_string shut_string)
set_option linter.unusedVariables false
set_option linter.unusedSimpArgs false
set_option maxRecDepth 100000 in
theorem shelfPassesArgs {H:Type}{enc:TypeId×Value->H}{W:World}{base:Nat}{args:Array Value}{ds gs:List (DataW H)}{p:List MemPlace}
  (hval:∀(j:Nat) t v,Tryz.f4.params[j]?=some t->args[j]?=some v->Value.okWide prog W .any base t v)
  (hA:DataW.TrodAll enc prog W 0 (fun _=>true) true Tryz.f4.params.toList args.toList ds p) (hsz:(DataW.weightsEach prog Tryz.f4.params.toList ds).all (· <= reachBytes)=true) :
  Calls prog 4 args W fun e W'=>e=.returned (.bool true)/\Bl W W':=by
 rw[Tryz.params4] at hA hval hsz;obtain⟨v0,vs0,d0,ds0,p0,q0,hargs,rfl,rfl,h0,r0⟩:=trodAll_cons hA;obtain⟨v1,vs1,d1,ds1,p1,q1,rfl,rfl,rfl,h1,r1⟩:=trodAll_cons r0;obtain⟨v2,vs2,d2,ds2,p2,q2,rfl,rfl,rfl,h2,r2⟩:=trodAll_cons r1;obtain⟨rfl,rfl,rfl⟩:=trodAll_nil r2
 have hw:∀n∈DataW.weightsEach prog [3,4,42] [d0,d1,d2],n<=reachBytes:=fun n hn=>by
  have:=List.all_eq_true.1 hsz n hn;simpa using this
 obtain rfl:args=#[v0,v1,v2]:=by cases args;simp_all
 obtain⟨n0,rfl,rfl,rfl,I0⟩:=open_int underlying3 (hval 0 3 v0 rfl rfl) h0;obtain⟨b1,rfl,rfl,rfl⟩:=open_bool underlying4 (hval 1 4 v1 rfl rfl) h1;obtain⟨ao2,len2,cap2,rfl⟩:=okWide_slice underlying42 (hval 2 42 v2 rfl rfl);obtain⟨fuel2,hf2⟩:=h2;obtain⟨sp2,cc2,z2,hcs2,R2,L2,C2⟩:=zj8 hf2 fun n hn=>hw n (DataW.weights_mem_each (j:=2) rfl rfl n hn)
 simp[Value.cells] at hcs2;obtain⟨rfl,rfl,rfl⟩:=hcs2;have J0:K.I64 n0:=by unfold K.I64;have h1:=I0;simp[Lit.wf,IntKind.min,IntKind.max,IntKind.bits,IntKind.signed] at h1;omega
 exact zfe zs6 W n0 J0 b1 _ z2 R2 (fun x n c e=>by cases e;exact C2) L2
set_option maxRecDepth 100000 in
theorem shelfPassesContract (H:Type)(enc:TypeId×Value->H)(F:Stop.Interp)(W:World)(base:Nat)(args:Array Value)(ds gs:List (DataW H))(before:List MemPlace)
  (hval:∀(j:Nat) t v,Tryz.f4.params[j]?=some t->args[j]?=some v->Value.okWide prog W .any base t v)
  (hW:DataW.Whole enc prog Tryz.f4.params.toList (OpenSpec.ofChange Rows.shelfPassesSpec).vars false W args.toList ds gs before) (hsz0:(DataW.weightsEach prog (Tryz.f4.params.toList++(OpenSpec.ofChange Rows.shelfPassesSpec).bare.plain.varTypes prog) (ds++gs)).all (· <= reachBytes)=true) (hL:laidMetH prog Rows.shelfPassesRow.laid W) :
  Calls prog 4 args W fun e W'=>∃v,e=.returned v/\((OpenSpec.ofChange Rows.shelfPassesSpec).at F).post enc prog Tryz.f4 false true false false W args v W':=by
 have hW':=hW;obtain⟨p,q,hA0,hV,rfl,hfz,hnd⟩:=hW;have hA:=hA0;obtain⟨rfl,rfl⟩:=trodVars_none hV
 have hsz:(DataW.weightsEach prog Tryz.f4.params.toList ds).all (· <= reachBytes)=true:=by
  have h:=hsz0;rw[List.append_nil] at h;have e:(OpenSpec.ofChange Rows.shelfPassesSpec).bare.plain.varTypes prog= []:=by kernel_rfl
  rw[e,List.append_nil] at h;exact h
 refine(shelfPassesArgs hval hA hsz (gs:= [])).mono fun e W' ⟨he,bel⟩=> ?_
 subst he;have hA':=zdr Tryz.laidOut bel _ _ _ _ (by kernel_rfl) hA
 obtain⟨x0,x1,x2,rfl⟩:∃x0 x1 x2,ds= [x0,x1,x2]:=by
  rw[Tryz.params4] at hA;obtain⟨v0,vs0,d0,ds0,p0,q0,hargs,rfl,rfl,h0,r0⟩:=trodAll_cons hA;obtain⟨v1,vs1,d1,ds1,p1,q1,rfl,rfl,rfl,h1,r1⟩:=trodAll_cons r0;obtain⟨v2,vs2,d2,ds2,p2,q2,rfl,rfl,rfl,h2,r2⟩:=trodAll_cons r1;obtain⟨rfl,rfl,rfl⟩:=trodAll_nil r2;exact⟨_,_,_,rfl⟩
 exact⟨_,rfl,_,_,_,[],p,[],hW',trodAll_mk1 (shut_bool underlying4 _),hA',rfl,bel.frame _,fun h=>by cases h⟩
noncomputable def shelfPassesLow:Nat:=(World.holding prog default ⟨#[],#[],[]⟩).heap.size
noncomputable def shelfPassesWorld (os:Os):World :=
 let w0:=World.holding prog os ⟨#[.cells #[.string ⟨#[105,110,118,97,108,105,100,32,115,121,110,116,97,120]⟩] 295,.cells #[.string ⟨#[118,97,108,117,101,32,111,117,116,32,111,102,32,114,97,110,103,101]⟩] 295],#[],[]⟩
 { w0 with heap:=((((w0.heap.modify 3 (relay pow10Cells)).modify 4 (relay tab32Cells)).modify 5 (relay tab64Cells)).modify 1 (relay #[.iface 293 (.pointer (some ⟨shelfPassesLow,0,none⟩))])).modify 2 (relay #[.iface 293 (.pointer (some ⟨shelfPassesLow+1,0,none⟩))]) }
theorem shelfPassesMet (os:Os):laidMet prog Rows.shelfPassesRow.laid ((shelfPassesWorld os).forCall (fun _ _=>0) ⟨#[],#[.int .i64 0,.bool false,.slice none 0 0],[]⟩).memory :=
 laidMet_of_run' 8 (by kernel_rfl) (by kernel_rfl)
theorem shelfPassesReads (os:Os){H:Type}(enc:TypeId×Value->H):∃places,DataW.whole enc prog ((shelfPassesWorld os).forCall (fun _ _=>0) ⟨#[],#[.int .i64 0,.bool false,.slice none 0 0],[]⟩).memory Tryz.f4.params.toList (OpenSpec.ofChange Rows.shelfPassesSpec).vars false (#[.int .i64 0,.bool false,.slice none 0 0]:Array Value).toList 8=some ([.lit (.int .i64 0),.lit (.bool false),.nil],[],places) :=
 ⟨[],by kernel_rfl⟩
set_option maxRecDepth 100000 in
theorem shelfPassesLifted (os:Os)(started:os.Started)(H:Type)(enc:TypeId×Value->H)(F:Stop.Interp) :
  ReturnsInHanded {} Tryz.checked os 4 .any ((OpenSpec.ofChange Rows.shelfPassesSpec).preRow enc prog Tryz.f4 Rows.shelfPassesRow.domain false Rows.shelfPassesRow.laid) (((OpenSpec.ofChange Rows.shelfPassesSpec).at F).post enc prog Tryz.f4 false true false false):=by
 obtain⟨places,hx⟩:=shelfPassesReads os enc
 refine returnsInHanded_of_row (C:=Tryz.checked) (s:=(OpenSpec.ofChange Rows.shelfPassesSpec)) Tryz.own started (by kernel_rfl) func4
  (witness_row_at (enc:=enc) (C:=Tryz.checked) false (shelfPassesWorld os) #[.int .i64 0,.bool false,.slice none 0 0] rfl (by kernel_rfl) (by kernel_rfl) (by kernel_rfl)
   (OpenSpec.preRow_of_cond 8 hx (by kernel_rfl) (fun k hk=>by cases hk) (by kernel_rfl) (shelfPassesMet os))) ?_
 intro W base args ds gs before hval hW _ hk hsz hL _ _;exact shelfPassesContract H enc F W base args ds gs before hval hW hsz hL
theorem shelfPassesC0:(Rows.shelfPassesRow.inPlace==Tryz.pinned.checked.prog.inPlace 4)=true:=by kernel_rfl
theorem shelfPassesC1:(Rows.shelfPassesRow.unfollowed==Tryz.pinned.checked.prog.unfollowed 4)=true:=by kernel_rfl
theorem shelfPassesC2:(Rows.shelfPassesRow.recurses==Tryz.pinned.checked.prog.recurses 4)=true:=by kernel_rfl
theorem shelfPassesC3:(Rows.shelfPassesRow.named==Tryz.pinned.checked.prog.varsNamed 4)=true:=by kernel_rfl
theorem shelfPassesClosed:joinedFacts Tryz.pinned.checked.prog 4 Tryz.f4 (OpenSpec.ofChange Rows.shelfPassesSpec).bare Rows.shelfPassesRow=true:=by
 unfold joinedFacts;rw[shelfPassesC0,shelfPassesC1,shelfPassesC2,shelfPassesC3]
 kernel_rfl
theorem shelfPassesNamed:Tryz.pinned.checked.prog.funcNamed Rows.shelfPassesRow.func=some 4:=by kernel_rfl
theorem shelfPassesSaid:Rows.ShelfPassesSaid :=
 OpenClaim.holds_of_cond 4 Tryz.f4 rfl rfl rfl rfl rfl rfl rfl ⟨rfl,rfl,rfl,rfl,rfl⟩ rfl rfl rfl rfl rfl shelfPassesNamed func4 shelfPassesClosed
  (of_decide_eq_true (by kernel_rfl)) (by unfold Func.isWrapper;first|(rw[if_pos (by decide +kernel)];kernel_rfl)|(rw[if_neg (by decide +kernel)];exact⟨rfl,rfl⟩))
  (fun os started H enc _ F=>by rw[OpenClaim.pre_eq_preRow];exact shelfPassesLifted os started H enc F)
theorem shelfPassesPlain (f:FuncId)(fn:Func)(hf:Tryz.pinned.checked.prog.funcNamed "scriptshift/scriptlaw16.ShelfPasses"=some f)(hfn:Tryz.pinned.checked.prog.funcs[f]?=some fn) :
  true=Tryz.pinned.checked.prog.looks []/\∀(j:Nat) t,fn.params[j]?=some t->Tryz.pinned.checked.prog.wantsStandIn t=false:=by
 obtain rfl:f=4:=Option.some.inj ((show prog.funcNamed "scriptshift/scriptlaw16.ShelfPasses"=some 4 by kernel_rfl).symm.trans hf) |>.symm
 obtain rfl:fn=Tryz.f4:=(Option.some.inj (func4.symm.trans hfn)).symm;refine⟨by kernel_rfl,fun j t ht=> ?_⟩;rw[Tryz.params4] at ht;have hm:=Array.mem_of_getElem? ht;have hm2:t=3∨t=4∨t=42:=by have h:=hm;simp at h;first|exact h|(rcases h with rfl|rfl|rfl <;> simp)
 rcases hm2 with rfl|rfl|rfl
 ·exact(show prog.wantsStandIn 3=false by kernel_rfl)
 ·exact(show prog.wantsStandIn 4=false by kernel_rfl)
 ·exact(show prog.wantsStandIn 42=false by kernel_rfl)
theorem shelfPasses_card:Rows.ShelfPassesCardSaid :=
 Claim7.holds_tied_plain_at .later [] _ _ _ _ shelfPassesSaid (fun _ h=>by cases h) (by kernel_rfl) (fun _ h=>by cases h) shelfPasses_row_tie rfl ⟨rfl,rfl⟩ (by kernel_rfl) rfl shelfPassesPlain (by kernel_rfl)
#print axioms shelfPasses_card
