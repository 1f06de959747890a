/-
 Whatever comes in: scriptlaw16.ShelfMorse returns true, and each argument reads behind the call as it read before. (The row lists tables and sentinels of the library; the card ties them to the program's text.)
-/
import Derived.Test.YteagjpnbiceafaaGreatDoorMath
import Derived.Test.YteagjpnbiceafaaGreatDoorTClass
import Derived.Test.YteagjpnbiceafaaGreatDoorTClass4
namespace Go.Proofs.YteagjpnbiceafaaGreatDoor
open Go.ChangeShapes Go.WideShapes Go.ChangeAt Go.RowKit
open Go.ChangeMaps (open_string shut_string)
set_option linter.unusedVariables false
set_option linter.unusedSimpArgs false
theorem Tryz.bytesInt:Tryz.prog.bytesOf 3=8:=by kernel_rfl
set_option maxRecDepth 100000 in
theorem ints_rd2 {H:Type}{enc:TypeId×Value->H}{W:World}{base:Nat}{v:Value}{d:DataW H}{p:List MemPlace}
  (hv:Value.okWide Tryz.prog W .any base 52 v) (h:DataW.Trod enc Tryz.prog W 0 (fun _=>true) true 52 v d p) (hw:∀n∈d.weights Tryz.prog 52,n<=reachBytes) :
  ∃zs:List Int,L.Rd W v .i64 zs/\zs.length<=17592186044416:=by
 obtain⟨zs,R,_,_⟩:=zsn Tryz.underlying52 Tryz.underlying3 (by kernel_rfl) hv h;refine⟨zs,R,?_⟩;obtain⟨ao,cap,rfl,_,_⟩:=R;obtain⟨fuel,hf⟩:=h;rcases open_ints Tryz.underlying52 Tryz.underlying3 (by kernel_rfl) hf with ⟨hcs,hx⟩|⟨x,l,c,ys,hcs,_,hl,hm,hz,hx,hcell,hwz⟩
 ·simp[Value.cells] at hcs;obtain⟨_,h1,_⟩:=hcs
  first | (subst h1;simp) | (rw[h1];simp) | omega
 ·simp[Value.cells] at hcs;obtain⟨rfl,rfl,rfl⟩:=hcs;simp only[Prod.mk.injEq] at hx;obtain⟨rfl,rfl⟩:=hx
  have h1:=hw (((lits .i64 (List.take zs.length ys)).length+(lits .i64 (List.drop zs.length ys)).length)*8) (by
   simp only[DataW.weights,Tryz.underlying52,Tryz.bytesInt]
   exact List.mem_cons_self)
  simp only[lits,List.length_map,List.length_take,List.length_drop,reachBytes] at h1;simp only[if_true] at hz;omega
set_option maxRecDepth 100000 in
theorem shelfMorseArgs {H:Type}{enc:TypeId×Value->H}{W:World}{base:Nat}{args:Array Value}{ds gs:List (DataW H)}{p:List MemPlace}
  (hval:∀(j:Nat) t v,Tryz.f5.params[j]?=some t->args[j]?=some v->Value.okWide Tryz.prog W .any base t v)
  (hA:DataW.TrodAll enc Tryz.prog W 0 (fun _=>true) true Tryz.f5.params.toList args.toList ds p) (hsz:(DataW.weightsEach Tryz.prog Tryz.f5.params.toList ds).all (· <= reachBytes)=true) :
  Calls Tryz.prog 5 args W fun e W'=>e= .returned (.bool true)/\Below W.heap.size W W':=by
 rw[Tryz.params5] at hA hval hsz;obtain⟨v0,vs0,d0,ds0,p0,q0,hargs,rfl,rfl,h0,r0⟩:=trodAll_cons hA;obtain⟨rfl,rfl,rfl⟩:=trodAll_nil r0
 have hw:∀n∈DataW.weightsEach Tryz.prog [52] [d0],n<=reachBytes:=fun n hn=>by
  have:=List.all_eq_true.1 hsz n hn;simpa using this
 obtain rfl:args=#[v0]:=by cases args;simp_all
 obtain⟨z0,R0,L0⟩:=ints_rd2 (hval 0 52 v0 rfl rfl) h0 fun n hn=>hw n (DataW.weights_mem_each (j:=0) rfl rfl n hn)
 exact ze8 zq4 W v0 z0 R0 (by omega)
set_option maxRecDepth 100000 in
theorem shelfMorseContract (H:Type)(enc:TypeId×Value->H)(F:Stop.Interp)(W:World)(base:Nat)(args:Array Value)(ds gs:List (DataW H))(before:List MemPlace)
  (hval:∀(j:Nat) t v,Tryz.f5.params[j]?=some t->args[j]?=some v->Value.okWide Tryz.prog W .any base t v)
  (hW:DataW.Whole enc Tryz.prog Tryz.f5.params.toList (OpenSpec.ofChange Rows.shelfMorseSpec).vars false W args.toList ds gs before) (hsz0:(DataW.weightsEach Tryz.prog (Tryz.f5.params.toList++(OpenSpec.ofChange Rows.shelfMorseSpec).bare.plain.varTypes Tryz.prog) (ds++gs)).all (· <= reachBytes)=true) (hL:laidMetH Tryz.prog Rows.shelfMorseRow.laid W) :
  Calls Tryz.prog 5 args W fun e W'=>∃v,e= .returned v/\((OpenSpec.ofChange Rows.shelfMorseSpec).at F).post enc Tryz.prog Tryz.f5 false true false false W args v W':=by
 have hW':=hW;obtain⟨p,q,hA0,hV,rfl,hfz,hnd⟩:=hW;have hA:DataW.TrodAll enc Tryz.prog W 0 (fun _=>true) true Tryz.f5.params.toList args.toList ds p:=hA0;obtain⟨rfl,rfl⟩:=trodVars_none hV
 have hsz:(DataW.weightsEach Tryz.prog Tryz.f5.params.toList ds).all (· <= reachBytes)=true:=by
  have h:=hsz0;rw[List.append_nil] at h;have e:(OpenSpec.ofChange Rows.shelfMorseSpec).bare.plain.varTypes Tryz.prog= []:=by kernel_rfl
  rw[e,List.append_nil] at h;exact h
 refine(shelfMorseArgs hval hA hsz (gs:= [])).mono fun e W' ⟨he,bel⟩=> ?_
 subst he;have hA':=zc7 Tryz.laidOut bel _ _ _ _ (by kernel_rfl) hA
 obtain⟨x0,rfl⟩:∃x0,ds= [x0]:=by
  rw[Tryz.params5] at hA;obtain⟨v0,vs0,d0,ds0,p0,q0,hargs,rfl,rfl,h0,r0⟩:=trodAll_cons hA;obtain⟨rfl,rfl,rfl⟩:=trodAll_nil r0;exact⟨_,rfl⟩
 exact⟨_,rfl,_,_,_,[],p,[],hW',trodAll_mk1 (shut_bool Tryz.underlying4 _),hA',rfl,bel.frame _,fun h=>by cases h⟩
noncomputable def shelfMorseLow:Nat:=(World.holding Tryz.prog default ⟨#[],#[],[]⟩).heap.size
noncomputable def shelfMorseWorld (os:Os):World :=
 let w0:=World.holding Tryz.prog os ⟨#[.cells #[.string ⟨#[105,110,118,97,108,105,100,32,115,121,110,116,97,120]⟩] 298,.cells #[.string ⟨#[118,97,108,117,101,32,111,117,116,32,111,102,32,114,97,110,103,101]⟩] 298],#[],[]⟩
 { w0 with heap:=((((w0.heap.modify 3 (relay pow10Cells)).modify 4 (relay tab32Cells)).modify 5 (relay tab64Cells)).modify 1 (relay #[.iface 296 (.pointer (some ⟨shelfMorseLow,0,none⟩))])).modify 2 (relay #[.iface 296 (.pointer (some ⟨shelfMorseLow+1,0,none⟩))]) }
theorem shelfMorseMet (os:Os):laidMet Tryz.prog Rows.shelfMorseRow.laid ((shelfMorseWorld os).forCall (fun _ _=>0) ⟨#[],#[.slice none 0 0],[]⟩).memory :=
 laidMet_of_run' 8 (by kernel_rfl) (by kernel_rfl)
theorem shelfMorseReads (os:Os){H:Type}(enc:TypeId×Value->H):∃places,DataW.whole enc Tryz.prog ((shelfMorseWorld os).forCall (fun _ _=>0) ⟨#[],#[.slice none 0 0],[]⟩).memory Tryz.f5.params.toList (OpenSpec.ofChange Rows.shelfMorseSpec).vars false (#[.slice none 0 0]:Array Value).toList 8=some ([.nil],[],places) :=
 ⟨[],by kernel_rfl⟩
set_option maxRecDepth 100000 in
theorem shelfMorseLifted (os:Os)(started:os.Started)(H:Type)(enc:TypeId×Value->H)(F:Stop.Interp) :
  ReturnsInHanded {} Tryz.checked os 5 .any ((OpenSpec.ofChange Rows.shelfMorseSpec).preRow enc Tryz.prog Tryz.f5 Rows.shelfMorseRow.domain false Rows.shelfMorseRow.laid) (((OpenSpec.ofChange Rows.shelfMorseSpec).at F).post enc Tryz.prog Tryz.f5 false true false false):=by
 obtain⟨places,hx⟩:=shelfMorseReads os enc
 refine returnsInHanded_of_row (C:=Tryz.checked) (s:=(OpenSpec.ofChange Rows.shelfMorseSpec)) Tryz.own started (by kernel_rfl) Tryz.func5
  (witness_row_at (enc:=enc) (C:=Tryz.checked) false (shelfMorseWorld os) #[.slice none 0 0] rfl (by kernel_rfl) (by kernel_rfl) (by kernel_rfl)
   (OpenSpec.preRow_of_cond 8 hx (by kernel_rfl) (fun k hk=>by cases hk) (by kernel_rfl) (shelfMorseMet os))) ?_
 intro W base args ds gs before hval hW _ hk hsz hL _ _;exact shelfMorseContract H enc F W base args ds gs before hval hW hsz hL
theorem shelfMorseC0:(Rows.shelfMorseRow.inPlace==Tryz.pinned.checked.prog.inPlace 5)=true:=by kernel_rfl
theorem shelfMorseC1:(Rows.shelfMorseRow.unfollowed==Tryz.pinned.checked.prog.unfollowed 5)=true:=by kernel_rfl
theorem shelfMorseC2:(Rows.shelfMorseRow.recurses==Tryz.pinned.checked.prog.recurses 5)=true:=by kernel_rfl
theorem shelfMorseC3:(Rows.shelfMorseRow.named==Tryz.pinned.checked.prog.varsNamed 5)=true:=by kernel_rfl
theorem shelfMorseClosed:joinedFacts Tryz.pinned.checked.prog 5 Tryz.f5 (OpenSpec.ofChange Rows.shelfMorseSpec).bare Rows.shelfMorseRow=true:=by
 unfold joinedFacts;rw[shelfMorseC0,shelfMorseC1,shelfMorseC2,shelfMorseC3]
 kernel_rfl
theorem shelfMorseNamed:Tryz.pinned.checked.prog.funcNamed Rows.shelfMorseRow.func=some 5:=by kernel_rfl
theorem shelfMorseSaid:Rows.ShelfMorseSaid :=
 OpenClaim.holds_of_cond 5 Tryz.f5 rfl rfl rfl rfl rfl rfl rfl ⟨rfl,rfl,rfl,rfl,rfl⟩ rfl rfl rfl rfl rfl shelfMorseNamed Tryz.func5 shelfMorseClosed
  (of_decide_eq_true (by kernel_rfl)) (by unfold Func.isWrapper;first | (rw[if_pos (by decide +kernel)];kernel_rfl) | (rw[if_neg (by decide +kernel)];exact⟨rfl,rfl⟩))
  (fun os started H enc _ F=>by rw[OpenClaim.pre_eq_preRow];exact shelfMorseLifted os started H enc F)
theorem shelfMorsePlain (f:FuncId)(fn:Func)(hf:Tryz.pinned.checked.prog.funcNamed "scriptshift/scriptlaw16.ShelfMorse"=some f)(hfn:Tryz.pinned.checked.prog.funcs[f]?=some fn) :
  true=Tryz.pinned.checked.prog.looks []/\∀(j:Nat) t,fn.params[j]?=some t->Tryz.pinned.checked.prog.wantsStandIn t=false:=by
 obtain rfl:f=5:=Option.some.inj ((show Tryz.prog.funcNamed "scriptshift/scriptlaw16.ShelfMorse"=some 5 by kernel_rfl).symm.trans hf) |>.symm
 obtain rfl:fn=Tryz.f5:=(Option.some.inj (Tryz.func5.symm.trans hfn)).symm;refine⟨by kernel_rfl,fun j t ht=> ?_⟩;rw[Tryz.params5] at ht;have hm:=Array.mem_of_getElem? ht;have hm2:t=52:=by simpa using hm
 subst hm2;exact(show Tryz.prog.wantsStandIn 52=false by kernel_rfl)
theorem shelfMorse_card:Rows.ShelfMorseCardSaid :=
 Claim7.holds_tied_plain_at .later [] _ _ _ _ shelfMorseSaid (fun _ h=>by cases h) (by kernel_rfl) (fun _ h=>by cases h) shelfMorse_row_tie rfl ⟨rfl,rfl⟩ (by kernel_rfl) rfl shelfMorsePlain (by kernel_rfl)
#print axioms shelfMorse_card
end Go.Proofs.YteagjpnbiceafaaGreatDoor
