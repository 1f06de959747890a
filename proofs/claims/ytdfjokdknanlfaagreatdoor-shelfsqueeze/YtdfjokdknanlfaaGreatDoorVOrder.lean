/-
 resolve.lookup and resolve.order: the functions that they hand back, and their boxes.
-/
import Derived.Test.YtdfjokdknanlfaaGreatDoorVNext
import Derived.Laws.EntriesVeiled
set_option maxHeartbeats 0
namespace Go.Proofs.YtdfjokdknanlfaaGreatDoor
open Go.RowKit Go.Lib
set_option maxRecDepth 20000
set_option linter.unusedSimpArgs false
set_option linter.unusedVariables false
theorem zlx (w:World)(B:Nat):Calls Tryz.prog 71 #[.map (some B)] w fun e w'=>e= .returned (.func (.func 99) #[] #[.pointer (some ⟨w.heap.size,0,none⟩)])/\w'=w.alloc (.cells #[.map (some B)] 98):=by
 go_enter Tryz.func71,Tryz.ntmps71
 go_wp2;go_ret
 exact⟨rfl,rfl⟩
theorem znz (w:World)(B n:Nat)(f:ByteArray->Option Value)(HM:V.MapIs w B n f) :
  Calls Tryz.prog 70 #[.map (some B)] w fun e w'=>e= .returned (.func (.func 97) #[] #[.pointer (some ⟨w.heap.size,0,none⟩),.pointer (some ⟨w.heap.size+1,0,none⟩),.pointer (some ⟨w.heap.size+2,0,none⟩)]) /\
   V.Env w' w.heap.size (w.heap.size+1) (w.heap.size+2) B n f false/\Below w.heap.size w w'/\w'.heap.size=w.heap.size+3:=by
 have HMs:Hid (V.MapIs w B n f):=HM;clear HM
 go_enter Tryz.func70,Tryz.ntmps70
 go_wp2;go_ret
 have hlt:=HMs.out.lt;have b1:Below w.heap.size w (w.alloc (.cells #[.map (some B)] 98)):=(qR w).alloc qN _;have x:=K.zbt (qR (((w.alloc (.cells #[.map (some B)] 98)).alloc (.cells #[.bool false] 4)).alloc (.cells #[.func (.func 96) #[] #[.pointer (some ⟨w.heap.size,0,none⟩)]] 144)));have hs1:(w.alloc (.cells #[.map (some B)] 98)).heap.size=w.heap.size+1:=by simp
 rw[hs1] at x;have hbb:Below w.heap.size w (((w.alloc (.cells #[.map (some B)] 98)).alloc (.cells #[.bool false] 4)).alloc (.cells #[.func (.func 96) #[] #[.pointer (some ⟨w.heap.size,0,none⟩)]] 144)):=b1.trans (x.2.2.1.mono (by omega));have h0:=(x.2.2.1.block w.heap.size (by omega)).trans (heap_alloc_new w (.cells #[.map (some B)] 98));refine⟨rfl,⟨K.zah (i:=0) h0 rfl,x.1,K.zah (i:=0) x.2.1 rfl,HMs.out.below hbb hlt,by omega,by omega,by omega,by omega,by omega⟩,hbb,by simp⟩
end Go.Proofs.YtdfjokdknanlfaaGreatDoor
