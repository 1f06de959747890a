/-
  The classes, walked.
-/
import Derived.Test.YtbepnmmcdllklaaDoorTClass
namespace Go.Proofs.YtbepnmmcdllklaaDoor
open Go.RowKit
set_option maxRecDepth 20000

def T.names : List (ByteArray × List S.Sp) :=
  [(⟨#[100, 105, 103, 105, 116]⟩, [(48, 57)]), (⟨#[108, 111, 119, 101, 114]⟩, [(97, 122), (223, 246), (248, 255)]),
   (⟨#[117, 112, 112, 101, 114]⟩, [(65, 90), (192, 214), (216, 222)]), (⟨#[108, 101, 116, 116, 101, 114]⟩, [(65, 90), (97, 122), (192, 214), (216, 246), (248, 255)]),
   (⟨#[118, 111, 119, 101, 108]⟩, [(65, 65), (69, 69), (73, 73), (79, 79), (85, 85), (97, 97), (101, 101), (105, 105), (111, 111), (117, 117)]),
   (⟨#[103, 114, 101, 101, 107]⟩, [(880, 1023)]), (⟨#[99, 121, 114, 105, 108, 108, 105, 99]⟩, [(1024, 1279)]), (⟨#[115, 112, 97, 99, 101]⟩, [(9, 10), (32, 32)]), (⟨#[97, 110, 121]⟩, [(0, 1114111)])]

theorem cls_start (w : World) : ∃ w1 b, (Instr.makeMap 131 none).run Tryd.prog w = .ok (.map (some b)) w1 ∧ T.Cls w1 b [] ∧ Hid (w.heap.size ≤ b ∧ Below w.heap.size w w1) :=
  ⟨_, _, run_makeMap _ _, cls_new w, ⟨Nat.le_refl _, (Below.refl _ _).alloc (Nat.le_refl _) _⟩⟩
theorem cls_step {w w1 : World} {b : Nat} {ents : List (ByteArray × List S.Sp)} (hC : T.Cls w1 b ents) (hB : Hid (w.heap.size ≤ b ∧ Below w.heap.size w w1)) (s : ByteArray) (sp : List S.Sp) (C : Array Value) (hCC : C = (S.cellsOf sp).toArray) (n c : Nat) (hn : n = sp.length) (hnew : ∀ x ∈ ents, x.1 ≠ s) :
    ∃ w2, (Instr.mapUpdate 131 (.map (some b)) (.string s) (.slice (some ⟨w1.heap.size, 0, none⟩) n c)).run Tryd.prog (w1.alloc (.cells C 53)) = .ok () w2 ∧ T.Cls w2 b (ents ++ [(s, sp)]) ∧ Hid (w.heap.size ≤ b ∧ Below w.heap.size w w2) := by
  have b1 : Below w1.heap.size w1 (w1.alloc (.cells C 53)) := (Below.refl _ _).alloc (Nat.le_refl _) _
  obtain ⟨w2, r, h1, h2⟩ := cls_insert (cls_below hC b1) s _ sp hnew (rd_alloc w1 sp C hCC n hn c)
  have hB1 : Below w.heap.size w (w1.alloc (.cells C 53)) := hB.out.2.alloc hB.out.2.size _
  exact ⟨w2, r, h1, hB.out.1, hB1.grown h2 hB1.size (fun j hj => by cases hj; exact hB.out.1)⟩

set_option maxHeartbeats 4000000 in
theorem classes_any (w : World) : Calls Tryd.prog 114 #[] w fun e w' => ∃ b, e = .returned (.map (some b)) ∧ w.heap.size ≤ b ∧ T.Cls w' b T.names ∧ Below w.heap.size w w' := by
  go_enter Tryd.func114, Tryd.ntmps114
  go_wp2_with fail
  obtain ⟨w1, b, r, hC, hB⟩ := cls_start w
  rw [r]; clear r
  go_wp2_with fail
  obtain ⟨w2, r, hC, hB⟩ := cls_step hC hB ⟨#[100, 105, 103, 105, 116]⟩ [(48, 57)] #[.int .i32 48, .int .i32 57] rfl 1 1 rfl (by decide)
  rw [r]; clear r
  go_wp2_with fail
  obtain ⟨w3, r, hC, hB⟩ := cls_step hC hB ⟨#[108, 111, 119, 101, 114]⟩ [(97, 122), (223, 246), (248, 255)] #[.int .i32 97, .int .i32 122, .int .i32 223, .int .i32 246, .int .i32 248, .int .i32 255] rfl 3 3 rfl (by decide)
  rw [r]; clear r
  go_wp2_with fail
  obtain ⟨w4, r, hC, hB⟩ := cls_step hC hB ⟨#[117, 112, 112, 101, 114]⟩ [(65, 90), (192, 214), (216, 222)] #[.int .i32 65, .int .i32 90, .int .i32 192, .int .i32 214, .int .i32 216, .int .i32 222] rfl 3 3 rfl (by decide)
  rw [r]; clear r
  go_wp2_with fail
  obtain ⟨w5, r, hC, hB⟩ := cls_step hC hB ⟨#[108, 101, 116, 116, 101, 114]⟩ [(65, 90), (97, 122), (192, 214), (216, 246), (248, 255)] #[.int .i32 65, .int .i32 90, .int .i32 97, .int .i32 122, .int .i32 192, .int .i32 214, .int .i32 216, .int .i32 246, .int .i32 248, .int .i32 255] rfl 5 5 rfl (by decide)
  rw [r]; clear r
  go_wp2_with fail
  refine (one_any 65 _).mono ?_
  rintro e w6 ⟨rfl, hb⟩
  replace hC := cls_below hC hb
  replace hB : Hid (w.heap.size ≤ b ∧ Below w.heap.size w w6) := ⟨hB.out.1, hB.out.2.trans (hb.mono hB.out.2.size)⟩
  clear hb
  go_wp2_with fail
  refine (one_any 69 _).mono ?_
  rintro e w7 ⟨rfl, hb⟩
  replace hC := cls_below hC hb
  replace hB : Hid (w.heap.size ≤ b ∧ Below w.heap.size w w7) := ⟨hB.out.1, hB.out.2.trans (hb.mono hB.out.2.size)⟩
  clear hb
  go_wp2_with fail
  refine (one_any 73 _).mono ?_
  rintro e w8 ⟨rfl, hb⟩
  replace hC := cls_below hC hb
  replace hB : Hid (w.heap.size ≤ b ∧ Below w.heap.size w w8) := ⟨hB.out.1, hB.out.2.trans (hb.mono hB.out.2.size)⟩
  clear hb
  go_wp2_with fail
  refine (one_any 79 _).mono ?_
  rintro e w9 ⟨rfl, hb⟩
  replace hC := cls_below hC hb
  replace hB : Hid (w.heap.size ≤ b ∧ Below w.heap.size w w9) := ⟨hB.out.1, hB.out.2.trans (hb.mono hB.out.2.size)⟩
  clear hb
  go_wp2_with fail
  refine (one_any 85 _).mono ?_
  rintro e w10 ⟨rfl, hb⟩
  replace hC := cls_below hC hb
  replace hB : Hid (w.heap.size ≤ b ∧ Below w.heap.size w w10) := ⟨hB.out.1, hB.out.2.trans (hb.mono hB.out.2.size)⟩
  clear hb
  go_wp2_with fail
  refine (one_any 97 _).mono ?_
  rintro e w11 ⟨rfl, hb⟩
  replace hC := cls_below hC hb
  replace hB : Hid (w.heap.size ≤ b ∧ Below w.heap.size w w11) := ⟨hB.out.1, hB.out.2.trans (hb.mono hB.out.2.size)⟩
  clear hb
  go_wp2_with fail
  refine (one_any 101 _).mono ?_
  rintro e w12 ⟨rfl, hb⟩
  replace hC := cls_below hC hb
  replace hB : Hid (w.heap.size ≤ b ∧ Below w.heap.size w w12) := ⟨hB.out.1, hB.out.2.trans (hb.mono hB.out.2.size)⟩
  clear hb
  go_wp2_with fail
  refine (one_any 105 _).mono ?_
  rintro e w13 ⟨rfl, hb⟩
  replace hC := cls_below hC hb
  replace hB : Hid (w.heap.size ≤ b ∧ Below w.heap.size w w13) := ⟨hB.out.1, hB.out.2.trans (hb.mono hB.out.2.size)⟩
  clear hb
  go_wp2_with fail
  refine (one_any 111 _).mono ?_
  rintro e w14 ⟨rfl, hb⟩
  replace hC := cls_below hC hb
  replace hB : Hid (w.heap.size ≤ b ∧ Below w.heap.size w w14) := ⟨hB.out.1, hB.out.2.trans (hb.mono hB.out.2.size)⟩
  clear hb
  go_wp2_with fail
  refine (one_any 117 _).mono ?_
  rintro e w15 ⟨rfl, hb⟩
  replace hC := cls_below hC hb
  replace hB : Hid (w.heap.size ≤ b ∧ Below w.heap.size w w15) := ⟨hB.out.1, hB.out.2.trans (hb.mono hB.out.2.size)⟩
  clear hb
  go_wp2_with fail
  obtain ⟨w16, r, hC, hB⟩ := cls_step hC hB ⟨#[118, 111, 119, 101, 108]⟩ [(65, 65), (69, 69), (73, 73), (79, 79), (85, 85), (97, 97), (101, 101), (105, 105), (111, 111), (117, 117)] #[.int .i32 65, .int .i32 65, .int .i32 69, .int .i32 69, .int .i32 73, .int .i32 73, .int .i32 79, .int .i32 79, .int .i32 85, .int .i32 85, .int .i32 97, .int .i32 97, .int .i32 101, .int .i32 101, .int .i32 105, .int .i32 105, .int .i32 111, .int .i32 111, .int .i32 117, .int .i32 117] rfl 10 10 rfl (by decide)
  rw [r]; clear r
  go_wp2_with fail
  obtain ⟨w17, r, hC, hB⟩ := cls_step hC hB ⟨#[103, 114, 101, 101, 107]⟩ [(880, 1023)] #[.int .i32 880, .int .i32 1023] rfl 1 1 rfl (by decide)
  rw [r]; clear r
  go_wp2_with fail
  obtain ⟨w18, r, hC, hB⟩ := cls_step hC hB ⟨#[99, 121, 114, 105, 108, 108, 105, 99]⟩ [(1024, 1279)] #[.int .i32 1024, .int .i32 1279] rfl 1 1 rfl (by decide)
  rw [r]; clear r
  go_wp2_with fail
  refine (one_any 32 _).mono ?_
  rintro e w19 ⟨rfl, hb⟩
  replace hC := cls_below hC hb
  replace hB : Hid (w.heap.size ≤ b ∧ Below w.heap.size w w19) := ⟨hB.out.1, hB.out.2.trans (hb.mono hB.out.2.size)⟩
  clear hb
  go_wp2_with fail
  obtain ⟨w20, r, hC, hB⟩ := cls_step hC hB ⟨#[115, 112, 97, 99, 101]⟩ [(9, 10), (32, 32)] #[.int .i32 9, .int .i32 10, .int .i32 32, .int .i32 32] rfl 2 2 rfl (by decide)
  rw [r]; clear r
  go_wp2_with fail
  obtain ⟨w21, r, hC, hB⟩ := cls_step hC hB ⟨#[97, 110, 121]⟩ [(0, 1114111)] #[.int .i32 0, .int .i32 1114111] rfl 1 1 rfl (by decide)
  rw [r]; clear r
  go_wp2_with fail
  go_ret
  exact ⟨b, rfl, hB.out.1, hC, hB.out.2⟩
