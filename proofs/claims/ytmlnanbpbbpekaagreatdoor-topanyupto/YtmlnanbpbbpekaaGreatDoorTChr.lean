/-
 A character that is told by its number.
-/
import Derived.Test.YtmlnanbpbbpekaaGreatDoorTParse
import Derived.Laws.IdiomStrings
import Derived.Test.YtmlnanbpbbpekaaGreatDoorRMath
import Derived.Test.YtmlnanbpbbpekaaGreatDoorSWrong
import Derived.Laws.Bits64b
import Derived.Laws.ResultCell
namespace Go.Proofs.YtmlnanbpbbpekaaGreatDoor
open Go.RowKit
def T.Ends (w : World) (cb tb cap : Nat) (ao : Option Addr) (l : List Int) {α : Type} (o : T.Out α) (val : α -> Value -> World -> Prop) (e : Ending) (w' : World) : Prop :=
 match o with
 | .ok a q => ∃ v, e = .returned v /\ val a v w' /\ T.Cur w' cb tb cap ao l q /\ w.grownBy w' (some cb)
 | .bad er q => e = T.thrown er q /\ w.grownBy w' (some cb)
def T.isRune (a : Int) (v : Value) (_ : World) : Prop := v = .int .i32 a
theorem foldl_bytes : ∀ (ns : List Int) (r : ByteArray), (ns.foldl (fun r n => r ++ Utf8.encode n) r).data.toList = r.data.toList ++ ns.flatMap fun n => M.enc n
 | [], r => by simp
 | n :: ns, r => by
  rw [List.foldl_cons, foldl_bytes ns, ByteArray.data_append, Array.toList_append, List.flatMap_cons, List.append_assoc]
  rfl
theorem runesBytes_list (ns : List Int) : (runesBytes ns).data.toList = ns.flatMap fun n => M.enc n := by
 have h := foldl_bytes ns ByteArray.empty
 have e : ByteArray.empty.data.toList = ([] : List UInt8) := rfl
 rw [e, List.nil_append] at h
 exact h
theorem convert_rd {P : Program} {w : World} {ao : Option Addr} {cap : Nat} {zs : List Int} (src dst e : TypeId)
  (hs : P.underlying src = some (.slice e)) (he : P.underlying e = some (.int .i32)) (hd : P.underlying dst = some .string)
  (hn : ao = none -> cap = 0) (hc : zs ≠ [] -> ∃ b off, ao = some ⟨b, off, none⟩ /\ ∀ j z, zs[j]? = some z -> w.cell? ⟨b, off + j, none⟩ = some (.int .i32 z)) :
  (convert src dst (.slice ao zs.length cap)).run P w = .ok (.string (runesBytes zs)) w := by
 cases ao with
 | none =>
  have h0 : zs = [] := by
   cases zs with
   | nil => rfl
   | cons z zs => obtain ⟨b, off, h, _⟩ := hc (by simp); simp at h
  subst h0
  exact run_convert_runes_nil w src dst e _ _ hs he hd
 | some ad =>
  have h := run_convert_runes (P := P) w src dst e ad zs.length cap zs (Nat.le_refl _) hs he hd (fun j hj => by
   obtain ⟨b, off, hao, hcell⟩ := hc (by intro h; subst h; simp at hj)
   simp at hao
   subst hao
   rw [L.addr_add]
   exact hcell j _ (by simp [List.getD, hj]))
  rw [List.take_length] at h
  exact h
theorem ascii_bytes (zs : List Int) (h : ∀ z ∈ zs, 0 <= z /\ z < 128) : T.bts (runesBytes zs) = zs /\ (runesBytes zs).size = zs.length /\ ∀ b ∈ (runesBytes zs).data.toList, (b.toNat : Int) ∈ zs := by
 have h1 : (runesBytes zs).data.toList.map (fun b => (b.toNat : Int)) = zs := by
  rw [runesBytes_list]
  induction zs with
  | nil => rfl
  | cons z zs ih =>
   have hz := h z (by simp)
   obtain ⟨n, rfl⟩ : ∃ n : Nat, z = (n : Int) := ⟨z.toNat, by omega⟩
   have hr : M.right (n : Int) = true := by unfold M.right; exact decide_eq_true (by omega)
   rw [List.flatMap_cons, List.map_append, ih (fun x hx => h x (by simp [hx])), M.enc_eq n hr, if_pos (by omega)]
   simp only [List.map_cons, List.map_nil, M.u8 n (by omega)]
   rfl
 refine ⟨h1, ?_, fun b hb => ?_⟩
 ·have := congrArg List.length h1
  rw [List.length_map] at this
  have e : (runesBytes zs).data.toList.length = (runesBytes zs).size := by simp
  omega
 ·rw [<- h1]; exact List.mem_map.2 ⟨b, hb, rfl⟩
theorem cut_len {l : List Int} {p q : Nat} (h1 : p <= q) (h2 : q <= l.length) : (T.cut l p q).length = q - p := by
 unfold T.cut; rw [List.length_take, List.length_drop]; omega
theorem cut_get {l : List Int} {p q j : Nat} {z : Int} (h : (T.cut l p q)[j]? = some z) : l[p + j]? = some z := by
 unfold T.cut at h
 rw [List.getElem?_take] at h
 split at h
 ·rwa [List.getElem?_drop] at h
 ·cases h
theorem T.Cur.text {w : World} {cb tb cap p : Nat} {ao : Option Addr} {l : List Int} (C : T.Cur w cb tb cap ao l p) {f q : Nat} (h1 : f <= q) (h2 : q <= l.length) (a : Addr) (ha : f < q -> a = ⟨tb, f, none⟩) (c : Nat) :
  (convert 29 9 (.slice (some a) (q - f) c)).run Tryz.prog w = .ok (.string (runesBytes (T.cut l f q))) w := by
 have h := convert_rd (P := Tryz.prog) (w := w) (ao := some a) (cap := c) (zs := T.cut l f q) 29 9 21 Tryz.underlying29 Tryz.underlying21 Tryz.underlying9 (fun h => by cases h) (fun hne => by
  have hlt : f < q := by
   apply Classical.byContradiction
   intro hn
   exact hne (List.length_eq_zero_iff.1 (by rw [cut_len h1 h2]; omega))
  exact ⟨tb, f, by rw [ha hlt], fun j z hj => C.rd _ _ (cut_get hj)⟩)
 rw [cut_len h1 h2] at h
 exact h
set_option maxHeartbeats 4000000 in
theorem num_any (w : World) (cb tb cap p : Nat) (ao : Option Addr) (l : List Int) (C : T.Cur w cb tb cap ao l p) (hu : T.see l p = 117) :
  Calls Tryz.prog 263 #[.pointer (some ⟨cb, 0, none⟩)] w (T.Ends w cb tb cap ao l (T.num l p) T.isRune) := by
 have hp := C.inside (by rw [hu]; decide)
 have hlen := C.len
 have c1 := C.cell1
 have HC : Hid (T.Cur w cb tb cap ao l p) := C
 clear C
 obtain ⟨o, HO⟩ : ∃ o, Hid (T.num l p = o) := ⟨_, rfl⟩
 rw [HO.out]
 by_cases h1 : T.see l (p + 1) = 123
 ·have hp1 := HC.out.len
  go_enter Tryz.func263, Tryz.ntmps263
  go_wp2_with fail
  refine (need_yes _ cb tb cap p ao l 117 (by decide) HC.out hu).mono ?_
  rintro e w1 ⟨rfl, C1, g1⟩
  have G1 : Hid (w.grownBy w1 (some cb)) := g1
  clear g1
  go_wp2_with fail
  refine (need_yes _ cb tb cap (p + 1) ao l 123 (by decide) C1 h1).mono ?_
  rintro e w2 ⟨rfl, C2, g2⟩
  have G2 : Hid (w.grownBy w2 (some cb)) := S.grown_trans G1.out g2
  obtain ⟨f, HF⟩ : ∃ f, Hid (p + 2 = f) := ⟨_, rfl⟩
  have d1 : w2.cell? ⟨cb, 1, none⟩ = some (.int .i64 (f : Int)) := by rw [<- HF.out]; exact C2.cell1
  have HC2 : Hid (T.Cur w2 cb tb cap ao l (p + 2)) := C2
  have hle2 := C2.le
  clear C2 C1 G1 g2 c1
  go_wp2
  go_loopw [21] (fun _ wr => ∃ q : Nat, p + 2 <= q /\ Hid (∀ i, p + 2 <= i -> i < q -> T.hexd (T.see l i) = true) /\ Hid (T.Cur wr cb tb cap ao l q) /\ Hid (w.grownBy wr (some cb))) (fun _ wr => l.length - T.pos wr cb)
  case atStart => exact ⟨p + 2, Nat.le_refl _, fun i h1 h2 => by omega, HC2, G2⟩
  case round =>
   obtain ⟨q, hq, HA, HCq, HG⟩ := hrel
   have HP : Hid _ := HCq.out.pos
   have hql := HCq.out.le
   go_wp2_with fail
   refine (hexd_any _ cb tb cap q ao l HCq.out).mono ?_
   rintro e w3 ⟨rfl, b3⟩
   have C3 := HCq.out.below b3
   have c3 := C3.cell1
   have c3t := C3.cell0
   have f3 := C3.frz1
   have HC3 : Hid (T.Cur w3 cb tb cap ao l q) := C3
   have HG3 : Hid (w.grownBy w3 (some cb)) := S.grown_trans HG.out (S.grown_below b3)
   clear C3
   by_cases hb : T.hexd (T.see l q) = true
   ·have hlt : q < l.length := HCq.out.inside (by intro h; rw [h] at hb; revert hb; decide)
    go_wp2
    go_roundw
    case rel =>
     refine ⟨q + 1, by omega, fun i h1 h2 => ?_, HC3.out.set (q := q + 1) (by omega), S.grown_trans HG3.out (fr_set _ _ _ _)⟩
     by_cases e : i = q
     ·rw [e]; exact hb
     ·exact HA.out i h1 (by omega)
    case measure =>
     have h1 : T.pos (w3.setCell ⟨cb, 1, none⟩ (.int .i64 ((q : Int) + 1))) cb = q + 1 := (HC3.out.set (q := q + 1) (by omega)).pos
     rw [h1, HP.out]
     omega
   ·have hb' : T.hexd (T.see l q) = false := by simpa using hb
    have HK : Hid (T.skipW T.hexd l (p + 2) = q) := T.skipW_eq hq hql HA.out hb' (by decide)
    have hao := HC3.out.txt (by intro h; subst h; simp at hp)
    subst hao
    have hcp := HC3.out.cp
    have hfq : f <= q := by have := HF.out; omega
    have hz := ascii_bytes (T.cut l f q) fun z hz => by
     obtain ⟨j, hj⟩ := List.getElem?_of_mem hz
     have hlj : j < q - f := by
      have := (List.getElem?_eq_some_iff.1 hj).1
      rw [cut_len hfq hql] at this
      exact this
     have h3 := T.see_some (cut_get hj)
     have h4 := HA.out (f + j) (by have := HF.out; omega) (by omega)
     rw [h3] at h4
     have := hexd_cases h4
     omega
    have HZ : Hid _ := hz
    rw [cut_len hfq hql] at hz
    have hsz := hz.2.1
    clear hz
    have i1 : (0 : Int) <= (f : Int) := by omega
    have i2 : (f : Int) <= (q : Int) := by omega
    have i3 : (q : Int) <= (cap : Int) := by omega
    have HHex : Hid (∀ b ∈ (runesBytes (T.cut l f q)).data.toList, T.hexd (b.toNat : Int) = true) := fun b hb => by
     have h3 := HZ.out.2.2 b hb
     obtain ⟨j, hj⟩ := List.getElem?_of_mem h3
     have hlj : j < q - f := by
      have := (List.getElem?_eq_some_iff.1 hj).1
      rw [cut_len hfq hql] at this
      exact this
     have h5 := T.see_some (cut_get hj)
     have h4 := HA.out (f + j) (by have := HF.out; omega) (by omega)
     rw [h5] at h4
     exact h4
    by_cases hlt : f < q
    ·have hcf : ¬ cap = f := by omega
     have hcv : ∀ n, (convert 29 9 (.slice (some ⟨tb, f, none⟩) (q - f) (cap - f))).run Tryz.prog (w3.drewN n) = .ok (.string (runesBytes (T.cut l f q))) (w3.drewN n) := fun n => (HC3.out.drewN n).text hfq hql _ (fun _ => rfl) _
     generalize runesBytes (T.cut l f q) = str at hcv hsz HHex HZ
     go_wp2
     go_quiet (fail)
     have C4 := HC3.out.drewN nq
     have HG4 : Hid (w.grownBy (w3.drewN nq) (some cb)) := S.grown_trans HG3.out (fr_drewN _ _ _)
     clear hcv
     generalize w3.drewN nq = w4 at C4 HG4
     have HC4 : Hid (T.Cur w4 cb tb cap (some ⟨tb, 0, none⟩) l q) := C4
     clear C4
     have hk1 : ¬ str.size < 1 := by omega
     by_cases h6 : 6 < str.size
     ·go_wp2_with (go_at_call 36; refine (fail_any _ 2 f).mono ?_; unfold T.thrown; rintro e w5 ⟨rfl, rfl⟩)
      refine ⟨rfl, ?_⟩
      rw [<- HO.out]
      unfold T.num
      rw [HK.out, HF.out, if_neg (by simp [h1]), if_pos (.inr (by omega))]
      exact ⟨rfl, HG4.out⟩
     ·by_cases h125 : T.see l q = 125
      ·go_wp2_with fail
       refine (need_yes _ cb tb cap q _ l 125 (by decide) HC4.out h125).mono ?_
       rintro e w5 ⟨rfl, C5, g5⟩
       have HC5 : Hid (T.Cur w5 cb tb cap (some ⟨tb, 0, none⟩) l (q + 1)) := C5
       have HG5 : Hid (w.grownBy w5 (some cb)) := S.grown_trans HG4.out g5
       clear C5 g5
       go_wp2_with fail
       refine (parse_any str _ (by omega) (by omega) HHex.out).mono ?_
       have hn := hexN_small str (by omega) HHex.out
       rw [HZ.out.1] at hn ⊢
       obtain ⟨n, HN⟩ : ∃ n, Hid (T.hexN (T.cut l f q) = n) := ⟨_, rfl⟩
       rw [HN.out] at hn ⊢
       rintro e w6 ⟨rfl, b6⟩
       have HC6 : Hid (T.Cur w6 cb tb cap (some ⟨tb, 0, none⟩) l (q + 1)) := HC5.out.below b6
       have HG6 : Hid (w.grownBy w6 (some cb)) := S.grown_trans HG5.out (S.grown_below b6)
       clear b6
       by_cases hbig : 1114111 < n
       ·go_wp2_with (go_at_call 36; refine (fail_any _ 3 p).mono ?_; unfold T.thrown; rintro e w7 ⟨rfl, rfl⟩)
        refine ⟨rfl, ?_⟩
        rw [<- HO.out]
        unfold T.num
        rw [HK.out, HF.out, HN.out, if_neg (by simp [h1]), if_neg (by omega), if_neg (by simp [h125]), if_pos hbig]
        exact ⟨rfl, HG6.out⟩
       ·have hn0 := hn.1
        have hn1 := hn.2
        go_wp2
        go_ret
        rw [<- HO.out]
        unfold T.num
        rw [HK.out, HF.out, HN.out, if_neg (by simp [h1]), if_neg (by omega), if_neg (by simp [h125]), if_neg (by omega)]
        exact ⟨_, rfl, rfl, HC6.out, HG6.out⟩
      ·go_wp2_with fail
       refine (need_no _ cb tb cap q _ l 125 (by decide) HC4.out h125).mono ?_
       unfold T.thrown
       rintro e w5 ⟨rfl, g5⟩
       go_wp2
       refine ⟨rfl, ?_⟩
       rw [<- HO.out]
       unfold T.num
       rw [HK.out, HF.out, if_neg (by simp [h1]), if_neg (by omega), if_pos h125]
       exact ⟨rfl, S.grown_trans HG4.out g5⟩
    ·have hqf : q = f := by omega
     subst hqf
     have hcv : ∀ a c n, (convert 29 9 (.slice (some a) 0 c)).run Tryz.prog (w3.drewN n) = .ok (.string (runesBytes (T.cut l q q))) (w3.drewN n) := fun a c n => by
      have := (HC3.out.drewN n).text hfq hql a (fun h => absurd h (Nat.lt_irrefl _)) c
      rw [Nat.sub_self] at this
      exact this
     rw [Nat.sub_self] at hsz
     generalize runesBytes (T.cut l q q) = str at hcv hsz HHex HZ
     by_cases hcf : cap = q
     all_goals go_wp2
     all_goals go_quiet (fail)
     all_goals have HG4 : Hid (w.grownBy (w3.drewN nq) (some cb)) := S.grown_trans HG3.out (fr_drewN _ _ _)
     all_goals clear hcv
     all_goals generalize w3.drewN nq = w4 at HG4
     all_goals have hk1 : str.size < 1 := by omega
     all_goals go_wp2_with (go_at_call 36; refine (fail_any _ 2 q).mono ?_; unfold T.thrown; rintro e w5 ⟨rfl, rfl⟩)
     all_goals refine ⟨rfl, ?_⟩
     all_goals rw [<- HO.out]
     all_goals unfold T.num
     all_goals rw [HK.out, HF.out, if_neg (by simp [h1]), if_pos (.inl (by omega))]
     all_goals exact ⟨rfl, HG4.out⟩
 ·go_enter Tryz.func263, Tryz.ntmps263
  go_wp2_with fail
  refine (need_yes _ cb tb cap p ao l 117 (by decide) HC.out hu).mono ?_
  rintro e w1 ⟨rfl, C1, g1⟩
  go_wp2_with fail
  refine (need_no _ cb tb cap (p + 1) ao l 123 (by decide) C1 h1).mono ?_
  unfold T.thrown
  rintro e w2 ⟨rfl, g2⟩
  go_wp2
  refine ⟨rfl, ?_⟩
  rw [<- HO.out]
  unfold T.num
  rw [if_pos h1]
  exact ⟨rfl, S.grown_trans g1 g2⟩
set_option maxHeartbeats 400000 in
theorem right_any (r : Int) (w : World) :
  Calls Tryz.prog 99 #[.int .i32 r] w fun e w' => e = .returned (.bool (M.right r)) /\ w' = w := by
 go_enter Tryz.func99, Tryz.ntmps99
 go_wp2
 all_goals go_ret
 all_goals refine ⟨L.ret_bool ?_, rfl⟩
 all_goals (unfold M.right; rw [Bool.eq_iff_iff]; simp; try omega)
set_option maxHeartbeats 1000000 in
theorem alnum_any (r : Int) (w : World) :
  Calls Tryz.prog 179 #[.int .i32 r] w fun e w' => e = .returned (.bool (T.alnum r)) /\ w' = w := by
 go_enter Tryz.func179, Tryz.ntmps179
 go_wp2
 all_goals go_ret
 all_goals refine ⟨L.ret_bool ?_, rfl⟩
 all_goals (unfold T.alnum; rw [Bool.eq_iff_iff]; simp; try omega)
def T.Tz (w : World) : Prop := w.cell? ⟨3, 15, none⟩ = some (.int .u8 4)
theorem T.Tz.below {w w' : World} {B : Nat} (h : T.Tz w) (hb : Below B w w') (hB : 3 < B) : T.Tz w' := by
 unfold T.Tz at h ⊢; rw [hb.cell (p := ⟨3, 15, none⟩) hB]; exact h
theorem T.Tz.lt {w : World} (h : T.Tz w) : 3 < w.heap.size := L.block_lt h
def digBytes : ByteArray := { data := #[48, 49, 50, 51, 52, 53, 54, 55, 56, 57, 97, 98, 99, 100, 101, 102, 103, 104, 105, 106, 107, 108, 109, 110, 111, 112, 113, 114, 115, 116, 117, 118, 119, 120, 121, 122] }
def Digs (w wr : World) (i : Nat) (d : List UInt8) : Prop :=
 Below w.heap.size w wr /\ (∀ j c, d[j]? = some c -> wr.cell? ⟨w.heap.size, i + j, none⟩ = some (.int .u8 c.toNat)) /\ ∀ j < 65, ∃ v, wr.cell? ⟨w.heap.size, j, none⟩ = some v /\ wr.frozen? ⟨w.heap.size, j, none⟩ = false
theorem Digs.push {w wr : World} {i : Nat} {d : List UInt8} (h : Digs w wr (i + 1) d) (hi : i < 65) (c : UInt8) : Digs w (wr.setCell ⟨w.heap.size, i, none⟩ (.int .u8 c.toNat)) i (c :: d) := by
 obtain ⟨v, hc, hf⟩ := h.2.2 i hi
 refine ⟨h.1.setCell (Nat.le_refl _) _, ?_, ?_⟩
 ·intro j x hj
  cases j with
  | zero => simp at hj; subst hj; exact World.cell?_setCell_same _ _ _ hc
  | succ j =>
   rw [World.cell?_setCell_other _ _ _ _ (by simp)]
   have := h.2.1 j x (by simpa using hj)
   rw [show i + (j + 1) = i + 1 + j by omega]
   exact this
 ·intro j hj
  obtain ⟨v', hc', hf'⟩ := h.2.2 j hj
  by_cases e : j = i
  ·subst e; exact ⟨_, World.cell?_setCell_same _ _ _ hc, by rw [World.frozen?_setCell]; exact hf⟩
  ·exact ⟨v', by rw [World.cell?_setCell_other _ _ _ _ (fun h => e (congrArg Addr.off h).symm)]; exact hc', by rw [World.frozen?_setCell]; exact hf'⟩
set_option maxHeartbeats 4000000 in
theorem esc_any (w : World) (cb tb cap p : Nat) (ao : Option Addr) (l : List Int) (C : T.Cur w cb tb cap ao l p) :
  Calls Tryz.prog 256 #[.pointer (some ⟨cb, 0, none⟩)] w (T.Ends w cb tb cap ao l (T.esc l p) T.isRune) := by
 have hlen := C.len
 have HC : Hid (T.Cur w cb tb cap ao l p) := C
 clear C
 obtain ⟨o, HO⟩ : ∃ o, Hid (T.esc l p = o) := ⟨_, rfl⟩
 rw [HO.out]
 go_enter Tryz.func256, Tryz.ntmps256
 go_wp2_with fail
 refine (is_any _ cb tb cap p ao l 117 HC.out).mono ?_
 rintro e w1 ⟨rfl, b1⟩
 have HC1 : Hid (T.Cur w1 cb tb cap ao l p) := HC.out.below b1
 have HG1 : Hid (w.grownBy w1 (some cb)) := S.grown_below b1
 clear b1
 by_cases h1 : T.see l p = 117
 ·go_wp2_with fail
  refine (num_any _ cb tb cap p ao l HC1.out h1).mono ?_
  intro e w2 h
  have ho : T.num l p = o := by rw [<- HO.out]; unfold T.esc; rw [if_pos h1]
  rw [ho] at h
  cases o with
  | ok a q =>
   obtain ⟨v, rfl, rfl, C2, g2⟩ := h
   go_wp2
   go_ret
   exact ⟨_, rfl, rfl, C2, S.grown_trans HG1.out g2⟩
  | bad er q =>
   obtain ⟨rfl, g2⟩ := h
   unfold T.thrown
   go_wp2
   exact ⟨rfl, rfl, S.grown_trans HG1.out g2⟩
 ·go_wp2_with fail
  refine (skip_any _ cb tb cap p ao l 110 (by decide) HC1.out).mono ?_
  rintro e w2 ⟨rfl, C2, g2⟩
  have HG2 : Hid (w.grownBy w2 (some cb)) := S.grown_trans HG1.out g2
  clear g2
  by_cases h2 : T.see l p = 110
  ·rw [if_pos h2] at C2
   go_wp2
   go_ret
   rw [<- HO.out]; unfold T.esc; rw [if_neg h1, if_pos h2]
   exact ⟨_, rfl, rfl, C2, HG2.out⟩
  ·rw [if_neg h2] at C2
   have HC2 : Hid (T.Cur w2 cb tb cap ao l p) := C2
   clear C2
   go_wp2_with fail
   refine (skip_any _ cb tb cap p ao l 116 (by decide) HC2.out).mono ?_
   rintro e w3 ⟨rfl, C3, g3⟩
   have HG3 : Hid (w.grownBy w3 (some cb)) := S.grown_trans HG2.out g3
   clear g3
   by_cases h3 : T.see l p = 116
   ·rw [if_pos h3] at C3
    go_wp2
    go_ret
    rw [<- HO.out]; unfold T.esc; rw [if_neg h1, if_neg h2, if_pos h3]
    exact ⟨_, rfl, rfl, C3, HG3.out⟩
   ·rw [if_neg h3] at C3
    have HC3 : Hid (T.Cur w3 cb tb cap ao l p) := C3
    clear C3
    go_wp2_with fail
    refine (done_any _ cb tb cap p ao l HC3.out).mono ?_
    rintro e w4 ⟨rfl, b4⟩
    have C4 := HC3.out.below b4
    have c4 := C4.cell1
    have HC4 : Hid (T.Cur w4 cb tb cap ao l p) := C4
    have HG4 : Hid (w.grownBy w4 (some cb)) := S.grown_trans HG3.out (S.grown_below b4)
    clear b4 C4
    by_cases h4 : T.see l p = -1
    ·go_wp2_with (go_at_call 36; refine (fail_any _ 2 p).mono ?_; unfold T.thrown; rintro e w5 ⟨rfl, rfl⟩)
     refine ⟨rfl, ?_⟩
     rw [<- HO.out]; unfold T.esc; rw [if_neg h1, if_neg h2, if_neg h3, if_pos (.inl h4)]
     exact ⟨rfl, HG4.out⟩
    ·go_wp2_with fail
     refine (ahead_any _ cb tb cap p 0 ao l HC4.out (by omega)).mono ?_
     rintro e w5 ⟨rfl, b5⟩
     rw [Nat.add_zero]
     have C5 := HC4.out.below b5
     have c5 := C5.cell1
     have HC5 : Hid (T.Cur w5 cb tb cap ao l p) := C5
     have HG5 : Hid (w.grownBy w5 (some cb)) := S.grown_trans HG4.out (S.grown_below b5)
     clear b5 C5 c4
     go_wp2_with fail
     refine (alnum_any _ _).mono ?_
     rintro e w6 ⟨rfl, rfl⟩
     by_cases h5 : T.alnum (T.see l p) = true
     ·go_wp2_with (go_at_call 36; refine (fail_any _ 2 p).mono ?_; unfold T.thrown; rintro e w7 ⟨rfl, rfl⟩)
      refine ⟨rfl, ?_⟩
      rw [<- HO.out]; unfold T.esc; rw [if_neg h1, if_neg h2, if_neg h3, if_pos (.inr h5)]
      exact ⟨rfl, HG5.out⟩
     ·go_wp2_with fail
      refine (take_any _ cb tb cap p ao l HC5.out (HC5.out.inside h4)).mono ?_
      rintro e w7 ⟨rfl, C7, g7⟩
      go_wp2
      go_ret
      rw [<- HO.out]; unfold T.esc; rw [if_neg h1, if_neg h2, if_neg h3, if_neg (by simp [h4, h5])]
      exact ⟨_, rfl, rfl, C7, S.grown_trans HG5.out g7⟩
set_option maxHeartbeats 4000000 in
theorem chr_any (w : World) (cb tb cap p : Nat) (ao : Option Addr) (l : List Int) (C : T.Cur w cb tb cap ao l p) :
  Calls Tryz.prog 238 #[.pointer (some ⟨cb, 0, none⟩)] w (T.Ends w cb tb cap ao l (T.chr l p) T.isRune) := by
 have hlen := C.len
 have HC : Hid (T.Cur w cb tb cap ao l p) := C
 clear C
 obtain ⟨o, HO⟩ : ∃ o, Hid (T.chr l p = o) := ⟨_, rfl⟩
 rw [HO.out]
 go_enter Tryz.func238, Tryz.ntmps238
 go_wp2_with fail
 refine (skip_any _ cb tb cap p ao l 92 (by decide) HC.out).mono ?_
 rintro e w1 ⟨rfl, C1, g1⟩
 have HG1 : Hid (w.grownBy w1 (some cb)) := g1
 clear g1
 by_cases h1 : T.see l p = 92
 ·rw [if_pos h1] at C1
  go_wp2_with fail
  refine (esc_any _ cb tb cap (p + 1) ao l C1).mono ?_
  intro e w2 h
  have ho : T.esc l (p + 1) = o := by rw [<- HO.out]; unfold T.chr; rw [if_pos h1]
  rw [ho] at h
  cases o with
  | ok a q =>
   obtain ⟨v, rfl, rfl, C2, g2⟩ := h
   go_wp2
   go_ret
   exact ⟨_, rfl, rfl, C2, S.grown_trans HG1.out g2⟩
  | bad er q =>
   obtain ⟨rfl, g2⟩ := h
   unfold T.thrown
   go_wp2
   exact ⟨rfl, rfl, S.grown_trans HG1.out g2⟩
 ·rw [if_neg h1] at C1
  go_wp2_with fail
  refine (ordy_any _ cb tb cap p ao l C1).mono ?_
  rintro e w2 ⟨rfl, b2⟩
  have C2 := C1.below b2
  have c2 := C2.cell1
  have HC2 : Hid (T.Cur w2 cb tb cap ao l p) := C2
  have HG2 : Hid (w.grownBy w2 (some cb)) := S.grown_trans HG1.out (S.grown_below b2)
  clear C1 C2 b2
  by_cases h2 : T.ordy (T.see l p) = true
  ·go_wp2_with fail
   refine (take_any _ cb tb cap p ao l HC2.out (HC2.out.inside (by intro h; rw [h] at h2; revert h2; decide))).mono ?_
   rintro e w3 ⟨rfl, C3, g3⟩
   go_wp2
   go_ret
   rw [<- HO.out]; unfold T.chr; rw [if_neg h1, if_pos h2]
   exact ⟨_, rfl, rfl, C3, S.grown_trans HG2.out g3⟩
  ·go_wp2_with (go_at_call 36; refine (fail_any _ 2 p).mono ?_; unfold T.thrown; rintro e w3 ⟨rfl, rfl⟩)
   refine ⟨rfl, ?_⟩
   rw [<- HO.out]; unfold T.chr; rw [if_neg h1, if_neg h2]
   exact ⟨rfl, HG2.out⟩
theorem ret_one {fn : Func} {p : Tmp} (h : fn.results = #[.cell p 67]) (tmps : Array Value) (w : World) (g : Nat) (y1 y2 : Int) (hg : w.heap[g]? = some (.cells #[.int .i32 y1, .int .i32 y2] 67))
  (hp : tmps.getD p undef = .pointer (some ⟨g, 0, none⟩)) : (results fn tmps).run Tryz.prog w = .ok (.agg #[.int .i32 y1, .int .i32 y2]) w := by
 have hl := run_loadVar_row (P := Tryz.prog) w g 67 67 #[.int .i32 y1, .int .i32 y2] (0, 0) _ hg Tryz.underlying67 rfl (by kernel_rfl)
 have e : (results fn tmps).run Tryz.prog w = ((asAddr (tmps.getD p undef)).run Tryz.prog w).andThen fun a w₁ => (loadVar 67 a).run Tryz.prog w₁ := by
  simp only [results, h]
  simp [Sem.run_bind, Result.andThen]
 rw [e, hp]
 simp [asAddr, Result.andThen, hl]
theorem one_any (r : Int) (w : World) :
  Calls Tryz.prog 239 #[.int .i32 r] w fun e w' => e = .returned (.agg #[.int .i32 r, .int .i32 r]) /\ Below w.heap.size w w' := by
 go_enter Tryz.func239, Tryz.ntmps239
 go_wp2
 refine bodyPost_ret (ret_one rfl _ _ w.heap.size r r (heap_alloc_new w _) rfl) rfl ?_
 exact ⟨rfl, (Below.refl _ w).alloc (Nat.le_refl _) _⟩
theorem tTwo_set (w : World) (g : Nat) (a b y1 y2 : Value) (t : TypeId) (hg : w.heap[g]? = some (.cells #[a, b] t)) : ((w.setCell ⟨g, 0, none⟩ y1).setCell ⟨g, 1, none⟩ y2).heap[g]? = some (.cells #[y1, y2] t) := by
 have h1 := heap_setCell_same w g 0 #[a, b] t y1 hg
 have h2 := heap_setCell_same _ g 1 _ t y2 h1
 exact h2
theorem box_cells {w : World} {g : Nat} {a b : Value} {t : TypeId} (hg : w.heap[g]? = some (.cells #[a, b] t)) : w.cell? ⟨g, 0, none⟩ = some a /\ w.cell? ⟨g, 1, none⟩ = some b /\ w.frozen? ⟨g, 0, none⟩ = false /\ w.frozen? ⟨g, 1, none⟩ = false := by
 refine ⟨?_, ?_, ?_, ?_⟩
 ·rw [World.cell?]; simp [hg]
 ·rw [World.cell?]; simp [hg]
 ·rw [World.frozen?]; simp [hg]
 ·rw [World.frozen?]; simp [hg]
theorem fr_two {w w1 : World} {g cb : Nat} (y1 y2 : Value) (h : w.grownBy w1 (some cb)) (hg : w.heap.size <= g) : w.grownBy ((w1.setCell ⟨g, 0, none⟩ y1).setCell ⟨g, 1, none⟩ y2) (some cb) := by
 refine ⟨h.os, h.tape, h.output, by simpa using h.size, fun k hk hne => ?_⟩
 rw [heap_setCell_other _ ⟨g, 1, none⟩ k _ (fun e => by simp at e; omega), heap_setCell_other _ ⟨g, 0, none⟩ k _ (fun e => by simp at e; omega)]
 exact h.block k hk hne
theorem T.Cur.two {w : World} {cb tb cap p : Nat} {ao : Option Addr} {l : List Int} (C : T.Cur w cb tb cap ao l p) {g : Nat} (y1 y2 : Value) (hne : g ≠ cb) (ht : l ≠ [] -> g ≠ tb) : T.Cur ((w.setCell ⟨g, 0, none⟩ y1).setCell ⟨g, 1, none⟩ y2) cb tb cap ao l p := by
 refine ⟨?_, C.txt, fun j z hj => ?_, C.ne, C.le, C.len, C.cp, C.rt⟩
 ·obtain ⟨t, hb⟩ := C.blk; exact ⟨t, by rw [heap_setCell_other _ ⟨g, 1, none⟩ cb _ (Ne.symm hne), heap_setCell_other _ ⟨g, 0, none⟩ cb _ (Ne.symm hne)]; exact hb⟩
 ·have hn : g ≠ tb := ht (by intro h; subst h; simp at hj)
  rw [World.cell?_setCell_other _ _ _ _ (fun e => hn (congrArg Addr.block e)), World.cell?_setCell_other _ _ _ _ (fun e => hn (congrArg Addr.block e))]; exact C.rd j z hj
theorem T.Cur.txt_lt {w : World} {cb tb cap p : Nat} {ao : Option Addr} {l : List Int} (C : T.Cur w cb tb cap ao l p) (h : l ≠ []) : tb < w.heap.size := by
 cases l with
 | nil => exact absurd rfl h
 | cons z l => exact L.block_lt (C.rd 0 z rfl)
def T.isSpan (x : S.Sp) (v : Value) (_ : World) : Prop := v = .agg #[.int .i32 x.1, .int .i32 x.2]
set_option maxHeartbeats 4000000 in
theorem span_any (w : World) (cb tb cap p : Nat) (ao : Option Addr) (l : List Int) (C : T.Cur w cb tb cap ao l p) :
  Calls Tryz.prog 215 #[.pointer (some ⟨cb, 0, none⟩)] w (T.Ends w cb tb cap ao l (T.span l p) T.isSpan) := by
 have hlen := C.len
 have HC : Hid (T.Cur w cb tb cap ao l p) := C
 clear C
 obtain ⟨o, HO⟩ : ∃ o, Hid (T.span l p = o) := ⟨_, rfl⟩
 rw [HO.out]
 go_enter Tryz.func215, Tryz.ntmps215
 go_wp2_with fail
 have bW := (Below.refl _ w).alloc (Nat.le_refl _) (.cells #[.int .i32 0, .int .i32 0] 67)
 have hxW : (w.alloc (.cells #[.int .i32 0, .int .i32 0] 67)).heap[w.heap.size]? = some (.cells #[.int .i32 0, .int .i32 0] 67) := heap_alloc_new w _
 have CW := HC.out.below bW
 have GW : w.grownBy _ (some cb) := S.grown_below bW
 have HNe : Hid (w.heap.size ≠ cb) := by have := HC.out.lt; show _ ≠ _; omega
 have HNt : Hid (l ≠ [] -> w.heap.size ≠ tb) := fun h => by have := HC.out.txt_lt h; omega
 refine (chr_any _ cb tb cap p ao l CW).mono ?_
 generalize w.alloc (.cells #[.int .i32 0, .int .i32 0] 67) = W0 at bW hxW CW GW
 clear bW CW
 intro e w1 h
 cases hc : T.chr l p with
 | bad er q =>
  rw [hc] at h
  obtain ⟨rfl, g1⟩ := h
  unfold T.thrown
  go_wp2
  refine ⟨rfl, ?_⟩
  rw [<- HO.out]; unfold T.span; rw [hc]
  exact ⟨rfl, S.grown_trans GW g1⟩
 | ok lo q =>
  rw [hc] at h
  obtain ⟨v, rfl, rfl, C1, g1⟩ := h
  have HX1 : Hid (w1.heap[w.heap.size]? = some (.cells #[.int .i32 0, .int .i32 0] 67)) := by
   show _ = _
   rw [g1.block _ (Array.getElem?_eq_some_iff.1 hxW).1 (by simpa using HNe.out)]; exact hxW
  have HG1 : Hid (w.grownBy w1 (some cb)) := S.grown_trans GW g1
  have HHc : Hid _ := hc
  clear hc g1 GW hxW
  go_wp2_with fail
  refine (is_any _ cb tb cap q ao l 45 C1).mono ?_
  rintro e w2 ⟨rfl, b2⟩
  have C2 := C1.below b2
  have HX2 : Hid (w2.heap[w.heap.size]? = some (.cells #[.int .i32 0, .int .i32 0] 67)) := by
   show _ = _
   rw [b2.block _ (Array.getElem?_eq_some_iff.1 HX1.out).1]; exact HX1.out
  have HG2 : Hid (w.grownBy w2 (some cb)) := S.grown_trans HG1.out (S.grown_below b2)
  clear C1 b2 HX1 HG1
  have HC2 : Hid (T.Cur w2 cb tb cap ao l q) := C2
  clear C2
  by_cases h1 : T.see l q = 45
  ·go_wp2_with fail
   refine (ahead_any _ cb tb cap q 1 ao l HC2.out (by omega)).mono ?_
   rintro e w3 ⟨rfl, b3⟩
   have C3 := HC2.out.below b3
   have HX3 : Hid (w3.heap[w.heap.size]? = some (.cells #[.int .i32 0, .int .i32 0] 67)) := by
    show _ = _
    rw [b3.block _ (Array.getElem?_eq_some_iff.1 HX2.out).1]; exact HX2.out
   have HG3 : Hid (w.grownBy w3 (some cb)) := S.grown_trans HG2.out (S.grown_below b3)
   clear b3 HX2 HG2
   have HC3 : Hid (T.Cur w3 cb tb cap ao l q) := C3
   clear C3
   by_cases h2 : T.see l (q + 1) = 91
   ·go_wp2_with fail
    refine (one_any lo _).mono ?_
    rintro e w4 ⟨rfl, b4⟩
    have C4 := HC3.out.below b4
    have HX4 : w4.heap[w.heap.size]? = some (.cells #[.int .i32 0, .int .i32 0] 67) := by rw [b4.block _ (Array.getElem?_eq_some_iff.1 HX3.out).1]; exact HX3.out
    obtain ⟨x0, x1, y0, y1⟩ := box_cells HX4
    have HG4 : Hid (w.grownBy w4 (some cb)) := S.grown_trans HG3.out (S.grown_below b4)
    have HX4' : Hid _ := HX4
    have HC4 : Hid (T.Cur w4 cb tb cap ao l q) := C4
    clear b4 C4 HX4
    go_wp2
    refine bodyPost_ret (ret_one rfl _ _ w.heap.size lo lo (tTwo_set w4 w.heap.size _ _ _ _ 67 HX4'.out) rfl) rfl ?_
    rw [<- HO.out]; unfold T.span; rw [HHc.out]; simp only; rw [if_pos (.inr h2)]
    exact ⟨_, rfl, rfl, HC4.out.two _ _ HNe.out HNt.out, fr_two _ _ HG4.out (Nat.le_refl _)⟩
   ·go_wp2_with fail
    refine (need_yes _ cb tb cap q ao l 45 (by decide) HC3.out h1).mono ?_
    rintro e w4 ⟨rfl, C4, g4⟩
    have HX4 : Hid (w4.heap[w.heap.size]? = some (.cells #[.int .i32 0, .int .i32 0] 67)) := by
     show _ = _
     rw [g4.block _ (Array.getElem?_eq_some_iff.1 HX3.out).1 (by simpa using HNe.out)]; exact HX3.out
    have HG4 : Hid (w.grownBy w4 (some cb)) := S.grown_trans HG3.out g4
    have c4 := C4.cell1
    have HC4 : Hid (T.Cur w4 cb tb cap ao l (q + 1)) := C4
    clear g4 C4 HX3 HG3 HC3
    have hq4 := HC4.out.le
    go_wp2_with fail
    refine (chr_any _ cb tb cap (q + 1) ao l HC4.out).mono ?_
    intro e w5 h
    cases hc : T.chr l (q + 1) with
    | bad er r =>
     rw [hc] at h
     obtain ⟨rfl, g5⟩ := h
     unfold T.thrown
     go_wp2
     refine ⟨rfl, ?_⟩
     rw [<- HO.out]; unfold T.span; rw [HHc.out]; simp only; rw [if_neg (by simp [h1, h2]), hc]
     exact ⟨rfl, S.grown_trans HG4.out g5⟩
    | ok hi r =>
     rw [hc] at h
     obtain ⟨v, rfl, rfl, C5, g5⟩ := h
     have HX5 : w5.heap[w.heap.size]? = some (.cells #[.int .i32 0, .int .i32 0] 67) := by
      rw [g5.block _ (Array.getElem?_eq_some_iff.1 HX4.out).1 (by simpa using HNe.out)]; exact HX4.out
     obtain ⟨x0, x1, y0, y1⟩ := box_cells HX5
     have HG5 : Hid (w.grownBy w5 (some cb)) := S.grown_trans HG4.out g5
     have HX5' : Hid _ := HX5
     have HC5 : Hid (T.Cur w5 cb tb cap ao l r) := C5
     have HHd : Hid _ := hc
     clear g5 C5 HX5 hc
     by_cases hlt : hi < lo
     ·go_wp2_with (go_at_call 36; refine (fail_any _ 3 (q + 1)).mono ?_; unfold T.thrown; rintro e w6 ⟨rfl, rfl⟩)
      refine ⟨rfl, ?_⟩
      rw [<- HO.out]; unfold T.span; rw [HHc.out]; simp only; rw [if_neg (by simp [h1, h2]), HHd.out]; simp only; rw [if_pos hlt]
      exact ⟨rfl, HG5.out⟩
     ·go_wp2
      refine bodyPost_ret (ret_one rfl _ _ w.heap.size lo hi (tTwo_set w5 w.heap.size _ _ _ _ 67 HX5'.out) rfl) rfl ?_
      rw [<- HO.out]; unfold T.span; rw [HHc.out]; simp only; rw [if_neg (by simp [h1, h2]), HHd.out]; simp only; rw [if_neg (by omega)]
      exact ⟨_, rfl, rfl, HC5.out.two _ _ HNe.out HNt.out, fr_two _ _ HG5.out (Nat.le_refl _)⟩
  ·go_wp2_with fail
   refine (one_any lo _).mono ?_
   rintro e w4 ⟨rfl, b4⟩
   have C4 := HC2.out.below b4
   have HX4 : w4.heap[w.heap.size]? = some (.cells #[.int .i32 0, .int .i32 0] 67) := by rw [b4.block _ (Array.getElem?_eq_some_iff.1 HX2.out).1]; exact HX2.out
   obtain ⟨x0, x1, y0, y1⟩ := box_cells HX4
   have HG4 : Hid (w.grownBy w4 (some cb)) := S.grown_trans HG2.out (S.grown_below b4)
   have HX4' : Hid _ := HX4
   have HC4 : Hid (T.Cur w4 cb tb cap ao l q) := C4
   clear b4 C4 HX4
   go_wp2
   refine bodyPost_ret (ret_one rfl _ _ w.heap.size lo lo (tTwo_set w4 w.heap.size _ _ _ _ 67 HX4'.out) rfl) rfl ?_
   rw [<- HO.out]; unfold T.span; rw [HHc.out]; simp only; rw [if_pos (.inl h1)]
   exact ⟨_, rfl, rfl, HC4.out.two _ _ HNe.out HNt.out, fr_two _ _ HG4.out (Nat.le_refl _)⟩
end Go.Proofs.YtmlnanbpbbpekaaGreatDoor
