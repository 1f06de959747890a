/-
  A character that is told by its number.
-/
import Derived.Test.YtajbcgobfkaahaaGreatDoorTParse
import Derived.Laws.IdiomStrings
namespace Go.Proofs.YtajbcgobfkaahaaGreatDoor
open Go.RowKit

/-- how a step of reading ends -/
def T.Ends (w : World) (cb tb cap : Nat) (ao : Option Addr) (l : List Int) {α : Type} (o : T.Out α) (val : α → Value → World → Prop) (e : Ending) (w' : World) : Prop :=
  match o with
  | .ok a q => ∃ v, e = .returned v ∧ val a v w' ∧ T.Cur w' cb tb cap ao l q ∧ w.grownBy w' (some cb)
  | .bad er q => e = T.thrown er q ∧ w.grownBy w' (some cb)
def T.isRune (a : Int) (v : Value) (_ : World) : Prop := v = .int .i32 a

theorem foldl_bytes : ∀ (ns : List Int) (r : ByteArray), (ns.foldl (fun r n => r ++ Utf8.encode n) r).data.toList = r.data.toList ++ ns.flatMap fun n => M.enc n
  | [], r => by simp
  | n :: ns, r => by
    rw [List.foldl_cons, foldl_bytes ns, ByteArray.data_append, Array.toList_append, List.flatMap_cons, List.append_assoc]
    rfl
theorem runesBytes_list (ns : List Int) : (runesBytes ns).data.toList = ns.flatMap fun n => M.enc n := by
  have h := foldl_bytes ns ByteArray.empty
  have e : ByteArray.empty.data.toList = ([] : List UInt8) := rfl
  rw [e, List.nil_append] at h
  exact h

theorem convert_rd {P : Program} {w : World} {ao : Option Addr} {cap : Nat} {zs : List Int} (src dst e : TypeId)
    (hs : P.underlying src = some (.slice e)) (he : P.underlying e = some (.int .i32)) (hd : P.underlying dst = some .string)
    (hn : ao = none → cap = 0) (hc : zs ≠ [] → ∃ b off, ao = some ⟨b, off, none⟩ ∧ ∀ j z, zs[j]? = some z → w.cell? ⟨b, off + j, none⟩ = some (.int .i32 z)) :
    (convert src dst (.slice ao zs.length cap)).run P w = .ok (.string (runesBytes zs)) w := by
  cases ao with
  | none =>
    have h0 : zs = [] := by
      cases zs with
      | nil => rfl
      | cons z zs => obtain ⟨b, off, h, _⟩ := hc (by simp); simp at h
    subst h0
    exact run_convert_runes_nil w src dst e _ _ hs he hd
  | some ad =>
    have h := run_convert_runes (P := P) w src dst e ad zs.length cap zs (Nat.le_refl _) hs he hd (fun j hj => by
      obtain ⟨b, off, hao, hcell⟩ := hc (by intro h; subst h; simp at hj)
      simp at hao
      subst hao
      rw [L.addr_add]
      exact hcell j _ (by simp [List.getD, hj]))
    rw [List.take_length] at h
    exact h

/-- a text of digits alone is its bytes -/
theorem ascii_bytes (zs : List Int) (h : ∀ z ∈ zs, 0 ≤ z ∧ z < 128) : T.bts (runesBytes zs) = zs ∧ (runesBytes zs).size = zs.length ∧ ∀ b ∈ (runesBytes zs).data.toList, (b.toNat : Int) ∈ zs := by
  have h1 : (runesBytes zs).data.toList.map (fun b => (b.toNat : Int)) = zs := by
    rw [runesBytes_list]
    induction zs with
    | nil => rfl
    | cons z zs ih =>
      have hz := h z (by simp)
      obtain ⟨n, rfl⟩ : ∃ n : Nat, z = (n : Int) := ⟨z.toNat, by omega⟩
      have hr : M.right (n : Int) = true := by unfold M.right; exact decide_eq_true (by omega)
      rw [List.flatMap_cons, List.map_append, ih (fun x hx => h x (by simp [hx])), M.enc_eq n hr, if_pos (by omega)]
      simp only [List.map_cons, List.map_nil, M.u8 n (by omega)]
      rfl
  refine ⟨h1, ?_, fun b hb => ?_⟩
  · have := congrArg List.length h1
    rw [List.length_map] at this
    have e : (runesBytes zs).data.toList.length = (runesBytes zs).size := by simp
    omega
  · rw [← h1]; exact List.mem_map.2 ⟨b, hb, rfl⟩

theorem cut_len {l : List Int} {p q : Nat} (h1 : p ≤ q) (h2 : q ≤ l.length) : (T.cut l p q).length = q - p := by
  unfold T.cut; rw [List.length_take, List.length_drop]; omega
theorem cut_get {l : List Int} {p q j : Nat} {z : Int} (h : (T.cut l p q)[j]? = some z) : l[p + j]? = some z := by
  unfold T.cut at h
  rw [List.getElem?_take] at h
  split at h
  · rwa [List.getElem?_drop] at h
  · cases h

/-- a piece of the text, as a string -/
theorem T.Cur.text {w : World} {cb tb cap p : Nat} {ao : Option Addr} {l : List Int} (C : T.Cur w cb tb cap ao l p) {f q : Nat} (h1 : f ≤ q) (h2 : q ≤ l.length) (a : Addr) (ha : f < q → a = ⟨tb, f, none⟩) (c : Nat) :
    (convert 63 9 (.slice (some a) (q - f) c)).run Tryz.prog w = .ok (.string (runesBytes (T.cut l f q))) w := by
  have h := convert_rd (P := Tryz.prog) (w := w) (ao := some a) (cap := c) (zs := T.cut l f q) 63 9 21 Tryz.underlying63 Tryz.underlying21 Tryz.underlying9 (fun h => by cases h) (fun hne => by
    have hlt : f < q := by
      apply Classical.byContradiction
      intro hn
      exact hne (List.length_eq_zero_iff.1 (by rw [cut_len h1 h2]; omega))
    exact ⟨tb, f, by rw [ha hlt], fun j z hj => C.rd _ _ (cut_get hj)⟩)
  rw [cut_len h1 h2] at h
  exact h

set_option maxHeartbeats 4000000 in
theorem num_any (w : World) (cb tb cap p : Nat) (ao : Option Addr) (l : List Int) (C : T.Cur w cb tb cap ao l p) (hu : T.see l p = 117) :
    Calls Tryz.prog 151 #[.pointer (some ⟨cb, 0, none⟩)] w (T.Ends w cb tb cap ao l (T.num l p) T.isRune) := by
  have hp := C.inside (by rw [hu]; decide)
  have hlen := C.len
  have c1 := C.cell1
  have HC : Hid (T.Cur w cb tb cap ao l p) := C
  clear C
  obtain ⟨o, HO⟩ : ∃ o, Hid (T.num l p = o) := ⟨_, rfl⟩
  rw [HO.out]
  by_cases h1 : T.see l (p + 1) = 123
  · have hp1 := HC.out.len
    go_enter Tryz.func151, Tryz.ntmps151
    go_wp2_with fail
    refine (need_yes _ cb tb cap p ao l 117 (by decide) HC.out hu).mono ?_
    rintro e w1 ⟨rfl, C1, g1⟩
    have G1 : Hid (w.grownBy w1 (some cb)) := g1
    clear g1
    go_wp2_with fail
    refine (need_yes _ cb tb cap (p + 1) ao l 123 (by decide) C1 h1).mono ?_
    rintro e w2 ⟨rfl, C2, g2⟩
    have G2 : Hid (w.grownBy w2 (some cb)) := S.grown_trans G1.out g2
    obtain ⟨f, HF⟩ : ∃ f, Hid (p + 2 = f) := ⟨_, rfl⟩
    have d1 : w2.cell? ⟨cb, 1, none⟩ = some (.int .i64 (f : Int)) := by rw [← HF.out]; exact C2.cell1
    have HC2 : Hid (T.Cur w2 cb tb cap ao l (p + 2)) := C2
    have hle2 := C2.le
    clear C2 C1 G1 g2 c1
    go_wp2
    go_loopw [21] (fun _ wr => ∃ q : Nat, p + 2 ≤ q ∧ Hid (∀ i, p + 2 ≤ i → i < q → T.hexd (T.see l i) = true) ∧ Hid (T.Cur wr cb tb cap ao l q) ∧ Hid (w.grownBy wr (some cb))) (fun _ wr => l.length - T.pos wr cb)
    case atStart => exact ⟨p + 2, Nat.le_refl _, fun i h1 h2 => by omega, HC2, G2⟩
    case round =>
      obtain ⟨q, hq, HA, HCq, HG⟩ := hrel
      have HP : Hid _ := HCq.out.pos
      have hql := HCq.out.le
      go_wp2_with fail
      refine (hexd_any _ cb tb cap q ao l HCq.out).mono ?_
      rintro e w3 ⟨rfl, b3⟩
      have C3 := HCq.out.below b3
      have c3 := C3.cell1
      have c3t := C3.cell0
      have f3 := C3.frz1
      have HC3 : Hid (T.Cur w3 cb tb cap ao l q) := C3
      have HG3 : Hid (w.grownBy w3 (some cb)) := S.grown_trans HG.out (S.grown_below b3)
      clear C3
      by_cases hb : T.hexd (T.see l q) = true
      · have hlt : q < l.length := HCq.out.inside (by intro h; rw [h] at hb; revert hb; decide)
        go_wp2
        go_roundw
        case rel =>
          refine ⟨q + 1, by omega, fun i h1 h2 => ?_, HC3.out.set (q := q + 1) (by omega), S.grown_trans HG3.out (fr_set _ _ _ _)⟩
          by_cases e : i = q
          · rw [e]; exact hb
          · exact HA.out i h1 (by omega)
        case measure =>
          have h1 : T.pos (w3.setCell ⟨cb, 1, none⟩ (.int .i64 ((q : Int) + 1))) cb = q + 1 := (HC3.out.set (q := q + 1) (by omega)).pos
          rw [h1, HP.out]
          omega
      · have hb' : T.hexd (T.see l q) = false := by simpa using hb
        have HK : Hid (T.skipW T.hexd l (p + 2) = q) := T.skipW_eq hq hql HA.out hb' (by decide)
        have hao := HC3.out.txt (by intro h; subst h; simp at hp)
        subst hao
        have hcp := HC3.out.cp
        have hfq : f ≤ q := by have := HF.out; omega
        have hz := ascii_bytes (T.cut l f q) fun z hz => by
          obtain ⟨j, hj⟩ := List.getElem?_of_mem hz
          have hlj : j < q - f := by
            have := (List.getElem?_eq_some_iff.1 hj).1
            rw [cut_len hfq hql] at this
            exact this
          have h3 := T.see_some (cut_get hj)
          have h4 := HA.out (f + j) (by have := HF.out; omega) (by omega)
          rw [h3] at h4
          have := hexd_cases h4
          omega
        have HZ : Hid _ := hz
        rw [cut_len hfq hql] at hz
        have hsz := hz.2.1
        clear hz
        have i1 : (0 : Int) ≤ (f : Int) := by omega
        have i2 : (f : Int) ≤ (q : Int) := by omega
        have i3 : (q : Int) ≤ (cap : Int) := by omega
        have HHex : Hid (∀ b ∈ (runesBytes (T.cut l f q)).data.toList, T.hexd (b.toNat : Int) = true) := fun b hb => by
          have h3 := HZ.out.2.2 b hb
          obtain ⟨j, hj⟩ := List.getElem?_of_mem h3
          have hlj : j < q - f := by
            have := (List.getElem?_eq_some_iff.1 hj).1
            rw [cut_len hfq hql] at this
            exact this
          have h5 := T.see_some (cut_get hj)
          have h4 := HA.out (f + j) (by have := HF.out; omega) (by omega)
          rw [h5] at h4
          exact h4
        by_cases hlt : f < q
        · have hcf : ¬ cap = f := by omega
          have hcv : ∀ n, (convert 63 9 (.slice (some ⟨tb, f, none⟩) (q - f) (cap - f))).run Tryz.prog (w3.drewN n) = .ok (.string (runesBytes (T.cut l f q))) (w3.drewN n) := fun n => (HC3.out.drewN n).text hfq hql _ (fun _ => rfl) _
          generalize runesBytes (T.cut l f q) = str at hcv hsz HHex HZ
          go_wp2
          go_quiet (fail)
          have C4 := HC3.out.drewN nq
          have HG4 : Hid (w.grownBy (w3.drewN nq) (some cb)) := S.grown_trans HG3.out (fr_drewN _ _ _)
          clear hcv
          generalize w3.drewN nq = w4 at C4 HG4
          have HC4 : Hid (T.Cur w4 cb tb cap (some ⟨tb, 0, none⟩) l q) := C4
          clear C4
          have hk1 : ¬ str.size < 1 := by omega
          by_cases h6 : 6 < str.size
          · go_wp2_with (go_at_call 23; refine (fail_any _ 2 f).mono ?_; unfold T.thrown; rintro e w5 ⟨rfl, rfl⟩)
            refine ⟨rfl, ?_⟩
            rw [← HO.out]
            unfold T.num
            rw [HK.out, HF.out, if_neg (by simp [h1]), if_pos (.inr (by omega))]
            exact ⟨rfl, HG4.out⟩
          · by_cases h125 : T.see l q = 125
            · go_wp2_with fail
              refine (need_yes _ cb tb cap q _ l 125 (by decide) HC4.out h125).mono ?_
              rintro e w5 ⟨rfl, C5, g5⟩
              have HC5 : Hid (T.Cur w5 cb tb cap (some ⟨tb, 0, none⟩) l (q + 1)) := C5
              have HG5 : Hid (w.grownBy w5 (some cb)) := S.grown_trans HG4.out g5
              clear C5 g5
              go_wp2_with fail
              refine (parse_any str _ (by omega) (by omega) HHex.out).mono ?_
              have hn := hexN_small str (by omega) HHex.out
              rw [HZ.out.1] at hn ⊢
              obtain ⟨n, HN⟩ : ∃ n, Hid (T.hexN (T.cut l f q) = n) := ⟨_, rfl⟩
              rw [HN.out] at hn ⊢
              rintro e w6 ⟨rfl, b6⟩
              have HC6 : Hid (T.Cur w6 cb tb cap (some ⟨tb, 0, none⟩) l (q + 1)) := HC5.out.below b6
              have HG6 : Hid (w.grownBy w6 (some cb)) := S.grown_trans HG5.out (S.grown_below b6)
              clear b6
              by_cases hbig : 1114111 < n
              · go_wp2_with (go_at_call 23; refine (fail_any _ 3 p).mono ?_; unfold T.thrown; rintro e w7 ⟨rfl, rfl⟩)
                refine ⟨rfl, ?_⟩
                rw [← HO.out]
                unfold T.num
                rw [HK.out, HF.out, HN.out, if_neg (by simp [h1]), if_neg (by omega), if_neg (by simp [h125]), if_pos hbig]
                exact ⟨rfl, HG6.out⟩
              · have hn0 := hn.1
                have hn1 := hn.2
                go_wp2
                go_ret
                rw [← HO.out]
                unfold T.num
                rw [HK.out, HF.out, HN.out, if_neg (by simp [h1]), if_neg (by omega), if_neg (by simp [h125]), if_neg (by omega)]
                exact ⟨_, rfl, rfl, HC6.out, HG6.out⟩
            · go_wp2_with fail
              refine (need_no _ cb tb cap q _ l 125 (by decide) HC4.out h125).mono ?_
              unfold T.thrown
              rintro e w5 ⟨rfl, g5⟩
              go_wp2
              refine ⟨rfl, ?_⟩
              rw [← HO.out]
              unfold T.num
              rw [HK.out, HF.out, if_neg (by simp [h1]), if_neg (by omega), if_pos h125]
              exact ⟨rfl, S.grown_trans HG4.out g5⟩
        · have hqf : q = f := by omega
          subst hqf
          have hcv : ∀ a c n, (convert 63 9 (.slice (some a) 0 c)).run Tryz.prog (w3.drewN n) = .ok (.string (runesBytes (T.cut l q q))) (w3.drewN n) := fun a c n => by
            have := (HC3.out.drewN n).text hfq hql a (fun h => absurd h (Nat.lt_irrefl _)) c
            rw [Nat.sub_self] at this
            exact this
          rw [Nat.sub_self] at hsz
          generalize runesBytes (T.cut l q q) = str at hcv hsz HHex HZ
          by_cases hcf : cap = q
          all_goals go_wp2
          all_goals go_quiet (fail)
          all_goals have HG4 : Hid (w.grownBy (w3.drewN nq) (some cb)) := S.grown_trans HG3.out (fr_drewN _ _ _)
          all_goals clear hcv
          all_goals generalize w3.drewN nq = w4 at HG4
          all_goals have hk1 : str.size < 1 := by omega
          all_goals go_wp2_with (go_at_call 23; refine (fail_any _ 2 q).mono ?_; unfold T.thrown; rintro e w5 ⟨rfl, rfl⟩)
          all_goals refine ⟨rfl, ?_⟩
          all_goals rw [← HO.out]
          all_goals unfold T.num
          all_goals rw [HK.out, HF.out, if_neg (by simp [h1]), if_pos (.inl (by omega))]
          all_goals exact ⟨rfl, HG4.out⟩
  · go_enter Tryz.func151, Tryz.ntmps151
    go_wp2_with fail
    refine (need_yes _ cb tb cap p ao l 117 (by decide) HC.out hu).mono ?_
    rintro e w1 ⟨rfl, C1, g1⟩
    go_wp2_with fail
    refine (need_no _ cb tb cap (p + 1) ao l 123 (by decide) C1 h1).mono ?_
    unfold T.thrown
    rintro e w2 ⟨rfl, g2⟩
    go_wp2
    refine ⟨rfl, ?_⟩
    rw [← HO.out]
    unfold T.num
    rw [if_pos h1]
    exact ⟨rfl, S.grown_trans g1 g2⟩

end Go.Proofs.YtajbcgobfkaahaaGreatDoor
