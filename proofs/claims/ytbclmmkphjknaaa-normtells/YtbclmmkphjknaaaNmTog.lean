/-
  norm.Together: the program's answer.
-/
import Derived.Test.YtbclmmkphjknaaaNmBare
import Derived.Test.YtbclmmkphjknaaaNmJoin
import Derived.Test.YtbclmmkphjknaaaKClone
import Derived.Test.YtbclmmkphjknaaaKCut
import Derived.Test.YtbclmmkphjknaaaNmSorts
import Derived.Deep.RegionLaw
namespace Go.Proofs.Ytbclmmkphjknaaa
open Go.RowKit Go.Shelf
set_option maxRecDepth 40000
set_option linter.unusedSimpArgs false
set_option linter.unusedVariables false

namespace Nm
theorem slice_mid (xo : Option Addr) (N xc i j : Nat) (h : i ≤ j) (hj : j ≤ xc) (w' : World) : (Instr.slice 22 (.slice xo N xc) (some (.int .i64 (i : Int))) (some (.int .i64 (j : Int))) none).run Try.prog w' = .ok (.slice (if xc = i then xo else Option.map (fun x => x.add i) xo) (j - i) (xc - i)) w' := by
  have a1 : (i : Int) ≤ j := by omega
  have a2 : (j : Int) ≤ xc := by omega
  have a0 : (0 : Int) ≤ i := by omega
  have a3 : (0 : Int) ≤ j := by omega
  go_simp
/-- a slice that reads as a text, and its room -/
def Sl (W : World) (xo : Option Addr) (xc : Nat) (t : List Int) : Prop := L.Rd W (.slice xo t.length xc) .i32 t ∧ t.length ≤ xc ∧ xc ≤ maxLen
theorem Sl.drop {W : World} {xo : Option Addr} {xc : Nat} {t : List Int} (h : Sl W xo xc t) {d : Nat} (hd : d ≤ t.length) : Sl W (if xc = d then xo else Option.map (fun x => x.add d) xo) (xc - d) (t.drop d) := by
  have := h.2.1
  have := h.2.2
  refine ⟨?_, by rw [List.length_drop]; omega, by omega⟩
  rw [List.length_drop]
  exact K.rd_drop h.1 hd h.2.1
theorem Sl.below {W W' : World} {xo : Option Addr} {xc : Nat} {t : List Int} {B : Nat} (h : Sl W xo xc t) (hb : Below B W W') (hB : W.heap.size ≤ B) : Sl W' xo xc t := ⟨h.1.below hb hB, h.2⟩
/-- where the putting together stands: what is left, what is out -/
def Tg (t R acc : List Int) : Prop := acc ++ tog R = tog t ∧ (R = [] ∨ ∃ h r, R = h :: r ∧ isM h = false) ∧ (∀ r ∈ R, 0 ≤ r ∧ r ≤ 1114111) ∧ R.length ≤ 4000 ∧ acc.length ≤ 4000
theorem Tg.start {t : List Int} (hb : ∀ r ∈ t, 0 ≤ r ∧ r ≤ 1114111) (hl : t.length ≤ 4000) : Tg t (t.drop (lead t)) (t.take (lead t)) := by
  refine ⟨(tog_lead t).symm, lead_first t, fun r hr => hb r (List.mem_of_mem_drop hr), ?_, ?_⟩
  · rw [List.length_drop]; omega
  · rw [List.length_take]; omega
theorem Tg.step {t r acc : List Int} {h : Int} (hl : t.length ≤ 4000) (H : Tg t (h :: r) acc) : Tg t (r.drop (lead r)) (acc ++ jn h (r.take (lead r))) := by
  obtain ⟨h1, h2, h3, h4, h5⟩ := H
  have hm : isM h = false := by
    rcases h2 with h2 | ⟨h', r', e, h2⟩
    · cases h2
    · cases e; exact h2
  rw [tog_step r hm, ← List.append_assoc] at h1
  have hn := congrArg List.length h1
  rw [List.length_append] at hn
  have := tog_len t
  simp only [List.length_cons] at h4
  refine ⟨h1, lead_first r, fun x hx => h3 x (List.mem_cons_of_mem _ (List.mem_of_mem_drop hx)), ?_, by omega⟩
  rw [List.length_drop]; omega
end Nm

set_option maxHeartbeats 4000000 in
theorem nmTog_any (w : World) (v : Value) (l : List Int) (R : L.Rd w v .i32 l) (hl : l.length ≤ 140737488355328) :
    Calls Try.prog 12 #[v] w fun e w' => ∃ v', e = .returned (.tuple #[v', .int .i64 (Nm.togF l).2]) ∧ w'.ownsRow w.heap.size 21 1 v' (Nm.togF l).1.length (K.ints (Nm.togF l).1) ∧ Below w.heap.size w w' := by
  have HT := nmApart_any w v l R hl
  obtain ⟨q, hq⟩ : ∃ q, q = Nm.togF l := ⟨_, rfl⟩
  have HQ : Hid (q = Nm.togF l) := hq
  rw [← hq]
  obtain ⟨ao, cap, rfl, _, _⟩ := R
  clear hq
  obtain ⟨q1, q2⟩ := q
  have hn := Nm.apart_len l
  have hbd := Nm.apart_bd l
  unfold Nm.togF at HQ
  obtain ⟨⟨t, te⟩, ht⟩ : ∃ p, p = Nm.apartF l := ⟨_, rfl⟩
  rw [← ht] at HT HQ hn hbd
  simp only at HT HQ hn hbd
  clear ht
  go_enter Try.func12, Try.ntmps12
  go_wp2_with fail
  refine HT.mono ?_
  clear HT
  rintro e w1 ⟨vt, rfl, own1, b1⟩
  obtain ⟨xo, xc, rfl, hxc, hxm⟩ := K.own_slice own1
  have HB1 : Hid (Below w.heap.size w w1) := b1
  by_cases he : te = 0
  · have hQ : (q1, q2) = (Nm.tog t, 0) := by rw [HQ.out, if_neg (by simp [he])]
    have h1 := (Prod.mk.inj hQ).1
    obtain rfl := (Prod.mk.inj hQ).2
    subst he
    have HQ1 : Hid (q1 = Nm.tog t) := h1
    have S1 : Nm.Sl w1 xo xc t := ⟨K.rd_owns own1, hxc, hxm⟩
    have HBd : Hid (∀ r ∈ t, 0 ≤ r ∧ r ≤ 1114111) := hbd
    clear HQ hQ own1 h1 hbd
    go_wp2_with fail
    refine (nmJoining_any w1).mono ?_
    rintro e w2 ⟨bj, B, rfl, hJ, b2⟩
    have S2 := S1.below b2 (Nat.le_refl _)
    have HB2 : Hid (Below w.heap.size w w2) := HB1.out.trans (b2.mono b1.size)
    clear S1 HB1 b1 b2
    go_wp2_with fail
    refine (nmMarks_any w2 _ t S2.1 (by omega)).mono ?_
    rintro e w3 ⟨rfl, b3⟩
    have S3 := S2.below b3 (Nat.le_refl _)
    have HJ : Hid (Nm.Jo w3 bj B) := hJ.below b3
    have HB3 : Hid (Below w.heap.size w w3) := HB2.out.trans (b3.mono HB2.out.size)
    have hle := Nm.lead_le t
    have HStart : Hid (Nm.Tg t (t.drop (Nm.lead t)) (t.take (Nm.lead t))) := Nm.Tg.start HBd.out hn
    have HS4 : Hid (Nm.Sl w3 (if xc = Nm.lead t then xo else Option.map (fun x => x.add (Nm.lead t)) xo) (xc - Nm.lead t) (t.drop (Nm.lead t))) := S3.drop hle
    have hCl := kClone_any w3 (.slice xo (Nm.lead t) xc) (t.take (Nm.lead t)) (K.rd_take S3.1 hle) (by rw [List.length_take]; omega)
    have hs1 := K.slice_upto xo t.length xc (Nm.lead t) (by omega)
    have hs2 := K.slice_from xo t.length xc (Nm.lead t) hle hxc
    rw [← List.length_drop] at hs2
    generalize (if xc = Nm.lead t then xo else Option.map (fun x => x.add (Nm.lead t)) xo) = xo2 at hs2 HS4
    generalize xc - Nm.lead t = xc2 at hs2 HS4
    generalize t.drop (Nm.lead t) = R2 at hs2 HS4 HStart
    generalize t.take (Nm.lead t) = A2 at hCl HStart
    generalize Nm.lead t = n7 at hs1 hs2 hCl hle
    clear S2 S3 b3 hJ HB2
    go_wp2_with fail
    refine hCl.mono ?_
    clear hCl hs1
    rintro e w4 ⟨v4, rfl, own4, b4⟩
    have HW4 : Hid (w4.ownsRow w3.heap.size 21 1 v4 A2.length (K.ints A2) ∧ Below w3.heap.size w3 w4) := ⟨own4, b4⟩
    clear own4 b4
    have eg : ∀ args w, (callFunc 50 args).run Try.prog w = .ok (.enter 50 args) w := enters_of Try.func50 (by kernel_rfl) rfl
    go_wp2_with fail
    go_loopw [4, 7, 8] (fun vl vn vo wr => ∃ (R acc : List Int) (yo : Option Addr) (yc n : Nat), vl = .slice yo R.length yc ∧ vn = .int .i64 n ∧ Hid (Nm.Sl w3 yo yc R) ∧ Hid (Nm.Tg t R acc) ∧ Hid (wr.ownsRow w3.heap.size 21 1 vo acc.length (K.ints acc) ∧ Below w3.heap.size w3 wr)) (fun vl _ _ _ => Nm.lenOf vl)
    case atStart => exact ⟨R2, A2, xo2, xc2, n7, rfl, rfl, HS4, HStart, HW4⟩
    case round =>
      clear HS4 HStart HW4
      obtain ⟨R, acc, yo, yc, n, rfl, rfl, HS, HG, HW⟩ := hrel
      obtain ⟨oo, oc, rfl, hoc, _⟩ := K.own_slice HW.out.1
      cases R with
      | nil =>
        have hqe : q1 = acc := by
          have := HG.out.1
          rw [Nm.tog_nil, List.append_nil] at this
          rw [HQ1.out, this]
        subst hqe
        have HF : Hid (wr.ownsRow w.heap.size 21 1 (.slice oo q1.length oc) q1.length (K.ints q1) ∧ Below w.heap.size w wr) := ⟨L.owns_base HW.out.1 HB3.out.size, HB3.out.trans (HW.out.2.mono HB3.out.size)⟩
        clear HW HS HG HQ1
        go_wp2
        refine bodyPost_ret (v := .tuple #[.slice oo q1.length oc, .int .i64 0]) (by simp [results, Try.results12, go_sem, *]) rfl ?_
        exact ⟨_, rfl, HF.out⟩
      | cons h r =>
        obtain ⟨hS1, hS2, hS3⟩ := HS.out
        obtain ⟨_, _, e', _, hc⟩ := id hS1
        obtain ⟨rfl, -, rfl⟩ := Value.slice.inj e'
        obtain ⟨b, off, rfl, hcell⟩ := hc (by simp)
        have c0 := hcell 0 h rfl
        have hrb := HG.out.2.2.1
        have hRl := HG.out.2.2.2.1
        simp only [List.length_cons] at hS2 hRl
        have HSd : Hid (Nm.Sl w3 (if yc = 1 then (some ⟨b, off, none⟩ : Option Addr) else Option.map (fun x : Addr => x.add 1) (some ⟨b, off, none⟩)) (yc - 1) r) := HS.out.drop (d := 1) (by simp)
        have hlr := Nm.lead_le r
        obtain ⟨m, hm⟩ : ∃ m, m = 1 + Nm.lead r := ⟨_, rfl⟩
        have hm1 : (1 : Int) + (Nm.lead r : Int) = (m : Int) := by omega
        have hm2 : m - 1 = Nm.lead r := by omega
        have HSm : Hid (Nm.Sl w3 (if yc = m then (some ⟨b, off, none⟩ : Option Addr) else Option.map (fun x : Addr => x.add m) (some ⟨b, off, none⟩)) (yc - m) (r.drop (Nm.lead r))) := by
          have hz := HS.out.drop (d := m) (by simp only [List.length_cons]; omega)
          rw [show (h :: r).drop m = r.drop (Nm.lead r) by rw [hm, Nat.add_comm]; rfl] at hz
          exact hz
        have hs1 : ∀ w', (Instr.slice 22 (.slice (some ⟨b, off, none⟩) (r.length + 1) yc) (some (.int .i64 1)) none none).run Try.prog w' = _ := K.slice_from (some ⟨b, off, none⟩) (r.length + 1) yc 1 (by omega) (by omega)
        have hs2 : ∀ w', (Instr.slice 22 (.slice (some ⟨b, off, none⟩) (r.length + 1) yc) (some (.int .i64 1)) (some (.int .i64 (m : Int))) none).run Try.prog w' = _ := Nm.slice_mid (some ⟨b, off, none⟩) (r.length + 1) yc 1 m (by omega) (by omega)
        have hs3 := K.slice_from (some ⟨b, off, none⟩) (r.length + 1) yc m (by omega) (by omega)
        rw [Nat.add_sub_cancel] at hs1
        rw [hm2] at hs2
        generalize (if yc = 1 then (some ⟨b, off, none⟩ : Option Addr) else Option.map (fun x : Addr => x.add 1) (some ⟨b, off, none⟩)) = xo3 at hs1 hs2 HSd
        generalize (if yc = m then (some ⟨b, off, none⟩ : Option Addr) else Option.map (fun x : Addr => x.add m) (some ⟨b, off, none⟩)) = xo4 at hs3 HSm
        generalize yc - 1 = yc3 at hs1 hs2 HSd
        generalize yc - m = yc4 at hs3 HSm
        have hrl : r.length + 1 - m = (r.drop (Nm.lead r)).length := by rw [List.length_drop]; omega
        rw [hrl] at hs3
        have HMk : Hid (∀ W, Below w3.heap.size w3 W → Calls Try.prog 32 #[.slice xo3 r.length yc3] W fun e w' => e = .returned (.int .i64 (Nm.lead r)) ∧ Below W.heap.size W w') := fun W hW => nmMarks_any W _ r (HSd.out.below hW (Nat.le_refl _)).1 (by omega)
        have HG2 : Hid (Nm.Tg t (r.drop (Nm.lead r)) (acc ++ Nm.jn h (r.take (Nm.lead r)))) := HG.out.step hn
        have HRt : Hid (L.Rd w3 (.slice xo3 (Nm.lead r) yc3) .i32 (r.take (Nm.lead r))) := K.rd_take HSd.out.1 hlr
        have HRb : Hid (∀ m ∈ r.take (Nm.lead r), 0 ≤ m ∧ m ≤ 1114111) := fun x hx => hrb x (List.mem_cons_of_mem _ (List.mem_of_mem_take hx))
        have hhb := hrb h List.mem_cons_self
        have hjl := Nm.jn_len h (r.take (Nm.lead r))
        have htl : (r.take (Nm.lead r)).length = Nm.lead r := by rw [List.length_take]; omega
        have hal := HG.out.2.2.2.2
        have hml : (r.drop (Nm.lead r)).length ≤ r.length := by rw [List.length_drop]; omega
        have HL : Hid ((r.drop (Nm.lead r)).length ≤ r.length) := hml
        generalize Nm.lead r = lr at hlr hm hm1 hm2 HMk HG2 HRt HRb hjl htl HSm hs2 hs3 HL
        generalize r.drop lr = R3 at HSm HG2 hs3 HL
        generalize r.take lr = A3 at HRt HRb hjl htl HG2
        have HB4 : Hid (Below w3.heap.size w3 wr) := HW.out.2
        have HBb : Hid (b < w3.heap.size) := L.block_lt c0
        rw [← HB4.out.cell (p := ⟨b, off + 0, none⟩) (L.block_lt c0)] at c0
        clear hc hcell hS1 hS3 hrb HG HS e' hrl hml hm
        go_wp2_with fail
        refine (HMk.out wr HB4.out).mono ?_
        rintro e w5 ⟨rfl, b5⟩
        have B5 : Below w3.heap.size w3 w5 := HB4.out.trans (b5.mono HB4.out.size)
        have O5 : w5.ownsRow w3.heap.size 21 1 (.slice oo acc.length oc) acc.length (K.ints acc) := L.owns_below HW.out.1 b5 (Nat.le_refl _)
        have HO5 : Hid (w5.drew.ownsRow w3.heap.size 21 1 (.slice oo acc.length oc) acc.length (K.ints acc) ∧ Below w3.heap.size w3 w5.drew) := ⟨O5, Nm.below_drew B5⟩
        rw [← b5.cell (p := ⟨b, off + 0, none⟩) (L.block_lt c0)] at c0
        have hJw : Nm.Jo w5.drew bj B := (HJ.out.below B5).block rfl rfl
        have hRw : L.Rd w5.drew (.slice xo3 lr yc3) .i32 A3 := HRt.out.below (Nm.below_drew B5) (Nat.le_refl _)
        have HJ1 : Hid (Calls Try.prog 50 #[.int .i32 h, .slice xo3 lr yc3, .pointer (some ⟨bj, 0, none⟩)] w5.drew fun e w' => ∃ v', e = .returned v' ∧ w'.ownsRow w5.drew.heap.size 21 1 v' (Nm.jn h A3).length (K.ints (Nm.jn h A3)) ∧ Below w5.drew.heap.size w5.drew w') := nmJoin1_any w5.drew bj B h _ A3 hJw hhb hRw HRb.out (by omega)
        have hs5 : w3.heap.size ≤ w5.drew.heap.size := B5.size
        have hln5 : acc.length + (Nm.jn h A3).length ≤ 100000000 := by omega
        generalize Nm.jn h A3 = jl at HJ1 HG2 hln5
        clear B5 O5 b5 hJw hRw HRt HRb HMk HW HB4 hjl htl HJ HBd
        have hmS1 : (1 : Int) ≤ m := by omega
        have HC5 : Hid (w5.drew.cell? ⟨b, off, none⟩ = some (.int .i32 h)) := c0
        go_upto_region 11 with fail
        go_region_held3 (fun w' => w'.cell? ⟨b, off, none⟩ = some (.int .i32 h)) (first | with_reducible exact HC5.out | with_reducible exact x1 | with_reducible exact x6 | fail)
          (first
            | (go_at_call 50; with_reducible refine HJ1.out.mono ?_; rintro e wd1 ⟨vd1, rfl, own1, b1⟩; have q5 := L.owns_below HO5.out.1 b1 (Nat.le_refl _); obtain ⟨v6, w6, run6, own6, gr6, nw6⟩ := K.app_rd wd1 w3.heap.size (.slice oo acc.length oc) acc q5 vd1 jl (K.rd_owns own1) hln5 (Nat.le_trans hs5 b1.size); have be6 : Below w3.heap.size wd1 w6 := (Below.refl _ wd1).grown gr6 (Nat.le_trans hs5 b1.size) (fun k hk => (q5.lt k hk).1); have hfin := And.intro own6 (HO5.out.2.trans ((b1.mono hs5).trans be6)); have x1 : wd1.cell? ⟨b, off, none⟩ = some (.int .i32 h) := (b1.cell (p := ⟨b, off, none⟩) (Nat.lt_of_lt_of_le HBb.out hs5)).trans HC5.out; have x6 : w6.cell? ⟨b, off, none⟩ = some (.int .i32 h) := (be6.cell (p := ⟨b, off, none⟩) HBb.out).trans x1; clear q5 own6 gr6 nw6 be6 own1 b1)
            | (refine K.step_run (by rfl) (.tmp 37) (.tmp 45) (by rfl) _ _ _ w6 (by rfl) (by rfl) run6 ?_)
            | fail)
        all_goals
          have HFin : Hid (w6.ownsRow w3.heap.size 21 1 v6 (acc ++ jl).length (K.ints (acc ++ jl)) ∧ Below w3.heap.size w3 w6) := hfin
          clear x1 x6 HC5 c0 run6 HJ1 HO5 hfin
          obtain ⟨n9, hn9⟩ : ∃ n9, n9 = (acc ++ jl).length := ⟨_, rfl⟩
          go_wp2
          go_roundw
          case rel => exact ⟨R3, acc ++ jl, xo4, yc4, m, rfl, rfl, HSm, HG2, HFin⟩
          case measure => have := HL.out; simp [Nm.lenOf]; omega
  · have hQ : (q1, q2) = ([], te) := by rw [HQ.out, if_pos he]
    obtain ⟨rfl, rfl⟩ := Prod.mk.inj hQ
    clear hQ
    clear HQ own1 b1 hbd
    go_wp2
    refine bodyPost_ret (v := .tuple #[.slice none 0 0, .int .i64 q2]) (by simp [results, Try.results12, go_sem, *]) rfl ?_
    exact ⟨_, rfl, World.ownsRow_nil _ _ _ _, HB1.out⟩

end Go.Proofs.Ytbclmmkphjknaaa
