/-
  Contracts of the laws' eqStep and eqStepS. Conditions: the slices read as lists of at most 2^40 elements.
-/
import Derived.Test.YtalanlmhfggheaaSzIa
import Derived.Deep.RegionHeld3
namespace Go.Proofs.Ytalanlmhfggheaa
open Go.RowKit

theorem eqStep_any (s t : St) (w : World) :
    Calls Try.prog 52 #[.agg #[.int .i64 s.1, .int .i64 s.2.1, .int .i64 s.2.2], .agg #[.int .i64 t.1, .int .i64 t.2.1, .int .i64 t.2.2]] w fun e w' => e = .returned (.bool (decide (s = t))) ∧ Below w.heap.size w w' := by
  obtain ⟨x, y, z⟩ := s
  obtain ⟨x', y', z'⟩ := t
  have HB : Hid (∀ o o', Below w.heap.size w ((w.alloc o).alloc o')) := fun o o' => ((Below.refl _ _).alloc (Nat.le_refl _) _).alloc (by simp) _
  obtain ⟨r, hr⟩ : ∃ r, r = decide ((x, y, z) = (x', y', z')) := ⟨_, rfl⟩
  rw [← hr]
  have HR := Lib.hid hr
  clear hr
  by_cases h1 : x = x'
  · by_cases h2 : y = y'
    · by_cases h3 : z = z'
      · go_enter Try.func52, Try.ntmps52
        go_wp2
        go_ret
        exact ⟨ret_bool (by rw [HR.out, h1, h2, h3]; simp), HB.out _ _⟩
      · go_enter Try.func52, Try.ntmps52
        go_wp2
        go_ret
        exact ⟨ret_bool (by rw [HR.out]; simp [h3]), HB.out _ _⟩
    · go_enter Try.func52, Try.ntmps52
      go_wp2
      go_ret
      exact ⟨ret_bool (by rw [HR.out]; simp [h2]), HB.out _ _⟩
  · go_enter Try.func52, Try.ntmps52
    go_wp2
    go_ret
    exact ⟨ret_bool (by rw [HR.out]; simp [h1]), HB.out _ _⟩

set_option maxRecDepth 20000 in
set_option maxHeartbeats 1600000 in
theorem eqStepS_any (a a2 : Option Addr) (n c m c2 : Nat) (xs ys : List St) (w : World) (h : RowS w a n xs) (h2 : RowS w a2 m ys) (hn : n ≤ 1099511627776) (hm : m ≤ 1099511627776) :
    Calls Try.prog 31 #[.slice a n c, .slice a2 m c2] w fun e w' => e = .returned (.bool (decide (xs = ys))) ∧ Below w.heap.size w w' := by
  obtain ⟨hl, hc⟩ := h
  obtain ⟨hl2, hc2⟩ := h2
  have HL := Lib.hid hl
  have HL2 := Lib.hid hl2
  have HC := Lib.hid hc
  have HC2 := Lib.hid hc2
  by_cases hnm : n = m
  · clear hl hl2 hc hc2
    subst hnm
    go_enter Try.func31, Try.ntmps31
    go_wp2
    go_loopw [5] (fun i wr => ∃ k : Nat, k ≤ n ∧ i = .int .i64 k ∧ Hid (xs.take k = ys.take k) ∧ Below w.heap.size w wr) (fun i _ => n - (intOf i).toNat)
    case atStart => exact ⟨0, Nat.zero_le _, rfl, rfl, Below.refl _ _⟩
    case round =>
      obtain ⟨k, hk, rfl, HT, hnx⟩ := hrel
      by_cases hlt : k < n
      · obtain ⟨b, off, rfl, hb, hcell⟩ := HC.out (by omega)
        obtain ⟨b2, off2, rfl, hb2, hcell2⟩ := HC2.out (by omega)
        have hkx : k < xs.length := by rw [HL.out]; exact hlt
        have hky : k < ys.length := by rw [HL2.out]; exact hlt
        obtain ⟨s, hs⟩ : ∃ s, s = xs[k] := ⟨_, rfl⟩
        obtain ⟨t, ht⟩ : ∃ s, s = ys[k] := ⟨_, rfl⟩
        obtain ⟨c0, c1, c2'⟩ := hcell k xs[k] (List.getElem?_eq_getElem hkx)
        obtain ⟨d0, d1, d2⟩ := hcell2 k ys[k] (List.getElem?_eq_getElem hky)
        rw [← hs] at c0 c1 c2'
        rw [← ht] at d0 d1 d2
        have k0 := (hnx.cell (p := ⟨b, off + k * 3, none⟩) hb).trans c0
        have k1 := (hnx.cell (p := ⟨b, off + k * 3 + 1, none⟩) hb).trans c1
        have k2 := (hnx.cell (p := ⟨b, off + k * 3 + 2, none⟩) hb).trans c2'
        have l0 := (hnx.cell (p := ⟨b2, off2 + k * 3, none⟩) hb2).trans d0
        have l1 := (hnx.cell (p := ⟨b2, off2 + k * 3 + 1, none⟩) hb2).trans d1
        have l2 := (hnx.cell (p := ⟨b2, off2 + k * 3 + 2, none⟩) hb2).trans d2
        obtain ⟨x, y, z⟩ := s
        obtain ⟨x', y', z'⟩ := t
        simp only at k0 k1 k2 l0 l1 l2
        have HS := Lib.hid hs
        have HT2 := Lib.hid ht
        have i1 : (0 : Int) ≤ (k : Int) := by omega
        have i2 : (k : Int) < (n : Int) := by omega
        clear c0 c1 c2' d0 d1 d2 hs ht hcell hcell2
        obtain ⟨q, hq⟩ : ∃ q, q = decide (((x, y, z) : St) = (x', y', z')) := ⟨_, rfl⟩
        have HEQ : Hid (∀ W, Calls Try.prog 52 #[.agg #[.int .i64 x, .int .i64 y, .int .i64 z], .agg #[.int .i64 x', .int .i64 y', .int .i64 z']] W fun e w' => e = .returned (.bool q) ∧ Below W.heap.size W w') := fun W => by
          rw [hq]
          exact eqStep_any (x, y, z) (x', y', z') W
        have HQ := Lib.hid hq
        clear hq
        cases q with
        | true =>
          go_wp2
          go_region_held3 (fun w' => Below w.heap.size w w' ∧ w'.cell? ⟨b, off + k * 3, none⟩ = some (.int .i64 x) ∧ w'.cell? ⟨b, off + k * 3 + 1, none⟩ = some (.int .i64 y) ∧ w'.cell? ⟨b, off + k * 3 + 2, none⟩ = some (.int .i64 z) ∧ w'.cell? ⟨b2, off2 + k * 3, none⟩ = some (.int .i64 x') ∧ w'.cell? ⟨b2, off2 + k * 3 + 1, none⟩ = some (.int .i64 y') ∧ w'.cell? ⟨b2, off2 + k * 3 + 2, none⟩ = some (.int .i64 z'))
            (first | (refine ⟨hnx.drew, ?_⟩; go_keep) | (exact ⟨hnx.drew.trans (hb'.mono hnx.size), (hb'.cell (p := ⟨b, off + k * 3, none⟩) (Nat.lt_of_lt_of_le hb hnx.size)).trans k0, (hb'.cell (p := ⟨b, off + k * 3 + 1, none⟩) (Nat.lt_of_lt_of_le hb hnx.size)).trans k1, (hb'.cell (p := ⟨b, off + k * 3 + 2, none⟩) (Nat.lt_of_lt_of_le hb hnx.size)).trans k2, (hb'.cell (p := ⟨b2, off2 + k * 3, none⟩) (Nat.lt_of_lt_of_le hb2 hnx.size)).trans l0, (hb'.cell (p := ⟨b2, off2 + k * 3 + 1, none⟩) (Nat.lt_of_lt_of_le hb2 hnx.size)).trans l1, (hb'.cell (p := ⟨b2, off2 + k * 3 + 2, none⟩) (Nat.lt_of_lt_of_le hb2 hnx.size)).trans l2⟩))
            ((go_at_call 52; refine (HEQ.out _).mono ?_; rintro e w' ⟨rfl, hb'⟩))
          rename_i hH
          have HH := Lib.hid hH.1
          clear hH
          go_wp2
          go_roundw
          case rel =>
            refine ⟨k + 1, by omega, by go_num, ?_, HH.out⟩
            have e1 : xs[k] = ys[k] := by rw [← HS.out, ← HT2.out]; exact of_decide_eq_true HQ.out.symm
            unfold Hid
            rw [List.take_succ_eq_append_getElem hkx, List.take_succ_eq_append_getElem hky, HT.out, e1]
          case measure => simp [intOf]; omega
        | false =>
          go_wp2
          go_region_held3 (fun w' => Below w.heap.size w w' ∧ w'.cell? ⟨b, off + k * 3, none⟩ = some (.int .i64 x) ∧ w'.cell? ⟨b, off + k * 3 + 1, none⟩ = some (.int .i64 y) ∧ w'.cell? ⟨b, off + k * 3 + 2, none⟩ = some (.int .i64 z) ∧ w'.cell? ⟨b2, off2 + k * 3, none⟩ = some (.int .i64 x') ∧ w'.cell? ⟨b2, off2 + k * 3 + 1, none⟩ = some (.int .i64 y') ∧ w'.cell? ⟨b2, off2 + k * 3 + 2, none⟩ = some (.int .i64 z'))
            (first | (refine ⟨hnx.drew, ?_⟩; go_keep) | (exact ⟨hnx.drew.trans (hb'.mono hnx.size), (hb'.cell (p := ⟨b, off + k * 3, none⟩) (Nat.lt_of_lt_of_le hb hnx.size)).trans k0, (hb'.cell (p := ⟨b, off + k * 3 + 1, none⟩) (Nat.lt_of_lt_of_le hb hnx.size)).trans k1, (hb'.cell (p := ⟨b, off + k * 3 + 2, none⟩) (Nat.lt_of_lt_of_le hb hnx.size)).trans k2, (hb'.cell (p := ⟨b2, off2 + k * 3, none⟩) (Nat.lt_of_lt_of_le hb2 hnx.size)).trans l0, (hb'.cell (p := ⟨b2, off2 + k * 3 + 1, none⟩) (Nat.lt_of_lt_of_le hb2 hnx.size)).trans l1, (hb'.cell (p := ⟨b2, off2 + k * 3 + 2, none⟩) (Nat.lt_of_lt_of_le hb2 hnx.size)).trans l2⟩))
            ((go_at_call 52; refine (HEQ.out _).mono ?_; rintro e w' ⟨rfl, hb'⟩))
          rename_i hH
          have HH := Lib.hid hH.1
          clear hH
          go_wp2
          go_ret
          refine ⟨ret_bool (decide_eq_false ?_).symm, HH.out⟩
          intro e
          have e1 : xs[k] = ys[k] := by subst e; rfl
          rw [← HS.out, ← HT2.out] at e1
          exact absurd e1 (of_decide_eq_false HQ.out.symm)
      · go_wp2
        go_ret
        have := HT.out
        rw [List.take_of_length_le (by rw [HL.out]; omega), List.take_of_length_le (by rw [HL2.out]; omega)] at this
        exact ⟨ret_bool (decide_eq_true this).symm, hnx⟩
  · have hne : ¬ xs = ys := by intro e; subst e; omega
    have HN := Lib.hid hne
    clear hne hl hl2 hc hc2 HC HC2 HL HL2
    go_enter Try.func31, Try.ntmps31
    go_wp2
    go_ret
    exact ⟨ret_bool (decide_eq_false HN.out).symm, Below.refl _ _⟩

end Go.Proofs.Ytalanlmhfggheaa
