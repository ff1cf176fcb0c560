/-
  Contracts of SetOk, the program's and the model's: both answer whether the list rises and has actions alone. Conditions: the slice reads as a list of ints of at most 2^40 elements.
-/
import Derived.Test.YtfhjhfhfbgddeaaGreatDoorBtw
namespace Go.Proofs.YtfhjhfhfbgddeaaGreatDoor
open Go.RowKit

theorem isAction_any (n : Int) (w : World) : Calls Tryz.prog 62 #[.int .i64 n] w fun e w' => e = .returned (.bool (btw n 0 11)) ∧ w' = w := by
  by_cases h1 : 0 ≤ n
  · by_cases h2 : n < 12
    · have e : btw n 0 11 = true := by simp [btw]; omega
      have HE := Lib.hid e; clear e
      go_enter Tryz.func62, Tryz.ntmps62
      go_wp2
      go_ret
      exact ⟨ret_bool HE.out.symm, rfl⟩
    · have e : btw n 0 11 = false := by simp [btw]; omega
      have HE := Lib.hid e; clear e
      go_enter Tryz.func62, Tryz.ntmps62
      go_wp2
      go_ret
      exact ⟨ret_bool HE.out.symm, rfl⟩
  · have e : btw n 0 11 = false := by simp [btw]; omega
    have HE := Lib.hid e; clear e
    go_enter Tryz.func62, Tryz.ntmps62
    go_wp2
    go_ret
    exact ⟨ret_bool HE.out.symm, rfl⟩

def goodB (xs : List Int) (j : Nat) : Bool := btw (xs.getD j 0) 0 11 && (decide (j = 0) || decide (xs.getD (j - 1) 0 < xs.getD j 0))
def setOkB (xs : List Int) : Bool := (List.range xs.length).all (goodB xs)

theorem setOk_all {xs : List Int} {n k : Nat} (hl : xs.length = n) (hk : ¬ k < n) (h : ∀ j, j < k → goodB xs j = true) : setOkB xs = true := by
  simp only [setOkB, List.all_eq_true, List.mem_range]
  intro j hj; exact h j (by omega)

theorem setOk_not {xs : List Int} {k : Nat} (hk : k < xs.length) (h : goodB xs k = false) : setOkB xs = false := by
  apply Bool.eq_false_iff.2
  intro e
  simp only [setOkB, List.all_eq_true, List.mem_range] at e
  rw [e k hk] at h; cases h

theorem good_step {xs : List Int} {k : Nat} (h : ∀ j, j < k → goodB xs j = true) (hg : goodB xs k = true) : ∀ j, j < k + 1 → goodB xs j = true := by
  intro j hj
  by_cases e : j = k
  · subst e; exact hg
  · exact h j (by omega)

theorem good_no1 {xs : List Int} {k : Nat} {x : Int} (hx : x = xs.getD k 0) (h : btw x 0 11 = false) : goodB xs k = false := by
  subst hx; simp only [goodB, h, Bool.false_and]
theorem good_zero {xs : List Int} {k : Nat} {x : Int} (hx : x = xs.getD k 0) (h : btw x 0 11 = true) (h0 : ¬ 0 < k) : goodB xs k = true := by
  subst hx
  have : decide (k = 0) = true := by simp; omega
  simp only [goodB, h, this, Bool.true_or, Bool.and_self]
theorem good_yes {xs : List Int} {k : Nat} {x y : Int} (hx : x = xs.getD k 0) (hy : y = xs.getD (k - 1) 0) (h : btw x 0 11 = true) (hl : y < x) : goodB xs k = true := by
  subst hx; subst hy; simp only [goodB, h, hl, decide_true, Bool.or_true, Bool.and_true]
theorem good_no2 {xs : List Int} {k : Nat} {x y : Int} (hx : x = xs.getD k 0) (hy : y = xs.getD (k - 1) 0) (h0 : 0 < k) (hl : ¬ y < x) : goodB xs k = false := by
  subst hx; subst hy
  have : decide (k = 0) = false := by simp; omega
  simp only [goodB, this, decide_eq_false hl, Bool.or_self, Bool.and_false]

set_option maxRecDepth 20000 in
set_option maxHeartbeats 800000 in
theorem specSetOk_any (a : Option Addr) (n c : Nat) (xs : List Int) (w : World) (h : Row w a n xs) (hn : n ≤ 1099511627776) :
    Calls Tryz.prog 22 #[.slice a n c] w fun e w' => e = .returned (.bool (setOkB xs)) ∧ Below w.heap.size w w' := by
  obtain ⟨hl, hc⟩ := h
  go_enter Tryz.func22, Tryz.ntmps22
  go_wp2
  go_loopw [3] (fun i wr => ∃ k : Nat, k ≤ n ∧ i = .int .i64 k ∧ Hid (∀ j, j < k → goodB xs j = true) ∧ Below w.heap.size w wr) (fun i _ => n - (intOf i).toNat)
  case atStart => exact ⟨0, Nat.zero_le _, rfl, fun j hj => absurd hj (by omega), Below.refl _ _⟩
  case round =>
    obtain ⟨k, hk, rfl, HT, hnx⟩ := hrel
    by_cases hlt : k < n
    · obtain ⟨b, off, rfl, hb, hcell⟩ := hc (by omega)
      obtain ⟨x, hx⟩ : ∃ x, x = xs.getD k 0 := ⟨_, rfl⟩
      have g1 : wr.cell? ⟨b, off + k, none⟩ = some (.int .i64 x) := by rw [hx]; exact (hnx.cell (p := ⟨b, off + k, none⟩) hb).trans (hcell k hlt)
      have HX := Lib.hid hx
      clear hx
      by_cases hbt : btw x 0 11 = true
      · by_cases h0 : 0 < k
        · obtain ⟨y, hy⟩ : ∃ y, y = xs.getD (k - 1) 0 := ⟨_, rfl⟩
          have g2 : wr.cell? ⟨b, off + (k - 1), none⟩ = some (.int .i64 y) := by rw [hy]; exact (hnx.cell (p := ⟨b, off + (k - 1), none⟩) hb).trans (hcell (k - 1) (by omega))
          have HY := Lib.hid hy
          clear hy hc hcell
          by_cases hge : y < x
          · go_wp2
            go_quiet ((go_at_call 20; exact Calls.quiet_of_same (between_any _ _ _ _)))
            go_wp2
            go_roundw
            case rel => exact ⟨k + 1, by omega, by go_num, good_step HT.out (good_yes HX.out HY.out hbt hge), below_drewN hnx _⟩
            case measure => simp [intOf]; omega
          · go_wp2
            go_quiet ((go_at_call 20; exact Calls.quiet_of_same (between_any _ _ _ _)))
            go_wp2
            go_ret
            exact ⟨ret_bool (setOk_not (by omega) (good_no2 HX.out HY.out h0 (by omega))).symm, below_drewN hnx _⟩
        · have hd : decide ((0 : Int) < (k : Int)) = false := by simp; omega
          have hd2 : decide (0 < k) = false := by simp; omega
          have H0 := Lib.hid h0
          clear hc hcell h0
          go_wp2
          go_quiet ((go_at_call 20; exact Calls.quiet_of_same (between_any _ _ _ _)))
          go_wp2
          go_roundw
          case rel => exact ⟨k + 1, by omega, by go_num, good_step HT.out (good_zero HX.out hbt H0.out), below_drewN hnx _⟩
          case measure => simp [intOf]; omega
      · have hbf : btw x 0 11 = false := by simpa using hbt
        clear hbt hc hcell
        go_wp2
        go_quiet ((go_at_call 20; exact Calls.quiet_of_same (between_any _ _ _ _)))
        go_wp2
        go_ret
        exact ⟨ret_bool (setOk_not (by omega) (good_no1 HX.out hbf)).symm, below_drewN hnx _⟩
    · go_wp2
      go_ret
      exact ⟨ret_bool (setOk_all hl hlt HT.out).symm, hnx⟩

set_option maxRecDepth 20000 in
set_option maxHeartbeats 800000 in
theorem implSetOk_any (a : Option Addr) (n c : Nat) (xs : List Int) (w : World) (h : Row w a n xs) (hn : n ≤ 1099511627776) :
    Calls Tryz.prog 50 #[.slice a n c] w fun e w' => e = .returned (.bool (setOkB xs)) ∧ Below w.heap.size w w' := by
  obtain ⟨hl, hc⟩ := h
  go_enter Tryz.func50, Tryz.ntmps50
  go_wp2
  go_loopw [7] (fun i wr => ∃ k : Nat, k ≤ n ∧ i = .int .i64 k ∧ Hid (∀ j, j < k → goodB xs j = true) ∧ Below w.heap.size w wr) (fun i _ => n - (intOf i).toNat)
  case atStart => exact ⟨0, Nat.zero_le _, rfl, fun j hj => absurd hj (by omega), Below.refl _ _⟩
  case round =>
    obtain ⟨k, hk, rfl, HT, hnx⟩ := hrel
    by_cases hlt : k < n
    · obtain ⟨b, off, rfl, hb, hcell⟩ := hc (by omega)
      obtain ⟨x, hx⟩ : ∃ x, x = xs.getD k 0 := ⟨_, rfl⟩
      have g1 : wr.cell? ⟨b, off + k, none⟩ = some (.int .i64 x) := by rw [hx]; exact (hnx.cell (p := ⟨b, off + k, none⟩) hb).trans (hcell k hlt)
      have HX := Lib.hid hx
      clear hx
      by_cases hbt : btw x 0 11 = true
      · by_cases h0 : 0 < k
        · obtain ⟨y, hy⟩ : ∃ y, y = xs.getD (k - 1) 0 := ⟨_, rfl⟩
          have g2 : wr.cell? ⟨b, off + (k - 1), none⟩ = some (.int .i64 y) := by rw [hy]; exact (hnx.cell (p := ⟨b, off + (k - 1), none⟩) hb).trans (hcell (k - 1) (by omega))
          have HY := Lib.hid hy
          clear hy hc hcell
          by_cases hge : y < x
          · go_wp2_with (go_at_call 62; refine (isAction_any _ _).mono ?_; rintro e w' ⟨rfl, rfl⟩)
            go_roundw
            case rel => exact ⟨k + 1, by omega, by go_num, good_step HT.out (good_yes HX.out HY.out hbt hge), hnx⟩
            case measure => simp [intOf]; omega
          · go_wp2_with (go_at_call 62; refine (isAction_any _ _).mono ?_; rintro e w' ⟨rfl, rfl⟩)
            go_ret
            exact ⟨ret_bool (setOk_not (by omega) (good_no2 HX.out HY.out h0 (by omega))).symm, hnx⟩
        · have hd : decide ((0 : Int) < (k : Int)) = false := by simp; omega
          have hd2 : decide (0 < k) = false := by simp; omega
          have H0 := Lib.hid h0
          clear hc hcell h0
          go_wp2_with (go_at_call 62; refine (isAction_any _ _).mono ?_; rintro e w' ⟨rfl, rfl⟩)
          go_roundw
          case rel => exact ⟨k + 1, by omega, by go_num, good_step HT.out (good_zero HX.out hbt H0.out), hnx⟩
          case measure => simp [intOf]; omega
      · have hbf : btw x 0 11 = false := by simpa using hbt
        clear hbt hc hcell
        go_wp2_with (go_at_call 62; refine (isAction_any _ _).mono ?_; rintro e w' ⟨rfl, rfl⟩)
        go_ret
        exact ⟨ret_bool (setOk_not (by omega) (good_no1 HX.out hbf)).symm, hnx⟩
    · go_wp2
      go_ret
      exact ⟨ret_bool (setOk_all hl hlt HT.out).symm, hnx⟩

end Go.Proofs.YtfhjhfhfbgddeaaGreatDoor
