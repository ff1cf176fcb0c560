/-
  Contracts of the model's cursor besides: a pick at 1, size. Conditions: those of the cursor.
-/
import Derived.Test.YtnglogkkkpegnaaDraw
namespace Go.Proofs.Ytnglogkkkpegnaa
open Go.RowKit

theorem grownBy_same (w : World) (r : Option Nat) : w.grownBy w r := ⟨rfl, rfl, rfl, Nat.le_refl _, fun _ _ _ => rfl⟩

theorem pick_one (P : Nat) (m : Int) (w : World) (hm : m < 2) :
    Calls Try.prog 35 #[.pointer (some ⟨P, 0, none⟩), .int .i64 m] w fun e w' => e = .returned (.int .i64 0) ∧ w' = w := by
  go_enter Try.func35, Try.ntmps35
  go_wp2
  go_ret
  exact ⟨rfl, rfl⟩

/-- A pick at any bound from 1 on. -/
theorem pick_le (P t : Nat) (m : Int) (w : World) (h : Cur w P t) (ht : t ≤ 1099511627776) (hm : 1 ≤ m) (hm2 : m ≤ 1048576) :
    Calls Try.prog 35 #[.pointer (some ⟨P, 0, none⟩), .int .i64 m] w (PickRes w P t m) := by
  by_cases h2 : 2 ≤ m
  · exact pick_any P t m w h ht h2 hm2
  · refine (pick_one P m w (by omega)).mono ?_
    rintro e w' ⟨rfl, rfl⟩
    exact ⟨0, rfl, by omega, by omega, h.mono (by omega), grownBy_same _ _⟩

set_option maxRecDepth 20000 in
set_option maxHeartbeats 1600000 in
theorem size_any (P t : Nat) (m : Int) (w : World) (h : Cur w P t) (ht : t ≤ 1099511627776) (hm : 1 ≤ m) (hm2 : m ≤ 1000000) :
    Calls Try.prog 34 #[.pointer (some ⟨P, 0, none⟩), .int .i64 m] w (PickRes w P t (m + 1)) := by
  have H := Lib.hid h
  obtain ⟨a, n, c, j, s, hh, hj, hs, hn, hcode⟩ := h
  have c0 : w.cell? ⟨P, 0, none⟩ = some (.slice a n c) := by rw [cell_of_row w P 0 _ _ _ hh]; rfl
  clear hh hcode
  have q1 : ((n : Int)).tdiv 8 = (n : Int) / 8 := Int.tdiv_eq_ediv_of_nonneg (by omega)
  have W1 : Hid (∀ (k : Int), 1 ≤ k → k ≤ m → Calls Try.prog 35 #[.pointer (some ⟨P, 0, none⟩), .int .i64 (k + 1)] w (PickRes w P t (m + 1))) := fun k hk hkm =>
    (pick_any P t (k + 1) w H.out ht (by omega) (by omega)).mono fun e w' ⟨r, he, h0, h1, hcur, hg⟩ => ⟨r, he, h0, by omega, hcur, hg⟩
  by_cases hk : 1 + (n : Int) / 8 > m
  · go_enter Try.func34, Try.ntmps34
    go_wp2_with fail
    refine (W1.out m (by omega) (by omega)).mono ?_
    rintro e w1 ⟨r, rfl, hr0, hr1, hcur, hg⟩
    go_wp2_with fail
    go_ret
    exact ⟨_, rfl, hr0, hr1, hcur, hg⟩
  · go_enter Try.func34, Try.ntmps34
    go_wp2_with fail
    refine (W1.out _ (by omega) (by omega)).mono ?_
    rintro e w1 ⟨r, rfl, hr0, hr1, hcur, hg⟩
    go_wp2_with fail
    go_ret
    exact ⟨_, rfl, hr0, hr1, hcur, hg⟩

end Go.Proofs.Ytnglogkkkpegnaa
