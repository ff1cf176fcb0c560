/-
  Contracts of the laws' same, sameSteps, sameIa where the two are the same. Conditions: the slices read as lists of at most 2^40 elements.
-/
import Derived.Test.YtnglogkkkpegnaaToStep
namespace Go.Proofs.Ytnglogkkkpegnaa
open Go.RowKit

set_option maxRecDepth 20000 in
set_option maxHeartbeats 1600000 in
theorem sameSteps_eq (a a2 : Option Addr) (n c m c2 : Nat) (xs : List St) (w : World) (h : RowS w a n xs) (h2 : RowS w a2 m xs) (hn : n ≤ 1099511627776) :
    Calls Try.prog 9 #[.slice a n c, .slice a2 m c2] w fun e w' => e = .returned (.bool true) ∧ Below w.heap.size w w' := by
  obtain ⟨hl, hc⟩ := h
  obtain ⟨hl2, hc2⟩ := h2
  obtain rfl : n = m := by omega
  have HL := Lib.hid hl
  have HC := Lib.hid hc
  have HC2 := Lib.hid hc2
  clear hl hl2 hc hc2
  go_enter Try.func9, Try.ntmps9
  go_wp2
  go_loopw [5] (fun i wr => ∃ k : Nat, k ≤ n ∧ i = .int .i64 k ∧ Below w.heap.size w wr) (fun i _ => n - (intOf i).toNat)
  case atStart => exact ⟨0, Nat.zero_le _, rfl, Below.refl _ _⟩
  case round =>
    obtain ⟨k, hk, rfl, hnx⟩ := hrel
    by_cases hlt : k < n
    · obtain ⟨b, off, rfl, hb, hcell⟩ := HC.out (by omega)
      obtain ⟨b2, off2, rfl, hb2, hcell2⟩ := HC2.out (by omega)
      have hkx : k < xs.length := by rw [HL.out]; exact hlt
      obtain ⟨s, hs⟩ : ∃ s, s = xs[k] := ⟨_, rfl⟩
      obtain ⟨c0, c1, c2'⟩ := hcell k xs[k] (List.getElem?_eq_getElem hkx)
      obtain ⟨d0, d1, d2⟩ := hcell2 k xs[k] (List.getElem?_eq_getElem hkx)
      rw [← hs] at c0 c1 c2' d0 d1 d2
      have k0 := (hnx.cell (p := ⟨b, off + k * 3, none⟩) hb).trans c0
      have k1 := (hnx.cell (p := ⟨b, off + k * 3 + 1, none⟩) hb).trans c1
      have k2 := (hnx.cell (p := ⟨b, off + k * 3 + 2, none⟩) hb).trans c2'
      have l0 := (hnx.cell (p := ⟨b2, off2 + k * 3, none⟩) hb2).trans d0
      have l1 := (hnx.cell (p := ⟨b2, off2 + k * 3 + 1, none⟩) hb2).trans d1
      have l2 := (hnx.cell (p := ⟨b2, off2 + k * 3 + 2, none⟩) hb2).trans d2
      obtain ⟨x, y, z⟩ := s
      simp only at k0 k1 k2 l0 l1 l2
      have i1 : (0 : Int) ≤ (k : Int) := by omega
      have i2 : (k : Int) < (n : Int) := by omega
      clear c0 c1 c2' d0 d1 d2 hs hcell hcell2
      go_wp2
      go_quiet (fail)
      go_wp2
      go_roundw
      case rel => exact ⟨k + 1, by omega, by go_num, below_drewN hnx _⟩
      case measure => simp [intOf]; omega
    · go_wp2
      go_ret
      exact ⟨rfl, hnx⟩

end Go.Proofs.Ytnglogkkkpegnaa
