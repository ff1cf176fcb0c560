/-
  The contract of the model's SetHas: it answers whether the number is in the list. Conditions: the slice reads as a list of ints of at most 2^40 elements.
-/
import Derived.Test.YtfhjhfhfbgddeaaGreatDoorSetOk
namespace Go.Proofs.YtfhjhfhfbgddeaaGreatDoor
open Go.RowKit

def hasB (xs : List Int) (x : Int) : Bool := decide (x ∈ xs)

theorem has_yes {xs : List Int} {x : Int} (h : x ∈ xs) : hasB xs x = true := decide_eq_true h
theorem has_no {xs : List Int} {x : Int} (h : x ∉ xs) : hasB xs x = false := decide_eq_false h

theorem has_step {xs : List Int} {x : Int} {k : Nat} (hk : k < xs.length) (h : x ∉ xs.take k) (hne : ¬ xs[k] = x) : x ∉ xs.take (k + 1) := by
  rw [List.take_succ_eq_append_getElem hk]
  simp only [List.mem_append, List.mem_singleton, not_or]
  exact ⟨h, fun e => hne e.symm⟩

set_option maxRecDepth 20000 in
set_option maxHeartbeats 800000 in
theorem specSetHas_any (a : Option Addr) (n c : Nat) (x : Int) (xs : List Int) (w : World) (h : Row w a n xs) (hn : n ≤ 1099511627776) :
    Calls Tryz.prog 24 #[.slice a n c, .int .i64 x] w fun e w' => e = .returned (.bool (hasB xs x)) ∧ w' = w := by
  obtain ⟨hl, hc⟩ := h
  go_enter Tryz.func24, Tryz.ntmps24
  go_wp2
  go_loop [5] (fun i => ∃ k : Nat, k ≤ n ∧ i = .int .i64 k ∧ Hid (x ∉ xs.take k)) (fun i => n - (intOf i).toNat)
  case atStart => exact ⟨0, Nat.zero_le _, rfl, by simp [Hid]⟩
  case round =>
    obtain ⟨k, hk, rfl, HT⟩ := hrel
    by_cases hlt : k < n
    · obtain ⟨b, off, rfl, hb, hcell⟩ := hc (by omega)
      obtain ⟨y, hy⟩ : ∃ y, y = xs.getD k 0 := ⟨_, rfl⟩
      have g1 : w.cell? ⟨b, off + k, none⟩ = some (.int .i64 y) := by rw [hy]; exact hcell k hlt
      have hkx : k < xs.length := by omega
      have hyx : y = xs[k] := by rw [hy, getD_eq xs k hkx]
      have HY := Lib.hid hyx
      clear hy hyx hc hcell
      by_cases he : y = x
      · subst he
        go_wp2
        go_ret
        refine ⟨ret_bool ?_, rfl⟩
        have := HY.out
        exact (has_yes (by rw [this]; exact List.getElem_mem hkx)).symm
      · have he2 : (y == x) = false := by simp [he]
        have HE := Lib.hid he
        clear he
        go_wp2
        go_round
        case rel => exact ⟨k + 1, by omega, by go_num, has_step hkx HT.out (by rw [← HY.out]; exact HE.out)⟩
        case measure => simp [intOf]; omega
    · go_wp2
      go_ret
      refine ⟨ret_bool ?_, rfl⟩
      have := HT.out
      rw [List.take_of_length_le (by omega)] at this
      exact (has_no this).symm

end Go.Proofs.YtfhjhfhfbgddeaaGreatDoor
