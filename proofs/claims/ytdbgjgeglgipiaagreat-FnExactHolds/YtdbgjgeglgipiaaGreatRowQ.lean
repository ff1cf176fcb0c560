/-
  Rows of pairs, and the contract of the model's l07In. Conditions: at most 2^20 pairs.
-/
import Derived.Test.YtdbgjgeglgipiaaGreatSpecHas
import Derived.WalkMore
namespace Go.Proofs.YtdbgjgeglgipiaaGreat
open Go.RowKit

/-- The slice at 'a' of 'n' pairs reads as 'L'. -/
def RowQ (w : World) (a : Option Addr) (n : Nat) (L : List (Int × Int)) : Prop :=
  L.length = n ∧ (0 < n → ∃ b off, a = some ⟨b, off, none⟩ ∧ b < w.heap.size ∧ ∀ j x, L[j]? = some x → w.cell? ⟨b, off + j * 2, none⟩ = some (.int .i64 x.1) ∧ w.cell? ⟨b, off + j * 2 + 1, none⟩ = some (.int .i64 x.2))

theorem RowQ.below {w w' : World} {a : Option Addr} {n : Nat} {L : List (Int × Int)} (h : RowQ w a n L) (hb : Below w.heap.size w w') : RowQ w' a n L := by
  refine ⟨h.1, fun hn => ?_⟩
  obtain ⟨b, off, e, hlt, hc⟩ := h.2 hn
  refine ⟨b, off, e, Nat.lt_of_lt_of_le hlt hb.size, fun j s hs => ?_⟩
  obtain ⟨c0, c1⟩ := hc j s hs
  exact ⟨(hb.cell (p := ⟨b, off + j * 2, none⟩) hlt).trans c0, (hb.cell (p := ⟨b, off + j * 2 + 1, none⟩) hlt).trans c1⟩

/-- Is the pair one of 'L'? -/
def inRel (L : List (Int × Int)) (a b : Int) : Bool := L.any fun x => decide (x.1 = a) && decide (x.2 = b)

theorem inRel_step {L : List (Int × Int)} {k : Nat} (hk : k < L.length) (a b : Int) : inRel (L.take (k + 1)) a b = (inRel (L.take k) a b || (decide (L[k].1 = a) && decide (L[k].2 = b))) := by
  unfold inRel
  rw [List.take_succ_eq_append_getElem hk, List.any_append]
  simp only [List.any_cons, List.any_nil, Bool.or_false]

theorem inRel_up {L : List (Int × Int)} {k : Nat} {a b : Int} (h : inRel (L.take k) a b = true) : inRel L a b = true := by
  unfold inRel at h ⊢
  rw [List.any_eq_true] at h ⊢
  obtain ⟨x, hx, hp⟩ := h
  exact ⟨x, List.mem_of_mem_take hx, hp⟩

set_option maxRecDepth 20000 in
set_option maxHeartbeats 1600000 in
theorem l07In_any (ra : Option Addr) (rn rc : Nat) (L : List (Int × Int)) (a b : Int) (w : World) (h : RowQ w ra rn L) (hn : rn ≤ 1048576) :
    Calls Tryz.prog 68 #[.slice ra rn rc, .int .i64 a, .int .i64 b] w fun e w' => e = .returned (.bool (inRel L a b)) ∧ w' = w := by
  have HL := Lib.hid h.1
  have HC := Lib.hid h.2
  obtain ⟨r, hr⟩ : ∃ r, r = inRel L a b := ⟨_, rfl⟩
  rw [← hr]
  have HR := Lib.hid hr
  clear h hr
  go_enter Tryz.func68, Tryz.ntmps68
  go_wp2_with fail
  go_loop [7] (fun i => ∃ k : Nat, k ≤ rn ∧ i = .int .i64 (k : Int) ∧ Hid (inRel (L.take k) a b = false)) (fun i => rn - (intOf i).toNat)
  case atStart => exact ⟨0, Nat.zero_le _, rfl, rfl⟩
  case round =>
    obtain ⟨k, hk, rfl, HK⟩ := hrel
    by_cases hlt : k < rn
    · obtain ⟨g, off, rfl, hb, hcell⟩ := HC.out (by omega)
      have hkx : k < L.length := by rw [HL.out]; exact hlt
      obtain ⟨c0, c1⟩ := hcell k L[k] (List.getElem?_eq_getElem hkx)
      have HS := Lib.hid (inRel_step hkx a b)
      obtain ⟨⟨x, y⟩, hx⟩ : ∃ x, x = L[k] := ⟨_, rfl⟩
      rw [← hx] at c0 c1 HS
      simp only at c0 c1
      have i1 : (0 : Int) ≤ (k : Int) := by omega
      have i2 : (k : Int) < (rn : Int) := by omega
      clear hx hcell
      by_cases h1 : x = a
      · have e1 : (x == a) = true := by simp [h1]
        by_cases h2 : y = b
        · have e2 : (y == b) = true := by simp [h2]
          have hr1 : r = true := by
            rw [HR.out]
            refine inRel_up (k := k + 1) ?_
            rw [HS.out]
            simp [h1, h2]
          clear HR HS HK h1 h2
          subst hr1
          go_wp2_with fail
          go_ret
          exact ⟨rfl, rfl⟩
        · have e2 : (y == b) = false := by simp [h2]
          have HK2 : Hid (inRel (L.take (k + 1)) a b = false) := by
            rw [HS.out, HK.out]
            simp [h2, Hid]
          clear HS HK h1 h2
          go_wp2_with fail
          go_round
          case rel => exact ⟨k + 1, by omega, by go_num, HK2.out⟩
          case measure => simp [intOf]; omega
      · have e1 : (x == a) = false := by simp [h1]
        have HK2 : Hid (inRel (L.take (k + 1)) a b = false) := by
          rw [HS.out, HK.out]
          simp [h1, Hid]
        clear HS HK h1
        go_wp2_with fail
        go_round
        case rel => exact ⟨k + 1, by omega, by go_num, HK2.out⟩
        case measure => simp [intOf]; omega
    · obtain rfl : rn = k := by omega
      have hr1 : r = false := by
        rw [HR.out]
        have := HK.out
        rwa [List.take_of_length_le (by rw [HL.out]; omega)] at this
      clear HR HK
      subst hr1
      go_wp2_with fail
      go_ret
      exact ⟨rfl, rfl⟩

end Go.Proofs.YtdbgjgeglgipiaaGreat
