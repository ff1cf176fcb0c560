/-
  The contract of the model's l02Step, as far as the draws need it: what comes back is a row of steps of the call's own, at most one longer. Conditions: the slice is nil or a row of the call's own, of at most 2^20 steps.
-/
import Derived.Test.YtdbgjgeglgipiaaGreatSpecStep
import Derived.Test.YtdbgjgeglgipiaaGreatIaSteps
import Derived.Test.YtdbgjgeglgipiaaGreatIaLaw
import Derived.Deep.RegionHeld3
namespace Go.Proofs.YtdbgjgeglgipiaaGreat
open Go.RowKit

theorem src_takeS {w w' : World} {g n k c : Nat} {ss : List St} (hc : ∀ j s, ss[j]? = some s → w.cell? ⟨g, j * 3, none⟩ = some (.int .i64 s.1) ∧ w.cell? ⟨g, j * 3 + 1, none⟩ = some (.int .i64 s.2.1) ∧ w.cell? ⟨g, j * 3 + 2, none⟩ = some (.int .i64 s.2.2)) (hg : g < w.heap.size) (hl : ss.length = n) (hk : k ≤ n) (hb : Below w.heap.size w w') :
    SrcS w' (some ⟨g, 0, none⟩) k c (ss.take k) := by
  refine srcS_of (by simp; omega) (fun j s hs => ?_)
  have h1 : ss[j]? = some s := by
    rw [List.getElem?_take] at hs
    split at hs
    · exact hs
    · cases hs
  obtain ⟨c0, c1, c2⟩ := hc j s h1
  simp only [Nat.zero_add]
  exact ⟨(hb.cell (p := ⟨g, j * 3, none⟩) hg).trans c0, (hb.cell (p := ⟨g, j * 3 + 1, none⟩) hg).trans c1, (hb.cell (p := ⟨g, j * 3 + 2, none⟩) hg).trans c2⟩

theorem src_dropS {w w' : World} {g n k c c' : Nat} {ss : List St} {ao : Option Addr} (hc : ∀ j s, ss[j]? = some s → w.cell? ⟨g, j * 3, none⟩ = some (.int .i64 s.1) ∧ w.cell? ⟨g, j * 3 + 1, none⟩ = some (.int .i64 s.2.1) ∧ w.cell? ⟨g, j * 3 + 2, none⟩ = some (.int .i64 s.2.2)) (hg : g < w.heap.size) (hl : ss.length = n) (hnc : n ≤ c) (hk : k ≤ n) (hb : Below w.heap.size w w')
    (hao : ¬ c = k → ao = some ⟨g, k * 3, none⟩) (hne : ∃ ad, ao = some ad) : SrcS w' ao (n - k) c' (ss.drop k) := by
  by_cases e : k = n
  · obtain ⟨ad, rfl⟩ := hne
    have e1 : n - k = 0 := by omega
    have e2 : ss.drop k = [] := List.drop_eq_nil_of_le (by omega)
    rw [e1, e2]; exact SrcS.empty _ _ _
  · rw [hao (by omega)]
    refine srcS_of (by simp; omega) (fun j s hs => ?_)
    rw [List.getElem?_drop] at hs
    obtain ⟨c0, c1, c2⟩ := hc (k + j) s hs
    have e : k * 3 + j * 3 = (k + j) * 3 := by omega
    rw [e]
    exact ⟨(hb.cell (p := ⟨g, (k + j) * 3, none⟩) hg).trans c0, (hb.cell (p := ⟨g, (k + j) * 3 + 1, none⟩) hg).trans c1, (hb.cell (p := ⟨g, (k + j) * 3 + 2, none⟩) hg).trans c2⟩

theorem srcS_box (w : World) (x y z : Int) : SrcS (w.alloc (.cells #[.int .i64 x, .int .i64 y, .int .i64 z] 48)) (some ⟨w.heap.size, 0, none⟩) 1 1 [(x, y, z)] := by
  have hv : VarIs (w.alloc (.cells #[.int .i64 x, .int .i64 y, .int .i64 z] 48)) w.heap.size #[.int .i64 x, .int .i64 y, .int .i64 z] 48 := VarIs.new w _ _ rfl
  refine srcS_of rfl (fun j s hs => ?_)
  obtain ⟨hj, rfl⟩ := List.getElem?_eq_some_iff.1 hs
  obtain rfl : j = 0 := by simpa using hj
  exact ⟨hv.cell rfl, hv.cell rfl, hv.cell rfl⟩

theorem ownsS_none (w : World) : OwnsS 48 (w.alloc (.cells #[] 48)) w.heap.size (.slice (some ⟨w.heap.size, 0, none⟩) 0 0) 0 [] := by
  have := World.ownsRow_lit (base := w.heap.size) (e := 48) (size := 3) w #[] 0 (Nat.le_refl _) (by unfold maxLen; omega) rfl
  simpa [OwnsS, flat] using this

/-- A step of numbers that are not too great. -/
def Near (s : St) : Prop := (-1099511627776 ≤ s.1 ∧ s.1 ≤ 1099511627776) ∧ (-1099511627776 ≤ s.2.1 ∧ s.2.1 ≤ 1099511627776) ∧ (-1099511627776 ≤ s.2.2 ∧ s.2.2 ≤ 1099511627776)

theorem near_put {ss : List St} {t : St} {k : Nat} (h : ∀ s ∈ ss, Near s) (ht : Near t) : ∀ s ∈ ss.take k ++ [t] ++ ss.drop k, Near s := by
  intro s hs
  simp only [List.mem_append, List.mem_cons, List.not_mem_nil, or_false] at hs
  rcases hs with (hs | rfl) | hs
  · exact h s (List.mem_of_mem_take hs)
  · exact ht
  · exact h s (List.mem_of_mem_drop hs)

end Go.Proofs.YtdbgjgeglgipiaaGreat
