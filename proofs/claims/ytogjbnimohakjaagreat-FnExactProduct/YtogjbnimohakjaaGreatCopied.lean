/-
  Contracts of the program's copied and of the model's l02At. Conditions: the slices read as lists of at most 2^20 numbers; a nil slice has no room.
-/
import Derived.Test.YtogjbnimohakjaaGreatTrimMath
import Derived.Test.YtogjbnimohakjaaGreatIaLaw
import Derived.Test.YtogjbnimohakjaaGreatRisen
namespace Go.Proofs.YtogjbnimohakjaaGreat
open Go.RowKit

theorem Row.src {w : World} {a : Option Addr} {n c : Nat} {xs : List Int} (h : Row w a n xs) (ha : a = none → c = 0) : Src w a n c xs := by
  cases a with
  | none =>
    obtain rfl := ha rfl
    by_cases hn : 0 < n
    · obtain ⟨_, _, e, _⟩ := h.2 hn
      cases e
    · obtain rfl : n = 0 := by omega
      obtain rfl : xs = [] := List.length_eq_zero_iff.1 h.1
      exact Src.nil w
  | some ad =>
    by_cases hn : 0 < n
    · obtain ⟨b, off, e, _, hc⟩ := h.2 hn
      cases e
      exact src_of h.1 hc
    · obtain rfl : n = 0 := by omega
      obtain rfl : xs = [] := List.length_eq_zero_iff.1 h.1
      exact Src.empty w ad c

set_option maxRecDepth 20000 in
set_option maxHeartbeats 800000 in
theorem copied_any (a : Option Addr) (n c : Nat) (xs : List Int) (w : World) (h : Row w a n xs) (ha : a = none → c = 0) (hn : n ≤ 1048576) :
    Calls Tryz.prog 97 #[.slice a n c] w (RowRes w w.heap.size xs) := by
  obtain ⟨i0, hi, hz0, hz1, hz2⟩ := info_parts info_int
  have S1 := h.src ha
  have hl := h.1
  have T1 : Owns w w.heap.size (.slice none 0 0) 0 [] := World.ownsRow_nil _ _ _ _
  clear h ha
  go_enter Tryz.func97, Tryz.ntmps97
  go_wp2_with (at_builtin; refine wpList_app rfl (.const (.slice none 0 0)) (.tmp 3) rfl w.heap.size i0 Tryz.underlying22 hi hz0 hz1 hz2 _ _ _ rfl T1 _ n _ xs rfl S1 (by omega) (Nat.le_refl _) ?_)
  rintro v2 w2 ⟨hown2, hgrow2, _⟩
  have hb2 : Below w.heap.size w w2 := T1.grown (Below.refl _ _) hgrow2 (Nat.le_refl _) (Nat.le_refl _)
  have HO := Lib.hid hown2
  have HL := Lib.hid hl
  clear T1 S1 hgrow2 hown2 hl
  go_wp2_with fail
  go_ret
  have e := HL.out
  subst e
  have h2 := HO.out
  simp only [List.nil_append, Nat.zero_add] at h2
  exact ⟨_, rfl, h2, hb2⟩

theorem placeOf_at {L : List Int} {x : Int} {k : Nat} (hk : k < L.length) (hn : x ∉ L.take k) (he : L[k] = x) : placeOf L x = (k : Int) := by
  unfold placeOf
  rw [if_pos (by rw [← he]; exact List.getElem_mem hk)]
  have : L.idxOf x = k := by
    have h1 : L = L.take k ++ L[k] :: L.drop (k + 1) := by
      rw [← List.drop_eq_getElem_cons hk, List.take_append_drop]
    rw [h1, List.idxOf_append, if_neg hn, he, List.idxOf_cons_self]
    simp
    omega
  rw [this]

end Go.Proofs.YtogjbnimohakjaaGreat
