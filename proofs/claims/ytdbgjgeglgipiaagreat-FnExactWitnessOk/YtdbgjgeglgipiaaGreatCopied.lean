/-
  Contracts of the program's copied and of the model's l02At. Conditions: the slices read as lists of at most 2^20 numbers; a nil slice has no room.
-/
import Derived.Test.YtdbgjgeglgipiaaGreatTrimMath
import Derived.Test.YtdbgjgeglgipiaaGreatIaLaw
import Derived.Test.YtdbgjgeglgipiaaGreatRisen
namespace Go.Proofs.YtdbgjgeglgipiaaGreat
open Go.RowKit

theorem Row.src {w : World} {a : Option Addr} {n c : Nat} {xs : List Int} (h : Row w a n xs) (ha : a = none → c = 0) : Src w a n c xs := by
  cases a with
  | none =>
    obtain rfl := ha rfl
    by_cases hn : 0 < n
    · obtain ⟨_, _, e, _⟩ := h.2 hn
      cases e
    · obtain rfl : n = 0 := by omega
      obtain rfl : xs = [] := List.length_eq_zero_iff.1 h.1
      exact Src.nil w
  | some ad =>
    by_cases hn : 0 < n
    · obtain ⟨b, off, e, _, hc⟩ := h.2 hn
      cases e
      exact src_of h.1 hc
    · obtain rfl : n = 0 := by omega
      obtain rfl : xs = [] := List.length_eq_zero_iff.1 h.1
      exact Src.empty w ad c

end Go.Proofs.YtdbgjgeglgipiaaGreat
