/-
  What the draws of automata need besides: calls that only make memory, and which numbers a join holds. Conditions: none.
-/
import Derived.Test.YtnglogkkkpegnaaDraw2
import Derived.Test.YtnglogkkkpegnaaStepPut
namespace Go.Proofs.Ytnglogkkkpegnaa
open Go.RowKit

theorem grown_of_below {w w' : World} (h : Below w.heap.size w w') (r : Option Nat) : w.grownBy w' r :=
  ⟨h.1, h.2, h.3, h.size, fun k hk _ => h.block k hk⟩

theorem drawn_put {xs : List Int} {x y : Int} (h : y ∈ put xs x) : y ∈ xs ∨ y = x := by
  simp only [put] at h
  split at h
  · exact Or.inl h
  · rcases List.mem_append.1 h with h | h
    · exact Or.inl (List.takeWhile_subset _ h)
    · rcases List.mem_cons.1 h with h | h
      · exact Or.inr h
      · exact Or.inl (List.dropWhile_subset _ h)

theorem drawn_putAll : ∀ {ys xs : List Int} {y : Int}, y ∈ putAll xs ys → y ∈ xs ∨ y ∈ ys
  | [], _, _, h => Or.inl h
  | z :: r, xs, y, h => by
    have h1 : y ∈ putAll (put xs z) r := h
    rcases drawn_putAll h1 with h2 | h2
    · rcases drawn_put h2 with h3 | rfl
      · exact Or.inl h3
      · exact Or.inr (List.mem_cons_self ..)
    · exact Or.inr (List.mem_cons_of_mem _ h2)

theorem drawn_join {xs ys : List Int} {y : Int} (h : y ∈ joinOf xs ys) : y ∈ xs ∨ y ∈ ys := by
  rcases drawn_putAll h with h | h
  · rcases drawn_putAll h with h | h
    · simp at h
    · exact Or.inl h
  · exact Or.inr h

theorem drawn_put_len (xs : List Int) (x : Int) : (put xs x).length ≤ xs.length + 1 := by
  simp only [put]
  split
  · omega
  · have := List.takeWhile_append_dropWhile (p := fun y => decide (y < x)) (l := xs)
    have h2 := congrArg List.length this
    simp only [List.length_append, List.length_cons] at h2 ⊢
    omega

theorem drawn_putAll_len : ∀ (ys xs : List Int), (putAll xs ys).length ≤ xs.length + ys.length
  | [], xs => by simp [putAll]
  | z :: r, xs => by
    have h1 := drawn_putAll_len r (put xs z)
    have h2 := drawn_put_len xs z
    show (putAll (put xs z) r).length ≤ _
    simp only [List.length_cons]
    omega

theorem drawn_join_len (xs ys : List Int) : (joinOf xs ys).length ≤ xs.length + ys.length := by
  have h1 := drawn_putAll_len ys (putAll [] xs)
  have h2 := drawn_putAll_len xs []
  simp only [List.length_nil, Nat.zero_add] at h2
  unfold joinOf
  omega

end Go.Proofs.Ytnglogkkkpegnaa
