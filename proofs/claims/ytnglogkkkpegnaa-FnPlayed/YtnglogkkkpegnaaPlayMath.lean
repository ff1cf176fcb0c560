/-
  Plays as lists: the steps that picks make from a state. Conditions: none; nothing here speaks of the program.
-/
import Derived.Test.YtnglogkkkpegnaaStepRows
import Derived.Test.YtnglogkkkpegnaaStepPut
namespace Go.Proofs.Ytnglogkkkpegnaa
open Go.RowKit

/-- Which of n a pick takes. -/
def pickOf (p : Int) (n : Nat) : Nat := (p % (n : Int)).toNat

/-- The steps that picks make from a state. -/
def playL (ss : List St) : List Int → Int → List St
  | [], _ => []
  | p :: r, s => match (rowL ss s)[pickOf p (rowL ss s).length]? with
    | none => []
    | some x => x :: playL ss r x.2.2

def playOf (a : IaD) (ps : List Int) : List St := if iaOkB a then playL a.steps ps a.init else []

theorem pickOf_lt (p : Int) {n : Nat} (h : 0 < n) : pickOf p n < n := by
  unfold pickOf
  have h1 := Int.emod_nonneg p (b := (n : Int)) (by omega)
  have h2 := Int.emod_lt_of_pos p (b := (n : Int)) (by omega)
  omega

theorem pickOf_int (p : Int) {n : Nat} (h : 0 < n) : ((pickOf p n : Nat) : Int) = p % (n : Int) := by
  unfold pickOf
  have h1 := Int.emod_nonneg p (b := (n : Int)) (by omega)
  omega

/-- Go's own modulus, and what is added where it is below 0. -/
theorem pickOf_tmod (p : Int) {n : Nat} (h : 0 < n) : ((pickOf p n : Nat) : Int) = if p.tmod (n : Int) < 0 then p.tmod (n : Int) + (n : Int) else p.tmod (n : Int) := by
  rw [pickOf_int p h, Int.tmod_eq_emod]
  have h1 := Int.emod_nonneg p (b := (n : Int)) (by omega)
  have h2 := Int.emod_lt_of_pos p (b := (n : Int)) (by omega)
  split
  · rw [if_neg (by omega)]
    omega
  · rename_i hn
    have h0 : ¬ p % (n : Int) = 0 := fun e => hn (Or.inr (Int.dvd_of_emod_eq_zero e))
    have h3 : ((n : Int).natAbs : Int) = (n : Int) := by simp
    rw [h3, if_pos (by omega)]
    omega

theorem tmod_low (p : Int) {n : Nat} (h : 0 < n) : -(n : Int) ≤ p.tmod (n : Int) ∧ p.tmod (n : Int) < (n : Int) := by
  have h1 := pickOf_tmod p h
  have h2 := pickOf_lt p h
  split at h1 <;> omega

theorem playL_stop {ss : List St} {ps : List Int} {s : Int} (h : (rowL ss s).length = 0) : playL ss ps s = [] := by
  cases ps with
  | nil => rfl
  | cons p r =>
    have e : rowL ss s = [] := List.length_eq_zero_iff.1 h
    unfold playL
    rw [e]
    rfl

theorem playL_go {ss : List St} {ps : List Int} {k : Nat} {s p : Int} {x : St} (hk : ps[k]? = some p) (h : (rowL ss s)[pickOf p (rowL ss s).length]? = some x) : playL ss (ps.drop k) s = x :: playL ss (ps.drop (k + 1)) x.2.2 := by
  obtain ⟨hlt, e⟩ := List.getElem?_eq_some_iff.1 hk
  rw [List.drop_eq_getElem_cons hlt, e]
  conv => lhs; unfold playL
  rw [h]

theorem playL_end {ss : List St} {ps : List Int} {k : Nat} {s : Int} (h : ps.length ≤ k) : playL ss (ps.drop k) s = [] := by
  rw [List.drop_eq_nil_of_le h]
  rfl

theorem playL_len (ss : List St) : ∀ (ps : List Int) (s : Int), (playL ss ps s).length ≤ ps.length
  | [], _ => Nat.le_refl _
  | p :: r, s => by
    unfold playL
    cases (rowL ss s)[pickOf p (rowL ss s).length]? with
    | none => simp
    | some x =>
      have := playL_len ss r x.2.2
      simp only [List.length_cons]
      omega

theorem playOf_len (a : IaD) (ps : List Int) : (playOf a ps).length ≤ ps.length := by
  unfold playOf
  split
  · exact playL_len _ _ _
  · simp

theorem rowL_mem {ss : List St} {s : Int} {k : Nat} {x : St} (h : (rowL ss s)[k]? = some x) : x ∈ ss := (List.mem_filter.1 (List.mem_of_getElem? h)).1

end Go.Proofs.Ytnglogkkkpegnaa
