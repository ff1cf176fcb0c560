/-
  A region that draws its order, by its states: what holds in each state, whichever way it was come to. And: a list is copied by an append onto an empty slice, in whatever order. Conditions: as each statement says; nothing here speaks of the program.
-/
import Derived.Test.YtogjbnimohakjaaGreatAnyFrom
import Derived.Test.YtogjbnimohakjaaGreatCopied
import Derived.Deep.RegionLaw
import Derived.Deep.RegionLawGrows
namespace Go.Proofs.YtogjbnimohakjaaGreat
open Go.RowKit

/-- A row that does not lie in the variable at 'u'. -/
def RowAway (w : World) (ad : Option Addr) (n : Nat) (xs : List Int) (u : Value) : Prop := Row w ad n xs ∧ ∀ b, u = .pointer (some ⟨b, 0, none⟩) → ∀ q, ad = some q → 0 < n → q.block ≠ b

theorem Row.grown {w w' : World} {a : Option Addr} {n b : Nat} {xs : List Int} (h : Row w a n xs) (hg : w.grownBy w' (some b)) (hb : ∀ q, a = some q → 0 < n → q.block ≠ b) : Row w' a n xs := by
  refine ⟨h.1, fun hn => ?_⟩
  obtain ⟨b', off, e, hlt, hc⟩ := h.2 hn
  have hne : b' ≠ b := hb _ e hn
  refine ⟨b', off, e, Nat.lt_of_lt_of_le hlt hg.size, fun j hj => ?_⟩
  rw [World.cell?_of_block (hg.block b' hlt (fun e => hne (Option.some.inj e)))]
  exact hc j hj

theorem Row.grownAny {w w' : World} {a : Option Addr} {n : Nat} {xs : List Int} {r : Option Nat} (h : Row w a n xs) (hg : w.grownBy w' r) (hb : ∀ q, a = some q → 0 < n → some q.block ≠ r) : Row w' a n xs := by
  refine ⟨h.1, fun hn => ?_⟩
  obtain ⟨b', off, e, hlt, hc⟩ := h.2 hn
  refine ⟨b', off, e, Nat.lt_of_lt_of_le hlt hg.size, fun j hj => ?_⟩
  rw [World.cell?_of_block (hg.block b' hlt (hb _ e hn))]
  exact hc j hj

theorem Row.lt {w : World} {a : Option Addr} {n : Nat} {xs : List Int} (h : Row w a n xs) : ∀ q, a = some q → 0 < n → q.block < w.heap.size := by
  intro q hq hn
  obtain ⟨b, off, e, hlt, _⟩ := h.2 hn
  rw [hq] at e
  cases e
  exact hlt

theorem RowAway.below {w w' : World} {ad : Option Addr} {n : Nat} {xs : List Int} {u : Value} (h : RowAway w ad n xs u) (hb : Below w.heap.size w w') : RowAway w' ad n xs u := ⟨h.1.below hb, h.2⟩

/-- A list of ints onto an empty slice that has no room. -/
theorem step_copy {P : Program} {ops : Array Oper} {o : Oper} {a : Act} {w : World} {K : Act → World → Prop} {Q : Exit → Act → World → Prop} {E : Prop} (hgd : o.guard = none) (s x : Operand)
    (hop : o.op = Op.call { callee := Callee.builtin Builtin.append, args := #[s, x], argTypes := #[ 22, 22 ] }) (i : TypeInfo) (h1 : P.underlying 22 = some (.slice 3)) (h2 : P.info? 3 = some i) (h3 : i.zero = some (.int .i64 0)) (h4 : i.size = 1) (h5 : i.bytes = 8)
    (g : Nat) (hs : a.eval s = .slice (some ⟨g, 0, none⟩) 0 0) (b off n c : Nat) (xs : List Int) (hx : a.eval x = .slice (some ⟨b, off, none⟩) n c) (hr : Row w (some ⟨b, off, none⟩) n xs) (hn : n ≤ 1048576)
    (hK : ∀ a' c' w', Row w' a' n xs → Below w.heap.size w w' → (∀ q, a' = some q → 0 < n → w.heap.size ≤ q.block) → K (a.put o.dst (.slice a' n c')) w') :
    if Region.wanted o (yielded ops a.tmps) = true then Oper.wp P o a w K Q else E := by
  by_cases h0 : n = 0
  · subst h0
    obtain rfl : xs = [] := List.length_eq_zero_iff.1 hr.1
    refine step_append_room hgd s x 22 hop 3 i 1 h1 h2 h4 g 0 0 0 hs ⟨b, off, none⟩ 0 c [] hx rfl (fun j u hu => by simp at hu) (fun u hu => by simp at hu) (by omega) (fun j hj => by simp at hj) ?_
    exact hK _ _ _ ⟨rfl, fun h => absurd h (by omega)⟩ (Below.refl _ _) (fun _ _ h => absurd h (by omega))
  · have hc := (hr.src (c := c) (fun h => by cases h)).2.2 ⟨b, off, none⟩ rfl
    have hl := hr.1
    refine step_append_grows hgd s x 22 hop 3 i (.int .i64 0) 1 8 h1 h2 h3 h4 h5 rfl (by decide) (some ⟨g, 0, none⟩) 0 0 [] hs (fun h => by cases h) rfl (fun _ _ j u hu => by simp at hu) ⟨b, off, none⟩ n c (xs.map (Value.int .i64)) hx (by simp [hl]) hc (ints_oneCell _ _) (by omega) (by unfold maxLen; omega) (by omega) ?_
    intro v' w' hown hg
    have ho : Owns w' w.heap.size v' n xs := by
      have := hown
      simpa [Owns] using this
    obtain ⟨ad, cc, rfl⟩ := ho.form
    exact hK ad cc w' ho.row.2.2.2 ((Below.refl _ _).grown hg (Nat.le_refl _) (fun k h => by cases h)) (fun q hq _ => by subst hq; exact (ho.lt q.block rfl).1)

/-- Six cells are stored into a variable. -/
theorem VarIs.sets {w : World} {b : Nat} {t : TypeId} {z0 z1 z2 z3 z4 z5 : Value} (h : VarIs w b #[z0, z1, z2, z3, z4, z5] t) (v0 v1 v2 v3 v4 v5 : Value) : VarIs (w.setCells b 0 [v0, v1, v2, v3, v4, v5]) b #[v0, v1, v2, v3, v4, v5] t :=
  ((((((h.set 0 v0).set 1 v1).set 2 v2).set 3 v3).set 4 v4).set 5 v5)

end Go.Proofs.YtogjbnimohakjaaGreat
