/-
  Small facts on variables and rows side by side, and the joining of a region's orders. Conditions: none; nothing here speaks of the program.
-/
import Derived.Test.YtdbgjgeglgipiaaGreatStepRows
import Derived.Test.YtdbgjgeglgipiaaGreatRegion
import Derived.Test.YtdbgjgeglgipiaaGreatRowsOf
namespace Go.Proofs.YtdbgjgeglgipiaaGreat
open Go.RowKit

theorem own_var {W : World} {base size n A : Nat} {e t : TypeId} {v : Value} {xs : List Value} {C : Array Value} (h : W.ownsRow base e size v n xs) (hv : VarIs W A C t) (het : e ≠ t) : v.ownBlock ≠ some A := by
  intro e'
  rcases h.2 with ⟨rfl, _⟩ | ⟨g, cap, cur, rfl, _, hh, _⟩
  · cases e'
  · have e1 : g = A := by simpa [Value.ownBlock] using e'
    subst e1
    have h2 := hh.symm.trans hv
    simp only [Option.some.injEq, Obj.cells.injEq] at h2
    exact het h2.2.1

theorem RowsAt.keepVar {W W' : World} {base b : Nat} {C E : Array Value} {t : TypeId} {ss : List St} (h : RowsAt W base C ss) (hv : VarIs W b E t) (ht : 48 ≠ t) (hg : W.grownBy W' (some b)) : RowsAt W' base C ss :=
  ⟨h.1, fun s hs => by obtain ⟨a, c, e, o⟩ := h.2.1 s hs; exact ⟨a, c, e, o.keep hg (fun k hk he => own_var o hv ht (hk.trans he))⟩, h.2.2⟩

theorem Owns.keepVar {W W' : World} {base b n : Nat} {E : Array Value} {t : TypeId} {v : Value} {xs : List Int} (h : Owns W base v n xs) (hv : VarIs W b E t) (ht : 3 ≠ t) (hg : W.grownBy W' (some b)) : Owns W' base v n xs :=
  World.ownsRow.kept h hg (by
    cases e : v.ownBlock with
    | none => exact Or.inl rfl
    | some k => exact Or.inr (fun he => own_var h hv ht (e.trans he)))

theorem range_grown {W W' : World} {b q : Nat} {cs : List Value} (h : W.rangeAt b 0 cs) (hg : W.grownBy W' (some q)) (hne : b ≠ q) : W'.rangeAt b 0 cs := fun j v hv => hg.cell (h j v hv) (fun e => hne (Option.some.inj e))

/-- What stands behind a region, however its operations came, is asked once. -/
theorem join_gen {ι : Type} {P : Program} {md : Region.Mode} {ops : Array Oper} {Q : Exit → Act → World → Prop} {S : World → Prop} {n : Nat} {listed : Array Bool} {a : Act} {w : World}
    (Fr : ι → Act) (Ok : ι → World → Prop) (h2 : ∀ i we, Ok i we → Q .normal (Fr i) we) (h1 : Hid (∀ i we, Ok i we → Q .normal (Fr i) we) → wpAnyH P md ops Q S n listed a w) : wpAnyH P md ops Q S n listed a w := h1 h2

end Go.Proofs.YtdbgjgeglgipiaaGreat
