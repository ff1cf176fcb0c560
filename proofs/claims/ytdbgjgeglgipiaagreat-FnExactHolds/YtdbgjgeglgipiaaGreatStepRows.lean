/-
  Steps in rows by their state: an array of forty rows of steps of the call's own, no two in one block. Conditions: none; nothing here speaks of the program.
-/
import Derived.Test.YtdbgjgeglgipiaaGreatIaLaw
import Derived.Test.YtdbgjgeglgipiaaGreatRegion
import Derived.Deep.AppendLies
namespace Go.Proofs.YtdbgjgeglgipiaaGreat
open Go.RowKit

/-- The steps from 's', in their order. -/
def rowL (ss : List St) (s : Int) : List St := ss.filter fun x => decide (x.1 = s)

theorem rowL_nil (s : Int) : rowL [] s = [] := rfl

theorem rowL_snoc_same (ss : List St) (x : St) (s : Int) (h : x.1 = s) : rowL (ss ++ [x]) s = rowL ss s ++ [x] := by simp [rowL, h]

theorem rowL_snoc_other (ss : List St) (x : St) (s : Int) (h : ¬ x.1 = s) : rowL (ss ++ [x]) s = rowL ss s := by simp [rowL, h]

theorem rowL_len (ss : List St) (s : Int) : (rowL ss s).length ≤ ss.length := List.length_filter_le _ _

/-- Forty rows: at each place the steps from it. -/
def RowsAt (w : World) (base : Nat) (C : Array Value) (ss : List St) : Prop :=
  C.size = 40 ∧ (∀ s : Nat, s < 40 → ∃ a c, C[s]? = some (.slice a (rowL ss s).length c) ∧ OwnsS 48 w base (.slice a (rowL ss s).length c) (rowL ss s).length (rowL ss s)) ∧
  ∀ (s t : Nat) (v u : Value) (b : Nat), s ≠ t → C[s]? = some v → C[t]? = some u → v.ownBlock = some b → u.ownBlock ≠ some b

theorem RowsAt.below {w w' : World} {base : Nat} {C : Array Value} {ss : List St} (h : RowsAt w base C ss) (hb : Below w.heap.size w w') : RowsAt w' base C ss :=
  ⟨h.1, fun s hs => by obtain ⟨a, c, e, o⟩ := h.2.1 s hs; exact ⟨a, c, e, o.below hb⟩, h.2.2⟩

theorem RowsAt.alloc {w : World} {base : Nat} {C : Array Value} {ss : List St} (h : RowsAt w base C ss) (o : Obj) : RowsAt (w.alloc o) base C ss :=
  h.below ((Below.refl _ _).alloc (Nat.le_refl _) _)

theorem RowsAt.drew {w : World} {base : Nat} {C : Array Value} {ss : List St} (h : RowsAt w base C ss) : RowsAt w.drew base C ss := h.below (Below.refl _ _).drew

theorem RowsAt.one {w : World} {base : Nat} {C : Array Value} {ss : List St} (h : RowsAt w base C ss) : ∀ u ∈ C, u.oneCell' = true := by
  intro u hu
  obtain ⟨s, hs, rfl⟩ := Array.mem_iff_getElem.1 hu
  obtain ⟨a, c, e, _⟩ := h.2.1 s (by rw [← h.1]; exact hs)
  rw [Array.getElem?_eq_getElem hs] at e
  rw [Option.some.inj e]
  rfl

theorem RowsAt.grown {w w' : World} {base r : Nat} {C : Array Value} {ss : List St} (h : RowsAt w base C ss) (hg : w.grownBy w' (some r)) (hr : r < base) : RowsAt w' base C ss :=
  ⟨h.1, fun s hs => by
    obtain ⟨a, c, e, o⟩ := h.2.1 s hs
    exact ⟨a, c, e, o.keep hg (fun k hk he => by have := (o.lt k hk).1; cases he; omega)⟩, h.2.2⟩

theorem RowsAt.mono {w : World} {base base' : Nat} {C : Array Value} {ss : List St} (h : RowsAt w base' C ss) (hb : base ≤ base') : RowsAt w base C ss :=
  ⟨h.1, fun s hs => by obtain ⟨a, c, e, o⟩ := h.2.1 s hs; exact ⟨a, c, e, o.mono hb⟩, h.2.2⟩

theorem RowsAt.start (w : World) (base : Nat) (C : Array Value) (hC : C = Array.replicate 40 (.slice none 0 0)) : RowsAt w base C [] := by
  subst hC
  refine ⟨by simp, fun s hs => ⟨none, 0, ?_, World.ownsRow_nil _ _ _ _⟩, fun s t v u b _ hv _ hb => ?_⟩
  · rw [Array.getElem?_replicate, if_pos hs]; rfl
  · rw [Array.getElem?_replicate] at hv
    split at hv
    · cases hv; cases hb
    · cases hv

/-- A step is put to its row: the row lies where it lay, or in a new block. -/
theorem RowsAt.put {w w' : World} {base R g cap H : Nat} {C : Array Value} {ss : List St} {x : St} {s : Nat} {a : Option Addr} {c : Nat} (h : RowsAt w base C ss) (hs : s < 40) (hx : x.1 = (s : Int))
    (hC : C[s]? = some (.slice a (rowL ss s).length c)) (hg : w.grownBy w' (Value.slice a (rowL ss s).length c).ownBlock) (hown : OwnsS 48 w' base (.slice (some ⟨g, 0, none⟩) ((rowL ss s).length + 1) cap) ((rowL ss s).length + 1) (rowL ss s ++ [x]))
    (hl : (Value.slice a (rowL ss s).length c).ownBlock = some g ∨ g = H) (hH : w.heap.size = H) (hR : R < base) :
    RowsAt (w'.setCell ⟨R, s, none⟩ (.slice (some ⟨g, 0, none⟩) ((rowL ss s).length + 1) cap)) base (C.setIfInBounds s (.slice (some ⟨g, 0, none⟩) ((rowL ss s).length + 1) cap)) (ss ++ [x]) := by
  obtain ⟨h1, h2, h3⟩ := h
  have set_keep : ∀ {v : Value} {n : Nat} {rr : List St}, OwnsS 48 w' base v n rr → OwnsS 48 (w'.setCell ⟨R, s, none⟩ (.slice (some ⟨g, 0, none⟩) ((rowL ss s).length + 1) cap)) base v n rr := fun {v n rr} ho =>
    ho.keep (r := some R) ⟨rfl, rfl, rfl, by simp, fun k _ hk => heap_setCell_other w' ⟨R, s, none⟩ k _ (fun e => hk (by simp [e]))⟩ (fun k hk e => by
      have := (ho.lt k hk).1
      cases e
      omega)
  have old_lt : ∀ (t : Nat) (u : Value) (b : Nat), C[t]? = some u → u.ownBlock = some b → b < H := fun t u b hu hb => by
    have ht : t < 40 := by rw [← h1]; exact (Array.getElem?_eq_some_iff.1 hu).1
    obtain ⟨a', c', e, o⟩ := h2 t ht
    rw [hu] at e
    cases e
    rw [← hH]
    exact (o.lt b hb).2
  refine ⟨by simp [h1], fun t ht => ?_, fun i j v u b hij hv hu hb => ?_⟩
  · by_cases e : t = s
    · subst e
      refine ⟨some ⟨g, 0, none⟩, cap, ?_, ?_⟩
      · rw [rowL_snoc_same ss x t hx, Array.getElem?_setIfInBounds, if_pos rfl, if_pos (by omega)]
        simp
      · rw [rowL_snoc_same ss x t hx]
        have := set_keep hown
        simpa using this
    · have hne : ¬ x.1 = (t : Int) := by omega
      obtain ⟨a', c', e', o'⟩ := h2 t ht
      refine ⟨a', c', ?_, ?_⟩
      · rw [rowL_snoc_other ss x t hne, Array.getElem?_setIfInBounds, if_neg (by omega)]
        exact e'
      · rw [rowL_snoc_other ss x t hne]
        refine set_keep (o'.keep hg (fun k hk he => ?_))
        exact h3 t s _ _ k e e' hC hk he.symm
  · rw [Array.getElem?_setIfInBounds] at hv hu
    by_cases ei : s = i
    · rw [if_pos ei] at hv
      rw [if_neg (by omega)] at hu
      split at hv
      · cases hv
        have hbg : g = b := by simpa [Value.ownBlock] using hb
        subst hbg
        intro hub
        rcases hl with hl | hl
        · exact h3 s j _ _ g (by omega) hC hu hl hub
        · have := old_lt j u g hu hub
          omega
      · cases hv
    · rw [if_neg ei] at hv
      by_cases ej : s = j
      · rw [if_pos ej] at hu
        split at hu
        · cases hu
          intro hub
          have hbg : g = b := by simpa [Value.ownBlock] using hub
          subst hbg
          rcases hl with hl | hl
          · exact h3 s i _ _ g (by omega) hC hv hl hb
          · have := old_lt i v g hv hb
            omega
        · cases hu
      · rw [if_neg ej] at hu
        exact h3 i j v u b hij hv hu hb

end Go.Proofs.YtdbgjgeglgipiaaGreat
