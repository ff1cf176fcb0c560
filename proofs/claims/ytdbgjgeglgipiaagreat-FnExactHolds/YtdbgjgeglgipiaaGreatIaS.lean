/-
  Rows of automata: how they read, how the laws measure and copy them (szIaS, toIaS). Conditions: as each statement says; lists no longer than slices may be.
-/
import Derived.Test.YtdbgjgeglgipiaaGreatIaLaw
namespace Go.Proofs.YtdbgjgeglgipiaaGreat
open Go.RowKit

/-- A row of automata. -/
def RowA (w : World) (a : Option Addr) (n : Nat) (L : List IaD) : Prop :=
  L.length = n ∧ (0 < n → ∃ b off, a = some ⟨b, off, none⟩ ∧ b < w.heap.size ∧ ∀ j x, L[j]? = some x → ∃ (a2 : Option Addr) (n2 c2 : Nat) (a3 : Option Addr) (n3 c3 : Nat) (a4 : Option Addr) (n4 c4 : Nat) (a5 : Option Addr) (n5 c5 : Nat),
    w.rangeAt b (off + j * 6) [.int .i64 x.states, .int .i64 x.init, .slice a2 n2 c2, .slice a3 n3 c3, .slice a4 n4 c4, .slice a5 n5 c5] ∧ IaRow w x (.agg #[.int .i64 x.states, .int .i64 x.init, .slice a2 n2 c2, .slice a3 n3 c3, .slice a4 n4 c4, .slice a5 n5 c5]))

theorem rangeAt_below {w w' : World} {b o : Nat} {cs : List Value} (h : w.rangeAt b o cs) (hlt : b < w.heap.size) (hb : Below w.heap.size w w') : w'.rangeAt b o cs := fun j v hv => (hb.cell (p := ⟨b, o + j, none⟩) hlt).trans (h j v hv)

theorem RowA.below {w w' : World} {a : Option Addr} {n : Nat} {L : List IaD} (h : RowA w a n L) (hb : Below w.heap.size w w') : RowA w' a n L := by
  refine ⟨h.1, fun hn => ?_⟩
  obtain ⟨b, off, e, hlt, hc⟩ := h.2 hn
  refine ⟨b, off, e, Nat.lt_of_lt_of_le hlt hb.size, fun j x hx => ?_⟩
  obtain ⟨a2, n2, c2, a3, n3, c3, a4, n4, c4, a5, n5, c5, hr, hi⟩ := hc j x hx
  exact ⟨a2, n2, c2, a3, n3, c3, a4, n4, c4, a5, n5, c5, rangeAt_below hr hlt hb, hi.below hb⟩

theorem rowA_parts {W : World} {x : IaD} {a2 : Option Addr} {n2 c2 : Nat} {a3 : Option Addr} {n3 c3 : Nat} {a4 : Option Addr} {n4 c4 : Nat} {a5 : Option Addr} {n5 c5 : Nat} (h : IaRow W x (.agg #[.int .i64 x.states, .int .i64 x.init, .slice a2 n2 c2, .slice a3 n3 c3, .slice a4 n4 c4, .slice a5 n5 c5])) : Row W a2 n2 x.ins ∧ Row W a3 n3 x.outs ∧ Row W a4 n4 x.hids ∧ RowS W a5 n5 x.steps := by
  obtain ⟨b2, m2, d2, b3, m3, d3, b4, m4, d4, b5, m5, d5, e, h2, h3, h4, h5⟩ := h
  simp only [Value.agg.injEq, Array.mk.injEq, List.cons.injEq, Value.slice.injEq, and_true, true_and] at e
  obtain ⟨⟨rfl, rfl, rfl⟩, ⟨rfl, rfl, rfl⟩, ⟨rfl, rfl, rfl⟩, rfl, rfl, rfl⟩ := e
  exact ⟨h2, h3, h4, h5⟩

/-- How many numbers and steps an automaton holds; a row of them. -/
def bulkOf (x : IaD) : Nat := x.ins.length + x.outs.length + x.hids.length + x.steps.length
def bulkS (L : List IaD) : Nat := (L.map bulkOf).sum

theorem bulkS_step (L : List IaD) (k : Nat) (hk : k < L.length) : bulkS (L.take (k + 1)) = bulkS (L.take k) + bulkOf L[k] := by
  unfold bulkS
  rw [List.take_succ_eq_append_getElem hk, List.map_append, List.sum_append]
  simp

theorem bulkS_le (L : List IaD) (k : Nat) : bulkS (L.take k) ≤ bulkS L := by
  have h : bulkS L = bulkS (L.take k) + bulkS (L.drop k) := by
    unfold bulkS
    rw [← List.sum_append, ← List.map_append, List.take_append_drop]
  omega

/-- No list of an automaton is longer than slices may be. -/
def ShortA (x : IaD) : Prop := x.ins.length ≤ maxLen ∧ x.outs.length ≤ maxLen ∧ x.hids.length ≤ maxLen ∧ x.steps.length ≤ maxLen

theorem IaAt.grownB {w w' : World} {base b : Nat} {a : IaD} {v : Value} (h : IaAt w base a v) (hg : w.grownBy w' (some b)) (hb : b < base) : IaAt w' base a v := by
  obtain ⟨g2, g3, g4, g5, e, l2, l3, l4, l5, o2, o3, o4, o5⟩ := h
  exact ⟨g2, g3, g4, g5, e, l2, l3, l4, l5, World.ownsRow.kept o2 hg (Or.inr (fun e => by have : g2 = b := Option.some.inj e; omega)), World.ownsRow.kept o3 hg (Or.inr (fun e => by have : g3 = b := Option.some.inj e; omega)), World.ownsRow.kept o4 hg (Or.inr (fun e => by have : g4 = b := Option.some.inj e; omega)), World.ownsRow.kept o5 hg (Or.inr (fun e => by have : g5 = b := Option.some.inj e; omega))⟩

theorem there_below {w w' : World} {b o n : Nat} (h : w.there b o n) (hlt : b < w.heap.size) (hb : Below w.heap.size w w') : w'.there b o n := fun j hj => by
  rw [hb.cell (p := ⟨b, o + j, none⟩) hlt, hb.frozen (p := ⟨b, o + j, none⟩) hlt]
  exact h j hj

theorem there_made {w : World} {base s g n c : Nat} {e : TypeId} {xs : List Value} (h : w.ownsRow base e s (.slice (some ⟨g, 0, none⟩) n c) n xs) (j : Nat) (hj : j < n) : w.there g (j * s) s := fun i hi => by
  have h1 : j * s + i < n * s := by
    have := Nat.mul_le_mul_right s (show j + 1 ≤ n by omega)
    rw [Nat.add_mul] at this
    omega
  refine ⟨?_, h.frozenAt _⟩
  rw [h.cellAt _ h1, List.getElem?_eq_getElem (by rw [h.1]; exact h1)]
  rfl

/-- A row of automata under way: the first 'k' are laid, each in memory behind the row's. -/
def RowPart (w : World) (g n k : Nat) (L : List IaD) : Prop :=
  g < w.heap.size ∧ (∀ j, j < n → w.there g (j * 6) 6) ∧ ∀ j x, j < k → L[j]? = some x → ∃ (a2 : Option Addr) (n2 c2 : Nat) (a3 : Option Addr) (n3 c3 : Nat) (a4 : Option Addr) (n4 c4 : Nat) (a5 : Option Addr) (n5 c5 : Nat),
    w.rangeAt g (j * 6) [.int .i64 x.states, .int .i64 x.init, .slice a2 n2 c2, .slice a3 n3 c3, .slice a4 n4 c4, .slice a5 n5 c5] ∧ IaAt w (g + 1) x (.agg #[.int .i64 x.states, .int .i64 x.init, .slice a2 n2 c2, .slice a3 n3 c3, .slice a4 n4 c4, .slice a5 n5 c5])

theorem RowPart.below {w w' : World} {g n k : Nat} {L : List IaD} (h : RowPart w g n k L) (hb : Below w.heap.size w w') : RowPart w' g n k L := by
  obtain ⟨h1, h2, h3⟩ := h
  refine ⟨Nat.lt_of_lt_of_le h1 hb.size, fun j hj => there_below (h2 j hj) h1 hb, fun j x hj hx => ?_⟩
  obtain ⟨a2, n2, c2, a3, n3, c3, a4, n4, c4, a5, n5, c5, hr, hi⟩ := h3 j x hj hx
  exact ⟨a2, n2, c2, a3, n3, c3, a4, n4, c4, a5, n5, c5, rangeAt_below hr h1 hb, hi.below hb⟩

theorem RowPart.stored {w : World} {g n k : Nat} {L : List IaD} (h : RowPart w g n k L) (hk : k < n) (x : IaD) (hx : L[k]? = some x) {a2 : Option Addr} {n2 c2 : Nat} {a3 : Option Addr} {n3 c3 : Nat} {a4 : Option Addr} {n4 c4 : Nat} {a5 : Option Addr} {n5 c5 : Nat}
    (hi : IaAt w (g + 1) x (.agg #[.int .i64 x.states, .int .i64 x.init, .slice a2 n2 c2, .slice a3 n3 c3, .slice a4 n4 c4, .slice a5 n5 c5])) :
    RowPart (w.setCells g (k * 6) [.int .i64 x.states, .int .i64 x.init, .slice a2 n2 c2, .slice a3 n3 c3, .slice a4 n4 c4, .slice a5 n5 c5]) g n (k + 1) L := by
  obtain ⟨h1, h2, h3⟩ := h
  have hg := grown_setCells g [.int .i64 x.states, .int .i64 x.init, .slice a2 n2 c2, .slice a3 n3 c3, .slice a4 n4 c4, .slice a5 n5 c5] (k * 6) w
  refine ⟨Nat.lt_of_lt_of_le h1 hg.size, fun j hj => World.there_setCells (h2 j hj) _ _ _, fun j y hj hy => ?_⟩
  by_cases e : j = k
  · subst e
    have e2 : x = y := Option.some.inj (hx.symm.trans hy)
    subst e2
    exact ⟨a2, n2, c2, a3, n3, c3, a4, n4, c4, a5, n5, c5, World.rangeAt_setCells_same _ _ _ _ (h2 j hk), hi.grownB hg (by omega)⟩
  · obtain ⟨b2, m2, d2, b3, m3, d3, b4, m4, d4, b5, m5, d5, hr, hq⟩ := h3 j y (by omega) hy
    exact ⟨b2, m2, d2, b3, m3, d3, b4, m4, d4, b5, m5, d5, World.rangeAt_setCells_apart hr _ _ _ (Or.inr (Or.inl (by simp; omega))), hq.grownB hg (by omega)⟩

theorem RowPart.row {w : World} {g n : Nat} {L : List IaD} (h : RowPart w g n n L) (hl : L.length = n) : RowA w (some ⟨g, 0, none⟩) n L := by
  obtain ⟨h1, _, h3⟩ := h
  refine ⟨hl, fun _ => ⟨g, 0, rfl, h1, fun j x hx => ?_⟩⟩
  have hj : j < L.length := (List.getElem?_eq_some_iff.1 hx).1
  obtain ⟨a2, n2, c2, a3, n3, c3, a4, n4, c4, a5, n5, c5, hr, hi⟩ := h3 j x (by omega) hx
  exact ⟨a2, n2, c2, a3, n3, c3, a4, n4, c4, a5, n5, c5, by rw [Nat.zero_add]; exact hr, hi.row⟩

theorem six_one (st it : Int) (a2 : Option Addr) (n2 c2 : Nat) (a3 : Option Addr) (n3 c3 : Nat) (a4 : Option Addr) (n4 c4 : Nat) (a5 : Option Addr) (n5 c5 : Nat) : (#[.int .i64 st, .int .i64 it, .slice a2 n2 c2, .slice a3 n3 c3, .slice a4 n4 c4, .slice a5 n5 c5] : Array Value).all (·.oneCell') = true :=
  all_oneCell_toArray (fun u hu => by
    simp only [List.mem_cons, List.not_mem_nil, or_false] at hu
    rcases hu with rfl | rfl | rfl | rfl | rfl | rfl <;> rfl)

end Go.Proofs.YtdbgjgeglgipiaaGreat
