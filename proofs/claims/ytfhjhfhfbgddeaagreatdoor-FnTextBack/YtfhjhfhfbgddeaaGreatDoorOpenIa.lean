/-
  An automaton that came in as an argument (a struct of two ints, three slices of ints and a slice of steps), opened to its cells. Conditions: the types are as the premises say; nothing here speaks of the program.
-/
import Derived.Test.YtfhjhfhfbgddeaaGreatDoorSteps
import Derived.Deep.Slices
import Derived.Deep.Fields
import Derived.ChangeSame
import Derived.OpenShut
namespace Go.Proofs.YtfhjhfhfbgddeaaGreatDoor
open Go.RowKit Go.ChangeShapes Go.WideShapes Go.Deep

/-- What a walk is told of a slice of steps that came in. -/
def IsRowS (w : World) (a : Option Addr) (len cap : Nat) (ss : List St) : Prop :=
  (a = none ∧ len = 0 ∧ cap = 0 ∧ ss = []) ∨
  ∃ x, a = some x ∧ len ≤ cap ∧ cap ≤ maxLen ∧ ss.length = cap ∧ (∀ j s, ss[j]? = some s → w.cell? (x.add (j * 3)) = some (.int .i64 s.1) ∧ w.cell? (x.add (j * 3 + 1)) = some (.int .i64 s.2.1) ∧ w.cell? (x.add (j * 3 + 2)) = some (.int .i64 s.2.2)) ∧
    ∀ s ∈ ss, (Lit.int .i64 s.1).wf = true ∧ (Lit.int .i64 s.2.1).wf = true ∧ (Lit.int .i64 s.2.2).wf = true

theorem IsRowS.row {w : World} {a : Option Addr} {len cap : Nat} {ss : List St} (h : IsRowS w a len cap ss) : RowS w a len (ss.take len) := by
  rcases h with ⟨rfl, rfl, rfl, rfl⟩ | ⟨x, rfl, hl, hm, hz, hcell, hwz⟩
  · exact ⟨rfl, fun h => absurd h (by omega)⟩
  · refine ⟨by simp; omega, fun h0 => ?_⟩
    obtain ⟨b, off, spot⟩ := x
    have hc := (hcell 0 _ (List.getElem?_eq_getElem (by omega))).1
    have hspot : spot = none := by simpa [Addr.add] using World.cell?_spot hc
    subst hspot
    refine ⟨b, off, rfl, ?_, fun j s hs => ?_⟩
    · have := World.block_lt_of_cell? w _ hc
      simpa [Addr.add] using this
    · rw [List.getElem?_take] at hs
      split at hs
      · obtain ⟨c0, c1, c2⟩ := hcell j s hs
        rw [add_lit] at c0 c1 c2
        exact ⟨c0, by rw [Nat.add_assoc]; exact c1, by rw [Nat.add_assoc]; exact c2⟩
      · simp at hs

section
variable {H : Type} {enc : TypeId × Value → H} {P : Program} {w : World} {base : Nat} {held : Bool}

theorem isRow_of {t e : TypeId} {n : Nat} {v : Value} {y : DataW H × List MemPlace} (ht : P.underlying t = some (.slice e)) (he : P.underlying e = some (.int .i64)) (hc : P.cellsOf e = 1)
    (h : DataW.trod enc P w base (fun _ => true) held n t [v] = some y) : ∃ a len cap zs, v = .slice a len cap ∧ IsRow .i64 w a len cap zs := by
  rcases open_ints ht he hc h with ⟨hcs, _⟩ | ⟨x, l, c, zs, hcs, _, hl, hm, hz, _, hcell, hwz⟩
  · simp at hcs
    exact ⟨_, _, _, [], hcs, .inl ⟨rfl, rfl, rfl, rfl⟩⟩
  · simp at hcs
    exact ⟨_, _, _, zs, hcs, .inr ⟨_, rfl, hl, hm, by simpa using hz, hcell, hwz⟩⟩

/-- One step, from its cells. -/
theorem step_of {e : TypeId} {g0 g1 g2 : Field} {n : Nat} {cs : List Value} {x : DataW H × List MemPlace} (he : P.underlying e = some (.struct #[g0, g1, g2])) (oe : oneCellFields P #[g0, g1, g2] = true) (ce : P.cellsOf e = 3)
    (u0 : P.underlying g0.type = some (.int .i64)) (u1 : P.underlying g1.type = some (.int .i64)) (u2 : P.underlying g2.type = some (.int .i64)) (h : DataW.trod enc P w base (fun _ => true) held n e cs = some x) :
    ∃ s : St, cs = stCells s ∧ (Lit.int .i64 s.1).wf = true ∧ (Lit.int .i64 s.2.1).wf = true ∧ (Lit.int .i64 s.2.2).wf = true := by
  obtain ⟨xs, m, _, _, hl, hxl, hf⟩ := DataW.trod_struct he h
  rw [ce] at hl
  match cs, hl with
  | [v0, v1, v2], _ =>
    match xs, hxl with
    | [y0, y1, y2], _ =>
      obtain ⟨o0, k0⟩ := hone_of oe 0 g0 rfl
      obtain ⟨o1, k1⟩ := hone_of oe 1 g1 rfl
      obtain ⟨o2, k2⟩ := hone_of oe 2 g2 rfl
      have f0 := hf 0 g0 rfl
      have f1 := hf 1 g1 rfl
      have f2 := hf 2 g2 rfl
      simp [o0, k0] at f0
      simp [o1, k1] at f1
      simp [o2, k2] at f2
      obtain ⟨n0, e0, _, w0⟩ := DataW.trod_int u0 f0
      obtain ⟨n1, e1, _, w1⟩ := DataW.trod_int u1 f1
      obtain ⟨n2, e2, _, w2⟩ := DataW.trod_int u2 f2
      simp at e0 e1 e2
      subst e0 e1 e2
      exact ⟨(n0, n1, n2), rfl, w0, w1, w2⟩

theorem isRowS_of {t e : TypeId} {g0 g1 g2 : Field} {n : Nat} {v : Value} {y : DataW H × List MemPlace} (ht : P.underlying t = some (.slice e)) (he : P.underlying e = some (.struct #[g0, g1, g2])) (oe : oneCellFields P #[g0, g1, g2] = true) (ce : P.cellsOf e = 3)
    (u0 : P.underlying g0.type = some (.int .i64)) (u1 : P.underlying g1.type = some (.int .i64)) (u2 : P.underlying g2.type = some (.int .i64))
    (h : DataW.trod enc P w base (fun _ => true) held n t [v] = some y) : ∃ a len cap ss, v = .slice a len cap ∧ IsRowS w a len cap ss := by
  rcases open_slice ht h with ⟨hcs, _⟩ | ⟨a, len, cap, m, k, D, Pl, hcs, hb, hl, hm, hmm, _, hx⟩
  · simp at hcs
    exact ⟨_, _, _, [], hcs, .inl ⟨rfl, rfl, rfl, rfl⟩⟩
  · simp at hcs
    obtain rfl : m = cap := by simpa using hmm
    have each : ∀ i, i < m → ∃ s : St, (w.cell? (a.add (i * 3)) = some (.int .i64 s.1) ∧ w.cell? (a.add (i * 3 + 1)) = some (.int .i64 s.2.1) ∧ w.cell? (a.add (i * 3 + 2)) = some (.int .i64 s.2.2)) ∧ (Lit.int .i64 s.1).wf = true ∧ (Lit.int .i64 s.2.1).wf = true ∧ (Lit.int .i64 s.2.2).wf = true := by
      intro i hi
      obtain ⟨cs', h1, h2⟩ := hx i hi
      obtain ⟨s, rfl, w0, w1, w2⟩ := step_of he oe ce u0 u1 u2 h2
      rw [ce] at h1
      obtain ⟨_, _, hcell⟩ := World.cells?_some h1
      have e0 := hcell 0 (by omega)
      have e1 := hcell 1 (by omega)
      have e2 := hcell 2 (by omega)
      rw [add_add] at e0 e1 e2
      exact ⟨s, ⟨by simpa [stCells] using e0, by simpa [stCells] using e1, by simpa [stCells] using e2⟩, w0, w1, w2⟩
    obtain ⟨q, hq⟩ := choose_lt each
    refine ⟨_, _, _, (List.range m).map q, hcs, .inr ⟨a, rfl, hl, hm, by simp, fun j s hs => ?_, fun s hs => ?_⟩⟩
    · rw [List.getElem?_map] at hs
      obtain ⟨j', hj', rfl⟩ := Option.map_eq_some_iff.1 hs
      obtain ⟨hlt, rfl⟩ := List.getElem?_eq_some_iff.1 hj'
      simp at hlt
      simpa using (hq j hlt).1
    · obtain ⟨j, hj, rfl⟩ := List.mem_map.1 hs
      exact (hq j (List.mem_range.1 hj)).2

theorem open_ia {r : Reach} {b0 : Nat} {t ti te : TypeId} {f0 f1 f2 f3 f4 f5 g0 g1 g2 : Field} {v : Value} {d : DataW H} {p : List MemPlace}
    (hs : P.underlying t = some (.struct #[f0, f1, f2, f3, f4, f5])) (hone : oneCellFields P #[f0, f1, f2, f3, f4, f5] = true) (hC : P.cellsOf t = 6)
    (u0 : P.underlying f0.type = some (.int .i64)) (u1 : P.underlying f1.type = some (.int .i64)) (u2 : P.underlying f2.type = some (.slice ti)) (u3 : P.underlying f3.type = some (.slice ti)) (u4 : P.underlying f4.type = some (.slice ti))
    (ui : P.underlying ti = some (.int .i64)) (ci : P.cellsOf ti = 1) (u5 : P.underlying f5.type = some (.slice te)) (ue : P.underlying te = some (.struct #[g0, g1, g2])) (oe : oneCellFields P #[g0, g1, g2] = true) (ce : P.cellsOf te = 3)
    (v0 : P.underlying g0.type = some (.int .i64)) (v1 : P.underlying g1.type = some (.int .i64)) (v2 : P.underlying g2.type = some (.int .i64))
    (hv : Value.okWide P w r b0 t v) (h : DataW.Trod enc P w base (fun _ => true) held t v d p) :
    ∃ (st it : Int) (a2 : Option Addr) (l2 c2 : Nat) (z2 : List Int) (a3 : Option Addr) (l3 c3 : Nat) (z3 : List Int) (a4 : Option Addr) (l4 c4 : Nat) (z4 : List Int) (a5 : Option Addr) (l5 c5 : Nat) (z5 : List St),
      v = .agg #[.int .i64 st, .int .i64 it, .slice a2 l2 c2, .slice a3 l3 c3, .slice a4 l4 c4, .slice a5 l5 c5] ∧ (Lit.int .i64 st).wf = true ∧ (Lit.int .i64 it).wf = true ∧
      IsRow .i64 w a2 l2 c2 z2 ∧ IsRow .i64 w a3 l3 c3 z3 ∧ IsRow .i64 w a4 l4 c4 z4 ∧ IsRowS w a5 l5 c5 z5 := by
  obtain ⟨cs, rfl, hsz⟩ := okWide_struct hs hv
  obtain ⟨l⟩ := cs
  match l, hsz.trans hC with
  | [x0, x1, x2, x3, x4, x5], _ =>
    obtain ⟨fuel, hf⟩ := h
    obtain ⟨xs, n, _, _, _, hlen, hg⟩ := DataW.trod_struct hs hf
    match xs, hlen with
    | [y0, y1, y2, y3, y4, y5], _ =>
      obtain ⟨o0, k0⟩ := hone_of hone 0 f0 rfl
      obtain ⟨o1, k1⟩ := hone_of hone 1 f1 rfl
      obtain ⟨o2, k2⟩ := hone_of hone 2 f2 rfl
      obtain ⟨o3, k3⟩ := hone_of hone 3 f3 rfl
      obtain ⟨o4, k4⟩ := hone_of hone 4 f4 rfl
      obtain ⟨o5, k5⟩ := hone_of hone 5 f5 rfl
      have q0 := hg 0 f0 rfl
      have q1 := hg 1 f1 rfl
      have q2 := hg 2 f2 rfl
      have q3 := hg 3 f3 rfl
      have q4 := hg 4 f4 rfl
      have q5 := hg 5 f5 rfl
      simp [Value.cells, o0, k0] at q0
      simp [Value.cells, o1, k1] at q1
      simp [Value.cells, o2, k2] at q2
      simp [Value.cells, o3, k3] at q3
      simp [Value.cells, o4, k4] at q4
      simp [Value.cells, o5, k5] at q5
      obtain ⟨n0, e0, _, w0⟩ := DataW.trod_int u0 q0
      obtain ⟨n1, e1, _, w1⟩ := DataW.trod_int u1 q1
      simp at e0 e1
      obtain ⟨a2, l2, c2, z2, rfl, r2⟩ := isRow_of u2 ui ci q2
      obtain ⟨a3, l3, c3, z3, rfl, r3⟩ := isRow_of u3 ui ci q3
      obtain ⟨a4, l4, c4, z4, rfl, r4⟩ := isRow_of u4 ui ci q4
      obtain ⟨a5, l5, c5, z5, rfl, r5⟩ := isRowS_of u5 ue oe ce v0 v1 v2 q5
      subst e0 e1
      exact ⟨n0, n1, a2, l2, c2, z2, a3, l3, c3, z3, a4, l4, c4, z4, a5, l5, c5, z5, rfl, w0, w1, r2, r3, r4, r5⟩
end

end Go.Proofs.YtfhjhfhfbgddeaaGreatDoor
