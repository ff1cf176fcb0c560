/-
  A row of automata that came in as an argument, opened to its cells. Conditions: the types are as the premises say; nothing here speaks of the program.
-/
import Derived.Test.YtdbgjgeglgipiaaIaS
namespace Go.Proofs.Ytdbgjgeglgipiaa
open Go.RowKit Go.ChangeShapes Go.WideShapes Go.Deep

/-- The six cells of an automaton that came in, and what it reads as. -/
def IaCells (w : World) (x : IaD) (cs : List Value) : Prop :=
  ∃ (a2 : Option Addr) (l2 c2 : Nat) (a3 : Option Addr) (l3 c3 : Nat) (a4 : Option Addr) (l4 c4 : Nat) (a5 : Option Addr) (l5 c5 : Nat),
    cs = [.int .i64 x.states, .int .i64 x.init, .slice a2 l2 c2, .slice a3 l3 c3, .slice a4 l4 c4, .slice a5 l5 c5] ∧ Row w a2 l2 x.ins ∧ Row w a3 l3 x.outs ∧ Row w a4 l4 x.hids ∧ RowS w a5 l5 x.steps ∧ ShortA x

section
variable {H : Type} {enc : TypeId × Value → H} {P : Program} {w : World} {base : Nat} {held : Bool}

theorem ia_of {t ti te : TypeId} {f0 f1 f2 f3 f4 f5 g0 g1 g2 : Field} {n : Nat} {cs : List Value} {x : DataW H × List MemPlace}
    (hs : P.underlying t = some (.struct #[f0, f1, f2, f3, f4, f5])) (hone : oneCellFields P #[f0, f1, f2, f3, f4, f5] = true) (hC : P.cellsOf t = 6)
    (u0 : P.underlying f0.type = some (.int .i64)) (u1 : P.underlying f1.type = some (.int .i64)) (u2 : P.underlying f2.type = some (.slice ti)) (u3 : P.underlying f3.type = some (.slice ti)) (u4 : P.underlying f4.type = some (.slice ti))
    (ui : P.underlying ti = some (.int .i64)) (ci : P.cellsOf ti = 1) (u5 : P.underlying f5.type = some (.slice te)) (ue : P.underlying te = some (.struct #[g0, g1, g2])) (oe : oneCellFields P #[g0, g1, g2] = true) (ce : P.cellsOf te = 3)
    (v0 : P.underlying g0.type = some (.int .i64)) (v1 : P.underlying g1.type = some (.int .i64)) (v2 : P.underlying g2.type = some (.int .i64))
    (h : DataW.trod enc P w base (fun _ => true) held n t cs = some x) : ∃ y : IaD, IaCells w y cs := by
  obtain ⟨xs, m, _, _, hl, hlen, hg⟩ := DataW.trod_struct hs h
  rw [hC] at hl
  match cs, hl with
  | [x0, x1, x2, x3, x4, x5], _ =>
    match xs, hlen with
    | [y0, y1, y2, y3, y4, y5], _ =>
      obtain ⟨o0, k0⟩ := hone_of hone 0 f0 rfl
      obtain ⟨o1, k1⟩ := hone_of hone 1 f1 rfl
      obtain ⟨o2, k2⟩ := hone_of hone 2 f2 rfl
      obtain ⟨o3, k3⟩ := hone_of hone 3 f3 rfl
      obtain ⟨o4, k4⟩ := hone_of hone 4 f4 rfl
      obtain ⟨o5, k5⟩ := hone_of hone 5 f5 rfl
      have q0 := hg 0 f0 rfl
      have q1 := hg 1 f1 rfl
      have q2 := hg 2 f2 rfl
      have q3 := hg 3 f3 rfl
      have q4 := hg 4 f4 rfl
      have q5 := hg 5 f5 rfl
      simp [o0, k0] at q0
      simp [o1, k1] at q1
      simp [o2, k2] at q2
      simp [o3, k3] at q3
      simp [o4, k4] at q4
      simp [o5, k5] at q5
      obtain ⟨n0, e0, _, w0⟩ := DataW.trod_int u0 q0
      obtain ⟨n1, e1, _, w1⟩ := DataW.trod_int u1 q1
      simp at e0 e1
      obtain ⟨a2, l2, c2, z2, rfl, r2⟩ := isRow_of u2 ui ci q2
      obtain ⟨a3, l3, c3, z3, rfl, r3⟩ := isRow_of u3 ui ci q3
      obtain ⟨a4, l4, c4, z4, rfl, r4⟩ := isRow_of u4 ui ci q4
      obtain ⟨a5, l5, c5, z5, rfl, r5⟩ := isRowS_of u5 ue oe ce v0 v1 v2 q5
      subst e0 e1
      have s2 := r2.row
      have s3 := r3.row
      have s4 := r4.row
      have s5 := r5.row
      exact ⟨⟨n0, n1, z2.take l2, z3.take l3, z4.take l4, z5.take l5⟩, a2, l2, c2, a3, l3, c3, a4, l4, c4, a5, l5, c5, rfl, s2, s3, s4, s5, by have := s2.1; have := r2.len1; simp only; omega, by have := s3.1; have := r3.len1; simp only; omega, by have := s4.1; have := r4.len1; simp only; omega, by have := s5.1; have := r5.len1; simp only; omega⟩

theorem rowA_of {t tt ti te : TypeId} {f0 f1 f2 f3 f4 f5 g0 g1 g2 : Field} {n : Nat} {v : Value} {y : DataW H × List MemPlace} (ht : P.underlying tt = some (.slice t))
    (hs : P.underlying t = some (.struct #[f0, f1, f2, f3, f4, f5])) (hone : oneCellFields P #[f0, f1, f2, f3, f4, f5] = true) (hC : P.cellsOf t = 6)
    (u0 : P.underlying f0.type = some (.int .i64)) (u1 : P.underlying f1.type = some (.int .i64)) (u2 : P.underlying f2.type = some (.slice ti)) (u3 : P.underlying f3.type = some (.slice ti)) (u4 : P.underlying f4.type = some (.slice ti))
    (ui : P.underlying ti = some (.int .i64)) (ci : P.cellsOf ti = 1) (u5 : P.underlying f5.type = some (.slice te)) (ue : P.underlying te = some (.struct #[g0, g1, g2])) (oe : oneCellFields P #[g0, g1, g2] = true) (ce : P.cellsOf te = 3)
    (v0 : P.underlying g0.type = some (.int .i64)) (v1 : P.underlying g1.type = some (.int .i64)) (v2 : P.underlying g2.type = some (.int .i64))
    (h : DataW.trod enc P w base (fun _ => true) held n tt [v] = some y) : ∃ a len cap L, v = .slice a len cap ∧ RowA w a len L ∧ len ≤ maxLen ∧ ∀ x ∈ L, ShortA x := by
  rcases open_slice ht h with ⟨hcs, _⟩ | ⟨a, len, cap, m, k, D, Pl, hcs, hb, hl, hm, hmm, _, hx⟩
  · simp at hcs
    exact ⟨_, _, _, [], hcs, ⟨rfl, fun h0 => absurd h0 (by omega)⟩, by unfold maxLen; omega, fun x hx => by cases hx⟩
  · simp at hcs
    obtain rfl : m = cap := by simpa using hmm
    have each : ∀ i, i < m → ∃ x : IaD, ∃ cs, IaCells w x cs ∧ ∀ q u, cs[q]? = some u → w.cell? (a.add (i * 6 + q)) = some u := by
      intro i hi
      obtain ⟨cs', h1, h2⟩ := hx i hi
      obtain ⟨x, hxc⟩ := ia_of hs hone hC u0 u1 u2 u3 u4 ui ci u5 ue oe ce v0 v1 v2 h2
      rw [hC] at h1
      refine ⟨x, cs', hxc, fun q u hq => ?_⟩
      obtain ⟨hlen, _, hcell⟩ := World.cells?_some h1
      obtain ⟨a2, l2, c2, a3, l3, c3, a4, l4, c4, a5, l5, c5, rfl, _⟩ := hxc
      have e0 := hcell q (by have := (List.getElem?_eq_some_iff.1 hq).1; simpa using this)
      rw [add_add] at e0
      rw [e0, hq]
    haveI : Inhabited IaD := ⟨⟨0, 0, [], [], [], []⟩⟩
    obtain ⟨q, hq⟩ := choose_lt each
    refine ⟨_, _, _, ((List.range m).map q).take len, hcs, ⟨by simp; omega, fun h0 => ?_⟩, Nat.le_trans hl hm, fun x hx => ?_⟩
    · obtain ⟨b, off, spot⟩ := a
      have h00 := hq 0 (by omega)
      obtain ⟨cs, ⟨a2, l2, c2, a3, l3, c3, a4, l4, c4, a5, l5, c5, rfl, _⟩, hcell⟩ := h00
      have hc := hcell 0 _ rfl
      have hspot : spot = none := by simpa [Addr.add] using World.cell?_spot hc
      subst hspot
      refine ⟨b, off, rfl, ?_, fun j x hx => ?_⟩
      · have := World.block_lt_of_cell? w _ hc
        simpa [Addr.add] using this
      · rw [List.getElem?_take] at hx
        split at hx
        · rw [List.getElem?_map] at hx
          obtain ⟨j', hj', rfl⟩ := Option.map_eq_some_iff.1 hx
          obtain ⟨hlt, rfl⟩ := List.getElem?_eq_some_iff.1 hj'
          simp at hlt
          obtain ⟨cs, ⟨a2, l2, c2, a3, l3, c3, a4, l4, c4, a5, l5, c5, rfl, r2, r3, r4, r5, _⟩, hcell⟩ := hq j hlt
          simp only [List.getElem_range] at *
          refine ⟨a2, l2, c2, a3, l3, c3, a4, l4, c4, a5, l5, c5, fun i u hu => ?_, ⟨a2, l2, c2, a3, l3, c3, a4, l4, c4, a5, l5, c5, rfl, r2, r3, r4, r5⟩⟩
          have := hcell i u hu
          rw [add_lit] at this
          rw [Nat.add_assoc]
          exact this
        · simp at hx
    · obtain ⟨j, hj, rfl⟩ := List.mem_map.1 (List.mem_of_mem_take hx)
      obtain ⟨cs, ⟨a2, l2, c2, a3, l3, c3, a4, l4, c4, a5, l5, c5, rfl, r2, r3, r4, r5, hsh⟩, _⟩ := hq j (List.mem_range.1 hj)
      exact hsh
end

end Go.Proofs.Ytdbgjgeglgipiaa
