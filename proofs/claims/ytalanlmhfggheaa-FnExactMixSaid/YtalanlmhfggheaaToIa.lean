/-
  The contract of the laws' toIa: a copy of an automaton in four new blocks. Conditions: the slices read as lists of at most 2^40 elements.
-/
import Derived.Test.YtalanlmhfggheaaToStep
namespace Go.Proofs.Ytalanlmhfggheaa
open Go.RowKit

/-- The slices of an automaton's value read as an automaton's lists. -/
def IaRow (w : World) (a : IaD) (v : Value) : Prop :=
  ∃ (a2 : Option Addr) (n2 c2 : Nat) (a3 : Option Addr) (n3 c3 : Nat) (a4 : Option Addr) (n4 c4 : Nat) (a5 : Option Addr) (n5 c5 : Nat),
    v = .agg #[.int .i64 a.states, .int .i64 a.init, .slice a2 n2 c2, .slice a3 n3 c3, .slice a4 n4 c4, .slice a5 n5 c5] ∧ Row w a2 n2 a.ins ∧ Row w a3 n3 a.outs ∧ Row w a4 n4 a.hids ∧ RowS w a5 n5 a.steps

def IaFits (a : IaD) : Prop := a.ins.length ≤ 1099511627776 ∧ a.outs.length ≤ 1099511627776 ∧ a.hids.length ≤ 1099511627776 ∧ a.steps.length ≤ 1099511627776

/-- A copy of an automaton: four new blocks, one behind the other. -/
def IaAt (w : World) (base : Nat) (a : IaD) (v : Value) : Prop :=
  ∃ g2 g3 g4 g5 : Nat, v = .agg #[.int .i64 a.states, .int .i64 a.init, .slice (some ⟨g2, 0, none⟩) a.ins.length a.ins.length, .slice (some ⟨g3, 0, none⟩) a.outs.length a.outs.length, .slice (some ⟨g4, 0, none⟩) a.hids.length a.hids.length, .slice (some ⟨g5, 0, none⟩) a.steps.length a.steps.length] ∧
    base ≤ g2 ∧ g2 < g3 ∧ g3 < g4 ∧ g4 < g5 ∧
    Owns w base (.slice (some ⟨g2, 0, none⟩) a.ins.length a.ins.length) a.ins.length a.ins ∧ Owns w base (.slice (some ⟨g3, 0, none⟩) a.outs.length a.outs.length) a.outs.length a.outs ∧ Owns w base (.slice (some ⟨g4, 0, none⟩) a.hids.length a.hids.length) a.hids.length a.hids ∧
    OwnsS 60 w base (.slice (some ⟨g5, 0, none⟩) a.steps.length a.steps.length) a.steps.length a.steps

/-- A variable of the call's own: block 'b' holds the cells 'C'. -/
def VarIs (w : World) (b : Nat) (C : Array Value) (t : TypeId) : Prop := w.heap[b]? = some (.cells C t (0, 0))

theorem VarIs.lt {w : World} {b : Nat} {C : Array Value} {t : TypeId} (h : VarIs w b C t) : b < w.heap.size := (Array.getElem?_eq_some_iff.1 h).1

theorem VarIs.below {w w' : World} {b : Nat} {C : Array Value} {t : TypeId} (h : VarIs w b C t) (hb : Below w.heap.size w w') : VarIs w' b C t := (hb.block b h.lt).trans h

theorem VarIs.cell {w : World} {b : Nat} {C : Array Value} {t : TypeId} (h : VarIs w b C t) {j : Nat} {u : Value} (hu : C[j]? = some u) : w.cell? ⟨b, j, none⟩ = some u := (cell_of_row w b j C t (0, 0) h).trans hu

theorem VarIs.frozen {w : World} {b : Nat} {C : Array Value} {t : TypeId} (h : VarIs w b C t) (j : Nat) : w.frozen? ⟨b, j, none⟩ = false := frozen_of_row w b j C t h

theorem VarIs.set {w : World} {b : Nat} {C : Array Value} {t : TypeId} (h : VarIs w b C t) (j : Nat) (u : Value) : VarIs (w.setCell ⟨b, j, none⟩ u) b (C.setIfInBounds j u) t := heap_setCell_same w b j C t u h

theorem VarIs.other {w : World} {b : Nat} {C : Array Value} {t : TypeId} (h : VarIs w b C t) {g j : Nat} (hg : b ≠ g) (u : Value) : VarIs (w.setCell ⟨g, j, none⟩ u) b C t := (heap_setCell_other w ⟨g, j, none⟩ b u hg).trans h

theorem VarIs.new (w : World) (C : Array Value) (t : TypeId) {b : Nat} (hb : b = w.heap.size) : VarIs (w.alloc (.cells C t)) b C t := by subst hb; exact heap_alloc_new w _

theorem VarIs.alloc {w : World} {b : Nat} {C : Array Value} {t : TypeId} (h : VarIs w b C t) (o : Obj) : VarIs (w.alloc o) b C t := (Below.heap_alloc w o b h.lt).trans h

theorem below_set {B : Nat} {a w : World} (h : Below B a w) {g j : Nat} (hg : B ≤ g) (u : Value) : Below B a (w.setCell ⟨g, j, none⟩ u) := h.setCell hg u

theorem owns_set {w : World} {base n g c j b : Nat} {xs : List Int} (h : Owns w base (.slice (some ⟨g, 0, none⟩) n c) n xs) (hg : b ≠ g) (u : Value) : Owns (w.setCell ⟨b, j, none⟩ u) base (.slice (some ⟨g, 0, none⟩) n c) n xs :=
  h.keep (r := some b) ⟨rfl, rfl, rfl, by simp, fun k _ hk => heap_setCell_other w ⟨b, j, none⟩ k u (fun e => hk (by simp [e]))⟩ (fun k hk => by
    cases hk
    intro e
    exact hg (Option.some.inj e).symm)

theorem owns_other {w w' : World} {base n g c b : Nat} {xs : List Int} (h : Owns w base (.slice (some ⟨g, 0, none⟩) n c) n xs) (hw : w.grownBy w' (some b)) (hg : b ≠ g) : Owns w' base (.slice (some ⟨g, 0, none⟩) n c) n xs :=
  h.keep hw (fun k hk => by
    cases hk
    intro e
    exact hg (Option.some.inj e).symm)

theorem ownsS_other {e : TypeId} {w w' : World} {base n g c b : Nat} {xs : List St} (h : OwnsS e w base (.slice (some ⟨g, 0, none⟩) n c) n xs) (hw : w.grownBy w' (some b)) (hg : b ≠ g) : OwnsS e w' base (.slice (some ⟨g, 0, none⟩) n c) n xs :=
  h.keep hw (fun k hk => by
    cases hk
    intro e
    exact hg (Option.some.inj e).symm)

theorem ownsS_set {e : TypeId} {w : World} {base n g c j b : Nat} {xs : List St} (h : OwnsS e w base (.slice (some ⟨g, 0, none⟩) n c) n xs) (hg : b ≠ g) (u : Value) : OwnsS e (w.setCell ⟨b, j, none⟩ u) base (.slice (some ⟨g, 0, none⟩) n c) n xs :=
  h.keep (r := some b) ⟨rfl, rfl, rfl, by simp, fun k _ hk => heap_setCell_other w ⟨b, j, none⟩ k u (fun e => hk (by simp [e]))⟩ (fun k hk => by
    cases hk
    intro e
    exact hg (Option.some.inj e).symm)

theorem grown_setCells (b : Nat) : ∀ (vs : List Value) (o : Nat) (w : World), w.grownBy (w.setCells b o vs) (some b)
  | [], _, w => ⟨rfl, rfl, rfl, Nat.le_refl _, fun _ _ _ => rfl⟩
  | v :: r, o, w => by
    rw [World.setCells]
    refine grownBy_trans (b := w.setCell ⟨b, o, none⟩ v) ⟨rfl, rfl, rfl, by simp, fun k _ hk => heap_setCell_other w ⟨b, o, none⟩ k v (fun e => hk (by simp [e]))⟩ (grown_setCells b r (o + 1) _)

theorem VarIs.range {w : World} {b : Nat} {C : Array Value} {t : TypeId} (h : VarIs w b C t) : w.rangeAt b 0 C.toList := fun j v hv => by
  rw [Nat.zero_add]
  exact h.cell (by simpa using hv)

theorem VarIs.there {w : World} {b : Nat} {C : Array Value} {t : TypeId} (h : VarIs w b C t) {n : Nat} (hn : n = C.size) : w.there b 0 n := fun j hj => by
  rw [Nat.zero_add]
  refine ⟨?_, h.frozen j⟩
  rw [h.cell (Array.getElem?_eq_getElem (by omega))]
  rfl

set_option maxRecDepth 20000 in
set_option maxHeartbeats 1600000 in
theorem toIa_any (a : IaD) (v : Value) (w : World) (h : IaRow w a v) (hf : IaFits a) :
    Calls Try.prog 8 #[v] w fun e w' => ∃ v', e = .returned v' ∧ IaAt w' w.heap.size a v' ∧ Below w.heap.size w w' := by
  obtain ⟨a2, n2, c2, a3, n3, c3, a4, n4, c4, a5, n5, c5, rfl, r2, r3, r4, r5⟩ := h
  obtain ⟨st, it, ins, outs, hids, steps⟩ := a
  obtain ⟨f2, f3, f4, f5⟩ := hf
  simp only at r2 r3 r4 r5 f2 f3 f4 f5
  have hl2 := r2.1
  have hl3 := r3.1
  have hl4 := r4.1
  have hl5 := r5.1
  subst hl2 hl3 hl4 hl5
  have R2 := Lib.hid r2
  have R3 := Lib.hid r3
  have R4 := Lib.hid r4
  have R5 := Lib.hid r5
  clear r2 r3 r4 r5
  go_enter Try.func8, Try.ntmps8
  go_wp2_with fail
  refine (toIntS_any a2 ins.length c2 ins _ (R2.out.below ?_) f2).mono ?_
  · exact (((Below.refl _ _).alloc (Nat.le_refl _) _).alloc (by simp) _).alloc (by simp; omega) _
  rintro e w1 ⟨rfl, ho2, hb2⟩
  have V1 : Hid (VarIs w1 (w.heap.size + 1 + 1) #[.int .i64 st, .int .i64 it, .slice none 0 0, .slice none 0 0, .slice none 0 0, .slice none 0 0] 30) := (VarIs.new _ _ _ (by simp)).below hb2
  have P1 : Hid (VarIs w1 w.heap.size #[.int .i64 st, .int .i64 it, .slice a2 ins.length c2, .slice a3 outs.length c3, .slice a4 hids.length c4, .slice a5 steps.length c5] 25) := (((VarIs.new w _ _ rfl).alloc _).alloc _).below hb2
  have R1v : Hid (VarIs w1 (w.heap.size + 1) #[.int .i64 0, .int .i64 0, .slice none 0 0, .slice none 0 0, .slice none 0 0, .slice none 0 0] 30) := ((VarIs.new _ _ _ (by simp)).alloc _).below hb2
  have B1 : Hid (Below w.heap.size w w1) := by
    refine Below.trans ?_ (hb2.mono (by simp; omega))
    exact (((Below.refl _ _).alloc (Nat.le_refl _) _).alloc (by simp) _).alloc (by simp; omega) _
  have s1 : w1.heap.size ≥ w.heap.size + 1 + 1 + 1 + 1 := by
    have := (ho2.lt _ rfl).2
    simp at this
    omega
  have O2 : Hid (Owns w1 w.heap.size (.slice (some ⟨w.heap.size + 1 + 1 + 1, 0, none⟩) ins.length ins.length) ins.length ins) := by
    have := ho2.mono (base := w.heap.size) (by simp; omega)
    simpa [Hid] using this
  clear ho2 hb2
  have k1 := V1.out.cell (j := 2) rfl
  have k2 := V1.out.frozen 2
  have k3 : (w1.setCell ⟨w.heap.size + 1 + 1, 2, none⟩ (.slice (some ⟨w.heap.size + 1 + 1 + 1, 0, none⟩) ins.length ins.length)).cell? ⟨w.heap.size, 3, none⟩ = some (.slice a3 outs.length c3) := (P1.out.other (by omega) _).cell rfl
  go_wp2_with fail
  refine (toIntS_any a3 outs.length c3 outs _ (R3.out.below (B1.out.setCell (by simp; omega) _)) f3).mono ?_
  rintro e w2 ⟨rfl, ho, hb⟩
  have hz : (w1.setCell ⟨w.heap.size + 1 + 1, 2, none⟩ (.slice (some ⟨w.heap.size + 1 + 1 + 1, 0, none⟩) ins.length ins.length)).heap.size = w1.heap.size := by simp
  have s2 : w2.heap.size ≥ w1.heap.size + 1 := by
    have := (ho.lt _ rfl).2
    simp at this
    omega
  have V2 : Hid (VarIs w2 (w.heap.size + 1 + 1) #[.int .i64 st, .int .i64 it, .slice (some ⟨w.heap.size + 1 + 1 + 1, 0, none⟩) ins.length ins.length, .slice none 0 0, .slice none 0 0, .slice none 0 0] 30) := (V1.out.set 2 (.slice (some ⟨w.heap.size + 1 + 1 + 1, 0, none⟩) ins.length ins.length)).below hb
  have P2 : Hid (VarIs w2 w.heap.size #[.int .i64 st, .int .i64 it, .slice a2 ins.length c2, .slice a3 outs.length c3, .slice a4 hids.length c4, .slice a5 steps.length c5] 25) := (P1.out.other (by omega) _).below hb
  have R2v : Hid (VarIs w2 (w.heap.size + 1) #[.int .i64 0, .int .i64 0, .slice none 0 0, .slice none 0 0, .slice none 0 0, .slice none 0 0] 30) := (R1v.out.other (by omega) _).below hb
  have B2 : Hid (Below w.heap.size w w2) := (B1.out.setCell (p := ⟨w.heap.size + 1 + 1, 2, none⟩) (by simp; omega) _).trans (hb.mono (by rw [hz]; omega))
  have O2x : Hid (Owns w2 w.heap.size (.slice (some ⟨w.heap.size + 1 + 1 + 1, 0, none⟩) ins.length ins.length) ins.length ins) := (owns_set O2.out (by omega) _).below hb
  have O3x : Hid (Owns w2 w.heap.size (.slice (some ⟨w1.heap.size, 0, none⟩) outs.length outs.length) outs.length outs) := by
    have := ho.mono (base := w.heap.size) (by rw [hz]; omega)
    rw [hz] at this
    exact this
  clear ho hb k1 k2 k3 hz
  have k1 := V2.out.cell (j := 3) rfl
  have k2 := V2.out.frozen 3
  have k3 : (w2.setCell ⟨w.heap.size + 1 + 1, 3, none⟩ (.slice (some ⟨w1.heap.size, 0, none⟩) outs.length outs.length)).cell? ⟨w.heap.size, 4, none⟩ = some (.slice a4 hids.length c4) := (P2.out.other (by omega) _).cell rfl
  go_wp2_with fail
  refine (toIntS_any a4 hids.length c4 hids _ (R4.out.below (B2.out.setCell (by simp; omega) _)) f4).mono ?_
  rintro e w3 ⟨rfl, ho, hb⟩
  have hz : (w2.setCell ⟨w.heap.size + 1 + 1, 3, none⟩ (.slice (some ⟨w1.heap.size, 0, none⟩) outs.length outs.length)).heap.size = w2.heap.size := by simp
  have s3 : w3.heap.size ≥ w2.heap.size + 1 := by
    have := (ho.lt _ rfl).2
    simp at this
    omega
  have V3 : Hid (VarIs w3 (w.heap.size + 1 + 1) #[.int .i64 st, .int .i64 it, .slice (some ⟨w.heap.size + 1 + 1 + 1, 0, none⟩) ins.length ins.length, .slice (some ⟨w1.heap.size, 0, none⟩) outs.length outs.length, .slice none 0 0, .slice none 0 0] 30) := (V2.out.set 3 (.slice (some ⟨w1.heap.size, 0, none⟩) outs.length outs.length)).below hb
  have P3 : Hid (VarIs w3 w.heap.size #[.int .i64 st, .int .i64 it, .slice a2 ins.length c2, .slice a3 outs.length c3, .slice a4 hids.length c4, .slice a5 steps.length c5] 25) := (P2.out.other (by omega) _).below hb
  have R3v : Hid (VarIs w3 (w.heap.size + 1) #[.int .i64 0, .int .i64 0, .slice none 0 0, .slice none 0 0, .slice none 0 0, .slice none 0 0] 30) := (R2v.out.other (by omega) _).below hb
  have B3 : Hid (Below w.heap.size w w3) := (B2.out.setCell (p := ⟨w.heap.size + 1 + 1, 3, none⟩) (by simp; omega) _).trans (hb.mono (by rw [hz]; omega))
  have O2xx : Hid (Owns w3 w.heap.size (.slice (some ⟨w.heap.size + 1 + 1 + 1, 0, none⟩) ins.length ins.length) ins.length ins) := (owns_set O2x.out (by omega) _).below hb
  have O3xx : Hid (Owns w3 w.heap.size (.slice (some ⟨w1.heap.size, 0, none⟩) outs.length outs.length) outs.length outs) := (owns_set O3x.out (by omega) _).below hb
  have O4xx : Hid (Owns w3 w.heap.size (.slice (some ⟨w2.heap.size, 0, none⟩) hids.length hids.length) hids.length hids) := by
    have := ho.mono (base := w.heap.size) (by rw [hz]; omega)
    rw [hz] at this
    exact this
  clear ho hb k1 k2 k3 hz
  have k1 := V3.out.cell (j := 4) rfl
  have k2 := V3.out.frozen 4
  have k3 : (w3.setCell ⟨w.heap.size + 1 + 1, 4, none⟩ (.slice (some ⟨w2.heap.size, 0, none⟩) hids.length hids.length)).cell? ⟨w.heap.size, 5, none⟩ = some (.slice a5 steps.length c5) := (P3.out.other (by omega) _).cell rfl
  go_wp2_with fail
  refine (toStepS_any a5 steps.length c5 steps _ (R5.out.below (B3.out.setCell (by simp; omega) _)) f5).mono ?_
  rintro e w4 ⟨rfl, ho, hb⟩
  have hz : (w3.setCell ⟨w.heap.size + 1 + 1, 4, none⟩ (.slice (some ⟨w2.heap.size, 0, none⟩) hids.length hids.length)).heap.size = w3.heap.size := by simp
  have s4 : w4.heap.size ≥ w3.heap.size + 1 := by
    have := (ho.lt _ rfl).2
    simp at this
    omega
  have V4 : Hid (VarIs w4 (w.heap.size + 1 + 1) #[.int .i64 st, .int .i64 it, .slice (some ⟨w.heap.size + 1 + 1 + 1, 0, none⟩) ins.length ins.length, .slice (some ⟨w1.heap.size, 0, none⟩) outs.length outs.length, .slice (some ⟨w2.heap.size, 0, none⟩) hids.length hids.length, .slice none 0 0] 30) := (V3.out.set 4 (.slice (some ⟨w2.heap.size, 0, none⟩) hids.length hids.length)).below hb
  have P4 : Hid (VarIs w4 w.heap.size #[.int .i64 st, .int .i64 it, .slice a2 ins.length c2, .slice a3 outs.length c3, .slice a4 hids.length c4, .slice a5 steps.length c5] 25) := (P3.out.other (by omega) _).below hb
  have R4v : Hid (VarIs w4 (w.heap.size + 1) #[.int .i64 0, .int .i64 0, .slice none 0 0, .slice none 0 0, .slice none 0 0, .slice none 0 0] 30) := (R3v.out.other (by omega) _).below hb
  have B4 : Hid (Below w.heap.size w w4) := (B3.out.setCell (p := ⟨w.heap.size + 1 + 1, 4, none⟩) (by simp; omega) _).trans (hb.mono (by rw [hz]; omega))
  have O2xxx : Hid (Owns w4 w.heap.size (.slice (some ⟨w.heap.size + 1 + 1 + 1, 0, none⟩) ins.length ins.length) ins.length ins) := (owns_set O2xx.out (by omega) _).below hb
  have O3xxx : Hid (Owns w4 w.heap.size (.slice (some ⟨w1.heap.size, 0, none⟩) outs.length outs.length) outs.length outs) := (owns_set O3xx.out (by omega) _).below hb
  have O4xxx : Hid (Owns w4 w.heap.size (.slice (some ⟨w2.heap.size, 0, none⟩) hids.length hids.length) hids.length hids) := (owns_set O4xx.out (by omega) _).below hb
  have O5xxx : Hid (OwnsS 60 w4 w.heap.size (.slice (some ⟨w3.heap.size, 0, none⟩) steps.length steps.length) steps.length steps) := by
    have := ho.mono (base := w.heap.size) (by rw [hz]; omega)
    rw [hz] at this
    exact this
  clear ho hb k1 k2 k3 hz
  have k1 := V4.out.cell (j := 5) rfl
  have k2 := V4.out.frozen 5
  have V5 : Hid (VarIs (w4.setCell ⟨w.heap.size + 1 + 1, 5, none⟩ (.slice (some ⟨w3.heap.size, 0, none⟩) steps.length steps.length)) (w.heap.size + 1 + 1) #[.int .i64 st, .int .i64 it, .slice (some ⟨w.heap.size + 1 + 1 + 1, 0, none⟩) ins.length ins.length, .slice (some ⟨w1.heap.size, 0, none⟩) outs.length outs.length, .slice (some ⟨w2.heap.size, 0, none⟩) hids.length hids.length, .slice (some ⟨w3.heap.size, 0, none⟩) steps.length steps.length] 30) := V4.out.set 5 (.slice (some ⟨w3.heap.size, 0, none⟩) steps.length steps.length)
  have HR : Hid ((w4.setCell ⟨w.heap.size + 1 + 1, 5, none⟩ (.slice (some ⟨w3.heap.size, 0, none⟩) steps.length steps.length)).rangeAt (w.heap.size + 1 + 1) 0 [.int .i64 st, .int .i64 it, .slice (some ⟨w.heap.size + 1 + 1 + 1, 0, none⟩) ins.length ins.length, .slice (some ⟨w1.heap.size, 0, none⟩) outs.length outs.length, .slice (some ⟨w2.heap.size, 0, none⟩) hids.length hids.length, .slice (some ⟨w3.heap.size, 0, none⟩) steps.length steps.length]) := V5.out.range
  have R5v : Hid (VarIs (w4.setCell ⟨w.heap.size + 1 + 1, 5, none⟩ (.slice (some ⟨w3.heap.size, 0, none⟩) steps.length steps.length)) (w.heap.size + 1) #[.int .i64 0, .int .i64 0, .slice none 0 0, .slice none 0 0, .slice none 0 0, .slice none 0 0] 30) := R4v.out.other (by omega) _
  have HTH : Hid ((w4.setCell ⟨w.heap.size + 1 + 1, 5, none⟩ (.slice (some ⟨w3.heap.size, 0, none⟩) steps.length steps.length)).there (w.heap.size + 1) 0 6) := R5v.out.there rfl
  have H1 : Hid ((#[.int .i64 st, .int .i64 it, .slice (some ⟨w.heap.size + 1 + 1 + 1, 0, none⟩) ins.length ins.length, .slice (some ⟨w1.heap.size, 0, none⟩) outs.length outs.length, .slice (some ⟨w2.heap.size, 0, none⟩) hids.length hids.length, .slice (some ⟨w3.heap.size, 0, none⟩) steps.length steps.length] : Array Value).all (·.oneCell') = true) := all_oneCell_toArray (cs := [.int .i64 st, .int .i64 it, .slice (some ⟨w.heap.size + 1 + 1 + 1, 0, none⟩) ins.length ins.length, .slice (some ⟨w1.heap.size, 0, none⟩) outs.length outs.length, .slice (some ⟨w2.heap.size, 0, none⟩) hids.length hids.length, .slice (some ⟨w3.heap.size, 0, none⟩) steps.length steps.length]) (by
    intro v hv
    simp only [List.mem_cons, List.not_mem_nil, or_false] at hv
    rcases hv with rfl | rfl | rfl | rfl | rfl | rfl <;> rfl)
  have HF := Lib.hid (World.rangeAt_setCells_same _ (w.heap.size + 1) 0 [.int .i64 st, .int .i64 it, .slice (some ⟨w.heap.size + 1 + 1 + 1, 0, none⟩) ins.length ins.length, .slice (some ⟨w1.heap.size, 0, none⟩) outs.length outs.length, .slice (some ⟨w2.heap.size, 0, none⟩) hids.length hids.length, .slice (some ⟨w3.heap.size, 0, none⟩) steps.length steps.length] HTH.out)
  have B5 : Hid (Below w.heap.size w ((w4.setCell ⟨w.heap.size + 1 + 1, 5, none⟩ (.slice (some ⟨w3.heap.size, 0, none⟩) steps.length steps.length)).setCells (w.heap.size + 1) 0 [.int .i64 st, .int .i64 it, .slice (some ⟨w.heap.size + 1 + 1 + 1, 0, none⟩) ins.length ins.length, .slice (some ⟨w1.heap.size, 0, none⟩) outs.length outs.length, .slice (some ⟨w2.heap.size, 0, none⟩) hids.length hids.length, .slice (some ⟨w3.heap.size, 0, none⟩) steps.length steps.length])) := by
    have b4 := B4.out.setCell (p := ⟨w.heap.size + 1 + 1, 5, none⟩) (by simp; omega) (.slice (some ⟨w3.heap.size, 0, none⟩) steps.length steps.length)
    exact b4.grown (grown_setCells (w.heap.size + 1) _ 0 _) b4.size (fun k h => by cases h; omega)
  have O2z := Lib.hid (owns_other (owns_set (j := 5) O2xxx.out (b := w.heap.size + 1 + 1) (by omega) (.slice (some ⟨w3.heap.size, 0, none⟩) steps.length steps.length)) (grown_setCells (w.heap.size + 1) [.int .i64 st, .int .i64 it, .slice (some ⟨w.heap.size + 1 + 1 + 1, 0, none⟩) ins.length ins.length, .slice (some ⟨w1.heap.size, 0, none⟩) outs.length outs.length, .slice (some ⟨w2.heap.size, 0, none⟩) hids.length hids.length, .slice (some ⟨w3.heap.size, 0, none⟩) steps.length steps.length] 0 _) (by omega))
  have O3z := Lib.hid (owns_other (owns_set (j := 5) O3xxx.out (b := w.heap.size + 1 + 1) (by omega) (.slice (some ⟨w3.heap.size, 0, none⟩) steps.length steps.length)) (grown_setCells (w.heap.size + 1) [.int .i64 st, .int .i64 it, .slice (some ⟨w.heap.size + 1 + 1 + 1, 0, none⟩) ins.length ins.length, .slice (some ⟨w1.heap.size, 0, none⟩) outs.length outs.length, .slice (some ⟨w2.heap.size, 0, none⟩) hids.length hids.length, .slice (some ⟨w3.heap.size, 0, none⟩) steps.length steps.length] 0 _) (by omega))
  have O4z := Lib.hid (owns_other (owns_set (j := 5) O4xxx.out (b := w.heap.size + 1 + 1) (by omega) (.slice (some ⟨w3.heap.size, 0, none⟩) steps.length steps.length)) (grown_setCells (w.heap.size + 1) [.int .i64 st, .int .i64 it, .slice (some ⟨w.heap.size + 1 + 1 + 1, 0, none⟩) ins.length ins.length, .slice (some ⟨w1.heap.size, 0, none⟩) outs.length outs.length, .slice (some ⟨w2.heap.size, 0, none⟩) hids.length hids.length, .slice (some ⟨w3.heap.size, 0, none⟩) steps.length steps.length] 0 _) (by omega))
  have O5z := Lib.hid (ownsS_other (ownsS_set (j := 5) O5xxx.out (b := w.heap.size + 1 + 1) (by omega) (.slice (some ⟨w3.heap.size, 0, none⟩) steps.length steps.length)) (grown_setCells (w.heap.size + 1) [.int .i64 st, .int .i64 it, .slice (some ⟨w.heap.size + 1 + 1 + 1, 0, none⟩) ins.length ins.length, .slice (some ⟨w1.heap.size, 0, none⟩) outs.length outs.length, .slice (some ⟨w2.heap.size, 0, none⟩) hids.length hids.length, .slice (some ⟨w3.heap.size, 0, none⟩) steps.length steps.length] 0 _) (by omega))
  go_wp2_with (first | refine wpList_load_mid rfl _ _ rfl (w.heap.size + 1 + 1) 0 rfl [.int .i64 st, .int .i64 it, .slice (some ⟨w.heap.size + 1 + 1 + 1, 0, none⟩) ins.length ins.length, .slice (some ⟨w1.heap.size, 0, none⟩) outs.length outs.length, .slice (some ⟨w2.heap.size, 0, none⟩) hids.length hids.length, .slice (some ⟨w3.heap.size, 0, none⟩) steps.length steps.length] _ HR.out Try.underlying30 rfl (by kernel_rfl) ?_ | refine wpList_store_mid rfl _ _ _ rfl (w.heap.size + 1) 0 #[.int .i64 st, .int .i64 it, .slice (some ⟨w.heap.size + 1 + 1 + 1, 0, none⟩) ins.length ins.length, .slice (some ⟨w1.heap.size, 0, none⟩) outs.length outs.length, .slice (some ⟨w2.heap.size, 0, none⟩) hids.length hids.length, .slice (some ⟨w3.heap.size, 0, none⟩) steps.length steps.length] rfl rfl HTH.out (by kernel_rfl) H1.out ?_)
  refine bodyPost_ret (v := .agg #[.int .i64 st, .int .i64 it, .slice (some ⟨w.heap.size + 1 + 1 + 1, 0, none⟩) ins.length ins.length, .slice (some ⟨w1.heap.size, 0, none⟩) outs.length outs.length, .slice (some ⟨w2.heap.size, 0, none⟩) hids.length hids.length, .slice (some ⟨w3.heap.size, 0, none⟩) steps.length steps.length]) ?_ rfl ⟨_, rfl, ⟨_, _, _, _, rfl, by omega, by omega, by omega, by omega, O2z.out, O3z.out, O4z.out, O5z.out⟩, B5.out⟩
  have HC0 := HF.out 0 _ rfl
  have HC1 := HF.out 1 _ rfl
  have HC2 := HF.out 2 _ rfl
  have HC3 := HF.out 3 _ rfl
  have HC4 := HF.out 4 _ rfl
  have HC5 := HF.out 5 _ rfl
  simp only [Nat.zero_add] at HC0 HC1 HC2 HC3 HC4 HC5
  simp [results, Try.results8, go_sem, HC0, HC1, HC2, HC3, HC4, HC5]

end Go.Proofs.Ytalanlmhfggheaa
