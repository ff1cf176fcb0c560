import Derived.Test.YtdbgjgeglgipiaaGreatOpenIa
import Derived.Test.YtdbgjgeglgipiaaGreatIaDef
import Derived.Test.YtdbgjgeglgipiaaGreatBtw
import Derived.Deep.RegionHeld3
/-
  Contracts of the laws' helpers that copy steps and automata (toStep, toStepS, toIa). Conditions: the slices read as lists of at most 2^40 elements.
-/
namespace Go.Proofs.YtdbgjgeglgipiaaGreat
open Go.RowKit

theorem toStep_any (x y z : Int) (w : World) :
    Calls Tryz.prog 23 #[.agg #[.int .i64 x, .int .i64 y, .int .i64 z]] w fun e w' => e = .returned (.agg #[.int .i64 x, .int .i64 y, .int .i64 z]) ∧ Below w.heap.size w w' := by
  go_enter Tryz.func23, Tryz.ntmps23
  go_wp2
  refine bodyPost_ret (v := .agg #[.int .i64 x, .int .i64 y, .int .i64 z]) (by simp [results, Tryz.results23, go_sem]) rfl ⟨rfl, ?_⟩
  exact (((Below.refl _ _).alloc (Nat.le_refl _) _).alloc (by simp) _).alloc (by simp; omega) _

theorem step_one (x y z : Int) : (#[.int .i64 x, .int .i64 y, .int .i64 z] : Array Value).all (·.oneCell') = true := all_oneCell_toArray (flat_one [(x, y, z)])

theorem filled_step {α : Type} (xs : List α) (z : α) (n k : Nat) (hl : xs.length = n) (hk : k < xs.length) :
    (xs.take k ++ List.replicate (n - k) z).set k xs[k] = xs.take (k + 1) ++ List.replicate (n - (k + 1)) z := by
  have e1 : n - k = (n - (k + 1)) + 1 := by omega
  rw [e1, List.replicate_succ, List.set_append, if_neg (by simp; omega), List.take_succ_eq_append_getElem hk]
  have e2 : k - (xs.take k).length = 0 := by simp; omega
  rw [e2]
  simp only [List.set_cons_zero, List.append_assoc, List.cons_append, List.nil_append]

theorem made_flat (n : Nat) : (madeCells #[.int .i64 0, .int .i64 0, .int .i64 0] (n * 3)).toList = flat (List.replicate n ((0, 0, 0) : St)) := by
  apply List.ext_getElem?
  intro j
  by_cases hj : j < n * 3
  · have hq : j / 3 < n := by omega
    obtain ⟨f0, f1, f2⟩ := flat_at (List.replicate n ((0, 0, 0) : St)) (j / 3) (0, 0, 0) (by simp [hq])
    have hr : j = j / 3 * 3 ∨ j = j / 3 * 3 + 1 ∨ j = j / 3 * 3 + 2 := by omega
    have hL : (madeCells #[.int .i64 0, .int .i64 0, .int .i64 0] (n * 3)).toList[j]? = some (.int .i64 0) := by
      have hm : j % 3 = 0 ∨ j % 3 = 1 ∨ j % 3 = 2 := by omega
      rcases hm with hm | hm | hm <;> simp [madeCells, hj, hm]
    rw [hL]
    rcases hr with hr | hr | hr
    · rw [hr]; exact f0.symm
    · rw [hr]; exact f1.symm
    · rw [hr]; exact f2.symm
  · rw [List.getElem?_eq_none (by simp [madeCells]; omega), List.getElem?_eq_none (by rw [flat_length]; simp; omega)]

set_option maxRecDepth 20000 in
set_option maxHeartbeats 800000 in
theorem toStepS_any (a : Option Addr) (n c : Nat) (ss : List St) (w : World) (h : RowS w a n ss) (hn : n ≤ 1099511627776) :
    Calls Tryz.prog 9 #[.slice a n c] w fun e w' => e = .returned (.slice (some ⟨w.heap.size, 0, none⟩) n n) ∧ OwnsS 48 w' w.heap.size (.slice (some ⟨w.heap.size, 0, none⟩) n n) n ss ∧ Below w.heap.size w w' := by
  obtain ⟨hl, hc⟩ := h
  obtain ⟨i0, hi, hz0, hz1, hz2⟩ := info_parts (show (Tryz.prog.info? 48).map (fun i => (i.zero, i.size, i.bytes)) = some (some (.agg #[.int .i64 0, .int .i64 0, .int .i64 0]), 3, 24) by kernel_rfl)
  have HC := Lib.hid hc
  have HL := Lib.hid hl
  clear hc hl
  go_enter Tryz.func9, Tryz.ntmps9
  go_wp2_with (at_make; refine wpList_make_full _ rfl _ _ 29 rfl w.heap.size 48 i0 (.agg #[.int .i64 0, .int .i64 0, .int .i64 0]) 3 Tryz.underlying29 hi hz0 hz1 _ _ _ _ n rfl rfl rfl rfl ?b2 ?b3 (Nat.le_refl _) ?_)
  case b2 => rw [hz2]; omega
  case b3 => unfold maxLen; omega
  intro w0 hown0 hgrow0
  have H0 : Hid (OwnsS 48 w0 w.heap.size (.slice (some ⟨w.heap.size, 0, none⟩) n n) n (List.replicate n (0, 0, 0))) := by
    unfold Hid OwnsS
    rw [← made_flat]
    exact hown0
  clear hown0
  go_wp2
  go_loopw [4] (fun i wr => ∃ k : Nat, k ≤ n ∧ i = .int .i64 k ∧ Hid (OwnsS 48 wr w.heap.size (.slice (some ⟨w.heap.size, 0, none⟩) n n) n (ss.take k ++ List.replicate (n - k) (0, 0, 0))) ∧ Below w.heap.size w wr)
    (fun i _ => n - (intOf i).toNat)
  case atStart => exact ⟨0, Nat.zero_le _, rfl, by simpa [Hid] using H0.out, (Below.refl _ _).grown hgrow0 (Nat.le_refl _) (fun k h => by cases h)⟩
  case round =>
    obtain ⟨k, hk, rfl, HO, hnx⟩ := hrel
    by_cases hlt : k < n
    · obtain ⟨b, off, rfl, hb, hcell⟩ := HC.out (by omega)
      have hkx : k < ss.length := by rw [HL.out]; exact hlt
      obtain ⟨⟨x, y, z⟩, hs⟩ : ∃ s, s = ss[k] := ⟨_, rfl⟩
      obtain ⟨c0, c1, c2⟩ := hcell k ss[k] (List.getElem?_eq_getElem hkx)
      have HR : Hid (wr.rangeAt b (off + k * 3) [.int .i64 x, .int .i64 y, .int .i64 z]) := by
        have := rangeAt_step (w := wr) (b := b) (o := off + k * 3) (s := ss[k]) ((hnx.cell (p := ⟨b, off + k * 3, none⟩) hb).trans c0) ((hnx.cell (p := ⟨b, off + k * 3 + 1, none⟩) hb).trans c1) ((hnx.cell (p := ⟨b, off + k * 3 + 2, none⟩) hb).trans c2)
        rw [← hs] at this
        exact this
      have HS := Lib.hid hs
      clear c0 c1 c2 hs hcell
      go_wp2_with (refine wpList_load_mid rfl _ _ rfl b (off + k * 3) rfl [.int .i64 x, .int .i64 y, .int .i64 z] _ HR.out Tryz.underlying53 rfl (by kernel_rfl) ?_)
      refine (toStep_any x y z _).mono ?_
      rintro e w1 ⟨rfl, hb1⟩
      have HO1 := Lib.hid (HO.out.below hb1)
      have HTH : Hid (w1.there w.heap.size (k * 3) 3) := HO1.out.there k hlt
      have HB1 : Hid (Below w.heap.size w w1) := hnx.trans (hb1.mono hnx.size)
      have hst := HO1.out.stored k (x, y, z)
      rw [HS.out, filled_step ss (0, 0, 0) n k HL.out hkx, ← HS.out] at hst
      have HT := Lib.hid hst
      clear hst hb1 HO HO1
      go_wp2_with (refine wpList_store_mid rfl _ _ _ rfl w.heap.size _ #[.int .i64 x, .int .i64 y, .int .i64 z] rfl rfl (by simpa using HTH.out) (by kernel_rfl) (step_one x y z) ?_)
      go_roundw
      case rel => exact ⟨k + 1, by omega, by go_num, HT.out.1, HB1.out.grown HT.out.2 HB1.out.size (fun k h => by cases h; exact Nat.le_refl _)⟩
      case measure => simp [intOf]; omega
    · go_wp2
      go_ret
      obtain rfl : k = n := by omega
      refine ⟨rfl, ?_, hnx⟩
      have := HO.out
      rw [List.take_of_length_le (by rw [HL.out]; omega)] at this
      simpa using this

end Go.Proofs.YtdbgjgeglgipiaaGreat

/-
  The contract of the laws' toIa: a copy of an automaton in four new blocks. Conditions: the slices read as lists of at most 2^40 elements.
-/
namespace Go.Proofs.YtdbgjgeglgipiaaGreat
open Go.RowKit

/-- The slices of an automaton's value read as an automaton's lists. -/
def IaRow (w : World) (a : IaD) (v : Value) : Prop :=
  ∃ (a2 : Option Addr) (n2 c2 : Nat) (a3 : Option Addr) (n3 c3 : Nat) (a4 : Option Addr) (n4 c4 : Nat) (a5 : Option Addr) (n5 c5 : Nat),
    v = .agg #[.int .i64 a.states, .int .i64 a.init, .slice a2 n2 c2, .slice a3 n3 c3, .slice a4 n4 c4, .slice a5 n5 c5] ∧ Row w a2 n2 a.ins ∧ Row w a3 n3 a.outs ∧ Row w a4 n4 a.hids ∧ RowS w a5 n5 a.steps

def IaFits (a : IaD) : Prop := a.ins.length ≤ 1099511627776 ∧ a.outs.length ≤ 1099511627776 ∧ a.hids.length ≤ 1099511627776 ∧ a.steps.length ≤ 1099511627776

/-- A copy of an automaton: four new blocks, one behind the other. -/
def IaAt (w : World) (base : Nat) (a : IaD) (v : Value) : Prop :=
  ∃ g2 g3 g4 g5 : Nat, v = .agg #[.int .i64 a.states, .int .i64 a.init, .slice (some ⟨g2, 0, none⟩) a.ins.length a.ins.length, .slice (some ⟨g3, 0, none⟩) a.outs.length a.outs.length, .slice (some ⟨g4, 0, none⟩) a.hids.length a.hids.length, .slice (some ⟨g5, 0, none⟩) a.steps.length a.steps.length] ∧
    base ≤ g2 ∧ g2 < g3 ∧ g3 < g4 ∧ g4 < g5 ∧
    Owns w base (.slice (some ⟨g2, 0, none⟩) a.ins.length a.ins.length) a.ins.length a.ins ∧ Owns w base (.slice (some ⟨g3, 0, none⟩) a.outs.length a.outs.length) a.outs.length a.outs ∧ Owns w base (.slice (some ⟨g4, 0, none⟩) a.hids.length a.hids.length) a.hids.length a.hids ∧
    OwnsS 48 w base (.slice (some ⟨g5, 0, none⟩) a.steps.length a.steps.length) a.steps.length a.steps

/-- A variable of the call's own: block 'b' holds the cells 'C'. -/
def VarIs (w : World) (b : Nat) (C : Array Value) (t : TypeId) : Prop := w.heap[b]? = some (.cells C t (0, 0))

theorem VarIs.lt {w : World} {b : Nat} {C : Array Value} {t : TypeId} (h : VarIs w b C t) : b < w.heap.size := (Array.getElem?_eq_some_iff.1 h).1

theorem VarIs.below {w w' : World} {b : Nat} {C : Array Value} {t : TypeId} (h : VarIs w b C t) (hb : Below w.heap.size w w') : VarIs w' b C t := (hb.block b h.lt).trans h

theorem VarIs.cell {w : World} {b : Nat} {C : Array Value} {t : TypeId} (h : VarIs w b C t) {j : Nat} {u : Value} (hu : C[j]? = some u) : w.cell? ⟨b, j, none⟩ = some u := (cell_of_row w b j C t (0, 0) h).trans hu

theorem VarIs.frozen {w : World} {b : Nat} {C : Array Value} {t : TypeId} (h : VarIs w b C t) (j : Nat) : w.frozen? ⟨b, j, none⟩ = false := frozen_of_row w b j C t h

theorem VarIs.set {w : World} {b : Nat} {C : Array Value} {t : TypeId} (h : VarIs w b C t) (j : Nat) (u : Value) : VarIs (w.setCell ⟨b, j, none⟩ u) b (C.setIfInBounds j u) t := heap_setCell_same w b j C t u h

theorem VarIs.other {w : World} {b : Nat} {C : Array Value} {t : TypeId} (h : VarIs w b C t) {g j : Nat} (hg : b ≠ g) (u : Value) : VarIs (w.setCell ⟨g, j, none⟩ u) b C t := (heap_setCell_other w ⟨g, j, none⟩ b u hg).trans h

theorem VarIs.new (w : World) (C : Array Value) (t : TypeId) {b : Nat} (hb : b = w.heap.size) : VarIs (w.alloc (.cells C t)) b C t := by subst hb; exact heap_alloc_new w _

theorem VarIs.alloc {w : World} {b : Nat} {C : Array Value} {t : TypeId} (h : VarIs w b C t) (o : Obj) : VarIs (w.alloc o) b C t := (Below.heap_alloc w o b h.lt).trans h

theorem below_set {B : Nat} {a w : World} (h : Below B a w) {g j : Nat} (hg : B ≤ g) (u : Value) : Below B a (w.setCell ⟨g, j, none⟩ u) := h.setCell hg u

theorem owns_set {w : World} {base n g c j b : Nat} {xs : List Int} (h : Owns w base (.slice (some ⟨g, 0, none⟩) n c) n xs) (hg : b ≠ g) (u : Value) : Owns (w.setCell ⟨b, j, none⟩ u) base (.slice (some ⟨g, 0, none⟩) n c) n xs :=
  h.keep (r := some b) ⟨rfl, rfl, rfl, by simp, fun k _ hk => heap_setCell_other w ⟨b, j, none⟩ k u (fun e => hk (by simp [e]))⟩ (fun k hk => by
    cases hk
    intro e
    exact hg (Option.some.inj e).symm)

theorem owns_other {w w' : World} {base n g c b : Nat} {xs : List Int} (h : Owns w base (.slice (some ⟨g, 0, none⟩) n c) n xs) (hw : w.grownBy w' (some b)) (hg : b ≠ g) : Owns w' base (.slice (some ⟨g, 0, none⟩) n c) n xs :=
  h.keep hw (fun k hk => by
    cases hk
    intro e
    exact hg (Option.some.inj e).symm)

theorem ownsS_other {e : TypeId} {w w' : World} {base n g c b : Nat} {xs : List St} (h : OwnsS e w base (.slice (some ⟨g, 0, none⟩) n c) n xs) (hw : w.grownBy w' (some b)) (hg : b ≠ g) : OwnsS e w' base (.slice (some ⟨g, 0, none⟩) n c) n xs :=
  h.keep hw (fun k hk => by
    cases hk
    intro e
    exact hg (Option.some.inj e).symm)

theorem ownsS_set {e : TypeId} {w : World} {base n g c j b : Nat} {xs : List St} (h : OwnsS e w base (.slice (some ⟨g, 0, none⟩) n c) n xs) (hg : b ≠ g) (u : Value) : OwnsS e (w.setCell ⟨b, j, none⟩ u) base (.slice (some ⟨g, 0, none⟩) n c) n xs :=
  h.keep (r := some b) ⟨rfl, rfl, rfl, by simp, fun k _ hk => heap_setCell_other w ⟨b, j, none⟩ k u (fun e => hk (by simp [e]))⟩ (fun k hk => by
    cases hk
    intro e
    exact hg (Option.some.inj e).symm)

theorem grown_setCells (b : Nat) : ∀ (vs : List Value) (o : Nat) (w : World), w.grownBy (w.setCells b o vs) (some b)
  | [], _, w => ⟨rfl, rfl, rfl, Nat.le_refl _, fun _ _ _ => rfl⟩
  | v :: r, o, w => by
    rw [World.setCells]
    refine grownBy_trans (b := w.setCell ⟨b, o, none⟩ v) ⟨rfl, rfl, rfl, by simp, fun k _ hk => heap_setCell_other w ⟨b, o, none⟩ k v (fun e => hk (by simp [e]))⟩ (grown_setCells b r (o + 1) _)

theorem VarIs.range {w : World} {b : Nat} {C : Array Value} {t : TypeId} (h : VarIs w b C t) : w.rangeAt b 0 C.toList := fun j v hv => by
  rw [Nat.zero_add]
  exact h.cell (by simpa using hv)

theorem VarIs.there {w : World} {b : Nat} {C : Array Value} {t : TypeId} (h : VarIs w b C t) {n : Nat} (hn : n = C.size) : w.there b 0 n := fun j hj => by
  rw [Nat.zero_add]
  refine ⟨?_, h.frozen j⟩
  rw [h.cell (Array.getElem?_eq_getElem (by omega))]
  rfl

set_option maxRecDepth 20000 in
set_option maxHeartbeats 1600000 in
theorem toIa_any (a : IaD) (v : Value) (w : World) (h : IaRow w a v) (hf : IaFits a) :
    Calls Tryz.prog 8 #[v] w fun e w' => ∃ v', e = .returned v' ∧ IaAt w' w.heap.size a v' ∧ Below w.heap.size w w' := by
  obtain ⟨a2, n2, c2, a3, n3, c3, a4, n4, c4, a5, n5, c5, rfl, r2, r3, r4, r5⟩ := h
  obtain ⟨st, it, ins, outs, hids, steps⟩ := a
  obtain ⟨f2, f3, f4, f5⟩ := hf
  simp only at r2 r3 r4 r5 f2 f3 f4 f5
  have hl2 := r2.1
  have hl3 := r3.1
  have hl4 := r4.1
  have hl5 := r5.1
  subst hl2 hl3 hl4 hl5
  have R2 := Lib.hid r2
  have R3 := Lib.hid r3
  have R4 := Lib.hid r4
  have R5 := Lib.hid r5
  clear r2 r3 r4 r5
  go_enter Tryz.func8, Tryz.ntmps8
  go_wp2_with fail
  refine (toIntS_any a2 ins.length c2 ins _ (R2.out.below ?_) f2).mono ?_
  · exact (((Below.refl _ _).alloc (Nat.le_refl _) _).alloc (by simp) _).alloc (by simp; omega) _
  rintro e w1 ⟨rfl, ho2, hb2⟩
  have V1 : Hid (VarIs w1 (w.heap.size + 1 + 1) #[.int .i64 st, .int .i64 it, .slice none 0 0, .slice none 0 0, .slice none 0 0, .slice none 0 0] 31) := (VarIs.new _ _ _ (by simp)).below hb2
  have P1 : Hid (VarIs w1 w.heap.size #[.int .i64 st, .int .i64 it, .slice a2 ins.length c2, .slice a3 outs.length c3, .slice a4 hids.length c4, .slice a5 steps.length c5] 25) := (((VarIs.new w _ _ rfl).alloc _).alloc _).below hb2
  have R1v : Hid (VarIs w1 (w.heap.size + 1) #[.int .i64 0, .int .i64 0, .slice none 0 0, .slice none 0 0, .slice none 0 0, .slice none 0 0] 31) := ((VarIs.new _ _ _ (by simp)).alloc _).below hb2
  have B1 : Hid (Below w.heap.size w w1) := by
    refine Below.trans ?_ (hb2.mono (by simp; omega))
    exact (((Below.refl _ _).alloc (Nat.le_refl _) _).alloc (by simp) _).alloc (by simp; omega) _
  have s1 : w1.heap.size ≥ w.heap.size + 1 + 1 + 1 + 1 := by
    have := (ho2.lt _ rfl).2
    simp at this
    omega
  have O2 : Hid (Owns w1 w.heap.size (.slice (some ⟨w.heap.size + 1 + 1 + 1, 0, none⟩) ins.length ins.length) ins.length ins) := by
    have := ho2.mono (base := w.heap.size) (by simp; omega)
    simpa [Hid] using this
  clear ho2 hb2
  have k1 := V1.out.cell (j := 2) rfl
  have k2 := V1.out.frozen 2
  have k3 : (w1.setCell ⟨w.heap.size + 1 + 1, 2, none⟩ (.slice (some ⟨w.heap.size + 1 + 1 + 1, 0, none⟩) ins.length ins.length)).cell? ⟨w.heap.size, 3, none⟩ = some (.slice a3 outs.length c3) := (P1.out.other (by omega) _).cell rfl
  go_wp2_with fail
  refine (toIntS_any a3 outs.length c3 outs _ (R3.out.below (B1.out.setCell (by simp; omega) _)) f3).mono ?_
  rintro e w2 ⟨rfl, ho, hb⟩
  have hz : (w1.setCell ⟨w.heap.size + 1 + 1, 2, none⟩ (.slice (some ⟨w.heap.size + 1 + 1 + 1, 0, none⟩) ins.length ins.length)).heap.size = w1.heap.size := by simp
  have s2 : w2.heap.size ≥ w1.heap.size + 1 := by
    have := (ho.lt _ rfl).2
    simp at this
    omega
  have V2 : Hid (VarIs w2 (w.heap.size + 1 + 1) #[.int .i64 st, .int .i64 it, .slice (some ⟨w.heap.size + 1 + 1 + 1, 0, none⟩) ins.length ins.length, .slice none 0 0, .slice none 0 0, .slice none 0 0] 31) := (V1.out.set 2 (.slice (some ⟨w.heap.size + 1 + 1 + 1, 0, none⟩) ins.length ins.length)).below hb
  have P2 : Hid (VarIs w2 w.heap.size #[.int .i64 st, .int .i64 it, .slice a2 ins.length c2, .slice a3 outs.length c3, .slice a4 hids.length c4, .slice a5 steps.length c5] 25) := (P1.out.other (by omega) _).below hb
  have R2v : Hid (VarIs w2 (w.heap.size + 1) #[.int .i64 0, .int .i64 0, .slice none 0 0, .slice none 0 0, .slice none 0 0, .slice none 0 0] 31) := (R1v.out.other (by omega) _).below hb
  have B2 : Hid (Below w.heap.size w w2) := (B1.out.setCell (p := ⟨w.heap.size + 1 + 1, 2, none⟩) (by simp; omega) _).trans (hb.mono (by rw [hz]; omega))
  have O2x : Hid (Owns w2 w.heap.size (.slice (some ⟨w.heap.size + 1 + 1 + 1, 0, none⟩) ins.length ins.length) ins.length ins) := (owns_set O2.out (by omega) _).below hb
  have O3x : Hid (Owns w2 w.heap.size (.slice (some ⟨w1.heap.size, 0, none⟩) outs.length outs.length) outs.length outs) := by
    have := ho.mono (base := w.heap.size) (by rw [hz]; omega)
    rw [hz] at this
    exact this
  clear ho hb k1 k2 k3 hz
  have k1 := V2.out.cell (j := 3) rfl
  have k2 := V2.out.frozen 3
  have k3 : (w2.setCell ⟨w.heap.size + 1 + 1, 3, none⟩ (.slice (some ⟨w1.heap.size, 0, none⟩) outs.length outs.length)).cell? ⟨w.heap.size, 4, none⟩ = some (.slice a4 hids.length c4) := (P2.out.other (by omega) _).cell rfl
  go_wp2_with fail
  refine (toIntS_any a4 hids.length c4 hids _ (R4.out.below (B2.out.setCell (by simp; omega) _)) f4).mono ?_
  rintro e w3 ⟨rfl, ho, hb⟩
  have hz : (w2.setCell ⟨w.heap.size + 1 + 1, 3, none⟩ (.slice (some ⟨w1.heap.size, 0, none⟩) outs.length outs.length)).heap.size = w2.heap.size := by simp
  have s3 : w3.heap.size ≥ w2.heap.size + 1 := by
    have := (ho.lt _ rfl).2
    simp at this
    omega
  have V3 : Hid (VarIs w3 (w.heap.size + 1 + 1) #[.int .i64 st, .int .i64 it, .slice (some ⟨w.heap.size + 1 + 1 + 1, 0, none⟩) ins.length ins.length, .slice (some ⟨w1.heap.size, 0, none⟩) outs.length outs.length, .slice none 0 0, .slice none 0 0] 31) := (V2.out.set 3 (.slice (some ⟨w1.heap.size, 0, none⟩) outs.length outs.length)).below hb
  have P3 : Hid (VarIs w3 w.heap.size #[.int .i64 st, .int .i64 it, .slice a2 ins.length c2, .slice a3 outs.length c3, .slice a4 hids.length c4, .slice a5 steps.length c5] 25) := (P2.out.other (by omega) _).below hb
  have R3v : Hid (VarIs w3 (w.heap.size + 1) #[.int .i64 0, .int .i64 0, .slice none 0 0, .slice none 0 0, .slice none 0 0, .slice none 0 0] 31) := (R2v.out.other (by omega) _).below hb
  have B3 : Hid (Below w.heap.size w w3) := (B2.out.setCell (p := ⟨w.heap.size + 1 + 1, 3, none⟩) (by simp; omega) _).trans (hb.mono (by rw [hz]; omega))
  have O2xx : Hid (Owns w3 w.heap.size (.slice (some ⟨w.heap.size + 1 + 1 + 1, 0, none⟩) ins.length ins.length) ins.length ins) := (owns_set O2x.out (by omega) _).below hb
  have O3xx : Hid (Owns w3 w.heap.size (.slice (some ⟨w1.heap.size, 0, none⟩) outs.length outs.length) outs.length outs) := (owns_set O3x.out (by omega) _).below hb
  have O4xx : Hid (Owns w3 w.heap.size (.slice (some ⟨w2.heap.size, 0, none⟩) hids.length hids.length) hids.length hids) := by
    have := ho.mono (base := w.heap.size) (by rw [hz]; omega)
    rw [hz] at this
    exact this
  clear ho hb k1 k2 k3 hz
  have k1 := V3.out.cell (j := 4) rfl
  have k2 := V3.out.frozen 4
  have k3 : (w3.setCell ⟨w.heap.size + 1 + 1, 4, none⟩ (.slice (some ⟨w2.heap.size, 0, none⟩) hids.length hids.length)).cell? ⟨w.heap.size, 5, none⟩ = some (.slice a5 steps.length c5) := (P3.out.other (by omega) _).cell rfl
  go_wp2_with fail
  refine (toStepS_any a5 steps.length c5 steps _ (R5.out.below (B3.out.setCell (by simp; omega) _)) f5).mono ?_
  rintro e w4 ⟨rfl, ho, hb⟩
  have hz : (w3.setCell ⟨w.heap.size + 1 + 1, 4, none⟩ (.slice (some ⟨w2.heap.size, 0, none⟩) hids.length hids.length)).heap.size = w3.heap.size := by simp
  have s4 : w4.heap.size ≥ w3.heap.size + 1 := by
    have := (ho.lt _ rfl).2
    simp at this
    omega
  have V4 : Hid (VarIs w4 (w.heap.size + 1 + 1) #[.int .i64 st, .int .i64 it, .slice (some ⟨w.heap.size + 1 + 1 + 1, 0, none⟩) ins.length ins.length, .slice (some ⟨w1.heap.size, 0, none⟩) outs.length outs.length, .slice (some ⟨w2.heap.size, 0, none⟩) hids.length hids.length, .slice none 0 0] 31) := (V3.out.set 4 (.slice (some ⟨w2.heap.size, 0, none⟩) hids.length hids.length)).below hb
  have P4 : Hid (VarIs w4 w.heap.size #[.int .i64 st, .int .i64 it, .slice a2 ins.length c2, .slice a3 outs.length c3, .slice a4 hids.length c4, .slice a5 steps.length c5] 25) := (P3.out.other (by omega) _).below hb
  have R4v : Hid (VarIs w4 (w.heap.size + 1) #[.int .i64 0, .int .i64 0, .slice none 0 0, .slice none 0 0, .slice none 0 0, .slice none 0 0] 31) := (R3v.out.other (by omega) _).below hb
  have B4 : Hid (Below w.heap.size w w4) := (B3.out.setCell (p := ⟨w.heap.size + 1 + 1, 4, none⟩) (by simp; omega) _).trans (hb.mono (by rw [hz]; omega))
  have O2xxx : Hid (Owns w4 w.heap.size (.slice (some ⟨w.heap.size + 1 + 1 + 1, 0, none⟩) ins.length ins.length) ins.length ins) := (owns_set O2xx.out (by omega) _).below hb
  have O3xxx : Hid (Owns w4 w.heap.size (.slice (some ⟨w1.heap.size, 0, none⟩) outs.length outs.length) outs.length outs) := (owns_set O3xx.out (by omega) _).below hb
  have O4xxx : Hid (Owns w4 w.heap.size (.slice (some ⟨w2.heap.size, 0, none⟩) hids.length hids.length) hids.length hids) := (owns_set O4xx.out (by omega) _).below hb
  have O5xxx : Hid (OwnsS 48 w4 w.heap.size (.slice (some ⟨w3.heap.size, 0, none⟩) steps.length steps.length) steps.length steps) := by
    have := ho.mono (base := w.heap.size) (by rw [hz]; omega)
    rw [hz] at this
    exact this
  clear ho hb k1 k2 k3 hz
  have k1 := V4.out.cell (j := 5) rfl
  have k2 := V4.out.frozen 5
  have V5 : Hid (VarIs (w4.setCell ⟨w.heap.size + 1 + 1, 5, none⟩ (.slice (some ⟨w3.heap.size, 0, none⟩) steps.length steps.length)) (w.heap.size + 1 + 1) #[.int .i64 st, .int .i64 it, .slice (some ⟨w.heap.size + 1 + 1 + 1, 0, none⟩) ins.length ins.length, .slice (some ⟨w1.heap.size, 0, none⟩) outs.length outs.length, .slice (some ⟨w2.heap.size, 0, none⟩) hids.length hids.length, .slice (some ⟨w3.heap.size, 0, none⟩) steps.length steps.length] 31) := V4.out.set 5 (.slice (some ⟨w3.heap.size, 0, none⟩) steps.length steps.length)
  have HR : Hid ((w4.setCell ⟨w.heap.size + 1 + 1, 5, none⟩ (.slice (some ⟨w3.heap.size, 0, none⟩) steps.length steps.length)).rangeAt (w.heap.size + 1 + 1) 0 [.int .i64 st, .int .i64 it, .slice (some ⟨w.heap.size + 1 + 1 + 1, 0, none⟩) ins.length ins.length, .slice (some ⟨w1.heap.size, 0, none⟩) outs.length outs.length, .slice (some ⟨w2.heap.size, 0, none⟩) hids.length hids.length, .slice (some ⟨w3.heap.size, 0, none⟩) steps.length steps.length]) := V5.out.range
  have R5v : Hid (VarIs (w4.setCell ⟨w.heap.size + 1 + 1, 5, none⟩ (.slice (some ⟨w3.heap.size, 0, none⟩) steps.length steps.length)) (w.heap.size + 1) #[.int .i64 0, .int .i64 0, .slice none 0 0, .slice none 0 0, .slice none 0 0, .slice none 0 0] 31) := R4v.out.other (by omega) _
  have HTH : Hid ((w4.setCell ⟨w.heap.size + 1 + 1, 5, none⟩ (.slice (some ⟨w3.heap.size, 0, none⟩) steps.length steps.length)).there (w.heap.size + 1) 0 6) := R5v.out.there rfl
  have H1 : Hid ((#[.int .i64 st, .int .i64 it, .slice (some ⟨w.heap.size + 1 + 1 + 1, 0, none⟩) ins.length ins.length, .slice (some ⟨w1.heap.size, 0, none⟩) outs.length outs.length, .slice (some ⟨w2.heap.size, 0, none⟩) hids.length hids.length, .slice (some ⟨w3.heap.size, 0, none⟩) steps.length steps.length] : Array Value).all (·.oneCell') = true) := all_oneCell_toArray (cs := [.int .i64 st, .int .i64 it, .slice (some ⟨w.heap.size + 1 + 1 + 1, 0, none⟩) ins.length ins.length, .slice (some ⟨w1.heap.size, 0, none⟩) outs.length outs.length, .slice (some ⟨w2.heap.size, 0, none⟩) hids.length hids.length, .slice (some ⟨w3.heap.size, 0, none⟩) steps.length steps.length]) (by
    intro v hv
    simp only [List.mem_cons, List.not_mem_nil, or_false] at hv
    rcases hv with rfl | rfl | rfl | rfl | rfl | rfl <;> rfl)
  have HF := Lib.hid (World.rangeAt_setCells_same _ (w.heap.size + 1) 0 [.int .i64 st, .int .i64 it, .slice (some ⟨w.heap.size + 1 + 1 + 1, 0, none⟩) ins.length ins.length, .slice (some ⟨w1.heap.size, 0, none⟩) outs.length outs.length, .slice (some ⟨w2.heap.size, 0, none⟩) hids.length hids.length, .slice (some ⟨w3.heap.size, 0, none⟩) steps.length steps.length] HTH.out)
  have B5 : Hid (Below w.heap.size w ((w4.setCell ⟨w.heap.size + 1 + 1, 5, none⟩ (.slice (some ⟨w3.heap.size, 0, none⟩) steps.length steps.length)).setCells (w.heap.size + 1) 0 [.int .i64 st, .int .i64 it, .slice (some ⟨w.heap.size + 1 + 1 + 1, 0, none⟩) ins.length ins.length, .slice (some ⟨w1.heap.size, 0, none⟩) outs.length outs.length, .slice (some ⟨w2.heap.size, 0, none⟩) hids.length hids.length, .slice (some ⟨w3.heap.size, 0, none⟩) steps.length steps.length])) := by
    have b4 := B4.out.setCell (p := ⟨w.heap.size + 1 + 1, 5, none⟩) (by simp; omega) (.slice (some ⟨w3.heap.size, 0, none⟩) steps.length steps.length)
    exact b4.grown (grown_setCells (w.heap.size + 1) _ 0 _) b4.size (fun k h => by cases h; omega)
  have O2z := Lib.hid (owns_other (owns_set (j := 5) O2xxx.out (b := w.heap.size + 1 + 1) (by omega) (.slice (some ⟨w3.heap.size, 0, none⟩) steps.length steps.length)) (grown_setCells (w.heap.size + 1) [.int .i64 st, .int .i64 it, .slice (some ⟨w.heap.size + 1 + 1 + 1, 0, none⟩) ins.length ins.length, .slice (some ⟨w1.heap.size, 0, none⟩) outs.length outs.length, .slice (some ⟨w2.heap.size, 0, none⟩) hids.length hids.length, .slice (some ⟨w3.heap.size, 0, none⟩) steps.length steps.length] 0 _) (by omega))
  have O3z := Lib.hid (owns_other (owns_set (j := 5) O3xxx.out (b := w.heap.size + 1 + 1) (by omega) (.slice (some ⟨w3.heap.size, 0, none⟩) steps.length steps.length)) (grown_setCells (w.heap.size + 1) [.int .i64 st, .int .i64 it, .slice (some ⟨w.heap.size + 1 + 1 + 1, 0, none⟩) ins.length ins.length, .slice (some ⟨w1.heap.size, 0, none⟩) outs.length outs.length, .slice (some ⟨w2.heap.size, 0, none⟩) hids.length hids.length, .slice (some ⟨w3.heap.size, 0, none⟩) steps.length steps.length] 0 _) (by omega))
  have O4z := Lib.hid (owns_other (owns_set (j := 5) O4xxx.out (b := w.heap.size + 1 + 1) (by omega) (.slice (some ⟨w3.heap.size, 0, none⟩) steps.length steps.length)) (grown_setCells (w.heap.size + 1) [.int .i64 st, .int .i64 it, .slice (some ⟨w.heap.size + 1 + 1 + 1, 0, none⟩) ins.length ins.length, .slice (some ⟨w1.heap.size, 0, none⟩) outs.length outs.length, .slice (some ⟨w2.heap.size, 0, none⟩) hids.length hids.length, .slice (some ⟨w3.heap.size, 0, none⟩) steps.length steps.length] 0 _) (by omega))
  have O5z := Lib.hid (ownsS_other (ownsS_set (j := 5) O5xxx.out (b := w.heap.size + 1 + 1) (by omega) (.slice (some ⟨w3.heap.size, 0, none⟩) steps.length steps.length)) (grown_setCells (w.heap.size + 1) [.int .i64 st, .int .i64 it, .slice (some ⟨w.heap.size + 1 + 1 + 1, 0, none⟩) ins.length ins.length, .slice (some ⟨w1.heap.size, 0, none⟩) outs.length outs.length, .slice (some ⟨w2.heap.size, 0, none⟩) hids.length hids.length, .slice (some ⟨w3.heap.size, 0, none⟩) steps.length steps.length] 0 _) (by omega))
  go_wp2_with (first | refine wpList_load_mid rfl _ _ rfl (w.heap.size + 1 + 1) 0 rfl [.int .i64 st, .int .i64 it, .slice (some ⟨w.heap.size + 1 + 1 + 1, 0, none⟩) ins.length ins.length, .slice (some ⟨w1.heap.size, 0, none⟩) outs.length outs.length, .slice (some ⟨w2.heap.size, 0, none⟩) hids.length hids.length, .slice (some ⟨w3.heap.size, 0, none⟩) steps.length steps.length] _ HR.out Tryz.underlying31 rfl (by kernel_rfl) ?_ | refine wpList_store_mid rfl _ _ _ rfl (w.heap.size + 1) 0 #[.int .i64 st, .int .i64 it, .slice (some ⟨w.heap.size + 1 + 1 + 1, 0, none⟩) ins.length ins.length, .slice (some ⟨w1.heap.size, 0, none⟩) outs.length outs.length, .slice (some ⟨w2.heap.size, 0, none⟩) hids.length hids.length, .slice (some ⟨w3.heap.size, 0, none⟩) steps.length steps.length] rfl rfl HTH.out (by kernel_rfl) H1.out ?_)
  refine bodyPost_ret (v := .agg #[.int .i64 st, .int .i64 it, .slice (some ⟨w.heap.size + 1 + 1 + 1, 0, none⟩) ins.length ins.length, .slice (some ⟨w1.heap.size, 0, none⟩) outs.length outs.length, .slice (some ⟨w2.heap.size, 0, none⟩) hids.length hids.length, .slice (some ⟨w3.heap.size, 0, none⟩) steps.length steps.length]) ?_ rfl ⟨_, rfl, ⟨_, _, _, _, rfl, by omega, by omega, by omega, by omega, O2z.out, O3z.out, O4z.out, O5z.out⟩, B5.out⟩
  have HC0 := HF.out 0 _ rfl
  have HC1 := HF.out 1 _ rfl
  have HC2 := HF.out 2 _ rfl
  have HC3 := HF.out 3 _ rfl
  have HC4 := HF.out 4 _ rfl
  have HC5 := HF.out 5 _ rfl
  simp only [Nat.zero_add] at HC0 HC1 HC2 HC3 HC4 HC5
  simp [results, Tryz.results8, go_sem, HC0, HC1, HC2, HC3, HC4, HC5]

end Go.Proofs.YtdbgjgeglgipiaaGreat

/-
  The contract of the laws' szIa: how much room is left behind an automaton's lists. Conditions: at most 2^40 at the beginning; the slices are no longer than slices may be.
-/
namespace Go.Proofs.YtdbgjgeglgipiaaGreat
open Go.RowKit

def roomOf (left : Int) (n : Nat) : Int := if (n : Int) ≤ left then left - n else -1

theorem szIntS_any (a : Option Addr) (n c : Nat) (left : Int) (w : World) (h0 : 0 ≤ left) (h1 : left ≤ 1099511627776) (hn : n ≤ maxLen) :
    Calls Tryz.prog 18 #[.slice a n c, .int .i64 left] w fun e w' => e = .returned (.int .i64 (roomOf left n)) ∧ w' = w := by
  unfold maxLen at hn
  by_cases h : (n : Int) ≤ left
  · have e : roomOf left n = left - n := if_pos h
    rw [e]
    go_enter Tryz.func18, Tryz.ntmps18
    go_wp2
    go_ret
    exact ⟨ret_int (by go_num), rfl⟩
  · have e : roomOf left n = -1 := if_neg h
    rw [e]
    go_enter Tryz.func18, Tryz.ntmps18
    go_wp2
    go_ret
    exact ⟨rfl, rfl⟩

theorem szStepS_any (a : Option Addr) (n c : Nat) (left : Int) (w : World) (h0 : 0 ≤ left) (h1 : left ≤ 1099511627776) (hn : n ≤ maxLen) :
    Calls Tryz.prog 6 #[.slice a n c, .int .i64 left] w fun e w' => e = .returned (.int .i64 (roomOf left n)) ∧ w' = w := by
  unfold maxLen at hn
  by_cases h : (n : Int) ≤ left
  · have e : roomOf left n = left - n := if_pos h
    rw [e]
    go_enter Tryz.func6, Tryz.ntmps6
    go_wp2
    go_ret
    exact ⟨ret_int (by go_num), rfl⟩
  · have e : roomOf left n = -1 := if_neg h
    rw [e]
    go_enter Tryz.func6, Tryz.ntmps6
    go_wp2
    go_ret
    exact ⟨rfl, rfl⟩

theorem roomOf_neg {left : Int} {n : Nat} (h : ¬ (n : Int) ≤ left) : roomOf left n = -1 := if_neg h
theorem roomOf_pos {left : Int} {n : Nat} (h : (n : Int) ≤ left) : roomOf left n = left - n := if_pos h

set_option maxRecDepth 20000 in
set_option maxHeartbeats 1600000 in
theorem szIa_any (st it : Int) (a2 : Option Addr) (n2 c2 : Nat) (a3 : Option Addr) (n3 c3 : Nat) (a4 : Option Addr) (n4 c4 : Nat) (a5 : Option Addr) (n5 c5 : Nat) (left : Int) (w : World) (h0 : 0 ≤ left) (h1 : left ≤ 1099511627776)
    (m2 : n2 ≤ maxLen) (m3 : n3 ≤ maxLen) (m4 : n4 ≤ maxLen) (m5 : n5 ≤ maxLen) :
    Calls Tryz.prog 5 #[.agg #[.int .i64 st, .int .i64 it, .slice a2 n2 c2, .slice a3 n3 c3, .slice a4 n4 c4, .slice a5 n5 c5], .int .i64 left] w
      fun e w' => e = .returned (.int .i64 (roomOf left (n2 + n3 + n4 + n5))) ∧ Below w.heap.size w w' := by
  have HB : Hid (∀ o, Below w.heap.size w (w.alloc o)) := fun o => (Below.refl _ _).alloc (Nat.le_refl _) _
  have M2 := Lib.hid m2
  have M3 := Lib.hid m3
  have M4 := Lib.hid m4
  have M5 := Lib.hid m5
  clear m2 m3 m4 m5
  obtain ⟨r, hr⟩ : ∃ r, r = roomOf left (n2 + n3 + n4 + n5) := ⟨_, rfl⟩
  rw [← hr]
  have HR := Lib.hid hr
  clear hr
  go_enter Tryz.func5, Tryz.ntmps5
  go_wp2_with fail
  refine (szIntS_any a2 n2 c2 left _ h0 h1 M2.out).mono ?_
  rintro e w1 ⟨rfl, rfl⟩
  by_cases q2 : (n2 : Int) ≤ left
  · rw [roomOf_pos q2]
    go_wp2_with fail
    refine (szIntS_any a3 n3 c3 (left - n2) _ (by omega) (by omega) M3.out).mono ?_
    rintro e w1 ⟨rfl, rfl⟩
    by_cases q3 : (n3 : Int) ≤ left - n2
    · rw [roomOf_pos q3]
      go_wp2_with fail
      refine (szIntS_any a4 n4 c4 (left - n2 - n3) _ (by omega) (by omega) M4.out).mono ?_
      rintro e w1 ⟨rfl, rfl⟩
      by_cases q4 : (n4 : Int) ≤ left - n2 - n3
      · rw [roomOf_pos q4]
        go_wp2_with fail
        refine (szStepS_any a5 n5 c5 (left - n2 - n3 - n4) _ (by omega) (by omega) M5.out).mono ?_
        rintro e w1 ⟨rfl, rfl⟩
        by_cases q5 : (n5 : Int) ≤ left - n2 - n3 - n4
        · rw [roomOf_pos q5]
          go_wp2_with fail
          go_ret
          exact ⟨ret_int (by rw [HR.out, roomOf_pos (by omega)]; omega), HB.out _⟩
        · rw [roomOf_neg q5]
          go_wp2_with fail
          go_ret
          exact ⟨ret_int (by rw [HR.out, roomOf_neg (by omega)]), HB.out _⟩
      · rw [roomOf_neg q4]
        go_wp2_with fail
        go_ret
        exact ⟨ret_int (by rw [HR.out, roomOf_neg (by omega)]), HB.out _⟩
    · rw [roomOf_neg q3]
      go_wp2_with fail
      go_ret
      exact ⟨ret_int (by rw [HR.out, roomOf_neg (by omega)]), HB.out _⟩
  · rw [roomOf_neg q2]
    go_wp2_with fail
    go_ret
    exact ⟨ret_int (by rw [HR.out, roomOf_neg (by omega)]), HB.out _⟩

end Go.Proofs.YtdbgjgeglgipiaaGreat

/-
  Contracts of the laws' eqStep and eqStepS. Conditions: the slices read as lists of at most 2^40 elements.
-/
namespace Go.Proofs.YtdbgjgeglgipiaaGreat
open Go.RowKit

theorem eqStep_any (s t : St) (w : World) :
    Calls Tryz.prog 29 #[.agg #[.int .i64 s.1, .int .i64 s.2.1, .int .i64 s.2.2], .agg #[.int .i64 t.1, .int .i64 t.2.1, .int .i64 t.2.2]] w fun e w' => e = .returned (.bool (decide (s = t))) ∧ Below w.heap.size w w' := by
  obtain ⟨x, y, z⟩ := s
  obtain ⟨x', y', z'⟩ := t
  have HB : Hid (∀ o o', Below w.heap.size w ((w.alloc o).alloc o')) := fun o o' => ((Below.refl _ _).alloc (Nat.le_refl _) _).alloc (by simp) _
  obtain ⟨r, hr⟩ : ∃ r, r = decide ((x, y, z) = (x', y', z')) := ⟨_, rfl⟩
  rw [← hr]
  have HR := Lib.hid hr
  clear hr
  by_cases h1 : x = x'
  · by_cases h2 : y = y'
    · by_cases h3 : z = z'
      · go_enter Tryz.func29, Tryz.ntmps29
        go_wp2
        go_ret
        exact ⟨ret_bool (by rw [HR.out, h1, h2, h3]; simp), HB.out _ _⟩
      · go_enter Tryz.func29, Tryz.ntmps29
        go_wp2
        go_ret
        exact ⟨ret_bool (by rw [HR.out]; simp [h3]), HB.out _ _⟩
    · go_enter Tryz.func29, Tryz.ntmps29
      go_wp2
      go_ret
      exact ⟨ret_bool (by rw [HR.out]; simp [h2]), HB.out _ _⟩
  · go_enter Tryz.func29, Tryz.ntmps29
    go_wp2
    go_ret
    exact ⟨ret_bool (by rw [HR.out]; simp [h1]), HB.out _ _⟩

set_option maxRecDepth 20000 in
set_option maxHeartbeats 1600000 in
theorem eqStepS_any (a a2 : Option Addr) (n c m c2 : Nat) (xs ys : List St) (w : World) (h : RowS w a n xs) (h2 : RowS w a2 m ys) (hn : n ≤ 1099511627776) (hm : m ≤ 1099511627776) :
    Calls Tryz.prog 12 #[.slice a n c, .slice a2 m c2] w fun e w' => e = .returned (.bool (decide (xs = ys))) ∧ Below w.heap.size w w' := by
  obtain ⟨hl, hc⟩ := h
  obtain ⟨hl2, hc2⟩ := h2
  have HL := Lib.hid hl
  have HL2 := Lib.hid hl2
  have HC := Lib.hid hc
  have HC2 := Lib.hid hc2
  by_cases hnm : n = m
  · clear hl hl2 hc hc2
    subst hnm
    go_enter Tryz.func12, Tryz.ntmps12
    go_wp2
    go_loopw [5] (fun i wr => ∃ k : Nat, k ≤ n ∧ i = .int .i64 k ∧ Hid (xs.take k = ys.take k) ∧ Below w.heap.size w wr) (fun i _ => n - (intOf i).toNat)
    case atStart => exact ⟨0, Nat.zero_le _, rfl, rfl, Below.refl _ _⟩
    case round =>
      obtain ⟨k, hk, rfl, HT, hnx⟩ := hrel
      by_cases hlt : k < n
      · obtain ⟨b, off, rfl, hb, hcell⟩ := HC.out (by omega)
        obtain ⟨b2, off2, rfl, hb2, hcell2⟩ := HC2.out (by omega)
        have hkx : k < xs.length := by rw [HL.out]; exact hlt
        have hky : k < ys.length := by rw [HL2.out]; exact hlt
        obtain ⟨s, hs⟩ : ∃ s, s = xs[k] := ⟨_, rfl⟩
        obtain ⟨t, ht⟩ : ∃ s, s = ys[k] := ⟨_, rfl⟩
        obtain ⟨c0, c1, c2'⟩ := hcell k xs[k] (List.getElem?_eq_getElem hkx)
        obtain ⟨d0, d1, d2⟩ := hcell2 k ys[k] (List.getElem?_eq_getElem hky)
        rw [← hs] at c0 c1 c2'
        rw [← ht] at d0 d1 d2
        have k0 := (hnx.cell (p := ⟨b, off + k * 3, none⟩) hb).trans c0
        have k1 := (hnx.cell (p := ⟨b, off + k * 3 + 1, none⟩) hb).trans c1
        have k2 := (hnx.cell (p := ⟨b, off + k * 3 + 2, none⟩) hb).trans c2'
        have l0 := (hnx.cell (p := ⟨b2, off2 + k * 3, none⟩) hb2).trans d0
        have l1 := (hnx.cell (p := ⟨b2, off2 + k * 3 + 1, none⟩) hb2).trans d1
        have l2 := (hnx.cell (p := ⟨b2, off2 + k * 3 + 2, none⟩) hb2).trans d2
        obtain ⟨x, y, z⟩ := s
        obtain ⟨x', y', z'⟩ := t
        simp only at k0 k1 k2 l0 l1 l2
        have HS := Lib.hid hs
        have HT2 := Lib.hid ht
        have i1 : (0 : Int) ≤ (k : Int) := by omega
        have i2 : (k : Int) < (n : Int) := by omega
        clear c0 c1 c2' d0 d1 d2 hs ht hcell hcell2
        obtain ⟨q, hq⟩ : ∃ q, q = decide (((x, y, z) : St) = (x', y', z')) := ⟨_, rfl⟩
        have HEQ : Hid (∀ W, Calls Tryz.prog 29 #[.agg #[.int .i64 x, .int .i64 y, .int .i64 z], .agg #[.int .i64 x', .int .i64 y', .int .i64 z']] W fun e w' => e = .returned (.bool q) ∧ Below W.heap.size W w') := fun W => by
          rw [hq]
          exact eqStep_any (x, y, z) (x', y', z') W
        have HQ := Lib.hid hq
        clear hq
        cases q with
        | true =>
          go_wp2
          go_region_held3 (fun w' => Below w.heap.size w w' ∧ w'.cell? ⟨b, off + k * 3, none⟩ = some (.int .i64 x) ∧ w'.cell? ⟨b, off + k * 3 + 1, none⟩ = some (.int .i64 y) ∧ w'.cell? ⟨b, off + k * 3 + 2, none⟩ = some (.int .i64 z) ∧ w'.cell? ⟨b2, off2 + k * 3, none⟩ = some (.int .i64 x') ∧ w'.cell? ⟨b2, off2 + k * 3 + 1, none⟩ = some (.int .i64 y') ∧ w'.cell? ⟨b2, off2 + k * 3 + 2, none⟩ = some (.int .i64 z'))
            (first | (refine ⟨hnx.drew, ?_⟩; go_keep) | (exact ⟨hnx.drew.trans (hb'.mono hnx.size), (hb'.cell (p := ⟨b, off + k * 3, none⟩) (Nat.lt_of_lt_of_le hb hnx.size)).trans k0, (hb'.cell (p := ⟨b, off + k * 3 + 1, none⟩) (Nat.lt_of_lt_of_le hb hnx.size)).trans k1, (hb'.cell (p := ⟨b, off + k * 3 + 2, none⟩) (Nat.lt_of_lt_of_le hb hnx.size)).trans k2, (hb'.cell (p := ⟨b2, off2 + k * 3, none⟩) (Nat.lt_of_lt_of_le hb2 hnx.size)).trans l0, (hb'.cell (p := ⟨b2, off2 + k * 3 + 1, none⟩) (Nat.lt_of_lt_of_le hb2 hnx.size)).trans l1, (hb'.cell (p := ⟨b2, off2 + k * 3 + 2, none⟩) (Nat.lt_of_lt_of_le hb2 hnx.size)).trans l2⟩))
            ((go_at_call 29; refine (HEQ.out _).mono ?_; rintro e w' ⟨rfl, hb'⟩))
          rename_i hH
          have HH := Lib.hid hH.1
          clear hH
          go_wp2
          go_roundw
          case rel =>
            refine ⟨k + 1, by omega, by go_num, ?_, HH.out⟩
            have e1 : xs[k] = ys[k] := by rw [← HS.out, ← HT2.out]; exact of_decide_eq_true HQ.out.symm
            unfold Hid
            rw [List.take_succ_eq_append_getElem hkx, List.take_succ_eq_append_getElem hky, HT.out, e1]
          case measure => simp [intOf]; omega
        | false =>
          go_wp2
          go_region_held3 (fun w' => Below w.heap.size w w' ∧ w'.cell? ⟨b, off + k * 3, none⟩ = some (.int .i64 x) ∧ w'.cell? ⟨b, off + k * 3 + 1, none⟩ = some (.int .i64 y) ∧ w'.cell? ⟨b, off + k * 3 + 2, none⟩ = some (.int .i64 z) ∧ w'.cell? ⟨b2, off2 + k * 3, none⟩ = some (.int .i64 x') ∧ w'.cell? ⟨b2, off2 + k * 3 + 1, none⟩ = some (.int .i64 y') ∧ w'.cell? ⟨b2, off2 + k * 3 + 2, none⟩ = some (.int .i64 z'))
            (first | (refine ⟨hnx.drew, ?_⟩; go_keep) | (exact ⟨hnx.drew.trans (hb'.mono hnx.size), (hb'.cell (p := ⟨b, off + k * 3, none⟩) (Nat.lt_of_lt_of_le hb hnx.size)).trans k0, (hb'.cell (p := ⟨b, off + k * 3 + 1, none⟩) (Nat.lt_of_lt_of_le hb hnx.size)).trans k1, (hb'.cell (p := ⟨b, off + k * 3 + 2, none⟩) (Nat.lt_of_lt_of_le hb hnx.size)).trans k2, (hb'.cell (p := ⟨b2, off2 + k * 3, none⟩) (Nat.lt_of_lt_of_le hb2 hnx.size)).trans l0, (hb'.cell (p := ⟨b2, off2 + k * 3 + 1, none⟩) (Nat.lt_of_lt_of_le hb2 hnx.size)).trans l1, (hb'.cell (p := ⟨b2, off2 + k * 3 + 2, none⟩) (Nat.lt_of_lt_of_le hb2 hnx.size)).trans l2⟩))
            ((go_at_call 29; refine (HEQ.out _).mono ?_; rintro e w' ⟨rfl, hb'⟩))
          rename_i hH
          have HH := Lib.hid hH.1
          clear hH
          go_wp2
          go_ret
          refine ⟨ret_bool (decide_eq_false ?_).symm, HH.out⟩
          intro e
          have e1 : xs[k] = ys[k] := by subst e; rfl
          rw [← HS.out, ← HT2.out] at e1
          exact absurd e1 (of_decide_eq_false HQ.out.symm)
      · go_wp2
        go_ret
        have := HT.out
        rw [List.take_of_length_le (by rw [HL.out]; omega), List.take_of_length_le (by rw [HL2.out]; omega)] at this
        exact ⟨ret_bool (decide_eq_true this).symm, hnx⟩
  · have hne : ¬ xs = ys := by intro e; subst e; omega
    have HN := Lib.hid hne
    clear hne hl hl2 hc hc2 HC HC2 HL HL2
    go_enter Tryz.func12, Tryz.ntmps12
    go_wp2
    go_ret
    exact ⟨ret_bool (decide_eq_false HN.out).symm, Below.refl _ _⟩

end Go.Proofs.YtdbgjgeglgipiaaGreat

/-
  The contract of the laws' eqIa: whether two automata are the same, field by field. Conditions: the slices read as lists of at most 2^40 elements.
-/
namespace Go.Proofs.YtdbgjgeglgipiaaGreat
open Go.RowKit

theorem IaD.same {a b : IaD} : a = b ↔ a.states = b.states ∧ a.init = b.init ∧ a.ins = b.ins ∧ a.outs = b.outs ∧ a.hids = b.hids ∧ a.steps = b.steps := by
  cases a; cases b; simp

open Classical in
/-- Whether two automata are the same. -/
noncomputable def sameB (a b : IaD) : Bool := decide (a = b)

theorem sameB_refl (a : IaD) : sameB a a = true := by simp [sameB]
theorem sameB_yes {a b : IaD} (h : a = b) : sameB a b = true := by subst h; exact sameB_refl a
theorem sameB_no {a b : IaD} (h : ¬ a = b) : sameB a b = false := by simp [sameB, h]

theorem IaRow.below {w w' : World} {a : IaD} {v : Value} (h : IaRow w a v) (hb : Below w.heap.size w w') : IaRow w' a v := by
  obtain ⟨a2, n2, c2, a3, n3, c3, a4, n4, c4, a5, n5, c5, rfl, r2, r3, r4, r5⟩ := h
  exact ⟨a2, n2, c2, a3, n3, c3, a4, n4, c4, a5, n5, c5, rfl, r2.below hb, r3.below hb, r4.below hb, r5.below hb⟩

theorem IaAt.row {w : World} {base : Nat} {a : IaD} {v : Value} (h : IaAt w base a v) : IaRow w a v := by
  obtain ⟨g2, g3, g4, g5, rfl, _, _, _, _, o2, o3, o4, o5⟩ := h
  exact ⟨_, _, _, _, _, _, _, _, _, _, _, _, rfl, o2.row.2.2.2, o3.row.2.2.2, o4.row.2.2.2, o5.row.2.2.2⟩

set_option maxRecDepth 20000 in
set_option maxHeartbeats 3200000 in
theorem eqIa_any (a b : IaD) (v v' : Value) (w : World) (h : IaRow w a v) (h' : IaRow w b v') (hf : IaFits a) (hf' : IaFits b) :
    Calls Tryz.prog 11 #[v, v'] w fun e w' => e = .returned (.bool (sameB a b)) ∧ Below w.heap.size w w' := by
  obtain ⟨a2, n2, c2, a3, n3, c3, a4, n4, c4, a5, n5, c5, rfl, r2, r3, r4, r5⟩ := h
  obtain ⟨b2, m2, d2, b3, m3, d3, b4, m4, d4, b5, m5, d5, rfl, q2, q3, q4, q5⟩ := h'
  obtain ⟨r, hr⟩ : ∃ r, r = sameB a b := ⟨_, rfl⟩
  rw [← hr]
  have HN : Hid (∀ p : a = b → False, r = false) := fun p => hr.trans (sameB_no p)
  have HY : Hid (∀ p : a = b, r = true) := fun p => hr.trans (sameB_yes p)
  clear hr
  have R2 := Lib.hid r2
  have Q2 := Lib.hid q2
  have R3 := Lib.hid r3
  have Q3 := Lib.hid q3
  have R4 := Lib.hid r4
  have Q4 := Lib.hid q4
  have R5 := Lib.hid r5
  have Q5 := Lib.hid q5
  clear r2 r3 r4 r5 q2 q3 q4 q5
  have F2 := Lib.hid (R2.out.1.symm ▸ hf.1)
  have F3 := Lib.hid (R3.out.1.symm ▸ hf.2.1)
  have F4 := Lib.hid (R4.out.1.symm ▸ hf.2.2.1)
  have F5 := Lib.hid (R5.out.1.symm ▸ hf.2.2.2)
  have G2 := Lib.hid (Q2.out.1.symm ▸ hf'.1)
  have G3 := Lib.hid (Q3.out.1.symm ▸ hf'.2.1)
  have G4 := Lib.hid (Q4.out.1.symm ▸ hf'.2.2.1)
  have G5 := Lib.hid (Q5.out.1.symm ▸ hf'.2.2.2)
  clear hf hf'
  obtain ⟨st, it, ins, outs, hids, steps⟩ := a
  obtain ⟨st', it', ins', outs', hids', steps'⟩ := b
  simp only at R2 R3 R4 R5 Q2 Q3 Q4 Q5 F2 F3 F4 F5 G2 G3 G4 G5
  have HB : Hid (∀ o o', Below w.heap.size w ((w.alloc o).alloc o')) := fun o o' => ((Below.refl _ _).alloc (Nat.le_refl _) _).alloc (by simp) _
  by_cases e0 : st = st'
  · by_cases e1 : it = it'
    · have E0 := Lib.hid e0
      have E1 := Lib.hid e1
      subst e0 e1
      go_enter Tryz.func11, Tryz.ntmps11
      go_wp2_with fail
      refine (eqIntS_any a2 b2 n2 c2 m2 d2 ins ins' _ (R2.out.below (HB.out _ _)) (Q2.out.below (HB.out _ _)) F2.out G2.out).mono ?_
      rintro e w1 ⟨rfl, hb⟩
      have B1 : Hid (Below w.heap.size w w1) := (HB.out _ _).trans (hb.mono (by simp; omega))
      have VA1 : Hid (VarIs w1 w.heap.size #[.int .i64 st, .int .i64 it, .slice a2 n2 c2, .slice a3 n3 c3, .slice a4 n4 c4, .slice a5 n5 c5] 31) := ((VarIs.new w _ _ rfl).alloc _).below hb
      have VB1 : Hid (VarIs w1 (w.heap.size + 1) #[.int .i64 st, .int .i64 it, .slice b2 m2 d2, .slice b3 m3 d3, .slice b4 m4 d4, .slice b5 m5 d5] 31) := (VarIs.new _ _ _ (by simp)).below hb
      clear hb
      by_cases e2 : ins = ins'
      · rw [decide_eq_true e2]
        have k1 := VA1.out.cell (j := 3) rfl
        have k2 := VB1.out.cell (j := 3) rfl
        go_wp2_with fail
        clear k1 k2
        refine (eqIntS_any a3 b3 n3 c3 m3 d3 outs outs' _ (R3.out.below B1.out) (Q3.out.below B1.out) F3.out G3.out).mono ?_
        rintro e w2 ⟨rfl, hb⟩
        have B2 : Hid (Below w.heap.size w w2) := B1.out.trans (hb.mono B1.out.size)
        have VA2 : Hid (VarIs w2 w.heap.size #[.int .i64 st, .int .i64 it, .slice a2 n2 c2, .slice a3 n3 c3, .slice a4 n4 c4, .slice a5 n5 c5] 31) := VA1.out.below hb
        have VB2 : Hid (VarIs w2 (w.heap.size + 1) #[.int .i64 st, .int .i64 it, .slice b2 m2 d2, .slice b3 m3 d3, .slice b4 m4 d4, .slice b5 m5 d5] 31) := VB1.out.below hb
        clear hb
        by_cases e3 : outs = outs'
        · rw [decide_eq_true e3]
          have k1 := VA2.out.cell (j := 4) rfl
          have k2 := VB2.out.cell (j := 4) rfl
          go_wp2_with fail
          clear k1 k2
          refine (eqIntS_any a4 b4 n4 c4 m4 d4 hids hids' _ (R4.out.below B2.out) (Q4.out.below B2.out) F4.out G4.out).mono ?_
          rintro e w3 ⟨rfl, hb⟩
          have B3 : Hid (Below w.heap.size w w3) := B2.out.trans (hb.mono B2.out.size)
          have VA3 : Hid (VarIs w3 w.heap.size #[.int .i64 st, .int .i64 it, .slice a2 n2 c2, .slice a3 n3 c3, .slice a4 n4 c4, .slice a5 n5 c5] 31) := VA2.out.below hb
          have VB3 : Hid (VarIs w3 (w.heap.size + 1) #[.int .i64 st, .int .i64 it, .slice b2 m2 d2, .slice b3 m3 d3, .slice b4 m4 d4, .slice b5 m5 d5] 31) := VB2.out.below hb
          clear hb
          by_cases e4 : hids = hids'
          · rw [decide_eq_true e4]
            have k1 := VA3.out.cell (j := 5) rfl
            have k2 := VB3.out.cell (j := 5) rfl
            go_wp2_with fail
            clear k1 k2
            refine (eqStepS_any a5 b5 n5 c5 m5 d5 steps steps' _ (R5.out.below B3.out) (Q5.out.below B3.out) F5.out G5.out).mono ?_
            rintro e w4 ⟨rfl, hb⟩
            have B4 : Hid (Below w.heap.size w w4) := B3.out.trans (hb.mono B3.out.size)
            have VA4 : Hid (VarIs w4 w.heap.size #[.int .i64 st, .int .i64 it, .slice a2 n2 c2, .slice a3 n3 c3, .slice a4 n4 c4, .slice a5 n5 c5] 31) := VA3.out.below hb
            have VB4 : Hid (VarIs w4 (w.heap.size + 1) #[.int .i64 st, .int .i64 it, .slice b2 m2 d2, .slice b3 m3 d3, .slice b4 m4 d4, .slice b5 m5 d5] 31) := VB3.out.below hb
            clear hb
            by_cases e5 : steps = steps'
            · rw [decide_eq_true e5]
              go_wp2_with fail
              go_ret
              exact ⟨ret_bool (Eq.symm (HY.out (by rw [e2, e3, e4, e5]))), B4.out⟩
            · rw [decide_eq_false e5]
              go_wp2_with fail
              go_ret
              exact ⟨ret_bool (Eq.symm (HN.out (fun p => e5 (IaD.mk.inj p).2.2.2.2.2))), B4.out⟩
          · rw [decide_eq_false e4]
            go_wp2_with fail
            go_ret
            exact ⟨ret_bool (Eq.symm (HN.out (fun p => e4 (IaD.mk.inj p).2.2.2.2.1))), B3.out⟩
        · rw [decide_eq_false e3]
          go_wp2_with fail
          go_ret
          exact ⟨ret_bool (Eq.symm (HN.out (fun p => e3 (IaD.mk.inj p).2.2.2.1))), B2.out⟩
      · rw [decide_eq_false e2]
        go_wp2_with fail
        go_ret
        exact ⟨ret_bool (Eq.symm (HN.out (fun p => e2 (IaD.mk.inj p).2.2.1))), B1.out⟩
    · go_enter Tryz.func11, Tryz.ntmps11
      go_wp2_with fail
      go_ret
      exact ⟨ret_bool (Eq.symm (HN.out (fun p => e1 (IaD.mk.inj p).2.1))), HB.out _ _⟩
  · go_enter Tryz.func11, Tryz.ntmps11
    go_wp2_with fail
    go_ret
    exact ⟨ret_bool (Eq.symm (HN.out (fun p => e0 (IaD.mk.inj p).1))), HB.out _ _⟩

end Go.Proofs.YtdbgjgeglgipiaaGreat
