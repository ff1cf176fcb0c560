/-
  The contracts of the model's draws of an automaton, perhaps spoilt (anyIa), and of a state (state): some automaton, its lists in new memory; some number. Conditions: those of the cursor.
-/
import Derived.Test.YtfhjhfhfbgddeaaGreatDoorDrawIa
namespace Go.Proofs.YtfhjhfhfbgddeaaGreatDoor
open Go.RowKit

/-- A row of the call's own lies in no variable of another type. -/
theorem own_ne {W : World} {base size n A : Nat} {e t : TypeId} {v : Value} {xs : List Value} {C : Array Value} (h : W.ownsRow base e size v n xs) (hv : VarIs W A C t) (het : e ≠ t) : v.ownBlock ≠ some A := by
  intro e'
  rcases h.2 with ⟨rfl, _⟩ | ⟨g, cap, cur, rfl, _, hh, _⟩
  · cases e'
  · have e1 : g = A := by simpa [Value.ownBlock] using e'
    subst e1
    have h2 := hh.symm.trans hv
    simp only [Option.some.injEq, Obj.cells.injEq] at h2
    exact het h2.2.1

/-- An automaton in a variable, its lists rows of the call's own. -/
structure AnyB (W : World) (P R A : Nat) (st it : Int) (x2 x3 x4 x5 : Value) (n2 n3 n4 n5 : Nat) (ins outs hids : List Int) (steps : List St) : Prop where
  hP : P < R
  hRA : R < A
  var : VarIs W A #[.int .i64 st, .int .i64 it, x2, x3, x4, x5] 27
  res : VarIs W R #[.int .i64 0, .int .i64 0, .slice none 0 0, .slice none 0 0, .slice none 0 0, .slice none 0 0] 27
  o2 : Owns W (R + 1) x2 n2 ins
  o3 : Owns W (R + 1) x3 n3 outs
  o4 : Owns W (R + 1) x4 n4 hids
  o5 : OwnsS 47 W (R + 1) x5 n5 steps

section
variable {W W' : World} {P R A : Nat} {st it : Int} {x2 x3 x4 x5 : Value} {n2 n3 n4 n5 : Nat} {ins outs hids : List Int} {steps : List St}

theorem AnyB.below (h : AnyB W P R A st it x2 x3 x4 x5 n2 n3 n4 n5 ins outs hids steps) (hb : Below W.heap.size W W') : AnyB W' P R A st it x2 x3 x4 x5 n2 n3 n4 n5 ins outs hids steps :=
  ⟨h.hP, h.hRA, h.var.below hb, h.res.below hb, h.o2.below hb, h.o3.below hb, h.o4.below hb, h.o5.below hb⟩

theorem AnyB.pick (h : AnyB W P R A st it x2 x3 x4 x5 n2 n3 n4 n5 ins outs hids steps) (hg : W.grownBy W' (some P)) : AnyB W' P R A st it x2 x3 x4 x5 n2 n3 n4 n5 ins outs hids steps := by
  have h1 := h.hP
  have h2 := h.hRA
  exact ⟨h.hP, h.hRA, h.var.grown hg (fun e => by have := Option.some.inj e; omega), h.res.grown hg (fun e => by have := Option.some.inj e; omega),
    h.o2.keep hg (fun k hk e => by have a := (h.o2.lt k hk).1; have b := Option.some.inj e; omega), h.o3.keep hg (fun k hk e => by have a := (h.o3.lt k hk).1; have b := Option.some.inj e; omega),
    h.o4.keep hg (fun k hk e => by have a := (h.o4.lt k hk).1; have b := Option.some.inj e; omega), h.o5.keep hg (fun k hk e => by have a := (h.o5.lt k hk).1; have b := Option.some.inj e; omega)⟩

/-- A cell of the variable is stored into. -/
theorem anyB_store {C : Array Value} {j : Nat} {u : Value} (hP : P < R) (hRA : R < A) (var : VarIs W A C 27) (res : VarIs W R #[.int .i64 0, .int .i64 0, .slice none 0 0, .slice none 0 0, .slice none 0 0, .slice none 0 0] 27)
    (o2 : Owns W (R + 1) x2 n2 ins) (o3 : Owns W (R + 1) x3 n3 outs) (o4 : Owns W (R + 1) x4 n4 hids) (o5 : OwnsS 47 W (R + 1) x5 n5 steps) (hC : C.setIfInBounds j u = #[.int .i64 st, .int .i64 it, x2, x3, x4, x5]) :
    AnyB (W.setCell ⟨A, j, none⟩ u) P R A st it x2 x3 x4 x5 n2 n3 n4 n5 ins outs hids steps := by
  have hg : W.grownBy (W.setCell ⟨A, j, none⟩ u) (some A) := grownBy_set W A j u
  have v := var.set j u
  rw [hC] at v
  exact ⟨hP, hRA, v, res.other (by omega) _, o2.keep hg (fun k hk e => own_ne o2 var (by decide) (hk.trans e)), o3.keep hg (fun k hk e => own_ne o3 var (by decide) (hk.trans e)), o4.keep hg (fun k hk e => own_ne o4 var (by decide) (hk.trans e)), o5.keep hg (fun k hk e => own_ne o5 var (by decide) (hk.trans e))⟩

end

/-- An automaton whose lists are rows of the call's own. -/
def IaMine (w : World) (base : Nat) (a : IaD) (v : Value) : Prop :=
  ∃ x2 x3 x4 x5 : Value, v = .agg #[.int .i64 a.states, .int .i64 a.init, x2, x3, x4, x5] ∧ Owns w base x2 a.ins.length a.ins ∧ Owns w base x3 a.outs.length a.outs ∧ Owns w base x4 a.hids.length a.hids ∧ OwnsS 47 w base x5 a.steps.length a.steps

theorem IaMine.row {w : World} {base : Nat} {a : IaD} {v : Value} (h : IaMine w base a v) : IaRow w a v := by
  obtain ⟨x2, x3, x4, x5, rfl, o2, o3, o4, o5⟩ := h
  obtain ⟨b2, d2, rfl⟩ := o2.form
  obtain ⟨b3, d3, rfl⟩ := o3.form
  obtain ⟨b4, d4, rfl⟩ := o4.form
  obtain ⟨b5, d5, rfl⟩ := o5.form
  exact ⟨_, _, _, _, _, _, _, _, _, _, _, _, rfl, o2.row.2.2.2, o3.row.2.2.2, o4.row.2.2.2, o5.row.2.2.2⟩

theorem IaMine.below {w w' : World} {base : Nat} {a : IaD} {v : Value} (h : IaMine w base a v) (hb : Below w.heap.size w w') : IaMine w' base a v := by
  obtain ⟨x2, x3, x4, x5, e, o2, o3, o4, o5⟩ := h
  exact ⟨x2, x3, x4, x5, e, o2.below hb, o3.below hb, o4.below hb, o5.below hb⟩

theorem IaMine.mono {w : World} {base base' : Nat} {a : IaD} {v : Value} (h : IaMine w base' a v) (hb : base ≤ base') : IaMine w base a v := by
  obtain ⟨x2, x3, x4, x5, e, o2, o3, o4, o5⟩ := h
  exact ⟨x2, x3, x4, x5, e, o2.mono hb, o3.mono hb, o4.mono hb, o5.mono hb⟩

theorem IaMine.keep {w w' : World} {base q : Nat} {a : IaD} {v : Value} (h : IaMine w base a v) (hg : w.grownBy w' (some q)) (hq : q < base) : IaMine w' base a v := by
  obtain ⟨x2, x3, x4, x5, e, o2, o3, o4, o5⟩ := h
  exact ⟨x2, x3, x4, x5, e, o2.keep hg (fun k hk e => by have a := (o2.lt k hk).1; have b := Option.some.inj e; omega), o3.keep hg (fun k hk e => by have a := (o3.lt k hk).1; have b := Option.some.inj e; omega), o4.keep hg (fun k hk e => by have a := (o4.lt k hk).1; have b := Option.some.inj e; omega), o5.keep hg (fun k hk e => by have a := (o5.lt k hk).1; have b := Option.some.inj e; omega)⟩

theorem AnyB.ret {W W' : World} {P R A : Nat} {st it : Int} {x2 x3 x4 x5 : Value} {n2 n3 n4 n5 : Nat} {ins outs hids : List Int} {steps : List St} (h : AnyB W P R A st it x2 x3 x4 x5 n2 n3 n4 n5 ins outs hids steps) (hg : W.grownBy W' (some R)) : IaMine W' R ⟨st, it, ins, outs, hids, steps⟩ (.agg #[.int .i64 st, .int .i64 it, x2, x3, x4, x5]) := by
  have e2 := h.o2.length
  have e3 := h.o3.length
  have e4 := h.o4.length
  have e5 := h.o5.length
  subst e2 e3 e4 e5
  exact ⟨x2, x3, x4, x5, rfl, (h.o2.keep hg (fun k hk e => by have a := (h.o2.lt k hk).1; have b := Option.some.inj e; omega)).mono (by omega), (h.o3.keep hg (fun k hk e => by have a := (h.o3.lt k hk).1; have b := Option.some.inj e; omega)).mono (by omega), (h.o4.keep hg (fun k hk e => by have a := (h.o4.lt k hk).1; have b := Option.some.inj e; omega)).mono (by omega), (h.o5.keep hg (fun k hk e => by have a := (h.o5.lt k hk).1; have b := Option.some.inj e; omega)).mono (by omega)⟩

/-- What anyIa leaves. -/
def IaAny (w : World) (P t : Nat) (e : Ending) (w' : World) : Prop :=
  ∃ a v, e = .returned v ∧ IaMine w' w.heap.size a v ∧ (a.ins.length ≤ 1000 ∧ a.outs.length ≤ 1000 ∧ a.hids.length ≤ 1000 ∧ a.steps.length ≤ 1000) ∧ Cur w' P t ∧ w.grownBy w' (some P)

theorem three_cell {w1 w2 : World} {P j : Nat} {x y z : Int} (hg : (w1.alloc (.cells #[.int .i64 x, .int .i64 y, .int .i64 z] 3)).grownBy w2 (some P)) (hP : P < w1.heap.size) (hj : j < 3) : ∃ u, w2.cell? ⟨w1.heap.size, j, none⟩ = some (.int .i64 u) := by
  have hv : VarIs (w1.alloc (.cells #[.int .i64 x, .int .i64 y, .int .i64 z] 3)) w1.heap.size #[.int .i64 x, .int .i64 y, .int .i64 z] 3 := VarIs.new w1 _ _ rfl
  have hv2 := hv.grown hg (fun e => by have := Option.some.inj e; omega)
  match j, hj with
  | 0, _ => exact ⟨x, hv2.cell rfl⟩
  | 1, _ => exact ⟨y, hv2.cell rfl⟩
  | 2, _ => exact ⟨z, hv2.cell rfl⟩

set_option maxRecDepth 20000 in
set_option maxHeartbeats 12800000 in
theorem anyIa_any (P t : Nat) (w : World) (h : Cur w P t) (ht : t ≤ 10000) :
    Calls Tryz.prog 15 #[.pointer (some ⟨P, 0, none⟩)] w (IaAny w P (t + 340)) := by
  obtain ⟨i0, hi, hz0, hz1, hz2⟩ := info_parts info_int
  obtain ⟨i1, hi1, hy0, hy1, hy2⟩ := info_parts (show (Tryz.prog.info? 47).map (fun i => (i.zero, i.size, i.bytes)) = some (some (.agg #[.int .i64 0, .int .i64 0, .int .i64 0]), 3, 24) by kernel_rfl)
  have hP := h.lt
  have H0 := Lib.hid h
  clear h
  have BZ : Hid (Below w.heap.size w (w.alloc (.cells #[.int .i64 0, .int .i64 0, .slice none 0 0, .slice none 0 0, .slice none 0 0, .slice none 0 0] 27))) := (Below.refl _ _).alloc (Nat.le_refl _) _
  have VZ := Lib.hid (VarIs.new w #[.int .i64 0, .int .i64 0, .slice none 0 0, .slice none 0 0, .slice none 0 0, .slice none 0 0] 27 rfl)
  have hsz : (w.alloc (.cells #[.int .i64 0, .int .i64 0, .slice none 0 0, .slice none 0 0, .slice none 0 0, .slice none 0 0] 27)).heap.size = w.heap.size + 1 := by simp
  go_enter Tryz.func15, Tryz.ntmps15
  go_wp2_with fail
  refine (ia_any P t _ (H0.out.below BZ.out) (by omega)).mono ?_
  rintro e w1 ⟨a, v, rfl, how, hnear, _, _, _, _, hcur, hg⟩
  rw [hsz] at how
  obtain ⟨st, it, ins, outs, hids, steps⟩ := a
  obtain ⟨x2, x3, x4, x5, rfl, o2, o3, o4, o5, p2, p3, p4⟩ := how
  simp only at o2 o3 o4 o5
  obtain ⟨k2, k3, k4, k5⟩ := hnear
  simp only at k2 k3 k4 k5
  obtain ⟨n2, hn2⟩ : ∃ n, n = ins.length := ⟨_, rfl⟩
  obtain ⟨n3, hn3⟩ : ∃ n, n = outs.length := ⟨_, rfl⟩
  obtain ⟨n4, hn4⟩ : ∃ n, n = hids.length := ⟨_, rfl⟩
  obtain ⟨n5, hn5⟩ : ∃ n, n = steps.length := ⟨_, rfl⟩
  rw [← hn2] at o2 k2
  rw [← hn3] at o3 k3
  rw [← hn4] at o4 k4
  rw [← hn5] at o5 k5
  obtain ⟨b2, d2, rfl⟩ := o2.form
  obtain ⟨b3, d3, rfl⟩ := o3.form
  obtain ⟨b4, d4, rfl⟩ := o4.form
  obtain ⟨b5, d5, rfl⟩ := o5.form
  have V1 := VZ.out.grown hg (fun e => by have := Option.some.inj e; omega)
  have hA1 := V1.lt
  have AB2 : Hid (AnyB (w1.alloc (.cells #[.int .i64 st, .int .i64 it, .slice b2 n2 d2, .slice b3 n3 d3, .slice b4 n4 d4, .slice b5 n5 d5] 27)) P w.heap.size w1.heap.size st it (.slice b2 n2 d2) (.slice b3 n3 d3) (.slice b4 n4 d4) (.slice b5 n5 d5) (n2) (n3) (n4) (n5) (ins) (outs) (hids) (steps)) := ⟨hP, hA1, VarIs.new w1 _ _ rfl, V1.alloc _, o2.alloc _, o3.alloc _, o4.alloc _, o5.alloc _⟩
  have CU2 : Hid (Cur (w1.alloc (.cells #[.int .i64 st, .int .i64 it, .slice b2 n2 d2, .slice b3 n3 d3, .slice b4 n4 d4, .slice b5 n5 d5] 27)) P (t + 320)) := hcur.below ((Below.refl _ w1).alloc (Nat.le_refl _) _)
  have GR2 : Hid (w.grownBy (w1.alloc (.cells #[.int .i64 st, .int .i64 it, .slice b2 n2 d2, .slice b3 n3 d3, .slice b4 n4 d4, .slice b5 n5 d5] 27)) (some P)) := grownBy_trans (grownBy_trans (World.grownBy_alloc w _ _) hg) (World.grownBy_alloc w1 _ _)
  have D2 := Lib.hid p2
  have D3 := Lib.hid p3
  have D4 := Lib.hid p4
  clear hcur hg V1 o2 o3 o4 o5 p2 p3 p4 hn2 hn3 hn4 hn5 BZ VZ H0 hsz
  go_wp2_with fail
  refine (once_any P (t + 320) 10 _ CU2.out (by omega) (by omega) (by omega)).mono ?_
  rintro e w2 ⟨q, rfl, hcur, hg⟩
  have AB2' := Lib.hid (AB2.out.pick hg)
  have CU2' := Lib.hid hcur
  have GR2' := Lib.hid (grownBy_trans GR2.out hg)
  clear hcur hg AB2 CU2 GR2
  cases q with
  | false =>
    have lE2 := AB2'.out.o2.length
    have lE3 := AB2'.out.o3.length
    have lE4 := AB2'.out.o4.length
    have lE5 := AB2'.out.o5.length
    obtain ⟨C, hC⟩ : ∃ C : Array Value, C = #[.int .i64 st, .int .i64 it, .slice b2 n2 d2, .slice b3 n3 d3, .slice b4 n4 d4, .slice b5 n5 d5] := ⟨_, rfl⟩
    have HC := Lib.hid hC
    have VC : Hid (VarIs w2 w1.heap.size C 27) := by rw [hC]; exact AB2'.out.var
    have hCl : C.toList.length = 6 := by rw [hC]; rfl
    have HCL := Lib.hid hCl
    have RG := Lib.hid VC.out.range
    have TH : Hid (w2.there w.heap.size 0 C.toList.toArray.size) := AB2'.out.res.there (by rw [List.size_toArray, hCl]; rfl)
    have ON : Hid (C.toList.toArray.all (·.oneCell') = true) := by rw [hC]; exact six_one _ _ _ _ _ _ _ _ _ _ _ _ _ _
    clear hC hCl VC
    go_wp2_with (first | refine wpList_load_mid rfl _ _ rfl w1.heap.size 0 rfl C.toList _ RG.out Tryz.underlying27 rfl (by rw [HCL.out]; kernel_rfl) ?_ | refine wpList_store_mid rfl _ _ _ rfl w.heap.size 0 C.toList.toArray rfl rfl TH.out (by rw [List.size_toArray, HCL.out]; kernel_rfl) ON.out ?_)
    have RG2 : Hid ((w2.setCells w.heap.size 0 C.toList).rangeAt w.heap.size 0 C.toList) := World.rangeAt_setCells_same w2 w.heap.size 0 C.toList (by simpa using TH.out)
    have HGS := Lib.hid (grown_setCells w.heap.size C.toList 0 w2)
    refine bodyPost_ret (v := .agg C) ?_ rfl ⟨⟨st, it, ins, outs, hids, steps⟩, .agg C, rfl, by have h9 := AB2'.out.ret HGS.out; rw [← HC.out] at h9; exact h9, ⟨by simp only; omega, by simp only; omega, by simp only; omega, by simp only; omega⟩, (CU2'.out.keep (B := P + 1) HGS.out (by omega) (fun q hq => by have h1 := Option.some.inj hq; omega)).mono (by omega), grown_past GR2'.out HGS.out (Nat.le_refl _)⟩
    have hCx := HC.out
    subst hCx
    have HF := RG2.out
    have HC0 := HF 0 _ rfl
    have HC1 := HF 1 _ rfl
    have HC2' := HF 2 _ rfl
    have HC3 := HF 3 _ rfl
    have HC4 := HF 4 _ rfl
    have HC5 := HF 5 _ rfl
    simp only [Nat.zero_add] at HC0 HC1 HC2' HC3 HC4 HC5
    clear HF RG2 HGS HC
    simp [results, Tryz.results15, go_sem, HC0, HC1, HC2', HC3, HC4, HC5]

  | true =>
    go_wp2_with fail
    refine (pick_any P (t + 320 + 1) 6 _ CU2'.out (by omega) (by omega) (by omega)).mono ?_
    rintro e w3 ⟨r, rfl, hr0, hr1, hcur, hg⟩
    have AB3 := Lib.hid (AB2'.out.pick hg)
    have CU3 : Hid (Cur w3 P (t + 322)) := hcur
    have GR3 := Lib.hid (grownBy_trans GR2'.out hg)
    have hA3' := AB3.out.var.lt
    clear hcur hg AB2' CU2' GR2'
    by_cases h0 : r = 0
    · subst h0
      go_wp2_with fail
      refine (raw_any P (t + 322) _ CU3.out (by omega)).mono ?_
      rintro e w4 ⟨x, rfl, _, hcur4, hg4⟩
      have AB4 := Lib.hid (AB3.out.pick hg4)
      have CU4 := Lib.hid hcur4
      have GR4 := Lib.hid (grownBy_trans GR3.out hg4)
      have hA4 := AB4.out.var.lt
      clear hcur4 hg4 AB3 CU3 GR3
      have AB5 := Lib.hid (AB4.out.below ((Below.refl _ w4).alloc (Nat.le_refl _) (.cells #[.int .i64 x, .int .i64 40, .int .i64 41] 3)))
      have CU5 := Lib.hid (CU4.out.below ((Below.refl _ w4).alloc (Nat.le_refl _) (.cells #[.int .i64 x, .int .i64 40, .int .i64 41] 3)))
      have GR5 : Hid (w.grownBy (w4.alloc (.cells #[.int .i64 x, .int .i64 40, .int .i64 41] 3)) (some P)) := grownBy_trans GR4.out (World.grownBy_alloc w4 _ _)
      go_wp2_with fail
      refine (pick_any P (t + 322 + 2) 3 _ CU5.out (by omega) (by omega) (by omega)).mono ?_
      rintro e w5 ⟨r5, rfl, hr50, hr51, hcur5, hg5⟩
      obtain ⟨j, rfl⟩ : ∃ j : Nat, r5 = (j : Int) := ⟨r5.toNat, by omega⟩
      have hj3 : j < 3 := by omega
      obtain ⟨u, hu⟩ := three_cell hg5 (by omega) hj3
      have AB6 := Lib.hid (AB5.out.pick hg5)
      have CU6 := Lib.hid hcur5
      have GR6 := Lib.hid (grownBy_trans GR5.out hg5)
      have m0 := AB6.out.var.cell (j := 0) rfl
      have f0 := AB6.out.var.frozen 0
      have AB7 : Hid (AnyB (w5.setCell ⟨w1.heap.size, 0, none⟩ (.int .i64 u)) P w.heap.size w1.heap.size u it (.slice b2 n2 d2) (.slice b3 n3 d3) (.slice b4 n4 d4) (.slice b5 n5 d5) (n2) (n3) (n4) (n5) (ins) (outs) (hids) (steps)) := anyB_store AB6.out.hP AB6.out.hRA AB6.out.var AB6.out.res AB6.out.o2 AB6.out.o3 AB6.out.o4 AB6.out.o5 rfl
      have CU7 := Lib.hid (CU6.out.keep (B := P + 1) (grownBy_set w5 w1.heap.size 0 (.int .i64 u)) (by omega) (fun q hq => by have h1 := Option.some.inj hq; omega))
      have GR7 := Lib.hid (grown_past GR6.out (grownBy_set w5 w1.heap.size 0 (.int .i64 u)) (by omega))
      clear hcur5 hg5 AB4 AB5 CU4 CU5 GR4 GR5 AB6 CU6 GR6
      have lE2 := AB7.out.o2.length
      have lE3 := AB7.out.o3.length
      have lE4 := AB7.out.o4.length
      have lE5 := AB7.out.o5.length
      obtain ⟨C, hC⟩ : ∃ C : Array Value, C = #[.int .i64 u, .int .i64 it, .slice b2 n2 d2, .slice b3 n3 d3, .slice b4 n4 d4, .slice b5 n5 d5] := ⟨_, rfl⟩
      have HC := Lib.hid hC
      have VC : Hid (VarIs (w5.setCell ⟨w1.heap.size, 0, none⟩ (.int .i64 u)) w1.heap.size C 27) := by rw [hC]; exact AB7.out.var
      have hCl : C.toList.length = 6 := by rw [hC]; rfl
      have HCL := Lib.hid hCl
      have RG := Lib.hid VC.out.range
      have TH : Hid ((w5.setCell ⟨w1.heap.size, 0, none⟩ (.int .i64 u)).there w.heap.size 0 C.toList.toArray.size) := AB7.out.res.there (by rw [List.size_toArray, hCl]; rfl)
      have ON : Hid (C.toList.toArray.all (·.oneCell') = true) := by rw [hC]; exact six_one _ _ _ _ _ _ _ _ _ _ _ _ _ _
      clear hC hCl VC
      go_wp2_with (first | refine wpList_load_mid rfl _ _ rfl w1.heap.size 0 rfl C.toList _ RG.out Tryz.underlying27 rfl (by rw [HCL.out]; kernel_rfl) ?_ | refine wpList_store_mid rfl _ _ _ rfl w.heap.size 0 C.toList.toArray rfl rfl TH.out (by rw [List.size_toArray, HCL.out]; kernel_rfl) ON.out ?_)
      have RG2 : Hid (((w5.setCell ⟨w1.heap.size, 0, none⟩ (.int .i64 u)).setCells w.heap.size 0 C.toList).rangeAt w.heap.size 0 C.toList) := World.rangeAt_setCells_same (w5.setCell ⟨w1.heap.size, 0, none⟩ (.int .i64 u)) w.heap.size 0 C.toList (by simpa using TH.out)
      have HGS := Lib.hid (grown_setCells w.heap.size C.toList 0 (w5.setCell ⟨w1.heap.size, 0, none⟩ (.int .i64 u)))
      refine bodyPost_ret (v := .agg C) ?_ rfl ⟨⟨u, it, ins, outs, hids, steps⟩, .agg C, rfl, by have h9 := AB7.out.ret HGS.out; rw [← HC.out] at h9; exact h9, ⟨by simp only; omega, by simp only; omega, by simp only; omega, by simp only; omega⟩, (CU7.out.keep (B := P + 1) HGS.out (by omega) (fun q hq => by have h1 := Option.some.inj hq; omega)).mono (by omega), grown_past GR7.out HGS.out (Nat.le_refl _)⟩
      have hCx := HC.out
      subst hCx
      have HF := RG2.out
      have HC0 := HF 0 _ rfl
      have HC1 := HF 1 _ rfl
      have HC2' := HF 2 _ rfl
      have HC3 := HF 3 _ rfl
      have HC4 := HF 4 _ rfl
      have HC5 := HF 5 _ rfl
      simp only [Nat.zero_add] at HC0 HC1 HC2' HC3 HC4 HC5
      clear HF RG2 HGS HC
      simp [results, Tryz.results15, go_sem, HC0, HC1, HC2', HC3, HC4, HC5]
    · have e0 : (r == 0) = false := by simpa using h0
      by_cases h1 : r = 1
      · subst h1
        go_wp2_with fail
        refine (raw_any P (t + 322) _ CU3.out (by omega)).mono ?_
        rintro e w4 ⟨x, rfl, _, hcur4, hg4⟩
        have AB4 := Lib.hid (AB3.out.pick hg4)
        have CU4 := Lib.hid hcur4
        have GR4 := Lib.hid (grownBy_trans GR3.out hg4)
        have m0 := AB4.out.var.cell (j := 1) rfl
        have f0 := AB4.out.var.frozen 1
        have AB7 : Hid (AnyB (w4.setCell ⟨w1.heap.size, 1, none⟩ (.int .i64 x)) P w.heap.size w1.heap.size st x (.slice b2 n2 d2) (.slice b3 n3 d3) (.slice b4 n4 d4) (.slice b5 n5 d5) (n2) (n3) (n4) (n5) (ins) (outs) (hids) (steps)) := anyB_store AB4.out.hP AB4.out.hRA AB4.out.var AB4.out.res AB4.out.o2 AB4.out.o3 AB4.out.o4 AB4.out.o5 rfl
        have CU7 := Lib.hid (CU4.out.keep (B := P + 1) (grownBy_set w4 w1.heap.size 1 (.int .i64 x)) (by omega) (fun q hq => by have h1 := Option.some.inj hq; omega))
        have GR7 := Lib.hid (grown_past GR4.out (grownBy_set w4 w1.heap.size 1 (.int .i64 x)) (by omega))
        clear hcur4 hg4 AB3 CU3 GR3 AB4 CU4 GR4
        have lE2 := AB7.out.o2.length
        have lE3 := AB7.out.o3.length
        have lE4 := AB7.out.o4.length
        have lE5 := AB7.out.o5.length
        obtain ⟨C, hC⟩ : ∃ C : Array Value, C = #[.int .i64 st, .int .i64 x, .slice b2 n2 d2, .slice b3 n3 d3, .slice b4 n4 d4, .slice b5 n5 d5] := ⟨_, rfl⟩
        have HC := Lib.hid hC
        have VC : Hid (VarIs (w4.setCell ⟨w1.heap.size, 1, none⟩ (.int .i64 x)) w1.heap.size C 27) := by rw [hC]; exact AB7.out.var
        have hCl : C.toList.length = 6 := by rw [hC]; rfl
        have HCL := Lib.hid hCl
        have RG := Lib.hid VC.out.range
        have TH : Hid ((w4.setCell ⟨w1.heap.size, 1, none⟩ (.int .i64 x)).there w.heap.size 0 C.toList.toArray.size) := AB7.out.res.there (by rw [List.size_toArray, hCl]; rfl)
        have ON : Hid (C.toList.toArray.all (·.oneCell') = true) := by rw [hC]; exact six_one _ _ _ _ _ _ _ _ _ _ _ _ _ _
        clear hC hCl VC
        go_wp2_with (first | refine wpList_load_mid rfl _ _ rfl w1.heap.size 0 rfl C.toList _ RG.out Tryz.underlying27 rfl (by rw [HCL.out]; kernel_rfl) ?_ | refine wpList_store_mid rfl _ _ _ rfl w.heap.size 0 C.toList.toArray rfl rfl TH.out (by rw [List.size_toArray, HCL.out]; kernel_rfl) ON.out ?_)
        have RG2 : Hid (((w4.setCell ⟨w1.heap.size, 1, none⟩ (.int .i64 x)).setCells w.heap.size 0 C.toList).rangeAt w.heap.size 0 C.toList) := World.rangeAt_setCells_same (w4.setCell ⟨w1.heap.size, 1, none⟩ (.int .i64 x)) w.heap.size 0 C.toList (by simpa using TH.out)
        have HGS := Lib.hid (grown_setCells w.heap.size C.toList 0 (w4.setCell ⟨w1.heap.size, 1, none⟩ (.int .i64 x)))
        refine bodyPost_ret (v := .agg C) ?_ rfl ⟨⟨st, x, ins, outs, hids, steps⟩, .agg C, rfl, by have h9 := AB7.out.ret HGS.out; rw [← HC.out] at h9; exact h9, ⟨by simp only; omega, by simp only; omega, by simp only; omega, by simp only; omega⟩, (CU7.out.keep (B := P + 1) HGS.out (by omega) (fun q hq => by have h1 := Option.some.inj hq; omega)).mono (by omega), grown_past GR7.out HGS.out (Nat.le_refl _)⟩
        have hCx := HC.out
        subst hCx
        have HF := RG2.out
        have HC0 := HF 0 _ rfl
        have HC1 := HF 1 _ rfl
        have HC2' := HF 2 _ rfl
        have HC3 := HF 3 _ rfl
        have HC4 := HF 4 _ rfl
        have HC5 := HF 5 _ rfl
        simp only [Nat.zero_add] at HC0 HC1 HC2' HC3 HC4 HC5
        clear HF RG2 HGS HC
        simp [results, Tryz.results15, go_sem, HC0, HC1, HC2', HC3, HC4, HC5]
      · have e1 : (r == 1) = false := by simpa using h1
        by_cases h2 : r = 2
        · subst h2
          have AB4 : Hid (AnyB w3.drew P w.heap.size w1.heap.size st it (.slice b2 n2 d2) (.slice b3 n3 d3) (.slice b4 n4 d4) (.slice b5 n5 d5) (n2) (n3) (n4) (n5) (ins) (outs) (hids) (steps)) := AB3.out.below (Below.refl _ _).drew
          have CU4 : Hid (Cur w3.drew P (t + 322 + 0)) := CU3.out.below (Below.refl _ _).drew
          have GR4 : Hid (w.grownBy w3.drew (some P)) := grownBy_trans GR3.out (grownBy_drewN w3 1 _)
          go_wp2_with fail
          refine wp_region_held_drew (S := fun _ => True) (by kernel_rfl) trivial (fun hHeld => ?_)
          change wpAnyH _ _ _ _ _ 8 (Array.replicate 8 false) _ _
          refine take_op 0 33 (.pointer (some ⟨w1.heap.size, 2, none⟩)) (fuel := 7) rfl rfl (by kernel_rfl) (by kernel_rfl) (by kernel_rfl) (fun _ _ _ h => h) (by rfl) (fun w hSw => by go_simp) hHeld ?_
          simp only [Act.put, List.setIfInBounds_toArray, List.set_cons_zero, List.set_cons_succ]
          refine take_op 2 35 (.pointer (some ⟨P, 0, none⟩)) (fuel := 6) rfl rfl (by kernel_rfl) (by kernel_rfl) (by kernel_rfl) (fun _ _ _ h => h) (by rfl) (fun w hSw => by go_simp) hHeld ?_
          simp only [Act.put, List.setIfInBounds_toArray, List.set_cons_zero, List.set_cons_succ]
          refine wpAnyH_ready (rs := [1, 3]) (fuel := 5) (by kernel_rfl) (by simp) ?_
          refine AllReadyH.cons rfl (fun K hK => ?_) ?_
          · have m1 := AB4.out.var.cell (j := 2) rfl
            go_simp
            refine hK.out _ _ trivial (fun hHeld => ?_)
            clear hK K m1
            try simp only [Act.put, List.setIfInBounds_toArray, List.set_cons_zero, List.set_cons_succ]
            refine wpAnyH_ready (rs := [3]) (fuel := 4) (by kernel_rfl) (by simp) ?_
            refine AllReadyH.cons rfl (fun K hK => ?_) AllReadyH.nil
            go_simp
            refine (raw_any P (t + 322 + 0) _ CU4.out (by omega)).mono ?_
            rintro e wp2 ⟨r2, rfl, _, hcur, hg⟩
            have ab2 := Lib.hid (AB4.out.pick hg)
            have cu2 := Lib.hid hcur
            have gr2 := Lib.hid (grownBy_trans GR4.out hg)
            clear hcur hg
            go_wp2_with fail
            refine hK.out _ _ trivial (fun hHeld => ?_)
            clear hK K
            refine wpAnyH_ready (rs := [4]) (fuel := 3) (by kernel_rfl) (by simp) ?_
            refine AllReadyH.cons rfl (fun K hK => ?_) AllReadyH.nil
            have ab3 : Hid (AnyB (wp2.alloc (.cells #[.int .i64 r2] 3)) P w.heap.size w1.heap.size st it (.slice b2 n2 d2) (.slice b3 n3 d3) (.slice b4 n4 d4) (.slice b5 n5 d5) (n2) (n3) (n4) (n5) (ins) (outs) (hids) (steps)) := ab2.out.below ((Below.refl _ wp2).alloc (Nat.le_refl _) (.cells #[.int .i64 r2] 3))
            have cu3 := Lib.hid (cu2.out.below ((Below.refl _ wp2).alloc (Nat.le_refl _) (.cells #[.int .i64 r2] 3)))
            have gr3 := Lib.hid (grownBy_trans gr2.out (grown_of_below ((Below.refl _ wp2).alloc (Nat.le_refl _) (.cells #[.int .i64 r2] 3)) _))
            have HB9 : Hid (w.heap.size + 1 ≤ (wp2.alloc (.cells #[.int .i64 r2] 3)).heap.size) := by have h1 := ab2.out.var.lt; have h2 := ab2.out.hRA; simp [Hid]; omega
            have SN : Hid (∀ j u, ([r2].map (Value.int .i64))[j]? = some u → (wp2.alloc (.cells #[.int .i64 r2] 3)).cell? ((⟨wp2.heap.size, 0, none⟩ : Addr).add j) = some u) := fun j u hu => by
              have hv : VarIs (wp2.alloc (.cells #[.int .i64 r2] 3)) wp2.heap.size #[.int .i64 r2] 3 := VarIs.new wp2 #[.int .i64 r2] 3 rfl
              rw [add_lit, Nat.zero_add]
              exact hv.cell (by simpa using hu)
            go_simp
            refine hK.out _ _ trivial (fun hHeld => ?_)
            clear hK K
            try simp only [Act.put, List.setIfInBounds_toArray, List.set_cons_zero, List.set_cons_succ]
            refine wpAnyH_ready (rs := [5]) (fuel := 2) (by kernel_rfl) (by simp) ?_
            refine AllReadyH.cons rfl (fun K hK => ?_) AllReadyH.nil
            refine step_append_lies _ rfl (.tmp 34) (.tmp 37) 24 rfl (w.heap.size + 1) 3 i0 (.int .i64 0) 1 8 Tryz.underlying24 hi hz0 hz1 hz2 rfl (by decide) (.slice b2 n2 d2) n2 (ins.map (Value.int .i64)) rfl ab3.out.o2 ⟨wp2.heap.size, 0, none⟩ 1 1 ([r2].map (Value.int .i64)) rfl rfl SN.out (ints_oneCell _ _) (by decide) (by unfold maxLen; omega) (by omega) HB9.out _ rfl ?_
            intro g cap w9 hown hgrow hlies hlt
            refine hK.out _ _ trivial (fun hHeld => ?_)
            clear hK K
            simp only [Act.put, List.setIfInBounds_toArray]
            have bl : ∀ q, (.slice b2 n2 d2 : Value).ownBlock = some q → w.heap.size + 1 ≤ q := fun q hq => (ab3.out.o2.lt q hq).1
            have va9 := ab3.out.var.grown hgrow (fun e => own_ne ab3.out.o2 ab3.out.var (by decide) e.symm)
            have re9 := ab3.out.res.grown hgrow (fun e => by have := bl _ e.symm; omega)
            have q3 := ab3.out.o3.keep hgrow (fun k hk e => by have := (D2.out k e.symm).1; exact this hk)
            have q4 := ab3.out.o4.keep hgrow (fun k hk e => by have := (D2.out k e.symm).2.1; exact this hk)
            have q5 := ab3.out.o5.keep hgrow (fun k hk e => by have := (D2.out k e.symm).2.2; exact this hk)
            have CU8 := Lib.hid (cu3.out.keep (B := P + 1) hgrow (by omega) (fun q hq => by have := bl q hq; omega))
            have GR8 := Lib.hid (grownBy_own2 gr3.out hgrow (fun q hq => by have := bl q hq; omega))
            have AB9 : Hid (AnyB (w9.setCell ⟨w1.heap.size, 2, none⟩ (.slice (some ⟨g, 0, none⟩) (n2 + 1) cap)) P w.heap.size w1.heap.size st it (.slice (some ⟨g, 0, none⟩) (n2 + 1) cap) (.slice b3 n3 d3) (.slice b4 n4 d4) (.slice b5 n5 d5) (n2 + 1) (n3) (n4) (n5) (ins ++ [r2]) (outs) (hids) (steps)) := anyB_store ab3.out.hP ab3.out.hRA va9 re9 (by unfold Owns; rw [List.map_append]; exact hown) q3 q4 q5 rfl
            have CU9 := Lib.hid (CU8.out.keep (B := P + 1) (grownBy_set w9 w1.heap.size 2 (.slice (some ⟨g, 0, none⟩) (n2 + 1) cap)) (by omega) (fun q hq => by have h1 := Option.some.inj hq; omega))
            have GR9 := Lib.hid (grown_past GR8.out (grownBy_set w9 w1.heap.size 2 (.slice (some ⟨g, 0, none⟩) (n2 + 1) cap)) (by omega))
            have m9 := va9.cell (j := 2) rfl
            have f9 := va9.frozen 2
            clear hown hgrow hlies hlt
            refine take_op 6 39 (.pointer (some ⟨w1.heap.size, 2, none⟩)) (fuel := 1) rfl rfl (by kernel_rfl) (by kernel_rfl) (by kernel_rfl) (fun _ _ _ h => h) (by rfl) (fun w hSw => by go_simp) hHeld ?_
            simp only [Act.put]
            refine wpAnyH_ready (rs := [7]) (fuel := 0) (by kernel_rfl) (by simp) ?_
            refine AllReadyH.cons rfl (fun K hK => ?_) AllReadyH.nil
            go_simp
            refine hK.out _ _ trivial (fun hHeld => ?_)
            clear hK K
            refine wpAnyH_done (by kernel_rfl) ?_ _
            clear m9 f9 va9 re9 hHeld CU8 GR8
            have lE2 := AB9.out.o2.length
            have lE3 := AB9.out.o3.length
            have lE4 := AB9.out.o4.length
            have lE5 := AB9.out.o5.length
            obtain ⟨C, hC⟩ : ∃ C : Array Value, C = #[.int .i64 st, .int .i64 it, .slice (some ⟨g, 0, none⟩) (n2 + 1) cap, .slice b3 n3 d3, .slice b4 n4 d4, .slice b5 n5 d5] := ⟨_, rfl⟩
            have HC := Lib.hid hC
            have VC : Hid (VarIs (w9.setCell ⟨w1.heap.size, 2, none⟩ (.slice (some ⟨g, 0, none⟩) (n2 + 1) cap)) w1.heap.size C 27) := by rw [hC]; exact AB9.out.var
            have hCl : C.toList.length = 6 := by rw [hC]; rfl
            have HCL := Lib.hid hCl
            have RG := Lib.hid VC.out.range
            have TH : Hid ((w9.setCell ⟨w1.heap.size, 2, none⟩ (.slice (some ⟨g, 0, none⟩) (n2 + 1) cap)).there w.heap.size 0 C.toList.toArray.size) := AB9.out.res.there (by rw [List.size_toArray, hCl]; rfl)
            have ON : Hid (C.toList.toArray.all (·.oneCell') = true) := by rw [hC]; exact six_one _ _ _ _ _ _ _ _ _ _ _ _ _ _
            clear hC hCl VC
            go_wp2_with (first | refine wpList_load_mid rfl _ _ rfl w1.heap.size 0 rfl C.toList _ RG.out Tryz.underlying27 rfl (by rw [HCL.out]; kernel_rfl) ?_ | refine wpList_store_mid rfl _ _ _ rfl w.heap.size 0 C.toList.toArray rfl rfl TH.out (by rw [List.size_toArray, HCL.out]; kernel_rfl) ON.out ?_)
            have RG2 : Hid (((w9.setCell ⟨w1.heap.size, 2, none⟩ (.slice (some ⟨g, 0, none⟩) (n2 + 1) cap)).setCells w.heap.size 0 C.toList).rangeAt w.heap.size 0 C.toList) := World.rangeAt_setCells_same (w9.setCell ⟨w1.heap.size, 2, none⟩ (.slice (some ⟨g, 0, none⟩) (n2 + 1) cap)) w.heap.size 0 C.toList (by simpa using TH.out)
            have HGS := Lib.hid (grown_setCells w.heap.size C.toList 0 (w9.setCell ⟨w1.heap.size, 2, none⟩ (.slice (some ⟨g, 0, none⟩) (n2 + 1) cap)))
            refine bodyPost_ret (v := .agg C) ?_ rfl ⟨⟨st, it, ins ++ [r2], outs, hids, steps⟩, .agg C, rfl, by have h9 := AB9.out.ret HGS.out; rw [← HC.out] at h9; exact h9, ⟨by simp only; omega, by simp only; omega, by simp only; omega, by simp only; omega⟩, (CU9.out.keep (B := P + 1) HGS.out (by omega) (fun q hq => by have h1 := Option.some.inj hq; omega)).mono (by omega), grown_past GR9.out HGS.out (Nat.le_refl _)⟩
            have hCx := HC.out
            subst hCx
            have HF := RG2.out
            have HC0 := HF 0 _ rfl
            have HC1 := HF 1 _ rfl
            have HC2' := HF 2 _ rfl
            have HC3 := HF 3 _ rfl
            have HC4 := HF 4 _ rfl
            have HC5 := HF 5 _ rfl
            simp only [Nat.zero_add] at HC0 HC1 HC2' HC3 HC4 HC5
            clear HF RG2 HGS HC
            simp [results, Tryz.results15, go_sem, HC0, HC1, HC2', HC3, HC4, HC5]
          refine AllReadyH.cons rfl (fun K hK => ?_) AllReadyH.nil
          go_simp
          refine (raw_any P (t + 322 + 0) _ CU4.out (by omega)).mono ?_
          rintro e wp4 ⟨r4, rfl, _, hcur, hg⟩
          have ab4 := Lib.hid (AB4.out.pick hg)
          have cu4 := Lib.hid hcur
          have gr4 := Lib.hid (grownBy_trans GR4.out hg)
          clear hcur hg
          go_wp2_with fail
          refine hK.out _ _ trivial (fun hHeld => ?_)
          clear hK K
          refine wpAnyH_ready (rs := [1, 4]) (fuel := 4) (by kernel_rfl) (by simp) ?_
          refine AllReadyH.cons rfl (fun K hK => ?_) ?_
          · have m5 := ab4.out.var.cell (j := 2) rfl
            go_simp
            refine hK.out _ _ trivial (fun hHeld => ?_)
            clear hK K m5
            try simp only [Act.put, List.setIfInBounds_toArray, List.set_cons_zero, List.set_cons_succ]
            refine wpAnyH_ready (rs := [4]) (fuel := 3) (by kernel_rfl) (by simp) ?_
            refine AllReadyH.cons rfl (fun K hK => ?_) AllReadyH.nil
            have ab6 : Hid (AnyB (wp4.alloc (.cells #[.int .i64 r4] 3)) P w.heap.size w1.heap.size st it (.slice b2 n2 d2) (.slice b3 n3 d3) (.slice b4 n4 d4) (.slice b5 n5 d5) (n2) (n3) (n4) (n5) (ins) (outs) (hids) (steps)) := ab4.out.below ((Below.refl _ wp4).alloc (Nat.le_refl _) (.cells #[.int .i64 r4] 3))
            have cu6 := Lib.hid (cu4.out.below ((Below.refl _ wp4).alloc (Nat.le_refl _) (.cells #[.int .i64 r4] 3)))
            have gr6 := Lib.hid (grownBy_trans gr4.out (grown_of_below ((Below.refl _ wp4).alloc (Nat.le_refl _) (.cells #[.int .i64 r4] 3)) _))
            have HB9 : Hid (w.heap.size + 1 ≤ (wp4.alloc (.cells #[.int .i64 r4] 3)).heap.size) := by have h1 := ab4.out.var.lt; have h2 := ab4.out.hRA; simp [Hid]; omega
            have SN : Hid (∀ j u, ([r4].map (Value.int .i64))[j]? = some u → (wp4.alloc (.cells #[.int .i64 r4] 3)).cell? ((⟨wp4.heap.size, 0, none⟩ : Addr).add j) = some u) := fun j u hu => by
              have hv : VarIs (wp4.alloc (.cells #[.int .i64 r4] 3)) wp4.heap.size #[.int .i64 r4] 3 := VarIs.new wp4 #[.int .i64 r4] 3 rfl
              rw [add_lit, Nat.zero_add]
              exact hv.cell (by simpa using hu)
            go_simp
            refine hK.out _ _ trivial (fun hHeld => ?_)
            clear hK K
            try simp only [Act.put, List.setIfInBounds_toArray, List.set_cons_zero, List.set_cons_succ]
            refine wpAnyH_ready (rs := [5]) (fuel := 2) (by kernel_rfl) (by simp) ?_
            refine AllReadyH.cons rfl (fun K hK => ?_) AllReadyH.nil
            refine step_append_lies _ rfl (.tmp 34) (.tmp 37) 24 rfl (w.heap.size + 1) 3 i0 (.int .i64 0) 1 8 Tryz.underlying24 hi hz0 hz1 hz2 rfl (by decide) (.slice b2 n2 d2) n2 (ins.map (Value.int .i64)) rfl ab6.out.o2 ⟨wp4.heap.size, 0, none⟩ 1 1 ([r4].map (Value.int .i64)) rfl rfl SN.out (ints_oneCell _ _) (by decide) (by unfold maxLen; omega) (by omega) HB9.out _ rfl ?_
            intro g cap w9 hown hgrow hlies hlt
            refine hK.out _ _ trivial (fun hHeld => ?_)
            clear hK K
            simp only [Act.put, List.setIfInBounds_toArray]
            have bl : ∀ q, (.slice b2 n2 d2 : Value).ownBlock = some q → w.heap.size + 1 ≤ q := fun q hq => (ab6.out.o2.lt q hq).1
            have va9 := ab6.out.var.grown hgrow (fun e => own_ne ab6.out.o2 ab6.out.var (by decide) e.symm)
            have re9 := ab6.out.res.grown hgrow (fun e => by have := bl _ e.symm; omega)
            have q3 := ab6.out.o3.keep hgrow (fun k hk e => by have := (D2.out k e.symm).1; exact this hk)
            have q4 := ab6.out.o4.keep hgrow (fun k hk e => by have := (D2.out k e.symm).2.1; exact this hk)
            have q5 := ab6.out.o5.keep hgrow (fun k hk e => by have := (D2.out k e.symm).2.2; exact this hk)
            have CU8 := Lib.hid (cu6.out.keep (B := P + 1) hgrow (by omega) (fun q hq => by have := bl q hq; omega))
            have GR8 := Lib.hid (grownBy_own2 gr6.out hgrow (fun q hq => by have := bl q hq; omega))
            have AB9 : Hid (AnyB (w9.setCell ⟨w1.heap.size, 2, none⟩ (.slice (some ⟨g, 0, none⟩) (n2 + 1) cap)) P w.heap.size w1.heap.size st it (.slice (some ⟨g, 0, none⟩) (n2 + 1) cap) (.slice b3 n3 d3) (.slice b4 n4 d4) (.slice b5 n5 d5) (n2 + 1) (n3) (n4) (n5) (ins ++ [r4]) (outs) (hids) (steps)) := anyB_store ab6.out.hP ab6.out.hRA va9 re9 (by unfold Owns; rw [List.map_append]; exact hown) q3 q4 q5 rfl
            have CU9 := Lib.hid (CU8.out.keep (B := P + 1) (grownBy_set w9 w1.heap.size 2 (.slice (some ⟨g, 0, none⟩) (n2 + 1) cap)) (by omega) (fun q hq => by have h1 := Option.some.inj hq; omega))
            have GR9 := Lib.hid (grown_past GR8.out (grownBy_set w9 w1.heap.size 2 (.slice (some ⟨g, 0, none⟩) (n2 + 1) cap)) (by omega))
            have m9 := va9.cell (j := 2) rfl
            have f9 := va9.frozen 2
            clear hown hgrow hlies hlt
            refine take_op 6 39 (.pointer (some ⟨w1.heap.size, 2, none⟩)) (fuel := 1) rfl rfl (by kernel_rfl) (by kernel_rfl) (by kernel_rfl) (fun _ _ _ h => h) (by rfl) (fun w hSw => by go_simp) hHeld ?_
            simp only [Act.put]
            refine wpAnyH_ready (rs := [7]) (fuel := 0) (by kernel_rfl) (by simp) ?_
            refine AllReadyH.cons rfl (fun K hK => ?_) AllReadyH.nil
            go_simp
            refine hK.out _ _ trivial (fun hHeld => ?_)
            clear hK K
            refine wpAnyH_done (by kernel_rfl) ?_ _
            clear m9 f9 va9 re9 hHeld CU8 GR8
            have lE2 := AB9.out.o2.length
            have lE3 := AB9.out.o3.length
            have lE4 := AB9.out.o4.length
            have lE5 := AB9.out.o5.length
            obtain ⟨C, hC⟩ : ∃ C : Array Value, C = #[.int .i64 st, .int .i64 it, .slice (some ⟨g, 0, none⟩) (n2 + 1) cap, .slice b3 n3 d3, .slice b4 n4 d4, .slice b5 n5 d5] := ⟨_, rfl⟩
            have HC := Lib.hid hC
            have VC : Hid (VarIs (w9.setCell ⟨w1.heap.size, 2, none⟩ (.slice (some ⟨g, 0, none⟩) (n2 + 1) cap)) w1.heap.size C 27) := by rw [hC]; exact AB9.out.var
            have hCl : C.toList.length = 6 := by rw [hC]; rfl
            have HCL := Lib.hid hCl
            have RG := Lib.hid VC.out.range
            have TH : Hid ((w9.setCell ⟨w1.heap.size, 2, none⟩ (.slice (some ⟨g, 0, none⟩) (n2 + 1) cap)).there w.heap.size 0 C.toList.toArray.size) := AB9.out.res.there (by rw [List.size_toArray, hCl]; rfl)
            have ON : Hid (C.toList.toArray.all (·.oneCell') = true) := by rw [hC]; exact six_one _ _ _ _ _ _ _ _ _ _ _ _ _ _
            clear hC hCl VC
            go_wp2_with (first | refine wpList_load_mid rfl _ _ rfl w1.heap.size 0 rfl C.toList _ RG.out Tryz.underlying27 rfl (by rw [HCL.out]; kernel_rfl) ?_ | refine wpList_store_mid rfl _ _ _ rfl w.heap.size 0 C.toList.toArray rfl rfl TH.out (by rw [List.size_toArray, HCL.out]; kernel_rfl) ON.out ?_)
            have RG2 : Hid (((w9.setCell ⟨w1.heap.size, 2, none⟩ (.slice (some ⟨g, 0, none⟩) (n2 + 1) cap)).setCells w.heap.size 0 C.toList).rangeAt w.heap.size 0 C.toList) := World.rangeAt_setCells_same (w9.setCell ⟨w1.heap.size, 2, none⟩ (.slice (some ⟨g, 0, none⟩) (n2 + 1) cap)) w.heap.size 0 C.toList (by simpa using TH.out)
            have HGS := Lib.hid (grown_setCells w.heap.size C.toList 0 (w9.setCell ⟨w1.heap.size, 2, none⟩ (.slice (some ⟨g, 0, none⟩) (n2 + 1) cap)))
            refine bodyPost_ret (v := .agg C) ?_ rfl ⟨⟨st, it, ins ++ [r4], outs, hids, steps⟩, .agg C, rfl, by have h9 := AB9.out.ret HGS.out; rw [← HC.out] at h9; exact h9, ⟨by simp only; omega, by simp only; omega, by simp only; omega, by simp only; omega⟩, (CU9.out.keep (B := P + 1) HGS.out (by omega) (fun q hq => by have h1 := Option.some.inj hq; omega)).mono (by omega), grown_past GR9.out HGS.out (Nat.le_refl _)⟩
            have hCx := HC.out
            subst hCx
            have HF := RG2.out
            have HC0 := HF 0 _ rfl
            have HC1 := HF 1 _ rfl
            have HC2' := HF 2 _ rfl
            have HC3 := HF 3 _ rfl
            have HC4 := HF 4 _ rfl
            have HC5 := HF 5 _ rfl
            simp only [Nat.zero_add] at HC0 HC1 HC2' HC3 HC4 HC5
            clear HF RG2 HGS HC
            simp [results, Tryz.results15, go_sem, HC0, HC1, HC2', HC3, HC4, HC5]
          refine AllReadyH.cons rfl (fun K hK => ?_) AllReadyH.nil
          have ab7 : Hid (AnyB (wp4.alloc (.cells #[.int .i64 r4] 3)) P w.heap.size w1.heap.size st it (.slice b2 n2 d2) (.slice b3 n3 d3) (.slice b4 n4 d4) (.slice b5 n5 d5) (n2) (n3) (n4) (n5) (ins) (outs) (hids) (steps)) := ab4.out.below ((Below.refl _ wp4).alloc (Nat.le_refl _) (.cells #[.int .i64 r4] 3))
          have cu7 := Lib.hid (cu4.out.below ((Below.refl _ wp4).alloc (Nat.le_refl _) (.cells #[.int .i64 r4] 3)))
          have gr7 := Lib.hid (grownBy_trans gr4.out (grown_of_below ((Below.refl _ wp4).alloc (Nat.le_refl _) (.cells #[.int .i64 r4] 3)) _))
          have HB9 : Hid (w.heap.size + 1 ≤ (wp4.alloc (.cells #[.int .i64 r4] 3)).heap.size) := by have h1 := ab4.out.var.lt; have h2 := ab4.out.hRA; simp [Hid]; omega
          have SN : Hid (∀ j u, ([r4].map (Value.int .i64))[j]? = some u → (wp4.alloc (.cells #[.int .i64 r4] 3)).cell? ((⟨wp4.heap.size, 0, none⟩ : Addr).add j) = some u) := fun j u hu => by
            have hv : VarIs (wp4.alloc (.cells #[.int .i64 r4] 3)) wp4.heap.size #[.int .i64 r4] 3 := VarIs.new wp4 #[.int .i64 r4] 3 rfl
            rw [add_lit, Nat.zero_add]
            exact hv.cell (by simpa using hu)
          go_simp
          refine hK.out _ _ trivial (fun hHeld => ?_)
          clear hK K
          try simp only [Act.put, List.setIfInBounds_toArray, List.set_cons_zero, List.set_cons_succ]
          refine wpAnyH_ready (rs := [1]) (fuel := 3) (by kernel_rfl) (by simp) ?_
          refine AllReadyH.cons rfl (fun K hK => ?_) AllReadyH.nil
          have m8 := ab7.out.var.cell (j := 2) rfl
          go_simp
          refine hK.out _ _ trivial (fun hHeld => ?_)
          clear hK K m8
          try simp only [Act.put, List.setIfInBounds_toArray, List.set_cons_zero, List.set_cons_succ]
          refine wpAnyH_ready (rs := [5]) (fuel := 2) (by kernel_rfl) (by simp) ?_
          refine AllReadyH.cons rfl (fun K hK => ?_) AllReadyH.nil
          refine step_append_lies _ rfl (.tmp 34) (.tmp 37) 24 rfl (w.heap.size + 1) 3 i0 (.int .i64 0) 1 8 Tryz.underlying24 hi hz0 hz1 hz2 rfl (by decide) (.slice b2 n2 d2) n2 (ins.map (Value.int .i64)) rfl ab7.out.o2 ⟨wp4.heap.size, 0, none⟩ 1 1 ([r4].map (Value.int .i64)) rfl rfl SN.out (ints_oneCell _ _) (by decide) (by unfold maxLen; omega) (by omega) HB9.out _ rfl ?_
          intro g cap w9 hown hgrow hlies hlt
          refine hK.out _ _ trivial (fun hHeld => ?_)
          clear hK K
          simp only [Act.put, List.setIfInBounds_toArray]
          have bl : ∀ q, (.slice b2 n2 d2 : Value).ownBlock = some q → w.heap.size + 1 ≤ q := fun q hq => (ab7.out.o2.lt q hq).1
          have va9 := ab7.out.var.grown hgrow (fun e => own_ne ab7.out.o2 ab7.out.var (by decide) e.symm)
          have re9 := ab7.out.res.grown hgrow (fun e => by have := bl _ e.symm; omega)
          have q3 := ab7.out.o3.keep hgrow (fun k hk e => by have := (D2.out k e.symm).1; exact this hk)
          have q4 := ab7.out.o4.keep hgrow (fun k hk e => by have := (D2.out k e.symm).2.1; exact this hk)
          have q5 := ab7.out.o5.keep hgrow (fun k hk e => by have := (D2.out k e.symm).2.2; exact this hk)
          have CU8 := Lib.hid (cu7.out.keep (B := P + 1) hgrow (by omega) (fun q hq => by have := bl q hq; omega))
          have GR8 := Lib.hid (grownBy_own2 gr7.out hgrow (fun q hq => by have := bl q hq; omega))
          have AB9 : Hid (AnyB (w9.setCell ⟨w1.heap.size, 2, none⟩ (.slice (some ⟨g, 0, none⟩) (n2 + 1) cap)) P w.heap.size w1.heap.size st it (.slice (some ⟨g, 0, none⟩) (n2 + 1) cap) (.slice b3 n3 d3) (.slice b4 n4 d4) (.slice b5 n5 d5) (n2 + 1) (n3) (n4) (n5) (ins ++ [r4]) (outs) (hids) (steps)) := anyB_store ab7.out.hP ab7.out.hRA va9 re9 (by unfold Owns; rw [List.map_append]; exact hown) q3 q4 q5 rfl
          have CU9 := Lib.hid (CU8.out.keep (B := P + 1) (grownBy_set w9 w1.heap.size 2 (.slice (some ⟨g, 0, none⟩) (n2 + 1) cap)) (by omega) (fun q hq => by have h1 := Option.some.inj hq; omega))
          have GR9 := Lib.hid (grown_past GR8.out (grownBy_set w9 w1.heap.size 2 (.slice (some ⟨g, 0, none⟩) (n2 + 1) cap)) (by omega))
          have m9 := va9.cell (j := 2) rfl
          have f9 := va9.frozen 2
          clear hown hgrow hlies hlt
          refine take_op 6 39 (.pointer (some ⟨w1.heap.size, 2, none⟩)) (fuel := 1) rfl rfl (by kernel_rfl) (by kernel_rfl) (by kernel_rfl) (fun _ _ _ h => h) (by rfl) (fun w hSw => by go_simp) hHeld ?_
          simp only [Act.put]
          refine wpAnyH_ready (rs := [7]) (fuel := 0) (by kernel_rfl) (by simp) ?_
          refine AllReadyH.cons rfl (fun K hK => ?_) AllReadyH.nil
          go_simp
          refine hK.out _ _ trivial (fun hHeld => ?_)
          clear hK K
          refine wpAnyH_done (by kernel_rfl) ?_ _
          clear m9 f9 va9 re9 hHeld CU8 GR8
          have lE2 := AB9.out.o2.length
          have lE3 := AB9.out.o3.length
          have lE4 := AB9.out.o4.length
          have lE5 := AB9.out.o5.length
          obtain ⟨C, hC⟩ : ∃ C : Array Value, C = #[.int .i64 st, .int .i64 it, .slice (some ⟨g, 0, none⟩) (n2 + 1) cap, .slice b3 n3 d3, .slice b4 n4 d4, .slice b5 n5 d5] := ⟨_, rfl⟩
          have HC := Lib.hid hC
          have VC : Hid (VarIs (w9.setCell ⟨w1.heap.size, 2, none⟩ (.slice (some ⟨g, 0, none⟩) (n2 + 1) cap)) w1.heap.size C 27) := by rw [hC]; exact AB9.out.var
          have hCl : C.toList.length = 6 := by rw [hC]; rfl
          have HCL := Lib.hid hCl
          have RG := Lib.hid VC.out.range
          have TH : Hid ((w9.setCell ⟨w1.heap.size, 2, none⟩ (.slice (some ⟨g, 0, none⟩) (n2 + 1) cap)).there w.heap.size 0 C.toList.toArray.size) := AB9.out.res.there (by rw [List.size_toArray, hCl]; rfl)
          have ON : Hid (C.toList.toArray.all (·.oneCell') = true) := by rw [hC]; exact six_one _ _ _ _ _ _ _ _ _ _ _ _ _ _
          clear hC hCl VC
          go_wp2_with (first | refine wpList_load_mid rfl _ _ rfl w1.heap.size 0 rfl C.toList _ RG.out Tryz.underlying27 rfl (by rw [HCL.out]; kernel_rfl) ?_ | refine wpList_store_mid rfl _ _ _ rfl w.heap.size 0 C.toList.toArray rfl rfl TH.out (by rw [List.size_toArray, HCL.out]; kernel_rfl) ON.out ?_)
          have RG2 : Hid (((w9.setCell ⟨w1.heap.size, 2, none⟩ (.slice (some ⟨g, 0, none⟩) (n2 + 1) cap)).setCells w.heap.size 0 C.toList).rangeAt w.heap.size 0 C.toList) := World.rangeAt_setCells_same (w9.setCell ⟨w1.heap.size, 2, none⟩ (.slice (some ⟨g, 0, none⟩) (n2 + 1) cap)) w.heap.size 0 C.toList (by simpa using TH.out)
          have HGS := Lib.hid (grown_setCells w.heap.size C.toList 0 (w9.setCell ⟨w1.heap.size, 2, none⟩ (.slice (some ⟨g, 0, none⟩) (n2 + 1) cap)))
          refine bodyPost_ret (v := .agg C) ?_ rfl ⟨⟨st, it, ins ++ [r4], outs, hids, steps⟩, .agg C, rfl, by have h9 := AB9.out.ret HGS.out; rw [← HC.out] at h9; exact h9, ⟨by simp only; omega, by simp only; omega, by simp only; omega, by simp only; omega⟩, (CU9.out.keep (B := P + 1) HGS.out (by omega) (fun q hq => by have h1 := Option.some.inj hq; omega)).mono (by omega), grown_past GR9.out HGS.out (Nat.le_refl _)⟩
          have hCx := HC.out
          subst hCx
          have HF := RG2.out
          have HC0 := HF 0 _ rfl
          have HC1 := HF 1 _ rfl
          have HC2' := HF 2 _ rfl
          have HC3 := HF 3 _ rfl
          have HC4 := HF 4 _ rfl
          have HC5 := HF 5 _ rfl
          simp only [Nat.zero_add] at HC0 HC1 HC2' HC3 HC4 HC5
          clear HF RG2 HGS HC
          simp [results, Tryz.results15, go_sem, HC0, HC1, HC2', HC3, HC4, HC5]
        · have e2 : (r == 2) = false := by simpa using h2
          by_cases h3 : r = 3
          · subst h3
            have AB4 : Hid (AnyB w3.drew P w.heap.size w1.heap.size st it (.slice b2 n2 d2) (.slice b3 n3 d3) (.slice b4 n4 d4) (.slice b5 n5 d5) (n2) (n3) (n4) (n5) (ins) (outs) (hids) (steps)) := AB3.out.below (Below.refl _ _).drew
            have CU4 : Hid (Cur w3.drew P (t + 322 + 0)) := CU3.out.below (Below.refl _ _).drew
            have GR4 : Hid (w.grownBy w3.drew (some P)) := grownBy_trans GR3.out (grownBy_drewN w3 1 _)
            go_wp2_with fail
            refine wp_region_held_drew (S := fun _ => True) (by kernel_rfl) trivial (fun hHeld => ?_)
            change wpAnyH _ _ _ _ _ 13 (Array.replicate 13 false) _ _
            refine take_op 0 42 (.pointer (some ⟨w1.heap.size, 5, none⟩)) (fuel := 12) rfl rfl (by kernel_rfl) (by kernel_rfl) (by kernel_rfl) (fun _ _ _ h => h) (by rfl) (fun w hSw => by go_simp) hHeld ?_
            simp only [Act.put, List.setIfInBounds_toArray, List.set_cons_zero, List.set_cons_succ]
            refine take_op 2 44 (.pointer (some ⟨P, 0, none⟩)) (fuel := 11) rfl rfl (by kernel_rfl) (by kernel_rfl) (by kernel_rfl) (fun _ _ _ h => h) (by rfl) (fun w hSw => by go_simp) hHeld ?_
            simp only [Act.put, List.setIfInBounds_toArray, List.set_cons_zero, List.set_cons_succ]
            refine take_op 4 46 (.pointer (some ⟨P, 0, none⟩)) (fuel := 10) rfl rfl (by kernel_rfl) (by kernel_rfl) (by kernel_rfl) (fun _ _ _ h => h) (by rfl) (fun w hSw => by go_simp) hHeld ?_
            simp only [Act.put, List.setIfInBounds_toArray, List.set_cons_zero, List.set_cons_succ]
            refine take_op 6 48 (.pointer (some ⟨P, 0, none⟩)) (fuel := 9) rfl rfl (by kernel_rfl) (by kernel_rfl) (by kernel_rfl) (fun _ _ _ h => h) (by rfl) (fun w hSw => by go_simp) hHeld ?_
            simp only [Act.put, List.setIfInBounds_toArray, List.set_cons_zero, List.set_cons_succ]
            refine wpAnyH_ready (rs := [1, 3]) (fuel := 8) (by kernel_rfl) (by simp) ?_
            refine AllReadyH.cons rfl (fun K hK => ?_) ?_
            · have m9 := AB4.out.var.cell (j := 5) rfl
              go_simp
              refine hK.out _ _ trivial (fun hHeld => ?_)
              clear hK K m9
              try simp only [Act.put, List.setIfInBounds_toArray, List.set_cons_zero, List.set_cons_succ]
              refine wpAnyH_ready (rs := [3]) (fuel := 7) (by kernel_rfl) (by simp) ?_
              refine AllReadyH.cons rfl (fun K hK => ?_) AllReadyH.nil
              go_simp
              refine (pick_any P (t + 322 + 0) 3 _ CU4.out (by omega) (by omega) (by omega)).mono ?_
              rintro e wp10 ⟨r10, rfl, _, _, hcur, hg⟩
              have ab10 := Lib.hid (AB4.out.pick hg)
              have cu10 := Lib.hid hcur
              have gr10 := Lib.hid (grownBy_trans GR4.out hg)
              clear hcur hg
              go_wp2_with fail
              refine hK.out _ _ trivial (fun hHeld => ?_)
              clear hK K
              refine wpAnyH_ready (rs := [5]) (fuel := 6) (by kernel_rfl) (by simp) ?_
              refine AllReadyH.cons rfl (fun K hK => ?_) AllReadyH.nil
              go_simp
              refine (pick_any P (t + 322 + 1) 6 _ cu10.out (by omega) (by omega) (by omega)).mono ?_
              rintro e wp11 ⟨r11, rfl, _, _, hcur, hg⟩
              have ab11 := Lib.hid (ab10.out.pick hg)
              have cu11 := Lib.hid hcur
              have gr11 := Lib.hid (grownBy_trans gr10.out hg)
              clear hcur hg
              go_wp2_with fail
              refine hK.out _ _ trivial (fun hHeld => ?_)
              clear hK K
              refine wpAnyH_ready (rs := [7]) (fuel := 5) (by kernel_rfl) (by simp) ?_
              refine AllReadyH.cons rfl (fun K hK => ?_) AllReadyH.nil
              go_simp
              refine (raw_any P (t + 322 + 2) _ cu11.out (by omega)).mono ?_
              rintro e wp12 ⟨r12, rfl, _, hcur, hg⟩
              have ab12 := Lib.hid (ab11.out.pick hg)
              have cu12 := Lib.hid hcur
              have gr12 := Lib.hid (grownBy_trans gr11.out hg)
              clear hcur hg
              go_wp2_with fail
              refine hK.out _ _ trivial (fun hHeld => ?_)
              clear hK K
              refine take_op 8 50 (.agg #[.int .i64 r10, .int .i64 r11, .int .i64 r12]) (fuel := 4) rfl rfl (by kernel_rfl) (by kernel_rfl) (by kernel_rfl) (fun _ _ _ h => h) (by rfl) (fun w hSw => by go_simp) hHeld ?_
              simp only [Act.put, List.setIfInBounds_toArray, List.set_cons_zero, List.set_cons_succ]
              refine wpAnyH_ready (rs := [9]) (fuel := 3) (by kernel_rfl) (by simp) ?_
              refine AllReadyH.cons rfl (fun K hK => ?_) AllReadyH.nil
              have ab13 : Hid (AnyB (wp12.alloc (.cells #[.int .i64 r10, .int .i64 r11, .int .i64 r12] 47)) P w.heap.size w1.heap.size st it (.slice b2 n2 d2) (.slice b3 n3 d3) (.slice b4 n4 d4) (.slice b5 n5 d5) (n2) (n3) (n4) (n5) (ins) (outs) (hids) (steps)) := ab12.out.below ((Below.refl _ wp12).alloc (Nat.le_refl _) (.cells #[.int .i64 r10, .int .i64 r11, .int .i64 r12] 47))
              have cu13 := Lib.hid (cu12.out.below ((Below.refl _ wp12).alloc (Nat.le_refl _) (.cells #[.int .i64 r10, .int .i64 r11, .int .i64 r12] 47)))
              have gr13 := Lib.hid (grownBy_trans gr12.out (grown_of_below ((Below.refl _ wp12).alloc (Nat.le_refl _) (.cells #[.int .i64 r10, .int .i64 r11, .int .i64 r12] 47)) _))
              have HB9 : Hid (w.heap.size + 1 ≤ (wp12.alloc (.cells #[.int .i64 r10, .int .i64 r11, .int .i64 r12] 47)).heap.size) := by have h1 := ab12.out.var.lt; have h2 := ab12.out.hRA; simp [Hid]; omega
              have SN : Hid (∀ j u, (flat [(r10, r11, r12)])[j]? = some u → (wp12.alloc (.cells #[.int .i64 r10, .int .i64 r11, .int .i64 r12] 47)).cell? ((⟨wp12.heap.size, 0, none⟩ : Addr).add j) = some u) := fun j u hu => by
                have hv : VarIs (wp12.alloc (.cells #[.int .i64 r10, .int .i64 r11, .int .i64 r12] 47)) wp12.heap.size #[.int .i64 r10, .int .i64 r11, .int .i64 r12] 47 := VarIs.new wp12 #[.int .i64 r10, .int .i64 r11, .int .i64 r12] 47 rfl
                rw [add_lit, Nat.zero_add]
                exact hv.cell (by simpa [flat, stCells] using hu)
              go_simp
              refine hK.out _ _ trivial (fun hHeld => ?_)
              clear hK K
              try simp only [Act.put, List.setIfInBounds_toArray, List.set_cons_zero, List.set_cons_succ]
              refine wpAnyH_ready (rs := [10]) (fuel := 2) (by kernel_rfl) (by simp) ?_
              refine AllReadyH.cons rfl (fun K hK => ?_) AllReadyH.nil
              refine step_append_lies _ rfl (.tmp 43) (.tmp 51) 25 rfl (w.heap.size + 1) 47 i1 (.agg #[.int .i64 0, .int .i64 0, .int .i64 0]) 3 24 Tryz.underlying25 hi1 hy0 hy1 hy2 rfl (by decide) (.slice b5 n5 d5) n5 (flat steps) rfl ab13.out.o5 ⟨wp12.heap.size, 0, none⟩ 1 1 (flat [(r10, r11, r12)]) rfl rfl SN.out (flat_one _) (by decide) (by unfold maxLen; omega) (by omega) HB9.out _ rfl ?_
              intro g cap w9 hown hgrow hlies hlt
              refine hK.out _ _ trivial (fun hHeld => ?_)
              clear hK K
              simp only [Act.put, List.setIfInBounds_toArray]
              have bl : ∀ q, (.slice b5 n5 d5 : Value).ownBlock = some q → w.heap.size + 1 ≤ q := fun q hq => (ab13.out.o5.lt q hq).1
              have va9 := ab13.out.var.grown hgrow (fun e => own_ne ab13.out.o5 ab13.out.var (by decide) e.symm)
              have re9 := ab13.out.res.grown hgrow (fun e => by have := bl _ e.symm; omega)
              have q2 := ab13.out.o2.keep hgrow (fun k hk e => (D2.out k hk).2.2 e.symm)
              have q3 := ab13.out.o3.keep hgrow (fun k hk e => (D3.out k hk).2 e.symm)
              have q4 := ab13.out.o4.keep hgrow (fun k hk e => D4.out k hk e.symm)
              have CU8 := Lib.hid (cu13.out.keep (B := P + 1) hgrow (by omega) (fun q hq => by have := bl q hq; omega))
              have GR8 := Lib.hid (grownBy_own2 gr13.out hgrow (fun q hq => by have := bl q hq; omega))
              have AB9 : Hid (AnyB (w9.setCell ⟨w1.heap.size, 5, none⟩ (.slice (some ⟨g, 0, none⟩) (n5 + 1) cap)) P w.heap.size w1.heap.size st it (.slice b2 n2 d2) (.slice b3 n3 d3) (.slice b4 n4 d4) (.slice (some ⟨g, 0, none⟩) (n5 + 1) cap) (n2) (n3) (n4) (n5 + 1) (ins) (outs) (hids) (steps ++ [(r10, r11, r12)])) := anyB_store ab13.out.hP ab13.out.hRA va9 re9 q2 q3 q4 (by unfold OwnsS; rw [flat_append]; exact hown) rfl
              have CU9 := Lib.hid (CU8.out.keep (B := P + 1) (grownBy_set w9 w1.heap.size 5 (.slice (some ⟨g, 0, none⟩) (n5 + 1) cap)) (by omega) (fun q hq => by have h1 := Option.some.inj hq; omega))
              have GR9 := Lib.hid (grown_past GR8.out (grownBy_set w9 w1.heap.size 5 (.slice (some ⟨g, 0, none⟩) (n5 + 1) cap)) (by omega))
              have m9 := va9.cell (j := 5) rfl
              have f9 := va9.frozen 5
              clear hown hgrow hlies hlt
              refine take_op 11 53 (.pointer (some ⟨w1.heap.size, 5, none⟩)) (fuel := 1) rfl rfl (by kernel_rfl) (by kernel_rfl) (by kernel_rfl) (fun _ _ _ h => h) (by rfl) (fun w hSw => by go_simp) hHeld ?_
              simp only [Act.put]
              refine wpAnyH_ready (rs := [12]) (fuel := 0) (by kernel_rfl) (by simp) ?_
              refine AllReadyH.cons rfl (fun K hK => ?_) AllReadyH.nil
              go_simp
              refine hK.out _ _ trivial (fun hHeld => ?_)
              clear hK K
              refine wpAnyH_done (by kernel_rfl) ?_ _
              clear m9 f9 va9 re9 hHeld CU8 GR8
              have lE2 := AB9.out.o2.length
              have lE3 := AB9.out.o3.length
              have lE4 := AB9.out.o4.length
              have lE5 := AB9.out.o5.length
              obtain ⟨C, hC⟩ : ∃ C : Array Value, C = #[.int .i64 st, .int .i64 it, .slice b2 n2 d2, .slice b3 n3 d3, .slice b4 n4 d4, .slice (some ⟨g, 0, none⟩) (n5 + 1) cap] := ⟨_, rfl⟩
              have HC := Lib.hid hC
              have VC : Hid (VarIs (w9.setCell ⟨w1.heap.size, 5, none⟩ (.slice (some ⟨g, 0, none⟩) (n5 + 1) cap)) w1.heap.size C 27) := by rw [hC]; exact AB9.out.var
              have hCl : C.toList.length = 6 := by rw [hC]; rfl
              have HCL := Lib.hid hCl
              have RG := Lib.hid VC.out.range
              have TH : Hid ((w9.setCell ⟨w1.heap.size, 5, none⟩ (.slice (some ⟨g, 0, none⟩) (n5 + 1) cap)).there w.heap.size 0 C.toList.toArray.size) := AB9.out.res.there (by rw [List.size_toArray, hCl]; rfl)
              have ON : Hid (C.toList.toArray.all (·.oneCell') = true) := by rw [hC]; exact six_one _ _ _ _ _ _ _ _ _ _ _ _ _ _
              clear hC hCl VC
              go_wp2_with (first | refine wpList_load_mid rfl _ _ rfl w1.heap.size 0 rfl C.toList _ RG.out Tryz.underlying27 rfl (by rw [HCL.out]; kernel_rfl) ?_ | refine wpList_store_mid rfl _ _ _ rfl w.heap.size 0 C.toList.toArray rfl rfl TH.out (by rw [List.size_toArray, HCL.out]; kernel_rfl) ON.out ?_)
              have RG2 : Hid (((w9.setCell ⟨w1.heap.size, 5, none⟩ (.slice (some ⟨g, 0, none⟩) (n5 + 1) cap)).setCells w.heap.size 0 C.toList).rangeAt w.heap.size 0 C.toList) := World.rangeAt_setCells_same (w9.setCell ⟨w1.heap.size, 5, none⟩ (.slice (some ⟨g, 0, none⟩) (n5 + 1) cap)) w.heap.size 0 C.toList (by simpa using TH.out)
              have HGS := Lib.hid (grown_setCells w.heap.size C.toList 0 (w9.setCell ⟨w1.heap.size, 5, none⟩ (.slice (some ⟨g, 0, none⟩) (n5 + 1) cap)))
              refine bodyPost_ret (v := .agg C) ?_ rfl ⟨⟨st, it, ins, outs, hids, steps ++ [(r10, r11, r12)]⟩, .agg C, rfl, by have h9 := AB9.out.ret HGS.out; rw [← HC.out] at h9; exact h9, ⟨by simp only; omega, by simp only; omega, by simp only; omega, by simp only; omega⟩, (CU9.out.keep (B := P + 1) HGS.out (by omega) (fun q hq => by have h1 := Option.some.inj hq; omega)).mono (by omega), grown_past GR9.out HGS.out (Nat.le_refl _)⟩
              have hCx := HC.out
              subst hCx
              have HF := RG2.out
              have HC0 := HF 0 _ rfl
              have HC1 := HF 1 _ rfl
              have HC2' := HF 2 _ rfl
              have HC3 := HF 3 _ rfl
              have HC4 := HF 4 _ rfl
              have HC5 := HF 5 _ rfl
              simp only [Nat.zero_add] at HC0 HC1 HC2' HC3 HC4 HC5
              clear HF RG2 HGS HC
              simp [results, Tryz.results15, go_sem, HC0, HC1, HC2', HC3, HC4, HC5]
            refine AllReadyH.cons rfl (fun K hK => ?_) AllReadyH.nil
            go_simp
            refine (pick_any P (t + 322 + 0) 3 _ CU4.out (by omega) (by omega) (by omega)).mono ?_
            rintro e wp14 ⟨r14, rfl, _, _, hcur, hg⟩
            have ab14 := Lib.hid (AB4.out.pick hg)
            have cu14 := Lib.hid hcur
            have gr14 := Lib.hid (grownBy_trans GR4.out hg)
            clear hcur hg
            go_wp2_with fail
            refine hK.out _ _ trivial (fun hHeld => ?_)
            clear hK K
            refine wpAnyH_ready (rs := [1, 5]) (fuel := 7) (by kernel_rfl) (by simp) ?_
            refine AllReadyH.cons rfl (fun K hK => ?_) ?_
            · have m15 := ab14.out.var.cell (j := 5) rfl
              go_simp
              refine hK.out _ _ trivial (fun hHeld => ?_)
              clear hK K m15
              try simp only [Act.put, List.setIfInBounds_toArray, List.set_cons_zero, List.set_cons_succ]
              refine wpAnyH_ready (rs := [5]) (fuel := 6) (by kernel_rfl) (by simp) ?_
              refine AllReadyH.cons rfl (fun K hK => ?_) AllReadyH.nil
              go_simp
              refine (pick_any P (t + 322 + 1) 6 _ cu14.out (by omega) (by omega) (by omega)).mono ?_
              rintro e wp16 ⟨r16, rfl, _, _, hcur, hg⟩
              have ab16 := Lib.hid (ab14.out.pick hg)
              have cu16 := Lib.hid hcur
              have gr16 := Lib.hid (grownBy_trans gr14.out hg)
              clear hcur hg
              go_wp2_with fail
              refine hK.out _ _ trivial (fun hHeld => ?_)
              clear hK K
              refine wpAnyH_ready (rs := [7]) (fuel := 5) (by kernel_rfl) (by simp) ?_
              refine AllReadyH.cons rfl (fun K hK => ?_) AllReadyH.nil
              go_simp
              refine (raw_any P (t + 322 + 2) _ cu16.out (by omega)).mono ?_
              rintro e wp17 ⟨r17, rfl, _, hcur, hg⟩
              have ab17 := Lib.hid (ab16.out.pick hg)
              have cu17 := Lib.hid hcur
              have gr17 := Lib.hid (grownBy_trans gr16.out hg)
              clear hcur hg
              go_wp2_with fail
              refine hK.out _ _ trivial (fun hHeld => ?_)
              clear hK K
              refine take_op 8 50 (.agg #[.int .i64 r14, .int .i64 r16, .int .i64 r17]) (fuel := 4) rfl rfl (by kernel_rfl) (by kernel_rfl) (by kernel_rfl) (fun _ _ _ h => h) (by rfl) (fun w hSw => by go_simp) hHeld ?_
              simp only [Act.put, List.setIfInBounds_toArray, List.set_cons_zero, List.set_cons_succ]
              refine wpAnyH_ready (rs := [9]) (fuel := 3) (by kernel_rfl) (by simp) ?_
              refine AllReadyH.cons rfl (fun K hK => ?_) AllReadyH.nil
              have ab18 : Hid (AnyB (wp17.alloc (.cells #[.int .i64 r14, .int .i64 r16, .int .i64 r17] 47)) P w.heap.size w1.heap.size st it (.slice b2 n2 d2) (.slice b3 n3 d3) (.slice b4 n4 d4) (.slice b5 n5 d5) (n2) (n3) (n4) (n5) (ins) (outs) (hids) (steps)) := ab17.out.below ((Below.refl _ wp17).alloc (Nat.le_refl _) (.cells #[.int .i64 r14, .int .i64 r16, .int .i64 r17] 47))
              have cu18 := Lib.hid (cu17.out.below ((Below.refl _ wp17).alloc (Nat.le_refl _) (.cells #[.int .i64 r14, .int .i64 r16, .int .i64 r17] 47)))
              have gr18 := Lib.hid (grownBy_trans gr17.out (grown_of_below ((Below.refl _ wp17).alloc (Nat.le_refl _) (.cells #[.int .i64 r14, .int .i64 r16, .int .i64 r17] 47)) _))
              have HB9 : Hid (w.heap.size + 1 ≤ (wp17.alloc (.cells #[.int .i64 r14, .int .i64 r16, .int .i64 r17] 47)).heap.size) := by have h1 := ab17.out.var.lt; have h2 := ab17.out.hRA; simp [Hid]; omega
              have SN : Hid (∀ j u, (flat [(r14, r16, r17)])[j]? = some u → (wp17.alloc (.cells #[.int .i64 r14, .int .i64 r16, .int .i64 r17] 47)).cell? ((⟨wp17.heap.size, 0, none⟩ : Addr).add j) = some u) := fun j u hu => by
                have hv : VarIs (wp17.alloc (.cells #[.int .i64 r14, .int .i64 r16, .int .i64 r17] 47)) wp17.heap.size #[.int .i64 r14, .int .i64 r16, .int .i64 r17] 47 := VarIs.new wp17 #[.int .i64 r14, .int .i64 r16, .int .i64 r17] 47 rfl
                rw [add_lit, Nat.zero_add]
                exact hv.cell (by simpa [flat, stCells] using hu)
              go_simp
              refine hK.out _ _ trivial (fun hHeld => ?_)
              clear hK K
              try simp only [Act.put, List.setIfInBounds_toArray, List.set_cons_zero, List.set_cons_succ]
              refine wpAnyH_ready (rs := [10]) (fuel := 2) (by kernel_rfl) (by simp) ?_
              refine AllReadyH.cons rfl (fun K hK => ?_) AllReadyH.nil
              refine step_append_lies _ rfl (.tmp 43) (.tmp 51) 25 rfl (w.heap.size + 1) 47 i1 (.agg #[.int .i64 0, .int .i64 0, .int .i64 0]) 3 24 Tryz.underlying25 hi1 hy0 hy1 hy2 rfl (by decide) (.slice b5 n5 d5) n5 (flat steps) rfl ab18.out.o5 ⟨wp17.heap.size, 0, none⟩ 1 1 (flat [(r14, r16, r17)]) rfl rfl SN.out (flat_one _) (by decide) (by unfold maxLen; omega) (by omega) HB9.out _ rfl ?_
              intro g cap w9 hown hgrow hlies hlt
              refine hK.out _ _ trivial (fun hHeld => ?_)
              clear hK K
              simp only [Act.put, List.setIfInBounds_toArray]
              have bl : ∀ q, (.slice b5 n5 d5 : Value).ownBlock = some q → w.heap.size + 1 ≤ q := fun q hq => (ab18.out.o5.lt q hq).1
              have va9 := ab18.out.var.grown hgrow (fun e => own_ne ab18.out.o5 ab18.out.var (by decide) e.symm)
              have re9 := ab18.out.res.grown hgrow (fun e => by have := bl _ e.symm; omega)
              have q2 := ab18.out.o2.keep hgrow (fun k hk e => (D2.out k hk).2.2 e.symm)
              have q3 := ab18.out.o3.keep hgrow (fun k hk e => (D3.out k hk).2 e.symm)
              have q4 := ab18.out.o4.keep hgrow (fun k hk e => D4.out k hk e.symm)
              have CU8 := Lib.hid (cu18.out.keep (B := P + 1) hgrow (by omega) (fun q hq => by have := bl q hq; omega))
              have GR8 := Lib.hid (grownBy_own2 gr18.out hgrow (fun q hq => by have := bl q hq; omega))
              have AB9 : Hid (AnyB (w9.setCell ⟨w1.heap.size, 5, none⟩ (.slice (some ⟨g, 0, none⟩) (n5 + 1) cap)) P w.heap.size w1.heap.size st it (.slice b2 n2 d2) (.slice b3 n3 d3) (.slice b4 n4 d4) (.slice (some ⟨g, 0, none⟩) (n5 + 1) cap) (n2) (n3) (n4) (n5 + 1) (ins) (outs) (hids) (steps ++ [(r14, r16, r17)])) := anyB_store ab18.out.hP ab18.out.hRA va9 re9 q2 q3 q4 (by unfold OwnsS; rw [flat_append]; exact hown) rfl
              have CU9 := Lib.hid (CU8.out.keep (B := P + 1) (grownBy_set w9 w1.heap.size 5 (.slice (some ⟨g, 0, none⟩) (n5 + 1) cap)) (by omega) (fun q hq => by have h1 := Option.some.inj hq; omega))
              have GR9 := Lib.hid (grown_past GR8.out (grownBy_set w9 w1.heap.size 5 (.slice (some ⟨g, 0, none⟩) (n5 + 1) cap)) (by omega))
              have m9 := va9.cell (j := 5) rfl
              have f9 := va9.frozen 5
              clear hown hgrow hlies hlt
              refine take_op 11 53 (.pointer (some ⟨w1.heap.size, 5, none⟩)) (fuel := 1) rfl rfl (by kernel_rfl) (by kernel_rfl) (by kernel_rfl) (fun _ _ _ h => h) (by rfl) (fun w hSw => by go_simp) hHeld ?_
              simp only [Act.put]
              refine wpAnyH_ready (rs := [12]) (fuel := 0) (by kernel_rfl) (by simp) ?_
              refine AllReadyH.cons rfl (fun K hK => ?_) AllReadyH.nil
              go_simp
              refine hK.out _ _ trivial (fun hHeld => ?_)
              clear hK K
              refine wpAnyH_done (by kernel_rfl) ?_ _
              clear m9 f9 va9 re9 hHeld CU8 GR8
              have lE2 := AB9.out.o2.length
              have lE3 := AB9.out.o3.length
              have lE4 := AB9.out.o4.length
              have lE5 := AB9.out.o5.length
              obtain ⟨C, hC⟩ : ∃ C : Array Value, C = #[.int .i64 st, .int .i64 it, .slice b2 n2 d2, .slice b3 n3 d3, .slice b4 n4 d4, .slice (some ⟨g, 0, none⟩) (n5 + 1) cap] := ⟨_, rfl⟩
              have HC := Lib.hid hC
              have VC : Hid (VarIs (w9.setCell ⟨w1.heap.size, 5, none⟩ (.slice (some ⟨g, 0, none⟩) (n5 + 1) cap)) w1.heap.size C 27) := by rw [hC]; exact AB9.out.var
              have hCl : C.toList.length = 6 := by rw [hC]; rfl
              have HCL := Lib.hid hCl
              have RG := Lib.hid VC.out.range
              have TH : Hid ((w9.setCell ⟨w1.heap.size, 5, none⟩ (.slice (some ⟨g, 0, none⟩) (n5 + 1) cap)).there w.heap.size 0 C.toList.toArray.size) := AB9.out.res.there (by rw [List.size_toArray, hCl]; rfl)
              have ON : Hid (C.toList.toArray.all (·.oneCell') = true) := by rw [hC]; exact six_one _ _ _ _ _ _ _ _ _ _ _ _ _ _
              clear hC hCl VC
              go_wp2_with (first | refine wpList_load_mid rfl _ _ rfl w1.heap.size 0 rfl C.toList _ RG.out Tryz.underlying27 rfl (by rw [HCL.out]; kernel_rfl) ?_ | refine wpList_store_mid rfl _ _ _ rfl w.heap.size 0 C.toList.toArray rfl rfl TH.out (by rw [List.size_toArray, HCL.out]; kernel_rfl) ON.out ?_)
              have RG2 : Hid (((w9.setCell ⟨w1.heap.size, 5, none⟩ (.slice (some ⟨g, 0, none⟩) (n5 + 1) cap)).setCells w.heap.size 0 C.toList).rangeAt w.heap.size 0 C.toList) := World.rangeAt_setCells_same (w9.setCell ⟨w1.heap.size, 5, none⟩ (.slice (some ⟨g, 0, none⟩) (n5 + 1) cap)) w.heap.size 0 C.toList (by simpa using TH.out)
              have HGS := Lib.hid (grown_setCells w.heap.size C.toList 0 (w9.setCell ⟨w1.heap.size, 5, none⟩ (.slice (some ⟨g, 0, none⟩) (n5 + 1) cap)))
              refine bodyPost_ret (v := .agg C) ?_ rfl ⟨⟨st, it, ins, outs, hids, steps ++ [(r14, r16, r17)]⟩, .agg C, rfl, by have h9 := AB9.out.ret HGS.out; rw [← HC.out] at h9; exact h9, ⟨by simp only; omega, by simp only; omega, by simp only; omega, by simp only; omega⟩, (CU9.out.keep (B := P + 1) HGS.out (by omega) (fun q hq => by have h1 := Option.some.inj hq; omega)).mono (by omega), grown_past GR9.out HGS.out (Nat.le_refl _)⟩
              have hCx := HC.out
              subst hCx
              have HF := RG2.out
              have HC0 := HF 0 _ rfl
              have HC1 := HF 1 _ rfl
              have HC2' := HF 2 _ rfl
              have HC3 := HF 3 _ rfl
              have HC4 := HF 4 _ rfl
              have HC5 := HF 5 _ rfl
              simp only [Nat.zero_add] at HC0 HC1 HC2' HC3 HC4 HC5
              clear HF RG2 HGS HC
              simp [results, Tryz.results15, go_sem, HC0, HC1, HC2', HC3, HC4, HC5]
            refine AllReadyH.cons rfl (fun K hK => ?_) AllReadyH.nil
            go_simp
            refine (pick_any P (t + 322 + 1) 6 _ cu14.out (by omega) (by omega) (by omega)).mono ?_
            rintro e wp19 ⟨r19, rfl, _, _, hcur, hg⟩
            have ab19 := Lib.hid (ab14.out.pick hg)
            have cu19 := Lib.hid hcur
            have gr19 := Lib.hid (grownBy_trans gr14.out hg)
            clear hcur hg
            go_wp2_with fail
            refine hK.out _ _ trivial (fun hHeld => ?_)
            clear hK K
            refine wpAnyH_ready (rs := [1, 7]) (fuel := 6) (by kernel_rfl) (by simp) ?_
            refine AllReadyH.cons rfl (fun K hK => ?_) ?_
            · have m20 := ab19.out.var.cell (j := 5) rfl
              go_simp
              refine hK.out _ _ trivial (fun hHeld => ?_)
              clear hK K m20
              try simp only [Act.put, List.setIfInBounds_toArray, List.set_cons_zero, List.set_cons_succ]
              refine wpAnyH_ready (rs := [7]) (fuel := 5) (by kernel_rfl) (by simp) ?_
              refine AllReadyH.cons rfl (fun K hK => ?_) AllReadyH.nil
              go_simp
              refine (raw_any P (t + 322 + 2) _ cu19.out (by omega)).mono ?_
              rintro e wp21 ⟨r21, rfl, _, hcur, hg⟩
              have ab21 := Lib.hid (ab19.out.pick hg)
              have cu21 := Lib.hid hcur
              have gr21 := Lib.hid (grownBy_trans gr19.out hg)
              clear hcur hg
              go_wp2_with fail
              refine hK.out _ _ trivial (fun hHeld => ?_)
              clear hK K
              refine take_op 8 50 (.agg #[.int .i64 r14, .int .i64 r19, .int .i64 r21]) (fuel := 4) rfl rfl (by kernel_rfl) (by kernel_rfl) (by kernel_rfl) (fun _ _ _ h => h) (by rfl) (fun w hSw => by go_simp) hHeld ?_
              simp only [Act.put, List.setIfInBounds_toArray, List.set_cons_zero, List.set_cons_succ]
              refine wpAnyH_ready (rs := [9]) (fuel := 3) (by kernel_rfl) (by simp) ?_
              refine AllReadyH.cons rfl (fun K hK => ?_) AllReadyH.nil
              have ab22 : Hid (AnyB (wp21.alloc (.cells #[.int .i64 r14, .int .i64 r19, .int .i64 r21] 47)) P w.heap.size w1.heap.size st it (.slice b2 n2 d2) (.slice b3 n3 d3) (.slice b4 n4 d4) (.slice b5 n5 d5) (n2) (n3) (n4) (n5) (ins) (outs) (hids) (steps)) := ab21.out.below ((Below.refl _ wp21).alloc (Nat.le_refl _) (.cells #[.int .i64 r14, .int .i64 r19, .int .i64 r21] 47))
              have cu22 := Lib.hid (cu21.out.below ((Below.refl _ wp21).alloc (Nat.le_refl _) (.cells #[.int .i64 r14, .int .i64 r19, .int .i64 r21] 47)))
              have gr22 := Lib.hid (grownBy_trans gr21.out (grown_of_below ((Below.refl _ wp21).alloc (Nat.le_refl _) (.cells #[.int .i64 r14, .int .i64 r19, .int .i64 r21] 47)) _))
              have HB9 : Hid (w.heap.size + 1 ≤ (wp21.alloc (.cells #[.int .i64 r14, .int .i64 r19, .int .i64 r21] 47)).heap.size) := by have h1 := ab21.out.var.lt; have h2 := ab21.out.hRA; simp [Hid]; omega
              have SN : Hid (∀ j u, (flat [(r14, r19, r21)])[j]? = some u → (wp21.alloc (.cells #[.int .i64 r14, .int .i64 r19, .int .i64 r21] 47)).cell? ((⟨wp21.heap.size, 0, none⟩ : Addr).add j) = some u) := fun j u hu => by
                have hv : VarIs (wp21.alloc (.cells #[.int .i64 r14, .int .i64 r19, .int .i64 r21] 47)) wp21.heap.size #[.int .i64 r14, .int .i64 r19, .int .i64 r21] 47 := VarIs.new wp21 #[.int .i64 r14, .int .i64 r19, .int .i64 r21] 47 rfl
                rw [add_lit, Nat.zero_add]
                exact hv.cell (by simpa [flat, stCells] using hu)
              go_simp
              refine hK.out _ _ trivial (fun hHeld => ?_)
              clear hK K
              try simp only [Act.put, List.setIfInBounds_toArray, List.set_cons_zero, List.set_cons_succ]
              refine wpAnyH_ready (rs := [10]) (fuel := 2) (by kernel_rfl) (by simp) ?_
              refine AllReadyH.cons rfl (fun K hK => ?_) AllReadyH.nil
              refine step_append_lies _ rfl (.tmp 43) (.tmp 51) 25 rfl (w.heap.size + 1) 47 i1 (.agg #[.int .i64 0, .int .i64 0, .int .i64 0]) 3 24 Tryz.underlying25 hi1 hy0 hy1 hy2 rfl (by decide) (.slice b5 n5 d5) n5 (flat steps) rfl ab22.out.o5 ⟨wp21.heap.size, 0, none⟩ 1 1 (flat [(r14, r19, r21)]) rfl rfl SN.out (flat_one _) (by decide) (by unfold maxLen; omega) (by omega) HB9.out _ rfl ?_
              intro g cap w9 hown hgrow hlies hlt
              refine hK.out _ _ trivial (fun hHeld => ?_)
              clear hK K
              simp only [Act.put, List.setIfInBounds_toArray]
              have bl : ∀ q, (.slice b5 n5 d5 : Value).ownBlock = some q → w.heap.size + 1 ≤ q := fun q hq => (ab22.out.o5.lt q hq).1
              have va9 := ab22.out.var.grown hgrow (fun e => own_ne ab22.out.o5 ab22.out.var (by decide) e.symm)
              have re9 := ab22.out.res.grown hgrow (fun e => by have := bl _ e.symm; omega)
              have q2 := ab22.out.o2.keep hgrow (fun k hk e => (D2.out k hk).2.2 e.symm)
              have q3 := ab22.out.o3.keep hgrow (fun k hk e => (D3.out k hk).2 e.symm)
              have q4 := ab22.out.o4.keep hgrow (fun k hk e => D4.out k hk e.symm)
              have CU8 := Lib.hid (cu22.out.keep (B := P + 1) hgrow (by omega) (fun q hq => by have := bl q hq; omega))
              have GR8 := Lib.hid (grownBy_own2 gr22.out hgrow (fun q hq => by have := bl q hq; omega))
              have AB9 : Hid (AnyB (w9.setCell ⟨w1.heap.size, 5, none⟩ (.slice (some ⟨g, 0, none⟩) (n5 + 1) cap)) P w.heap.size w1.heap.size st it (.slice b2 n2 d2) (.slice b3 n3 d3) (.slice b4 n4 d4) (.slice (some ⟨g, 0, none⟩) (n5 + 1) cap) (n2) (n3) (n4) (n5 + 1) (ins) (outs) (hids) (steps ++ [(r14, r19, r21)])) := anyB_store ab22.out.hP ab22.out.hRA va9 re9 q2 q3 q4 (by unfold OwnsS; rw [flat_append]; exact hown) rfl
              have CU9 := Lib.hid (CU8.out.keep (B := P + 1) (grownBy_set w9 w1.heap.size 5 (.slice (some ⟨g, 0, none⟩) (n5 + 1) cap)) (by omega) (fun q hq => by have h1 := Option.some.inj hq; omega))
              have GR9 := Lib.hid (grown_past GR8.out (grownBy_set w9 w1.heap.size 5 (.slice (some ⟨g, 0, none⟩) (n5 + 1) cap)) (by omega))
              have m9 := va9.cell (j := 5) rfl
              have f9 := va9.frozen 5
              clear hown hgrow hlies hlt
              refine take_op 11 53 (.pointer (some ⟨w1.heap.size, 5, none⟩)) (fuel := 1) rfl rfl (by kernel_rfl) (by kernel_rfl) (by kernel_rfl) (fun _ _ _ h => h) (by rfl) (fun w hSw => by go_simp) hHeld ?_
              simp only [Act.put]
              refine wpAnyH_ready (rs := [12]) (fuel := 0) (by kernel_rfl) (by simp) ?_
              refine AllReadyH.cons rfl (fun K hK => ?_) AllReadyH.nil
              go_simp
              refine hK.out _ _ trivial (fun hHeld => ?_)
              clear hK K
              refine wpAnyH_done (by kernel_rfl) ?_ _
              clear m9 f9 va9 re9 hHeld CU8 GR8
              have lE2 := AB9.out.o2.length
              have lE3 := AB9.out.o3.length
              have lE4 := AB9.out.o4.length
              have lE5 := AB9.out.o5.length
              obtain ⟨C, hC⟩ : ∃ C : Array Value, C = #[.int .i64 st, .int .i64 it, .slice b2 n2 d2, .slice b3 n3 d3, .slice b4 n4 d4, .slice (some ⟨g, 0, none⟩) (n5 + 1) cap] := ⟨_, rfl⟩
              have HC := Lib.hid hC
              have VC : Hid (VarIs (w9.setCell ⟨w1.heap.size, 5, none⟩ (.slice (some ⟨g, 0, none⟩) (n5 + 1) cap)) w1.heap.size C 27) := by rw [hC]; exact AB9.out.var
              have hCl : C.toList.length = 6 := by rw [hC]; rfl
              have HCL := Lib.hid hCl
              have RG := Lib.hid VC.out.range
              have TH : Hid ((w9.setCell ⟨w1.heap.size, 5, none⟩ (.slice (some ⟨g, 0, none⟩) (n5 + 1) cap)).there w.heap.size 0 C.toList.toArray.size) := AB9.out.res.there (by rw [List.size_toArray, hCl]; rfl)
              have ON : Hid (C.toList.toArray.all (·.oneCell') = true) := by rw [hC]; exact six_one _ _ _ _ _ _ _ _ _ _ _ _ _ _
              clear hC hCl VC
              go_wp2_with (first | refine wpList_load_mid rfl _ _ rfl w1.heap.size 0 rfl C.toList _ RG.out Tryz.underlying27 rfl (by rw [HCL.out]; kernel_rfl) ?_ | refine wpList_store_mid rfl _ _ _ rfl w.heap.size 0 C.toList.toArray rfl rfl TH.out (by rw [List.size_toArray, HCL.out]; kernel_rfl) ON.out ?_)
              have RG2 : Hid (((w9.setCell ⟨w1.heap.size, 5, none⟩ (.slice (some ⟨g, 0, none⟩) (n5 + 1) cap)).setCells w.heap.size 0 C.toList).rangeAt w.heap.size 0 C.toList) := World.rangeAt_setCells_same (w9.setCell ⟨w1.heap.size, 5, none⟩ (.slice (some ⟨g, 0, none⟩) (n5 + 1) cap)) w.heap.size 0 C.toList (by simpa using TH.out)
              have HGS := Lib.hid (grown_setCells w.heap.size C.toList 0 (w9.setCell ⟨w1.heap.size, 5, none⟩ (.slice (some ⟨g, 0, none⟩) (n5 + 1) cap)))
              refine bodyPost_ret (v := .agg C) ?_ rfl ⟨⟨st, it, ins, outs, hids, steps ++ [(r14, r19, r21)]⟩, .agg C, rfl, by have h9 := AB9.out.ret HGS.out; rw [← HC.out] at h9; exact h9, ⟨by simp only; omega, by simp only; omega, by simp only; omega, by simp only; omega⟩, (CU9.out.keep (B := P + 1) HGS.out (by omega) (fun q hq => by have h1 := Option.some.inj hq; omega)).mono (by omega), grown_past GR9.out HGS.out (Nat.le_refl _)⟩
              have hCx := HC.out
              subst hCx
              have HF := RG2.out
              have HC0 := HF 0 _ rfl
              have HC1 := HF 1 _ rfl
              have HC2' := HF 2 _ rfl
              have HC3 := HF 3 _ rfl
              have HC4 := HF 4 _ rfl
              have HC5 := HF 5 _ rfl
              simp only [Nat.zero_add] at HC0 HC1 HC2' HC3 HC4 HC5
              clear HF RG2 HGS HC
              simp [results, Tryz.results15, go_sem, HC0, HC1, HC2', HC3, HC4, HC5]
            refine AllReadyH.cons rfl (fun K hK => ?_) AllReadyH.nil
            go_simp
            refine (raw_any P (t + 322 + 2) _ cu19.out (by omega)).mono ?_
            rintro e wp23 ⟨r23, rfl, _, hcur, hg⟩
            have ab23 := Lib.hid (ab19.out.pick hg)
            have cu23 := Lib.hid hcur
            have gr23 := Lib.hid (grownBy_trans gr19.out hg)
            clear hcur hg
            go_wp2_with fail
            refine hK.out _ _ trivial (fun hHeld => ?_)
            clear hK K
            refine take_op 8 50 (.agg #[.int .i64 r14, .int .i64 r19, .int .i64 r23]) (fuel := 5) rfl rfl (by kernel_rfl) (by kernel_rfl) (by kernel_rfl) (fun _ _ _ h => h) (by rfl) (fun w hSw => by go_simp) hHeld ?_
            simp only [Act.put, List.setIfInBounds_toArray, List.set_cons_zero, List.set_cons_succ]
            refine wpAnyH_ready (rs := [1, 9]) (fuel := 4) (by kernel_rfl) (by simp) ?_
            refine AllReadyH.cons rfl (fun K hK => ?_) ?_
            · have m24 := ab23.out.var.cell (j := 5) rfl
              go_simp
              refine hK.out _ _ trivial (fun hHeld => ?_)
              clear hK K m24
              try simp only [Act.put, List.setIfInBounds_toArray, List.set_cons_zero, List.set_cons_succ]
              refine wpAnyH_ready (rs := [9]) (fuel := 3) (by kernel_rfl) (by simp) ?_
              refine AllReadyH.cons rfl (fun K hK => ?_) AllReadyH.nil
              have ab25 : Hid (AnyB (wp23.alloc (.cells #[.int .i64 r14, .int .i64 r19, .int .i64 r23] 47)) P w.heap.size w1.heap.size st it (.slice b2 n2 d2) (.slice b3 n3 d3) (.slice b4 n4 d4) (.slice b5 n5 d5) (n2) (n3) (n4) (n5) (ins) (outs) (hids) (steps)) := ab23.out.below ((Below.refl _ wp23).alloc (Nat.le_refl _) (.cells #[.int .i64 r14, .int .i64 r19, .int .i64 r23] 47))
              have cu25 := Lib.hid (cu23.out.below ((Below.refl _ wp23).alloc (Nat.le_refl _) (.cells #[.int .i64 r14, .int .i64 r19, .int .i64 r23] 47)))
              have gr25 := Lib.hid (grownBy_trans gr23.out (grown_of_below ((Below.refl _ wp23).alloc (Nat.le_refl _) (.cells #[.int .i64 r14, .int .i64 r19, .int .i64 r23] 47)) _))
              have HB9 : Hid (w.heap.size + 1 ≤ (wp23.alloc (.cells #[.int .i64 r14, .int .i64 r19, .int .i64 r23] 47)).heap.size) := by have h1 := ab23.out.var.lt; have h2 := ab23.out.hRA; simp [Hid]; omega
              have SN : Hid (∀ j u, (flat [(r14, r19, r23)])[j]? = some u → (wp23.alloc (.cells #[.int .i64 r14, .int .i64 r19, .int .i64 r23] 47)).cell? ((⟨wp23.heap.size, 0, none⟩ : Addr).add j) = some u) := fun j u hu => by
                have hv : VarIs (wp23.alloc (.cells #[.int .i64 r14, .int .i64 r19, .int .i64 r23] 47)) wp23.heap.size #[.int .i64 r14, .int .i64 r19, .int .i64 r23] 47 := VarIs.new wp23 #[.int .i64 r14, .int .i64 r19, .int .i64 r23] 47 rfl
                rw [add_lit, Nat.zero_add]
                exact hv.cell (by simpa [flat, stCells] using hu)
              go_simp
              refine hK.out _ _ trivial (fun hHeld => ?_)
              clear hK K
              try simp only [Act.put, List.setIfInBounds_toArray, List.set_cons_zero, List.set_cons_succ]
              refine wpAnyH_ready (rs := [10]) (fuel := 2) (by kernel_rfl) (by simp) ?_
              refine AllReadyH.cons rfl (fun K hK => ?_) AllReadyH.nil
              refine step_append_lies _ rfl (.tmp 43) (.tmp 51) 25 rfl (w.heap.size + 1) 47 i1 (.agg #[.int .i64 0, .int .i64 0, .int .i64 0]) 3 24 Tryz.underlying25 hi1 hy0 hy1 hy2 rfl (by decide) (.slice b5 n5 d5) n5 (flat steps) rfl ab25.out.o5 ⟨wp23.heap.size, 0, none⟩ 1 1 (flat [(r14, r19, r23)]) rfl rfl SN.out (flat_one _) (by decide) (by unfold maxLen; omega) (by omega) HB9.out _ rfl ?_
              intro g cap w9 hown hgrow hlies hlt
              refine hK.out _ _ trivial (fun hHeld => ?_)
              clear hK K
              simp only [Act.put, List.setIfInBounds_toArray]
              have bl : ∀ q, (.slice b5 n5 d5 : Value).ownBlock = some q → w.heap.size + 1 ≤ q := fun q hq => (ab25.out.o5.lt q hq).1
              have va9 := ab25.out.var.grown hgrow (fun e => own_ne ab25.out.o5 ab25.out.var (by decide) e.symm)
              have re9 := ab25.out.res.grown hgrow (fun e => by have := bl _ e.symm; omega)
              have q2 := ab25.out.o2.keep hgrow (fun k hk e => (D2.out k hk).2.2 e.symm)
              have q3 := ab25.out.o3.keep hgrow (fun k hk e => (D3.out k hk).2 e.symm)
              have q4 := ab25.out.o4.keep hgrow (fun k hk e => D4.out k hk e.symm)
              have CU8 := Lib.hid (cu25.out.keep (B := P + 1) hgrow (by omega) (fun q hq => by have := bl q hq; omega))
              have GR8 := Lib.hid (grownBy_own2 gr25.out hgrow (fun q hq => by have := bl q hq; omega))
              have AB9 : Hid (AnyB (w9.setCell ⟨w1.heap.size, 5, none⟩ (.slice (some ⟨g, 0, none⟩) (n5 + 1) cap)) P w.heap.size w1.heap.size st it (.slice b2 n2 d2) (.slice b3 n3 d3) (.slice b4 n4 d4) (.slice (some ⟨g, 0, none⟩) (n5 + 1) cap) (n2) (n3) (n4) (n5 + 1) (ins) (outs) (hids) (steps ++ [(r14, r19, r23)])) := anyB_store ab25.out.hP ab25.out.hRA va9 re9 q2 q3 q4 (by unfold OwnsS; rw [flat_append]; exact hown) rfl
              have CU9 := Lib.hid (CU8.out.keep (B := P + 1) (grownBy_set w9 w1.heap.size 5 (.slice (some ⟨g, 0, none⟩) (n5 + 1) cap)) (by omega) (fun q hq => by have h1 := Option.some.inj hq; omega))
              have GR9 := Lib.hid (grown_past GR8.out (grownBy_set w9 w1.heap.size 5 (.slice (some ⟨g, 0, none⟩) (n5 + 1) cap)) (by omega))
              have m9 := va9.cell (j := 5) rfl
              have f9 := va9.frozen 5
              clear hown hgrow hlies hlt
              refine take_op 11 53 (.pointer (some ⟨w1.heap.size, 5, none⟩)) (fuel := 1) rfl rfl (by kernel_rfl) (by kernel_rfl) (by kernel_rfl) (fun _ _ _ h => h) (by rfl) (fun w hSw => by go_simp) hHeld ?_
              simp only [Act.put]
              refine wpAnyH_ready (rs := [12]) (fuel := 0) (by kernel_rfl) (by simp) ?_
              refine AllReadyH.cons rfl (fun K hK => ?_) AllReadyH.nil
              go_simp
              refine hK.out _ _ trivial (fun hHeld => ?_)
              clear hK K
              refine wpAnyH_done (by kernel_rfl) ?_ _
              clear m9 f9 va9 re9 hHeld CU8 GR8
              have lE2 := AB9.out.o2.length
              have lE3 := AB9.out.o3.length
              have lE4 := AB9.out.o4.length
              have lE5 := AB9.out.o5.length
              obtain ⟨C, hC⟩ : ∃ C : Array Value, C = #[.int .i64 st, .int .i64 it, .slice b2 n2 d2, .slice b3 n3 d3, .slice b4 n4 d4, .slice (some ⟨g, 0, none⟩) (n5 + 1) cap] := ⟨_, rfl⟩
              have HC := Lib.hid hC
              have VC : Hid (VarIs (w9.setCell ⟨w1.heap.size, 5, none⟩ (.slice (some ⟨g, 0, none⟩) (n5 + 1) cap)) w1.heap.size C 27) := by rw [hC]; exact AB9.out.var
              have hCl : C.toList.length = 6 := by rw [hC]; rfl
              have HCL := Lib.hid hCl
              have RG := Lib.hid VC.out.range
              have TH : Hid ((w9.setCell ⟨w1.heap.size, 5, none⟩ (.slice (some ⟨g, 0, none⟩) (n5 + 1) cap)).there w.heap.size 0 C.toList.toArray.size) := AB9.out.res.there (by rw [List.size_toArray, hCl]; rfl)
              have ON : Hid (C.toList.toArray.all (·.oneCell') = true) := by rw [hC]; exact six_one _ _ _ _ _ _ _ _ _ _ _ _ _ _
              clear hC hCl VC
              go_wp2_with (first | refine wpList_load_mid rfl _ _ rfl w1.heap.size 0 rfl C.toList _ RG.out Tryz.underlying27 rfl (by rw [HCL.out]; kernel_rfl) ?_ | refine wpList_store_mid rfl _ _ _ rfl w.heap.size 0 C.toList.toArray rfl rfl TH.out (by rw [List.size_toArray, HCL.out]; kernel_rfl) ON.out ?_)
              have RG2 : Hid (((w9.setCell ⟨w1.heap.size, 5, none⟩ (.slice (some ⟨g, 0, none⟩) (n5 + 1) cap)).setCells w.heap.size 0 C.toList).rangeAt w.heap.size 0 C.toList) := World.rangeAt_setCells_same (w9.setCell ⟨w1.heap.size, 5, none⟩ (.slice (some ⟨g, 0, none⟩) (n5 + 1) cap)) w.heap.size 0 C.toList (by simpa using TH.out)
              have HGS := Lib.hid (grown_setCells w.heap.size C.toList 0 (w9.setCell ⟨w1.heap.size, 5, none⟩ (.slice (some ⟨g, 0, none⟩) (n5 + 1) cap)))
              refine bodyPost_ret (v := .agg C) ?_ rfl ⟨⟨st, it, ins, outs, hids, steps ++ [(r14, r19, r23)]⟩, .agg C, rfl, by have h9 := AB9.out.ret HGS.out; rw [← HC.out] at h9; exact h9, ⟨by simp only; omega, by simp only; omega, by simp only; omega, by simp only; omega⟩, (CU9.out.keep (B := P + 1) HGS.out (by omega) (fun q hq => by have h1 := Option.some.inj hq; omega)).mono (by omega), grown_past GR9.out HGS.out (Nat.le_refl _)⟩
              have hCx := HC.out
              subst hCx
              have HF := RG2.out
              have HC0 := HF 0 _ rfl
              have HC1 := HF 1 _ rfl
              have HC2' := HF 2 _ rfl
              have HC3 := HF 3 _ rfl
              have HC4 := HF 4 _ rfl
              have HC5 := HF 5 _ rfl
              simp only [Nat.zero_add] at HC0 HC1 HC2' HC3 HC4 HC5
              clear HF RG2 HGS HC
              simp [results, Tryz.results15, go_sem, HC0, HC1, HC2', HC3, HC4, HC5]
            refine AllReadyH.cons rfl (fun K hK => ?_) AllReadyH.nil
            have ab26 : Hid (AnyB (wp23.alloc (.cells #[.int .i64 r14, .int .i64 r19, .int .i64 r23] 47)) P w.heap.size w1.heap.size st it (.slice b2 n2 d2) (.slice b3 n3 d3) (.slice b4 n4 d4) (.slice b5 n5 d5) (n2) (n3) (n4) (n5) (ins) (outs) (hids) (steps)) := ab23.out.below ((Below.refl _ wp23).alloc (Nat.le_refl _) (.cells #[.int .i64 r14, .int .i64 r19, .int .i64 r23] 47))
            have cu26 := Lib.hid (cu23.out.below ((Below.refl _ wp23).alloc (Nat.le_refl _) (.cells #[.int .i64 r14, .int .i64 r19, .int .i64 r23] 47)))
            have gr26 := Lib.hid (grownBy_trans gr23.out (grown_of_below ((Below.refl _ wp23).alloc (Nat.le_refl _) (.cells #[.int .i64 r14, .int .i64 r19, .int .i64 r23] 47)) _))
            have HB9 : Hid (w.heap.size + 1 ≤ (wp23.alloc (.cells #[.int .i64 r14, .int .i64 r19, .int .i64 r23] 47)).heap.size) := by have h1 := ab23.out.var.lt; have h2 := ab23.out.hRA; simp [Hid]; omega
            have SN : Hid (∀ j u, (flat [(r14, r19, r23)])[j]? = some u → (wp23.alloc (.cells #[.int .i64 r14, .int .i64 r19, .int .i64 r23] 47)).cell? ((⟨wp23.heap.size, 0, none⟩ : Addr).add j) = some u) := fun j u hu => by
              have hv : VarIs (wp23.alloc (.cells #[.int .i64 r14, .int .i64 r19, .int .i64 r23] 47)) wp23.heap.size #[.int .i64 r14, .int .i64 r19, .int .i64 r23] 47 := VarIs.new wp23 #[.int .i64 r14, .int .i64 r19, .int .i64 r23] 47 rfl
              rw [add_lit, Nat.zero_add]
              exact hv.cell (by simpa [flat, stCells] using hu)
            go_simp
            refine hK.out _ _ trivial (fun hHeld => ?_)
            clear hK K
            try simp only [Act.put, List.setIfInBounds_toArray, List.set_cons_zero, List.set_cons_succ]
            refine wpAnyH_ready (rs := [1]) (fuel := 3) (by kernel_rfl) (by simp) ?_
            refine AllReadyH.cons rfl (fun K hK => ?_) AllReadyH.nil
            have m27 := ab26.out.var.cell (j := 5) rfl
            go_simp
            refine hK.out _ _ trivial (fun hHeld => ?_)
            clear hK K m27
            try simp only [Act.put, List.setIfInBounds_toArray, List.set_cons_zero, List.set_cons_succ]
            refine wpAnyH_ready (rs := [10]) (fuel := 2) (by kernel_rfl) (by simp) ?_
            refine AllReadyH.cons rfl (fun K hK => ?_) AllReadyH.nil
            refine step_append_lies _ rfl (.tmp 43) (.tmp 51) 25 rfl (w.heap.size + 1) 47 i1 (.agg #[.int .i64 0, .int .i64 0, .int .i64 0]) 3 24 Tryz.underlying25 hi1 hy0 hy1 hy2 rfl (by decide) (.slice b5 n5 d5) n5 (flat steps) rfl ab26.out.o5 ⟨wp23.heap.size, 0, none⟩ 1 1 (flat [(r14, r19, r23)]) rfl rfl SN.out (flat_one _) (by decide) (by unfold maxLen; omega) (by omega) HB9.out _ rfl ?_
            intro g cap w9 hown hgrow hlies hlt
            refine hK.out _ _ trivial (fun hHeld => ?_)
            clear hK K
            simp only [Act.put, List.setIfInBounds_toArray]
            have bl : ∀ q, (.slice b5 n5 d5 : Value).ownBlock = some q → w.heap.size + 1 ≤ q := fun q hq => (ab26.out.o5.lt q hq).1
            have va9 := ab26.out.var.grown hgrow (fun e => own_ne ab26.out.o5 ab26.out.var (by decide) e.symm)
            have re9 := ab26.out.res.grown hgrow (fun e => by have := bl _ e.symm; omega)
            have q2 := ab26.out.o2.keep hgrow (fun k hk e => (D2.out k hk).2.2 e.symm)
            have q3 := ab26.out.o3.keep hgrow (fun k hk e => (D3.out k hk).2 e.symm)
            have q4 := ab26.out.o4.keep hgrow (fun k hk e => D4.out k hk e.symm)
            have CU8 := Lib.hid (cu26.out.keep (B := P + 1) hgrow (by omega) (fun q hq => by have := bl q hq; omega))
            have GR8 := Lib.hid (grownBy_own2 gr26.out hgrow (fun q hq => by have := bl q hq; omega))
            have AB9 : Hid (AnyB (w9.setCell ⟨w1.heap.size, 5, none⟩ (.slice (some ⟨g, 0, none⟩) (n5 + 1) cap)) P w.heap.size w1.heap.size st it (.slice b2 n2 d2) (.slice b3 n3 d3) (.slice b4 n4 d4) (.slice (some ⟨g, 0, none⟩) (n5 + 1) cap) (n2) (n3) (n4) (n5 + 1) (ins) (outs) (hids) (steps ++ [(r14, r19, r23)])) := anyB_store ab26.out.hP ab26.out.hRA va9 re9 q2 q3 q4 (by unfold OwnsS; rw [flat_append]; exact hown) rfl
            have CU9 := Lib.hid (CU8.out.keep (B := P + 1) (grownBy_set w9 w1.heap.size 5 (.slice (some ⟨g, 0, none⟩) (n5 + 1) cap)) (by omega) (fun q hq => by have h1 := Option.some.inj hq; omega))
            have GR9 := Lib.hid (grown_past GR8.out (grownBy_set w9 w1.heap.size 5 (.slice (some ⟨g, 0, none⟩) (n5 + 1) cap)) (by omega))
            have m9 := va9.cell (j := 5) rfl
            have f9 := va9.frozen 5
            clear hown hgrow hlies hlt
            refine take_op 11 53 (.pointer (some ⟨w1.heap.size, 5, none⟩)) (fuel := 1) rfl rfl (by kernel_rfl) (by kernel_rfl) (by kernel_rfl) (fun _ _ _ h => h) (by rfl) (fun w hSw => by go_simp) hHeld ?_
            simp only [Act.put]
            refine wpAnyH_ready (rs := [12]) (fuel := 0) (by kernel_rfl) (by simp) ?_
            refine AllReadyH.cons rfl (fun K hK => ?_) AllReadyH.nil
            go_simp
            refine hK.out _ _ trivial (fun hHeld => ?_)
            clear hK K
            refine wpAnyH_done (by kernel_rfl) ?_ _
            clear m9 f9 va9 re9 hHeld CU8 GR8
            have lE2 := AB9.out.o2.length
            have lE3 := AB9.out.o3.length
            have lE4 := AB9.out.o4.length
            have lE5 := AB9.out.o5.length
            obtain ⟨C, hC⟩ : ∃ C : Array Value, C = #[.int .i64 st, .int .i64 it, .slice b2 n2 d2, .slice b3 n3 d3, .slice b4 n4 d4, .slice (some ⟨g, 0, none⟩) (n5 + 1) cap] := ⟨_, rfl⟩
            have HC := Lib.hid hC
            have VC : Hid (VarIs (w9.setCell ⟨w1.heap.size, 5, none⟩ (.slice (some ⟨g, 0, none⟩) (n5 + 1) cap)) w1.heap.size C 27) := by rw [hC]; exact AB9.out.var
            have hCl : C.toList.length = 6 := by rw [hC]; rfl
            have HCL := Lib.hid hCl
            have RG := Lib.hid VC.out.range
            have TH : Hid ((w9.setCell ⟨w1.heap.size, 5, none⟩ (.slice (some ⟨g, 0, none⟩) (n5 + 1) cap)).there w.heap.size 0 C.toList.toArray.size) := AB9.out.res.there (by rw [List.size_toArray, hCl]; rfl)
            have ON : Hid (C.toList.toArray.all (·.oneCell') = true) := by rw [hC]; exact six_one _ _ _ _ _ _ _ _ _ _ _ _ _ _
            clear hC hCl VC
            go_wp2_with (first | refine wpList_load_mid rfl _ _ rfl w1.heap.size 0 rfl C.toList _ RG.out Tryz.underlying27 rfl (by rw [HCL.out]; kernel_rfl) ?_ | refine wpList_store_mid rfl _ _ _ rfl w.heap.size 0 C.toList.toArray rfl rfl TH.out (by rw [List.size_toArray, HCL.out]; kernel_rfl) ON.out ?_)
            have RG2 : Hid (((w9.setCell ⟨w1.heap.size, 5, none⟩ (.slice (some ⟨g, 0, none⟩) (n5 + 1) cap)).setCells w.heap.size 0 C.toList).rangeAt w.heap.size 0 C.toList) := World.rangeAt_setCells_same (w9.setCell ⟨w1.heap.size, 5, none⟩ (.slice (some ⟨g, 0, none⟩) (n5 + 1) cap)) w.heap.size 0 C.toList (by simpa using TH.out)
            have HGS := Lib.hid (grown_setCells w.heap.size C.toList 0 (w9.setCell ⟨w1.heap.size, 5, none⟩ (.slice (some ⟨g, 0, none⟩) (n5 + 1) cap)))
            refine bodyPost_ret (v := .agg C) ?_ rfl ⟨⟨st, it, ins, outs, hids, steps ++ [(r14, r19, r23)]⟩, .agg C, rfl, by have h9 := AB9.out.ret HGS.out; rw [← HC.out] at h9; exact h9, ⟨by simp only; omega, by simp only; omega, by simp only; omega, by simp only; omega⟩, (CU9.out.keep (B := P + 1) HGS.out (by omega) (fun q hq => by have h1 := Option.some.inj hq; omega)).mono (by omega), grown_past GR9.out HGS.out (Nat.le_refl _)⟩
            have hCx := HC.out
            subst hCx
            have HF := RG2.out
            have HC0 := HF 0 _ rfl
            have HC1 := HF 1 _ rfl
            have HC2' := HF 2 _ rfl
            have HC3 := HF 3 _ rfl
            have HC4 := HF 4 _ rfl
            have HC5 := HF 5 _ rfl
            simp only [Nat.zero_add] at HC0 HC1 HC2' HC3 HC4 HC5
            clear HF RG2 HGS HC
            simp [results, Tryz.results15, go_sem, HC0, HC1, HC2', HC3, HC4, HC5]
          · have e3 : (r == 3) = false := by simpa using h3
            by_cases h4 : r = 4
            · subst h4
              have m3 := AB3.out.var.cell (j := 3) rfl
              have m4 := AB3.out.var.cell (j := 4) rfl
              go_wp2_with fail
              clear m3 m4
              refine (specSetJoin_any b4 b3 n4 d4 n3 d3 hids outs _ AB3.out.o4.row.2.2.2 AB3.out.o3.row.2.2.2 (by omega) (by omega)).mono ?_
              have hjl := drawn_join_len hids outs
              rw [AB3.out.o4.length, AB3.out.o3.length] at hjl
              obtain ⟨J, hJ⟩ : ∃ J, J = joinOf hids outs := ⟨_, rfl⟩
              rw [← hJ] at hjl ⊢
              clear hJ
              rintro e w4 ⟨gj, cj, rfl, ho, hb⟩
              obtain ⟨nj, hnj⟩ : ∃ n, n = J.length := ⟨_, rfl⟩
              rw [← hnj] at hjl ho ⊢
              clear hnj
              have AB4 := Lib.hid (AB3.out.below hb)
              have CU4 := Lib.hid (CU3.out.below hb)
              have GR4 := Lib.hid (grownBy_trans GR3.out (grown_of_below hb _))
              have hA3 := AB3.out.var.lt
              have m4 := AB4.out.var.cell (j := 4) rfl
              have f4 := AB4.out.var.frozen 4
              have AB7 : Hid (AnyB (w4.setCell ⟨w1.heap.size, 4, none⟩ (.slice (some ⟨gj, 0, none⟩) nj cj)) P w.heap.size w1.heap.size st it (.slice b2 n2 d2) (.slice b3 n3 d3) (.slice (some ⟨gj, 0, none⟩) nj cj) (.slice b5 n5 d5) (n2) (n3) (nj) (n5) (ins) (outs) (J) (steps)) := anyB_store AB4.out.hP AB4.out.hRA AB4.out.var AB4.out.res AB4.out.o2 AB4.out.o3 (ho.mono (by omega)) AB4.out.o5 rfl
              have CU7 := Lib.hid (CU4.out.keep (B := P + 1) (grownBy_set w4 w1.heap.size 4 (.slice (some ⟨gj, 0, none⟩) nj cj)) (by omega) (fun q hq => by have h1 := Option.some.inj hq; omega))
              have GR7 := Lib.hid (grown_past GR4.out (grownBy_set w4 w1.heap.size 4 (.slice (some ⟨gj, 0, none⟩) nj cj)) (by omega))
              clear ho hb AB3 CU3 GR3 AB4 CU4 GR4
              have lE2 := AB7.out.o2.length
              have lE3 := AB7.out.o3.length
              have lE4 := AB7.out.o4.length
              have lE5 := AB7.out.o5.length
              obtain ⟨C, hC⟩ : ∃ C : Array Value, C = #[.int .i64 st, .int .i64 it, .slice b2 n2 d2, .slice b3 n3 d3, .slice (some ⟨gj, 0, none⟩) nj cj, .slice b5 n5 d5] := ⟨_, rfl⟩
              have HC := Lib.hid hC
              have VC : Hid (VarIs (w4.setCell ⟨w1.heap.size, 4, none⟩ (.slice (some ⟨gj, 0, none⟩) nj cj)) w1.heap.size C 27) := by rw [hC]; exact AB7.out.var
              have hCl : C.toList.length = 6 := by rw [hC]; rfl
              have HCL := Lib.hid hCl
              have RG := Lib.hid VC.out.range
              have TH : Hid ((w4.setCell ⟨w1.heap.size, 4, none⟩ (.slice (some ⟨gj, 0, none⟩) nj cj)).there w.heap.size 0 C.toList.toArray.size) := AB7.out.res.there (by rw [List.size_toArray, hCl]; rfl)
              have ON : Hid (C.toList.toArray.all (·.oneCell') = true) := by rw [hC]; exact six_one _ _ _ _ _ _ _ _ _ _ _ _ _ _
              clear hC hCl VC
              go_wp2_with (first | refine wpList_load_mid rfl _ _ rfl w1.heap.size 0 rfl C.toList _ RG.out Tryz.underlying27 rfl (by rw [HCL.out]; kernel_rfl) ?_ | refine wpList_store_mid rfl _ _ _ rfl w.heap.size 0 C.toList.toArray rfl rfl TH.out (by rw [List.size_toArray, HCL.out]; kernel_rfl) ON.out ?_)
              have RG2 : Hid (((w4.setCell ⟨w1.heap.size, 4, none⟩ (.slice (some ⟨gj, 0, none⟩) nj cj)).setCells w.heap.size 0 C.toList).rangeAt w.heap.size 0 C.toList) := World.rangeAt_setCells_same (w4.setCell ⟨w1.heap.size, 4, none⟩ (.slice (some ⟨gj, 0, none⟩) nj cj)) w.heap.size 0 C.toList (by simpa using TH.out)
              have HGS := Lib.hid (grown_setCells w.heap.size C.toList 0 (w4.setCell ⟨w1.heap.size, 4, none⟩ (.slice (some ⟨gj, 0, none⟩) nj cj)))
              refine bodyPost_ret (v := .agg C) ?_ rfl ⟨⟨st, it, ins, outs, J, steps⟩, .agg C, rfl, by have h9 := AB7.out.ret HGS.out; rw [← HC.out] at h9; exact h9, ⟨by simp only; omega, by simp only; omega, by simp only; omega, by simp only; omega⟩, (CU7.out.keep (B := P + 1) HGS.out (by omega) (fun q hq => by have h1 := Option.some.inj hq; omega)).mono (by omega), grown_past GR7.out HGS.out (Nat.le_refl _)⟩
              have hCx := HC.out
              subst hCx
              have HF := RG2.out
              have HC0 := HF 0 _ rfl
              have HC1 := HF 1 _ rfl
              have HC2' := HF 2 _ rfl
              have HC3 := HF 3 _ rfl
              have HC4 := HF 4 _ rfl
              have HC5 := HF 5 _ rfl
              simp only [Nat.zero_add] at HC0 HC1 HC2' HC3 HC4 HC5
              clear HF RG2 HGS HC
              simp [results, Tryz.results15, go_sem, HC0, HC1, HC2', HC3, HC4, HC5]
            · have e4 : (r == 4) = false := by simpa using h4
              clear h0 h1 h2 h3 h4
              have m5 := AB3.out.var.cell (j := 5) rfl
              have hA3 := AB3.out.var.lt
              have S1 : SrcS w3 b5 n5 d5 steps := AB3.out.o5.row.2.2.2.src (fun e => by
                subst e
                rcases AB3.out.o5.2 with ⟨e, e2⟩ | ⟨_, _, _, e, _⟩
                · cases e; exact ⟨rfl, rfl⟩
                · cases e)
              have T1 := AB3.out.o5
              go_wp2_with (at_builtin; refine wpList_appS rfl (.tmp 11) (.tmp 13) _ _ rfl (w.heap.size + 1) i1 Tryz.underlying25 hi1 hy0 hy1 hy2 _ _ _ rfl T1 _ n5 _ steps rfl S1 (by omega) (by omega) ?_)
              rintro v9 w9 ⟨hown9, hgrow9, _⟩
              obtain ⟨a9, c9, rfl⟩ := hown9.form
              have bl : ∀ q, (.slice b5 n5 d5 : Value).ownBlock = some q → w.heap.size + 1 ≤ q := fun q hq => (T1.lt q hq).1
              have va9 := AB3.out.var.grown hgrow9 (fun e => own_ne T1 AB3.out.var (by decide) e.symm)
              have re9 := AB3.out.res.grown hgrow9 (fun e => by have := bl _ e.symm; omega)
              have q2 := AB3.out.o2.keep hgrow9 (fun k hk e => (D2.out k hk).2.2 e.symm)
              have q3 := AB3.out.o3.keep hgrow9 (fun k hk e => (D3.out k hk).2 e.symm)
              have q4 := AB3.out.o4.keep hgrow9 (fun k hk e => D4.out k hk e.symm)
              have CU4 := Lib.hid (CU3.out.keep (B := P + 1) hgrow9 (by omega) (fun q hq => by have := bl q hq; omega))
              have GR4 := Lib.hid (grownBy_own2 GR3.out hgrow9 (fun q hq => by have := bl q hq; omega))
              have AB7 : Hid (AnyB (w9.setCell ⟨w1.heap.size, 5, none⟩ (.slice a9 (n5 + n5) c9)) P w.heap.size w1.heap.size st it (.slice b2 n2 d2) (.slice b3 n3 d3) (.slice b4 n4 d4) (.slice a9 (n5 + n5) c9) (n2) (n3) (n4) (n5 + n5) (ins) (outs) (hids) (steps ++ steps)) := anyB_store AB3.out.hP AB3.out.hRA va9 re9 q2 q3 q4 hown9 rfl
              have CU7 := Lib.hid (CU4.out.keep (B := P + 1) (grownBy_set w9 w1.heap.size 5 (.slice a9 (n5 + n5) c9)) (by omega) (fun q hq => by have h1 := Option.some.inj hq; omega))
              have GR7 := Lib.hid (grown_past GR4.out (grownBy_set w9 w1.heap.size 5 (.slice a9 (n5 + n5) c9)) (by omega))
              have m9 := va9.cell (j := 5) rfl
              have f9 := va9.frozen 5
              clear m5 S1 T1 hown9 hgrow9 va9 re9 q2 q3 q4 AB3 CU3 GR3 CU4 GR4 bl
              have lE2 := AB7.out.o2.length
              have lE3 := AB7.out.o3.length
              have lE4 := AB7.out.o4.length
              have lE5 := AB7.out.o5.length
              obtain ⟨C, hC⟩ : ∃ C : Array Value, C = #[.int .i64 st, .int .i64 it, .slice b2 n2 d2, .slice b3 n3 d3, .slice b4 n4 d4, .slice a9 (n5 + n5) c9] := ⟨_, rfl⟩
              have HC := Lib.hid hC
              have VC : Hid (VarIs (w9.setCell ⟨w1.heap.size, 5, none⟩ (.slice a9 (n5 + n5) c9)) w1.heap.size C 27) := by rw [hC]; exact AB7.out.var
              have hCl : C.toList.length = 6 := by rw [hC]; rfl
              have HCL := Lib.hid hCl
              have RG := Lib.hid VC.out.range
              have TH : Hid ((w9.setCell ⟨w1.heap.size, 5, none⟩ (.slice a9 (n5 + n5) c9)).there w.heap.size 0 C.toList.toArray.size) := AB7.out.res.there (by rw [List.size_toArray, hCl]; rfl)
              have ON : Hid (C.toList.toArray.all (·.oneCell') = true) := by rw [hC]; exact six_one _ _ _ _ _ _ _ _ _ _ _ _ _ _
              clear hC hCl VC
              go_wp2_with (first | refine wpList_load_mid rfl _ _ rfl w1.heap.size 0 rfl C.toList _ RG.out Tryz.underlying27 rfl (by rw [HCL.out]; kernel_rfl) ?_ | refine wpList_store_mid rfl _ _ _ rfl w.heap.size 0 C.toList.toArray rfl rfl TH.out (by rw [List.size_toArray, HCL.out]; kernel_rfl) ON.out ?_)
              have RG2 : Hid (((w9.setCell ⟨w1.heap.size, 5, none⟩ (.slice a9 (n5 + n5) c9)).setCells w.heap.size 0 C.toList).rangeAt w.heap.size 0 C.toList) := World.rangeAt_setCells_same (w9.setCell ⟨w1.heap.size, 5, none⟩ (.slice a9 (n5 + n5) c9)) w.heap.size 0 C.toList (by simpa using TH.out)
              have HGS := Lib.hid (grown_setCells w.heap.size C.toList 0 (w9.setCell ⟨w1.heap.size, 5, none⟩ (.slice a9 (n5 + n5) c9)))
              refine bodyPost_ret (v := .agg C) ?_ rfl ⟨⟨st, it, ins, outs, hids, steps ++ steps⟩, .agg C, rfl, by have h9 := AB7.out.ret HGS.out; rw [← HC.out] at h9; exact h9, ⟨by simp only; omega, by simp only; omega, by simp only; omega, by simp only; omega⟩, (CU7.out.keep (B := P + 1) HGS.out (by omega) (fun q hq => by have h1 := Option.some.inj hq; omega)).mono (by omega), grown_past GR7.out HGS.out (Nat.le_refl _)⟩
              have hCx := HC.out
              subst hCx
              have HF := RG2.out
              have HC0 := HF 0 _ rfl
              have HC1 := HF 1 _ rfl
              have HC2' := HF 2 _ rfl
              have HC3 := HF 3 _ rfl
              have HC4 := HF 4 _ rfl
              have HC5 := HF 5 _ rfl
              simp only [Nat.zero_add] at HC0 HC1 HC2' HC3 HC4 HC5
              clear HF RG2 HGS HC
              simp [results, Tryz.results15, go_sem, HC0, HC1, HC2', HC3, HC4, HC5]

end Go.Proofs.YtfhjhfhfbgddeaaGreatDoor
