import Derived.Test.YtogjbnimohakjabGreatIaRise
import Derived.Test.YtogjbnimohakjabGreatRowOf
import Derived.Test.YtogjbnimohakjabGreatIaLaw
import Derived.WalkMore
/-
  What the program's search keeps: the list of what was found, its places that were gone through, and what this says at the end. Conditions: none; nothing here speaks of the program.
-/
namespace Go.Proofs.YtogjbnimohakjabGreat
open Go.RowKit

/-- All that is found may be come to, nothing comes twice, and from the first 'k' places all is found. -/
def Found (a : IaD) (F : List Int) (k : Nat) : Prop :=
  F.Nodup ∧ a.init ∈ F ∧ (∀ y ∈ F, Come (actsOf a) a.steps [a.init] y) ∧ ∀ j, j < k → ∀ s, F[j]? = some s → ∀ x ∈ rowL a.steps s, x.2.2 ∈ F

/-- The same within a row: of the row at place 'k' the first 'j' steps lead to what is found. -/
def FoundIn (a : IaD) (F : List Int) (k : Nat) (row : List St) (j : Nat) (F2 : List Int) : Prop :=
  (∃ E, F2 = F ++ E) ∧ Found a F2 k ∧ ∀ x ∈ row.take j, x.2.2 ∈ F2

theorem act_in {a : IaD} (h : iaOkB a = true) {x : St} (hx : x ∈ a.steps) : hasB (actsOf a) x.2.1 = true := by
  rw [hasB_mem]
  unfold actsOf
  rw [mem_joinOf, mem_joinOf]
  rcases (iaOk_ends h x hx).2.2 with h | h | h
  · exact Or.inl (Or.inl h)
  · exact Or.inl (Or.inr h)
  · exact Or.inr h

theorem Found.start (a : IaD) : Found a [a.init] 0 :=
  ⟨by simp, by simp, fun y hy => .start y hy, fun j hj => absurd hj (by omega)⟩

/-- Whatever may be come to is a state. -/
theorem come_state {a : IaD} (h : iaOkB a = true) {y : Int} (hy : Come (actsOf a) a.steps [a.init] y) : 0 ≤ y ∧ y ≤ a.states - 1 := by
  cases hy with
  | start y hm =>
    obtain rfl := List.mem_singleton.1 hm
    exact iaOk_init h
  | step s hs hp hc => exact (iaOk_ends h s hs).2.1

theorem Found.low {a : IaD} (h : iaOkB a = true) {F : List Int} {k : Nat} (hF : Found a F k) : ∀ y ∈ F, 0 ≤ y ∧ y < 40 := by
  intro y hy
  have h1 := come_state h (hF.2.2.1 y hy)
  have h2 := (iaOk_states h).2
  omega

theorem nodup_low {F : List Int} (hn : F.Nodup) (hl : ∀ y ∈ F, 0 ≤ y ∧ y < 40) : F.length ≤ 40 := by
  have h : F.length ≤ ((List.range 40).map (fun i : Nat => (i : Int))).length := hn.length_le_of_subset (fun y hy => by
    obtain ⟨h0, h1⟩ := hl y hy
    exact List.mem_map.2 ⟨y.toNat, List.mem_range.2 (by omega), by omega⟩)
  simpa using h

theorem Found.len {a : IaD} (h : iaOkB a = true) {F : List Int} {k : Nat} (hF : Found a F k) : F.length ≤ 40 := nodup_low hF.1 (hF.low h)

theorem FoundIn.start {a : IaD} {F : List Int} {k : Nat} (hF : Found a F k) (row : List St) : FoundIn a F k row 0 F := ⟨⟨[], by simp⟩, hF, fun x hx => by simp at hx⟩

/-- A step that leads to what is known. -/
theorem FoundIn.known {a : IaD} {F F2 : List Int} {k j : Nat} {row : List St} (h : FoundIn a F k row j F2) (hj : j < row.length) (hm : row[j].2.2 ∈ F2) : FoundIn a F k row (j + 1) F2 := by
  refine ⟨h.1, h.2.1, fun x hx => ?_⟩
  rw [List.take_succ_eq_append_getElem hj, List.mem_append] at hx
  rcases hx with hx | hx
  · exact h.2.2 x hx
  · obtain rfl := List.mem_singleton.1 hx
    exact hm

/-- A step that leads to what is new. -/
theorem FoundIn.fresh {a : IaD} (ok : iaOkB a = true) {F F2 : List Int} {k j : Nat} {row : List St} {s : Int} (h : FoundIn a F k row j F2) (hk : k ≤ F.length) (hs : s ∈ F2) (hrow : row = rowL a.steps s) (hj : j < row.length) (hm : ¬ row[j].2.2 ∈ F2) :
    FoundIn a F k row (j + 1) (F2 ++ [row[j].2.2]) := by
  obtain ⟨⟨E, rfl⟩, ⟨h1, h2, h3, h4⟩, h5⟩ := h
  have hxm : row[j] ∈ rowL a.steps s := by rw [← hrow]; exact List.getElem_mem hj
  obtain ⟨hx1, hx2⟩ := mem_rowL.1 hxm
  refine ⟨⟨E ++ [row[j].2.2], by simp⟩, ⟨?_, ?_, ?_, ?_⟩, ?_⟩
  · rw [List.nodup_append]
    refine ⟨h1, by simp, fun x hx y hy => ?_⟩
    obtain rfl := List.mem_singleton.1 hy
    intro e
    subst e
    exact hm hx
  · exact List.mem_append_left _ h2
  · intro y hy
    rcases List.mem_append.1 hy with hy | hy
    · exact h3 y hy
    · obtain rfl := List.mem_singleton.1 hy
      exact .step row[j] hx1 (act_in ok hx1) (by rw [hx2]; exact h3 s hs)
  · intro j' hj' s' hs' x hx
    rw [List.getElem?_append_left (by simp; omega)] at hs'
    exact List.mem_append_left _ (h4 j' hj' s' hs' x hx)
  · intro x hx
    rw [List.take_succ_eq_append_getElem hj, List.mem_append] at hx
    rcases hx with hx | hx
    · exact List.mem_append_left _ (h5 x hx)
    · obtain rfl := List.mem_singleton.1 hx
      exact List.mem_append_right _ (by simp)

/-- The row is gone through. -/
theorem FoundIn.done {a : IaD} {F F2 : List Int} {k : Nat} {row : List St} {s : Int} (h : FoundIn a F k row row.length F2) (hk : F[k]? = some s) (hrow : row = rowL a.steps s) : Found a F2 (k + 1) := by
  obtain ⟨⟨E, rfl⟩, ⟨h1, h2, h3, h4⟩, h5⟩ := h
  refine ⟨h1, h2, h3, fun j hj s' hs' x hx => ?_⟩
  by_cases e : j = k
  · subst e
    have hlt := (List.getElem?_eq_some_iff.1 hk).1
    rw [List.getElem?_append_left hlt, hk] at hs'
    cases hs'
    exact h5 x (by rw [List.take_length, hrow]; exact hx)
  · exact h4 j (by omega) s' hs' x hx

/-- All is gone through: what was found, sorted, is what may be come to. -/
theorem Found.done {a : IaD} {F : List Int} (h : Found a F F.length) : (F.mergeSort fun x y => decide (x ≤ y)) = reachedOf a := by
  obtain ⟨h1, h2, h3, h4⟩ := h
  have hp : (F.mergeSort fun x y => decide (x ≤ y)).Perm F := List.mergeSort_perm F _
  have hr : (F.mergeSort fun x y => decide (x ≤ y)).Pairwise (· < ·) := by
    have hle := sort_le F
    have hnd : (F.mergeSort fun x y => decide (x ≤ y)).Nodup := hp.nodup_iff.2 h1
    exact (hle.and hnd).imp (fun ⟨a, b⟩ => by omega)
  refine along_eq hr (fun x => ?_)
  rw [hp.mem_iff]
  refine ⟨h3 x, fun hx => closed_come (L := [a.init]) (fun y hy => by obtain rfl := List.mem_singleton.1 hy; exact h2) (fun s hs _ hm => ?_) hx⟩
  obtain ⟨j, hj, e⟩ := List.getElem_of_mem hm
  exact h4 j hj s.1 (by rw [List.getElem?_eq_getElem hj, e]) s (mem_rowL.2 ⟨hs, rfl⟩)

end Go.Proofs.YtogjbnimohakjabGreat

/-
  The contract of the program's Reached. Conditions: the automaton's lists have at most 2^20 elements.
-/
namespace Go.Proofs.YtogjbnimohakjabGreat
open Go.RowKit

set_option maxRecDepth 20000 in
set_option maxHeartbeats 6400000 in
theorem implReached_any (a : IaD) (v : Value) (w : World) (h : IaRow w a v) (f2 : a.ins.length ≤ 1048576) (f3 : a.outs.length ≤ 1048576) (f4 : a.hids.length ≤ 1048576) (f5 : a.steps.length ≤ 1048576) :
    Calls Tryz.prog 105 #[v] w (RowRes w w.heap.size (if iaOkB a then reachedOf a else [])) := by
  have CO : Hid (∀ W, Below w.heap.size w W → Calls Tryz.prog 31 #[v] W fun e w' => e = .returned (.bool (iaOkB a)) ∧ Below W.heap.size W w') := fun W hW => implIaOk_any a v W (h.below hW) f2 f3 f4 f5
  obtain ⟨i0, hi, hz0, hz1, hz2⟩ := info_parts info_int
  obtain ⟨a2, n2, c2, a3, n3, c3, a4, n4, c4, a5, n5, c5, rfl, r2, r3, r4, r5⟩ := h
  obtain ⟨st, it, ins, outs, hids, steps⟩ := a
  simp only at r2 r3 r4 r5 f2 f3 f4 f5
  have R5 := Lib.hid r5
  clear r2 r3 r4 r5 f2 f3 f4 f5
  obtain ⟨q, hq⟩ : ∃ q, q = iaOkB ⟨st, it, ins, outs, hids, steps⟩ := ⟨_, rfl⟩
  rw [← hq] at CO ⊢
  obtain ⟨L, hL⟩ : ∃ L, L = if q then reachedOf ⟨st, it, ins, outs, hids, steps⟩ else [] := ⟨_, rfl⟩
  rw [← hL]
  have HL := Lib.hid hL
  have HQ := Lib.hid hq.symm
  clear hq hL
  have B0 : Hid (∀ o, Below w.heap.size w (w.alloc o)) := fun o => (Below.refl _ _).alloc (Nat.le_refl _) _
  have V0 := Lib.hid (VarIs.new w #[.int .i64 st, .int .i64 it, .slice a2 n2 c2, .slice a3 n3 c3, .slice a4 n4 c4, .slice a5 n5 c5] 29 rfl)
  go_enter Tryz.func105, Tryz.ntmps105
  go_wp2_with fail
  refine (CO.out _ (B0.out _)).mono ?_
  rintro e w1 ⟨rfl, hb⟩
  have B1 : Hid (Below w.heap.size w w1) := (B0.out _).trans (hb.mono (B0.out _).size)
  have V1 := Lib.hid (V0.out.below hb)
  clear hb V0 CO B0
  cases q with
  | false =>
    go_wp2_with fail
    go_ret
    obtain rfl : L = [] := HL.out
    exact ⟨_, rfl, World.ownsRow_nil _ _ _ _, B1.out⟩
  | true =>
    have HLEN := Lib.hid (iaOk_len HQ.out)
    have HLOW := Lib.hid (iaOk_low HQ.out)
    have m0 := V1.out.cell (j := 0) rfl
    have m1 := V1.out.cell (j := 1) rfl
    have m2 := V1.out.cell (j := 2) rfl
    have m3 := V1.out.cell (j := 3) rfl
    have m4 := V1.out.cell (j := 4) rfl
    have m5 := V1.out.cell (j := 5) rfl
    go_wp2_with fail
    clear m0 m1 m2 m3 m4 m5
    refine (rowsOf_any st it _ _ _ a5 n5 c5 steps _ (R5.out.below B1.out) (by have h1 := HLEN.out; have h2 := R5.out.1; rw [← h2]; exact h1) HLOW.out).mono ?_
    rintro e w2 ⟨C, rfl, hC, hb⟩
    have B2 : Hid (Below w.heap.size w w2) := B1.out.trans (hb.mono B1.out.size)
    have V2 := Lib.hid (V1.out.below hb)
    have hCl : C.toList.length = 40 := by simpa using hC.1
    have HCL := Lib.hid hCl
    have HGS := grown_setCells w2.heap.size C.toList 0 (w2.alloc (.cells #[.slice none 0 0, .slice none 0 0, .slice none 0 0, .slice none 0 0, .slice none 0 0, .slice none 0 0, .slice none 0 0, .slice none 0 0, .slice none 0 0, .slice none 0 0, .slice none 0 0, .slice none 0 0, .slice none 0 0, .slice none 0 0, .slice none 0 0, .slice none 0 0, .slice none 0 0, .slice none 0 0, .slice none 0 0, .slice none 0 0, .slice none 0 0, .slice none 0 0, .slice none 0 0, .slice none 0 0, .slice none 0 0, .slice none 0 0, .slice none 0 0, .slice none 0 0, .slice none 0 0, .slice none 0 0, .slice none 0 0, .slice none 0 0, .slice none 0 0, .slice none 0 0, .slice none 0 0, .slice none 0 0, .slice none 0 0, .slice none 0 0, .slice none 0 0, .slice none 0 0] 131))
    have BW : Hid (Below w2.heap.size w2 ((w2.alloc (.cells #[.slice none 0 0, .slice none 0 0, .slice none 0 0, .slice none 0 0, .slice none 0 0, .slice none 0 0, .slice none 0 0, .slice none 0 0, .slice none 0 0, .slice none 0 0, .slice none 0 0, .slice none 0 0, .slice none 0 0, .slice none 0 0, .slice none 0 0, .slice none 0 0, .slice none 0 0, .slice none 0 0, .slice none 0 0, .slice none 0 0, .slice none 0 0, .slice none 0 0, .slice none 0 0, .slice none 0 0, .slice none 0 0, .slice none 0 0, .slice none 0 0, .slice none 0 0, .slice none 0 0, .slice none 0 0, .slice none 0 0, .slice none 0 0, .slice none 0 0, .slice none 0 0, .slice none 0 0, .slice none 0 0, .slice none 0 0, .slice none 0 0, .slice none 0 0, .slice none 0 0] 131)).setCells w2.heap.size 0 C.toList)) := ((Below.refl w2.heap.size w2).alloc (Nat.le_refl _) _).grown HGS (by simp) (fun q hq => by cases hq; exact Nat.le_refl _)
    have TH0 : (w2.alloc (.cells #[.slice none 0 0, .slice none 0 0, .slice none 0 0, .slice none 0 0, .slice none 0 0, .slice none 0 0, .slice none 0 0, .slice none 0 0, .slice none 0 0, .slice none 0 0, .slice none 0 0, .slice none 0 0, .slice none 0 0, .slice none 0 0, .slice none 0 0, .slice none 0 0, .slice none 0 0, .slice none 0 0, .slice none 0 0, .slice none 0 0, .slice none 0 0, .slice none 0 0, .slice none 0 0, .slice none 0 0, .slice none 0 0, .slice none 0 0, .slice none 0 0, .slice none 0 0, .slice none 0 0, .slice none 0 0, .slice none 0 0, .slice none 0 0, .slice none 0 0, .slice none 0 0, .slice none 0 0, .slice none 0 0, .slice none 0 0, .slice none 0 0, .slice none 0 0, .slice none 0 0] 131)).there w2.heap.size 0 40 := (VarIs.new w2 #[.slice none 0 0, .slice none 0 0, .slice none 0 0, .slice none 0 0, .slice none 0 0, .slice none 0 0, .slice none 0 0, .slice none 0 0, .slice none 0 0, .slice none 0 0, .slice none 0 0, .slice none 0 0, .slice none 0 0, .slice none 0 0, .slice none 0 0, .slice none 0 0, .slice none 0 0, .slice none 0 0, .slice none 0 0, .slice none 0 0, .slice none 0 0, .slice none 0 0, .slice none 0 0, .slice none 0 0, .slice none 0 0, .slice none 0 0, .slice none 0 0, .slice none 0 0, .slice none 0 0, .slice none 0 0, .slice none 0 0, .slice none 0 0, .slice none 0 0, .slice none 0 0, .slice none 0 0, .slice none 0 0, .slice none 0 0, .slice none 0 0, .slice none 0 0, .slice none 0 0] 131 rfl).there rfl
    have TH : Hid ((w2.alloc (.cells #[.slice none 0 0, .slice none 0 0, .slice none 0 0, .slice none 0 0, .slice none 0 0, .slice none 0 0, .slice none 0 0, .slice none 0 0, .slice none 0 0, .slice none 0 0, .slice none 0 0, .slice none 0 0, .slice none 0 0, .slice none 0 0, .slice none 0 0, .slice none 0 0, .slice none 0 0, .slice none 0 0, .slice none 0 0, .slice none 0 0, .slice none 0 0, .slice none 0 0, .slice none 0 0, .slice none 0 0, .slice none 0 0, .slice none 0 0, .slice none 0 0, .slice none 0 0, .slice none 0 0, .slice none 0 0, .slice none 0 0, .slice none 0 0, .slice none 0 0, .slice none 0 0, .slice none 0 0, .slice none 0 0, .slice none 0 0, .slice none 0 0, .slice none 0 0, .slice none 0 0] 131)).there w2.heap.size 0 C.toList.toArray.size) := by
      rw [show C.toList.toArray.size = 40 by simpa using hC.1]
      exact TH0
    have ON : Hid (C.toList.toArray.all (·.oneCell') = true) := all_oneCell_toArray (fun u hu => hC.one u (by simpa using hu))
    have RG : Hid ((((w2.alloc (.cells #[.slice none 0 0, .slice none 0 0, .slice none 0 0, .slice none 0 0, .slice none 0 0, .slice none 0 0, .slice none 0 0, .slice none 0 0, .slice none 0 0, .slice none 0 0, .slice none 0 0, .slice none 0 0, .slice none 0 0, .slice none 0 0, .slice none 0 0, .slice none 0 0, .slice none 0 0, .slice none 0 0, .slice none 0 0, .slice none 0 0, .slice none 0 0, .slice none 0 0, .slice none 0 0, .slice none 0 0, .slice none 0 0, .slice none 0 0, .slice none 0 0, .slice none 0 0, .slice none 0 0, .slice none 0 0, .slice none 0 0, .slice none 0 0, .slice none 0 0, .slice none 0 0, .slice none 0 0, .slice none 0 0, .slice none 0 0, .slice none 0 0, .slice none 0 0, .slice none 0 0] 131)).setCells w2.heap.size 0 C.toList)).rangeAt w2.heap.size 0 C.toList) := World.rangeAt_setCells_same _ w2.heap.size 0 C.toList (by rw [hCl]; exact TH0)
    have hsz : w2.heap.size < (((w2.alloc (.cells #[.slice none 0 0, .slice none 0 0, .slice none 0 0, .slice none 0 0, .slice none 0 0, .slice none 0 0, .slice none 0 0, .slice none 0 0, .slice none 0 0, .slice none 0 0, .slice none 0 0, .slice none 0 0, .slice none 0 0, .slice none 0 0, .slice none 0 0, .slice none 0 0, .slice none 0 0, .slice none 0 0, .slice none 0 0, .slice none 0 0, .slice none 0 0, .slice none 0 0, .slice none 0 0, .slice none 0 0, .slice none 0 0, .slice none 0 0, .slice none 0 0, .slice none 0 0, .slice none 0 0, .slice none 0 0, .slice none 0 0, .slice none 0 0, .slice none 0 0, .slice none 0 0, .slice none 0 0, .slice none 0 0, .slice none 0 0, .slice none 0 0, .slice none 0 0, .slice none 0 0] 131)).setCells w2.heap.size 0 C.toList)).heap.size := by
      have h1 := HGS.size
      have h2 : (w2.alloc (.cells #[.slice none 0 0, .slice none 0 0, .slice none 0 0, .slice none 0 0, .slice none 0 0, .slice none 0 0, .slice none 0 0, .slice none 0 0, .slice none 0 0, .slice none 0 0, .slice none 0 0, .slice none 0 0, .slice none 0 0, .slice none 0 0, .slice none 0 0, .slice none 0 0, .slice none 0 0, .slice none 0 0, .slice none 0 0, .slice none 0 0, .slice none 0 0, .slice none 0 0, .slice none 0 0, .slice none 0 0, .slice none 0 0, .slice none 0 0, .slice none 0 0, .slice none 0 0, .slice none 0 0, .slice none 0 0, .slice none 0 0, .slice none 0 0, .slice none 0 0, .slice none 0 0, .slice none 0 0, .slice none 0 0, .slice none 0 0, .slice none 0 0, .slice none 0 0, .slice none 0 0] 131)).heap.size = w2.heap.size + 1 := by simp
      rw [h2] at h1
      omega
    have HC2 := Lib.hid hC
    have mi := ((V2.out.below BW.out).cell (j := 1) rfl)
    have B3 : Hid (Below w.heap.size w ((w2.alloc (.cells #[.slice none 0 0, .slice none 0 0, .slice none 0 0, .slice none 0 0, .slice none 0 0, .slice none 0 0, .slice none 0 0, .slice none 0 0, .slice none 0 0, .slice none 0 0, .slice none 0 0, .slice none 0 0, .slice none 0 0, .slice none 0 0, .slice none 0 0, .slice none 0 0, .slice none 0 0, .slice none 0 0, .slice none 0 0, .slice none 0 0, .slice none 0 0, .slice none 0 0, .slice none 0 0, .slice none 0 0, .slice none 0 0, .slice none 0 0, .slice none 0 0, .slice none 0 0, .slice none 0 0, .slice none 0 0, .slice none 0 0, .slice none 0 0, .slice none 0 0, .slice none 0 0, .slice none 0 0, .slice none 0 0, .slice none 0 0, .slice none 0 0, .slice none 0 0, .slice none 0 0] 131)).setCells w2.heap.size 0 C.toList)) := B2.out.trans (BW.out.mono B2.out.size)
    clear hb hC hCl HGS TH0 V1 B1 V2
    obtain ⟨w3, hw3⟩ : ∃ w3, w3 = ((w2.alloc (.cells #[.slice none 0 0, .slice none 0 0, .slice none 0 0, .slice none 0 0, .slice none 0 0, .slice none 0 0, .slice none 0 0, .slice none 0 0, .slice none 0 0, .slice none 0 0, .slice none 0 0, .slice none 0 0, .slice none 0 0, .slice none 0 0, .slice none 0 0, .slice none 0 0, .slice none 0 0, .slice none 0 0, .slice none 0 0, .slice none 0 0, .slice none 0 0, .slice none 0 0, .slice none 0 0, .slice none 0 0, .slice none 0 0, .slice none 0 0, .slice none 0 0, .slice none 0 0, .slice none 0 0, .slice none 0 0, .slice none 0 0, .slice none 0 0, .slice none 0 0, .slice none 0 0, .slice none 0 0, .slice none 0 0, .slice none 0 0, .slice none 0 0, .slice none 0 0, .slice none 0 0] 131)).setCells w2.heap.size 0 C.toList) := ⟨_, rfl⟩
    rw [← hw3] at BW RG mi B3 hsz
    have HW3 := Lib.hid hw3
    go_wp2_with (refine wpList_store_mid rfl _ _ _ rfl w2.heap.size 0 C.toList.toArray rfl rfl TH.out (by rw [List.size_toArray, HCL.out]; kernel_rfl) ON.out ?_; simp only; rw [← hw3]; clear hw3)
    clear mi TH ON HCL HW3
    have hw23 := BW.out.size
    have G0 : Hid (Owns (w3.alloc (.cells #[.int .i64 it] 3)) w3.heap.size (.slice (some ⟨w3.heap.size, 0, none⟩) 1 1) 1 [it]) := owns_lit w3 [it] 1 rfl (by unfold maxLen; omega)
    go_loopw [4, 5] (fun fd i wr => ∃ (k g c0 len : Nat) (F : List Int), i = .int .i64 k ∧ fd = .slice (some ⟨g, 0, none⟩) len c0 ∧ k ≤ len ∧ Hid (Owns wr w3.heap.size (.slice (some ⟨g, 0, none⟩) len c0) len F) ∧ Hid (Found ⟨st, it, ins, outs, hids, steps⟩ F k) ∧ Below w3.heap.size w3 wr) (fun _ i _ => 40 - (intOf i).toNat)
    case atStart => exact ⟨0, _, 1, 1, [it], rfl, rfl, by omega, G0.out, Found.start ⟨st, it, ins, outs, hids, steps⟩, (Below.refl _ _).alloc (Nat.le_refl _) _⟩
    case round =>
      obtain ⟨k, g, c0, len, F, rfl, rfl, hk, HO, HF, hnx⟩ := hrel
      clear G0
      have hl40 : len ≤ 40 := by
        have := HF.out.len HQ.out
        rw [HO.out.length] at this
        exact this
      by_cases hlt : k < len
      · have hkF : k < F.length := by rw [HO.out.length]; exact hlt
        obtain ⟨s, hs⟩ : ∃ s, s = F[k] := ⟨_, rfl⟩
        have hsl := HF.out.low HQ.out s (by rw [hs]; exact List.getElem_mem hkF)
        obtain ⟨j, rfl⟩ : ∃ j : Nat, s = (j : Int) := ⟨s.toNat, by omega⟩
        have hj : j < 40 := by omega
        have hj' : (j : Int) < 40 := by omega
        have gF : wr.cell? ⟨g, k, none⟩ = some (.int .i64 (j : Int)) := by
          rw [HO.out.cells.2 k hlt, getD_eq F k hkF, hs]
        obtain ⟨ar, cr, hCs, hor⟩ := HC2.out.2.1 j hj
        obtain ⟨row, hrow⟩ : ∃ r, r = rowL steps (j : Int) := ⟨_, rfl⟩
        obtain ⟨m, hm⟩ : ∃ m, m = row.length := ⟨_, rfl⟩
        rw [← hrow, ← hm] at hCs hor
        have hm4 : m ≤ 400 := by
          have h1 := rowL_len steps (j : Int)
          have h2 := HLEN.out
          rw [hm, hrow]
          omega
        have gR : wr.cell? ⟨w2.heap.size, j, none⟩ = some (.slice ar m cr) := by
          have := RG.out j (.slice ar m cr) (by simpa using hCs)
          rw [Nat.zero_add] at this
          exact (hnx.cell (p := ⟨w2.heap.size, j, none⟩) hsz).trans this
        have HRW := Lib.hid ((hor.row.2.2.2).below BW.out)
        have HFK : Hid (F[k]? = some (j : Int)) := by rw [List.getElem?_eq_getElem hkF, ← hs]; rfl
        have HROW := Lib.hid hrow
        have HM := Lib.hid hm
        clear hs hsl hCs hor hrow hm
        go_wp2_with fail
        go_step3
        go_wp2_with fail
        go_step3
        go_wp2_with fail
        clear gF gR
        go_loopw [4, 31] (fun fd i wr2 => ∃ (j2 g2 d2 len2 : Nat) (F2 : List Int), i = .int .i64 j2 ∧ fd = .slice (some ⟨g2, 0, none⟩) len2 d2 ∧ j2 ≤ m ∧ Hid (Owns wr2 w3.heap.size (.slice (some ⟨g2, 0, none⟩) len2 d2) len2 F2) ∧ Hid (FoundIn ⟨st, it, ins, outs, hids, steps⟩ F k row j2 F2) ∧ Below w3.heap.size w3 wr2) (fun _ i _ => m - (intOf i).toNat)
        case atStart => exact ⟨0, g, c0, len, F, rfl, rfl, by omega, HO.out, FoundIn.start HF.out row, hnx⟩
        case round =>
          obtain ⟨j2, g2, d2, len2, F2, rfl, rfl, hj2, HO2, HF2, hnx2⟩ := hrel
          have hl2 : len2 ≤ 40 := by
            have := HF2.out.2.1.len HQ.out
            rw [HO2.out.length] at this
            exact this
          by_cases hlt2 : j2 < m
          · obtain ⟨b, off, rfl, hb, hcell⟩ := HRW.out.2 (by omega)
            have hjx : j2 < row.length := by rw [← HM.out]; exact hlt2
            obtain ⟨⟨x, y, z⟩, hx⟩ : ∃ t, t = row[j2] := ⟨_, rfl⟩
            obtain ⟨d0, d1, dd⟩ := hcell j2 row[j2] (List.getElem?_eq_getElem hjx)
            rw [← hx] at d0 d1 dd
            have e0 := (hnx2.cell (p := ⟨b, off + j2 * 3, none⟩) hb).trans d0
            have e1 := (hnx2.cell (p := ⟨b, off + j2 * 3 + 1, none⟩) hb).trans d1
            have e2 := (hnx2.cell (p := ⟨b, off + j2 * 3 + 2, none⟩) hb).trans dd
            simp only at e0 e1 e2
            have XV := Lib.hid (VarIs.new wr #[.int .i64 x, .int .i64 y, .int .i64 z] 42 rfl)
            have BX := Lib.hid (hnx2.alloc hnx2.size (.cells #[.int .i64 x, .int .i64 y, .int .i64 z] 42))
            have HO3 := Lib.hid (HO2.out.alloc (.cells #[.int .i64 x, .int .i64 y, .int .i64 z] 42))
            have HZ : Hid (row[j2].2.2 = z) := by rw [← hx]; rfl
            have HSF : Hid ((j : Int) ∈ F2) := by
              obtain ⟨E, hE⟩ := HF2.out.1
              rw [hE]
              exact List.mem_append_left _ (List.mem_of_getElem? HFK.out)
            clear d0 d1 dd hx hcell
            go_wp2_with fail
            clear e0 e1 e2
            go_loop [37] (fun i => ∃ j3 : Nat, j3 ≤ len2 ∧ i = .int .i64 j3 ∧ Hid (z ∉ F2.take j3)) (fun i => len2 - (intOf i).toNat)
            case atStart => exact ⟨0, Nat.zero_le _, rfl, by simp [Hid]⟩
            case round =>
              obtain ⟨j3, hj3, rfl, HN⟩ := hrel
              have kz := XV.out.cell (j := 2) rfl
              by_cases hlt3 : j3 < len2
              · have h3F : j3 < F2.length := by rw [HO2.out.length]; exact hlt3
                obtain ⟨kn, hkn⟩ : ∃ s, s = F2[j3] := ⟨_, rfl⟩
                have gk : (wr.alloc (.cells #[.int .i64 x, .int .i64 y, .int .i64 z] 42)).cell? ⟨g2, j3, none⟩ = some (.int .i64 kn) := by
                  rw [HO3.out.cells.2 j3 hlt3, getD_eq F2 j3 h3F, hkn]
                have HKN := Lib.hid hkn
                clear hkn
                by_cases heq : kn = z
                · have hd : (kn == z) = true := by simp [heq]
                  have HK2 : Hid (FoundIn ⟨st, it, ins, outs, hids, steps⟩ F k row (j2 + 1) F2) := HF2.out.known hjx (by rw [HZ.out, ← heq, HKN.out]; exact List.getElem_mem h3F)
                  clear heq
                  go_wp2_with fail
                  go_roundw
                  case rel => exact ⟨j2 + 1, g2, d2, len2, F2, by go_num, rfl, by omega, HO3.out, HK2.out, BX.out⟩
                  case measure => simp [intOf]; omega
                · have hd : (kn == z) = false := by simp [heq]
                  have HN2 : Hid (z ∉ F2.take (j3 + 1)) := by
                    unfold Hid
                    rw [List.take_succ_eq_append_getElem h3F, List.mem_append]
                    rintro (h | h)
                    · exact HN.out h
                    · obtain rfl := List.mem_singleton.1 h
                      exact heq HKN.out
                  have HEQ := Lib.hid heq
                  clear heq
                  go_wp2_with fail
                  go_round
                  case rel => exact ⟨j3 + 1, by omega, by go_num, HN2.out⟩
                  case measure => simp [intOf]; omega
              · have HNF : Hid (z ∉ F2) := by
                  have := HN.out
                  rw [List.take_of_length_le (by rw [HO2.out.length]; omega)] at this
                  exact this
                have HK2 : Hid (FoundIn ⟨st, it, ins, outs, hids, steps⟩ F k row (j2 + 1) (F2 ++ [z])) := by
                  have := HF2.out.fresh HQ.out (by rw [HO.out.length]; exact hk) HSF.out HROW.out hjx (by rw [HZ.out]; exact HNF.out)
                  rwa [HZ.out] at this
                have T1 := HO3.out.alloc (.cells #[.int .i64 z] 3)
                have S1 : Src ((wr.alloc (.cells #[.int .i64 x, .int .i64 y, .int .i64 z] 42)).alloc (.cells #[.int .i64 z] 3)) (some ⟨wr.heap.size + 1, 0, none⟩) 1 1 [z] := src_one (by simp)
                have b1 := hnx2.size
                go_wp2_with (at_builtin; refine wpList_app rfl (.tmp 46) (.tmp 49) rfl w3.heap.size i0 Tryz.underlying22 hi hz0 hz1 hz2 _ _ _ rfl T1 _ 1 _ [z] rfl S1 (by omega) (by simp; omega) ?_)
                rintro v4 w4 ⟨hown4, hgrow4, hnil4⟩
                have hb4 : Below w3.heap.size w3 w4 := T1.grown (BX.out.alloc BX.out.size _) hgrow4 (Nat.le_refl _) (by simp; omega)
                obtain ⟨g4, d4, rfl⟩ := hown4.head (fun e => by have := (hnil4.1 e).1; cases this)
                have HO4 := Lib.hid hown4
                clear T1 S1 hgrow4 hown4 hnil4 kz
                go_wp2_with fail
                go_roundw
                case rel => exact ⟨j2 + 1, g4, d4, len2 + 1, F2 ++ [z], by go_num, rfl, by omega, HO4.out, HK2.out, hb4⟩
                case measure => simp [intOf]; omega
          · have HD : Hid (Found ⟨st, it, ins, outs, hids, steps⟩ F2 (k + 1)) := by
              have h1 : j2 = row.length := by rw [← HM.out]; omega
              have h2 := HF2.out
              rw [h1] at h2
              exact h2.done HFK.out HROW.out
            have hkl : k + 1 ≤ len2 := by
              obtain ⟨E, hE⟩ := HF2.out.1
              have := HO2.out.length
              rw [hE, List.length_append] at this
              omega
            go_wp2_with fail
            apply_assumption
            go_wp2_with fail
            go_roundw
            case rel => exact ⟨k + 1, g2, d2, len2, F2, by go_num, rfl, hkl, HO2.out, HD.out, hnx2⟩
            case measure => simp [intOf]; omega
      · have HD : Hid ((F.mergeSort fun x y => decide (x ≤ y)) = reachedOf ⟨st, it, ins, outs, hids, steps⟩) := by
          have h1 : k = F.length := by rw [HO.out.length]; omega
          have h2 := HF.out
          rw [h1] at h2
          exact h2.done
        go_wp2_with fail
        refine (sort_at g len c0 w3.heap.size F _ HO.out (by omega)).mono ?_
        rintro e w4 ⟨rfl, ho4, hg4⟩
        have HO4 := Lib.hid ho4
        have B4 : Hid (Below w3.heap.size w3 w4) := hnx.grown hg4 hnx.size (fun q hq => by cases hq; exact (HO.out.lt g rfl).1)
        clear ho4 hg4
        go_wp2_with fail
        go_ret
        obtain rfl : L = reachedOf ⟨st, it, ins, outs, hids, steps⟩ := HL.out
        rw [← HD.out]
        have e := HO4.out.length
        have h5 : Owns w4 w3.heap.size (.slice (some ⟨g, 0, none⟩) len c0) (F.mergeSort fun x y => decide (x ≤ y)).length (F.mergeSort fun x y => decide (x ≤ y)) := by
          rw [e]
          exact HO4.out
        exact ⟨_, rfl, h5.mono B3.out.size, B3.out.trans (B4.out.mono B3.out.size)⟩

end Go.Proofs.YtogjbnimohakjabGreat
