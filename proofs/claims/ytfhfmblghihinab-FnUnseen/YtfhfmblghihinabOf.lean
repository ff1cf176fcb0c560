/-
  Contracts of Taken, Said, Done and After: the model's, and the program's first three. Conditions: the automaton's lists have at most 2^20 elements.
-/
import Derived.Test.YtfhfmblghihinabAfter
import Derived.Test.YtfhfmblghihinabSpecIaOk
import Derived.Deep.RegionHeld3
namespace Go.Proofs.Ytfhfmblghihinab
open Go.RowKit

theorem ofL_len (ss : List St) (s : Int) (set : List Int) : (ofL ss s set).length ≤ ss.length := by
  unfold ofL
  refine Nat.le_trans (putAll_len _ _) ?_
  rw [List.length_nil, Nat.zero_add, List.length_map]
  exact List.length_filter_le _ _

theorem afterL_len (ss : List St) (s act : Int) : (afterL ss s act).length ≤ ss.length := by
  unfold afterL
  refine Nat.le_trans (putAll_len _ _) ?_
  rw [List.length_nil, Nat.zero_add, List.length_map]
  exact List.length_filter_le _ _

theorem of_len (a : IaD) (s : Int) (set : List Int) (f5 : a.steps.length ≤ 1048576) : (if iaOkB a then ofL a.steps s set else []).length ≤ 4194304 := by
  have := ofL_len a.steps s set
  split
  · omega
  · simp

theorem after_len (a : IaD) (s act : Int) (f5 : a.steps.length ≤ 1048576) : (if iaOkB a then afterL a.steps s act else []).length ≤ 4194304 := by
  have := afterL_len a.steps s act
  split
  · omega
  · simp

set_option maxRecDepth 20000 in
set_option maxHeartbeats 3200000 in
theorem implTaken_any (a : IaD) (v : Value) (s : Int) (w : World) (h : IaRow w a v) (f2 : a.ins.length ≤ 1048576) (f3 : a.outs.length ≤ 1048576) (f4 : a.hids.length ≤ 1048576) (f5 : a.steps.length ≤ 1048576) :
    Calls Try.prog 26 #[v, .int .i64 s] w (RowRes w w.heap.size (if iaOkB a then ofL a.steps s a.ins else [])) := by
  rw [← actsR_if]
  have CR0 : Hid (∀ W, Below w.heap.size w W → Calls Try.prog 54 #[v, .int .i64 s] W fun e w' => ∃ ad c, e = .returned (.slice ad (rowIf a s).length c) ∧ RowS w' ad (rowIf a s).length (rowIf a s) ∧ Below W.heap.size W w') := fun W hW => rowOf_any a v s W (h.below hW) f2 f3 f4 f5
  obtain ⟨row, hrow⟩ : ∃ r, r = rowIf a s := ⟨_, rfl⟩
  obtain ⟨m, hm⟩ : ∃ m, m = row.length := ⟨_, rfl⟩
  rw [← hrow, ← hm] at CR0
  have hml : m ≤ 1048576 := by
    have := rowIf_len a s
    rw [hm, hrow]
    omega
  rw [← hrow]
  clear hrow hm
  obtain ⟨a2, n2, c2, a3, n3, c3, a4, n4, c4, a5, n5, c5, rfl, r2, r3, r4, r5⟩ := h
  obtain ⟨st, it, ins, outs, hids, steps⟩ := a
  simp only at r2 r3 r4 r5 f2 f3 f4 f5
  have hsn : n2 ≤ 1048576 := by have := r2.1; omega
  have RX := Lib.hid r2
  clear r2 r3 r4 r5 f2 f3 f4 f5
  obtain ⟨L, hL⟩ : ∃ L, L = Lib.compact (actsR row ins) := ⟨_, rfl⟩
  have CR : Hid (∀ W, Below w.heap.size w W ∧ VarIs W w.heap.size #[.int .i64 st, .int .i64 it, .slice a2 n2 c2, .slice a3 n3 c3, .slice a4 n4 c4, .slice a5 n5 c5] 30 ∧ W.cell? ⟨w.heap.size, 0, none⟩ = some (.int .i64 st) ∧ W.cell? ⟨w.heap.size, 1, none⟩ = some (.int .i64 it) ∧ W.cell? ⟨w.heap.size, 2, none⟩ = some (.slice a2 n2 c2) ∧ W.cell? ⟨w.heap.size, 3, none⟩ = some (.slice a3 n3 c3) ∧ W.cell? ⟨w.heap.size, 4, none⟩ = some (.slice a4 n4 c4) ∧ W.cell? ⟨w.heap.size, 5, none⟩ = some (.slice a5 n5 c5) → Calls Try.prog 54 #[.agg #[.int .i64 st, .int .i64 it, .slice a2 n2 c2, .slice a3 n3 c3, .slice a4 n4 c4, .slice a5 n5 c5], .int .i64 s] W fun e w' => ∃ ad c, e = .returned (.slice ad m c) ∧ RowS w' ad m row ∧ (Below w.heap.size w w' ∧ VarIs w' w.heap.size #[.int .i64 st, .int .i64 it, .slice a2 n2 c2, .slice a3 n3 c3, .slice a4 n4 c4, .slice a5 n5 c5] 30 ∧ w'.cell? ⟨w.heap.size, 0, none⟩ = some (.int .i64 st) ∧ w'.cell? ⟨w.heap.size, 1, none⟩ = some (.int .i64 it) ∧ w'.cell? ⟨w.heap.size, 2, none⟩ = some (.slice a2 n2 c2) ∧ w'.cell? ⟨w.heap.size, 3, none⟩ = some (.slice a3 n3 c3) ∧ w'.cell? ⟨w.heap.size, 4, none⟩ = some (.slice a4 n4 c4) ∧ w'.cell? ⟨w.heap.size, 5, none⟩ = some (.slice a5 n5 c5))) := fun W hW => (CR0.out W hW.1).mono fun e w' ⟨ad, c, he, hr, hb⟩ => ⟨ad, c, he, hr, ⟨hW.1.trans (hb.mono hW.1.size), hW.2.1.below hb, (hW.2.1.below hb).cell rfl, (hW.2.1.below hb).cell rfl, (hW.2.1.below hb).cell rfl, (hW.2.1.below hb).cell rfl, (hW.2.1.below hb).cell rfl, (hW.2.1.below hb).cell rfl⟩⟩
  have CA : Hid (∀ W ad c, Below w.heap.size w W ∧ VarIs W w.heap.size #[.int .i64 st, .int .i64 it, .slice a2 n2 c2, .slice a3 n3 c3, .slice a4 n4 c4, .slice a5 n5 c5] 30 ∧ W.cell? ⟨w.heap.size, 0, none⟩ = some (.int .i64 st) ∧ W.cell? ⟨w.heap.size, 1, none⟩ = some (.int .i64 it) ∧ W.cell? ⟨w.heap.size, 2, none⟩ = some (.slice a2 n2 c2) ∧ W.cell? ⟨w.heap.size, 3, none⟩ = some (.slice a3 n3 c3) ∧ W.cell? ⟨w.heap.size, 4, none⟩ = some (.slice a4 n4 c4) ∧ W.cell? ⟨w.heap.size, 5, none⟩ = some (.slice a5 n5 c5) → RowS W ad m row → Calls Try.prog 53 #[.slice ad m c, .slice a2 n2 c2] W fun e w' => ∃ v, e = .returned v ∧ Owns w' w.heap.size v L.length L ∧ (Below w.heap.size w w' ∧ VarIs w' w.heap.size #[.int .i64 st, .int .i64 it, .slice a2 n2 c2, .slice a3 n3 c3, .slice a4 n4 c4, .slice a5 n5 c5] 30 ∧ w'.cell? ⟨w.heap.size, 0, none⟩ = some (.int .i64 st) ∧ w'.cell? ⟨w.heap.size, 1, none⟩ = some (.int .i64 it) ∧ w'.cell? ⟨w.heap.size, 2, none⟩ = some (.slice a2 n2 c2) ∧ w'.cell? ⟨w.heap.size, 3, none⟩ = some (.slice a3 n3 c3) ∧ w'.cell? ⟨w.heap.size, 4, none⟩ = some (.slice a4 n4 c4) ∧ w'.cell? ⟨w.heap.size, 5, none⟩ = some (.slice a5 n5 c5))) := fun W ad c hW hr => by
    rw [hL]
    exact (actsOfRow_any ad m c row a2 n2 c2 ins W hr hml (RX.out.below hW.1) hsn).mono fun e w' ⟨v, he, ho, hb⟩ => ⟨v, he, ho.mono hW.1.size, ⟨hW.1.trans (hb.mono hW.1.size), hW.2.1.below hb, (hW.2.1.below hb).cell rfl, (hW.2.1.below hb).cell rfl, (hW.2.1.below hb).cell rfl, (hW.2.1.below hb).cell rfl, (hW.2.1.below hb).cell rfl, (hW.2.1.below hb).cell rfl⟩⟩
  simp only
  rw [← hL]
  clear hL CR0
  have V0 := ((VarIs.new w #[.int .i64 st, .int .i64 it, .slice a2 n2 c2, .slice a3 n3 c3, .slice a4 n4 c4, .slice a5 n5 c5] 30 rfl)).drew
  have S0 : Below w.heap.size w (w.alloc (.cells #[.int .i64 st, .int .i64 it, .slice a2 n2 c2, .slice a3 n3 c3, .slice a4 n4 c4, .slice a5 n5 c5] 30)).drew ∧ VarIs (w.alloc (.cells #[.int .i64 st, .int .i64 it, .slice a2 n2 c2, .slice a3 n3 c3, .slice a4 n4 c4, .slice a5 n5 c5] 30)).drew w.heap.size #[.int .i64 st, .int .i64 it, .slice a2 n2 c2, .slice a3 n3 c3, .slice a4 n4 c4, .slice a5 n5 c5] 30 ∧ (w.alloc (.cells #[.int .i64 st, .int .i64 it, .slice a2 n2 c2, .slice a3 n3 c3, .slice a4 n4 c4, .slice a5 n5 c5] 30)).drew.cell? ⟨w.heap.size, 0, none⟩ = some (.int .i64 st) ∧ (w.alloc (.cells #[.int .i64 st, .int .i64 it, .slice a2 n2 c2, .slice a3 n3 c3, .slice a4 n4 c4, .slice a5 n5 c5] 30)).drew.cell? ⟨w.heap.size, 1, none⟩ = some (.int .i64 it) ∧ (w.alloc (.cells #[.int .i64 st, .int .i64 it, .slice a2 n2 c2, .slice a3 n3 c3, .slice a4 n4 c4, .slice a5 n5 c5] 30)).drew.cell? ⟨w.heap.size, 2, none⟩ = some (.slice a2 n2 c2) ∧ (w.alloc (.cells #[.int .i64 st, .int .i64 it, .slice a2 n2 c2, .slice a3 n3 c3, .slice a4 n4 c4, .slice a5 n5 c5] 30)).drew.cell? ⟨w.heap.size, 3, none⟩ = some (.slice a3 n3 c3) ∧ (w.alloc (.cells #[.int .i64 st, .int .i64 it, .slice a2 n2 c2, .slice a3 n3 c3, .slice a4 n4 c4, .slice a5 n5 c5] 30)).drew.cell? ⟨w.heap.size, 4, none⟩ = some (.slice a4 n4 c4) ∧ (w.alloc (.cells #[.int .i64 st, .int .i64 it, .slice a2 n2 c2, .slice a3 n3 c3, .slice a4 n4 c4, .slice a5 n5 c5] 30)).drew.cell? ⟨w.heap.size, 5, none⟩ = some (.slice a5 n5 c5) := ⟨((Below.refl _ _).alloc (Nat.le_refl _) _).drew, V0, V0.cell rfl, V0.cell rfl, V0.cell rfl, V0.cell rfl, V0.cell rfl, V0.cell rfl⟩
  clear V0
  go_enter Try.func26, Try.ntmps26
  go_wp2_with fail
  go_region_held3 (fun w' => Below w.heap.size w w' ∧ VarIs w' w.heap.size #[.int .i64 st, .int .i64 it, .slice a2 n2 c2, .slice a3 n3 c3, .slice a4 n4 c4, .slice a5 n5 c5] 30 ∧ w'.cell? ⟨w.heap.size, 0, none⟩ = some (.int .i64 st) ∧ w'.cell? ⟨w.heap.size, 1, none⟩ = some (.int .i64 it) ∧ w'.cell? ⟨w.heap.size, 2, none⟩ = some (.slice a2 n2 c2) ∧ w'.cell? ⟨w.heap.size, 3, none⟩ = some (.slice a3 n3 c3) ∧ w'.cell? ⟨w.heap.size, 4, none⟩ = some (.slice a4 n4 c4) ∧ w'.cell? ⟨w.heap.size, 5, none⟩ = some (.slice a5 n5 c5))
    (first | exact hS2 | exact hS1 | exact S0)
    ((first | (go_at_call 54; refine (CR.out _ S0).mono ?_; rintro e w' ⟨ad, c, rfl, hR, hS1⟩) | (go_at_call 53; refine (CA.out _ _ _ hS1 hR).mono ?_; rintro e w' ⟨v1, rfl, hO, hS2⟩)))
  have HO := Lib.hid hO
  have HB := Lib.hid hS2.1
  clear S0 hS1 hS2 hR hO CR CA
  go_wp2_with fail
  go_ret
  exact ⟨_, rfl, HO.out, HB.out⟩

set_option maxRecDepth 20000 in
set_option maxHeartbeats 3200000 in
theorem implSaid_any (a : IaD) (v : Value) (s : Int) (w : World) (h : IaRow w a v) (f2 : a.ins.length ≤ 1048576) (f3 : a.outs.length ≤ 1048576) (f4 : a.hids.length ≤ 1048576) (f5 : a.steps.length ≤ 1048576) :
    Calls Try.prog 28 #[v, .int .i64 s] w (RowRes w w.heap.size (if iaOkB a then ofL a.steps s a.outs else [])) := by
  rw [← actsR_if]
  have CR0 : Hid (∀ W, Below w.heap.size w W → Calls Try.prog 54 #[v, .int .i64 s] W fun e w' => ∃ ad c, e = .returned (.slice ad (rowIf a s).length c) ∧ RowS w' ad (rowIf a s).length (rowIf a s) ∧ Below W.heap.size W w') := fun W hW => rowOf_any a v s W (h.below hW) f2 f3 f4 f5
  obtain ⟨row, hrow⟩ : ∃ r, r = rowIf a s := ⟨_, rfl⟩
  obtain ⟨m, hm⟩ : ∃ m, m = row.length := ⟨_, rfl⟩
  rw [← hrow, ← hm] at CR0
  have hml : m ≤ 1048576 := by
    have := rowIf_len a s
    rw [hm, hrow]
    omega
  rw [← hrow]
  clear hrow hm
  obtain ⟨a2, n2, c2, a3, n3, c3, a4, n4, c4, a5, n5, c5, rfl, r2, r3, r4, r5⟩ := h
  obtain ⟨st, it, ins, outs, hids, steps⟩ := a
  simp only at r2 r3 r4 r5 f2 f3 f4 f5
  have hsn : n3 ≤ 1048576 := by have := r3.1; omega
  have RX := Lib.hid r3
  clear r2 r3 r4 r5 f2 f3 f4 f5
  obtain ⟨L, hL⟩ : ∃ L, L = Lib.compact (actsR row outs) := ⟨_, rfl⟩
  have CR : Hid (∀ W, Below w.heap.size w W ∧ VarIs W w.heap.size #[.int .i64 st, .int .i64 it, .slice a2 n2 c2, .slice a3 n3 c3, .slice a4 n4 c4, .slice a5 n5 c5] 30 ∧ W.cell? ⟨w.heap.size, 0, none⟩ = some (.int .i64 st) ∧ W.cell? ⟨w.heap.size, 1, none⟩ = some (.int .i64 it) ∧ W.cell? ⟨w.heap.size, 2, none⟩ = some (.slice a2 n2 c2) ∧ W.cell? ⟨w.heap.size, 3, none⟩ = some (.slice a3 n3 c3) ∧ W.cell? ⟨w.heap.size, 4, none⟩ = some (.slice a4 n4 c4) ∧ W.cell? ⟨w.heap.size, 5, none⟩ = some (.slice a5 n5 c5) → Calls Try.prog 54 #[.agg #[.int .i64 st, .int .i64 it, .slice a2 n2 c2, .slice a3 n3 c3, .slice a4 n4 c4, .slice a5 n5 c5], .int .i64 s] W fun e w' => ∃ ad c, e = .returned (.slice ad m c) ∧ RowS w' ad m row ∧ (Below w.heap.size w w' ∧ VarIs w' w.heap.size #[.int .i64 st, .int .i64 it, .slice a2 n2 c2, .slice a3 n3 c3, .slice a4 n4 c4, .slice a5 n5 c5] 30 ∧ w'.cell? ⟨w.heap.size, 0, none⟩ = some (.int .i64 st) ∧ w'.cell? ⟨w.heap.size, 1, none⟩ = some (.int .i64 it) ∧ w'.cell? ⟨w.heap.size, 2, none⟩ = some (.slice a2 n2 c2) ∧ w'.cell? ⟨w.heap.size, 3, none⟩ = some (.slice a3 n3 c3) ∧ w'.cell? ⟨w.heap.size, 4, none⟩ = some (.slice a4 n4 c4) ∧ w'.cell? ⟨w.heap.size, 5, none⟩ = some (.slice a5 n5 c5))) := fun W hW => (CR0.out W hW.1).mono fun e w' ⟨ad, c, he, hr, hb⟩ => ⟨ad, c, he, hr, ⟨hW.1.trans (hb.mono hW.1.size), hW.2.1.below hb, (hW.2.1.below hb).cell rfl, (hW.2.1.below hb).cell rfl, (hW.2.1.below hb).cell rfl, (hW.2.1.below hb).cell rfl, (hW.2.1.below hb).cell rfl, (hW.2.1.below hb).cell rfl⟩⟩
  have CA : Hid (∀ W ad c, Below w.heap.size w W ∧ VarIs W w.heap.size #[.int .i64 st, .int .i64 it, .slice a2 n2 c2, .slice a3 n3 c3, .slice a4 n4 c4, .slice a5 n5 c5] 30 ∧ W.cell? ⟨w.heap.size, 0, none⟩ = some (.int .i64 st) ∧ W.cell? ⟨w.heap.size, 1, none⟩ = some (.int .i64 it) ∧ W.cell? ⟨w.heap.size, 2, none⟩ = some (.slice a2 n2 c2) ∧ W.cell? ⟨w.heap.size, 3, none⟩ = some (.slice a3 n3 c3) ∧ W.cell? ⟨w.heap.size, 4, none⟩ = some (.slice a4 n4 c4) ∧ W.cell? ⟨w.heap.size, 5, none⟩ = some (.slice a5 n5 c5) → RowS W ad m row → Calls Try.prog 53 #[.slice ad m c, .slice a3 n3 c3] W fun e w' => ∃ v, e = .returned v ∧ Owns w' w.heap.size v L.length L ∧ (Below w.heap.size w w' ∧ VarIs w' w.heap.size #[.int .i64 st, .int .i64 it, .slice a2 n2 c2, .slice a3 n3 c3, .slice a4 n4 c4, .slice a5 n5 c5] 30 ∧ w'.cell? ⟨w.heap.size, 0, none⟩ = some (.int .i64 st) ∧ w'.cell? ⟨w.heap.size, 1, none⟩ = some (.int .i64 it) ∧ w'.cell? ⟨w.heap.size, 2, none⟩ = some (.slice a2 n2 c2) ∧ w'.cell? ⟨w.heap.size, 3, none⟩ = some (.slice a3 n3 c3) ∧ w'.cell? ⟨w.heap.size, 4, none⟩ = some (.slice a4 n4 c4) ∧ w'.cell? ⟨w.heap.size, 5, none⟩ = some (.slice a5 n5 c5))) := fun W ad c hW hr => by
    rw [hL]
    exact (actsOfRow_any ad m c row a3 n3 c3 outs W hr hml (RX.out.below hW.1) hsn).mono fun e w' ⟨v, he, ho, hb⟩ => ⟨v, he, ho.mono hW.1.size, ⟨hW.1.trans (hb.mono hW.1.size), hW.2.1.below hb, (hW.2.1.below hb).cell rfl, (hW.2.1.below hb).cell rfl, (hW.2.1.below hb).cell rfl, (hW.2.1.below hb).cell rfl, (hW.2.1.below hb).cell rfl, (hW.2.1.below hb).cell rfl⟩⟩
  simp only
  rw [← hL]
  clear hL CR0
  have V0 := ((VarIs.new w #[.int .i64 st, .int .i64 it, .slice a2 n2 c2, .slice a3 n3 c3, .slice a4 n4 c4, .slice a5 n5 c5] 30 rfl)).drew
  have S0 : Below w.heap.size w (w.alloc (.cells #[.int .i64 st, .int .i64 it, .slice a2 n2 c2, .slice a3 n3 c3, .slice a4 n4 c4, .slice a5 n5 c5] 30)).drew ∧ VarIs (w.alloc (.cells #[.int .i64 st, .int .i64 it, .slice a2 n2 c2, .slice a3 n3 c3, .slice a4 n4 c4, .slice a5 n5 c5] 30)).drew w.heap.size #[.int .i64 st, .int .i64 it, .slice a2 n2 c2, .slice a3 n3 c3, .slice a4 n4 c4, .slice a5 n5 c5] 30 ∧ (w.alloc (.cells #[.int .i64 st, .int .i64 it, .slice a2 n2 c2, .slice a3 n3 c3, .slice a4 n4 c4, .slice a5 n5 c5] 30)).drew.cell? ⟨w.heap.size, 0, none⟩ = some (.int .i64 st) ∧ (w.alloc (.cells #[.int .i64 st, .int .i64 it, .slice a2 n2 c2, .slice a3 n3 c3, .slice a4 n4 c4, .slice a5 n5 c5] 30)).drew.cell? ⟨w.heap.size, 1, none⟩ = some (.int .i64 it) ∧ (w.alloc (.cells #[.int .i64 st, .int .i64 it, .slice a2 n2 c2, .slice a3 n3 c3, .slice a4 n4 c4, .slice a5 n5 c5] 30)).drew.cell? ⟨w.heap.size, 2, none⟩ = some (.slice a2 n2 c2) ∧ (w.alloc (.cells #[.int .i64 st, .int .i64 it, .slice a2 n2 c2, .slice a3 n3 c3, .slice a4 n4 c4, .slice a5 n5 c5] 30)).drew.cell? ⟨w.heap.size, 3, none⟩ = some (.slice a3 n3 c3) ∧ (w.alloc (.cells #[.int .i64 st, .int .i64 it, .slice a2 n2 c2, .slice a3 n3 c3, .slice a4 n4 c4, .slice a5 n5 c5] 30)).drew.cell? ⟨w.heap.size, 4, none⟩ = some (.slice a4 n4 c4) ∧ (w.alloc (.cells #[.int .i64 st, .int .i64 it, .slice a2 n2 c2, .slice a3 n3 c3, .slice a4 n4 c4, .slice a5 n5 c5] 30)).drew.cell? ⟨w.heap.size, 5, none⟩ = some (.slice a5 n5 c5) := ⟨((Below.refl _ _).alloc (Nat.le_refl _) _).drew, V0, V0.cell rfl, V0.cell rfl, V0.cell rfl, V0.cell rfl, V0.cell rfl, V0.cell rfl⟩
  clear V0
  go_enter Try.func28, Try.ntmps28
  go_wp2_with fail
  go_region_held3 (fun w' => Below w.heap.size w w' ∧ VarIs w' w.heap.size #[.int .i64 st, .int .i64 it, .slice a2 n2 c2, .slice a3 n3 c3, .slice a4 n4 c4, .slice a5 n5 c5] 30 ∧ w'.cell? ⟨w.heap.size, 0, none⟩ = some (.int .i64 st) ∧ w'.cell? ⟨w.heap.size, 1, none⟩ = some (.int .i64 it) ∧ w'.cell? ⟨w.heap.size, 2, none⟩ = some (.slice a2 n2 c2) ∧ w'.cell? ⟨w.heap.size, 3, none⟩ = some (.slice a3 n3 c3) ∧ w'.cell? ⟨w.heap.size, 4, none⟩ = some (.slice a4 n4 c4) ∧ w'.cell? ⟨w.heap.size, 5, none⟩ = some (.slice a5 n5 c5))
    (first | exact hS2 | exact hS1 | exact S0)
    ((first | (go_at_call 54; refine (CR.out _ S0).mono ?_; rintro e w' ⟨ad, c, rfl, hR, hS1⟩) | (go_at_call 53; refine (CA.out _ _ _ hS1 hR).mono ?_; rintro e w' ⟨v1, rfl, hO, hS2⟩)))
  have HO := Lib.hid hO
  have HB := Lib.hid hS2.1
  clear S0 hS1 hS2 hR hO CR CA
  go_wp2_with fail
  go_ret
  exact ⟨_, rfl, HO.out, HB.out⟩

end Go.Proofs.Ytfhfmblghihinab
