/-
  Contracts of Taken, Said, Done and After: the model's, and the program's first three. Conditions: the automaton's lists have at most 2^20 elements.
-/
import Derived.Test.YtclmdlopefbpbaaAfter
import Derived.Test.YtclmdlopefbpbaaSpecIaOk
import Derived.Deep.RegionHeld3
namespace Go.Proofs.Ytclmdlopefbpbaa
open Go.RowKit

theorem ofL_len (ss : List St) (s : Int) (set : List Int) : (ofL ss s set).length ≤ ss.length := by
  unfold ofL
  refine Nat.le_trans (putAll_len _ _) ?_
  rw [List.length_nil, Nat.zero_add, List.length_map]
  exact List.length_filter_le _ _

theorem afterL_len (ss : List St) (s act : Int) : (afterL ss s act).length ≤ ss.length := by
  unfold afterL
  refine Nat.le_trans (putAll_len _ _) ?_
  rw [List.length_nil, Nat.zero_add, List.length_map]
  exact List.length_filter_le _ _

theorem of_len (a : IaD) (s : Int) (set : List Int) (f5 : a.steps.length ≤ 1048576) : (if iaOkB a then ofL a.steps s set else []).length ≤ 4194304 := by
  have := ofL_len a.steps s set
  split
  · omega
  · simp

theorem after_len (a : IaD) (s act : Int) (f5 : a.steps.length ≤ 1048576) : (if iaOkB a then afterL a.steps s act else []).length ≤ 4194304 := by
  have := afterL_len a.steps s act
  split
  · omega
  · simp

set_option maxRecDepth 20000 in
set_option maxHeartbeats 3200000 in
theorem specTaken_any (a : IaD) (v : Value) (s : Int) (w : World) (h : IaRow w a v) (f2 : a.ins.length ≤ 1048576) (f3 : a.outs.length ≤ 1048576) (f4 : a.hids.length ≤ 1048576) (f5 : a.steps.length ≤ 1048576) :
    Calls Try.prog 30 #[v, .int .i64 s] w (OwnRes w w.heap.size (if iaOkB a then ofL a.steps s a.ins else [])) := by
  have CO : Hid (∀ W, Below w.heap.size w W → Calls Try.prog 54 #[v] W fun e w' => e = .returned (.bool (iaOkB a)) ∧ Below W.heap.size W w') := fun W hW => specIaOk_any a v W (h.below hW) f2 f3 f4 f5
  obtain ⟨a2, n2, c2, a3, n3, c3, a4, n4, c4, a5, n5, c5, rfl, r2, r3, r4, r5⟩ := h
  obtain ⟨st, it, ins, outs, hids, steps⟩ := a
  simp only at r2 r3 r4 r5 f2 f3 f4 f5
  rw [r2.1] at f2
  rw [r3.1] at f3
  rw [r4.1] at f4
  rw [r5.1] at f5
  have R2 := Lib.hid r2
  have R3 := Lib.hid r3
  have R4 := Lib.hid r4
  have R5 := Lib.hid r5
  clear r2 r3 r4 r5
  obtain ⟨q, hq⟩ : ∃ q, q = iaOkB ⟨st, it, ins, outs, hids, steps⟩ := ⟨_, rfl⟩
  rw [← hq] at CO ⊢
  obtain ⟨L, hL⟩ : ∃ L, L = if q then ofL steps s ins else [] := ⟨_, rfl⟩
  rw [← hL]
  have HL := Lib.hid hL
  clear hq hL
  have B0 : Hid (∀ o, Below w.heap.size w (w.alloc o)) := fun o => (Below.refl _ _).alloc (Nat.le_refl _) _
  have V0 := Lib.hid (VarIs.new w #[.int .i64 st, .int .i64 it, .slice a2 n2 c2, .slice a3 n3 c3, .slice a4 n4 c4, .slice a5 n5 c5] 27 rfl)
  go_enter Try.func30, Try.ntmps30
  go_wp2_with fail
  refine (CO.out _ (B0.out _)).mono ?_
  rintro e w1 ⟨rfl, hb⟩
  have B1 : Hid (Below w.heap.size w w1) := (B0.out _).trans (hb.mono (B0.out _).size)
  have V1 := Lib.hid (V0.out.below hb)
  clear hb V0
  cases q with
  | false =>
    go_wp2_with fail
    go_ret
    obtain rfl : L = [] := HL.out
    exact ⟨_, _, rfl, (owns_lit _ [] 0 rfl (by unfold maxLen; omega)).mono B1.out.size, B1.out.alloc B1.out.size _⟩
  | true =>
    have m0 := V1.out.cell (j := 0) rfl
    have m1 := V1.out.cell (j := 1) rfl
    have m2 := V1.out.cell (j := 2) rfl
    have m3 := V1.out.cell (j := 3) rfl
    have m4 := V1.out.cell (j := 4) rfl
    have m5 := V1.out.cell (j := 5) rfl
    go_wp2_with fail
    clear m0 m1 m2 m3 m4 m5
    refine (of_any st it s _ _ _ a5 n5 c5 steps a2 n2 c2 ins _ (R5.out.below B1.out) (by omega) (R2.out.below B1.out) (by omega)).mono ?_
    obtain rfl : L = ofL steps s ins := HL.out
    rintro e w2 ⟨g, c, rfl, ho, hb⟩
    have HO := Lib.hid ho
    have B2 : Hid (Below w.heap.size w w2) := B1.out.trans (hb.mono B1.out.size)
    clear ho hb
    go_wp2_with fail
    go_ret
    exact ⟨_, _, rfl, HO.out.mono B1.out.size, B2.out⟩

set_option maxRecDepth 20000 in
set_option maxHeartbeats 3200000 in
theorem implTaken_any (a : IaD) (v : Value) (s : Int) (w : World) (h : IaRow w a v) (f2 : a.ins.length ≤ 1048576) (f3 : a.outs.length ≤ 1048576) (f4 : a.hids.length ≤ 1048576) (f5 : a.steps.length ≤ 1048576) :
    Calls Try.prog 22 #[v, .int .i64 s] w (RowRes w w.heap.size (if iaOkB a then ofL a.steps s a.ins else [])) := by
  rw [← actsR_if]
  have CR0 : Hid (∀ W, Below w.heap.size w W → Calls Try.prog 61 #[v, .int .i64 s] W fun e w' => ∃ ad c, e = .returned (.slice ad (rowIf a s).length c) ∧ RowS w' ad (rowIf a s).length (rowIf a s) ∧ Below W.heap.size W w') := fun W hW => rowOf_any a v s W (h.below hW) f2 f3 f4 f5
  obtain ⟨row, hrow⟩ : ∃ r, r = rowIf a s := ⟨_, rfl⟩
  obtain ⟨m, hm⟩ : ∃ m, m = row.length := ⟨_, rfl⟩
  rw [← hrow, ← hm] at CR0
  have hml : m ≤ 1048576 := by
    have := rowIf_len a s
    rw [hm, hrow]
    omega
  rw [← hrow]
  clear hrow hm
  obtain ⟨a2, n2, c2, a3, n3, c3, a4, n4, c4, a5, n5, c5, rfl, r2, r3, r4, r5⟩ := h
  obtain ⟨st, it, ins, outs, hids, steps⟩ := a
  simp only at r2 r3 r4 r5 f2 f3 f4 f5
  have hsn : n2 ≤ 1048576 := by have := r2.1; omega
  have RX := Lib.hid r2
  clear r2 r3 r4 r5 f2 f3 f4 f5
  obtain ⟨L, hL⟩ : ∃ L, L = Lib.compact (actsR row ins) := ⟨_, rfl⟩
  have CR : Hid (∀ W, Below w.heap.size w W ∧ VarIs W w.heap.size #[.int .i64 st, .int .i64 it, .slice a2 n2 c2, .slice a3 n3 c3, .slice a4 n4 c4, .slice a5 n5 c5] 27 ∧ W.cell? ⟨w.heap.size, 0, none⟩ = some (.int .i64 st) ∧ W.cell? ⟨w.heap.size, 1, none⟩ = some (.int .i64 it) ∧ W.cell? ⟨w.heap.size, 2, none⟩ = some (.slice a2 n2 c2) ∧ W.cell? ⟨w.heap.size, 3, none⟩ = some (.slice a3 n3 c3) ∧ W.cell? ⟨w.heap.size, 4, none⟩ = some (.slice a4 n4 c4) ∧ W.cell? ⟨w.heap.size, 5, none⟩ = some (.slice a5 n5 c5) → Calls Try.prog 61 #[.agg #[.int .i64 st, .int .i64 it, .slice a2 n2 c2, .slice a3 n3 c3, .slice a4 n4 c4, .slice a5 n5 c5], .int .i64 s] W fun e w' => ∃ ad c, e = .returned (.slice ad m c) ∧ RowS w' ad m row ∧ (Below w.heap.size w w' ∧ VarIs w' w.heap.size #[.int .i64 st, .int .i64 it, .slice a2 n2 c2, .slice a3 n3 c3, .slice a4 n4 c4, .slice a5 n5 c5] 27 ∧ w'.cell? ⟨w.heap.size, 0, none⟩ = some (.int .i64 st) ∧ w'.cell? ⟨w.heap.size, 1, none⟩ = some (.int .i64 it) ∧ w'.cell? ⟨w.heap.size, 2, none⟩ = some (.slice a2 n2 c2) ∧ w'.cell? ⟨w.heap.size, 3, none⟩ = some (.slice a3 n3 c3) ∧ w'.cell? ⟨w.heap.size, 4, none⟩ = some (.slice a4 n4 c4) ∧ w'.cell? ⟨w.heap.size, 5, none⟩ = some (.slice a5 n5 c5))) := fun W hW => (CR0.out W hW.1).mono fun e w' ⟨ad, c, he, hr, hb⟩ => ⟨ad, c, he, hr, ⟨hW.1.trans (hb.mono hW.1.size), hW.2.1.below hb, (hW.2.1.below hb).cell rfl, (hW.2.1.below hb).cell rfl, (hW.2.1.below hb).cell rfl, (hW.2.1.below hb).cell rfl, (hW.2.1.below hb).cell rfl, (hW.2.1.below hb).cell rfl⟩⟩
  have CA : Hid (∀ W ad c, Below w.heap.size w W ∧ VarIs W w.heap.size #[.int .i64 st, .int .i64 it, .slice a2 n2 c2, .slice a3 n3 c3, .slice a4 n4 c4, .slice a5 n5 c5] 27 ∧ W.cell? ⟨w.heap.size, 0, none⟩ = some (.int .i64 st) ∧ W.cell? ⟨w.heap.size, 1, none⟩ = some (.int .i64 it) ∧ W.cell? ⟨w.heap.size, 2, none⟩ = some (.slice a2 n2 c2) ∧ W.cell? ⟨w.heap.size, 3, none⟩ = some (.slice a3 n3 c3) ∧ W.cell? ⟨w.heap.size, 4, none⟩ = some (.slice a4 n4 c4) ∧ W.cell? ⟨w.heap.size, 5, none⟩ = some (.slice a5 n5 c5) → RowS W ad m row → Calls Try.prog 58 #[.slice ad m c, .slice a2 n2 c2] W fun e w' => ∃ v, e = .returned v ∧ Owns w' w.heap.size v L.length L ∧ (Below w.heap.size w w' ∧ VarIs w' w.heap.size #[.int .i64 st, .int .i64 it, .slice a2 n2 c2, .slice a3 n3 c3, .slice a4 n4 c4, .slice a5 n5 c5] 27 ∧ w'.cell? ⟨w.heap.size, 0, none⟩ = some (.int .i64 st) ∧ w'.cell? ⟨w.heap.size, 1, none⟩ = some (.int .i64 it) ∧ w'.cell? ⟨w.heap.size, 2, none⟩ = some (.slice a2 n2 c2) ∧ w'.cell? ⟨w.heap.size, 3, none⟩ = some (.slice a3 n3 c3) ∧ w'.cell? ⟨w.heap.size, 4, none⟩ = some (.slice a4 n4 c4) ∧ w'.cell? ⟨w.heap.size, 5, none⟩ = some (.slice a5 n5 c5))) := fun W ad c hW hr => by
    rw [hL]
    exact (actsOfRow_any ad m c row a2 n2 c2 ins W hr hml (RX.out.below hW.1) hsn).mono fun e w' ⟨v, he, ho, hb⟩ => ⟨v, he, ho.mono hW.1.size, ⟨hW.1.trans (hb.mono hW.1.size), hW.2.1.below hb, (hW.2.1.below hb).cell rfl, (hW.2.1.below hb).cell rfl, (hW.2.1.below hb).cell rfl, (hW.2.1.below hb).cell rfl, (hW.2.1.below hb).cell rfl, (hW.2.1.below hb).cell rfl⟩⟩
  simp only
  rw [← hL]
  clear hL CR0
  have V0 := ((VarIs.new w #[.int .i64 st, .int .i64 it, .slice a2 n2 c2, .slice a3 n3 c3, .slice a4 n4 c4, .slice a5 n5 c5] 27 rfl)).drew
  have S0 : Below w.heap.size w (w.alloc (.cells #[.int .i64 st, .int .i64 it, .slice a2 n2 c2, .slice a3 n3 c3, .slice a4 n4 c4, .slice a5 n5 c5] 27)).drew ∧ VarIs (w.alloc (.cells #[.int .i64 st, .int .i64 it, .slice a2 n2 c2, .slice a3 n3 c3, .slice a4 n4 c4, .slice a5 n5 c5] 27)).drew w.heap.size #[.int .i64 st, .int .i64 it, .slice a2 n2 c2, .slice a3 n3 c3, .slice a4 n4 c4, .slice a5 n5 c5] 27 ∧ (w.alloc (.cells #[.int .i64 st, .int .i64 it, .slice a2 n2 c2, .slice a3 n3 c3, .slice a4 n4 c4, .slice a5 n5 c5] 27)).drew.cell? ⟨w.heap.size, 0, none⟩ = some (.int .i64 st) ∧ (w.alloc (.cells #[.int .i64 st, .int .i64 it, .slice a2 n2 c2, .slice a3 n3 c3, .slice a4 n4 c4, .slice a5 n5 c5] 27)).drew.cell? ⟨w.heap.size, 1, none⟩ = some (.int .i64 it) ∧ (w.alloc (.cells #[.int .i64 st, .int .i64 it, .slice a2 n2 c2, .slice a3 n3 c3, .slice a4 n4 c4, .slice a5 n5 c5] 27)).drew.cell? ⟨w.heap.size, 2, none⟩ = some (.slice a2 n2 c2) ∧ (w.alloc (.cells #[.int .i64 st, .int .i64 it, .slice a2 n2 c2, .slice a3 n3 c3, .slice a4 n4 c4, .slice a5 n5 c5] 27)).drew.cell? ⟨w.heap.size, 3, none⟩ = some (.slice a3 n3 c3) ∧ (w.alloc (.cells #[.int .i64 st, .int .i64 it, .slice a2 n2 c2, .slice a3 n3 c3, .slice a4 n4 c4, .slice a5 n5 c5] 27)).drew.cell? ⟨w.heap.size, 4, none⟩ = some (.slice a4 n4 c4) ∧ (w.alloc (.cells #[.int .i64 st, .int .i64 it, .slice a2 n2 c2, .slice a3 n3 c3, .slice a4 n4 c4, .slice a5 n5 c5] 27)).drew.cell? ⟨w.heap.size, 5, none⟩ = some (.slice a5 n5 c5) := ⟨((Below.refl _ _).alloc (Nat.le_refl _) _).drew, V0, V0.cell rfl, V0.cell rfl, V0.cell rfl, V0.cell rfl, V0.cell rfl, V0.cell rfl⟩
  clear V0
  go_enter Try.func22, Try.ntmps22
  go_wp2_with fail
  go_region_held3 (fun w' => Below w.heap.size w w' ∧ VarIs w' w.heap.size #[.int .i64 st, .int .i64 it, .slice a2 n2 c2, .slice a3 n3 c3, .slice a4 n4 c4, .slice a5 n5 c5] 27 ∧ w'.cell? ⟨w.heap.size, 0, none⟩ = some (.int .i64 st) ∧ w'.cell? ⟨w.heap.size, 1, none⟩ = some (.int .i64 it) ∧ w'.cell? ⟨w.heap.size, 2, none⟩ = some (.slice a2 n2 c2) ∧ w'.cell? ⟨w.heap.size, 3, none⟩ = some (.slice a3 n3 c3) ∧ w'.cell? ⟨w.heap.size, 4, none⟩ = some (.slice a4 n4 c4) ∧ w'.cell? ⟨w.heap.size, 5, none⟩ = some (.slice a5 n5 c5))
    (first | exact hS2 | exact hS1 | exact S0)
    ((first | (go_at_call 61; refine (CR.out _ S0).mono ?_; rintro e w' ⟨ad, c, rfl, hR, hS1⟩) | (go_at_call 58; refine (CA.out _ _ _ hS1 hR).mono ?_; rintro e w' ⟨v1, rfl, hO, hS2⟩)))
  have HO := Lib.hid hO
  have HB := Lib.hid hS2.1
  clear S0 hS1 hS2 hR hO CR CA
  go_wp2_with fail
  go_ret
  exact ⟨_, rfl, HO.out, HB.out⟩

set_option maxRecDepth 20000 in
set_option maxHeartbeats 3200000 in
theorem specSaid_any (a : IaD) (v : Value) (s : Int) (w : World) (h : IaRow w a v) (f2 : a.ins.length ≤ 1048576) (f3 : a.outs.length ≤ 1048576) (f4 : a.hids.length ≤ 1048576) (f5 : a.steps.length ≤ 1048576) :
    Calls Try.prog 37 #[v, .int .i64 s] w (OwnRes w w.heap.size (if iaOkB a then ofL a.steps s a.outs else [])) := by
  have CO : Hid (∀ W, Below w.heap.size w W → Calls Try.prog 54 #[v] W fun e w' => e = .returned (.bool (iaOkB a)) ∧ Below W.heap.size W w') := fun W hW => specIaOk_any a v W (h.below hW) f2 f3 f4 f5
  obtain ⟨a2, n2, c2, a3, n3, c3, a4, n4, c4, a5, n5, c5, rfl, r2, r3, r4, r5⟩ := h
  obtain ⟨st, it, ins, outs, hids, steps⟩ := a
  simp only at r2 r3 r4 r5 f2 f3 f4 f5
  rw [r2.1] at f2
  rw [r3.1] at f3
  rw [r4.1] at f4
  rw [r5.1] at f5
  have R2 := Lib.hid r2
  have R3 := Lib.hid r3
  have R4 := Lib.hid r4
  have R5 := Lib.hid r5
  clear r2 r3 r4 r5
  obtain ⟨q, hq⟩ : ∃ q, q = iaOkB ⟨st, it, ins, outs, hids, steps⟩ := ⟨_, rfl⟩
  rw [← hq] at CO ⊢
  obtain ⟨L, hL⟩ : ∃ L, L = if q then ofL steps s outs else [] := ⟨_, rfl⟩
  rw [← hL]
  have HL := Lib.hid hL
  clear hq hL
  have B0 : Hid (∀ o, Below w.heap.size w (w.alloc o)) := fun o => (Below.refl _ _).alloc (Nat.le_refl _) _
  have V0 := Lib.hid (VarIs.new w #[.int .i64 st, .int .i64 it, .slice a2 n2 c2, .slice a3 n3 c3, .slice a4 n4 c4, .slice a5 n5 c5] 27 rfl)
  go_enter Try.func37, Try.ntmps37
  go_wp2_with fail
  refine (CO.out _ (B0.out _)).mono ?_
  rintro e w1 ⟨rfl, hb⟩
  have B1 : Hid (Below w.heap.size w w1) := (B0.out _).trans (hb.mono (B0.out _).size)
  have V1 := Lib.hid (V0.out.below hb)
  clear hb V0
  cases q with
  | false =>
    go_wp2_with fail
    go_ret
    obtain rfl : L = [] := HL.out
    exact ⟨_, _, rfl, (owns_lit _ [] 0 rfl (by unfold maxLen; omega)).mono B1.out.size, B1.out.alloc B1.out.size _⟩
  | true =>
    have m0 := V1.out.cell (j := 0) rfl
    have m1 := V1.out.cell (j := 1) rfl
    have m2 := V1.out.cell (j := 2) rfl
    have m3 := V1.out.cell (j := 3) rfl
    have m4 := V1.out.cell (j := 4) rfl
    have m5 := V1.out.cell (j := 5) rfl
    go_wp2_with fail
    clear m0 m1 m2 m3 m4 m5
    refine (of_any st it s _ _ _ a5 n5 c5 steps a3 n3 c3 outs _ (R5.out.below B1.out) (by omega) (R3.out.below B1.out) (by omega)).mono ?_
    obtain rfl : L = ofL steps s outs := HL.out
    rintro e w2 ⟨g, c, rfl, ho, hb⟩
    have HO := Lib.hid ho
    have B2 : Hid (Below w.heap.size w w2) := B1.out.trans (hb.mono B1.out.size)
    clear ho hb
    go_wp2_with fail
    go_ret
    exact ⟨_, _, rfl, HO.out.mono B1.out.size, B2.out⟩

set_option maxRecDepth 20000 in
set_option maxHeartbeats 3200000 in
theorem implSaid_any (a : IaD) (v : Value) (s : Int) (w : World) (h : IaRow w a v) (f2 : a.ins.length ≤ 1048576) (f3 : a.outs.length ≤ 1048576) (f4 : a.hids.length ≤ 1048576) (f5 : a.steps.length ≤ 1048576) :
    Calls Try.prog 24 #[v, .int .i64 s] w (RowRes w w.heap.size (if iaOkB a then ofL a.steps s a.outs else [])) := by
  rw [← actsR_if]
  have CR0 : Hid (∀ W, Below w.heap.size w W → Calls Try.prog 61 #[v, .int .i64 s] W fun e w' => ∃ ad c, e = .returned (.slice ad (rowIf a s).length c) ∧ RowS w' ad (rowIf a s).length (rowIf a s) ∧ Below W.heap.size W w') := fun W hW => rowOf_any a v s W (h.below hW) f2 f3 f4 f5
  obtain ⟨row, hrow⟩ : ∃ r, r = rowIf a s := ⟨_, rfl⟩
  obtain ⟨m, hm⟩ : ∃ m, m = row.length := ⟨_, rfl⟩
  rw [← hrow, ← hm] at CR0
  have hml : m ≤ 1048576 := by
    have := rowIf_len a s
    rw [hm, hrow]
    omega
  rw [← hrow]
  clear hrow hm
  obtain ⟨a2, n2, c2, a3, n3, c3, a4, n4, c4, a5, n5, c5, rfl, r2, r3, r4, r5⟩ := h
  obtain ⟨st, it, ins, outs, hids, steps⟩ := a
  simp only at r2 r3 r4 r5 f2 f3 f4 f5
  have hsn : n3 ≤ 1048576 := by have := r3.1; omega
  have RX := Lib.hid r3
  clear r2 r3 r4 r5 f2 f3 f4 f5
  obtain ⟨L, hL⟩ : ∃ L, L = Lib.compact (actsR row outs) := ⟨_, rfl⟩
  have CR : Hid (∀ W, Below w.heap.size w W ∧ VarIs W w.heap.size #[.int .i64 st, .int .i64 it, .slice a2 n2 c2, .slice a3 n3 c3, .slice a4 n4 c4, .slice a5 n5 c5] 27 ∧ W.cell? ⟨w.heap.size, 0, none⟩ = some (.int .i64 st) ∧ W.cell? ⟨w.heap.size, 1, none⟩ = some (.int .i64 it) ∧ W.cell? ⟨w.heap.size, 2, none⟩ = some (.slice a2 n2 c2) ∧ W.cell? ⟨w.heap.size, 3, none⟩ = some (.slice a3 n3 c3) ∧ W.cell? ⟨w.heap.size, 4, none⟩ = some (.slice a4 n4 c4) ∧ W.cell? ⟨w.heap.size, 5, none⟩ = some (.slice a5 n5 c5) → Calls Try.prog 61 #[.agg #[.int .i64 st, .int .i64 it, .slice a2 n2 c2, .slice a3 n3 c3, .slice a4 n4 c4, .slice a5 n5 c5], .int .i64 s] W fun e w' => ∃ ad c, e = .returned (.slice ad m c) ∧ RowS w' ad m row ∧ (Below w.heap.size w w' ∧ VarIs w' w.heap.size #[.int .i64 st, .int .i64 it, .slice a2 n2 c2, .slice a3 n3 c3, .slice a4 n4 c4, .slice a5 n5 c5] 27 ∧ w'.cell? ⟨w.heap.size, 0, none⟩ = some (.int .i64 st) ∧ w'.cell? ⟨w.heap.size, 1, none⟩ = some (.int .i64 it) ∧ w'.cell? ⟨w.heap.size, 2, none⟩ = some (.slice a2 n2 c2) ∧ w'.cell? ⟨w.heap.size, 3, none⟩ = some (.slice a3 n3 c3) ∧ w'.cell? ⟨w.heap.size, 4, none⟩ = some (.slice a4 n4 c4) ∧ w'.cell? ⟨w.heap.size, 5, none⟩ = some (.slice a5 n5 c5))) := fun W hW => (CR0.out W hW.1).mono fun e w' ⟨ad, c, he, hr, hb⟩ => ⟨ad, c, he, hr, ⟨hW.1.trans (hb.mono hW.1.size), hW.2.1.below hb, (hW.2.1.below hb).cell rfl, (hW.2.1.below hb).cell rfl, (hW.2.1.below hb).cell rfl, (hW.2.1.below hb).cell rfl, (hW.2.1.below hb).cell rfl, (hW.2.1.below hb).cell rfl⟩⟩
  have CA : Hid (∀ W ad c, Below w.heap.size w W ∧ VarIs W w.heap.size #[.int .i64 st, .int .i64 it, .slice a2 n2 c2, .slice a3 n3 c3, .slice a4 n4 c4, .slice a5 n5 c5] 27 ∧ W.cell? ⟨w.heap.size, 0, none⟩ = some (.int .i64 st) ∧ W.cell? ⟨w.heap.size, 1, none⟩ = some (.int .i64 it) ∧ W.cell? ⟨w.heap.size, 2, none⟩ = some (.slice a2 n2 c2) ∧ W.cell? ⟨w.heap.size, 3, none⟩ = some (.slice a3 n3 c3) ∧ W.cell? ⟨w.heap.size, 4, none⟩ = some (.slice a4 n4 c4) ∧ W.cell? ⟨w.heap.size, 5, none⟩ = some (.slice a5 n5 c5) → RowS W ad m row → Calls Try.prog 58 #[.slice ad m c, .slice a3 n3 c3] W fun e w' => ∃ v, e = .returned v ∧ Owns w' w.heap.size v L.length L ∧ (Below w.heap.size w w' ∧ VarIs w' w.heap.size #[.int .i64 st, .int .i64 it, .slice a2 n2 c2, .slice a3 n3 c3, .slice a4 n4 c4, .slice a5 n5 c5] 27 ∧ w'.cell? ⟨w.heap.size, 0, none⟩ = some (.int .i64 st) ∧ w'.cell? ⟨w.heap.size, 1, none⟩ = some (.int .i64 it) ∧ w'.cell? ⟨w.heap.size, 2, none⟩ = some (.slice a2 n2 c2) ∧ w'.cell? ⟨w.heap.size, 3, none⟩ = some (.slice a3 n3 c3) ∧ w'.cell? ⟨w.heap.size, 4, none⟩ = some (.slice a4 n4 c4) ∧ w'.cell? ⟨w.heap.size, 5, none⟩ = some (.slice a5 n5 c5))) := fun W ad c hW hr => by
    rw [hL]
    exact (actsOfRow_any ad m c row a3 n3 c3 outs W hr hml (RX.out.below hW.1) hsn).mono fun e w' ⟨v, he, ho, hb⟩ => ⟨v, he, ho.mono hW.1.size, ⟨hW.1.trans (hb.mono hW.1.size), hW.2.1.below hb, (hW.2.1.below hb).cell rfl, (hW.2.1.below hb).cell rfl, (hW.2.1.below hb).cell rfl, (hW.2.1.below hb).cell rfl, (hW.2.1.below hb).cell rfl, (hW.2.1.below hb).cell rfl⟩⟩
  simp only
  rw [← hL]
  clear hL CR0
  have V0 := ((VarIs.new w #[.int .i64 st, .int .i64 it, .slice a2 n2 c2, .slice a3 n3 c3, .slice a4 n4 c4, .slice a5 n5 c5] 27 rfl)).drew
  have S0 : Below w.heap.size w (w.alloc (.cells #[.int .i64 st, .int .i64 it, .slice a2 n2 c2, .slice a3 n3 c3, .slice a4 n4 c4, .slice a5 n5 c5] 27)).drew ∧ VarIs (w.alloc (.cells #[.int .i64 st, .int .i64 it, .slice a2 n2 c2, .slice a3 n3 c3, .slice a4 n4 c4, .slice a5 n5 c5] 27)).drew w.heap.size #[.int .i64 st, .int .i64 it, .slice a2 n2 c2, .slice a3 n3 c3, .slice a4 n4 c4, .slice a5 n5 c5] 27 ∧ (w.alloc (.cells #[.int .i64 st, .int .i64 it, .slice a2 n2 c2, .slice a3 n3 c3, .slice a4 n4 c4, .slice a5 n5 c5] 27)).drew.cell? ⟨w.heap.size, 0, none⟩ = some (.int .i64 st) ∧ (w.alloc (.cells #[.int .i64 st, .int .i64 it, .slice a2 n2 c2, .slice a3 n3 c3, .slice a4 n4 c4, .slice a5 n5 c5] 27)).drew.cell? ⟨w.heap.size, 1, none⟩ = some (.int .i64 it) ∧ (w.alloc (.cells #[.int .i64 st, .int .i64 it, .slice a2 n2 c2, .slice a3 n3 c3, .slice a4 n4 c4, .slice a5 n5 c5] 27)).drew.cell? ⟨w.heap.size, 2, none⟩ = some (.slice a2 n2 c2) ∧ (w.alloc (.cells #[.int .i64 st, .int .i64 it, .slice a2 n2 c2, .slice a3 n3 c3, .slice a4 n4 c4, .slice a5 n5 c5] 27)).drew.cell? ⟨w.heap.size, 3, none⟩ = some (.slice a3 n3 c3) ∧ (w.alloc (.cells #[.int .i64 st, .int .i64 it, .slice a2 n2 c2, .slice a3 n3 c3, .slice a4 n4 c4, .slice a5 n5 c5] 27)).drew.cell? ⟨w.heap.size, 4, none⟩ = some (.slice a4 n4 c4) ∧ (w.alloc (.cells #[.int .i64 st, .int .i64 it, .slice a2 n2 c2, .slice a3 n3 c3, .slice a4 n4 c4, .slice a5 n5 c5] 27)).drew.cell? ⟨w.heap.size, 5, none⟩ = some (.slice a5 n5 c5) := ⟨((Below.refl _ _).alloc (Nat.le_refl _) _).drew, V0, V0.cell rfl, V0.cell rfl, V0.cell rfl, V0.cell rfl, V0.cell rfl, V0.cell rfl⟩
  clear V0
  go_enter Try.func24, Try.ntmps24
  go_wp2_with fail
  go_region_held3 (fun w' => Below w.heap.size w w' ∧ VarIs w' w.heap.size #[.int .i64 st, .int .i64 it, .slice a2 n2 c2, .slice a3 n3 c3, .slice a4 n4 c4, .slice a5 n5 c5] 27 ∧ w'.cell? ⟨w.heap.size, 0, none⟩ = some (.int .i64 st) ∧ w'.cell? ⟨w.heap.size, 1, none⟩ = some (.int .i64 it) ∧ w'.cell? ⟨w.heap.size, 2, none⟩ = some (.slice a2 n2 c2) ∧ w'.cell? ⟨w.heap.size, 3, none⟩ = some (.slice a3 n3 c3) ∧ w'.cell? ⟨w.heap.size, 4, none⟩ = some (.slice a4 n4 c4) ∧ w'.cell? ⟨w.heap.size, 5, none⟩ = some (.slice a5 n5 c5))
    (first | exact hS2 | exact hS1 | exact S0)
    ((first | (go_at_call 61; refine (CR.out _ S0).mono ?_; rintro e w' ⟨ad, c, rfl, hR, hS1⟩) | (go_at_call 58; refine (CA.out _ _ _ hS1 hR).mono ?_; rintro e w' ⟨v1, rfl, hO, hS2⟩)))
  have HO := Lib.hid hO
  have HB := Lib.hid hS2.1
  clear S0 hS1 hS2 hR hO CR CA
  go_wp2_with fail
  go_ret
  exact ⟨_, rfl, HO.out, HB.out⟩

set_option maxRecDepth 20000 in
set_option maxHeartbeats 3200000 in
theorem specDone_any (a : IaD) (v : Value) (s : Int) (w : World) (h : IaRow w a v) (f2 : a.ins.length ≤ 1048576) (f3 : a.outs.length ≤ 1048576) (f4 : a.hids.length ≤ 1048576) (f5 : a.steps.length ≤ 1048576) :
    Calls Try.prog 38 #[v, .int .i64 s] w (OwnRes w w.heap.size (if iaOkB a then ofL a.steps s a.hids else [])) := by
  have CO : Hid (∀ W, Below w.heap.size w W → Calls Try.prog 54 #[v] W fun e w' => e = .returned (.bool (iaOkB a)) ∧ Below W.heap.size W w') := fun W hW => specIaOk_any a v W (h.below hW) f2 f3 f4 f5
  obtain ⟨a2, n2, c2, a3, n3, c3, a4, n4, c4, a5, n5, c5, rfl, r2, r3, r4, r5⟩ := h
  obtain ⟨st, it, ins, outs, hids, steps⟩ := a
  simp only at r2 r3 r4 r5 f2 f3 f4 f5
  rw [r2.1] at f2
  rw [r3.1] at f3
  rw [r4.1] at f4
  rw [r5.1] at f5
  have R2 := Lib.hid r2
  have R3 := Lib.hid r3
  have R4 := Lib.hid r4
  have R5 := Lib.hid r5
  clear r2 r3 r4 r5
  obtain ⟨q, hq⟩ : ∃ q, q = iaOkB ⟨st, it, ins, outs, hids, steps⟩ := ⟨_, rfl⟩
  rw [← hq] at CO ⊢
  obtain ⟨L, hL⟩ : ∃ L, L = if q then ofL steps s hids else [] := ⟨_, rfl⟩
  rw [← hL]
  have HL := Lib.hid hL
  clear hq hL
  have B0 : Hid (∀ o, Below w.heap.size w (w.alloc o)) := fun o => (Below.refl _ _).alloc (Nat.le_refl _) _
  have V0 := Lib.hid (VarIs.new w #[.int .i64 st, .int .i64 it, .slice a2 n2 c2, .slice a3 n3 c3, .slice a4 n4 c4, .slice a5 n5 c5] 27 rfl)
  go_enter Try.func38, Try.ntmps38
  go_wp2_with fail
  refine (CO.out _ (B0.out _)).mono ?_
  rintro e w1 ⟨rfl, hb⟩
  have B1 : Hid (Below w.heap.size w w1) := (B0.out _).trans (hb.mono (B0.out _).size)
  have V1 := Lib.hid (V0.out.below hb)
  clear hb V0
  cases q with
  | false =>
    go_wp2_with fail
    go_ret
    obtain rfl : L = [] := HL.out
    exact ⟨_, _, rfl, (owns_lit _ [] 0 rfl (by unfold maxLen; omega)).mono B1.out.size, B1.out.alloc B1.out.size _⟩
  | true =>
    have m0 := V1.out.cell (j := 0) rfl
    have m1 := V1.out.cell (j := 1) rfl
    have m2 := V1.out.cell (j := 2) rfl
    have m3 := V1.out.cell (j := 3) rfl
    have m4 := V1.out.cell (j := 4) rfl
    have m5 := V1.out.cell (j := 5) rfl
    go_wp2_with fail
    clear m0 m1 m2 m3 m4 m5
    refine (of_any st it s _ _ _ a5 n5 c5 steps a4 n4 c4 hids _ (R5.out.below B1.out) (by omega) (R4.out.below B1.out) (by omega)).mono ?_
    obtain rfl : L = ofL steps s hids := HL.out
    rintro e w2 ⟨g, c, rfl, ho, hb⟩
    have HO := Lib.hid ho
    have B2 : Hid (Below w.heap.size w w2) := B1.out.trans (hb.mono B1.out.size)
    clear ho hb
    go_wp2_with fail
    go_ret
    exact ⟨_, _, rfl, HO.out.mono B1.out.size, B2.out⟩

set_option maxRecDepth 20000 in
set_option maxHeartbeats 3200000 in
theorem implDone_any (a : IaD) (v : Value) (s : Int) (w : World) (h : IaRow w a v) (f2 : a.ins.length ≤ 1048576) (f3 : a.outs.length ≤ 1048576) (f4 : a.hids.length ≤ 1048576) (f5 : a.steps.length ≤ 1048576) :
    Calls Try.prog 39 #[v, .int .i64 s] w (RowRes w w.heap.size (if iaOkB a then ofL a.steps s a.hids else [])) := by
  rw [← actsR_if]
  have CR0 : Hid (∀ W, Below w.heap.size w W → Calls Try.prog 61 #[v, .int .i64 s] W fun e w' => ∃ ad c, e = .returned (.slice ad (rowIf a s).length c) ∧ RowS w' ad (rowIf a s).length (rowIf a s) ∧ Below W.heap.size W w') := fun W hW => rowOf_any a v s W (h.below hW) f2 f3 f4 f5
  obtain ⟨row, hrow⟩ : ∃ r, r = rowIf a s := ⟨_, rfl⟩
  obtain ⟨m, hm⟩ : ∃ m, m = row.length := ⟨_, rfl⟩
  rw [← hrow, ← hm] at CR0
  have hml : m ≤ 1048576 := by
    have := rowIf_len a s
    rw [hm, hrow]
    omega
  rw [← hrow]
  clear hrow hm
  obtain ⟨a2, n2, c2, a3, n3, c3, a4, n4, c4, a5, n5, c5, rfl, r2, r3, r4, r5⟩ := h
  obtain ⟨st, it, ins, outs, hids, steps⟩ := a
  simp only at r2 r3 r4 r5 f2 f3 f4 f5
  have hsn : n4 ≤ 1048576 := by have := r4.1; omega
  have RX := Lib.hid r4
  clear r2 r3 r4 r5 f2 f3 f4 f5
  obtain ⟨L, hL⟩ : ∃ L, L = Lib.compact (actsR row hids) := ⟨_, rfl⟩
  have CR : Hid (∀ W, Below w.heap.size w W ∧ VarIs W w.heap.size #[.int .i64 st, .int .i64 it, .slice a2 n2 c2, .slice a3 n3 c3, .slice a4 n4 c4, .slice a5 n5 c5] 27 ∧ W.cell? ⟨w.heap.size, 0, none⟩ = some (.int .i64 st) ∧ W.cell? ⟨w.heap.size, 1, none⟩ = some (.int .i64 it) ∧ W.cell? ⟨w.heap.size, 2, none⟩ = some (.slice a2 n2 c2) ∧ W.cell? ⟨w.heap.size, 3, none⟩ = some (.slice a3 n3 c3) ∧ W.cell? ⟨w.heap.size, 4, none⟩ = some (.slice a4 n4 c4) ∧ W.cell? ⟨w.heap.size, 5, none⟩ = some (.slice a5 n5 c5) → Calls Try.prog 61 #[.agg #[.int .i64 st, .int .i64 it, .slice a2 n2 c2, .slice a3 n3 c3, .slice a4 n4 c4, .slice a5 n5 c5], .int .i64 s] W fun e w' => ∃ ad c, e = .returned (.slice ad m c) ∧ RowS w' ad m row ∧ (Below w.heap.size w w' ∧ VarIs w' w.heap.size #[.int .i64 st, .int .i64 it, .slice a2 n2 c2, .slice a3 n3 c3, .slice a4 n4 c4, .slice a5 n5 c5] 27 ∧ w'.cell? ⟨w.heap.size, 0, none⟩ = some (.int .i64 st) ∧ w'.cell? ⟨w.heap.size, 1, none⟩ = some (.int .i64 it) ∧ w'.cell? ⟨w.heap.size, 2, none⟩ = some (.slice a2 n2 c2) ∧ w'.cell? ⟨w.heap.size, 3, none⟩ = some (.slice a3 n3 c3) ∧ w'.cell? ⟨w.heap.size, 4, none⟩ = some (.slice a4 n4 c4) ∧ w'.cell? ⟨w.heap.size, 5, none⟩ = some (.slice a5 n5 c5))) := fun W hW => (CR0.out W hW.1).mono fun e w' ⟨ad, c, he, hr, hb⟩ => ⟨ad, c, he, hr, ⟨hW.1.trans (hb.mono hW.1.size), hW.2.1.below hb, (hW.2.1.below hb).cell rfl, (hW.2.1.below hb).cell rfl, (hW.2.1.below hb).cell rfl, (hW.2.1.below hb).cell rfl, (hW.2.1.below hb).cell rfl, (hW.2.1.below hb).cell rfl⟩⟩
  have CA : Hid (∀ W ad c, Below w.heap.size w W ∧ VarIs W w.heap.size #[.int .i64 st, .int .i64 it, .slice a2 n2 c2, .slice a3 n3 c3, .slice a4 n4 c4, .slice a5 n5 c5] 27 ∧ W.cell? ⟨w.heap.size, 0, none⟩ = some (.int .i64 st) ∧ W.cell? ⟨w.heap.size, 1, none⟩ = some (.int .i64 it) ∧ W.cell? ⟨w.heap.size, 2, none⟩ = some (.slice a2 n2 c2) ∧ W.cell? ⟨w.heap.size, 3, none⟩ = some (.slice a3 n3 c3) ∧ W.cell? ⟨w.heap.size, 4, none⟩ = some (.slice a4 n4 c4) ∧ W.cell? ⟨w.heap.size, 5, none⟩ = some (.slice a5 n5 c5) → RowS W ad m row → Calls Try.prog 58 #[.slice ad m c, .slice a4 n4 c4] W fun e w' => ∃ v, e = .returned v ∧ Owns w' w.heap.size v L.length L ∧ (Below w.heap.size w w' ∧ VarIs w' w.heap.size #[.int .i64 st, .int .i64 it, .slice a2 n2 c2, .slice a3 n3 c3, .slice a4 n4 c4, .slice a5 n5 c5] 27 ∧ w'.cell? ⟨w.heap.size, 0, none⟩ = some (.int .i64 st) ∧ w'.cell? ⟨w.heap.size, 1, none⟩ = some (.int .i64 it) ∧ w'.cell? ⟨w.heap.size, 2, none⟩ = some (.slice a2 n2 c2) ∧ w'.cell? ⟨w.heap.size, 3, none⟩ = some (.slice a3 n3 c3) ∧ w'.cell? ⟨w.heap.size, 4, none⟩ = some (.slice a4 n4 c4) ∧ w'.cell? ⟨w.heap.size, 5, none⟩ = some (.slice a5 n5 c5))) := fun W ad c hW hr => by
    rw [hL]
    exact (actsOfRow_any ad m c row a4 n4 c4 hids W hr hml (RX.out.below hW.1) hsn).mono fun e w' ⟨v, he, ho, hb⟩ => ⟨v, he, ho.mono hW.1.size, ⟨hW.1.trans (hb.mono hW.1.size), hW.2.1.below hb, (hW.2.1.below hb).cell rfl, (hW.2.1.below hb).cell rfl, (hW.2.1.below hb).cell rfl, (hW.2.1.below hb).cell rfl, (hW.2.1.below hb).cell rfl, (hW.2.1.below hb).cell rfl⟩⟩
  simp only
  rw [← hL]
  clear hL CR0
  have V0 := ((VarIs.new w #[.int .i64 st, .int .i64 it, .slice a2 n2 c2, .slice a3 n3 c3, .slice a4 n4 c4, .slice a5 n5 c5] 27 rfl)).drew
  have S0 : Below w.heap.size w (w.alloc (.cells #[.int .i64 st, .int .i64 it, .slice a2 n2 c2, .slice a3 n3 c3, .slice a4 n4 c4, .slice a5 n5 c5] 27)).drew ∧ VarIs (w.alloc (.cells #[.int .i64 st, .int .i64 it, .slice a2 n2 c2, .slice a3 n3 c3, .slice a4 n4 c4, .slice a5 n5 c5] 27)).drew w.heap.size #[.int .i64 st, .int .i64 it, .slice a2 n2 c2, .slice a3 n3 c3, .slice a4 n4 c4, .slice a5 n5 c5] 27 ∧ (w.alloc (.cells #[.int .i64 st, .int .i64 it, .slice a2 n2 c2, .slice a3 n3 c3, .slice a4 n4 c4, .slice a5 n5 c5] 27)).drew.cell? ⟨w.heap.size, 0, none⟩ = some (.int .i64 st) ∧ (w.alloc (.cells #[.int .i64 st, .int .i64 it, .slice a2 n2 c2, .slice a3 n3 c3, .slice a4 n4 c4, .slice a5 n5 c5] 27)).drew.cell? ⟨w.heap.size, 1, none⟩ = some (.int .i64 it) ∧ (w.alloc (.cells #[.int .i64 st, .int .i64 it, .slice a2 n2 c2, .slice a3 n3 c3, .slice a4 n4 c4, .slice a5 n5 c5] 27)).drew.cell? ⟨w.heap.size, 2, none⟩ = some (.slice a2 n2 c2) ∧ (w.alloc (.cells #[.int .i64 st, .int .i64 it, .slice a2 n2 c2, .slice a3 n3 c3, .slice a4 n4 c4, .slice a5 n5 c5] 27)).drew.cell? ⟨w.heap.size, 3, none⟩ = some (.slice a3 n3 c3) ∧ (w.alloc (.cells #[.int .i64 st, .int .i64 it, .slice a2 n2 c2, .slice a3 n3 c3, .slice a4 n4 c4, .slice a5 n5 c5] 27)).drew.cell? ⟨w.heap.size, 4, none⟩ = some (.slice a4 n4 c4) ∧ (w.alloc (.cells #[.int .i64 st, .int .i64 it, .slice a2 n2 c2, .slice a3 n3 c3, .slice a4 n4 c4, .slice a5 n5 c5] 27)).drew.cell? ⟨w.heap.size, 5, none⟩ = some (.slice a5 n5 c5) := ⟨((Below.refl _ _).alloc (Nat.le_refl _) _).drew, V0, V0.cell rfl, V0.cell rfl, V0.cell rfl, V0.cell rfl, V0.cell rfl, V0.cell rfl⟩
  clear V0
  go_enter Try.func39, Try.ntmps39
  go_wp2_with fail
  go_region_held3 (fun w' => Below w.heap.size w w' ∧ VarIs w' w.heap.size #[.int .i64 st, .int .i64 it, .slice a2 n2 c2, .slice a3 n3 c3, .slice a4 n4 c4, .slice a5 n5 c5] 27 ∧ w'.cell? ⟨w.heap.size, 0, none⟩ = some (.int .i64 st) ∧ w'.cell? ⟨w.heap.size, 1, none⟩ = some (.int .i64 it) ∧ w'.cell? ⟨w.heap.size, 2, none⟩ = some (.slice a2 n2 c2) ∧ w'.cell? ⟨w.heap.size, 3, none⟩ = some (.slice a3 n3 c3) ∧ w'.cell? ⟨w.heap.size, 4, none⟩ = some (.slice a4 n4 c4) ∧ w'.cell? ⟨w.heap.size, 5, none⟩ = some (.slice a5 n5 c5))
    (first | exact hS2 | exact hS1 | exact S0)
    ((first | (go_at_call 61; refine (CR.out _ S0).mono ?_; rintro e w' ⟨ad, c, rfl, hR, hS1⟩) | (go_at_call 58; refine (CA.out _ _ _ hS1 hR).mono ?_; rintro e w' ⟨v1, rfl, hO, hS2⟩)))
  have HO := Lib.hid hO
  have HB := Lib.hid hS2.1
  clear S0 hS1 hS2 hR hO CR CA
  go_wp2_with fail
  go_ret
  exact ⟨_, rfl, HO.out, HB.out⟩

set_option maxRecDepth 20000 in
set_option maxHeartbeats 3200000 in
theorem specAfter_any (a : IaD) (v : Value) (s : Int) (act : Int) (w : World) (h : IaRow w a v) (f2 : a.ins.length ≤ 1048576) (f3 : a.outs.length ≤ 1048576) (f4 : a.hids.length ≤ 1048576) (f5 : a.steps.length ≤ 1048576) :
    Calls Try.prog 40 #[v, .int .i64 s, .int .i64 act] w (OwnRes w w.heap.size (if iaOkB a then afterL a.steps s act else [])) := by
  have CO : Hid (∀ W, Below w.heap.size w W → Calls Try.prog 54 #[v] W fun e w' => e = .returned (.bool (iaOkB a)) ∧ Below W.heap.size W w') := fun W hW => specIaOk_any a v W (h.below hW) f2 f3 f4 f5
  obtain ⟨a2, n2, c2, a3, n3, c3, a4, n4, c4, a5, n5, c5, rfl, r2, r3, r4, r5⟩ := h
  obtain ⟨st, it, ins, outs, hids, steps⟩ := a
  simp only at r2 r3 r4 r5 f2 f3 f4 f5
  rw [r2.1] at f2
  rw [r3.1] at f3
  rw [r4.1] at f4
  rw [r5.1] at f5
  have R2 := Lib.hid r2
  have R3 := Lib.hid r3
  have R4 := Lib.hid r4
  have R5 := Lib.hid r5
  clear r2 r3 r4 r5
  obtain ⟨q, hq⟩ : ∃ q, q = iaOkB ⟨st, it, ins, outs, hids, steps⟩ := ⟨_, rfl⟩
  rw [← hq] at CO ⊢
  obtain ⟨L, hL⟩ : ∃ L, L = if q then afterL steps s act else [] := ⟨_, rfl⟩
  rw [← hL]
  have HL := Lib.hid hL
  clear hq hL
  have B0 : Hid (∀ o, Below w.heap.size w (w.alloc o)) := fun o => (Below.refl _ _).alloc (Nat.le_refl _) _
  have V0 := Lib.hid (VarIs.new w #[.int .i64 st, .int .i64 it, .slice a2 n2 c2, .slice a3 n3 c3, .slice a4 n4 c4, .slice a5 n5 c5] 27 rfl)
  go_enter Try.func40, Try.ntmps40
  go_wp2_with fail
  refine (CO.out _ (B0.out _)).mono ?_
  rintro e w1 ⟨rfl, hb⟩
  have B1 : Hid (Below w.heap.size w w1) := (B0.out _).trans (hb.mono (B0.out _).size)
  have V1 := Lib.hid (V0.out.below hb)
  clear hb V0
  cases q with
  | false =>
    go_wp2_with fail
    go_ret
    obtain rfl : L = [] := HL.out
    exact ⟨_, _, rfl, (owns_lit _ [] 0 rfl (by unfold maxLen; omega)).mono B1.out.size, B1.out.alloc B1.out.size _⟩
  | true =>
    have m0 := V1.out.cell (j := 0) rfl
    have m1 := V1.out.cell (j := 1) rfl
    have m2 := V1.out.cell (j := 2) rfl
    have m3 := V1.out.cell (j := 3) rfl
    have m4 := V1.out.cell (j := 4) rfl
    have m5 := V1.out.cell (j := 5) rfl
    go_wp2_with fail
    clear m0 m1 m2 m3 m4 m5
    refine (after_any st it s act _ _ _ a5 n5 c5 steps _ (R5.out.below B1.out) (by omega)).mono ?_
    obtain rfl : L = afterL steps s act := HL.out
    rintro e w2 ⟨g, c, rfl, ho, hb⟩
    have HO := Lib.hid ho
    have B2 : Hid (Below w.heap.size w w2) := B1.out.trans (hb.mono B1.out.size)
    clear ho hb
    go_wp2_with fail
    go_ret
    exact ⟨_, _, rfl, HO.out.mono B1.out.size, B2.out⟩

end Go.Proofs.Ytclmdlopefbpbaa
