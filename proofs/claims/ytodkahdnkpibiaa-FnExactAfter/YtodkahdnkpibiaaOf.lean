/-
  Contracts of Taken, Said, Done and After: the model's, and the program's first three. Conditions: the automaton's lists have at most 2^20 elements.
-/
import Derived.Test.YtodkahdnkpibiaaAfter
import Derived.Test.YtodkahdnkpibiaaActs
namespace Go.Proofs.Ytodkahdnkpibiaa
open Go.RowKit

theorem ofL_len (ss : List St) (s : Int) (set : List Int) : (ofL ss s set).length ≤ ss.length := by
  unfold ofL
  refine Nat.le_trans (putAll_len _ _) ?_
  rw [List.length_nil, Nat.zero_add, List.length_map]
  exact List.length_filter_le _ _

theorem afterL_len (ss : List St) (s act : Int) : (afterL ss s act).length ≤ ss.length := by
  unfold afterL
  refine Nat.le_trans (putAll_len _ _) ?_
  rw [List.length_nil, Nat.zero_add, List.length_map]
  exact List.length_filter_le _ _

theorem of_len (a : IaD) (s : Int) (set : List Int) (f5 : a.steps.length ≤ 1048576) : (if iaOkB a then ofL a.steps s set else []).length ≤ 4194304 := by
  have := ofL_len a.steps s set
  split
  · omega
  · simp

theorem after_len (a : IaD) (s act : Int) (f5 : a.steps.length ≤ 1048576) : (if iaOkB a then afterL a.steps s act else []).length ≤ 4194304 := by
  have := afterL_len a.steps s act
  split
  · omega
  · simp

set_option maxRecDepth 20000 in
set_option maxHeartbeats 3200000 in
theorem specTaken_any (a : IaD) (v : Value) (s : Int) (w : World) (h : IaRow w a v) (f2 : a.ins.length ≤ 1048576) (f3 : a.outs.length ≤ 1048576) (f4 : a.hids.length ≤ 1048576) (f5 : a.steps.length ≤ 1048576) :
    Calls Try.prog 22 #[v, .int .i64 s] w (OwnRes w w.heap.size (if iaOkB a then ofL a.steps s a.ins else [])) := by
  have CO : Hid (∀ W, Below w.heap.size w W → Calls Try.prog 12 #[v] W fun e w' => e = .returned (.bool (iaOkB a)) ∧ Below W.heap.size W w') := fun W hW => specIaOk_any a v W (h.below hW) f2 f3 f4 f5
  obtain ⟨a2, n2, c2, a3, n3, c3, a4, n4, c4, a5, n5, c5, rfl, r2, r3, r4, r5⟩ := h
  obtain ⟨st, it, ins, outs, hids, steps⟩ := a
  simp only at r2 r3 r4 r5 f2 f3 f4 f5
  rw [r2.1] at f2
  rw [r3.1] at f3
  rw [r4.1] at f4
  rw [r5.1] at f5
  have R2 := Lib.hid r2
  have R3 := Lib.hid r3
  have R4 := Lib.hid r4
  have R5 := Lib.hid r5
  clear r2 r3 r4 r5
  obtain ⟨q, hq⟩ : ∃ q, q = iaOkB ⟨st, it, ins, outs, hids, steps⟩ := ⟨_, rfl⟩
  rw [← hq] at CO ⊢
  obtain ⟨L, hL⟩ : ∃ L, L = if q then ofL steps s ins else [] := ⟨_, rfl⟩
  rw [← hL]
  have HL := Lib.hid hL
  clear hq hL
  have B0 : Hid (∀ o, Below w.heap.size w (w.alloc o)) := fun o => (Below.refl _ _).alloc (Nat.le_refl _) _
  have V0 := Lib.hid (VarIs.new w #[.int .i64 st, .int .i64 it, .slice a2 n2 c2, .slice a3 n3 c3, .slice a4 n4 c4, .slice a5 n5 c5] 30 rfl)
  go_enter Try.func22, Try.ntmps22
  go_wp2_with fail
  refine (CO.out _ (B0.out _)).mono ?_
  rintro e w1 ⟨rfl, hb⟩
  have B1 : Hid (Below w.heap.size w w1) := (B0.out _).trans (hb.mono (B0.out _).size)
  have V1 := Lib.hid (V0.out.below hb)
  clear hb V0
  cases q with
  | false =>
    go_wp2_with fail
    go_ret
    obtain rfl : L = [] := HL.out
    exact ⟨_, _, rfl, (owns_lit _ [] 0 rfl (by unfold maxLen; omega)).mono B1.out.size, B1.out.alloc B1.out.size _⟩
  | true =>
    have m0 := V1.out.cell (j := 0) rfl
    have m1 := V1.out.cell (j := 1) rfl
    have m2 := V1.out.cell (j := 2) rfl
    have m3 := V1.out.cell (j := 3) rfl
    have m4 := V1.out.cell (j := 4) rfl
    have m5 := V1.out.cell (j := 5) rfl
    go_wp2_with fail
    clear m0 m1 m2 m3 m4 m5
    refine (of_any st it s _ _ _ a5 n5 c5 steps a2 n2 c2 ins _ (R5.out.below B1.out) (by omega) (R2.out.below B1.out) (by omega)).mono ?_
    obtain rfl : L = ofL steps s ins := HL.out
    rintro e w2 ⟨g, c, rfl, ho, hb⟩
    have HO := Lib.hid ho
    have B2 : Hid (Below w.heap.size w w2) := B1.out.trans (hb.mono B1.out.size)
    clear ho hb
    go_wp2_with fail
    go_ret
    exact ⟨_, _, rfl, HO.out.mono B1.out.size, B2.out⟩

set_option maxRecDepth 20000 in
set_option maxHeartbeats 3200000 in
theorem implTaken_any (a : IaD) (v : Value) (s : Int) (w : World) (h : IaRow w a v) (f2 : a.ins.length ≤ 1048576) (f3 : a.outs.length ≤ 1048576) (f4 : a.hids.length ≤ 1048576) (f5 : a.steps.length ≤ 1048576) :
    Calls Try.prog 23 #[v, .int .i64 s] w (RowRes w w.heap.size (if iaOkB a then ofL a.steps s a.ins else [])) := by
  obtain ⟨L, hL⟩ : ∃ L, L = if iaOkB a then ofL a.steps s a.ins else [] := ⟨_, rfl⟩
  have CA : Hid (∀ W sa sn sc, Below w.heap.size w W → Row W sa sn a.ins → Calls Try.prog 53 #[v, .int .i64 s, .slice sa sn sc] W (RowRes W W.heap.size L)) := fun W sa sn sc hW hr => by
    rw [hL]
    exact actsFrom_any a v s sa sn sc a.ins W (h.below hW) f2 f3 f4 f5 hr (by have := hr.1; omega)
  rw [← hL]
  clear hL
  obtain ⟨a2, n2, c2, a3, n3, c3, a4, n4, c4, a5, n5, c5, rfl, r2, r3, r4, r5⟩ := h
  obtain ⟨st, it, ins, outs, hids, steps⟩ := a
  simp only at r2 r3 r4 r5
  have RX := Lib.hid r2
  clear r2 r3 r4 r5 f2 f3 f4 f5
  have B0 : Hid (∀ o, Below w.heap.size w (w.alloc o)) := fun o => (Below.refl _ _).alloc (Nat.le_refl _) _
  go_enter Try.func23, Try.ntmps23
  go_wp2_with fail
  refine (CA.out _ a2 n2 c2 (B0.out _) (RX.out.below (B0.out _))).mono ?_
  rintro e w1 ⟨v1, rfl, ho, hb⟩
  have HO := Lib.hid ho
  have B1 : Hid (Below w.heap.size w w1) := (B0.out _).trans (hb.mono (B0.out _).size)
  clear ho hb
  go_wp2_with fail
  go_ret
  exact ⟨_, rfl, HO.out.mono (B0.out _).size, B1.out⟩

set_option maxRecDepth 20000 in
set_option maxHeartbeats 3200000 in
theorem specSaid_any (a : IaD) (v : Value) (s : Int) (w : World) (h : IaRow w a v) (f2 : a.ins.length ≤ 1048576) (f3 : a.outs.length ≤ 1048576) (f4 : a.hids.length ≤ 1048576) (f5 : a.steps.length ≤ 1048576) :
    Calls Try.prog 24 #[v, .int .i64 s] w (OwnRes w w.heap.size (if iaOkB a then ofL a.steps s a.outs else [])) := by
  have CO : Hid (∀ W, Below w.heap.size w W → Calls Try.prog 12 #[v] W fun e w' => e = .returned (.bool (iaOkB a)) ∧ Below W.heap.size W w') := fun W hW => specIaOk_any a v W (h.below hW) f2 f3 f4 f5
  obtain ⟨a2, n2, c2, a3, n3, c3, a4, n4, c4, a5, n5, c5, rfl, r2, r3, r4, r5⟩ := h
  obtain ⟨st, it, ins, outs, hids, steps⟩ := a
  simp only at r2 r3 r4 r5 f2 f3 f4 f5
  rw [r2.1] at f2
  rw [r3.1] at f3
  rw [r4.1] at f4
  rw [r5.1] at f5
  have R2 := Lib.hid r2
  have R3 := Lib.hid r3
  have R4 := Lib.hid r4
  have R5 := Lib.hid r5
  clear r2 r3 r4 r5
  obtain ⟨q, hq⟩ : ∃ q, q = iaOkB ⟨st, it, ins, outs, hids, steps⟩ := ⟨_, rfl⟩
  rw [← hq] at CO ⊢
  obtain ⟨L, hL⟩ : ∃ L, L = if q then ofL steps s outs else [] := ⟨_, rfl⟩
  rw [← hL]
  have HL := Lib.hid hL
  clear hq hL
  have B0 : Hid (∀ o, Below w.heap.size w (w.alloc o)) := fun o => (Below.refl _ _).alloc (Nat.le_refl _) _
  have V0 := Lib.hid (VarIs.new w #[.int .i64 st, .int .i64 it, .slice a2 n2 c2, .slice a3 n3 c3, .slice a4 n4 c4, .slice a5 n5 c5] 30 rfl)
  go_enter Try.func24, Try.ntmps24
  go_wp2_with fail
  refine (CO.out _ (B0.out _)).mono ?_
  rintro e w1 ⟨rfl, hb⟩
  have B1 : Hid (Below w.heap.size w w1) := (B0.out _).trans (hb.mono (B0.out _).size)
  have V1 := Lib.hid (V0.out.below hb)
  clear hb V0
  cases q with
  | false =>
    go_wp2_with fail
    go_ret
    obtain rfl : L = [] := HL.out
    exact ⟨_, _, rfl, (owns_lit _ [] 0 rfl (by unfold maxLen; omega)).mono B1.out.size, B1.out.alloc B1.out.size _⟩
  | true =>
    have m0 := V1.out.cell (j := 0) rfl
    have m1 := V1.out.cell (j := 1) rfl
    have m2 := V1.out.cell (j := 2) rfl
    have m3 := V1.out.cell (j := 3) rfl
    have m4 := V1.out.cell (j := 4) rfl
    have m5 := V1.out.cell (j := 5) rfl
    go_wp2_with fail
    clear m0 m1 m2 m3 m4 m5
    refine (of_any st it s _ _ _ a5 n5 c5 steps a3 n3 c3 outs _ (R5.out.below B1.out) (by omega) (R3.out.below B1.out) (by omega)).mono ?_
    obtain rfl : L = ofL steps s outs := HL.out
    rintro e w2 ⟨g, c, rfl, ho, hb⟩
    have HO := Lib.hid ho
    have B2 : Hid (Below w.heap.size w w2) := B1.out.trans (hb.mono B1.out.size)
    clear ho hb
    go_wp2_with fail
    go_ret
    exact ⟨_, _, rfl, HO.out.mono B1.out.size, B2.out⟩

set_option maxRecDepth 20000 in
set_option maxHeartbeats 3200000 in
theorem implSaid_any (a : IaD) (v : Value) (s : Int) (w : World) (h : IaRow w a v) (f2 : a.ins.length ≤ 1048576) (f3 : a.outs.length ≤ 1048576) (f4 : a.hids.length ≤ 1048576) (f5 : a.steps.length ≤ 1048576) :
    Calls Try.prog 25 #[v, .int .i64 s] w (RowRes w w.heap.size (if iaOkB a then ofL a.steps s a.outs else [])) := by
  obtain ⟨L, hL⟩ : ∃ L, L = if iaOkB a then ofL a.steps s a.outs else [] := ⟨_, rfl⟩
  have CA : Hid (∀ W sa sn sc, Below w.heap.size w W → Row W sa sn a.outs → Calls Try.prog 53 #[v, .int .i64 s, .slice sa sn sc] W (RowRes W W.heap.size L)) := fun W sa sn sc hW hr => by
    rw [hL]
    exact actsFrom_any a v s sa sn sc a.outs W (h.below hW) f2 f3 f4 f5 hr (by have := hr.1; omega)
  rw [← hL]
  clear hL
  obtain ⟨a2, n2, c2, a3, n3, c3, a4, n4, c4, a5, n5, c5, rfl, r2, r3, r4, r5⟩ := h
  obtain ⟨st, it, ins, outs, hids, steps⟩ := a
  simp only at r2 r3 r4 r5
  have RX := Lib.hid r3
  clear r2 r3 r4 r5 f2 f3 f4 f5
  have B0 : Hid (∀ o, Below w.heap.size w (w.alloc o)) := fun o => (Below.refl _ _).alloc (Nat.le_refl _) _
  go_enter Try.func25, Try.ntmps25
  go_wp2_with fail
  refine (CA.out _ a3 n3 c3 (B0.out _) (RX.out.below (B0.out _))).mono ?_
  rintro e w1 ⟨v1, rfl, ho, hb⟩
  have HO := Lib.hid ho
  have B1 : Hid (Below w.heap.size w w1) := (B0.out _).trans (hb.mono (B0.out _).size)
  clear ho hb
  go_wp2_with fail
  go_ret
  exact ⟨_, rfl, HO.out.mono (B0.out _).size, B1.out⟩

set_option maxRecDepth 20000 in
set_option maxHeartbeats 3200000 in
theorem specDone_any (a : IaD) (v : Value) (s : Int) (w : World) (h : IaRow w a v) (f2 : a.ins.length ≤ 1048576) (f3 : a.outs.length ≤ 1048576) (f4 : a.hids.length ≤ 1048576) (f5 : a.steps.length ≤ 1048576) :
    Calls Try.prog 26 #[v, .int .i64 s] w (OwnRes w w.heap.size (if iaOkB a then ofL a.steps s a.hids else [])) := by
  have CO : Hid (∀ W, Below w.heap.size w W → Calls Try.prog 12 #[v] W fun e w' => e = .returned (.bool (iaOkB a)) ∧ Below W.heap.size W w') := fun W hW => specIaOk_any a v W (h.below hW) f2 f3 f4 f5
  obtain ⟨a2, n2, c2, a3, n3, c3, a4, n4, c4, a5, n5, c5, rfl, r2, r3, r4, r5⟩ := h
  obtain ⟨st, it, ins, outs, hids, steps⟩ := a
  simp only at r2 r3 r4 r5 f2 f3 f4 f5
  rw [r2.1] at f2
  rw [r3.1] at f3
  rw [r4.1] at f4
  rw [r5.1] at f5
  have R2 := Lib.hid r2
  have R3 := Lib.hid r3
  have R4 := Lib.hid r4
  have R5 := Lib.hid r5
  clear r2 r3 r4 r5
  obtain ⟨q, hq⟩ : ∃ q, q = iaOkB ⟨st, it, ins, outs, hids, steps⟩ := ⟨_, rfl⟩
  rw [← hq] at CO ⊢
  obtain ⟨L, hL⟩ : ∃ L, L = if q then ofL steps s hids else [] := ⟨_, rfl⟩
  rw [← hL]
  have HL := Lib.hid hL
  clear hq hL
  have B0 : Hid (∀ o, Below w.heap.size w (w.alloc o)) := fun o => (Below.refl _ _).alloc (Nat.le_refl _) _
  have V0 := Lib.hid (VarIs.new w #[.int .i64 st, .int .i64 it, .slice a2 n2 c2, .slice a3 n3 c3, .slice a4 n4 c4, .slice a5 n5 c5] 30 rfl)
  go_enter Try.func26, Try.ntmps26
  go_wp2_with fail
  refine (CO.out _ (B0.out _)).mono ?_
  rintro e w1 ⟨rfl, hb⟩
  have B1 : Hid (Below w.heap.size w w1) := (B0.out _).trans (hb.mono (B0.out _).size)
  have V1 := Lib.hid (V0.out.below hb)
  clear hb V0
  cases q with
  | false =>
    go_wp2_with fail
    go_ret
    obtain rfl : L = [] := HL.out
    exact ⟨_, _, rfl, (owns_lit _ [] 0 rfl (by unfold maxLen; omega)).mono B1.out.size, B1.out.alloc B1.out.size _⟩
  | true =>
    have m0 := V1.out.cell (j := 0) rfl
    have m1 := V1.out.cell (j := 1) rfl
    have m2 := V1.out.cell (j := 2) rfl
    have m3 := V1.out.cell (j := 3) rfl
    have m4 := V1.out.cell (j := 4) rfl
    have m5 := V1.out.cell (j := 5) rfl
    go_wp2_with fail
    clear m0 m1 m2 m3 m4 m5
    refine (of_any st it s _ _ _ a5 n5 c5 steps a4 n4 c4 hids _ (R5.out.below B1.out) (by omega) (R4.out.below B1.out) (by omega)).mono ?_
    obtain rfl : L = ofL steps s hids := HL.out
    rintro e w2 ⟨g, c, rfl, ho, hb⟩
    have HO := Lib.hid ho
    have B2 : Hid (Below w.heap.size w w2) := B1.out.trans (hb.mono B1.out.size)
    clear ho hb
    go_wp2_with fail
    go_ret
    exact ⟨_, _, rfl, HO.out.mono B1.out.size, B2.out⟩

set_option maxRecDepth 20000 in
set_option maxHeartbeats 3200000 in
theorem implDone_any (a : IaD) (v : Value) (s : Int) (w : World) (h : IaRow w a v) (f2 : a.ins.length ≤ 1048576) (f3 : a.outs.length ≤ 1048576) (f4 : a.hids.length ≤ 1048576) (f5 : a.steps.length ≤ 1048576) :
    Calls Try.prog 27 #[v, .int .i64 s] w (RowRes w w.heap.size (if iaOkB a then ofL a.steps s a.hids else [])) := by
  obtain ⟨L, hL⟩ : ∃ L, L = if iaOkB a then ofL a.steps s a.hids else [] := ⟨_, rfl⟩
  have CA : Hid (∀ W sa sn sc, Below w.heap.size w W → Row W sa sn a.hids → Calls Try.prog 53 #[v, .int .i64 s, .slice sa sn sc] W (RowRes W W.heap.size L)) := fun W sa sn sc hW hr => by
    rw [hL]
    exact actsFrom_any a v s sa sn sc a.hids W (h.below hW) f2 f3 f4 f5 hr (by have := hr.1; omega)
  rw [← hL]
  clear hL
  obtain ⟨a2, n2, c2, a3, n3, c3, a4, n4, c4, a5, n5, c5, rfl, r2, r3, r4, r5⟩ := h
  obtain ⟨st, it, ins, outs, hids, steps⟩ := a
  simp only at r2 r3 r4 r5
  have RX := Lib.hid r4
  clear r2 r3 r4 r5 f2 f3 f4 f5
  have B0 : Hid (∀ o, Below w.heap.size w (w.alloc o)) := fun o => (Below.refl _ _).alloc (Nat.le_refl _) _
  go_enter Try.func27, Try.ntmps27
  go_wp2_with fail
  refine (CA.out _ a4 n4 c4 (B0.out _) (RX.out.below (B0.out _))).mono ?_
  rintro e w1 ⟨v1, rfl, ho, hb⟩
  have HO := Lib.hid ho
  have B1 : Hid (Below w.heap.size w w1) := (B0.out _).trans (hb.mono (B0.out _).size)
  clear ho hb
  go_wp2_with fail
  go_ret
  exact ⟨_, rfl, HO.out.mono (B0.out _).size, B1.out⟩

set_option maxRecDepth 20000 in
set_option maxHeartbeats 3200000 in
theorem specAfter_any (a : IaD) (v : Value) (s : Int) (act : Int) (w : World) (h : IaRow w a v) (f2 : a.ins.length ≤ 1048576) (f3 : a.outs.length ≤ 1048576) (f4 : a.hids.length ≤ 1048576) (f5 : a.steps.length ≤ 1048576) :
    Calls Try.prog 28 #[v, .int .i64 s, .int .i64 act] w (OwnRes w w.heap.size (if iaOkB a then afterL a.steps s act else [])) := by
  have CO : Hid (∀ W, Below w.heap.size w W → Calls Try.prog 12 #[v] W fun e w' => e = .returned (.bool (iaOkB a)) ∧ Below W.heap.size W w') := fun W hW => specIaOk_any a v W (h.below hW) f2 f3 f4 f5
  obtain ⟨a2, n2, c2, a3, n3, c3, a4, n4, c4, a5, n5, c5, rfl, r2, r3, r4, r5⟩ := h
  obtain ⟨st, it, ins, outs, hids, steps⟩ := a
  simp only at r2 r3 r4 r5 f2 f3 f4 f5
  rw [r2.1] at f2
  rw [r3.1] at f3
  rw [r4.1] at f4
  rw [r5.1] at f5
  have R2 := Lib.hid r2
  have R3 := Lib.hid r3
  have R4 := Lib.hid r4
  have R5 := Lib.hid r5
  clear r2 r3 r4 r5
  obtain ⟨q, hq⟩ : ∃ q, q = iaOkB ⟨st, it, ins, outs, hids, steps⟩ := ⟨_, rfl⟩
  rw [← hq] at CO ⊢
  obtain ⟨L, hL⟩ : ∃ L, L = if q then afterL steps s act else [] := ⟨_, rfl⟩
  rw [← hL]
  have HL := Lib.hid hL
  clear hq hL
  have B0 : Hid (∀ o, Below w.heap.size w (w.alloc o)) := fun o => (Below.refl _ _).alloc (Nat.le_refl _) _
  have V0 := Lib.hid (VarIs.new w #[.int .i64 st, .int .i64 it, .slice a2 n2 c2, .slice a3 n3 c3, .slice a4 n4 c4, .slice a5 n5 c5] 30 rfl)
  go_enter Try.func28, Try.ntmps28
  go_wp2_with fail
  refine (CO.out _ (B0.out _)).mono ?_
  rintro e w1 ⟨rfl, hb⟩
  have B1 : Hid (Below w.heap.size w w1) := (B0.out _).trans (hb.mono (B0.out _).size)
  have V1 := Lib.hid (V0.out.below hb)
  clear hb V0
  cases q with
  | false =>
    go_wp2_with fail
    go_ret
    obtain rfl : L = [] := HL.out
    exact ⟨_, _, rfl, (owns_lit _ [] 0 rfl (by unfold maxLen; omega)).mono B1.out.size, B1.out.alloc B1.out.size _⟩
  | true =>
    have m0 := V1.out.cell (j := 0) rfl
    have m1 := V1.out.cell (j := 1) rfl
    have m2 := V1.out.cell (j := 2) rfl
    have m3 := V1.out.cell (j := 3) rfl
    have m4 := V1.out.cell (j := 4) rfl
    have m5 := V1.out.cell (j := 5) rfl
    go_wp2_with fail
    clear m0 m1 m2 m3 m4 m5
    refine (after_any st it s act _ _ _ a5 n5 c5 steps _ (R5.out.below B1.out) (by omega)).mono ?_
    obtain rfl : L = afterL steps s act := HL.out
    rintro e w2 ⟨g, c, rfl, ho, hb⟩
    have HO := Lib.hid ho
    have B2 : Hid (Below w.heap.size w w2) := B1.out.trans (hb.mono B1.out.size)
    clear ho hb
    go_wp2_with fail
    go_ret
    exact ⟨_, _, rfl, HO.out.mono B1.out.size, B2.out⟩

end Go.Proofs.Ytodkahdnkpibiaa
