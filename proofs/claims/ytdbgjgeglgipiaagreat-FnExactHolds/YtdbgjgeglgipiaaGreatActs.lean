/-
  Contracts of ActsOf, the model's and the program's. Conditions: the automaton's lists have at most 2^20 elements.
-/
import Derived.Test.YtdbgjgeglgipiaaGreatImplStep
import Derived.Test.YtdbgjgeglgipiaaGreatIaLaw
namespace Go.Proofs.YtdbgjgeglgipiaaGreat
open Go.RowKit

theorem join_len (xs ys : List Int) : (joinOf xs ys).length ≤ xs.length + ys.length := by
  have h1 := putAll_len ys (putAll [] xs)
  have h2 := putAll_len xs []
  simp only [List.length_nil, Nat.zero_add] at h2
  unfold joinOf
  omega

set_option maxRecDepth 20000 in
set_option maxHeartbeats 3200000 in
theorem specActsOf_any (a : IaD) (v : Value) (w : World) (h : IaRow w a v) (f2 : a.ins.length ≤ 1048576) (f3 : a.outs.length ≤ 1048576) (f4 : a.hids.length ≤ 1048576) (f5 : a.steps.length ≤ 1048576) :
    Calls Tryz.prog 77 #[v] w (OwnRes w w.heap.size (if iaOkB a then actsOf a else [])) := by
  have CO : Hid (∀ W, Below w.heap.size w W → Calls Tryz.prog 63 #[v] W fun e w' => e = .returned (.bool (iaOkB a)) ∧ Below W.heap.size W w') := fun W hW => specIaOk_any a v W (h.below hW) f2 f3 f4 f5
  obtain ⟨a2, n2, c2, a3, n3, c3, a4, n4, c4, a5, n5, c5, rfl, r2, r3, r4, r5⟩ := h
  obtain ⟨st, it, ins, outs, hids, steps⟩ := a
  simp only at r2 r3 r4 r5 f2 f3 f4 f5
  have hj := join_len ins outs
  have R2 := Lib.hid r2
  have R3 := Lib.hid r3
  have R4 := Lib.hid r4
  rw [r2.1] at hj
  rw [r3.1] at hj
  rw [r2.1] at f2
  rw [r3.1] at f3
  rw [r4.1] at f4
  clear r2 r3 r4 r5 f5
  have HJ := Lib.hid hj
  obtain ⟨q, hq⟩ : ∃ q, q = iaOkB ⟨st, it, ins, outs, hids, steps⟩ := ⟨_, rfl⟩
  rw [← hq] at CO ⊢
  obtain ⟨L, hL⟩ : ∃ L, L = if q then actsOf ⟨st, it, ins, outs, hids, steps⟩ else [] := ⟨_, rfl⟩
  rw [← hL]
  have HL := Lib.hid hL
  have B0 : Hid (∀ o, Below w.heap.size w (w.alloc o)) := fun o => (Below.refl _ _).alloc (Nat.le_refl _) _
  have V0 := Lib.hid (VarIs.new w #[.int .i64 st, .int .i64 it, .slice a2 n2 c2, .slice a3 n3 c3, .slice a4 n4 c4, .slice a5 n5 c5] 31 rfl)
  have C1 : Hid (∀ W, Below w.heap.size w W ∧ VarIs W w.heap.size #[.int .i64 st, .int .i64 it, .slice a2 n2 c2, .slice a3 n3 c3, .slice a4 n4 c4, .slice a5 n5 c5] 31 ∧ W.cell? ⟨w.heap.size, 2, none⟩ = some (.slice a2 n2 c2) ∧ W.cell? ⟨w.heap.size, 3, none⟩ = some (.slice a3 n3 c3) ∧ W.cell? ⟨w.heap.size, 4, none⟩ = some (.slice a4 n4 c4) → Calls Tryz.prog 43 #[.slice a2 n2 c2, .slice a3 n3 c3] W fun e w' => ∃ g c, e = .returned (.slice (some ⟨g, 0, none⟩) (joinOf ins outs).length c) ∧ Row w' (some ⟨g, 0, none⟩) (joinOf ins outs).length (joinOf ins outs) ∧ (Below w.heap.size w w' ∧ VarIs w' w.heap.size #[.int .i64 st, .int .i64 it, .slice a2 n2 c2, .slice a3 n3 c3, .slice a4 n4 c4, .slice a5 n5 c5] 31 ∧ w'.cell? ⟨w.heap.size, 2, none⟩ = some (.slice a2 n2 c2) ∧ w'.cell? ⟨w.heap.size, 3, none⟩ = some (.slice a3 n3 c3) ∧ w'.cell? ⟨w.heap.size, 4, none⟩ = some (.slice a4 n4 c4))) := fun W hW =>
      (specSetJoin_any a2 a3 n2 c2 n3 c3 ins outs W (R2.out.below hW.1) (R3.out.below hW.1) (by omega) (by omega)).mono fun e w' ⟨g, c, he, ho, hb⟩ => ⟨g, c, he, ho.row.2.2.2, ⟨hW.1.trans (hb.mono hW.1.size), hW.2.1.below hb, (hW.2.1.below hb).cell rfl, (hW.2.1.below hb).cell rfl, (hW.2.1.below hb).cell rfl⟩⟩
  have C2 : Hid (∀ W (g c : Nat), Below w.heap.size w W ∧ VarIs W w.heap.size #[.int .i64 st, .int .i64 it, .slice a2 n2 c2, .slice a3 n3 c3, .slice a4 n4 c4, .slice a5 n5 c5] 31 ∧ W.cell? ⟨w.heap.size, 2, none⟩ = some (.slice a2 n2 c2) ∧ W.cell? ⟨w.heap.size, 3, none⟩ = some (.slice a3 n3 c3) ∧ W.cell? ⟨w.heap.size, 4, none⟩ = some (.slice a4 n4 c4) → Row W (some ⟨g, 0, none⟩) (joinOf ins outs).length (joinOf ins outs) → Calls Tryz.prog 43 #[.slice (some ⟨g, 0, none⟩) (joinOf ins outs).length c, .slice a4 n4 c4] W fun e w' => OwnRes w w.heap.size (actsOf ⟨st, it, ins, outs, hids, steps⟩) e w' ∧ (Below w.heap.size w w' ∧ VarIs w' w.heap.size #[.int .i64 st, .int .i64 it, .slice a2 n2 c2, .slice a3 n3 c3, .slice a4 n4 c4, .slice a5 n5 c5] 31 ∧ w'.cell? ⟨w.heap.size, 2, none⟩ = some (.slice a2 n2 c2) ∧ w'.cell? ⟨w.heap.size, 3, none⟩ = some (.slice a3 n3 c3) ∧ w'.cell? ⟨w.heap.size, 4, none⟩ = some (.slice a4 n4 c4))) := fun W g c hW hr => (specSetJoin_any _ a4 _ c n4 c4 (joinOf ins outs) hids W hr (R4.out.below hW.1) (by omega) (by omega)).mono fun e w' ⟨g', c', he, ho, hb⟩ => ⟨⟨g', c', he, ho.mono hW.1.size, hW.1.trans (hb.mono hW.1.size)⟩, ⟨hW.1.trans (hb.mono hW.1.size), hW.2.1.below hb, (hW.2.1.below hb).cell rfl, (hW.2.1.below hb).cell rfl, (hW.2.1.below hb).cell rfl⟩⟩
  clear hq hj hL
  go_enter Tryz.func77, Tryz.ntmps77
  go_wp2_with fail
  refine (CO.out _ (B0.out _)).mono ?_
  rintro e w1 ⟨rfl, hb⟩
  have B1 : Hid (Below w.heap.size w w1) := (B0.out _).trans (hb.mono (B0.out _).size)
  have V1 := Lib.hid (V0.out.below hb)
  clear hb V0
  cases q with
  | false =>
    go_wp2_with fail
    go_ret
    obtain rfl : L = [] := HL.out
    exact ⟨_, _, rfl, (owns_lit _ [] 0 rfl (by unfold maxLen; omega)).mono B1.out.size, B1.out.alloc B1.out.size _⟩
  | true =>
    have V1d := V1.out.drew
    have S0 : Below w.heap.size w w1.drew ∧ VarIs w1.drew w.heap.size #[.int .i64 st, .int .i64 it, .slice a2 n2 c2, .slice a3 n3 c3, .slice a4 n4 c4, .slice a5 n5 c5] 31 ∧ w1.drew.cell? ⟨w.heap.size, 2, none⟩ = some (.slice a2 n2 c2) ∧ w1.drew.cell? ⟨w.heap.size, 3, none⟩ = some (.slice a3 n3 c3) ∧ w1.drew.cell? ⟨w.heap.size, 4, none⟩ = some (.slice a4 n4 c4) := ⟨B1.out.drew, V1d, V1d.cell rfl, V1d.cell rfl, V1d.cell rfl⟩
    clear V1d
    go_wp2_with fail
    go_region_held3 (fun w' => Below w.heap.size w w' ∧ VarIs w' w.heap.size #[.int .i64 st, .int .i64 it, .slice a2 n2 c2, .slice a3 n3 c3, .slice a4 n4 c4, .slice a5 n5 c5] 31 ∧ w'.cell? ⟨w.heap.size, 2, none⟩ = some (.slice a2 n2 c2) ∧ w'.cell? ⟨w.heap.size, 3, none⟩ = some (.slice a3 n3 c3) ∧ w'.cell? ⟨w.heap.size, 4, none⟩ = some (.slice a4 n4 c4))
      (first | exact hS2 | exact hS1 | exact S0)
      ((first | (go_at_call 43; refine (C2.out _ _ _ hS1 hR1).mono ?_; rintro e w' ⟨hO2, hS2⟩; obtain ⟨g2, d2, rfl, hO3, hB3⟩ := hO2) | (go_at_call 43; refine (C1.out _ S0).mono ?_; rintro e w' ⟨g, c, rfl, hR1, hS1⟩)))
    have HO := Lib.hid hO3
    have HB := Lib.hid hB3
    clear S0 hS1 hS2 hR1 hO3 hB3 C1 C2
    go_wp2_with fail
    go_ret
    obtain rfl : L = actsOf ⟨st, it, ins, outs, hids, steps⟩ := HL.out
    exact ⟨_, _, rfl, HO.out, HB.out⟩

set_option maxRecDepth 20000 in
set_option maxHeartbeats 3200000 in
theorem implActsOf_any (a : IaD) (v : Value) (w : World) (h : IaRow w a v) (f2 : a.ins.length ≤ 1048576) (f3 : a.outs.length ≤ 1048576) (f4 : a.hids.length ≤ 1048576) (f5 : a.steps.length ≤ 1048576) :
    Calls Tryz.prog 104 #[v] w (RowRes w w.heap.size (if iaOkB a then actsOf a else [])) := by
  have CO : Hid (∀ W, Below w.heap.size w W → Calls Tryz.prog 69 #[v] W fun e w' => e = .returned (.bool (iaOkB a)) ∧ Below W.heap.size W w') := fun W hW => implIaOk_any a v W (h.below hW) f2 f3 f4 f5
  obtain ⟨a2, n2, c2, a3, n3, c3, a4, n4, c4, a5, n5, c5, rfl, r2, r3, r4, r5⟩ := h
  obtain ⟨st, it, ins, outs, hids, steps⟩ := a
  simp only at r2 r3 r4 r5 f2 f3 f4 f5
  have hj := join_len ins outs
  have R2 := Lib.hid r2
  have R3 := Lib.hid r3
  have R4 := Lib.hid r4
  rw [r2.1] at hj
  rw [r3.1] at hj
  rw [r2.1] at f2
  rw [r3.1] at f3
  rw [r4.1] at f4
  clear r2 r3 r4 r5 f5
  have HJ := Lib.hid hj
  obtain ⟨q, hq⟩ : ∃ q, q = iaOkB ⟨st, it, ins, outs, hids, steps⟩ := ⟨_, rfl⟩
  rw [← hq] at CO ⊢
  obtain ⟨L, hL⟩ : ∃ L, L = if q then actsOf ⟨st, it, ins, outs, hids, steps⟩ else [] := ⟨_, rfl⟩
  rw [← hL]
  have HL := Lib.hid hL
  have B0 : Hid (∀ o, Below w.heap.size w (w.alloc o)) := fun o => (Below.refl _ _).alloc (Nat.le_refl _) _
  have V0 := Lib.hid (VarIs.new w #[.int .i64 st, .int .i64 it, .slice a2 n2 c2, .slice a3 n3 c3, .slice a4 n4 c4, .slice a5 n5 c5] 31 rfl)
  have C1 : Hid (∀ W, Below w.heap.size w W ∧ VarIs W w.heap.size #[.int .i64 st, .int .i64 it, .slice a2 n2 c2, .slice a3 n3 c3, .slice a4 n4 c4, .slice a5 n5 c5] 31 ∧ W.cell? ⟨w.heap.size, 2, none⟩ = some (.slice a2 n2 c2) ∧ W.cell? ⟨w.heap.size, 3, none⟩ = some (.slice a3 n3 c3) ∧ W.cell? ⟨w.heap.size, 4, none⟩ = some (.slice a4 n4 c4) → Calls Tryz.prog 58 #[.slice a2 n2 c2, .slice a3 n3 c3] W fun e w' => ∃ ad c, e = .returned (.slice ad (joinOf ins outs).length c) ∧ Row w' ad (joinOf ins outs).length (joinOf ins outs) ∧ (Below w.heap.size w w' ∧ VarIs w' w.heap.size #[.int .i64 st, .int .i64 it, .slice a2 n2 c2, .slice a3 n3 c3, .slice a4 n4 c4, .slice a5 n5 c5] 31 ∧ w'.cell? ⟨w.heap.size, 2, none⟩ = some (.slice a2 n2 c2) ∧ w'.cell? ⟨w.heap.size, 3, none⟩ = some (.slice a3 n3 c3) ∧ w'.cell? ⟨w.heap.size, 4, none⟩ = some (.slice a4 n4 c4))) := fun W hW =>
      (implSetJoin_any a2 a3 n2 c2 n3 c3 ins outs W (R2.out.below hW.1) (R3.out.below hW.1) (by omega) (by omega)).mono fun e w' ⟨v, he, ho, hb⟩ => by
        obtain ⟨ad, c, rfl⟩ := ho.form
        exact ⟨ad, c, he, ho.row.2.2.2, ⟨hW.1.trans (hb.mono hW.1.size), hW.2.1.below hb, (hW.2.1.below hb).cell rfl, (hW.2.1.below hb).cell rfl, (hW.2.1.below hb).cell rfl⟩⟩
  have C2 : Hid (∀ W (ad : Option Addr) (c : Nat), Below w.heap.size w W ∧ VarIs W w.heap.size #[.int .i64 st, .int .i64 it, .slice a2 n2 c2, .slice a3 n3 c3, .slice a4 n4 c4, .slice a5 n5 c5] 31 ∧ W.cell? ⟨w.heap.size, 2, none⟩ = some (.slice a2 n2 c2) ∧ W.cell? ⟨w.heap.size, 3, none⟩ = some (.slice a3 n3 c3) ∧ W.cell? ⟨w.heap.size, 4, none⟩ = some (.slice a4 n4 c4) → Row W ad (joinOf ins outs).length (joinOf ins outs) → Calls Tryz.prog 58 #[.slice ad (joinOf ins outs).length c, .slice a4 n4 c4] W fun e w' => RowRes w w.heap.size (actsOf ⟨st, it, ins, outs, hids, steps⟩) e w' ∧ (Below w.heap.size w w' ∧ VarIs w' w.heap.size #[.int .i64 st, .int .i64 it, .slice a2 n2 c2, .slice a3 n3 c3, .slice a4 n4 c4, .slice a5 n5 c5] 31 ∧ w'.cell? ⟨w.heap.size, 2, none⟩ = some (.slice a2 n2 c2) ∧ w'.cell? ⟨w.heap.size, 3, none⟩ = some (.slice a3 n3 c3) ∧ w'.cell? ⟨w.heap.size, 4, none⟩ = some (.slice a4 n4 c4))) := fun W ad c hW hr => (implSetJoin_any _ a4 _ c n4 c4 (joinOf ins outs) hids W hr (R4.out.below hW.1) (by omega) (by omega)).mono fun e w' ⟨v', he, ho, hb⟩ => ⟨⟨v', he, ho.mono hW.1.size, hW.1.trans (hb.mono hW.1.size)⟩, ⟨hW.1.trans (hb.mono hW.1.size), hW.2.1.below hb, (hW.2.1.below hb).cell rfl, (hW.2.1.below hb).cell rfl, (hW.2.1.below hb).cell rfl⟩⟩
  clear hq hj hL
  go_enter Tryz.func104, Tryz.ntmps104
  go_wp2_with fail
  refine (CO.out _ (B0.out _)).mono ?_
  rintro e w1 ⟨rfl, hb⟩
  have B1 : Hid (Below w.heap.size w w1) := (B0.out _).trans (hb.mono (B0.out _).size)
  have V1 := Lib.hid (V0.out.below hb)
  clear hb V0
  cases q with
  | false =>
    go_wp2_with fail
    go_ret
    obtain rfl : L = [] := HL.out
    exact ⟨_, rfl, World.ownsRow_nil _ _ _ _, B1.out⟩
  | true =>
    have V1d := V1.out.drew
    have S0 : Below w.heap.size w w1.drew ∧ VarIs w1.drew w.heap.size #[.int .i64 st, .int .i64 it, .slice a2 n2 c2, .slice a3 n3 c3, .slice a4 n4 c4, .slice a5 n5 c5] 31 ∧ w1.drew.cell? ⟨w.heap.size, 2, none⟩ = some (.slice a2 n2 c2) ∧ w1.drew.cell? ⟨w.heap.size, 3, none⟩ = some (.slice a3 n3 c3) ∧ w1.drew.cell? ⟨w.heap.size, 4, none⟩ = some (.slice a4 n4 c4) := ⟨B1.out.drew, V1d, V1d.cell rfl, V1d.cell rfl, V1d.cell rfl⟩
    clear V1d
    go_wp2_with fail
    go_region_held3 (fun w' => Below w.heap.size w w' ∧ VarIs w' w.heap.size #[.int .i64 st, .int .i64 it, .slice a2 n2 c2, .slice a3 n3 c3, .slice a4 n4 c4, .slice a5 n5 c5] 31 ∧ w'.cell? ⟨w.heap.size, 2, none⟩ = some (.slice a2 n2 c2) ∧ w'.cell? ⟨w.heap.size, 3, none⟩ = some (.slice a3 n3 c3) ∧ w'.cell? ⟨w.heap.size, 4, none⟩ = some (.slice a4 n4 c4))
      (first | exact hS2 | exact hS1 | exact S0)
      ((first | (go_at_call 58; refine (C2.out _ _ _ hS1 hR1).mono ?_; rintro e w' ⟨hO2, hS2⟩; obtain ⟨v2, rfl, hO3, hB3⟩ := hO2) | (go_at_call 58; refine (C1.out _ S0).mono ?_; rintro e w' ⟨ad, c, rfl, hR1, hS1⟩)))
    have HO := Lib.hid hO3
    have HB := Lib.hid hB3
    clear S0 hS1 hS2 hR1 hO3 hB3 C1 C2
    go_wp2_with fail
    go_ret
    obtain rfl : L = actsOf ⟨st, it, ins, outs, hids, steps⟩ := HL.out
    exact ⟨_, rfl, HO.out, HB.out⟩

theorem acts_len (a : IaD) (f2 : a.ins.length ≤ 1048576) (f3 : a.outs.length ≤ 1048576) (f4 : a.hids.length ≤ 1048576) : (if iaOkB a then actsOf a else []).length ≤ 4194304 := by
  have h1 := join_len a.ins a.outs
  have h2 := join_len (joinOf a.ins a.outs) a.hids
  split
  · unfold actsOf; omega
  · simp

end Go.Proofs.YtdbgjgeglgipiaaGreat
