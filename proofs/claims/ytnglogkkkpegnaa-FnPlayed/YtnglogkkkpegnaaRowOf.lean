import Derived.Test.YtnglogkkkpegnaaImplStep
import Derived.Test.YtnglogkkkpegnaaRowsOf
import Derived.Test.YtnglogkkkpegnaaIaRise
import Derived.Test.YtnglogkkkpegnaaSpecIaOk
import Derived.Deep.RegionHeld3
/-
  The contract of the program's rowOf: the steps from a state, in their order. Conditions: the automaton's lists have at most 2^20 elements.
-/
namespace Go.Proofs.Ytnglogkkkpegnaa
open Go.RowKit

/-- One row out of the array, by value. -/
theorem index_rows (C : Array Value) (j : Nat) (hj : j < 40) (v : Value) (h : C[j]? = some v) (w : World) : (Instr.index 63 (.agg C) (.int .i64 (j : Int))).run Try.prog w = .ok v w := by
  simp [Instr.index, run_underlying Try.underlying63, asIntOf, go_sem, part, h]
  intro h40
  omega

/-- What rowOf answers. -/
def rowIf (a : IaD) (s : Int) : List St := if iaOkB a then rowL a.steps s else []

set_option maxRecDepth 20000 in
set_option maxHeartbeats 3200000 in
theorem rowOf_any (a : IaD) (v : Value) (s : Int) (w : World) (h : IaRow w a v) (f2 : a.ins.length ≤ 1048576) (f3 : a.outs.length ≤ 1048576) (f4 : a.hids.length ≤ 1048576) (f5 : a.steps.length ≤ 1048576) :
    Calls Try.prog 46 #[v, .int .i64 s] w fun e w' => ∃ ad c, e = .returned (.slice ad (rowIf a s).length c) ∧ RowS w' ad (rowIf a s).length (rowIf a s) ∧ Below w.heap.size w w' := by
  have CO : Hid (∀ W, Below w.heap.size w W → Calls Try.prog 37 #[v] W fun e w' => e = .returned (.bool (iaOkB a)) ∧ Below W.heap.size W w') := fun W hW => implIaOk_any a v W (h.below hW) f2 f3 f4 f5
  obtain ⟨row, hrow⟩ : ∃ r, r = rowIf a s := ⟨_, rfl⟩
  obtain ⟨m, hm⟩ : ∃ m, m = row.length := ⟨_, rfl⟩
  rw [← hrow, ← hm]
  obtain ⟨q, hq⟩ : ∃ q, q = iaOkB a := ⟨_, rfl⟩
  obtain ⟨q2, hq2⟩ : ∃ q, q = stateB a s := ⟨_, rfl⟩
  rw [← hq] at CO
  have HROW := Lib.hid hrow
  have HM := Lib.hid hm
  have HQ := Lib.hid hq
  have HQ2 := Lib.hid hq2
  have HN1 : Hid (q = false → row = []) := fun e => by rw [hrow, rowIf, ← hq, e]; rfl
  have HN2 : Hid (q = true → q2 = false → row = []) := fun e e2 => by
    rw [hrow, rowIf, ← hq, e]
    exact rowL_none (by rw [← hq]; exact e) (by rw [← hq2]; exact e2)
  clear hrow hm hq hq2
  obtain ⟨a2, n2, c2, a3, n3, c3, a4, n4, c4, a5, n5, c5, rfl, r2, r3, r4, r5⟩ := h
  obtain ⟨st, it, ins, outs, hids, steps⟩ := a
  simp only at r2 r3 r4 r5 f2 f3 f4 f5
  have R5 := Lib.hid r5
  clear r2 r3 r4 r5 f2 f3 f4 f5
  have CS : Hid (∀ W v2 v3 v4 v5, Calls Try.prog 57 #[.agg #[.int .i64 st, .int .i64 it, v2, v3, v4, v5], .int .i64 s] W fun e w' => e = .returned (.bool q2) ∧ Below W.heap.size W w') := fun W v2 v3 v4 v5 => by rw [HQ2.out]; exact isState_any st it s v2 v3 v4 v5 W
  have V0 := Lib.hid (VarIs.new w #[.int .i64 st, .int .i64 it, .slice a2 n2 c2, .slice a3 n3 c3, .slice a4 n4 c4, .slice a5 n5 c5] 27 rfl)
  have B0 : Hid (∀ o, Below w.heap.size w (w.alloc o)) := fun o => (Below.refl _ _).alloc (Nat.le_refl _) _
  go_enter Try.func46, Try.ntmps46
  go_wp2_with fail
  refine (CO.out _ (B0.out _)).mono ?_
  rintro e w1 ⟨rfl, hb⟩
  have B1 : Hid (Below w.heap.size w w1) := (B0.out _).trans (hb.mono (B0.out _).size)
  have V1 := Lib.hid (V0.out.below hb)
  clear hb V0
  cases q with
  | false =>
    go_wp2_with fail
    go_ret
    obtain rfl : row = [] := HN1.out (by simp)
    obtain rfl : m = 0 := HM.out
    exact ⟨_, _, rfl, ⟨rfl, fun h => absurd h (by omega)⟩, B1.out⟩
  | true =>
    have m0 := V1.out.cell (j := 0) rfl
    have m1 := V1.out.cell (j := 1) rfl
    have m2 := V1.out.cell (j := 2) rfl
    have m3 := V1.out.cell (j := 3) rfl
    have m4 := V1.out.cell (j := 4) rfl
    have m5 := V1.out.cell (j := 5) rfl
    go_wp2_with fail
    clear m0 m1 m2 m3 m4 m5
    refine (CS.out _ _ _ _ _).mono ?_
    rintro e w2 ⟨rfl, hb⟩
    have B2 : Hid (Below w.heap.size w w2) := B1.out.trans (hb.mono B1.out.size)
    have V2 := Lib.hid (V1.out.below hb)
    clear hb V1
    cases q2 with
    | false =>
      go_wp2_with fail
      go_ret
      obtain rfl : row = [] := HN2.out (by simp) (by simp)
      obtain rfl : m = 0 := HM.out
      exact ⟨_, _, rfl, ⟨rfl, fun h => absurd h (by omega)⟩, B2.out⟩
    | true =>
      have hst := iaOk_states HQ.out.symm
      have hs0 : 0 ≤ s ∧ s ≤ st - 1 := by
        have := HQ2.out.symm
        simpa [stateB, btw] using this
      simp only at hst
      obtain ⟨j, rfl⟩ : ∃ j : Nat, s = (j : Int) := ⟨s.toNat, by omega⟩
      have hj : j < 40 := by omega
      have hj' : (j : Int) < 40 := by omega
      have HLEN := Lib.hid (iaOk_len HQ.out.symm)
      have HLOW := Lib.hid (iaOk_low HQ.out.symm)
      have m0 := V2.out.cell (j := 0) rfl
      have m1 := V2.out.cell (j := 1) rfl
      have m2 := V2.out.cell (j := 2) rfl
      have m3 := V2.out.cell (j := 3) rfl
      have m4 := V2.out.cell (j := 4) rfl
      have m5 := V2.out.cell (j := 5) rfl
      go_wp2_with fail
      clear m0 m1 m2 m3 m4 m5
      refine (rowsOf_any st it _ _ _ a5 n5 c5 steps _ (R5.out.below B2.out) (by have h1 := HLEN.out; have h2 := R5.out.1; rw [← h2]; exact h1) HLOW.out).mono ?_
      rintro e w3 ⟨C, rfl, hC, hb⟩
      have B3 : Hid (Below w.heap.size w w3) := B2.out.trans (hb.mono B2.out.size)
      obtain ⟨ar, cr, hCs, hor⟩ := hC.2.1 j hj
      have hrr : rowL steps (j : Int) = row := by rw [HROW.out, rowIf, ← HQ.out]; rfl
      rw [hrr, ← HM.out] at hCs hor
      have OR := Lib.hid hor
      have hsz := hC.1
      clear hb hC hor V2
      have hix : ∀ W, (Instr.index 63 (.agg C) (.int .i64 (j : Int))).run Try.prog W = .ok (.slice ar m cr) W := index_rows C j hj _ hCs
      go_wp2_with fail
      go_ret
      exact ⟨_, _, rfl, by rw [HM.out]; have := OR.out.row.2.2.2; rw [HM.out] at this; exact this, B3.out⟩

end Go.Proofs.Ytnglogkkkpegnaa

/-
  Contracts of the program's tosOfRow, actsOfRow and After. Conditions: the lists have at most 2^20 elements.
-/
namespace Go.Proofs.Ytnglogkkkpegnaa
open Go.RowKit

theorem rowIf_len (a : IaD) (s : Int) : (rowIf a s).length ≤ a.steps.length := by
  unfold rowIf
  split
  · exact rowL_len _ _
  · simp

theorem afterR_if (a : IaD) (s act : Int) : afterR (rowIf a s) act = if iaOkB a then afterL a.steps s act else [] := by
  unfold rowIf
  split
  · rename_i h
    exact afterR_eq h s act
  · rfl

theorem compact_nil : Lib.compact ([] : List Int) = [] := by simp [Lib.compact, Lib.compactUpTo]

theorem actsR_if (a : IaD) (s : Int) (set : List Int) : Lib.compact (actsR (rowIf a s) set) = if iaOkB a then ofL a.steps s set else [] := by
  unfold rowIf
  split
  · rename_i h
    exact actsR_eq h s set
  · exact compact_nil

set_option maxRecDepth 20000 in
set_option maxHeartbeats 3200000 in
theorem tosOfRow_any (ad : Option Addr) (m cr : Nat) (row : List St) (act : Int) (w1 : World) (hr : RowS w1 ad m row) (hml : m ≤ 1048576) :
    Calls Try.prog 45 #[.slice ad m cr, .int .i64 act] w1 (RowRes w1 w1.heap.size (afterR row act)) := by
  obtain ⟨i0, hi, hz0, hz1, hz2⟩ := info_parts info_int
  obtain ⟨L, hL⟩ : ∃ L, L = afterR row act := ⟨_, rfl⟩
  rw [← hL]
  have HL := Lib.hid hL
  have HR := Lib.hid hr
  clear hL hr
  go_enter Try.func45, Try.ntmps45
  go_wp2_with fail
  go_loopw [5, 10] (fun v i wr => ∃ (k len : Nat) (v0 : Value) (T : List Int), k ≤ m ∧ i = .int .i64 k ∧ v = v0 ∧ Hid (Owns wr w1.heap.size v0 len T) ∧ Hid (T = afterR (row.take k) act) ∧ len ≤ k ∧ Below w1.heap.size w1 wr) (fun _ i _ => m - (intOf i).toNat)
  case atStart => exact ⟨0, 0, _, [], Nat.zero_le _, rfl, rfl, World.ownsRow_nil _ _ _ _, rfl, Nat.le_refl _, Below.refl _ _⟩
  case round =>
    obtain ⟨k, len, v0, T, hk, rfl, rfl, HO, HT, hlen, hnx⟩ := hrel
    by_cases hlt : k < m
    · obtain ⟨b, off, rfl, hb, hcell⟩ := HR.out.2 (by omega)
      have hkx : k < row.length := by rw [HR.out.1]; exact hlt
      obtain ⟨⟨x, y, z⟩, hs⟩ : ∃ t, t = row[k] := ⟨_, rfl⟩
      obtain ⟨d0, d1, d2⟩ := hcell k row[k] (List.getElem?_eq_getElem hkx)
      rw [← hs] at d0 d1 d2
      have g0 := (hnx.cell (p := ⟨b, off + k * 3, none⟩) hb).trans d0
      have g1 := (hnx.cell (p := ⟨b, off + k * 3 + 1, none⟩) hb).trans d1
      have g2 := (hnx.cell (p := ⟨b, off + k * 3 + 2, none⟩) hb).trans d2
      simp only at g0 g1 g2
      have HXV := Lib.hid (VarIs.new wr #[.int .i64 x, .int .i64 y, .int .i64 z] 34 rfl)
      have BX := Lib.hid (hnx.alloc hnx.size (.cells #[.int .i64 x, .int .i64 y, .int .i64 z] 34))
      have HST : Hid (afterR (row.take (k + 1)) act = afterR (row.take k) act ++ if decide (y = act) then [z] else []) := by
        unfold Hid afterR
        rw [List.take_succ_eq_append_getElem hkx, ← hs, List.filter_append, List.map_append]
        by_cases h : y = act <;> simp [h]
      clear d0 d1 d2 hs hcell
      by_cases e1 : y = act
      · have he1 : (y == act) = true := by simp [e1]
        have HST2 : Hid (T ++ [z] = afterR (row.take (k + 1)) act) := by
          have := HST.out
          rw [decide_eq_true e1] at this
          rw [HT.out]
          exact this.symm
        clear e1
        have T1 := (HO.out.alloc (.cells #[.int .i64 x, .int .i64 y, .int .i64 z] 34)).alloc (.cells #[.int .i64 z] 3)
        have S1 : Src ((wr.alloc (.cells #[.int .i64 x, .int .i64 y, .int .i64 z] 34)).alloc (.cells #[.int .i64 z] 3)) (some ⟨wr.heap.size + 1, 0, none⟩) 1 1 [z] := src_one (by simp)
        have b1 := hnx.size
        go_wp2_with (at_builtin; refine wpList_app rfl (.tmp 18) (.tmp 21) rfl w1.heap.size i0 Try.underlying24 hi hz0 hz1 hz2 _ _ _ rfl T1 _ 1 _ [z] rfl S1 (by omega) (by simp; omega) ?_)
        rintro v2 w2 ⟨hown2, hgrow2, _⟩
        have hb2 : Below w1.heap.size w1 w2 := T1.grown (BX.out.alloc BX.out.size _) hgrow2 (Nat.le_refl _) (by simp; omega)
        have HO2 := Lib.hid hown2
        clear T1 S1 hgrow2 hown2 HO g0 g1 g2
        go_wp2_with fail
        go_roundw
        case rel => exact ⟨k + 1, len + 1, v2, T ++ [z], by omega, by go_num, rfl, HO2.out, HST2.out, by omega, hb2⟩
        case measure => simp [intOf]; omega
      · have he1 : (y == act) = false := by simp [e1]
        have HST2 : Hid (T = afterR (row.take (k + 1)) act) := by
          have := HST.out
          rw [decide_eq_false e1] at this
          unfold Hid
          rw [HT.out]
          simpa using this.symm
        clear e1
        have HO2 := Lib.hid (HO.out.alloc (.cells #[.int .i64 x, .int .i64 y, .int .i64 z] 34))
        go_wp2_with fail
        go_roundw
        case rel => exact ⟨k + 1, len, _, T, by omega, by go_num, rfl, HO2.out, HST2.out, by omega, BX.out⟩
        case measure => simp [intOf]; omega
    · have HE : Hid (T = afterR row act) := by
        have := HT.out
        rw [List.take_of_length_le (by rw [HR.out.1]; omega)] at this
        exact this
      go_wp2_with fail
      go_ret
      obtain rfl : L = T := HL.out.trans HE.out.symm
      have e := HO.out.length
      subst e
      exact ⟨_, rfl, HO.out, hnx⟩

set_option maxRecDepth 20000 in
set_option maxHeartbeats 3200000 in
theorem actsOfRow_any (ad : Option Addr) (m cr : Nat) (row : List St) (sa : Option Addr) (sn sc : Nat) (set : List Int) (w1 : World) (hr : RowS w1 ad m row) (hml : m ≤ 1048576) (hset : Row w1 sa sn set) (hsn : sn ≤ 1048576) :
    Calls Try.prog 47 #[.slice ad m cr, .slice sa sn sc] w1 (RowRes w1 w1.heap.size (Lib.compact (actsR row set))) := by
  obtain ⟨i0, hi, hz0, hz1, hz2⟩ := info_parts info_int
  obtain ⟨L, hL⟩ : ∃ L, L = Lib.compact (actsR row set) := ⟨_, rfl⟩
  rw [← hL]
  have HL := Lib.hid hL
  have HR := Lib.hid hr
  have HSET := Lib.hid hset
  clear hL hr hset
  go_enter Try.func47, Try.ntmps47
  go_wp2_with fail
  go_loopw [5, 10] (fun v i wr => ∃ (k len : Nat) (v0 : Value) (T : List Int), k ≤ m ∧ i = .int .i64 k ∧ v = v0 ∧ Hid (Owns wr w1.heap.size v0 len T) ∧ Hid (T = actsR (row.take k) set) ∧ len ≤ k ∧ Below w1.heap.size w1 wr) (fun _ i _ => m - (intOf i).toNat)
  case atStart => exact ⟨0, 0, _, [], Nat.zero_le _, rfl, rfl, World.ownsRow_nil _ _ _ _, rfl, Nat.le_refl _, Below.refl _ _⟩
  case round =>
    obtain ⟨k, len, v0, T, hk, rfl, rfl, HO, HT, hlen, hnx⟩ := hrel
    by_cases hlt : k < m
    · obtain ⟨b, off, rfl, hb, hcell⟩ := HR.out.2 (by omega)
      have hkx : k < row.length := by rw [HR.out.1]; exact hlt
      obtain ⟨⟨x, y, z⟩, hs⟩ : ∃ t, t = row[k] := ⟨_, rfl⟩
      obtain ⟨d0, d1, d2⟩ := hcell k row[k] (List.getElem?_eq_getElem hkx)
      rw [← hs] at d0 d1 d2
      have g0 := (hnx.cell (p := ⟨b, off + k * 3, none⟩) hb).trans d0
      have g1 := (hnx.cell (p := ⟨b, off + k * 3 + 1, none⟩) hb).trans d1
      have g2 := (hnx.cell (p := ⟨b, off + k * 3 + 2, none⟩) hb).trans d2
      simp only at g0 g1 g2
      have HXV := Lib.hid (VarIs.new wr #[.int .i64 x, .int .i64 y, .int .i64 z] 34 rfl)
      have BX := Lib.hid (hnx.alloc hnx.size (.cells #[.int .i64 x, .int .i64 y, .int .i64 z] 34))
      have HST : Hid (actsR (row.take (k + 1)) set = actsR (row.take k) set ++ if hasB set y then [y] else []) := by
        unfold Hid actsR
        rw [List.take_succ_eq_append_getElem hkx, ← hs, List.filter_append, List.map_append]
        by_cases h : hasB set y = true <;> simp [h]
      clear d0 d1 d2 hs hcell
      obtain ⟨q, hq⟩ : ∃ q, q = hasB set y := ⟨_, rfl⟩
      rw [← hq] at HST
      have HH : Hid (∀ W, Below w1.heap.size w1 W → Calls Try.prog 61 #[.slice sa sn sc, .int .i64 y] W fun e w' => e = .returned (.bool q) ∧ W = w') := fun W hW => by rw [hq]; exact (implSetHas_any sa sn sc y set W (HSET.out.below hW) (by omega)).mono fun _ _ h => ⟨h.1, h.2.symm⟩
      clear hq
      have kx := HXV.out.cell (j := 1) rfl
      cases q with
      | true =>
        have HST2 : Hid (T ++ [y] = actsR (row.take (k + 1)) set) := by
          have := HST.out
          unfold Hid
          rw [HT.out]
          simpa using this.symm
        have T1 := (HO.out.alloc (.cells #[.int .i64 x, .int .i64 y, .int .i64 z] 34)).alloc (.cells #[.int .i64 y] 3)
        have S1 : Src ((wr.alloc (.cells #[.int .i64 x, .int .i64 y, .int .i64 z] 34)).alloc (.cells #[.int .i64 y] 3)) (some ⟨wr.heap.size + 1, 0, none⟩) 1 1 [y] := src_one (by simp)
        have b1 := hnx.size
        go_wp2_with fail
        refine (HH.out _ BX.out).mono ?_
        rintro e w2 ⟨rfl, rfl⟩
        go_wp2_with (at_builtin; refine wpList_app rfl (.tmp 18) (.tmp 21) rfl w1.heap.size i0 Try.underlying24 hi hz0 hz1 hz2 _ _ _ rfl T1 _ 1 _ [y] rfl S1 (by omega) (by simp; omega) ?_)
        rintro v2 w2 ⟨hown2, hgrow2, _⟩
        have hb2 : Below w1.heap.size w1 w2 := T1.grown (BX.out.alloc BX.out.size _) hgrow2 (Nat.le_refl _) (by simp; omega)
        have HO2 := Lib.hid hown2
        clear T1 S1 hgrow2 hown2 HO g0 g1 g2
        go_wp2_with fail
        go_roundw
        case rel => exact ⟨k + 1, len + 1, v2, T ++ [y], by omega, by go_num, rfl, HO2.out, HST2.out, by omega, hb2⟩
        case measure => simp [intOf]; omega
      | false =>
        have HST2 : Hid (T = actsR (row.take (k + 1)) set) := by
          have := HST.out
          unfold Hid
          rw [HT.out]
          simpa using this.symm
        have HO2 := Lib.hid (HO.out.alloc (.cells #[.int .i64 x, .int .i64 y, .int .i64 z] 34))
        go_wp2_with fail
        refine (HH.out _ BX.out).mono ?_
        rintro e w2 ⟨rfl, rfl⟩
        go_wp2_with fail
        go_roundw
        case rel => exact ⟨k + 1, len, _, T, by omega, by go_num, rfl, HO2.out, HST2.out, by omega, BX.out⟩
        case measure => simp [intOf]; omega
    · have HE : Hid (T = actsR row set) := by
        have := HT.out
        rw [List.take_of_length_le (by rw [HR.out.1]; omega)] at this
        exact this
      by_cases h0 : len = 0
      · subst h0
        obtain rfl : T = [] := List.length_eq_zero_iff.1 HO.out.length
        obtain ⟨av, cv, rfl⟩ := HO.out.form
        go_wp2_with fail
        refine (Try.slices_Compact_int_empty _ _ _).mono ?_
        rintro e w2 ⟨rfl, rfl⟩
        go_wp2_with fail
        go_ret
        obtain rfl : L = [] := by rw [HL.out, ← HE.out, compact_nil]
        exact ⟨_, rfl, HO.out, hnx⟩
      · have hv : ∀ u : Value, Owns wr w1.heap.size u len T → ¬ u = .slice none 0 0 := by
          rintro u hu rfl
          rcases hu.2 with ⟨_, e⟩ | ⟨_, _, _, e, _⟩
          · exact h0 e
          · cases e
        obtain ⟨g, c, rfl⟩ := HO.out.head (hv _ HO.out)
        clear hv
        go_wp2_with fail
        refine (compact_at g len c w1.heap.size T _ HO.out (by omega)).mono ?_
        rintro e w2 ⟨m2, hm2, rfl, ho2, hg2⟩
        have HO2 := Lib.hid ho2
        have HM2 := Lib.hid hm2
        have B2 : Hid (Below w1.heap.size w1 w2) := hnx.grown hg2 hnx.size (fun q hq => by cases hq; exact (HO.out.lt g rfl).1)
        clear ho2 hm2 hg2
        go_wp2_with fail
        go_ret
        obtain rfl : L = Lib.compact T := by rw [HL.out, ← HE.out]
        have e := HM2.out
        subst e
        exact ⟨_, rfl, HO2.out, B2.out⟩

set_option maxRecDepth 20000 in
set_option maxHeartbeats 3200000 in
theorem implAfter_any (a : IaD) (v : Value) (s act : Int) (w : World) (h : IaRow w a v) (f2 : a.ins.length ≤ 1048576) (f3 : a.outs.length ≤ 1048576) (f4 : a.hids.length ≤ 1048576) (f5 : a.steps.length ≤ 1048576) :
    Calls Try.prog 13 #[v, .int .i64 s, .int .i64 act] w (RowRes w w.heap.size (if iaOkB a then afterL a.steps s act else [])) := by
  rw [← afterR_if]
  have CR : Hid (∀ W, Below w.heap.size w W → Calls Try.prog 46 #[v, .int .i64 s] W fun e w' => ∃ ad c, e = .returned (.slice ad (rowIf a s).length c) ∧ RowS w' ad (rowIf a s).length (rowIf a s) ∧ Below W.heap.size W w') := fun W hW => rowOf_any a v s W (h.below hW) f2 f3 f4 f5
  obtain ⟨row, hrow⟩ : ∃ r, r = rowIf a s := ⟨_, rfl⟩
  obtain ⟨m, hm⟩ : ∃ m, m = row.length := ⟨_, rfl⟩
  rw [← hrow, ← hm] at CR
  have hml : m ≤ 1048576 := by
    have := rowIf_len a s
    rw [hm, hrow]
    omega
  rw [← hrow]
  clear hrow hm
  obtain ⟨a2, n2, c2, a3, n3, c3, a4, n4, c4, a5, n5, c5, rfl, r2, r3, r4, r5⟩ := h
  clear r2 r3 r4 r5 f2 f3 f4 f5
  have B0 : Hid (∀ o, Below w.heap.size w (w.alloc o)) := fun o => (Below.refl _ _).alloc (Nat.le_refl _) _
  go_enter Try.func13, Try.ntmps13
  go_wp2_with fail
  refine (CR.out _ (B0.out _)).mono ?_
  rintro e w1 ⟨ad, cr, rfl, hr, hb⟩
  have B1 : Hid (Below w.heap.size w w1) := (B0.out _).trans (hb.mono (B0.out _).size)
  have HR := Lib.hid hr
  clear hb hr CR B0
  go_wp2_with fail
  refine (tosOfRow_any ad m cr row act _ HR.out hml).mono ?_
  rintro e w2 ⟨v2, rfl, ho, hb⟩
  have HO := Lib.hid ho
  have B2 : Hid (Below w.heap.size w w2) := B1.out.trans (hb.mono B1.out.size)
  clear ho hb
  go_wp2_with fail
  go_ret
  exact ⟨_, rfl, HO.out.mono B1.out.size, B2.out⟩

end Go.Proofs.Ytnglogkkkpegnaa

/-
  Contracts of Taken, Said, Done and After: the model's, and the program's first three. Conditions: the automaton's lists have at most 2^20 elements.
-/
namespace Go.Proofs.Ytnglogkkkpegnaa
open Go.RowKit

theorem ofL_len (ss : List St) (s : Int) (set : List Int) : (ofL ss s set).length ≤ ss.length := by
  unfold ofL
  refine Nat.le_trans (putAll_len _ _) ?_
  rw [List.length_nil, Nat.zero_add, List.length_map]
  exact List.length_filter_le _ _

theorem afterL_len (ss : List St) (s act : Int) : (afterL ss s act).length ≤ ss.length := by
  unfold afterL
  refine Nat.le_trans (putAll_len _ _) ?_
  rw [List.length_nil, Nat.zero_add, List.length_map]
  exact List.length_filter_le _ _

theorem of_len (a : IaD) (s : Int) (set : List Int) (f5 : a.steps.length ≤ 1048576) : (if iaOkB a then ofL a.steps s set else []).length ≤ 4194304 := by
  have := ofL_len a.steps s set
  split
  · omega
  · simp

theorem after_len (a : IaD) (s act : Int) (f5 : a.steps.length ≤ 1048576) : (if iaOkB a then afterL a.steps s act else []).length ≤ 4194304 := by
  have := afterL_len a.steps s act
  split
  · omega
  · simp

set_option maxRecDepth 20000 in
set_option maxHeartbeats 3200000 in
theorem implTaken_any (a : IaD) (v : Value) (s : Int) (w : World) (h : IaRow w a v) (f2 : a.ins.length ≤ 1048576) (f3 : a.outs.length ≤ 1048576) (f4 : a.hids.length ≤ 1048576) (f5 : a.steps.length ≤ 1048576) :
    Calls Try.prog 14 #[v, .int .i64 s] w (RowRes w w.heap.size (if iaOkB a then ofL a.steps s a.ins else [])) := by
  rw [← actsR_if]
  have CR0 : Hid (∀ W, Below w.heap.size w W → Calls Try.prog 46 #[v, .int .i64 s] W fun e w' => ∃ ad c, e = .returned (.slice ad (rowIf a s).length c) ∧ RowS w' ad (rowIf a s).length (rowIf a s) ∧ Below W.heap.size W w') := fun W hW => rowOf_any a v s W (h.below hW) f2 f3 f4 f5
  obtain ⟨row, hrow⟩ : ∃ r, r = rowIf a s := ⟨_, rfl⟩
  obtain ⟨m, hm⟩ : ∃ m, m = row.length := ⟨_, rfl⟩
  rw [← hrow, ← hm] at CR0
  have hml : m ≤ 1048576 := by
    have := rowIf_len a s
    rw [hm, hrow]
    omega
  rw [← hrow]
  clear hrow hm
  obtain ⟨a2, n2, c2, a3, n3, c3, a4, n4, c4, a5, n5, c5, rfl, r2, r3, r4, r5⟩ := h
  obtain ⟨st, it, ins, outs, hids, steps⟩ := a
  simp only at r2 r3 r4 r5 f2 f3 f4 f5
  have hsn : n2 ≤ 1048576 := by have := r2.1; omega
  have RX := Lib.hid r2
  clear r2 r3 r4 r5 f2 f3 f4 f5
  obtain ⟨L, hL⟩ : ∃ L, L = Lib.compact (actsR row ins) := ⟨_, rfl⟩
  have CR : Hid (∀ W, Below w.heap.size w W ∧ VarIs W w.heap.size #[.int .i64 st, .int .i64 it, .slice a2 n2 c2, .slice a3 n3 c3, .slice a4 n4 c4, .slice a5 n5 c5] 27 ∧ W.cell? ⟨w.heap.size, 0, none⟩ = some (.int .i64 st) ∧ W.cell? ⟨w.heap.size, 1, none⟩ = some (.int .i64 it) ∧ W.cell? ⟨w.heap.size, 2, none⟩ = some (.slice a2 n2 c2) ∧ W.cell? ⟨w.heap.size, 3, none⟩ = some (.slice a3 n3 c3) ∧ W.cell? ⟨w.heap.size, 4, none⟩ = some (.slice a4 n4 c4) ∧ W.cell? ⟨w.heap.size, 5, none⟩ = some (.slice a5 n5 c5) → Calls Try.prog 46 #[.agg #[.int .i64 st, .int .i64 it, .slice a2 n2 c2, .slice a3 n3 c3, .slice a4 n4 c4, .slice a5 n5 c5], .int .i64 s] W fun e w' => ∃ ad c, e = .returned (.slice ad m c) ∧ RowS w' ad m row ∧ (Below w.heap.size w w' ∧ VarIs w' w.heap.size #[.int .i64 st, .int .i64 it, .slice a2 n2 c2, .slice a3 n3 c3, .slice a4 n4 c4, .slice a5 n5 c5] 27 ∧ w'.cell? ⟨w.heap.size, 0, none⟩ = some (.int .i64 st) ∧ w'.cell? ⟨w.heap.size, 1, none⟩ = some (.int .i64 it) ∧ w'.cell? ⟨w.heap.size, 2, none⟩ = some (.slice a2 n2 c2) ∧ w'.cell? ⟨w.heap.size, 3, none⟩ = some (.slice a3 n3 c3) ∧ w'.cell? ⟨w.heap.size, 4, none⟩ = some (.slice a4 n4 c4) ∧ w'.cell? ⟨w.heap.size, 5, none⟩ = some (.slice a5 n5 c5))) := fun W hW => (CR0.out W hW.1).mono fun e w' ⟨ad, c, he, hr, hb⟩ => ⟨ad, c, he, hr, ⟨hW.1.trans (hb.mono hW.1.size), hW.2.1.below hb, (hW.2.1.below hb).cell rfl, (hW.2.1.below hb).cell rfl, (hW.2.1.below hb).cell rfl, (hW.2.1.below hb).cell rfl, (hW.2.1.below hb).cell rfl, (hW.2.1.below hb).cell rfl⟩⟩
  have CA : Hid (∀ W ad c, Below w.heap.size w W ∧ VarIs W w.heap.size #[.int .i64 st, .int .i64 it, .slice a2 n2 c2, .slice a3 n3 c3, .slice a4 n4 c4, .slice a5 n5 c5] 27 ∧ W.cell? ⟨w.heap.size, 0, none⟩ = some (.int .i64 st) ∧ W.cell? ⟨w.heap.size, 1, none⟩ = some (.int .i64 it) ∧ W.cell? ⟨w.heap.size, 2, none⟩ = some (.slice a2 n2 c2) ∧ W.cell? ⟨w.heap.size, 3, none⟩ = some (.slice a3 n3 c3) ∧ W.cell? ⟨w.heap.size, 4, none⟩ = some (.slice a4 n4 c4) ∧ W.cell? ⟨w.heap.size, 5, none⟩ = some (.slice a5 n5 c5) → RowS W ad m row → Calls Try.prog 47 #[.slice ad m c, .slice a2 n2 c2] W fun e w' => ∃ v, e = .returned v ∧ Owns w' w.heap.size v L.length L ∧ (Below w.heap.size w w' ∧ VarIs w' w.heap.size #[.int .i64 st, .int .i64 it, .slice a2 n2 c2, .slice a3 n3 c3, .slice a4 n4 c4, .slice a5 n5 c5] 27 ∧ w'.cell? ⟨w.heap.size, 0, none⟩ = some (.int .i64 st) ∧ w'.cell? ⟨w.heap.size, 1, none⟩ = some (.int .i64 it) ∧ w'.cell? ⟨w.heap.size, 2, none⟩ = some (.slice a2 n2 c2) ∧ w'.cell? ⟨w.heap.size, 3, none⟩ = some (.slice a3 n3 c3) ∧ w'.cell? ⟨w.heap.size, 4, none⟩ = some (.slice a4 n4 c4) ∧ w'.cell? ⟨w.heap.size, 5, none⟩ = some (.slice a5 n5 c5))) := fun W ad c hW hr => by
    rw [hL]
    exact (actsOfRow_any ad m c row a2 n2 c2 ins W hr hml (RX.out.below hW.1) hsn).mono fun e w' ⟨v, he, ho, hb⟩ => ⟨v, he, ho.mono hW.1.size, ⟨hW.1.trans (hb.mono hW.1.size), hW.2.1.below hb, (hW.2.1.below hb).cell rfl, (hW.2.1.below hb).cell rfl, (hW.2.1.below hb).cell rfl, (hW.2.1.below hb).cell rfl, (hW.2.1.below hb).cell rfl, (hW.2.1.below hb).cell rfl⟩⟩
  simp only
  rw [← hL]
  clear hL CR0
  have V0 := ((VarIs.new w #[.int .i64 st, .int .i64 it, .slice a2 n2 c2, .slice a3 n3 c3, .slice a4 n4 c4, .slice a5 n5 c5] 27 rfl)).drew
  have S0 : Below w.heap.size w (w.alloc (.cells #[.int .i64 st, .int .i64 it, .slice a2 n2 c2, .slice a3 n3 c3, .slice a4 n4 c4, .slice a5 n5 c5] 27)).drew ∧ VarIs (w.alloc (.cells #[.int .i64 st, .int .i64 it, .slice a2 n2 c2, .slice a3 n3 c3, .slice a4 n4 c4, .slice a5 n5 c5] 27)).drew w.heap.size #[.int .i64 st, .int .i64 it, .slice a2 n2 c2, .slice a3 n3 c3, .slice a4 n4 c4, .slice a5 n5 c5] 27 ∧ (w.alloc (.cells #[.int .i64 st, .int .i64 it, .slice a2 n2 c2, .slice a3 n3 c3, .slice a4 n4 c4, .slice a5 n5 c5] 27)).drew.cell? ⟨w.heap.size, 0, none⟩ = some (.int .i64 st) ∧ (w.alloc (.cells #[.int .i64 st, .int .i64 it, .slice a2 n2 c2, .slice a3 n3 c3, .slice a4 n4 c4, .slice a5 n5 c5] 27)).drew.cell? ⟨w.heap.size, 1, none⟩ = some (.int .i64 it) ∧ (w.alloc (.cells #[.int .i64 st, .int .i64 it, .slice a2 n2 c2, .slice a3 n3 c3, .slice a4 n4 c4, .slice a5 n5 c5] 27)).drew.cell? ⟨w.heap.size, 2, none⟩ = some (.slice a2 n2 c2) ∧ (w.alloc (.cells #[.int .i64 st, .int .i64 it, .slice a2 n2 c2, .slice a3 n3 c3, .slice a4 n4 c4, .slice a5 n5 c5] 27)).drew.cell? ⟨w.heap.size, 3, none⟩ = some (.slice a3 n3 c3) ∧ (w.alloc (.cells #[.int .i64 st, .int .i64 it, .slice a2 n2 c2, .slice a3 n3 c3, .slice a4 n4 c4, .slice a5 n5 c5] 27)).drew.cell? ⟨w.heap.size, 4, none⟩ = some (.slice a4 n4 c4) ∧ (w.alloc (.cells #[.int .i64 st, .int .i64 it, .slice a2 n2 c2, .slice a3 n3 c3, .slice a4 n4 c4, .slice a5 n5 c5] 27)).drew.cell? ⟨w.heap.size, 5, none⟩ = some (.slice a5 n5 c5) := ⟨((Below.refl _ _).alloc (Nat.le_refl _) _).drew, V0, V0.cell rfl, V0.cell rfl, V0.cell rfl, V0.cell rfl, V0.cell rfl, V0.cell rfl⟩
  clear V0
  go_enter Try.func14, Try.ntmps14
  go_wp2_with fail
  go_region_held3 (fun w' => Below w.heap.size w w' ∧ VarIs w' w.heap.size #[.int .i64 st, .int .i64 it, .slice a2 n2 c2, .slice a3 n3 c3, .slice a4 n4 c4, .slice a5 n5 c5] 27 ∧ w'.cell? ⟨w.heap.size, 0, none⟩ = some (.int .i64 st) ∧ w'.cell? ⟨w.heap.size, 1, none⟩ = some (.int .i64 it) ∧ w'.cell? ⟨w.heap.size, 2, none⟩ = some (.slice a2 n2 c2) ∧ w'.cell? ⟨w.heap.size, 3, none⟩ = some (.slice a3 n3 c3) ∧ w'.cell? ⟨w.heap.size, 4, none⟩ = some (.slice a4 n4 c4) ∧ w'.cell? ⟨w.heap.size, 5, none⟩ = some (.slice a5 n5 c5))
    (first | exact hS2 | exact hS1 | exact S0)
    ((first | (go_at_call 46; refine (CR.out _ S0).mono ?_; rintro e w' ⟨ad, c, rfl, hR, hS1⟩) | (go_at_call 47; refine (CA.out _ _ _ hS1 hR).mono ?_; rintro e w' ⟨v1, rfl, hO, hS2⟩)))
  have HO := Lib.hid hO
  have HB := Lib.hid hS2.1
  clear S0 hS1 hS2 hR hO CR CA
  go_wp2_with fail
  go_ret
  exact ⟨_, rfl, HO.out, HB.out⟩

set_option maxRecDepth 20000 in
set_option maxHeartbeats 3200000 in
theorem implSaid_any (a : IaD) (v : Value) (s : Int) (w : World) (h : IaRow w a v) (f2 : a.ins.length ≤ 1048576) (f3 : a.outs.length ≤ 1048576) (f4 : a.hids.length ≤ 1048576) (f5 : a.steps.length ≤ 1048576) :
    Calls Try.prog 15 #[v, .int .i64 s] w (RowRes w w.heap.size (if iaOkB a then ofL a.steps s a.outs else [])) := by
  rw [← actsR_if]
  have CR0 : Hid (∀ W, Below w.heap.size w W → Calls Try.prog 46 #[v, .int .i64 s] W fun e w' => ∃ ad c, e = .returned (.slice ad (rowIf a s).length c) ∧ RowS w' ad (rowIf a s).length (rowIf a s) ∧ Below W.heap.size W w') := fun W hW => rowOf_any a v s W (h.below hW) f2 f3 f4 f5
  obtain ⟨row, hrow⟩ : ∃ r, r = rowIf a s := ⟨_, rfl⟩
  obtain ⟨m, hm⟩ : ∃ m, m = row.length := ⟨_, rfl⟩
  rw [← hrow, ← hm] at CR0
  have hml : m ≤ 1048576 := by
    have := rowIf_len a s
    rw [hm, hrow]
    omega
  rw [← hrow]
  clear hrow hm
  obtain ⟨a2, n2, c2, a3, n3, c3, a4, n4, c4, a5, n5, c5, rfl, r2, r3, r4, r5⟩ := h
  obtain ⟨st, it, ins, outs, hids, steps⟩ := a
  simp only at r2 r3 r4 r5 f2 f3 f4 f5
  have hsn : n3 ≤ 1048576 := by have := r3.1; omega
  have RX := Lib.hid r3
  clear r2 r3 r4 r5 f2 f3 f4 f5
  obtain ⟨L, hL⟩ : ∃ L, L = Lib.compact (actsR row outs) := ⟨_, rfl⟩
  have CR : Hid (∀ W, Below w.heap.size w W ∧ VarIs W w.heap.size #[.int .i64 st, .int .i64 it, .slice a2 n2 c2, .slice a3 n3 c3, .slice a4 n4 c4, .slice a5 n5 c5] 27 ∧ W.cell? ⟨w.heap.size, 0, none⟩ = some (.int .i64 st) ∧ W.cell? ⟨w.heap.size, 1, none⟩ = some (.int .i64 it) ∧ W.cell? ⟨w.heap.size, 2, none⟩ = some (.slice a2 n2 c2) ∧ W.cell? ⟨w.heap.size, 3, none⟩ = some (.slice a3 n3 c3) ∧ W.cell? ⟨w.heap.size, 4, none⟩ = some (.slice a4 n4 c4) ∧ W.cell? ⟨w.heap.size, 5, none⟩ = some (.slice a5 n5 c5) → Calls Try.prog 46 #[.agg #[.int .i64 st, .int .i64 it, .slice a2 n2 c2, .slice a3 n3 c3, .slice a4 n4 c4, .slice a5 n5 c5], .int .i64 s] W fun e w' => ∃ ad c, e = .returned (.slice ad m c) ∧ RowS w' ad m row ∧ (Below w.heap.size w w' ∧ VarIs w' w.heap.size #[.int .i64 st, .int .i64 it, .slice a2 n2 c2, .slice a3 n3 c3, .slice a4 n4 c4, .slice a5 n5 c5] 27 ∧ w'.cell? ⟨w.heap.size, 0, none⟩ = some (.int .i64 st) ∧ w'.cell? ⟨w.heap.size, 1, none⟩ = some (.int .i64 it) ∧ w'.cell? ⟨w.heap.size, 2, none⟩ = some (.slice a2 n2 c2) ∧ w'.cell? ⟨w.heap.size, 3, none⟩ = some (.slice a3 n3 c3) ∧ w'.cell? ⟨w.heap.size, 4, none⟩ = some (.slice a4 n4 c4) ∧ w'.cell? ⟨w.heap.size, 5, none⟩ = some (.slice a5 n5 c5))) := fun W hW => (CR0.out W hW.1).mono fun e w' ⟨ad, c, he, hr, hb⟩ => ⟨ad, c, he, hr, ⟨hW.1.trans (hb.mono hW.1.size), hW.2.1.below hb, (hW.2.1.below hb).cell rfl, (hW.2.1.below hb).cell rfl, (hW.2.1.below hb).cell rfl, (hW.2.1.below hb).cell rfl, (hW.2.1.below hb).cell rfl, (hW.2.1.below hb).cell rfl⟩⟩
  have CA : Hid (∀ W ad c, Below w.heap.size w W ∧ VarIs W w.heap.size #[.int .i64 st, .int .i64 it, .slice a2 n2 c2, .slice a3 n3 c3, .slice a4 n4 c4, .slice a5 n5 c5] 27 ∧ W.cell? ⟨w.heap.size, 0, none⟩ = some (.int .i64 st) ∧ W.cell? ⟨w.heap.size, 1, none⟩ = some (.int .i64 it) ∧ W.cell? ⟨w.heap.size, 2, none⟩ = some (.slice a2 n2 c2) ∧ W.cell? ⟨w.heap.size, 3, none⟩ = some (.slice a3 n3 c3) ∧ W.cell? ⟨w.heap.size, 4, none⟩ = some (.slice a4 n4 c4) ∧ W.cell? ⟨w.heap.size, 5, none⟩ = some (.slice a5 n5 c5) → RowS W ad m row → Calls Try.prog 47 #[.slice ad m c, .slice a3 n3 c3] W fun e w' => ∃ v, e = .returned v ∧ Owns w' w.heap.size v L.length L ∧ (Below w.heap.size w w' ∧ VarIs w' w.heap.size #[.int .i64 st, .int .i64 it, .slice a2 n2 c2, .slice a3 n3 c3, .slice a4 n4 c4, .slice a5 n5 c5] 27 ∧ w'.cell? ⟨w.heap.size, 0, none⟩ = some (.int .i64 st) ∧ w'.cell? ⟨w.heap.size, 1, none⟩ = some (.int .i64 it) ∧ w'.cell? ⟨w.heap.size, 2, none⟩ = some (.slice a2 n2 c2) ∧ w'.cell? ⟨w.heap.size, 3, none⟩ = some (.slice a3 n3 c3) ∧ w'.cell? ⟨w.heap.size, 4, none⟩ = some (.slice a4 n4 c4) ∧ w'.cell? ⟨w.heap.size, 5, none⟩ = some (.slice a5 n5 c5))) := fun W ad c hW hr => by
    rw [hL]
    exact (actsOfRow_any ad m c row a3 n3 c3 outs W hr hml (RX.out.below hW.1) hsn).mono fun e w' ⟨v, he, ho, hb⟩ => ⟨v, he, ho.mono hW.1.size, ⟨hW.1.trans (hb.mono hW.1.size), hW.2.1.below hb, (hW.2.1.below hb).cell rfl, (hW.2.1.below hb).cell rfl, (hW.2.1.below hb).cell rfl, (hW.2.1.below hb).cell rfl, (hW.2.1.below hb).cell rfl, (hW.2.1.below hb).cell rfl⟩⟩
  simp only
  rw [← hL]
  clear hL CR0
  have V0 := ((VarIs.new w #[.int .i64 st, .int .i64 it, .slice a2 n2 c2, .slice a3 n3 c3, .slice a4 n4 c4, .slice a5 n5 c5] 27 rfl)).drew
  have S0 : Below w.heap.size w (w.alloc (.cells #[.int .i64 st, .int .i64 it, .slice a2 n2 c2, .slice a3 n3 c3, .slice a4 n4 c4, .slice a5 n5 c5] 27)).drew ∧ VarIs (w.alloc (.cells #[.int .i64 st, .int .i64 it, .slice a2 n2 c2, .slice a3 n3 c3, .slice a4 n4 c4, .slice a5 n5 c5] 27)).drew w.heap.size #[.int .i64 st, .int .i64 it, .slice a2 n2 c2, .slice a3 n3 c3, .slice a4 n4 c4, .slice a5 n5 c5] 27 ∧ (w.alloc (.cells #[.int .i64 st, .int .i64 it, .slice a2 n2 c2, .slice a3 n3 c3, .slice a4 n4 c4, .slice a5 n5 c5] 27)).drew.cell? ⟨w.heap.size, 0, none⟩ = some (.int .i64 st) ∧ (w.alloc (.cells #[.int .i64 st, .int .i64 it, .slice a2 n2 c2, .slice a3 n3 c3, .slice a4 n4 c4, .slice a5 n5 c5] 27)).drew.cell? ⟨w.heap.size, 1, none⟩ = some (.int .i64 it) ∧ (w.alloc (.cells #[.int .i64 st, .int .i64 it, .slice a2 n2 c2, .slice a3 n3 c3, .slice a4 n4 c4, .slice a5 n5 c5] 27)).drew.cell? ⟨w.heap.size, 2, none⟩ = some (.slice a2 n2 c2) ∧ (w.alloc (.cells #[.int .i64 st, .int .i64 it, .slice a2 n2 c2, .slice a3 n3 c3, .slice a4 n4 c4, .slice a5 n5 c5] 27)).drew.cell? ⟨w.heap.size, 3, none⟩ = some (.slice a3 n3 c3) ∧ (w.alloc (.cells #[.int .i64 st, .int .i64 it, .slice a2 n2 c2, .slice a3 n3 c3, .slice a4 n4 c4, .slice a5 n5 c5] 27)).drew.cell? ⟨w.heap.size, 4, none⟩ = some (.slice a4 n4 c4) ∧ (w.alloc (.cells #[.int .i64 st, .int .i64 it, .slice a2 n2 c2, .slice a3 n3 c3, .slice a4 n4 c4, .slice a5 n5 c5] 27)).drew.cell? ⟨w.heap.size, 5, none⟩ = some (.slice a5 n5 c5) := ⟨((Below.refl _ _).alloc (Nat.le_refl _) _).drew, V0, V0.cell rfl, V0.cell rfl, V0.cell rfl, V0.cell rfl, V0.cell rfl, V0.cell rfl⟩
  clear V0
  go_enter Try.func15, Try.ntmps15
  go_wp2_with fail
  go_region_held3 (fun w' => Below w.heap.size w w' ∧ VarIs w' w.heap.size #[.int .i64 st, .int .i64 it, .slice a2 n2 c2, .slice a3 n3 c3, .slice a4 n4 c4, .slice a5 n5 c5] 27 ∧ w'.cell? ⟨w.heap.size, 0, none⟩ = some (.int .i64 st) ∧ w'.cell? ⟨w.heap.size, 1, none⟩ = some (.int .i64 it) ∧ w'.cell? ⟨w.heap.size, 2, none⟩ = some (.slice a2 n2 c2) ∧ w'.cell? ⟨w.heap.size, 3, none⟩ = some (.slice a3 n3 c3) ∧ w'.cell? ⟨w.heap.size, 4, none⟩ = some (.slice a4 n4 c4) ∧ w'.cell? ⟨w.heap.size, 5, none⟩ = some (.slice a5 n5 c5))
    (first | exact hS2 | exact hS1 | exact S0)
    ((first | (go_at_call 46; refine (CR.out _ S0).mono ?_; rintro e w' ⟨ad, c, rfl, hR, hS1⟩) | (go_at_call 47; refine (CA.out _ _ _ hS1 hR).mono ?_; rintro e w' ⟨v1, rfl, hO, hS2⟩)))
  have HO := Lib.hid hO
  have HB := Lib.hid hS2.1
  clear S0 hS1 hS2 hR hO CR CA
  go_wp2_with fail
  go_ret
  exact ⟨_, rfl, HO.out, HB.out⟩

set_option maxRecDepth 20000 in
set_option maxHeartbeats 3200000 in
theorem implDone_any (a : IaD) (v : Value) (s : Int) (w : World) (h : IaRow w a v) (f2 : a.ins.length ≤ 1048576) (f3 : a.outs.length ≤ 1048576) (f4 : a.hids.length ≤ 1048576) (f5 : a.steps.length ≤ 1048576) :
    Calls Try.prog 16 #[v, .int .i64 s] w (RowRes w w.heap.size (if iaOkB a then ofL a.steps s a.hids else [])) := by
  rw [← actsR_if]
  have CR0 : Hid (∀ W, Below w.heap.size w W → Calls Try.prog 46 #[v, .int .i64 s] W fun e w' => ∃ ad c, e = .returned (.slice ad (rowIf a s).length c) ∧ RowS w' ad (rowIf a s).length (rowIf a s) ∧ Below W.heap.size W w') := fun W hW => rowOf_any a v s W (h.below hW) f2 f3 f4 f5
  obtain ⟨row, hrow⟩ : ∃ r, r = rowIf a s := ⟨_, rfl⟩
  obtain ⟨m, hm⟩ : ∃ m, m = row.length := ⟨_, rfl⟩
  rw [← hrow, ← hm] at CR0
  have hml : m ≤ 1048576 := by
    have := rowIf_len a s
    rw [hm, hrow]
    omega
  rw [← hrow]
  clear hrow hm
  obtain ⟨a2, n2, c2, a3, n3, c3, a4, n4, c4, a5, n5, c5, rfl, r2, r3, r4, r5⟩ := h
  obtain ⟨st, it, ins, outs, hids, steps⟩ := a
  simp only at r2 r3 r4 r5 f2 f3 f4 f5
  have hsn : n4 ≤ 1048576 := by have := r4.1; omega
  have RX := Lib.hid r4
  clear r2 r3 r4 r5 f2 f3 f4 f5
  obtain ⟨L, hL⟩ : ∃ L, L = Lib.compact (actsR row hids) := ⟨_, rfl⟩
  have CR : Hid (∀ W, Below w.heap.size w W ∧ VarIs W w.heap.size #[.int .i64 st, .int .i64 it, .slice a2 n2 c2, .slice a3 n3 c3, .slice a4 n4 c4, .slice a5 n5 c5] 27 ∧ W.cell? ⟨w.heap.size, 0, none⟩ = some (.int .i64 st) ∧ W.cell? ⟨w.heap.size, 1, none⟩ = some (.int .i64 it) ∧ W.cell? ⟨w.heap.size, 2, none⟩ = some (.slice a2 n2 c2) ∧ W.cell? ⟨w.heap.size, 3, none⟩ = some (.slice a3 n3 c3) ∧ W.cell? ⟨w.heap.size, 4, none⟩ = some (.slice a4 n4 c4) ∧ W.cell? ⟨w.heap.size, 5, none⟩ = some (.slice a5 n5 c5) → Calls Try.prog 46 #[.agg #[.int .i64 st, .int .i64 it, .slice a2 n2 c2, .slice a3 n3 c3, .slice a4 n4 c4, .slice a5 n5 c5], .int .i64 s] W fun e w' => ∃ ad c, e = .returned (.slice ad m c) ∧ RowS w' ad m row ∧ (Below w.heap.size w w' ∧ VarIs w' w.heap.size #[.int .i64 st, .int .i64 it, .slice a2 n2 c2, .slice a3 n3 c3, .slice a4 n4 c4, .slice a5 n5 c5] 27 ∧ w'.cell? ⟨w.heap.size, 0, none⟩ = some (.int .i64 st) ∧ w'.cell? ⟨w.heap.size, 1, none⟩ = some (.int .i64 it) ∧ w'.cell? ⟨w.heap.size, 2, none⟩ = some (.slice a2 n2 c2) ∧ w'.cell? ⟨w.heap.size, 3, none⟩ = some (.slice a3 n3 c3) ∧ w'.cell? ⟨w.heap.size, 4, none⟩ = some (.slice a4 n4 c4) ∧ w'.cell? ⟨w.heap.size, 5, none⟩ = some (.slice a5 n5 c5))) := fun W hW => (CR0.out W hW.1).mono fun e w' ⟨ad, c, he, hr, hb⟩ => ⟨ad, c, he, hr, ⟨hW.1.trans (hb.mono hW.1.size), hW.2.1.below hb, (hW.2.1.below hb).cell rfl, (hW.2.1.below hb).cell rfl, (hW.2.1.below hb).cell rfl, (hW.2.1.below hb).cell rfl, (hW.2.1.below hb).cell rfl, (hW.2.1.below hb).cell rfl⟩⟩
  have CA : Hid (∀ W ad c, Below w.heap.size w W ∧ VarIs W w.heap.size #[.int .i64 st, .int .i64 it, .slice a2 n2 c2, .slice a3 n3 c3, .slice a4 n4 c4, .slice a5 n5 c5] 27 ∧ W.cell? ⟨w.heap.size, 0, none⟩ = some (.int .i64 st) ∧ W.cell? ⟨w.heap.size, 1, none⟩ = some (.int .i64 it) ∧ W.cell? ⟨w.heap.size, 2, none⟩ = some (.slice a2 n2 c2) ∧ W.cell? ⟨w.heap.size, 3, none⟩ = some (.slice a3 n3 c3) ∧ W.cell? ⟨w.heap.size, 4, none⟩ = some (.slice a4 n4 c4) ∧ W.cell? ⟨w.heap.size, 5, none⟩ = some (.slice a5 n5 c5) → RowS W ad m row → Calls Try.prog 47 #[.slice ad m c, .slice a4 n4 c4] W fun e w' => ∃ v, e = .returned v ∧ Owns w' w.heap.size v L.length L ∧ (Below w.heap.size w w' ∧ VarIs w' w.heap.size #[.int .i64 st, .int .i64 it, .slice a2 n2 c2, .slice a3 n3 c3, .slice a4 n4 c4, .slice a5 n5 c5] 27 ∧ w'.cell? ⟨w.heap.size, 0, none⟩ = some (.int .i64 st) ∧ w'.cell? ⟨w.heap.size, 1, none⟩ = some (.int .i64 it) ∧ w'.cell? ⟨w.heap.size, 2, none⟩ = some (.slice a2 n2 c2) ∧ w'.cell? ⟨w.heap.size, 3, none⟩ = some (.slice a3 n3 c3) ∧ w'.cell? ⟨w.heap.size, 4, none⟩ = some (.slice a4 n4 c4) ∧ w'.cell? ⟨w.heap.size, 5, none⟩ = some (.slice a5 n5 c5))) := fun W ad c hW hr => by
    rw [hL]
    exact (actsOfRow_any ad m c row a4 n4 c4 hids W hr hml (RX.out.below hW.1) hsn).mono fun e w' ⟨v, he, ho, hb⟩ => ⟨v, he, ho.mono hW.1.size, ⟨hW.1.trans (hb.mono hW.1.size), hW.2.1.below hb, (hW.2.1.below hb).cell rfl, (hW.2.1.below hb).cell rfl, (hW.2.1.below hb).cell rfl, (hW.2.1.below hb).cell rfl, (hW.2.1.below hb).cell rfl, (hW.2.1.below hb).cell rfl⟩⟩
  simp only
  rw [← hL]
  clear hL CR0
  have V0 := ((VarIs.new w #[.int .i64 st, .int .i64 it, .slice a2 n2 c2, .slice a3 n3 c3, .slice a4 n4 c4, .slice a5 n5 c5] 27 rfl)).drew
  have S0 : Below w.heap.size w (w.alloc (.cells #[.int .i64 st, .int .i64 it, .slice a2 n2 c2, .slice a3 n3 c3, .slice a4 n4 c4, .slice a5 n5 c5] 27)).drew ∧ VarIs (w.alloc (.cells #[.int .i64 st, .int .i64 it, .slice a2 n2 c2, .slice a3 n3 c3, .slice a4 n4 c4, .slice a5 n5 c5] 27)).drew w.heap.size #[.int .i64 st, .int .i64 it, .slice a2 n2 c2, .slice a3 n3 c3, .slice a4 n4 c4, .slice a5 n5 c5] 27 ∧ (w.alloc (.cells #[.int .i64 st, .int .i64 it, .slice a2 n2 c2, .slice a3 n3 c3, .slice a4 n4 c4, .slice a5 n5 c5] 27)).drew.cell? ⟨w.heap.size, 0, none⟩ = some (.int .i64 st) ∧ (w.alloc (.cells #[.int .i64 st, .int .i64 it, .slice a2 n2 c2, .slice a3 n3 c3, .slice a4 n4 c4, .slice a5 n5 c5] 27)).drew.cell? ⟨w.heap.size, 1, none⟩ = some (.int .i64 it) ∧ (w.alloc (.cells #[.int .i64 st, .int .i64 it, .slice a2 n2 c2, .slice a3 n3 c3, .slice a4 n4 c4, .slice a5 n5 c5] 27)).drew.cell? ⟨w.heap.size, 2, none⟩ = some (.slice a2 n2 c2) ∧ (w.alloc (.cells #[.int .i64 st, .int .i64 it, .slice a2 n2 c2, .slice a3 n3 c3, .slice a4 n4 c4, .slice a5 n5 c5] 27)).drew.cell? ⟨w.heap.size, 3, none⟩ = some (.slice a3 n3 c3) ∧ (w.alloc (.cells #[.int .i64 st, .int .i64 it, .slice a2 n2 c2, .slice a3 n3 c3, .slice a4 n4 c4, .slice a5 n5 c5] 27)).drew.cell? ⟨w.heap.size, 4, none⟩ = some (.slice a4 n4 c4) ∧ (w.alloc (.cells #[.int .i64 st, .int .i64 it, .slice a2 n2 c2, .slice a3 n3 c3, .slice a4 n4 c4, .slice a5 n5 c5] 27)).drew.cell? ⟨w.heap.size, 5, none⟩ = some (.slice a5 n5 c5) := ⟨((Below.refl _ _).alloc (Nat.le_refl _) _).drew, V0, V0.cell rfl, V0.cell rfl, V0.cell rfl, V0.cell rfl, V0.cell rfl, V0.cell rfl⟩
  clear V0
  go_enter Try.func16, Try.ntmps16
  go_wp2_with fail
  go_region_held3 (fun w' => Below w.heap.size w w' ∧ VarIs w' w.heap.size #[.int .i64 st, .int .i64 it, .slice a2 n2 c2, .slice a3 n3 c3, .slice a4 n4 c4, .slice a5 n5 c5] 27 ∧ w'.cell? ⟨w.heap.size, 0, none⟩ = some (.int .i64 st) ∧ w'.cell? ⟨w.heap.size, 1, none⟩ = some (.int .i64 it) ∧ w'.cell? ⟨w.heap.size, 2, none⟩ = some (.slice a2 n2 c2) ∧ w'.cell? ⟨w.heap.size, 3, none⟩ = some (.slice a3 n3 c3) ∧ w'.cell? ⟨w.heap.size, 4, none⟩ = some (.slice a4 n4 c4) ∧ w'.cell? ⟨w.heap.size, 5, none⟩ = some (.slice a5 n5 c5))
    (first | exact hS2 | exact hS1 | exact S0)
    ((first | (go_at_call 46; refine (CR.out _ S0).mono ?_; rintro e w' ⟨ad, c, rfl, hR, hS1⟩) | (go_at_call 47; refine (CA.out _ _ _ hS1 hR).mono ?_; rintro e w' ⟨v1, rfl, hO, hS2⟩)))
  have HO := Lib.hid hO
  have HB := Lib.hid hS2.1
  clear S0 hS1 hS2 hR hO CR CA
  go_wp2_with fail
  go_ret
  exact ⟨_, rfl, HO.out, HB.out⟩

end Go.Proofs.Ytnglogkkkpegnaa
