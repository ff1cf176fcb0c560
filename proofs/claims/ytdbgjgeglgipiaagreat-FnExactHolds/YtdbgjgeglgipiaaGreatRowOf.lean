import Derived.Test.YtdbgjgeglgipiaaGreatImplStep
import Derived.Test.YtdbgjgeglgipiaaGreatRowsOf
import Derived.Test.YtdbgjgeglgipiaaGreatIaRise
import Derived.Test.YtdbgjgeglgipiaaGreatSpecIaOk
import Derived.Deep.RegionHeld3
/-
  The contract of the program's rowOf: the steps from a state, in their order. Conditions: the automaton's lists have at most 2^20 elements.
-/
namespace Go.Proofs.YtdbgjgeglgipiaaGreat
open Go.RowKit

/-- One row out of the array, by value. -/
theorem index_rows (C : Array Value) (j : Nat) (hj : j < 40) (v : Value) (h : C[j]? = some v) (w : World) : (Instr.index 115 (.agg C) (.int .i64 (j : Int))).run Tryz.prog w = .ok v w := by
  simp [Instr.index, run_underlying Tryz.underlying115, asIntOf, go_sem, part, h]
  intro h40
  omega

/-- What rowOf answers. -/
def rowIf (a : IaD) (s : Int) : List St := if iaOkB a then rowL a.steps s else []

end Go.Proofs.YtdbgjgeglgipiaaGreat

/-
  Contracts of the program's tosOfRow, actsOfRow and After. Conditions: the lists have at most 2^20 elements.
-/
namespace Go.Proofs.YtdbgjgeglgipiaaGreat
open Go.RowKit

theorem rowIf_len (a : IaD) (s : Int) : (rowIf a s).length ≤ a.steps.length := by
  unfold rowIf
  split
  · exact rowL_len _ _
  · simp

theorem afterR_if (a : IaD) (s act : Int) : afterR (rowIf a s) act = if iaOkB a then afterL a.steps s act else [] := by
  unfold rowIf
  split
  · rename_i h
    exact afterR_eq h s act
  · rfl

theorem compact_nil : Lib.compact ([] : List Int) = [] := by simp [Lib.compact, Lib.compactUpTo]

theorem actsR_if (a : IaD) (s : Int) (set : List Int) : Lib.compact (actsR (rowIf a s) set) = if iaOkB a then ofL a.steps s set else [] := by
  unfold rowIf
  split
  · rename_i h
    exact actsR_eq h s set
  · exact compact_nil

set_option maxRecDepth 20000 in
set_option maxHeartbeats 3200000 in
theorem tosOfRow_any (ad : Option Addr) (m cr : Nat) (row : List St) (act : Int) (w1 : World) (hr : RowS w1 ad m row) (hml : m ≤ 1048576) :
    Calls Tryz.prog 103 #[.slice ad m cr, .int .i64 act] w1 (RowRes w1 w1.heap.size (afterR row act)) := by
  obtain ⟨i0, hi, hz0, hz1, hz2⟩ := info_parts info_int
  obtain ⟨L, hL⟩ : ∃ L, L = afterR row act := ⟨_, rfl⟩
  rw [← hL]
  have HL := Lib.hid hL
  have HR := Lib.hid hr
  clear hL hr
  go_enter Tryz.func103, Tryz.ntmps103
  go_wp2_with fail
  go_loopw [5, 10] (fun v i wr => ∃ (k len : Nat) (v0 : Value) (T : List Int), k ≤ m ∧ i = .int .i64 k ∧ v = v0 ∧ Hid (Owns wr w1.heap.size v0 len T) ∧ Hid (T = afterR (row.take k) act) ∧ len ≤ k ∧ Below w1.heap.size w1 wr) (fun _ i _ => m - (intOf i).toNat)
  case atStart => exact ⟨0, 0, _, [], Nat.zero_le _, rfl, rfl, World.ownsRow_nil _ _ _ _, rfl, Nat.le_refl _, Below.refl _ _⟩
  case round =>
    obtain ⟨k, len, v0, T, hk, rfl, rfl, HO, HT, hlen, hnx⟩ := hrel
    by_cases hlt : k < m
    · obtain ⟨b, off, rfl, hb, hcell⟩ := HR.out.2 (by omega)
      have hkx : k < row.length := by rw [HR.out.1]; exact hlt
      obtain ⟨⟨x, y, z⟩, hs⟩ : ∃ t, t = row[k] := ⟨_, rfl⟩
      obtain ⟨d0, d1, d2⟩ := hcell k row[k] (List.getElem?_eq_getElem hkx)
      rw [← hs] at d0 d1 d2
      have g0 := (hnx.cell (p := ⟨b, off + k * 3, none⟩) hb).trans d0
      have g1 := (hnx.cell (p := ⟨b, off + k * 3 + 1, none⟩) hb).trans d1
      have g2 := (hnx.cell (p := ⟨b, off + k * 3 + 2, none⟩) hb).trans d2
      simp only at g0 g1 g2
      have HXV := Lib.hid (VarIs.new wr #[.int .i64 x, .int .i64 y, .int .i64 z] 48 rfl)
      have BX := Lib.hid (hnx.alloc hnx.size (.cells #[.int .i64 x, .int .i64 y, .int .i64 z] 48))
      have HST : Hid (afterR (row.take (k + 1)) act = afterR (row.take k) act ++ if decide (y = act) then [z] else []) := by
        unfold Hid afterR
        rw [List.take_succ_eq_append_getElem hkx, ← hs, List.filter_append, List.map_append]
        by_cases h : y = act <;> simp [h]
      clear d0 d1 d2 hs hcell
      by_cases e1 : y = act
      · have he1 : (y == act) = true := by simp [e1]
        have HST2 : Hid (T ++ [z] = afterR (row.take (k + 1)) act) := by
          have := HST.out
          rw [decide_eq_true e1] at this
          rw [HT.out]
          exact this.symm
        clear e1
        have T1 := (HO.out.alloc (.cells #[.int .i64 x, .int .i64 y, .int .i64 z] 48)).alloc (.cells #[.int .i64 z] 3)
        have S1 : Src ((wr.alloc (.cells #[.int .i64 x, .int .i64 y, .int .i64 z] 48)).alloc (.cells #[.int .i64 z] 3)) (some ⟨wr.heap.size + 1, 0, none⟩) 1 1 [z] := src_one (by simp)
        have b1 := hnx.size
        go_wp2_with (at_builtin; refine wpList_app rfl (.tmp 18) (.tmp 21) rfl w1.heap.size i0 Tryz.underlying22 hi hz0 hz1 hz2 _ _ _ rfl T1 _ 1 _ [z] rfl S1 (by omega) (by simp; omega) ?_)
        rintro v2 w2 ⟨hown2, hgrow2, _⟩
        have hb2 : Below w1.heap.size w1 w2 := T1.grown (BX.out.alloc BX.out.size _) hgrow2 (Nat.le_refl _) (by simp; omega)
        have HO2 := Lib.hid hown2
        clear T1 S1 hgrow2 hown2 HO g0 g1 g2
        go_wp2_with fail
        go_roundw
        case rel => exact ⟨k + 1, len + 1, v2, T ++ [z], by omega, by go_num, rfl, HO2.out, HST2.out, by omega, hb2⟩
        case measure => simp [intOf]; omega
      · have he1 : (y == act) = false := by simp [e1]
        have HST2 : Hid (T = afterR (row.take (k + 1)) act) := by
          have := HST.out
          rw [decide_eq_false e1] at this
          unfold Hid
          rw [HT.out]
          simpa using this.symm
        clear e1
        have HO2 := Lib.hid (HO.out.alloc (.cells #[.int .i64 x, .int .i64 y, .int .i64 z] 48))
        go_wp2_with fail
        go_roundw
        case rel => exact ⟨k + 1, len, _, T, by omega, by go_num, rfl, HO2.out, HST2.out, by omega, BX.out⟩
        case measure => simp [intOf]; omega
    · have HE : Hid (T = afterR row act) := by
        have := HT.out
        rw [List.take_of_length_le (by rw [HR.out.1]; omega)] at this
        exact this
      go_wp2_with fail
      go_ret
      obtain rfl : L = T := HL.out.trans HE.out.symm
      have e := HO.out.length
      subst e
      exact ⟨_, rfl, HO.out, hnx⟩

set_option maxRecDepth 20000 in
set_option maxHeartbeats 3200000 in
theorem actsOfRow_any (ad : Option Addr) (m cr : Nat) (row : List St) (sa : Option Addr) (sn sc : Nat) (set : List Int) (w1 : World) (hr : RowS w1 ad m row) (hml : m ≤ 1048576) (hset : Row w1 sa sn set) (hsn : sn ≤ 1048576) :
    Calls Tryz.prog 102 #[.slice ad m cr, .slice sa sn sc] w1 (RowRes w1 w1.heap.size (Lib.compact (actsR row set))) := by
  obtain ⟨i0, hi, hz0, hz1, hz2⟩ := info_parts info_int
  obtain ⟨L, hL⟩ : ∃ L, L = Lib.compact (actsR row set) := ⟨_, rfl⟩
  rw [← hL]
  have HL := Lib.hid hL
  have HR := Lib.hid hr
  have HSET := Lib.hid hset
  clear hL hr hset
  go_enter Tryz.func102, Tryz.ntmps102
  go_wp2_with fail
  go_loopw [5, 10] (fun v i wr => ∃ (k len : Nat) (v0 : Value) (T : List Int), k ≤ m ∧ i = .int .i64 k ∧ v = v0 ∧ Hid (Owns wr w1.heap.size v0 len T) ∧ Hid (T = actsR (row.take k) set) ∧ len ≤ k ∧ Below w1.heap.size w1 wr) (fun _ i _ => m - (intOf i).toNat)
  case atStart => exact ⟨0, 0, _, [], Nat.zero_le _, rfl, rfl, World.ownsRow_nil _ _ _ _, rfl, Nat.le_refl _, Below.refl _ _⟩
  case round =>
    obtain ⟨k, len, v0, T, hk, rfl, rfl, HO, HT, hlen, hnx⟩ := hrel
    by_cases hlt : k < m
    · obtain ⟨b, off, rfl, hb, hcell⟩ := HR.out.2 (by omega)
      have hkx : k < row.length := by rw [HR.out.1]; exact hlt
      obtain ⟨⟨x, y, z⟩, hs⟩ : ∃ t, t = row[k] := ⟨_, rfl⟩
      obtain ⟨d0, d1, d2⟩ := hcell k row[k] (List.getElem?_eq_getElem hkx)
      rw [← hs] at d0 d1 d2
      have g0 := (hnx.cell (p := ⟨b, off + k * 3, none⟩) hb).trans d0
      have g1 := (hnx.cell (p := ⟨b, off + k * 3 + 1, none⟩) hb).trans d1
      have g2 := (hnx.cell (p := ⟨b, off + k * 3 + 2, none⟩) hb).trans d2
      simp only at g0 g1 g2
      have HXV := Lib.hid (VarIs.new wr #[.int .i64 x, .int .i64 y, .int .i64 z] 48 rfl)
      have BX := Lib.hid (hnx.alloc hnx.size (.cells #[.int .i64 x, .int .i64 y, .int .i64 z] 48))
      have HST : Hid (actsR (row.take (k + 1)) set = actsR (row.take k) set ++ if hasB set y then [y] else []) := by
        unfold Hid actsR
        rw [List.take_succ_eq_append_getElem hkx, ← hs, List.filter_append, List.map_append]
        by_cases h : hasB set y = true <;> simp [h]
      clear d0 d1 d2 hs hcell
      obtain ⟨q, hq⟩ : ∃ q, q = hasB set y := ⟨_, rfl⟩
      rw [← hq] at HST
      have HH : Hid (∀ W, Below w1.heap.size w1 W → Calls Tryz.prog 26 #[.slice sa sn sc, .int .i64 y] W fun e w' => e = .returned (.bool q) ∧ W = w') := fun W hW => by rw [hq]; exact (implSetHas_any sa sn sc y set W (HSET.out.below hW) (by omega)).mono fun _ _ h => ⟨h.1, h.2.symm⟩
      clear hq
      have kx := HXV.out.cell (j := 1) rfl
      cases q with
      | true =>
        have HST2 : Hid (T ++ [y] = actsR (row.take (k + 1)) set) := by
          have := HST.out
          unfold Hid
          rw [HT.out]
          simpa using this.symm
        have T1 := (HO.out.alloc (.cells #[.int .i64 x, .int .i64 y, .int .i64 z] 48)).alloc (.cells #[.int .i64 y] 3)
        have S1 : Src ((wr.alloc (.cells #[.int .i64 x, .int .i64 y, .int .i64 z] 48)).alloc (.cells #[.int .i64 y] 3)) (some ⟨wr.heap.size + 1, 0, none⟩) 1 1 [y] := src_one (by simp)
        have b1 := hnx.size
        go_wp2_with fail
        refine (HH.out _ BX.out).mono ?_
        rintro e w2 ⟨rfl, rfl⟩
        go_wp2_with (at_builtin; refine wpList_app rfl (.tmp 18) (.tmp 21) rfl w1.heap.size i0 Tryz.underlying22 hi hz0 hz1 hz2 _ _ _ rfl T1 _ 1 _ [y] rfl S1 (by omega) (by simp; omega) ?_)
        rintro v2 w2 ⟨hown2, hgrow2, _⟩
        have hb2 : Below w1.heap.size w1 w2 := T1.grown (BX.out.alloc BX.out.size _) hgrow2 (Nat.le_refl _) (by simp; omega)
        have HO2 := Lib.hid hown2
        clear T1 S1 hgrow2 hown2 HO g0 g1 g2
        go_wp2_with fail
        go_roundw
        case rel => exact ⟨k + 1, len + 1, v2, T ++ [y], by omega, by go_num, rfl, HO2.out, HST2.out, by omega, hb2⟩
        case measure => simp [intOf]; omega
      | false =>
        have HST2 : Hid (T = actsR (row.take (k + 1)) set) := by
          have := HST.out
          unfold Hid
          rw [HT.out]
          simpa using this.symm
        have HO2 := Lib.hid (HO.out.alloc (.cells #[.int .i64 x, .int .i64 y, .int .i64 z] 48))
        go_wp2_with fail
        refine (HH.out _ BX.out).mono ?_
        rintro e w2 ⟨rfl, rfl⟩
        go_wp2_with fail
        go_roundw
        case rel => exact ⟨k + 1, len, _, T, by omega, by go_num, rfl, HO2.out, HST2.out, by omega, BX.out⟩
        case measure => simp [intOf]; omega
    · have HE : Hid (T = actsR row set) := by
        have := HT.out
        rw [List.take_of_length_le (by rw [HR.out.1]; omega)] at this
        exact this
      by_cases h0 : len = 0
      · subst h0
        obtain rfl : T = [] := List.length_eq_zero_iff.1 HO.out.length
        obtain ⟨av, cv, rfl⟩ := HO.out.form
        go_wp2_with fail
        refine (Tryz.slices_Compact_int_empty _ _ _).mono ?_
        rintro e w2 ⟨rfl, rfl⟩
        go_wp2_with fail
        go_ret
        obtain rfl : L = [] := by rw [HL.out, ← HE.out, compact_nil]
        exact ⟨_, rfl, HO.out, hnx⟩
      · have hv : ∀ u : Value, Owns wr w1.heap.size u len T → ¬ u = .slice none 0 0 := by
          rintro u hu rfl
          rcases hu.2 with ⟨_, e⟩ | ⟨_, _, _, e, _⟩
          · exact h0 e
          · cases e
        obtain ⟨g, c, rfl⟩ := HO.out.head (hv _ HO.out)
        clear hv
        go_wp2_with fail
        refine (compact_at g len c w1.heap.size T _ HO.out (by omega)).mono ?_
        rintro e w2 ⟨m2, hm2, rfl, ho2, hg2⟩
        have HO2 := Lib.hid ho2
        have HM2 := Lib.hid hm2
        have B2 : Hid (Below w1.heap.size w1 w2) := hnx.grown hg2 hnx.size (fun q hq => by cases hq; exact (HO.out.lt g rfl).1)
        clear ho2 hm2 hg2
        go_wp2_with fail
        go_ret
        obtain rfl : L = Lib.compact T := by rw [HL.out, ← HE.out]
        have e := HM2.out
        subst e
        exact ⟨_, rfl, HO2.out, B2.out⟩

end Go.Proofs.YtdbgjgeglgipiaaGreat

/-
  Contracts of Taken, Said, Done and After: the model's, and the program's first three. Conditions: the automaton's lists have at most 2^20 elements.
-/
namespace Go.Proofs.YtdbgjgeglgipiaaGreat
open Go.RowKit

theorem ofL_len (ss : List St) (s : Int) (set : List Int) : (ofL ss s set).length ≤ ss.length := by
  unfold ofL
  refine Nat.le_trans (putAll_len _ _) ?_
  rw [List.length_nil, Nat.zero_add, List.length_map]
  exact List.length_filter_le _ _

theorem afterL_len (ss : List St) (s act : Int) : (afterL ss s act).length ≤ ss.length := by
  unfold afterL
  refine Nat.le_trans (putAll_len _ _) ?_
  rw [List.length_nil, Nat.zero_add, List.length_map]
  exact List.length_filter_le _ _

theorem of_len (a : IaD) (s : Int) (set : List Int) (f5 : a.steps.length ≤ 1048576) : (if iaOkB a then ofL a.steps s set else []).length ≤ 4194304 := by
  have := ofL_len a.steps s set
  split
  · omega
  · simp

theorem after_len (a : IaD) (s act : Int) (f5 : a.steps.length ≤ 1048576) : (if iaOkB a then afterL a.steps s act else []).length ≤ 4194304 := by
  have := afterL_len a.steps s act
  split
  · omega
  · simp

end Go.Proofs.YtdbgjgeglgipiaaGreat
