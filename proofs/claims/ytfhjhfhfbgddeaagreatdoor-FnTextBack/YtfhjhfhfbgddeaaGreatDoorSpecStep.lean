import Derived.Test.YtfhjhfhfbgddeaaGreatDoorToStep
/-
  Contracts of the model's l02State and l02Cmp. Conditions: at least one and at most 40 states; the numbers of the steps are at most 2^40.
-/
namespace Go.Proofs.YtfhjhfhfbgddeaaGreatDoor
open Go.RowKit

set_option maxRecDepth 20000 in
set_option maxHeartbeats 400000 in
theorem state_any (st it s : Int) (v2 v3 v4 v5 : Value) (w : World) (h0 : 1 ≤ st) (h1 : st ≤ 40) :
    Calls Tryz.prog 21 #[.agg #[.int .i64 st, .int .i64 it, v2, v3, v4, v5], .int .i64 s] w fun e w' => e = .returned (.bool (btw s 0 (st - 1))) ∧ Below w.heap.size w w' := by
  have HB : Hid (∀ o, Below w.heap.size w (w.alloc o)) := fun o => (Below.refl _ _).alloc (Nat.le_refl _) _
  go_enter Tryz.func21, Tryz.ntmps21
  go_wp2_with fail
  refine (between_any s 0 (st - 1) _).mono ?_
  rintro e w1 ⟨rfl, rfl⟩
  go_wp2_with fail
  go_ret
  exact ⟨rfl, HB.out _⟩

set_option maxRecDepth 20000 in
set_option maxHeartbeats 800000 in
theorem cmp_any (x y z x' y' z' : Int) (w : World) (b0 : -1099511627776 ≤ x ∧ x ≤ 1099511627776) (b1 : -1099511627776 ≤ y ∧ y ≤ 1099511627776) (b2 : -1099511627776 ≤ z ∧ z ≤ 1099511627776)
    (d0 : -1099511627776 ≤ x' ∧ x' ≤ 1099511627776) (d1 : -1099511627776 ≤ y' ∧ y' ≤ 1099511627776) (d2 : -1099511627776 ≤ z' ∧ z' ≤ 1099511627776) :
    Calls Tryz.prog 25 #[.agg #[.int .i64 x, .int .i64 y, .int .i64 z], .agg #[.int .i64 x', .int .i64 y', .int .i64 z']] w fun e w' => e = .returned (.int .i64 (cmpOf (x, y, z) (x', y', z'))) ∧ Below w.heap.size w w' := by
  have HB : Hid (∀ o o', Below w.heap.size w ((w.alloc o).alloc o')) := fun o o' => ((Below.refl _ _).alloc (Nat.le_refl _) _).alloc (by simp) _
  obtain ⟨r, hr⟩ : ∃ r, r = cmpOf (x, y, z) (x', y', z') := ⟨_, rfl⟩
  rw [← hr]
  have HR := Lib.hid hr
  clear hr
  by_cases e1 : x = x'
  · by_cases e2 : y = y'
    · go_enter Tryz.func25, Tryz.ntmps25
      go_wp2
      go_ret
      exact ⟨ret_int (by rw [HR.out]; simp [cmpOf, e1, e2]; try go_num), HB.out _ _⟩
    · go_enter Tryz.func25, Tryz.ntmps25
      go_wp2
      go_ret
      exact ⟨ret_int (by rw [HR.out]; simp [cmpOf, e1, e2]; try go_num), HB.out _ _⟩
  · go_enter Tryz.func25, Tryz.ntmps25
    go_wp2
    go_ret
    exact ⟨ret_int (by rw [HR.out]; simp [cmpOf, e1]; try go_num), HB.out _ _⟩

end Go.Proofs.YtfhjhfhfbgddeaaGreatDoor

/-
  Contracts of the model's l02After and l02Of. Conditions: at most 2^21 steps, and numbers in the set.
-/
namespace Go.Proofs.YtfhjhfhfbgddeaaGreatDoor
open Go.RowKit

def afterL (ss : List St) (s act : Int) : List Int := putAll [] ((ss.filter fun x => decide (x.1 = s) && decide (x.2.1 = act)).map fun x => x.2.2)
def ofL (ss : List St) (s : Int) (set : List Int) : List Int := putAll [] ((ss.filter fun x => decide (x.1 = s) && hasB set x.2.1).map fun x => x.2.1)

theorem filterS_step (ss : List St) (p : St → Bool) (f : St → Int) (k : Nat) (hk : k < ss.length) :
    putAll [] (((ss.take (k + 1)).filter p).map f) = if p ss[k] then put (putAll [] (((ss.take k).filter p).map f)) (f ss[k]) else putAll [] (((ss.take k).filter p).map f) := by
  rw [List.take_succ_eq_append_getElem hk, List.filter_append, List.map_append]
  by_cases h : p ss[k] = true
  · simp [h, putAll]
  · simp [h]

set_option maxRecDepth 20000 in
set_option maxHeartbeats 3200000 in
theorem after_any (st it s act : Int) (v2 v3 v4 : Value) (a : Option Addr) (n c : Nat) (ss : List St) (w : World) (h : RowS w a n ss) (hn : n ≤ 2097152) :
    Calls Tryz.prog 67 #[.agg #[.int .i64 st, .int .i64 it, v2, v3, v4, .slice a n c], .int .i64 s, .int .i64 act] w (OwnRes w w.heap.size (afterL ss s act)) := by
  obtain ⟨hl, hc⟩ := h
  have HL := Lib.hid hl
  have HC := Lib.hid hc
  clear hl hc
  have V0 := Lib.hid (VarIs.new w #[.int .i64 st, .int .i64 it, v2, v3, v4, .slice a n c] 27 rfl)
  have B0 : Hid (∀ o, Below w.heap.size w (w.alloc o)) := fun o => (Below.refl _ _).alloc (Nat.le_refl _) _
  go_enter Tryz.func67, Tryz.ntmps67
  go_wp2
  go_loopw [7, 8] (fun out i wr => ∃ (k g c0 len : Nat) (L : List Int), k ≤ n ∧ i = .int .i64 k ∧ out = .slice (some ⟨g, 0, none⟩) len c0 ∧ Owns wr w.heap.size (.slice (some ⟨g, 0, none⟩) len c0) len L ∧ Hid (L = afterL (ss.take k) s act) ∧ len ≤ k ∧ Below w.heap.size w wr ∧ Hid (VarIs wr w.heap.size #[.int .i64 st, .int .i64 it, v2, v3, v4, .slice a n c] 27))
    (fun _ i _ => n - (intOf i).toNat)
  case atStart =>
    refine ⟨0, w.heap.size + 1, 0, 0, [], Nat.zero_le _, rfl, rfl, ?_, rfl, Nat.le_refl _, (B0.out _).alloc (by simp) _, V0.out.alloc _⟩
    have := (owns_lit (w.alloc (.cells #[.int .i64 st, .int .i64 it, v2, v3, v4, .slice a n c] 27)) [] 0 rfl (by unfold maxLen; omega)).mono (base := w.heap.size) (by simp)
    simpa using this
  case round =>
    obtain ⟨k, g, c0, len, L, hk, rfl, rfl, hown, HT, hlen, hnx, HV⟩ := hrel
    have kb := HV.out.cell (j := 5) rfl
    by_cases hlt : k < n
    · obtain ⟨b, off, rfl, hb, hcell⟩ := HC.out (by omega)
      have hkx : k < ss.length := by rw [HL.out]; exact hlt
      obtain ⟨⟨x, y, z⟩, hs⟩ : ∃ t, t = ss[k] := ⟨_, rfl⟩
      obtain ⟨k0, k1, k2⟩ := hcell k ss[k] (List.getElem?_eq_getElem hkx)
      rw [← hs] at k0 k1 k2
      replace k0 := (hnx.cell (p := ⟨b, off + k * 3, none⟩) hb).trans k0
      replace k1 := (hnx.cell (p := ⟨b, off + k * 3 + 1, none⟩) hb).trans k1
      replace k2 := (hnx.cell (p := ⟨b, off + k * 3 + 2, none⟩) hb).trans k2
      simp only at k0 k1 k2
      have HF : Hid (afterL (ss.take (k + 1)) s act = if (decide (x = s) && decide (y = act)) then put L z else L) := by
        unfold Hid
        rw [afterL, filterS_step ss _ _ k hkx, ← hs, HT.out]
        rfl
      clear hs hcell HT
      by_cases e1 : x = s
      · have he1 : (x == s) = true := by simp [e1]
        by_cases e2 : y = act
        · have he2 : (y == act) = true := by simp [e2]
          have HF2 : Hid (afterL (ss.take (k + 1)) s act = put L z) := by
            have := HF.out
            rwa [decide_eq_true e1, decide_eq_true e2] at this
          clear HF e1 e2
          go_wp2_with fail
          refine (put_any g len c0 z L w.heap.size _ hown (by omega) hnx.size).mono ?_
          rintro e w' ⟨g', c', rfl, ho, hb'⟩
          have hpl := put_len L z
          have hll := hown.length
          have hpl2 : (put L z).length ≤ k + 1 := by omega
          clear hpl hll
          have HV2 := Lib.hid (HV.out.below hb')
          go_wp2_with fail
          go_roundw
          case rel => exact ⟨k + 1, g', c', (put L z).length, put L z, by omega, by go_num, rfl, ho, HF2.out.symm, hpl2, hnx.trans (hb'.mono hnx.size), HV2.out⟩
          case measure => simp [intOf]; omega
        · have he2 : (y == act) = false := by simp [e2]
          have HF2 : Hid (afterL (ss.take (k + 1)) s act = L) := by
            have := HF.out
            rwa [decide_eq_false e2, Bool.and_false] at this
          clear HF e1 e2
          go_wp2_with fail
          go_roundw
          case rel => exact ⟨k + 1, g, c0, len, L, by omega, by go_num, rfl, hown, HF2.out.symm, by omega, hnx, HV.out⟩
          case measure => simp [intOf]; omega
      · have he1 : (x == s) = false := by simp [e1]
        have HF2 : Hid (afterL (ss.take (k + 1)) s act = L) := by
          have := HF.out
          rwa [decide_eq_false e1, Bool.false_and] at this
        clear HF e1
        go_wp2_with fail
        go_roundw
        case rel => exact ⟨k + 1, g, c0, len, L, by omega, by go_num, rfl, hown, HF2.out.symm, by omega, hnx, HV.out⟩
        case measure => simp [intOf]; omega
    · have HE : Hid (L = afterL ss s act) := by
        have := HT.out
        rw [List.take_of_length_le (by rw [HL.out]; omega)] at this
        exact this
      have hll := hown.length
      go_wp2_with fail
      go_ret
      subst hll
      rw [← HE.out]
      exact ⟨g, c0, rfl, hown, hnx⟩

end Go.Proofs.YtfhjhfhfbgddeaaGreatDoor
