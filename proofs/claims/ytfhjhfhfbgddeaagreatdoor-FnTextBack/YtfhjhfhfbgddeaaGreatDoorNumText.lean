/-
  The contract of the model's NumText: it answers the decimal digits of every int. Conditions: the number is one that an int holds.
-/
import Derived.Test.YtfhjhfhfbgddeaaGreatDoorBytes
import Derived.Test.YtfhjhfhfbgddeaaGreatDoorDraw
import Derived.Test.YtfhjhfhfbgddeaaGreatDoorBtw
import Derived.Lib.ItoaNum
namespace Go.Proofs.YtfhjhfhfbgddeaaGreatDoor
open Go.RowKit

theorem info_byte : (Tryz.prog.info? 5).map (fun i => (i.zero, i.size, i.bytes)) = some (some (.int .u8 0), 1, 1) := by kernel_rfl

/-- The sign of a digit. -/
def dg8 (k : Nat) : UInt8 := UInt8.ofNat (48 + k)

/-- 'v' is left to be written, 'D' stands already. -/
def Written (u v : Nat) (D : List UInt8) : Prop := (0 < v → Lib.decDigits u = Lib.decDigits v ++ D) ∧ (v = 0 → Lib.decDigits u = D)

theorem written_start {u : Nat} (h : 0 < u) : Written u u [] := ⟨fun _ => by simp, fun e => by omega⟩
theorem written_step {u v : Nat} {D : List UInt8} (h : Written u v D) (hv : 0 < v) : Written u (v / 10) (dg8 (v % 10) :: D) := by
  have h1 := h.1 hv
  by_cases h10 : v < 10
  · refine ⟨fun hh => by omega, fun _ => ?_⟩
    rw [h1, Lib.decDigits, dif_pos h10, Nat.mod_eq_of_lt h10]; rfl
  · refine ⟨fun _ => ?_, fun hh => by omega⟩
    rw [h1, Lib.decDigits, dif_neg h10, List.append_assoc]; rfl
theorem digits_len {u : Nat} (h : 1 ≤ u) (h2 : u < 18446744073709551616) : (Lib.decDigits u).length ≤ 20 := by
  rw [Lib.decDigits_length]
  obtain ⟨h3, h4⟩ := Lib.numDigits_eq u h h2
  rw [← h3]
  split <;> omega
theorem written_len {u v : Nat} {D : List UInt8} (h : Written u v D) (hu : 1 ≤ u) (h2 : u < 18446744073709551616) : D.length ≤ 20 := by
  have h3 := digits_len hu h2
  by_cases hv : 0 < v
  · rw [h.1 hv, List.length_append] at h3; omega
  · rw [h.2 (by omega)] at h3; exact h3

theorem digit_cell (k : Nat) (hk : k < 10) : Value.int .u8 (48 + (k : Int)) = Value.int .u8 ((dg8 k).toNat : Int) := by
  congr 1
  simp only [dg8]
  simp only [UInt8.toNat_ofNat']
  omega

theorem tmod_neg (v : Nat) : (-(v : Int)).tmod 10 = -((v % 10 : Nat) : Int) := by
  rw [Int.neg_tmod, Int.tmod_eq_emod_of_nonneg (by omega)]; omega
theorem tdiv_neg (v : Nat) : (-(v : Int)).tdiv 10 = -((v / 10 : Nat) : Int) := by
  rw [Int.neg_tdiv, Int.tdiv_eq_ediv_of_nonneg (by omega)]; omega

theorem wrap_div {u v : Nat} (h : u ≤ 9223372036854775808) (hv : v ≤ u) : wrap64 ((v : Int) / 10) = (v : Int) / 10 := IntWalk.wrap64_in _ ⟨by omega, by omega⟩
theorem wrap_neg {u v : Nat} (h : u ≤ 9223372036854775808) (hv : v ≤ u) : wrap64 (-((v : Int) / 10)) = -((v : Int) / 10) := IntWalk.wrap64_in _ ⟨by omega, by omega⟩

theorem own_digit (w : World) (x : Int) (k : Nat) (hx : x = 48 + (k : Int)) (hk : k < 10) : OwnsB (w.alloc (.cells #[.int .u8 x] 5)) w.heap.size (.slice (some ⟨w.heap.size, 0, none⟩) 1 1) 1 [dg8 k] := by
  have := ownsB_lit w [dg8 k] 1 rfl (by unfold maxLen; omega)
  rw [hx, digit_cell k hk]
  exact this
theorem own_minus (w : World) : OwnsB (w.alloc (.cells #[.int .u8 45] 5)) w.heap.size (.slice (some ⟨w.heap.size, 0, none⟩) 1 1) 1 [45] :=
  ownsB_lit w [45] 1 rfl (by unfold maxLen; omega)

/-- The relation of the loop: 'v' is left, 'D' stands in a row of the call's own. -/
def TextRel (u : Nat) (w : World) (v : Nat) (out : Value) (wr : World) : Prop :=
  ∃ (len c g : Nat) (D : List UInt8), out = .slice (some ⟨g, 0, none⟩) len c ∧ OwnsB wr w.heap.size (.slice (some ⟨g, 0, none⟩) len c) len D ∧ Written u v D ∧ len ≤ 20 ∧ v ≤ u ∧ Below w.heap.size w wr

theorem textRel_step {u v : Nat} {w wr w2 : World} {len : Nat} {D : List UInt8} {v2 : Value} {x : Int} (hu : 1 ≤ u) (h2 : u < 18446744073709551616) (hv : 0 < v) (hx : x = 48 + ((v % 10 : Nat) : Int)) (hW : Written u v D) (hvu : v ≤ u) (hnx : Below w.heap.size w wr)
    (h : AppResB (wr.alloc (.cells #[.int .u8 x] 5)) w2 wr.heap.size (.slice (some ⟨wr.heap.size, 0, none⟩) 1 1) v2 1 len [dg8 (v % 10)] D) : TextRel u w (v / 10) v2 w2 := by
  obtain ⟨hown, hg, hnil⟩ := h
  have hW2 := written_step hW hv
  have hl := written_len hW2 hu h2
  have hnn : ¬ v2 = .slice none 0 0 := fun e => by have := (hnil.1 e).1; simp at this
  obtain ⟨g2, c2, rfl⟩ := hown.head hnn
  have hll := hown.length
  refine ⟨1 + len, c2, g2, _, rfl, hown.mono hnx.size, hW2, by simp at hll hl; omega, by omega, ?_⟩
  exact (own_digit wr x (v % 10) hx (Nat.mod_lt _ (by omega))).grown (hnx.alloc hnx.size _) hg hnx.size (by have := hnx.size; simp; omega)

theorem wrap_div' {u v : Nat} {x : Int} (h : u ≤ 9223372036854775808) (hv : v ≤ u) (hx : x = (v : Int)) : wrap64 (x.tdiv 10) = x / 10 := by
  rw [Int.tdiv_eq_ediv_of_nonneg (by omega)]; exact IntWalk.wrap64_in _ ⟨by omega, by omega⟩
theorem div_less {x : Int} (h : 0 < x) : (x / 10).toNat < x.toNat := by omega

set_option maxRecDepth 20000 in
set_option maxHeartbeats 1600000 in
theorem specNumText_pos (n : Int) (u : Nat) (w : World) (hn : 0 < n) (HN : Hid (n = (u : Int))) (h2 : Hid (u ≤ 9223372036854775808)) :
    Calls Tryz.prog 42 #[.int .i64 n] w fun e w' => e = .returned (.string ⟨(Lib.decDigits u).toArray⟩) ∧ Below w.heap.size w w' := by
  obtain ⟨i0, hi, hz0, hz1, hz2⟩ := info_parts info_byte
  have hu0 : (n == 0) = false := by simp; omega
  have HU : Hid (0 < u) := by have := HN.out; unfold Hid; omega
  go_enter Tryz.func42, Tryz.ntmps42
  go_wp2
  go_loopw [3, 4] (fun out m wr => ∃ (x : Int) (v : Nat), m = .int .i64 x ∧ 0 ≤ x ∧ Hid (x = (v : Int)) ∧ TextRel u w v out wr) (fun _ m _ => (intOf m).toNat)
  case atStart => exact ⟨n, u, rfl, by omega, HN, 0, 0, w.heap.size, [], rfl, ownsB_lit w [] 0 rfl (by unfold maxLen; omega), written_start HU.out, by omega, Nat.le_refl _, (Below.refl _ w).alloc (Nat.le_refl _) _⟩
  case round =>
    obtain ⟨x, v, rfl, hx0, HV, len, c, g, D, rfl, hown, hW, hlen, hvu, hnx⟩ := hrel
    have HW := Lib.hid hW
    have HO := Lib.hid hown
    have HVU := Lib.hid hvu
    clear hW hown hvu
    by_cases hx : 0 < x
    · have hxn : (x != 0) = true := by simp; omega
      have HWR : Hid (wrap64 (x.tdiv 10) = x / 10) := wrap_div' h2.out HVU.out HV.out
      have HX : Hid ((48 + x % 10) = 48 + ((v % 10 : Nat) : Int)) := by have := HV.out; unfold Hid; omega
      have HT := Lib.hid (own_digit wr (48 + x % 10) (v % 10) HX.out (Nat.mod_lt _ (by omega)))
      have HVP : Hid (0 < v) := by have := HV.out; unfold Hid; omega
      have HVD : Hid (x / 10 = ((v / 10 : Nat) : Int)) := by have := HV.out; unfold Hid; omega
      go_wp2_with (at_builtin; refine wpList_appB rfl (.tmp 23) (.tmp 24) rfl wr.heap.size i0 Tryz.underlying22 hi hz0 hz1 hz2 _ _ _ rfl HT.out _ len _ D rfl HO.out.length (HO.out.alloc _).cells (by omega) (by simp) ?_)
      rintro v2 w2 hres
      have HR := Lib.hid (textRel_step HU.out (Nat.lt_of_le_of_lt h2.out (by decide)) HVP.out HX.out HW.out HVU.out hnx hres)
      clear hres
      go_wp2_with fail
      go_roundw
      case rel => exact ⟨x / 10, v / 10, by rw [HWR.out], by omega, HVD, HR.out⟩
      case measure => simp only [intOf]; rw [HWR.out]; exact div_less hx
    · obtain rfl : x = 0 := by omega
      have HV0 : Hid (v = 0) := by have := HV.out; unfold Hid; omega
      have hcv := HO.out.text Tryz.underlying22 Tryz.underlying5 Tryz.underlying9
      go_wp2_with fail
      go_ret
      exact ⟨by rw [HW.out.2 HV0.out]; rfl, hnx⟩

set_option maxRecDepth 20000 in
set_option maxHeartbeats 1600000 in
theorem specNumText_neg (u : Nat) (w : World) (hu : 0 < u) (h2 : Hid (u ≤ 9223372036854775808)) :
    Calls Tryz.prog 42 #[.int .i64 (-(u : Int))] w fun e w' => e = .returned (.string ⟨(45 :: Lib.decDigits u).toArray⟩) ∧ Below w.heap.size w w' := by
  obtain ⟨i0, hi, hz0, hz1, hz2⟩ := info_parts info_byte
  have hu0 : (-(u : Int) == 0) = false := by simp; omega
  go_enter Tryz.func42, Tryz.ntmps42
  go_wp2
  go_loopw [3, 4] (fun out m wr => ∃ v : Nat, m = .int .i64 (-(v : Int)) ∧ TextRel u w v out wr) (fun _ m _ => (intOf m).natAbs)
  case atStart => exact ⟨u, rfl, 0, 0, w.heap.size, [], rfl, ownsB_lit w [] 0 rfl (by unfold maxLen; omega), written_start hu, by omega, Nat.le_refl _, (Below.refl _ w).alloc (Nat.le_refl _) _⟩
  case round =>
    obtain ⟨v, rfl, len, c, g, D, rfl, hown, hW, hlen, hvu, hnx⟩ := hrel
    have HW := Lib.hid hW
    have HO := Lib.hid hown
    clear hW hown
    by_cases hv : 0 < v
    · have hv0 : (-(v : Int) != 0) = true := by simp; omega
      have hwr : wrap64 (-((v : Int) / 10)) = -((v : Int) / 10) := wrap_neg h2.out hvu
      by_cases hz : 0 < (v : Int) % 10
      · have HX2 : Hid ((48 + (v : Int) % 10) = 48 + ((v % 10 : Nat) : Int)) := by unfold Hid; omega
        have T0 := own_digit wr (48 + (v : Int) % 10) (v % 10) HX2.out (Nat.mod_lt _ (by omega))
        have HT := Lib.hid T0
        clear T0
        go_wp2_with (at_builtin; refine wpList_appB rfl (.tmp 23) (.tmp 24) rfl wr.heap.size i0 Tryz.underlying22 hi hz0 hz1 hz2 _ _ _ rfl HT.out _ len _ D rfl HO.out.length (HO.out.alloc _).cells (by omega) (by simp) ?_)
        rintro v2 w2 hres
        have HR := Lib.hid (textRel_step hu (Nat.lt_of_le_of_lt h2.out (by decide)) hv HX2.out HW.out hvu hnx hres)
        clear hres
        go_wp2_with fail
        go_roundw
        case rel => exact ⟨v / 10, by go_num, HR.out⟩
        case measure => simp [intOf]; omega
      · have HX2 : Hid ((48 + -((v : Int) % 10)) = 48 + ((v % 10 : Nat) : Int)) := by unfold Hid; omega
        have T0 := own_digit wr (48 + -((v : Int) % 10)) (v % 10) HX2.out (Nat.mod_lt _ (by omega))
        have HT := Lib.hid T0
        clear T0
        go_wp2_with (at_builtin; refine wpList_appB rfl (.tmp 23) (.tmp 24) rfl wr.heap.size i0 Tryz.underlying22 hi hz0 hz1 hz2 _ _ _ rfl HT.out _ len _ D rfl HO.out.length (HO.out.alloc _).cells (by omega) (by simp) ?_)
        rintro v2 w2 hres
        have HR := Lib.hid (textRel_step hu (Nat.lt_of_le_of_lt h2.out (by decide)) hv HX2.out HW.out hvu hnx hres)
        clear hres
        go_wp2_with fail
        go_roundw
        case rel => exact ⟨v / 10, by go_num, HR.out⟩
        case measure => simp [intOf]; omega
    · obtain rfl : v = 0 := by omega
      have T0 := own_minus wr
      have HT := Lib.hid T0
      clear T0
      go_wp2_with (at_builtin; refine wpList_appB rfl (.tmp 28) (.tmp 29) rfl wr.heap.size i0 Tryz.underlying22 hi hz0 hz1 hz2 _ _ _ rfl HT.out _ len _ D rfl HO.out.length (HO.out.alloc _).cells (by omega) (by simp) ?_)
      rintro v2 w2 ⟨hown2, hg2, hnil2⟩
      have hnn : ¬ v2 = .slice none 0 0 := fun e => by have := (hnil2.1 e).1; simp at this
      obtain ⟨g2, c2, hv2⟩ := hown2.head hnn
      have hb2 := HT.out.grown (hnx.alloc hnx.size _) hg2 hnx.size (by have := hnx.size; simp; omega)
      rw [hv2] at hown2 ⊢
      have hcv := hown2.text Tryz.underlying22 Tryz.underlying5 Tryz.underlying9
      clear hnil2 hnn hv2 hg2 hown2
      go_wp2_with fail
      go_ret
      exact ⟨by rw [HW.out.2 rfl]; rfl, hb2⟩

theorem specNumText_any (n : Int) (w : World) (h : InI64 n) :
    Calls Tryz.prog 42 #[.int .i64 n] w fun e w' => e = .returned (.string ⟨(Lib.itoa n).toArray⟩) ∧ Below w.heap.size w w' := by
  unfold InI64 at h
  by_cases h0 : n = 0
  · subst h0
    have e : Lib.itoa 0 = [48] := by unfold Lib.itoa; rw [if_neg (by omega), Lib.decDigits]; rfl
    rw [e]
    clear h e
    go_enter Tryz.func42, Tryz.ntmps42
    go_wp2
    go_ret
    exact ⟨rfl, Below.refl _ _⟩
  · by_cases hneg : n < 0
    · obtain ⟨u, rfl⟩ : ∃ u : Nat, n = -(u : Int) := ⟨n.natAbs, by omega⟩
      have e : Lib.itoa (-(u : Int)) = 45 :: Lib.decDigits u := by
        unfold Lib.itoa; rw [if_pos hneg]; congr 2; omega
      rw [e]
      exact specNumText_neg u w (by omega) (by unfold Hid; omega)
    · obtain ⟨u, rfl⟩ : ∃ u : Nat, n = (u : Int) := ⟨n.toNat, by omega⟩
      have e : Lib.itoa (u : Int) = Lib.decDigits u := by
        unfold Lib.itoa; rw [if_neg hneg]; rfl
      rw [e]
      exact specNumText_pos (u : Int) u w (by omega) rfl (by unfold Hid; omega)

end Go.Proofs.YtfhjhfhfbgddeaaGreatDoor
