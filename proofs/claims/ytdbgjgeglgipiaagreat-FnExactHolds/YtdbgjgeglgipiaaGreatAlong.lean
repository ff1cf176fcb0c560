/-
  The contract of the model's l02Along: what may be come to. Conditions: at most 2^20 steps, and numbers in the lists.
-/
import Derived.Test.YtdbgjgeglgipiaaGreatIaMath
import Derived.Test.YtdbgjgeglgipiaaGreatIaLaw
import Derived.Test.YtdbgjgeglgipiaaGreatSpecIaOk
namespace Go.Proofs.YtdbgjgeglgipiaaGreat
open Go.RowKit

/-- How long a slice is. -/
def lenOf : Value → Nat
  | .slice _ n _ => n
  | _ => 0

theorem lenOf_slice (a : Option Addr) (n c : Nat) : lenOf (.slice a n c) = n := rfl

theorem join_none (xs : List Int) : joinOf xs [] = putAll [] xs := rfl

set_option maxRecDepth 20000 in
set_option maxHeartbeats 6400000 in
theorem along_any (st it : Int) (v2 v3 v4 : Value) (a5 : Option Addr) (n5 c5 : Nat) (steps : List St) (fa : Option Addr) (fn fc : Nat) (from_ : List Int) (sa : Option Addr) (sn sc : Nat) (set : List Int) (w : World)
    (r5 : RowS w a5 n5 steps) (hn : n5 ≤ 1048576) (rf : Row w fa fn from_) (hfn : fn ≤ 1048576) (rs : Row w sa sn set) (hsn : sn ≤ 4194304) :
    Calls Tryz.prog 119 #[.agg #[.int .i64 st, .int .i64 it, v2, v3, v4, .slice a5 n5 c5], .slice fa fn fc, .slice sa sn sc] w (OwnRes w w.heap.size (alongOf set steps from_)) := by
  have HL5 := Lib.hid r5.1
  have HC5 := Lib.hid r5.2
  have HF := Lib.hid rf
  have HS := Lib.hid rs
  clear r5 rf rs
  obtain ⟨bd, hbd⟩ : ∃ b, b = from_.length + steps.length := ⟨_, rfl⟩
  have hbd2 : bd ≤ 2097152 := by
    have h1 := HF.out.1
    have h2 := HL5.out
    omega
  have HBD := Lib.hid hbd
  clear hbd
  have B0 : Hid (∀ o, Below w.heap.size w (w.alloc o)) := fun o => (Below.refl _ _).alloc (Nat.le_refl _) _
  have V0 := Lib.hid (VarIs.new w #[.int .i64 st, .int .i64 it, v2, v3, v4, .slice a5 n5 c5] 31 rfl)
  go_enter Tryz.func119, Tryz.ntmps119
  go_wp2_with fail
  refine (specSetJoin_any fa none fn fc 0 0 from_ [] _ (HF.out.below (B0.out _)) ⟨rfl, fun h => absurd h (by omega)⟩ (by omega) (by omega)).mono ?_
  rw [join_none]
  rintro e w1 ⟨g1, c1, rfl, ho, hb⟩
  have B1 : Hid (Below w.heap.size w w1) := (B0.out _).trans (hb.mono (B0.out _).size)
  have V1 := Lib.hid (V0.out.below hb)
  have O1 := Lib.hid (ho.mono (B0.out _).size)
  clear ho hb B0 V0
  go_wp2_with fail
  go_loopw [7] (fun out wr => ∃ (g c0 len : Nat) (O : List Int), out = .slice (some ⟨g, 0, none⟩) len c0 ∧ Hid (Owns wr w.heap.size (.slice (some ⟨g, 0, none⟩) len c0) len O) ∧ len ≤ bd ∧ Hid (O.Pairwise (· < ·) ∧ (∀ x ∈ from_, x ∈ O) ∧ ∀ y ∈ O, Come set steps from_ y) ∧ Below w.heap.size w wr ∧ Hid (VarIs wr w.heap.size #[.int .i64 st, .int .i64 it, v2, v3, v4, .slice a5 n5 c5] 31)) (fun out _ => bd - lenOf out)
  case atStart =>
    refine ⟨g1, c1, (putAll [] from_).length, putAll [] from_, rfl, O1.out, ?_, ?_, B1.out, V1.out⟩
    · have := putAll_len from_ []
      rw [HBD.out]
      simp only [List.length_nil, Nat.zero_add] at this
      omega
    · exact ⟨putAll_rises List.Pairwise.nil, fun x hx => mem_putAll.2 (Or.inr hx), fun y hy => by
        rcases mem_putAll.1 hy with hy | hy
        · simp at hy
        · exact .start y hy⟩
  case round =>
    obtain ⟨g, c0, len, O, rfl, HO, hlen, HI, hnx, HV⟩ := hrel
    clear B1 V1 O1
    go_wp2_with fail
    go_loopw [7, 9] (fun out i wr2 => ∃ (k g2 c2 len2 : Nat) (O2 : List Int), k ≤ n5 ∧ i = .int .i64 k ∧ out = .slice (some ⟨g2, 0, none⟩) len2 c2 ∧ Hid (Owns wr2 w.heap.size (.slice (some ⟨g2, 0, none⟩) len2 c2) len2 O2) ∧ Hid (O2 = passOf set (steps.take k) O) ∧ Below w.heap.size w wr2 ∧ Hid (VarIs wr2 w.heap.size #[.int .i64 st, .int .i64 it, v2, v3, v4, .slice a5 n5 c5] 31)) (fun _ i _ => n5 - (intOf i).toNat)
    case atStart => exact ⟨0, g, c0, len, O, Nat.zero_le _, rfl, rfl, HO.out, rfl, hnx, HV.out⟩
    case round =>
      obtain ⟨k, g2, c2, len2, O2, hk, rfl, rfl, HO2, HT, hnx2, HV2⟩ := hrel
      have hlen2 : len2 ≤ bd := by
        have h1 := passOf_rises (set := set) (ss := steps.take k) HI.out.1
        have h2 := passOf_come (set := set) (ss := steps.take k) (ss' := steps) (L := from_) (fun s hs => List.mem_of_mem_take hs) HI.out.2.2
        have h3 := come_bound h1 h2
        rw [← HT.out, HO2.out.length, ← HBD.out] at h3
        exact h3
      have kb := HV2.out.cell (j := 5) rfl
      by_cases hlt : k < n5
      · obtain ⟨b, off, rfl, hb, hcell⟩ := HC5.out (by omega)
        have hkx : k < steps.length := by rw [HL5.out]; exact hlt
        obtain ⟨⟨x, y, z⟩, hs⟩ : ∃ t, t = steps[k] := ⟨_, rfl⟩
        obtain ⟨d0, d1, d2⟩ := hcell k steps[k] (List.getElem?_eq_getElem hkx)
        rw [← hs] at d0 d1 d2
        have e0 := (hnx2.cell (p := ⟨b, off + k * 3, none⟩) hb).trans d0
        have e1 := (hnx2.cell (p := ⟨b, off + k * 3 + 1, none⟩) hb).trans d1
        have e2 := (hnx2.cell (p := ⟨b, off + k * 3 + 2, none⟩) hb).trans d2
        simp only at e0 e1 e2
        obtain ⟨q1, hq1⟩ : ∃ q, q = hasB set y := ⟨_, rfl⟩
        obtain ⟨q2, hq2⟩ : ∃ q, q = hasB O2 x := ⟨_, rfl⟩
        have HP : Hid (passOf set (steps.take (k + 1)) O = if q1 && q2 then put O2 z else O2) := by
          unfold Hid
          rw [List.take_succ_eq_append_getElem hkx, ← hs, passOf_snoc, ← HT.out, hq1, hq2]
        have C1 : Hid (∀ W, Below w.heap.size w W → Calls Tryz.prog 20 #[.slice sa sn sc, .int .i64 y] W fun e w' => e = .returned (.bool q1) ∧ W = w') := fun W hW => by rw [hq1]; exact (specSetHas_any sa sn sc y set W (HS.out.below hW) (by omega)).mono fun _ _ h => ⟨h.1, h.2.symm⟩
        have C2 : Hid (Calls Tryz.prog 20 #[.slice (some ⟨g2, 0, none⟩) len2 c2, .int .i64 x] wr fun e w' => e = .returned (.bool q2) ∧ wr = w') := by unfold Hid; rw [hq2]; exact (specSetHas_any _ len2 c2 x O2 _ HO2.out.row.2.2.2 (by omega)).mono fun _ _ h => ⟨h.1, h.2.symm⟩
        clear hq1 hq2 d0 d1 d2 hs hcell HT
        cases q1 with
        | false =>
          have HP2 : Hid (O2 = passOf set (steps.take (k + 1)) O) := HP.out.symm
          go_wp2_with fail
          refine (C1.out _ hnx2).mono ?_
          rintro e w3 ⟨rfl, rfl⟩
          go_wp2_with fail
          go_roundw
          case rel => exact ⟨k + 1, g2, c2, len2, O2, by omega, by go_num, rfl, HO2.out, HP2.out, hnx2, HV2.out⟩
          case measure => simp [intOf]; omega
        | true =>
          cases q2 with
          | false =>
            have HP2 : Hid (O2 = passOf set (steps.take (k + 1)) O) := HP.out.symm
            go_wp2_with fail
            refine (C1.out _ hnx2).mono ?_
            rintro e w3 ⟨rfl, rfl⟩
            go_wp2_with fail
            refine C2.out.mono ?_
            rintro e w3 ⟨rfl, rfl⟩
            go_wp2_with fail
            go_roundw
            case rel => exact ⟨k + 1, g2, c2, len2, O2, by omega, by go_num, rfl, HO2.out, HP2.out, hnx2, HV2.out⟩
            case measure => simp [intOf]; omega
          | true =>
            have HP2 : Hid (put O2 z = passOf set (steps.take (k + 1)) O) := HP.out.symm
            go_wp2_with fail
            refine (C1.out _ hnx2).mono ?_
            rintro e w3 ⟨rfl, rfl⟩
            go_wp2_with fail
            refine C2.out.mono ?_
            rintro e w3 ⟨rfl, rfl⟩
            go_wp2_with fail
            refine (put_any g2 len2 c2 z O2 w.heap.size _ HO2.out (by omega) hnx2.size).mono ?_
            rintro e w3 ⟨g3, c3, rfl, ho, hb3⟩
            have HO3 := Lib.hid ho
            have B3 : Hid (Below w.heap.size w w3) := hnx2.trans (hb3.mono hnx2.size)
            have HV3 := Lib.hid (HV2.out.below hb3)
            clear ho hb3
            go_wp2_with fail
            go_roundw
            case rel => exact ⟨k + 1, g3, c3, _, put O2 z, by omega, by go_num, rfl, HO3.out, HP2.out, B3.out, HV3.out⟩
            case measure => simp [intOf]; omega
      · have HE : Hid (O2 = passOf set steps O) := by
          have := HT.out
          rw [List.take_of_length_le (by rw [HL5.out]; omega)] at this
          exact this
        have hge : len ≤ len2 := by
          have := passOf_len (set := set) (ss := steps) HI.out.1
          rw [← HE.out, HO2.out.length, HO.out.length] at this
          exact this
        have HI2 : Hid (O2.Pairwise (· < ·) ∧ (∀ x ∈ from_, x ∈ O2) ∧ ∀ y ∈ O2, Come set steps from_ y) := by
          rw [HE.out]
          exact ⟨passOf_rises HI.out.1, fun x hx => mem_passOf (HI.out.2.1 x hx), passOf_come (fun _ h => h) HI.out.2.2⟩
        by_cases heq : len2 = len
        · have HR : Hid (O2 = alongOf set steps from_) := by
            have hl : (passOf set steps O).length = O.length := by rw [← HE.out, HO2.out.length, HO.out.length, heq]
            rw [HE.out, passOf_done HI.out.1 hl]
            exact along_eq HI.out.1 (pass_end HI.out.1 HI.out.2.1 HI.out.2.2 hl)
          have hd : ((len2 : Int) == (len : Int)) = true := by simp [heq]
          clear heq
          go_wp2_with fail
          go_ret
          have e := HO2.out.length
          rw [← HR.out]
          subst e
          exact ⟨_, _, rfl, HO2.out, hnx2⟩
        · have hd : ((len2 : Int) == (len : Int)) = false := by simp; omega
          go_wp2_with fail
          go_roundw
          case rel => exact ⟨g2, c2, len2, O2, rfl, HO2.out, hlen2, HI2.out, hnx2, HV2.out⟩
          case measure => simp [lenOf_slice]; omega

end Go.Proofs.YtdbgjgeglgipiaaGreat
