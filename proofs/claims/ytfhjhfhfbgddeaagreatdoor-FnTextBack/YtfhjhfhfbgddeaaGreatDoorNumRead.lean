/-
  The contracts of NumText and NumRead of the program, and of NumRead of the model. Conditions: the variables of strconv hold what the program's text lays in them; texts of at most 2^20 bytes.
-/
import Derived.Test.YtfhjhfhfbgddeaaGreatDoorNumMath
import Derived.Test.YtfhjhfhfbgddeaaGreatDoorShelf
import Derived.Lib.LaidTab
import Derived.Lib.AtoiErrMem
namespace Go.Proofs.YtfhjhfhfbgddeaaGreatDoor
open Go.RowKit

theorem var_keeps {P : Program} {w w' : World} {n : String} {cs : Array Value} (hb : Below w.heap.size w w') (hv : w.var? P n = some cs) : w'.var? P n = some cs := by
  unfold World.var? at hv ⊢
  cases hg : P.globalNamed n with
  | none => rw [hg] at hv; cases hv
  | some g =>
    rw [hg] at hv
    simp only [Option.bind_some] at hv ⊢
    have hlt : g < w.heap.size := by
      by_cases h : g < w.heap.size
      · exact h
      · rw [Array.getElem?_eq_none (by omega)] at hv; cases hv
    rw [hb.block g hlt]
    exact hv

/-- The table of powers of ten lies as the program's text lays it. -/
def Tab (w : World) : Prop := Lib.TabIs Tryz.prog w "internal/strconv.uint64pow10" .u64 Lib.pow10Tab
/-- The two errors of strconv are errors. -/
def Errs (w : World) : Prop := (∃ tp p, w.var? Tryz.prog "strconv.ErrSyntax" = some #[.iface tp p]) ∧ (∃ tp p, w.var? Tryz.prog "strconv.ErrRange" = some #[.iface tp p])

theorem Tab.below {w w' : World} (h : Tab w) (hb : Below w.heap.size w w') : Tab w' := var_keeps hb h
theorem Errs.below {w w' : World} (h : Errs w) (hb : Below w.heap.size w w') : Errs w' := by
  obtain ⟨⟨t1, p1, h1⟩, ⟨t2, p2, h2⟩⟩ := h
  exact ⟨⟨t1, p1, var_keeps hb h1⟩, ⟨t2, p2, var_keeps hb h2⟩⟩

theorem below_grow (w : World) (k : Nat) (os : Array Obj) : Below w.heap.size w (Sort.grow (w.drewN k) os) :=
  ⟨rfl, rfl, rfl, by rw [Sort.size_grow]; exact Nat.le_add_right _ _, fun i hi => Sort.heap_grow_old (w.drewN k) os hi⟩

theorem implNumText_any (n : Int) (w : World) (h : InI64 n) (ht : Tab w) :
    Calls Tryz.prog 41 #[.int .i64 n] w fun e w' => e = .returned (.string ⟨(Lib.itoa n).toArray⟩) ∧ Below w.heap.size w w' := by
  have H := Lib.hid h
  have HT := Lib.hid ht
  clear h ht
  go_enter Tryz.func41, Tryz.ntmps41
  go_wp2_with fail
  refine (Tryz.strconv_Itoa n H.out.1 H.out.2 _ HT.out).mono ?_
  rintro e w' ⟨rfl, k, os, hw⟩
  have hb : Below w.heap.size w w' := by rw [hw]; exact below_grow _ _ _
  clear hw
  go_wp2_with fail
  go_ret
  exact ⟨rfl, hb⟩

/-- A number and whether it is one come back. -/
def ReadRes (w : World) (l : List UInt8) (e : Ending) (w' : World) : Prop :=
  ∃ n b, e = .returned (.tuple #[.int .i64 n, .bool b]) ∧ ReadsAs l n b ∧ Below w.heap.size w w'

set_option maxRecDepth 20000 in
set_option maxHeartbeats 1600000 in
theorem implNumRead_any (s : ByteArray) (w : World) (hs : s.size ≤ 1048576) (ht : Tab w) (he : Errs w) :
    Calls Tryz.prog 85 #[.string s] w (ReadRes w s.data.toList) := by
  have HT := Lib.hid ht
  have HE := Lib.hid he
  clear ht he
  cases hA : Lib.atoiAll s.data.toList with
  | ok v =>
    have HA := Lib.hid hA
    clear hA
    go_enter Tryz.func85, Tryz.ntmps85
    go_wp2_with fail
    refine (Tryz.strconv_Atoi_ok s (by omega) v HA.out _).mono ?_
    rintro e w1 ⟨rfl, hw⟩
    have hb1 : Below w.heap.size w w1 := by
      rcases hw with rfl | ⟨t, rfl⟩
      · exact Below.refl _ _
      · exact Lib.bytesWorld_below _ _ _
    clear hw
    have HT1 := Lib.hid (HT.out.below hb1)
    by_cases h0 : 0 ≤ v
    · by_cases h1 : v ≤ 999999
      · go_wp2_with fail
        refine (implNumText_any v _ ⟨by omega, by omega⟩ HT1.out).mono ?_
        rintro e w2 ⟨rfl, hb2⟩
        have hb12 := hb1.trans (hb2.mono hb1.size)
        clear hb2
        by_cases h2 : Lib.itoa v = s.data.toList
        · have H2 := Lib.hid h2
          go_wp2_with fail
          go_ret2
          exact ⟨v, true, rfl, reads_ok h0 h1 H2.out, hb12⟩
        · have H2 := Lib.hid h2
          have h3 : (Lib.itoa v == s.toList) = false := by rw [ByteArray.toList_eq]; simpa using h2
          clear h2
          go_wp2_with fail
          go_ret2
          exact ⟨0, false, rfl, reads_bad HA.out (fun h => H2.out h.2.2), hb12⟩
      · go_wp2_with fail
        go_ret2
        exact ⟨0, false, rfl, reads_bad HA.out (by omega), hb1⟩
    · go_wp2_with fail
      go_ret2
      exact ⟨0, false, rfl, reads_bad HA.out (by omega), hb1⟩
  | «syntax» =>
    obtain ⟨tp, p, hv⟩ := HE.out.1
    have HA := Lib.hid hA
    have HV := Lib.hid hv
    clear hA hv
    go_enter Tryz.func85, Tryz.ntmps85
    go_wp2_with fail
    refine (Tryz.strconv_Atoi_syntax_var s (by omega) HA.out tp p _ HV.out).mono ?_
    rintro e w1 ⟨N, rfl, _, _, hb1⟩
    go_wp2_with fail
    go_ret2
    exact ⟨0, false, rfl, reads_err (fun v h => by rw [HA.out] at h; cases h), hb1⟩
  | range =>
    obtain ⟨tp, p, hv⟩ := HE.out.2
    have HA := Lib.hid hA
    have HV := Lib.hid hv
    clear hA hv
    go_enter Tryz.func85, Tryz.ntmps85
    go_wp2_with fail
    refine (Tryz.strconv_Atoi_range_var s (by omega) HA.out tp p _ HV.out).mono ?_
    rintro e w1 ⟨N, rfl, _, _, hb1⟩
    generalize Lib.atoiSat s.data.toList = z
    go_wp2_with fail
    go_ret2
    exact ⟨0, false, rfl, reads_err (fun v h => by rw [HA.out] at h; cases h), hb1⟩

theorem val_step (s : ByteArray) (k : Nat) (h : k < s.size) : valFrom 0 (s.data.toList.take (k + 1)) = 10 * valFrom 0 (s.data.toList.take k) + (s[k].toNat - 48) := by
  rw [List.take_succ_eq_append_getElem (by simpa using h), valFrom_append]; rfl

theorem digits_step {s : ByteArray} {k : Nat} (h : k < s.size) (hd : ∀ c ∈ s.data.toList.take k, isDigit c) (hc : isDigit s[k]) : ∀ c ∈ s.data.toList.take (k + 1), isDigit c := by
  rw [List.take_succ_eq_append_getElem (by simpa using h)]
  intro c hm
  rcases List.mem_append.1 hm with hm | hm
  · exact hd c hm
  · obtain rfl := List.mem_singleton.1 hm
    exact hc

theorem at_mem (s : ByteArray) (k : Nat) (h : k < s.size) : s[k] ∈ s.data.toList := by
  have : s[k] = s.data.toList[k]'(by simpa using h) := rfl
  rw [this]; exact List.getElem_mem _

theorem pow_mono {k : Nat} (h : k ≤ 6) : (10 : Nat) ^ k ≤ 1000000 := Nat.le_trans (Nat.pow_le_pow_right (by omega) h) (by decide)

set_option maxRecDepth 20000 in
set_option maxHeartbeats 1600000 in
theorem specNumRead_any (s : ByteArray) (w : World) (hs : s.size ≤ 1048576) :
    Calls Tryz.prog 49 #[.string s] w (ReadRes w s.data.toList) := by
  by_cases hl : btw (s.size : Int) 1 6 = true
  · have hl2 : 1 ≤ s.size ∧ s.size ≤ 6 := by simp [btw] at hl; omega
    have hl3 := hl2.2
    have hl1 := hl2.1
    clear hl2
    go_enter Tryz.func49, Tryz.ntmps49
    go_wp2_with fail
    refine (between_any _ _ _ _).mono ?_
    rintro e w1 ⟨rfl, rfl⟩
    go_wp2_with fail
    go_loop [4, 5] (fun n i => ∃ (k : Nat) (x : Int), k ≤ s.size ∧ i = .int .i64 k ∧ n = .int .i64 x ∧ 0 ≤ x ∧ x ≤ 999999 ∧ Hid (x = (valFrom 0 (s.data.toList.take k) : Int)) ∧ Hid (∀ c ∈ s.data.toList.take k, isDigit c)) (fun _ i => s.size - (intOf i).toNat)
    case atStart => exact ⟨0, 0, Nat.zero_le _, rfl, rfl, by omega, by omega, rfl, by simp [Hid]⟩
    case round =>
      obtain ⟨k, x, hk, rfl, rfl, hx0, hx1, HX, HD⟩ := hrel
      by_cases hlt : k < s.size
      · by_cases hc : btw (s[k].toNat : Int) 48 57 = true
        · have hc2 : 48 ≤ s[k].toNat ∧ s[k].toNat ≤ 57 := by simp [btw] at hc; omega
          have hca : (48 : Int) ≤ (s[k].toNat : Int) := by omega
          have hcb : (s[k].toNat : Int) ≤ 57 := by omega
          have HC : Hid (isDigit s[k]) := hc2
          clear hc2
          have HV := Lib.hid (val_step s k hlt)
          have HB : Hid (valFrom 0 (s.data.toList.take (k + 1)) < 1000000) := by
            have h1 := val_lt (s.data.toList.take (k + 1)) 0 (digits_step hlt HD.out HC.out)
            have h2 : (s.data.toList.take (k + 1)).length ≤ 6 := by
              rw [List.length_take]; omega
            have := pow_mono h2
            unfold Hid; omega
          have HBX : Hid (10 * x + ((s[k].toNat : Int) - 48) ≤ 999999) := by
            have := HB.out; rw [HV.out] at this; have := HX.out; unfold Hid; omega
          have hbx : 10 * x + ((s[k].toNat : Int) - 48) ≤ 999999 := HBX.out
          go_wp2_with fail
          refine (between_any _ _ _ _).mono ?_
          rintro e w2 ⟨rfl, rfl⟩
          rw [hc]
          go_wp2_with fail
          all_goals
            go_round
            case rel => exact ⟨k + 1, 10 * x + ((s[k].toNat : Int) - 48), by omega, by go_num, by first | rfl | (congr 1; omega), by omega, hbx, by unfold Hid; rw [HV.out]; have := HX.out; omega, digits_step hlt HD.out HC.out⟩
            case measure => simp [intOf]; omega
        · have hcf : btw (s[k].toNat : Int) 48 57 = false := by simpa using hc
          clear hc
          have hby : (s[k].toNat : Int) ≤ 255 := by have := s[k].toNat_lt; omega
          have HC : Hid (¬ isDigit s[k]) := by unfold Hid isDigit; simp [btw] at hcf; omega
          go_wp2_with fail
          refine (between_any _ _ _ _).mono ?_
          rintro e w2 ⟨rfl, rfl⟩
          rw [hcf]
          go_wp2_with fail
          go_ret2
          exact ⟨0, false, rfl, reads_nodigit (at_mem s k hlt) HC.out, Below.refl _ _⟩
      · have HE : Hid (s.data.toList.take k = s.data.toList) := List.take_of_length_le (by simp; omega)
        have HX1 : Hid (x = (valFrom 0 s.data.toList : Int)) := by have := HX.out; rw [HE.out] at this; exact this
        have HD1 : Hid (∀ c ∈ s.data.toList, isDigit c) := by have := HD.out; rw [HE.out] at this; exact this
        clear HX HD HE
        go_wp2_with fail
        refine (specNumText_any x _ ⟨by omega, by omega⟩).mono ?_
        rintro e w2 ⟨rfl, hb2⟩
        by_cases h2 : Lib.itoa x = s.data.toList
        · have H2 := Lib.hid h2
          go_wp2_with fail
          go_ret2
          refine ⟨x, true, rfl, ?_, hb2⟩
          have e := HX1.out
          have h3 := H2.out
          rw [e] at h3 ⊢
          exact reads_val HD1.out (by simpa using hl3) h3
        · have H2 := Lib.hid h2
          have h3 : (Lib.itoa x == s.toList) = false := by rw [ByteArray.toList_eq]; simpa using h2
          clear h2
          go_wp2_with fail
          go_ret2
          exact ⟨0, false, rfl, reads_noval (by rw [← HX1.out]; exact H2.out), hb2⟩
  · have hlf : btw (s.size : Int) 1 6 = false := by simpa using hl
    have HL : Hid (¬ (1 ≤ s.data.toList.length ∧ s.data.toList.length ≤ 6)) := by
      have e : s.data.toList.length = s.size := by simp
      rw [e]; unfold Hid; simp [btw] at hlf; omega
    clear hl
    go_enter Tryz.func49, Tryz.ntmps49
    go_wp2_with fail
    refine (between_any _ _ _ _).mono ?_
    rintro e w1 ⟨rfl, rfl⟩
    go_wp2_with fail
    go_ret2
    exact ⟨0, false, rfl, reads_len HL.out, Below.refl _ _⟩

end Go.Proofs.YtfhjhfhfbgddeaaGreatDoor
