/-
  The walk of the law FnNumbers: it returns true at every code and writes nothing that was there. Conditions: the variables of strconv hold what the program's text lays in them.
-/
import Derived.Test.YtbhcdfliedgalaaDoorDrawNum
import Derived.Test.YtbhcdfliedgalaaDoorBig
namespace Go.Proofs.YtbhcdfliedgalaaDoor
open Go.RowKit

theorem itoa_inj {n m : Int} (hm : 0 ≤ m) (h : Lib.itoa n = Lib.itoa m) : n = m := by
  obtain ⟨k, rfl⟩ : ∃ k : Nat, m = (k : Int) := ⟨m.toNat, by omega⟩
  rw [itoa_nat] at h
  by_cases hn : n < 0
  · exfalso
    unfold Lib.itoa at h
    rw [if_pos hn] at h
    have := all_digits k 45 (by rw [← h]; exact List.mem_cons_self ..)
    unfold isDigit at this
    have e : (45 : UInt8).toNat = 45 := rfl
    omega
  · obtain ⟨j, rfl⟩ : ∃ j : Nat, n = (j : Int) := ⟨n.toNat, by omega⟩
    rw [itoa_nat] at h
    have := congrArg (valFrom 0) h
    rw [val_digits, val_digits] at this
    omega

theorem reads_in {n m : Int} {b : Bool} (h : ReadsAs (Lib.itoa n) m b) (h0 : 0 ≤ n) (h1 : n ≤ 999999) : m = n ∧ b = true :=
  reads_one h (reads_ok h0 h1 rfl)
theorem reads_out {n m : Int} {b : Bool} (h : ReadsAs (Lib.itoa n) m b) (h0 : ¬ (0 ≤ n ∧ n ≤ 999999)) : m = 0 ∧ b = false := by
  rcases h with ⟨_, h1, h2, h3⟩ | ⟨hb, hm, _⟩
  · have e := itoa_inj h1 h3.symm
    omega
  · exact ⟨hm, hb⟩
theorem reads_yes {l : List UInt8} {n : Int} (h : ReadsAs l n true) : Lib.itoa n = l ∧ InI64 n := by
  rcases h with ⟨_, h1, h2, h3⟩ | ⟨hb, _⟩
  · exact ⟨h3, by omega, by omega⟩
  · cases hb

set_option maxHeartbeats 3200000 in
theorem walk_FnNumbers (a0 : Option Addr) (len0 cap0 : Nat) (z0 : List Int) (w : World) (w0 : IsRow .u8 w a0 len0 cap0 z0) (ht : Tab w) (he : Errs w) :
    Calls Tryd.prog 3 #[.slice a0 len0 cap0] w fun e w' => e = .returned (.bool true) ∧ Below w.heap.size w w' := by
  have hl := w0.lenAny
  have HA := Lib.hid w0.code
  have HT := Lib.hid ht
  have HE := Lib.hid he
  clear w0 ht he
  by_cases hbig : 1048576 < len0
  · go_enter Tryd.func3, Tryd.ntmps3
    go_wp2_with fail
    refine (big_any _ _ _ _ hl).mono ?_
    rintro e w1 ⟨rfl, rfl⟩
    rw [decide_eq_true hbig]
    go_wp2_with fail
    go_ret
    exact ⟨rfl, Below.refl _ _⟩
  go_enter Tryd.func3, Tryd.ntmps3
  go_wp2_with fail
  refine (big_any _ _ _ _ hl).mono ?_
  rintro e w ⟨rfl, rfl⟩
  rw [decide_eq_false hbig]
  go_wp2_with fail
  refine (drawNumText_any _ _ _ _ (by omega) HA.out).mono ?_
  rintro e w1 ⟨n, rfl, hnI, b1⟩
  have HN := Lib.hid hnI
  clear hnI
  go_wp2_with fail
  refine (implNumText_any n _ HN.out (HT.out.below b1)).mono ?_
  rintro e w2 ⟨rfl, hb2⟩
  have b2 := b1.trans (hb2.mono b1.size)
  clear hb2 b1
  go_wp2_with fail
  refine (implNumRead_any _ _ (by have := itoa_len HN.out; show (Lib.itoa n).toArray.size ≤ _; simp; omega) (HT.out.below b2) (HE.out.below b2)).mono ?_
  rintro e w3 ⟨m, ok, rfl, hr, hb3⟩
  have hr2 : ReadsAs (Lib.itoa n) m ok := by simpa using hr
  have HR := Lib.hid hr2
  have b3 := b2.trans (hb3.mono b2.size)
  have HA3 := Lib.hid ((HA.out.below b3).mono b3.size)
  have HT3 := Lib.hid (HT.out.below b3)
  have HE3 := Lib.hid (HE.out.below b3)
  clear hb3 b2 hr hr2
  have htail : ∀ (k : Bool), (k = true ↔ (0 ≤ n ∧ n ≤ 999999)) → ok = k ∧ (k = true → m = n) ∧ (k = false → m = 0) := by
    intro k hk
    cases k with
    | true =>
      obtain ⟨h1, h2⟩ := hk.1 rfl
      obtain ⟨e1, e2⟩ := reads_in HR.out h1 h2
      exact ⟨e2, fun _ => e1, fun h => by cases h⟩
    | false =>
      have hno : ¬ (0 ≤ n ∧ n ≤ 999999) := fun h => by have := hk.2 h; cases this
      obtain ⟨e1, e2⟩ := reads_out HR.out hno
      exact ⟨e2, (fun h => by cases h), fun _ => e1⟩
  have HTAIL := Lib.hid htail
  clear htail
  by_cases h0 : 0 ≤ n
  · by_cases h1 : n ≤ 999999
    · obtain ⟨rfl, hm, _⟩ := HTAIL.out true (by simp [h0, h1])
      obtain rfl := hm rfl
      clear HR HTAIL
      go_wp2_with fail
      refine (drawNumRead_any _ _ _ _ (by omega) HA3.out).mono ?_
      rintro e w4 ⟨s, rfl, hs, hb4⟩
      have b4 := b3.trans (hb4.mono b3.size)
      have HT4 := Lib.hid (HT3.out.below hb4)
      have HE4 := Lib.hid (HE3.out.below hb4)
      clear hb4 b3
      go_wp2_with fail
      refine (implNumRead_any s _ (by omega) HT4.out HE4.out).mono ?_
      rintro e w5 ⟨x, is, rfl, hr5, hb5⟩
      have HR5 := Lib.hid hr5
      have b5 := b4.trans (hb5.mono b4.size)
      have HT5 := Lib.hid (HT4.out.below hb5)
      clear hb5 b4 hr5
      go_wp2_with fail
      refine (specNumRead_any s _ (by omega)).mono ?_
      rintro e w6 ⟨y, want, rfl, hr6, hb6⟩
      obtain ⟨rfl, rfl⟩ := reads_one HR5.out hr6
      have b6 := b5.trans (hb6.mono b5.size)
      have HT6 := Lib.hid (HT5.out.below hb6)
      clear hb6 b5 hr6
      cases is with
      | false =>
        go_wp2_with fail
        go_ret
        exact ⟨rfl, b6⟩
      | true =>
        obtain ⟨hxs, hxI⟩ := reads_yes HR5.out
        have HXI := Lib.hid hxI
        clear hxI
        go_wp2_with fail
        refine (implNumText_any x _ HXI.out HT6.out).mono ?_
        rintro e w7 ⟨rfl, hb7⟩
        have b7 := b6.trans (hb7.mono b6.size)
        clear hb7 b6
        go_wp2_with fail
        go_ret
        exact ⟨rfl, b7⟩
    · obtain ⟨rfl, _, hm⟩ := HTAIL.out false (by simp [h1])
      obtain rfl := hm rfl
      clear HR HTAIL
      go_wp2_with fail
      refine (drawNumRead_any _ _ _ _ (by omega) HA3.out).mono ?_
      rintro e w4 ⟨s, rfl, hs, hb4⟩
      have b4 := b3.trans (hb4.mono b3.size)
      have HT4 := Lib.hid (HT3.out.below hb4)
      have HE4 := Lib.hid (HE3.out.below hb4)
      clear hb4 b3
      go_wp2_with fail
      refine (implNumRead_any s _ (by omega) HT4.out HE4.out).mono ?_
      rintro e w5 ⟨x, is, rfl, hr5, hb5⟩
      have HR5 := Lib.hid hr5
      have b5 := b4.trans (hb5.mono b4.size)
      have HT5 := Lib.hid (HT4.out.below hb5)
      clear hb5 b4 hr5
      go_wp2_with fail
      refine (specNumRead_any s _ (by omega)).mono ?_
      rintro e w6 ⟨y, want, rfl, hr6, hb6⟩
      obtain ⟨rfl, rfl⟩ := reads_one HR5.out hr6
      have b6 := b5.trans (hb6.mono b5.size)
      have HT6 := Lib.hid (HT5.out.below hb6)
      clear hb6 b5 hr6
      cases is with
      | false =>
        go_wp2_with fail
        go_ret
        exact ⟨rfl, b6⟩
      | true =>
        obtain ⟨hxs, hxI⟩ := reads_yes HR5.out
        have HXI := Lib.hid hxI
        clear hxI
        go_wp2_with fail
        refine (implNumText_any x _ HXI.out HT6.out).mono ?_
        rintro e w7 ⟨rfl, hb7⟩
        have b7 := b6.trans (hb7.mono b6.size)
        clear hb7 b6
        go_wp2_with fail
        go_ret
        exact ⟨rfl, b7⟩
  · obtain ⟨rfl, _, hm⟩ := HTAIL.out false (by simp [h0])
    obtain rfl := hm rfl
    clear HR HTAIL
    go_wp2_with fail
    refine (drawNumRead_any _ _ _ _ (by omega) HA3.out).mono ?_
    rintro e w4 ⟨s, rfl, hs, hb4⟩
    have b4 := b3.trans (hb4.mono b3.size)
    have HT4 := Lib.hid (HT3.out.below hb4)
    have HE4 := Lib.hid (HE3.out.below hb4)
    clear hb4 b3
    go_wp2_with fail
    refine (implNumRead_any s _ (by omega) HT4.out HE4.out).mono ?_
    rintro e w5 ⟨x, is, rfl, hr5, hb5⟩
    have HR5 := Lib.hid hr5
    have b5 := b4.trans (hb5.mono b4.size)
    have HT5 := Lib.hid (HT4.out.below hb5)
    clear hb5 b4 hr5
    go_wp2_with fail
    refine (specNumRead_any s _ (by omega)).mono ?_
    rintro e w6 ⟨y, want, rfl, hr6, hb6⟩
    obtain ⟨rfl, rfl⟩ := reads_one HR5.out hr6
    have b6 := b5.trans (hb6.mono b5.size)
    have HT6 := Lib.hid (HT5.out.below hb6)
    clear hb6 b5 hr6
    cases is with
    | false =>
      go_wp2_with fail
      go_ret
      exact ⟨rfl, b6⟩
    | true =>
      obtain ⟨hxs, hxI⟩ := reads_yes HR5.out
      have HXI := Lib.hid hxI
      clear hxI
      go_wp2_with fail
      refine (implNumText_any x _ HXI.out HT6.out).mono ?_
      rintro e w7 ⟨rfl, hb7⟩
      have b7 := b6.trans (hb7.mono b6.size)
      clear hb7 b6
      go_wp2_with fail
      go_ret
      exact ⟨rfl, b7⟩

end Go.Proofs.YtbhcdfliedgalaaDoor
