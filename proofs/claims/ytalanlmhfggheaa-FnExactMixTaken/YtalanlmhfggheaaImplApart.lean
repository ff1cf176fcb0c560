/-
  Contracts of the program's setsApart. Conditions: the automaton's lists have at most 2^20 elements.
-/
import Derived.Test.YtalanlmhfggheaaImplStep
import Derived.Test.YtalanlmhfggheaaSpecIaOk
import Derived.Test.YtalanlmhfggheaaRisen
namespace Go.Proofs.Ytalanlmhfggheaa
open Go.RowKit

/-- What setsApart answers. -/
def apart3 (ins outs hids : List Int) : Bool := setOkB ins && (setOkB outs && (setOkB hids && (decide ((meetOf ins outs).length = 0) && (decide ((meetOf ins hids).length = 0) && decide ((meetOf outs hids).length = 0)))))

theorem RowRes.slice {w : World} {xs : List Int} {e : Ending} {w' : World} (h : RowRes w w.heap.size xs e w') : ∃ a c, e = .returned (.slice a xs.length c) ∧ Below w.heap.size w w' := by
  obtain ⟨v, rfl, ho, hb⟩ := h
  obtain ⟨a, c, rfl⟩ := ho.form
  exact ⟨a, c, rfl, hb⟩

set_option maxRecDepth 20000 in
set_option maxHeartbeats 3200000 in
theorem setsApart_any (a2 : Option Addr) (n2 c2 : Nat) (a3 : Option Addr) (n3 c3 : Nat) (a4 : Option Addr) (n4 c4 : Nat) (ins outs hids : List Int) (w : World)
    (r2 : Row w a2 n2 ins) (r3 : Row w a3 n3 outs) (r4 : Row w a4 n4 hids) (f2 : n2 ≤ 1048576) (f3 : n3 ≤ 1048576) (f4 : n4 ≤ 1048576) :
    Calls Try.prog 64 #[.slice a2 n2 c2, .slice a3 n3 c3, .slice a4 n4 c4] w fun e w' => e = .returned (.bool (apart3 ins outs hids)) ∧ Below w.heap.size w w' := by
  have R2 := Lib.hid r2
  have R3 := Lib.hid r3
  have R4 := Lib.hid r4
  clear r2 r3 r4
  obtain ⟨q3, hq3⟩ : ∃ q, q = setOkB ins := ⟨_, rfl⟩
  obtain ⟨q4, hq4⟩ : ∃ q, q = setOkB outs := ⟨_, rfl⟩
  obtain ⟨q5, hq5⟩ : ∃ q, q = setOkB hids := ⟨_, rfl⟩
  obtain ⟨m23, hm23⟩ : ∃ q, q = (meetOf ins outs).length := ⟨_, rfl⟩
  obtain ⟨m24, hm24⟩ : ∃ q, q = (meetOf ins hids).length := ⟨_, rfl⟩
  obtain ⟨m34, hm34⟩ : ∃ q, q = (meetOf outs hids).length := ⟨_, rfl⟩
  obtain ⟨r, hr⟩ : ∃ r, r = apart3 ins outs hids := ⟨_, rfl⟩
  rw [← hr]
  have HR : Hid (r = (q3 && (q4 && (q5 && (decide (m23 = 0) && (decide (m24 = 0) && decide (m34 = 0))))))) := by
    unfold Hid
    rw [hr, hq3, hq4, hq5, hm23, hm24, hm34]
    rfl
  have C2 : Hid (∀ W, Below w.heap.size w W → Calls Try.prog 75 #[.slice a2 n2 c2] W fun e w' => e = .returned (.bool q3) ∧ Below w.heap.size w w') := fun W hW => by
    rw [hq3]
    exact (implSetOk_any a2 n2 c2 ins W (R2.out.below hW) (by omega)).mono fun e w' h => ⟨h.1, hW.trans (h.2.mono hW.size)⟩
  have C3 : Hid (∀ W, Below w.heap.size w W → Calls Try.prog 75 #[.slice a3 n3 c3] W fun e w' => e = .returned (.bool q4) ∧ Below w.heap.size w w') := fun W hW => by
    rw [hq4]
    exact (implSetOk_any a3 n3 c3 outs W (R3.out.below hW) (by omega)).mono fun e w' h => ⟨h.1, hW.trans (h.2.mono hW.size)⟩
  have C4 : Hid (∀ W, Below w.heap.size w W → Calls Try.prog 75 #[.slice a4 n4 c4] W fun e w' => e = .returned (.bool q5) ∧ Below w.heap.size w w') := fun W hW => by
    rw [hq5]
    exact (implSetOk_any a4 n4 c4 hids W (R4.out.below hW) (by omega)).mono fun e w' h => ⟨h.1, hW.trans (h.2.mono hW.size)⟩
  have M23 : Hid (∀ W, Below w.heap.size w W → Calls Try.prog 56 #[.slice a2 n2 c2, .slice a3 n3 c3] W fun e w' => ∃ a c, e = .returned (.slice a m23 c) ∧ Below w.heap.size w w') := fun W hW => by
    rw [hm23]
    exact (implSetMeet_any a2 a3 n2 c2 n3 c3 ins outs W (R2.out.below hW) (R3.out.below hW) (by omega) (by omega)).mono fun e w' h => by
      obtain ⟨a, c, he, hb⟩ := RowRes.slice h
      exact ⟨a, c, he, hW.trans (hb.mono hW.size)⟩
  have M24 : Hid (∀ W, Below w.heap.size w W → Calls Try.prog 56 #[.slice a2 n2 c2, .slice a4 n4 c4] W fun e w' => ∃ a c, e = .returned (.slice a m24 c) ∧ Below w.heap.size w w') := fun W hW => by
    rw [hm24]
    exact (implSetMeet_any a2 a4 n2 c2 n4 c4 ins hids W (R2.out.below hW) (R4.out.below hW) (by omega) (by omega)).mono fun e w' h => by
      obtain ⟨a, c, he, hb⟩ := RowRes.slice h
      exact ⟨a, c, he, hW.trans (hb.mono hW.size)⟩
  have M34 : Hid (∀ W, Below w.heap.size w W → Calls Try.prog 56 #[.slice a3 n3 c3, .slice a4 n4 c4] W fun e w' => ∃ a c, e = .returned (.slice a m34 c) ∧ Below w.heap.size w w') := fun W hW => by
    rw [hm34]
    exact (implSetMeet_any a3 a4 n3 c3 n4 c4 outs hids W (R3.out.below hW) (R4.out.below hW) (by omega) (by omega)).mono fun e w' h => by
      obtain ⟨a, c, he, hb⟩ := RowRes.slice h
      exact ⟨a, c, he, hW.trans (hb.mono hW.size)⟩
  clear hr hq3 hq4 hq5 hm23 hm24 hm34
  have B0 := Lib.hid (Below.refl w.heap.size w)
  go_enter Try.func64, Try.ntmps64
  go_wp2_with fail
  refine (C2.out _ B0.out).mono ?_
  rintro e w1 ⟨rfl, hb⟩
  have B1 := Lib.hid hb
  clear hb
  cases q3 with
  | false =>
    go_wp2_with fail
    go_ret
    exact ⟨ret_bool (by rw [HR.out]; try simp), B1.out⟩
  | true =>
    go_wp2_with fail
    refine (C3.out _ B1.out).mono ?_
    rintro e w2 ⟨rfl, hb⟩
    have B2 := Lib.hid hb
    clear hb
    cases q4 with
    | false =>
      go_wp2_with fail
      go_ret
      exact ⟨ret_bool (by rw [HR.out]; try simp), B2.out⟩
    | true =>
      go_wp2_with fail
      refine (C4.out _ B2.out).mono ?_
      rintro e w3 ⟨rfl, hb⟩
      have B3 := Lib.hid hb
      clear hb
      cases q5 with
      | false =>
        go_wp2_with fail
        go_ret
        exact ⟨ret_bool (by rw [HR.out]; try simp), B3.out⟩
      | true =>
        go_wp2_with fail
        refine (M23.out _ B3.out).mono ?_
        rintro e w4 ⟨ad, cc, rfl, hb⟩
        have B4 := Lib.hid hb
        clear hb
        by_cases hz3 : m23 = 0
        · subst hz3
          go_wp2_with fail
          refine (M24.out _ B4.out).mono ?_
          rintro e w5 ⟨ad, cc, rfl, hb⟩
          have B5 := Lib.hid hb
          clear hb
          by_cases hz4 : m24 = 0
          · subst hz4
            go_wp2_with fail
            refine (M34.out _ B5.out).mono ?_
            rintro e w6 ⟨ad, cc, rfl, hb⟩
            have B6 := Lib.hid hb
            clear hb
            by_cases hz5 : m34 = 0
            · subst hz5
              go_wp2_with fail
              go_ret
              exact ⟨ret_bool (by rw [HR.out]; try simp), B6.out⟩
            · have hd : (((m34 : Nat) : Int) == 0) = false := by simp; omega
              have HZ := Lib.hid hz5
              clear hz5
              go_wp2_with fail
              go_ret
              exact ⟨ret_bool (by rw [HR.out, decide_eq_false HZ.out]; try simp), B6.out⟩
          · have hd : (((m24 : Nat) : Int) == 0) = false := by simp; omega
            have HZ := Lib.hid hz4
            clear hz4
            go_wp2_with fail
            go_ret
            exact ⟨ret_bool (by rw [HR.out, decide_eq_false HZ.out]; try simp), B5.out⟩
        · have hd : (((m23 : Nat) : Int) == 0) = false := by simp; omega
          have HZ := Lib.hid hz3
          clear hz3
          go_wp2_with fail
          go_ret
          exact ⟨ret_bool (by rw [HR.out, decide_eq_false HZ.out]; try simp), B4.out⟩

end Go.Proofs.Ytalanlmhfggheaa
