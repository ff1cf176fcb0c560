/-
  The walk of the law FnExactAllFit: it returns true at every argument and writes nothing that was there. Conditions: none.
-/
import Derived.Test.YtdbgjgeglgipiaaImplAllFit
import Derived.Test.YtdbgjgeglgipiaaEqIaS
import Derived.Test.YtdbgjgeglgipiaaSpecAllFit
namespace Go.Proofs.Ytdbgjgeglgipiaa
open Go.RowKit

theorem bulk_mem {x : IaD} : ∀ {L : List IaD}, x ∈ L → bulkOf x ≤ bulkS L
  | y :: L, h => by
    have e : bulkS (y :: L) = bulkOf y + bulkS L := by simp [bulkS]
    rw [e]
    rcases List.mem_cons.1 h with rfl | h
    · omega
    · have := bulk_mem h
      omega

set_option maxRecDepth 20000 in
set_option maxHeartbeats 6400000 in
theorem walk_FnExactAllFit (ar : Option Addr) (n c : Nat) (L : List IaD) (w : World) (h : RowA w ar n L) (hn : n ≤ maxLen) (hm : ∀ x ∈ L, ShortA x) :
    Calls Try.prog 4 #[.slice ar n c] w fun e w' => e = .returned (.bool true) ∧ Below w.heap.size w w' := by
  have CZ := Lib.hid (szIaS_any ar n c L 1048576 w h (by omega) (by omega) hn hm)
  by_cases hbig : n + bulkS L ≤ 1048576
  · obtain ⟨rm, hrm⟩ : ∃ m : Nat, (m : Int) = 1048576 - ((n + bulkS L : Nat) : Int) := ⟨1048576 - (n + bulkS L), by omega⟩
    have hr : roomOf 1048576 (n + bulkS L) = (rm : Int) := by rw [roomOf_pos (by omega), hrm]
    rw [hr] at CZ
    have hn2 : n ≤ 1048576 := by omega
    have hs : ∀ x ∈ L, ShortL x := fun x hx => by
      have := bulk_mem hx
      unfold bulkOf at this
      exact ⟨by omega, by omega, by omega, by omega⟩
    have hf : ∀ x ∈ L, IaFits x := fun x hx => by
      obtain ⟨h2, h3, h4, h5⟩ := hs x hx
      exact IaFits.small h2 h3 h4 h5
    have CT : Hid (∀ W, Below w.heap.size w W → Calls Try.prog 14 #[.slice ar n c] W fun e w' => e = .returned (.slice (some ⟨W.heap.size, 0, none⟩) n n) ∧ RowA w' (some ⟨W.heap.size, 0, none⟩) n L ∧ Below W.heap.size W w') := fun W hW => (toIaS_any ar n c L W (h.below hW) hn2 hf).mono fun e w' ⟨he, hp, hb⟩ => ⟨he, hp.row h.1, hb⟩
    obtain ⟨q, hq⟩ : ∃ q, q = allFitB L := ⟨_, rfl⟩
    have CP : Hid (∀ W a2 c2, RowA W a2 n L → Calls Try.prog 13 #[.slice a2 n c2] W fun e w' => e = .returned (.bool q) ∧ Below W.heap.size W w') := fun W a2 c2 hr => by
      rw [hq]
      exact specAllFit_any a2 n c2 L W hr hn2 hs
    have CI : Hid (∀ W a2 c2, RowA W a2 n L → Calls Try.prog 15 #[.slice a2 n c2] W fun e w' => e = .returned (.bool q) ∧ Below W.heap.size W w') := fun W a2 c2 hr => by
      rw [hq]
      exact implAllFit_any a2 n c2 L W hr hn2 hs
    have CE : Hid (∀ W a2 a3 c2 c3, RowA W a2 n L → RowA W a3 n L → Calls Try.prog 16 #[.slice a2 n c2, .slice a3 n c3] W fun e w' => e = .returned (.bool true) ∧ Below W.heap.size W w') := fun W a2 a3 c2 c3 h2 h3 => eqIaS_any a2 a3 n c2 c3 L W h2 h3 hn2 hf
    have hrm0 : ¬ (rm : Int) < 0 := by omega
    clear hr hrm hq hs hf h hm hn hbig
    go_enter Try.func4, Try.ntmps4
    go_wp2_with fail
    refine CZ.out.mono ?_
    rintro e w1 ⟨rfl, hb⟩
    have B1 := Lib.hid hb
    clear hb CZ
    go_wp2_with fail
    refine (CT.out _ B1.out).mono ?_
    rintro e w2 ⟨rfl, hr2, hb⟩
    have B2 : Hid (Below w.heap.size w w2) := B1.out.trans (hb.mono B1.out.size)
    have R2 := Lib.hid hr2
    clear hb hr2 B1
    go_wp2_with fail
    refine (CP.out _ _ _ R2.out).mono ?_
    rintro e w3 ⟨rfl, hb⟩
    have B3 : Hid (Below w.heap.size w w3) := B2.out.trans (hb.mono B2.out.size)
    clear hb R2 B2
    go_wp2_with fail
    refine (CT.out _ B3.out).mono ?_
    rintro e w4 ⟨rfl, hr2, hb⟩
    have B4 : Hid (Below w.heap.size w w4) := B3.out.trans (hb.mono B3.out.size)
    have R4 := Lib.hid hr2
    clear hb hr2 B3
    go_wp2_with fail
    refine (CI.out _ _ _ R4.out).mono ?_
    rintro e w5 ⟨rfl, hb⟩
    have B5 : Hid (Below w.heap.size w w5) := B4.out.trans (hb.mono B4.out.size)
    have R5 := Lib.hid (R4.out.below hb)
    have hqn : (q != q) = false := by cases q <;> rfl
    clear hb R4 B4
    go_wp2_with fail
    refine (CT.out _ B5.out).mono ?_
    rintro e w6 ⟨rfl, hr2, hb⟩
    have B6 : Hid (Below w.heap.size w w6) := B5.out.trans (hb.mono B5.out.size)
    have R6 := Lib.hid hr2
    have R56 := Lib.hid (R5.out.below hb)
    clear hb hr2 B5 R5
    go_wp2_with fail
    refine (CE.out _ _ _ _ _ R56.out R6.out).mono ?_
    rintro e w7 ⟨rfl, hb⟩
    have B7 : Hid (Below w.heap.size w w7) := B6.out.trans (hb.mono B6.out.size)
    clear hb B6 R6 R56
    go_wp2_with fail
    go_ret
    exact ⟨rfl, B7.out⟩
  · have hr : roomOf 1048576 (n + bulkS L) = -1 := roomOf_neg (by omega)
    rw [hr] at CZ
    go_enter Try.func4, Try.ntmps4
    go_wp2_with fail
    refine CZ.out.mono ?_
    rintro e w1 ⟨rfl, hb⟩
    go_wp2_with fail
    go_ret
    exact ⟨rfl, hb⟩

end Go.Proofs.Ytdbgjgeglgipiaa
