/-
  Contracts of the laws' helpers same and big, and the set functions' contracts in the form that the laws use: a slice whose length is a number. Conditions: the slices read as lists of ints of at most 2^21 elements.
-/
import Derived.Test.YtbhcdfliedgalaaDrawSet
import Derived.Test.YtbhcdfliedgalaaBig
import Derived.Test.YtbhcdfliedgalaaWalkSetJoin
namespace Go.Proofs.Ytbhcdfliedgalaa
open Go.RowKit

set_option maxHeartbeats 400000 in
theorem same_any (a a2 : Option Addr) (n c m c2 : Nat) (xs ys : List Int) (w : World) (h : Row w a n xs) (h2 : Row w a2 m ys) (hn : n ≤ 1099511627776) (hm : m ≤ 1099511627776) :
    Calls Try.prog 15 #[.slice a n c, .slice a2 m c2] w fun e w' => e = .returned (.bool (decide (xs = ys))) ∧ Below w.heap.size w w' := by
  obtain ⟨hl, hc⟩ := h
  obtain ⟨hl2, hc2⟩ := h2
  by_cases hnm : n = m
  · subst hnm
    go_enter Try.func15, Try.ntmps15
    go_wp2
    go_loopw [5] (fun i wr => ∃ k : Nat, k ≤ n ∧ i = .int .i64 k ∧ xs.take k = ys.take k ∧ Below w.heap.size w wr) (fun i _ => n - (intOf i).toNat)
    case atStart => exact ⟨0, Nat.zero_le _, rfl, rfl, Below.refl _ _⟩
    case round =>
      obtain ⟨k, hk, rfl, ht, hnx⟩ := hrel
      have HT := Lib.hid ht
      clear ht
      by_cases hlt : k < n
      · obtain ⟨b, off, rfl, hb, hcell⟩ := hc (by omega)
        obtain ⟨b2, off2, rfl, hb2, hcell2⟩ := hc2 (by omega)
        have hkx : k < xs.length := by omega
        have hky : k < ys.length := by omega
        have g1 : wr.cell? ⟨b, off + k, none⟩ = some (.int .i64 xs[k]) := by rw [← getD_eq xs k hkx]; exact (hnx.cell (p := ⟨b, off + k, none⟩) hb).trans (hcell k hlt)
        have g2 : wr.cell? ⟨b2, off2 + k, none⟩ = some (.int .i64 ys[k]) := by rw [← getD_eq ys k hky]; exact (hnx.cell (p := ⟨b2, off2 + k, none⟩) hb2).trans (hcell2 k hlt)
        clear hc hc2 hcell hcell2
        by_cases he : xs[k] = ys[k]
        · have HE := Lib.hid he
          have he1 : (xs[k] != ys[k]) = false := by simp [he]
          clear he
          go_wp2
          go_quiet (fail)
          go_wp2
          go_roundw
          case rel => exact ⟨k + 1, by omega, by go_num, take_eq_step HT.out hkx hky HE.out, below_drewN hnx _⟩
          case measure => simp [intOf]; omega
        · have HE := Lib.hid he
          have he1 : (xs[k] != ys[k]) = true := by simp [he]
          clear he
          go_wp2
          go_quiet (fail)
          go_wp2
          go_ret
          refine ⟨ret_bool (decide_eq_false (ne_of_at hkx hky HE.out)).symm, below_drewN hnx _⟩
      · go_wp2
        go_ret
        have := HT.out
        rw [List.take_of_length_le (by omega), List.take_of_length_le (by omega)] at this
        exact ⟨ret_bool (decide_eq_true this).symm, hnx⟩
  · have hne : ¬ xs = ys := by intro e; subst e; omega
    have HN := Lib.hid hne
    clear hne hc hc2
    go_enter Try.func15, Try.ntmps15
    go_wp2
    go_ret
    exact ⟨ret_bool (decide_eq_false HN.out).symm, Below.refl _ _⟩

/-- A set comes back, of at most 'B' numbers. -/
def SetOut (w : World) (S : List Int) (B : Nat) (e : Ending) (w' : World) : Prop :=
  ∃ a n c, e = .returned (.slice a n c) ∧ Owns w' w.heap.size (.slice a n c) n S ∧ n ≤ B ∧ Below w.heap.size w w'

theorem setOut_of {w : World} {S : List Int} {B : Nat} (hS : S.length ≤ B) {e : Ending} {w' : World} (h : RowRes w w.heap.size S e w') : SetOut w S B e w' := by
  obtain ⟨v, rfl, ho, hb⟩ := h
  obtain ⟨a, c, rfl⟩ := ho.form
  exact ⟨a, _, c, rfl, ho, hS, hb⟩
theorem setOut_of2 {w : World} {S : List Int} {B : Nat} (hS : S.length ≤ B) {e : Ending} {w' : World} (h : OwnRes w w.heap.size S e w') : SetOut w S B e w' := by
  obtain ⟨g, c, rfl, ho, hb⟩ := h
  exact ⟨_, _, c, rfl, ho, hS, hb⟩

theorem join_len (xs ys : List Int) : (joinOf xs ys).length ≤ xs.length + ys.length + 12 := set_len 0 xs ys

theorem implJoin_out (a a2 : Option Addr) (n c m c2 : Nat) (xs ys : List Int) (w : World) (h : Row w a n xs) (h2 : Row w a2 m ys) (hn : n ≤ 2097152) (hm : m ≤ 2097152) :
    Calls Try.prog 13 #[.slice a n c, .slice a2 m c2] w (SetOut w (joinOf xs ys) (n + m + 12)) :=
  (implSetJoin_any a a2 n c m c2 xs ys w h h2 hn hm).mono fun _ _ hh => setOut_of (by have := join_len xs ys; rw [h.1, h2.1] at this; exact this) hh

theorem specJoin_out (a a2 : Option Addr) (n c m c2 : Nat) (xs ys : List Int) (w : World) (h : Row w a n xs) (h2 : Row w a2 m ys) (hn : n ≤ 2097152) (hm : m ≤ 2097152) :
    Calls Try.prog 16 #[.slice a n c, .slice a2 m c2] w (SetOut w (joinOf xs ys) (n + m + 12)) :=
  (specSetJoin_any a a2 n c m c2 xs ys w h h2 hn hm).mono fun _ _ hh => setOut_of2 (by have := join_len xs ys; rw [h.1, h2.1] at this; exact this) hh

theorem meet_len (xs ys : List Int) : (meetOf xs ys).length ≤ xs.length + ys.length + 12 := set_len 1 xs ys

theorem implMeet_out (a a2 : Option Addr) (n c m c2 : Nat) (xs ys : List Int) (w : World) (h : Row w a n xs) (h2 : Row w a2 m ys) (hn : n ≤ 2097152) (hm : m ≤ 2097152) :
    Calls Try.prog 14 #[.slice a n c, .slice a2 m c2] w (SetOut w (meetOf xs ys) (n + m + 12)) :=
  (implSetMeet_any a a2 n c m c2 xs ys w h h2 hn hm).mono fun _ _ hh => setOut_of (by have := meet_len xs ys; rw [h.1, h2.1] at this; exact this) hh

theorem specMeet_out (a a2 : Option Addr) (n c m c2 : Nat) (xs ys : List Int) (w : World) (h : Row w a n xs) (h2 : Row w a2 m ys) (hn : n ≤ 2097152) (hm : m ≤ 2097152) :
    Calls Try.prog 17 #[.slice a n c, .slice a2 m c2] w (SetOut w (meetOf xs ys) (n + m + 12)) :=
  (specSetMeet_any a a2 n c m c2 xs ys w h h2 hn hm).mono fun _ _ hh => setOut_of2 (by have := meet_len xs ys; rw [h.1, h2.1] at this; exact this) hh

theorem less_len (xs ys : List Int) : (lessOf xs ys).length ≤ xs.length + ys.length + 12 := set_len 2 xs ys

theorem implLess_out (a a2 : Option Addr) (n c m c2 : Nat) (xs ys : List Int) (w : World) (h : Row w a n xs) (h2 : Row w a2 m ys) (hn : n ≤ 2097152) (hm : m ≤ 2097152) :
    Calls Try.prog 18 #[.slice a n c, .slice a2 m c2] w (SetOut w (lessOf xs ys) (n + m + 12)) :=
  (implSetLess_any a a2 n c m c2 xs ys w h h2 hn hm).mono fun _ _ hh => setOut_of (by have := less_len xs ys; rw [h.1, h2.1] at this; exact this) hh

theorem specLess_out (a a2 : Option Addr) (n c m c2 : Nat) (xs ys : List Int) (w : World) (h : Row w a n xs) (h2 : Row w a2 m ys) (hn : n ≤ 2097152) (hm : m ≤ 2097152) :
    Calls Try.prog 27 #[.slice a n c, .slice a2 m c2] w (SetOut w (lessOf xs ys) (n + m + 12)) :=
  (specSetLess_any a a2 n c m c2 xs ys w h h2 hn hm).mono fun _ _ hh => setOut_of2 (by have := less_len xs ys; rw [h.1, h2.1] at this; exact this) hh

theorem same_yes (a a2 : Option Addr) (n c m c2 : Nat) (xs ys : List Int) (w : World) (h : Row w a n xs) (h2 : Row w a2 m ys) (e : xs = ys) (hn : n ≤ 2097152) (hm : m ≤ 2097152) :
    Calls Try.prog 15 #[.slice a n c, .slice a2 m c2] w fun e w' => e = .returned (.bool true) ∧ Below w.heap.size w w' :=
  (same_any a a2 n c m c2 xs ys w h h2 (by omega) (by omega)).mono fun _ _ ⟨h1, h2⟩ => ⟨by rw [h1, decide_eq_true e], h2⟩

theorem in_yes2 (a a2 : Option Addr) (n c m c2 : Nat) (xs ys : List Int) (w : World) (h : Row w a n xs) (h2 : Row w a2 m ys) (e : inB xs ys = true) (hn : n ≤ 2097152) (hm : m ≤ 2097152) :
    Calls Try.prog 19 #[.slice a n c, .slice a2 m c2] w fun e w' => e = .returned (.bool true) ∧ Below w.heap.size w w' :=
  (implSetIn_any a a2 n c m c2 xs ys w h h2 hn hm).mono fun _ _ ⟨h1, h2⟩ => ⟨by rw [h1, e], h2⟩

theorem rises_join (xs ys : List Int) : (joinOf xs ys).Pairwise (· < ·) := putAll_rises (putAll_rises List.Pairwise.nil)
theorem rises_meet (xs ys : List Int) : (meetOf xs ys).Pairwise (· < ·) := putAll_rises List.Pairwise.nil
theorem rises_less (xs ys : List Int) : (lessOf xs ys).Pairwise (· < ·) := putAll_rises List.Pairwise.nil

theorem join_comm (xs ys : List Int) : joinOf xs ys = joinOf ys xs := rise_eq (rises_join _ _) (rises_join _ _) fun x => by rw [mem_joinOf, mem_joinOf]; exact Or.comm
theorem meet_comm (xs ys : List Int) : meetOf xs ys = meetOf ys xs := rise_eq (rises_meet _ _) (rises_meet _ _) fun x => by rw [mem_meetOf, mem_meetOf]; exact And.comm
theorem less_meet (xs ys : List Int) : joinOf (lessOf xs ys) (meetOf xs ys) = joinOf xs [] := rise_eq (rises_join _ _) (rises_join _ _) fun x => by
  rw [mem_joinOf, mem_joinOf, mem_lessOf, mem_meetOf]
  by_cases h : x ∈ ys <;> simp [h]
theorem less_join (xs ys : List Int) : joinOf (lessOf xs ys) ys = joinOf xs ys := rise_eq (rises_join _ _) (rises_join _ _) fun x => by
  rw [mem_joinOf, mem_joinOf, mem_lessOf]
  by_cases h : x ∈ ys <;> simp [h]
theorem join_assoc (xs ys zs : List Int) : joinOf (joinOf xs ys) zs = joinOf xs (joinOf ys zs) := rise_eq (rises_join _ _) (rises_join _ _) fun x => by
  rw [mem_joinOf, mem_joinOf, mem_joinOf, mem_joinOf]; exact or_assoc
theorem meet_assoc (xs ys zs : List Int) : meetOf (meetOf xs ys) zs = meetOf xs (meetOf ys zs) := rise_eq (rises_meet _ _) (rises_meet _ _) fun x => by
  rw [mem_meetOf, mem_meetOf, mem_meetOf, mem_meetOf]; exact and_assoc
theorem in_iff {xs ys : List Int} : inB xs ys = true ↔ ∀ x ∈ xs, x ∈ ys := by simp [inB, hasB]
theorem meet_in (xs ys : List Int) : inB (meetOf xs ys) xs = true := in_iff.2 fun _ hx => (mem_meetOf.1 hx).1
theorem in_join (xs ys : List Int) : inB xs (joinOf xs ys) = true := in_iff.2 fun _ hx => mem_joinOf.2 (Or.inl hx)

theorem Row.nil (w : World) : Row w none 0 [] := ⟨rfl, fun h => absurd h (by omega)⟩

end Go.Proofs.Ytbhcdfliedgalaa
