/-
  The contract of the program's disputed, and of slices.ContainsFunc over it. Conditions: counts of at most 2^21; the row of counts lies in a box.
-/
import Derived.Test.YtdbgjgeglgipiaaIaS
namespace Go.Proofs.Ytdbgjgeglgipiaa
open Go.RowKit

def dispB (t s h : Nat) : Bool := decide (1 < t) || decide (1 < s) || (decide (0 < h) && decide (1 < t + s + h))

set_option maxRecDepth 20000 in
set_option maxHeartbeats 1600000 in
theorem disputed_any (t s h : Nat) (w : World) (ht : t ≤ 2097152) (hs : s ≤ 2097152) (hh : h ≤ 2097152) :
    Calls Try.prog 31 #[.agg #[.int .i64 (t : Int), .int .i64 (s : Int), .int .i64 (h : Int)]] w fun e w' => e = .returned (.bool (dispB t s h)) ∧ Below w.heap.size w w' := by
  have HB : Hid (∀ o, Below w.heap.size w (w.alloc o)) := fun o => (Below.refl _ _).alloc (Nat.le_refl _) _
  obtain ⟨r, hr⟩ : ∃ r, r = dispB t s h := ⟨_, rfl⟩
  rw [← hr]
  have HR := Lib.hid hr
  clear hr
  by_cases h1 : 1 < t
  · have g1 : (1 : Int) < (t : Int) := by omega
    have hr1 : r = true := by rw [HR.out]; simp [dispB, h1]
    clear HR
    subst hr1
    go_enter Try.func31, Try.ntmps31
    go_wp2
    go_ret
    exact ⟨rfl, HB.out _⟩
  · have g1 : ¬ (1 : Int) < (t : Int) := by omega
    by_cases h2 : 1 < s
    · have g2 : (1 : Int) < (s : Int) := by omega
      have hr1 : r = true := by rw [HR.out]; simp [dispB, h2]
      clear HR
      subst hr1
      go_enter Try.func31, Try.ntmps31
      go_wp2
      go_ret
      exact ⟨rfl, HB.out _⟩
    · have g2 : ¬ (1 : Int) < (s : Int) := by omega
      by_cases h3 : 0 < h
      · have g3 : (0 : Int) < (h : Int) := by omega
        by_cases h4 : 1 < t + s + h
        · have g4 : (1 : Int) < (t : Int) + (s : Int) + (h : Int) := by omega
          have hr1 : r = true := by rw [HR.out]; simp [dispB, h3, h4]
          clear HR
          subst hr1
          go_enter Try.func31, Try.ntmps31
          go_wp2
          go_ret
          exact ⟨rfl, HB.out _⟩
        · have g4 : ¬ (1 : Int) < (t : Int) + (s : Int) + (h : Int) := by omega
          have hr1 : r = false := by rw [HR.out]; simp [dispB, h1, h2, h4]
          clear HR
          subst hr1
          go_enter Try.func31, Try.ntmps31
          go_wp2
          go_ret
          exact ⟨rfl, HB.out _⟩
      · have g3 : ¬ (0 : Int) < (h : Int) := by omega
        have hr1 : r = false := by rw [HR.out]; simp [dispB, h1, h2, h3]
        clear HR
        subst hr1
        go_enter Try.func31, Try.ntmps31
        go_wp2
        go_ret
        exact ⟨rfl, HB.out _⟩

/-- Twelve counts of three in a box. -/
def RowH (w : World) (H : Nat) (T S D : Nat → Nat) : Prop := H < w.heap.size ∧ ∀ x, x < 12 → w.rangeAt H (x * 3) [.int .i64 (T x : Int), .int .i64 (S x : Int), .int .i64 (D x : Int)]

theorem RowH.below {w w' : World} {H : Nat} {T S D : Nat → Nat} (h : RowH w H T S D) (hb : Below w.heap.size w w') : RowH w' H T S D :=
  ⟨Nat.lt_of_lt_of_le h.1 hb.size, fun x hx => rangeAt_below (h.2 x hx) h.1 hb⟩

def anyD (T S D : Nat → Nat) (k : Nat) : Bool := (List.range k).any fun x => dispB (T x) (S x) (D x)

theorem anyD_succ (T S D : Nat → Nat) (k : Nat) : anyD T S D (k + 1) = (anyD T S D k || dispB (T k) (S k) (D k)) := by
  unfold anyD
  rw [List.range_succ, List.any_append]
  simp

theorem anyD_up {T S D : Nat → Nat} {k m : Nat} (h : anyD T S D k = true) (hk : k ≤ m) : anyD T S D m = true := by
  unfold anyD at h ⊢
  rw [List.any_eq_true] at h ⊢
  obtain ⟨x, hx, hp⟩ := h
  exact ⟨x, List.mem_range.2 (Nat.lt_of_lt_of_le (List.mem_range.1 hx) hk), hp⟩

set_option maxRecDepth 20000 in
set_option maxHeartbeats 1600000 in
theorem indexFunc_any (H : Nat) (T S D : Nat → Nat) (w : World) (h : RowH w H T S D) (hm : ∀ x, T x ≤ 2097152 ∧ S x ≤ 2097152 ∧ D x ≤ 2097152) :
    Calls Try.prog 53 #[.slice (some ⟨H, 0, none⟩) 12 12, .func (.func 31) #[] #[]] w fun e w' => ∃ r : Int, e = .returned (.int .i64 r) ∧ (decide (0 ≤ r)) = anyD T S D 12 ∧ Below w.heap.size w w' := by
  have HH := Lib.hid h
  have HM := Lib.hid hm
  obtain ⟨q, hq⟩ : ∃ q, q = anyD T S D 12 := ⟨_, rfl⟩
  rw [← hq]
  have HQ := Lib.hid hq
  clear h hm hq
  go_enter Try.func53, Try.ntmps53
  go_wp2_with fail
  go_loopw [8] (fun i wr => ∃ k : Nat, k ≤ 12 ∧ i = .int .i64 (k : Int) ∧ Hid (anyD T S D k = false) ∧ Hid (Below w.heap.size w wr)) (fun i _ => 12 - (intOf i).toNat)
  case atStart => exact ⟨0, by omega, rfl, rfl, Below.refl _ _⟩
  case round =>
    obtain ⟨k, hk, rfl, HN, HB⟩ := hrel
    by_cases hlt : k < 12
    · have i1 : (0 : Int) ≤ (k : Int) := by omega
      have i2 : (k : Int) < 12 := by omega
      have HRg : Hid (wr.rangeAt H (k * 3) [.int .i64 (T k : Int), .int .i64 (S k : Int), .int .i64 (D k : Int)]) := (HH.out.below HB.out).2 k hlt
      obtain ⟨m1, m2, m3⟩ := HM.out k
      have CD := Lib.hid (disputed_any (T k) (S k) (D k) wr m1 m2 m3)
      obtain ⟨d, hd⟩ : ∃ d, d = dispB (T k) (S k) (D k) := ⟨_, rfl⟩
      rw [← hd] at CD
      have HS : Hid (anyD T S D (k + 1) = d) := by
        unfold Hid
        rw [anyD_succ, HN.out, ← hd]
        rfl
      obtain ⟨t, ht⟩ : ∃ t, t = T k := ⟨_, rfl⟩
      obtain ⟨s, hs⟩ : ∃ t, t = S k := ⟨_, rfl⟩
      obtain ⟨z, hz⟩ : ∃ t, t = D k := ⟨_, rfl⟩
      rw [← ht, ← hs, ← hz] at HRg CD
      clear ht hs hz hd m1 m2 m3
      go_wp2_with (refine wpList_load_mid rfl _ _ rfl H (k * 3) rfl [.int .i64 (t : Int), .int .i64 (s : Int), .int .i64 (z : Int)] _ HRg.out Try.underlying52 rfl (by kernel_rfl) ?_)
      refine CD.out.mono ?_
      rintro e w1 ⟨rfl, hb1⟩
      have HB1 : Hid (Below w.heap.size w w1) := HB.out.trans (hb1.mono HB.out.size)
      clear hb1 HB CD HRg
      cases d with
      | true =>
        have hq1 : q = true := by rw [HQ.out]; exact anyD_up HS.out (by omega)
        clear HQ
        subst hq1
        go_wp2_with fail
        go_ret
        exact ⟨(k : Int), rfl, by simp, HB1.out⟩
      | false =>
        go_wp2_with fail
        go_roundw
        case rel => exact ⟨k + 1, by omega, by go_num, HS.out, HB1.out⟩
        case measure => simp [intOf]; omega
    · have hkk : k = 12 := by omega
      subst hkk
      have hq1 : q = false := by rw [HQ.out]; exact HN.out
      clear HQ HN
      subst hq1
      go_wp2_with fail
      go_ret
      exact ⟨-1, rfl, by simp, HB.out⟩

set_option maxRecDepth 20000 in
theorem containsFunc_any (H : Nat) (T S D : Nat → Nat) (w : World) (h : RowH w H T S D) (hm : ∀ x, T x ≤ 2097152 ∧ S x ≤ 2097152 ∧ D x ≤ 2097152) :
    Calls Try.prog 30 #[.slice (some ⟨H, 0, none⟩) 12 12, .func (.func 31) #[] #[]] w fun e w' => e = .returned (.bool (anyD T S D 12)) ∧ Below w.heap.size w w' := by
  have CI := Lib.hid (indexFunc_any H T S D w h hm)
  obtain ⟨q, hq⟩ : ∃ q, q = anyD T S D 12 := ⟨_, rfl⟩
  rw [← hq] at CI ⊢
  clear hq h hm
  go_enter Try.func30, Try.ntmps30
  go_wp2_with fail
  refine CI.out.mono ?_
  rintro e w1 ⟨r, rfl, hr, hb⟩
  have HR := Lib.hid hr
  have HB := Lib.hid hb
  clear hr hb CI
  go_wp2_with fail
  go_ret
  exact ⟨ret_bool (by rw [← HR.out]), HB.out⟩

end Go.Proofs.Ytdbgjgeglgipiaa
