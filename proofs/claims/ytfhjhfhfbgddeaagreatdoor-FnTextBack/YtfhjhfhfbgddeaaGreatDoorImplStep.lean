import Derived.Test.YtfhjhfhfbgddeaaGreatDoorSetHas
import Derived.Test.YtfhjhfhfbgddeaaGreatDoorSpecStep
import Derived.Test.YtfhjhfhfbgddeaaGreatDoorIaSteps
import Derived.Deep.RegionHeld3
import Derived.Test.YtfhjhfhfbgddeaaGreatDoorSpecIaOk
import Derived.Test.YtfhjhfhfbgddeaaGreatDoorRisen
import Derived.Test.YtfhjhfhfbgddeaaGreatDoorRegion
/-
  Contracts of the program's isState, compareSteps (with the library's cmp.Or), mayFollow and stepOk. Conditions: the automaton's sets read as lists of at most 2^20 elements.
-/
namespace Go.Proofs.YtfhjhfhfbgddeaaGreatDoor
open Go.RowKit

set_option maxRecDepth 20000 in
set_option maxHeartbeats 800000 in
theorem isState_any (st it s : Int) (v2 v3 v4 v5 : Value) (w : World) :
    Calls Tryz.prog 34 #[.agg #[.int .i64 st, .int .i64 it, v2, v3, v4, v5], .int .i64 s] w fun e w' => e = .returned (.bool (btw s 0 (st - 1))) ∧ Below w.heap.size w w' := by
  have HB : Hid (∀ o, Below w.heap.size w (w.alloc o)) := fun o => (Below.refl _ _).alloc (Nat.le_refl _) _
  by_cases h1 : 0 ≤ s
  · have hd : decide (0 ≤ s) = true := by simp [h1]
    by_cases h2 : s < st
    · have e : btw s 0 (st - 1) = true := by simp [btw, h1]; omega
      have HE := Lib.hid e; clear e
      go_enter Tryz.func34, Tryz.ntmps34
      go_wp2
      go_ret
      exact ⟨ret_bool HE.out.symm, HB.out _⟩
    · have e : btw s 0 (st - 1) = false := by simp [btw]; omega
      have HE := Lib.hid e; clear e
      go_enter Tryz.func34, Tryz.ntmps34
      go_wp2
      go_ret
      exact ⟨ret_bool HE.out.symm, HB.out _⟩
  · have hd : decide (0 ≤ s) = false := by simp; omega
    have e : btw s 0 (st - 1) = false := by simp [btw, h1]
    have HE := Lib.hid e; clear e
    go_enter Tryz.func34, Tryz.ntmps34
    go_wp2
    go_ret
    exact ⟨ret_bool HE.out.symm, HB.out _⟩

/-- The first number that is not 0, or 0. -/
def firstOf : List Int → Int
  | [] => 0
  | x :: r => if x = 0 then firstOf r else x

theorem firstOf_drop (xs : List Int) (k : Nat) (hk : k < xs.length) : firstOf (xs.drop k) = if xs[k] = 0 then firstOf (xs.drop (k + 1)) else xs[k] := by
  rw [List.drop_eq_getElem_cons hk]; rfl

set_option maxRecDepth 20000 in
set_option maxHeartbeats 800000 in
theorem or_any (a : Option Addr) (n c : Nat) (xs : List Int) (w : World) (h : Row w a n xs) (hn : n ≤ 1099511627776) :
    Calls Tryz.prog 80 #[.slice a n c] w fun e w' => e = .returned (.int .i64 (firstOf xs)) ∧ w' = w := by
  obtain ⟨hl, hc⟩ := h
  have HC := Lib.hid hc
  have HL := Lib.hid hl
  clear hc hl
  go_enter Tryz.func80, Tryz.ntmps80
  go_wp2
  go_loop [8] (fun i => ∃ k : Nat, k ≤ n ∧ i = .int .i64 k ∧ Hid (firstOf xs = firstOf (xs.drop k))) (fun i => n - (intOf i).toNat)
  case atStart => exact ⟨0, Nat.zero_le _, rfl, by simp [Hid]⟩
  case round =>
    obtain ⟨k, hk, rfl, HT⟩ := hrel
    by_cases hlt : k < n
    · obtain ⟨b, off, rfl, hb, hcell⟩ := HC.out (by omega)
      have hkx : k < xs.length := by rw [HL.out]; exact hlt
      obtain ⟨y, hy⟩ : ∃ y, y = xs[k] := ⟨_, rfl⟩
      have g1 : w.cell? ⟨b, off + k, none⟩ = some (.int .i64 y) := by rw [hy, ← getD_eq xs k hkx]; exact hcell k hlt
      have HF : Hid (firstOf xs = if y = 0 then firstOf (xs.drop (k + 1)) else y) := by
        unfold Hid
        rw [HT.out, firstOf_drop xs k hkx, hy]
      clear hy hcell HT
      by_cases he : y = 0
      · have HF2 : Hid (firstOf xs = firstOf (xs.drop (k + 1))) := by
          have := HF.out
          rwa [if_pos he] at this
        have he2 : (y != 0) = false := by simp [he]
        clear HF he
        go_wp2
        go_round
        case rel => exact ⟨k + 1, by omega, by go_num, HF2.out⟩
        case measure => simp [intOf]; omega
      · have HF2 : Hid (firstOf xs = y) := by
          have := HF.out
          rwa [if_neg he] at this
        have he2 : (y != 0) = true := by simp [he]
        clear HF he
        go_wp2
        go_ret
        exact ⟨ret_int HF2.out.symm, rfl⟩
    · have HF : Hid (firstOf xs = 0) := by
        have := HT.out
        rw [List.drop_eq_nil_of_le (by rw [HL.out]; omega)] at this
        exact this
      go_wp2
      go_ret
      exact ⟨ret_int HF.out.symm, rfl⟩

/-- How two steps stand to one another, by signs. -/
def signOf (y x : St) : Int := firstOf [Lib.compareInt y.1 x.1, Lib.compareInt y.2.1 x.2.1, Lib.compareInt y.2.2 x.2.2]

theorem signOf_neg (y x : St) : decide (signOf y x < 0) = decide (cmpOf y x < 0) := by
  obtain ⟨a, b, c⟩ := y
  obtain ⟨a', b', c'⟩ := x
  apply decide_eq_decide.2
  simp only [signOf, cmpOf, firstOf, Lib.compareInt]
  by_cases h1 : a < a'
  · have : ¬ a = a' := by omega
    simp [h1, this]; omega
  · by_cases h2 : a > a'
    · have : ¬ a = a' := by omega
      simp [h1, h2, this]; omega
    · have e : a = a' := by omega
      subst e
      by_cases h3 : b < b'
      · have : ¬ b = b' := by omega
        simp [h3, this]; omega
      · by_cases h4 : b > b'
        · have : ¬ b = b' := by omega
          simp [h3, h4, this]; omega
        · have e : b = b' := by omega
          subst e
          by_cases h5 : c < c'
          · simp [h5]; omega
          · by_cases h6 : c > c'
            · simp [h5, h6]; omega
            · simp [h5, h6]; omega

set_option maxRecDepth 20000 in
set_option maxHeartbeats 1600000 in
theorem compareSteps_any (x y z x' y' z' : Int) (w : World) :
    Calls Tryz.prog 65 #[.agg #[.int .i64 x, .int .i64 y, .int .i64 z], .agg #[.int .i64 x', .int .i64 y', .int .i64 z']] w fun e w' => e = .returned (.int .i64 (signOf (x, y, z) (x', y', z'))) ∧ Below w.heap.size w w' := by
  have B0 : Hid (∀ o o', Below w.heap.size w ((w.alloc o).alloc o')) := fun o o' => ((Below.refl _ _).alloc (Nat.le_refl _) _).alloc (by simp) _
  have R3 : Hid (Row ((((w.alloc (.cells #[.int .i64 x, .int .i64 y, .int .i64 z] 47)).alloc (.cells #[.int .i64 x', .int .i64 y', .int .i64 z'] 47)).alloc (.cells #[.int .i64 (Lib.compareInt x x'), .int .i64 (Lib.compareInt y y'), .int .i64 (Lib.compareInt z z')] 3)).drew) (some ⟨w.heap.size + 1 + 1, 0, none⟩) 3 [Lib.compareInt x x', Lib.compareInt y y', Lib.compareInt z z']) := by
    have := (owns_lit ((w.alloc (.cells #[.int .i64 x, .int .i64 y, .int .i64 z] 47)).alloc (.cells #[.int .i64 x', .int .i64 y', .int .i64 z'] 47)) [Lib.compareInt x x', Lib.compareInt y y', Lib.compareInt z z'] 3 rfl (by unfold maxLen; omega)).row.2.2.2
    have e : ((w.alloc (.cells #[.int .i64 x, .int .i64 y, .int .i64 z] 47)).alloc (.cells #[.int .i64 x', .int .i64 y', .int .i64 z'] 47)).heap.size = w.heap.size + 1 + 1 := by simp
    rw [e] at this
    exact this
  have B3 : Hid (Below w.heap.size w ((((w.alloc (.cells #[.int .i64 x, .int .i64 y, .int .i64 z] 47)).alloc (.cells #[.int .i64 x', .int .i64 y', .int .i64 z'] 47)).alloc (.cells #[.int .i64 (Lib.compareInt x x'), .int .i64 (Lib.compareInt y y'), .int .i64 (Lib.compareInt z z')] 3)).drew)) := ((B0.out _ _).alloc (by simp; omega) _).drew
  go_enter Tryz.func65, Tryz.ntmps65
  go_wp2_with fail
  go_region_held3 (fun w' => w'.cell? ⟨w.heap.size, 0, none⟩ = some (.int .i64 x) ∧ w'.cell? ⟨w.heap.size, 1, none⟩ = some (.int .i64 y) ∧ w'.cell? ⟨w.heap.size, 2, none⟩ = some (.int .i64 z) ∧ w'.cell? ⟨w.heap.size + 1, 0, none⟩ = some (.int .i64 x') ∧ w'.cell? ⟨w.heap.size + 1, 1, none⟩ = some (.int .i64 y') ∧ w'.cell? ⟨w.heap.size + 1, 2, none⟩ = some (.int .i64 z'))
    (go_keep)
    ((first | (go_at_call 81; refine (Tryz.cmp_Compare_int _ _ _).mono ?_; rintro e w' ⟨rfl, rfl⟩) | (go_at_call 80; refine (or_any _ 3 _ [Lib.compareInt x x', Lib.compareInt y y', Lib.compareInt z z'] _ R3.out (by omega)).mono ?_; rintro e w' ⟨rfl, rfl⟩)))
  go_wp2_with fail
  go_ret
  exact ⟨rfl, B3.out⟩

set_option maxRecDepth 20000 in
set_option maxHeartbeats 3200000 in
theorem stepOk_any (st it : Int) (a2 : Option Addr) (n2 c2 : Nat) (a3 : Option Addr) (n3 c3 : Nat) (a4 : Option Addr) (n4 c4 : Nat) (v5 : Value) (ins outs hids : List Int) (x y z : Int) (w : World)
    (r2 : Row w a2 n2 ins) (r3 : Row w a3 n3 outs) (r4 : Row w a4 n4 hids) (f2 : n2 ≤ 1048576) (f3 : n3 ≤ 1048576) (f4 : n4 ≤ 1048576) :
    Calls Tryz.prog 52 #[.agg #[.int .i64 st, .int .i64 it, .slice a2 n2 c2, .slice a3 n3 c3, .slice a4 n4 c4, v5], .agg #[.int .i64 x, .int .i64 y, .int .i64 z]] w fun e w' => e = .returned (.bool (btw x 0 (st - 1) && btw z 0 (st - 1) && (hasB ins y || hasB outs y || hasB hids y))) ∧ Below w.heap.size w w' := by
  have R2 := Lib.hid r2
  have R3 := Lib.hid r3
  have R4 := Lib.hid r4
  clear r2 r3 r4
  obtain ⟨p1, hp1⟩ : ∃ q, q = btw x 0 (st - 1) := ⟨_, rfl⟩
  obtain ⟨p2, hp2⟩ : ∃ q, q = btw z 0 (st - 1) := ⟨_, rfl⟩
  obtain ⟨p3, hp3⟩ : ∃ q, q = hasB ins y := ⟨_, rfl⟩
  obtain ⟨p4, hp4⟩ : ∃ q, q = hasB outs y := ⟨_, rfl⟩
  obtain ⟨p5, hp5⟩ : ∃ q, q = hasB hids y := ⟨_, rfl⟩
  rw [← hp1, ← hp2, ← hp3, ← hp4, ← hp5]
  have D1 : Hid (∀ W v2 v3 v4 v5, Calls Tryz.prog 34 #[.agg #[.int .i64 st, .int .i64 it, v2, v3, v4, v5], .int .i64 x] W fun e w' => e = .returned (.bool p1) ∧ Below W.heap.size W w') := fun W v2 v3 v4 v5 => by rw [hp1]; exact isState_any st it x v2 v3 v4 v5 W
  have D2 : Hid (∀ W v2 v3 v4 v5, Calls Tryz.prog 34 #[.agg #[.int .i64 st, .int .i64 it, v2, v3, v4, v5], .int .i64 z] W fun e w' => e = .returned (.bool p2) ∧ Below W.heap.size W w') := fun W v2 v3 v4 v5 => by rw [hp2]; exact isState_any st it z v2 v3 v4 v5 W
  have C3 : Hid (∀ W, Below w.heap.size w W → Calls Tryz.prog 64 #[.slice a2 n2 c2, .int .i64 y] W fun e w' => e = .returned (.bool p3) ∧ W = w') := fun W hW => by rw [hp3]; exact (implSetHas_any a2 n2 c2 y ins W (R2.out.below hW) (by omega)).mono fun _ _ h => ⟨h.1, h.2.symm⟩
  have C4 : Hid (∀ W, Below w.heap.size w W → Calls Tryz.prog 64 #[.slice a3 n3 c3, .int .i64 y] W fun e w' => e = .returned (.bool p4) ∧ W = w') := fun W hW => by rw [hp4]; exact (implSetHas_any a3 n3 c3 y outs W (R3.out.below hW) (by omega)).mono fun _ _ h => ⟨h.1, h.2.symm⟩
  have C5 : Hid (∀ W, Below w.heap.size w W → Calls Tryz.prog 64 #[.slice a4 n4 c4, .int .i64 y] W fun e w' => e = .returned (.bool p5) ∧ W = w') := fun W hW => by rw [hp5]; exact (implSetHas_any a4 n4 c4 y hids W (R4.out.below hW) (by omega)).mono fun _ _ h => ⟨h.1, h.2.symm⟩
  clear hp1 hp2 hp3 hp4 hp5
  have B0 : Hid (∀ o o', Below w.heap.size w ((w.alloc o).alloc o')) := fun o o' => ((Below.refl _ _).alloc (Nat.le_refl _) _).alloc (by simp) _
  have V0 := Lib.hid ((VarIs.new w #[.int .i64 st, .int .i64 it, .slice a2 n2 c2, .slice a3 n3 c3, .slice a4 n4 c4, v5] 27 rfl).alloc (.cells #[.int .i64 x, .int .i64 y, .int .i64 z] 47))
  have X0 : Hid (VarIs ((w.alloc (.cells #[.int .i64 st, .int .i64 it, .slice a2 n2 c2, .slice a3 n3 c3, .slice a4 n4 c4, v5] 27)).alloc (.cells #[.int .i64 x, .int .i64 y, .int .i64 z] 47)) (w.heap.size + 1) #[.int .i64 x, .int .i64 y, .int .i64 z] 47) := VarIs.new _ _ _ (by simp)
  go_enter Tryz.func52, Tryz.ntmps52
  go_wp2_with fail
  refine (D1.out _ _ _ _ _).mono ?_
  rintro e w1 ⟨rfl, hb⟩
  have V1 := Lib.hid (V0.out.below hb)
  have X1 := Lib.hid (X0.out.below hb)
  have B1 : Hid (Below w.heap.size w w1) := (B0.out _ _).trans (hb.mono (B0.out _ _).size)
  clear hb
  cases p1 with
  | false =>
    go_wp2_with fail
    go_ret
    exact ⟨rfl, B1.out⟩
  | true =>
    have m0 := V1.out.cell (j := 0) rfl
    have m1 := V1.out.cell (j := 1) rfl
    have m2 := V1.out.cell (j := 2) rfl
    have m3 := V1.out.cell (j := 3) rfl
    have m4 := V1.out.cell (j := 4) rfl
    have m5 := V1.out.cell (j := 5) rfl
    have i2 := X1.out.cell (j := 2) rfl
    go_wp2_with fail
    clear m0 m1 m2 m3 m4 m5 i2
    refine (D2.out _ _ _ _ _).mono ?_
    rintro e w2 ⟨rfl, hb⟩
    have V2 := Lib.hid (V1.out.below hb)
    have X2 := Lib.hid (X1.out.below hb)
    have B2 : Hid (Below w.heap.size w w2) := B1.out.trans (hb.mono B1.out.size)
    clear hb
    cases p2 with
    | false =>
      go_wp2_with fail
      go_ret
      exact ⟨rfl, B2.out⟩
    | true =>
      have m2 := V2.out.cell (j := 2) rfl
      have m3 := V2.out.cell (j := 3) rfl
      have m4 := V2.out.cell (j := 4) rfl
      have i1 := X2.out.cell (j := 1) rfl
      go_wp2_with fail
      refine (C3.out _ B2.out).mono ?_
      rintro e w3 ⟨rfl, rfl⟩
      cases p3 with
      | true =>
        go_wp2_with fail
        go_ret
        exact ⟨rfl, B2.out⟩
      | false =>
        go_wp2_with fail
        refine (C4.out _ B2.out).mono ?_
        rintro e w3 ⟨rfl, rfl⟩
        cases p4 with
        | true =>
          go_wp2_with fail
          go_ret
          exact ⟨rfl, B2.out⟩
        | false =>
          go_wp2_with fail
          refine (C5.out _ B2.out).mono ?_
          rintro e w3 ⟨rfl, rfl⟩
          go_wp2_with fail
          go_ret
          exact ⟨ret_bool (by simp), B2.out⟩

/-- What mayFollow answers. -/
def followB (ins : List Int) (y x : St) : Bool := decide (cmpOf y x < 0) && !(decide (y.1 = x.1) && decide (y.2.1 = x.2.1) && hasB ins x.2.1)

set_option maxRecDepth 20000 in
set_option maxHeartbeats 3200000 in
theorem mayFollow_any (st it : Int) (a2 : Option Addr) (n2 c2 : Nat) (v3 v4 v5 : Value) (ins : List Int) (x' y' z' x y z : Int) (w : World) (r2 : Row w a2 n2 ins) (f2 : n2 ≤ 1048576) :
    Calls Tryz.prog 53 #[.agg #[.int .i64 st, .int .i64 it, .slice a2 n2 c2, v3, v4, v5], .agg #[.int .i64 x', .int .i64 y', .int .i64 z'], .agg #[.int .i64 x, .int .i64 y, .int .i64 z]] w fun e w' => e = .returned (.bool (followB ins (x', y', z') (x, y, z))) ∧ Below w.heap.size w w' := by
  have R2 := Lib.hid r2
  clear r2
  obtain ⟨f, hf⟩ : ∃ f, f = followB ins (x', y', z') (x, y, z) := ⟨_, rfl⟩
  rw [← hf]
  obtain ⟨p3, hp3⟩ : ∃ q, q = hasB ins y := ⟨_, rfl⟩
  obtain ⟨sg, hsg⟩ : ∃ q, q = signOf (x', y', z') (x, y, z) := ⟨_, rfl⟩
  have HF : Hid (f = (decide (sg < 0) && !(decide (x' = x) && decide (y' = y) && p3))) := by
    unfold Hid
    rw [hf, hp3, hsg, signOf_neg]
    rfl
  have C3 : Hid (∀ W, Below w.heap.size w W → Calls Tryz.prog 64 #[.slice a2 n2 c2, .int .i64 y] W fun e w' => e = .returned (.bool p3) ∧ W = w') := fun W hW => by rw [hp3]; exact (implSetHas_any a2 n2 c2 y ins W (R2.out.below hW) (by omega)).mono fun _ _ h => ⟨h.1, h.2.symm⟩
  have D1 : Hid (∀ W, Calls Tryz.prog 65 #[.agg #[.int .i64 x', .int .i64 y', .int .i64 z'], .agg #[.int .i64 x, .int .i64 y, .int .i64 z]] W fun e w' => e = .returned (.int .i64 sg) ∧ Below W.heap.size W w') := fun W => by rw [hsg]; exact compareSteps_any x' y' z' x y z W
  clear hf hp3 hsg
  have B0 : Hid (∀ o o' o'', Below w.heap.size w (((w.alloc o).alloc o').alloc o'')) := fun o o' o'' => (((Below.refl _ _).alloc (Nat.le_refl _) _).alloc (by simp) _).alloc (by simp; omega) _
  by_cases e1 : x' = x
  · have k1 : (x' == x) = true := by simp [e1]
    by_cases e2 : y' = y
    · have k2 : (y' == y) = true := by simp [e2]
      have HF2 : Hid (f = (decide (sg < 0) && !p3)) := by
        have := HF.out
        rwa [decide_eq_true e1, decide_eq_true e2, Bool.true_and, Bool.true_and] at this
      clear HF e1 e2
      go_enter Tryz.func53, Tryz.ntmps53
      go_wp2_with fail
      refine (C3.out _ (B0.out _ _ _)).mono ?_
      rintro e w3 ⟨rfl, rfl⟩
      cases p3 with
      | true =>
        go_wp2_with fail
        go_ret
        exact ⟨ret_bool (by rw [HF2.out]; simp), B0.out _ _ _⟩
      | false =>
        go_wp2_with fail
        refine (D1.out _).mono ?_
        rintro e w1 ⟨rfl, hb⟩
        have B1 : Hid (Below w.heap.size w w1) := (B0.out _ _ _).trans (hb.mono (B0.out _ _ _).size)
        clear hb
        go_wp2_with fail
        go_ret
        exact ⟨ret_bool (by rw [HF2.out]; simp), B1.out⟩
    · have k2 : (y' == y) = false := by simp [e2]
      have HF2 : Hid (f = decide (sg < 0)) := by
        have := HF.out
        rwa [decide_eq_false e2, Bool.and_false, Bool.false_and, Bool.not_false, Bool.and_true] at this
      clear HF e1 e2
      go_enter Tryz.func53, Tryz.ntmps53
      go_wp2_with fail
      refine (D1.out _).mono ?_
      rintro e w1 ⟨rfl, hb⟩
      have B1 : Hid (Below w.heap.size w w1) := (B0.out _ _ _).trans (hb.mono (B0.out _ _ _).size)
      clear hb
      go_wp2_with fail
      go_ret
      exact ⟨ret_bool (by rw [HF2.out]), B1.out⟩
  · have k1 : (x' == x) = false := by simp [e1]
    have HF2 : Hid (f = decide (sg < 0)) := by
      have := HF.out
      rwa [decide_eq_false e1, Bool.false_and, Bool.false_and, Bool.not_false, Bool.and_true] at this
    clear HF e1
    go_enter Tryz.func53, Tryz.ntmps53
    go_wp2_with fail
    refine (D1.out _).mono ?_
    rintro e w1 ⟨rfl, hb⟩
    have B1 : Hid (Below w.heap.size w w1) := (B0.out _ _ _).trans (hb.mono (B0.out _ _ _).size)
    clear hb
    go_wp2_with fail
    go_ret
    exact ⟨ret_bool (by rw [HF2.out]), B1.out⟩

end Go.Proofs.YtfhjhfhfbgddeaaGreatDoor

/-
  Contracts of the program's setsApart. Conditions: the automaton's lists have at most 2^20 elements.
-/
namespace Go.Proofs.YtfhjhfhfbgddeaaGreatDoor
open Go.RowKit

/-- What setsApart answers. -/
def apart3 (ins outs hids : List Int) : Bool := setOkB ins && (setOkB outs && (setOkB hids && (decide ((meetOf ins outs).length = 0) && (decide ((meetOf ins hids).length = 0) && decide ((meetOf outs hids).length = 0)))))

theorem RowRes.slice {w : World} {xs : List Int} {e : Ending} {w' : World} (h : RowRes w w.heap.size xs e w') : ∃ a c, e = .returned (.slice a xs.length c) ∧ Below w.heap.size w w' := by
  obtain ⟨v, rfl, ho, hb⟩ := h
  obtain ⟨a, c, rfl⟩ := ho.form
  exact ⟨a, c, rfl, hb⟩

set_option maxRecDepth 20000 in
set_option maxHeartbeats 3200000 in
theorem setsApart_any (a2 : Option Addr) (n2 c2 : Nat) (a3 : Option Addr) (n3 c3 : Nat) (a4 : Option Addr) (n4 c4 : Nat) (ins outs hids : List Int) (w : World)
    (r2 : Row w a2 n2 ins) (r3 : Row w a3 n3 outs) (r4 : Row w a4 n4 hids) (f2 : n2 ≤ 1048576) (f3 : n3 ≤ 1048576) (f4 : n4 ≤ 1048576) :
    Calls Tryz.prog 35 #[.slice a2 n2 c2, .slice a3 n3 c3, .slice a4 n4 c4] w fun e w' => e = .returned (.bool (apart3 ins outs hids)) ∧ Below w.heap.size w w' := by
  have R2 := Lib.hid r2
  have R3 := Lib.hid r3
  have R4 := Lib.hid r4
  clear r2 r3 r4
  obtain ⟨q3, hq3⟩ : ∃ q, q = setOkB ins := ⟨_, rfl⟩
  obtain ⟨q4, hq4⟩ : ∃ q, q = setOkB outs := ⟨_, rfl⟩
  obtain ⟨q5, hq5⟩ : ∃ q, q = setOkB hids := ⟨_, rfl⟩
  obtain ⟨m23, hm23⟩ : ∃ q, q = (meetOf ins outs).length := ⟨_, rfl⟩
  obtain ⟨m24, hm24⟩ : ∃ q, q = (meetOf ins hids).length := ⟨_, rfl⟩
  obtain ⟨m34, hm34⟩ : ∃ q, q = (meetOf outs hids).length := ⟨_, rfl⟩
  obtain ⟨r, hr⟩ : ∃ r, r = apart3 ins outs hids := ⟨_, rfl⟩
  rw [← hr]
  have HR : Hid (r = (q3 && (q4 && (q5 && (decide (m23 = 0) && (decide (m24 = 0) && decide (m34 = 0))))))) := by
    unfold Hid
    rw [hr, hq3, hq4, hq5, hm23, hm24, hm34]
    rfl
  have C2 : Hid (∀ W, Below w.heap.size w W → Calls Tryz.prog 50 #[.slice a2 n2 c2] W fun e w' => e = .returned (.bool q3) ∧ Below w.heap.size w w') := fun W hW => by
    rw [hq3]
    exact (implSetOk_any a2 n2 c2 ins W (R2.out.below hW) (by omega)).mono fun e w' h => ⟨h.1, hW.trans (h.2.mono hW.size)⟩
  have C3 : Hid (∀ W, Below w.heap.size w W → Calls Tryz.prog 50 #[.slice a3 n3 c3] W fun e w' => e = .returned (.bool q4) ∧ Below w.heap.size w w') := fun W hW => by
    rw [hq4]
    exact (implSetOk_any a3 n3 c3 outs W (R3.out.below hW) (by omega)).mono fun e w' h => ⟨h.1, hW.trans (h.2.mono hW.size)⟩
  have C4 : Hid (∀ W, Below w.heap.size w W → Calls Tryz.prog 50 #[.slice a4 n4 c4] W fun e w' => e = .returned (.bool q5) ∧ Below w.heap.size w w') := fun W hW => by
    rw [hq5]
    exact (implSetOk_any a4 n4 c4 hids W (R4.out.below hW) (by omega)).mono fun e w' h => ⟨h.1, hW.trans (h.2.mono hW.size)⟩
  have M23 : Hid (∀ W, Below w.heap.size w W → Calls Tryz.prog 51 #[.slice a2 n2 c2, .slice a3 n3 c3] W fun e w' => ∃ a c, e = .returned (.slice a m23 c) ∧ Below w.heap.size w w') := fun W hW => by
    rw [hm23]
    exact (implSetMeet_any a2 a3 n2 c2 n3 c3 ins outs W (R2.out.below hW) (R3.out.below hW) (by omega) (by omega)).mono fun e w' h => by
      obtain ⟨a, c, he, hb⟩ := RowRes.slice h
      exact ⟨a, c, he, hW.trans (hb.mono hW.size)⟩
  have M24 : Hid (∀ W, Below w.heap.size w W → Calls Tryz.prog 51 #[.slice a2 n2 c2, .slice a4 n4 c4] W fun e w' => ∃ a c, e = .returned (.slice a m24 c) ∧ Below w.heap.size w w') := fun W hW => by
    rw [hm24]
    exact (implSetMeet_any a2 a4 n2 c2 n4 c4 ins hids W (R2.out.below hW) (R4.out.below hW) (by omega) (by omega)).mono fun e w' h => by
      obtain ⟨a, c, he, hb⟩ := RowRes.slice h
      exact ⟨a, c, he, hW.trans (hb.mono hW.size)⟩
  have M34 : Hid (∀ W, Below w.heap.size w W → Calls Tryz.prog 51 #[.slice a3 n3 c3, .slice a4 n4 c4] W fun e w' => ∃ a c, e = .returned (.slice a m34 c) ∧ Below w.heap.size w w') := fun W hW => by
    rw [hm34]
    exact (implSetMeet_any a3 a4 n3 c3 n4 c4 outs hids W (R3.out.below hW) (R4.out.below hW) (by omega) (by omega)).mono fun e w' h => by
      obtain ⟨a, c, he, hb⟩ := RowRes.slice h
      exact ⟨a, c, he, hW.trans (hb.mono hW.size)⟩
  clear hr hq3 hq4 hq5 hm23 hm24 hm34
  have B0 := Lib.hid (Below.refl w.heap.size w)
  go_enter Tryz.func35, Tryz.ntmps35
  go_wp2_with fail
  refine (C2.out _ B0.out).mono ?_
  rintro e w1 ⟨rfl, hb⟩
  have B1 := Lib.hid hb
  clear hb
  cases q3 with
  | false =>
    go_wp2_with fail
    go_ret
    exact ⟨ret_bool (by rw [HR.out]; try simp), B1.out⟩
  | true =>
    go_wp2_with fail
    refine (C3.out _ B1.out).mono ?_
    rintro e w2 ⟨rfl, hb⟩
    have B2 := Lib.hid hb
    clear hb
    cases q4 with
    | false =>
      go_wp2_with fail
      go_ret
      exact ⟨ret_bool (by rw [HR.out]; try simp), B2.out⟩
    | true =>
      go_wp2_with fail
      refine (C4.out _ B2.out).mono ?_
      rintro e w3 ⟨rfl, hb⟩
      have B3 := Lib.hid hb
      clear hb
      cases q5 with
      | false =>
        go_wp2_with fail
        go_ret
        exact ⟨ret_bool (by rw [HR.out]; try simp), B3.out⟩
      | true =>
        go_wp2_with fail
        refine (M23.out _ B3.out).mono ?_
        rintro e w4 ⟨ad, cc, rfl, hb⟩
        have B4 := Lib.hid hb
        clear hb
        by_cases hz3 : m23 = 0
        · subst hz3
          go_wp2_with fail
          refine (M24.out _ B4.out).mono ?_
          rintro e w5 ⟨ad, cc, rfl, hb⟩
          have B5 := Lib.hid hb
          clear hb
          by_cases hz4 : m24 = 0
          · subst hz4
            go_wp2_with fail
            refine (M34.out _ B5.out).mono ?_
            rintro e w6 ⟨ad, cc, rfl, hb⟩
            have B6 := Lib.hid hb
            clear hb
            by_cases hz5 : m34 = 0
            · subst hz5
              go_wp2_with fail
              go_ret
              exact ⟨ret_bool (by rw [HR.out]; try simp), B6.out⟩
            · have hd : (((m34 : Nat) : Int) == 0) = false := by simp; omega
              have HZ := Lib.hid hz5
              clear hz5
              go_wp2_with fail
              go_ret
              exact ⟨ret_bool (by rw [HR.out, decide_eq_false HZ.out]; try simp), B6.out⟩
          · have hd : (((m24 : Nat) : Int) == 0) = false := by simp; omega
            have HZ := Lib.hid hz4
            clear hz4
            go_wp2_with fail
            go_ret
            exact ⟨ret_bool (by rw [HR.out, decide_eq_false HZ.out]; try simp), B5.out⟩
        · have hd : (((m23 : Nat) : Int) == 0) = false := by simp; omega
          have HZ := Lib.hid hz3
          clear hz3
          go_wp2_with fail
          go_ret
          exact ⟨ret_bool (by rw [HR.out, decide_eq_false HZ.out]; try simp), B4.out⟩

end Go.Proofs.YtfhjhfhfbgddeaaGreatDoor

/-
  The contract of the program's stepsOk: it answers as the model's condition on steps. Conditions: the automaton's lists have at most 2^20 elements.
-/
namespace Go.Proofs.YtfhjhfhfbgddeaaGreatDoor
open Go.RowKit

set_option maxRecDepth 20000 in
set_option maxHeartbeats 6400000 in
theorem stepsOk_any (st it : Int) (a2 : Option Addr) (n2 c2 : Nat) (a3 : Option Addr) (n3 c3 : Nat) (a4 : Option Addr) (n4 c4 : Nat) (a5 : Option Addr) (n5 c5 : Nat) (ins outs hids : List Int) (steps : List St) (w : World)
    (r2 : Row w a2 n2 ins) (r3 : Row w a3 n3 outs) (r4 : Row w a4 n4 hids) (r5 : RowS w a5 n5 steps) (f2 : n2 ≤ 1048576) (f3 : n3 ≤ 1048576) (f4 : n4 ≤ 1048576) (f5 : n5 ≤ 1048576) :
    Calls Tryz.prog 36 #[.agg #[.int .i64 st, .int .i64 it, .slice a2 n2 c2, .slice a3 n3 c3, .slice a4 n4 c4, .slice a5 n5 c5]] w fun e w' => e = .returned (.bool (decide (n5 ≤ 400) && stepsB ⟨st, it, ins, outs, hids, steps⟩ steps)) ∧ Below w.heap.size w w' := by
  have R2 := Lib.hid r2
  have R3 := Lib.hid r3
  have R4 := Lib.hid r4
  have HL5 := Lib.hid r5.1
  have HC5 := Lib.hid r5.2
  clear r2 r3 r4 r5
  obtain ⟨r, hr⟩ : ∃ r, r = (decide (n5 ≤ 400) && stepsB ⟨st, it, ins, outs, hids, steps⟩ steps) := ⟨_, rfl⟩
  rw [← hr]
  have HR := Lib.hid hr
  clear hr
  have V0 := Lib.hid (VarIs.new w #[.int .i64 st, .int .i64 it, .slice a2 n2 c2, .slice a3 n3 c3, .slice a4 n4 c4, .slice a5 n5 c5] 27 rfl)
  have B0 : Hid (∀ o, Below w.heap.size w (w.alloc o)) := fun o => (Below.refl _ _).alloc (Nat.le_refl _) _
  by_cases h4 : n5 ≤ 400
  · have HR2 : Hid (r = stepsB ⟨st, it, ins, outs, hids, steps⟩ steps) := by
      have := HR.out
      rwa [decide_eq_true h4, Bool.true_and] at this
    clear HR
    go_enter Tryz.func36, Tryz.ntmps36
    go_wp2_with fail
    go_loopw [12] (fun i wr => ∃ k : Nat, k ≤ n5 ∧ i = .int .i64 k ∧ Hid (stepsB ⟨st, it, ins, outs, hids, steps⟩ (steps.take k) = true) ∧ Below w.heap.size w wr ∧ Hid (VarIs wr w.heap.size #[.int .i64 st, .int .i64 it, .slice a2 n2 c2, .slice a3 n3 c3, .slice a4 n4 c4, .slice a5 n5 c5] 27)) (fun i _ => n5 - (intOf i).toNat)
    case atStart => exact ⟨0, Nat.zero_le _, rfl, by simp [Hid, stepsB], B0.out _, V0.out⟩
    case round =>
      obtain ⟨k, hk, rfl, HT, hnx, HV⟩ := hrel
      by_cases hlt : k < n5
      · obtain ⟨b, off, rfl, hb, hcell⟩ := HC5.out (by omega)
        have hb0 := Lib.hid hb
        have kb := HV.out.cell (j := 5) rfl
        have hkx : k < steps.length := by rw [HL5.out]; exact hlt
        obtain ⟨⟨x, y, z⟩, hs⟩ : ∃ t, t = steps[k] := ⟨_, rfl⟩
        obtain ⟨d0, d1, d2⟩ := hcell k steps[k] (List.getElem?_eq_getElem hkx)
        rw [← hs] at d0 d1 d2
        have HS := Lib.hid hs
        have g0 := (hnx.cell (p := ⟨b, off + k * 3, none⟩) hb).trans d0
        have g1 := (hnx.cell (p := ⟨b, off + k * 3 + 1, none⟩) hb).trans d1
        have g2 := (hnx.cell (p := ⟨b, off + k * 3 + 2, none⟩) hb).trans d2
        simp only at g0 g1 g2
        have HVA := Lib.hid (HV.out.alloc (.cells #[.int .i64 x, .int .i64 y, .int .i64 z] 47))
        have HX := Lib.hid (VarIs.new wr #[.int .i64 x, .int .i64 y, .int .i64 z] 47 rfl)
        have BX := Lib.hid (hnx.alloc hnx.size (.cells #[.int .i64 x, .int .i64 y, .int .i64 z] 47))
        have HCL := Lib.hid hcell
        clear d0 d1 d2 hs hcell
        by_cases hg : goodStepB ⟨st, it, ins, outs, hids, steps⟩ (x, y, z) = true
        · have HP : Hid ((btw x 0 (st - 1) && btw z 0 (st - 1) && (hasB ins y || hasB outs y || hasB hids y)) = true) := hg
          have HG := Lib.hid hg
          clear hg
          by_cases h0 : 0 < k
          · obtain ⟨⟨x', y', z'⟩, hs'⟩ : ∃ t, t = steps[k - 1]'(by omega) := ⟨_, rfl⟩
            obtain ⟨d0, d1, d2⟩ := HCL.out (k - 1) (steps[k - 1]'(by omega)) (List.getElem?_eq_getElem (by omega))
            rw [← hs'] at d0 d1 d2
            obtain ⟨f, hf⟩ : ∃ f, f = followB ins (x', y', z') (x, y, z) := ⟨_, rfl⟩
            have HF := Lib.hid hf.symm
            have HN : Hid (stepsB ⟨st, it, ins, outs, hids, steps⟩ (steps.take (k + 1)) = f) := by
              unfold Hid
              rw [stepsB_at _ _ k h0 hkx, HT.out, ← HS.out, ← hs', HG.out, Bool.true_and, Bool.and_true, hf]
              rfl
            have HNF : Hid (f = false → r = false) := fun h => by
              rw [HR2.out]
              refine stepsB_off _ _ k h0 hkx ?_
              rw [← HS.out, ← hs', ← h, hf]
              rfl
            obtain ⟨j, hj⟩ : ∃ j, j = k - 1 := ⟨_, rfl⟩
            rw [← hj] at d0 d1 d2
            have e0 := Lib.hid d0
            have e1 := Lib.hid d1
            have e2 := Lib.hid d2
            have hw1 : IntKind.i64.wrap ((k : Int) - 1) = (j : Int) := by rw [IntWalk.i64_in _ (by omega)]; omega
            have hw3 : j < n5 := by omega
            have hw4 : (j : Int) < (n5 : Int) := by omega
            have HJ := Lib.hid hj
            clear hj
            clear d0 d1 d2 hs' hf
            have CS : Hid (∀ W, Below w.heap.size w W ∧ VarIs W w.heap.size #[.int .i64 st, .int .i64 it, .slice a2 n2 c2, .slice a3 n3 c3, .slice a4 n4 c4, .slice (some ⟨b, off, none⟩) n5 c5] 27 ∧ VarIs W wr.heap.size #[.int .i64 x, .int .i64 y, .int .i64 z] 47 ∧ W.cell? ⟨w.heap.size, 0, none⟩ = some (.int .i64 st) ∧ W.cell? ⟨w.heap.size, 1, none⟩ = some (.int .i64 it) ∧ W.cell? ⟨w.heap.size, 2, none⟩ = some (.slice a2 n2 c2) ∧ W.cell? ⟨w.heap.size, 3, none⟩ = some (.slice a3 n3 c3) ∧ W.cell? ⟨w.heap.size, 4, none⟩ = some (.slice a4 n4 c4) ∧ W.cell? ⟨w.heap.size, 5, none⟩ = some (.slice (some ⟨b, off, none⟩) n5 c5) ∧ W.cell? ⟨wr.heap.size, 0, none⟩ = some (.int .i64 x) ∧ W.cell? ⟨wr.heap.size, 1, none⟩ = some (.int .i64 y) ∧ W.cell? ⟨wr.heap.size, 2, none⟩ = some (.int .i64 z) ∧ W.cell? ⟨b, off + j * 3, none⟩ = some (.int .i64 x') ∧ W.cell? ⟨b, off + j * 3 + 1, none⟩ = some (.int .i64 y') ∧ W.cell? ⟨b, off + j * 3 + 2, none⟩ = some (.int .i64 z') → Calls Tryz.prog 52 #[.agg #[.int .i64 st, .int .i64 it, .slice a2 n2 c2, .slice a3 n3 c3, .slice a4 n4 c4, .slice (some ⟨b, off, none⟩) n5 c5], .agg #[.int .i64 x, .int .i64 y, .int .i64 z]] W fun e w' => e = .returned (.bool true) ∧ (Below w.heap.size w w' ∧ VarIs w' w.heap.size #[.int .i64 st, .int .i64 it, .slice a2 n2 c2, .slice a3 n3 c3, .slice a4 n4 c4, .slice (some ⟨b, off, none⟩) n5 c5] 27 ∧ VarIs w' wr.heap.size #[.int .i64 x, .int .i64 y, .int .i64 z] 47 ∧ w'.cell? ⟨w.heap.size, 0, none⟩ = some (.int .i64 st) ∧ w'.cell? ⟨w.heap.size, 1, none⟩ = some (.int .i64 it) ∧ w'.cell? ⟨w.heap.size, 2, none⟩ = some (.slice a2 n2 c2) ∧ w'.cell? ⟨w.heap.size, 3, none⟩ = some (.slice a3 n3 c3) ∧ w'.cell? ⟨w.heap.size, 4, none⟩ = some (.slice a4 n4 c4) ∧ w'.cell? ⟨w.heap.size, 5, none⟩ = some (.slice (some ⟨b, off, none⟩) n5 c5) ∧ w'.cell? ⟨wr.heap.size, 0, none⟩ = some (.int .i64 x) ∧ w'.cell? ⟨wr.heap.size, 1, none⟩ = some (.int .i64 y) ∧ w'.cell? ⟨wr.heap.size, 2, none⟩ = some (.int .i64 z) ∧ w'.cell? ⟨b, off + j * 3, none⟩ = some (.int .i64 x') ∧ w'.cell? ⟨b, off + j * 3 + 1, none⟩ = some (.int .i64 y') ∧ w'.cell? ⟨b, off + j * 3 + 2, none⟩ = some (.int .i64 z'))) := fun W hW =>
              (stepOk_any st it a2 n2 c2 a3 n3 c3 a4 n4 c4 _ ins outs hids x y z W (R2.out.below hW.1) (R3.out.below hW.1) (R4.out.below hW.1) f2 f3 f4).mono fun e w' ⟨he, hb⟩ => ⟨by rw [he]; exact congrArg (fun q => Ending.returned (.bool q)) HP.out, ⟨hW.1.trans (hb.mono hW.1.size), hW.2.1.below hb, hW.2.2.1.below hb, (hW.2.1.below hb).cell rfl, (hW.2.1.below hb).cell rfl, (hW.2.1.below hb).cell rfl, (hW.2.1.below hb).cell rfl, (hW.2.1.below hb).cell rfl, (hW.2.1.below hb).cell rfl, (hW.2.2.1.below hb).cell rfl, (hW.2.2.1.below hb).cell rfl, (hW.2.2.1.below hb).cell rfl, ((hW.1.trans (hb.mono hW.1.size)).cell (p := ⟨b, off + j * 3, none⟩) hb0.out).trans e0.out, ((hW.1.trans (hb.mono hW.1.size)).cell (p := ⟨b, off + j * 3 + 1, none⟩) hb0.out).trans e1.out, ((hW.1.trans (hb.mono hW.1.size)).cell (p := ⟨b, off + j * 3 + 2, none⟩) hb0.out).trans e2.out⟩⟩
            have CF : Hid (∀ W, Below w.heap.size w W ∧ VarIs W w.heap.size #[.int .i64 st, .int .i64 it, .slice a2 n2 c2, .slice a3 n3 c3, .slice a4 n4 c4, .slice (some ⟨b, off, none⟩) n5 c5] 27 ∧ VarIs W wr.heap.size #[.int .i64 x, .int .i64 y, .int .i64 z] 47 ∧ W.cell? ⟨w.heap.size, 0, none⟩ = some (.int .i64 st) ∧ W.cell? ⟨w.heap.size, 1, none⟩ = some (.int .i64 it) ∧ W.cell? ⟨w.heap.size, 2, none⟩ = some (.slice a2 n2 c2) ∧ W.cell? ⟨w.heap.size, 3, none⟩ = some (.slice a3 n3 c3) ∧ W.cell? ⟨w.heap.size, 4, none⟩ = some (.slice a4 n4 c4) ∧ W.cell? ⟨w.heap.size, 5, none⟩ = some (.slice (some ⟨b, off, none⟩) n5 c5) ∧ W.cell? ⟨wr.heap.size, 0, none⟩ = some (.int .i64 x) ∧ W.cell? ⟨wr.heap.size, 1, none⟩ = some (.int .i64 y) ∧ W.cell? ⟨wr.heap.size, 2, none⟩ = some (.int .i64 z) ∧ W.cell? ⟨b, off + j * 3, none⟩ = some (.int .i64 x') ∧ W.cell? ⟨b, off + j * 3 + 1, none⟩ = some (.int .i64 y') ∧ W.cell? ⟨b, off + j * 3 + 2, none⟩ = some (.int .i64 z') → Calls Tryz.prog 53 #[.agg #[.int .i64 st, .int .i64 it, .slice a2 n2 c2, .slice a3 n3 c3, .slice a4 n4 c4, .slice (some ⟨b, off, none⟩) n5 c5], .agg #[.int .i64 x', .int .i64 y', .int .i64 z'], .agg #[.int .i64 x, .int .i64 y, .int .i64 z]] W fun e w' => e = .returned (.bool f) ∧ (Below w.heap.size w w' ∧ VarIs w' w.heap.size #[.int .i64 st, .int .i64 it, .slice a2 n2 c2, .slice a3 n3 c3, .slice a4 n4 c4, .slice (some ⟨b, off, none⟩) n5 c5] 27 ∧ VarIs w' wr.heap.size #[.int .i64 x, .int .i64 y, .int .i64 z] 47 ∧ w'.cell? ⟨w.heap.size, 0, none⟩ = some (.int .i64 st) ∧ w'.cell? ⟨w.heap.size, 1, none⟩ = some (.int .i64 it) ∧ w'.cell? ⟨w.heap.size, 2, none⟩ = some (.slice a2 n2 c2) ∧ w'.cell? ⟨w.heap.size, 3, none⟩ = some (.slice a3 n3 c3) ∧ w'.cell? ⟨w.heap.size, 4, none⟩ = some (.slice a4 n4 c4) ∧ w'.cell? ⟨w.heap.size, 5, none⟩ = some (.slice (some ⟨b, off, none⟩) n5 c5) ∧ w'.cell? ⟨wr.heap.size, 0, none⟩ = some (.int .i64 x) ∧ w'.cell? ⟨wr.heap.size, 1, none⟩ = some (.int .i64 y) ∧ w'.cell? ⟨wr.heap.size, 2, none⟩ = some (.int .i64 z) ∧ w'.cell? ⟨b, off + j * 3, none⟩ = some (.int .i64 x') ∧ w'.cell? ⟨b, off + j * 3 + 1, none⟩ = some (.int .i64 y') ∧ w'.cell? ⟨b, off + j * 3 + 2, none⟩ = some (.int .i64 z'))) := fun W hW =>
              (mayFollow_any st it a2 n2 c2 _ _ _ ins x' y' z' x y z W (R2.out.below hW.1) f2).mono fun e w' ⟨he, hb⟩ => ⟨by rw [he, HF.out], ⟨hW.1.trans (hb.mono hW.1.size), hW.2.1.below hb, hW.2.2.1.below hb, (hW.2.1.below hb).cell rfl, (hW.2.1.below hb).cell rfl, (hW.2.1.below hb).cell rfl, (hW.2.1.below hb).cell rfl, (hW.2.1.below hb).cell rfl, (hW.2.1.below hb).cell rfl, (hW.2.2.1.below hb).cell rfl, (hW.2.2.1.below hb).cell rfl, (hW.2.2.1.below hb).cell rfl, ((hW.1.trans (hb.mono hW.1.size)).cell (p := ⟨b, off + j * 3, none⟩) hb0.out).trans e0.out, ((hW.1.trans (hb.mono hW.1.size)).cell (p := ⟨b, off + j * 3 + 1, none⟩) hb0.out).trans e1.out, ((hW.1.trans (hb.mono hW.1.size)).cell (p := ⟨b, off + j * 3 + 2, none⟩) hb0.out).trans e2.out⟩⟩
            have S0 : Below w.heap.size w (wr.alloc (.cells #[.int .i64 x, .int .i64 y, .int .i64 z] 47)).drew ∧ VarIs (wr.alloc (.cells #[.int .i64 x, .int .i64 y, .int .i64 z] 47)).drew w.heap.size #[.int .i64 st, .int .i64 it, .slice a2 n2 c2, .slice a3 n3 c3, .slice a4 n4 c4, .slice (some ⟨b, off, none⟩) n5 c5] 27 ∧ VarIs (wr.alloc (.cells #[.int .i64 x, .int .i64 y, .int .i64 z] 47)).drew wr.heap.size #[.int .i64 x, .int .i64 y, .int .i64 z] 47 ∧ (wr.alloc (.cells #[.int .i64 x, .int .i64 y, .int .i64 z] 47)).drew.cell? ⟨w.heap.size, 0, none⟩ = some (.int .i64 st) ∧ (wr.alloc (.cells #[.int .i64 x, .int .i64 y, .int .i64 z] 47)).drew.cell? ⟨w.heap.size, 1, none⟩ = some (.int .i64 it) ∧ (wr.alloc (.cells #[.int .i64 x, .int .i64 y, .int .i64 z] 47)).drew.cell? ⟨w.heap.size, 2, none⟩ = some (.slice a2 n2 c2) ∧ (wr.alloc (.cells #[.int .i64 x, .int .i64 y, .int .i64 z] 47)).drew.cell? ⟨w.heap.size, 3, none⟩ = some (.slice a3 n3 c3) ∧ (wr.alloc (.cells #[.int .i64 x, .int .i64 y, .int .i64 z] 47)).drew.cell? ⟨w.heap.size, 4, none⟩ = some (.slice a4 n4 c4) ∧ (wr.alloc (.cells #[.int .i64 x, .int .i64 y, .int .i64 z] 47)).drew.cell? ⟨w.heap.size, 5, none⟩ = some (.slice (some ⟨b, off, none⟩) n5 c5) ∧ (wr.alloc (.cells #[.int .i64 x, .int .i64 y, .int .i64 z] 47)).drew.cell? ⟨wr.heap.size, 0, none⟩ = some (.int .i64 x) ∧ (wr.alloc (.cells #[.int .i64 x, .int .i64 y, .int .i64 z] 47)).drew.cell? ⟨wr.heap.size, 1, none⟩ = some (.int .i64 y) ∧ (wr.alloc (.cells #[.int .i64 x, .int .i64 y, .int .i64 z] 47)).drew.cell? ⟨wr.heap.size, 2, none⟩ = some (.int .i64 z) ∧ (wr.alloc (.cells #[.int .i64 x, .int .i64 y, .int .i64 z] 47)).drew.cell? ⟨b, off + j * 3, none⟩ = some (.int .i64 x') ∧ (wr.alloc (.cells #[.int .i64 x, .int .i64 y, .int .i64 z] 47)).drew.cell? ⟨b, off + j * 3 + 1, none⟩ = some (.int .i64 y') ∧ (wr.alloc (.cells #[.int .i64 x, .int .i64 y, .int .i64 z] 47)).drew.cell? ⟨b, off + j * 3 + 2, none⟩ = some (.int .i64 z') := ⟨BX.out.drew, HVA.out, HX.out, HVA.out.cell rfl, HVA.out.cell rfl, HVA.out.cell rfl, HVA.out.cell rfl, HVA.out.cell rfl, HVA.out.cell rfl, HX.out.cell rfl, HX.out.cell rfl, HX.out.cell rfl, (BX.out.drew.cell (p := ⟨b, off + j * 3, none⟩) hb0.out).trans e0.out, (BX.out.drew.cell (p := ⟨b, off + j * 3 + 1, none⟩) hb0.out).trans e1.out, (BX.out.drew.cell (p := ⟨b, off + j * 3 + 2, none⟩) hb0.out).trans e2.out⟩
            go_wp2_with fail
            clear g0 g1 g2 kb
            go_region_held3 (fun w' => Below w.heap.size w w' ∧ VarIs w' w.heap.size #[.int .i64 st, .int .i64 it, .slice a2 n2 c2, .slice a3 n3 c3, .slice a4 n4 c4, .slice (some ⟨b, off, none⟩) n5 c5] 27 ∧ VarIs w' wr.heap.size #[.int .i64 x, .int .i64 y, .int .i64 z] 47 ∧ w'.cell? ⟨w.heap.size, 0, none⟩ = some (.int .i64 st) ∧ w'.cell? ⟨w.heap.size, 1, none⟩ = some (.int .i64 it) ∧ w'.cell? ⟨w.heap.size, 2, none⟩ = some (.slice a2 n2 c2) ∧ w'.cell? ⟨w.heap.size, 3, none⟩ = some (.slice a3 n3 c3) ∧ w'.cell? ⟨w.heap.size, 4, none⟩ = some (.slice a4 n4 c4) ∧ w'.cell? ⟨w.heap.size, 5, none⟩ = some (.slice (some ⟨b, off, none⟩) n5 c5) ∧ w'.cell? ⟨wr.heap.size, 0, none⟩ = some (.int .i64 x) ∧ w'.cell? ⟨wr.heap.size, 1, none⟩ = some (.int .i64 y) ∧ w'.cell? ⟨wr.heap.size, 2, none⟩ = some (.int .i64 z) ∧ w'.cell? ⟨b, off + j * 3, none⟩ = some (.int .i64 x') ∧ w'.cell? ⟨b, off + j * 3 + 1, none⟩ = some (.int .i64 y') ∧ w'.cell? ⟨b, off + j * 3 + 2, none⟩ = some (.int .i64 z'))
              (first | exact hS2 | exact hS1 | exact S0)
              ((first | (go_at_call 52; refine (CS.out _ S0).mono ?_; rintro e w' ⟨rfl, hS1⟩) | (go_at_call 53; refine (CF.out _ hS1).mono ?_; rintro e w' ⟨rfl, hS2⟩)))
            have B5 := Lib.hid hS2.1
            have V5 := Lib.hid hS2.2.1
            clear S0 hS1 hS2 CF CS
            cases f with
            | true =>
              go_wp2_with fail
              go_roundw
              case rel => exact ⟨k + 1, by omega, by go_num, HN.out, B5.out, V5.out⟩
              case measure => simp [intOf]; omega
            | false =>
              go_wp2_with fail
              go_ret
              exact ⟨ret_bool (HNF.out (by simp)).symm, B5.out⟩
          · have hd : decide ((0 : Int) < (k : Int)) = false := by simp; omega
            have hd2 : decide (0 < k) = false := by simp; omega
            have HZ : Hid (stepsB ⟨st, it, ins, outs, hids, steps⟩ (steps.take (k + 1)) = true) := by
              unfold Hid
              rw [stepsB_zero _ _ k h0 hkx, ← HS.out]
              exact HG.out
            clear h0
            have CS : Hid (∀ W, Below w.heap.size w W ∧ VarIs W w.heap.size #[.int .i64 st, .int .i64 it, .slice a2 n2 c2, .slice a3 n3 c3, .slice a4 n4 c4, .slice (some ⟨b, off, none⟩) n5 c5] 27 ∧ VarIs W wr.heap.size #[.int .i64 x, .int .i64 y, .int .i64 z] 47 ∧ W.cell? ⟨w.heap.size, 0, none⟩ = some (.int .i64 st) ∧ W.cell? ⟨w.heap.size, 1, none⟩ = some (.int .i64 it) ∧ W.cell? ⟨w.heap.size, 2, none⟩ = some (.slice a2 n2 c2) ∧ W.cell? ⟨w.heap.size, 3, none⟩ = some (.slice a3 n3 c3) ∧ W.cell? ⟨w.heap.size, 4, none⟩ = some (.slice a4 n4 c4) ∧ W.cell? ⟨w.heap.size, 5, none⟩ = some (.slice (some ⟨b, off, none⟩) n5 c5) ∧ W.cell? ⟨wr.heap.size, 0, none⟩ = some (.int .i64 x) ∧ W.cell? ⟨wr.heap.size, 1, none⟩ = some (.int .i64 y) ∧ W.cell? ⟨wr.heap.size, 2, none⟩ = some (.int .i64 z) → Calls Tryz.prog 52 #[.agg #[.int .i64 st, .int .i64 it, .slice a2 n2 c2, .slice a3 n3 c3, .slice a4 n4 c4, .slice (some ⟨b, off, none⟩) n5 c5], .agg #[.int .i64 x, .int .i64 y, .int .i64 z]] W fun e w' => e = .returned (.bool true) ∧ (Below w.heap.size w w' ∧ VarIs w' w.heap.size #[.int .i64 st, .int .i64 it, .slice a2 n2 c2, .slice a3 n3 c3, .slice a4 n4 c4, .slice (some ⟨b, off, none⟩) n5 c5] 27 ∧ VarIs w' wr.heap.size #[.int .i64 x, .int .i64 y, .int .i64 z] 47 ∧ w'.cell? ⟨w.heap.size, 0, none⟩ = some (.int .i64 st) ∧ w'.cell? ⟨w.heap.size, 1, none⟩ = some (.int .i64 it) ∧ w'.cell? ⟨w.heap.size, 2, none⟩ = some (.slice a2 n2 c2) ∧ w'.cell? ⟨w.heap.size, 3, none⟩ = some (.slice a3 n3 c3) ∧ w'.cell? ⟨w.heap.size, 4, none⟩ = some (.slice a4 n4 c4) ∧ w'.cell? ⟨w.heap.size, 5, none⟩ = some (.slice (some ⟨b, off, none⟩) n5 c5) ∧ w'.cell? ⟨wr.heap.size, 0, none⟩ = some (.int .i64 x) ∧ w'.cell? ⟨wr.heap.size, 1, none⟩ = some (.int .i64 y) ∧ w'.cell? ⟨wr.heap.size, 2, none⟩ = some (.int .i64 z))) := fun W hW =>
              (stepOk_any st it a2 n2 c2 a3 n3 c3 a4 n4 c4 _ ins outs hids x y z W (R2.out.below hW.1) (R3.out.below hW.1) (R4.out.below hW.1) f2 f3 f4).mono fun e w' ⟨he, hb⟩ => ⟨by rw [he]; exact congrArg (fun q => Ending.returned (.bool q)) HP.out, ⟨hW.1.trans (hb.mono hW.1.size), hW.2.1.below hb, hW.2.2.1.below hb, (hW.2.1.below hb).cell rfl, (hW.2.1.below hb).cell rfl, (hW.2.1.below hb).cell rfl, (hW.2.1.below hb).cell rfl, (hW.2.1.below hb).cell rfl, (hW.2.1.below hb).cell rfl, (hW.2.2.1.below hb).cell rfl, (hW.2.2.1.below hb).cell rfl, (hW.2.2.1.below hb).cell rfl⟩⟩
            have S0 : Below w.heap.size w (wr.alloc (.cells #[.int .i64 x, .int .i64 y, .int .i64 z] 47)).drew ∧ VarIs (wr.alloc (.cells #[.int .i64 x, .int .i64 y, .int .i64 z] 47)).drew w.heap.size #[.int .i64 st, .int .i64 it, .slice a2 n2 c2, .slice a3 n3 c3, .slice a4 n4 c4, .slice (some ⟨b, off, none⟩) n5 c5] 27 ∧ VarIs (wr.alloc (.cells #[.int .i64 x, .int .i64 y, .int .i64 z] 47)).drew wr.heap.size #[.int .i64 x, .int .i64 y, .int .i64 z] 47 ∧ (wr.alloc (.cells #[.int .i64 x, .int .i64 y, .int .i64 z] 47)).drew.cell? ⟨w.heap.size, 0, none⟩ = some (.int .i64 st) ∧ (wr.alloc (.cells #[.int .i64 x, .int .i64 y, .int .i64 z] 47)).drew.cell? ⟨w.heap.size, 1, none⟩ = some (.int .i64 it) ∧ (wr.alloc (.cells #[.int .i64 x, .int .i64 y, .int .i64 z] 47)).drew.cell? ⟨w.heap.size, 2, none⟩ = some (.slice a2 n2 c2) ∧ (wr.alloc (.cells #[.int .i64 x, .int .i64 y, .int .i64 z] 47)).drew.cell? ⟨w.heap.size, 3, none⟩ = some (.slice a3 n3 c3) ∧ (wr.alloc (.cells #[.int .i64 x, .int .i64 y, .int .i64 z] 47)).drew.cell? ⟨w.heap.size, 4, none⟩ = some (.slice a4 n4 c4) ∧ (wr.alloc (.cells #[.int .i64 x, .int .i64 y, .int .i64 z] 47)).drew.cell? ⟨w.heap.size, 5, none⟩ = some (.slice (some ⟨b, off, none⟩) n5 c5) ∧ (wr.alloc (.cells #[.int .i64 x, .int .i64 y, .int .i64 z] 47)).drew.cell? ⟨wr.heap.size, 0, none⟩ = some (.int .i64 x) ∧ (wr.alloc (.cells #[.int .i64 x, .int .i64 y, .int .i64 z] 47)).drew.cell? ⟨wr.heap.size, 1, none⟩ = some (.int .i64 y) ∧ (wr.alloc (.cells #[.int .i64 x, .int .i64 y, .int .i64 z] 47)).drew.cell? ⟨wr.heap.size, 2, none⟩ = some (.int .i64 z) := ⟨BX.out.drew, HVA.out, HX.out, HVA.out.cell rfl, HVA.out.cell rfl, HVA.out.cell rfl, HVA.out.cell rfl, HVA.out.cell rfl, HVA.out.cell rfl, HX.out.cell rfl, HX.out.cell rfl, HX.out.cell rfl⟩
            go_wp2_with fail
            clear g0 g1 g2 kb
            refine wp_region_held_drew (S := fun w' => Below w.heap.size w w' ∧ VarIs w' w.heap.size #[.int .i64 st, .int .i64 it, .slice a2 n2 c2, .slice a3 n3 c3, .slice a4 n4 c4, .slice (some ⟨b, off, none⟩) n5 c5] 27 ∧ VarIs w' wr.heap.size #[.int .i64 x, .int .i64 y, .int .i64 z] 47 ∧ w'.cell? ⟨w.heap.size, 0, none⟩ = some (.int .i64 st) ∧ w'.cell? ⟨w.heap.size, 1, none⟩ = some (.int .i64 it) ∧ w'.cell? ⟨w.heap.size, 2, none⟩ = some (.slice a2 n2 c2) ∧ w'.cell? ⟨w.heap.size, 3, none⟩ = some (.slice a3 n3 c3) ∧ w'.cell? ⟨w.heap.size, 4, none⟩ = some (.slice a4 n4 c4) ∧ w'.cell? ⟨w.heap.size, 5, none⟩ = some (.slice (some ⟨b, off, none⟩) n5 c5) ∧ w'.cell? ⟨wr.heap.size, 0, none⟩ = some (.int .i64 x) ∧ w'.cell? ⟨wr.heap.size, 1, none⟩ = some (.int .i64 y) ∧ w'.cell? ⟨wr.heap.size, 2, none⟩ = some (.int .i64 z)) (by kernel_rfl) S0 (fun hHeld => ?_)
            change wpAnyH _ _ _ _ _ 20 (Array.replicate 20 false) _ _
            refine take_op 0 17 (.agg #[.int .i64 st, .int .i64 it, .slice a2 n2 c2, .slice a3 n3 c3, .slice a4 n4 c4, .slice (some ⟨b, off, none⟩) n5 c5]) (fuel := 19) rfl rfl (by kernel_rfl) (by kernel_rfl) (by kernel_rfl) (fun _ _ _ h => h) (by rfl) (fun w hSw => by go_simp) hHeld ?_
            simp only [Act.put, List.setIfInBounds_toArray, List.set_cons_zero, List.set_cons_succ]
            refine take_op 1 18 (.agg #[.int .i64 x, .int .i64 y, .int .i64 z]) (fuel := 18) rfl rfl (by kernel_rfl) (by kernel_rfl) (by kernel_rfl) (fun _ _ _ h => h) (by rfl) (fun w hSw => by go_simp) hHeld ?_
            simp only [Act.put, List.setIfInBounds_toArray, List.set_cons_zero, List.set_cons_succ]
            refine wpAnyH_ready (rs := [2]) (fuel := 17) (by kernel_rfl) (by simp) ?_
            refine AllReadyH.cons rfl (fun K hK => ?_) AllReadyH.nil
            go_simp
            refine (CS.out _ S0).mono ?_
            rintro e w' ⟨rfl, hS1⟩
            go_wp2_with fail
            refine hK.out _ _ hS1 (fun hHeld => ?_)
            clear hK K
            refine take_op 3 20 (.bool false) (fuel := 16) rfl rfl (by kernel_rfl) (by kernel_rfl) (by kernel_rfl) (fun _ _ _ h => h) (by rfl) (fun w hSw => by go_simp) hHeld ?_
            simp only [Act.put, List.setIfInBounds_toArray, List.set_cons_zero, List.set_cons_succ]
            refine take_op 4 21 (.bool false) (fuel := 15) rfl rfl (by kernel_rfl) (by kernel_rfl) (by kernel_rfl) (fun _ _ _ h => h) (by rfl) (fun w hSw => by go_simp) hHeld ?_
            simp only [Act.put, List.setIfInBounds_toArray, List.set_cons_zero, List.set_cons_succ]
            refine take_op 5 22 (.int .i64 k) (fuel := 14) rfl rfl (by kernel_rfl) (by kernel_rfl) (by kernel_rfl) (fun _ _ _ h => h) (by rfl) (fun w hSw => by go_simp) hHeld ?_
            simp only [Act.put, List.setIfInBounds_toArray, List.set_cons_zero, List.set_cons_succ]
            refine take_op 6 23 (.bool false) (fuel := 13) rfl rfl (by kernel_rfl) (by kernel_rfl) (by kernel_rfl) (fun _ _ _ h => h) (by rfl) (fun w hSw => by go_simp) hHeld ?_
            simp only [Act.put, List.setIfInBounds_toArray, List.set_cons_zero, List.set_cons_succ]
            refine take_op 7 24 (.bool false) (fuel := 12) rfl rfl (by kernel_rfl) (by kernel_rfl) (by kernel_rfl) (fun _ _ _ h => h) (by rfl) (fun w hSw => by go_simp) hHeld ?_
            simp only [Act.put, List.setIfInBounds_toArray, List.set_cons_zero, List.set_cons_succ]
            refine skip_op 8 25 (fuel := 11) rfl rfl (by kernel_rfl) (by kernel_rfl) (by kernel_rfl) (fun _ _ _ h => h) (by rfl) hHeld ?_
            simp only [Act.put, List.setIfInBounds_toArray, List.set_cons_zero, List.set_cons_succ]
            refine skip_op 9 26 (fuel := 10) rfl rfl (by kernel_rfl) (by kernel_rfl) (by kernel_rfl) (fun _ _ _ h => h) (by rfl) hHeld ?_
            simp only [Act.put, List.setIfInBounds_toArray, List.set_cons_zero, List.set_cons_succ]
            refine skip_op 10 27 (fuel := 9) rfl rfl (by kernel_rfl) (by kernel_rfl) (by kernel_rfl) (fun _ _ _ h => h) (by rfl) hHeld ?_
            simp only [Act.put, List.setIfInBounds_toArray, List.set_cons_zero, List.set_cons_succ]
            refine skip_op 11 28 (fuel := 8) rfl rfl (by kernel_rfl) (by kernel_rfl) (by kernel_rfl) (fun _ _ _ h => h) (by rfl) hHeld ?_
            simp only [Act.put, List.setIfInBounds_toArray, List.set_cons_zero, List.set_cons_succ]
            refine skip_op 12 29 (fuel := 7) rfl rfl (by kernel_rfl) (by kernel_rfl) (by kernel_rfl) (fun _ _ _ h => h) (by rfl) hHeld ?_
            simp only [Act.put, List.setIfInBounds_toArray, List.set_cons_zero, List.set_cons_succ]
            refine skip_op 13 30 (fuel := 6) rfl rfl (by kernel_rfl) (by kernel_rfl) (by kernel_rfl) (fun _ _ _ h => h) (by rfl) hHeld ?_
            simp only [Act.put, List.setIfInBounds_toArray, List.set_cons_zero, List.set_cons_succ]
            refine skip_op 14 31 (fuel := 5) rfl rfl (by kernel_rfl) (by kernel_rfl) (by kernel_rfl) (fun _ _ _ h => h) (by rfl) hHeld ?_
            simp only [Act.put, List.setIfInBounds_toArray, List.set_cons_zero, List.set_cons_succ]
            refine skip_op 15 32 (fuel := 4) rfl rfl (by kernel_rfl) (by kernel_rfl) (by kernel_rfl) (fun _ _ _ h => h) (by rfl) hHeld ?_
            simp only [Act.put, List.setIfInBounds_toArray, List.set_cons_zero, List.set_cons_succ]
            refine skip_op 16 33 (fuel := 3) rfl rfl (by kernel_rfl) (by kernel_rfl) (by kernel_rfl) (fun _ _ _ h => h) (by rfl) hHeld ?_
            simp only [Act.put, List.setIfInBounds_toArray, List.set_cons_zero, List.set_cons_succ]
            refine skip_op 17 34 (fuel := 2) rfl rfl (by kernel_rfl) (by kernel_rfl) (by kernel_rfl) (fun _ _ _ h => h) (by rfl) hHeld ?_
            simp only [Act.put, List.setIfInBounds_toArray, List.set_cons_zero, List.set_cons_succ]
            refine take_op 18 35 (.bool false) (fuel := 1) rfl rfl (by kernel_rfl) (by kernel_rfl) (by kernel_rfl) (fun _ _ _ h => h) (by rfl) (fun w hSw => by go_simp) hHeld ?_
            simp only [Act.put, List.setIfInBounds_toArray, List.set_cons_zero, List.set_cons_succ]
            refine take_op 19 36 (.bool false) (fuel := 0) rfl rfl (by kernel_rfl) (by kernel_rfl) (by kernel_rfl) (fun _ _ _ h => h) (by rfl) (fun w hSw => by go_simp) hHeld ?_
            simp only [Act.put, List.setIfInBounds_toArray, List.set_cons_zero, List.set_cons_succ]
            refine wpAnyH_done (by kernel_rfl) ?_ _
            have B5 := Lib.hid hS1.1
            have V5 := Lib.hid hS1.2.1
            clear S0 hS1  CS
            go_wp2_with fail
            go_roundw
            case rel => exact ⟨k + 1, by omega, by go_num, HZ.out, B5.out, V5.out⟩
            case measure => simp [intOf]; omega
        · have HP : Hid ((btw x 0 (st - 1) && btw z 0 (st - 1) && (hasB ins y || hasB outs y || hasB hids y)) = false) := Bool.eq_false_iff.2 hg
          have HBAD : Hid (r = false) := by
            unfold Hid
            rw [HR2.out]
            exact stepsB_bad _ _ k hkx (by rw [← HS.out]; exact HP.out)
          clear hg
          have CS : Hid (∀ W, Below w.heap.size w W ∧ VarIs W w.heap.size #[.int .i64 st, .int .i64 it, .slice a2 n2 c2, .slice a3 n3 c3, .slice a4 n4 c4, .slice (some ⟨b, off, none⟩) n5 c5] 27 ∧ VarIs W wr.heap.size #[.int .i64 x, .int .i64 y, .int .i64 z] 47 ∧ W.cell? ⟨w.heap.size, 0, none⟩ = some (.int .i64 st) ∧ W.cell? ⟨w.heap.size, 1, none⟩ = some (.int .i64 it) ∧ W.cell? ⟨w.heap.size, 2, none⟩ = some (.slice a2 n2 c2) ∧ W.cell? ⟨w.heap.size, 3, none⟩ = some (.slice a3 n3 c3) ∧ W.cell? ⟨w.heap.size, 4, none⟩ = some (.slice a4 n4 c4) ∧ W.cell? ⟨w.heap.size, 5, none⟩ = some (.slice (some ⟨b, off, none⟩) n5 c5) ∧ W.cell? ⟨wr.heap.size, 0, none⟩ = some (.int .i64 x) ∧ W.cell? ⟨wr.heap.size, 1, none⟩ = some (.int .i64 y) ∧ W.cell? ⟨wr.heap.size, 2, none⟩ = some (.int .i64 z) → Calls Tryz.prog 52 #[.agg #[.int .i64 st, .int .i64 it, .slice a2 n2 c2, .slice a3 n3 c3, .slice a4 n4 c4, .slice (some ⟨b, off, none⟩) n5 c5], .agg #[.int .i64 x, .int .i64 y, .int .i64 z]] W fun e w' => e = .returned (.bool false) ∧ (Below w.heap.size w w' ∧ VarIs w' w.heap.size #[.int .i64 st, .int .i64 it, .slice a2 n2 c2, .slice a3 n3 c3, .slice a4 n4 c4, .slice (some ⟨b, off, none⟩) n5 c5] 27 ∧ VarIs w' wr.heap.size #[.int .i64 x, .int .i64 y, .int .i64 z] 47 ∧ w'.cell? ⟨w.heap.size, 0, none⟩ = some (.int .i64 st) ∧ w'.cell? ⟨w.heap.size, 1, none⟩ = some (.int .i64 it) ∧ w'.cell? ⟨w.heap.size, 2, none⟩ = some (.slice a2 n2 c2) ∧ w'.cell? ⟨w.heap.size, 3, none⟩ = some (.slice a3 n3 c3) ∧ w'.cell? ⟨w.heap.size, 4, none⟩ = some (.slice a4 n4 c4) ∧ w'.cell? ⟨w.heap.size, 5, none⟩ = some (.slice (some ⟨b, off, none⟩) n5 c5) ∧ w'.cell? ⟨wr.heap.size, 0, none⟩ = some (.int .i64 x) ∧ w'.cell? ⟨wr.heap.size, 1, none⟩ = some (.int .i64 y) ∧ w'.cell? ⟨wr.heap.size, 2, none⟩ = some (.int .i64 z))) := fun W hW =>
            (stepOk_any st it a2 n2 c2 a3 n3 c3 a4 n4 c4 _ ins outs hids x y z W (R2.out.below hW.1) (R3.out.below hW.1) (R4.out.below hW.1) f2 f3 f4).mono fun e w' ⟨he, hb⟩ => ⟨by rw [he]; exact congrArg (fun q => Ending.returned (.bool q)) HP.out, ⟨hW.1.trans (hb.mono hW.1.size), hW.2.1.below hb, hW.2.2.1.below hb, (hW.2.1.below hb).cell rfl, (hW.2.1.below hb).cell rfl, (hW.2.1.below hb).cell rfl, (hW.2.1.below hb).cell rfl, (hW.2.1.below hb).cell rfl, (hW.2.1.below hb).cell rfl, (hW.2.2.1.below hb).cell rfl, (hW.2.2.1.below hb).cell rfl, (hW.2.2.1.below hb).cell rfl⟩⟩
          have S0 : Below w.heap.size w (wr.alloc (.cells #[.int .i64 x, .int .i64 y, .int .i64 z] 47)).drew ∧ VarIs (wr.alloc (.cells #[.int .i64 x, .int .i64 y, .int .i64 z] 47)).drew w.heap.size #[.int .i64 st, .int .i64 it, .slice a2 n2 c2, .slice a3 n3 c3, .slice a4 n4 c4, .slice (some ⟨b, off, none⟩) n5 c5] 27 ∧ VarIs (wr.alloc (.cells #[.int .i64 x, .int .i64 y, .int .i64 z] 47)).drew wr.heap.size #[.int .i64 x, .int .i64 y, .int .i64 z] 47 ∧ (wr.alloc (.cells #[.int .i64 x, .int .i64 y, .int .i64 z] 47)).drew.cell? ⟨w.heap.size, 0, none⟩ = some (.int .i64 st) ∧ (wr.alloc (.cells #[.int .i64 x, .int .i64 y, .int .i64 z] 47)).drew.cell? ⟨w.heap.size, 1, none⟩ = some (.int .i64 it) ∧ (wr.alloc (.cells #[.int .i64 x, .int .i64 y, .int .i64 z] 47)).drew.cell? ⟨w.heap.size, 2, none⟩ = some (.slice a2 n2 c2) ∧ (wr.alloc (.cells #[.int .i64 x, .int .i64 y, .int .i64 z] 47)).drew.cell? ⟨w.heap.size, 3, none⟩ = some (.slice a3 n3 c3) ∧ (wr.alloc (.cells #[.int .i64 x, .int .i64 y, .int .i64 z] 47)).drew.cell? ⟨w.heap.size, 4, none⟩ = some (.slice a4 n4 c4) ∧ (wr.alloc (.cells #[.int .i64 x, .int .i64 y, .int .i64 z] 47)).drew.cell? ⟨w.heap.size, 5, none⟩ = some (.slice (some ⟨b, off, none⟩) n5 c5) ∧ (wr.alloc (.cells #[.int .i64 x, .int .i64 y, .int .i64 z] 47)).drew.cell? ⟨wr.heap.size, 0, none⟩ = some (.int .i64 x) ∧ (wr.alloc (.cells #[.int .i64 x, .int .i64 y, .int .i64 z] 47)).drew.cell? ⟨wr.heap.size, 1, none⟩ = some (.int .i64 y) ∧ (wr.alloc (.cells #[.int .i64 x, .int .i64 y, .int .i64 z] 47)).drew.cell? ⟨wr.heap.size, 2, none⟩ = some (.int .i64 z) := ⟨BX.out.drew, HVA.out, HX.out, HVA.out.cell rfl, HVA.out.cell rfl, HVA.out.cell rfl, HVA.out.cell rfl, HVA.out.cell rfl, HVA.out.cell rfl, HX.out.cell rfl, HX.out.cell rfl, HX.out.cell rfl⟩
          go_wp2_with fail
          clear g0 g1 g2 kb
          refine wp_region_held_drew (S := fun w' => Below w.heap.size w w' ∧ VarIs w' w.heap.size #[.int .i64 st, .int .i64 it, .slice a2 n2 c2, .slice a3 n3 c3, .slice a4 n4 c4, .slice (some ⟨b, off, none⟩) n5 c5] 27 ∧ VarIs w' wr.heap.size #[.int .i64 x, .int .i64 y, .int .i64 z] 47 ∧ w'.cell? ⟨w.heap.size, 0, none⟩ = some (.int .i64 st) ∧ w'.cell? ⟨w.heap.size, 1, none⟩ = some (.int .i64 it) ∧ w'.cell? ⟨w.heap.size, 2, none⟩ = some (.slice a2 n2 c2) ∧ w'.cell? ⟨w.heap.size, 3, none⟩ = some (.slice a3 n3 c3) ∧ w'.cell? ⟨w.heap.size, 4, none⟩ = some (.slice a4 n4 c4) ∧ w'.cell? ⟨w.heap.size, 5, none⟩ = some (.slice (some ⟨b, off, none⟩) n5 c5) ∧ w'.cell? ⟨wr.heap.size, 0, none⟩ = some (.int .i64 x) ∧ w'.cell? ⟨wr.heap.size, 1, none⟩ = some (.int .i64 y) ∧ w'.cell? ⟨wr.heap.size, 2, none⟩ = some (.int .i64 z)) (by kernel_rfl) S0 (fun hHeld => ?_)
          change wpAnyH _ _ _ _ _ 20 (Array.replicate 20 false) _ _
          refine take_op 0 17 (.agg #[.int .i64 st, .int .i64 it, .slice a2 n2 c2, .slice a3 n3 c3, .slice a4 n4 c4, .slice (some ⟨b, off, none⟩) n5 c5]) (fuel := 19) rfl rfl (by kernel_rfl) (by kernel_rfl) (by kernel_rfl) (fun _ _ _ h => h) (by rfl) (fun w hSw => by go_simp) hHeld ?_
          simp only [Act.put, List.setIfInBounds_toArray, List.set_cons_zero, List.set_cons_succ]
          refine take_op 1 18 (.agg #[.int .i64 x, .int .i64 y, .int .i64 z]) (fuel := 18) rfl rfl (by kernel_rfl) (by kernel_rfl) (by kernel_rfl) (fun _ _ _ h => h) (by rfl) (fun w hSw => by go_simp) hHeld ?_
          simp only [Act.put, List.setIfInBounds_toArray, List.set_cons_zero, List.set_cons_succ]
          refine wpAnyH_ready (rs := [2]) (fuel := 17) (by kernel_rfl) (by simp) ?_
          refine AllReadyH.cons rfl (fun K hK => ?_) AllReadyH.nil
          go_simp
          refine (CS.out _ S0).mono ?_
          rintro e w' ⟨rfl, hS1⟩
          go_wp2_with fail
          refine hK.out _ _ hS1 (fun hHeld => ?_)
          clear hK K
          refine take_op 3 20 (.bool true) (fuel := 16) rfl rfl (by kernel_rfl) (by kernel_rfl) (by kernel_rfl) (fun _ _ _ h => h) (by rfl) (fun w hSw => by go_simp) hHeld ?_
          simp only [Act.put, List.setIfInBounds_toArray, List.set_cons_zero, List.set_cons_succ]
          refine take_op 4 21 (.bool true) (fuel := 15) rfl rfl (by kernel_rfl) (by kernel_rfl) (by kernel_rfl) (fun _ _ _ h => h) (by rfl) (fun w hSw => by go_simp) hHeld ?_
          simp only [Act.put, List.setIfInBounds_toArray, List.set_cons_zero, List.set_cons_succ]
          refine skip_op 5 22 (fuel := 14) rfl rfl (by kernel_rfl) (by kernel_rfl) (by kernel_rfl) (fun _ _ _ h => h) (by rfl) hHeld ?_
          simp only [Act.put, List.setIfInBounds_toArray, List.set_cons_zero, List.set_cons_succ]
          refine skip_op 6 23 (fuel := 13) rfl rfl (by kernel_rfl) (by kernel_rfl) (by kernel_rfl) (fun _ _ _ h => h) (by rfl) hHeld ?_
          simp only [Act.put, List.setIfInBounds_toArray, List.set_cons_zero, List.set_cons_succ]
          refine skip_op 7 24 (fuel := 12) rfl rfl (by kernel_rfl) (by kernel_rfl) (by kernel_rfl) (fun _ _ _ h => h) (by rfl) hHeld ?_
          simp only [Act.put, List.setIfInBounds_toArray, List.set_cons_zero, List.set_cons_succ]
          refine skip_op 8 25 (fuel := 11) rfl rfl (by kernel_rfl) (by kernel_rfl) (by kernel_rfl) (fun _ _ _ h => h) (by rfl) hHeld ?_
          simp only [Act.put, List.setIfInBounds_toArray, List.set_cons_zero, List.set_cons_succ]
          refine skip_op 9 26 (fuel := 10) rfl rfl (by kernel_rfl) (by kernel_rfl) (by kernel_rfl) (fun _ _ _ h => h) (by rfl) hHeld ?_
          simp only [Act.put, List.setIfInBounds_toArray, List.set_cons_zero, List.set_cons_succ]
          refine skip_op 10 27 (fuel := 9) rfl rfl (by kernel_rfl) (by kernel_rfl) (by kernel_rfl) (fun _ _ _ h => h) (by rfl) hHeld ?_
          simp only [Act.put, List.setIfInBounds_toArray, List.set_cons_zero, List.set_cons_succ]
          refine skip_op 11 28 (fuel := 8) rfl rfl (by kernel_rfl) (by kernel_rfl) (by kernel_rfl) (fun _ _ _ h => h) (by rfl) hHeld ?_
          simp only [Act.put, List.setIfInBounds_toArray, List.set_cons_zero, List.set_cons_succ]
          refine skip_op 12 29 (fuel := 7) rfl rfl (by kernel_rfl) (by kernel_rfl) (by kernel_rfl) (fun _ _ _ h => h) (by rfl) hHeld ?_
          simp only [Act.put, List.setIfInBounds_toArray, List.set_cons_zero, List.set_cons_succ]
          refine skip_op 13 30 (fuel := 6) rfl rfl (by kernel_rfl) (by kernel_rfl) (by kernel_rfl) (fun _ _ _ h => h) (by rfl) hHeld ?_
          simp only [Act.put, List.setIfInBounds_toArray, List.set_cons_zero, List.set_cons_succ]
          refine skip_op 14 31 (fuel := 5) rfl rfl (by kernel_rfl) (by kernel_rfl) (by kernel_rfl) (fun _ _ _ h => h) (by rfl) hHeld ?_
          simp only [Act.put, List.setIfInBounds_toArray, List.set_cons_zero, List.set_cons_succ]
          refine skip_op 15 32 (fuel := 4) rfl rfl (by kernel_rfl) (by kernel_rfl) (by kernel_rfl) (fun _ _ _ h => h) (by rfl) hHeld ?_
          simp only [Act.put, List.setIfInBounds_toArray, List.set_cons_zero, List.set_cons_succ]
          refine skip_op 16 33 (fuel := 3) rfl rfl (by kernel_rfl) (by kernel_rfl) (by kernel_rfl) (fun _ _ _ h => h) (by rfl) hHeld ?_
          simp only [Act.put, List.setIfInBounds_toArray, List.set_cons_zero, List.set_cons_succ]
          refine skip_op 17 34 (fuel := 2) rfl rfl (by kernel_rfl) (by kernel_rfl) (by kernel_rfl) (fun _ _ _ h => h) (by rfl) hHeld ?_
          simp only [Act.put, List.setIfInBounds_toArray, List.set_cons_zero, List.set_cons_succ]
          refine skip_op 18 35 (fuel := 1) rfl rfl (by kernel_rfl) (by kernel_rfl) (by kernel_rfl) (fun _ _ _ h => h) (by rfl) hHeld ?_
          simp only [Act.put, List.setIfInBounds_toArray, List.set_cons_zero, List.set_cons_succ]
          refine take_op 19 36 (.bool true) (fuel := 0) rfl rfl (by kernel_rfl) (by kernel_rfl) (by kernel_rfl) (fun _ _ _ h => h) (by rfl) (fun w hSw => by go_simp) hHeld ?_
          simp only [Act.put, List.setIfInBounds_toArray, List.set_cons_zero, List.set_cons_succ]
          refine wpAnyH_done (by kernel_rfl) ?_ _
          have B5 := Lib.hid hS1.1
          have V5 := Lib.hid hS1.2.1
          clear S0 hS1  CS
          go_wp2_with fail
          go_ret
          exact ⟨ret_bool HBAD.out.symm, B5.out⟩
      · have HE : Hid (r = true) := by
          have := HT.out
          rw [List.take_of_length_le (by rw [HL5.out]; omega)] at this
          rw [HR2.out]; exact this
        go_wp2_with fail
        go_ret
        exact ⟨ret_bool HE.out.symm, hnx⟩
  · have HR2 : Hid (r = false) := by
      have := HR.out
      rwa [decide_eq_false h4, Bool.false_and] at this
    clear HR
    go_enter Tryz.func36, Tryz.ntmps36
    go_wp2_with fail
    go_ret
    exact ⟨ret_bool HR2.out.symm, B0.out _⟩

end Go.Proofs.YtfhjhfhfbgddeaaGreatDoor

/-
  The contract of the program's IaOk: it answers as the model's condition on lists. Conditions: the automaton's lists have at most 2^20 elements.
-/
namespace Go.Proofs.YtfhjhfhfbgddeaaGreatDoor
open Go.RowKit

theorem iaOk_parts (a : IaD) : iaOkB a = (decide (1 ≤ a.states) && (decide (a.states ≤ 40) && (btw a.init 0 (a.states - 1) && (apart3 a.ins a.outs a.hids && (decide (a.steps.length ≤ 400) && stepsB a a.steps))))) := by
  have h : apartB a = (decide ((meetOf a.ins a.outs).length = 0) && (decide ((meetOf a.ins a.hids).length = 0) && decide ((meetOf a.outs a.hids).length = 0))) := by
    unfold apartB
    by_cases h1 : (meetOf a.ins a.outs).length = 0
    · by_cases h2 : (meetOf a.ins a.hids).length = 0
      · by_cases h3 : (meetOf a.outs a.hids).length = 0
        · simp [h1, h2, h3]
        · simp [h3]
      · simp [h2]
    · simp [h1]
  unfold iaOkB setsB apart3 stateB btw
  rw [h]
  simp only [Bool.and_assoc]
  cases decide (1 ≤ a.states) <;> cases decide (a.states ≤ 40) <;> cases decide (0 ≤ a.init) <;> cases decide (a.init ≤ a.states - 1) <;> cases setOkB a.ins <;> cases setOkB a.outs <;> cases setOkB a.hids <;> cases decide (a.steps.length ≤ 400) <;> simp

set_option maxRecDepth 20000 in
set_option maxHeartbeats 3200000 in
theorem implIaOk_any (a : IaD) (v : Value) (w : World) (h : IaRow w a v) (f2 : a.ins.length ≤ 1048576) (f3 : a.outs.length ≤ 1048576) (f4 : a.hids.length ≤ 1048576) (f5 : a.steps.length ≤ 1048576) :
    Calls Tryz.prog 13 #[v] w fun e w' => e = .returned (.bool (iaOkB a)) ∧ Below w.heap.size w w' := by
  rw [iaOk_parts]
  obtain ⟨a2, n2, c2, a3, n3, c3, a4, n4, c4, a5, n5, c5, rfl, r2, r3, r4, r5⟩ := h
  obtain ⟨st, it, ins, outs, hids, steps⟩ := a
  simp only at r2 r3 r4 r5 f2 f3 f4 f5
  simp only
  have hl2 := r2.1
  have hl3 := r3.1
  have hl4 := r4.1
  have hl5 := r5.1
  rw [hl2] at f2
  rw [hl3] at f3
  rw [hl4] at f4
  rw [hl5] at f5
  rw [hl5]
  have R2 := Lib.hid r2
  have R3 := Lib.hid r3
  have R4 := Lib.hid r4
  have R5 := Lib.hid r5
  clear r2 r3 r4 r5 hl2 hl3 hl4 hl5
  obtain ⟨q2, hq2⟩ : ∃ q, q = btw it 0 (st - 1) := ⟨_, rfl⟩
  obtain ⟨q3, hq3⟩ : ∃ q, q = apart3 ins outs hids := ⟨_, rfl⟩
  obtain ⟨q4, hq4⟩ : ∃ q, q = (decide (n5 ≤ 400) && stepsB ⟨st, it, ins, outs, hids, steps⟩ steps) := ⟨_, rfl⟩
  rw [← hq2, ← hq3, ← hq4]
  obtain ⟨r, hr⟩ : ∃ r, r = (decide (1 ≤ st) && (decide (st ≤ 40) && (q2 && (q3 && q4)))) := ⟨_, rfl⟩
  rw [← hr]
  have HR := Lib.hid hr
  have C1 : Hid (∀ W, Below w.heap.size w W → Calls Tryz.prog 34 #[.agg #[.int .i64 st, .int .i64 it, .slice a2 n2 c2, .slice a3 n3 c3, .slice a4 n4 c4, .slice a5 n5 c5], .int .i64 it] W fun e w' => e = .returned (.bool q2) ∧ Below W.heap.size W w') := fun W hW => by rw [hq2]; exact isState_any st it it _ _ _ _ W
  have C2 : Hid (∀ W, Below w.heap.size w W → Calls Tryz.prog 35 #[.slice a2 n2 c2, .slice a3 n3 c3, .slice a4 n4 c4] W fun e w' => e = .returned (.bool q3) ∧ Below W.heap.size W w') := fun W hW => by rw [hq3]; exact setsApart_any a2 n2 c2 a3 n3 c3 a4 n4 c4 ins outs hids W (R2.out.below hW) (R3.out.below hW) (R4.out.below hW) f2 f3 f4
  have C3 : Hid (∀ W, Below w.heap.size w W → Calls Tryz.prog 36 #[.agg #[.int .i64 st, .int .i64 it, .slice a2 n2 c2, .slice a3 n3 c3, .slice a4 n4 c4, .slice a5 n5 c5]] W fun e w' => e = .returned (.bool q4) ∧ Below W.heap.size W w') := fun W hW => by rw [hq4]; exact stepsOk_any st it a2 n2 c2 a3 n3 c3 a4 n4 c4 a5 n5 c5 ins outs hids steps W (R2.out.below hW) (R3.out.below hW) (R4.out.below hW) (R5.out.below hW) f2 f3 f4 f5
  clear hr hq2 hq3 hq4
  have V0 := Lib.hid (VarIs.new w #[.int .i64 st, .int .i64 it, .slice a2 n2 c2, .slice a3 n3 c3, .slice a4 n4 c4, .slice a5 n5 c5] 27 rfl)
  have B0 : Hid (∀ o, Below w.heap.size w (w.alloc o)) := fun o => (Below.refl _ _).alloc (Nat.le_refl _) _
  by_cases h1 : 1 ≤ st
  · have k1 : decide ((1 : Int) ≤ st) = true := by simp [h1]
    by_cases h2 : st ≤ 40
    · have k2 : decide (st ≤ (40 : Int)) = true := by simp [h2]
      have HR2 : Hid (r = (q2 && (q3 && q4))) := by
        have := HR.out
        rwa [k1, k2, Bool.true_and, Bool.true_and] at this
      clear HR
      go_enter Tryz.func13, Tryz.ntmps13
      go_wp2_with fail
      refine (C1.out _ (B0.out _)).mono ?_
      rintro e w1 ⟨rfl, hb⟩
      have V1 := Lib.hid (V0.out.below hb)
      have B1 : Hid (Below w.heap.size w w1) := (B0.out _).trans (hb.mono (B0.out _).size)
      clear hb
      cases q2 with
      | false =>
        go_wp2_with fail
        go_ret
        exact ⟨ret_bool (by rw [HR2.out]; rfl), B1.out⟩
      | true =>
        have m2 := V1.out.cell (j := 2) rfl
        have m3 := V1.out.cell (j := 3) rfl
        have m4 := V1.out.cell (j := 4) rfl
        go_wp2_with fail
        clear m2 m3 m4
        refine (C2.out _ B1.out).mono ?_
        rintro e w2 ⟨rfl, hb⟩
        have V2 := Lib.hid (V1.out.below hb)
        have B2 : Hid (Below w.heap.size w w2) := B1.out.trans (hb.mono B1.out.size)
        clear hb
        cases q3 with
        | false =>
          go_wp2_with fail
          go_ret
          exact ⟨ret_bool (by rw [HR2.out]; rfl), B2.out⟩
        | true =>
          have m0 := V2.out.cell (j := 0) rfl
          have m1 := V2.out.cell (j := 1) rfl
          have m2 := V2.out.cell (j := 2) rfl
          have m3 := V2.out.cell (j := 3) rfl
          have m4 := V2.out.cell (j := 4) rfl
          have m5 := V2.out.cell (j := 5) rfl
          go_wp2_with fail
          clear m0 m1 m2 m3 m4 m5
          refine (C3.out _ B2.out).mono ?_
          rintro e w3 ⟨rfl, hb⟩
          have B3 : Hid (Below w.heap.size w w3) := B2.out.trans (hb.mono B2.out.size)
          clear hb
          go_wp2_with fail
          go_ret
          exact ⟨ret_bool (by rw [HR2.out]; rfl), B3.out⟩
    · have k2 : decide (st ≤ (40 : Int)) = false := by simp; omega
      have HR2 : Hid (r = false) := by
        have := HR.out
        rwa [k1, k2, Bool.false_and, Bool.and_false] at this
      clear HR
      go_enter Tryz.func13, Tryz.ntmps13
      go_wp2_with fail
      go_ret
      exact ⟨ret_bool HR2.out.symm, B0.out _⟩
  · have k1 : decide ((1 : Int) ≤ st) = false := by simp; omega
    have HR2 : Hid (r = false) := by
      have := HR.out
      rwa [k1, Bool.false_and] at this
    clear HR
    go_enter Tryz.func13, Tryz.ntmps13
    go_wp2_with fail
    go_ret
    exact ⟨ret_bool HR2.out.symm, B0.out _⟩

end Go.Proofs.YtfhjhfhfbgddeaaGreatDoor
