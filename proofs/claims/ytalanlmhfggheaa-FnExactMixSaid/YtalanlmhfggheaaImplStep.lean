/-
  Contracts of the program's isState, compareSteps (with the library's cmp.Or), mayFollow and stepOk. Conditions: the automaton's sets read as lists of at most 2^20 elements.
-/
import Derived.Test.YtalanlmhfggheaaSetHas
import Derived.Test.YtalanlmhfggheaaSpecAfter
import Derived.Test.YtalanlmhfggheaaIaSteps
import Derived.Deep.RegionHeld3
namespace Go.Proofs.Ytalanlmhfggheaa
open Go.RowKit

set_option maxRecDepth 20000 in
set_option maxHeartbeats 800000 in
theorem isState_any (st it s : Int) (v2 v3 v4 v5 : Value) (w : World) :
    Calls Try.prog 63 #[.agg #[.int .i64 st, .int .i64 it, v2, v3, v4, v5], .int .i64 s] w fun e w' => e = .returned (.bool (btw s 0 (st - 1))) ∧ Below w.heap.size w w' := by
  have HB : Hid (∀ o, Below w.heap.size w (w.alloc o)) := fun o => (Below.refl _ _).alloc (Nat.le_refl _) _
  by_cases h1 : 0 ≤ s
  · have hd : decide (0 ≤ s) = true := by simp [h1]
    by_cases h2 : s < st
    · have e : btw s 0 (st - 1) = true := by simp [btw, h1]; omega
      have HE := Lib.hid e; clear e
      go_enter Try.func63, Try.ntmps63
      go_wp2
      go_ret
      exact ⟨ret_bool HE.out.symm, HB.out _⟩
    · have e : btw s 0 (st - 1) = false := by simp [btw]; omega
      have HE := Lib.hid e; clear e
      go_enter Try.func63, Try.ntmps63
      go_wp2
      go_ret
      exact ⟨ret_bool HE.out.symm, HB.out _⟩
  · have hd : decide (0 ≤ s) = false := by simp; omega
    have e : btw s 0 (st - 1) = false := by simp [btw, h1]
    have HE := Lib.hid e; clear e
    go_enter Try.func63, Try.ntmps63
    go_wp2
    go_ret
    exact ⟨ret_bool HE.out.symm, HB.out _⟩

/-- The first number that is not 0, or 0. -/
def firstOf : List Int → Int
  | [] => 0
  | x :: r => if x = 0 then firstOf r else x

theorem firstOf_drop (xs : List Int) (k : Nat) (hk : k < xs.length) : firstOf (xs.drop k) = if xs[k] = 0 then firstOf (xs.drop (k + 1)) else xs[k] := by
  rw [List.drop_eq_getElem_cons hk]; rfl

set_option maxRecDepth 20000 in
set_option maxHeartbeats 800000 in
theorem or_any (a : Option Addr) (n c : Nat) (xs : List Int) (w : World) (h : Row w a n xs) (hn : n ≤ 1099511627776) :
    Calls Try.prog 95 #[.slice a n c] w fun e w' => e = .returned (.int .i64 (firstOf xs)) ∧ w' = w := by
  obtain ⟨hl, hc⟩ := h
  have HC := Lib.hid hc
  have HL := Lib.hid hl
  clear hc hl
  go_enter Try.func95, Try.ntmps95
  go_wp2
  go_loop [8] (fun i => ∃ k : Nat, k ≤ n ∧ i = .int .i64 k ∧ Hid (firstOf xs = firstOf (xs.drop k))) (fun i => n - (intOf i).toNat)
  case atStart => exact ⟨0, Nat.zero_le _, rfl, by simp [Hid]⟩
  case round =>
    obtain ⟨k, hk, rfl, HT⟩ := hrel
    by_cases hlt : k < n
    · obtain ⟨b, off, rfl, hb, hcell⟩ := HC.out (by omega)
      have hkx : k < xs.length := by rw [HL.out]; exact hlt
      obtain ⟨y, hy⟩ : ∃ y, y = xs[k] := ⟨_, rfl⟩
      have g1 : w.cell? ⟨b, off + k, none⟩ = some (.int .i64 y) := by rw [hy, ← getD_eq xs k hkx]; exact hcell k hlt
      have HF : Hid (firstOf xs = if y = 0 then firstOf (xs.drop (k + 1)) else y) := by
        unfold Hid
        rw [HT.out, firstOf_drop xs k hkx, hy]
      clear hy hcell HT
      by_cases he : y = 0
      · have HF2 : Hid (firstOf xs = firstOf (xs.drop (k + 1))) := by
          have := HF.out
          rwa [if_pos he] at this
        have he2 : (y != 0) = false := by simp [he]
        clear HF he
        go_wp2
        go_round
        case rel => exact ⟨k + 1, by omega, by go_num, HF2.out⟩
        case measure => simp [intOf]; omega
      · have HF2 : Hid (firstOf xs = y) := by
          have := HF.out
          rwa [if_neg he] at this
        have he2 : (y != 0) = true := by simp [he]
        clear HF he
        go_wp2
        go_ret
        exact ⟨ret_int HF2.out.symm, rfl⟩
    · have HF : Hid (firstOf xs = 0) := by
        have := HT.out
        rw [List.drop_eq_nil_of_le (by rw [HL.out]; omega)] at this
        exact this
      go_wp2
      go_ret
      exact ⟨ret_int HF.out.symm, rfl⟩

/-- How two steps stand to one another, by signs. -/
def signOf (y x : St) : Int := firstOf [Lib.compareInt y.1 x.1, Lib.compareInt y.2.1 x.2.1, Lib.compareInt y.2.2 x.2.2]

theorem signOf_neg (y x : St) : decide (signOf y x < 0) = decide (cmpOf y x < 0) := by
  obtain ⟨a, b, c⟩ := y
  obtain ⟨a', b', c'⟩ := x
  apply decide_eq_decide.2
  simp only [signOf, cmpOf, firstOf, Lib.compareInt]
  by_cases h1 : a < a'
  · have : ¬ a = a' := by omega
    simp [h1, this]; omega
  · by_cases h2 : a > a'
    · have : ¬ a = a' := by omega
      simp [h1, h2, this]; omega
    · have e : a = a' := by omega
      subst e
      by_cases h3 : b < b'
      · have : ¬ b = b' := by omega
        simp [h3, this]; omega
      · by_cases h4 : b > b'
        · have : ¬ b = b' := by omega
          simp [h3, h4, this]; omega
        · have e : b = b' := by omega
          subst e
          by_cases h5 : c < c'
          · simp [h5]; omega
          · by_cases h6 : c > c'
            · simp [h5, h6]; omega
            · simp [h5, h6]; omega

set_option maxRecDepth 20000 in
set_option maxHeartbeats 1600000 in
theorem compareSteps_any (x y z x' y' z' : Int) (w : World) :
    Calls Try.prog 88 #[.agg #[.int .i64 x, .int .i64 y, .int .i64 z], .agg #[.int .i64 x', .int .i64 y', .int .i64 z']] w fun e w' => e = .returned (.int .i64 (signOf (x, y, z) (x', y', z'))) ∧ Below w.heap.size w w' := by
  have B0 : Hid (∀ o o', Below w.heap.size w ((w.alloc o).alloc o')) := fun o o' => ((Below.refl _ _).alloc (Nat.le_refl _) _).alloc (by simp) _
  have R3 : Hid (Row ((((w.alloc (.cells #[.int .i64 x, .int .i64 y, .int .i64 z] 60)).alloc (.cells #[.int .i64 x', .int .i64 y', .int .i64 z'] 60)).alloc (.cells #[.int .i64 (Lib.compareInt x x'), .int .i64 (Lib.compareInt y y'), .int .i64 (Lib.compareInt z z')] 3)).drew) (some ⟨w.heap.size + 1 + 1, 0, none⟩) 3 [Lib.compareInt x x', Lib.compareInt y y', Lib.compareInt z z']) := by
    have := (owns_lit ((w.alloc (.cells #[.int .i64 x, .int .i64 y, .int .i64 z] 60)).alloc (.cells #[.int .i64 x', .int .i64 y', .int .i64 z'] 60)) [Lib.compareInt x x', Lib.compareInt y y', Lib.compareInt z z'] 3 rfl (by unfold maxLen; omega)).row.2.2.2
    have e : ((w.alloc (.cells #[.int .i64 x, .int .i64 y, .int .i64 z] 60)).alloc (.cells #[.int .i64 x', .int .i64 y', .int .i64 z'] 60)).heap.size = w.heap.size + 1 + 1 := by simp
    rw [e] at this
    exact this
  have B3 : Hid (Below w.heap.size w ((((w.alloc (.cells #[.int .i64 x, .int .i64 y, .int .i64 z] 60)).alloc (.cells #[.int .i64 x', .int .i64 y', .int .i64 z'] 60)).alloc (.cells #[.int .i64 (Lib.compareInt x x'), .int .i64 (Lib.compareInt y y'), .int .i64 (Lib.compareInt z z')] 3)).drew)) := ((B0.out _ _).alloc (by simp; omega) _).drew
  go_enter Try.func88, Try.ntmps88
  go_wp2_with fail
  go_region_held3 (fun w' => w'.cell? ⟨w.heap.size, 0, none⟩ = some (.int .i64 x) ∧ w'.cell? ⟨w.heap.size, 1, none⟩ = some (.int .i64 y) ∧ w'.cell? ⟨w.heap.size, 2, none⟩ = some (.int .i64 z) ∧ w'.cell? ⟨w.heap.size + 1, 0, none⟩ = some (.int .i64 x') ∧ w'.cell? ⟨w.heap.size + 1, 1, none⟩ = some (.int .i64 y') ∧ w'.cell? ⟨w.heap.size + 1, 2, none⟩ = some (.int .i64 z'))
    (go_keep)
    ((first | (go_at_call 96; refine (Try.cmp_Compare_int _ _ _).mono ?_; rintro e w' ⟨rfl, rfl⟩) | (go_at_call 95; refine (or_any _ 3 _ [Lib.compareInt x x', Lib.compareInt y y', Lib.compareInt z z'] _ R3.out (by omega)).mono ?_; rintro e w' ⟨rfl, rfl⟩)))
  go_wp2_with fail
  go_ret
  exact ⟨rfl, B3.out⟩

set_option maxRecDepth 20000 in
set_option maxHeartbeats 3200000 in
theorem stepOk_any (st it : Int) (a2 : Option Addr) (n2 c2 : Nat) (a3 : Option Addr) (n3 c3 : Nat) (a4 : Option Addr) (n4 c4 : Nat) (v5 : Value) (ins outs hids : List Int) (x y z : Int) (w : World)
    (r2 : Row w a2 n2 ins) (r3 : Row w a3 n3 outs) (r4 : Row w a4 n4 hids) (f2 : n2 ≤ 1048576) (f3 : n3 ≤ 1048576) (f4 : n4 ≤ 1048576) :
    Calls Try.prog 76 #[.agg #[.int .i64 st, .int .i64 it, .slice a2 n2 c2, .slice a3 n3 c3, .slice a4 n4 c4, v5], .agg #[.int .i64 x, .int .i64 y, .int .i64 z]] w fun e w' => e = .returned (.bool (btw x 0 (st - 1) && btw z 0 (st - 1) && (hasB ins y || hasB outs y || hasB hids y))) ∧ Below w.heap.size w w' := by
  have R2 := Lib.hid r2
  have R3 := Lib.hid r3
  have R4 := Lib.hid r4
  clear r2 r3 r4
  obtain ⟨p1, hp1⟩ : ∃ q, q = btw x 0 (st - 1) := ⟨_, rfl⟩
  obtain ⟨p2, hp2⟩ : ∃ q, q = btw z 0 (st - 1) := ⟨_, rfl⟩
  obtain ⟨p3, hp3⟩ : ∃ q, q = hasB ins y := ⟨_, rfl⟩
  obtain ⟨p4, hp4⟩ : ∃ q, q = hasB outs y := ⟨_, rfl⟩
  obtain ⟨p5, hp5⟩ : ∃ q, q = hasB hids y := ⟨_, rfl⟩
  rw [← hp1, ← hp2, ← hp3, ← hp4, ← hp5]
  have D1 : Hid (∀ W v2 v3 v4 v5, Calls Try.prog 63 #[.agg #[.int .i64 st, .int .i64 it, v2, v3, v4, v5], .int .i64 x] W fun e w' => e = .returned (.bool p1) ∧ Below W.heap.size W w') := fun W v2 v3 v4 v5 => by rw [hp1]; exact isState_any st it x v2 v3 v4 v5 W
  have D2 : Hid (∀ W v2 v3 v4 v5, Calls Try.prog 63 #[.agg #[.int .i64 st, .int .i64 it, v2, v3, v4, v5], .int .i64 z] W fun e w' => e = .returned (.bool p2) ∧ Below W.heap.size W w') := fun W v2 v3 v4 v5 => by rw [hp2]; exact isState_any st it z v2 v3 v4 v5 W
  have C3 : Hid (∀ W, Below w.heap.size w W → Calls Try.prog 67 #[.slice a2 n2 c2, .int .i64 y] W fun e w' => e = .returned (.bool p3) ∧ W = w') := fun W hW => by rw [hp3]; exact (implSetHas_any a2 n2 c2 y ins W (R2.out.below hW) (by omega)).mono fun _ _ h => ⟨h.1, h.2.symm⟩
  have C4 : Hid (∀ W, Below w.heap.size w W → Calls Try.prog 67 #[.slice a3 n3 c3, .int .i64 y] W fun e w' => e = .returned (.bool p4) ∧ W = w') := fun W hW => by rw [hp4]; exact (implSetHas_any a3 n3 c3 y outs W (R3.out.below hW) (by omega)).mono fun _ _ h => ⟨h.1, h.2.symm⟩
  have C5 : Hid (∀ W, Below w.heap.size w W → Calls Try.prog 67 #[.slice a4 n4 c4, .int .i64 y] W fun e w' => e = .returned (.bool p5) ∧ W = w') := fun W hW => by rw [hp5]; exact (implSetHas_any a4 n4 c4 y hids W (R4.out.below hW) (by omega)).mono fun _ _ h => ⟨h.1, h.2.symm⟩
  clear hp1 hp2 hp3 hp4 hp5
  have B0 : Hid (∀ o o', Below w.heap.size w ((w.alloc o).alloc o')) := fun o o' => ((Below.refl _ _).alloc (Nat.le_refl _) _).alloc (by simp) _
  have V0 := Lib.hid ((VarIs.new w #[.int .i64 st, .int .i64 it, .slice a2 n2 c2, .slice a3 n3 c3, .slice a4 n4 c4, v5] 30 rfl).alloc (.cells #[.int .i64 x, .int .i64 y, .int .i64 z] 60))
  have X0 : Hid (VarIs ((w.alloc (.cells #[.int .i64 st, .int .i64 it, .slice a2 n2 c2, .slice a3 n3 c3, .slice a4 n4 c4, v5] 30)).alloc (.cells #[.int .i64 x, .int .i64 y, .int .i64 z] 60)) (w.heap.size + 1) #[.int .i64 x, .int .i64 y, .int .i64 z] 60) := VarIs.new _ _ _ (by simp)
  go_enter Try.func76, Try.ntmps76
  go_wp2_with fail
  refine (D1.out _ _ _ _ _).mono ?_
  rintro e w1 ⟨rfl, hb⟩
  have V1 := Lib.hid (V0.out.below hb)
  have X1 := Lib.hid (X0.out.below hb)
  have B1 : Hid (Below w.heap.size w w1) := (B0.out _ _).trans (hb.mono (B0.out _ _).size)
  clear hb
  cases p1 with
  | false =>
    go_wp2_with fail
    go_ret
    exact ⟨rfl, B1.out⟩
  | true =>
    have m0 := V1.out.cell (j := 0) rfl
    have m1 := V1.out.cell (j := 1) rfl
    have m2 := V1.out.cell (j := 2) rfl
    have m3 := V1.out.cell (j := 3) rfl
    have m4 := V1.out.cell (j := 4) rfl
    have m5 := V1.out.cell (j := 5) rfl
    have i2 := X1.out.cell (j := 2) rfl
    go_wp2_with fail
    clear m0 m1 m2 m3 m4 m5 i2
    refine (D2.out _ _ _ _ _).mono ?_
    rintro e w2 ⟨rfl, hb⟩
    have V2 := Lib.hid (V1.out.below hb)
    have X2 := Lib.hid (X1.out.below hb)
    have B2 : Hid (Below w.heap.size w w2) := B1.out.trans (hb.mono B1.out.size)
    clear hb
    cases p2 with
    | false =>
      go_wp2_with fail
      go_ret
      exact ⟨rfl, B2.out⟩
    | true =>
      have m2 := V2.out.cell (j := 2) rfl
      have m3 := V2.out.cell (j := 3) rfl
      have m4 := V2.out.cell (j := 4) rfl
      have i1 := X2.out.cell (j := 1) rfl
      go_wp2_with fail
      refine (C3.out _ B2.out).mono ?_
      rintro e w3 ⟨rfl, rfl⟩
      cases p3 with
      | true =>
        go_wp2_with fail
        go_ret
        exact ⟨rfl, B2.out⟩
      | false =>
        go_wp2_with fail
        refine (C4.out _ B2.out).mono ?_
        rintro e w3 ⟨rfl, rfl⟩
        cases p4 with
        | true =>
          go_wp2_with fail
          go_ret
          exact ⟨rfl, B2.out⟩
        | false =>
          go_wp2_with fail
          refine (C5.out _ B2.out).mono ?_
          rintro e w3 ⟨rfl, rfl⟩
          go_wp2_with fail
          go_ret
          exact ⟨ret_bool (by simp), B2.out⟩

/-- What mayFollow answers. -/
def followB (ins : List Int) (y x : St) : Bool := decide (cmpOf y x < 0) && !(decide (y.1 = x.1) && decide (y.2.1 = x.2.1) && hasB ins x.2.1)

set_option maxRecDepth 20000 in
set_option maxHeartbeats 3200000 in
theorem mayFollow_any (st it : Int) (a2 : Option Addr) (n2 c2 : Nat) (v3 v4 v5 : Value) (ins : List Int) (x' y' z' x y z : Int) (w : World) (r2 : Row w a2 n2 ins) (f2 : n2 ≤ 1048576) :
    Calls Try.prog 77 #[.agg #[.int .i64 st, .int .i64 it, .slice a2 n2 c2, v3, v4, v5], .agg #[.int .i64 x', .int .i64 y', .int .i64 z'], .agg #[.int .i64 x, .int .i64 y, .int .i64 z]] w fun e w' => e = .returned (.bool (followB ins (x', y', z') (x, y, z))) ∧ Below w.heap.size w w' := by
  have R2 := Lib.hid r2
  clear r2
  obtain ⟨f, hf⟩ : ∃ f, f = followB ins (x', y', z') (x, y, z) := ⟨_, rfl⟩
  rw [← hf]
  obtain ⟨p3, hp3⟩ : ∃ q, q = hasB ins y := ⟨_, rfl⟩
  obtain ⟨sg, hsg⟩ : ∃ q, q = signOf (x', y', z') (x, y, z) := ⟨_, rfl⟩
  have HF : Hid (f = (decide (sg < 0) && !(decide (x' = x) && decide (y' = y) && p3))) := by
    unfold Hid
    rw [hf, hp3, hsg, signOf_neg]
    rfl
  have C3 : Hid (∀ W, Below w.heap.size w W → Calls Try.prog 67 #[.slice a2 n2 c2, .int .i64 y] W fun e w' => e = .returned (.bool p3) ∧ W = w') := fun W hW => by rw [hp3]; exact (implSetHas_any a2 n2 c2 y ins W (R2.out.below hW) (by omega)).mono fun _ _ h => ⟨h.1, h.2.symm⟩
  have D1 : Hid (∀ W, Calls Try.prog 88 #[.agg #[.int .i64 x', .int .i64 y', .int .i64 z'], .agg #[.int .i64 x, .int .i64 y, .int .i64 z]] W fun e w' => e = .returned (.int .i64 sg) ∧ Below W.heap.size W w') := fun W => by rw [hsg]; exact compareSteps_any x' y' z' x y z W
  clear hf hp3 hsg
  have B0 : Hid (∀ o o' o'', Below w.heap.size w (((w.alloc o).alloc o').alloc o'')) := fun o o' o'' => (((Below.refl _ _).alloc (Nat.le_refl _) _).alloc (by simp) _).alloc (by simp; omega) _
  by_cases e1 : x' = x
  · have k1 : (x' == x) = true := by simp [e1]
    by_cases e2 : y' = y
    · have k2 : (y' == y) = true := by simp [e2]
      have HF2 : Hid (f = (decide (sg < 0) && !p3)) := by
        have := HF.out
        rwa [decide_eq_true e1, decide_eq_true e2, Bool.true_and, Bool.true_and] at this
      clear HF e1 e2
      go_enter Try.func77, Try.ntmps77
      go_wp2_with fail
      refine (C3.out _ (B0.out _ _ _)).mono ?_
      rintro e w3 ⟨rfl, rfl⟩
      cases p3 with
      | true =>
        go_wp2_with fail
        go_ret
        exact ⟨ret_bool (by rw [HF2.out]; simp), B0.out _ _ _⟩
      | false =>
        go_wp2_with fail
        refine (D1.out _).mono ?_
        rintro e w1 ⟨rfl, hb⟩
        have B1 : Hid (Below w.heap.size w w1) := (B0.out _ _ _).trans (hb.mono (B0.out _ _ _).size)
        clear hb
        go_wp2_with fail
        go_ret
        exact ⟨ret_bool (by rw [HF2.out]; simp), B1.out⟩
    · have k2 : (y' == y) = false := by simp [e2]
      have HF2 : Hid (f = decide (sg < 0)) := by
        have := HF.out
        rwa [decide_eq_false e2, Bool.and_false, Bool.false_and, Bool.not_false, Bool.and_true] at this
      clear HF e1 e2
      go_enter Try.func77, Try.ntmps77
      go_wp2_with fail
      refine (D1.out _).mono ?_
      rintro e w1 ⟨rfl, hb⟩
      have B1 : Hid (Below w.heap.size w w1) := (B0.out _ _ _).trans (hb.mono (B0.out _ _ _).size)
      clear hb
      go_wp2_with fail
      go_ret
      exact ⟨ret_bool (by rw [HF2.out]), B1.out⟩
  · have k1 : (x' == x) = false := by simp [e1]
    have HF2 : Hid (f = decide (sg < 0)) := by
      have := HF.out
      rwa [decide_eq_false e1, Bool.false_and, Bool.false_and, Bool.not_false, Bool.and_true] at this
    clear HF e1
    go_enter Try.func77, Try.ntmps77
    go_wp2_with fail
    refine (D1.out _).mono ?_
    rintro e w1 ⟨rfl, hb⟩
    have B1 : Hid (Below w.heap.size w w1) := (B0.out _ _ _).trans (hb.mono (B0.out _ _ _).size)
    clear hb
    go_wp2_with fail
    go_ret
    exact ⟨ret_bool (by rw [HF2.out]), B1.out⟩

end Go.Proofs.Ytalanlmhfggheaa
