/-
  slices.Concat at two rows of steps. Conditions: rows of at most 2^21 steps.
-/
import Derived.Test.YtdbgjgeglgipiaaGreatRisen
import Derived.Test.YtdbgjgeglgipiaaGreatSteps
import Derived.Test.YtdbgjgeglgipiaaGreatShelfS
namespace Go.Proofs.YtdbgjgeglgipiaaGreat
open Go.RowKit

theorem info_step : (Tryz.prog.info? 48).map (fun i => (i.zero, i.size, i.bytes)) = some (some (.agg #[.int .i64 0, .int .i64 0, .int .i64 0]), 3, 24) := by kernel_rfl

theorem SrcS.below {w w' : World} {ao : Option Addr} {m c : Nat} {ys : List St} (h : SrcS w ao m c ys) (hb : Below w.heap.size w w') : SrcS w' ao m c ys := by
  refine ⟨h.1, h.2.1, fun ad had j u hu => ?_⟩
  have h1 := h.2.2 ad had j u hu
  rw [hb.cell (World.block_lt_of_cell? w _ h1)]
  exact h1

theorem OwnsS.src {w : World} {base : Nat} {a : Option Addr} {n c : Nat} {xs : List St} (h : OwnsS 48 w base (.slice a n c) n xs) : SrcS w a n c xs := by
  have hl := h.length
  rcases h.2 with ⟨hv, hn⟩ | ⟨g, cap, cur, hv, _⟩
  · simp at hv
    obtain ⟨rfl, rfl, rfl⟩ := hv
    obtain rfl : xs = [] := List.length_eq_zero_iff.1 hl
    exact SrcS.nil _
  · simp at hv
    obtain ⟨rfl, rfl⟩ := hv
    exact srcS_of hl (fun j s hs => by
      obtain ⟨c0, c1, c2⟩ := h.cells.2 j s hs
      rw [Nat.zero_add]
      exact ⟨c0, c1, c2⟩)

theorem grow_nilS (N : Nat) (w : World) (hN : N ≤ 1099511627776) :
    Calls Tryz.prog 82 #[.slice none 0 0, .int .i64 N] w fun e w' => ∃ v, e = .returned v ∧ OwnsS 48 w' w.heap.size v 0 [] ∧ Below w.heap.size w w' := by
  obtain ⟨i0, hi, hz0, hz1, hz2⟩ := info_parts info_step
  by_cases h0 : N = 0
  · subst h0
    refine (Any8.slices_Grow_room Tryz.laysGrowS none 0 0 0 w (Nat.le_refl _) (by omega) (by omega) (by omega)).mono ?_
    rintro e w' ⟨rfl, rfl⟩
    exact ⟨_, rfl, World.ownsRow_nil _ _ _ _, Below.refl _ _⟩
  · refine (Any8.slices_Grow_grow Tryz.laysGrowS i0 (.agg #[.int .i64 0, .int .i64 0, .int .i64 0]) hi hz0 (by omega) none 0 0 N [] w (Nat.le_refl _) (by omega) (by rw [hz2]; omega) (by omega) (by simp) (fun _ => rfl) (fun _ h => by cases h)).mono ?_
    rintro e w' ⟨rfl, rfl⟩
    refine ⟨_, rfl, ⟨by simp [flat], Or.inr ⟨w.heap.size, _, _, rfl, Nat.le_refl _, heap_alloc_new w.drew _, Nat.zero_le _, ?_, ?_, by simp [flat]⟩⟩, ((Below.refl _ w).drew).alloc (Nat.le_refl _) _⟩
    · exact grownCap_le_maxLen w _ _ _ (by unfold maxLen; omega)
    · have := grownCap_ge w (0 + N) 0 (Tryz.laysGrowS_ren.t 25)
      simp [Builtin.zeroCells, Value.cells]
      simp at this
      omega

set_option maxRecDepth 20000 in
set_option maxHeartbeats 1600000 in
theorem concatS_any (B : Nat) (a a2 : Option Addr) (n c m c2 : Nat) (xs ys : List St) (w : World) (hB : B < w.heap.size) (h0 : w.cell? ⟨B, 0, none⟩ = some (.slice a n c)) (h1 : w.cell? ⟨B, 1, none⟩ = some (.slice a2 m c2))
    (hx : SrcS w a n c xs) (hy : SrcS w a2 m c2 ys) (hn : n ≤ 2097152) (hm : m ≤ 2097152) :
    Calls Tryz.prog 51 #[.slice (some ⟨B, 0, none⟩) 2 2] w fun e w' => ∃ v, e = .returned v ∧ OwnsS 48 w' w.heap.size v (xs ++ ys).length (xs ++ ys) ∧ Below w.heap.size w w' := by
  obtain ⟨i0, hi, hz0, hz1, hz2⟩ := info_parts info_step
  have HX := Lib.hid hx
  have HY := Lib.hid hy
  have H0 := Lib.hid h0
  have H1 := Lib.hid h1
  clear hx hy
  go_enter Tryz.func51, Tryz.ntmps51
  go_wp2
  go_loop [3, 11] (fun s i => (i = .int .i64 0 ∧ s = .int .i64 0) ∨ (i = .int .i64 1 ∧ s = .int .i64 n) ∨ (i = .int .i64 2 ∧ s = .int .i64 ((n + m : Nat) : Int))) (fun _ i => 2 - (intOf i).toNat)
  case atStart => exact Or.inl ⟨rfl, rfl⟩
  case round =>
    rcases hrel with ⟨rfl, rfl⟩ | ⟨rfl, rfl⟩ | ⟨rfl, rfl⟩
    · go_wp2
      go_round
      case rel => exact Or.inr (Or.inl ⟨rfl, by go_num⟩)
      case measure => simp [intOf]
    · go_wp2
      go_round
      case rel => exact Or.inr (Or.inr ⟨rfl, by go_num⟩)
      case measure => simp [intOf]
    · go_wp2_with fail
      refine (grow_nilS (n + m) _ (by omega)).mono ?_
      rintro e w1 ⟨v1, rfl, hown1, hb1⟩
      clear h0 h1
      have hown0 : OwnsS 48 w1 w.heap.size v1 0 [] := hown1
      clear hown1
      go_wp2_with fail
      go_loopw [6, 27] (fun s i wr => ∃ (len : Nat) (v : Value) (T : List St), s = v ∧ OwnsS 48 wr w.heap.size v len T ∧ Below w.heap.size w wr ∧ ((i = .int .i64 0 ∧ len = 0 ∧ T = []) ∨ (i = .int .i64 1 ∧ len = n ∧ T = xs) ∨ (i = .int .i64 2 ∧ len = n + m ∧ T = xs ++ ys))) (fun _ i _ => 2 - (intOf i).toNat)
      case atStart => exact ⟨0, _, [], rfl, hown0, hb1, Or.inl ⟨rfl, rfl, rfl⟩⟩
      case round =>
        obtain ⟨len, v, T, rfl, hown, hnx, hh⟩ := hrel
        have g0 : wr.cell? ⟨B, 0, none⟩ = some (.slice a n c) := (hnx.cell (p := ⟨B, 0, none⟩) hB).trans H0.out
        have g1 : wr.cell? ⟨B, 1, none⟩ = some (.slice a2 m c2) := (hnx.cell (p := ⟨B, 1, none⟩) hB).trans H1.out
        rcases hh with ⟨rfl, rfl, rfl⟩ | ⟨rfl, rfl, rfl⟩ | ⟨rfl, rfl, rfl⟩
        · go_wp2_with (at_builtin; refine wpList_appS rfl (.tmp 31) (.tmp 32) _ _ rfl w.heap.size i0 Tryz.underlying29 hi hz0 hz1 hz2 _ _ _ rfl hown _ n _ xs rfl (HX.out.below hnx) (by omega) hnx.size ?_)
          rintro v2 w2 ⟨hown2, hgrow2, _⟩
          have hb2 := hown.grown hnx hgrow2 (Nat.le_refl _) hnx.size
          clear hgrow2 hown
          go_wp2_with fail
          go_roundw
          case rel => exact ⟨n, _, xs, rfl, by simpa using hown2, hb2, Or.inr (Or.inl ⟨rfl, rfl, rfl⟩)⟩
          case measure => simp [intOf]
        · go_wp2_with (at_builtin; refine wpList_appS rfl (.tmp 31) (.tmp 32) _ _ rfl w.heap.size i0 Tryz.underlying29 hi hz0 hz1 hz2 _ _ _ rfl hown _ m _ ys rfl (HY.out.below hnx) (by omega) hnx.size ?_)
          rintro v2 w2 ⟨hown2, hgrow2, _⟩
          have hb2 := hown.grown hnx hgrow2 (Nat.le_refl _) hnx.size
          clear hgrow2 hown
          go_wp2_with fail
          go_roundw
          case rel => exact ⟨_, _, _, rfl, hown2, hb2, Or.inr (Or.inr ⟨rfl, rfl, rfl⟩)⟩
          case measure => simp [intOf]
        · have HO := Lib.hid hown
          clear hown
          go_wp2_with fail
          go_ret
          have ho := HO.out
          have e := ho.length
          rw [← e] at ho
          exact ⟨_, rfl, ho, hnx⟩


end Go.Proofs.YtdbgjgeglgipiaaGreat
