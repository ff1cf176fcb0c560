/-
  Contracts of the laws' helpers that copy steps and automata (toStep, toStepS, toIa). Conditions: the slices read as lists of at most 2^40 elements.
-/
import Derived.Test.YtalanlmhfggheaaOpenIa
import Derived.Test.YtalanlmhfggheaaIaDef
import Derived.Test.YtalanlmhfggheaaInts
namespace Go.Proofs.Ytalanlmhfggheaa
open Go.RowKit

theorem toStep_any (x y z : Int) (w : World) :
    Calls Try.prog 44 #[.agg #[.int .i64 x, .int .i64 y, .int .i64 z]] w fun e w' => e = .returned (.agg #[.int .i64 x, .int .i64 y, .int .i64 z]) ∧ Below w.heap.size w w' := by
  go_enter Try.func44, Try.ntmps44
  go_wp2
  refine bodyPost_ret (v := .agg #[.int .i64 x, .int .i64 y, .int .i64 z]) (by simp [results, Try.results44, go_sem]) rfl ⟨rfl, ?_⟩
  exact (((Below.refl _ _).alloc (Nat.le_refl _) _).alloc (by simp) _).alloc (by simp; omega) _

theorem step_one (x y z : Int) : (#[.int .i64 x, .int .i64 y, .int .i64 z] : Array Value).all (·.oneCell') = true := all_oneCell_toArray (flat_one [(x, y, z)])

theorem filled_step {α : Type} (xs : List α) (z : α) (n k : Nat) (hl : xs.length = n) (hk : k < xs.length) :
    (xs.take k ++ List.replicate (n - k) z).set k xs[k] = xs.take (k + 1) ++ List.replicate (n - (k + 1)) z := by
  have e1 : n - k = (n - (k + 1)) + 1 := by omega
  rw [e1, List.replicate_succ, List.set_append, if_neg (by simp; omega), List.take_succ_eq_append_getElem hk]
  have e2 : k - (xs.take k).length = 0 := by simp; omega
  rw [e2]
  simp only [List.set_cons_zero, List.append_assoc, List.cons_append, List.nil_append]

theorem made_flat (n : Nat) : (madeCells #[.int .i64 0, .int .i64 0, .int .i64 0] (n * 3)).toList = flat (List.replicate n ((0, 0, 0) : St)) := by
  apply List.ext_getElem?
  intro j
  by_cases hj : j < n * 3
  · have hq : j / 3 < n := by omega
    obtain ⟨f0, f1, f2⟩ := flat_at (List.replicate n ((0, 0, 0) : St)) (j / 3) (0, 0, 0) (by simp [hq])
    have hr : j = j / 3 * 3 ∨ j = j / 3 * 3 + 1 ∨ j = j / 3 * 3 + 2 := by omega
    have hL : (madeCells #[.int .i64 0, .int .i64 0, .int .i64 0] (n * 3)).toList[j]? = some (.int .i64 0) := by
      have hm : j % 3 = 0 ∨ j % 3 = 1 ∨ j % 3 = 2 := by omega
      rcases hm with hm | hm | hm <;> simp [madeCells, hj, hm]
    rw [hL]
    rcases hr with hr | hr | hr
    · rw [hr]; exact f0.symm
    · rw [hr]; exact f1.symm
    · rw [hr]; exact f2.symm
  · rw [List.getElem?_eq_none (by simp [madeCells]; omega), List.getElem?_eq_none (by rw [flat_length]; simp; omega)]

set_option maxRecDepth 20000 in
set_option maxHeartbeats 800000 in
theorem toStepS_any (a : Option Addr) (n c : Nat) (ss : List St) (w : World) (h : RowS w a n ss) (hn : n ≤ 1099511627776) :
    Calls Try.prog 27 #[.slice a n c] w fun e w' => e = .returned (.slice (some ⟨w.heap.size, 0, none⟩) n n) ∧ OwnsS 60 w' w.heap.size (.slice (some ⟨w.heap.size, 0, none⟩) n n) n ss ∧ Below w.heap.size w w' := by
  obtain ⟨hl, hc⟩ := h
  obtain ⟨i0, hi, hz0, hz1, hz2⟩ := info_parts (show (Try.prog.info? 60).map (fun i => (i.zero, i.size, i.bytes)) = some (some (.agg #[.int .i64 0, .int .i64 0, .int .i64 0]), 3, 24) by kernel_rfl)
  have HC := Lib.hid hc
  have HL := Lib.hid hl
  clear hc hl
  go_enter Try.func27, Try.ntmps27
  go_wp2_with (at_make; refine wpList_make_full _ rfl _ _ 28 rfl w.heap.size 60 i0 (.agg #[.int .i64 0, .int .i64 0, .int .i64 0]) 3 Try.underlying28 hi hz0 hz1 _ _ _ _ n rfl rfl rfl rfl ?b2 ?b3 (Nat.le_refl _) ?_)
  case b2 => rw [hz2]; omega
  case b3 => unfold maxLen; omega
  intro w0 hown0 hgrow0
  have H0 : Hid (OwnsS 60 w0 w.heap.size (.slice (some ⟨w.heap.size, 0, none⟩) n n) n (List.replicate n (0, 0, 0))) := by
    unfold Hid OwnsS
    rw [← made_flat]
    exact hown0
  clear hown0
  go_wp2
  go_loopw [4] (fun i wr => ∃ k : Nat, k ≤ n ∧ i = .int .i64 k ∧ Hid (OwnsS 60 wr w.heap.size (.slice (some ⟨w.heap.size, 0, none⟩) n n) n (ss.take k ++ List.replicate (n - k) (0, 0, 0))) ∧ Below w.heap.size w wr)
    (fun i _ => n - (intOf i).toNat)
  case atStart => exact ⟨0, Nat.zero_le _, rfl, by simpa [Hid] using H0.out, (Below.refl _ _).grown hgrow0 (Nat.le_refl _) (fun k h => by cases h)⟩
  case round =>
    obtain ⟨k, hk, rfl, HO, hnx⟩ := hrel
    by_cases hlt : k < n
    · obtain ⟨b, off, rfl, hb, hcell⟩ := HC.out (by omega)
      have hkx : k < ss.length := by rw [HL.out]; exact hlt
      obtain ⟨⟨x, y, z⟩, hs⟩ : ∃ s, s = ss[k] := ⟨_, rfl⟩
      obtain ⟨c0, c1, c2⟩ := hcell k ss[k] (List.getElem?_eq_getElem hkx)
      have HR : Hid (wr.rangeAt b (off + k * 3) [.int .i64 x, .int .i64 y, .int .i64 z]) := by
        have := rangeAt_step (w := wr) (b := b) (o := off + k * 3) (s := ss[k]) ((hnx.cell (p := ⟨b, off + k * 3, none⟩) hb).trans c0) ((hnx.cell (p := ⟨b, off + k * 3 + 1, none⟩) hb).trans c1) ((hnx.cell (p := ⟨b, off + k * 3 + 2, none⟩) hb).trans c2)
        rw [← hs] at this
        exact this
      have HS := Lib.hid hs
      clear c0 c1 c2 hs hcell
      go_wp2_with (refine wpList_load_mid rfl _ _ rfl b (off + k * 3) rfl [.int .i64 x, .int .i64 y, .int .i64 z] _ HR.out Try.underlying62 rfl (by kernel_rfl) ?_)
      refine (toStep_any x y z _).mono ?_
      rintro e w1 ⟨rfl, hb1⟩
      have HO1 := Lib.hid (HO.out.below hb1)
      have HTH : Hid (w1.there w.heap.size (k * 3) 3) := HO1.out.there k hlt
      have HB1 : Hid (Below w.heap.size w w1) := hnx.trans (hb1.mono hnx.size)
      have hst := HO1.out.stored k (x, y, z)
      rw [HS.out, filled_step ss (0, 0, 0) n k HL.out hkx, ← HS.out] at hst
      have HT := Lib.hid hst
      clear hst hb1 HO HO1
      go_wp2_with (refine wpList_store_mid rfl _ _ _ rfl w.heap.size _ #[.int .i64 x, .int .i64 y, .int .i64 z] rfl rfl (by simpa using HTH.out) (by kernel_rfl) (step_one x y z) ?_)
      go_roundw
      case rel => exact ⟨k + 1, by omega, by go_num, HT.out.1, HB1.out.grown HT.out.2 HB1.out.size (fun k h => by cases h; exact Nat.le_refl _)⟩
      case measure => simp [intOf]; omega
    · go_wp2
      go_ret
      obtain rfl : k = n := by omega
      refine ⟨rfl, ?_, hnx⟩
      have := HO.out
      rw [List.take_of_length_le (by rw [HL.out]; omega)] at this
      simpa using this

end Go.Proofs.Ytalanlmhfggheaa
