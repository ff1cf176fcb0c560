/-
  The contract of the laws' eqIaS over two rows that read alike. Conditions: at most 2^20 automata.
-/
import Derived.Test.YtdbgjgeglgipiaaIaS
import Derived.Test.YtdbgjgeglgipiaaFast
namespace Go.Proofs.Ytdbgjgeglgipiaa
open Go.RowKit

set_option maxRecDepth 20000 in
set_option maxHeartbeats 6400000 in
theorem eqIaS_any (ar br : Option Addr) (n c c2 : Nat) (L : List IaD) (w : World) (h : RowA w ar n L) (h2 : RowA w br n L) (hn : n ≤ 1048576) (hf : ∀ x ∈ L, IaFits x) :
    Calls Try.prog 16 #[.slice ar n c, .slice br n c2] w fun e w' => e = .returned (.bool true) ∧ Below w.heap.size w w' := by
  have HL := Lib.hid h.1
  have HC := Lib.hid h.2
  have HD := Lib.hid h2.2
  have HF := Lib.hid hf
  clear h h2 hf
  have hnn : ((n : Int) != (n : Int)) = false := by simp
  go_enter Try.func16, Try.ntmps16
  go_wp2_with fail
  go_loopw [5] (fun i wr => ∃ k : Nat, k ≤ n ∧ i = .int .i64 k ∧ Hid (Below w.heap.size w wr)) (fun i _ => n - (intOf i).toNat)
  case atStart => exact ⟨0, Nat.zero_le _, rfl, Below.refl _ _⟩
  case round =>
    obtain ⟨k, hk, rfl, HB⟩ := hrel
    by_cases hlt : k < n
    · obtain ⟨b, off, rfl, hb, hcell⟩ := HC.out (by omega)
      obtain ⟨g, og, rfl, hg, hcelg⟩ := HD.out (by omega)
      have hkx : k < L.length := by rw [HL.out]; exact hlt
      obtain ⟨a2, n2, c2', a3, n3, c3, a4, n4, c4, a5, n5, c5, hra, hro⟩ := hcell k L[k] (List.getElem?_eq_getElem hkx)
      obtain ⟨b2, m2, d2, b3, m3, d3, b4, m4, d4, b5, m5, d5, hrb, hrp⟩ := hcelg k L[k] (List.getElem?_eq_getElem hkx)
      have hft := HF.out L[k] (List.getElem_mem hkx)
      obtain ⟨x, hx⟩ : ∃ x, x = L[k] := ⟨_, rfl⟩
      rw [← hx] at hra hro hrb hrp hft
      have RA : Hid (∀ W, Below w.heap.size w W → W.rangeAt b (off + k * 6) [.int .i64 x.states, .int .i64 x.init, .slice a2 n2 c2', .slice a3 n3 c3, .slice a4 n4 c4, .slice a5 n5 c5]) := fun W hW => rangeAt_below hra hb hW
      have RB : Hid (∀ W, Below w.heap.size w W → W.rangeAt g (og + k * 6) [.int .i64 x.states, .int .i64 x.init, .slice b2 m2 d2, .slice b3 m3 d3, .slice b4 m4 d4, .slice b5 m5 d5]) := fun W hW => rangeAt_below hrb hg hW
      have CE : Hid (∀ W, Below w.heap.size w W → Calls Try.prog 10 #[.agg #[.int .i64 x.states, .int .i64 x.init, .slice a2 n2 c2', .slice a3 n3 c3, .slice a4 n4 c4, .slice a5 n5 c5], .agg #[.int .i64 x.states, .int .i64 x.init, .slice b2 m2 d2, .slice b3 m3 d3, .slice b4 m4 d4, .slice b5 m5 d5]] W fun e w' => e = .returned (.bool true) ∧ Below W.heap.size W w') := fun W hW => (eqIa_any x x _ _ W (hro.below hW) (hrp.below hW) hft hft).mono fun e w' ⟨he, hbl⟩ => ⟨by rw [he, sameB_refl], hbl⟩
      have i1 : (0 : Int) ≤ (k : Int) := by omega
      have i2 : (k : Int) < (n : Int) := by omega
      clear hra hro hrb hrp hcell hcelg hft hx hkx hb hg
      go_wp2_with fail
      have SD : Below w.heap.size w wr.drew := HB.out.drew
      clear HB
      refine wp_region_tf (S := fun w' => Below w.heap.size w w') 10 (by kernel_rfl) (by kernel_rfl) (by kernel_rfl) SD (fun hHeld => ?_)
      refine fast_move 0 17 (.slice (some ⟨b, off, none⟩) n c) (.tmp 0) (fuel := 9) rfl rfl (by kernel_rfl) (by kernel_rfl) (by kernel_rfl) (fun _ _ _ h => h) (by kernel_rfl) (by kernel_rfl) (by first | exact Or.inl rfl | exact Or.inr rfl) hHeld (tf 1 10) (by kernel_rfl) (fun K hK => ?_)
      go_big_move
      refine hK.out _ ?_
      clear hK K
      refine fast_move 1 18 (.int .i64 (k : Int)) (.tmp 5) (fuel := 8) rfl rfl (by kernel_rfl) (by kernel_rfl) (by kernel_rfl) (fun _ _ _ h => h) (by kernel_rfl) (by kernel_rfl) (by first | exact Or.inl rfl | exact Or.inr rfl) hHeld (tf 3 10) (by kernel_rfl) (fun K hK => ?_)
      go_big_move
      refine hK.out _ ?_
      clear hK K
      refine fast2 2 19 (.pointer (some ⟨b, off + k * 6, none⟩)) (.tmp 17) (.slice (some ⟨b, off, none⟩) n c) (.tmp 18) (.int .i64 (k : Int)) (fuel := 7) rfl rfl (by kernel_rfl) (by kernel_rfl) (by kernel_rfl) (fun _ _ _ h => h) (by kernel_rfl) (by kernel_rfl) (by kernel_rfl) (fun ρ hr0 hr1 _ w hSw => by have h1 := i1; have h2 := i2; simp [go_sem, hr0, hr1, h1, h2]) hHeld (tf 7 10) (by kernel_rfl) (fun K hK => ?_)
      go_big_move
      refine hK.out _ ?_
      clear hK K
      refine fast_yields 3 20 (.agg #[.int .i64 x.states, .int .i64 x.init, .slice a2 n2 c2', .slice a3 n3 c3, .slice a4 n4 c4, .slice a5 n5 c5]) (fuel := 6) rfl rfl (by kernel_rfl) (by kernel_rfl) (by kernel_rfl) (fun _ _ _ h => h) (yieldsIf_load_mid (by rfl) _ _ rfl (b) (off + k * 6) rfl [.int .i64 x.states, .int .i64 x.init, .slice a2 n2 c2', .slice a3 n3 c3, .slice a4 n4 c4, .slice a5 n5 c5] _ (fun w hw => RA.out w hw) Try.underlying30 rfl (by kernel_rfl)) hHeld (tf 15 10) (by kernel_rfl) (fun K hK => ?_)
      go_big_move
      refine hK.out _ ?_
      clear hK K
      refine fast_move 4 21 (.slice (some ⟨g, og, none⟩) n c2) (.tmp 1) (fuel := 5) rfl rfl (by kernel_rfl) (by kernel_rfl) (by kernel_rfl) (fun _ _ _ h => h) (by kernel_rfl) (by kernel_rfl) (by first | exact Or.inl rfl | exact Or.inr rfl) hHeld (tf 31 10) (by kernel_rfl) (fun K hK => ?_)
      go_big_move
      refine hK.out _ ?_
      clear hK K
      refine fast_move 5 22 (.int .i64 (k : Int)) (.tmp 5) (fuel := 4) rfl rfl (by kernel_rfl) (by kernel_rfl) (by kernel_rfl) (fun _ _ _ h => h) (by kernel_rfl) (by kernel_rfl) (by first | exact Or.inl rfl | exact Or.inr rfl) hHeld (tf 63 10) (by kernel_rfl) (fun K hK => ?_)
      go_big_move
      refine hK.out _ ?_
      clear hK K
      refine fast2 6 23 (.pointer (some ⟨g, og + k * 6, none⟩)) (.tmp 21) (.slice (some ⟨g, og, none⟩) n c2) (.tmp 22) (.int .i64 (k : Int)) (fuel := 3) rfl rfl (by kernel_rfl) (by kernel_rfl) (by kernel_rfl) (fun _ _ _ h => h) (by kernel_rfl) (by kernel_rfl) (by kernel_rfl) (fun ρ hr0 hr1 _ w hSw => by have h1 := i1; have h2 := i2; simp [go_sem, hr0, hr1, h1, h2]) hHeld (tf 127 10) (by kernel_rfl) (fun K hK => ?_)
      go_big_move
      refine hK.out _ ?_
      clear hK K
      refine fast_yields 7 24 (.agg #[.int .i64 x.states, .int .i64 x.init, .slice b2 m2 d2, .slice b3 m3 d3, .slice b4 m4 d4, .slice b5 m5 d5]) (fuel := 2) rfl rfl (by kernel_rfl) (by kernel_rfl) (by kernel_rfl) (fun _ _ _ h => h) (yieldsIf_load_mid (by rfl) _ _ rfl (g) (og + k * 6) rfl [.int .i64 x.states, .int .i64 x.init, .slice b2 m2 d2, .slice b3 m3 d3, .slice b4 m4 d4, .slice b5 m5 d5] _ (fun w hw => RB.out w hw) Try.underlying30 rfl (by kernel_rfl)) hHeld (tf 255 10) (by kernel_rfl) (fun K hK => ?_)
      go_big_move
      refine hK.out _ ?_
      clear hK K
      refine wpAnyH_ready (rs := [8]) (fuel := 1) (by kernel_rfl) (by simp) ?_
      refine ready_want rfl (by kernel_rfl) (tf 511 10) (by kernel_rfl) (fun K hK => ?_) AllReadyH.nil
      simp only [List.getElem_toArray, List.getElem_cons_succ, List.getElem_cons_zero]
      go_big_op
      refine (CE.out _ hHeld).mono ?_
      rintro e w9 ⟨rfl, hb⟩
      have hS : Below w.heap.size w w9 := hHeld.trans (hb.mono hHeld.size)
      clear hb
      refine hK.out _ _ hS (fun hHeld => ?_)
      clear hK K
      refine fast1 9 26 (.bool false) (.tmp 25) (.bool true) (fuel := 0) rfl rfl (by kernel_rfl) (by kernel_rfl) (by kernel_rfl) (fun _ _ _ h => h) (by kernel_rfl) (by kernel_rfl) (fun ρ hr0 _ w hSw => by simp [go_sem, hr0]) hHeld (tf 1023 10) (by kernel_rfl) (fun K hK => ?_)
      go_big_move
      refine hK.out _ ?_
      clear hK K
      refine wpAnyH_done (by kernel_rfl) ?_ _
      have HS := Lib.hid hHeld
      clear hHeld SD RA RB CE
      go_wp2_with fail
      go_roundw
      case rel => exact ⟨k + 1, by omega, by go_num, HS.out⟩
      case measure => simp [intOf]; omega
    · obtain rfl : n = k := by omega
      go_wp2
      go_ret
      exact ⟨rfl, HB.out⟩

end Go.Proofs.Ytdbgjgeglgipiaa
