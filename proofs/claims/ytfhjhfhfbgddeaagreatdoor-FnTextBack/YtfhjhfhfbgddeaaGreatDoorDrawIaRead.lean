/-
  The contract of the model's DrawIaRead: some text, not too long. Conditions: the code is a slice of at most 2^20 bytes.
-/
import Derived.Test.YtfhjhfhfbgddeaaGreatDoorDrawIaText
import Derived.Test.YtfhjhfhfbgddeaaGreatDoorTextLen
import Derived.Test.YtfhjhfhfbgddeaaGreatDoorSpecText
import Derived.Test.YtfhjhfhfbgddeaaGreatDoorFast
namespace Go.Proofs.YtfhjhfhfbgddeaaGreatDoor
open Go.RowKit

/-- Six texts in a block behind the cursor's. -/
def BtR (W : World) (b P : Nat) : Prop := P < b ∧ ∀ i, i < 6 → ∃ T : ByteArray, W.cell? ⟨b, i, none⟩ = some (.string T) ∧ T.size ≤ 11

theorem BtR.grown {W W' : World} {b P : Nat} (h : BtR W b P) (hg : W.grownBy W' (some P)) : BtR W' b P :=
  ⟨h.1, fun i hi => by
    obtain ⟨T, h1, h2⟩ := h.2 i hi
    exact ⟨T, hg.cell h1 (fun e => by have := Option.some.inj e; have := h.1; simp only at *; omega), h2⟩⟩

theorem BtR.new (W : World) (P : Nat) (hP : P < W.heap.size) : BtR (W.alloc (.cells #[.string ⟨#[]⟩, .string ⟨#[48]⟩, .string ⟨#[32]⟩, .string ⟨#[10]⟩, .string ⟨#[115, 116, 101, 112, 32, 48, 32, 48, 32, 48, 10]⟩, .string ⟨#[120]⟩] 9)) W.heap.size P := by
  have hv : VarIs (W.alloc (.cells #[.string ⟨#[]⟩, .string ⟨#[48]⟩, .string ⟨#[32]⟩, .string ⟨#[10]⟩, .string ⟨#[115, 116, 101, 112, 32, 48, 32, 48, 32, 48, 10]⟩, .string ⟨#[120]⟩] 9)) W.heap.size #[.string ⟨#[]⟩, .string ⟨#[48]⟩, .string ⟨#[32]⟩, .string ⟨#[10]⟩, .string ⟨#[115, 116, 101, 112, 32, 48, 32, 48, 32, 48, 10]⟩, .string ⟨#[120]⟩] 9 := VarIs.new W _ _ rfl
  refine ⟨hP, fun i hi => ?_⟩
  match i, hi with
  | 0, _ => exact ⟨_, hv.cell (j := 0) rfl, by decide⟩
  | 1, _ => exact ⟨_, hv.cell (j := 1) rfl, by decide⟩
  | 2, _ => exact ⟨_, hv.cell (j := 2) rfl, by decide⟩
  | 3, _ => exact ⟨_, hv.cell (j := 3) rfl, by decide⟩
  | 4, _ => exact ⟨_, hv.cell (j := 4) rfl, by decide⟩
  | 5, _ => exact ⟨_, hv.cell (j := 5) rfl, by decide⟩

theorem text_room {S T : ByteArray} {k m : Nat} (hk : k ≤ S.size) (km : k ≤ m) (hS : S.size ≤ 1000000) (hT : T.size ≤ 11) : (S.extract 0 k ++ T ++ S.extract m S.size).size ≤ 1000011 := by
  simp only [ByteArray.size_append, ByteArray.size_extract]
  omega

theorem wrap_room {k : Nat} {r : Int} (h1 : 0 ≤ r) (h2 : r < 2) (h3 : (k : Int) ≤ 1000000) : IntKind.i64.wrap ((k : Int) + r) = (k : Int) + r := Go.IntWalk.i64_in _ (by omega)

set_option maxRecDepth 20000 in
set_option maxHeartbeats 6400000 in
theorem drawIaRead_any (a : Option Addr) (n c : Nat) (w : World) (hn : n ≤ 1048576) (hcode : Code w w.heap.size a n) :
    Calls Tryz.prog 11 #[.slice a n c] w fun e w' => ∃ s : ByteArray, e = .returned (.string s) ∧ s.size ≤ 1000011 ∧ Below w.heap.size w w' := by
  have CO := Lib.hid (open_any a n c w hn hcode)
  clear hcode
  go_enter Tryz.func11, Tryz.ntmps11
  go_wp2_with fail
  refine CO.out.mono ?_
  rintro e w1 ⟨rfl, hcur, hb⟩
  have B1 := Lib.hid hb
  have CU1 := Lib.hid hcur
  clear hcur hb CO
  go_wp2_with fail
  refine (anyIa_any w.heap.size 0 _ CU1.out (by omega)).mono ?_
  rintro e w2 ⟨ia, v, rfl, hm, hl, hcur, hg⟩
  have B2 : Hid (Below w.heap.size w w2) := B1.out.grown hg B1.out.size (fun q hq => by have := Option.some.inj hq; omega)
  have CU2 := Lib.hid hcur
  have HL : Hid (LensT ia) := hl
  have CT := Lib.hid (specIaText_any ia v w2 hm.row (Nat.le_trans hl.1 (by decide)) (Nat.le_trans hl.2.1 (by decide)) (Nat.le_trans hl.2.2.1 (by decide)) (Nat.le_trans hl.2.2.2 (by decide)))
  clear hcur hg hm hl B1 CU1
  go_wp2_with fail
  refine CT.out.mono ?_
  rintro e w3 ⟨rfl, hb⟩
  have B3 : Hid (Below w.heap.size w w3) := B2.out.trans (hb.mono B2.out.size)
  have CU3 := Lib.hid (CU2.out.below hb)
  obtain ⟨S, hSe⟩ : ∃ s, s = bs (iaTextOf ia) := ⟨_, rfl⟩
  have hSz : S.size ≤ 1000000 := by
    rw [hSe, bs_size]
    exact iaText_len ia HL.out
  rw [← hSe]
  clear hb B2 CU2 CT HL hSe
  go_wp2_with fail
  refine (once_any w.heap.size (0 + 340) 3 _ CU3.out (by omega) (by omega) (by omega)).mono ?_
  rintro e w4 ⟨q, rfl, hcur, hg⟩
  have B4 : Hid (Below w.heap.size w w4) := B3.out.grown hg B3.out.size (fun q hq => by have := Option.some.inj hq; omega)
  have CU4 := Lib.hid hcur
  clear hcur hg B3 CU3
  cases q with
  | false =>
    go_wp2_with fail
    go_ret
    exact ⟨_, rfl, by omega, B4.out⟩
  | true =>
    go_wp2_with fail
    refine (pick_le w.heap.size (0 + 340 + 1) (((S.size : Nat) : Int) + 1) _ CU4.out (by omega) (by omega) (by omega)).mono ?_
    rintro e w5 ⟨r, rfl, rr1, rr2, hcur, hg⟩
    have B5 : Hid (Below w.heap.size w w5) := B4.out.grown hg B4.out.size (fun q hq => by have := Option.some.inj hq; omega)
    have CU5 := Lib.hid hcur
    obtain ⟨k, rfl⟩ : ∃ z : Nat, r = (z : Int) := ⟨r.toNat, by omega⟩
    have kS : k ≤ S.size := by omega
    have kB : (k : Int) ≤ 1000000 := by omega
    clear hcur hg B4 CU4
    go_wp2_with fail
    obtain ⟨w0, hw0⟩ : ∃ z, z = w5.drew := ⟨_, rfl⟩
    have SD : Below w.heap.size w w5.drew := B5.out.drew
    have CU0 : Hid (Cur w0 w.heap.size 1000) := by
      rw [hw0]
      exact (CU5.out.below (Below.refl _ _).drew).mono (by omega)
    obtain ⟨tq, htq⟩ : ∃ t, t = 1000 := ⟨_, rfl⟩
    rw [← htq] at CU0
    clear B5 CU5
    refine wp_region_tf (S := fun w' => Below w.heap.size w w') 20 (by kernel_rfl) (by kernel_rfl) (by kernel_rfl) SD (fun hHeld => ?_)
    rw [← hw0] at hHeld ⊢
    clear hw0 SD
    refine fast_move 0 18 (.string S) (.tmp 4) (fuel := 19) rfl rfl (by kernel_rfl) (by kernel_rfl) (by kernel_rfl) (fun _ _ _ h => h) (by kernel_rfl) (by kernel_rfl) (by first | exact Or.inl rfl | exact Or.inr rfl) hHeld (tf 1 20) (by kernel_rfl) (fun K hK => ?_)
    go_big_move
    refine hK.out _ ?_
    clear hK K
    refine fast_move 1 19 (.int .i64 (k : Int)) (.tmp 5) (fuel := 18) rfl rfl (by kernel_rfl) (by kernel_rfl) (by kernel_rfl) (fun _ _ _ h => h) (by kernel_rfl) (by kernel_rfl) (by first | exact Or.inl rfl | exact Or.inr rfl) hHeld (tf 3 20) (by kernel_rfl) (fun K hK => ?_)
    go_big_move
    refine hK.out _ ?_
    clear hK K
    refine fast2 2 20 (.string (S.extract 0 k)) (.tmp 18) (.string S) (.tmp 19) (.int .i64 (k : Int)) (fuel := 17) rfl rfl (by kernel_rfl) (by kernel_rfl) (by kernel_rfl) (fun _ _ _ h => h) (by kernel_rfl) (by kernel_rfl) (by kernel_rfl) (fun ρ hr0 hr1 _ w hSw => by have h1 := kS; simp [go_sem, hr0, hr1, h1]) hHeld (tf 7 20) (by kernel_rfl) (fun K hK => ?_)
    go_big_move
    refine hK.out _ ?_
    clear hK K
    refine fast_move 4 22 (.pointer (some ⟨w.heap.size, 0, none⟩)) (.tmp 3) (fuel := 16) rfl rfl (by kernel_rfl) (by kernel_rfl) (by kernel_rfl) (fun _ _ _ h => h) (by kernel_rfl) (by kernel_rfl) (by first | exact Or.inl rfl | exact Or.inr rfl) hHeld (tf 23 20) (by kernel_rfl) (fun K hK => ?_)
    go_big_move
    refine hK.out _ ?_
    clear hK K
    refine fast_move 9 27 (.string S) (.tmp 4) (fuel := 15) rfl rfl (by kernel_rfl) (by kernel_rfl) (by kernel_rfl) (fun _ _ _ h => h) (by kernel_rfl) (by kernel_rfl) (by first | exact Or.inl rfl | exact Or.inr rfl) hHeld (tf 535 20) (by kernel_rfl) (fun K hK => ?_)
    go_big_move
    refine hK.out _ ?_
    clear hK K
    refine fast_move 10 28 (.string S) (.tmp 4) (fuel := 14) rfl rfl (by kernel_rfl) (by kernel_rfl) (by kernel_rfl) (fun _ _ _ h => h) (by kernel_rfl) (by kernel_rfl) (by first | exact Or.inl rfl | exact Or.inr rfl) hHeld (tf 1559 20) (by kernel_rfl) (fun K hK => ?_)
    go_big_move
    refine hK.out _ ?_
    clear hK K
    refine fast1 11 29 (.int .i64 ((S.size : Nat) : Int)) (.tmp 28) (.string S) (fuel := 13) rfl rfl (by kernel_rfl) (by kernel_rfl) (by kernel_rfl) (fun _ _ _ h => h) (by kernel_rfl) (by kernel_rfl) (fun ρ hr0 _ w hSw => by simp [go_sem, hr0]) hHeld (tf 3607 20) (by kernel_rfl) (fun K hK => ?_)
    go_big_move
    refine hK.out _ ?_
    clear hK K
    refine fast_move 12 30 (.int .i64 (k : Int)) (.tmp 5) (fuel := 12) rfl rfl (by kernel_rfl) (by kernel_rfl) (by kernel_rfl) (fun _ _ _ h => h) (by kernel_rfl) (by kernel_rfl) (by first | exact Or.inl rfl | exact Or.inr rfl) hHeld (tf 7703 20) (by kernel_rfl) (fun K hK => ?_)
    go_big_move
    refine hK.out _ ?_
    clear hK K
    refine fast_move 13 31 (.pointer (some ⟨w.heap.size, 0, none⟩)) (.tmp 3) (fuel := 11) rfl rfl (by kernel_rfl) (by kernel_rfl) (by kernel_rfl) (fun _ _ _ h => h) (by kernel_rfl) (by kernel_rfl) (by first | exact Or.inl rfl | exact Or.inr rfl) hHeld (tf 15895 20) (by kernel_rfl) (fun K hK => ?_)
    go_big_move
    refine hK.out _ ?_
    clear hK K
    refine wpAnyH_ready (rs := [3, 5]) (fuel := 10) (by kernel_rfl) (by simp) ?_
    refine ready_want rfl (by kernel_rfl) (tf 15903 20) (by kernel_rfl) (fun K hK => ?_) ?_
    · simp only [List.getElem_toArray, List.getElem_cons_succ, List.getElem_cons_zero]
      have bel1 := (Below.refl w0.heap.size w0).alloc (Nat.le_refl _) (.cells #[.string ⟨#[]⟩, .string ⟨#[48]⟩, .string ⟨#[32]⟩, .string ⟨#[10]⟩, .string ⟨#[115, 116, 101, 112, 32, 48, 32, 48, 32, 48, 10]⟩, .string ⟨#[120]⟩] 9)
      have cu1 : Hid (Cur (w0.alloc (.cells #[.string ⟨#[]⟩, .string ⟨#[48]⟩, .string ⟨#[32]⟩, .string ⟨#[10]⟩, .string ⟨#[115, 116, 101, 112, 32, 48, 32, 48, 32, 48, 10]⟩, .string ⟨#[120]⟩] 9)) w.heap.size tq) := CU0.out.below bel1
      have rg1 : Hid (BtR (w0.alloc (.cells #[.string ⟨#[]⟩, .string ⟨#[48]⟩, .string ⟨#[32]⟩, .string ⟨#[10]⟩, .string ⟨#[115, 116, 101, 112, 32, 48, 32, 48, 32, 48, 10]⟩, .string ⟨#[120]⟩] 9)) w0.heap.size w.heap.size) := BtR.new w0 w.heap.size CU0.out.lt
      go_big_op
      refine hK.out _ _ (hHeld.trans (bel1.mono hHeld.size)) (fun hHeld => ?_)
      clear hK K bel1
      refine wpAnyH_ready (rs := [5]) (fuel := 9) (by kernel_rfl) (by simp) ?_
      refine ready_want rfl (by kernel_rfl) (tf 15935 20) (by kernel_rfl) (fun K hK => ?_) AllReadyH.nil
      simp only [List.getElem_toArray, List.getElem_cons_succ, List.getElem_cons_zero]
      go_big_op
      refine (pick_le w.heap.size tq 6 _ cu1.out (by omega) (by omega) (by omega)).mono ?_
      rintro e wp2 ⟨r5, rfl, r51, r52, hcur, hg⟩
      have cu2 := Lib.hid hcur
      have hS2 : Below w.heap.size w wp2 := hHeld.grown hg hHeld.size (fun q hq => by have := Option.some.inj hq; omega)
      obtain ⟨i5, rfl⟩ : ∃ z : Nat, r5 = (z : Int) := ⟨r5.toNat, by omega⟩
      have i56 : i5 < 6 := by omega
      have rg2 := Lib.hid (rg1.out.grown hg)
      clear hcur hg
      refine hK.out _ _ hS2 (fun hHeld => ?_)
      clear hK K hS2
      refine fast2 6 24 (.pointer (some ⟨w0.heap.size, i5, none⟩)) (.tmp 21) (.slice (some ⟨w0.heap.size, 0, none⟩) 6 6) (.tmp 23) (.int .i64 (i5 : Int)) (fuel := 8) rfl rfl (by kernel_rfl) (by kernel_rfl) (by kernel_rfl) (fun _ _ _ h => h) (by kernel_rfl) (by kernel_rfl) (by kernel_rfl) (fun ρ hr0 hr1 _ w hSw => by have h1 := r51; have h2 := r52; simp [go_sem, hr0, hr1, h1, h2]) hHeld (tf 15999 20) (by kernel_rfl) (fun K hK => ?_)
      go_big_move
      refine hK.out _ ?_
      clear hK K
      refine wpAnyH_ready (rs := [7, 14]) (fuel := 7) (by kernel_rfl) (by simp) ?_
      refine ready_want rfl (by kernel_rfl) (tf 16127 20) (by kernel_rfl) (fun K hK => ?_) ?_
      · simp only [List.getElem_toArray, List.getElem_cons_succ, List.getElem_cons_zero]
        obtain ⟨T, hT, hTz⟩ := rg2.out.2 i5 i56
        go_big_op
        refine hK.out _ _ hHeld (fun hHeld => ?_)
        clear hK K hT
        refine fast2 8 26 (.string (S.extract 0 k ++ T)) (.tmp 20) (.string (S.extract 0 k)) (.tmp 25) (.string T) (fuel := 6) rfl rfl (by kernel_rfl) (by kernel_rfl) (by kernel_rfl) (fun _ _ _ h => h) (by kernel_rfl) (by kernel_rfl) (by kernel_rfl) (fun ρ hr0 hr1 _ w hSw => by simp [go_sem, hr0, hr1]; omega) hHeld (tf 16383 20) (by kernel_rfl) (fun K hK => ?_)
        go_big_move
        refine hK.out _ ?_
        clear hK K
        refine wpAnyH_ready (rs := [14]) (fuel := 5) (by kernel_rfl) (by simp) ?_
        refine ready_want rfl (by kernel_rfl) (tf 32767 20) (by kernel_rfl) (fun K hK => ?_) AllReadyH.nil
        simp only [List.getElem_toArray, List.getElem_cons_succ, List.getElem_cons_zero]
        go_big_op
        refine (pick_le w.heap.size (tq + 1) 2 _ cu2.out (by omega) (by omega) (by omega)).mono ?_
        rintro e wp4 ⟨r14, rfl, r141, r142, hcur, hg⟩
        have cu4 := Lib.hid hcur
        have hS4 : Below w.heap.size w wp4 := hHeld.grown hg hHeld.size (fun q hq => by have := Option.some.inj hq; omega)
        have rg4 := Lib.hid (rg2.out.grown hg)
        clear hcur hg
        refine hK.out _ _ hS4 (fun hHeld => ?_)
        clear hK K hS4
        refine fast2 15 33 (.int .i64 ((k : Int) + r14)) (.tmp 30) (.int .i64 (k : Int)) (.tmp 32) (.int .i64 r14) (fuel := 4) rfl rfl (by kernel_rfl) (by kernel_rfl) (by kernel_rfl) (fun _ _ _ h => h) (by kernel_rfl) (by kernel_rfl) (by kernel_rfl) (fun ρ hr0 hr1 _ w hSw => by simp [go_sem, hr0, hr1]; exact wrap_room r141 r142 kB) hHeld (tf 65535 20) (by kernel_rfl) (fun K hK => ?_)
        go_big_move
        refine hK.out _ ?_
        clear hK K
        obtain ⟨m, hm⟩ : ∃ m : Nat, (m : Int) = min ((S.size : Nat) : Int) ((k : Int) + r14) := ⟨(min ((S.size : Nat) : Int) ((k : Int) + r14)).toNat, by omega⟩
        have hmS : m ≤ S.size := by omega
        have km : k ≤ m := by omega
        have hmI : (m : Int) ≤ ((S.size : Nat) : Int) := by omega
        refine fast2 16 34 (.int .i64 (min ((S.size : Nat) : Int) ((k : Int) + r14))) (.tmp 29) (.int .i64 ((S.size : Nat) : Int)) (.tmp 33) (.int .i64 ((k : Int) + r14)) (fuel := 3) rfl rfl (by kernel_rfl) (by kernel_rfl) (by kernel_rfl) (fun _ _ _ h => h) (by kernel_rfl) (by kernel_rfl) (by kernel_rfl) (fun ρ hr0 hr1 _ w hSw => by simp [go_sem, hr0, hr1]) hHeld (tf 131071 20) (by kernel_rfl) (fun K hK => ?_)
        go_big_move
        refine hK.out _ ?_
        clear hK K
        refine fast2 17 35 (.string (S.extract m S.size)) (.tmp 27) (.string S) (.tmp 34) (.int .i64 (min ((S.size : Nat) : Int) ((k : Int) + r14))) (fuel := 2) rfl rfl (by kernel_rfl) (by kernel_rfl) (by kernel_rfl) (fun _ _ _ h => h) (by kernel_rfl) (by kernel_rfl) (by kernel_rfl) (fun ρ hr0 hr1 _ w hSw => by have h1 := hm.symm; have h2 := hmI; simp [go_sem, hr0, hr1, h1, h2]) hHeld (tf 262143 20) (by kernel_rfl) (fun K hK => ?_)
        go_big_move
        refine hK.out _ ?_
        clear hK K
        refine fast2 18 36 (.string (S.extract 0 k ++ T ++ S.extract m S.size)) (.tmp 26) (.string (S.extract 0 k ++ T)) (.tmp 35) (.string (S.extract m S.size)) (fuel := 1) rfl rfl (by kernel_rfl) (by kernel_rfl) (by kernel_rfl) (fun _ _ _ h => h) (by kernel_rfl) (by kernel_rfl) (by kernel_rfl) (fun ρ hr0 hr1 _ w hSw => by simp [go_sem, hr0, hr1]; omega) hHeld (tf 524287 20) (by kernel_rfl) (fun K hK => ?_)
        go_big_move
        refine hK.out _ ?_
        clear hK K
        refine fast_move 19 2 (.string (S.extract 0 k ++ T ++ S.extract m S.size)) (.tmp 36) (fuel := 0) rfl rfl (by kernel_rfl) (by kernel_rfl) (by kernel_rfl) (fun _ _ _ h => h) (by kernel_rfl) (by kernel_rfl) (by first | exact Or.inl rfl | exact Or.inr rfl) hHeld (tf 1048575 20) (by kernel_rfl) (fun K hK => ?_)
        go_big_move
        refine hK.out _ ?_
        clear hK K
        refine wpAnyH_done (by kernel_rfl) ?_ _
        have HBF := Lib.hid hHeld
        clear hHeld
        go_wp2_with fail
        go_ret
        exact ⟨_, rfl, text_room kS km hSz hTz, HBF.out⟩
      refine ready_want rfl (by kernel_rfl) (tf 32383 20) (by kernel_rfl) (fun K hK => ?_) AllReadyH.nil
      simp only [List.getElem_toArray, List.getElem_cons_succ, List.getElem_cons_zero]
      go_big_op
      refine (pick_le w.heap.size (tq + 1) 2 _ cu2.out (by omega) (by omega) (by omega)).mono ?_
      rintro e wp5 ⟨r14, rfl, r141, r142, hcur, hg⟩
      have cu5 := Lib.hid hcur
      have hS5 : Below w.heap.size w wp5 := hHeld.grown hg hHeld.size (fun q hq => by have := Option.some.inj hq; omega)
      have rg5 := Lib.hid (rg2.out.grown hg)
      clear hcur hg
      refine hK.out _ _ hS5 (fun hHeld => ?_)
      clear hK K hS5
      refine fast2 15 33 (.int .i64 ((k : Int) + r14)) (.tmp 30) (.int .i64 (k : Int)) (.tmp 32) (.int .i64 r14) (fuel := 6) rfl rfl (by kernel_rfl) (by kernel_rfl) (by kernel_rfl) (fun _ _ _ h => h) (by kernel_rfl) (by kernel_rfl) (by kernel_rfl) (fun ρ hr0 hr1 _ w hSw => by simp [go_sem, hr0, hr1]; exact wrap_room r141 r142 kB) hHeld (tf 65151 20) (by kernel_rfl) (fun K hK => ?_)
      go_big_move
      refine hK.out _ ?_
      clear hK K
      obtain ⟨m, hm⟩ : ∃ m : Nat, (m : Int) = min ((S.size : Nat) : Int) ((k : Int) + r14) := ⟨(min ((S.size : Nat) : Int) ((k : Int) + r14)).toNat, by omega⟩
      have hmS : m ≤ S.size := by omega
      have km : k ≤ m := by omega
      have hmI : (m : Int) ≤ ((S.size : Nat) : Int) := by omega
      refine fast2 16 34 (.int .i64 (min ((S.size : Nat) : Int) ((k : Int) + r14))) (.tmp 29) (.int .i64 ((S.size : Nat) : Int)) (.tmp 33) (.int .i64 ((k : Int) + r14)) (fuel := 5) rfl rfl (by kernel_rfl) (by kernel_rfl) (by kernel_rfl) (fun _ _ _ h => h) (by kernel_rfl) (by kernel_rfl) (by kernel_rfl) (fun ρ hr0 hr1 _ w hSw => by simp [go_sem, hr0, hr1]) hHeld (tf 130687 20) (by kernel_rfl) (fun K hK => ?_)
      go_big_move
      refine hK.out _ ?_
      clear hK K
      refine fast2 17 35 (.string (S.extract m S.size)) (.tmp 27) (.string S) (.tmp 34) (.int .i64 (min ((S.size : Nat) : Int) ((k : Int) + r14))) (fuel := 4) rfl rfl (by kernel_rfl) (by kernel_rfl) (by kernel_rfl) (fun _ _ _ h => h) (by kernel_rfl) (by kernel_rfl) (by kernel_rfl) (fun ρ hr0 hr1 _ w hSw => by have h1 := hm.symm; have h2 := hmI; simp [go_sem, hr0, hr1, h1, h2]) hHeld (tf 261759 20) (by kernel_rfl) (fun K hK => ?_)
      go_big_move
      refine hK.out _ ?_
      clear hK K
      refine wpAnyH_ready (rs := [7]) (fuel := 3) (by kernel_rfl) (by simp) ?_
      refine ready_want rfl (by kernel_rfl) (tf 261887 20) (by kernel_rfl) (fun K hK => ?_) AllReadyH.nil
      simp only [List.getElem_toArray, List.getElem_cons_succ, List.getElem_cons_zero]
      obtain ⟨T, hT, hTz⟩ := rg5.out.2 i5 i56
      go_big_op
      refine hK.out _ _ hHeld (fun hHeld => ?_)
      clear hK K hT
      refine fast2 8 26 (.string (S.extract 0 k ++ T)) (.tmp 20) (.string (S.extract 0 k)) (.tmp 25) (.string T) (fuel := 2) rfl rfl (by kernel_rfl) (by kernel_rfl) (by kernel_rfl) (fun _ _ _ h => h) (by kernel_rfl) (by kernel_rfl) (by kernel_rfl) (fun ρ hr0 hr1 _ w hSw => by simp [go_sem, hr0, hr1]; omega) hHeld (tf 262143 20) (by kernel_rfl) (fun K hK => ?_)
      go_big_move
      refine hK.out _ ?_
      clear hK K
      refine fast2 18 36 (.string (S.extract 0 k ++ T ++ S.extract m S.size)) (.tmp 26) (.string (S.extract 0 k ++ T)) (.tmp 35) (.string (S.extract m S.size)) (fuel := 1) rfl rfl (by kernel_rfl) (by kernel_rfl) (by kernel_rfl) (fun _ _ _ h => h) (by kernel_rfl) (by kernel_rfl) (by kernel_rfl) (fun ρ hr0 hr1 _ w hSw => by simp [go_sem, hr0, hr1]; omega) hHeld (tf 524287 20) (by kernel_rfl) (fun K hK => ?_)
      go_big_move
      refine hK.out _ ?_
      clear hK K
      refine fast_move 19 2 (.string (S.extract 0 k ++ T ++ S.extract m S.size)) (.tmp 36) (fuel := 0) rfl rfl (by kernel_rfl) (by kernel_rfl) (by kernel_rfl) (fun _ _ _ h => h) (by kernel_rfl) (by kernel_rfl) (by first | exact Or.inl rfl | exact Or.inr rfl) hHeld (tf 1048575 20) (by kernel_rfl) (fun K hK => ?_)
      go_big_move
      refine hK.out _ ?_
      clear hK K
      refine wpAnyH_done (by kernel_rfl) ?_ _
      have HBF := Lib.hid hHeld
      clear hHeld
      go_wp2_with fail
      go_ret
      exact ⟨_, rfl, text_room kS km hSz hTz, HBF.out⟩
    refine ready_want rfl (by kernel_rfl) (tf 15927 20) (by kernel_rfl) (fun K hK => ?_) AllReadyH.nil
    simp only [List.getElem_toArray, List.getElem_cons_succ, List.getElem_cons_zero]
    go_big_op
    refine (pick_le w.heap.size tq 6 _ CU0.out (by omega) (by omega) (by omega)).mono ?_
    rintro e wp7 ⟨r5, rfl, r51, r52, hcur, hg⟩
    have cu7 := Lib.hid hcur
    have hS7 : Below w.heap.size w wp7 := hHeld.grown hg hHeld.size (fun q hq => by have := Option.some.inj hq; omega)
    obtain ⟨i5, rfl⟩ : ∃ z : Nat, r5 = (z : Int) := ⟨r5.toNat, by omega⟩
    have i56 : i5 < 6 := by omega
    clear hcur hg
    refine hK.out _ _ hS7 (fun hHeld => ?_)
    clear hK K hS7
    refine wpAnyH_ready (rs := [3, 14]) (fuel := 9) (by kernel_rfl) (by simp) ?_
    refine ready_want rfl (by kernel_rfl) (tf 15935 20) (by kernel_rfl) (fun K hK => ?_) ?_
    · simp only [List.getElem_toArray, List.getElem_cons_succ, List.getElem_cons_zero]
      have bel8 := (Below.refl wp7.heap.size wp7).alloc (Nat.le_refl _) (.cells #[.string ⟨#[]⟩, .string ⟨#[48]⟩, .string ⟨#[32]⟩, .string ⟨#[10]⟩, .string ⟨#[115, 116, 101, 112, 32, 48, 32, 48, 32, 48, 10]⟩, .string ⟨#[120]⟩] 9)
      have cu8 : Hid (Cur (wp7.alloc (.cells #[.string ⟨#[]⟩, .string ⟨#[48]⟩, .string ⟨#[32]⟩, .string ⟨#[10]⟩, .string ⟨#[115, 116, 101, 112, 32, 48, 32, 48, 32, 48, 10]⟩, .string ⟨#[120]⟩] 9)) w.heap.size (tq + 1)) := cu7.out.below bel8
      have rg8 : Hid (BtR (wp7.alloc (.cells #[.string ⟨#[]⟩, .string ⟨#[48]⟩, .string ⟨#[32]⟩, .string ⟨#[10]⟩, .string ⟨#[115, 116, 101, 112, 32, 48, 32, 48, 32, 48, 10]⟩, .string ⟨#[120]⟩] 9)) wp7.heap.size w.heap.size) := BtR.new wp7 w.heap.size cu7.out.lt
      go_big_op
      refine hK.out _ _ (hHeld.trans (bel8.mono hHeld.size)) (fun hHeld => ?_)
      clear hK K bel8
      refine fast2 6 24 (.pointer (some ⟨wp7.heap.size, i5, none⟩)) (.tmp 21) (.slice (some ⟨wp7.heap.size, 0, none⟩) 6 6) (.tmp 23) (.int .i64 (i5 : Int)) (fuel := 8) rfl rfl (by kernel_rfl) (by kernel_rfl) (by kernel_rfl) (fun _ _ _ h => h) (by kernel_rfl) (by kernel_rfl) (by kernel_rfl) (fun ρ hr0 hr1 _ w hSw => by have h1 := r51; have h2 := r52; simp [go_sem, hr0, hr1, h1, h2]) hHeld (tf 15999 20) (by kernel_rfl) (fun K hK => ?_)
      go_big_move
      refine hK.out _ ?_
      clear hK K
      refine wpAnyH_ready (rs := [7, 14]) (fuel := 7) (by kernel_rfl) (by simp) ?_
      refine ready_want rfl (by kernel_rfl) (tf 16127 20) (by kernel_rfl) (fun K hK => ?_) ?_
      · simp only [List.getElem_toArray, List.getElem_cons_succ, List.getElem_cons_zero]
        obtain ⟨T, hT, hTz⟩ := rg8.out.2 i5 i56
        go_big_op
        refine hK.out _ _ hHeld (fun hHeld => ?_)
        clear hK K hT
        refine fast2 8 26 (.string (S.extract 0 k ++ T)) (.tmp 20) (.string (S.extract 0 k)) (.tmp 25) (.string T) (fuel := 6) rfl rfl (by kernel_rfl) (by kernel_rfl) (by kernel_rfl) (fun _ _ _ h => h) (by kernel_rfl) (by kernel_rfl) (by kernel_rfl) (fun ρ hr0 hr1 _ w hSw => by simp [go_sem, hr0, hr1]; omega) hHeld (tf 16383 20) (by kernel_rfl) (fun K hK => ?_)
        go_big_move
        refine hK.out _ ?_
        clear hK K
        refine wpAnyH_ready (rs := [14]) (fuel := 5) (by kernel_rfl) (by simp) ?_
        refine ready_want rfl (by kernel_rfl) (tf 32767 20) (by kernel_rfl) (fun K hK => ?_) AllReadyH.nil
        simp only [List.getElem_toArray, List.getElem_cons_succ, List.getElem_cons_zero]
        go_big_op
        refine (pick_le w.heap.size (tq + 1) 2 _ cu8.out (by omega) (by omega) (by omega)).mono ?_
        rintro e wp10 ⟨r14, rfl, r141, r142, hcur, hg⟩
        have cu10 := Lib.hid hcur
        have hS10 : Below w.heap.size w wp10 := hHeld.grown hg hHeld.size (fun q hq => by have := Option.some.inj hq; omega)
        have rg10 := Lib.hid (rg8.out.grown hg)
        clear hcur hg
        refine hK.out _ _ hS10 (fun hHeld => ?_)
        clear hK K hS10
        refine fast2 15 33 (.int .i64 ((k : Int) + r14)) (.tmp 30) (.int .i64 (k : Int)) (.tmp 32) (.int .i64 r14) (fuel := 4) rfl rfl (by kernel_rfl) (by kernel_rfl) (by kernel_rfl) (fun _ _ _ h => h) (by kernel_rfl) (by kernel_rfl) (by kernel_rfl) (fun ρ hr0 hr1 _ w hSw => by simp [go_sem, hr0, hr1]; exact wrap_room r141 r142 kB) hHeld (tf 65535 20) (by kernel_rfl) (fun K hK => ?_)
        go_big_move
        refine hK.out _ ?_
        clear hK K
        obtain ⟨m, hm⟩ : ∃ m : Nat, (m : Int) = min ((S.size : Nat) : Int) ((k : Int) + r14) := ⟨(min ((S.size : Nat) : Int) ((k : Int) + r14)).toNat, by omega⟩
        have hmS : m ≤ S.size := by omega
        have km : k ≤ m := by omega
        have hmI : (m : Int) ≤ ((S.size : Nat) : Int) := by omega
        refine fast2 16 34 (.int .i64 (min ((S.size : Nat) : Int) ((k : Int) + r14))) (.tmp 29) (.int .i64 ((S.size : Nat) : Int)) (.tmp 33) (.int .i64 ((k : Int) + r14)) (fuel := 3) rfl rfl (by kernel_rfl) (by kernel_rfl) (by kernel_rfl) (fun _ _ _ h => h) (by kernel_rfl) (by kernel_rfl) (by kernel_rfl) (fun ρ hr0 hr1 _ w hSw => by simp [go_sem, hr0, hr1]) hHeld (tf 131071 20) (by kernel_rfl) (fun K hK => ?_)
        go_big_move
        refine hK.out _ ?_
        clear hK K
        refine fast2 17 35 (.string (S.extract m S.size)) (.tmp 27) (.string S) (.tmp 34) (.int .i64 (min ((S.size : Nat) : Int) ((k : Int) + r14))) (fuel := 2) rfl rfl (by kernel_rfl) (by kernel_rfl) (by kernel_rfl) (fun _ _ _ h => h) (by kernel_rfl) (by kernel_rfl) (by kernel_rfl) (fun ρ hr0 hr1 _ w hSw => by have h1 := hm.symm; have h2 := hmI; simp [go_sem, hr0, hr1, h1, h2]) hHeld (tf 262143 20) (by kernel_rfl) (fun K hK => ?_)
        go_big_move
        refine hK.out _ ?_
        clear hK K
        refine fast2 18 36 (.string (S.extract 0 k ++ T ++ S.extract m S.size)) (.tmp 26) (.string (S.extract 0 k ++ T)) (.tmp 35) (.string (S.extract m S.size)) (fuel := 1) rfl rfl (by kernel_rfl) (by kernel_rfl) (by kernel_rfl) (fun _ _ _ h => h) (by kernel_rfl) (by kernel_rfl) (by kernel_rfl) (fun ρ hr0 hr1 _ w hSw => by simp [go_sem, hr0, hr1]; omega) hHeld (tf 524287 20) (by kernel_rfl) (fun K hK => ?_)
        go_big_move
        refine hK.out _ ?_
        clear hK K
        refine fast_move 19 2 (.string (S.extract 0 k ++ T ++ S.extract m S.size)) (.tmp 36) (fuel := 0) rfl rfl (by kernel_rfl) (by kernel_rfl) (by kernel_rfl) (fun _ _ _ h => h) (by kernel_rfl) (by kernel_rfl) (by first | exact Or.inl rfl | exact Or.inr rfl) hHeld (tf 1048575 20) (by kernel_rfl) (fun K hK => ?_)
        go_big_move
        refine hK.out _ ?_
        clear hK K
        refine wpAnyH_done (by kernel_rfl) ?_ _
        have HBF := Lib.hid hHeld
        clear hHeld
        go_wp2_with fail
        go_ret
        exact ⟨_, rfl, text_room kS km hSz hTz, HBF.out⟩
      refine ready_want rfl (by kernel_rfl) (tf 32383 20) (by kernel_rfl) (fun K hK => ?_) AllReadyH.nil
      simp only [List.getElem_toArray, List.getElem_cons_succ, List.getElem_cons_zero]
      go_big_op
      refine (pick_le w.heap.size (tq + 1) 2 _ cu8.out (by omega) (by omega) (by omega)).mono ?_
      rintro e wp11 ⟨r14, rfl, r141, r142, hcur, hg⟩
      have cu11 := Lib.hid hcur
      have hS11 : Below w.heap.size w wp11 := hHeld.grown hg hHeld.size (fun q hq => by have := Option.some.inj hq; omega)
      have rg11 := Lib.hid (rg8.out.grown hg)
      clear hcur hg
      refine hK.out _ _ hS11 (fun hHeld => ?_)
      clear hK K hS11
      refine fast2 15 33 (.int .i64 ((k : Int) + r14)) (.tmp 30) (.int .i64 (k : Int)) (.tmp 32) (.int .i64 r14) (fuel := 6) rfl rfl (by kernel_rfl) (by kernel_rfl) (by kernel_rfl) (fun _ _ _ h => h) (by kernel_rfl) (by kernel_rfl) (by kernel_rfl) (fun ρ hr0 hr1 _ w hSw => by simp [go_sem, hr0, hr1]; exact wrap_room r141 r142 kB) hHeld (tf 65151 20) (by kernel_rfl) (fun K hK => ?_)
      go_big_move
      refine hK.out _ ?_
      clear hK K
      obtain ⟨m, hm⟩ : ∃ m : Nat, (m : Int) = min ((S.size : Nat) : Int) ((k : Int) + r14) := ⟨(min ((S.size : Nat) : Int) ((k : Int) + r14)).toNat, by omega⟩
      have hmS : m ≤ S.size := by omega
      have km : k ≤ m := by omega
      have hmI : (m : Int) ≤ ((S.size : Nat) : Int) := by omega
      refine fast2 16 34 (.int .i64 (min ((S.size : Nat) : Int) ((k : Int) + r14))) (.tmp 29) (.int .i64 ((S.size : Nat) : Int)) (.tmp 33) (.int .i64 ((k : Int) + r14)) (fuel := 5) rfl rfl (by kernel_rfl) (by kernel_rfl) (by kernel_rfl) (fun _ _ _ h => h) (by kernel_rfl) (by kernel_rfl) (by kernel_rfl) (fun ρ hr0 hr1 _ w hSw => by simp [go_sem, hr0, hr1]) hHeld (tf 130687 20) (by kernel_rfl) (fun K hK => ?_)
      go_big_move
      refine hK.out _ ?_
      clear hK K
      refine fast2 17 35 (.string (S.extract m S.size)) (.tmp 27) (.string S) (.tmp 34) (.int .i64 (min ((S.size : Nat) : Int) ((k : Int) + r14))) (fuel := 4) rfl rfl (by kernel_rfl) (by kernel_rfl) (by kernel_rfl) (fun _ _ _ h => h) (by kernel_rfl) (by kernel_rfl) (by kernel_rfl) (fun ρ hr0 hr1 _ w hSw => by have h1 := hm.symm; have h2 := hmI; simp [go_sem, hr0, hr1, h1, h2]) hHeld (tf 261759 20) (by kernel_rfl) (fun K hK => ?_)
      go_big_move
      refine hK.out _ ?_
      clear hK K
      refine wpAnyH_ready (rs := [7]) (fuel := 3) (by kernel_rfl) (by simp) ?_
      refine ready_want rfl (by kernel_rfl) (tf 261887 20) (by kernel_rfl) (fun K hK => ?_) AllReadyH.nil
      simp only [List.getElem_toArray, List.getElem_cons_succ, List.getElem_cons_zero]
      obtain ⟨T, hT, hTz⟩ := rg11.out.2 i5 i56
      go_big_op
      refine hK.out _ _ hHeld (fun hHeld => ?_)
      clear hK K hT
      refine fast2 8 26 (.string (S.extract 0 k ++ T)) (.tmp 20) (.string (S.extract 0 k)) (.tmp 25) (.string T) (fuel := 2) rfl rfl (by kernel_rfl) (by kernel_rfl) (by kernel_rfl) (fun _ _ _ h => h) (by kernel_rfl) (by kernel_rfl) (by kernel_rfl) (fun ρ hr0 hr1 _ w hSw => by simp [go_sem, hr0, hr1]; omega) hHeld (tf 262143 20) (by kernel_rfl) (fun K hK => ?_)
      go_big_move
      refine hK.out _ ?_
      clear hK K
      refine fast2 18 36 (.string (S.extract 0 k ++ T ++ S.extract m S.size)) (.tmp 26) (.string (S.extract 0 k ++ T)) (.tmp 35) (.string (S.extract m S.size)) (fuel := 1) rfl rfl (by kernel_rfl) (by kernel_rfl) (by kernel_rfl) (fun _ _ _ h => h) (by kernel_rfl) (by kernel_rfl) (by kernel_rfl) (fun ρ hr0 hr1 _ w hSw => by simp [go_sem, hr0, hr1]; omega) hHeld (tf 524287 20) (by kernel_rfl) (fun K hK => ?_)
      go_big_move
      refine hK.out _ ?_
      clear hK K
      refine fast_move 19 2 (.string (S.extract 0 k ++ T ++ S.extract m S.size)) (.tmp 36) (fuel := 0) rfl rfl (by kernel_rfl) (by kernel_rfl) (by kernel_rfl) (fun _ _ _ h => h) (by kernel_rfl) (by kernel_rfl) (by first | exact Or.inl rfl | exact Or.inr rfl) hHeld (tf 1048575 20) (by kernel_rfl) (fun K hK => ?_)
      go_big_move
      refine hK.out _ ?_
      clear hK K
      refine wpAnyH_done (by kernel_rfl) ?_ _
      have HBF := Lib.hid hHeld
      clear hHeld
      go_wp2_with fail
      go_ret
      exact ⟨_, rfl, text_room kS km hSz hTz, HBF.out⟩
    refine ready_want rfl (by kernel_rfl) (tf 32311 20) (by kernel_rfl) (fun K hK => ?_) AllReadyH.nil
    simp only [List.getElem_toArray, List.getElem_cons_succ, List.getElem_cons_zero]
    go_big_op
    refine (pick_le w.heap.size (tq + 1) 2 _ cu7.out (by omega) (by omega) (by omega)).mono ?_
    rintro e wp13 ⟨r14, rfl, r141, r142, hcur, hg⟩
    have cu13 := Lib.hid hcur
    have hS13 : Below w.heap.size w wp13 := hHeld.grown hg hHeld.size (fun q hq => by have := Option.some.inj hq; omega)
    clear hcur hg
    refine hK.out _ _ hS13 (fun hHeld => ?_)
    clear hK K hS13
    refine fast2 15 33 (.int .i64 ((k : Int) + r14)) (.tmp 30) (.int .i64 (k : Int)) (.tmp 32) (.int .i64 r14) (fuel := 8) rfl rfl (by kernel_rfl) (by kernel_rfl) (by kernel_rfl) (fun _ _ _ h => h) (by kernel_rfl) (by kernel_rfl) (by kernel_rfl) (fun ρ hr0 hr1 _ w hSw => by simp [go_sem, hr0, hr1]; exact wrap_room r141 r142 kB) hHeld (tf 65079 20) (by kernel_rfl) (fun K hK => ?_)
    go_big_move
    refine hK.out _ ?_
    clear hK K
    obtain ⟨m, hm⟩ : ∃ m : Nat, (m : Int) = min ((S.size : Nat) : Int) ((k : Int) + r14) := ⟨(min ((S.size : Nat) : Int) ((k : Int) + r14)).toNat, by omega⟩
    have hmS : m ≤ S.size := by omega
    have km : k ≤ m := by omega
    have hmI : (m : Int) ≤ ((S.size : Nat) : Int) := by omega
    refine fast2 16 34 (.int .i64 (min ((S.size : Nat) : Int) ((k : Int) + r14))) (.tmp 29) (.int .i64 ((S.size : Nat) : Int)) (.tmp 33) (.int .i64 ((k : Int) + r14)) (fuel := 7) rfl rfl (by kernel_rfl) (by kernel_rfl) (by kernel_rfl) (fun _ _ _ h => h) (by kernel_rfl) (by kernel_rfl) (by kernel_rfl) (fun ρ hr0 hr1 _ w hSw => by simp [go_sem, hr0, hr1]) hHeld (tf 130615 20) (by kernel_rfl) (fun K hK => ?_)
    go_big_move
    refine hK.out _ ?_
    clear hK K
    refine fast2 17 35 (.string (S.extract m S.size)) (.tmp 27) (.string S) (.tmp 34) (.int .i64 (min ((S.size : Nat) : Int) ((k : Int) + r14))) (fuel := 6) rfl rfl (by kernel_rfl) (by kernel_rfl) (by kernel_rfl) (fun _ _ _ h => h) (by kernel_rfl) (by kernel_rfl) (by kernel_rfl) (fun ρ hr0 hr1 _ w hSw => by have h1 := hm.symm; have h2 := hmI; simp [go_sem, hr0, hr1, h1, h2]) hHeld (tf 261687 20) (by kernel_rfl) (fun K hK => ?_)
    go_big_move
    refine hK.out _ ?_
    clear hK K
    refine wpAnyH_ready (rs := [3]) (fuel := 5) (by kernel_rfl) (by simp) ?_
    refine ready_want rfl (by kernel_rfl) (tf 261695 20) (by kernel_rfl) (fun K hK => ?_) AllReadyH.nil
    simp only [List.getElem_toArray, List.getElem_cons_succ, List.getElem_cons_zero]
    have bel14 := (Below.refl wp13.heap.size wp13).alloc (Nat.le_refl _) (.cells #[.string ⟨#[]⟩, .string ⟨#[48]⟩, .string ⟨#[32]⟩, .string ⟨#[10]⟩, .string ⟨#[115, 116, 101, 112, 32, 48, 32, 48, 32, 48, 10]⟩, .string ⟨#[120]⟩] 9)
    have cu14 : Hid (Cur (wp13.alloc (.cells #[.string ⟨#[]⟩, .string ⟨#[48]⟩, .string ⟨#[32]⟩, .string ⟨#[10]⟩, .string ⟨#[115, 116, 101, 112, 32, 48, 32, 48, 32, 48, 10]⟩, .string ⟨#[120]⟩] 9)) w.heap.size ((tq + 1) + 1)) := cu13.out.below bel14
    have rg14 : Hid (BtR (wp13.alloc (.cells #[.string ⟨#[]⟩, .string ⟨#[48]⟩, .string ⟨#[32]⟩, .string ⟨#[10]⟩, .string ⟨#[115, 116, 101, 112, 32, 48, 32, 48, 32, 48, 10]⟩, .string ⟨#[120]⟩] 9)) wp13.heap.size w.heap.size) := BtR.new wp13 w.heap.size cu13.out.lt
    go_big_op
    refine hK.out _ _ (hHeld.trans (bel14.mono hHeld.size)) (fun hHeld => ?_)
    clear hK K bel14
    refine fast2 6 24 (.pointer (some ⟨wp13.heap.size, i5, none⟩)) (.tmp 21) (.slice (some ⟨wp13.heap.size, 0, none⟩) 6 6) (.tmp 23) (.int .i64 (i5 : Int)) (fuel := 4) rfl rfl (by kernel_rfl) (by kernel_rfl) (by kernel_rfl) (fun _ _ _ h => h) (by kernel_rfl) (by kernel_rfl) (by kernel_rfl) (fun ρ hr0 hr1 _ w hSw => by have h1 := r51; have h2 := r52; simp [go_sem, hr0, hr1, h1, h2]) hHeld (tf 261759 20) (by kernel_rfl) (fun K hK => ?_)
    go_big_move
    refine hK.out _ ?_
    clear hK K
    refine wpAnyH_ready (rs := [7]) (fuel := 3) (by kernel_rfl) (by simp) ?_
    refine ready_want rfl (by kernel_rfl) (tf 261887 20) (by kernel_rfl) (fun K hK => ?_) AllReadyH.nil
    simp only [List.getElem_toArray, List.getElem_cons_succ, List.getElem_cons_zero]
    obtain ⟨T, hT, hTz⟩ := rg14.out.2 i5 i56
    go_big_op
    refine hK.out _ _ hHeld (fun hHeld => ?_)
    clear hK K hT
    refine fast2 8 26 (.string (S.extract 0 k ++ T)) (.tmp 20) (.string (S.extract 0 k)) (.tmp 25) (.string T) (fuel := 2) rfl rfl (by kernel_rfl) (by kernel_rfl) (by kernel_rfl) (fun _ _ _ h => h) (by kernel_rfl) (by kernel_rfl) (by kernel_rfl) (fun ρ hr0 hr1 _ w hSw => by simp [go_sem, hr0, hr1]; omega) hHeld (tf 262143 20) (by kernel_rfl) (fun K hK => ?_)
    go_big_move
    refine hK.out _ ?_
    clear hK K
    refine fast2 18 36 (.string (S.extract 0 k ++ T ++ S.extract m S.size)) (.tmp 26) (.string (S.extract 0 k ++ T)) (.tmp 35) (.string (S.extract m S.size)) (fuel := 1) rfl rfl (by kernel_rfl) (by kernel_rfl) (by kernel_rfl) (fun _ _ _ h => h) (by kernel_rfl) (by kernel_rfl) (by kernel_rfl) (fun ρ hr0 hr1 _ w hSw => by simp [go_sem, hr0, hr1]; omega) hHeld (tf 524287 20) (by kernel_rfl) (fun K hK => ?_)
    go_big_move
    refine hK.out _ ?_
    clear hK K
    refine fast_move 19 2 (.string (S.extract 0 k ++ T ++ S.extract m S.size)) (.tmp 36) (fuel := 0) rfl rfl (by kernel_rfl) (by kernel_rfl) (by kernel_rfl) (fun _ _ _ h => h) (by kernel_rfl) (by kernel_rfl) (by first | exact Or.inl rfl | exact Or.inr rfl) hHeld (tf 1048575 20) (by kernel_rfl) (fun K hK => ?_)
    go_big_move
    refine hK.out _ ?_
    clear hK K
    refine wpAnyH_done (by kernel_rfl) ?_ _
    have HBF := Lib.hid hHeld
    clear hHeld
    go_wp2_with fail
    go_ret
    exact ⟨_, rfl, text_room kS km hSz hTz, HBF.out⟩

end Go.Proofs.YtfhjhfhfbgddeaaGreatDoor
