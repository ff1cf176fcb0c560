/-
  Contracts of the model's l06Right, MixTaken, MixSaid. Conditions: the lists have at most 2^20 elements.
-/
import Derived.Test.YtalanlmhfggheaaSpecHid
import Derived.Test.YtalanlmhfggheaaMixMath
import Derived.Test.YtalanlmhfggheaaRegion
namespace Go.Proofs.Ytalanlmhfggheaa
open Go.RowKit

theorem mixT_len (a : IaD) (L : List Int) : (L.foldl (fun o s => meetOf o (sureOf a s)) a.ins).length ≤ a.ins.length := by
  cases L with
  | nil => exact Nat.le_refl _
  | cons x r => exact rises_len (foldMeet_rises (L := r) (meet_rises _ _)) (fun y hy => (mem_foldMeet.1 hy).1)

theorem mixS_len (a : IaD) (L : List Int) : (L.foldl (fun o s => joinOf o (sayOf a s)) []).length ≤ a.outs.length := by
  refine rises_len (foldJoin_rises List.Pairwise.nil) (fun y hy => ?_)
  rcases mem_foldJoin.1 hy with h | ⟨x, _, hx⟩
  · cases h
  · obtain ⟨z, _, hz⟩ := mem_say.1 hx
    exact (mem_ofL.1 hz).1

set_option maxRecDepth 20000 in
set_option maxHeartbeats 6400000 in
theorem specRight_any (a : IaD) (v : Value) (fa : Option Addr) (fn fc : Nat) (from_ : List Int) (w : World) (h : IaRow w a v) (f2 : a.ins.length ≤ 1048576) (f3 : a.outs.length ≤ 1048576) (f4 : a.hids.length ≤ 1048576) (f5 : a.steps.length ≤ 1048576) (rf : Row w fa fn from_) (hfn : fn ≤ 1048576) :
    Calls Try.prog 33 #[v, .slice fa fn fc] w fun e w' => e = .returned (.bool (rightB a from_)) ∧ Below w.heap.size w w' := by
  have CO : Hid (∀ W, Below w.heap.size w W → Calls Try.prog 40 #[v] W fun e w' => e = .returned (.bool (iaOkB a)) ∧ Below W.heap.size W w') := fun W hW => specIaOk_any a v W (h.below hW) f2 f3 f4 f5
  obtain ⟨q, hq⟩ : ∃ q, q = iaOkB a := ⟨_, rfl⟩
  obtain ⟨r, hr⟩ : ∃ r, r = rightB a from_ := ⟨_, rfl⟩
  have HR : Hid (r = (q && (!from_.isEmpty && from_.all (stateB a)))) := by unfold Hid; rw [hr, hq]; rfl
  rw [← hr]
  rw [← hq] at CO
  have HQ := Lib.hid hq
  have RF := Lib.hid rf
  have E1 := Lib.hid rf.1
  clear hq hr rf
  obtain ⟨a2, n2, c2, a3, n3, c3, a4, n4, c4, a5, n5, c5, rfl, r2, r3, r4, r5⟩ := h
  obtain ⟨st, it, ins, outs, hids, steps⟩ := a
  clear r2 r3 r4 r5 f2 f3 f4 f5
  have B0 : Hid (∀ o, Below w.heap.size w (w.alloc o)) := fun o => (Below.refl _ _).alloc (Nat.le_refl _) _
  have V0 := Lib.hid (VarIs.new w #[.int .i64 st, .int .i64 it, .slice a2 n2 c2, .slice a3 n3 c3, .slice a4 n4 c4, .slice a5 n5 c5] 30 rfl)
  go_enter Try.func33, Try.ntmps33
  go_wp2_with fail
  refine (CO.out _ (B0.out _)).mono ?_
  rintro e w1 ⟨rfl, hb⟩
  have B1 : Hid (Below w.heap.size w w1) := (B0.out _).trans (hb.mono (B0.out _).size)
  have V1 := Lib.hid (V0.out.below hb)
  have hs1 := B1.out.size
  clear hb V0 B0 CO
  cases q with
  | false =>
    have HE : Hid (r = false) := by unfold Hid; rw [HR.out]; rfl
    go_wp2_with fail
    go_ret
    rw [HE.out]
    exact ⟨rfl, B1.out⟩
  | true =>
    have hst := iaOk_states HQ.out.symm
    simp only at hst
    by_cases h0 : fn = 0
    · have hd : ((fn : Int) == 0) = true := by simp [h0]
      have HE : Hid (r = false) := by
        have h1 := E1.out
        rw [h0] at h1
        unfold Hid
        rw [HR.out, List.length_eq_zero_iff.1 h1]
        rfl
      go_wp2_with fail
      go_ret
      rw [HE.out]
      exact ⟨rfl, B1.out⟩
    have hd : ((fn : Int) == 0) = false := by simp; omega
    have HNE : Hid (from_.isEmpty = false) := by
      have h1 := E1.out
      cases hf : from_ with
      | nil => rw [hf] at h1; simp at h1; omega
      | cons _ _ => rfl
    have KB : Hid (∀ W, Below w1.heap.size w1 W → W.cell? ⟨w.heap.size, 0, none⟩ = some (.int .i64 st) ∧ W.cell? ⟨w.heap.size, 1, none⟩ = some (.int .i64 it) ∧ W.cell? ⟨w.heap.size, 2, none⟩ = some (.slice a2 n2 c2) ∧ W.cell? ⟨w.heap.size, 3, none⟩ = some (.slice a3 n3 c3) ∧ W.cell? ⟨w.heap.size, 4, none⟩ = some (.slice a4 n4 c4) ∧ W.cell? ⟨w.heap.size, 5, none⟩ = some (.slice a5 n5 c5)) := fun W hW => by
      have hv := V1.out.below hW
      exact ⟨hv.cell rfl, hv.cell rfl, hv.cell rfl, hv.cell rfl, hv.cell rfl, hv.cell rfl⟩
    go_wp2_with fail
    go_loopw [5] (fun iv wr => ∃ k : Nat, k ≤ fn ∧ iv = .int .i64 (k : Int) ∧ Hid (∀ x ∈ from_.take k, stateB ⟨st, it, ins, outs, hids, steps⟩ x = true) ∧ Hid (Below w1.heap.size w1 wr)) (fun iv _ => fn - (intOf iv).toNat)
    case atStart => exact ⟨0, Nat.zero_le _, rfl, fun x hx => by simp at hx, Below.refl _ _⟩
    case round =>
      obtain ⟨k, hk, rfl, HS, HB⟩ := hrel
      have BW : Hid (Below w.heap.size w wr) := B1.out.trans (HB.out.mono hs1)
      by_cases hlt : k < fn
      · obtain ⟨bf, of, rfl, hbf, hcell⟩ := RF.out.2 (by omega)
        have hkx : k < from_.length := by rw [RF.out.1]; exact hlt
        obtain ⟨x, hx⟩ : ∃ x, x = from_[k] := ⟨_, rfl⟩
        obtain ⟨p, hp⟩ : ∃ p, p = stateB ⟨st, it, ins, outs, hids, steps⟩ x := ⟨_, rfl⟩
        have HP := Lib.hid hp
        have HXM : Hid (x ∈ from_) := by unfold Hid; rw [hx]; exact List.getElem_mem hkx
        have HST2 : Hid (p = true → ∀ y ∈ from_.take (k + 1), stateB ⟨st, it, ins, outs, hids, steps⟩ y = true) := fun e y hy => by
          rw [List.take_succ_eq_append_getElem hkx, List.mem_append] at hy
          rcases hy with hy | hy
          · exact HS.out y hy
          · obtain rfl := List.mem_singleton.1 hy
            rw [← hx, ← hp]
            exact e
        have CST : Hid (∀ W v2 v3 v4 v5, Calls Try.prog 53 #[.agg #[.int .i64 st, .int .i64 it, v2, v3, v4, v5], .int .i64 x] W fun e w' => e = .returned (.bool p) ∧ Below W.heap.size W w') := fun W v2 v3 v4 v5 => by rw [hp]; exact state_any st it x v2 v3 v4 v5 W (by omega) (by omega)
        have KS : Hid (∀ W, Below wr.heap.size wr W → W.cell? ⟨w.heap.size, 0, none⟩ = some (.int .i64 st) ∧ W.cell? ⟨w.heap.size, 1, none⟩ = some (.int .i64 it) ∧ W.cell? ⟨w.heap.size, 2, none⟩ = some (.slice a2 n2 c2) ∧ W.cell? ⟨w.heap.size, 3, none⟩ = some (.slice a3 n3 c3) ∧ W.cell? ⟨w.heap.size, 4, none⟩ = some (.slice a4 n4 c4) ∧ W.cell? ⟨w.heap.size, 5, none⟩ = some (.slice a5 n5 c5) ∧ W.cell? ⟨bf, of + k, none⟩ = some (.int .i64 x)) := fun W hW => by
          obtain ⟨q0, q1, q2, q3, q4, q5⟩ := KB.out W (HB.out.trans (hW.mono HB.out.size))
          have hc : W.cell? ⟨bf, of + k, none⟩ = some (.int .i64 x) := by
            rw [(BW.out.trans (hW.mono BW.out.size)).cell (p := ⟨bf, of + k, none⟩) hbf, hcell k hlt, getD_eq from_ k hkx, hx]
          exact ⟨q0, q1, q2, q3, q4, q5, hc⟩
        have S0 : Below wr.heap.size wr wr.drew ∧ wr.drew.cell? ⟨w.heap.size, 0, none⟩ = some (.int .i64 st) ∧ wr.drew.cell? ⟨w.heap.size, 1, none⟩ = some (.int .i64 it) ∧ wr.drew.cell? ⟨w.heap.size, 2, none⟩ = some (.slice a2 n2 c2) ∧ wr.drew.cell? ⟨w.heap.size, 3, none⟩ = some (.slice a3 n3 c3) ∧ wr.drew.cell? ⟨w.heap.size, 4, none⟩ = some (.slice a4 n4 c4) ∧ wr.drew.cell? ⟨w.heap.size, 5, none⟩ = some (.slice a5 n5 c5) ∧ wr.drew.cell? ⟨bf, of + k, none⟩ = some (.int .i64 x) := ⟨(Below.refl _ _).drew, KS.out _ (Below.refl _ _).drew⟩
        clear hx hp hcell hkx
        go_wp2_with fail
        refine wp_region_held_drew (S := fun w' => Below wr.heap.size wr w' ∧ w'.cell? ⟨w.heap.size, 0, none⟩ = some (.int .i64 st) ∧ w'.cell? ⟨w.heap.size, 1, none⟩ = some (.int .i64 it) ∧ w'.cell? ⟨w.heap.size, 2, none⟩ = some (.slice a2 n2 c2) ∧ w'.cell? ⟨w.heap.size, 3, none⟩ = some (.slice a3 n3 c3) ∧ w'.cell? ⟨w.heap.size, 4, none⟩ = some (.slice a4 n4 c4) ∧ w'.cell? ⟨w.heap.size, 5, none⟩ = some (.slice a5 n5 c5) ∧ w'.cell? ⟨bf, of + k, none⟩ = some (.int .i64 x)) (by kernel_rfl) S0 (fun hHeld => ?_)
        change wpAnyH _ _ _ _ _ 7 (Array.replicate 7 false) _ _
        refine take_op 0 20 (.agg #[.int .i64 st, .int .i64 it, .slice a2 n2 c2, .slice a3 n3 c3, .slice a4 n4 c4, .slice a5 n5 c5]) (fuel := 6) rfl rfl (by kernel_rfl) (by kernel_rfl) (by kernel_rfl) (fun _ _ _ h => h) (by rfl) (fun w hSw => by go_simp) hHeld ?_
        simp only [Act.put, List.setIfInBounds_toArray, List.set_cons_zero, List.set_cons_succ]
        refine take_op 1 21 (.slice (some ⟨bf, of, none⟩) fn fc) (fuel := 5) rfl rfl (by kernel_rfl) (by kernel_rfl) (by kernel_rfl) (fun _ _ _ h => h) (by rfl) (fun w hSw => by go_simp) hHeld ?_
        simp only [Act.put, List.setIfInBounds_toArray, List.set_cons_zero, List.set_cons_succ]
        refine take_op 2 22 (.int .i64 (k : Int)) (fuel := 4) rfl rfl (by kernel_rfl) (by kernel_rfl) (by kernel_rfl) (fun _ _ _ h => h) (by rfl) (fun w hSw => by go_simp) hHeld ?_
        simp only [Act.put, List.setIfInBounds_toArray, List.set_cons_zero, List.set_cons_succ]
        refine take_op 3 23 (.pointer (some ⟨bf, of + k, none⟩)) (fuel := 3) rfl rfl (by kernel_rfl) (by kernel_rfl) (by kernel_rfl) (fun _ _ _ h => h) (by rfl) (fun w hSw => by go_simp) hHeld ?_
        simp only [Act.put, List.setIfInBounds_toArray, List.set_cons_zero, List.set_cons_succ]
        refine take_op 4 24 (.int .i64 x) (fuel := 2) rfl rfl (by kernel_rfl) (by kernel_rfl) (by kernel_rfl) (fun _ _ _ h => h) (by rfl) (fun w hSw => by go_simp) hHeld ?_
        simp only [Act.put, List.setIfInBounds_toArray, List.set_cons_zero, List.set_cons_succ]
        refine wpAnyH_ready (rs := [5]) (fuel := 1) (by kernel_rfl) (by simp) ?_
        refine AllReadyH.cons rfl (fun K hK => ?_) AllReadyH.nil
        go_simp
        refine (CST.out _ _ _ _ _).mono ?_
        rintro e w5 ⟨rfl, hb5⟩
        have BS5 := Lib.hid (S0.1.trans (hb5.mono S0.1.size))
        clear hb5
        go_wp2_with fail
        refine hK.out _ _ ⟨BS5.out, KS.out _ BS5.out⟩ (fun hHeld => ?_)
        clear hK K
        refine take_op 6 26 (.bool (!p)) (fuel := 0) rfl rfl (by kernel_rfl) (by kernel_rfl) (by kernel_rfl) (fun _ _ _ h => h) (by rfl) (fun w hSw => by go_simp) hHeld ?_
        simp only [Act.put, List.setIfInBounds_toArray, List.set_cons_zero, List.set_cons_succ]
        refine wpAnyH_done (by kernel_rfl) ?_ _
        clear hHeld S0
        have BR := Lib.hid (HB.out.trans (BS5.out.mono HB.out.size))
        cases p with
        | false =>
          have HE : Hid (r = false) := by
            unfold Hid
            rw [HR.out]
            have : from_.all (stateB ⟨st, it, ins, outs, hids, steps⟩) = false := by
              rw [List.all_eq_false]
              exact ⟨x, HXM.out, by rw [← HP.out]; simp⟩
            rw [this]
            simp
          go_wp2_with fail
          go_ret
          rw [HE.out]
          exact ⟨rfl, B1.out.trans (BR.out.mono hs1)⟩
        | true =>
          have HN := Lib.hid (HST2.out (by simp))
          go_wp2_with fail
          go_roundw
          case rel => exact ⟨k + 1, by omega, by go_num, HN.out, BR.out⟩
          case measure => simp [intOf]; omega
      · have HE : Hid (r = true) := by
          have h1 := HS.out
          rw [List.take_of_length_le (by rw [RF.out.1]; omega)] at h1
          unfold Hid
          rw [HR.out, HNE.out, List.all_eq_true.2 h1]
          rfl
        go_wp2_with fail
        go_ret
        rw [HE.out]
        exact ⟨rfl, BW.out⟩

set_option maxRecDepth 20000 in
set_option maxHeartbeats 6400000 in
theorem specMixTaken_any (a : IaD) (v : Value) (fa : Option Addr) (fn fc : Nat) (from_ : List Int) (w : World) (h : IaRow w a v) (f2 : a.ins.length ≤ 1048576) (f3 : a.outs.length ≤ 1048576) (f4 : a.hids.length ≤ 1048576) (f5 : a.steps.length ≤ 1048576) (rf : Row w fa fn from_) (hfn : fn ≤ 1048576) (hC0 : InsC v) :
    Calls Try.prog 15 #[v, .slice fa fn fc] w (OwnRes w w.heap.size (mixTakenOf a from_)) := by
  have CO : Hid (∀ W, Below w.heap.size w W → Calls Try.prog 33 #[v, .slice fa fn fc] W fun e w' => e = .returned (.bool (rightB a from_)) ∧ Below W.heap.size W w') := fun W hW => specRight_any a v fa fn fc from_ W (h.below hW) f2 f3 f4 f5 (rf.below hW) hfn
  have CF0 : Hid (∀ W (x : Int), Below w.heap.size w W → Calls Try.prog 34 #[v, .int .i64 x] W (OwnRes W W.heap.size (sureOf a x))) := fun W x hW => l04Sure_any a v x W (h.below hW) f2 f3 f4 f5 hC0
  have HLX : Hid (∀ x, (sureOf a x).length ≤ 1048576) := fun x => by
    exact Nat.le_trans (sureN_len _ _ _) f2
  have HLF : Hid (∀ L : List Int, (L.foldl (fun o s => meetOf o (sureOf a s)) a.ins).length ≤ 1048576) := fun L => Nat.le_trans (mixT_len a L) f2
  obtain ⟨q, hq⟩ : ∃ q, q = rightB a from_ := ⟨_, rfl⟩
  obtain ⟨L, hL⟩ : ∃ L, L = mixTakenOf a from_ := ⟨_, rfl⟩
  have HL : Hid (L = if q then from_.foldl (fun o s => meetOf o (sureOf a s)) a.ins else []) := by unfold Hid; rw [hL, hq]; rfl
  rw [← hL]
  rw [← hq] at CO
  have RF := Lib.hid rf
  clear hL hq rf
  obtain ⟨a2, n2, c2, a3, n3, c3, a4, n4, c4, a5, n5, c5, rfl, r2, r3, r4, r5⟩ := h
  obtain ⟨st, it, ins, outs, hids, steps⟩ := a
  simp only at r2 r3 r4 r5 f2 f3 f4 f5 HLX HLF HL
  have R2 := Lib.hid r2
  have hn2 : n2 ≤ 1048576 := by have := r2.1; omega
  have HC0 : Hid (a2 = none → c2 = 0) := fun e => by subst e; exact hC0 _ _ _ _ _ _ _ rfl
  clear hC0
  clear r2 r3 r4 r5 f2 f3 f4 f5
  have B0 : Hid (∀ o, Below w.heap.size w (w.alloc o)) := fun o => (Below.refl _ _).alloc (Nat.le_refl _) _
  have V0 := Lib.hid (VarIs.new w #[.int .i64 st, .int .i64 it, .slice a2 n2 c2, .slice a3 n3 c3, .slice a4 n4 c4, .slice a5 n5 c5] 30 rfl)
  go_enter Try.func15, Try.ntmps15
  go_wp2_with fail
  refine (CO.out _ (B0.out _)).mono ?_
  rintro e w1 ⟨rfl, hb⟩
  have B1 : Hid (Below w.heap.size w w1) := (B0.out _).trans (hb.mono (B0.out _).size)
  have V1 := Lib.hid (V0.out.below hb)
  have hs1 := B1.out.size
  clear hb V0 B0 CO
  cases q with
  | false =>
    go_wp2_with fail
    go_ret
    obtain rfl : L = [] := HL.out
    exact ⟨_, _, rfl, (owns_lit _ [] 0 rfl (by unfold maxLen; omega)).mono B1.out.size, B1.out.alloc B1.out.size _⟩
  | true =>
    have HLR : Hid (L = (from_).foldl (fun o s => meetOf o (sureOf ⟨st, it, ins, outs, hids, steps⟩ s)) ins) := HL.out
    obtain ⟨i0, hi, hz0, hz1, hz2⟩ := info_parts info_int
    have B00 : Hid (Below w.heap.size w (w1.alloc (.cells #[] 3))) := B1.out.alloc hs1 _
    have V00 := Lib.hid (V1.out.alloc (.cells #[] 3))
    have T0 : Owns (w1.alloc (.cells #[] 3)) w1.heap.size (.slice (some ⟨w1.heap.size, 0, none⟩) 0 0) 0 [] := by
      have := owns_lit w1 [] 0 rfl (by unfold maxLen; omega)
      simpa using this
    have S1 : Src (w1.alloc (.cells #[] 3)) a2 n2 c2 ins := row_src (R2.out.below B00.out) HC0.out
    have k2 := V00.out.cell (j := 2) (u := .slice a2 n2 c2) rfl
    go_wp2_with (at_builtin; refine wpList_app rfl (.tmp 12) (.tmp 14) rfl w1.heap.size i0 Try.underlying22 hi hz0 hz1 hz2 _ _ _ rfl T0 _ n2 _ ins rfl S1 (by omega) (by simp) ?_)
    rintro v1 w0 ⟨hown, hgrow, hnil⟩
    obtain ⟨go0, co0, hv0⟩ := hown.head (fun e => by have := (hnil.1 e).1; cases this)
    rw [Nat.zero_add] at hv0
    subst hv0
    have BP : Hid (Below w.heap.size w w0) := T0.grown B00.out hgrow hs1 (by simp; omega)
    have VP : Hid (VarIs w0 w.heap.size #[.int .i64 st, .int .i64 it, .slice a2 n2 c2, .slice a3 n3 c3, .slice a4 n4 c4, .slice a5 n5 c5] 30) := V00.out.grown hgrow (fun h => by have h1 := (T0.lt _ h.symm).1; have h2 := V1.out.lt; omega)
    have OP : Hid (Owns w0 w.heap.size (.slice (some ⟨go0, 0, none⟩) n2 co0) n2 ins) := by
      have := hown.mono (base := w.heap.size) hs1
      simpa [Hid] using this
    clear hown hgrow hnil S1 T0 k2 V00 B00 hi hz0 hz1 hz2
    go_wp2_with fail
    go_loopw [5, 6] (fun out i wr => ∃ (k go co len : Nat) (O : List Int), k ≤ fn ∧ out = .slice (some ⟨go, 0, none⟩) len co ∧ i = .int .i64 (k : Int) ∧ Hid (Owns wr w.heap.size (.slice (some ⟨go, 0, none⟩) len co) len O) ∧ Hid (O = (from_.take k).foldl (fun o s => meetOf o (sureOf ⟨st, it, ins, outs, hids, steps⟩ s)) ins) ∧ Hid (Below w.heap.size w wr) ∧ Hid (VarIs wr w.heap.size #[.int .i64 st, .int .i64 it, .slice a2 n2 c2, .slice a3 n3 c3, .slice a4 n4 c4, .slice a5 n5 c5] 30)) (fun _ i _ => fn - (intOf i).toNat)
    case atStart => exact ⟨0, go0, co0, n2, ins, Nat.zero_le _, rfl, rfl, OP.out, rfl, BP.out, VP.out⟩
    case round =>
      obtain ⟨k, go, co, len, O, hk, rfl, rfl, HO, HT, BW, HV⟩ := hrel
      clear OP BP VP
      have hws := BW.out.size
      have hlen : len ≤ 1048576 := by
        have h1 := HLF.out (from_.take k)
        rw [← HT.out, HO.out.length] at h1
        exact h1
      by_cases hlt : k < fn
      · obtain ⟨bf, of, rfl, hbf, hcell⟩ := RF.out.2 (by omega)
        have hkx : k < from_.length := by rw [RF.out.1]; exact hlt
        obtain ⟨x, hx⟩ : ∃ x, x = from_[k] := ⟨_, rfl⟩
        obtain ⟨T, hT⟩ : ∃ T, T = sureOf ⟨st, it, ins, outs, hids, steps⟩ x := ⟨_, rfl⟩
        obtain ⟨m, hm⟩ : ∃ m, m = T.length := ⟨_, rfl⟩
        have hml : m ≤ 1048576 := by rw [hm, hT]; exact HLX.out x
        have HST : Hid (meetOf O T = (from_.take (k + 1)).foldl (fun o s => meetOf o (sureOf ⟨st, it, ins, outs, hids, steps⟩ s)) ins) := by
          unfold Hid
          rw [List.take_succ_eq_append_getElem hkx, List.foldl_append, ← HT.out, ← hx, hT]
          rfl
        have CF : Hid (∀ W, Below wr.heap.size wr W → Calls Try.prog 34 #[.agg #[.int .i64 st, .int .i64 it, .slice a2 n2 c2, .slice a3 n3 c3, .slice a4 n4 c4, .slice a5 n5 c5], .int .i64 x] W fun e w' => ∃ g c, e = .returned (.slice (some ⟨g, 0, none⟩) m c) ∧ Owns w' W.heap.size (.slice (some ⟨g, 0, none⟩) m c) m T ∧ Below W.heap.size W w') := fun W hW => by
          rw [hm, hT]
          exact CF0.out W x (BW.out.trans (hW.mono BW.out.size))
        have KS : Hid (∀ W, Below wr.heap.size wr W → W.cell? ⟨w.heap.size, 0, none⟩ = some (.int .i64 st) ∧ W.cell? ⟨w.heap.size, 1, none⟩ = some (.int .i64 it) ∧ W.cell? ⟨w.heap.size, 2, none⟩ = some (.slice a2 n2 c2) ∧ W.cell? ⟨w.heap.size, 3, none⟩ = some (.slice a3 n3 c3) ∧ W.cell? ⟨w.heap.size, 4, none⟩ = some (.slice a4 n4 c4) ∧ W.cell? ⟨w.heap.size, 5, none⟩ = some (.slice a5 n5 c5) ∧ W.cell? ⟨bf, of + k, none⟩ = some (.int .i64 x)) := fun W hW => by
          have hv := HV.out.below hW
          have hc : W.cell? ⟨bf, of + k, none⟩ = some (.int .i64 x) := by
            rw [(BW.out.trans (hW.mono BW.out.size)).cell (p := ⟨bf, of + k, none⟩) hbf, hcell k hlt, getD_eq from_ k hkx, hx]
          exact ⟨hv.cell rfl, hv.cell rfl, hv.cell rfl, hv.cell rfl, hv.cell rfl, hv.cell rfl, hc⟩
        have S0 : Below wr.heap.size wr wr.drew ∧ wr.drew.cell? ⟨w.heap.size, 0, none⟩ = some (.int .i64 st) ∧ wr.drew.cell? ⟨w.heap.size, 1, none⟩ = some (.int .i64 it) ∧ wr.drew.cell? ⟨w.heap.size, 2, none⟩ = some (.slice a2 n2 c2) ∧ wr.drew.cell? ⟨w.heap.size, 3, none⟩ = some (.slice a3 n3 c3) ∧ wr.drew.cell? ⟨w.heap.size, 4, none⟩ = some (.slice a4 n4 c4) ∧ wr.drew.cell? ⟨w.heap.size, 5, none⟩ = some (.slice a5 n5 c5) ∧ wr.drew.cell? ⟨bf, of + k, none⟩ = some (.int .i64 x) := ⟨(Below.refl _ _).drew, KS.out _ (Below.refl _ _).drew⟩
        clear hx hT hm hcell hkx
        go_wp2_with fail
        refine wp_region_held_drew (S := fun w' => Below wr.heap.size wr w' ∧ w'.cell? ⟨w.heap.size, 0, none⟩ = some (.int .i64 st) ∧ w'.cell? ⟨w.heap.size, 1, none⟩ = some (.int .i64 it) ∧ w'.cell? ⟨w.heap.size, 2, none⟩ = some (.slice a2 n2 c2) ∧ w'.cell? ⟨w.heap.size, 3, none⟩ = some (.slice a3 n3 c3) ∧ w'.cell? ⟨w.heap.size, 4, none⟩ = some (.slice a4 n4 c4) ∧ w'.cell? ⟨w.heap.size, 5, none⟩ = some (.slice a5 n5 c5) ∧ w'.cell? ⟨bf, of + k, none⟩ = some (.int .i64 x)) (by kernel_rfl) S0 (fun hHeld => ?_)
        change wpAnyH _ _ _ _ _ 9 (Array.replicate 9 false) _ _
        refine take_op 0 22 (.slice (some ⟨go, 0, none⟩) len co) (fuel := 8) rfl rfl (by kernel_rfl) (by kernel_rfl) (by kernel_rfl) (fun _ _ _ h => h) (by rfl) (fun w hSw => by go_simp) hHeld ?_
        simp only [Act.put, List.setIfInBounds_toArray, List.set_cons_zero, List.set_cons_succ]
        refine take_op 1 23 (.agg #[.int .i64 st, .int .i64 it, .slice a2 n2 c2, .slice a3 n3 c3, .slice a4 n4 c4, .slice a5 n5 c5]) (fuel := 7) rfl rfl (by kernel_rfl) (by kernel_rfl) (by kernel_rfl) (fun _ _ _ h => h) (by rfl) (fun w hSw => by go_simp) hHeld ?_
        simp only [Act.put, List.setIfInBounds_toArray, List.set_cons_zero, List.set_cons_succ]
        refine take_op 2 24 (.slice (some ⟨bf, of, none⟩) fn fc) (fuel := 6) rfl rfl (by kernel_rfl) (by kernel_rfl) (by kernel_rfl) (fun _ _ _ h => h) (by rfl) (fun w hSw => by go_simp) hHeld ?_
        simp only [Act.put, List.setIfInBounds_toArray, List.set_cons_zero, List.set_cons_succ]
        refine take_op 3 25 (.int .i64 (k : Int)) (fuel := 5) rfl rfl (by kernel_rfl) (by kernel_rfl) (by kernel_rfl) (fun _ _ _ h => h) (by rfl) (fun w hSw => by go_simp) hHeld ?_
        simp only [Act.put, List.setIfInBounds_toArray, List.set_cons_zero, List.set_cons_succ]
        refine take_op 4 26 (.pointer (some ⟨bf, of + k, none⟩)) (fuel := 4) rfl rfl (by kernel_rfl) (by kernel_rfl) (by kernel_rfl) (fun _ _ _ h => h) (by rfl) (fun w hSw => by go_simp) hHeld ?_
        simp only [Act.put, List.setIfInBounds_toArray, List.set_cons_zero, List.set_cons_succ]
        refine take_op 5 27 (.int .i64 x) (fuel := 3) rfl rfl (by kernel_rfl) (by kernel_rfl) (by kernel_rfl) (fun _ _ _ h => h) (by rfl) (fun w hSw => by go_simp) hHeld ?_
        simp only [Act.put, List.setIfInBounds_toArray, List.set_cons_zero, List.set_cons_succ]
        refine wpAnyH_ready (rs := [6]) (fuel := 2) (by kernel_rfl) (by simp) ?_
        refine AllReadyH.cons rfl (fun K hK => ?_) AllReadyH.nil
        go_simp
        refine (CF.out _ S0.1).mono ?_
        rintro e w5 ⟨g5, c5x, rfl, ho5, hb5⟩
        have BS5 := Lib.hid (S0.1.trans (hb5.mono S0.1.size))
        have RF5 := Lib.hid ho5.row.2.2.2
        have OU5 := Lib.hid (HO.out.below BS5.out)
        clear ho5 hb5
        go_wp2_with fail
        refine hK.out _ _ ⟨BS5.out, KS.out _ BS5.out⟩ (fun hHeld => ?_)
        clear hK K
        refine wpAnyH_ready (rs := [7]) (fuel := 1) (by kernel_rfl) (by simp) ?_
        refine AllReadyH.cons rfl (fun K hK => ?_) AllReadyH.nil
        go_simp
        refine (specSetMeet_any _ _ len co m c5x O T _ OU5.out.row.2.2.2 RF5.out (by omega) (by omega)).mono ?_
        rintro e w6 ⟨g6, c6, rfl, ho6, hb6⟩
        have BS6 := Lib.hid (BS5.out.trans (hb6.mono BS5.out.size))
        have OU6 := Lib.hid (ho6.mono (base := w.heap.size) (Nat.le_trans hws BS5.out.size))
        clear ho6 hb6
        go_wp2_with fail
        refine hK.out _ _ ⟨BS6.out, KS.out _ BS6.out⟩ (fun hHeld => ?_)
        clear hK K
        refine take_op 8 5 (.slice (some ⟨g6, 0, none⟩) (meetOf O T).length c6) (fuel := 0) rfl rfl (by kernel_rfl) (by kernel_rfl) (by kernel_rfl) (fun _ _ _ h => h) (by rfl) (fun w hSw => by go_simp) hHeld ?_
        simp only [Act.put, List.setIfInBounds_toArray, List.set_cons_zero, List.set_cons_succ]
        refine wpAnyH_done (by kernel_rfl) ?_ _
        clear hHeld S0
        have BR := Lib.hid (BW.out.trans (BS6.out.mono hws))
        have VR := Lib.hid (HV.out.below BS6.out)
        go_wp2_with fail
        go_roundw
        case rel => exact ⟨k + 1, g6, c6, _, meetOf O T, by omega, rfl, by go_num, OU6.out, HST.out, BR.out, VR.out⟩
        case measure => simp [intOf]; omega
      · have HE : Hid (O = L) := by
          have h1 := HT.out
          rw [List.take_of_length_le (by rw [RF.out.1]; omega)] at h1
          rw [HLR.out]
          exact h1
        go_wp2_with fail
        go_ret
        have e := HO.out.length
        rw [← HE.out]
        subst e
        exact ⟨_, _, rfl, HO.out, BW.out⟩

set_option maxRecDepth 20000 in
set_option maxHeartbeats 6400000 in
theorem specMixSaid_any (a : IaD) (v : Value) (fa : Option Addr) (fn fc : Nat) (from_ : List Int) (w : World) (h : IaRow w a v) (f2 : a.ins.length ≤ 1048576) (f3 : a.outs.length ≤ 1048576) (f4 : a.hids.length ≤ 1048576) (f5 : a.steps.length ≤ 1048576) (rf : Row w fa fn from_) (hfn : fn ≤ 1048576) :
    Calls Try.prog 18 #[v, .slice fa fn fc] w (OwnRes w w.heap.size (mixSaidOf a from_)) := by
  have CO : Hid (∀ W, Below w.heap.size w W → Calls Try.prog 33 #[v, .slice fa fn fc] W fun e w' => e = .returned (.bool (rightB a from_)) ∧ Below W.heap.size W w') := fun W hW => specRight_any a v fa fn fc from_ W (h.below hW) f2 f3 f4 f5 (rf.below hW) hfn
  have CF0 : Hid (∀ W (x : Int), Below w.heap.size w W → Calls Try.prog 38 #[v, .int .i64 x] W (OwnRes W W.heap.size (sayOf a x))) := fun W x hW => l04Say_any a v x W (h.below hW) f2 f3 f4 f5
  have HLX : Hid (∀ x, (sayOf a x).length ≤ 1048576) := fun x => by
    exact Nat.le_trans (sayN_len _ _ _) f3
  have HLF : Hid (∀ L : List Int, (L.foldl (fun o s => joinOf o (sayOf a s)) []).length ≤ 1048576) := fun L => Nat.le_trans (mixS_len a L) f3
  obtain ⟨q, hq⟩ : ∃ q, q = rightB a from_ := ⟨_, rfl⟩
  obtain ⟨L, hL⟩ : ∃ L, L = mixSaidOf a from_ := ⟨_, rfl⟩
  have HL : Hid (L = if q then from_.foldl (fun o s => joinOf o (sayOf a s)) [] else []) := by unfold Hid; rw [hL, hq]; rfl
  rw [← hL]
  rw [← hq] at CO
  have RF := Lib.hid rf
  clear hL hq rf
  obtain ⟨a2, n2, c2, a3, n3, c3, a4, n4, c4, a5, n5, c5, rfl, r2, r3, r4, r5⟩ := h
  obtain ⟨st, it, ins, outs, hids, steps⟩ := a
  simp only at r2 r3 r4 r5 f2 f3 f4 f5 HLX HLF HL
  have R2 := Lib.hid r2
  have hn2 : n2 ≤ 1048576 := by have := r2.1; omega
  clear r2 r3 r4 r5 f2 f3 f4 f5
  have B0 : Hid (∀ o, Below w.heap.size w (w.alloc o)) := fun o => (Below.refl _ _).alloc (Nat.le_refl _) _
  have V0 := Lib.hid (VarIs.new w #[.int .i64 st, .int .i64 it, .slice a2 n2 c2, .slice a3 n3 c3, .slice a4 n4 c4, .slice a5 n5 c5] 30 rfl)
  have B00 : Hid (Below w.heap.size w ((w.alloc (.cells #[.int .i64 st, .int .i64 it, .slice a2 n2 c2, .slice a3 n3 c3, .slice a4 n4 c4, .slice a5 n5 c5] 30)).alloc (.cells #[] 3))) := ((Below.refl _ _).alloc (Nat.le_refl _) _).alloc (by simp) _
  have V00 := Lib.hid (V0.out.alloc (.cells #[] 3))
  have T0 : Hid (Owns ((w.alloc (.cells #[.int .i64 st, .int .i64 it, .slice a2 n2 c2, .slice a3 n3 c3, .slice a4 n4 c4, .slice a5 n5 c5] 30)).alloc (.cells #[] 3)) w.heap.size (.slice (some ⟨w.heap.size + 1, 0, none⟩) 0 0) 0 []) := by
    have := (owns_lit (w.alloc (.cells #[.int .i64 st, .int .i64 it, .slice a2 n2 c2, .slice a3 n3 c3, .slice a4 n4 c4, .slice a5 n5 c5] 30)) [] 0 rfl (by unfold maxLen; omega)).mono (base := w.heap.size) (by simp)
    simpa [Hid] using this
  clear B0 V0
  go_enter Try.func18, Try.ntmps18
  go_wp2_with fail
  go_loopw [5, 6] (fun out i wr => ∃ (k go co len : Nat) (O : List Int), k ≤ fn ∧ out = .slice (some ⟨go, 0, none⟩) len co ∧ i = .int .i64 (k : Int) ∧ Hid (Owns wr w.heap.size (.slice (some ⟨go, 0, none⟩) len co) len O) ∧ Hid (O = (from_.take k).foldl (fun o s => joinOf o (sayOf ⟨st, it, ins, outs, hids, steps⟩ s)) []) ∧ Hid (Below w.heap.size w wr) ∧ Hid (VarIs wr w.heap.size #[.int .i64 st, .int .i64 it, .slice a2 n2 c2, .slice a3 n3 c3, .slice a4 n4 c4, .slice a5 n5 c5] 30) ∧ Hid (0 < k → q = true)) (fun _ i _ => fn - (intOf i).toNat)
  case atStart => exact ⟨0, w.heap.size + 1, 0, 0, [], Nat.zero_le _, rfl, rfl, T0.out, rfl, B00.out, V00.out, fun h => absurd h (by omega)⟩
  case round =>
    obtain ⟨k, go, co, len, O, hk, rfl, rfl, HO, HT, BW, HV, HQ⟩ := hrel
    clear T0 B00 V00
    have hws := BW.out.size
    have hlen : len ≤ 1048576 := by
      have h1 := HLF.out (from_.take k)
      rw [← HT.out, HO.out.length] at h1
      exact h1
    by_cases hlt : k < fn
    · obtain ⟨bf, of, rfl, hbf, hcell⟩ := RF.out.2 (by omega)
      have hkx : k < from_.length := by rw [RF.out.1]; exact hlt
      obtain ⟨x, hx⟩ : ∃ x, x = from_[k] := ⟨_, rfl⟩
      obtain ⟨T, hT⟩ : ∃ T, T = sayOf ⟨st, it, ins, outs, hids, steps⟩ x := ⟨_, rfl⟩
      obtain ⟨m, hm⟩ : ∃ m, m = T.length := ⟨_, rfl⟩
      have hml : m ≤ 1048576 := by rw [hm, hT]; exact HLX.out x
      have HST : Hid (joinOf O T = (from_.take (k + 1)).foldl (fun o s => joinOf o (sayOf ⟨st, it, ins, outs, hids, steps⟩ s)) []) := by
        unfold Hid
        rw [List.take_succ_eq_append_getElem hkx, List.foldl_append, ← HT.out, ← hx, hT]
        rfl
      have CF : Hid (∀ W, Below wr.heap.size wr W → Calls Try.prog 38 #[.agg #[.int .i64 st, .int .i64 it, .slice a2 n2 c2, .slice a3 n3 c3, .slice a4 n4 c4, .slice a5 n5 c5], .int .i64 x] W fun e w' => ∃ g c, e = .returned (.slice (some ⟨g, 0, none⟩) m c) ∧ Owns w' W.heap.size (.slice (some ⟨g, 0, none⟩) m c) m T ∧ Below W.heap.size W w') := fun W hW => by
        rw [hm, hT]
        exact CF0.out W x (BW.out.trans (hW.mono BW.out.size))
      have KS : Hid (∀ W, Below wr.heap.size wr W → W.cell? ⟨w.heap.size, 0, none⟩ = some (.int .i64 st) ∧ W.cell? ⟨w.heap.size, 1, none⟩ = some (.int .i64 it) ∧ W.cell? ⟨w.heap.size, 2, none⟩ = some (.slice a2 n2 c2) ∧ W.cell? ⟨w.heap.size, 3, none⟩ = some (.slice a3 n3 c3) ∧ W.cell? ⟨w.heap.size, 4, none⟩ = some (.slice a4 n4 c4) ∧ W.cell? ⟨w.heap.size, 5, none⟩ = some (.slice a5 n5 c5) ∧ W.cell? ⟨bf, of + k, none⟩ = some (.int .i64 x)) := fun W hW => by
        have hv := HV.out.below hW
        have hc : W.cell? ⟨bf, of + k, none⟩ = some (.int .i64 x) := by
          rw [(BW.out.trans (hW.mono BW.out.size)).cell (p := ⟨bf, of + k, none⟩) hbf, hcell k hlt, getD_eq from_ k hkx, hx]
        exact ⟨hv.cell rfl, hv.cell rfl, hv.cell rfl, hv.cell rfl, hv.cell rfl, hv.cell rfl, hc⟩
      have m0 := HV.out.cell (j := 0) rfl
      have m1 := HV.out.cell (j := 1) rfl
      have m2 := HV.out.cell (j := 2) rfl
      have m3 := HV.out.cell (j := 3) rfl
      have m4 := HV.out.cell (j := 4) rfl
      have m5 := HV.out.cell (j := 5) rfl
      go_wp2_with fail
      clear m0 m1 m2 m3 m4 m5
      refine (CO.out _ BW.out).mono ?_
      rintro e wa ⟨rfl, hba⟩
      have HBW := Lib.hid hba
      have BWA : Hid (Below w.heap.size w wa) := BW.out.trans (hba.mono hws)
      have HOA := Lib.hid (HO.out.below hba)
      clear hba
      cases q with
      | false =>
        obtain rfl : L = [] := HL.out
        have hk0 : k = 0 := by
          apply Classical.byContradiction
          intro hne
          have := HQ.out (by omega)
          cases this
        have HO0 : Hid (O = []) := by rw [HT.out, hk0]; rfl
        go_wp2_with fail
        go_ret
        have e := HOA.out.length
        rw [HO0.out] at e
        obtain rfl : len = 0 := by simpa using e.symm
        have := HOA.out
        rw [HO0.out] at this
        exact ⟨_, _, rfl, this, BWA.out⟩
      | true =>
        have S0 : Below wr.heap.size wr wa.drew ∧ wa.drew.cell? ⟨w.heap.size, 0, none⟩ = some (.int .i64 st) ∧ wa.drew.cell? ⟨w.heap.size, 1, none⟩ = some (.int .i64 it) ∧ wa.drew.cell? ⟨w.heap.size, 2, none⟩ = some (.slice a2 n2 c2) ∧ wa.drew.cell? ⟨w.heap.size, 3, none⟩ = some (.slice a3 n3 c3) ∧ wa.drew.cell? ⟨w.heap.size, 4, none⟩ = some (.slice a4 n4 c4) ∧ wa.drew.cell? ⟨w.heap.size, 5, none⟩ = some (.slice a5 n5 c5) ∧ wa.drew.cell? ⟨bf, of + k, none⟩ = some (.int .i64 x) := ⟨HBW.out.drew, KS.out _ HBW.out.drew⟩
        clear hx hT hm hcell hkx
        go_wp2_with fail
        refine wp_region_held_drew (S := fun w' => Below wr.heap.size wr w' ∧ w'.cell? ⟨w.heap.size, 0, none⟩ = some (.int .i64 st) ∧ w'.cell? ⟨w.heap.size, 1, none⟩ = some (.int .i64 it) ∧ w'.cell? ⟨w.heap.size, 2, none⟩ = some (.slice a2 n2 c2) ∧ w'.cell? ⟨w.heap.size, 3, none⟩ = some (.slice a3 n3 c3) ∧ w'.cell? ⟨w.heap.size, 4, none⟩ = some (.slice a4 n4 c4) ∧ w'.cell? ⟨w.heap.size, 5, none⟩ = some (.slice a5 n5 c5) ∧ w'.cell? ⟨bf, of + k, none⟩ = some (.int .i64 x)) (by kernel_rfl) S0 (fun hHeld => ?_)
        change wpAnyH _ _ _ _ _ 9 (Array.replicate 9 false) _ _
        refine take_op 0 19 (.slice (some ⟨go, 0, none⟩) len co) (fuel := 8) rfl rfl (by kernel_rfl) (by kernel_rfl) (by kernel_rfl) (fun _ _ _ h => h) (by rfl) (fun w hSw => by go_simp) hHeld ?_
        simp only [Act.put, List.setIfInBounds_toArray, List.set_cons_zero, List.set_cons_succ]
        refine take_op 1 20 (.agg #[.int .i64 st, .int .i64 it, .slice a2 n2 c2, .slice a3 n3 c3, .slice a4 n4 c4, .slice a5 n5 c5]) (fuel := 7) rfl rfl (by kernel_rfl) (by kernel_rfl) (by kernel_rfl) (fun _ _ _ h => h) (by rfl) (fun w hSw => by go_simp) hHeld ?_
        simp only [Act.put, List.setIfInBounds_toArray, List.set_cons_zero, List.set_cons_succ]
        refine take_op 2 21 (.slice (some ⟨bf, of, none⟩) fn fc) (fuel := 6) rfl rfl (by kernel_rfl) (by kernel_rfl) (by kernel_rfl) (fun _ _ _ h => h) (by rfl) (fun w hSw => by go_simp) hHeld ?_
        simp only [Act.put, List.setIfInBounds_toArray, List.set_cons_zero, List.set_cons_succ]
        refine take_op 3 22 (.int .i64 (k : Int)) (fuel := 5) rfl rfl (by kernel_rfl) (by kernel_rfl) (by kernel_rfl) (fun _ _ _ h => h) (by rfl) (fun w hSw => by go_simp) hHeld ?_
        simp only [Act.put, List.setIfInBounds_toArray, List.set_cons_zero, List.set_cons_succ]
        refine take_op 4 23 (.pointer (some ⟨bf, of + k, none⟩)) (fuel := 4) rfl rfl (by kernel_rfl) (by kernel_rfl) (by kernel_rfl) (fun _ _ _ h => h) (by rfl) (fun w hSw => by go_simp) hHeld ?_
        simp only [Act.put, List.setIfInBounds_toArray, List.set_cons_zero, List.set_cons_succ]
        refine take_op 5 24 (.int .i64 x) (fuel := 3) rfl rfl (by kernel_rfl) (by kernel_rfl) (by kernel_rfl) (fun _ _ _ h => h) (by rfl) (fun w hSw => by go_simp) hHeld ?_
        simp only [Act.put, List.setIfInBounds_toArray, List.set_cons_zero, List.set_cons_succ]
        refine wpAnyH_ready (rs := [6]) (fuel := 2) (by kernel_rfl) (by simp) ?_
        refine AllReadyH.cons rfl (fun K hK => ?_) AllReadyH.nil
        go_simp
        refine (CF.out _ S0.1).mono ?_
        rintro e w5 ⟨g5, c5x, rfl, ho5, hb5⟩
        have BS5 := Lib.hid (S0.1.trans (hb5.mono S0.1.size))
        have RF5 := Lib.hid ho5.row.2.2.2
        have OU5 := Lib.hid (HO.out.below BS5.out)
        clear ho5 hb5
        go_wp2_with fail
        refine hK.out _ _ ⟨BS5.out, KS.out _ BS5.out⟩ (fun hHeld => ?_)
        clear hK K
        refine wpAnyH_ready (rs := [7]) (fuel := 1) (by kernel_rfl) (by simp) ?_
        refine AllReadyH.cons rfl (fun K hK => ?_) AllReadyH.nil
        go_simp
        refine (specSetJoin_any _ _ len co m c5x O T _ OU5.out.row.2.2.2 RF5.out (by omega) (by omega)).mono ?_
        rintro e w6 ⟨g6, c6, rfl, ho6, hb6⟩
        have BS6 := Lib.hid (BS5.out.trans (hb6.mono BS5.out.size))
        have OU6 := Lib.hid (ho6.mono (base := w.heap.size) (Nat.le_trans hws BS5.out.size))
        clear ho6 hb6
        go_wp2_with fail
        refine hK.out _ _ ⟨BS6.out, KS.out _ BS6.out⟩ (fun hHeld => ?_)
        clear hK K
        refine take_op 8 5 (.slice (some ⟨g6, 0, none⟩) (joinOf O T).length c6) (fuel := 0) rfl rfl (by kernel_rfl) (by kernel_rfl) (by kernel_rfl) (fun _ _ _ h => h) (by rfl) (fun w hSw => by go_simp) hHeld ?_
        simp only [Act.put, List.setIfInBounds_toArray, List.set_cons_zero, List.set_cons_succ]
        refine wpAnyH_done (by kernel_rfl) ?_ _
        clear hHeld S0
        have BR := Lib.hid (BW.out.trans (BS6.out.mono hws))
        have VR := Lib.hid (HV.out.below BS6.out)
        go_wp2_with fail
        go_roundw
        case rel => exact ⟨k + 1, g6, c6, _, joinOf O T, by omega, rfl, by go_num, OU6.out, HST.out, BR.out, VR.out, fun _ => by trivial⟩
        case measure => simp [intOf]; omega
    · have HLR : Hid (L = (from_).foldl (fun o s => joinOf o (sayOf ⟨st, it, ins, outs, hids, steps⟩ s)) []) := by
        cases q with
        | true => exact HL.out
        | false =>
          have hk0 : k = 0 := by
            apply Classical.byContradiction
            intro hne
            have := HQ.out (by omega)
            cases this
          have : from_ = [] := List.length_eq_zero_iff.1 (by rw [RF.out.1]; omega)
          rw [HL.out, this]
          rfl
      have HE : Hid (O = L) := by
        have h1 := HT.out
        rw [List.take_of_length_le (by rw [RF.out.1]; omega)] at h1
        rw [HLR.out]
        exact h1
      go_wp2_with fail
      go_ret
      have e := HO.out.length
      rw [← HE.out]
      subst e
      exact ⟨_, _, rfl, HO.out, BW.out⟩

end Go.Proofs.Ytalanlmhfggheaa
