/-
  Contracts of the model's functions of chapter 4 but Runs. Conditions: the automaton's lists have at most 2^20 elements.
-/
import Derived.Test.YtdbgjgeglgipiaaGreatHidMath
import Derived.Test.YtdbgjgeglgipiaaGreatAlong
import Derived.Test.YtdbgjgeglgipiaaGreatSpecIaOk
import Derived.Test.YtdbgjgeglgipiaaGreatIaLaw
import Derived.Deep.RegionHeld3
namespace Go.Proofs.YtdbgjgeglgipiaaGreat
open Go.RowKit

theorem row_one (W0 : World) (x : Int) (g : Nat) (hg : g = W0.heap.size) : Row (W0.alloc (.cells #[.int .i64 x] 3)) (some ⟨g, 0, none⟩) 1 [x] := by
  subst hg
  exact (owns_lit W0 [x] 1 rfl (by unfold maxLen; omega)).row.2.2.2

theorem row_src {w : World} {a : Option Addr} {n c : Nat} {xs : List Int} (h : Row w a n xs) (ha : a = none → c = 0) : Src w a n c xs := by
  cases a with
  | none =>
    have h0 : n = 0 := by
      rcases Nat.eq_zero_or_pos n with h0 | h0
      · exact h0
      · obtain ⟨b, off, e, _⟩ := h.2 h0
        cases e
    subst h0
    have hx : xs = [] := List.length_eq_zero_iff.1 h.1
    obtain rfl := ha rfl
    subst hx
    exact Src.nil w
  | some ad =>
    by_cases h0 : 0 < n
    · obtain ⟨b, off, e, _, hc⟩ := h.2 h0
      rw [e]
      exact src_of h.1 hc
    · obtain rfl : n = 0 := by omega
      have hx : xs = [] := List.length_eq_zero_iff.1 h.1
      subst hx
      exact Src.empty w ad c

/-- Where the Ins are nil, they have no room. -/
def InsC (v : Value) : Prop := ∀ x0 x1 n c x3 x4 x5, v = .agg #[x0, x1, .slice none n c, x3, x4, x5] → c = 0

theorem close_len (a : IaD) (s : Int) : (closeOf a s).length ≤ a.steps.length + 1 := by
  have := come_bound (close_rises a s) (fun y hy => mem_close.1 hy)
  simp only [List.length_singleton] at this
  omega

theorem sureN_len (ss : List St) (ins : List Int) (L : List Int) : (L.foldl (fun o x => meetOf o (ofL ss x ins)) ins).length ≤ ins.length := by
  cases L with
  | nil => exact Nat.le_refl _
  | cons x r =>
    refine rises_len (foldMeet_rises (L := r) (meet_rises _ _)) (fun y hy => ?_)
    exact (mem_foldMeet.1 hy).1

theorem sayN_len (ss : List St) (outs : List Int) (L : List Int) : (L.foldl (fun o x => joinOf o (ofL ss x outs)) []).length ≤ outs.length := by
  refine rises_len (foldJoin_rises List.Pairwise.nil) (fun y hy => ?_)
  rcases mem_foldJoin.1 hy with h | ⟨x, _, h⟩
  · simp at h
  · exact (mem_ofL.1 h).1

theorem farN_len (ss : List St) (act : Int) (L : List Int) : (L.foldl (fun o x => joinOf o (afterL ss x act)) []).length ≤ ss.length := by
  have h : ∀ y ∈ L.foldl (fun o x => joinOf o (afterL ss x act)) [], y ∈ ss.map (fun s => s.2.2) := fun y hy => by
    rcases mem_foldJoin.1 hy with h | ⟨x, _, h⟩
    · simp at h
    · exact List.mem_map.2 ⟨_, mem_afterL.1 h, rfl⟩
  have := rises_len (foldJoin_rises List.Pairwise.nil) h
  simpa using this

theorem sure_len (a : IaD) (s : Int) : (sureOf a s).length ≤ a.ins.length := sureN_len _ _ _
theorem say_len (a : IaD) (s : Int) : (sayOf a s).length ≤ a.outs.length := sayN_len _ _ _
theorem far_len (a : IaD) (s act : Int) : (farOf a s act).length ≤ a.steps.length := farN_len _ _ _

theorem ofN_len (ss : List St) (s : Int) (set : List Int) : (ofL ss s set).length ≤ ss.length := by
  unfold ofL
  refine Nat.le_trans (putAll_len _ _) ?_
  rw [List.length_nil, Nat.zero_add, List.length_map]
  exact List.length_filter_le _ _

theorem afterN_len (ss : List St) (s act : Int) : (afterL ss s act).length ≤ ss.length := by
  unfold afterL
  refine Nat.le_trans (putAll_len _ _) ?_
  rw [List.length_nil, Nat.zero_add, List.length_map]
  exact List.length_filter_le _ _

set_option maxRecDepth 20000 in
set_option maxHeartbeats 3200000 in
theorem l04Closure_any (a : IaD) (v : Value) (s : Int) (w : World) (h : IaRow w a v) (f2 : a.ins.length ≤ 1048576) (f3 : a.outs.length ≤ 1048576) (f4 : a.hids.length ≤ 1048576) (f5 : a.steps.length ≤ 1048576) :
    Calls Tryz.prog 94 #[v, .int .i64 s] w (OwnRes w w.heap.size (closeOf a s)) := by
  obtain ⟨a2, n2, c2, a3, n3, c3, a4, n4, c4, a5, n5, c5, rfl, r2, r3, r4, r5⟩ := h
  obtain ⟨st, it, ins, outs, hids, steps⟩ := a
  simp only at r2 r3 r4 r5 f2 f3 f4 f5
  rw [r4.1] at f4
  rw [r5.1] at f5
  have R4 := Lib.hid r4
  have R5 := Lib.hid r5
  clear r2 r3 r4 r5 f2 f3
  have HX : Hid (closeOf ⟨st, it, ins, outs, hids, steps⟩ s = alongOf hids steps [s]) := rfl
  obtain ⟨L, hL⟩ : ∃ L, L = closeOf ⟨st, it, ins, outs, hids, steps⟩ s := ⟨_, rfl⟩
  rw [← hL] at HX ⊢
  clear hL
  have B0 : Hid (∀ o, Below w.heap.size w ((w.alloc (.cells #[.int .i64 st, .int .i64 it, .slice a2 n2 c2, .slice a3 n3 c3, .slice a4 n4 c4, .slice a5 n5 c5] 31)).alloc o)) := fun o => ((Below.refl _ _).alloc (Nat.le_refl _) _).alloc (by simp) _
  have RF : Hid (Row ((w.alloc (.cells #[.int .i64 st, .int .i64 it, .slice a2 n2 c2, .slice a3 n3 c3, .slice a4 n4 c4, .slice a5 n5 c5] 31)).alloc (.cells #[.int .i64 s] 3)) (some ⟨w.heap.size + 1, 0, none⟩) 1 [s]) := row_one _ s _ (by simp)
  go_enter Tryz.func94, Tryz.ntmps94
  go_wp2_with fail
  refine (along_any st it _ _ _ a5 n5 c5 steps _ 1 1 [s] a4 n4 c4 hids _ (R5.out.below (B0.out _)) (by omega) RF.out (by omega) (R4.out.below (B0.out _)) (by omega)).mono ?_
  rw [← HX.out]
  rintro e w1 ⟨g, c, rfl, ho, hb⟩
  have HO := Lib.hid ho
  have B1 : Hid (Below w.heap.size w w1) := (B0.out _).trans (hb.mono (B0.out _).size)
  clear ho hb
  go_wp2_with fail
  go_ret
  exact ⟨_, _, rfl, HO.out.mono (B0.out _).size, B1.out⟩

set_option maxRecDepth 20000 in
set_option maxHeartbeats 3200000 in
theorem l04Sure_any (a : IaD) (v : Value) (s : Int) (w : World) (h : IaRow w a v) (f2 : a.ins.length ≤ 1048576) (f3 : a.outs.length ≤ 1048576) (f4 : a.hids.length ≤ 1048576) (f5 : a.steps.length ≤ 1048576) (hC0 : InsC v) :
    Calls Tryz.prog 65 #[v, .int .i64 s] w (OwnRes w w.heap.size (sureOf a s)) := by
  have CC0 : Hid (∀ W, Below w.heap.size w W → Calls Tryz.prog 94 #[v, .int .i64 s] W (OwnRes W W.heap.size (closeOf a s))) := fun W hW => l04Closure_any a v s W (h.below hW) f2 f3 f4 f5
  have hcl := close_len a s
  obtain ⟨a2, n2, c2, a3, n3, c3, a4, n4, c4, a5, n5, c5, rfl, r2, r3, r4, r5⟩ := h
  obtain ⟨st, it, ins, outs, hids, steps⟩ := a
  simp only at r2 r3 r4 r5 f2 f3 f4 f5 hcl
  have HC0 : Hid (a2 = none → c2 = 0) := fun e => by subst e; exact hC0 _ _ _ _ _ _ _ rfl
  clear hC0
  obtain ⟨C, hC⟩ : ∃ C, C = closeOf ⟨st, it, ins, outs, hids, steps⟩ s := ⟨_, rfl⟩
  obtain ⟨nc, hnc⟩ : ∃ n, n = C.length := ⟨_, rfl⟩
  have HX : Hid (sureOf ⟨st, it, ins, outs, hids, steps⟩ s = C.foldl (fun o x => meetOf o (ofL steps x ins)) ins) := by rw [hC]; rfl
  have CC : Hid (∀ W, Below w.heap.size w W → Calls Tryz.prog 94 #[.agg #[.int .i64 st, .int .i64 it, .slice a2 n2 c2, .slice a3 n3 c3, .slice a4 n4 c4, .slice a5 n5 c5], .int .i64 s] W fun e w' => ∃ g c, e = .returned (.slice (some ⟨g, 0, none⟩) nc c) ∧ Owns w' W.heap.size (.slice (some ⟨g, 0, none⟩) nc c) nc C ∧ Below W.heap.size W w') := by rw [hnc, hC]; exact CC0
  rw [← hC, ← hnc] at hcl
  have hnc2 : nc ≤ 1048577 := by omega
  have HNC := Lib.hid hnc
  have hss := f5
  have e2 := r2.1
  have e3 := r3.1
  have e5 := r5.1
  rw [e2] at f2
  rw [e3] at f3
  rw [e5] at f5
  have R2 := Lib.hid r2
  have R3 := Lib.hid r3
  have R5 := Lib.hid r5
  have E2 := Lib.hid e2
  have E3 := Lib.hid e3
  have E5 := Lib.hid e5
  clear r2 r3 r4 r5 hC hnc CC0 f4 hcl e2 e3 e5 hss
  obtain ⟨L, hL⟩ : ∃ L, L = sureOf ⟨st, it, ins, outs, hids, steps⟩ s := ⟨_, rfl⟩
  rw [← hL] at HX ⊢
  clear hL
  have V0 := Lib.hid (VarIs.new w #[.int .i64 st, .int .i64 it, .slice a2 n2 c2, .slice a3 n3 c3, .slice a4 n4 c4, .slice a5 n5 c5] 31 rfl)
  obtain ⟨i0, hi, hz0, hz1, hz2⟩ := info_parts info_int
  have B00 : Hid (Below w.heap.size w ((w.alloc (.cells #[.int .i64 st, .int .i64 it, .slice a2 n2 c2, .slice a3 n3 c3, .slice a4 n4 c4, .slice a5 n5 c5] 31)).alloc (.cells #[] 3))) := ((Below.refl _ _).alloc (Nat.le_refl _) _).alloc (by simp) _
  have V00 : Hid (VarIs ((w.alloc (.cells #[.int .i64 st, .int .i64 it, .slice a2 n2 c2, .slice a3 n3 c3, .slice a4 n4 c4, .slice a5 n5 c5] 31)).alloc (.cells #[] 3)) w.heap.size #[.int .i64 st, .int .i64 it, .slice a2 n2 c2, .slice a3 n3 c3, .slice a4 n4 c4, .slice a5 n5 c5] 31) := V0.out.alloc _
  have T0 : Owns ((w.alloc (.cells #[.int .i64 st, .int .i64 it, .slice a2 n2 c2, .slice a3 n3 c3, .slice a4 n4 c4, .slice a5 n5 c5] 31)).alloc (.cells #[] 3)) (w.heap.size + 1) (.slice (some ⟨w.heap.size + 1, 0, none⟩) 0 0) 0 [] := by
    have := (owns_lit (w.alloc (.cells #[.int .i64 st, .int .i64 it, .slice a2 n2 c2, .slice a3 n3 c3, .slice a4 n4 c4, .slice a5 n5 c5] 31)) [] 0 rfl (by unfold maxLen; omega))
    simpa using this
  have S1 : Src ((w.alloc (.cells #[.int .i64 st, .int .i64 it, .slice a2 n2 c2, .slice a3 n3 c3, .slice a4 n4 c4, .slice a5 n5 c5] 31)).alloc (.cells #[] 3)) a2 n2 c2 ins := row_src (R2.out.below B00.out) HC0.out
  have k2 := V00.out.cell (j := 2) rfl
  go_enter Tryz.func65, Tryz.ntmps65
  go_wp2_with (at_builtin; refine wpList_app rfl (.tmp 8) (.tmp 10) rfl (w.heap.size + 1) i0 Tryz.underlying22 hi hz0 hz1 hz2 _ _ _ rfl T0 _ n2 _ ins rfl S1 (by omega) (by simp) ?_)
  rintro v1 w0 ⟨hown, hgrow, hnil⟩
  obtain ⟨go0, co0, rfl⟩ := hown.head (fun e => by have := (hnil.1 e).1; cases this)
  have BP : Hid (Below w.heap.size w w0) := T0.grown B00.out hgrow (by omega) (by simp; omega)
  have VP : Hid (VarIs w0 w.heap.size #[.int .i64 st, .int .i64 it, .slice a2 n2 c2, .slice a3 n3 c3, .slice a4 n4 c4, .slice a5 n5 c5] 31) := V00.out.grown hgrow (fun h => by have := (T0.lt _ h.symm).1; omega)
  have OP : Hid (Owns w0 w.heap.size (.slice (some ⟨go0, 0, none⟩) n2 co0) n2 ins) := by
    have := hown.mono (base := w.heap.size) (by omega)
    simpa [Hid] using this
  clear hown hgrow hnil S1 T0 k2 V00 B00
  have m0 := VP.out.cell (j := 0) rfl
  have m1 := VP.out.cell (j := 1) rfl
  have m2 := VP.out.cell (j := 2) rfl
  have m3 := VP.out.cell (j := 3) rfl
  have m4 := VP.out.cell (j := 4) rfl
  have m5 := VP.out.cell (j := 5) rfl
  go_wp2_with fail
  clear m0 m1 m2 m3 m4 m5
  refine (CC.out _ BP.out).mono ?_
  rintro e w1 ⟨gc, cc, rfl, hoC, hb⟩
  have B1 : Hid (Below w.heap.size w w1) := BP.out.trans (hb.mono BP.out.size)
  have V1 := Lib.hid (VP.out.below hb)
  have O1 := Lib.hid (OP.out.below hb)
  have OC := Lib.hid (hoC.mono BP.out.size)
  have hs1 := B1.out.size
  clear hb hoC CC BP VP OP
  go_wp2_with fail
  go_loopw [5, 7] (fun out i wr => ∃ (k go co len : Nat) (O : List Int), k ≤ nc ∧ i = .int .i64 k ∧ out = .slice (some ⟨go, 0, none⟩) len co ∧ Hid (Owns wr w.heap.size (.slice (some ⟨go, 0, none⟩) len co) len O) ∧ Hid (O = (C.take k).foldl (fun o x => meetOf o (ofL steps x ins)) ins) ∧ Below w1.heap.size w1 wr) (fun _ i _ => nc - (intOf i).toNat)
  case atStart => exact ⟨0, go0, co0, n2, ins, Nat.zero_le _, rfl, rfl, O1.out, rfl, Below.refl _ _⟩
  case round =>
    obtain ⟨k, go, co, len, O, hk, rfl, rfl, HO, HT, hnx⟩ := hrel
    have hlen : len ≤ 1048576 := by
      have h1 := sureN_len steps ins (C.take k)
      rw [← HT.out, HO.out.length] at h1
      rw [E2.out] at h1; omega
    by_cases hlt : k < nc
    · have hkx : k < C.length := by rw [← HNC.out]; exact hlt
      obtain ⟨x, hx⟩ : ∃ x, x = C[k] := ⟨_, rfl⟩
      obtain ⟨T, hT⟩ : ∃ T, T = ofL steps x ins := ⟨_, rfl⟩
      obtain ⟨m, hm⟩ : ∃ m, m = T.length := ⟨_, rfl⟩
      have hml : m ≤ 1048576 := by
        have h1 := ofN_len steps x ins
        rw [← hT, ← hm, E5.out] at h1
        omega
      have HST : Hid (meetOf O T = (C.take (k + 1)).foldl (fun o x => meetOf o (ofL steps x ins)) ins) := by
        unfold Hid
        rw [List.take_succ_eq_append_getElem hkx, List.foldl_append, ← HT.out, ← hx, hT]
        rfl
      obtain ⟨O2, hO2⟩ : ∃ O2, O2 = meetOf O T := ⟨_, rfl⟩
      obtain ⟨len2, hlen2⟩ : ∃ n, n = O2.length := ⟨_, rfl⟩
      rw [← hO2] at HST
      have KS : Hid (∀ W, Below w1.heap.size w1 W → W.cell? ⟨w.heap.size, 0, none⟩ = some (.int .i64 st) ∧ W.cell? ⟨w.heap.size, 1, none⟩ = some (.int .i64 it) ∧ W.cell? ⟨w.heap.size, 2, none⟩ = some (.slice a2 n2 c2) ∧ W.cell? ⟨w.heap.size, 3, none⟩ = some (.slice a3 n3 c3) ∧ W.cell? ⟨w.heap.size, 4, none⟩ = some (.slice a4 n4 c4) ∧ W.cell? ⟨w.heap.size, 5, none⟩ = some (.slice a5 n5 c5) ∧ W.cell? ⟨gc, k, none⟩ = some (.int .i64 x)) := fun W hW => by
        have hv := V1.out.below hW
        refine ⟨hv.cell rfl, hv.cell rfl, hv.cell rfl, hv.cell rfl, hv.cell rfl, hv.cell rfl, ?_⟩
        rw [(OC.out.below hW).cells.2 k hlt, getD_eq C k hkx, hx]
      have CO : Hid (∀ W, Below w1.heap.size w1 W ∧ Owns W w.heap.size (.slice (some ⟨go, 0, none⟩) len co) len O ∧ W.cell? ⟨w.heap.size, 0, none⟩ = some (.int .i64 st) ∧ W.cell? ⟨w.heap.size, 1, none⟩ = some (.int .i64 it) ∧ W.cell? ⟨w.heap.size, 2, none⟩ = some (.slice a2 n2 c2) ∧ W.cell? ⟨w.heap.size, 3, none⟩ = some (.slice a3 n3 c3) ∧ W.cell? ⟨w.heap.size, 4, none⟩ = some (.slice a4 n4 c4) ∧ W.cell? ⟨w.heap.size, 5, none⟩ = some (.slice a5 n5 c5) ∧ W.cell? ⟨gc, k, none⟩ = some (.int .i64 x) → Calls Tryz.prog 47 #[.agg #[.int .i64 st, .int .i64 it, .slice a2 n2 c2, .slice a3 n3 c3, .slice a4 n4 c4, .slice a5 n5 c5], .int .i64 x, .slice a2 n2 c2] W fun e w' => ∃ g c, e = .returned (.slice (some ⟨g, 0, none⟩) m c) ∧ Row w' (some ⟨g, 0, none⟩) m T ∧ (Below w1.heap.size w1 w' ∧ Owns w' w.heap.size (.slice (some ⟨go, 0, none⟩) len co) len O ∧ w'.cell? ⟨w.heap.size, 0, none⟩ = some (.int .i64 st) ∧ w'.cell? ⟨w.heap.size, 1, none⟩ = some (.int .i64 it) ∧ w'.cell? ⟨w.heap.size, 2, none⟩ = some (.slice a2 n2 c2) ∧ w'.cell? ⟨w.heap.size, 3, none⟩ = some (.slice a3 n3 c3) ∧ w'.cell? ⟨w.heap.size, 4, none⟩ = some (.slice a4 n4 c4) ∧ w'.cell? ⟨w.heap.size, 5, none⟩ = some (.slice a5 n5 c5) ∧ w'.cell? ⟨gc, k, none⟩ = some (.int .i64 x))) := fun W hW => by
        rw [hm, hT]
        exact (of_any st it x _ _ _ a5 n5 c5 steps a2 n2 c2 ins W (R5.out.below (B1.out.trans (hW.1.mono hs1))) (by omega) (R2.out.below (B1.out.trans (hW.1.mono hs1))) (by omega)).mono fun e w' ⟨g, c, he, ho, hb⟩ => ⟨g, c, he, ho.row.2.2.2, ⟨hW.1.trans (hb.mono hW.1.size), hW.2.1.below hb, KS.out _ (hW.1.trans (hb.mono hW.1.size))⟩⟩
      have CM : Hid (∀ W g c, Below w1.heap.size w1 W ∧ Owns W w.heap.size (.slice (some ⟨go, 0, none⟩) len co) len O ∧ W.cell? ⟨w.heap.size, 0, none⟩ = some (.int .i64 st) ∧ W.cell? ⟨w.heap.size, 1, none⟩ = some (.int .i64 it) ∧ W.cell? ⟨w.heap.size, 2, none⟩ = some (.slice a2 n2 c2) ∧ W.cell? ⟨w.heap.size, 3, none⟩ = some (.slice a3 n3 c3) ∧ W.cell? ⟨w.heap.size, 4, none⟩ = some (.slice a4 n4 c4) ∧ W.cell? ⟨w.heap.size, 5, none⟩ = some (.slice a5 n5 c5) ∧ W.cell? ⟨gc, k, none⟩ = some (.int .i64 x) → Row W (some ⟨g, 0, none⟩) m T → Calls Tryz.prog 46 #[.slice (some ⟨go, 0, none⟩) len co, .slice (some ⟨g, 0, none⟩) m c] W fun e w' => ∃ g' c', e = .returned (.slice (some ⟨g', 0, none⟩) len2 c') ∧ Owns w' w.heap.size (.slice (some ⟨g', 0, none⟩) len2 c') len2 O2 ∧ (Below w1.heap.size w1 w' ∧ Owns w' w.heap.size (.slice (some ⟨go, 0, none⟩) len co) len O ∧ w'.cell? ⟨w.heap.size, 0, none⟩ = some (.int .i64 st) ∧ w'.cell? ⟨w.heap.size, 1, none⟩ = some (.int .i64 it) ∧ w'.cell? ⟨w.heap.size, 2, none⟩ = some (.slice a2 n2 c2) ∧ w'.cell? ⟨w.heap.size, 3, none⟩ = some (.slice a3 n3 c3) ∧ w'.cell? ⟨w.heap.size, 4, none⟩ = some (.slice a4 n4 c4) ∧ w'.cell? ⟨w.heap.size, 5, none⟩ = some (.slice a5 n5 c5) ∧ w'.cell? ⟨gc, k, none⟩ = some (.int .i64 x))) := fun W g c hW hr => by
        rw [hlen2, hO2]
        exact (specSetMeet_any _ _ len co m c O T W hW.2.1.row.2.2.2 hr (by omega) (by omega)).mono fun e w' ⟨g', c', he, ho, hb⟩ => ⟨g', c', he, ho.mono (Nat.le_trans hs1 hW.1.size), ⟨hW.1.trans (hb.mono hW.1.size), hW.2.1.below hb, KS.out _ (hW.1.trans (hb.mono hW.1.size))⟩⟩
      have S0 : Below w1.heap.size w1 wr.drew ∧ Owns wr.drew w.heap.size (.slice (some ⟨go, 0, none⟩) len co) len O ∧ wr.drew.cell? ⟨w.heap.size, 0, none⟩ = some (.int .i64 st) ∧ wr.drew.cell? ⟨w.heap.size, 1, none⟩ = some (.int .i64 it) ∧ wr.drew.cell? ⟨w.heap.size, 2, none⟩ = some (.slice a2 n2 c2) ∧ wr.drew.cell? ⟨w.heap.size, 3, none⟩ = some (.slice a3 n3 c3) ∧ wr.drew.cell? ⟨w.heap.size, 4, none⟩ = some (.slice a4 n4 c4) ∧ wr.drew.cell? ⟨w.heap.size, 5, none⟩ = some (.slice a5 n5 c5) ∧ wr.drew.cell? ⟨gc, k, none⟩ = some (.int .i64 x) := ⟨hnx.drew, HO.out.below (Below.refl _ _).drew, KS.out _ hnx.drew⟩
      clear hx hT hm hO2 hlen2
      go_wp2_with fail
      go_region_held3 (fun w' => Below w1.heap.size w1 w' ∧ Owns w' w.heap.size (.slice (some ⟨go, 0, none⟩) len co) len O ∧ w'.cell? ⟨w.heap.size, 0, none⟩ = some (.int .i64 st) ∧ w'.cell? ⟨w.heap.size, 1, none⟩ = some (.int .i64 it) ∧ w'.cell? ⟨w.heap.size, 2, none⟩ = some (.slice a2 n2 c2) ∧ w'.cell? ⟨w.heap.size, 3, none⟩ = some (.slice a3 n3 c3) ∧ w'.cell? ⟨w.heap.size, 4, none⟩ = some (.slice a4 n4 c4) ∧ w'.cell? ⟨w.heap.size, 5, none⟩ = some (.slice a5 n5 c5) ∧ w'.cell? ⟨gc, k, none⟩ = some (.int .i64 x))
        (first | exact hS2 | exact hS1 | exact S0)
        ((first | (go_at_call 47; refine (CO.out _ S0).mono ?_; rintro e w' ⟨g, c, rfl, hR, hS1⟩) | (go_at_call 46; refine (CM.out _ _ _ hS1 hR).mono ?_; rintro e w' ⟨g', c', rfl, hO', hS2⟩)))
      have HO2 := Lib.hid hO'
      have HB2 := Lib.hid hS2.1
      clear S0 hS1 hS2 hR hO' CO CM KS
      go_wp2_with fail
      go_roundw
      case rel => exact ⟨k + 1, g', c', len2, O2, by omega, by go_num, rfl, HO2.out, HST.out, HB2.out⟩
      case measure => simp [intOf]; omega
    · have HE : Hid (O = L) := by
        have := HT.out
        rw [List.take_of_length_le (by rw [← HNC.out]; omega)] at this
        rw [HX.out]
        exact this
      go_wp2_with fail
      go_ret
      have e := HO.out.length
      rw [← HE.out]
      subst e
      exact ⟨_, _, rfl, HO.out, B1.out.trans (hnx.mono hs1)⟩

set_option maxRecDepth 20000 in
set_option maxHeartbeats 3200000 in
theorem l04Say_any (a : IaD) (v : Value) (s : Int) (w : World) (h : IaRow w a v) (f2 : a.ins.length ≤ 1048576) (f3 : a.outs.length ≤ 1048576) (f4 : a.hids.length ≤ 1048576) (f5 : a.steps.length ≤ 1048576) :
    Calls Tryz.prog 66 #[v, .int .i64 s] w (OwnRes w w.heap.size (sayOf a s)) := by
  have CC0 : Hid (∀ W, Below w.heap.size w W → Calls Tryz.prog 94 #[v, .int .i64 s] W (OwnRes W W.heap.size (closeOf a s))) := fun W hW => l04Closure_any a v s W (h.below hW) f2 f3 f4 f5
  have hcl := close_len a s
  obtain ⟨a2, n2, c2, a3, n3, c3, a4, n4, c4, a5, n5, c5, rfl, r2, r3, r4, r5⟩ := h
  obtain ⟨st, it, ins, outs, hids, steps⟩ := a
  simp only at r2 r3 r4 r5 f2 f3 f4 f5 hcl
  obtain ⟨C, hC⟩ : ∃ C, C = closeOf ⟨st, it, ins, outs, hids, steps⟩ s := ⟨_, rfl⟩
  obtain ⟨nc, hnc⟩ : ∃ n, n = C.length := ⟨_, rfl⟩
  have HX : Hid (sayOf ⟨st, it, ins, outs, hids, steps⟩ s = C.foldl (fun o x => joinOf o (ofL steps x outs)) []) := by rw [hC]; rfl
  have CC : Hid (∀ W, Below w.heap.size w W → Calls Tryz.prog 94 #[.agg #[.int .i64 st, .int .i64 it, .slice a2 n2 c2, .slice a3 n3 c3, .slice a4 n4 c4, .slice a5 n5 c5], .int .i64 s] W fun e w' => ∃ g c, e = .returned (.slice (some ⟨g, 0, none⟩) nc c) ∧ Owns w' W.heap.size (.slice (some ⟨g, 0, none⟩) nc c) nc C ∧ Below W.heap.size W w') := by rw [hnc, hC]; exact CC0
  rw [← hC, ← hnc] at hcl
  have hnc2 : nc ≤ 1048577 := by omega
  have HNC := Lib.hid hnc
  have hss := f5
  have e2 := r2.1
  have e3 := r3.1
  have e5 := r5.1
  rw [e2] at f2
  rw [e3] at f3
  rw [e5] at f5
  have R2 := Lib.hid r2
  have R3 := Lib.hid r3
  have R5 := Lib.hid r5
  have E2 := Lib.hid e2
  have E3 := Lib.hid e3
  have E5 := Lib.hid e5
  clear r2 r3 r4 r5 hC hnc CC0 f4 hcl e2 e3 e5 hss
  obtain ⟨L, hL⟩ : ∃ L, L = sayOf ⟨st, it, ins, outs, hids, steps⟩ s := ⟨_, rfl⟩
  rw [← hL] at HX ⊢
  clear hL
  have V0 := Lib.hid (VarIs.new w #[.int .i64 st, .int .i64 it, .slice a2 n2 c2, .slice a3 n3 c3, .slice a4 n4 c4, .slice a5 n5 c5] 31 rfl)
  obtain ⟨i0, hi, hz0, hz1, hz2⟩ := info_parts info_int
  have BP : Hid (Below w.heap.size w ((w.alloc (.cells #[.int .i64 st, .int .i64 it, .slice a2 n2 c2, .slice a3 n3 c3, .slice a4 n4 c4, .slice a5 n5 c5] 31)).alloc (.cells #[] 3))) := ((Below.refl _ _).alloc (Nat.le_refl _) _).alloc (by simp) _
  have VP : Hid (VarIs ((w.alloc (.cells #[.int .i64 st, .int .i64 it, .slice a2 n2 c2, .slice a3 n3 c3, .slice a4 n4 c4, .slice a5 n5 c5] 31)).alloc (.cells #[] 3)) w.heap.size #[.int .i64 st, .int .i64 it, .slice a2 n2 c2, .slice a3 n3 c3, .slice a4 n4 c4, .slice a5 n5 c5] 31) := V0.out.alloc _
  have OP : Hid (Owns ((w.alloc (.cells #[.int .i64 st, .int .i64 it, .slice a2 n2 c2, .slice a3 n3 c3, .slice a4 n4 c4, .slice a5 n5 c5] 31)).alloc (.cells #[] 3)) w.heap.size (.slice (some ⟨w.heap.size + 1, 0, none⟩) 0 0) 0 []) := by
    have := (owns_lit (w.alloc (.cells #[.int .i64 st, .int .i64 it, .slice a2 n2 c2, .slice a3 n3 c3, .slice a4 n4 c4, .slice a5 n5 c5] 31)) [] 0 rfl (by unfold maxLen; omega)).mono (base := w.heap.size) (by simp)
    simpa [Hid] using this
  go_enter Tryz.func66, Tryz.ntmps66
  go_wp2_with fail
  refine (CC.out _ BP.out).mono ?_
  rintro e w1 ⟨gc, cc, rfl, hoC, hb⟩
  have B1 : Hid (Below w.heap.size w w1) := BP.out.trans (hb.mono BP.out.size)
  have V1 := Lib.hid (VP.out.below hb)
  have O1 := Lib.hid (OP.out.below hb)
  have OC := Lib.hid (hoC.mono BP.out.size)
  have hs1 := B1.out.size
  clear hb hoC CC BP VP OP
  go_wp2_with fail
  go_loopw [5, 7] (fun out i wr => ∃ (k go co len : Nat) (O : List Int), k ≤ nc ∧ i = .int .i64 k ∧ out = .slice (some ⟨go, 0, none⟩) len co ∧ Hid (Owns wr w.heap.size (.slice (some ⟨go, 0, none⟩) len co) len O) ∧ Hid (O = (C.take k).foldl (fun o x => joinOf o (ofL steps x outs)) []) ∧ Below w1.heap.size w1 wr) (fun _ i _ => nc - (intOf i).toNat)
  case atStart => exact ⟨0, w.heap.size + 1, 0, 0, [], Nat.zero_le _, rfl, rfl, O1.out, rfl, Below.refl _ _⟩
  case round =>
    obtain ⟨k, go, co, len, O, hk, rfl, rfl, HO, HT, hnx⟩ := hrel
    have hlen : len ≤ 1048576 := by
      have h1 := sayN_len steps outs (C.take k)
      rw [← HT.out, HO.out.length] at h1
      rw [E3.out] at h1; omega
    by_cases hlt : k < nc
    · have hkx : k < C.length := by rw [← HNC.out]; exact hlt
      obtain ⟨x, hx⟩ : ∃ x, x = C[k] := ⟨_, rfl⟩
      obtain ⟨T, hT⟩ : ∃ T, T = ofL steps x outs := ⟨_, rfl⟩
      obtain ⟨m, hm⟩ : ∃ m, m = T.length := ⟨_, rfl⟩
      have hml : m ≤ 1048576 := by
        have h1 := ofN_len steps x outs
        rw [← hT, ← hm, E5.out] at h1
        omega
      have HST : Hid (joinOf O T = (C.take (k + 1)).foldl (fun o x => joinOf o (ofL steps x outs)) []) := by
        unfold Hid
        rw [List.take_succ_eq_append_getElem hkx, List.foldl_append, ← HT.out, ← hx, hT]
        rfl
      obtain ⟨O2, hO2⟩ : ∃ O2, O2 = joinOf O T := ⟨_, rfl⟩
      obtain ⟨len2, hlen2⟩ : ∃ n, n = O2.length := ⟨_, rfl⟩
      rw [← hO2] at HST
      have KS : Hid (∀ W, Below w1.heap.size w1 W → W.cell? ⟨w.heap.size, 0, none⟩ = some (.int .i64 st) ∧ W.cell? ⟨w.heap.size, 1, none⟩ = some (.int .i64 it) ∧ W.cell? ⟨w.heap.size, 2, none⟩ = some (.slice a2 n2 c2) ∧ W.cell? ⟨w.heap.size, 3, none⟩ = some (.slice a3 n3 c3) ∧ W.cell? ⟨w.heap.size, 4, none⟩ = some (.slice a4 n4 c4) ∧ W.cell? ⟨w.heap.size, 5, none⟩ = some (.slice a5 n5 c5) ∧ W.cell? ⟨gc, k, none⟩ = some (.int .i64 x)) := fun W hW => by
        have hv := V1.out.below hW
        refine ⟨hv.cell rfl, hv.cell rfl, hv.cell rfl, hv.cell rfl, hv.cell rfl, hv.cell rfl, ?_⟩
        rw [(OC.out.below hW).cells.2 k hlt, getD_eq C k hkx, hx]
      have CO : Hid (∀ W, Below w1.heap.size w1 W ∧ Owns W w.heap.size (.slice (some ⟨go, 0, none⟩) len co) len O ∧ W.cell? ⟨w.heap.size, 0, none⟩ = some (.int .i64 st) ∧ W.cell? ⟨w.heap.size, 1, none⟩ = some (.int .i64 it) ∧ W.cell? ⟨w.heap.size, 2, none⟩ = some (.slice a2 n2 c2) ∧ W.cell? ⟨w.heap.size, 3, none⟩ = some (.slice a3 n3 c3) ∧ W.cell? ⟨w.heap.size, 4, none⟩ = some (.slice a4 n4 c4) ∧ W.cell? ⟨w.heap.size, 5, none⟩ = some (.slice a5 n5 c5) ∧ W.cell? ⟨gc, k, none⟩ = some (.int .i64 x) → Calls Tryz.prog 47 #[.agg #[.int .i64 st, .int .i64 it, .slice a2 n2 c2, .slice a3 n3 c3, .slice a4 n4 c4, .slice a5 n5 c5], .int .i64 x, .slice a3 n3 c3] W fun e w' => ∃ g c, e = .returned (.slice (some ⟨g, 0, none⟩) m c) ∧ Row w' (some ⟨g, 0, none⟩) m T ∧ (Below w1.heap.size w1 w' ∧ Owns w' w.heap.size (.slice (some ⟨go, 0, none⟩) len co) len O ∧ w'.cell? ⟨w.heap.size, 0, none⟩ = some (.int .i64 st) ∧ w'.cell? ⟨w.heap.size, 1, none⟩ = some (.int .i64 it) ∧ w'.cell? ⟨w.heap.size, 2, none⟩ = some (.slice a2 n2 c2) ∧ w'.cell? ⟨w.heap.size, 3, none⟩ = some (.slice a3 n3 c3) ∧ w'.cell? ⟨w.heap.size, 4, none⟩ = some (.slice a4 n4 c4) ∧ w'.cell? ⟨w.heap.size, 5, none⟩ = some (.slice a5 n5 c5) ∧ w'.cell? ⟨gc, k, none⟩ = some (.int .i64 x))) := fun W hW => by
        rw [hm, hT]
        exact (of_any st it x _ _ _ a5 n5 c5 steps a3 n3 c3 outs W (R5.out.below (B1.out.trans (hW.1.mono hs1))) (by omega) (R3.out.below (B1.out.trans (hW.1.mono hs1))) (by omega)).mono fun e w' ⟨g, c, he, ho, hb⟩ => ⟨g, c, he, ho.row.2.2.2, ⟨hW.1.trans (hb.mono hW.1.size), hW.2.1.below hb, KS.out _ (hW.1.trans (hb.mono hW.1.size))⟩⟩
      have CM : Hid (∀ W g c, Below w1.heap.size w1 W ∧ Owns W w.heap.size (.slice (some ⟨go, 0, none⟩) len co) len O ∧ W.cell? ⟨w.heap.size, 0, none⟩ = some (.int .i64 st) ∧ W.cell? ⟨w.heap.size, 1, none⟩ = some (.int .i64 it) ∧ W.cell? ⟨w.heap.size, 2, none⟩ = some (.slice a2 n2 c2) ∧ W.cell? ⟨w.heap.size, 3, none⟩ = some (.slice a3 n3 c3) ∧ W.cell? ⟨w.heap.size, 4, none⟩ = some (.slice a4 n4 c4) ∧ W.cell? ⟨w.heap.size, 5, none⟩ = some (.slice a5 n5 c5) ∧ W.cell? ⟨gc, k, none⟩ = some (.int .i64 x) → Row W (some ⟨g, 0, none⟩) m T → Calls Tryz.prog 43 #[.slice (some ⟨go, 0, none⟩) len co, .slice (some ⟨g, 0, none⟩) m c] W fun e w' => ∃ g' c', e = .returned (.slice (some ⟨g', 0, none⟩) len2 c') ∧ Owns w' w.heap.size (.slice (some ⟨g', 0, none⟩) len2 c') len2 O2 ∧ (Below w1.heap.size w1 w' ∧ Owns w' w.heap.size (.slice (some ⟨go, 0, none⟩) len co) len O ∧ w'.cell? ⟨w.heap.size, 0, none⟩ = some (.int .i64 st) ∧ w'.cell? ⟨w.heap.size, 1, none⟩ = some (.int .i64 it) ∧ w'.cell? ⟨w.heap.size, 2, none⟩ = some (.slice a2 n2 c2) ∧ w'.cell? ⟨w.heap.size, 3, none⟩ = some (.slice a3 n3 c3) ∧ w'.cell? ⟨w.heap.size, 4, none⟩ = some (.slice a4 n4 c4) ∧ w'.cell? ⟨w.heap.size, 5, none⟩ = some (.slice a5 n5 c5) ∧ w'.cell? ⟨gc, k, none⟩ = some (.int .i64 x))) := fun W g c hW hr => by
        rw [hlen2, hO2]
        exact (specSetJoin_any _ _ len co m c O T W hW.2.1.row.2.2.2 hr (by omega) (by omega)).mono fun e w' ⟨g', c', he, ho, hb⟩ => ⟨g', c', he, ho.mono (Nat.le_trans hs1 hW.1.size), ⟨hW.1.trans (hb.mono hW.1.size), hW.2.1.below hb, KS.out _ (hW.1.trans (hb.mono hW.1.size))⟩⟩
      have S0 : Below w1.heap.size w1 wr.drew ∧ Owns wr.drew w.heap.size (.slice (some ⟨go, 0, none⟩) len co) len O ∧ wr.drew.cell? ⟨w.heap.size, 0, none⟩ = some (.int .i64 st) ∧ wr.drew.cell? ⟨w.heap.size, 1, none⟩ = some (.int .i64 it) ∧ wr.drew.cell? ⟨w.heap.size, 2, none⟩ = some (.slice a2 n2 c2) ∧ wr.drew.cell? ⟨w.heap.size, 3, none⟩ = some (.slice a3 n3 c3) ∧ wr.drew.cell? ⟨w.heap.size, 4, none⟩ = some (.slice a4 n4 c4) ∧ wr.drew.cell? ⟨w.heap.size, 5, none⟩ = some (.slice a5 n5 c5) ∧ wr.drew.cell? ⟨gc, k, none⟩ = some (.int .i64 x) := ⟨hnx.drew, HO.out.below (Below.refl _ _).drew, KS.out _ hnx.drew⟩
      clear hx hT hm hO2 hlen2
      go_wp2_with fail
      go_region_held3 (fun w' => Below w1.heap.size w1 w' ∧ Owns w' w.heap.size (.slice (some ⟨go, 0, none⟩) len co) len O ∧ w'.cell? ⟨w.heap.size, 0, none⟩ = some (.int .i64 st) ∧ w'.cell? ⟨w.heap.size, 1, none⟩ = some (.int .i64 it) ∧ w'.cell? ⟨w.heap.size, 2, none⟩ = some (.slice a2 n2 c2) ∧ w'.cell? ⟨w.heap.size, 3, none⟩ = some (.slice a3 n3 c3) ∧ w'.cell? ⟨w.heap.size, 4, none⟩ = some (.slice a4 n4 c4) ∧ w'.cell? ⟨w.heap.size, 5, none⟩ = some (.slice a5 n5 c5) ∧ w'.cell? ⟨gc, k, none⟩ = some (.int .i64 x))
        (first | exact hS2 | exact hS1 | exact S0)
        ((first | (go_at_call 47; refine (CO.out _ S0).mono ?_; rintro e w' ⟨g, c, rfl, hR, hS1⟩) | (go_at_call 43; refine (CM.out _ _ _ hS1 hR).mono ?_; rintro e w' ⟨g', c', rfl, hO', hS2⟩)))
      have HO2 := Lib.hid hO'
      have HB2 := Lib.hid hS2.1
      clear S0 hS1 hS2 hR hO' CO CM KS
      go_wp2_with fail
      go_roundw
      case rel => exact ⟨k + 1, g', c', len2, O2, by omega, by go_num, rfl, HO2.out, HST.out, HB2.out⟩
      case measure => simp [intOf]; omega
    · have HE : Hid (O = L) := by
        have := HT.out
        rw [List.take_of_length_le (by rw [← HNC.out]; omega)] at this
        rw [HX.out]
        exact this
      go_wp2_with fail
      go_ret
      have e := HO.out.length
      rw [← HE.out]
      subst e
      exact ⟨_, _, rfl, HO.out, B1.out.trans (hnx.mono hs1)⟩

set_option maxRecDepth 20000 in
set_option maxHeartbeats 3200000 in
theorem l04After_any (a : IaD) (v : Value) (s : Int) (act : Int) (w : World) (h : IaRow w a v) (f2 : a.ins.length ≤ 1048576) (f3 : a.outs.length ≤ 1048576) (f4 : a.hids.length ≤ 1048576) (f5 : a.steps.length ≤ 1048576) :
    Calls Tryz.prog 67 #[v, .int .i64 s, .int .i64 act] w (OwnRes w w.heap.size (farOf a s act)) := by
  have CC0 : Hid (∀ W, Below w.heap.size w W → Calls Tryz.prog 94 #[v, .int .i64 s] W (OwnRes W W.heap.size (closeOf a s))) := fun W hW => l04Closure_any a v s W (h.below hW) f2 f3 f4 f5
  have hcl := close_len a s
  obtain ⟨a2, n2, c2, a3, n3, c3, a4, n4, c4, a5, n5, c5, rfl, r2, r3, r4, r5⟩ := h
  obtain ⟨st, it, ins, outs, hids, steps⟩ := a
  simp only at r2 r3 r4 r5 f2 f3 f4 f5 hcl
  obtain ⟨C, hC⟩ : ∃ C, C = closeOf ⟨st, it, ins, outs, hids, steps⟩ s := ⟨_, rfl⟩
  obtain ⟨nc, hnc⟩ : ∃ n, n = C.length := ⟨_, rfl⟩
  have HX : Hid (farOf ⟨st, it, ins, outs, hids, steps⟩ s act = C.foldl (fun o x => joinOf o (afterL steps x act)) []) := by rw [hC]; rfl
  have CC : Hid (∀ W, Below w.heap.size w W → Calls Tryz.prog 94 #[.agg #[.int .i64 st, .int .i64 it, .slice a2 n2 c2, .slice a3 n3 c3, .slice a4 n4 c4, .slice a5 n5 c5], .int .i64 s] W fun e w' => ∃ g c, e = .returned (.slice (some ⟨g, 0, none⟩) nc c) ∧ Owns w' W.heap.size (.slice (some ⟨g, 0, none⟩) nc c) nc C ∧ Below W.heap.size W w') := by rw [hnc, hC]; exact CC0
  rw [← hC, ← hnc] at hcl
  have hnc2 : nc ≤ 1048577 := by omega
  have HNC := Lib.hid hnc
  have hss := f5
  have e2 := r2.1
  have e3 := r3.1
  have e5 := r5.1
  rw [e2] at f2
  rw [e3] at f3
  rw [e5] at f5
  have R2 := Lib.hid r2
  have R3 := Lib.hid r3
  have R5 := Lib.hid r5
  have E2 := Lib.hid e2
  have E3 := Lib.hid e3
  have E5 := Lib.hid e5
  clear r2 r3 r4 r5 hC hnc CC0 f4 hcl e2 e3 e5 hss
  obtain ⟨L, hL⟩ : ∃ L, L = farOf ⟨st, it, ins, outs, hids, steps⟩ s act := ⟨_, rfl⟩
  rw [← hL] at HX ⊢
  clear hL
  have V0 := Lib.hid (VarIs.new w #[.int .i64 st, .int .i64 it, .slice a2 n2 c2, .slice a3 n3 c3, .slice a4 n4 c4, .slice a5 n5 c5] 31 rfl)
  obtain ⟨i0, hi, hz0, hz1, hz2⟩ := info_parts info_int
  have BP : Hid (Below w.heap.size w ((w.alloc (.cells #[.int .i64 st, .int .i64 it, .slice a2 n2 c2, .slice a3 n3 c3, .slice a4 n4 c4, .slice a5 n5 c5] 31)).alloc (.cells #[] 3))) := ((Below.refl _ _).alloc (Nat.le_refl _) _).alloc (by simp) _
  have VP : Hid (VarIs ((w.alloc (.cells #[.int .i64 st, .int .i64 it, .slice a2 n2 c2, .slice a3 n3 c3, .slice a4 n4 c4, .slice a5 n5 c5] 31)).alloc (.cells #[] 3)) w.heap.size #[.int .i64 st, .int .i64 it, .slice a2 n2 c2, .slice a3 n3 c3, .slice a4 n4 c4, .slice a5 n5 c5] 31) := V0.out.alloc _
  have OP : Hid (Owns ((w.alloc (.cells #[.int .i64 st, .int .i64 it, .slice a2 n2 c2, .slice a3 n3 c3, .slice a4 n4 c4, .slice a5 n5 c5] 31)).alloc (.cells #[] 3)) w.heap.size (.slice (some ⟨w.heap.size + 1, 0, none⟩) 0 0) 0 []) := by
    have := (owns_lit (w.alloc (.cells #[.int .i64 st, .int .i64 it, .slice a2 n2 c2, .slice a3 n3 c3, .slice a4 n4 c4, .slice a5 n5 c5] 31)) [] 0 rfl (by unfold maxLen; omega)).mono (base := w.heap.size) (by simp)
    simpa [Hid] using this
  go_enter Tryz.func67, Tryz.ntmps67
  go_wp2_with fail
  refine (CC.out _ BP.out).mono ?_
  rintro e w1 ⟨gc, cc, rfl, hoC, hb⟩
  have B1 : Hid (Below w.heap.size w w1) := BP.out.trans (hb.mono BP.out.size)
  have V1 := Lib.hid (VP.out.below hb)
  have O1 := Lib.hid (OP.out.below hb)
  have OC := Lib.hid (hoC.mono BP.out.size)
  have hs1 := B1.out.size
  clear hb hoC CC BP VP OP
  go_wp2_with fail
  go_loopw [7, 9] (fun out i wr => ∃ (k go co len : Nat) (O : List Int), k ≤ nc ∧ i = .int .i64 k ∧ out = .slice (some ⟨go, 0, none⟩) len co ∧ Hid (Owns wr w.heap.size (.slice (some ⟨go, 0, none⟩) len co) len O) ∧ Hid (O = (C.take k).foldl (fun o x => joinOf o (afterL steps x act)) []) ∧ Below w1.heap.size w1 wr) (fun _ i _ => nc - (intOf i).toNat)
  case atStart => exact ⟨0, w.heap.size + 1, 0, 0, [], Nat.zero_le _, rfl, rfl, O1.out, rfl, Below.refl _ _⟩
  case round =>
    obtain ⟨k, go, co, len, O, hk, rfl, rfl, HO, HT, hnx⟩ := hrel
    have hlen : len ≤ 1048576 := by
      have h1 := farN_len steps act (C.take k)
      rw [← HT.out, HO.out.length] at h1
      rw [E5.out] at h1; omega
    by_cases hlt : k < nc
    · have hkx : k < C.length := by rw [← HNC.out]; exact hlt
      obtain ⟨x, hx⟩ : ∃ x, x = C[k] := ⟨_, rfl⟩
      obtain ⟨T, hT⟩ : ∃ T, T = afterL steps x act := ⟨_, rfl⟩
      obtain ⟨m, hm⟩ : ∃ m, m = T.length := ⟨_, rfl⟩
      have hml : m ≤ 1048576 := by
        have h1 := afterN_len steps x act
        rw [← hT, ← hm, E5.out] at h1
        omega
      have HST : Hid (joinOf O T = (C.take (k + 1)).foldl (fun o x => joinOf o (afterL steps x act)) []) := by
        unfold Hid
        rw [List.take_succ_eq_append_getElem hkx, List.foldl_append, ← HT.out, ← hx, hT]
        rfl
      obtain ⟨O2, hO2⟩ : ∃ O2, O2 = joinOf O T := ⟨_, rfl⟩
      obtain ⟨len2, hlen2⟩ : ∃ n, n = O2.length := ⟨_, rfl⟩
      rw [← hO2] at HST
      have KS : Hid (∀ W, Below w1.heap.size w1 W → W.cell? ⟨w.heap.size, 0, none⟩ = some (.int .i64 st) ∧ W.cell? ⟨w.heap.size, 1, none⟩ = some (.int .i64 it) ∧ W.cell? ⟨w.heap.size, 2, none⟩ = some (.slice a2 n2 c2) ∧ W.cell? ⟨w.heap.size, 3, none⟩ = some (.slice a3 n3 c3) ∧ W.cell? ⟨w.heap.size, 4, none⟩ = some (.slice a4 n4 c4) ∧ W.cell? ⟨w.heap.size, 5, none⟩ = some (.slice a5 n5 c5) ∧ W.cell? ⟨gc, k, none⟩ = some (.int .i64 x)) := fun W hW => by
        have hv := V1.out.below hW
        refine ⟨hv.cell rfl, hv.cell rfl, hv.cell rfl, hv.cell rfl, hv.cell rfl, hv.cell rfl, ?_⟩
        rw [(OC.out.below hW).cells.2 k hlt, getD_eq C k hkx, hx]
      have CO : Hid (∀ W, Below w1.heap.size w1 W ∧ Owns W w.heap.size (.slice (some ⟨go, 0, none⟩) len co) len O ∧ W.cell? ⟨w.heap.size, 0, none⟩ = some (.int .i64 st) ∧ W.cell? ⟨w.heap.size, 1, none⟩ = some (.int .i64 it) ∧ W.cell? ⟨w.heap.size, 2, none⟩ = some (.slice a2 n2 c2) ∧ W.cell? ⟨w.heap.size, 3, none⟩ = some (.slice a3 n3 c3) ∧ W.cell? ⟨w.heap.size, 4, none⟩ = some (.slice a4 n4 c4) ∧ W.cell? ⟨w.heap.size, 5, none⟩ = some (.slice a5 n5 c5) ∧ W.cell? ⟨gc, k, none⟩ = some (.int .i64 x) → Calls Tryz.prog 45 #[.agg #[.int .i64 st, .int .i64 it, .slice a2 n2 c2, .slice a3 n3 c3, .slice a4 n4 c4, .slice a5 n5 c5], .int .i64 x, .int .i64 act] W fun e w' => ∃ g c, e = .returned (.slice (some ⟨g, 0, none⟩) m c) ∧ Row w' (some ⟨g, 0, none⟩) m T ∧ (Below w1.heap.size w1 w' ∧ Owns w' w.heap.size (.slice (some ⟨go, 0, none⟩) len co) len O ∧ w'.cell? ⟨w.heap.size, 0, none⟩ = some (.int .i64 st) ∧ w'.cell? ⟨w.heap.size, 1, none⟩ = some (.int .i64 it) ∧ w'.cell? ⟨w.heap.size, 2, none⟩ = some (.slice a2 n2 c2) ∧ w'.cell? ⟨w.heap.size, 3, none⟩ = some (.slice a3 n3 c3) ∧ w'.cell? ⟨w.heap.size, 4, none⟩ = some (.slice a4 n4 c4) ∧ w'.cell? ⟨w.heap.size, 5, none⟩ = some (.slice a5 n5 c5) ∧ w'.cell? ⟨gc, k, none⟩ = some (.int .i64 x))) := fun W hW => by
        rw [hm, hT]
        exact (after_any st it x act _ _ _ a5 n5 c5 steps W (R5.out.below (B1.out.trans (hW.1.mono hs1))) (by omega)).mono fun e w' ⟨g, c, he, ho, hb⟩ => ⟨g, c, he, ho.row.2.2.2, ⟨hW.1.trans (hb.mono hW.1.size), hW.2.1.below hb, KS.out _ (hW.1.trans (hb.mono hW.1.size))⟩⟩
      have CM : Hid (∀ W g c, Below w1.heap.size w1 W ∧ Owns W w.heap.size (.slice (some ⟨go, 0, none⟩) len co) len O ∧ W.cell? ⟨w.heap.size, 0, none⟩ = some (.int .i64 st) ∧ W.cell? ⟨w.heap.size, 1, none⟩ = some (.int .i64 it) ∧ W.cell? ⟨w.heap.size, 2, none⟩ = some (.slice a2 n2 c2) ∧ W.cell? ⟨w.heap.size, 3, none⟩ = some (.slice a3 n3 c3) ∧ W.cell? ⟨w.heap.size, 4, none⟩ = some (.slice a4 n4 c4) ∧ W.cell? ⟨w.heap.size, 5, none⟩ = some (.slice a5 n5 c5) ∧ W.cell? ⟨gc, k, none⟩ = some (.int .i64 x) → Row W (some ⟨g, 0, none⟩) m T → Calls Tryz.prog 43 #[.slice (some ⟨go, 0, none⟩) len co, .slice (some ⟨g, 0, none⟩) m c] W fun e w' => ∃ g' c', e = .returned (.slice (some ⟨g', 0, none⟩) len2 c') ∧ Owns w' w.heap.size (.slice (some ⟨g', 0, none⟩) len2 c') len2 O2 ∧ (Below w1.heap.size w1 w' ∧ Owns w' w.heap.size (.slice (some ⟨go, 0, none⟩) len co) len O ∧ w'.cell? ⟨w.heap.size, 0, none⟩ = some (.int .i64 st) ∧ w'.cell? ⟨w.heap.size, 1, none⟩ = some (.int .i64 it) ∧ w'.cell? ⟨w.heap.size, 2, none⟩ = some (.slice a2 n2 c2) ∧ w'.cell? ⟨w.heap.size, 3, none⟩ = some (.slice a3 n3 c3) ∧ w'.cell? ⟨w.heap.size, 4, none⟩ = some (.slice a4 n4 c4) ∧ w'.cell? ⟨w.heap.size, 5, none⟩ = some (.slice a5 n5 c5) ∧ w'.cell? ⟨gc, k, none⟩ = some (.int .i64 x))) := fun W g c hW hr => by
        rw [hlen2, hO2]
        exact (specSetJoin_any _ _ len co m c O T W hW.2.1.row.2.2.2 hr (by omega) (by omega)).mono fun e w' ⟨g', c', he, ho, hb⟩ => ⟨g', c', he, ho.mono (Nat.le_trans hs1 hW.1.size), ⟨hW.1.trans (hb.mono hW.1.size), hW.2.1.below hb, KS.out _ (hW.1.trans (hb.mono hW.1.size))⟩⟩
      have S0 : Below w1.heap.size w1 wr.drew ∧ Owns wr.drew w.heap.size (.slice (some ⟨go, 0, none⟩) len co) len O ∧ wr.drew.cell? ⟨w.heap.size, 0, none⟩ = some (.int .i64 st) ∧ wr.drew.cell? ⟨w.heap.size, 1, none⟩ = some (.int .i64 it) ∧ wr.drew.cell? ⟨w.heap.size, 2, none⟩ = some (.slice a2 n2 c2) ∧ wr.drew.cell? ⟨w.heap.size, 3, none⟩ = some (.slice a3 n3 c3) ∧ wr.drew.cell? ⟨w.heap.size, 4, none⟩ = some (.slice a4 n4 c4) ∧ wr.drew.cell? ⟨w.heap.size, 5, none⟩ = some (.slice a5 n5 c5) ∧ wr.drew.cell? ⟨gc, k, none⟩ = some (.int .i64 x) := ⟨hnx.drew, HO.out.below (Below.refl _ _).drew, KS.out _ hnx.drew⟩
      clear hx hT hm hO2 hlen2
      go_wp2_with fail
      go_region_held3 (fun w' => Below w1.heap.size w1 w' ∧ Owns w' w.heap.size (.slice (some ⟨go, 0, none⟩) len co) len O ∧ w'.cell? ⟨w.heap.size, 0, none⟩ = some (.int .i64 st) ∧ w'.cell? ⟨w.heap.size, 1, none⟩ = some (.int .i64 it) ∧ w'.cell? ⟨w.heap.size, 2, none⟩ = some (.slice a2 n2 c2) ∧ w'.cell? ⟨w.heap.size, 3, none⟩ = some (.slice a3 n3 c3) ∧ w'.cell? ⟨w.heap.size, 4, none⟩ = some (.slice a4 n4 c4) ∧ w'.cell? ⟨w.heap.size, 5, none⟩ = some (.slice a5 n5 c5) ∧ w'.cell? ⟨gc, k, none⟩ = some (.int .i64 x))
        (first | exact hS2 | exact hS1 | exact S0)
        ((first | (go_at_call 45; refine (CO.out _ S0).mono ?_; rintro e w' ⟨g, c, rfl, hR, hS1⟩) | (go_at_call 43; refine (CM.out _ _ _ hS1 hR).mono ?_; rintro e w' ⟨g', c', rfl, hO', hS2⟩)))
      have HO2 := Lib.hid hO'
      have HB2 := Lib.hid hS2.1
      clear S0 hS1 hS2 hR hO' CO CM KS
      go_wp2_with fail
      go_roundw
      case rel => exact ⟨k + 1, g', c', len2, O2, by omega, by go_num, rfl, HO2.out, HST.out, HB2.out⟩
      case measure => simp [intOf]; omega
    · have HE : Hid (O = L) := by
        have := HT.out
        rw [List.take_of_length_le (by rw [← HNC.out]; omega)] at this
        rw [HX.out]
        exact this
      go_wp2_with fail
      go_ret
      have e := HO.out.length
      rw [← HE.out]
      subst e
      exact ⟨_, _, rfl, HO.out, B1.out.trans (hnx.mono hs1)⟩

end Go.Proofs.YtdbgjgeglgipiaaGreat
