/-
  Contracts of the program's placeOf and Play. Conditions: lists of at most 2^20 elements.
-/
import Derived.Test.YtnglogkkkpegnaaPlayMath
import Derived.Test.YtnglogkkkpegnaaRowOf
import Derived.Test.YtnglogkkkpegnaaJoin2
import Derived.Test.YtnglogkkkpegnaaFast
namespace Go.Proofs.Ytnglogkkkpegnaa
open Go.RowKit

/-- Forty empty rows. -/
def zRows40 : Array Value := #[.slice none 0 0, .slice none 0 0, .slice none 0 0, .slice none 0 0, .slice none 0 0, .slice none 0 0, .slice none 0 0, .slice none 0 0, .slice none 0 0, .slice none 0 0, .slice none 0 0, .slice none 0 0, .slice none 0 0, .slice none 0 0, .slice none 0 0, .slice none 0 0, .slice none 0 0, .slice none 0 0, .slice none 0 0, .slice none 0 0, .slice none 0 0, .slice none 0 0, .slice none 0 0, .slice none 0 0, .slice none 0 0, .slice none 0 0, .slice none 0 0, .slice none 0 0, .slice none 0 0, .slice none 0 0, .slice none 0 0, .slice none 0 0, .slice none 0 0, .slice none 0 0, .slice none 0 0, .slice none 0 0, .slice none 0 0, .slice none 0 0, .slice none 0 0, .slice none 0 0]

/-- An automaton's box, and all that lay there. -/
def Box1 (w W : World) (A : Array Value) (t : TypeId) : Prop := Below w.heap.size w W ∧ VarIs W w.heap.size A t
theorem Box1.below {w W W' : World} {A : Array Value} {t : TypeId} (h : Box1 w W A t) (hb : Below W.heap.size W W') : Box1 w W' A t := ⟨h.1.trans (hb.mono h.1.size), h.2.below hb⟩
theorem Box1.drew {w W : World} {A : Array Value} {t : TypeId} (h : Box1 w W A t) : Box1 w W.drew A t := ⟨h.1.drew, h.2⟩
theorem Box1.start (w : World) (A : Array Value) (t : TypeId) : Box1 w (w.alloc (.cells A t)) A t := ⟨(Below.refl _ _).alloc (Nat.le_refl _) _, VarIs.new w A t rfl⟩

set_option maxRecDepth 20000 in
set_option maxHeartbeats 1600000 in
theorem placeOf_any (p : Int) (n : Nat) (w : World) (h : 0 < n) (hn : n ≤ 1048576) :
    Calls Try.prog 39 #[.int .i64 p, .int .i64 (n : Int)] w fun e w' => e = .returned (.int .i64 ((pickOf p n : Nat) : Int)) ∧ w = w' := by
  have hne : ¬ (n : Int) = 0 := by omega
  obtain ⟨tm, htm⟩ : ∃ t, t = p.tmod (n : Int) := ⟨_, rfl⟩
  have htm1 : p.tmod (n : Int) = tm := htm.symm
  have hl := tmod_low p h
  rw [htm1] at hl
  obtain ⟨m, hm⟩ : ∃ m, m = pickOf p n := ⟨_, rfl⟩
  rw [← hm]
  have hmi := pickOf_int p h
  rw [← hm] at hmi
  have h2 : (tm + (n : Int)).tmod (n : Int) = (m : Int) := by
    rw [hmi, Int.tmod_eq_emod_of_nonneg (by omega), Int.add_emod_right, htm, Int.tmod_eq_emod]
    split
    · simp
    · rw [Int.natAbs_natCast, Int.sub_emod_right]
      exact Int.emod_emod_of_dvd _ (Int.dvd_refl _)
  clear hmi hm htm
  go_enter Try.func39, Try.ntmps39
  go_wp2_with fail
  go_ret
  exact ⟨rfl, rfl⟩

set_option maxRecDepth 20000 in
set_option maxHeartbeats 6400000 in
theorem implPlay_any (a : IaD) (v : Value) (ta : Option Addr) (tn tc : Nat) (tr : List Int) (w : World) (h : IaRow w a v) (f2 : a.ins.length ≤ 1048576) (f3 : a.outs.length ≤ 1048576) (f4 : a.hids.length ≤ 1048576) (f5 : a.steps.length ≤ 1048576) (rt : Row w ta tn tr) (htn : tn ≤ 1048576) :
    Calls Try.prog 8 #[v, .slice ta tn tc] w fun e w' => ∃ v', e = .returned v' ∧ OwnsS 34 w' w.heap.size v' (playOf a tr).length (playOf a tr) ∧ Below w.heap.size w w' := by
  have CO : Hid (∀ W, Below w.heap.size w W → Calls Try.prog 37 #[v] W fun e w' => e = .returned (.bool (iaOkB a)) ∧ Below W.heap.size W w') := fun W hW => implIaOk_any a v W (h.below hW) f2 f3 f4 f5
  obtain ⟨q, hq⟩ : ∃ q, q = iaOkB a := ⟨_, rfl⟩
  obtain ⟨L, hL⟩ : ∃ L, L = playOf a tr := ⟨_, rfl⟩
  rw [← hL]
  unfold playOf at hL
  rw [← hq] at CO hL
  have HL := Lib.hid hL
  have HQ := Lib.hid hq
  have RT := Lib.hid rt
  clear hL hq rt
  obtain ⟨a2, n2, c2, a3, n3, c3, a4, n4, c4, a5, n5, c5, rfl, r2, r3, r4, r5⟩ := h
  obtain ⟨st, it, ins, outs, hids, steps⟩ := a
  simp only at r2 r3 r4 r5 f2 f3 f4 f5 HL
  have R5 := Lib.hid r5
  clear r2 r3 r4 r5 f2 f3 f4 f5
  have S0 := Lib.hid (Box1.start w #[.int .i64 st, .int .i64 it, .slice a2 n2 c2, .slice a3 n3 c3, .slice a4 n4 c4, .slice a5 n5 c5] 27)
  obtain ⟨i0, hi0, hz0, hz1, hz2⟩ := info_parts (show (Try.prog.info? 34).map (fun i => (i.zero, i.size, i.bytes)) = some (some (.agg #[.int .i64 0, .int .i64 0, .int .i64 0]), 3, 24) by kernel_rfl)
  go_enter Try.func8, Try.ntmps8
  go_wp2_with fail
  refine (CO.out _ S0.out.1).mono ?_
  rintro e w1 ⟨rfl, hb⟩
  have S1 := Lib.hid (S0.out.below hb)
  clear hb S0 CO
  cases q with
  | false =>
    go_wp2_with fail
    go_ret
    obtain rfl : L = [] := HL.out
    exact ⟨_, rfl, World.ownsRow_nil _ _ _ _, S1.out.1⟩
  | true =>
    have HLL : Hid (L = playL steps tr it) := HL.out
    have hst := iaOk_states HQ.out.symm
    have hin := iaOk_init HQ.out.symm
    have HEND := Lib.hid (iaOk_ends HQ.out.symm)
    have HLOW := Lib.hid (iaOk_low HQ.out.symm)
    have HLEN := Lib.hid (iaOk_len HQ.out.symm)
    simp only at hst hin HEND HLOW HLEN
    have CR : Hid (∀ W, Below w.heap.size w W → Calls Try.prog 38 #[.agg #[.int .i64 st, .int .i64 it, .slice a2 n2 c2, .slice a3 n3 c3, .slice a4 n4 c4, .slice a5 n5 c5]] W fun e w' => ∃ C, e = .returned (.agg C) ∧ RowsAt w' w.heap.size C steps ∧ Below W.heap.size W w') := fun W hW =>
      (rowsOf_any st it _ _ _ a5 n5 c5 steps W (R5.out.below hW) (by have h1 := R5.out.1; have h2 := HLEN.out; omega) HLOW.out).mono fun e w' h => by
        obtain ⟨C, he, hC, hb⟩ := h
        exact ⟨C, he, hC.mono hW.size, hb⟩
    have HLN : Hid (steps.length ≤ 1048576) := by have := HLEN.out; unfold Hid; omega
    clear HL HLOW HLEN R5 HQ
    go_wp2_with fail
    have SD := S1.out.drew
    clear S1
    refine wp_region_tf (S := fun w' => Box1 w w' #[.int .i64 st, .int .i64 it, .slice a2 n2 c2, .slice a3 n3 c3, .slice a4 n4 c4, .slice a5 n5 c5] 27) 7 (by kernel_rfl) (by kernel_rfl) (by kernel_rfl) SD (fun hHeld => ?_)
    refine fast_yields 0 15 (.agg #[.int .i64 st, .int .i64 it, .slice a2 n2 c2, .slice a3 n3 c3, .slice a4 n4 c4, .slice a5 n5 c5]) (fuel := 6) rfl rfl (by kernel_rfl) (by kernel_rfl) (by kernel_rfl) (fun _ _ _ h => h) (yieldsIf_load_mid (by rfl) _ _ rfl (w.heap.size) 0 rfl #[.int .i64 st, .int .i64 it, .slice a2 n2 c2, .slice a3 n3 c3, .slice a4 n4 c4, .slice a5 n5 c5].toList _ (fun w hw => hw.2.range) Try.underlying27 rfl (by kernel_rfl)) hHeld (tf 1 7) (by kernel_rfl) (fun K hK => ?_)
    go_big_move
    refine hK.out _ ?_
    clear hK K
    refine fast1 2 17 (.pointer (some ⟨w.heap.size, 1, none⟩)) (.tmp 2) (.pointer (some ⟨w.heap.size, 0, none⟩)) (fuel := 5) rfl rfl (by kernel_rfl) (by kernel_rfl) (by kernel_rfl) (fun _ _ _ h => h) (by kernel_rfl) (by kernel_rfl) (fun ρ hr0 _ w hSw => by simp [go_sem, hr0]) hHeld (tf 5 7) (by kernel_rfl) (fun K hK => ?_)
    go_big_move
    refine hK.out _ ?_
    clear hK K
    refine fast1 3 18 (.int .i64 it) (.tmp 17) (.pointer (some ⟨w.heap.size, 1, none⟩)) (fuel := 4) rfl rfl (by kernel_rfl) (by kernel_rfl) (by kernel_rfl) (fun _ _ _ h => h) (by kernel_rfl) (by kernel_rfl) (fun ρ hr0 _ w hSw => by have m := hSw.2.cell (j := 1) (u := .int .i64 it) rfl; simp [go_sem, hr0, m]) hHeld (tf 13 7) (by kernel_rfl) (fun K hK => ?_)
    go_big_move
    refine hK.out _ ?_
    clear hK K
    refine join_puts (ι := Nat × Array Value) (fun i => [(15, .agg #[.int .i64 st, .int .i64 it, .slice a2 n2 c2, .slice a3 n3 c3, .slice a4 n4 c4, .slice a5 n5 c5]), (16, .agg i.2), (17, .pointer (some ⟨w.heap.size, 1, none⟩)), (18, .int .i64 it), (5, .pointer (some ⟨i.1, 0, none⟩)), (6, .int .i64 it)]) (fun i we => Box1 w we #[.int .i64 st, .int .i64 it, .slice a2 n2 c2, .slice a3 n3 c3, .slice a4 n4 c4, .slice a5 n5 c5] 27 ∧ i.1 < we.heap.size ∧ we.rangeAt i.1 0 i.2.toList ∧ RowsAt we w.heap.size i.2 steps) ?_ (fun REST => ?_)
    · rintro ⟨b5, C⟩ we ⟨hS, hlt, hrg, hrw⟩
      simp only at hS hlt hrg hrw
      simp only [putsAll, Act.put, List.setIfInBounds_toArray, List.set_cons_zero, List.set_cons_succ]
      have SE := Lib.hid hS
      have RG := Lib.hid hrg
      have RW := Lib.hid hrw
      have HLT := Lib.hid hlt
      clear hS hrg hrw hlt hHeld SD CR
      go_wp2_with fail
      go_loopw [6, 7, 21] (fun sv ov iv wr => ∃ (k len s : Nat) (v0 : Value) (T : List St), k ≤ tn ∧ v0 = ov ∧ sv = .int .i64 (s : Int) ∧ s < 40 ∧ iv = .int .i64 (k : Int) ∧ Hid (OwnsS 34 wr we.heap.size v0 len T) ∧ len ≤ k ∧ Hid (L = T ++ playL steps (tr.drop k) (s : Int)) ∧ Hid (Below we.heap.size we wr)) (fun _ _ iv _ => tn - (intOf iv).toNat)
      case atStart =>
        obtain ⟨s, rfl⟩ : ∃ s : Nat, it = (s : Int) := ⟨it.toNat, by omega⟩
        exact ⟨0, 0, s, _, [], Nat.zero_le _, rfl, rfl, by omega, rfl, World.ownsRow_nil _ _ _ _, Nat.le_refl _, by unfold Hid; rw [HLL.out]; simp, Below.refl _ _⟩
      case round =>
        obtain ⟨k, len, s, v0, T, hk, rfl, rfl, hs40, rfl, HO, hlen, HT, HB⟩ := hrel
        have hsz := HB.out.size
        have hsw := SE.out.1.size
        by_cases hlt : k < tn
        · obtain ⟨bt, ot, rfl, hbt, hct⟩ := RT.out.2 (by omega)
          have hkx : k < tr.length := by rw [RT.out.1]; exact hlt
          obtain ⟨p, hp⟩ : ∃ p, p = tr[k] := ⟨_, rfl⟩
          have HP : Hid (tr[k]? = some p) := by unfold Hid; rw [List.getElem?_eq_getElem hkx, hp]
          have ct0 := hct k hlt
          rw [getD_eq tr k hkx, ← hp] at ct0
          have BW := Lib.hid (SE.out.1.trans (HB.out.mono hsw))
          have ct1 := (BW.out.cell (p := ⟨bt, ot + k, none⟩) hbt).trans ct0
          obtain ⟨ra, rc, hCs, hor⟩ := RW.out.2.1 s hs40
          obtain ⟨rn, hrn⟩ : ∃ n, n = (rowL steps (s : Int)).length := ⟨_, rfl⟩
          rw [← hrn] at hCs hor
          have cr0 : wr.cell? ⟨b5, s, none⟩ = some (.slice ra rn rc) := by
            have h1 := RG.out s (.slice ra rn rc) (by simpa using hCs)
            rw [Nat.zero_add] at h1
            exact (HB.out.cell (p := ⟨b5, s, none⟩) HLT.out).trans h1
          have hs40' : (s : Int) < 40 := by omega
          have HRN := Lib.hid hrn
          have HOR := Lib.hid (hor.below HB.out)
          clear hct hp ct0 hkx hCs hor hrn
          by_cases hzero : rn = 0
          · have hd : ((rn : Int) == 0) = true := by simp [hzero]
            have HE : Hid (L = T) := by
              unfold Hid
              rw [HT.out, playL_stop (by rw [← HRN.out]; exact hzero), List.append_nil]
            clear hzero
            go_wp2_with fail
            go_ret
            have e := HO.out.length
            rw [HE.out]
            subst e
            exact ⟨_, rfl, HO.out.mono hsw, BW.out⟩
          · have hd : ((rn : Int) == 0) = false := by simp; omega
            have hpos : 0 < rn := by omega
            obtain ⟨⟨xf, xa, xt⟩, hx⟩ : ∃ x, (rowL steps (s : Int))[pickOf p rn]? = some x := ⟨_, List.getElem?_eq_getElem (by rw [← HRN.out]; exact pickOf_lt p hpos)⟩
            have hxm := HEND.out _ (rowL_mem hx)
            obtain ⟨t, rfl⟩ : ∃ t : Nat, xt = (t : Int) := ⟨xt.toNat, by simp only at hxm; omega⟩
            have ht40 : t < 40 := by simp only at hxm; omega
            have HGO : Hid (L = (T ++ [(xf, xa, (t : Int))]) ++ playL steps (tr.drop (k + 1)) (t : Int)) := by
              unfold Hid
              rw [HT.out, playL_go HP.out (by rw [← HRN.out]; exact hx), List.append_assoc]
              rfl
            have hrn400 : rn ≤ 1048576 := by
              have h1 := HOR.out.row.2.1
              have h2 := rowL_len steps (s : Int)
              rw [← HRN.out] at h2
              exact Nat.le_trans h2 HLN.out
            obtain ⟨m, hm⟩ : ∃ m, m = pickOf p rn := ⟨_, rfl⟩
            have CPL : Hid (∀ W, Calls Try.prog 39 #[.int .i64 p, .int .i64 (rn : Int)] W fun e w' => e = .returned (.int .i64 (m : Int)) ∧ W = w') := fun W => by
              rw [hm]
              exact placeOf_any p rn W hpos hrn400
            have hmr : m < rn := by rw [hm]; exact pickOf_lt p hpos
            rw [← hm] at hx
            obtain ⟨g, rfl⟩ : ∃ g, ra = some ⟨g, 0, none⟩ := by
              rcases HOR.out.2 with ⟨e, _⟩ | ⟨g, cap, cur, e, _⟩
              · simp at e
                omega
              · simp only [Value.slice.injEq] at e
                exact ⟨g, e.1⟩
            obtain ⟨l0, l1, l2⟩ := HOR.out.cells.2 m (xf, xa, (t : Int)) hx
            simp only at l0 l1 l2
            have i1 : (0 : Int) ≤ (m : Int) := by omega
            have i2 : (m : Int) < (rn : Int) := by omega
            clear hm hx hxm HP hzero
            go_wp2_with fail
            refine (CPL.out _).mono ?_
            rintro e wq ⟨rfl, rfl⟩
            have T1 := (HO.out.alloc (.cells #[.int .i64 xf, .int .i64 xa, .int .i64 (t : Int)] 34)).alloc (.cells #[.int .i64 xf, .int .i64 xa, .int .i64 (t : Int)] 34)
            have BT : Hid (Below we.heap.size we ((wr.alloc (.cells #[.int .i64 xf, .int .i64 xa, .int .i64 (t : Int)] 34)).alloc (.cells #[.int .i64 xf, .int .i64 xa, .int .i64 (t : Int)] 34))) := (HB.out.alloc hsz _).alloc (by simp; omega) _
            have SP : SrcS ((wr.alloc (.cells #[.int .i64 xf, .int .i64 xa, .int .i64 (t : Int)] 34)).alloc (.cells #[.int .i64 xf, .int .i64 xa, .int .i64 (t : Int)] 34)) (some ⟨wr.heap.size + 1, 0, none⟩) 1 1 [(xf, xa, (t : Int))] := by
              have := srcS_box (wr.alloc (.cells #[.int .i64 xf, .int .i64 xa, .int .i64 (t : Int)] 34)) xf xa (t : Int)
              rw [show (wr.alloc (.cells #[.int .i64 xf, .int .i64 xa, .int .i64 (t : Int)] 34)).heap.size = wr.heap.size + 1 by simp] at this
              exact this
            have X1 : Hid (VarIs ((wr.alloc (.cells #[.int .i64 xf, .int .i64 xa, .int .i64 (t : Int)] 34)).alloc (.cells #[.int .i64 xf, .int .i64 xa, .int .i64 (t : Int)] 34)) wr.heap.size #[.int .i64 xf, .int .i64 xa, .int .i64 (t : Int)] 34) := (VarIs.new wr #[.int .i64 xf, .int .i64 xa, .int .i64 (t : Int)] 34 rfl).alloc _
            have HNE : Hid (v0.ownBlock ≠ some wr.heap.size) := fun e => by have := (HO.out.lt _ e).2; omega
            go_wp2_with (at_builtin; refine wpList_appS rfl (.tmp 38) (.tmp 40) 25 34 rfl we.heap.size i0 Try.underlying25 hi0 hz0 hz1 hz2 _ len _ rfl T1 _ 1 _ [(xf, xa, (t : Int))] rfl SP (by omega) (by simp; omega) ?_)
            rintro vz w4 ⟨hown, hgrow, _⟩
            have B4 : Hid (Below we.heap.size we w4) := BT.out.grown hgrow (by simp; omega) (fun q hq => (T1.lt q hq).1)
            have x4 := (VarIs.grown X1.out hgrow (fun e => HNE.out e.symm)).cell (j := 2) (u := .int .i64 (t : Int)) rfl
            have O4 := Lib.hid hown
            clear hown hgrow T1 SP BT X1 HNE l0 l1 l2 ct1 cr0
            go_wp2_with fail
            go_roundw
            case rel => exact ⟨k + 1, len + 1, t, vz, _, by omega, rfl, rfl, ht40, by go_num, O4.out, by omega, HGO.out, B4.out⟩
            case measure => simp [intOf]; omega
        · have HE : Hid (L = T) := by
            unfold Hid
            rw [HT.out, playL_end (by rw [RT.out.1]; omega), List.append_nil]
          go_wp2_with fail
          go_ret
          have e := HO.out.length
          rw [HE.out]
          subst e
          exact ⟨_, rfl, HO.out.mono hsw, SE.out.1.trans (HB.out.mono hsw)⟩
    · refine wpAnyH_ready (rs := [1, 4]) (fuel := 3) (by kernel_rfl) (by simp) ?_
      refine ready_want rfl (by kernel_rfl) (tf 15 7) (by kernel_rfl) (fun K hK => ?_) ?_
      · simp only [List.getElem_toArray, List.getElem_cons_succ, List.getElem_cons_zero]
        go_big_op
        refine (CR.out _ hHeld.1).mono ?_
        rintro e wp1 ⟨Cx1, rfl, hC, hb⟩
        have rC1 : Hid (RowsAt wp1 w.heap.size Cx1 steps) := hC
        have hS1 := hHeld.below hb
        clear hb hC
        refine hK.out _ _ hS1 (fun hHeld => ?_)
        clear hK K hS1
        refine wpAnyH_ready (rs := [4]) (fuel := 2) (by kernel_rfl) (by simp) ?_
        refine ready_want rfl (by kernel_rfl) (tf 31 7) (by kernel_rfl) (fun K hK => ?_) AllReadyH.nil
        have rC2 : Hid (RowsAt (wp1.alloc (.cells zRows40 63)) w.heap.size Cx1 steps) := rC1.out.below ((Below.refl _ wp1).alloc (Nat.le_refl _) (.cells zRows40 63))
        have BL : Hid (w.heap.size < wp1.heap.size) := by have h1 := hHeld.2.lt; (try simp at h1); unfold Hid; omega
        have vn2 : Hid (VarIs (wp1.alloc (.cells zRows40 63)) (wp1.heap.size) zRows40 63) := VarIs.new wp1 zRows40 63 (by simp)
        simp only [List.getElem_toArray, List.getElem_cons_succ, List.getElem_cons_zero]
        go_big_op
        refine hK.out _ _ (hHeld.below ((Below.refl _ wp1).alloc (Nat.le_refl _) (.cells zRows40 63))) (fun hHeld => ?_)
        clear hK K
        have HLR : Hid (Cx1.toList.length = 40) := by have := rC2.out.1; simpa [Hid] using this
        have t5 : Hid ((wp1.alloc (.cells zRows40 63)).there (wp1.heap.size) 0 Cx1.toList.toArray.size) := vn2.out.there (by rw [List.size_toArray, HLR.out]; rfl)
        have gZ := Lib.hid (grown_setCells (wp1.heap.size) Cx1.toList 0 (wp1.alloc (.cells zRows40 63)))
        have on5 : Hid (Cx1.toList.toArray.all (·.oneCell') = true) := all_oneCell_toArray (fun u hu => rC2.out.one u (by simpa using hu))
        have rg5 : Hid (((wp1.alloc (.cells zRows40 63)).setCells (wp1.heap.size) 0 Cx1.toList).rangeAt (wp1.heap.size) 0 Cx1.toList) := World.rangeAt_setCells_same (wp1.alloc (.cells zRows40 63)) (wp1.heap.size) 0 Cx1.toList (by simpa using t5.out)
        have hSZ : Hid (Box1 w ((wp1.alloc (.cells zRows40 63)).setCells (wp1.heap.size) 0 Cx1.toList) #[.int .i64 st, .int .i64 it, .slice a2 n2 c2, .slice a3 n3 c3, .slice a4 n4 c4, .slice a5 n5 c5] 27) := ⟨hHeld.1.grown gZ.out hHeld.1.size (fun q hq => by have h1 := Option.some.inj hq; have h2 := BL.out; omega), hHeld.2.grown gZ.out (fun e => by have h1 := Option.some.inj e; have h2 := BL.out; omega)⟩
        have rZ := Lib.hid (rC2.out.keepVar vn2.out (by decide) gZ.out)
        have ltZ : (wp1.heap.size) < ((wp1.alloc (.cells zRows40 63)).setCells (wp1.heap.size) 0 Cx1.toList).heap.size := Nat.lt_of_lt_of_le vn2.out.lt gZ.out.size
        refine wpAnyH_ready (rs := [5]) (fuel := 1) (by kernel_rfl) (by simp) ?_
        refine ready_want rfl (by kernel_rfl) (tf 63 7) (by kernel_rfl) (fun K hK => ?_) AllReadyH.nil
        refine wp_store_mid _ _ _ rfl (wp1.heap.size) 0 Cx1.toList.toArray rfl rfl t5.out (by rw [List.size_toArray, HLR.out]; kernel_rfl) on5.out ?_
        refine hK.out _ _ hSZ.out (fun hHeld => ?_)
        clear hK K
        simp only [List.getElem_toArray, List.getElem_cons_succ, List.getElem_cons_zero, Act.put]
        refine fast_move 6 6 (.int .i64 it) (.tmp 18) (fuel := 0) rfl rfl (by kernel_rfl) (by kernel_rfl) (by kernel_rfl) (fun _ _ _ h => h) (by kernel_rfl) (by kernel_rfl) (by first | exact Or.inl rfl | exact Or.inr rfl) hHeld (tf 127 7) (by kernel_rfl) (fun K hK => ?_)
        go_big_move
        refine hK.out _ ?_
        clear hK K
        refine wpAnyH_done (by kernel_rfl) ?_ _
        exact REST.out ((wp1.heap.size), Cx1) _ _ (by kernel_rfl) ⟨hSZ.out, ltZ, rg5.out, rZ.out⟩
      refine ready_want rfl (by kernel_rfl) (tf 29 7) (by kernel_rfl) (fun K hK => ?_) AllReadyH.nil
      have BL : Hid (w.heap.size < w1.heap.size) := by have h1 := hHeld.2.lt; (try simp at h1); unfold Hid; omega
      have vn3 : Hid (VarIs (w1.drew.alloc (.cells zRows40 63)) (w1.heap.size) zRows40 63) := VarIs.new w1.drew zRows40 63 (by simp)
      simp only [List.getElem_toArray, List.getElem_cons_succ, List.getElem_cons_zero]
      go_big_op
      refine hK.out _ _ (hHeld.below ((Below.refl _ w1.drew).alloc (Nat.le_refl _) (.cells zRows40 63))) (fun hHeld => ?_)
      clear hK K
      refine wpAnyH_ready (rs := [1]) (fuel := 2) (by kernel_rfl) (by simp) ?_
      refine ready_want rfl (by kernel_rfl) (tf 31 7) (by kernel_rfl) (fun K hK => ?_) AllReadyH.nil
      simp only [List.getElem_toArray, List.getElem_cons_succ, List.getElem_cons_zero]
      go_big_op
      refine (CR.out _ hHeld.1).mono ?_
      rintro e wp4 ⟨Cx4, rfl, hC, hb⟩
      have v54 : Hid (VarIs wp4 (w1.heap.size) zRows40 63) := vn3.out.below (hb)
      have rC4 : Hid (RowsAt wp4 w.heap.size Cx4 steps) := hC
      have hS4 := hHeld.below hb
      clear hb hC
      refine hK.out _ _ hS4 (fun hHeld => ?_)
      clear hK K hS4
      have HLR : Hid (Cx4.toList.length = 40) := by have := rC4.out.1; simpa [Hid] using this
      have t5 : Hid (wp4.there (w1.heap.size) 0 Cx4.toList.toArray.size) := v54.out.there (by rw [List.size_toArray, HLR.out]; rfl)
      have gZ := Lib.hid (grown_setCells (w1.heap.size) Cx4.toList 0 wp4)
      have on5 : Hid (Cx4.toList.toArray.all (·.oneCell') = true) := all_oneCell_toArray (fun u hu => rC4.out.one u (by simpa using hu))
      have rg5 : Hid ((wp4.setCells (w1.heap.size) 0 Cx4.toList).rangeAt (w1.heap.size) 0 Cx4.toList) := World.rangeAt_setCells_same wp4 (w1.heap.size) 0 Cx4.toList (by simpa using t5.out)
      have hSZ : Hid (Box1 w (wp4.setCells (w1.heap.size) 0 Cx4.toList) #[.int .i64 st, .int .i64 it, .slice a2 n2 c2, .slice a3 n3 c3, .slice a4 n4 c4, .slice a5 n5 c5] 27) := ⟨hHeld.1.grown gZ.out hHeld.1.size (fun q hq => by have h1 := Option.some.inj hq; have h2 := BL.out; omega), hHeld.2.grown gZ.out (fun e => by have h1 := Option.some.inj e; have h2 := BL.out; omega)⟩
      have rZ := Lib.hid (rC4.out.keepVar v54.out (by decide) gZ.out)
      have ltZ : (w1.heap.size) < (wp4.setCells (w1.heap.size) 0 Cx4.toList).heap.size := Nat.lt_of_lt_of_le v54.out.lt gZ.out.size
      refine wpAnyH_ready (rs := [5]) (fuel := 1) (by kernel_rfl) (by simp) ?_
      refine ready_want rfl (by kernel_rfl) (tf 63 7) (by kernel_rfl) (fun K hK => ?_) AllReadyH.nil
      refine wp_store_mid _ _ _ rfl (w1.heap.size) 0 Cx4.toList.toArray rfl rfl t5.out (by rw [List.size_toArray, HLR.out]; kernel_rfl) on5.out ?_
      refine hK.out _ _ hSZ.out (fun hHeld => ?_)
      clear hK K
      simp only [List.getElem_toArray, List.getElem_cons_succ, List.getElem_cons_zero, Act.put]
      refine fast_move 6 6 (.int .i64 it) (.tmp 18) (fuel := 0) rfl rfl (by kernel_rfl) (by kernel_rfl) (by kernel_rfl) (fun _ _ _ h => h) (by kernel_rfl) (by kernel_rfl) (by first | exact Or.inl rfl | exact Or.inr rfl) hHeld (tf 127 7) (by kernel_rfl) (fun K hK => ?_)
      go_big_move
      refine hK.out _ ?_
      clear hK K
      refine wpAnyH_done (by kernel_rfl) ?_ _
      exact REST.out ((w1.heap.size), Cx4) _ _ (by kernel_rfl) ⟨hSZ.out, ltZ, rg5.out, rZ.out⟩

end Go.Proofs.Ytnglogkkkpegnaa
