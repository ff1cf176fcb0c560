/-
  The contract of the model's Play. Conditions: lists of at most 2^20 elements.
-/
import Derived.Test.YtnglogkkkpegnaaPlayMath
import Derived.Test.YtnglogkkkpegnaaSpecIaOk
import Derived.Test.YtnglogkkkpegnaaIaLaw
namespace Go.Proofs.Ytnglogkkkpegnaa
open Go.RowKit

set_option maxRecDepth 20000 in
set_option maxHeartbeats 6400000 in
theorem specPlay_any (a : IaD) (v : Value) (ta : Option Addr) (tn tc : Nat) (tr : List Int) (w : World) (h : IaRow w a v) (f2 : a.ins.length ≤ 1048576) (f3 : a.outs.length ≤ 1048576) (f4 : a.hids.length ≤ 1048576) (f5 : a.steps.length ≤ 1048576) (rt : Row w ta tn tr) (htn : tn ≤ 1048576) :
    Calls Try.prog 10 #[v, .slice ta tn tc] w fun e w' => ∃ v', e = .returned v' ∧ OwnsS 34 w' w.heap.size v' (playOf a tr).length (playOf a tr) ∧ Below w.heap.size w w' := by
  have CO : Hid (∀ W, Below w.heap.size w W → Calls Try.prog 11 #[v] W fun e w' => e = .returned (.bool (iaOkB a)) ∧ Below W.heap.size W w') := fun W hW => specIaOk_any a v W (h.below hW) f2 f3 f4 f5
  obtain ⟨q, hq⟩ : ∃ q, q = iaOkB a := ⟨_, rfl⟩
  obtain ⟨L, hL⟩ : ∃ L, L = playOf a tr := ⟨_, rfl⟩
  rw [← hL]
  unfold playOf at hL
  rw [← hq] at CO hL
  have HL := Lib.hid hL
  have HQ := Lib.hid hq
  have RT := Lib.hid rt
  clear hL hq rt
  obtain ⟨a2, n2, c2, a3, n3, c3, a4, n4, c4, a5, n5, c5, rfl, r2, r3, r4, r5⟩ := h
  obtain ⟨st, it, ins, outs, hids, steps⟩ := a
  simp only at r2 r3 r4 r5 f2 f3 f4 f5 HL
  have hn5 : n5 ≤ 1048576 := by have := r5.1; omega
  have R5 := Lib.hid r5
  clear r2 r3 r4 r5 f2 f3 f4 f5
  obtain ⟨wz, hwz⟩ : ∃ x, x = w.alloc (.cells #[.int .i64 st, .int .i64 it, .slice a2 n2 c2, .slice a3 n3 c3, .slice a4 n4 c4, .slice a5 n5 c5] 27) := ⟨_, rfl⟩
  have HSZ : Hid (wz.heap.size = w.heap.size + 1) := by unfold Hid; rw [hwz]; simp
  have RB0 : Hid (Below (w.heap.size + 1) wz ((w.alloc (.cells #[.int .i64 st, .int .i64 it, .slice a2 n2 c2, .slice a3 n3 c3, .slice a4 n4 c4, .slice a5 n5 c5] 27)).alloc (.cells #[] 34))) := by
    unfold Hid
    rw [← HSZ.out, ← hwz]
    exact (Below.refl _ _).alloc (Nat.le_refl _) _
  have HBX : Hid (∀ W, Below (w.heap.size + 1) wz W → Below w.heap.size w W ∧ VarIs W w.heap.size #[.int .i64 st, .int .i64 it, .slice a2 n2 c2, .slice a3 n3 c3, .slice a4 n4 c4, .slice a5 n5 c5] 27) := fun W hW => by
    rw [← HSZ.out] at hW
    have h0 : Below w.heap.size w wz := by rw [hwz]; exact (Below.refl _ _).alloc (Nat.le_refl _) _
    have h1 : VarIs wz w.heap.size #[.int .i64 st, .int .i64 it, .slice a2 n2 c2, .slice a3 n3 c3, .slice a4 n4 c4, .slice a5 n5 c5] 27 := by rw [hwz]; exact VarIs.new w _ _ rfl
    exact ⟨h0.trans (hW.mono h0.size), h1.below hW⟩
  have O0 : Hid (OwnsS 34 ((w.alloc (.cells #[.int .i64 st, .int .i64 it, .slice a2 n2 c2, .slice a3 n3 c3, .slice a4 n4 c4, .slice a5 n5 c5] 27)).alloc (.cells #[] 34)) (w.heap.size + 1) (.slice (some ⟨w.heap.size + 1, 0, none⟩) 0 0) 0 []) := by
    have h0 := ownsS_none (w.alloc (.cells #[.int .i64 st, .int .i64 it, .slice a2 n2 c2, .slice a3 n3 c3, .slice a4 n4 c4, .slice a5 n5 c5] 27))
    have e : (w.alloc (.cells #[.int .i64 st, .int .i64 it, .slice a2 n2 c2, .slice a3 n3 c3, .slice a4 n4 c4, .slice a5 n5 c5] 27)).heap.size = w.heap.size + 1 := by simp
    rw [e] at h0
    exact h0
  clear hwz
  obtain ⟨i0, hi0, hz0, hz1, hz2⟩ := info_parts (show (Try.prog.info? 34).map (fun i => (i.zero, i.size, i.bytes)) = some (some (.agg #[.int .i64 0, .int .i64 0, .int .i64 0]), 3, 24) by kernel_rfl)
  go_enter Try.func10, Try.ntmps10
  go_wp2_with fail
  refine (CO.out _ (HBX.out _ RB0.out).1).mono ?_
  rintro e w1 ⟨rfl, hb⟩
  have HS0 : w.heap.size + 1 ≤ ((w.alloc (.cells #[.int .i64 st, .int .i64 it, .slice a2 n2 c2, .slice a3 n3 c3, .slice a4 n4 c4, .slice a5 n5 c5] 27)).alloc (.cells #[] 34)).heap.size := by simp
  have B1 := Lib.hid (RB0.out.trans (hb.mono HS0))
  have O1 := Lib.hid (O0.out.below hb)
  clear hb RB0 O0 CO HS0
  cases q with
  | false =>
    go_wp2_with fail
    go_ret
    obtain rfl : L = [] := HL.out
    exact ⟨_, rfl, O1.out.mono (by omega), (HBX.out _ B1.out).1⟩
  | true =>
    have HLL : Hid (L = playL steps tr it) := HL.out
    have cc1 := (HBX.out _ B1.out).2.cell (j := 1) (u := .int .i64 it) rfl
    clear HL
    go_wp2_with fail
    clear cc1
    go_loopw [5, 6, 7] (fun ov sv iv wr => ∃ (k len : Nat) (v0 : Value) (T : List St) (s : Int), k ≤ tn ∧ v0 = ov ∧ sv = .int .i64 s ∧ iv = .int .i64 (k : Int) ∧ Hid (OwnsS 34 wr (w.heap.size + 1) v0 len T) ∧ len ≤ k ∧ Hid (L = T ++ playL steps (tr.drop k) s) ∧ Hid (Below (w.heap.size + 1) wz wr)) (fun _ _ iv _ => tn - (intOf iv).toNat)
    case atStart => exact ⟨0, 0, _, [], it, Nat.zero_le _, rfl, rfl, rfl, O1.out, Nat.le_refl _, by unfold Hid; rw [HLL.out]; simp, B1.out⟩
    case round =>
      clear B1 O1
      obtain ⟨k, len, v0, T, s, hk, rfl, rfl, rfl, HO, hlen, HT, HB⟩ := hrel
      obtain ⟨wo, hwo⟩ : ∃ x, x = wr := ⟨_, rfl⟩
      subst hwo
      have hsz : w.heap.size + 1 ≤ wo.heap.size := by have h1 := HB.out.size; have h2 := HSZ.out; omega
      by_cases hlt : k < tn
      · obtain ⟨bt, ot, rfl, hbt, hct⟩ := RT.out.2 (by omega)
        have hkx : k < tr.length := by rw [RT.out.1]; exact hlt
        obtain ⟨p, hp⟩ : ∃ p, p = tr[k] := ⟨_, rfl⟩
        have HP : Hid (tr[k]? = some p) := by unfold Hid; rw [List.getElem?_eq_getElem hkx, hp]
        have ct0 := hct k hlt
        rw [getD_eq tr k hkx, ← hp] at ct0
        have HCT : Hid (∀ W, Below (w.heap.size + 1) wz W → W.cell? ⟨bt, ot + k, none⟩ = some (.int .i64 p)) := fun W hW => ((HBX.out _ hW).1.cell (p := ⟨bt, ot + k, none⟩) hbt).trans ct0
        clear hct hp ct0 hkx
        have B2 : Hid (Below wo.heap.size wo (wo.alloc (.cells #[] 34))) := (Below.refl _ _).alloc (Nat.le_refl _) _
        have O2 : Hid (OwnsS 34 (wo.alloc (.cells #[] 34)) wo.heap.size (.slice (some ⟨wo.heap.size, 0, none⟩) 0 0) 0 (rowL [] s)) := ownsS_none wo
        go_wp2_with fail
        go_loopw [8, 9] (fun lv jv wr => ∃ (j ln : Nat) (vl : Value), j ≤ n5 ∧ vl = lv ∧ jv = .int .i64 (j : Int) ∧ Hid (OwnsS 34 wr wo.heap.size vl ln (rowL (steps.take j) s)) ∧ ln ≤ j ∧ Hid (Below wo.heap.size wo wr)) (fun _ jv _ => n5 - (intOf jv).toNat)
        case atStart => exact ⟨0, 0, _, Nat.zero_le _, rfl, rfl, O2.out, Nat.le_refl _, B2.out⟩
        case round =>
          clear B2 O2
          obtain ⟨j, ln, vl, hj, rfl, rfl, HO2, hln, HB2⟩ := hrel
          have BW : Hid (Below (w.heap.size + 1) wz wr) := HB.out.trans (HB2.out.mono hsz)
          have hsz2 := HB2.out.size
          have cc5 := (HBX.out _ BW.out).2.cell (j := 5) (u := .slice a5 n5 c5) rfl
          by_cases hltj : j < n5
          · obtain ⟨b, off, rfl, hbx, hcell⟩ := R5.out.2 (by omega)
            have hjx : j < steps.length := by rw [R5.out.1]; exact hltj
            obtain ⟨⟨xf, xa, xt⟩, hs⟩ : ∃ t, t = steps[j] := ⟨_, rfl⟩
            obtain ⟨e0, e1, e2⟩ := hcell j steps[j] (List.getElem?_eq_getElem hjx)
            rw [← hs] at e0 e1 e2
            have BWr := (HBX.out _ BW.out).1
            have g0 := (BWr.cell (p := ⟨b, off + j * 3, none⟩) hbx).trans e0
            have g1 := (BWr.cell (p := ⟨b, off + j * 3 + 1, none⟩) hbx).trans e1
            have g2 := (BWr.cell (p := ⟨b, off + j * 3 + 2, none⟩) hbx).trans e2
            simp only at g0 g1 g2
            by_cases hx : xf = s
            · have hd : (xf == s) = true := by simp [hx]
              have HR : Hid (rowL (steps.take j) s ++ [(xf, xa, xt)] = rowL (steps.take (j + 1)) s) := by
                unfold Hid
                rw [List.take_succ_eq_append_getElem hjx, ← hs, rowL_snoc_same _ _ _ hx]
              have T1 := HO2.out.alloc (.cells #[.int .i64 xf, .int .i64 xa, .int .i64 xt] 34)
              have BT : Hid (Below wo.heap.size wo (wr.alloc (.cells #[.int .i64 xf, .int .i64 xa, .int .i64 xt] 34))) := HB2.out.alloc hsz2 _
              have SP : SrcS (wr.alloc (.cells #[.int .i64 xf, .int .i64 xa, .int .i64 xt] 34)) (some ⟨wr.heap.size, 0, none⟩) 1 1 [(xf, xa, xt)] := srcS_box wr _ _ _
              clear e0 e1 e2 hs hcell hx BWr
              go_wp2_with (at_builtin; refine wpList_appS rfl (.tmp 40) (.tmp 46) 25 34 rfl wo.heap.size i0 Try.underlying25 hi0 hz0 hz1 hz2 _ ln _ rfl T1 _ 1 _ [(xf, xa, xt)] rfl SP (by omega) (by simp; omega) ?_)
              rintro vz w4 ⟨hown, hgrow, _⟩
              have B4 : Hid (Below wo.heap.size wo w4) := BT.out.grown hgrow (by simp; omega) (fun q hq => (T1.lt q hq).1)
              have O4 : Hid (OwnsS 34 w4 wo.heap.size vz (ln + 1) (rowL (steps.take (j + 1)) s)) := by rw [← HR.out]; exact hown
              clear hown hgrow T1 SP BT cc5 g0 g1 g2
              go_wp2_with fail
              go_roundw
              case rel => exact ⟨j + 1, ln + 1, vz, by omega, rfl, by go_num, O4.out, by omega, B4.out⟩
              case measure => simp [intOf]; omega
            · have hd : (xf == s) = false := by simp [hx]
              have HR : Hid (rowL (steps.take j) s = rowL (steps.take (j + 1)) s) := by
                unfold Hid
                rw [List.take_succ_eq_append_getElem hjx, ← hs, rowL_snoc_other _ _ _ hx]
              have O4 : Hid (OwnsS 34 wr wo.heap.size vl ln (rowL (steps.take (j + 1)) s)) := by rw [← HR.out]; exact HO2.out
              clear e0 e1 e2 hs hcell hx BWr
              go_wp2_with fail
              go_roundw
              case rel => exact ⟨j + 1, ln, vl, by omega, rfl, by go_num, O4.out, by omega, HB2.out⟩
              case measure => simp [intOf]; omega
          · have HRF : Hid (OwnsS 34 wr wo.heap.size vl ln (rowL steps s)) := by
              have := HO2.out
              rw [List.take_of_length_le (by rw [R5.out.1]; omega)] at this
              exact this
            have O2 := Lib.hid (HO.out.below HB2.out)
            obtain ⟨al, cl, rfl⟩ := HRF.out.form
            have hrl := HRF.out.length
            have HRL := Lib.hid hrl
            have HOO := Lib.hid HO.out
            clear HO2 HO hrl
            by_cases hzero : ln = 0
            · have hd : ((ln : Int) == 0) = true := by simp [hzero]
              have HE : Hid (L = T) := by
                unfold Hid
                rw [HT.out, playL_stop (by rw [HRL.out]; exact hzero), List.append_nil]
              clear hzero
              go_wp2_with fail
              go_ret
              have e := O2.out.length
              rw [HE.out]
              subst e
              exact ⟨_, rfl, O2.out.mono (by omega), (HBX.out _ BW.out).1⟩
            · have hd : ((ln : Int) == 0) = false := by simp; omega
              have hpos : 0 < ln := by omega
              obtain ⟨⟨xf, xa, xt⟩, hx⟩ : ∃ x, (rowL steps s)[pickOf p ln]? = some x := ⟨_, List.getElem?_eq_getElem (by rw [HRL.out]; exact pickOf_lt p hpos)⟩
              have HGO : Hid (L = (T ++ [(xf, xa, xt)]) ++ playL steps (tr.drop (k + 1)) xt) := by
                unfold Hid
                rw [HT.out, playL_go HP.out (by rw [HRL.out]; exact hx), List.append_assoc]
                rfl
              obtain ⟨m, hm⟩ : ∃ m, m = pickOf p ln := ⟨_, rfl⟩
              have hml : m < ln := by rw [hm]; exact pickOf_lt p hpos
              have htm := pickOf_tmod p hpos
              obtain ⟨tm, htme⟩ : ∃ t, t = p.tmod (ln : Int) := ⟨_, rfl⟩
              have htlow := tmod_low p hpos
              rw [← htme] at htm htlow
              rw [← hm] at hx htm
              have HXX := Lib.hid hx
              obtain ⟨gl, rfl⟩ : ∃ g, al = some ⟨g, 0, none⟩ := by
                rcases HRF.out.2 with ⟨e, _⟩ | ⟨g, cap, cur, e, _⟩
                · simp at e
                  omega
                · simp only [Value.slice.injEq] at e
                  exact ⟨g, e.1⟩
              obtain ⟨l0, l1, l2⟩ := HRF.out.cells.2 m (xf, xa, xt) hx
              simp only at l0 l1 l2
              have ctk := HCT.out _ BW.out
              have hne0 : ¬ (ln : Int) = 0 := by omega
              have htm1 : p.tmod (ln : Int) = tm := htme.symm
              have GLT : Hid (wo.heap.size ≤ gl ∧ gl < wr.heap.size) := HRF.out.lt gl rfl
              clear hx hm htme hzero HP
              have T1 := O2.out.alloc (.cells #[.int .i64 xf, .int .i64 xa, .int .i64 xt] 34)
              have BT : Hid (Below (w.heap.size + 1) wz (wr.alloc (.cells #[.int .i64 xf, .int .i64 xa, .int .i64 xt] 34))) := BW.out.alloc (by omega) _
              have SP : SrcS (wr.alloc (.cells #[.int .i64 xf, .int .i64 xa, .int .i64 xt] 34)) (some ⟨wr.heap.size, 0, none⟩) 1 1 [(xf, xa, xt)] := srcS_box wr _ _ _
              have HGL := Lib.hid (HRF.out.alloc (.cells #[.int .i64 xf, .int .i64 xa, .int .i64 xt] 34))
              have V0L : Hid (∀ q, v0.ownBlock = some q → q < wo.heap.size) := fun q hq => (HOO.out.lt q hq).2
              have FIN : Hid (∀ w4 vz, OwnsS 34 w4 (w.heap.size + 1) vz (len + 1) (T ++ [(xf, xa, xt)]) → (wr.alloc (.cells #[.int .i64 xf, .int .i64 xa, .int .i64 xt] 34)).grownBy w4 v0.ownBlock → Below (w.heap.size + 1) wz w4 ∧ w4.cell? ⟨gl, m * 3 + 2, none⟩ = some (.int .i64 xt)) := fun w4 vz hown hgrow => by
                refine ⟨BT.out.grown hgrow (by simp; omega) (fun q hq => (T1.lt q hq).1), ?_⟩
                have hk := HGL.out.keep hgrow (fun k hk e => by
                  have h1 := V0L.out k e.symm
                  have h2 := (GLT.out).1
                  have h3 : gl = k := by simpa [Value.ownBlock] using hk
                  omega)
                exact (hk.cells.2 m (xf, xa, xt) HXX.out).2.2
              clear HGL V0L GLT HXX HRF
              by_cases hneg : tm < 0
              · rw [if_pos hneg] at htm
                have hw : tm + (ln : Int) = (m : Int) := htm.symm
                have hd2 : decide (tm < 0) = true := by simp [hneg]
                clear htm hneg
                go_wp2_with (at_builtin; refine wpList_appS rfl (.tmp 65) (.tmp 70) 25 34 rfl (w.heap.size + 1) i0 Try.underlying25 hi0 hz0 hz1 hz2 _ len _ rfl T1 _ 1 _ [(xf, xa, xt)] rfl SP (by omega) (by simp; omega) ?_)
                rintro vz w4 ⟨hown, hgrow, _⟩
                obtain ⟨B4, c4⟩ := FIN.out w4 vz hown hgrow
                have HB4 := Lib.hid B4
                have O4 := Lib.hid hown
                clear hown hgrow T1 SP BT FIN B4 l0 l1 l2 ctk
                go_wp2_with fail
                go_roundw
                case rel => exact ⟨k + 1, len + 1, vz, _, xt, by omega, rfl, rfl, by go_num, O4.out, by omega, HGO.out, HB4.out⟩
                case measure => simp [intOf]; omega
              · rw [if_neg hneg] at htm
                have hd2 : decide ((m : Int) < 0) = false := by simp
                rw [← htm] at htm1
                clear htm hneg
                go_wp2_with (at_builtin; refine wpList_appS rfl (.tmp 65) (.tmp 70) 25 34 rfl (w.heap.size + 1) i0 Try.underlying25 hi0 hz0 hz1 hz2 _ len _ rfl T1 _ 1 _ [(xf, xa, xt)] rfl SP (by omega) (by simp; omega) ?_)
                rintro vz w4 ⟨hown, hgrow, _⟩
                obtain ⟨B4, c4⟩ := FIN.out w4 vz hown hgrow
                have HB4 := Lib.hid B4
                have O4 := Lib.hid hown
                clear hown hgrow T1 SP BT FIN B4 l0 l1 l2 ctk
                go_wp2_with fail
                go_roundw
                case rel => exact ⟨k + 1, len + 1, vz, _, xt, by omega, rfl, rfl, by go_num, O4.out, by omega, HGO.out, HB4.out⟩
                case measure => simp [intOf]; omega
      · have HE : Hid (L = T) := by
          unfold Hid
          rw [HT.out, playL_end (by rw [RT.out.1]; omega), List.append_nil]
        go_wp2_with fail
        go_ret
        have e := HO.out.length
        rw [HE.out]
        subst e
        exact ⟨_, rfl, HO.out.mono (by omega), (HBX.out _ HB.out).1⟩

end Go.Proofs.Ytnglogkkkpegnaa
