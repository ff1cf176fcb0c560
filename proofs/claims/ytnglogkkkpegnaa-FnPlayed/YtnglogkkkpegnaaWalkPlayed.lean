/-
  The walk of the law FnPlayed: it returns true at every code and writes nothing that was there. Conditions: none.
-/
import Derived.Test.YtnglogkkkpegnaaSpecPlay
import Derived.Test.YtnglogkkkpegnaaImplPlay
import Derived.Test.YtnglogkkkpegnaaDrawPlay
import Derived.Test.YtnglogkkkpegnaaHidMath
import Derived.Test.YtnglogkkkpegnaaRowOf
import Derived.Test.YtnglogkkkpegnaaBig
import Derived.Test.YtnglogkkkpegnaaSame
namespace Go.Proofs.Ytnglogkkkpegnaa
open Go.RowKit

theorem playL_head {ss : List St} {ps : List Int} {k : Nat} {s : Int} {x : St} {r : List St} (h : playL ss (ps.drop k) s = x :: r) : k < ps.length ∧ x ∈ ss ∧ x.1 = s ∧ r = playL ss (ps.drop (k + 1)) x.2.2 := by
  by_cases hk : k < ps.length
  · cases e : (rowL ss s)[pickOf ps[k] (rowL ss s).length]? with
    | none =>
      rw [List.drop_eq_getElem_cons hk] at h
      unfold playL at h
      rw [e] at h
      cases h
    | some y =>
      rw [playL_go (List.getElem?_eq_getElem hk) e] at h
      cases h
      have hm := List.mem_filter.1 (List.mem_of_getElem? e)
      exact ⟨hk, hm.1, by simpa using hm.2, rfl⟩
  · rw [List.drop_eq_nil_of_le (by omega)] at h
    cases h

theorem playL_nil {ss : List St} {ps : List Int} {k : Nat} {s : Int} (h : playL ss (ps.drop k) s = []) (hk : k < ps.length) : rowL ss s = [] := by
  by_cases e : (rowL ss s).length = 0
  · exact List.length_eq_zero_iff.1 e
  · have h1 := pickOf_lt ps[k] (n := (rowL ss s).length) (by omega)
    rw [playL_go (List.getElem?_eq_getElem hk) (List.getElem?_eq_getElem h1)] at h
    cases h

theorem ofL_none {ss : List St} {s : Int} {set : List Int} (h : rowL ss s = []) : ofL ss s set = [] := by
  rw [List.eq_nil_iff_forall_not_mem]
  intro y hy
  obtain ⟨_, z, hz⟩ := mem_ofL.1 hy
  have : ((s, y, z) : St) ∈ rowL ss s := List.mem_filter.2 ⟨hz, by simp⟩
  rw [h] at this
  cases this

set_option maxRecDepth 20000 in
set_option maxHeartbeats 6400000 in
theorem walk_FnPlayed (a0 : Option Addr) (len0 cap0 : Nat) (z0 : List Int) (w : World) (w0 : IsRow .u8 w a0 len0 cap0 z0) :
    Calls Try.prog 3 #[.slice a0 len0 cap0] w fun e w' => e = .returned (.bool true) ∧ Below w.heap.size w w' := by
  have hl := w0.lenAny
  have HA := Lib.hid w0.code
  clear w0
  by_cases hbig : 1048576 < len0
  · go_enter Try.func3, Try.ntmps3
    go_wp2_with fail
    refine (big_any _ _ _ _ hl).mono ?_
    rintro e wz ⟨rfl, hz⟩
    obtain rfl : w = wz := hz.symm
    rw [decide_eq_true hbig]
    go_wp2_with fail
    go_ret
    exact ⟨rfl, Below.refl _ _⟩
  · go_enter Try.func3, Try.ntmps3
    go_wp2_with fail
    refine (big_any _ _ _ _ hl).mono ?_
    rintro e wz ⟨rfl, hz⟩
    obtain rfl : w = wz := hz.symm
    rw [decide_eq_false hbig]
    go_wp2_with fail
    refine (drawPlay_any a0 len0 cap0 _ (by omega) HA.out).mono ?_
    clear HA hl hbig
    rintro e w1 ⟨ia, v, ta, tn, tc, tr, rfl, hm, hln, hrt, htn, hb⟩
    have BW1 := Lib.hid hb
    have hszw := hb.size
    obtain ⟨st, it, ins, outs, hids, steps⟩ := ia
    obtain ⟨x2, x3, x4, x5, rfl, o2, o3, o4, o5⟩ := hm
    obtain ⟨k2, k3, k4, k5⟩ := hln
    simp only at o2 o3 o4 o5 k2 k3 k4 k5
    obtain ⟨n2, hn2⟩ : ∃ n, n = ins.length := ⟨_, rfl⟩
    rw [← hn2] at o2
    obtain ⟨b2, d2, rfl⟩ := o2.form
    have f2 : ins.length ≤ 1048576 := by omega
    obtain ⟨n3, hn3⟩ : ∃ n, n = outs.length := ⟨_, rfl⟩
    rw [← hn3] at o3
    obtain ⟨b3, d3, rfl⟩ := o3.form
    have f3 : outs.length ≤ 1048576 := by omega
    obtain ⟨n4, hn4⟩ : ∃ n, n = hids.length := ⟨_, rfl⟩
    rw [← hn4] at o4
    obtain ⟨b4, d4, rfl⟩ := o4.form
    have f4 : hids.length ≤ 1048576 := by omega
    obtain ⟨n5, hn5⟩ : ∃ n, n = steps.length := ⟨_, rfl⟩
    rw [← hn5] at o5
    obtain ⟨b5, d5, rfl⟩ := o5.form
    have f5 : steps.length ≤ 1048576 := by omega
    have HROW : Hid (∀ W, Below w1.heap.size w1 W → IaRow W ⟨st, it, ins, outs, hids, steps⟩ (.agg #[.int .i64 st, .int .i64 it, .slice b2 n2 d2, .slice b3 n3 d3, .slice b4 n4 d4, .slice b5 n5 d5])) := fun W hW => IaRow.below ⟨b2, n2, d2, b3, n3, d3, b4, n4, d4, b5, n5, d5, rfl, o2.row.2.2.2, o3.row.2.2.2, o4.row.2.2.2, o5.row.2.2.2⟩ hW
    have RT : Hid (∀ W, Below w1.heap.size w1 W → Row W ta tn tr) := fun W hW => hrt.below hW
    have htl := hrt.1
    clear o2 o3 o4 o5 hn2 hn3 hn4 hn5 hb hrt
    obtain ⟨L, hL⟩ : ∃ L, L = playOf ⟨st, it, ins, outs, hids, steps⟩ tr := ⟨_, rfl⟩
    obtain ⟨s, hs⟩ : ∃ n, n = L.length := ⟨_, rfl⟩
    have hs100 : s ≤ tn := by rw [hs, hL, ← htl]; exact playOf_len _ _
    obtain ⟨q, hq⟩ : ∃ q, q = iaOkB ⟨st, it, ins, outs, hids, steps⟩ := ⟨_, rfl⟩
    have CI : Hid (∀ W, Below w1.heap.size w1 W → Calls Try.prog 8 #[.agg #[.int .i64 st, .int .i64 it, .slice b2 n2 d2, .slice b3 n3 d3, .slice b4 n4 d4, .slice b5 n5 d5], .slice ta tn tc] W fun e w' => ∃ ag cg, e = .returned (.slice ag s cg) ∧ RowS w' ag s L ∧ Below W.heap.size W w') := fun W hW => by
      rw [hs, hL]
      refine (implPlay_any ⟨st, it, ins, outs, hids, steps⟩ _ ta tn tc tr W (HROW.out W hW) f2 f3 f4 f5 (RT.out W hW) (by omega)).mono ?_
      rintro e w' ⟨v', rfl, ho, hb⟩
      obtain ⟨ad, c, rfl⟩ := ho.form
      exact ⟨ad, c, rfl, ho.row.2.2.2, hb⟩
    have CP : Hid (∀ W, Below w1.heap.size w1 W → Calls Try.prog 10 #[.agg #[.int .i64 st, .int .i64 it, .slice b2 n2 d2, .slice b3 n3 d3, .slice b4 n4 d4, .slice b5 n5 d5], .slice ta tn tc] W fun e w' => ∃ ag cg, e = .returned (.slice ag s cg) ∧ RowS w' ag s L ∧ Below W.heap.size W w') := fun W hW => by
      rw [hs, hL]
      refine (specPlay_any ⟨st, it, ins, outs, hids, steps⟩ _ ta tn tc tr W (HROW.out W hW) f2 f3 f4 f5 (RT.out W hW) (by omega)).mono ?_
      rintro e w' ⟨v', rfl, ho, hb⟩
      obtain ⟨ad, c, rfl⟩ := ho.form
      exact ⟨ad, c, rfl, ho.row.2.2.2, hb⟩
    have CO : Hid (∀ W, Below w1.heap.size w1 W → Calls Try.prog 11 #[.agg #[.int .i64 st, .int .i64 it, .slice b2 n2 d2, .slice b3 n3 d3, .slice b4 n4 d4, .slice b5 n5 d5]] W fun e w' => e = .returned (.bool q) ∧ Below W.heap.size W w') := fun W hW => by
      rw [hq]
      exact specIaOk_any ⟨st, it, ins, outs, hids, steps⟩ _ W (HROW.out W hW) f2 f3 f4 f5
    have HL := Lib.hid hL
    have HS := Lib.hid hs
    have HQ := Lib.hid hq
    have HTL := Lib.hid htl
    clear hL hs hq htl
    have V1 := Lib.hid (VarIs.new w1 #[.int .i64 st, .int .i64 it, .slice b2 n2 d2, .slice b3 n3 d3, .slice b4 n4 d4, .slice b5 n5 d5] 27 rfl)
    have B1 : Hid (Below w1.heap.size w1 (w1.alloc (.cells #[.int .i64 st, .int .i64 it, .slice b2 n2 d2, .slice b3 n3 d3, .slice b4 n4 d4, .slice b5 n5 d5] 27))) := (Below.refl _ _).alloc (Nat.le_refl _) _
    go_wp2_with fail
    refine (CI.out _ B1.out).mono ?_
    rintro e w2 ⟨ag, cg, rfl, hrg, hb⟩
    have S2 : Hid (Below w1.heap.size w1 w2 ∧ VarIs w2 w1.heap.size #[.int .i64 st, .int .i64 it, .slice b2 n2 d2, .slice b3 n3 d3, .slice b4 n4 d4, .slice b5 n5 d5] 27 ∧ RowS w2 ag s L) := ⟨B1.out.trans (hb.mono B1.out.size), V1.out.below hb, hrg⟩
    clear hb hrg B1 V1 CI
    have m0 := S2.out.2.1.cell (j := 0) rfl
    have m1 := S2.out.2.1.cell (j := 1) rfl
    have m2 := S2.out.2.1.cell (j := 2) rfl
    have m3 := S2.out.2.1.cell (j := 3) rfl
    have m4 := S2.out.2.1.cell (j := 4) rfl
    have m5 := S2.out.2.1.cell (j := 5) rfl
    go_wp2_with fail
    clear m0 m1 m2 m3 m4 m5
    refine (CP.out _ S2.out.1).mono ?_
    rintro e w3 ⟨ap, cp, rfl, hrp, hb⟩
    have S3 : Hid (Below w1.heap.size w1 w3 ∧ VarIs w3 w1.heap.size #[.int .i64 st, .int .i64 it, .slice b2 n2 d2, .slice b3 n3 d3, .slice b4 n4 d4, .slice b5 n5 d5] 27 ∧ RowS w3 ag s L) := ⟨S2.out.1.trans (hb.mono S2.out.1.size), S2.out.2.1.below hb, S2.out.2.2.below hb⟩
    have RP := Lib.hid hrp
    clear hb hrp S2 CP
    go_wp2_with fail
    refine (sameSteps_eq ag ap s cg s cp L _ S3.out.2.2 RP.out (by omega)).mono ?_
    rintro e w4 ⟨rfl, hb⟩
    have S4 : Hid (Below w1.heap.size w1 w4 ∧ VarIs w4 w1.heap.size #[.int .i64 st, .int .i64 it, .slice b2 n2 d2, .slice b3 n3 d3, .slice b4 n4 d4, .slice b5 n5 d5] 27 ∧ RowS w4 ag s L) := ⟨S3.out.1.trans (hb.mono S3.out.1.size), S3.out.2.1.below hb, S3.out.2.2.below hb⟩
    clear hb RP S3
    have m0 := S4.out.2.1.cell (j := 0) rfl
    have m1 := S4.out.2.1.cell (j := 1) rfl
    have m2 := S4.out.2.1.cell (j := 2) rfl
    have m3 := S4.out.2.1.cell (j := 3) rfl
    have m4 := S4.out.2.1.cell (j := 4) rfl
    have m5 := S4.out.2.1.cell (j := 5) rfl
    go_wp2_with fail
    clear m0 m1 m2 m3 m4 m5
    refine (CO.out _ S4.out.1).mono ?_
    rintro e w5 ⟨rfl, hb⟩
    have S5 : Hid (Below w1.heap.size w1 w5 ∧ VarIs w5 w1.heap.size #[.int .i64 st, .int .i64 it, .slice b2 n2 d2, .slice b3 n3 d3, .slice b4 n4 d4, .slice b5 n5 d5] 27 ∧ RowS w5 ag s L) := ⟨S4.out.1.trans (hb.mono S4.out.1.size), S4.out.2.1.below hb, S4.out.2.2.below hb⟩
    clear hb S4 CO
    cases q with
    | false =>
      obtain rfl : L = [] := by rw [HL.out]; unfold playOf; rw [← HQ.out]; rfl
      obtain rfl : s = 0 := HS.out
      go_wp2_with fail
      go_ret
      exact ⟨rfl, BW1.out.trans (S5.out.1.mono hszw)⟩
    | true =>
      have HLL : Hid (L = playL steps tr it) := by unfold Hid; rw [HL.out]; unfold playOf; rw [← HQ.out]; rfl
      have HOK : Hid (iaOkB ⟨st, it, ins, outs, hids, steps⟩ = true) := HQ.out.symm
      have m1 := S5.out.2.1.cell (j := 1) (u := .int .i64 it) rfl
      clear HL HQ
      go_wp2_with fail
      clear m1
      go_loopw [6, 7] (fun av iv wr => ∃ (k : Nat) (av0 : Int), k ≤ s ∧ av = .int .i64 av0 ∧ iv = .int .i64 (k : Int) ∧ Hid (L.drop k = playL steps (tr.drop k) av0) ∧ Hid (Below w1.heap.size w1 wr ∧ VarIs wr w1.heap.size #[.int .i64 st, .int .i64 it, .slice b2 n2 d2, .slice b3 n3 d3, .slice b4 n4 d4, .slice b5 n5 d5] 27 ∧ RowS wr ag s L)) (fun _ iv _ => s - (intOf iv).toNat)
      case atStart => exact ⟨0, it, Nat.zero_le _, rfl, rfl, by unfold Hid; simpa using HLL.out, S5.out⟩
      case round =>
        obtain ⟨k, av0, hk, rfl, rfl, HD, HSS⟩ := hrel
        clear S5
        have B1 := Lib.hid HSS.out.1
        by_cases hlt : k < s
        · have hkx : k < L.length := by have := HS.out; omega
          obtain ⟨⟨xf, xa, xt⟩, hx⟩ : ∃ x, x = L[k] := ⟨_, rfl⟩
          have hd := HD.out
          rw [List.drop_eq_getElem_cons hkx, ← hx] at hd
          obtain ⟨hkt, hxm, hxs, hnx⟩ := playL_head hd.symm
          simp only at hxs hnx
          obtain rfl := hxs
          obtain ⟨gb, go, rfl, hgl, hcell⟩ := HSS.out.2.2.2 (by omega)
          have HCE := Lib.hid (hcell k L[k] (List.getElem?_eq_getElem hkx))
          rw [← hx] at HCE
          have RC : Hid (∀ W, Below w1.heap.size w1 W ∧ VarIs W w1.heap.size #[.int .i64 st, .int .i64 it, .slice b2 n2 d2, .slice b3 n3 d3, .slice b4 n4 d4, .slice b5 n5 d5] 27 ∧ RowS W (some ⟨gb, go, none⟩) s L → W.cell? ⟨gb, go + k * 3, none⟩ = some (.int .i64 xf) ∧ W.cell? ⟨gb, go + k * 3 + 1, none⟩ = some (.int .i64 xa) ∧ W.cell? ⟨gb, go + k * 3 + 2, none⟩ = some (.int .i64 xt)) := fun W hW => by
            obtain ⟨b', o', e', _, hc'⟩ := hW.2.2.2 (by omega)
            simp only [Option.some.injEq, Addr.mk.injEq, and_true] at e'
            obtain ⟨rfl, rfl⟩ := e'
            have h0 := hc' k L[k] (List.getElem?_eq_getElem hkx)
            rw [← hx] at h0
            exact h0
          obtain ⟨AF, hAF⟩ : ∃ l, l = afterL steps xf xa := ⟨_, rfl⟩
          obtain ⟨nA, hnA⟩ : ∃ n, n = AF.length := ⟨_, rfl⟩
          have hnA2 : nA ≤ 1048576 := by rw [hnA, hAF]; exact Nat.le_trans (afterL_len _ _ _) f5
          have CA : Hid (∀ W, Below w1.heap.size w1 W → Calls Try.prog 13 #[.agg #[.int .i64 st, .int .i64 it, .slice b2 n2 d2, .slice b3 n3 d3, .slice b4 n4 d4, .slice b5 n5 d5], .int .i64 xf, .int .i64 xa] W fun e w' => ∃ ad cd, e = .returned (.slice ad nA cd) ∧ Row w' ad nA AF ∧ Below W.heap.size W w') := fun W hW => by
            have h0 := implAfter_any ⟨st, it, ins, outs, hids, steps⟩ _ xf xa W (HROW.out W hW) f2 f3 f4 f5
            rw [if_pos HOK.out] at h0
            refine h0.mono ?_
            rintro e w' ⟨v', rfl, ho, hb⟩
            rw [hnA, hAF]
            obtain ⟨ad, c, rfl⟩ := ho.form
            exact ⟨ad, c, rfl, ho.row.2.2.2, hb⟩
          have CH : Hid (∀ W ad cd, Row W ad nA AF → Calls Try.prog 12 #[.slice ad nA cd, .int .i64 xt] W fun e w' => e = .returned (.bool true) ∧ W = w') := fun W ad cd hr => by
            have hyes : hasB AF xt = true := by
              rw [hAF]
              exact decide_eq_true (mem_afterL.2 hxm)
            rw [← hyes]
            exact (specSetHas_any ad nA cd xt AF W hr (by omega)).mono fun e w' h => ⟨h.1, h.2.symm⟩
          have HD2 : Hid (L.drop (k + 1) = playL steps (tr.drop (k + 1)) xt) := hnx
          have i1 : (0 : Int) ≤ (k : Int) := by omega
          have i2 : (k : Int) < (s : Int) := by omega
          have hkn : k + 1 ≤ s := by omega
          have SD : Below w1.heap.size w1 wr.drew ∧ VarIs wr.drew w1.heap.size #[.int .i64 st, .int .i64 it, .slice b2 n2 d2, .slice b3 n3 d3, .slice b4 n4 d4, .slice b5 n5 d5] 27 ∧ RowS wr.drew (some ⟨gb, go, none⟩) s L := ⟨HSS.out.1.drew, HSS.out.2.1, HSS.out.2.2⟩
          have BWR : Hid (Below w1.heap.size w1 wr) := HSS.out.1
          clear hd hxm hnx HCE hx hcell hAF hnA HD hgl hkt
          go_wp2_with fail
          refine wp_region_tf (S := fun w' => Below w1.heap.size w1 w' ∧ VarIs w' w1.heap.size #[.int .i64 st, .int .i64 it, .slice b2 n2 d2, .slice b3 n3 d3, .slice b4 n4 d4, .slice b5 n5 d5] 27 ∧ RowS w' (some ⟨gb, go, none⟩) s L) 24 (by kernel_rfl) (by kernel_rfl) (by kernel_rfl) SD (fun hHeld => ?_)
          refine fast_move 0 38 (.slice (some ⟨gb, go, none⟩) s cg) (.tmp 5) (fuel := 23) rfl rfl (by kernel_rfl) (by kernel_rfl) (by kernel_rfl) (fun _ _ _ h => h) (by kernel_rfl) (by kernel_rfl) (by first | exact Or.inl rfl | exact Or.inr rfl) hHeld (tf 1 24) (by kernel_rfl) (fun K hK => ?_)
          go_big_move
          refine hK.out _ ?_
          clear hK K
          refine fast_move 1 39 (.int .i64 (k : Int)) (.tmp 7) (fuel := 22) rfl rfl (by kernel_rfl) (by kernel_rfl) (by kernel_rfl) (fun _ _ _ h => h) (by kernel_rfl) (by kernel_rfl) (by first | exact Or.inl rfl | exact Or.inr rfl) hHeld (tf 3 24) (by kernel_rfl) (fun K hK => ?_)
          go_big_move
          refine hK.out _ ?_
          clear hK K
          refine fast2 2 40 (.pointer (some ⟨gb, go + k * 3, none⟩)) (.tmp 38) (.slice (some ⟨gb, go, none⟩) s cg) (.tmp 39) (.int .i64 (k : Int)) (fuel := 21) rfl rfl (by kernel_rfl) (by kernel_rfl) (by kernel_rfl) (fun _ _ _ h => h) (by kernel_rfl) (by kernel_rfl) (by kernel_rfl) (fun ρ hr0 hr1 _ w hSw => by have h1 := i1; have h2 := i2; simp [go_sem, hr0, hr1, h1, h2]) hHeld (tf 7 24) (by kernel_rfl) (fun K hK => ?_)
          go_big_move
          refine hK.out _ ?_
          clear hK K
          refine fast1 3 41 (.pointer (some ⟨gb, go + k * 3, none⟩)) (.tmp 40) (.pointer (some ⟨gb, go + k * 3, none⟩)) (fuel := 20) rfl rfl (by kernel_rfl) (by kernel_rfl) (by kernel_rfl) (fun _ _ _ h => h) (by kernel_rfl) (by kernel_rfl) (fun ρ hr0 _ w hSw => by simp [go_sem, hr0]) hHeld (tf 15 24) (by kernel_rfl) (fun K hK => ?_)
          go_big_move
          refine hK.out _ ?_
          clear hK K
          refine fast1 4 42 (.int .i64 xf) (.tmp 41) (.pointer (some ⟨gb, go + k * 3, none⟩)) (fuel := 19) rfl rfl (by kernel_rfl) (by kernel_rfl) (by kernel_rfl) (fun _ _ _ h => h) (by kernel_rfl) (by kernel_rfl) (fun ρ hr0 _ w hSw => by have m := (RC.out w hSw).1; simp [go_sem, hr0, m]) hHeld (tf 31 24) (by kernel_rfl) (fun K hK => ?_)
          go_big_move
          refine hK.out _ ?_
          clear hK K
          refine fast_move 5 43 (.int .i64 xf) (.tmp 6) (fuel := 18) rfl rfl (by kernel_rfl) (by kernel_rfl) (by kernel_rfl) (fun _ _ _ h => h) (by kernel_rfl) (by kernel_rfl) (by first | exact Or.inl rfl | exact Or.inr rfl) hHeld (tf 63 24) (by kernel_rfl) (fun K hK => ?_)
          go_big_move
          refine hK.out _ ?_
          clear hK K
          refine fast2 6 44 (.bool false) (.tmp 42) (.int .i64 xf) (.tmp 43) (.int .i64 xf) (fuel := 17) rfl rfl (by kernel_rfl) (by kernel_rfl) (by kernel_rfl) (fun _ _ _ h => h) (by kernel_rfl) (by kernel_rfl) (by kernel_rfl) (fun ρ hr0 hr1 _ w hSw => by simp [go_sem, hr0, hr1]) hHeld (tf 127 24) (by kernel_rfl) (fun K hK => ?_)
          go_big_move
          refine hK.out _ ?_
          clear hK K
          refine fast_move 7 45 (.bool false) (.tmp 44) (fuel := 16) rfl rfl (by kernel_rfl) (by kernel_rfl) (by kernel_rfl) (fun _ _ _ h => h) (by kernel_rfl) (by kernel_rfl) (by first | exact Or.inl rfl | exact Or.inr rfl) hHeld (tf 255 24) (by kernel_rfl) (fun K hK => ?_)
          go_big_move
          refine hK.out _ ?_
          clear hK K
          refine fast_yields 8 46 (.agg #[.int .i64 st, .int .i64 it, .slice b2 n2 d2, .slice b3 n3 d3, .slice b4 n4 d4, .slice b5 n5 d5]) (fuel := 15) rfl rfl (by kernel_rfl) (by kernel_rfl) (by kernel_rfl) (fun _ _ _ h => h) (yieldsIf_load_mid (by rfl) _ _ rfl (w1.heap.size) 0 rfl #[.int .i64 st, .int .i64 it, .slice b2 n2 d2, .slice b3 n3 d3, .slice b4 n4 d4, .slice b5 n5 d5].toList _ (fun w hw => hw.2.1.range) Try.underlying27 rfl (by kernel_rfl)) hHeld (tf 511 24) (by kernel_rfl) (fun K hK => ?_)
          go_big_move
          refine hK.out _ ?_
          clear hK K
          refine fast_move 9 47 (.int .i64 xf) (.tmp 6) (fuel := 14) rfl rfl (by kernel_rfl) (by kernel_rfl) (by kernel_rfl) (fun _ _ _ h => h) (by kernel_rfl) (by kernel_rfl) (by first | exact Or.inl rfl | exact Or.inr rfl) hHeld (tf 1023 24) (by kernel_rfl) (fun K hK => ?_)
          go_big_move
          refine hK.out _ ?_
          clear hK K
          refine fast_move 10 48 (.slice (some ⟨gb, go, none⟩) s cg) (.tmp 5) (fuel := 13) rfl rfl (by kernel_rfl) (by kernel_rfl) (by kernel_rfl) (fun _ _ _ h => h) (by kernel_rfl) (by kernel_rfl) (by first | exact Or.inl rfl | exact Or.inr rfl) hHeld (tf 2047 24) (by kernel_rfl) (fun K hK => ?_)
          go_big_move
          refine hK.out _ ?_
          clear hK K
          refine fast_move 11 49 (.int .i64 (k : Int)) (.tmp 7) (fuel := 12) rfl rfl (by kernel_rfl) (by kernel_rfl) (by kernel_rfl) (fun _ _ _ h => h) (by kernel_rfl) (by kernel_rfl) (by first | exact Or.inl rfl | exact Or.inr rfl) hHeld (tf 4095 24) (by kernel_rfl) (fun K hK => ?_)
          go_big_move
          refine hK.out _ ?_
          clear hK K
          refine fast2 12 50 (.pointer (some ⟨gb, go + k * 3, none⟩)) (.tmp 48) (.slice (some ⟨gb, go, none⟩) s cg) (.tmp 49) (.int .i64 (k : Int)) (fuel := 11) rfl rfl (by kernel_rfl) (by kernel_rfl) (by kernel_rfl) (fun _ _ _ h => h) (by kernel_rfl) (by kernel_rfl) (by kernel_rfl) (fun ρ hr0 hr1 _ w hSw => by have h1 := i1; have h2 := i2; simp [go_sem, hr0, hr1, h1, h2]) hHeld (tf 8191 24) (by kernel_rfl) (fun K hK => ?_)
          go_big_move
          refine hK.out _ ?_
          clear hK K
          refine fast1 13 51 (.pointer (some ⟨gb, go + k * 3 + 1, none⟩)) (.tmp 50) (.pointer (some ⟨gb, go + k * 3, none⟩)) (fuel := 10) rfl rfl (by kernel_rfl) (by kernel_rfl) (by kernel_rfl) (fun _ _ _ h => h) (by kernel_rfl) (by kernel_rfl) (fun ρ hr0 _ w hSw => by simp [go_sem, hr0]) hHeld (tf 16383 24) (by kernel_rfl) (fun K hK => ?_)
          go_big_move
          refine hK.out _ ?_
          clear hK K
          refine fast1 14 52 (.int .i64 xa) (.tmp 51) (.pointer (some ⟨gb, go + k * 3 + 1, none⟩)) (fuel := 9) rfl rfl (by kernel_rfl) (by kernel_rfl) (by kernel_rfl) (fun _ _ _ h => h) (by kernel_rfl) (by kernel_rfl) (fun ρ hr0 _ w hSw => by have m := (RC.out w hSw).2.1; simp [go_sem, hr0, m]) hHeld (tf 32767 24) (by kernel_rfl) (fun K hK => ?_)
          go_big_move
          refine hK.out _ ?_
          clear hK K
          refine fast_move 16 54 (.slice (some ⟨gb, go, none⟩) s cg) (.tmp 5) (fuel := 8) rfl rfl (by kernel_rfl) (by kernel_rfl) (by kernel_rfl) (fun _ _ _ h => h) (by kernel_rfl) (by kernel_rfl) (by first | exact Or.inl rfl | exact Or.inr rfl) hHeld (tf 98303 24) (by kernel_rfl) (fun K hK => ?_)
          go_big_move
          refine hK.out _ ?_
          clear hK K
          refine fast_move 17 55 (.int .i64 (k : Int)) (.tmp 7) (fuel := 7) rfl rfl (by kernel_rfl) (by kernel_rfl) (by kernel_rfl) (fun _ _ _ h => h) (by kernel_rfl) (by kernel_rfl) (by first | exact Or.inl rfl | exact Or.inr rfl) hHeld (tf 229375 24) (by kernel_rfl) (fun K hK => ?_)
          go_big_move
          refine hK.out _ ?_
          clear hK K
          refine fast2 18 56 (.pointer (some ⟨gb, go + k * 3, none⟩)) (.tmp 54) (.slice (some ⟨gb, go, none⟩) s cg) (.tmp 55) (.int .i64 (k : Int)) (fuel := 6) rfl rfl (by kernel_rfl) (by kernel_rfl) (by kernel_rfl) (fun _ _ _ h => h) (by kernel_rfl) (by kernel_rfl) (by kernel_rfl) (fun ρ hr0 hr1 _ w hSw => by have h1 := i1; have h2 := i2; simp [go_sem, hr0, hr1, h1, h2]) hHeld (tf 491519 24) (by kernel_rfl) (fun K hK => ?_)
          go_big_move
          refine hK.out _ ?_
          clear hK K
          refine fast1 19 57 (.pointer (some ⟨gb, go + k * 3 + 2, none⟩)) (.tmp 56) (.pointer (some ⟨gb, go + k * 3, none⟩)) (fuel := 5) rfl rfl (by kernel_rfl) (by kernel_rfl) (by kernel_rfl) (fun _ _ _ h => h) (by kernel_rfl) (by kernel_rfl) (fun ρ hr0 _ w hSw => by simp [go_sem, hr0]) hHeld (tf 1015807 24) (by kernel_rfl) (fun K hK => ?_)
          go_big_move
          refine hK.out _ ?_
          clear hK K
          refine fast1 20 58 (.int .i64 xt) (.tmp 57) (.pointer (some ⟨gb, go + k * 3 + 2, none⟩)) (fuel := 4) rfl rfl (by kernel_rfl) (by kernel_rfl) (by kernel_rfl) (fun _ _ _ h => h) (by kernel_rfl) (by kernel_rfl) (fun ρ hr0 _ w hSw => by have m := (RC.out w hSw).2.2; simp [go_sem, hr0, m]) hHeld (tf 2064383 24) (by kernel_rfl) (fun K hK => ?_)
          go_big_move
          refine hK.out _ ?_
          clear hK K
          refine wpAnyH_ready (rs := [15]) (fuel := 3) (by kernel_rfl) (by simp) ?_
          refine ready_want rfl (by kernel_rfl) (tf 2097151 24) (by kernel_rfl) (fun K hK => ?_) AllReadyH.nil
          simp only [List.getElem_toArray, List.getElem_cons_succ, List.getElem_cons_zero]
          go_big_op
          refine (CA.out _ hHeld.1).mono ?_
          rintro e w8 ⟨ad, cd, rfl, hrow, hb⟩
          have hS : Below w1.heap.size w1 w8 ∧ VarIs w8 w1.heap.size #[.int .i64 st, .int .i64 it, .slice b2 n2 d2, .slice b3 n3 d3, .slice b4 n4 d4, .slice b5 n5 d5] 27 ∧ RowS w8 (some ⟨gb, go, none⟩) s L := ⟨hHeld.1.trans (hb.mono hHeld.1.size), hHeld.2.1.below hb, hHeld.2.2.below hb⟩
          have HRW := Lib.hid hrow
          clear hb hrow
          refine hK.out _ _ hS (fun hHeld => ?_)
          clear hK K
          refine wpAnyH_ready (rs := [21]) (fuel := 2) (by kernel_rfl) (by simp) ?_
          refine ready_want rfl (by kernel_rfl) (tf 4194303 24) (by kernel_rfl) (fun K hK => ?_) AllReadyH.nil
          simp only [List.getElem_toArray, List.getElem_cons_succ, List.getElem_cons_zero]
          go_big_op
          refine (CH.out _ _ _ HRW.out).mono ?_
          rintro e w9 ⟨rfl, rfl⟩
          clear HRW
          refine hK.out _ _ hHeld (fun hHeld => ?_)
          clear hK K
          refine fast1 22 60 (.bool false) (.tmp 59) (.bool true) (fuel := 1) rfl rfl (by kernel_rfl) (by kernel_rfl) (by kernel_rfl) (fun _ _ _ h => h) (by kernel_rfl) (by kernel_rfl) (fun ρ hr0 _ w hSw => by simp [go_sem, hr0]) hHeld (tf 8388607 24) (by kernel_rfl) (fun K hK => ?_)
          go_big_move
          refine hK.out _ ?_
          clear hK K
          refine fast2 23 61 (.bool false) (.tmp 45) (.bool false) (.tmp 60) (.bool false) (fuel := 0) rfl rfl (by kernel_rfl) (by kernel_rfl) (by kernel_rfl) (fun _ _ _ h => h) (by kernel_rfl) (by kernel_rfl) (by kernel_rfl) (fun ρ hr0 hr1 hc w hSw => by simp [go_sem, hc, hr0, hr1]) hHeld (tf 16777215 24) (by kernel_rfl) (fun K hK => ?_)
          go_big_move
          refine hK.out _ ?_
          clear hK K
          refine wpAnyH_done (by kernel_rfl) ?_ _
          have HSE := Lib.hid hHeld
          have m2 := (RC.out _ HSE.out).2.2
          clear hHeld SD CA CH RC HSS
          go_wp2_with fail
          go_roundw
          case rel => exact ⟨k + 1, xt, hkn, rfl, by go_num, HD2.out, HSE.out⟩
          case measure => simp [intOf]; omega
        · have hks : k = s := by omega
          subst hks
          have hend : playL steps (tr.drop k) av0 = [] := by rw [← HD.out, List.drop_eq_nil_of_le (by have := HS.out; omega)]
          have SD : Below w1.heap.size w1 wr.drew ∧ VarIs wr.drew w1.heap.size #[.int .i64 st, .int .i64 it, .slice b2 n2 d2, .slice b3 n3 d3, .slice b4 n4 d4, .slice b5 n5 d5] 27 ∧ RowS wr.drew ag k L := ⟨HSS.out.1.drew, HSS.out.2.1, HSS.out.2.2⟩
          by_cases hkt : k = tn
          · have heq : ((k : Int) == (tn : Int)) = true := by simp [hkt]
            have HKT : Hid ((k : Int) = (tn : Int)) := by unfold Hid; omega
            clear hend hkt
            go_wp2_with fail
            refine wp_region_tf (S := fun w' => Below w1.heap.size w1 w' ∧ VarIs w' w1.heap.size #[.int .i64 st, .int .i64 it, .slice b2 n2 d2, .slice b3 n3 d3, .slice b4 n4 d4, .slice b5 n5 d5] 27 ∧ RowS w' ag k L) 23 (by kernel_rfl) (by kernel_rfl) (by kernel_rfl) SD (fun hHeld => ?_)
            refine fast_move 0 67 (.slice ag k cg) (.tmp 5) (fuel := 22) rfl rfl (by kernel_rfl) (by kernel_rfl) (by kernel_rfl) (fun _ _ _ h => h) (by kernel_rfl) (by kernel_rfl) (by first | exact Or.inl rfl | exact Or.inr rfl) hHeld (tf 1 23) (by kernel_rfl) (fun K hK => ?_)
            go_big_move
            refine hK.out _ ?_
            clear hK K
            refine fast1 1 68 (.int .i64 ((k : Nat) : Int)) (.tmp 67) (.slice ag k cg) (fuel := 21) rfl rfl (by kernel_rfl) (by kernel_rfl) (by kernel_rfl) (fun _ _ _ h => h) (by kernel_rfl) (by kernel_rfl) (fun ρ hr0 _ w hSw => by simp [go_sem, hr0]) hHeld (tf 3 23) (by kernel_rfl) (fun K hK => ?_)
            go_big_move
            refine hK.out _ ?_
            clear hK K
            refine fast_move 2 69 (.slice ta tn tc) (.tmp 4) (fuel := 20) rfl rfl (by kernel_rfl) (by kernel_rfl) (by kernel_rfl) (fun _ _ _ h => h) (by kernel_rfl) (by kernel_rfl) (by first | exact Or.inl rfl | exact Or.inr rfl) hHeld (tf 7 23) (by kernel_rfl) (fun K hK => ?_)
            go_big_move
            refine hK.out _ ?_
            clear hK K
            refine fast1 3 70 (.int .i64 ((tn : Nat) : Int)) (.tmp 69) (.slice ta tn tc) (fuel := 19) rfl rfl (by kernel_rfl) (by kernel_rfl) (by kernel_rfl) (fun _ _ _ h => h) (by kernel_rfl) (by kernel_rfl) (fun ρ hr0 _ w hSw => by simp [go_sem, hr0]) hHeld (tf 15 23) (by kernel_rfl) (fun K hK => ?_)
            go_big_move
            refine hK.out _ ?_
            clear hK K
            refine fast2 4 71 (.bool true) (.tmp 68) (.int .i64 ((k : Nat) : Int)) (.tmp 70) (.int .i64 ((tn : Nat) : Int)) (fuel := 18) rfl rfl (by kernel_rfl) (by kernel_rfl) (by kernel_rfl) (fun _ _ _ h => h) (by kernel_rfl) (by kernel_rfl) (by kernel_rfl) (fun ρ hr0 hr1 _ w hSw => by have m := HKT.out; simp [go_sem, hr0, hr1, m]) hHeld (tf 31 23) (by kernel_rfl) (fun K hK => ?_)
            go_big_move
            refine hK.out _ ?_
            clear hK K
            refine fast_move 5 72 (.bool true) (.tmp 71) (fuel := 17) rfl rfl (by kernel_rfl) (by kernel_rfl) (by kernel_rfl) (fun _ _ _ h => h) (by kernel_rfl) (by kernel_rfl) (by first | exact Or.inl rfl | exact Or.inr rfl) hHeld (tf 63 23) (by kernel_rfl) (fun K hK => ?_)
            go_big_move
            refine hK.out _ ?_
            clear hK K
            refine fast_skip 6 73 (fuel := 16) rfl rfl (by kernel_rfl) (by kernel_rfl) (by kernel_rfl) (fun _ _ _ h => h) (by kernel_rfl) hHeld (tf 127 23) (by kernel_rfl) (fun K hK => ?_)
            go_big_move
            refine hK.out _ ?_
            clear hK K
            refine fast_skip 7 74 (fuel := 15) rfl rfl (by kernel_rfl) (by kernel_rfl) (by kernel_rfl) (fun _ _ _ h => h) (by kernel_rfl) hHeld (tf 255 23) (by kernel_rfl) (fun K hK => ?_)
            go_big_move
            refine hK.out _ ?_
            clear hK K
            refine fast_skip 8 75 (fuel := 14) rfl rfl (by kernel_rfl) (by kernel_rfl) (by kernel_rfl) (fun _ _ _ h => h) (by kernel_rfl) hHeld (tf 511 23) (by kernel_rfl) (fun K hK => ?_)
            go_big_move
            refine hK.out _ ?_
            clear hK K
            refine fast_skip 9 76 (fuel := 13) rfl rfl (by kernel_rfl) (by kernel_rfl) (by kernel_rfl) (fun _ _ _ h => h) (by kernel_rfl) hHeld (tf 1023 23) (by kernel_rfl) (fun K hK => ?_)
            go_big_move
            refine hK.out _ ?_
            clear hK K
            refine fast_skip 10 77 (fuel := 12) rfl rfl (by kernel_rfl) (by kernel_rfl) (by kernel_rfl) (fun _ _ _ h => h) (by kernel_rfl) hHeld (tf 2047 23) (by kernel_rfl) (fun K hK => ?_)
            go_big_move
            refine hK.out _ ?_
            clear hK K
            refine fast_skip 11 78 (fuel := 11) rfl rfl (by kernel_rfl) (by kernel_rfl) (by kernel_rfl) (fun _ _ _ h => h) (by kernel_rfl) hHeld (tf 4095 23) (by kernel_rfl) (fun K hK => ?_)
            go_big_move
            refine hK.out _ ?_
            clear hK K
            refine fast_skip 12 79 (fuel := 10) rfl rfl (by kernel_rfl) (by kernel_rfl) (by kernel_rfl) (fun _ _ _ h => h) (by kernel_rfl) hHeld (tf 8191 23) (by kernel_rfl) (fun K hK => ?_)
            go_big_move
            refine hK.out _ ?_
            clear hK K
            refine fast_skip 13 80 (fuel := 9) rfl rfl (by kernel_rfl) (by kernel_rfl) (by kernel_rfl) (fun _ _ _ h => h) (by kernel_rfl) hHeld (tf 16383 23) (by kernel_rfl) (fun K hK => ?_)
            go_big_move
            refine hK.out _ ?_
            clear hK K
            refine fast_skip 14 81 (fuel := 8) rfl rfl (by kernel_rfl) (by kernel_rfl) (by kernel_rfl) (fun _ _ _ h => h) (by kernel_rfl) hHeld (tf 32767 23) (by kernel_rfl) (fun K hK => ?_)
            go_big_move
            refine hK.out _ ?_
            clear hK K
            refine fast_skip 15 82 (fuel := 7) rfl rfl (by kernel_rfl) (by kernel_rfl) (by kernel_rfl) (fun _ _ _ h => h) (by kernel_rfl) hHeld (tf 65535 23) (by kernel_rfl) (fun K hK => ?_)
            go_big_move
            refine hK.out _ ?_
            clear hK K
            refine fast_skip 16 83 (fuel := 6) rfl rfl (by kernel_rfl) (by kernel_rfl) (by kernel_rfl) (fun _ _ _ h => h) (by kernel_rfl) hHeld (tf 131071 23) (by kernel_rfl) (fun K hK => ?_)
            go_big_move
            refine hK.out _ ?_
            clear hK K
            refine fast_skip 17 84 (fuel := 5) rfl rfl (by kernel_rfl) (by kernel_rfl) (by kernel_rfl) (fun _ _ _ h => h) (by kernel_rfl) hHeld (tf 262143 23) (by kernel_rfl) (fun K hK => ?_)
            go_big_move
            refine hK.out _ ?_
            clear hK K
            refine fast_skip 18 85 (fuel := 4) rfl rfl (by kernel_rfl) (by kernel_rfl) (by kernel_rfl) (fun _ _ _ h => h) (by kernel_rfl) hHeld (tf 524287 23) (by kernel_rfl) (fun K hK => ?_)
            go_big_move
            refine hK.out _ ?_
            clear hK K
            refine fast_skip 19 86 (fuel := 3) rfl rfl (by kernel_rfl) (by kernel_rfl) (by kernel_rfl) (fun _ _ _ h => h) (by kernel_rfl) hHeld (tf 1048575 23) (by kernel_rfl) (fun K hK => ?_)
            go_big_move
            refine hK.out _ ?_
            clear hK K
            refine fast_skip 20 87 (fuel := 2) rfl rfl (by kernel_rfl) (by kernel_rfl) (by kernel_rfl) (fun _ _ _ h => h) (by kernel_rfl) hHeld (tf 2097151 23) (by kernel_rfl) (fun K hK => ?_)
            go_big_move
            refine hK.out _ ?_
            clear hK K
            refine fast2 21 88 (.bool true) (.tmp 72) (.bool true) (.tmp 87) (undef) (fuel := 1) rfl rfl (by kernel_rfl) (by kernel_rfl) (by kernel_rfl) (fun _ _ _ h => h) (by kernel_rfl) (by kernel_rfl) (by kernel_rfl) (fun ρ hr0 hr1 hc w hSw => by simp [go_sem, hc, hr0, hr1]) hHeld (tf 4194303 23) (by kernel_rfl) (fun K hK => ?_)
            go_big_move
            refine hK.out _ ?_
            clear hK K
            refine fast_move 22 2 (.bool true) (.tmp 88) (fuel := 0) rfl rfl (by kernel_rfl) (by kernel_rfl) (by kernel_rfl) (fun _ _ _ h => h) (by kernel_rfl) (by kernel_rfl) (by first | exact Or.inl rfl | exact Or.inr rfl) hHeld (tf 8388607 23) (by kernel_rfl) (fun K hK => ?_)
            go_big_move
            refine hK.out _ ?_
            clear hK K
            refine wpAnyH_done (by kernel_rfl) ?_ _
            have HSE := Lib.hid hHeld
            clear hHeld SD
            go_wp2_with fail
            go_ret
            exact ⟨rfl, BW1.out.trans (HSE.out.1.mono hszw)⟩
          · have heq : ((k : Int) == (tn : Int)) = false := by simp; omega
            have hrow : rowL steps av0 = [] := playL_nil hend (by have := HTL.out; omega)
            have e1 : ofL steps av0 ins = [] := ofL_none hrow
            have e2 : ofL steps av0 outs = [] := ofL_none hrow
            have e3 : ofL steps av0 hids = [] := ofL_none hrow
            have CT : Hid (∀ W, Below w1.heap.size w1 W → Calls Try.prog 14 #[.agg #[.int .i64 st, .int .i64 it, .slice b2 n2 d2, .slice b3 n3 d3, .slice b4 n4 d4, .slice b5 n5 d5], .int .i64 av0] W fun e w' => ∃ ad cd, e = .returned (.slice ad 0 cd) ∧ Below W.heap.size W w') := fun W hW => by
              have h0 := implTaken_any ⟨st, it, ins, outs, hids, steps⟩ _ av0 W (HROW.out W hW) f2 f3 f4 f5
              rw [if_pos HOK.out] at h0
              simp only [e1] at h0
              refine h0.mono ?_
              rintro e w' ⟨v', rfl, ho, hb⟩
              obtain ⟨ad, c, rfl⟩ := ho.form
              exact ⟨ad, c, rfl, hb⟩
            have CS : Hid (∀ W, Below w1.heap.size w1 W → Calls Try.prog 15 #[.agg #[.int .i64 st, .int .i64 it, .slice b2 n2 d2, .slice b3 n3 d3, .slice b4 n4 d4, .slice b5 n5 d5], .int .i64 av0] W fun e w' => ∃ ad cd, e = .returned (.slice ad 0 cd) ∧ Below W.heap.size W w') := fun W hW => by
              have h0 := implSaid_any ⟨st, it, ins, outs, hids, steps⟩ _ av0 W (HROW.out W hW) f2 f3 f4 f5
              rw [if_pos HOK.out] at h0
              simp only [e2] at h0
              refine h0.mono ?_
              rintro e w' ⟨v', rfl, ho, hb⟩
              obtain ⟨ad, c, rfl⟩ := ho.form
              exact ⟨ad, c, rfl, hb⟩
            have CD : Hid (∀ W, Below w1.heap.size w1 W → Calls Try.prog 16 #[.agg #[.int .i64 st, .int .i64 it, .slice b2 n2 d2, .slice b3 n3 d3, .slice b4 n4 d4, .slice b5 n5 d5], .int .i64 av0] W fun e w' => ∃ ad cd, e = .returned (.slice ad 0 cd) ∧ Below W.heap.size W w') := fun W hW => by
              have h0 := implDone_any ⟨st, it, ins, outs, hids, steps⟩ _ av0 W (HROW.out W hW) f2 f3 f4 f5
              rw [if_pos HOK.out] at h0
              simp only [e3] at h0
              refine h0.mono ?_
              rintro e w' ⟨v', rfl, ho, hb⟩
              obtain ⟨ad, c, rfl⟩ := ho.form
              exact ⟨ad, c, rfl, hb⟩
            have HKT : Hid (¬ (k : Int) = (tn : Int)) := by unfold Hid; omega
            clear hend hrow e1 e2 e3 hkt
            go_wp2_with fail
            refine wp_region_tf (S := fun w' => Below w1.heap.size w1 w' ∧ VarIs w' w1.heap.size #[.int .i64 st, .int .i64 it, .slice b2 n2 d2, .slice b3 n3 d3, .slice b4 n4 d4, .slice b5 n5 d5] 27 ∧ RowS w' ag k L) 23 (by kernel_rfl) (by kernel_rfl) (by kernel_rfl) SD (fun hHeld => ?_)
            refine fast_move 0 67 (.slice ag k cg) (.tmp 5) (fuel := 22) rfl rfl (by kernel_rfl) (by kernel_rfl) (by kernel_rfl) (fun _ _ _ h => h) (by kernel_rfl) (by kernel_rfl) (by first | exact Or.inl rfl | exact Or.inr rfl) hHeld (tf 1 23) (by kernel_rfl) (fun K hK => ?_)
            go_big_move
            refine hK.out _ ?_
            clear hK K
            refine fast1 1 68 (.int .i64 ((k : Nat) : Int)) (.tmp 67) (.slice ag k cg) (fuel := 21) rfl rfl (by kernel_rfl) (by kernel_rfl) (by kernel_rfl) (fun _ _ _ h => h) (by kernel_rfl) (by kernel_rfl) (fun ρ hr0 _ w hSw => by simp [go_sem, hr0]) hHeld (tf 3 23) (by kernel_rfl) (fun K hK => ?_)
            go_big_move
            refine hK.out _ ?_
            clear hK K
            refine fast_move 2 69 (.slice ta tn tc) (.tmp 4) (fuel := 20) rfl rfl (by kernel_rfl) (by kernel_rfl) (by kernel_rfl) (fun _ _ _ h => h) (by kernel_rfl) (by kernel_rfl) (by first | exact Or.inl rfl | exact Or.inr rfl) hHeld (tf 7 23) (by kernel_rfl) (fun K hK => ?_)
            go_big_move
            refine hK.out _ ?_
            clear hK K
            refine fast1 3 70 (.int .i64 ((tn : Nat) : Int)) (.tmp 69) (.slice ta tn tc) (fuel := 19) rfl rfl (by kernel_rfl) (by kernel_rfl) (by kernel_rfl) (fun _ _ _ h => h) (by kernel_rfl) (by kernel_rfl) (fun ρ hr0 _ w hSw => by simp [go_sem, hr0]) hHeld (tf 15 23) (by kernel_rfl) (fun K hK => ?_)
            go_big_move
            refine hK.out _ ?_
            clear hK K
            refine fast2 4 71 (.bool false) (.tmp 68) (.int .i64 ((k : Nat) : Int)) (.tmp 70) (.int .i64 ((tn : Nat) : Int)) (fuel := 18) rfl rfl (by kernel_rfl) (by kernel_rfl) (by kernel_rfl) (fun _ _ _ h => h) (by kernel_rfl) (by kernel_rfl) (by kernel_rfl) (fun ρ hr0 hr1 _ w hSw => by have m := HKT.out; simp [go_sem, hr0, hr1, m]) hHeld (tf 31 23) (by kernel_rfl) (fun K hK => ?_)
            go_big_move
            refine hK.out _ ?_
            clear hK K
            refine fast_move 5 72 (.bool false) (.tmp 71) (fuel := 17) rfl rfl (by kernel_rfl) (by kernel_rfl) (by kernel_rfl) (fun _ _ _ h => h) (by kernel_rfl) (by kernel_rfl) (by first | exact Or.inl rfl | exact Or.inr rfl) hHeld (tf 63 23) (by kernel_rfl) (fun K hK => ?_)
            go_big_move
            refine hK.out _ ?_
            clear hK K
            refine fast_yields 6 73 (.agg #[.int .i64 st, .int .i64 it, .slice b2 n2 d2, .slice b3 n3 d3, .slice b4 n4 d4, .slice b5 n5 d5]) (fuel := 16) rfl rfl (by kernel_rfl) (by kernel_rfl) (by kernel_rfl) (fun _ _ _ h => h) (yieldsIf_load_mid (by rfl) _ _ rfl (w1.heap.size) 0 rfl #[.int .i64 st, .int .i64 it, .slice b2 n2 d2, .slice b3 n3 d3, .slice b4 n4 d4, .slice b5 n5 d5].toList _ (fun w hw => hw.2.1.range) Try.underlying27 rfl (by kernel_rfl)) hHeld (tf 127 23) (by kernel_rfl) (fun K hK => ?_)
            go_big_move
            refine hK.out _ ?_
            clear hK K
            refine fast_move 7 74 (.int .i64 av0) (.tmp 6) (fuel := 15) rfl rfl (by kernel_rfl) (by kernel_rfl) (by kernel_rfl) (fun _ _ _ h => h) (by kernel_rfl) (by kernel_rfl) (by first | exact Or.inl rfl | exact Or.inr rfl) hHeld (tf 255 23) (by kernel_rfl) (fun K hK => ?_)
            go_big_move
            refine hK.out _ ?_
            clear hK K
            refine fast_yields 10 77 (.agg #[.int .i64 st, .int .i64 it, .slice b2 n2 d2, .slice b3 n3 d3, .slice b4 n4 d4, .slice b5 n5 d5]) (fuel := 14) rfl rfl (by kernel_rfl) (by kernel_rfl) (by kernel_rfl) (fun _ _ _ h => h) (yieldsIf_load_mid (by rfl) _ _ rfl (w1.heap.size) 0 rfl #[.int .i64 st, .int .i64 it, .slice b2 n2 d2, .slice b3 n3 d3, .slice b4 n4 d4, .slice b5 n5 d5].toList _ (fun w hw => hw.2.1.range) Try.underlying27 rfl (by kernel_rfl)) hHeld (tf 1279 23) (by kernel_rfl) (fun K hK => ?_)
            go_big_move
            refine hK.out _ ?_
            clear hK K
            refine fast_move 11 78 (.int .i64 av0) (.tmp 6) (fuel := 13) rfl rfl (by kernel_rfl) (by kernel_rfl) (by kernel_rfl) (fun _ _ _ h => h) (by kernel_rfl) (by kernel_rfl) (by first | exact Or.inl rfl | exact Or.inr rfl) hHeld (tf 3327 23) (by kernel_rfl) (fun K hK => ?_)
            go_big_move
            refine hK.out _ ?_
            clear hK K
            refine fast_yields 15 82 (.agg #[.int .i64 st, .int .i64 it, .slice b2 n2 d2, .slice b3 n3 d3, .slice b4 n4 d4, .slice b5 n5 d5]) (fuel := 12) rfl rfl (by kernel_rfl) (by kernel_rfl) (by kernel_rfl) (fun _ _ _ h => h) (yieldsIf_load_mid (by rfl) _ _ rfl (w1.heap.size) 0 rfl #[.int .i64 st, .int .i64 it, .slice b2 n2 d2, .slice b3 n3 d3, .slice b4 n4 d4, .slice b5 n5 d5].toList _ (fun w hw => hw.2.1.range) Try.underlying27 rfl (by kernel_rfl)) hHeld (tf 36095 23) (by kernel_rfl) (fun K hK => ?_)
            go_big_move
            refine hK.out _ ?_
            clear hK K
            refine fast_move 16 83 (.int .i64 av0) (.tmp 6) (fuel := 11) rfl rfl (by kernel_rfl) (by kernel_rfl) (by kernel_rfl) (fun _ _ _ h => h) (by kernel_rfl) (by kernel_rfl) (by first | exact Or.inl rfl | exact Or.inr rfl) hHeld (tf 101631 23) (by kernel_rfl) (fun K hK => ?_)
            go_big_move
            refine hK.out _ ?_
            clear hK K
            refine wpAnyH_ready (rs := [8]) (fuel := 10) (by kernel_rfl) (by simp) ?_
            refine ready_want rfl (by kernel_rfl) (tf 101887 23) (by kernel_rfl) (fun K hK => ?_) AllReadyH.nil
            simp only [List.getElem_toArray, List.getElem_cons_succ, List.getElem_cons_zero]
            go_big_op
            refine (CT.out _ hHeld.1).mono ?_
            rintro e w10 ⟨adT, cdT, rfl, hb⟩
            have hS : Below w1.heap.size w1 w10 ∧ VarIs w10 w1.heap.size #[.int .i64 st, .int .i64 it, .slice b2 n2 d2, .slice b3 n3 d3, .slice b4 n4 d4, .slice b5 n5 d5] 27 ∧ RowS w10 ag k L := ⟨hHeld.1.trans (hb.mono hHeld.1.size), hHeld.2.1.below hb, hHeld.2.2.below hb⟩
            clear hb
            refine hK.out _ _ hS (fun hHeld => ?_)
            clear hK K
            refine fast1 9 76 (.int .i64 0) (.tmp 75) (.slice adT 0 cdT) (fuel := 9) rfl rfl (by kernel_rfl) (by kernel_rfl) (by kernel_rfl) (fun _ _ _ h => h) (by kernel_rfl) (by kernel_rfl) (fun ρ hr0 _ w hSw => by simp [go_sem, hr0]) hHeld (tf 102399 23) (by kernel_rfl) (fun K hK => ?_)
            go_big_move
            refine hK.out _ ?_
            clear hK K
            refine wpAnyH_ready (rs := [12]) (fuel := 8) (by kernel_rfl) (by simp) ?_
            refine ready_want rfl (by kernel_rfl) (tf 106495 23) (by kernel_rfl) (fun K hK => ?_) AllReadyH.nil
            simp only [List.getElem_toArray, List.getElem_cons_succ, List.getElem_cons_zero]
            go_big_op
            refine (CS.out _ hHeld.1).mono ?_
            rintro e w11 ⟨adS, cdS, rfl, hb⟩
            have hS : Below w1.heap.size w1 w11 ∧ VarIs w11 w1.heap.size #[.int .i64 st, .int .i64 it, .slice b2 n2 d2, .slice b3 n3 d3, .slice b4 n4 d4, .slice b5 n5 d5] 27 ∧ RowS w11 ag k L := ⟨hHeld.1.trans (hb.mono hHeld.1.size), hHeld.2.1.below hb, hHeld.2.2.below hb⟩
            clear hb
            refine hK.out _ _ hS (fun hHeld => ?_)
            clear hK K
            refine fast1 13 80 (.int .i64 0) (.tmp 79) (.slice adS 0 cdS) (fuel := 7) rfl rfl (by kernel_rfl) (by kernel_rfl) (by kernel_rfl) (fun _ _ _ h => h) (by kernel_rfl) (by kernel_rfl) (fun ρ hr0 _ w hSw => by simp [go_sem, hr0]) hHeld (tf 114687 23) (by kernel_rfl) (fun K hK => ?_)
            go_big_move
            refine hK.out _ ?_
            clear hK K
            refine fast2 14 81 (.int .i64 0) (.tmp 76) (.int .i64 0) (.tmp 80) (.int .i64 0) (fuel := 6) rfl rfl (by kernel_rfl) (by kernel_rfl) (by kernel_rfl) (fun _ _ _ h => h) (by kernel_rfl) (by kernel_rfl) (by kernel_rfl) (fun ρ hr0 hr1 _ w hSw => by simp [go_sem, hr0, hr1]; exact Go.IntWalk.i64_in _ (by constructor <;> omega)) hHeld (tf 131071 23) (by kernel_rfl) (fun K hK => ?_)
            go_big_move
            refine hK.out _ ?_
            clear hK K
            refine wpAnyH_ready (rs := [17]) (fuel := 5) (by kernel_rfl) (by simp) ?_
            refine ready_want rfl (by kernel_rfl) (tf 262143 23) (by kernel_rfl) (fun K hK => ?_) AllReadyH.nil
            simp only [List.getElem_toArray, List.getElem_cons_succ, List.getElem_cons_zero]
            go_big_op
            refine (CD.out _ hHeld.1).mono ?_
            rintro e w12 ⟨adD, cdD, rfl, hb⟩
            have hS : Below w1.heap.size w1 w12 ∧ VarIs w12 w1.heap.size #[.int .i64 st, .int .i64 it, .slice b2 n2 d2, .slice b3 n3 d3, .slice b4 n4 d4, .slice b5 n5 d5] 27 ∧ RowS w12 ag k L := ⟨hHeld.1.trans (hb.mono hHeld.1.size), hHeld.2.1.below hb, hHeld.2.2.below hb⟩
            clear hb
            refine hK.out _ _ hS (fun hHeld => ?_)
            clear hK K
            refine fast1 18 85 (.int .i64 0) (.tmp 84) (.slice adD 0 cdD) (fuel := 4) rfl rfl (by kernel_rfl) (by kernel_rfl) (by kernel_rfl) (fun _ _ _ h => h) (by kernel_rfl) (by kernel_rfl) (fun ρ hr0 _ w hSw => by simp [go_sem, hr0]) hHeld (tf 524287 23) (by kernel_rfl) (fun K hK => ?_)
            go_big_move
            refine hK.out _ ?_
            clear hK K
            refine fast2 19 86 (.int .i64 0) (.tmp 81) (.int .i64 0) (.tmp 85) (.int .i64 0) (fuel := 3) rfl rfl (by kernel_rfl) (by kernel_rfl) (by kernel_rfl) (fun _ _ _ h => h) (by kernel_rfl) (by kernel_rfl) (by kernel_rfl) (fun ρ hr0 hr1 _ w hSw => by simp [go_sem, hr0, hr1]; exact Go.IntWalk.i64_in _ (by constructor <;> omega)) hHeld (tf 1048575 23) (by kernel_rfl) (fun K hK => ?_)
            go_big_move
            refine hK.out _ ?_
            clear hK K
            refine fast1 20 87 (.bool true) (.tmp 86) (.int .i64 0) (fuel := 2) rfl rfl (by kernel_rfl) (by kernel_rfl) (by kernel_rfl) (fun _ _ _ h => h) (by kernel_rfl) (by kernel_rfl) (fun ρ hr0 hc w hSw => by simp [go_sem, hc, hr0]) hHeld (tf 2097151 23) (by kernel_rfl) (fun K hK => ?_)
            go_big_move
            refine hK.out _ ?_
            clear hK K
            refine fast2 21 88 (.bool true) (.tmp 72) (.bool false) (.tmp 87) (.bool true) (fuel := 1) rfl rfl (by kernel_rfl) (by kernel_rfl) (by kernel_rfl) (fun _ _ _ h => h) (by kernel_rfl) (by kernel_rfl) (by kernel_rfl) (fun ρ hr0 hr1 hc w hSw => by simp [go_sem, hc, hr0, hr1]) hHeld (tf 4194303 23) (by kernel_rfl) (fun K hK => ?_)
            go_big_move
            refine hK.out _ ?_
            clear hK K
            refine fast_move 22 2 (.bool true) (.tmp 88) (fuel := 0) rfl rfl (by kernel_rfl) (by kernel_rfl) (by kernel_rfl) (fun _ _ _ h => h) (by kernel_rfl) (by kernel_rfl) (by first | exact Or.inl rfl | exact Or.inr rfl) hHeld (tf 8388607 23) (by kernel_rfl) (fun K hK => ?_)
            go_big_move
            refine hK.out _ ?_
            clear hK K
            refine wpAnyH_done (by kernel_rfl) ?_ _
            have HSE := Lib.hid hHeld
            clear hHeld SD
            go_wp2_with fail
            go_ret
            exact ⟨rfl, BW1.out.trans (HSE.out.1.mono hszw)⟩

end Go.Proofs.Ytnglogkkkpegnaa
