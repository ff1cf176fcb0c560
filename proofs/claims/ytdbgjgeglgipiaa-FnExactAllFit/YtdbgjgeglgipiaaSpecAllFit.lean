/-
  The contract of the model's AllFit. Conditions: at most 2^20 automata, of lists of at most 2^20.
-/
import Derived.Test.YtdbgjgeglgipiaaIaS
import Derived.Test.YtdbgjgeglgipiaaSpecIaOk
import Derived.Test.YtdbgjgeglgipiaaSpecHas
namespace Go.Proofs.Ytdbgjgeglgipiaa
open Go.RowKit

def isTaker (x : Int) (a : IaD) : Bool := hasB a.ins x
def isSayer (x : Int) (a : IaD) : Bool := !hasB a.ins x && hasB a.outs x
def isHider (x : Int) (a : IaD) : Bool := !hasB a.ins x && !hasB a.outs x && hasB a.hids x
def countOf (p : IaD → Bool) (L : List IaD) : Nat := (L.filter p).length
/-- At most one takes 'x', at most one says it, and who hides it has it alone. -/
def fitAt (L : List IaD) (x : Int) : Bool := !(decide (1 < countOf (isTaker x) L) || decide (1 < countOf (isSayer x) L) || (decide (0 < countOf (isHider x) L) && decide (1 < countOf (isTaker x) L + countOf (isSayer x) L + countOf (isHider x) L)))
def allFitB (L : List IaD) : Bool := L.all iaOkB && ((List.range 12).all fun i => fitAt L (i : Int)) && decide (0 < L.length)

theorem count_step (p : IaD → Bool) (L : List IaD) (k : Nat) (hk : k < L.length) : countOf p (L.take (k + 1)) = countOf p (L.take k) + if p L[k] then 1 else 0 := by
  unfold countOf
  rw [List.take_succ_eq_append_getElem hk, List.filter_append, List.length_append]
  cases h : p L[k] <;> simp [h]

theorem count_le (p : IaD → Bool) (L : List IaD) (k : Nat) : countOf p (L.take k) ≤ k := by
  unfold countOf
  exact Nat.le_trans (List.length_filter_le _ _) (by simp; omega)

/-- An automaton's lists are short enough for the contracts. -/
def ShortL (x : IaD) : Prop := x.ins.length ≤ 1048576 ∧ x.outs.length ≤ 1048576 ∧ x.hids.length ≤ 1048576 ∧ x.steps.length ≤ 1048576

set_option maxRecDepth 20000 in
set_option maxHeartbeats 6400000 in
theorem specAllFit_any (ar : Option Addr) (n c : Nat) (L : List IaD) (w : World) (h : RowA w ar n L) (hn : n ≤ 1048576) (hf : ∀ x ∈ L, ShortL x) :
    Calls Try.prog 13 #[.slice ar n c] w fun e w' => e = .returned (.bool (allFitB L)) ∧ Below w.heap.size w w' := by
  have HL := Lib.hid h.1
  have HC := Lib.hid h.2
  have HF := Lib.hid hf
  obtain ⟨r, hr⟩ : ∃ r, r = allFitB L := ⟨_, rfl⟩
  rw [← hr]
  have H1 : Hid (∀ k, k < L.length → (∀ hk : k < L.length, iaOkB L[k] = false) → r = false) := fun k hk h0 => by
    have h1 : L.all iaOkB = false := by
      rw [List.all_eq_false]
      exact ⟨L[k], List.getElem_mem hk, by simp [h0 hk]⟩
    rw [hr]
    unfold allFitB
    rw [h1]
    rfl
  have H2 : Hid (∀ x : Nat, x < 12 → fitAt L (x : Int) = false → r = false) := fun x hx h0 => by
    have h1 : ((List.range 12).all fun i => fitAt L (i : Int)) = false := by
      rw [List.all_eq_false]
      exact ⟨x, List.mem_range.2 hx, by simp [h0]⟩
    rw [hr]
    unfold allFitB
    rw [h1]
    simp
  have H3 : Hid ((∀ k (hk : k < L.length), iaOkB L[k] = true) → (∀ x : Nat, x < 12 → fitAt L (x : Int) = true) → r = decide (0 < n)) := fun h0 h1 => by
    have e1 : L.all iaOkB = true := by
      rw [List.all_eq_true]
      intro x hx
      obtain ⟨k, hk, rfl⟩ := List.getElem_of_mem hx
      exact h0 k hk
    have e2 : ((List.range 12).all fun i => fitAt L (i : Int)) = true := by
      rw [List.all_eq_true]
      exact fun x hx => h1 x (List.mem_range.1 hx)
    rw [hr]
    unfold allFitB
    rw [e1, e2, h.1]
    rfl
  clear h hf hr
  have RG : Hid (∀ W k, Below w.heap.size w W → k < n → ∃ (x : IaD) (b off : Nat) (a2 : Option Addr) (n2 c2 : Nat) (a3 : Option Addr) (n3 c3 : Nat) (a4 : Option Addr) (n4 c4 : Nat) (a5 : Option Addr) (n5 c5 : Nat), L[k]? = some x ∧ ar = some ⟨b, off, none⟩ ∧ W.rangeAt b (off + k * 6) [.int .i64 x.states, .int .i64 x.init, .slice a2 n2 c2, .slice a3 n3 c3, .slice a4 n4 c4, .slice a5 n5 c5] ∧ IaRow W x (.agg #[.int .i64 x.states, .int .i64 x.init, .slice a2 n2 c2, .slice a3 n3 c3, .slice a4 n4 c4, .slice a5 n5 c5]) ∧ ShortL x) := fun W k hW hk => by
    obtain ⟨b, off, e, hb, hcell⟩ := HC.out (by omega)
    have hkx : k < L.length := by rw [HL.out]; exact hk
    obtain ⟨a2, n2, c2, a3, n3, c3, a4, n4, c4, a5, n5, c5, hra, hro⟩ := hcell k L[k] (List.getElem?_eq_getElem hkx)
    exact ⟨L[k], b, off, a2, n2, c2, a3, n3, c3, a4, n4, c4, a5, n5, c5, List.getElem?_eq_getElem hkx, e, rangeAt_below hra hb hW, hro.below hW, HF.out _ (List.getElem_mem hkx)⟩
  clear HC HF
  go_enter Try.func13, Try.ntmps13
  go_wp2_with fail
  go_loopw [3] (fun i wr => ∃ k : Nat, k ≤ n ∧ i = .int .i64 k ∧ Hid (∀ j (hj : j < L.length), j < k → iaOkB L[j] = true) ∧ Hid (Below w.heap.size w wr)) (fun i _ => n - (intOf i).toNat)
  case atStart => exact ⟨0, Nat.zero_le _, rfl, fun j hj h0 => absurd h0 (Nat.not_lt_zero _), Below.refl _ _⟩
  case round =>
    obtain ⟨k, hk, rfl, HO, HB⟩ := hrel
    by_cases hlt : k < n
    · obtain ⟨x, b, off, a2, n2, c2, a3, n3, c3, a4, n4, c4, a5, n5, c5, hx, rfl, hra, hro, s2, s3, s4, s5⟩ := RG.out wr k HB.out hlt
      have HRg := Lib.hid hra
      have hkx : k < L.length := by rw [HL.out]; exact hlt
      have hx2 : L[k] = x := Option.some.inj ((List.getElem?_eq_getElem hkx).symm.trans hx)
      obtain ⟨q, hq⟩ : ∃ q, q = iaOkB x := ⟨_, rfl⟩
      have CI := Lib.hid (specIaOk_any x _ wr hro s2 s3 s4 s5)
      rw [← hq] at CI
      have HQ : Hid (iaOkB L[k] = q) := by unfold Hid; rw [hx2, hq]
      have i1 : (0 : Int) ≤ (k : Int) := by omega
      have i2 : (k : Int) < (n : Int) := by omega
      clear hra hro hx hx2 hq s2 s3 s4 s5
      go_wp2_with (refine wpList_load_mid rfl _ _ rfl b (off + k * 6) rfl [.int .i64 x.states, .int .i64 x.init, .slice a2 n2 c2, .slice a3 n3 c3, .slice a4 n4 c4, .slice a5 n5 c5] _ HRg.out Try.underlying30 rfl (by kernel_rfl) ?_)
      refine CI.out.mono ?_
      rintro e w1 ⟨rfl, hb1⟩
      have HB1 : Hid (Below w.heap.size w w1) := HB.out.trans (hb1.mono HB.out.size)
      clear hb1 CI HRg HB
      cases q with
      | false =>
        have hr1 : r = false := H1.out k hkx (fun _ => HQ.out)
        clear H1 H2 H3
        subst hr1
        go_wp2
        go_ret
        exact ⟨rfl, HB1.out⟩
      | true =>
        have HO2 : Hid (∀ j (hj : j < L.length), j < k + 1 → iaOkB L[j] = true) := fun j hj h0 => by
          by_cases e : j = k
          · subst e; exact HQ.out
          · exact HO.out j hj (by omega)
        go_wp2
        go_roundw
        case rel => exact ⟨k + 1, by omega, by go_num, HO2.out, HB1.out⟩
        case measure => simp [intOf]; omega
    · obtain rfl : n = k := by omega
      have HALL : Hid (∀ k (hk : k < L.length), iaOkB L[k] = true) := fun j hj => HO.out j hj (by rw [← HL.out]; exact hj)
      have B1 := HB
      clear HO HB H1
      go_wp2_with fail
      go_loopw [4] (fun i wr => ∃ x : Nat, x ≤ 12 ∧ i = .int .i64 (x : Int) ∧ Hid (∀ y : Nat, y < x → fitAt L (y : Int) = true) ∧ Hid (Below w.heap.size w wr)) (fun i _ => 12 - (intOf i).toNat)
      case atStart => exact ⟨0, by omega, rfl, fun y hy => absurd hy (Nat.not_lt_zero _), B1.out⟩
      case round =>
        clear B1
        obtain ⟨x, hx, rfl, HX, HBx⟩ := hrel
        by_cases hxl : x < 12
        · obtain ⟨wo, hwo⟩ : ∃ z, z = wr := ⟨_, rfl⟩
          subst hwo
          have ix1 : (x : Int) < 12 := by omega
          have ix0 : (0 : Int) ≤ (x : Int) := by omega
          go_wp2_with fail
          go_loopw [5, 6, 7, 8] (fun tv sv hv iv wr => ∃ k t s h : Nat, k ≤ n ∧ tv = .int .i64 (t : Int) ∧ sv = .int .i64 (s : Int) ∧ hv = .int .i64 (h : Int) ∧ iv = .int .i64 (k : Int) ∧ t ≤ k ∧ s ≤ k ∧ h ≤ k ∧ Hid (t = countOf (isTaker x) (L.take k) ∧ s = countOf (isSayer x) (L.take k) ∧ h = countOf (isHider x) (L.take k)) ∧ Hid (Below w.heap.size w wr)) (fun _ _ _ iv _ => n - (intOf iv).toNat)
          case atStart => exact ⟨0, 0, 0, 0, Nat.zero_le _, rfl, rfl, rfl, rfl, Nat.le_refl _, Nat.le_refl _, Nat.le_refl _, ⟨rfl, rfl, rfl⟩, HBx.out⟩
          case round =>
            obtain ⟨k, t, s, h, hk, rfl, rfl, rfl, rfl, ht, hs, hh, HT, HB⟩ := hrel
            by_cases hlt : k < n
            · obtain ⟨y, b, off, a2, n2, c2, a3, n3, c3, a4, n4, c4, a5, n5, c5, hy, rfl, hra, hro, s2, s3, s4, s5⟩ := RG.out wr k HB.out hlt
              have hkx : k < L.length := by rw [HL.out]; exact hlt
              have hy2 : L[k] = y := Option.some.inj ((List.getElem?_eq_getElem hkx).symm.trans hy)
              have HS1 := count_step (isTaker x) L k hkx
              have HS2 := count_step (isSayer x) L k hkx
              have HS3 := count_step (isHider x) L k hkx
              rw [hy2, ← HT.out.1] at HS1
              rw [hy2, ← HT.out.2.1] at HS2
              rw [hy2, ← HT.out.2.2] at HS3
              unfold isTaker at HS1
              unfold isSayer at HS2
              unfold isHider at HS3
              obtain ⟨r2, r3, r4, _⟩ := rowA_parts hro
              have e2 := r2.1
              have e3 := r3.1
              have e4 := r4.1
              obtain ⟨q2, hq2⟩ : ∃ q, q = hasB y.ins (x : Int) := ⟨_, rfl⟩
              obtain ⟨q3, hq3⟩ : ∃ q, q = hasB y.outs (x : Int) := ⟨_, rfl⟩
              obtain ⟨q4, hq4⟩ : ∃ q, q = hasB y.hids (x : Int) := ⟨_, rfl⟩
              rw [← hq2] at HS1
              rw [← hq2, ← hq3] at HS2
              rw [← hq2, ← hq3, ← hq4] at HS3
              have C2 := Lib.hid (specSetHas_any a2 n2 c2 (x : Int) y.ins wr r2 (by omega))
              have C3 := Lib.hid (specSetHas_any a3 n3 c3 (x : Int) y.outs wr r3 (by omega))
              have C4 := Lib.hid (specSetHas_any a4 n4 c4 (x : Int) y.hids wr r4 (by omega))
              rw [← hq2] at C2
              rw [← hq3] at C3
              rw [← hq4] at C4
              have HSA : Hid (countOf (isTaker x) (L.take (k + 1)) = t + if q2 then 1 else 0) := HS1
              have HSB : Hid (countOf (isSayer x) (L.take (k + 1)) = s + if !q2 && q3 then 1 else 0) := HS2
              have HSC : Hid (countOf (isHider x) (L.take (k + 1)) = h + if !q2 && !q3 && q4 then 1 else 0) := HS3
              have m2 := hra 2 (.slice a2 n2 c2) rfl
              have m3 := hra 3 (.slice a3 n3 c3) rfl
              have m4 := hra 4 (.slice a4 n4 c4) rfl
              have i1 : (0 : Int) ≤ (k : Int) := by omega
              have i2 : (k : Int) < (n : Int) := by omega
              clear HS1 HS2 HS3 hra hro hy hy2 hq2 hq3 hq4 r2 r3 r4 e2 e3 e4 s2 s3 s4 s5 HT hkx
              go_wp2_with fail
              refine C2.out.mono ?_
              rintro e w2 ⟨rfl, rfl⟩
              cases q2 with
              | true =>
                have HN : Hid (t + 1 = countOf (isTaker x) (L.take (k + 1)) ∧ s = countOf (isSayer x) (L.take (k + 1)) ∧ h = countOf (isHider x) (L.take (k + 1))) := ⟨HSA.out.symm, HSB.out.symm, HSC.out.symm⟩
                clear HSA HSB HSC C2 C3 C4
                go_wp2_with fail
                go_roundw
                case rel => exact ⟨k + 1, t + 1, s, h, by omega, by go_num, rfl, rfl, by go_num, by omega, by omega, by omega, HN.out, HB.out⟩
                case measure => simp [intOf]; omega
              | false =>
                go_wp2_with fail
                refine C3.out.mono ?_
                rintro e w3 ⟨rfl, rfl⟩
                cases q3 with
                | true =>
                  have HN : Hid (t = countOf (isTaker x) (L.take (k + 1)) ∧ s + 1 = countOf (isSayer x) (L.take (k + 1)) ∧ h = countOf (isHider x) (L.take (k + 1))) := ⟨HSA.out.symm, HSB.out.symm, HSC.out.symm⟩
                  clear HSA HSB HSC C2 C3 C4
                  go_wp2_with fail
                  go_roundw
                  case rel => exact ⟨k + 1, t, s + 1, h, by omega, rfl, by go_num, rfl, by go_num, by omega, by omega, by omega, HN.out, HB.out⟩
                  case measure => simp [intOf]; omega
                | false =>
                  go_wp2_with fail
                  refine C4.out.mono ?_
                  rintro e w4 ⟨rfl, rfl⟩
                  cases q4 with
                  | true =>
                    have HN : Hid (t = countOf (isTaker x) (L.take (k + 1)) ∧ s = countOf (isSayer x) (L.take (k + 1)) ∧ h + 1 = countOf (isHider x) (L.take (k + 1))) := ⟨HSA.out.symm, HSB.out.symm, HSC.out.symm⟩
                    clear HSA HSB HSC C2 C3 C4
                    go_wp2_with fail
                    go_roundw
                    case rel => exact ⟨k + 1, t, s, h + 1, by omega, rfl, rfl, by go_num, by go_num, by omega, by omega, by omega, HN.out, HB.out⟩
                    case measure => simp [intOf]; omega
                  | false =>
                    have HN : Hid (t = countOf (isTaker x) (L.take (k + 1)) ∧ s = countOf (isSayer x) (L.take (k + 1)) ∧ h = countOf (isHider x) (L.take (k + 1))) := ⟨HSA.out.symm, HSB.out.symm, HSC.out.symm⟩
                    clear HSA HSB HSC C2 C3 C4
                    go_wp2_with fail
                    go_roundw
                    case rel => exact ⟨k + 1, t, s, h, by omega, rfl, rfl, rfl, by go_num, by omega, by omega, by omega, HN.out, HB.out⟩
                    case measure => simp [intOf]; omega
            · obtain rfl : n = k := by omega
              have hFA : fitAt L (x : Int) = !(decide (1 < t) || decide (1 < s) || (decide (0 < h) && decide (1 < t + s + h))) := by
                obtain ⟨f1, f2, f3⟩ := HT.out
                rw [List.take_of_length_le (by rw [HL.out]; omega)] at f1 f2 f3
                unfold fitAt
                rw [← f1, ← f2, ← f3]
              have HFA := Lib.hid hFA
              clear hFA HT
              have j0 : t ≤ 1048576 := by omega
              have j1 : s ≤ 1048576 := by omega
              have j2 : h ≤ 1048576 := by omega
              by_cases h1 : 1 < t
              · have g1 : (1 : Int) < (t : Int) := by omega
                have hr1 : r = false := H2.out x hxl (by rw [HFA.out]; simp; omega)
                clear H2 H3 HFA HX
                subst hr1
                go_wp2_with fail
                go_ret
                exact ⟨rfl, HB.out⟩
              · have g1 : ¬ (1 : Int) < (t : Int) := by omega
                by_cases h2 : 1 < s
                · have g2 : (1 : Int) < (s : Int) := by omega
                  have hr1 : r = false := H2.out x hxl (by rw [HFA.out]; simp; omega)
                  clear H2 H3 HFA HX
                  subst hr1
                  go_wp2_with fail
                  go_ret
                  exact ⟨rfl, HB.out⟩
                · have g2 : ¬ (1 : Int) < (s : Int) := by omega
                  by_cases h3 : 0 < h
                  · have g3 : (0 : Int) < (h : Int) := by omega
                    by_cases h4 : 1 < t + s + h
                    · have g4 : (1 : Int) < (t : Int) + (s : Int) + (h : Int) := by omega
                      have hr1 : r = false := H2.out x hxl (by rw [HFA.out]; simp; omega)
                      clear H2 H3 HFA HX
                      subst hr1
                      go_wp2_with fail
                      go_ret
                      exact ⟨rfl, HB.out⟩
                    · have g4 : ¬ (1 : Int) < (t : Int) + (s : Int) + (h : Int) := by omega
                      have HX2 : Hid (∀ y : Nat, y < x + 1 → fitAt L (y : Int) = true) := fun y hy => by
                        by_cases e : y = x
                        · subst e; rw [HFA.out]; simp; omega
                        · exact HX.out y (by omega)
                      clear HFA HX
                      go_wp2_with fail
                      go_roundw
                      case rel => exact ⟨x + 1, by omega, by go_num, HX2.out, HB.out⟩
                      case measure => simp [intOf]; omega
                  · have g3 : ¬ (0 : Int) < (h : Int) := by omega
                    have HX2 : Hid (∀ y : Nat, y < x + 1 → fitAt L (y : Int) = true) := fun y hy => by
                      by_cases e : y = x
                      · subst e; rw [HFA.out]; simp; omega
                      · exact HX.out y (by omega)
                    clear HFA HX
                    go_wp2_with fail
                    go_roundw
                    case rel => exact ⟨x + 1, by omega, by go_num, HX2.out, HB.out⟩
                    case measure => simp [intOf]; omega
        · have hxx : x = 12 := by omega
          subst hxx
          have hr1 : r = decide (0 < n) := H3.out HALL.out (fun y hy => HX.out y hy)
          have hr2 : decide ((0 : Int) < (n : Int)) = decide (0 < n) := by simp
          clear H2 H3 HALL HX
          subst hr1
          go_wp2_with fail
          go_ret
          exact ⟨ret_bool (by simp), HBx.out⟩

end Go.Proofs.Ytdbgjgeglgipiaa
