/-
  The contract of the program's holdsWith. Conditions: what the two outlooks and the round hold is as the premises say.
-/
import Derived.Test.YtdbgjgeglgipiaaGreatUnmatched
namespace Go.Proofs.YtdbgjgeglgipiaaGreat
open Go.RowKit

/-- Is each that has 'p' one that has 'q'? -/
def subB (p q : Nat → Bool) : Bool := (List.range 16).all fun i => !p i || q i

theorem Mask.eq_zero {M : Int} {p : Nat → Bool} (h : Mask M p) : M = 0 ↔ ∀ i, i < 16 → p i = false := by
  obtain ⟨b, rfl, hb⟩ := h
  constructor
  · intro e i hi
    have : b = 0#16 := BitVec.eq_of_toNat_eq (by simpa using e)
    rw [← hb i hi, this]
    simp
  · intro e
    have : b = 0#16 := BitVec.eq_of_getLsbD_eq fun i hi => by rw [hb i hi, e i hi]; simp
    rw [this]
    rfl

theorem Mask.sub {M N : Int} {p q : Nat → Bool} (h : Mask M p) (k : Mask N q) : (bits .andNot .u16 M N != 0) = !subB p q := by
  have h0 := (h.andNot k).eq_zero
  unfold subB
  by_cases e : bits .andNot .u16 M N = 0
  · rw [e]
    have h1 := h0.1 e
    have h2 : ((List.range 16).all fun i => !p i || q i) = true := by
      rw [List.all_eq_true]
      intro i hi
      have := h1 i (List.mem_range.1 hi)
      cases h3 : p i <;> cases h4 : q i <;> simp_all
    rw [h2]
    rfl
  · have h2 : ((List.range 16).all fun i => !p i || q i) = false := by
      cases hq : ((List.range 16).all fun i => !p i || q i) with
      | false => rfl
      | true =>
        rw [List.all_eq_true] at hq
        refine absurd (h0.2 fun i hi => ?_) e
        have := hq i (List.mem_range.2 hi)
        cases h3 : p i <;> cases h4 : q i <;> simp_all
    rw [h2]
    simpa using e

set_option maxRecDepth 20000 in
set_option maxHeartbeats 6400000 in
theorem holdsWith_any (CV CU : Array Value) (fv fu : Nat → List Int) (MV NV MU NU : Int) (sv pv su pu : Nat → Bool) (bv bu : Nat) (ra : Option Addr) (rn rc : Nat) (R : Nat → Nat → Bool) (w : World)
    (hv : OutX w bv fv 12 CV MV NV) (hu : OutX w bu fu 12 CU MU NU) (hMV : Mask MV sv) (hNV : Mask NV pv) (hMU : Mask MU su) (hNU : Mask NU pu) (hr : RoundAt w ra rn R) (lv : ∀ k x, x ∈ fv k → 0 ≤ x ∧ x < (rn : Int)) (lu : ∀ k x, x ∈ fu k → 0 ≤ x ∧ x < 40) (nv : ∀ k, (fv k).length ≤ 40) (nu : ∀ k, (fu k).length ≤ 40) :
    Calls Tryz.prog 36 #[.agg CV, .agg CU, .slice ra rn rc] w fun e w' => e = .returned (.bool (subB su sv && subB pv pu && (unmOf (fun k => su k || pv k) fv fu R (List.range 12)).isNone)) ∧ Below w.heap.size w w' := by
  have S0 : Hid (UnmS w ((w.alloc (.cells CV 67)).alloc (.cells CU 67)) CV CU) := ⟨((Below.refl _ _).alloc (Nat.le_refl _) _).alloc (by simp) _, (VarIs.new w _ _ rfl).alloc _, VarIs.new _ _ _ (by simp)⟩
  have CUM := Lib.hid (fun W (hW : Below w.heap.size w W) => unmatched_any CV CU fv fu MV NV MU NU pv su bv bu ra rn rc R W (hv.below hW) (hu.below hW) hNV hMU (hr.below hW) lv lu nv nu)
  obtain ⟨O, hO⟩ : ∃ o, o = unmOf (fun k => su k || pv k) fv fu R (List.range 12) := ⟨_, rfl⟩
  rw [← hO] at CUM ⊢
  have z1 := hMU.sub hMV
  have z2 := hNV.sub hNU
  obtain ⟨q1, hq1⟩ : ∃ q, q = subB su sv := ⟨_, rfl⟩
  obtain ⟨q2, hq2⟩ : ∃ q, q = subB pv pu := ⟨_, rfl⟩
  rw [← hq1] at z1 ⊢
  rw [← hq2] at z2 ⊢
  have v0 := S0.out.2.1.cell (j := 0) (u := .int .u16 MV) hv.2.1
  have v1 := S0.out.2.1.cell (j := 1) (u := .int .u16 NV) hv.2.2.1
  have u0 := S0.out.2.2.cell (j := 0) (u := .int .u16 MU) hu.2.1
  have u1 := S0.out.2.2.cell (j := 1) (u := .int .u16 NU) hu.2.2.1
  have lCV : CV.toList.length = 14 := by simpa using hv.1
  have lCU : CU.toList.length = 14 := by simpa using hu.1
  have HCV := Lib.hid lCV
  have HCU := Lib.hid lCU
  have RGV := Lib.hid S0.out.2.1.range
  have RGU := Lib.hid S0.out.2.2.range
  clear hO hq1 hq2 lCV lCU hv hu hMV hNV hMU hNU hr lv lu nv nu
  cases q1 with
  | false =>
    simp only [Bool.not_false] at z1
    go_enter Tryz.func36, Tryz.ntmps36
    go_wp2_with fail
    go_ret
    exact ⟨rfl, S0.out.1⟩
  | true =>
    simp only [Bool.not_true] at z1
    cases q2 with
    | false =>
      simp only [Bool.not_false] at z2
      go_enter Tryz.func36, Tryz.ntmps36
      go_wp2_with fail
      go_ret
      exact ⟨rfl, S0.out.1⟩
    | true =>
      simp only [Bool.not_true] at z2
      go_enter Tryz.func36, Tryz.ntmps36
      go_wp2_with (first | refine wpList_load_mid rfl _ _ rfl w.heap.size 0 rfl CV.toList _ RGV.out Tryz.underlying67 rfl (by rw [HCV.out]; kernel_rfl) ?_ | refine wpList_load_mid rfl _ _ rfl (w.heap.size + 1) 0 rfl CU.toList _ RGU.out Tryz.underlying67 rfl (by rw [HCU.out]; kernel_rfl) ?_)
      clear v0 v1 u0 u1 z1 z2
      refine (CUM.out _ S0.out.1).mono ?_
      rintro e w1 ⟨rfl, hb⟩
      have B1 : Hid (Below w.heap.size w w1) := S0.out.1.trans (hb.mono S0.out.1.size)
      clear hb CUM S0 RGV RGU
      cases O with
      | none =>
        unfold unmVal
        simp only
        go_wp2_with fail
        go_ret
        exact ⟨rfl, B1.out⟩
      | some kx =>
        obtain ⟨k, x⟩ := kx
        unfold unmVal
        simp only
        go_wp2_with fail
        go_ret
        exact ⟨rfl, B1.out⟩

end Go.Proofs.YtdbgjgeglgipiaaGreat
