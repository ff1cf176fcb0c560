/-
  The contract of the program's unmatched: the first action that is asked of both, and the first state that one comes to with it, where the other comes to none that is in a pair with that one. Conditions: what the two outlooks and the round hold is as the premises say.
-/
import Derived.Test.YtdbgjgeglgipiaaGreatOutlook
import Derived.Test.YtdbgjgeglgipiaaGreatBits64
import Derived.Test.YtdbgjgeglgipiaaGreatFast
namespace Go.Proofs.YtdbgjgeglgipiaaGreat
open Go.RowKit

/-- A round: a row of pointers, each to the bits of one state. -/
def RoundAt (W : World) (ra : Option Addr) (rn : Nat) (R : Nat → Nat → Bool) : Prop :=
  0 < rn → ∃ b off, ra = some ⟨b, off, none⟩ ∧ b < W.heap.size ∧ ∀ v, v < rn → ∃ g o X, W.cell? ⟨b, off + v, none⟩ = some (.pointer (some ⟨g, o, none⟩)) ∧ g < W.heap.size ∧ W.cell? ⟨g, o, none⟩ = some (.int .u64 X) ∧ Bits X (R v)

theorem RoundAt.below {W W' : World} {ra : Option Addr} {rn : Nat} {R : Nat → Nat → Bool} (h : RoundAt W ra rn R) (hb : Below W.heap.size W W') : RoundAt W' ra rn R := fun h0 => by
  obtain ⟨b, off, e, hlt, hc⟩ := h h0
  refine ⟨b, off, e, Nat.lt_of_lt_of_le hlt hb.size, fun v hv => ?_⟩
  obtain ⟨g, o, X, c1, hg, c2, hX⟩ := hc v hv
  exact ⟨g, o, X, (hb.cell (p := ⟨b, off + v, none⟩) hlt).trans c1, Nat.lt_of_lt_of_le hg hb.size, (hb.cell (p := ⟨g, o, none⟩) hg).trans c2, hX⟩

/-- Both outlooks' boxes stand, and all that lay there. -/
def UnmS (w W : World) (A B : Array Value) : Prop := Below w.heap.size w W ∧ VarIs W w.heap.size A 67 ∧ VarIs W (w.heap.size + 1) B 67
theorem UnmS.below {w W W' : World} {A B : Array Value} (h : UnmS w W A B) (hb : Below W.heap.size W W') : UnmS w W' A B := ⟨h.1.trans (hb.mono h.1.size), h.2.1.below hb, h.2.2.below hb⟩
theorem UnmS.drew {w W : World} {A B : Array Value} (h : UnmS w W A B) : UnmS w W.drew A B := ⟨h.1.drew, h.2.1, h.2.2⟩

/-- Does the state have no partner among 'ys'? -/
def lone (R : Nat → Nat → Bool) (ys : List Int) (x : Int) : Bool := !(ys.any fun y => R x.toNat y.toNat)

/-- What 'unmatched' finds with one action, and with those of a list. -/
def unmA (ok : Nat → Bool) (fv fu : Nat → List Int) (R : Nat → Nat → Bool) (k : Nat) : Option Int := if ok k then (fv k).find? (lone R (fu k)) else none
def unmOf (ok : Nat → Bool) (fv fu : Nat → List Int) (R : Nat → Nat → Bool) : List Nat → Option (Nat × Int)
  | [] => none
  | k :: r => match unmA ok fv fu R k with
    | some x => some (k, x)
    | none => unmOf ok fv fu R r

theorem unmOf_drop {ok : Nat → Bool} {fv fu : Nat → List Int} {R : Nat → Nat → Bool} {k : Nat} (hk : k < 12) (h : unmA ok fv fu R k = none) : unmOf ok fv fu R ((List.range 12).drop k) = unmOf ok fv fu R ((List.range 12).drop (k + 1)) := by
  rw [List.drop_eq_getElem_cons (by simpa using hk)]
  simp only [List.getElem_range, unmOf, h]

theorem unmOf_hit {ok : Nat → Bool} {fv fu : Nat → List Int} {R : Nat → Nat → Bool} {k : Nat} {x : Int} (hk : k < 12) (h : unmA ok fv fu R k = some x) : unmOf ok fv fu R ((List.range 12).drop k) = some (k, x) := by
  rw [List.drop_eq_getElem_cons (by simpa using hk)]
  simp only [List.getElem_range, unmOf, h]

/-- The three answers. -/
def unmVal (o : Option (Nat × Int)) : Value := match o with
  | some (k, x) => .tuple #[.int .i64 (k : Int), .int .i64 x, .bool true]
  | none => .tuple #[.int .i64 0, .int .i64 0, .bool false]

theorem Bits.meets {X Y : Int} {p : Nat → Bool} {ys : List Int} (h : Bits X p) (k : Bits Y (fun i => hasB ys (i : Int))) (hl : ∀ y ∈ ys, 0 ≤ y ∧ y < 40) : (bits .and .u64 X Y == 0) = !(ys.any fun y => p y.toNat) := by
  have h0 := (h.and k).eq_zero
  by_cases e : bits .and .u64 X Y = 0
  · rw [e]
    have h1 := h0.1 e
    have h2 : (ys.any fun y => p y.toNat) = false := by
      rw [List.any_eq_false]
      intro y hy
      obtain ⟨l1, l2⟩ := hl y hy
      have h3 := h1 y.toNat (by omega)
      have h4 : hasB ys ((y.toNat : Nat) : Int) = true := has_yes (by rw [Int.toNat_of_nonneg l1]; exact hy)
      rw [h4, Bool.and_true] at h3
      simp [h3]
    rw [h2]
    rfl
  · have h2 : (ys.any fun y => p y.toNat) = true := by
      cases hq : (ys.any fun y => p y.toNat) with
      | true => rfl
      | false =>
        rw [List.any_eq_false] at hq
        refine absurd (h0.2 fun i hi => ?_) e
        by_cases hm : (i : Int) ∈ ys
        · have := hq (i : Int) hm
          simp only [Int.toNat_natCast] at this
          have h5 : p i = false := by simpa using this
          rw [h5]
          rfl
        · rw [has_no hm, Bool.and_false]
    rw [h2]
    simpa using e

set_option maxRecDepth 20000 in
set_option maxHeartbeats 6400000 in
theorem unmatched_any (CV CU : Array Value) (fv fu : Nat → List Int) (MV NV MU NU : Int) (pv pu : Nat → Bool) (bv bu : Nat) (ra : Option Addr) (rn rc : Nat) (R : Nat → Nat → Bool) (w : World)
    (hv : OutX w bv fv 12 CV MV NV) (hu : OutX w bu fu 12 CU MU NU) (hNV : Mask NV pv) (hMU : Mask MU pu) (hr : RoundAt w ra rn R) (lv : ∀ k x, x ∈ fv k → 0 ≤ x ∧ x < (rn : Int)) (lu : ∀ k x, x ∈ fu k → 0 ≤ x ∧ x < 40) (nv : ∀ k, (fv k).length ≤ 40) (nu : ∀ k, (fu k).length ≤ 40) :
    Calls Tryz.prog 71 #[.agg CV, .agg CU, .slice ra rn rc] w fun e w' => e = .returned (unmVal (unmOf (fun k => pu k || pv k) fv fu R (List.range 12))) ∧ Below w.heap.size w w' := by
  obtain ⟨O, hO⟩ : ∃ o, o = unmOf (fun k => pu k || pv k) fv fu R (List.range 12) := ⟨_, rfl⟩
  rw [← hO]
  have HO0 : Hid (unmOf (fun k => pu k || pv k) fv fu R ((List.range 12).drop 0) = O) := hO.symm
  have HVX := Lib.hid hv
  have HUX := Lib.hid hu
  have CV1 : Hid (CV[1]? = some (.int .u16 NV)) := hv.2.2.1
  have CU0 : Hid (CU[0]? = some (.int .u16 MU)) := hu.2.1
  have HMK : Hid (Mask (bits .or .u16 MU NV) (fun i => pu i || pv i)) := hMU.or hNV
  have HR := Lib.hid hr
  have LV := Lib.hid lv
  have LU := Lib.hid lu
  have NV1 := Lib.hid nv
  have NU1 := Lib.hid nu
  clear hO hv hu hNV hMU hr lv lu nv nu
  have S0 : Hid (UnmS w ((w.alloc (.cells CV 67)).alloc (.cells CU 67)) CV CU) := ⟨((Below.refl _ _).alloc (Nat.le_refl _) _).alloc (by simp) _, (VarIs.new w _ _ rfl).alloc _, VarIs.new _ _ _ (by simp)⟩
  go_enter Tryz.func71, Tryz.ntmps71
  go_wp2_with fail
  go_loopw [13] (fun iv wr => ∃ k : Nat, k ≤ 12 ∧ iv = .int .i64 (k : Int) ∧ Hid (unmOf (fun k => pu k || pv k) fv fu R ((List.range 12).drop k) = O) ∧ Hid (UnmS w wr CV CU)) (fun iv _ => 12 - (intOf iv).toNat)
  case atStart => exact ⟨0, by omega, rfl, HO0.out, S0.out⟩
  case round =>
    clear S0 HO0
    obtain ⟨k, hk, rfl, HO, HS⟩ := hrel
    by_cases hlt : k < 12
    · have i1 : (0 : Int) ≤ (k : Int) := by omega
      have i2 : (k : Int) < 12 := by omega
      have i3 : (k : Int) < 16 := by omega
      have HT0 := HMK.out.test (k := k) (by omega)
      obtain ⟨ok, hok⟩ : ∃ q, q = (pu k || pv k) := ⟨_, rfl⟩
      rw [← hok] at HT0
      have HOK := Lib.hid hok
      clear hok
      go_wp2_with fail
      have SD : UnmS w wr.drew CV CU := HS.out.drew
      clear HS
      cases ok with
      | false =>
        have HT : (bits .and .u16 (bits .or .u16 MU NV) (IntKind.u16.wrap ((2 : Int) ^ k)) == 0) = true := by
          have := HT0
          simp only [bne_eq_false_iff_eq] at this
          simp [this]
        refine wp_region_tf (S := fun w' => UnmS w w' CV CU) 9 (by kernel_rfl) (by kernel_rfl) (by kernel_rfl) SD (fun hHeld => ?_)
        refine fast1 0 16 (.pointer (some ⟨w.heap.size + 1, 0, none⟩)) (.tmp 4) (.pointer (some ⟨w.heap.size + 1, 0, none⟩)) (fuel := 8) rfl rfl (by kernel_rfl) (by kernel_rfl) (by kernel_rfl) (fun _ _ _ h => h) (by kernel_rfl) (by kernel_rfl) (fun ρ hr0 _ w hSw => by simp [go_sem, hr0]) hHeld (tf 1 9) (by kernel_rfl) (fun K hK => ?_)
        go_big_move
        refine hK.out _ ?_
        clear hK K
        refine fast1 1 17 (.int .u16 MU) (.tmp 16) (.pointer (some ⟨w.heap.size + 1, 0, none⟩)) (fuel := 7) rfl rfl (by kernel_rfl) (by kernel_rfl) (by kernel_rfl) (fun _ _ _ h => h) (by kernel_rfl) (by kernel_rfl) (fun ρ hr0 _ w hSw => by have m := hSw.2.2.cell (j := 0) (u := .int .u16 MU) CU0.out; simp [go_sem, hr0, m]) hHeld (tf 3 9) (by kernel_rfl) (fun K hK => ?_)
        go_big_move
        refine hK.out _ ?_
        clear hK K
        refine fast1 2 18 (.pointer (some ⟨w.heap.size, 1, none⟩)) (.tmp 3) (.pointer (some ⟨w.heap.size, 0, none⟩)) (fuel := 6) rfl rfl (by kernel_rfl) (by kernel_rfl) (by kernel_rfl) (fun _ _ _ h => h) (by kernel_rfl) (by kernel_rfl) (fun ρ hr0 _ w hSw => by simp [go_sem, hr0]) hHeld (tf 7 9) (by kernel_rfl) (fun K hK => ?_)
        go_big_move
        refine hK.out _ ?_
        clear hK K
        refine fast1 3 19 (.int .u16 NV) (.tmp 18) (.pointer (some ⟨w.heap.size, 1, none⟩)) (fuel := 5) rfl rfl (by kernel_rfl) (by kernel_rfl) (by kernel_rfl) (fun _ _ _ h => h) (by kernel_rfl) (by kernel_rfl) (fun ρ hr0 _ w hSw => by have m := hSw.2.1.cell (j := 1) (u := .int .u16 NV) CV1.out; simp [go_sem, hr0, m]) hHeld (tf 15 9) (by kernel_rfl) (fun K hK => ?_)
        go_big_move
        refine hK.out _ ?_
        clear hK K
        refine fast2 4 20 (.int .u16 (bits .or .u16 MU NV)) (.tmp 17) (.int .u16 MU) (.tmp 19) (.int .u16 NV) (fuel := 4) rfl rfl (by kernel_rfl) (by kernel_rfl) (by kernel_rfl) (fun _ _ _ h => h) (by kernel_rfl) (by kernel_rfl) (by kernel_rfl) (fun ρ hr0 hr1 _ w hSw => by simp [go_sem, hr0, hr1]) hHeld (tf 31 9) (by kernel_rfl) (fun K hK => ?_)
        go_big_move
        refine hK.out _ ?_
        clear hK K
        refine fast_move 5 21 (.int .i64 (k : Int)) (.tmp 9) (fuel := 3) rfl rfl (by kernel_rfl) (by kernel_rfl) (by kernel_rfl) (fun _ _ _ h => h) (by kernel_rfl) (by kernel_rfl) (by first | exact Or.inl rfl | exact Or.inr rfl) hHeld (tf 63 9) (by kernel_rfl) (fun K hK => ?_)
        go_big_move
        refine hK.out _ ?_
        clear hK K
        refine fast1 6 22 (.int .u16 (IntKind.u16.wrap ((2 : Int) ^ k))) (.tmp 21) (.int .i64 (k : Int)) (fuel := 2) rfl rfl (by kernel_rfl) (by kernel_rfl) (by kernel_rfl) (fun _ _ _ h => h) (by kernel_rfl) (by kernel_rfl) (fun ρ hr0 hc w hSw => by simp [go_sem, hc, hr0]) hHeld (tf 127 9) (by kernel_rfl) (fun K hK => ?_)
        go_big_move
        refine hK.out _ ?_
        clear hK K
        refine fast2 7 23 (.int .u16 (bits .and .u16 (bits .or .u16 MU NV) (IntKind.u16.wrap ((2 : Int) ^ k)))) (.tmp 20) (.int .u16 (bits .or .u16 MU NV)) (.tmp 22) (.int .u16 (IntKind.u16.wrap ((2 : Int) ^ k))) (fuel := 1) rfl rfl (by kernel_rfl) (by kernel_rfl) (by kernel_rfl) (fun _ _ _ h => h) (by kernel_rfl) (by kernel_rfl) (by kernel_rfl) (fun ρ hr0 hr1 _ w hSw => by simp [go_sem, hr0, hr1]) hHeld (tf 255 9) (by kernel_rfl) (fun K hK => ?_)
        go_big_move
        refine hK.out _ ?_
        clear hK K
        refine fast1 8 24 (.bool true) (.tmp 23) (.int .u16 (bits .and .u16 (bits .or .u16 MU NV) (IntKind.u16.wrap ((2 : Int) ^ k)))) (fuel := 0) rfl rfl (by kernel_rfl) (by kernel_rfl) (by kernel_rfl) (fun _ _ _ h => h) (by kernel_rfl) (by kernel_rfl) (fun ρ hr0 hc w hSw => by have hg := HT; simp [go_sem, hc, hr0, hg]) hHeld (tf 511 9) (by kernel_rfl) (fun K hK => ?_)
        go_big_move
        refine hK.out _ ?_
        clear hK K
        refine wpAnyH_done (by kernel_rfl) ?_ _
        have HS2 := Lib.hid hHeld
        have HO2 : Hid (unmOf (fun k => pu k || pv k) fv fu R ((List.range 12).drop (k + 1)) = O) := by
          rw [← HO.out]
          refine (unmOf_drop hlt ?_).symm
          show (if (pu k || pv k) = true then _ else none) = none
          rw [← HOK.out]
          rfl
        clear hHeld SD HT0 HT HO HOK
        go_wp2_with fail
        go_roundw
        case rel => exact ⟨k + 1, by omega, by go_num, HO2.out, HS2.out⟩
        case measure => simp [intOf]; omega
      | true =>
        have HT : (bits .and .u16 (bits .or .u16 MU NV) (IntKind.u16.wrap ((2 : Int) ^ k)) == 0) = false := by
          have := HT0
          simp only [bne_iff_ne] at this
          simp [this]
        have HUA : Hid (unmA (fun k => pu k || pv k) fv fu R k = (fv k).find? (lone R (fu k))) := by
          unfold Hid
          show (if (pu k || pv k) = true then _ else none) = _
          rw [← HOK.out]
          rfl
        refine wp_region_tf (S := fun w' => UnmS w w' CV CU) 9 (by kernel_rfl) (by kernel_rfl) (by kernel_rfl) SD (fun hHeld => ?_)
        refine fast1 0 16 (.pointer (some ⟨w.heap.size + 1, 0, none⟩)) (.tmp 4) (.pointer (some ⟨w.heap.size + 1, 0, none⟩)) (fuel := 8) rfl rfl (by kernel_rfl) (by kernel_rfl) (by kernel_rfl) (fun _ _ _ h => h) (by kernel_rfl) (by kernel_rfl) (fun ρ hr0 _ w hSw => by simp [go_sem, hr0]) hHeld (tf 1 9) (by kernel_rfl) (fun K hK => ?_)
        go_big_move
        refine hK.out _ ?_
        clear hK K
        refine fast1 1 17 (.int .u16 MU) (.tmp 16) (.pointer (some ⟨w.heap.size + 1, 0, none⟩)) (fuel := 7) rfl rfl (by kernel_rfl) (by kernel_rfl) (by kernel_rfl) (fun _ _ _ h => h) (by kernel_rfl) (by kernel_rfl) (fun ρ hr0 _ w hSw => by have m := hSw.2.2.cell (j := 0) (u := .int .u16 MU) CU0.out; simp [go_sem, hr0, m]) hHeld (tf 3 9) (by kernel_rfl) (fun K hK => ?_)
        go_big_move
        refine hK.out _ ?_
        clear hK K
        refine fast1 2 18 (.pointer (some ⟨w.heap.size, 1, none⟩)) (.tmp 3) (.pointer (some ⟨w.heap.size, 0, none⟩)) (fuel := 6) rfl rfl (by kernel_rfl) (by kernel_rfl) (by kernel_rfl) (fun _ _ _ h => h) (by kernel_rfl) (by kernel_rfl) (fun ρ hr0 _ w hSw => by simp [go_sem, hr0]) hHeld (tf 7 9) (by kernel_rfl) (fun K hK => ?_)
        go_big_move
        refine hK.out _ ?_
        clear hK K
        refine fast1 3 19 (.int .u16 NV) (.tmp 18) (.pointer (some ⟨w.heap.size, 1, none⟩)) (fuel := 5) rfl rfl (by kernel_rfl) (by kernel_rfl) (by kernel_rfl) (fun _ _ _ h => h) (by kernel_rfl) (by kernel_rfl) (fun ρ hr0 _ w hSw => by have m := hSw.2.1.cell (j := 1) (u := .int .u16 NV) CV1.out; simp [go_sem, hr0, m]) hHeld (tf 15 9) (by kernel_rfl) (fun K hK => ?_)
        go_big_move
        refine hK.out _ ?_
        clear hK K
        refine fast2 4 20 (.int .u16 (bits .or .u16 MU NV)) (.tmp 17) (.int .u16 MU) (.tmp 19) (.int .u16 NV) (fuel := 4) rfl rfl (by kernel_rfl) (by kernel_rfl) (by kernel_rfl) (fun _ _ _ h => h) (by kernel_rfl) (by kernel_rfl) (by kernel_rfl) (fun ρ hr0 hr1 _ w hSw => by simp [go_sem, hr0, hr1]) hHeld (tf 31 9) (by kernel_rfl) (fun K hK => ?_)
        go_big_move
        refine hK.out _ ?_
        clear hK K
        refine fast_move 5 21 (.int .i64 (k : Int)) (.tmp 9) (fuel := 3) rfl rfl (by kernel_rfl) (by kernel_rfl) (by kernel_rfl) (fun _ _ _ h => h) (by kernel_rfl) (by kernel_rfl) (by first | exact Or.inl rfl | exact Or.inr rfl) hHeld (tf 63 9) (by kernel_rfl) (fun K hK => ?_)
        go_big_move
        refine hK.out _ ?_
        clear hK K
        refine fast1 6 22 (.int .u16 (IntKind.u16.wrap ((2 : Int) ^ k))) (.tmp 21) (.int .i64 (k : Int)) (fuel := 2) rfl rfl (by kernel_rfl) (by kernel_rfl) (by kernel_rfl) (fun _ _ _ h => h) (by kernel_rfl) (by kernel_rfl) (fun ρ hr0 hc w hSw => by simp [go_sem, hc, hr0]) hHeld (tf 127 9) (by kernel_rfl) (fun K hK => ?_)
        go_big_move
        refine hK.out _ ?_
        clear hK K
        refine fast2 7 23 (.int .u16 (bits .and .u16 (bits .or .u16 MU NV) (IntKind.u16.wrap ((2 : Int) ^ k)))) (.tmp 20) (.int .u16 (bits .or .u16 MU NV)) (.tmp 22) (.int .u16 (IntKind.u16.wrap ((2 : Int) ^ k))) (fuel := 1) rfl rfl (by kernel_rfl) (by kernel_rfl) (by kernel_rfl) (fun _ _ _ h => h) (by kernel_rfl) (by kernel_rfl) (by kernel_rfl) (fun ρ hr0 hr1 _ w hSw => by simp [go_sem, hr0, hr1]) hHeld (tf 255 9) (by kernel_rfl) (fun K hK => ?_)
        go_big_move
        refine hK.out _ ?_
        clear hK K
        refine fast1 8 24 (.bool false) (.tmp 23) (.int .u16 (bits .and .u16 (bits .or .u16 MU NV) (IntKind.u16.wrap ((2 : Int) ^ k)))) (fuel := 0) rfl rfl (by kernel_rfl) (by kernel_rfl) (by kernel_rfl) (fun _ _ _ h => h) (by kernel_rfl) (by kernel_rfl) (fun ρ hr0 hc w hSw => by have hg := HT; simp [go_sem, hc, hr0, hg]) hHeld (tf 511 9) (by kernel_rfl) (fun K hK => ?_)
        go_big_move
        refine hK.out _ ?_
        clear hK K
        refine wpAnyH_done (by kernel_rfl) ?_ _
        have HS2 := Lib.hid hHeld
        obtain ⟨wo, hwo⟩ : ∃ z, z = wr.drew := ⟨_, rfl⟩
        rw [← hwo] at HS2
        clear hHeld SD HT0 HT HOK
        obtain ⟨vv, hcv, hov⟩ := HVX.out.2.2.2.1 k hlt
        obtain ⟨vu, hcu, hou⟩ := HUX.out.2.2.2.1 k hlt
        obtain ⟨av, cv, rfl⟩ := hov.form
        obtain ⟨au, cu, rfl⟩ := hou.form
        obtain ⟨lvk, hlvk⟩ : ∃ l, l = fv k := ⟨_, rfl⟩
        obtain ⟨luk, hluk⟩ : ∃ l, l = fu k := ⟨_, rfl⟩
        have LVk : Hid (∀ x ∈ lvk, 0 ≤ x ∧ x < (rn : Int)) := by rw [hlvk]; exact LV.out k
        have LUk : Hid (∀ x ∈ luk, 0 ≤ x ∧ x < 40) := by rw [hluk]; exact LU.out k
        have nvk : lvk.length ≤ 40 := by rw [hlvk]; exact NV1.out k
        have nuk : luk.length ≤ 40 := by rw [hluk]; exact NU1.out k
        rw [← hlvk, ← hluk] at HUA
        rw [← hlvk] at hcv hov
        rw [← hluk] at hcu hou
        have RV := Lib.hid hov.row.2.2.2
        have RU := Lib.hid hou.row.2.2.2
        obtain ⟨mv, hmv⟩ : ∃ n, n = lvk.length := ⟨_, rfl⟩
        obtain ⟨mu, hmu⟩ : ∃ n, n = luk.length := ⟨_, rfl⟩
        rw [← hmv] at hcv RV
        rw [← hmu] at hcu RU
        have cu1 := HS2.out.2.2.cell (j := 2 + k) hcu
        rw [hwo] at cu1
        have nvk2 : mv ≤ 40 := by omega
        have nuk2 : mu ≤ 40 := by omega
        have HMV := Lib.hid hmv
        have CB := Lib.hid (bitsOf_any au mu cu luk wo (RU.out.below HS2.out.1) (by omega) LUk.out)
        clear hcu hov hou hlvk hluk hmv hmu nvk nuk
        have HWO : Hid (wr.drew = wo) := hwo.symm
        clear hwo
        go_wp2_with fail
        clear cu1
        rw [HWO.out]
        clear HWO
        refine CB.out.mono ?_
        rintro e w2 ⟨Y, rfl, hY, rfl⟩
        have HY := Lib.hid hY
        clear hY CB
        have cv1 := HS2.out.2.1.cell (j := 2 + k) hcv
        go_wp2_with fail
        clear cv1 hcv
        go_loopw [35] (fun jv wr => ∃ j : Nat, j ≤ mv ∧ jv = .int .i64 (j : Int) ∧ Hid (lvk.find? (lone R luk) = (lvk.drop j).find? (lone R luk)) ∧ Hid (UnmS w wr CV CU)) (fun jv _ => mv - (intOf jv).toNat)
        case atStart => exact ⟨0, Nat.zero_le _, rfl, rfl, HS2.out⟩
        case round =>
          clear HS2
          obtain ⟨j, hj, rfl, HJ, HS⟩ := hrel
          by_cases hjl : j < mv
          · obtain ⟨b, off, rfl, hb, hcell⟩ := (RV.out.below HS.out.1).2 (by omega)
            have hjx : j < lvk.length := by rw [← HMV.out]; exact hjl
            have hx := LVk.out _ (List.getElem_mem hjx)
            obtain ⟨x, hxe⟩ : ∃ x : Nat, lvk[j] = (x : Int) := ⟨lvk[j].toNat, by omega⟩
            have hxr : x < rn := by omega
            have g1 : wr.cell? ⟨b, off + j, none⟩ = some (.int .i64 (x : Int)) := by
              rw [hcell j hjl, ← hxe]
              simp [List.getD_eq_getElem?_getD, hjx]
            obtain ⟨br, offr, rfl, hbr, hcr⟩ := (HR.out.below HS.out.1) (by omega)
            obtain ⟨g, o, X, d1, hg, d2, hX⟩ := hcr x hxr
            have HFD : Hid ((lvk.drop j).find? (lone R luk) = if lone R luk (x : Int) then some (x : Int) else (lvk.drop (j + 1)).find? (lone R luk)) := by
              rw [List.drop_eq_getElem_cons hjx, hxe, List.find?_cons]
              unfold Hid
              cases lone R luk (x : Int) <;> rfl
            have hmt := hX.meets HY.out LUk.out
            have HLN : Hid (lone R luk (x : Int) = !(luk.any fun y => R x y.toNat)) := rfl
            obtain ⟨q, hq⟩ : ∃ q, q = !(luk.any fun y => R x y.toNat) := ⟨_, rfl⟩
            rw [← hq] at hmt HLN
            have j1 : (0 : Int) ≤ (j : Int) := by omega
            have j2 : (j : Int) < (mv : Int) := by omega
            have x1 : (0 : Int) ≤ (x : Int) := by omega
            have x2 : (x : Int) < (rn : Int) := by omega
            clear hcell hx hxe hcr hX hq hb hbr hg hjx
            cases q with
            | true =>
              have HO3 : Hid (O = some (k, (x : Int))) := by
                rw [← HO.out]
                refine unmOf_hit hlt ?_
                rw [HUA.out, HJ.out, HFD.out, HLN.out]
                rfl
              clear HO HUA HJ HFD HLN
              obtain rfl := HO3.out
              go_wp2_with fail
              go_ret3
              exact ⟨rfl, HS.out.1⟩
            | false =>
              have HJ2 : Hid (lvk.find? (lone R luk) = (lvk.drop (j + 1)).find? (lone R luk)) := by
                rw [HJ.out, HFD.out, HLN.out]
                rfl
              clear HJ HFD HLN
              go_wp2_with fail
              go_roundw
              case rel => exact ⟨j + 1, by omega, by go_num, HJ2.out, HS.out⟩
              case measure => simp [intOf]; omega
          · obtain rfl : mv = j := by omega
            have HO2 : Hid (unmOf (fun k => pu k || pv k) fv fu R ((List.range 12).drop (k + 1)) = O) := by
              rw [← HO.out]
              refine (unmOf_drop hlt ?_).symm
              rw [HUA.out, HJ.out, List.drop_eq_nil_of_le (by rw [HMV.out]; omega)]
              rfl
            clear HO HUA HJ
            go_wp2_with fail
            go_roundw
            case rel => exact ⟨k + 1, by omega, by go_num, HO2.out, HS.out⟩
            case measure => simp [intOf]; omega
    · obtain rfl : k = 12 := by omega
      have HO3 : Hid (O = none) := by rw [← HO.out]; rfl
      clear HO
      obtain rfl := HO3.out
      go_wp2_with fail
      go_ret3
      exact ⟨rfl, HS.out.1⟩

end Go.Proofs.YtdbgjgeglgipiaaGreat
