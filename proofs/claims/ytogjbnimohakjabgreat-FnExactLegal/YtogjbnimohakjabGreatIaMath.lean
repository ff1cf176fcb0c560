import Derived.Test.YtogjbnimohakjabGreatIaDef
import Derived.Test.YtogjbnimohakjabGreatRisen
import Derived.Test.YtogjbnimohakjabGreatIaLaw
import Derived.Test.YtogjbnimohakjabGreatSpecIaOk
import Derived.Test.YtogjbnimohakjabGreatActs
import Derived.Test.YtogjbnimohakjabGreatRegion
/-
  What may be come to is the least list that holds the beginning and is closed under steps. Conditions: none; nothing here speaks of the program.
-/
namespace Go.Proofs.YtogjbnimohakjabGreat
open Go.RowKit

/-- 'x' may be come to from one of 'L', along steps with actions of 'set'. -/
inductive Come (set : List Int) (ss : List St) (L : List Int) : Int → Prop
  | start (x : Int) (h : x ∈ L) : Come set ss L x
  | step (s : St) (h : s ∈ ss) (hp : hasB set s.2.1 = true) (hc : Come set ss L s.1) : Come set ss L s.2.2

theorem hasB_mem {xs : List Int} {x : Int} : hasB xs x = true ↔ x ∈ xs := by simp [hasB]

theorem Come.mono {set : List Int} {ss ss' : List St} {L L' : List Int} {x : Int} (h : Come set ss L x) (hs : ∀ s ∈ ss, s ∈ ss') (hL : ∀ x ∈ L, Come set ss' L' x) : Come set ss' L' x := by
  induction h with
  | start x h => exact hL x h
  | step s h hp _ ih => exact .step s (hs s h) hp ih

theorem passOf_cons (set : List Int) (x : St) (r : List St) (out : List Int) : passOf set (x :: r) out = passOf set r (if hasB set x.2.1 && hasB out x.1 then put out x.2.2 else out) := rfl

theorem passOf_snoc (set : List Int) (x : St) (r : List St) (out : List Int) : passOf set (r ++ [x]) out = (if hasB set x.2.1 && hasB (passOf set r out) x.1 then put (passOf set r out) x.2.2 else passOf set r out) := by simp [passOf]

theorem passOf_rises {set : List Int} {ss : List St} {out : List Int} (h : out.Pairwise (· < ·)) : (passOf set ss out).Pairwise (· < ·) := by
  induction ss generalizing out with
  | nil => exact h
  | cons x r ih =>
    rw [passOf_cons]
    refine ih ?_
    split
    · exact put_rises h
    · exact h

theorem mem_passOf {set : List Int} {ss : List St} {out : List Int} {y : Int} (h : y ∈ out) : y ∈ passOf set ss out := by
  induction ss generalizing out with
  | nil => exact h
  | cons x r ih =>
    rw [passOf_cons]
    refine ih ?_
    split
    · exact mem_put.2 (Or.inr h)
    · exact h

theorem passOf_come {set : List Int} {ss ss' : List St} {out L : List Int} (hs : ∀ s ∈ ss, s ∈ ss') (h : ∀ y ∈ out, Come set ss' L y) : ∀ y ∈ passOf set ss out, Come set ss' L y := by
  induction ss generalizing out with
  | nil => exact h
  | cons x r ih =>
    rw [passOf_cons]
    refine ih (fun s hm => hs s (List.mem_cons_of_mem _ hm)) ?_
    intro y hy
    split at hy
    · rename_i hc
      rw [Bool.and_eq_true] at hc
      rcases mem_put.1 hy with rfl | hy
      · exact .step x (hs x (List.mem_cons_self ..)) hc.1 (h _ (hasB_mem.1 hc.2))
      · exact h y hy
    · exact h y hy

/-- Where a way brought nothing new, all is closed. -/
theorem passOf_closed {set : List Int} {ss : List St} {out : List Int} (h : ∀ y ∈ passOf set ss out, y ∈ out) : ∀ s ∈ ss, hasB set s.2.1 = true → s.1 ∈ out → s.2.2 ∈ out := by
  induction ss with
  | nil => intro s hs; simp at hs
  | cons x r ih =>
    intro s hs hp hm
    rw [passOf_cons] at h
    by_cases hc : (hasB set x.2.1 && hasB out x.1) = true
    · rw [if_pos hc] at h
      have hx : x.2.2 ∈ out := h _ (mem_passOf (mem_put.2 (Or.inl rfl)))
      rcases List.mem_cons.1 hs with rfl | hs
      · exact hx
      · have e : ∀ y ∈ passOf set r out, y ∈ out := by
          intro y hy
          refine h y ?_
          have mono : ∀ (r : List St) (o o' : List Int), (∀ z ∈ o, z ∈ o') → ∀ z ∈ passOf set r o, z ∈ passOf set r o' := by
            intro r
            induction r with
            | nil => intro o o' ho; exact ho
            | cons x r ih =>
              intro o o' ho
              rw [passOf_cons, passOf_cons]
              refine ih _ _ ?_
              intro z hz
              split at hz
              · rename_i h1
                rw [Bool.and_eq_true] at h1
                rw [if_pos (by rw [h1.1, hasB_mem.2 (ho _ (hasB_mem.1 h1.2))]; rfl)]
                rcases mem_put.1 hz with rfl | hz
                · exact mem_put.2 (Or.inl rfl)
                · exact mem_put.2 (Or.inr (ho z hz))
              · split
                · exact mem_put.2 (Or.inr (ho z hz))
                · exact ho z hz
          exact mono r out _ (fun z hz => mem_put.2 (Or.inr hz)) y hy
        exact ih e s hs hp hm
    · rw [if_neg hc] at h
      rcases List.mem_cons.1 hs with rfl | hs
      · exact absurd (by rw [hp, hasB_mem.2 hm]; rfl) hc
      · exact ih h s hs hp hm

theorem closed_come {set : List Int} {ss : List St} {out L : List Int} (hL : ∀ x ∈ L, x ∈ out) (hc : ∀ s ∈ ss, hasB set s.2.1 = true → s.1 ∈ out → s.2.2 ∈ out) {x : Int} (h : Come set ss L x) : x ∈ out := by
  induction h with
  | start x h => exact hL x h
  | step s h hp _ ih => exact hc s h hp ih

/-- A rising list within another one is no longer. -/
theorem rises_len {xs ys : List Int} (hx : xs.Pairwise (· < ·)) (h : ∀ x ∈ xs, x ∈ ys) : xs.length ≤ ys.length := by
  have hn : xs.Nodup := hx.imp (fun h e => by omega)
  exact hn.length_le_of_subset h

theorem rises_same {xs ys : List Int} (hx : xs.Pairwise (· < ·)) (hy : ys.Pairwise (· < ·)) (h : ∀ x ∈ xs, x ∈ ys) (hl : ys.length = xs.length) : ys = xs := by
  have hn : xs.Nodup := hx.imp (fun h e => by omega)
  refine (rise_eq hx hy (fun x => ⟨h x, fun hxy => ?_⟩)).symm
  by_cases hm : x ∈ xs
  · exact hm
  · have h2 : (x :: xs).Nodup := List.nodup_cons.2 ⟨hm, hn⟩
    have h3 := h2.length_le_of_subset (l₂ := ys) (fun z hz => by
      rcases List.mem_cons.1 hz with rfl | hz
      · exact hxy
      · exact h z hz)
    simp at h3
    omega

/-- A way through the steps is no shorter; where it is as long, it is the same. -/
theorem passOf_len {set : List Int} {ss : List St} {out : List Int} (h : out.Pairwise (· < ·)) : out.length ≤ (passOf set ss out).length := rises_len h (fun _ hx => mem_passOf hx)

theorem passOf_done {set : List Int} {ss : List St} {out : List Int} (h : out.Pairwise (· < ·)) (hl : (passOf set ss out).length = out.length) : passOf set ss out = out := rises_same h (passOf_rises h) (fun _ hx => mem_passOf hx) hl

/-- What stands when a way through all steps brings nothing new: just what may be come to. -/
theorem pass_end {set : List Int} {ss : List St} {out L : List Int} (h : out.Pairwise (· < ·)) (hL : ∀ x ∈ L, x ∈ out) (hc : ∀ y ∈ out, Come set ss L y) (hl : (passOf set ss out).length = out.length) : ∀ x, x ∈ out ↔ Come set ss L x := by
  intro x
  refine ⟨hc x, fun hx => closed_come hL (passOf_closed ?_) hx⟩
  rw [passOf_done h hl]; exact fun _ h => h

/-- All that may be come to is among the beginning and the ends of steps. -/
theorem come_among {set : List Int} {ss : List St} {L : List Int} {x : Int} (h : Come set ss L x) : x ∈ L ++ ss.map (fun s => s.2.2) := by
  cases h with
  | start x h => exact List.mem_append_left _ h
  | step s h hp hc => exact List.mem_append_right _ (List.mem_map.2 ⟨s, h, rfl⟩)

theorem come_bound {set : List Int} {ss : List St} {out L : List Int} (h : out.Pairwise (· < ·)) (hc : ∀ y ∈ out, Come set ss L y) : out.length ≤ L.length + ss.length := by
  have := rises_len (ys := L ++ ss.map (fun s => s.2.2)) h (fun x hx => come_among (hc x hx))
  simpa using this

/-- Ways enough: what comes out rises, and holds just what may be come to. -/
theorem alongN_mem {set : List Int} {ss : List St} {L : List Int} (n : Nat) (out : List Int) (h : out.Pairwise (· < ·)) (hL : ∀ x ∈ L, x ∈ out) (hc : ∀ y ∈ out, Come set ss L y) (hn : L.length + ss.length < n + out.length) :
    (alongN set ss n out).Pairwise (· < ·) ∧ ∀ x, x ∈ alongN set ss n out ↔ Come set ss L x := by
  induction n generalizing out with
  | zero =>
    have := come_bound h hc
    omega
  | succ n ih =>
    rw [alongN]
    split
    · rename_i hl
      rw [passOf_done h hl]
      exact ⟨h, pass_end h hL hc hl⟩
    · rename_i hl
      have hge := passOf_len (set := set) (ss := ss) h
      refine ih _ (passOf_rises h) (fun x hx => mem_passOf (hL x hx)) (passOf_come (fun _ h => h) hc) (by omega)

theorem alongOf_mem (set : List Int) (ss : List St) (L : List Int) : (alongOf set ss L).Pairwise (· < ·) ∧ ∀ x, x ∈ alongOf set ss L ↔ Come set ss L x :=
  alongN_mem _ _ (putAll_rises List.Pairwise.nil) (fun x hx => mem_putAll.2 (Or.inr hx)) (fun y hy => by
    rcases mem_putAll.1 hy with hy | hy
    · simp at hy
    · exact .start y hy) (by omega)

/-- Whatever rises and holds just what may be come to is this list. -/
theorem along_eq {set : List Int} {ss : List St} {L out : List Int} (h : out.Pairwise (· < ·)) (hm : ∀ x, x ∈ out ↔ Come set ss L x) : out = alongOf set ss L :=
  rise_eq h (alongOf_mem set ss L).1 (fun x => (hm x).trans ((alongOf_mem set ss L).2 x).symm)

end Go.Proofs.YtogjbnimohakjabGreat

/-
  The contract of the model's l02Along: what may be come to. Conditions: at most 2^20 steps, and numbers in the lists.
-/
namespace Go.Proofs.YtogjbnimohakjabGreat
open Go.RowKit

/-- How long a slice is. -/
def lenOf : Value → Nat
  | .slice _ n _ => n
  | _ => 0

theorem lenOf_slice (a : Option Addr) (n c : Nat) : lenOf (.slice a n c) = n := rfl

theorem join_none (xs : List Int) : joinOf xs [] = putAll [] xs := rfl

set_option maxRecDepth 20000 in
set_option maxHeartbeats 6400000 in
theorem along_any (st it : Int) (v2 v3 v4 : Value) (a5 : Option Addr) (n5 c5 : Nat) (steps : List St) (fa : Option Addr) (fn fc : Nat) (from_ : List Int) (sa : Option Addr) (sn sc : Nat) (set : List Int) (w : World)
    (r5 : RowS w a5 n5 steps) (hn : n5 ≤ 1048576) (rf : Row w fa fn from_) (hfn : fn ≤ 1048576) (rs : Row w sa sn set) (hsn : sn ≤ 4194304) :
    Calls Tryz.prog 100 #[.agg #[.int .i64 st, .int .i64 it, v2, v3, v4, .slice a5 n5 c5], .slice fa fn fc, .slice sa sn sc] w (OwnRes w w.heap.size (alongOf set steps from_)) := by
  have HL5 := Lib.hid r5.1
  have HC5 := Lib.hid r5.2
  have HF := Lib.hid rf
  have HS := Lib.hid rs
  clear r5 rf rs
  obtain ⟨bd, hbd⟩ : ∃ b, b = from_.length + steps.length := ⟨_, rfl⟩
  have hbd2 : bd ≤ 2097152 := by
    have h1 := HF.out.1
    have h2 := HL5.out
    omega
  have HBD := Lib.hid hbd
  clear hbd
  have B0 : Hid (∀ o, Below w.heap.size w (w.alloc o)) := fun o => (Below.refl _ _).alloc (Nat.le_refl _) _
  have V0 := Lib.hid (VarIs.new w #[.int .i64 st, .int .i64 it, v2, v3, v4, .slice a5 n5 c5] 29 rfl)
  go_enter Tryz.func100, Tryz.ntmps100
  go_wp2_with fail
  refine (specSetJoin_any fa none fn fc 0 0 from_ [] _ (HF.out.below (B0.out _)) ⟨rfl, fun h => absurd h (by omega)⟩ (by omega) (by omega)).mono ?_
  rw [join_none]
  rintro e w1 ⟨g1, c1, rfl, ho, hb⟩
  have B1 : Hid (Below w.heap.size w w1) := (B0.out _).trans (hb.mono (B0.out _).size)
  have V1 := Lib.hid (V0.out.below hb)
  have O1 := Lib.hid (ho.mono (B0.out _).size)
  clear ho hb B0 V0
  go_wp2_with fail
  go_loopw [7] (fun out wr => ∃ (g c0 len : Nat) (O : List Int), out = .slice (some ⟨g, 0, none⟩) len c0 ∧ Hid (Owns wr w.heap.size (.slice (some ⟨g, 0, none⟩) len c0) len O) ∧ len ≤ bd ∧ Hid (O.Pairwise (· < ·) ∧ (∀ x ∈ from_, x ∈ O) ∧ ∀ y ∈ O, Come set steps from_ y) ∧ Below w.heap.size w wr ∧ Hid (VarIs wr w.heap.size #[.int .i64 st, .int .i64 it, v2, v3, v4, .slice a5 n5 c5] 29)) (fun out _ => bd - lenOf out)
  case atStart =>
    refine ⟨g1, c1, (putAll [] from_).length, putAll [] from_, rfl, O1.out, ?_, ?_, B1.out, V1.out⟩
    · have := putAll_len from_ []
      rw [HBD.out]
      simp only [List.length_nil, Nat.zero_add] at this
      omega
    · exact ⟨putAll_rises List.Pairwise.nil, fun x hx => mem_putAll.2 (Or.inr hx), fun y hy => by
        rcases mem_putAll.1 hy with hy | hy
        · simp at hy
        · exact .start y hy⟩
  case round =>
    obtain ⟨g, c0, len, O, rfl, HO, hlen, HI, hnx, HV⟩ := hrel
    clear B1 V1 O1
    go_wp2_with fail
    go_loopw [7, 9] (fun out i wr2 => ∃ (k g2 c2 len2 : Nat) (O2 : List Int), k ≤ n5 ∧ i = .int .i64 k ∧ out = .slice (some ⟨g2, 0, none⟩) len2 c2 ∧ Hid (Owns wr2 w.heap.size (.slice (some ⟨g2, 0, none⟩) len2 c2) len2 O2) ∧ Hid (O2 = passOf set (steps.take k) O) ∧ Below w.heap.size w wr2 ∧ Hid (VarIs wr2 w.heap.size #[.int .i64 st, .int .i64 it, v2, v3, v4, .slice a5 n5 c5] 29)) (fun _ i _ => n5 - (intOf i).toNat)
    case atStart => exact ⟨0, g, c0, len, O, Nat.zero_le _, rfl, rfl, HO.out, rfl, hnx, HV.out⟩
    case round =>
      obtain ⟨k, g2, c2, len2, O2, hk, rfl, rfl, HO2, HT, hnx2, HV2⟩ := hrel
      have hlen2 : len2 ≤ bd := by
        have h1 := passOf_rises (set := set) (ss := steps.take k) HI.out.1
        have h2 := passOf_come (set := set) (ss := steps.take k) (ss' := steps) (L := from_) (fun s hs => List.mem_of_mem_take hs) HI.out.2.2
        have h3 := come_bound h1 h2
        rw [← HT.out, HO2.out.length, ← HBD.out] at h3
        exact h3
      have kb := HV2.out.cell (j := 5) rfl
      by_cases hlt : k < n5
      · obtain ⟨b, off, rfl, hb, hcell⟩ := HC5.out (by omega)
        have hkx : k < steps.length := by rw [HL5.out]; exact hlt
        obtain ⟨⟨x, y, z⟩, hs⟩ : ∃ t, t = steps[k] := ⟨_, rfl⟩
        obtain ⟨d0, d1, d2⟩ := hcell k steps[k] (List.getElem?_eq_getElem hkx)
        rw [← hs] at d0 d1 d2
        have e0 := (hnx2.cell (p := ⟨b, off + k * 3, none⟩) hb).trans d0
        have e1 := (hnx2.cell (p := ⟨b, off + k * 3 + 1, none⟩) hb).trans d1
        have e2 := (hnx2.cell (p := ⟨b, off + k * 3 + 2, none⟩) hb).trans d2
        simp only at e0 e1 e2
        obtain ⟨q1, hq1⟩ : ∃ q, q = hasB set y := ⟨_, rfl⟩
        obtain ⟨q2, hq2⟩ : ∃ q, q = hasB O2 x := ⟨_, rfl⟩
        have HP : Hid (passOf set (steps.take (k + 1)) O = if q1 && q2 then put O2 z else O2) := by
          unfold Hid
          rw [List.take_succ_eq_append_getElem hkx, ← hs, passOf_snoc, ← HT.out, hq1, hq2]
        have C1 : Hid (∀ W, Below w.heap.size w W → Calls Tryz.prog 24 #[.slice sa sn sc, .int .i64 y] W fun e w' => e = .returned (.bool q1) ∧ W = w') := fun W hW => by rw [hq1]; exact (specSetHas_any sa sn sc y set W (HS.out.below hW) (by omega)).mono fun _ _ h => ⟨h.1, h.2.symm⟩
        have C2 : Hid (Calls Tryz.prog 24 #[.slice (some ⟨g2, 0, none⟩) len2 c2, .int .i64 x] wr fun e w' => e = .returned (.bool q2) ∧ wr = w') := by unfold Hid; rw [hq2]; exact (specSetHas_any _ len2 c2 x O2 _ HO2.out.row.2.2.2 (by omega)).mono fun _ _ h => ⟨h.1, h.2.symm⟩
        clear hq1 hq2 d0 d1 d2 hs hcell HT
        cases q1 with
        | false =>
          have HP2 : Hid (O2 = passOf set (steps.take (k + 1)) O) := HP.out.symm
          go_wp2_with fail
          refine (C1.out _ hnx2).mono ?_
          rintro e w3 ⟨rfl, rfl⟩
          go_wp2_with fail
          go_roundw
          case rel => exact ⟨k + 1, g2, c2, len2, O2, by omega, by go_num, rfl, HO2.out, HP2.out, hnx2, HV2.out⟩
          case measure => simp [intOf]; omega
        | true =>
          cases q2 with
          | false =>
            have HP2 : Hid (O2 = passOf set (steps.take (k + 1)) O) := HP.out.symm
            go_wp2_with fail
            refine (C1.out _ hnx2).mono ?_
            rintro e w3 ⟨rfl, rfl⟩
            go_wp2_with fail
            refine C2.out.mono ?_
            rintro e w3 ⟨rfl, rfl⟩
            go_wp2_with fail
            go_roundw
            case rel => exact ⟨k + 1, g2, c2, len2, O2, by omega, by go_num, rfl, HO2.out, HP2.out, hnx2, HV2.out⟩
            case measure => simp [intOf]; omega
          | true =>
            have HP2 : Hid (put O2 z = passOf set (steps.take (k + 1)) O) := HP.out.symm
            go_wp2_with fail
            refine (C1.out _ hnx2).mono ?_
            rintro e w3 ⟨rfl, rfl⟩
            go_wp2_with fail
            refine C2.out.mono ?_
            rintro e w3 ⟨rfl, rfl⟩
            go_wp2_with fail
            refine (put_any g2 len2 c2 z O2 w.heap.size _ HO2.out (by omega) hnx2.size).mono ?_
            rintro e w3 ⟨g3, c3, rfl, ho, hb3⟩
            have HO3 := Lib.hid ho
            have B3 : Hid (Below w.heap.size w w3) := hnx2.trans (hb3.mono hnx2.size)
            have HV3 := Lib.hid (HV2.out.below hb3)
            clear ho hb3
            go_wp2_with fail
            go_roundw
            case rel => exact ⟨k + 1, g3, c3, _, put O2 z, by omega, by go_num, rfl, HO3.out, HP2.out, B3.out, HV3.out⟩
            case measure => simp [intOf]; omega
      · have HE : Hid (O2 = passOf set steps O) := by
          have := HT.out
          rw [List.take_of_length_le (by rw [HL5.out]; omega)] at this
          exact this
        have hge : len ≤ len2 := by
          have := passOf_len (set := set) (ss := steps) HI.out.1
          rw [← HE.out, HO2.out.length, HO.out.length] at this
          exact this
        have HI2 : Hid (O2.Pairwise (· < ·) ∧ (∀ x ∈ from_, x ∈ O2) ∧ ∀ y ∈ O2, Come set steps from_ y) := by
          rw [HE.out]
          exact ⟨passOf_rises HI.out.1, fun x hx => mem_passOf (HI.out.2.1 x hx), passOf_come (fun _ h => h) HI.out.2.2⟩
        by_cases heq : len2 = len
        · have HR : Hid (O2 = alongOf set steps from_) := by
            have hl : (passOf set steps O).length = O.length := by rw [← HE.out, HO2.out.length, HO.out.length, heq]
            rw [HE.out, passOf_done HI.out.1 hl]
            exact along_eq HI.out.1 (pass_end HI.out.1 HI.out.2.1 HI.out.2.2 hl)
          have hd : ((len2 : Int) == (len : Int)) = true := by simp [heq]
          clear heq
          go_wp2_with fail
          go_ret
          have e := HO2.out.length
          rw [← HR.out]
          subst e
          exact ⟨_, _, rfl, HO2.out, hnx2⟩
        · have hd : ((len2 : Int) == (len : Int)) = false := by simp; omega
          go_wp2_with fail
          go_roundw
          case rel => exact ⟨g2, c2, len2, O2, rfl, HO2.out, hlen2, HI2.out, hnx2, HV2.out⟩
          case measure => simp [lenOf_slice]; omega

end Go.Proofs.YtogjbnimohakjabGreat

/-
  The contract of the model's Reached. Conditions: the automaton's lists have at most 2^20 elements.
-/
namespace Go.Proofs.YtogjbnimohakjabGreat
open Go.RowKit

theorem row_lit1 (W0 : World) (x : Int) (g : Nat) (hg : g = W0.heap.size) : Row (W0.alloc (.cells #[.int .i64 x] 3)) (some ⟨g, 0, none⟩) 1 [x] := by
  subst hg
  exact (owns_lit W0 [x] 1 rfl (by unfold maxLen; omega)).row.2.2.2

theorem reached_len (a : IaD) (f5 : a.steps.length ≤ 1048576) : (if iaOkB a then reachedOf a else []).length ≤ 4194304 := by
  have h := alongOf_mem (actsOf a) a.steps [a.init]
  have := come_bound h.1 (fun y hy => (h.2 y).1 hy)
  split
  · unfold reachedOf
    simp only [List.length_singleton] at this
    omega
  · simp

set_option maxRecDepth 20000 in
set_option maxHeartbeats 3200000 in
theorem specReached_any (a : IaD) (v : Value) (w : World) (h : IaRow w a v) (f2 : a.ins.length ≤ 1048576) (f3 : a.outs.length ≤ 1048576) (f4 : a.hids.length ≤ 1048576) (f5 : a.steps.length ≤ 1048576) :
    Calls Tryz.prog 114 #[v] w (OwnRes w w.heap.size (if iaOkB a then reachedOf a else [])) := by
  have CO : Hid (∀ W, Below w.heap.size w W → Calls Tryz.prog 93 #[v] W fun e w' => e = .returned (.bool (iaOkB a)) ∧ Below W.heap.size W w') := fun W hW => specIaOk_any a v W (h.below hW) f2 f3 f4 f5
  have CA0 : Hid (iaOkB a = true → ∀ W, Below w.heap.size w W → Calls Tryz.prog 101 #[v] W (OwnRes W W.heap.size (actsOf a))) := fun hok W hW => by
    have := specActsOf_any a v W (h.below hW) f2 f3 f4 f5
    rwa [if_pos hok] at this
  have hal : (actsOf a).length ≤ 4194304 := by
    have h1 := join_len a.ins a.outs
    have h2 := join_len (joinOf a.ins a.outs) a.hids
    unfold actsOf
    omega
  obtain ⟨a2, n2, c2, a3, n3, c3, a4, n4, c4, a5, n5, c5, rfl, r2, r3, r4, r5⟩ := h
  obtain ⟨st, it, ins, outs, hids, steps⟩ := a
  simp only at r2 r3 r4 r5 f2 f3 f4 f5
  rw [r5.1] at f5
  have R5 := Lib.hid r5
  clear r2 r3 r4 r5 f2 f3 f4
  obtain ⟨acts, hacts⟩ : ∃ l, l = actsOf ⟨st, it, ins, outs, hids, steps⟩ := ⟨_, rfl⟩
  obtain ⟨ns, hns⟩ : ∃ n, n = acts.length := ⟨_, rfl⟩
  rw [← hacts, ← hns] at hal
  have HRE : Hid (reachedOf ⟨st, it, ins, outs, hids, steps⟩ = alongOf acts steps [it]) := by rw [hacts]; rfl
  rw [← hacts] at CA0
  obtain ⟨q, hq⟩ : ∃ q, q = iaOkB ⟨st, it, ins, outs, hids, steps⟩ := ⟨_, rfl⟩
  rw [← hq] at CO CA0 ⊢
  obtain ⟨L, hL⟩ : ∃ L, L = if q then reachedOf ⟨st, it, ins, outs, hids, steps⟩ else [] := ⟨_, rfl⟩
  rw [← hL]
  have HL := Lib.hid hL
  have HNS := Lib.hid hns
  clear hq hL hacts hns
  have B0 : Hid (∀ o, Below w.heap.size w (w.alloc o)) := fun o => (Below.refl _ _).alloc (Nat.le_refl _) _
  have V0 := Lib.hid (VarIs.new w #[.int .i64 st, .int .i64 it, .slice a2 n2 c2, .slice a3 n3 c3, .slice a4 n4 c4, .slice a5 n5 c5] 29 rfl)
  go_enter Tryz.func114, Tryz.ntmps114
  go_wp2_with fail
  refine (CO.out _ (B0.out _)).mono ?_
  rintro e w1 ⟨rfl, hb⟩
  have B1 : Hid (Below w.heap.size w w1) := (B0.out _).trans (hb.mono (B0.out _).size)
  have V1 := Lib.hid (V0.out.below hb)
  clear hb V0
  cases q with
  | false =>
    go_wp2_with fail
    go_ret
    obtain rfl : L = [] := HL.out
    exact ⟨_, _, rfl, (owns_lit _ [] 0 rfl (by unfold maxLen; omega)).mono B1.out.size, B1.out.alloc B1.out.size _⟩
  | true =>
    have V1d := V1.out.drew
    have S0 : Below w.heap.size w w1.drew ∧ VarIs w1.drew w.heap.size #[.int .i64 st, .int .i64 it, .slice a2 n2 c2, .slice a3 n3 c3, .slice a4 n4 c4, .slice a5 n5 c5] 29 ∧ w1.drew.cell? ⟨w.heap.size, 0, none⟩ = some (.int .i64 st) ∧ w1.drew.cell? ⟨w.heap.size, 1, none⟩ = some (.int .i64 it) ∧ w1.drew.cell? ⟨w.heap.size, 2, none⟩ = some (.slice a2 n2 c2) ∧ w1.drew.cell? ⟨w.heap.size, 3, none⟩ = some (.slice a3 n3 c3) ∧ w1.drew.cell? ⟨w.heap.size, 4, none⟩ = some (.slice a4 n4 c4) ∧ w1.drew.cell? ⟨w.heap.size, 5, none⟩ = some (.slice a5 n5 c5) := ⟨B1.out.drew, V1d, V1d.cell rfl, V1d.cell rfl, V1d.cell rfl, V1d.cell rfl, V1d.cell rfl, V1d.cell rfl⟩
    have V1e := (V1.out.alloc (.cells #[.int .i64 it] 3)).drew
    have SA : Hid (Below w.heap.size w (w1.alloc (.cells #[.int .i64 it] 3)).drew ∧ VarIs (w1.alloc (.cells #[.int .i64 it] 3)).drew w.heap.size #[.int .i64 st, .int .i64 it, .slice a2 n2 c2, .slice a3 n3 c3, .slice a4 n4 c4, .slice a5 n5 c5] 29 ∧ (w1.alloc (.cells #[.int .i64 it] 3)).drew.cell? ⟨w.heap.size, 0, none⟩ = some (.int .i64 st) ∧ (w1.alloc (.cells #[.int .i64 it] 3)).drew.cell? ⟨w.heap.size, 1, none⟩ = some (.int .i64 it) ∧ (w1.alloc (.cells #[.int .i64 it] 3)).drew.cell? ⟨w.heap.size, 2, none⟩ = some (.slice a2 n2 c2) ∧ (w1.alloc (.cells #[.int .i64 it] 3)).drew.cell? ⟨w.heap.size, 3, none⟩ = some (.slice a3 n3 c3) ∧ (w1.alloc (.cells #[.int .i64 it] 3)).drew.cell? ⟨w.heap.size, 4, none⟩ = some (.slice a4 n4 c4) ∧ (w1.alloc (.cells #[.int .i64 it] 3)).drew.cell? ⟨w.heap.size, 5, none⟩ = some (.slice a5 n5 c5)) := ⟨(B1.out.alloc B1.out.size _).drew, V1e, V1e.cell rfl, V1e.cell rfl, V1e.cell rfl, V1e.cell rfl, V1e.cell rfl, V1e.cell rfl⟩
    have RFA : Hid (Row (w1.alloc (.cells #[.int .i64 it] 3)).drew (some ⟨w1.heap.size, 0, none⟩) 1 [it]) := row_lit1 w1 it _ rfl
    clear V1d V1e
    have CA : Hid (∀ W, Below w.heap.size w W ∧ VarIs W w.heap.size #[.int .i64 st, .int .i64 it, .slice a2 n2 c2, .slice a3 n3 c3, .slice a4 n4 c4, .slice a5 n5 c5] 29 ∧ W.cell? ⟨w.heap.size, 0, none⟩ = some (.int .i64 st) ∧ W.cell? ⟨w.heap.size, 1, none⟩ = some (.int .i64 it) ∧ W.cell? ⟨w.heap.size, 2, none⟩ = some (.slice a2 n2 c2) ∧ W.cell? ⟨w.heap.size, 3, none⟩ = some (.slice a3 n3 c3) ∧ W.cell? ⟨w.heap.size, 4, none⟩ = some (.slice a4 n4 c4) ∧ W.cell? ⟨w.heap.size, 5, none⟩ = some (.slice a5 n5 c5) → Calls Tryz.prog 101 #[.agg #[.int .i64 st, .int .i64 it, .slice a2 n2 c2, .slice a3 n3 c3, .slice a4 n4 c4, .slice a5 n5 c5]] W fun e w' => ∃ g c, e = .returned (.slice (some ⟨g, 0, none⟩) ns c) ∧ Row w' (some ⟨g, 0, none⟩) ns acts ∧ Below W.heap.size W w' ∧ (Below w.heap.size w w' ∧ VarIs w' w.heap.size #[.int .i64 st, .int .i64 it, .slice a2 n2 c2, .slice a3 n3 c3, .slice a4 n4 c4, .slice a5 n5 c5] 29 ∧ w'.cell? ⟨w.heap.size, 0, none⟩ = some (.int .i64 st) ∧ w'.cell? ⟨w.heap.size, 1, none⟩ = some (.int .i64 it) ∧ w'.cell? ⟨w.heap.size, 2, none⟩ = some (.slice a2 n2 c2) ∧ w'.cell? ⟨w.heap.size, 3, none⟩ = some (.slice a3 n3 c3) ∧ w'.cell? ⟨w.heap.size, 4, none⟩ = some (.slice a4 n4 c4) ∧ w'.cell? ⟨w.heap.size, 5, none⟩ = some (.slice a5 n5 c5))) := fun W hW => (CA0.out rfl W hW.1).mono fun e w' ⟨g, c, he, ho, hb⟩ => ⟨g, c, by rw [he, HNS.out], by rw [HNS.out]; exact ho.row.2.2.2, hb, ⟨hW.1.trans (hb.mono hW.1.size), hW.2.1.below hb, (hW.2.1.below hb).cell rfl, (hW.2.1.below hb).cell rfl, (hW.2.1.below hb).cell rfl, (hW.2.1.below hb).cell rfl, (hW.2.1.below hb).cell rfl, (hW.2.1.below hb).cell rfl⟩⟩
    have CL : Hid (∀ W g (g' c' : Nat), Below w.heap.size w W ∧ VarIs W w.heap.size #[.int .i64 st, .int .i64 it, .slice a2 n2 c2, .slice a3 n3 c3, .slice a4 n4 c4, .slice a5 n5 c5] 29 ∧ W.cell? ⟨w.heap.size, 0, none⟩ = some (.int .i64 st) ∧ W.cell? ⟨w.heap.size, 1, none⟩ = some (.int .i64 it) ∧ W.cell? ⟨w.heap.size, 2, none⟩ = some (.slice a2 n2 c2) ∧ W.cell? ⟨w.heap.size, 3, none⟩ = some (.slice a3 n3 c3) ∧ W.cell? ⟨w.heap.size, 4, none⟩ = some (.slice a4 n4 c4) ∧ W.cell? ⟨w.heap.size, 5, none⟩ = some (.slice a5 n5 c5) → Row W (some ⟨g, 0, none⟩) 1 [it] → Row W (some ⟨g', 0, none⟩) ns acts → Calls Tryz.prog 100 #[.agg #[.int .i64 st, .int .i64 it, .slice a2 n2 c2, .slice a3 n3 c3, .slice a4 n4 c4, .slice a5 n5 c5], .slice (some ⟨g, 0, none⟩) 1 1, .slice (some ⟨g', 0, none⟩) ns c'] W fun e w' => OwnRes w w.heap.size (reachedOf ⟨st, it, ins, outs, hids, steps⟩) e w' ∧ (Below w.heap.size w w' ∧ VarIs w' w.heap.size #[.int .i64 st, .int .i64 it, .slice a2 n2 c2, .slice a3 n3 c3, .slice a4 n4 c4, .slice a5 n5 c5] 29 ∧ w'.cell? ⟨w.heap.size, 0, none⟩ = some (.int .i64 st) ∧ w'.cell? ⟨w.heap.size, 1, none⟩ = some (.int .i64 it) ∧ w'.cell? ⟨w.heap.size, 2, none⟩ = some (.slice a2 n2 c2) ∧ w'.cell? ⟨w.heap.size, 3, none⟩ = some (.slice a3 n3 c3) ∧ w'.cell? ⟨w.heap.size, 4, none⟩ = some (.slice a4 n4 c4) ∧ w'.cell? ⟨w.heap.size, 5, none⟩ = some (.slice a5 n5 c5))) := fun W g g' c' hW hr1 hr2 => by
      rw [HRE.out]
      exact (along_any st it _ _ _ a5 n5 c5 steps _ 1 1 [it] _ ns c' acts W (R5.out.below hW.1) (by omega) hr1 (by omega) hr2 (by omega)).mono fun e w' ⟨g2, c2, he, ho, hb⟩ => ⟨⟨g2, c2, he, ho.mono hW.1.size, hW.1.trans (hb.mono hW.1.size)⟩, ⟨hW.1.trans (hb.mono hW.1.size), hW.2.1.below hb, (hW.2.1.below hb).cell rfl, (hW.2.1.below hb).cell rfl, (hW.2.1.below hb).cell rfl, (hW.2.1.below hb).cell rfl, (hW.2.1.below hb).cell rfl, (hW.2.1.below hb).cell rfl⟩⟩
    go_wp2_with fail
    refine wp_region_held_drew (S := fun w' => Below w.heap.size w w' ∧ VarIs w' w.heap.size #[.int .i64 st, .int .i64 it, .slice a2 n2 c2, .slice a3 n3 c3, .slice a4 n4 c4, .slice a5 n5 c5] 29 ∧ w'.cell? ⟨w.heap.size, 0, none⟩ = some (.int .i64 st) ∧ w'.cell? ⟨w.heap.size, 1, none⟩ = some (.int .i64 it) ∧ w'.cell? ⟨w.heap.size, 2, none⟩ = some (.slice a2 n2 c2) ∧ w'.cell? ⟨w.heap.size, 3, none⟩ = some (.slice a3 n3 c3) ∧ w'.cell? ⟨w.heap.size, 4, none⟩ = some (.slice a4 n4 c4) ∧ w'.cell? ⟨w.heap.size, 5, none⟩ = some (.slice a5 n5 c5)) (by kernel_rfl) S0 (fun hHeld => ?_)
    change wpAnyH _ _ _ _ _ 8 (Array.replicate 8 false) _ _
    refine take_op 0 7 (.agg #[.int .i64 st, .int .i64 it, .slice a2 n2 c2, .slice a3 n3 c3, .slice a4 n4 c4, .slice a5 n5 c5]) (fuel := 7) rfl rfl (by kernel_rfl) (by kernel_rfl) (by kernel_rfl) (fun _ _ _ h => h) (by rfl) (fun w hSw => by go_simp) hHeld ?_
    simp only [Act.put, List.setIfInBounds_toArray, List.set_cons_zero, List.set_cons_succ]
    refine take_op 1 8 (.pointer (some ⟨w.heap.size, 1, none⟩)) (fuel := 6) rfl rfl (by kernel_rfl) (by kernel_rfl) (by kernel_rfl) (fun _ _ _ h => h) (by rfl) (fun w hSw => by go_simp) hHeld ?_
    simp only [Act.put, List.setIfInBounds_toArray, List.set_cons_zero, List.set_cons_succ]
    refine take_op 2 9 (.int .i64 it) (fuel := 5) rfl rfl (by kernel_rfl) (by kernel_rfl) (by kernel_rfl) (fun _ _ _ h => h) (by rfl) (fun w hSw => by go_simp) hHeld ?_
    simp only [Act.put, List.setIfInBounds_toArray, List.set_cons_zero, List.set_cons_succ]
    refine take_op 4 11 (.agg #[.int .i64 st, .int .i64 it, .slice a2 n2 c2, .slice a3 n3 c3, .slice a4 n4 c4, .slice a5 n5 c5]) (fuel := 4) rfl rfl (by kernel_rfl) (by kernel_rfl) (by kernel_rfl) (fun _ _ _ h => h) (by rfl) (fun w hSw => by go_simp) hHeld ?_
    simp only [Act.put, List.setIfInBounds_toArray, List.set_cons_zero, List.set_cons_succ]

    refine wpAnyH_ready (rs := [3, 5]) (fuel := 3) (by kernel_rfl) (by simp) ?_
    refine AllReadyH.cons rfl (fun K hK => ?_) ?_
    · go_simp
      refine hK.out _ _ SA.out (fun hHeld => ?_)
      clear hK K
      refine wpAnyH_ready (rs := [5]) (fuel := 2) (by kernel_rfl) (by simp) ?_
      refine AllReadyH.cons rfl (fun K hK => ?_) AllReadyH.nil
      go_simp
      refine (CA.out _ SA.out).mono ?_
      rintro e w4 ⟨g4, d4, rfl, hra, hbe, hS4⟩
      have RA := Lib.hid hra
      have RF := Lib.hid (RFA.out.below hbe)
      clear hra hbe
      go_wp2_with fail
      refine hK.out _ _ hS4 (fun hHeld => ?_)
      clear hK K hS4
      refine wpAnyH_ready (rs := [6]) (fuel := 1) (by kernel_rfl) (by simp) ?_
      refine AllReadyH.cons rfl (fun K hK => ?_) AllReadyH.nil
      go_simp
      refine (CL.out _ _ _ _ hHeld RF.out RA.out).mono ?_
      rintro e w5 ⟨hO, hS5⟩
      obtain ⟨g5, d5, rfl, ho5, hb5⟩ := hO
      have HO5 := Lib.hid ho5
      have HB5 := Lib.hid hb5
      clear ho5 hb5
      go_wp2_with fail
      refine hK.out _ _ hS5 (fun hHeld => ?_)
      clear hK K
      refine wpAnyH_ready (rs := [7]) (fuel := 0) (by kernel_rfl) (by simp) ?_
      refine AllReadyH.cons rfl (fun K hK => ?_) AllReadyH.nil
      go_simp
      refine hK.out _ _ hHeld (fun hHeld => ?_)
      clear hK K
      refine wpAnyH_done (by kernel_rfl) ?_ _
      clear hHeld hS5
      go_wp2_with fail
      go_ret
      obtain rfl : L = reachedOf ⟨st, it, ins, outs, hids, steps⟩ := HL.out
      exact ⟨_, _, rfl, HO5.out, HB5.out⟩
    · refine AllReadyH.cons rfl (fun K hK => ?_) AllReadyH.nil
      go_simp
      refine (CA.out _ S0).mono ?_
      rintro e w4 ⟨g4, d4, rfl, hra, hbe, hS4⟩
      go_wp2_with fail
      refine hK.out _ _ hS4 (fun hHeld => ?_)
      clear hK K
      have hbx : Below w4.heap.size w4 (w4.alloc (.cells #[.int .i64 it] 3)) := (Below.refl _ _).alloc (Nat.le_refl _) _
      have V4e := hS4.2.1.below hbx
      have SB : Below w.heap.size w (w4.alloc (.cells #[.int .i64 it] 3)) ∧ VarIs (w4.alloc (.cells #[.int .i64 it] 3)) w.heap.size #[.int .i64 st, .int .i64 it, .slice a2 n2 c2, .slice a3 n3 c3, .slice a4 n4 c4, .slice a5 n5 c5] 29 ∧ (w4.alloc (.cells #[.int .i64 it] 3)).cell? ⟨w.heap.size, 0, none⟩ = some (.int .i64 st) ∧ (w4.alloc (.cells #[.int .i64 it] 3)).cell? ⟨w.heap.size, 1, none⟩ = some (.int .i64 it) ∧ (w4.alloc (.cells #[.int .i64 it] 3)).cell? ⟨w.heap.size, 2, none⟩ = some (.slice a2 n2 c2) ∧ (w4.alloc (.cells #[.int .i64 it] 3)).cell? ⟨w.heap.size, 3, none⟩ = some (.slice a3 n3 c3) ∧ (w4.alloc (.cells #[.int .i64 it] 3)).cell? ⟨w.heap.size, 4, none⟩ = some (.slice a4 n4 c4) ∧ (w4.alloc (.cells #[.int .i64 it] 3)).cell? ⟨w.heap.size, 5, none⟩ = some (.slice a5 n5 c5) := ⟨hS4.1.trans (hbx.mono hS4.1.size), V4e, V4e.cell rfl, V4e.cell rfl, V4e.cell rfl, V4e.cell rfl, V4e.cell rfl, V4e.cell rfl⟩
      have RA := Lib.hid (hra.below hbx)
      have RF := Lib.hid (row_lit1 w4 it _ rfl)
      clear hra hbe hbx V4e hS4
      refine wpAnyH_ready (rs := [3]) (fuel := 2) (by kernel_rfl) (by simp) ?_
      refine AllReadyH.cons rfl (fun K hK => ?_) AllReadyH.nil
      go_simp
      refine hK.out _ _ SB (fun hHeld => ?_)
      clear hK K SB
      refine wpAnyH_ready (rs := [6]) (fuel := 1) (by kernel_rfl) (by simp) ?_
      refine AllReadyH.cons rfl (fun K hK => ?_) AllReadyH.nil
      go_simp
      refine (CL.out _ _ _ _ hHeld RF.out RA.out).mono ?_
      rintro e w5 ⟨hO, hS5⟩
      obtain ⟨g5, d5, rfl, ho5, hb5⟩ := hO
      have HO5 := Lib.hid ho5
      have HB5 := Lib.hid hb5
      clear ho5 hb5
      go_wp2_with fail
      refine hK.out _ _ hS5 (fun hHeld => ?_)
      clear hK K
      refine wpAnyH_ready (rs := [7]) (fuel := 0) (by kernel_rfl) (by simp) ?_
      refine AllReadyH.cons rfl (fun K hK => ?_) AllReadyH.nil
      go_simp
      refine hK.out _ _ hHeld (fun hHeld => ?_)
      clear hK K
      refine wpAnyH_done (by kernel_rfl) ?_ _
      clear hHeld hS5
      go_wp2_with fail
      go_ret
      obtain rfl : L = reachedOf ⟨st, it, ins, outs, hids, steps⟩ := HL.out
      exact ⟨_, _, rfl, HO5.out, HB5.out⟩

end Go.Proofs.YtogjbnimohakjabGreat
