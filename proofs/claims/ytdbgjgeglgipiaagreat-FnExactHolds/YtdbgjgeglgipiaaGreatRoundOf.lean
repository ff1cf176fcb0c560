/-
  The contract of the program's roundOf. Conditions: at most 40 states, at most 2^20 pairs.
-/
import Derived.Test.YtdbgjgeglgipiaaGreatUnmatched
import Derived.Test.YtdbgjgeglgipiaaGreatRowQ
import Derived.Test.YtdbgjgeglgipiaaGreatImplStep
import Derived.Test.YtdbgjgeglgipiaaGreatTwo
namespace Go.Proofs.YtdbgjgeglgipiaaGreat
open Go.RowKit

/-- Both automata's boxes and the row of pointers stand, and all that lay there. -/
def RdS (w W : World) (A B : Array Value) (n : Nat) (G : Nat → Nat) : Prop :=
  Box2 w W w.heap.size (w.heap.size + 1) 31 A B ∧ ∀ v, v < n → w.heap.size + 1 + 1 < G v ∧ G v < W.heap.size ∧ W.cell? ⟨w.heap.size + 1 + 1, v, none⟩ = some (.pointer (some ⟨G v, 0, none⟩))

theorem RdS.below {w W W' : World} {A B : Array Value} {n : Nat} {G : Nat → Nat} (h : RdS w W A B n G) (hb : Below W.heap.size W W') : RdS w W' A B n G :=
  ⟨h.1.below hb, fun v hv => by
    obtain ⟨h1, h2, h3⟩ := h.2 v hv
    exact ⟨h1, Nat.lt_of_lt_of_le h2 hb.size, (hb.cell (p := ⟨w.heap.size + 1 + 1, v, none⟩) (by simp only; omega)).trans h3⟩⟩
theorem RdS.drew {w W : World} {A B : Array Value} {n : Nat} {G : Nat → Nat} (h : RdS w W A B n G) : RdS w W.drew A B n G := ⟨h.1.drew, h.2⟩

theorem RdS.setG {w W : World} {A B : Array Value} {n : Nat} {G : Nat → Nat} (h : RdS w W A B n G) {x : Nat} (hx : x < n) (u : Value) : RdS w (W.setCell ⟨G x, 0, none⟩ u) A B n G := by
  have hg := (h.2 x hx).1
  refine ⟨⟨h.1.1.setCell (show w.heap.size ≤ G x by omega) _, h.1.2.1.other (show w.heap.size ≠ G x by omega) _, h.1.2.2.other (show w.heap.size + 1 ≠ G x by omega) _⟩, fun v hv => ?_⟩
  obtain ⟨h1, h2, h3⟩ := h.2 v hv
  exact ⟨h1, by simpa using h2, by rw [World.cell?_setCell_other _ _ _ _ (fun e => by have := congrArg Addr.block e; simp only at this; omega)]; exact h3⟩

/-- The boxes of bits say 'R'; no two are one. -/
def BoxR (W : World) (G : Nat → Nat) (n : Nat) (R : Nat → Nat → Bool) : Prop := (∀ v, v < n → ∃ X, VarIs W (G v) #[.int .u64 X] 102 ∧ Bits X (R v)) ∧ ∀ v v', v < n → v' < v → G v' < G v

theorem BoxR.below {W W' : World} {G : Nat → Nat} {n : Nat} {R : Nat → Nat → Bool} (h : BoxR W G n R) (hb : Below W.heap.size W W') : BoxR W' G n R := ⟨fun v hv => by
  obtain ⟨X, h1, h2⟩ := h.1 v hv
  exact ⟨X, h1.below hb, h2⟩, h.2⟩

theorem BoxR.like {W : World} {G : Nat → Nat} {n : Nat} {R R' : Nat → Nat → Bool} (h : BoxR W G n R) (e : ∀ v u, v < n → R v u = R' v u) : BoxR W G n R' := ⟨fun v hv => by
  obtain ⟨X, h1, h2⟩ := h.1 v hv
  exact ⟨X, h1, h2.congr fun u _ => e v u hv⟩, h.2⟩

theorem BoxR.set {W : World} {G : Nat → Nat} {n : Nat} {R R' : Nat → Nat → Bool} (h : BoxR W G n R) (x : Nat) (hx : x < n) {Y : Int} (hY : Bits Y (R' x)) (e : ∀ v, v < n → v ≠ x → R v = R' v) : BoxR (W.setCell ⟨G x, 0, none⟩ (.int .u64 Y)) G n R' := ⟨fun v hv => by
  obtain ⟨X, h1, h2⟩ := h.1 v hv
  by_cases ev : v = x
  · subst ev
    exact ⟨Y, h1.set 0 _, hY⟩
  · refine ⟨X, h1.other (fun eg => ?_) _, by rw [← e v hv ev]; exact h2⟩
    by_cases hlt : v < x
    · have := h.2 x v hx hlt
      omega
    · have := h.2 v x hv (by omega)
      omega, h.2⟩

/-- The row of pointers under way. -/
def MkR (w W : World) (A B : Array Value) (n k : Nat) (G : Nat → Nat) (PL : List Value) : Prop :=
  Box2 w W w.heap.size (w.heap.size + 1) 31 A B ∧ W.ownsRow (w.heap.size + 1 + 1) 100 1 (.slice (some ⟨w.heap.size + 1 + 1, 0, none⟩) n n) n PL ∧ ∀ v, v < k → PL[v]? = some (.pointer (some ⟨G v, 0, none⟩)) ∧ VarIs W (G v) #[.int .u64 0] 102 ∧ w.heap.size + 1 + 1 < G v ∧ ∀ v', v' < v → G v' < G v

theorem MkR.step {w W : World} {A B : Array Value} {n k : Nat} {G : Nat → Nat} {PL : List Value} (h : MkR w W A B n k G PL) (hk : k < n) :
    MkR w ((W.alloc (.cells #[.int .u64 0] 102)).setCell ⟨w.heap.size + 1 + 1, k, none⟩ (.pointer (some ⟨W.heap.size, 0, none⟩))) A B n (k + 1) (fun v => if v = k then W.heap.size else G v) (PL.set k (.pointer (some ⟨W.heap.size, 0, none⟩))) := by
  obtain ⟨h1, h2, h3⟩ := h
  have hg := (h2.lt (w.heap.size + 1 + 1) rfl).2
  have hl : PL.length = n := by have := h2.1; omega
  have b1 := h1.alloc (.cells #[.int .u64 0] 102)
  have o1 := (World.ownsRow.alloc h2 (.cells #[.int .u64 0] 102)).stored k (.pointer (some ⟨W.heap.size, 0, none⟩))
  refine ⟨⟨b1.1.setCell (show w.heap.size ≤ w.heap.size + 1 + 1 by omega) _, b1.2.1.other (show w.heap.size ≠ w.heap.size + 1 + 1 by omega) _, b1.2.2.other (show w.heap.size + 1 ≠ w.heap.size + 1 + 1 by omega) _⟩, o1.1, fun v hv => ?_⟩
  by_cases e : v = k
  · subst e
    refine ⟨?_, ?_, ?_, fun v' hv' => ?_⟩
    · simp only [if_true]
      rw [List.getElem?_set_self (by omega)]
    · simp only [if_true]
      exact (VarIs.new W _ _ rfl).other (by omega) _
    · simp only [if_true]
      exact hg
    · have : ¬ v' = v := by omega
      simp only [if_true, if_neg this]
      exact (h3 v' hv').2.1.lt
  · obtain ⟨p1, p2, p3, p4⟩ := h3 v (by omega)
    refine ⟨?_, ?_, ?_, fun v' hv' => ?_⟩
    · simp only [if_neg e]
      rw [List.getElem?_set_ne (by omega)]
      exact p1
    · simp only [if_neg e]
      exact (p2.alloc _).other (by omega) _
    · simp only [if_neg e]
      exact p3
    · have : ¬ v' = k := by omega
      simp only [if_neg e, if_neg this]
      exact p4 v' hv'

theorem MkR.done {w W : World} {A B : Array Value} {n : Nat} {G : Nat → Nat} {PL : List Value} (h : MkR w W A B n n G PL) : RdS w W A B n G ∧ BoxR W G n (fun _ _ => false) := by
  obtain ⟨h1, h2, h3⟩ := h
  refine ⟨⟨h1, fun v hv => ?_⟩, fun v hv => ⟨0, (h3 v hv).2.1, bits64_zero⟩, fun v v' hv hv' => (h3 v hv).2.2.2 v' hv'⟩
  obtain ⟨p1, p2, p3, _⟩ := h3 v hv
  have hl : PL.length = n := by have := h2.1; omega
  exact ⟨p3, p2.lt, (h2.cellAt v (by omega)).trans p1⟩

/-- What the round says of the pairs of 'L' whose second is a state. -/
def relR (b : IaD) (L : List (Int × Int)) (v u : Nat) : Bool := stateB b (u : Int) && inRel L (v : Int) (u : Int)

set_option maxRecDepth 20000 in
set_option maxHeartbeats 6400000 in
theorem roundOf_any (a b : IaD) (v u : Value) (ra : Option Addr) (rn rc : Nat) (L : List (Int × Int)) (n : Nat) (w : World) (h : IaRow w a v) (k : IaRow w b u) (hr : RowQ w ra rn L) (hrn : rn ≤ 1048576) (hst : a.states = (n : Int)) (hn : n ≤ 40) (hsb : b.states ≤ 40) :
    Calls Tryz.prog 38 #[v, u, .slice ra rn rc] w fun e w' => ∃ ad c, e = .returned (.slice ad n c) ∧ RoundAt w' ad n (relR b L) ∧ Below w.heap.size w w' := by
  obtain ⟨i0, hi, hz0, hz1, hz2⟩ := info_parts (show (Tryz.prog.info? 100).map (fun i => (i.zero, i.size, i.bytes)) = some (some (.pointer none), 1, 8) by kernel_rfl)
  obtain ⟨a2, n2, c2, a3, n3, c3, a4, n4, c4, a5, n5, c5, rfl, _⟩ := h
  obtain ⟨b2, m2, d2, b3, m3, d3, b4, m4, d4, b5, m5, d5, rfl, _⟩ := k
  obtain ⟨st, it, ins, outs, hids, steps⟩ := a
  obtain ⟨su, iu, jns, juts, jids, jteps⟩ := b
  simp only at hst hsb
  subst hst
  have HL := Lib.hid hr.1
  have HQ := Lib.hid hr
  clear hr
  have S0 := Lib.hid (Box2.start w (iaC (n : Int) it a2 n2 c2 a3 n3 c3 a4 n4 c4 a5 n5 c5) (iaC su iu b2 m2 d2 b3 m3 d3 b4 m4 d4 b5 m5 d5) 31)
  have HZ : Hid ((((w.alloc (.cells (iaC (n : Int) it a2 n2 c2 a3 n3 c3 a4 n4 c4 a5 n5 c5) 31)).alloc (.cells (iaC su iu b2 m2 d2 b3 m3 d3 b4 m4 d4 b5 m5 d5) 31))).heap.size = w.heap.size + 1 + 1) := by simp [Hid]
  have ma := S0.out.2.1.cell (j := 0) (u := .int .i64 (n : Int)) rfl
  go_enter Tryz.func38, Tryz.ntmps38
  go_wp2_with (at_make; refine wpList_make_full _ rfl _ _ 70 rfl (w.heap.size + 1 + 1) 100 i0 (.pointer none) 1 Tryz.underlying70 hi hz0 hz1 _ _ _ _ n rfl rfl rfl rfl ?b2 ?b3 (by first | exact Nat.le_refl _ | exact Nat.le_of_eq HZ.out.symm | simp) ?_)
  case b2 => omega
  case b3 => unfold maxLen; omega
  intro w0 hown0 hgrow0
  have M0 : Hid (MkR w w0 (iaC (n : Int) it a2 n2 c2 a3 n3 c3 a4 n4 c4 a5 n5 c5) (iaC su iu b2 m2 d2 b3 m3 d3 b4 m4 d4 b5 m5 d5) n 0 (fun _ => 0) (madeCells #[Value.pointer none] n).toList) := ⟨⟨S0.out.1.grown hgrow0 S0.out.1.size (fun k h => by cases h), S0.out.2.1.grown hgrow0 (by simp), S0.out.2.2.grown hgrow0 (by simp)⟩, hown0, fun v hv => absurd hv (Nat.not_lt_zero _)⟩
  clear hown0 hgrow0 S0 HZ ma
  go_wp2_with fail
  go_loopw [16] (fun iv wr => ∃ (k : Nat) (G : Nat → Nat) (PL : List Value), k ≤ n ∧ iv = .int .i64 (k : Int) ∧ Hid (MkR w wr (iaC (n : Int) it a2 n2 c2 a3 n3 c3 a4 n4 c4 a5 n5 c5) (iaC su iu b2 m2 d2 b3 m3 d3 b4 m4 d4 b5 m5 d5) n k G PL)) (fun iv _ => n - (intOf iv).toNat)
  case atStart => exact ⟨0, _, _, Nat.zero_le _, rfl, M0.out⟩
  case round =>
    clear M0
    obtain ⟨k, G, PL, hk, rfl, HM⟩ := hrel
    by_cases hlt : k < n
    · have i1 : (0 : Int) ≤ (k : Int) := by omega
      have i2 : (k : Int) < (n : Int) := by omega
      have HM2 := Lib.hid (HM.out.step hlt)
      have hpl : PL.length = n := by have := HM.out.2.1.1; omega
      obtain ⟨u0, g3⟩ : ∃ u, (wr.alloc (.cells #[.int .u64 0] 102)).cell? ⟨w.heap.size + 1 + 1, k, none⟩ = some u := ⟨_, ((World.ownsRow.alloc HM.out.2.1 (.cells #[.int .u64 0] 102)).cellAt k (by omega)).trans (List.getElem?_eq_getElem (by omega))⟩
      have g2 : (wr.alloc (.cells #[.int .u64 0] 102)).frozen? ⟨w.heap.size + 1 + 1, k, none⟩ = false := (World.ownsRow.alloc HM.out.2.1 (.cells #[.int .u64 0] 102)).frozenAt k
      clear HM hpl
      go_wp2_with fail
      go_roundw
      case rel => exact ⟨k + 1, _, _, by omega, by go_num, HM2.out⟩
      case measure => simp [intOf]; omega
    · obtain rfl : n = k := by omega
      have HD := Lib.hid HM.out.done
      clear HM
      go_wp2_with fail
      go_loopw [26] (fun iv wr => ∃ k : Nat, k ≤ rn ∧ iv = .int .i64 (k : Int) ∧ Hid (RdS w wr (iaC (n : Int) it a2 n2 c2 a3 n3 c3 a4 n4 c4 a5 n5 c5) (iaC su iu b2 m2 d2 b3 m3 d3 b4 m4 d4 b5 m5 d5) n G) ∧ Hid (BoxR wr G n (relR ⟨su, iu, jns, juts, jids, jteps⟩ (L.take k)))) (fun iv _ => rn - (intOf iv).toNat)
      case atStart => exact ⟨0, Nat.zero_le _, rfl, HD.out.1, HD.out.2.like (fun v u _ => by simp [relR, inRel])⟩
      case round =>
        clear HD
        obtain ⟨k, hk, rfl, HS, HB⟩ := hrel
        by_cases hltk : k < rn
        · obtain ⟨g, off, rfl, hb, hcell⟩ := (HQ.out.below HS.out.1.1).2 (by omega)
          have hkx : k < L.length := by rw [HL.out]; exact hltk
          obtain ⟨c0, c1⟩ := hcell k L[k] (List.getElem?_eq_getElem hkx)
          have HST : Hid (∀ v u, relR ⟨su, iu, jns, juts, jids, jteps⟩ (L.take (k + 1)) v u = (relR ⟨su, iu, jns, juts, jids, jteps⟩ (L.take k) v u || (stateB ⟨su, iu, jns, juts, jids, jteps⟩ (u : Int) && (decide (L[k].1 = (v : Int)) && decide (L[k].2 = (u : Int)))))) := fun v u => by
            unfold relR
            rw [inRel_step hkx]
            cases stateB ⟨su, iu, jns, juts, jids, jteps⟩ (u : Int) <;> simp
          obtain ⟨⟨x, y⟩, hx⟩ : ∃ x, x = L[k] := ⟨_, rfl⟩
          rw [← hx] at c0 c1 HST
          simp only at c0 c1
          have i1 : (0 : Int) ≤ (k : Int) := by omega
          have i2 : (k : Int) < (rn : Int) := by omega
          have HSA : Hid (RdS w (wr.alloc (.cells #[.int .i64 x, .int .i64 y] 59)) (iaC (n : Int) it a2 n2 c2 a3 n3 c3 a4 n4 c4 a5 n5 c5) (iaC su iu b2 m2 d2 b3 m3 d3 b4 m4 d4 b5 m5 d5) n G) := HS.out.below ((Below.refl _ _).alloc (Nat.le_refl _) _)
          have HBA : Hid (BoxR (wr.alloc (.cells #[.int .i64 x, .int .i64 y] 59)) G n (relR ⟨su, iu, jns, juts, jids, jteps⟩ (L.take k))) := HB.out.below ((Below.refl _ _).alloc (Nat.le_refl _) _)
          have VP : Hid (VarIs (wr.alloc (.cells #[.int .i64 x, .int .i64 y] 59)) wr.heap.size #[.int .i64 x, .int .i64 y] 59) := VarIs.new wr _ _ rfl
          have HGX0 : Hid (∀ v, v < n → G v < wr.heap.size) := fun v hv => (HS.out.2 v hv).2.1
          clear hcell hx hkx HS HB
          have a0 := HSA.out.1.2.1.cell (j := 0) (u := .int .i64 (n : Int)) rfl
          have a1 := HSA.out.1.2.1.cell (j := 1) (u := .int .i64 it) rfl
          have a2 := HSA.out.1.2.1.cell (j := 2) (u := .slice a2 n2 c2) rfl
          have a3 := HSA.out.1.2.1.cell (j := 3) (u := .slice a3 n3 c3) rfl
          have a4 := HSA.out.1.2.1.cell (j := 4) (u := .slice a4 n4 c4) rfl
          have a5 := HSA.out.1.2.1.cell (j := 5) (u := .slice a5 n5 c5) rfl
          have p0 := VP.out.cell (j := 0) (u := .int .i64 x) rfl
          have HGX : Hid (∀ v, v < n → G v < wr.heap.size) := HGX0.out
          go_wp2_with fail
          clear a0 a1 a2 a3 a4 a5 p0
          refine (isState_any (n : Int) it x _ _ _ _ _).mono ?_
          rintro e w1 ⟨rfl, hb1⟩
          have HS1 := Lib.hid (HSA.out.below hb1)
          have HB1 := Lib.hid (HBA.out.below hb1)
          have VP1 := Lib.hid (VP.out.below hb1)
          clear hb1 HSA HBA VP
          obtain ⟨qa, hqa⟩ : ∃ q, q = btw x 0 ((n : Int) - 1) := ⟨_, rfl⟩
          rw [← hqa]
          cases qa with
          | false =>
            have HB2 : Hid (BoxR w1 G n (relR ⟨su, iu, jns, juts, jids, jteps⟩ (L.take (k + 1)))) := HB1.out.like (fun v u hv => by
              rw [HST.out]
              have : ¬ x = (v : Int) := fun e => by
                rw [e] at hqa
                simp [btw] at hqa
                omega
              simp [this])
            clear HB1 HST hqa VP1
            go_wp2_with fail
            go_roundw
            case rel => exact ⟨k + 1, by omega, by go_num, HS1.out, HB2.out⟩
            case measure => simp [intOf]; omega
          | true =>
            have hxx : 0 ≤ x ∧ x < (n : Int) := by
              have := hqa.symm
              simp [btw] at this
              omega
            clear hqa
            have b0x := HS1.out.1.2.2.cell (j := 0) (u := .int .i64 su) rfl
            have b1x := HS1.out.1.2.2.cell (j := 1) (u := .int .i64 iu) rfl
            have b2x := HS1.out.1.2.2.cell (j := 2) (u := .slice b2 m2 d2) rfl
            have b3x := HS1.out.1.2.2.cell (j := 3) (u := .slice b3 m3 d3) rfl
            have b4x := HS1.out.1.2.2.cell (j := 4) (u := .slice b4 m4 d4) rfl
            have b5x := HS1.out.1.2.2.cell (j := 5) (u := .slice b5 m5 d5) rfl
            have p1 := VP1.out.cell (j := 1) (u := .int .i64 y) rfl
            go_wp2_with fail
            clear b0x b1x b2x b3x b4x b5x p1
            refine (isState_any su iu y _ _ _ _ _).mono ?_
            rintro e w2 ⟨rfl, hb1⟩
            have HS2 := Lib.hid (HS1.out.below hb1)
            have HB2 := Lib.hid (HB1.out.below hb1)
            have VP2 := Lib.hid (VP1.out.below hb1)
            clear hb1 HS1 HB1 VP1
            obtain ⟨qb, hqb⟩ : ∃ q, q = btw y 0 (su - 1) := ⟨_, rfl⟩
            rw [← hqb]
            cases qb with
            | false =>
              have HB3 : Hid (BoxR w2 G n (relR ⟨su, iu, jns, juts, jids, jteps⟩ (L.take (k + 1)))) := HB2.out.like (fun v u hv => by
                rw [HST.out]
                by_cases e : y = (u : Int)
                · have h2 : stateB ⟨su, iu, jns, juts, jids, jteps⟩ (u : Int) = false := by
                    rw [← e]
                    exact hqb.symm
                  rw [h2]
                  simp
                · simp [e])
              clear HB2 HST hqb VP2
              go_wp2_with fail
              go_roundw
              case rel => exact ⟨k + 1, by omega, by go_num, HS2.out, HB3.out⟩
              case measure => simp [intOf]; omega
            | true =>
              have hyy : 0 ≤ y ∧ y < 40 := by
                have := hqb.symm
                simp [btw] at this
                omega
              obtain ⟨x, rfl⟩ : ∃ z : Nat, x = (z : Int) := ⟨x.toNat, by omega⟩
              obtain ⟨y, rfl⟩ : ∃ z : Nat, y = (z : Int) := ⟨y.toNat, by omega⟩
              have hxn : x < n := by omega
              have i1 : (0 : Int) ≤ (x : Int) := by omega
              have i2 : (x : Int) < (n : Int) := by omega
              have y1 : (0 : Int) ≤ (y : Int) := by omega
              have y2 : (y : Int) < 64 := by omega
              obtain ⟨X, vx, hX⟩ := HB2.out.1 x hxn
              have HN : Hid (Bits (bits .or .u64 X (IntKind.u64.wrap ((2 : Int) ^ y))) (relR ⟨su, iu, jns, juts, jids, jteps⟩ (L.take (k + 1)) x)) := by
                refine (hX.or (Bits.pow (by omega : y < 64))).congr fun u _ => ?_
                rw [HST.out]
                have h2 : stateB ⟨su, iu, jns, juts, jids, jteps⟩ ((y : Nat) : Int) = true := hqb.symm
                by_cases e : u = y
                · subst e
                  rw [h2]
                  simp
                · have e2 : ¬ (y : Int) = (u : Int) := by omega
                  simp [e, e2]
              have HB3 : Hid (BoxR (w2.drew.setCell ⟨G x, 0, none⟩ (.int .u64 (bits .or .u64 X (IntKind.u64.wrap ((2 : Int) ^ y))))) G n (relR ⟨su, iu, jns, juts, jids, jteps⟩ (L.take (k + 1)))) := by
                refine BoxR.set (W := w2.drew) HB2.out x hxn HN.out fun v hv hne => ?_
                funext u
                rw [HST.out]
                have : ¬ (x : Int) = (v : Int) := by omega
                simp [this]
              have rc : w2.drew.cell? ⟨G x, 0, none⟩ = some (.int .u64 X) := vx.cell (j := 0) rfl
              have rf : w2.drew.frozen? ⟨G x, 0, none⟩ = false := vx.frozen 0
              have S12 : Hid ((RdS w (w2.drew.setCell ⟨G x, 0, none⟩ (.int .u64 (bits .or .u64 X (IntKind.u64.wrap ((2 : Int) ^ y))))) (iaC (n : Int) it a2 n2 c2 a3 n3 c3 a4 n4 c4 a5 n5 c5) (iaC su iu b2 m2 d2 b3 m3 d3 b4 m4 d4 b5 m5 d5) n G) ∧ VarIs (w2.drew.setCell ⟨G x, 0, none⟩ (.int .u64 (bits .or .u64 X (IntKind.u64.wrap ((2 : Int) ^ y))))) wr.heap.size #[.int .i64 (x : Int), .int .i64 (y : Int)] 59) := ⟨HS2.out.drew.setG hxn _, VarIs.other VP2.out (by have := HGX.out x hxn; omega) _⟩
              have SD : (RdS w w2.drew (iaC (n : Int) it a2 n2 c2 a3 n3 c3 a4 n4 c4 a5 n5 c5) (iaC su iu b2 m2 d2 b3 m3 d3 b4 m4 d4 b5 m5 d5) n G) ∧ VarIs w2.drew wr.heap.size #[.int .i64 (x : Int), .int .i64 (y : Int)] 59 := ⟨HS2.out.drew, VP2.out⟩
              clear HS2 HB2 VP2 hX vx hqb hxx hyy HN HST
              go_wp2_with fail
              refine wp_region_tf (S := fun w' => RdS w w' (iaC (n : Int) it a2 n2 c2 a3 n3 c3 a4 n4 c4 a5 n5 c5) (iaC su iu b2 m2 d2 b3 m3 d3 b4 m4 d4 b5 m5 d5) n G ∧ VarIs w' wr.heap.size #[.int .i64 (x : Int), .int .i64 (y : Int)] 59) 13 (by kernel_rfl) (by kernel_rfl) (by kernel_rfl) SD (fun hHeld => ?_)
              refine fast_move 0 40 (.slice (some ⟨w.heap.size + 1 + 1, 0, none⟩) n n) (.tmp 7) (fuel := 12) rfl rfl (by kernel_rfl) (by kernel_rfl) (by kernel_rfl) (fun _ _ _ h => h) (by kernel_rfl) (by kernel_rfl) (by first | exact Or.inl rfl | exact Or.inr rfl) hHeld (tf 1 13) (by kernel_rfl) (fun K hK => ?_)
              go_big_move
              refine hK.out _ ?_
              clear hK K
              refine fast1 1 41 (.pointer (some ⟨wr.heap.size, 0, none⟩)) (.tmp 10) (.pointer (some ⟨wr.heap.size, 0, none⟩)) (fuel := 11) rfl rfl (by kernel_rfl) (by kernel_rfl) (by kernel_rfl) (fun _ _ _ h => h) (by kernel_rfl) (by kernel_rfl) (fun ρ hr0 _ w hSw => by simp [go_sem, hr0]) hHeld (tf 3 13) (by kernel_rfl) (fun K hK => ?_)
              go_big_move
              refine hK.out _ ?_
              clear hK K
              refine fast1 2 42 (.int .i64 (x : Int)) (.tmp 41) (.pointer (some ⟨wr.heap.size, 0, none⟩)) (fuel := 10) rfl rfl (by kernel_rfl) (by kernel_rfl) (by kernel_rfl) (fun _ _ _ h => h) (by kernel_rfl) (by kernel_rfl) (fun ρ hr0 _ w hSw => by have m := hSw.2.cell (j := 0) (u := .int .i64 (x : Int)) rfl; simp [go_sem, hr0, m]) hHeld (tf 7 13) (by kernel_rfl) (fun K hK => ?_)
              go_big_move
              refine hK.out _ ?_
              clear hK K
              refine fast2 3 43 (.pointer (some ⟨w.heap.size + 1 + 1, x, none⟩)) (.tmp 40) (.slice (some ⟨w.heap.size + 1 + 1, 0, none⟩) n n) (.tmp 42) (.int .i64 (x : Int)) (fuel := 9) rfl rfl (by kernel_rfl) (by kernel_rfl) (by kernel_rfl) (fun _ _ _ h => h) (by kernel_rfl) (by kernel_rfl) (by kernel_rfl) (fun ρ hr0 hr1 _ w hSw => by have h1 := i1; have h2 := i2; simp [go_sem, hr0, hr1, h1, h2]) hHeld (tf 15 13) (by kernel_rfl) (fun K hK => ?_)
              go_big_move
              refine hK.out _ ?_
              clear hK K
              refine fast1 4 44 (.pointer (some ⟨G x, 0, none⟩)) (.tmp 43) (.pointer (some ⟨w.heap.size + 1 + 1, x, none⟩)) (fuel := 8) rfl rfl (by kernel_rfl) (by kernel_rfl) (by kernel_rfl) (fun _ _ _ h => h) (by kernel_rfl) (by kernel_rfl) (fun ρ hr0 _ w hSw => by have m := (hSw.1.2 x hxn).2.2; simp [go_sem, hr0, m]) hHeld (tf 31 13) (by kernel_rfl) (fun K hK => ?_)
              go_big_move
              refine hK.out _ ?_
              clear hK K
              refine fast1 5 45 (.pointer (some ⟨G x, 0, none⟩)) (.tmp 44) (.pointer (some ⟨G x, 0, none⟩)) (fuel := 7) rfl rfl (by kernel_rfl) (by kernel_rfl) (by kernel_rfl) (fun _ _ _ h => h) (by kernel_rfl) (by kernel_rfl) (fun ρ hr0 _ w hSw => by simp [go_sem, hr0]) hHeld (tf 63 13) (by kernel_rfl) (fun K hK => ?_)
              go_big_move
              refine hK.out _ ?_
              clear hK K
              refine fast1 7 47 (.pointer (some ⟨wr.heap.size, 1, none⟩)) (.tmp 10) (.pointer (some ⟨wr.heap.size, 0, none⟩)) (fuel := 6) rfl rfl (by kernel_rfl) (by kernel_rfl) (by kernel_rfl) (fun _ _ _ h => h) (by kernel_rfl) (by kernel_rfl) (fun ρ hr0 _ w hSw => by simp [go_sem, hr0]) hHeld (tf 191 13) (by kernel_rfl) (fun K hK => ?_)
              go_big_move
              refine hK.out _ ?_
              clear hK K
              refine fast1 8 48 (.int .i64 (y : Int)) (.tmp 47) (.pointer (some ⟨wr.heap.size, 1, none⟩)) (fuel := 5) rfl rfl (by kernel_rfl) (by kernel_rfl) (by kernel_rfl) (fun _ _ _ h => h) (by kernel_rfl) (by kernel_rfl) (fun ρ hr0 _ w hSw => by have m := hSw.2.cell (j := 1) (u := .int .i64 (y : Int)) rfl; simp [go_sem, hr0, m]) hHeld (tf 447 13) (by kernel_rfl) (fun K hK => ?_)
              go_big_move
              refine hK.out _ ?_
              clear hK K
              refine fast1 9 49 (.int .u64 (IntKind.u64.wrap ((2 : Int) ^ y))) (.tmp 48) (.int .i64 (y : Int)) (fuel := 4) rfl rfl (by kernel_rfl) (by kernel_rfl) (by kernel_rfl) (fun _ _ _ h => h) (by kernel_rfl) (by kernel_rfl) (fun ρ hr0 hc w hSw => by simp [go_sem, hc, hr0]) hHeld (tf 959 13) (by kernel_rfl) (fun K hK => ?_)
              go_big_move
              refine hK.out _ ?_
              clear hK K
              refine wpAnyH_ready (rs := [6]) (fuel := 3) (by kernel_rfl) (by simp) ?_
              refine ready_want rfl (by kernel_rfl) (tf 1023 13) (by kernel_rfl) (fun K hK => ?_) AllReadyH.nil
              simp only [List.getElem_toArray, List.getElem_cons_succ, List.getElem_cons_zero]
              go_big_op
              refine hK.out _ _ hHeld (fun hHeld => ?_)
              clear hK K
              refine fast2 10 50 (.int .u64 (bits .or .u64 X (IntKind.u64.wrap ((2 : Int) ^ y)))) (.tmp 46) (.int .u64 X) (.tmp 49) (.int .u64 (IntKind.u64.wrap ((2 : Int) ^ y))) (fuel := 2) rfl rfl (by kernel_rfl) (by kernel_rfl) (by kernel_rfl) (fun _ _ _ h => h) (by kernel_rfl) (by kernel_rfl) (by kernel_rfl) (fun ρ hr0 hr1 _ w hSw => by simp [go_sem, hr0, hr1]) hHeld (tf 2047 13) (by kernel_rfl) (fun K hK => ?_)
              go_big_move
              refine hK.out _ ?_
              clear hK K
              refine fast1 11 51 (.pointer (some ⟨G x, 0, none⟩)) (.tmp 44) (.pointer (some ⟨G x, 0, none⟩)) (fuel := 1) rfl rfl (by kernel_rfl) (by kernel_rfl) (by kernel_rfl) (fun _ _ _ h => h) (by kernel_rfl) (by kernel_rfl) (fun ρ hr0 _ w hSw => by simp [go_sem, hr0]) hHeld (tf 4095 13) (by kernel_rfl) (fun K hK => ?_)
              go_big_move
              refine hK.out _ ?_
              clear hK K
              refine wpAnyH_ready (rs := [12]) (fuel := 0) (by kernel_rfl) (by simp) ?_
              refine ready_want rfl (by kernel_rfl) (tf 8191 13) (by kernel_rfl) (fun K hK => ?_) AllReadyH.nil
              simp only [List.getElem_toArray, List.getElem_cons_succ, List.getElem_cons_zero]
              go_big_op
              refine hK.out _ _ S12.out (fun hHeld => ?_)
              clear hK K
              refine wpAnyH_done (by kernel_rfl) ?_ _
              have HS3 := Lib.hid hHeld.1
              clear hHeld SD rc rf S12
              go_wp2_with fail
              go_roundw
              case rel => exact ⟨k + 1, by omega, by go_num, HS3.out, HB3.out⟩
              case measure => simp [intOf]; omega
        · obtain rfl : rn = k := by omega
          have HBE : Hid (BoxR wr G n (relR ⟨su, iu, jns, juts, jids, jteps⟩ L)) := by
            have h1 := HB.out
            rw [List.take_of_length_le (by rw [HL.out]; omega)] at h1
            exact h1
          clear HB
          go_wp2_with fail
          go_ret
          refine ⟨_, _, rfl, fun h0 => ⟨w.heap.size + 1 + 1, 0, rfl, ?_, fun v hv => ?_⟩, HS.out.1.1⟩
          · have := HS.out.2 0 h0
            omega
          · obtain ⟨p1, p2, p3⟩ := HS.out.2 v hv
            obtain ⟨X, vx, hX⟩ := HBE.out.1 v hv
            exact ⟨G v, 0, X, by rw [Nat.zero_add]; exact p3, p2, vx.cell (j := 0) rfl, hX⟩

end Go.Proofs.YtdbgjgeglgipiaaGreat
