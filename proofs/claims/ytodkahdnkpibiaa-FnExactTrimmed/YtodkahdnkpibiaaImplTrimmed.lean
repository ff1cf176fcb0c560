/-
  The contract of the program's Trimmed: a new automaton, its lists the call's own, no two in one block. Conditions: the automaton's lists have at most 2^20 elements; a nil list has no room.
-/
import Derived.Test.YtodkahdnkpibiaaBetween
import Derived.Test.YtodkahdnkpibiaaImplReached
namespace Go.Proofs.Ytodkahdnkpibiaa
open Go.RowKit

/-- An automaton's value whose lists read as they should; a nil list has no room. -/
def IaRowC (w : World) (a : IaD) (v : Value) : Prop :=
  ∃ (a2 : Option Addr) (n2 c2 : Nat) (a3 : Option Addr) (n3 c3 : Nat) (a4 : Option Addr) (n4 c4 : Nat) (a5 : Option Addr) (n5 c5 : Nat),
    v = .agg #[.int .i64 a.states, .int .i64 a.init, .slice a2 n2 c2, .slice a3 n3 c3, .slice a4 n4 c4, .slice a5 n5 c5] ∧ Row w a2 n2 a.ins ∧ Row w a3 n3 a.outs ∧ Row w a4 n4 a.hids ∧ RowS w a5 n5 a.steps ∧ (a2 = none → c2 = 0) ∧ (a3 = none → c3 = 0) ∧ (a4 = none → c4 = 0)

theorem IaRowC.row {w : World} {a : IaD} {v : Value} (h : IaRowC w a v) : IaRow w a v := by
  obtain ⟨a2, n2, c2, a3, n3, c3, a4, n4, c4, a5, n5, c5, e, r2, r3, r4, r5, _⟩ := h
  exact ⟨a2, n2, c2, a3, n3, c3, a4, n4, c4, a5, n5, c5, e, r2, r3, r4, r5⟩

theorem IaAt.rowC {w : World} {base : Nat} {a : IaD} {v : Value} (h : IaAt w base a v) : IaRowC w a v := by
  obtain ⟨g2, g3, g4, g5, rfl, _, _, _, _, o2, o3, o4, o5⟩ := h
  exact ⟨_, _, _, _, _, _, _, _, _, _, _, _, rfl, o2.row.2.2.2, o3.row.2.2.2, o4.row.2.2.2, o5.row.2.2.2, (fun h => by cases h), (fun h => by cases h), (fun h => by cases h)⟩

/-- An automaton whose lists are the call's own, no two in one block. -/
def IaOwn (w : World) (base : Nat) (a : IaD) (v : Value) : Prop :=
  ∃ x2 x3 x4 x5 : Value, v = .agg #[.int .i64 a.states, .int .i64 a.init, x2, x3, x4, x5] ∧ Owns w base x2 a.ins.length a.ins ∧ Owns w base x3 a.outs.length a.outs ∧ Owns w base x4 a.hids.length a.hids ∧ OwnsS 49 w base x5 a.steps.length a.steps ∧
    (∀ b, x2.ownBlock = some b → x3.ownBlock ≠ some b ∧ x4.ownBlock ≠ some b ∧ x5.ownBlock ≠ some b) ∧ (∀ b, x3.ownBlock = some b → x4.ownBlock ≠ some b ∧ x5.ownBlock ≠ some b) ∧ ∀ b, x4.ownBlock = some b → x5.ownBlock ≠ some b

theorem ia_one (s i : Int) (a2 : Option Addr) (n2 c2 : Nat) (a3 : Option Addr) (n3 c3 : Nat) (a4 : Option Addr) (n4 c4 : Nat) (a5 : Option Addr) (n5 c5 : Nat) : (#[.int .i64 s, .int .i64 i, .slice a2 n2 c2, .slice a3 n3 c3, .slice a4 n4 c4, .slice a5 n5 c5] : Array Value).all (·.oneCell') = true :=
  all_oneCell_toArray (fun u hu => by
    simp only [List.mem_cons, List.not_mem_nil, or_false] at hu
    rcases hu with rfl | rfl | rfl | rfl | rfl | rfl <;> rfl)

theorem trimmed_no {a : IaD} (h : iaOkB a = false) : trimmedOf a = noIa := by
  unfold trimmedOf
  rw [h]
  rfl

set_option maxRecDepth 20000 in
set_option maxHeartbeats 6400000 in
theorem implTrimmed_any (a : IaD) (v : Value) (w : World) (h : IaRowC w a v) (f2 : a.ins.length ≤ 1048576) (f3 : a.outs.length ≤ 1048576) (f4 : a.hids.length ≤ 1048576) (f5 : a.steps.length ≤ 1048576) :
    Calls Try.prog 33 #[v] w fun e w' => ∃ v', e = .returned v' ∧ IaOwn w' w.heap.size (trimmedOf a) v' ∧ Below w.heap.size w w' := by
  have CO : Hid (∀ W, Below w.heap.size w W → Calls Try.prog 14 #[v] W fun e w' => e = .returned (.bool (iaOkB a)) ∧ Below W.heap.size W w') := fun W hW => implIaOk_any a v W (h.row.below hW) f2 f3 f4 f5
  have CR : Hid (iaOkB a = true → ∀ W, Below w.heap.size w W → Calls Try.prog 31 #[v] W (RowRes W W.heap.size (reachedOf a))) := fun hok W hW => by
    have := implReached_any a v W (h.row.below hW) f2 f3 f4 f5
    rwa [if_pos hok] at this
  obtain ⟨a2, n2, c2, a3, n3, c3, a4, n4, c4, a5, n5, c5, rfl, r2, r3, r4, r5, e2, e3, e4⟩ := h
  obtain ⟨st, it, ins, outs, hids, steps⟩ := a
  simp only at r2 r3 r4 r5 f2 f3 f4 f5
  rw [r2.1] at f2
  rw [r3.1] at f3
  rw [r4.1] at f4
  have R5 := Lib.hid r5
  have K2 : Hid (∀ W, Below w.heap.size w W → Calls Try.prog 60 #[.slice a2 n2 c2] W (RowRes W W.heap.size ins)) := fun W hW => copied_any a2 n2 c2 ins W (r2.below hW) e2 f2
  have K3 : Hid (∀ W, Below w.heap.size w W → Calls Try.prog 60 #[.slice a3 n3 c3] W (RowRes W W.heap.size outs)) := fun W hW => copied_any a3 n3 c3 outs W (r3.below hW) e3 f3
  have K4 : Hid (∀ W, Below w.heap.size w W → Calls Try.prog 60 #[.slice a4 n4 c4] W (RowRes W W.heap.size hids)) := fun W hW => copied_any a4 n4 c4 hids W (r4.below hW) e4 f4
  clear r2 r3 r4 r5 e2 e3 e4 f2 f3 f4 f5
  obtain ⟨q, hq⟩ : ∃ q, q = iaOkB ⟨st, it, ins, outs, hids, steps⟩ := ⟨_, rfl⟩
  rw [← hq] at CO CR
  have HQ := Lib.hid hq.symm
  obtain ⟨res, hres⟩ : ∃ r, r = trimmedOf ⟨st, it, ins, outs, hids, steps⟩ := ⟨_, rfl⟩
  rw [← hres]
  have HRES := Lib.hid hres
  clear hq hres
  have B0 : Hid (∀ o o', Below w.heap.size w ((w.alloc o).alloc o')) := fun o o' => ((Below.refl _ _).alloc (Nat.le_refl _) _).alloc (by simp) _
  have V0 : Hid (VarIs ((w.alloc (.cells #[.int .i64 st, .int .i64 it, .slice a2 n2 c2, .slice a3 n3 c3, .slice a4 n4 c4, .slice a5 n5 c5] 30)).alloc (.cells #[.int .i64 0, .int .i64 0, .slice none 0 0, .slice none 0 0, .slice none 0 0, .slice none 0 0] 30)) w.heap.size #[.int .i64 st, .int .i64 it, .slice a2 n2 c2, .slice a3 n3 c3, .slice a4 n4 c4, .slice a5 n5 c5] 30) := (VarIs.new w _ _ rfl).alloc _
  have VR0 : Hid (VarIs ((w.alloc (.cells #[.int .i64 st, .int .i64 it, .slice a2 n2 c2, .slice a3 n3 c3, .slice a4 n4 c4, .slice a5 n5 c5] 30)).alloc (.cells #[.int .i64 0, .int .i64 0, .slice none 0 0, .slice none 0 0, .slice none 0 0, .slice none 0 0] 30)) (w.heap.size + 1) #[.int .i64 0, .int .i64 0, .slice none 0 0, .slice none 0 0, .slice none 0 0, .slice none 0 0] 30) := VarIs.new _ _ _ (by simp)
  go_enter Try.func33, Try.ntmps33
  go_wp2_with fail
  refine (CO.out _ (B0.out _ _)).mono ?_
  rintro e w1 ⟨rfl, hb⟩
  have B1 : Hid (Below w.heap.size w w1) := (B0.out _ _).trans (hb.mono (B0.out _ _).size)
  have V1 := Lib.hid (V0.out.below hb)
  have VR1 := Lib.hid (VR0.out.below hb)
  clear hb V0 VR0 CO B0
  cases q with
  | false =>
    have TH : Hid (w1.there (w.heap.size + 1) 0 6) := VR1.out.there rfl
    have RG2 : Hid ((w1.setCells (w.heap.size + 1) 0 [.int .i64 0, .int .i64 0, .slice none 0 0, .slice none 0 0, .slice none 0 0, .slice none 0 0]).rangeAt (w.heap.size + 1) 0 [.int .i64 0, .int .i64 0, .slice none 0 0, .slice none 0 0, .slice none 0 0, .slice none 0 0]) := World.rangeAt_setCells_same w1 (w.heap.size + 1) 0 _ TH.out
    have HGS := Lib.hid (grown_setCells (w.heap.size + 1) [.int .i64 0, .int .i64 0, .slice none 0 0, .slice none 0 0, .slice none 0 0, .slice none 0 0] 0 w1)
    go_wp2_with (refine wpList_store_mid rfl _ _ _ rfl (w.heap.size + 1) 0 #[.int .i64 0, .int .i64 0, .slice none 0 0, .slice none 0 0, .slice none 0 0, .slice none 0 0] rfl rfl TH.out (by kernel_rfl) (ia_one _ _ _ _ _ _ _ _ _ _ _ _ _ _) ?_)
    have hres : res = noIa := HRES.out.trans (trimmed_no HQ.out)
    refine bodyPost_ret (v := .agg #[.int .i64 0, .int .i64 0, .slice none 0 0, .slice none 0 0, .slice none 0 0, .slice none 0 0]) ?_ rfl ⟨_, rfl, ⟨.slice none 0 0, .slice none 0 0, .slice none 0 0, .slice none 0 0, by rw [hres]; rfl, by rw [hres]; exact World.ownsRow_nil _ _ _ _, by rw [hres]; exact World.ownsRow_nil _ _ _ _, by rw [hres]; exact World.ownsRow_nil _ _ _ _, by rw [hres]; exact World.ownsRow_nil _ _ _ _, (fun b h => by cases h), (fun b h => by cases h), (fun b h => by cases h)⟩, B1.out.grown HGS.out B1.out.size (fun q hq => by cases hq; omega)⟩
    have HC0 := RG2.out 0 _ rfl
    have HC1 := RG2.out 1 _ rfl
    have HC2 := RG2.out 2 _ rfl
    have HC3 := RG2.out 3 _ rfl
    have HC4 := RG2.out 4 _ rfl
    have HC5 := RG2.out 5 _ rfl
    simp only [Nat.zero_add] at HC0 HC1 HC2 HC3 HC4 HC5
    simp [results, Try.results33, go_sem, HC0, HC1, HC2, HC3, HC4, HC5]
  | true =>
    have hit := iaOk_init HQ.out
    have hst := (iaOk_states HQ.out).2
    simp only at hit hst
    obtain ⟨sI, rfl⟩ : ∃ s : Nat, it = (s : Int) := ⟨it.toNat, by omega⟩
    have hsI : sI < 40 := by omega
    have hsI' : (sI : Int) < 40 := by omega
    have HLEN := Lib.hid (iaOk_len HQ.out)
    have HGOOD : Hid (∀ x ∈ steps, (0 ≤ x.1 ∧ x.1 < 40) ∧ 0 ≤ x.2.2 ∧ x.2.2 < 40) := fun x hx => by
      have h1 := iaOk_ends HQ.out x hx
      simp only at h1
      omega
    clear hit
    have m0 := V1.out.cell (j := 0) rfl
    have m1 := V1.out.cell (j := 1) rfl
    have m2 := V1.out.cell (j := 2) rfl
    have m3 := V1.out.cell (j := 3) rfl
    have m4 := V1.out.cell (j := 4) rfl
    have m5 := V1.out.cell (j := 5) rfl
    go_wp2_with fail
    clear m0 m1 m2 m3 m4 m5
    refine (CR.out (by simp) _ B1.out).mono ?_
    rintro e w2 ⟨vk, rfl, hok, hb⟩
    obtain ⟨ka, kc, rfl⟩ := hok.form
    obtain ⟨kept, hkept⟩ : ∃ l, l = reachedOf ⟨st, (sI : Int), ins, outs, hids, steps⟩ := ⟨_, rfl⟩
    rw [← hkept] at hok ⊢
    obtain ⟨kn, hkn⟩ : ∃ n, n = kept.length := ⟨_, rfl⟩
    rw [← hkn] at hok ⊢
    have hk40 : kn ≤ 40 := by
      rw [hkn, hkept]
      exact reached_short HQ.out
    have HLOW : Hid (∀ y ∈ kept, 0 ≤ y ∧ y < 40) := by
      rw [hkept]
      exact reached_low HQ.out
    have HND : Hid kept.Nodup := by
      rw [hkept]
      exact reached_nodup _
    have RK := Lib.hid hok.row.2.2.2
    have B2 : Hid (Below w.heap.size w w2) := B1.out.trans (hb.mono B1.out.size)
    have V2 := Lib.hid (V1.out.below hb)
    have VR2 := Lib.hid (VR1.out.below hb)
    have HKE := Lib.hid hkept
    have HKN := Lib.hid hkn
    clear hb hok hkept hkn V1 VR1 B1 CR
    have VP0 := Lib.hid (VarIs.new w2 #[.int .i64 0, .int .i64 0, .int .i64 0, .int .i64 0, .int .i64 0, .int .i64 0, .int .i64 0, .int .i64 0, .int .i64 0, .int .i64 0, .int .i64 0, .int .i64 0, .int .i64 0, .int .i64 0, .int .i64 0, .int .i64 0, .int .i64 0, .int .i64 0, .int .i64 0, .int .i64 0, .int .i64 0, .int .i64 0, .int .i64 0, .int .i64 0, .int .i64 0, .int .i64 0, .int .i64 0, .int .i64 0, .int .i64 0, .int .i64 0, .int .i64 0, .int .i64 0, .int .i64 0, .int .i64 0, .int .i64 0, .int .i64 0, .int .i64 0, .int .i64 0, .int .i64 0, .int .i64 0] 65 rfl)
    have HP0 : Hid (∀ s, s < 40 → (#[.int .i64 0, .int .i64 0, .int .i64 0, .int .i64 0, .int .i64 0, .int .i64 0, .int .i64 0, .int .i64 0, .int .i64 0, .int .i64 0, .int .i64 0, .int .i64 0, .int .i64 0, .int .i64 0, .int .i64 0, .int .i64 0, .int .i64 0, .int .i64 0, .int .i64 0, .int .i64 0, .int .i64 0, .int .i64 0, .int .i64 0, .int .i64 0, .int .i64 0, .int .i64 0, .int .i64 0, .int .i64 0, .int .i64 0, .int .i64 0, .int .i64 0, .int .i64 0, .int .i64 0, .int .i64 0, .int .i64 0, .int .i64 0, .int .i64 0, .int .i64 0, .int .i64 0, .int .i64 0] : Array Value)[s]? = some (.int .i64 (plOf kept 0 s))) := fun s hs => by
      rw [plOf_zero, show (#[.int .i64 0, .int .i64 0, .int .i64 0, .int .i64 0, .int .i64 0, .int .i64 0, .int .i64 0, .int .i64 0, .int .i64 0, .int .i64 0, .int .i64 0, .int .i64 0, .int .i64 0, .int .i64 0, .int .i64 0, .int .i64 0, .int .i64 0, .int .i64 0, .int .i64 0, .int .i64 0, .int .i64 0, .int .i64 0, .int .i64 0, .int .i64 0, .int .i64 0, .int .i64 0, .int .i64 0, .int .i64 0, .int .i64 0, .int .i64 0, .int .i64 0, .int .i64 0, .int .i64 0, .int .i64 0, .int .i64 0, .int .i64 0, .int .i64 0, .int .i64 0, .int .i64 0, .int .i64 0] : Array Value) = Array.replicate 40 (.int .i64 0) by rfl, Array.getElem?_replicate, if_pos hs]
    go_wp2_with fail
    go_loopw [15] (fun i wr => ∃ (k : Nat) (P : Array Value), k ≤ kn ∧ i = .int .i64 k ∧ Hid (VarIs wr w2.heap.size P 65) ∧ Hid (∀ s, s < 40 → P[s]? = some (.int .i64 (plOf kept k s))) ∧ Hid (P.size = 40) ∧ Hid (Below w2.heap.size w2 wr)) (fun i _ => kn - (intOf i).toNat)
    case atStart => exact ⟨0, _, Nat.zero_le _, rfl, VP0.out, HP0.out, rfl, (Below.refl _ _).alloc (Nat.le_refl _) _⟩
    case round =>
      obtain ⟨k, P, hk, rfl, HVP, HP, HPS, HNX⟩ := hrel
      clear VP0 HP0
      by_cases hlt : k < kn
      · obtain ⟨b, off, rfl, hb, hcell⟩ := RK.out.2 (by omega)
        have hkx : k < kept.length := by rw [← HKN.out]; exact hlt
        obtain ⟨s, hs⟩ : ∃ s, s = kept[k] := ⟨_, rfl⟩
        have hsl := HLOW.out s (by rw [hs]; exact List.getElem_mem hkx)
        obtain ⟨j, rfl⟩ : ∃ j : Nat, s = (j : Int) := ⟨s.toNat, by omega⟩
        have hj : j < 40 := by omega
        have hj' : (j : Int) < 40 := by omega
        have gk : wr.cell? ⟨b, off + k, none⟩ = some (.int .i64 (j : Int)) := by
          rw [hs, ← getD_eq kept k hkx]
          exact (HNX.out.cell (p := ⟨b, off + k, none⟩) hb).trans (hcell k hlt)
        have gp := HVP.out.cell (j := j) (HP.out j hj)
        have gf := HVP.out.frozen j
        have HVP2 := Lib.hid (HVP.out.set j (.int .i64 (k : Int)))
        have HP2 : Hid (∀ s, s < 40 → (P.setIfInBounds j (.int .i64 (k : Int)))[s]? = some (.int .i64 (plOf kept (k + 1) s))) := fun s' hs' => by
          rw [plOf_step HND.out hkx hs.symm s', Array.getElem?_setIfInBounds]
          by_cases e : j = s'
          · subst e
            rw [if_pos rfl, if_pos (by rw [HPS.out]; exact hj), if_pos rfl]
          · rw [if_neg e, if_neg (fun h => e h.symm), HP.out s' hs']
        have HPS2 : Hid ((P.setIfInBounds j (.int .i64 (k : Int))).size = 40) := by
          unfold Hid
          rw [Array.size_setIfInBounds, HPS.out]
        have HNX2 := Lib.hid (below_setCell (g := w2.heap.size) (j := j) HNX.out (Nat.le_refl _) (.int .i64 (k : Int)))
        clear hs hsl hcell
        go_wp2_with fail
        go_roundw
        case rel => exact ⟨k + 1, _, by omega, by go_num, HVP2.out, HP2.out, HPS2.out, HNX2.out⟩
        case measure => simp [intOf]; omega
      · have HPK : Hid (∀ s, s < 40 → P[s]? = some (.int .i64 (plOf kept kn s))) := by
          have : k = kn := by omega
          rw [← this]
          exact HP.out
        obtain ⟨pI, hpI⟩ : ∃ p, p = plOf kept kn sI := ⟨_, rfl⟩
        have CI : Hid (P[sI]? = some (.int .i64 pI)) := by rw [hpI]; exact HPK.out sI hsI
        have HPL : Hid (P.toList.length = 40) := by
          unfold Hid
          simpa using HPS.out
        obtain ⟨LB, hLB⟩ : ∃ l, l = betweenOf kept (plOf kept kn) steps := ⟨_, rfl⟩
        obtain ⟨nL, hnL⟩ : ∃ n, n = LB.length := ⟨_, rfl⟩
        have KB : Hid (∀ W, Below w.heap.size w W → Below w2.heap.size w2 W → Calls Try.prog 61 #[.agg #[.int .i64 st, .int .i64 (sI : Int), .slice a2 n2 c2, .slice a3 n3 c3, .slice a4 n4 c4, .slice a5 n5 c5], .slice ka kn kc, .agg P] W fun e w' => ∃ v, e = .returned v ∧ OwnsS 49 w' W.heap.size v nL LB ∧ Below W.heap.size W w') := fun W hW hW2 => by
          rw [hnL, hLB]
          exact stepsBetween_any st _ _ _ _ a5 n5 c5 steps ka kn kc kept P (plOf kept kn) W (R5.out.below hW) (by have h1 := HLEN.out; have h2 := R5.out.1; rw [← h2]; exact h1) (RK.out.below hW2) (by omega) HPK.out HGOOD.out
        have HRS : Hid (res = ⟨(kn : Int), pI, ins, outs, hids, LB⟩) := by
          unfold Hid
          rw [HRES.out, ← trimmed_eq HQ.out, ← HKE.out, ← HKN.out, hLB, hpI]
          rfl
        have HNL := Lib.hid hnL
        have BW_0 : Hid (Below w2.heap.size w2 wr.drew) := HNX.out.drew
        have VA0 := (V2.out.below HNX.out).drew
        have VP0 := HVP.out.drew
        have SS0 : Below w.heap.size w wr.drew ∧ VarIs wr.drew w.heap.size #[.int .i64 st, .int .i64 (sI : Int), .slice a2 n2 c2, .slice a3 n3 c3, .slice a4 n4 c4, .slice a5 n5 c5] 30 ∧ VarIs wr.drew w2.heap.size P 65 ∧ wr.drew.cell? ⟨w.heap.size, 0, none⟩ = some (.int .i64 st) ∧ wr.drew.cell? ⟨w.heap.size, 1, none⟩ = some (.int .i64 (sI : Int)) ∧ wr.drew.cell? ⟨w.heap.size, 2, none⟩ = some (.slice a2 n2 c2) ∧ wr.drew.cell? ⟨w.heap.size, 3, none⟩ = some (.slice a3 n3 c3) ∧ wr.drew.cell? ⟨w.heap.size, 4, none⟩ = some (.slice a4 n4 c4) ∧ wr.drew.cell? ⟨w.heap.size, 5, none⟩ = some (.slice a5 n5 c5) ∧ wr.drew.cell? ⟨w2.heap.size, sI, none⟩ = some (.int .i64 pI) := ⟨(B2.out.trans (HNX.out.mono B2.out.size)).drew, VA0, VP0, VA0.cell rfl, VA0.cell rfl, VA0.cell rfl, VA0.cell rfl, VA0.cell rfl, VA0.cell rfl, VP0.cell CI.out⟩
        have VR_0 : Hid (VarIs wr.drew (w.heap.size + 1) #[.int .i64 0, .int .i64 0, .slice none 0 0, .slice none 0 0, .slice none 0 0, .slice none 0 0] 30) := (VR2.out.below HNX.out).drew
        have S0 := SS0
        have sz0 := BW_0.out.size
        have hrb : (w.heap.size + 1) < w2.heap.size := VR2.out.lt
        clear hpI hLB hnL VA0 VP0 HP HPS HVP HNX V2 VR2 B2
        go_wp2_with fail
        refine wp_region_held_drew (S := fun w' => Below w.heap.size w w' ∧ VarIs w' w.heap.size #[.int .i64 st, .int .i64 (sI : Int), .slice a2 n2 c2, .slice a3 n3 c3, .slice a4 n4 c4, .slice a5 n5 c5] 30 ∧ VarIs w' w2.heap.size P 65 ∧ w'.cell? ⟨w.heap.size, 0, none⟩ = some (.int .i64 st) ∧ w'.cell? ⟨w.heap.size, 1, none⟩ = some (.int .i64 (sI : Int)) ∧ w'.cell? ⟨w.heap.size, 2, none⟩ = some (.slice a2 n2 c2) ∧ w'.cell? ⟨w.heap.size, 3, none⟩ = some (.slice a3 n3 c3) ∧ w'.cell? ⟨w.heap.size, 4, none⟩ = some (.slice a4 n4 c4) ∧ w'.cell? ⟨w.heap.size, 5, none⟩ = some (.slice a5 n5 c5) ∧ w'.cell? ⟨w2.heap.size, sI, none⟩ = some (.int .i64 pI)) (by kernel_rfl) S0 (fun hHeld => ?_)
        change wpAnyH _ _ _ _ _ 21 (Array.replicate 21 false) _ _
        refine take_op 0 24 (.slice ka kn kc) (fuel := 20) rfl rfl (by kernel_rfl) (by kernel_rfl) (by kernel_rfl) (fun _ _ _ h => h) (by rfl) (fun w hSw => by go_simp) hHeld ?_
        simp only [Act.put, List.setIfInBounds_toArray, List.set_cons_zero, List.set_cons_succ]
        refine take_op 1 25 (.int .i64 (kn : Int)) (fuel := 19) rfl rfl (by kernel_rfl) (by kernel_rfl) (by kernel_rfl) (fun _ _ _ h => h) (by rfl) (fun w hSw => by go_simp) hHeld ?_
        simp only [Act.put, List.setIfInBounds_toArray, List.set_cons_zero, List.set_cons_succ]
        refine take_op 2 26 (.pointer (some ⟨w.heap.size, 1, none⟩)) (fuel := 18) rfl rfl (by kernel_rfl) (by kernel_rfl) (by kernel_rfl) (fun _ _ _ h => h) (by rfl) (fun w hSw => by go_simp) hHeld ?_
        simp only [Act.put, List.setIfInBounds_toArray, List.set_cons_zero, List.set_cons_succ]
        refine take_op 3 27 (.int .i64 (sI : Int)) (fuel := 17) rfl rfl (by kernel_rfl) (by kernel_rfl) (by kernel_rfl) (fun _ _ _ h => h) (by rfl) (fun w hSw => by go_simp) hHeld ?_
        simp only [Act.put, List.setIfInBounds_toArray, List.set_cons_zero, List.set_cons_succ]
        refine take_op 4 28 (.pointer (some ⟨w2.heap.size, sI, none⟩)) (fuel := 16) rfl rfl (by kernel_rfl) (by kernel_rfl) (by kernel_rfl) (fun _ _ _ h => h) (by rfl) (fun w hSw => by go_simp) hHeld ?_
        simp only [Act.put, List.setIfInBounds_toArray, List.set_cons_zero, List.set_cons_succ]
        refine take_op 5 29 (.int .i64 pI) (fuel := 15) rfl rfl (by kernel_rfl) (by kernel_rfl) (by kernel_rfl) (fun _ _ _ h => h) (by rfl) (fun w hSw => by go_simp) hHeld ?_
        simp only [Act.put, List.setIfInBounds_toArray, List.set_cons_zero, List.set_cons_succ]
        refine take_op 6 30 (.pointer (some ⟨w.heap.size, 2, none⟩)) (fuel := 14) rfl rfl (by kernel_rfl) (by kernel_rfl) (by kernel_rfl) (fun _ _ _ h => h) (by rfl) (fun w hSw => by go_simp) hHeld ?_
        simp only [Act.put, List.setIfInBounds_toArray, List.set_cons_zero, List.set_cons_succ]
        refine take_op 7 31 (.slice a2 n2 c2) (fuel := 13) rfl rfl (by kernel_rfl) (by kernel_rfl) (by kernel_rfl) (fun _ _ _ h => h) (by rfl) (fun w hSw => by go_simp) hHeld ?_
        simp only [Act.put, List.setIfInBounds_toArray, List.set_cons_zero, List.set_cons_succ]
        refine take_op 9 33 (.pointer (some ⟨w.heap.size, 3, none⟩)) (fuel := 12) rfl rfl (by kernel_rfl) (by kernel_rfl) (by kernel_rfl) (fun _ _ _ h => h) (by rfl) (fun w hSw => by go_simp) hHeld ?_
        simp only [Act.put, List.setIfInBounds_toArray, List.set_cons_zero, List.set_cons_succ]
        refine take_op 10 34 (.slice a3 n3 c3) (fuel := 11) rfl rfl (by kernel_rfl) (by kernel_rfl) (by kernel_rfl) (fun _ _ _ h => h) (by rfl) (fun w hSw => by go_simp) hHeld ?_
        simp only [Act.put, List.setIfInBounds_toArray, List.set_cons_zero, List.set_cons_succ]
        refine take_op 12 36 (.pointer (some ⟨w.heap.size, 4, none⟩)) (fuel := 10) rfl rfl (by kernel_rfl) (by kernel_rfl) (by kernel_rfl) (fun _ _ _ h => h) (by rfl) (fun w hSw => by go_simp) hHeld ?_
        simp only [Act.put, List.setIfInBounds_toArray, List.set_cons_zero, List.set_cons_succ]
        refine take_op 13 37 (.slice a4 n4 c4) (fuel := 9) rfl rfl (by kernel_rfl) (by kernel_rfl) (by kernel_rfl) (fun _ _ _ h => h) (by rfl) (fun w hSw => by go_simp) hHeld ?_
        simp only [Act.put, List.setIfInBounds_toArray, List.set_cons_zero, List.set_cons_succ]
        refine take_op 15 39 (.agg #[.int .i64 st, .int .i64 (sI : Int), .slice a2 n2 c2, .slice a3 n3 c3, .slice a4 n4 c4, .slice a5 n5 c5]) (fuel := 8) rfl rfl (by kernel_rfl) (by kernel_rfl) (by kernel_rfl) (fun _ _ _ h => h) (by rfl) (fun w hSw => by go_simp) hHeld ?_
        simp only [Act.put, List.setIfInBounds_toArray, List.set_cons_zero, List.set_cons_succ]
        refine take_op 16 40 (.slice ka kn kc) (fuel := 7) rfl rfl (by kernel_rfl) (by kernel_rfl) (by kernel_rfl) (fun _ _ _ h => h) (by rfl) (fun w hSw => by go_simp) hHeld ?_
        simp only [Act.put, List.setIfInBounds_toArray, List.set_cons_zero, List.set_cons_succ]
        refine take_yields 17 41 (.agg P) (fuel := 6) rfl rfl (by kernel_rfl) (by kernel_rfl) (by kernel_rfl) (fun _ _ _ h => h) (by rw [show (.agg P : Value) = .agg P.toList.toArray by simp]; exact yieldsIf_load_mid (by rfl) 65 (.tmp 4) rfl w2.heap.size 0 rfl P.toList _ (fun w' hSw => hSw.2.2.1.range) Try.underlying65 rfl (by rw [HPL.out]; kernel_rfl)) hHeld ?_
        simp only [Act.put, List.setIfInBounds_toArray, List.set_cons_zero, List.set_cons_succ]
        refine wpAnyH_ready (rs := [8]) (fuel := 5) (by kernel_rfl) (by simp) ?_
        refine AllReadyH.cons rfl (fun K hK => ?_) AllReadyH.nil
        go_simp
        refine (K2.out _ SS0.1).mono ?_
        rintro e w5 ⟨x, rfl, ho, hb⟩
        obtain ⟨b2, d2, rfl⟩ := ho.form
        have SS1 : Below w.heap.size w w5 ∧ VarIs w5 w.heap.size #[.int .i64 st, .int .i64 (sI : Int), .slice a2 n2 c2, .slice a3 n3 c3, .slice a4 n4 c4, .slice a5 n5 c5] 30 ∧ VarIs w5 w2.heap.size P 65 ∧ w5.cell? ⟨w.heap.size, 0, none⟩ = some (.int .i64 st) ∧ w5.cell? ⟨w.heap.size, 1, none⟩ = some (.int .i64 (sI : Int)) ∧ w5.cell? ⟨w.heap.size, 2, none⟩ = some (.slice a2 n2 c2) ∧ w5.cell? ⟨w.heap.size, 3, none⟩ = some (.slice a3 n3 c3) ∧ w5.cell? ⟨w.heap.size, 4, none⟩ = some (.slice a4 n4 c4) ∧ w5.cell? ⟨w.heap.size, 5, none⟩ = some (.slice a5 n5 c5) ∧ w5.cell? ⟨w2.heap.size, sI, none⟩ = some (.int .i64 pI) := by
          have ha := SS0.2.1.below hb
          have hp := SS0.2.2.1.below hb
          exact ⟨SS0.1.trans (hb.mono SS0.1.size), ha, hp, ha.cell rfl, ha.cell rfl, ha.cell rfl, ha.cell rfl, ha.cell rfl, ha.cell rfl, hp.cell CI.out⟩
        have O2_1 := Lib.hid ho
        have VR_1 := Lib.hid (VR_0.out.below hb)
        have BW_1 : Hid (Below w2.heap.size w2 w5) := BW_0.out.trans (hb.mono BW_0.out.size)
        have sz1 := hb.size
        clear ho hb
        go_wp2_with fail
        refine hK.out _ _ SS1 (fun hHeld => ?_)
        clear hK K
        refine wpAnyH_ready (rs := [11]) (fuel := 4) (by kernel_rfl) (by simp) ?_
        refine AllReadyH.cons rfl (fun K hK => ?_) AllReadyH.nil
        go_simp
        refine (K3.out _ SS1.1).mono ?_
        rintro e w6 ⟨x, rfl, ho, hb⟩
        obtain ⟨b3, d3, rfl⟩ := ho.form
        have SS2 : Below w.heap.size w w6 ∧ VarIs w6 w.heap.size #[.int .i64 st, .int .i64 (sI : Int), .slice a2 n2 c2, .slice a3 n3 c3, .slice a4 n4 c4, .slice a5 n5 c5] 30 ∧ VarIs w6 w2.heap.size P 65 ∧ w6.cell? ⟨w.heap.size, 0, none⟩ = some (.int .i64 st) ∧ w6.cell? ⟨w.heap.size, 1, none⟩ = some (.int .i64 (sI : Int)) ∧ w6.cell? ⟨w.heap.size, 2, none⟩ = some (.slice a2 n2 c2) ∧ w6.cell? ⟨w.heap.size, 3, none⟩ = some (.slice a3 n3 c3) ∧ w6.cell? ⟨w.heap.size, 4, none⟩ = some (.slice a4 n4 c4) ∧ w6.cell? ⟨w.heap.size, 5, none⟩ = some (.slice a5 n5 c5) ∧ w6.cell? ⟨w2.heap.size, sI, none⟩ = some (.int .i64 pI) := by
          have ha := SS1.2.1.below hb
          have hp := SS1.2.2.1.below hb
          exact ⟨SS1.1.trans (hb.mono SS1.1.size), ha, hp, ha.cell rfl, ha.cell rfl, ha.cell rfl, ha.cell rfl, ha.cell rfl, ha.cell rfl, hp.cell CI.out⟩
        have O2_2 := Lib.hid (O2_1.out.below hb)
        have O3_2 := Lib.hid ho
        have VR_2 := Lib.hid (VR_1.out.below hb)
        have BW_2 : Hid (Below w2.heap.size w2 w6) := BW_1.out.trans (hb.mono BW_1.out.size)
        have sz2 := hb.size
        clear ho hb
        go_wp2_with fail
        refine hK.out _ _ SS2 (fun hHeld => ?_)
        clear hK K
        refine wpAnyH_ready (rs := [14]) (fuel := 3) (by kernel_rfl) (by simp) ?_
        refine AllReadyH.cons rfl (fun K hK => ?_) AllReadyH.nil
        go_simp
        refine (K4.out _ SS2.1).mono ?_
        rintro e w7 ⟨x, rfl, ho, hb⟩
        obtain ⟨b4, d4, rfl⟩ := ho.form
        have SS3 : Below w.heap.size w w7 ∧ VarIs w7 w.heap.size #[.int .i64 st, .int .i64 (sI : Int), .slice a2 n2 c2, .slice a3 n3 c3, .slice a4 n4 c4, .slice a5 n5 c5] 30 ∧ VarIs w7 w2.heap.size P 65 ∧ w7.cell? ⟨w.heap.size, 0, none⟩ = some (.int .i64 st) ∧ w7.cell? ⟨w.heap.size, 1, none⟩ = some (.int .i64 (sI : Int)) ∧ w7.cell? ⟨w.heap.size, 2, none⟩ = some (.slice a2 n2 c2) ∧ w7.cell? ⟨w.heap.size, 3, none⟩ = some (.slice a3 n3 c3) ∧ w7.cell? ⟨w.heap.size, 4, none⟩ = some (.slice a4 n4 c4) ∧ w7.cell? ⟨w.heap.size, 5, none⟩ = some (.slice a5 n5 c5) ∧ w7.cell? ⟨w2.heap.size, sI, none⟩ = some (.int .i64 pI) := by
          have ha := SS2.2.1.below hb
          have hp := SS2.2.2.1.below hb
          exact ⟨SS2.1.trans (hb.mono SS2.1.size), ha, hp, ha.cell rfl, ha.cell rfl, ha.cell rfl, ha.cell rfl, ha.cell rfl, ha.cell rfl, hp.cell CI.out⟩
        have O2_3 := Lib.hid (O2_2.out.below hb)
        have O3_3 := Lib.hid (O3_2.out.below hb)
        have O4_3 := Lib.hid ho
        have VR_3 := Lib.hid (VR_2.out.below hb)
        have BW_3 : Hid (Below w2.heap.size w2 w7) := BW_2.out.trans (hb.mono BW_2.out.size)
        have sz3 := hb.size
        clear ho hb
        go_wp2_with fail
        refine hK.out _ _ SS3 (fun hHeld => ?_)
        clear hK K
        refine wpAnyH_ready (rs := [18]) (fuel := 2) (by kernel_rfl) (by simp) ?_
        refine AllReadyH.cons rfl (fun K hK => ?_) AllReadyH.nil
        go_simp
        refine (KB.out _ SS3.1 BW_3.out).mono ?_
        rintro e w8 ⟨x, rfl, ho, hb⟩
        obtain ⟨b5, d5, rfl⟩ := ho.form
        have SS4 : Below w.heap.size w w8 ∧ VarIs w8 w.heap.size #[.int .i64 st, .int .i64 (sI : Int), .slice a2 n2 c2, .slice a3 n3 c3, .slice a4 n4 c4, .slice a5 n5 c5] 30 ∧ VarIs w8 w2.heap.size P 65 ∧ w8.cell? ⟨w.heap.size, 0, none⟩ = some (.int .i64 st) ∧ w8.cell? ⟨w.heap.size, 1, none⟩ = some (.int .i64 (sI : Int)) ∧ w8.cell? ⟨w.heap.size, 2, none⟩ = some (.slice a2 n2 c2) ∧ w8.cell? ⟨w.heap.size, 3, none⟩ = some (.slice a3 n3 c3) ∧ w8.cell? ⟨w.heap.size, 4, none⟩ = some (.slice a4 n4 c4) ∧ w8.cell? ⟨w.heap.size, 5, none⟩ = some (.slice a5 n5 c5) ∧ w8.cell? ⟨w2.heap.size, sI, none⟩ = some (.int .i64 pI) := by
          have ha := SS3.2.1.below hb
          have hp := SS3.2.2.1.below hb
          exact ⟨SS3.1.trans (hb.mono SS3.1.size), ha, hp, ha.cell rfl, ha.cell rfl, ha.cell rfl, ha.cell rfl, ha.cell rfl, ha.cell rfl, hp.cell CI.out⟩
        have O2_4 := Lib.hid (O2_3.out.below hb)
        have O3_4 := Lib.hid (O3_3.out.below hb)
        have O4_4 := Lib.hid (O4_3.out.below hb)
        have O5_4 := Lib.hid ho
        have VR_4 := Lib.hid (VR_3.out.below hb)
        have BW_4 : Hid (Below w2.heap.size w2 w8) := BW_3.out.trans (hb.mono BW_3.out.size)
        have sz4 := hb.size
        clear ho hb
        go_wp2_with fail
        refine hK.out _ _ SS4 (fun hHeld => ?_)
        clear hK K
        refine take_op 19 43 (.agg #[.int .i64 (kn : Int), .int .i64 pI, .slice b2 ins.length d2, .slice b3 outs.length d3, .slice b4 hids.length d4, .slice b5 nL d5]) (fuel := 1) rfl rfl (by kernel_rfl) (by kernel_rfl) (by kernel_rfl) (fun _ _ _ h => h) (by rfl) (fun w hSw => by go_simp) hHeld ?_
        simp only [Act.put, List.setIfInBounds_toArray, List.set_cons_zero, List.set_cons_succ]

        have hnl5 := O5_4.out.length
        have TH : Hid (w8.there (w.heap.size + 1) 0 6) := VR_4.out.there rfl
        have HGS := Lib.hid (grown_setCells (w.heap.size + 1) [.int .i64 (kn : Int), .int .i64 pI, .slice b2 ins.length d2, .slice b3 outs.length d3, .slice b4 hids.length d4, .slice b5 nL d5] 0 w8)
        have SS5 : Below w.heap.size w (w8.setCells (w.heap.size + 1) 0 [.int .i64 (kn : Int), .int .i64 pI, .slice b2 ins.length d2, .slice b3 outs.length d3, .slice b4 hids.length d4, .slice b5 nL d5]) ∧ VarIs (w8.setCells (w.heap.size + 1) 0 [.int .i64 (kn : Int), .int .i64 pI, .slice b2 ins.length d2, .slice b3 outs.length d3, .slice b4 hids.length d4, .slice b5 nL d5]) w.heap.size #[.int .i64 st, .int .i64 (sI : Int), .slice a2 n2 c2, .slice a3 n3 c3, .slice a4 n4 c4, .slice a5 n5 c5] 30 ∧ VarIs (w8.setCells (w.heap.size + 1) 0 [.int .i64 (kn : Int), .int .i64 pI, .slice b2 ins.length d2, .slice b3 outs.length d3, .slice b4 hids.length d4, .slice b5 nL d5]) w2.heap.size P 65 ∧ (w8.setCells (w.heap.size + 1) 0 [.int .i64 (kn : Int), .int .i64 pI, .slice b2 ins.length d2, .slice b3 outs.length d3, .slice b4 hids.length d4, .slice b5 nL d5]).cell? ⟨w.heap.size, 0, none⟩ = some (.int .i64 st) ∧ (w8.setCells (w.heap.size + 1) 0 [.int .i64 (kn : Int), .int .i64 pI, .slice b2 ins.length d2, .slice b3 outs.length d3, .slice b4 hids.length d4, .slice b5 nL d5]).cell? ⟨w.heap.size, 1, none⟩ = some (.int .i64 (sI : Int)) ∧ (w8.setCells (w.heap.size + 1) 0 [.int .i64 (kn : Int), .int .i64 pI, .slice b2 ins.length d2, .slice b3 outs.length d3, .slice b4 hids.length d4, .slice b5 nL d5]).cell? ⟨w.heap.size, 2, none⟩ = some (.slice a2 n2 c2) ∧ (w8.setCells (w.heap.size + 1) 0 [.int .i64 (kn : Int), .int .i64 pI, .slice b2 ins.length d2, .slice b3 outs.length d3, .slice b4 hids.length d4, .slice b5 nL d5]).cell? ⟨w.heap.size, 3, none⟩ = some (.slice a3 n3 c3) ∧ (w8.setCells (w.heap.size + 1) 0 [.int .i64 (kn : Int), .int .i64 pI, .slice b2 ins.length d2, .slice b3 outs.length d3, .slice b4 hids.length d4, .slice b5 nL d5]).cell? ⟨w.heap.size, 4, none⟩ = some (.slice a4 n4 c4) ∧ (w8.setCells (w.heap.size + 1) 0 [.int .i64 (kn : Int), .int .i64 pI, .slice b2 ins.length d2, .slice b3 outs.length d3, .slice b4 hids.length d4, .slice b5 nL d5]).cell? ⟨w.heap.size, 5, none⟩ = some (.slice a5 n5 c5) ∧ (w8.setCells (w.heap.size + 1) 0 [.int .i64 (kn : Int), .int .i64 pI, .slice b2 ins.length d2, .slice b3 outs.length d3, .slice b4 hids.length d4, .slice b5 nL d5]).cell? ⟨w2.heap.size, sI, none⟩ = some (.int .i64 pI) := by
          have ha := SS4.2.1.grown HGS.out (fun e => by have := Option.some.inj e; omega)
          have hp := SS4.2.2.1.grown HGS.out (fun e => by have := Option.some.inj e; omega)
          exact ⟨SS4.1.grown HGS.out SS4.1.size (fun q hq => by cases hq; omega), ha, hp, ha.cell rfl, ha.cell rfl, ha.cell rfl, ha.cell rfl, ha.cell rfl, ha.cell rfl, hp.cell CI.out⟩
        refine wpAnyH_ready (rs := [20]) (fuel := 0) (by kernel_rfl) (by simp) ?_
        refine AllReadyH.cons rfl (fun K hK => ?_) AllReadyH.nil
        rw [if_pos (by rfl)]
        refine wp_store_mid _ _ _ rfl (w.heap.size + 1) 0 #[.int .i64 (kn : Int), .int .i64 pI, .slice b2 ins.length d2, .slice b3 outs.length d3, .slice b4 hids.length d4, .slice b5 nL d5] rfl rfl TH.out (by kernel_rfl) (ia_one _ _ _ _ _ _ _ _ _ _ _ _ _ _) ?_
        refine hK.out _ _ SS5 (fun hHeld => ?_)
        clear hK K
        refine wpAnyH_done (by kernel_rfl) ?_ _
        have BF := Lib.hid SS5.1
        have RG2 : Hid ((w8.setCells (w.heap.size + 1) 0 [.int .i64 (kn : Int), .int .i64 pI, .slice b2 ins.length d2, .slice b3 outs.length d3, .slice b4 hids.length d4, .slice b5 nL d5]).rangeAt (w.heap.size + 1) 0 [.int .i64 (kn : Int), .int .i64 pI, .slice b2 ins.length d2, .slice b3 outs.length d3, .slice b4 hids.length d4, .slice b5 nL d5]) := World.rangeAt_setCells_same w8 (w.heap.size + 1) 0 _ TH.out
        clear SS0 SS1 SS2 SS3 SS4 SS5 S0 hHeld
        go_wp2_with fail
        have hres := HRS.out
        refine bodyPost_ret (v := .agg #[.int .i64 (kn : Int), .int .i64 pI, .slice b2 ins.length d2, .slice b3 outs.length d3, .slice b4 hids.length d4, .slice b5 nL d5]) ?_ rfl ⟨_, rfl, ?_, BF.out⟩
        · have HC0 := RG2.out 0 _ rfl
          have HC1 := RG2.out 1 _ rfl
          have HC2 := RG2.out 2 _ rfl
          have HC3 := RG2.out 3 _ rfl
          have HC4 := RG2.out 4 _ rfl
          have HC5 := RG2.out 5 _ rfl
          simp only [Nat.zero_add] at HC0 HC1 HC2 HC3 HC4 HC5
          simp [results, Try.results33, go_sem, HC0, HC1, HC2, HC3, HC4, HC5]
        · rw [hres]
          have hw0 : w.heap.size ≤ wr.drew.heap.size := by omega
          have t2 := O2_4.out.lt
          have t3 := O3_4.out.lt
          have t4 := O4_4.out.lt
          have t5 := O5_4.out.lt
          have u2 := O2_1.out.lt
          have u3 := O3_2.out.lt
          have u4 := O4_3.out.lt
          refine ⟨.slice b2 ins.length d2, .slice b3 outs.length d3, .slice b4 hids.length d4, .slice b5 nL d5, rfl, ?_, ?_, ?_, ?_, ?_, ?_, ?_⟩
          · exact (O2_4.out.keep HGS.out (fun q hq e => by have := (t2 q hq).1; have := Option.some.inj e; omega)).mono (by omega)
          · exact (O3_4.out.keep HGS.out (fun q hq e => by have := (t3 q hq).1; have := Option.some.inj e; omega)).mono (by omega)
          · exact (O4_4.out.keep HGS.out (fun q hq e => by have := (t4 q hq).1; have := Option.some.inj e; omega)).mono (by omega)
          · have := (O5_4.out.keep HGS.out (fun q hq e => by have := (t5 q hq).1; have := Option.some.inj e; omega)).mono (base := w.heap.size) (by omega)
            show OwnsS 49 _ _ _ LB.length LB
            rw [← HNL.out]
            exact this
          · intro b hb
            have h2 := (u2 b hb).2
            exact ⟨fun h => by have := (t3 b h).1; omega, fun h => by have := (t4 b h).1; omega, fun h => by have := (t5 b h).1; omega⟩
          · intro b hb
            have h2 := (u3 b hb).2
            exact ⟨fun h => by have := (t4 b h).1; omega, fun h => by have := (t5 b h).1; omega⟩
          · intro b hb
            have h2 := (u4 b hb).2
            exact fun h => by have := (t5 b h).1; omega

end Go.Proofs.Ytodkahdnkpibiaa
