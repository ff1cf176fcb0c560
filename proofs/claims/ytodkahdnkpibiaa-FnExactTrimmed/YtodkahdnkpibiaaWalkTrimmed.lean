/-
  The walk of the law FnExactTrimmed: it returns true at every argument and writes nothing that was there. Conditions: none.
  Before it: The contract of the model's Trimmed. Conditions: lists of at most 2^20 elements, none of the three sets nil. And: Contracts of the laws' markIa, heldStepS and heldIa over an automaton whose lists are the call's own. Conditions: lists of at most 2^21 elements.
-/
import Derived.Test.YtodkahdnkpibiaaOnly
import Derived.Test.YtodkahdnkpibiaaImplTrimmed
import Derived.Test.YtodkahdnkpibiaaMarkIa2
namespace Go.Proofs.Ytodkahdnkpibiaa
open Go.RowKit

theorem RowS.grown {w w' : World} {a : Option Addr} {n b : Nat} {ss : List St} (h : RowS w a n ss) (hg : w.grownBy w' (some b)) (hb : ∀ q, a = some q → 0 < n → q.block ≠ b) : RowS w' a n ss := by
  refine ⟨h.1, fun hn => ?_⟩
  obtain ⟨b', off, e, hlt, hc⟩ := h.2 hn
  have hne : b' ≠ b := hb _ e hn
  refine ⟨b', off, e, Nat.lt_of_lt_of_le hlt hg.size, fun j s hs => ?_⟩
  obtain ⟨c0, c1, c2⟩ := hc j s hs
  have hk := hg.block b' hlt (fun e => hne (Option.some.inj e))
  exact ⟨(World.cell?_of_block hk).trans c0, (World.cell?_of_block hk).trans c1, (World.cell?_of_block hk).trans c2⟩

theorem IaRowF.row {w : World} {base : Nat} {a : IaD} {v : Value} (h : IaRowF w base a v) : IaRow w a v := by
  obtain ⟨a2, n2, c2, a3, n3, c3, a4, n4, c4, a5, n5, c5, e, r2, r3, r4, r5, _⟩ := h
  exact ⟨a2, n2, c2, a3, n3, c3, a4, n4, c4, a5, n5, c5, e, r2, r3, r4, r5⟩

theorem trimmed_yes {a : IaD} (h : iaOkB a = true) : trimmedOf a = onlyOf a (reachedOf a) := by
  unfold trimmedOf
  rw [h]
  rfl

set_option maxRecDepth 20000 in
set_option maxHeartbeats 6400000 in
theorem specTrimmed_any (st it : Int) (b2 o2 n2 c2 b3 o3 n3 c3 b4 o4 n4 c4 : Nat) (a5 : Option Addr) (n5 c5 : Nat) (ins outs hids : List Int) (steps : List St) (w : World)
    (r2 : Row w (some ⟨b2, o2, none⟩) n2 ins) (r3 : Row w (some ⟨b3, o3, none⟩) n3 outs) (r4 : Row w (some ⟨b4, o4, none⟩) n4 hids) (r5 : RowS w a5 n5 steps) (f2 : n2 ≤ 1048576) (f3 : n3 ≤ 1048576) (f4 : n4 ≤ 1048576) (f5 : n5 ≤ 1048576) :
    Calls Try.prog 32 #[.agg #[.int .i64 st, .int .i64 it, .slice (some ⟨b2, o2, none⟩) n2 c2, .slice (some ⟨b3, o3, none⟩) n3 c3, .slice (some ⟨b4, o4, none⟩) n4 c4, .slice a5 n5 c5]] w fun e w' => ∃ v, e = .returned v ∧ IaRowF w' w.heap.size (trimmedOf ⟨st, it, ins, outs, hids, steps⟩) v ∧ Below w.heap.size w w' := by
  have h : IaRow w ⟨st, it, ins, outs, hids, steps⟩ (.agg #[.int .i64 st, .int .i64 it, .slice (some ⟨b2, o2, none⟩) n2 c2, .slice (some ⟨b3, o3, none⟩) n3 c3, .slice (some ⟨b4, o4, none⟩) n4 c4, .slice a5 n5 c5]) := ⟨_, _, _, _, _, _, _, _, _, _, _, _, rfl, r2, r3, r4, r5⟩
  have CO : Hid (∀ W, Below w.heap.size w W → Calls Try.prog 12 #[.agg #[.int .i64 st, .int .i64 it, .slice (some ⟨b2, o2, none⟩) n2 c2, .slice (some ⟨b3, o3, none⟩) n3 c3, .slice (some ⟨b4, o4, none⟩) n4 c4, .slice a5 n5 c5]] W fun e w' => e = .returned (.bool (iaOkB ⟨st, it, ins, outs, hids, steps⟩)) ∧ Below W.heap.size W w') := fun W hW => specIaOk_any ⟨st, it, ins, outs, hids, steps⟩ _ W (h.below hW) (by rw [r2.1]; exact f2) (by rw [r3.1]; exact f3) (by rw [r4.1]; exact f4) (by rw [r5.1]; exact f5)
  have CR : Hid (iaOkB ⟨st, it, ins, outs, hids, steps⟩ = true → ∀ W, Below w.heap.size w W → Calls Try.prog 30 #[.agg #[.int .i64 st, .int .i64 it, .slice (some ⟨b2, o2, none⟩) n2 c2, .slice (some ⟨b3, o3, none⟩) n3 c3, .slice (some ⟨b4, o4, none⟩) n4 c4, .slice a5 n5 c5]] W (OwnRes W W.heap.size (reachedOf ⟨st, it, ins, outs, hids, steps⟩))) := fun hok W hW => by
    have := specReached_any ⟨st, it, ins, outs, hids, steps⟩ _ W (h.below hW) (by rw [r2.1]; exact f2) (by rw [r3.1]; exact f3) (by rw [r4.1]; exact f4) (by rw [r5.1]; exact f5)
    rwa [if_pos hok] at this
  have RL : Hid (iaOkB ⟨st, it, ins, outs, hids, steps⟩ = true → (reachedOf ⟨st, it, ins, outs, hids, steps⟩).length ≤ 4194304) := fun hok => by
    have := reached_len ⟨st, it, ins, outs, hids, steps⟩ (by rw [r5.1]; exact f5)
    rwa [if_pos hok] at this
  obtain ⟨kn, hkn⟩ : ∃ k, k = (reachedOf ⟨st, it, ins, outs, hids, steps⟩).length := ⟨_, rfl⟩
  have CY : Hid (∀ W ka kc, Below w.heap.size w W → Row W ka kn (reachedOf ⟨st, it, ins, outs, hids, steps⟩) → kn ≤ 4194304 → Calls Try.prog 59 #[.agg #[.int .i64 st, .int .i64 it, .slice (some ⟨b2, o2, none⟩) n2 c2, .slice (some ⟨b3, o3, none⟩) n3 c3, .slice (some ⟨b4, o4, none⟩) n4 c4, .slice a5 n5 c5], .slice ka kn kc] W fun e w' => ∃ v, e = .returned v ∧ IaRowF w' W.heap.size (onlyOf ⟨st, it, ins, outs, hids, steps⟩ (reachedOf ⟨st, it, ins, outs, hids, steps⟩)) v ∧ Below W.heap.size W w') := fun W ka kc hW hr hk => only_any st it b2 o2 n2 c2 b3 o3 n3 c3 b4 o4 n4 c4 a5 n5 c5 ins outs hids steps ka kn kc _ W (r2.below hW) (r3.below hW) (r4.below hW) (r5.below hW) hr f2 f3 f4 f5 hk
  clear r2 r3 r4 r5 h f2 f3 f4 f5
  have HKN := Lib.hid hkn
  clear hkn
  obtain ⟨q, hq⟩ : ∃ q, q = iaOkB ⟨st, it, ins, outs, hids, steps⟩ := ⟨_, rfl⟩
  rw [← hq] at CO CR RL
  have HQ := Lib.hid hq.symm
  obtain ⟨res, hres⟩ : ∃ r, r = trimmedOf ⟨st, it, ins, outs, hids, steps⟩ := ⟨_, rfl⟩
  rw [← hres]
  have HRES := Lib.hid hres
  clear hq hres
  have B0 : Hid (∀ o o', Below w.heap.size w ((w.alloc o).alloc o')) := fun o o' => ((Below.refl _ _).alloc (Nat.le_refl _) _).alloc (by simp) _
  have V0 : Hid (VarIs ((w.alloc (.cells #[.int .i64 st, .int .i64 it, .slice (some ⟨b2, o2, none⟩) n2 c2, .slice (some ⟨b3, o3, none⟩) n3 c3, .slice (some ⟨b4, o4, none⟩) n4 c4, .slice a5 n5 c5] 30)).alloc (.cells #[.int .i64 0, .int .i64 0, .slice none 0 0, .slice none 0 0, .slice none 0 0, .slice none 0 0] 30)) w.heap.size #[.int .i64 st, .int .i64 it, .slice (some ⟨b2, o2, none⟩) n2 c2, .slice (some ⟨b3, o3, none⟩) n3 c3, .slice (some ⟨b4, o4, none⟩) n4 c4, .slice a5 n5 c5] 30) := (VarIs.new w _ _ rfl).alloc _
  have VR0 : Hid (VarIs ((w.alloc (.cells #[.int .i64 st, .int .i64 it, .slice (some ⟨b2, o2, none⟩) n2 c2, .slice (some ⟨b3, o3, none⟩) n3 c3, .slice (some ⟨b4, o4, none⟩) n4 c4, .slice a5 n5 c5] 30)).alloc (.cells #[.int .i64 0, .int .i64 0, .slice none 0 0, .slice none 0 0, .slice none 0 0, .slice none 0 0] 30)) (w.heap.size + 1) #[.int .i64 0, .int .i64 0, .slice none 0 0, .slice none 0 0, .slice none 0 0, .slice none 0 0] 30) := VarIs.new _ _ _ (by simp)
  go_enter Try.func32, Try.ntmps32
  go_wp2_with fail
  refine (CO.out _ (B0.out _ _)).mono ?_
  rintro e w1 ⟨rfl, hb⟩
  have B1 : Hid (Below w.heap.size w w1) := (B0.out _ _).trans (hb.mono (B0.out _ _).size)
  have V1 := Lib.hid (V0.out.below hb)
  have VR1 := Lib.hid (VR0.out.below hb)
  clear hb V0 VR0 CO B0
  cases q with
  | false =>
    have TH : Hid (w1.there (w.heap.size + 1) 0 6) := VR1.out.there rfl
    have RG2 : Hid ((w1.setCells (w.heap.size + 1) 0 [.int .i64 0, .int .i64 0, .slice none 0 0, .slice none 0 0, .slice none 0 0, .slice none 0 0]).rangeAt (w.heap.size + 1) 0 [.int .i64 0, .int .i64 0, .slice none 0 0, .slice none 0 0, .slice none 0 0, .slice none 0 0]) := World.rangeAt_setCells_same w1 (w.heap.size + 1) 0 _ TH.out
    have HGS := Lib.hid (grown_setCells (w.heap.size + 1) [.int .i64 0, .int .i64 0, .slice none 0 0, .slice none 0 0, .slice none 0 0, .slice none 0 0] 0 w1)
    go_wp2_with (refine wpList_store_mid rfl _ _ _ rfl (w.heap.size + 1) 0 #[.int .i64 0, .int .i64 0, .slice none 0 0, .slice none 0 0, .slice none 0 0, .slice none 0 0] rfl rfl TH.out (by kernel_rfl) (ia_one _ _ _ _ _ _ _ _ _ _ _ _ _ _) ?_)
    have hres : res = noIa := HRES.out.trans (trimmed_no HQ.out)
    refine bodyPost_ret (v := .agg #[.int .i64 0, .int .i64 0, .slice none 0 0, .slice none 0 0, .slice none 0 0, .slice none 0 0]) ?_ rfl ⟨_, rfl, ⟨none, 0, 0, none, 0, 0, none, 0, 0, none, 0, 0, by rw [hres]; rfl, by rw [hres]; exact ⟨rfl, fun h => absurd h (by omega)⟩, by rw [hres]; exact ⟨rfl, fun h => absurd h (by omega)⟩, by rw [hres]; exact ⟨rfl, fun h => absurd h (by omega)⟩, by rw [hres]; exact ⟨rfl, fun h => absurd h (by omega)⟩, (fun q h => by cases h), (fun q h => by cases h), (fun q h => by cases h), (fun q h => by cases h)⟩, B1.out.grown HGS.out B1.out.size (fun q hq => by cases hq; omega)⟩
    have HC0 := RG2.out 0 _ rfl
    have HC1 := RG2.out 1 _ rfl
    have HC2 := RG2.out 2 _ rfl
    have HC3 := RG2.out 3 _ rfl
    have HC4 := RG2.out 4 _ rfl
    have HC5 := RG2.out 5 _ rfl
    simp only [Nat.zero_add] at HC0 HC1 HC2 HC3 HC4 HC5
    simp [results, Try.results32, go_sem, HC0, HC1, HC2, HC3, HC4, HC5]
  | true =>
    have hkn : kn ≤ 4194304 := by rw [HKN.out]; exact RL.out rfl
    have S0 : Below w.heap.size w w1.drew ∧ VarIs w1.drew w.heap.size #[.int .i64 st, .int .i64 it, .slice (some ⟨b2, o2, none⟩) n2 c2, .slice (some ⟨b3, o3, none⟩) n3 c3, .slice (some ⟨b4, o4, none⟩) n4 c4, .slice a5 n5 c5] 30 ∧ w1.drew.cell? ⟨w.heap.size, 0, none⟩ = some (.int .i64 st) ∧ w1.drew.cell? ⟨w.heap.size, 1, none⟩ = some (.int .i64 it) ∧ w1.drew.cell? ⟨w.heap.size, 2, none⟩ = some (.slice (some ⟨b2, o2, none⟩) n2 c2) ∧ w1.drew.cell? ⟨w.heap.size, 3, none⟩ = some (.slice (some ⟨b3, o3, none⟩) n3 c3) ∧ w1.drew.cell? ⟨w.heap.size, 4, none⟩ = some (.slice (some ⟨b4, o4, none⟩) n4 c4) ∧ w1.drew.cell? ⟨w.heap.size, 5, none⟩ = some (.slice a5 n5 c5) := by
      have ha := V1.out.drew
      exact ⟨B1.out.drew, ha, ha.cell rfl, ha.cell rfl, ha.cell rfl, ha.cell rfl, ha.cell rfl, ha.cell rfl⟩
    have VRd : Hid (VarIs w1.drew (w.heap.size + 1) #[.int .i64 0, .int .i64 0, .slice none 0 0, .slice none 0 0, .slice none 0 0, .slice none 0 0] 30) := VR1.out.drew
    go_wp2_with fail
    refine wp_region_held_drew (S := fun w' => Below w.heap.size w w' ∧ VarIs w' w.heap.size #[.int .i64 st, .int .i64 it, .slice (some ⟨b2, o2, none⟩) n2 c2, .slice (some ⟨b3, o3, none⟩) n3 c3, .slice (some ⟨b4, o4, none⟩) n4 c4, .slice a5 n5 c5] 30 ∧ w'.cell? ⟨w.heap.size, 0, none⟩ = some (.int .i64 st) ∧ w'.cell? ⟨w.heap.size, 1, none⟩ = some (.int .i64 it) ∧ w'.cell? ⟨w.heap.size, 2, none⟩ = some (.slice (some ⟨b2, o2, none⟩) n2 c2) ∧ w'.cell? ⟨w.heap.size, 3, none⟩ = some (.slice (some ⟨b3, o3, none⟩) n3 c3) ∧ w'.cell? ⟨w.heap.size, 4, none⟩ = some (.slice (some ⟨b4, o4, none⟩) n4 c4) ∧ w'.cell? ⟨w.heap.size, 5, none⟩ = some (.slice a5 n5 c5)) (by kernel_rfl) S0 (fun hHeld => ?_)
    change wpAnyH _ _ _ _ _ 5 (Array.replicate 5 false) _ _
    refine take_op 0 7 (.agg #[.int .i64 st, .int .i64 it, .slice (some ⟨b2, o2, none⟩) n2 c2, .slice (some ⟨b3, o3, none⟩) n3 c3, .slice (some ⟨b4, o4, none⟩) n4 c4, .slice a5 n5 c5]) (fuel := 4) rfl rfl (by kernel_rfl) (by kernel_rfl) (by kernel_rfl) (fun _ _ _ h => h) (by rfl) (fun w hSw => by go_simp) hHeld ?_
    simp only [Act.put, List.setIfInBounds_toArray, List.set_cons_zero, List.set_cons_succ]
    refine take_op 1 8 (.agg #[.int .i64 st, .int .i64 it, .slice (some ⟨b2, o2, none⟩) n2 c2, .slice (some ⟨b3, o3, none⟩) n3 c3, .slice (some ⟨b4, o4, none⟩) n4 c4, .slice a5 n5 c5]) (fuel := 3) rfl rfl (by kernel_rfl) (by kernel_rfl) (by kernel_rfl) (fun _ _ _ h => h) (by rfl) (fun w hSw => by go_simp) hHeld ?_
    simp only [Act.put, List.setIfInBounds_toArray, List.set_cons_zero, List.set_cons_succ]
    refine wpAnyH_ready (rs := [2]) (fuel := 2) (by kernel_rfl) (by simp) ?_
    refine AllReadyH.cons rfl (fun K hK => ?_) AllReadyH.nil
    go_simp
    refine (CR.out trivial _ S0.1).mono ?_
    rintro e w2 ⟨g2, k2, rfl, ho, hb⟩
    rw [← HKN.out] at ho ⊢
    have SS1 : Below w.heap.size w w2 ∧ VarIs w2 w.heap.size #[.int .i64 st, .int .i64 it, .slice (some ⟨b2, o2, none⟩) n2 c2, .slice (some ⟨b3, o3, none⟩) n3 c3, .slice (some ⟨b4, o4, none⟩) n4 c4, .slice a5 n5 c5] 30 ∧ w2.cell? ⟨w.heap.size, 0, none⟩ = some (.int .i64 st) ∧ w2.cell? ⟨w.heap.size, 1, none⟩ = some (.int .i64 it) ∧ w2.cell? ⟨w.heap.size, 2, none⟩ = some (.slice (some ⟨b2, o2, none⟩) n2 c2) ∧ w2.cell? ⟨w.heap.size, 3, none⟩ = some (.slice (some ⟨b3, o3, none⟩) n3 c3) ∧ w2.cell? ⟨w.heap.size, 4, none⟩ = some (.slice (some ⟨b4, o4, none⟩) n4 c4) ∧ w2.cell? ⟨w.heap.size, 5, none⟩ = some (.slice a5 n5 c5) := by
      have ha := S0.2.1.below hb
      exact ⟨S0.1.trans (hb.mono S0.1.size), ha, ha.cell rfl, ha.cell rfl, ha.cell rfl, ha.cell rfl, ha.cell rfl, ha.cell rfl⟩
    have VR2 := Lib.hid (VRd.out.below hb)
    have RO := Lib.hid ho.row.2.2.2
    have sz1 := hb.size
    clear ho hb
    go_wp2_with fail
    refine hK.out _ _ SS1 (fun hHeld => ?_)
    clear hK K
    refine wpAnyH_ready (rs := [3]) (fuel := 1) (by kernel_rfl) (by simp) ?_
    refine AllReadyH.cons rfl (fun K hK => ?_) AllReadyH.nil
    go_simp
    refine (CY.out _ _ _ SS1.1 RO.out hkn).mono ?_
    rintro e w3 ⟨x, rfl, ho, hb⟩
    obtain ⟨y2, m2, d2, y3, m3, d3, y4, m4, d4, y5, m5, d5, rfl, p2, p3, p4, p5, q2, q3, q4, q5⟩ := ho
    have hvr := VR2.out.lt
    obtain ⟨nst, hnst⟩ : ∃ n, n = (onlyOf ⟨st, it, ins, outs, hids, steps⟩ (reachedOf ⟨st, it, ins, outs, hids, steps⟩)).states := ⟨_, rfl⟩
    obtain ⟨nit, hnit⟩ : ∃ n, n = (onlyOf ⟨st, it, ins, outs, hids, steps⟩ (reachedOf ⟨st, it, ins, outs, hids, steps⟩)).init := ⟨_, rfl⟩
    rw [← hnst, ← hnit]
    have SS2 : Below w.heap.size w w3 ∧ VarIs w3 w.heap.size #[.int .i64 st, .int .i64 it, .slice (some ⟨b2, o2, none⟩) n2 c2, .slice (some ⟨b3, o3, none⟩) n3 c3, .slice (some ⟨b4, o4, none⟩) n4 c4, .slice a5 n5 c5] 30 ∧ w3.cell? ⟨w.heap.size, 0, none⟩ = some (.int .i64 st) ∧ w3.cell? ⟨w.heap.size, 1, none⟩ = some (.int .i64 it) ∧ w3.cell? ⟨w.heap.size, 2, none⟩ = some (.slice (some ⟨b2, o2, none⟩) n2 c2) ∧ w3.cell? ⟨w.heap.size, 3, none⟩ = some (.slice (some ⟨b3, o3, none⟩) n3 c3) ∧ w3.cell? ⟨w.heap.size, 4, none⟩ = some (.slice (some ⟨b4, o4, none⟩) n4 c4) ∧ w3.cell? ⟨w.heap.size, 5, none⟩ = some (.slice a5 n5 c5) := by
      have ha := SS1.2.1.below hb
      exact ⟨SS1.1.trans (hb.mono SS1.1.size), ha, ha.cell rfl, ha.cell rfl, ha.cell rfl, ha.cell rfl, ha.cell rfl, ha.cell rfl⟩
    have VR3 := Lib.hid (VR2.out.below hb)
    have P2 := Lib.hid p2
    have P3 := Lib.hid p3
    have P4 := Lib.hid p4
    have P5 := Lib.hid p5
    have Q2 := Lib.hid q2
    have Q3 := Lib.hid q3
    have Q4 := Lib.hid q4
    have Q5 := Lib.hid q5
    have HST := Lib.hid hnst
    have HIT := Lib.hid hnit
    have sz2 := hb.size
    clear p2 p3 p4 p5 q2 q3 q4 q5 hnst hnit hb
    go_wp2_with fail
    refine hK.out _ _ SS2 (fun hHeld => ?_)
    clear hK K
    have TH : Hid (w3.there (w.heap.size + 1) 0 6) := VR3.out.there rfl
    have HGS := Lib.hid (grown_setCells (w.heap.size + 1) [.int .i64 nst, .int .i64 nit, .slice y2 m2 d2, .slice y3 m3 d3, .slice y4 m4 d4, .slice y5 m5 d5] 0 w3)
    have SS3 : Below w.heap.size w (w3.setCells (w.heap.size + 1) 0 [.int .i64 nst, .int .i64 nit, .slice y2 m2 d2, .slice y3 m3 d3, .slice y4 m4 d4, .slice y5 m5 d5]) ∧ VarIs (w3.setCells (w.heap.size + 1) 0 [.int .i64 nst, .int .i64 nit, .slice y2 m2 d2, .slice y3 m3 d3, .slice y4 m4 d4, .slice y5 m5 d5]) w.heap.size #[.int .i64 st, .int .i64 it, .slice (some ⟨b2, o2, none⟩) n2 c2, .slice (some ⟨b3, o3, none⟩) n3 c3, .slice (some ⟨b4, o4, none⟩) n4 c4, .slice a5 n5 c5] 30 ∧ (w3.setCells (w.heap.size + 1) 0 [.int .i64 nst, .int .i64 nit, .slice y2 m2 d2, .slice y3 m3 d3, .slice y4 m4 d4, .slice y5 m5 d5]).cell? ⟨w.heap.size, 0, none⟩ = some (.int .i64 st) ∧ (w3.setCells (w.heap.size + 1) 0 [.int .i64 nst, .int .i64 nit, .slice y2 m2 d2, .slice y3 m3 d3, .slice y4 m4 d4, .slice y5 m5 d5]).cell? ⟨w.heap.size, 1, none⟩ = some (.int .i64 it) ∧ (w3.setCells (w.heap.size + 1) 0 [.int .i64 nst, .int .i64 nit, .slice y2 m2 d2, .slice y3 m3 d3, .slice y4 m4 d4, .slice y5 m5 d5]).cell? ⟨w.heap.size, 2, none⟩ = some (.slice (some ⟨b2, o2, none⟩) n2 c2) ∧ (w3.setCells (w.heap.size + 1) 0 [.int .i64 nst, .int .i64 nit, .slice y2 m2 d2, .slice y3 m3 d3, .slice y4 m4 d4, .slice y5 m5 d5]).cell? ⟨w.heap.size, 3, none⟩ = some (.slice (some ⟨b3, o3, none⟩) n3 c3) ∧ (w3.setCells (w.heap.size + 1) 0 [.int .i64 nst, .int .i64 nit, .slice y2 m2 d2, .slice y3 m3 d3, .slice y4 m4 d4, .slice y5 m5 d5]).cell? ⟨w.heap.size, 4, none⟩ = some (.slice (some ⟨b4, o4, none⟩) n4 c4) ∧ (w3.setCells (w.heap.size + 1) 0 [.int .i64 nst, .int .i64 nit, .slice y2 m2 d2, .slice y3 m3 d3, .slice y4 m4 d4, .slice y5 m5 d5]).cell? ⟨w.heap.size, 5, none⟩ = some (.slice a5 n5 c5) := by
      have ha := SS2.2.1.grown HGS.out (fun e => by have := Option.some.inj e; omega)
      exact ⟨SS2.1.grown HGS.out SS2.1.size (fun q hq => by cases hq; omega), ha, ha.cell rfl, ha.cell rfl, ha.cell rfl, ha.cell rfl, ha.cell rfl, ha.cell rfl⟩
    refine wpAnyH_ready (rs := [4]) (fuel := 0) (by kernel_rfl) (by simp) ?_
    refine AllReadyH.cons rfl (fun K hK => ?_) AllReadyH.nil
    rw [if_pos (by rfl)]
    refine wp_store_mid _ _ _ rfl (w.heap.size + 1) 0 #[.int .i64 nst, .int .i64 nit, .slice y2 m2 d2, .slice y3 m3 d3, .slice y4 m4 d4, .slice y5 m5 d5] rfl rfl TH.out (by kernel_rfl) (ia_one _ _ _ _ _ _ _ _ _ _ _ _ _ _) ?_
    refine hK.out _ _ SS3 (fun hHeld => ?_)
    clear hK K
    refine wpAnyH_done (by kernel_rfl) ?_ _
    have BF := Lib.hid SS3.1
    have RG2 : Hid ((w3.setCells (w.heap.size + 1) 0 [.int .i64 nst, .int .i64 nit, .slice y2 m2 d2, .slice y3 m3 d3, .slice y4 m4 d4, .slice y5 m5 d5]).rangeAt (w.heap.size + 1) 0 [.int .i64 nst, .int .i64 nit, .slice y2 m2 d2, .slice y3 m3 d3, .slice y4 m4 d4, .slice y5 m5 d5]) := World.rangeAt_setCells_same w3 (w.heap.size + 1) 0 _ TH.out
    clear SS1 SS2 SS3 hHeld
    have sz0 := S0.1.size
    clear S0
    go_wp2_with fail
    have hres := HRES.out.trans (trimmed_yes HQ.out)
    refine bodyPost_ret (v := .agg #[.int .i64 nst, .int .i64 nit, .slice y2 m2 d2, .slice y3 m3 d3, .slice y4 m4 d4, .slice y5 m5 d5]) ?_ rfl ⟨_, rfl, ?_, BF.out⟩
    · have HC0 := RG2.out 0 _ rfl
      have HC1 := RG2.out 1 _ rfl
      have HC2 := RG2.out 2 _ rfl
      have HC3 := RG2.out 3 _ rfl
      have HC4 := RG2.out 4 _ rfl
      have HC5 := RG2.out 5 _ rfl
      simp only [Nat.zero_add] at HC0 HC1 HC2 HC3 HC4 HC5
      simp [results, Try.results32, go_sem, HC0, HC1, HC2, HC3, HC4, HC5]
    · rw [hres]
      refine ⟨y2, m2, d2, y3, m3, d3, y4, m4, d4, y5, m5, d5, by rw [HST.out, HIT.out], P2.out.grown HGS.out ?_, P3.out.grown HGS.out ?_, P4.out.grown HGS.out ?_, P5.out.grown HGS.out ?_, ?_, ?_, ?_, ?_⟩
      · exact fun q h1 h2 => by have := Q2.out q h1 h2; omega
      · exact fun q h1 h2 => by have := Q3.out q h1 h2; omega
      · exact fun q h1 h2 => by have := Q4.out q h1 h2; omega
      · exact fun q h1 h2 => by have := Q5.out q h1 h2; omega
      · exact fun q h1 h2 => by have := Q2.out q h1 h2; omega
      · exact fun q h1 h2 => by have := Q3.out q h1 h2; omega
      · exact fun q h1 h2 => by have := Q4.out q h1 h2; omega
      · exact fun q h1 h2 => by have := Q5.out q h1 h2; omega

/-- The automaton whose lists hold numbers that go on from one another. -/
def markedIa (a : IaD) : IaD :=
  ⟨a.states, a.init, marks 1 a.ins.length, marks (1 + (a.ins.length : Int)) a.outs.length, marks (1 + (a.ins.length : Int) + (a.outs.length : Int)) a.hids.length, marksS (1 + (a.ins.length : Int) + (a.outs.length : Int) + (a.hids.length : Int)) a.steps.length⟩

/-- What marking comes to. -/
def markSum (a : IaD) : Int := 1 + (a.ins.length : Int) + (a.outs.length : Int) + (a.hids.length : Int) + 3 * (a.steps.length : Int)

theorem IaOwn.below {w w' : World} {base : Nat} {a : IaD} {v : Value} (h : IaOwn w base a v) (hb : Below w.heap.size w w') : IaOwn w' base a v := by
  obtain ⟨x2, x3, x4, x5, e, o2, o3, o4, o5, p⟩ := h
  exact ⟨x2, x3, x4, x5, e, o2.below hb, o3.below hb, o4.below hb, o5.below hb, p⟩

theorem IaOwn.row {w : World} {base : Nat} {a : IaD} {v : Value} (h : IaOwn w base a v) : IaRow w a v := by
  obtain ⟨x2, x3, x4, x5, rfl, o2, o3, o4, o5, _⟩ := h
  obtain ⟨b2, d2, rfl⟩ := o2.form
  obtain ⟨b3, d3, rfl⟩ := o3.form
  obtain ⟨b4, d4, rfl⟩ := o4.form
  obtain ⟨b5, d5, rfl⟩ := o5.form
  exact ⟨_, _, _, _, _, _, _, _, _, _, _, _, rfl, o2.row.2.2.2, o3.row.2.2.2, o4.row.2.2.2, o5.row.2.2.2⟩

theorem OwnsS.grownAny {e : TypeId} {w w' : World} {base n : Nat} {v : Value} {ss : List St} {r : Option Nat} (h : OwnsS e w base v n ss) (hg : w.grownBy w' r) (hr : ∀ b, r = some b → v.ownBlock ≠ some b) : OwnsS e w' base v n ss :=
  h.keep hg (fun k hk he => hr k he.symm hk)

theorem Owns.grownAny {w w' : World} {base n : Nat} {v : Value} {xs : List Int} {r : Option Nat} (h : Owns w base v n xs) (hg : w.grownBy w' r) (hr : ∀ b, r = some b → v.ownBlock ≠ some b) : Owns w' base v n xs :=
  h.keep hg (fun k hk he => hr k he.symm hk)

set_option maxRecDepth 20000 in
set_option maxHeartbeats 3200000 in
theorem markIa_own (a : IaD) (v : Value) (base : Nat) (w : World) (h : IaOwn w base a v) (hbase : base ≤ w.heap.size) (f2 : a.ins.length ≤ 2097152) (f3 : a.outs.length ≤ 2097152) (f4 : a.hids.length ≤ 2097152) (f5 : a.steps.length ≤ 2097152) (bx : Nat) (C : Array Value) (ty : TypeId) (hv : VarIs w bx C ty) (hbx : ∀ y0 y1 y2 y3 y4 y5 : Value, v = .agg #[y0, y1, y2, y3, y4, y5] → y2.ownBlock ≠ some bx ∧ y3.ownBlock ≠ some bx ∧ y4.ownBlock ≠ some bx ∧ y5.ownBlock ≠ some bx) :
    Calls Try.prog 19 #[v, .int .i64 1] w fun e w' => e = .returned (.int .i64 (markSum a)) ∧ IaOwn w' base (markedIa a) v ∧ Below base w w' ∧ VarIs w' bx C ty := by
  obtain ⟨x2, x3, x4, x5, rfl, o2, o3, o4, o5, p2, p3, p4⟩ := h
  have HX := Lib.hid (hbx _ _ _ _ _ _ rfl)
  clear hbx
  obtain ⟨st, it, ins, outs, hids, steps⟩ := a
  simp only at f2 f3 f4 f5 o2 o3 o4 o5
  have O2 := Lib.hid (o2.alloc (.cells #[.int .i64 st, .int .i64 it, x2, x3, x4, x5] 30))
  have O3 := Lib.hid (o3.alloc (.cells #[.int .i64 st, .int .i64 it, x2, x3, x4, x5] 30))
  have O4 := Lib.hid (o4.alloc (.cells #[.int .i64 st, .int .i64 it, x2, x3, x4, x5] 30))
  have O5 := Lib.hid (o5.alloc (.cells #[.int .i64 st, .int .i64 it, x2, x3, x4, x5] 30))
  have V0 := Lib.hid (VarIs.new w #[.int .i64 st, .int .i64 it, x2, x3, x4, x5] 30 rfl)
  have Y0 := Lib.hid (hv.alloc (.cells #[.int .i64 st, .int .i64 it, x2, x3, x4, x5] 30))
  clear hv
  have B0 : Hid (∀ o, Below base w (w.alloc o)) := fun o => (Below.refl _ _).alloc hbase _
  have t2 := o2.lt
  have t3 := o3.lt
  have t4 := o4.lt
  have t5 := o5.lt
  have P2 := Lib.hid p2
  have P3 := Lib.hid p3
  have P4 := Lib.hid p4
  have T2 := Lib.hid t2
  have T3 := Lib.hid t3
  have T4 := Lib.hid t4
  have T5 := Lib.hid t5
  obtain ⟨b2, d2, e2⟩ := o2.form
  obtain ⟨b3, d3, e3⟩ := o3.form
  obtain ⟨b4, d4, e4⟩ := o4.form
  obtain ⟨b5, d5, e5⟩ := o5.form
  clear o2 o3 o4 o5 p2 p3 p4 t2 t3 t4 t5
  subst e2 e3 e4 e5
  go_enter Try.func19, Try.ntmps19
  go_wp2_with fail
  refine (mark_any _ ins.length base 1 ins _ O2.out (by omega) (by omega) (by omega)).mono ?_
  rintro e w1 ⟨rfl, ho, hg⟩
  have Y1 := Lib.hid (Y0.out.grown hg (fun e => HX.out.1 e.symm))
  clear Y0
  have V1 := Lib.hid (V0.out.grown hg (fun e => by have := (T2.out _ e.symm).2; omega))
  have O2a := Lib.hid ho
  have O3a := Lib.hid (O3.out.grownAny hg (fun b hb => (P2.out b hb).1))
  have O4a := Lib.hid (O4.out.grownAny hg (fun b hb => (P2.out b hb).2.1))
  have O5a := Lib.hid (O5.out.grownAny hg (fun b hb => (P2.out b hb).2.2))
  have B1 : Hid (Below base w w1) := (B0.out _).grown hg (Nat.le_trans hbase (B0.out _).size) (fun k hk => (T2.out k hk).1)
  clear hg ho O2 O3 O4 O5 V0 B0
  have k1 := V1.out.cell (j := 3) rfl
  go_wp2_with fail
  clear k1
  refine (mark_any _ outs.length base _ outs _ O3a.out (by omega) (by omega) (by omega)).mono ?_
  rintro e w2 ⟨rfl, ho, hg⟩
  have Y2 := Lib.hid (Y1.out.grown hg (fun e => HX.out.2.1 e.symm))
  clear Y1
  have V2 := Lib.hid (V1.out.grown hg (fun e => by have := (T3.out _ e.symm).2; omega))
  have O2b := Lib.hid (O2a.out.grownAny hg (fun b hb h => (P2.out b h).1 hb))
  have O3b := Lib.hid ho
  have O4b := Lib.hid (O4a.out.grownAny hg (fun b hb => (P3.out b hb).1))
  have O5b := Lib.hid (O5a.out.grownAny hg (fun b hb => (P3.out b hb).2))
  have B2 : Hid (Below base w w2) := B1.out.grown hg (Nat.le_trans hbase B1.out.size) (fun k hk => (T3.out k hk).1)
  clear hg ho O2a O3a O4a O5a V1 B1
  have k1 := V2.out.cell (j := 4) rfl
  go_wp2_with fail
  clear k1
  refine (mark_any _ hids.length base _ hids _ O4b.out (by omega) (by omega) (by omega)).mono ?_
  rintro e w3 ⟨rfl, ho, hg⟩
  have Y3 := Lib.hid (Y2.out.grown hg (fun e => HX.out.2.2.1 e.symm))
  clear Y2
  have V3 := Lib.hid (V2.out.grown hg (fun e => by have := (T4.out _ e.symm).2; omega))
  have O2c := Lib.hid (O2b.out.grownAny hg (fun b hb h => (P2.out b h).2.1 hb))
  have O3c := Lib.hid (O3b.out.grownAny hg (fun b hb h => (P3.out b h).1 hb))
  have O4c := Lib.hid ho
  have O5c := Lib.hid (O5b.out.grownAny hg (fun b hb => P4.out b hb))
  have B3 : Hid (Below base w w3) := B2.out.grown hg (Nat.le_trans hbase B2.out.size) (fun k hk => (T4.out k hk).1)
  clear hg ho O2b O3b O4b O5b V2 B2
  have k1 := V3.out.cell (j := 5) rfl
  go_wp2_with fail
  clear k1
  refine (markS_any _ steps.length base _ steps _ O5c.out (by omega) (by omega) (by omega)).mono ?_
  rintro e w4 ⟨rfl, ho, hg⟩
  have Y4 := Lib.hid (Y3.out.grown hg (fun e => HX.out.2.2.2 e.symm))
  clear Y3
  have O2d := Lib.hid (O2c.out.grownAny hg (fun b hb h => (P2.out b h).2.2 hb))
  have O3d := Lib.hid (O3c.out.grownAny hg (fun b hb h => (P3.out b h).2 hb))
  have O4d := Lib.hid (O4c.out.grownAny hg (fun b hb h => P4.out b h hb))
  have O5d := Lib.hid ho
  have B4 : Hid (Below base w w4) := B3.out.grown hg (Nat.le_trans hbase B3.out.size) (fun k hk => (T5.out k hk).1)
  clear hg ho O2c O3c O4c O5c V3 B3
  go_wp2_with fail
  go_ret
  refine ⟨ret_int rfl, ⟨_, _, _, _, rfl, ?_, ?_, ?_, ?_, P2.out, P3.out, P4.out⟩, B4.out, Y4.out⟩
  · simp only [markedIa, marks_len]
    exact O2d.out
  · simp only [markedIa, marks_len]
    exact O3d.out
  · simp only [markedIa, marks_len]
    exact O4d.out
  · simp only [markedIa, marksS_len]
    exact O5d.out

theorem marksS_at (k : Int) (n j : Nat) (h : j < n) : (marksS k n)[j]? = some (k + 3 * (j : Int), k + 3 * (j : Int) + 1, k + 3 * (j : Int) + 1 + 1) := by simp [marksS, h]

set_option maxRecDepth 20000 in
set_option maxHeartbeats 1600000 in
theorem heldS_any (a : Option Addr) (n c : Nat) (k0 : Int) (w : World) (h : RowS w a n (marksS k0 n)) (hn : n ≤ 274877906944) (hk0 : 0 ≤ k0) (hk1 : k0 ≤ 4398046511104) :
    Calls Try.prog 62 #[.slice a n c, .int .i64 k0] w fun e w' => e = .returned (.int .i64 (k0 + 3 * (n : Int))) ∧ w' = w := by
  obtain ⟨hl, hc⟩ := h
  have HC := Lib.hid hc
  clear hl hc
  go_enter Try.func62, Try.ntmps62
  go_wp2
  go_loop [1, 5] (fun k i => ∃ j : Nat, j ≤ n ∧ i = .int .i64 j ∧ k = .int .i64 (k0 + 3 * (j : Int))) (fun _ i => n - (intOf i).toNat)
  case atStart => exact ⟨0, Nat.zero_le _, rfl, by simp⟩
  case round =>
    obtain ⟨j, hj, rfl, rfl⟩ := hrel
    by_cases hlt : j < n
    · obtain ⟨b, off, rfl, hb, hcell⟩ := HC.out (by omega)
      obtain ⟨g0, g1, g2⟩ := hcell j _ (marksS_at k0 n j hlt)
      simp only at g0 g1 g2
      clear hcell
      go_wp2
      go_round
      case rel => exact ⟨j + 1, by omega, by go_num, by go_num⟩
      case measure => simp [intOf]; omega
    · have HJ : Hid (j = n) := by unfold Hid; omega
      go_wp2
      go_ret
      exact ⟨ret_int (by rw [HJ.out]), rfl⟩

set_option maxRecDepth 20000 in
set_option maxHeartbeats 3200000 in
theorem heldIa_own (a : IaD) (v : Value) (w : World) (h : IaRow w (markedIa a) v) (f2 : a.ins.length ≤ 2097152) (f3 : a.outs.length ≤ 2097152) (f4 : a.hids.length ≤ 2097152) (f5 : a.steps.length ≤ 2097152) :
    Calls Try.prog 34 #[v, .int .i64 1] w fun e w' => e = .returned (.int .i64 (markSum a)) ∧ Below w.heap.size w w' := by
  obtain ⟨a2, n2, c2, a3, n3, c3, a4, n4, c4, a5, n5, c5, rfl, r2, r3, r4, r5⟩ := h
  obtain ⟨st, it, ins, outs, hids, steps⟩ := a
  simp only [markedIa] at r2 r3 r4 r5 f2 f3 f4 f5 ⊢
  obtain rfl : n2 = ins.length := by have := r2.1; rw [marks_len] at this; exact this.symm
  obtain rfl : n3 = outs.length := by have := r3.1; rw [marks_len] at this; exact this.symm
  obtain rfl : n4 = hids.length := by have := r4.1; rw [marks_len] at this; exact this.symm
  obtain rfl : n5 = steps.length := by have := r5.1; rw [marksS_len] at this; exact this.symm
  obtain ⟨sum, hsum⟩ : ∃ s, s = markSum ⟨st, it, ins, outs, hids, steps⟩ := ⟨_, rfl⟩
  rw [← hsum]
  have HSUM : Hid (sum = 1 + (ins.length : Int) + (outs.length : Int) + (hids.length : Int) + 3 * (steps.length : Int)) := hsum
  have B0 : Hid (∀ o, Below w.heap.size w (w.alloc o)) := fun o => (Below.refl _ _).alloc (Nat.le_refl _) _
  have R2 := Lib.hid (r2.below (B0.out (.cells #[.int .i64 st, .int .i64 it, .slice a2 ins.length c2, .slice a3 outs.length c3, .slice a4 hids.length c4, .slice a5 steps.length c5] 30)))
  have R3 := Lib.hid (r3.below (B0.out (.cells #[.int .i64 st, .int .i64 it, .slice a2 ins.length c2, .slice a3 outs.length c3, .slice a4 hids.length c4, .slice a5 steps.length c5] 30)))
  have R4 := Lib.hid (r4.below (B0.out (.cells #[.int .i64 st, .int .i64 it, .slice a2 ins.length c2, .slice a3 outs.length c3, .slice a4 hids.length c4, .slice a5 steps.length c5] 30)))
  have R5 := Lib.hid (r5.below (B0.out (.cells #[.int .i64 st, .int .i64 it, .slice a2 ins.length c2, .slice a3 outs.length c3, .slice a4 hids.length c4, .slice a5 steps.length c5] 30)))
  clear r2 r3 r4 r5 hsum
  go_enter Try.func34, Try.ntmps34
  go_wp2_with fail
  refine (held_any _ _ _ 1 _ R2.out (by omega) (by omega) (by omega)).mono ?_
  rintro e w1 ⟨rfl, rfl⟩
  go_wp2_with fail
  refine (held_any _ _ _ _ _ R3.out (by omega) (by omega) (by omega)).mono ?_
  rintro e w1 ⟨rfl, rfl⟩
  go_wp2_with fail
  refine (held_any _ _ _ _ _ R4.out (by omega) (by omega) (by omega)).mono ?_
  rintro e w1 ⟨rfl, rfl⟩
  go_wp2_with fail
  refine (heldS_any _ _ _ _ _ R5.out (by omega) (by omega) (by omega)).mono ?_
  rintro e w1 ⟨rfl, rfl⟩
  go_wp2_with fail
  go_ret
  exact ⟨ret_int HSUM.out.symm, B0.out _⟩

theorem trimmed_len (a : IaD) (f2 : a.ins.length ≤ 1048576) (f3 : a.outs.length ≤ 1048576) (f4 : a.hids.length ≤ 1048576) (f5 : a.steps.length ≤ 1048576) : (trimmedOf a).ins.length ≤ 1048576 ∧ (trimmedOf a).outs.length ≤ 1048576 ∧ (trimmedOf a).hids.length ≤ 1048576 ∧ (trimmedOf a).steps.length ≤ 1048576 := by
  unfold trimmedOf
  split
  · refine ⟨f2, f3, f4, ?_⟩
    have := List.length_filter_le (fun x : St => decide (0 ≤ x.1) && decide (0 ≤ x.2.2)) (a.steps.map fun x => (placeOf (reachedOf a) x.1, x.2.1, placeOf (reachedOf a) x.2.2))
    rw [List.length_map] at this
    exact Nat.le_trans this f5
  · simp [noIa]

theorem OwnsS.but4 {e : TypeId} {w w' : World} {base n g2 g3 g4 g5 : Nat} {v : Value} {xs : List St} (h : OwnsS e w base v n xs) (hw : But4 w w' g2 g3 g4 g5) (hg : ∀ k, v.ownBlock = some k → k ≠ g2 ∧ k ≠ g3 ∧ k ≠ g4 ∧ k ≠ g5) : OwnsS e w' base v n xs := by
  have hlt := h.lt
  obtain ⟨h1, h2⟩ := h
  refine ⟨h1, ?_⟩
  rcases h2 with h2 | ⟨g, cap, cur, hv, hb, hh, r⟩
  · exact Or.inl h2
  · subst hv
    obtain ⟨q2, q3, q4, q5⟩ := hg g rfl
    exact Or.inr ⟨g, cap, cur, rfl, hb, by rw [hw g (hlt g rfl).2 q2 q3 q4 q5]; exact hh, r⟩

theorem IaOwn.but4 {w w' : World} {base g2 g3 g4 g5 : Nat} {a : IaD} {v : Value} (h : IaOwn w base a v) (hw : But4 w w' g2 g3 g4 g5) (l2 : g2 < base) (l3 : g3 < base) (l4 : g4 < base) (l5 : g5 < base) : IaOwn w' base a v := by
  obtain ⟨x2, x3, x4, x5, e, o2, o3, o4, o5, p⟩ := h
  exact ⟨x2, x3, x4, x5, e, o2.but4 hw (fun k hk => by have := (o2.lt k hk).1; omega), o3.but4 hw (fun k hk => by have := (o3.lt k hk).1; omega), o4.but4 hw (fun k hk => by have := (o4.lt k hk).1; omega), o5.but4 hw (fun k hk => by have := (o5.lt k hk).1; omega), p⟩

theorem IaOwn.away {w : World} {base b : Nat} {a : IaD} {v : Value} (h : IaOwn w base a v) (hb : w.heap.size ≤ b) : ∀ y0 y1 y2 y3 y4 y5 : Value, v = .agg #[y0, y1, y2, y3, y4, y5] → y2.ownBlock ≠ some b ∧ y3.ownBlock ≠ some b ∧ y4.ownBlock ≠ some b ∧ y5.ownBlock ≠ some b := by
  obtain ⟨x2, x3, x4, x5, rfl, o2, o3, o4, o5, p⟩ := h
  intro y0 y1 y2 y3 y4 y5 e
  obtain ⟨rfl, rfl, rfl, rfl, rfl, rfl⟩ : Value.int .i64 a.states = y0 ∧ Value.int .i64 a.init = y1 ∧ x2 = y2 ∧ x3 = y3 ∧ x4 = y4 ∧ x5 = y5 := by simpa using e
  exact ⟨fun h => by have := (o2.lt _ h).2; omega, fun h => by have := (o3.lt _ h).2; omega, fun h => by have := (o4.lt _ h).2; omega, fun h => by have := (o5.lt _ h).2; omega⟩

set_option maxRecDepth 20000 in
set_option maxHeartbeats 6400000 in
theorem walk_FnExactTrimmed (st it : Int) (a2 : Option Addr) (n2 c2 : Nat) (z2 : List Int) (a3 : Option Addr) (n3 c3 : Nat) (z3 : List Int) (a4 : Option Addr) (n4 c4 : Nat) (z4 : List Int) (a5 : Option Addr) (n5 c5 : Nat) (z5 : List St) (w : World) (i2 : IsRow .i64 w a2 n2 c2 z2) (i3 : IsRow .i64 w a3 n3 c3 z3) (i4 : IsRow .i64 w a4 n4 c4 z4) (i5 : IsRowS w a5 n5 c5 z5) :
    Calls Try.prog 10 #[.agg #[.int .i64 st, .int .i64 it, .slice a2 n2 c2, .slice a3 n3 c3, .slice a4 n4 c4, .slice a5 n5 c5]] w fun e w' => e = .returned (.bool true) ∧ Below w.heap.size w w' := by
  obtain ⟨ins, hins⟩ : ∃ l, l = z2.take n2 := ⟨_, rfl⟩
  obtain ⟨outs, houts⟩ : ∃ l, l = z3.take n3 := ⟨_, rfl⟩
  obtain ⟨hids, hhids⟩ : ∃ l, l = z4.take n4 := ⟨_, rfl⟩
  obtain ⟨steps, hsteps⟩ : ∃ l, l = z5.take n5 := ⟨_, rfl⟩
  have r2 := i2.row
  have r3 := i3.row
  have r4 := i4.row
  have r5 := i5.row
  rw [← hins] at r2
  rw [← houts] at r3
  rw [← hhids] at r4
  rw [← hsteps] at r5
  have l2 := i2.len1
  have l3 := i3.len1
  have l4 := i4.len1
  have l5 := i5.len1
  have HA : Hid (IaRow w ⟨st, it, ins, outs, hids, steps⟩ (.agg #[.int .i64 st, .int .i64 it, .slice a2 n2 c2, .slice a3 n3 c3, .slice a4 n4 c4, .slice a5 n5 c5])) := ⟨a2, n2, c2, a3, n3, c3, a4, n4, c4, a5, n5, c5, rfl, r2, r3, r4, r5⟩
  have CZ : Hid (∀ W, Calls Try.prog 11 #[.agg #[.int .i64 st, .int .i64 it, .slice a2 n2 c2, .slice a3 n3 c3, .slice a4 n4 c4, .slice a5 n5 c5], .int .i64 1048576] W fun e w' => e = .returned (.int .i64 (roomOf 1048576 (n2 + n3 + n4 + n5))) ∧ Below W.heap.size W w') := fun W => szIa_any st it a2 n2 c2 a3 n3 c3 a4 n4 c4 a5 n5 c5 1048576 W (by omega) (by omega) l2 l3 l4 l5
  have e2 := r2.1
  have e3 := r3.1
  have e4 := r4.1
  have e5 := r5.1
  clear r2 r3 r4 r5 i2 i3 i4 i5 hins houts hhids hsteps z2 z3 z4 z5 l2 l3 l4 l5
  have B0 : Hid (∀ o, Below w.heap.size w (w.alloc o)) := fun o => (Below.refl _ _).alloc (Nat.le_refl _) _
  have V0 := Lib.hid (VarIs.new w #[.int .i64 st, .int .i64 it, .slice a2 n2 c2, .slice a3 n3 c3, .slice a4 n4 c4, .slice a5 n5 c5] 25 rfl)
  by_cases hbig : n2 + n3 + n4 + n5 ≤ 1048576
  · have hr : roomOf 1048576 (n2 + n3 + n4 + n5) = 1048576 - ((n2 + n3 + n4 + n5 : Nat) : Int) := roomOf_pos (by omega)
    obtain ⟨rm, hrm⟩ : ∃ m : Nat, (m : Int) = 1048576 - ((n2 + n3 + n4 + n5 : Nat) : Int) := ⟨1048576 - (n2 + n3 + n4 + n5), by omega⟩
    rw [hr, ← hrm] at CZ
    have f2 : ins.length ≤ 1048576 := by omega
    have f3 : outs.length ≤ 1048576 := by omega
    have f4 : hids.length ≤ 1048576 := by omega
    have f5 : steps.length ≤ 1048576 := by omega
    have CT : Hid (∀ W, Below w.heap.size w W → Calls Try.prog 13 #[.agg #[.int .i64 st, .int .i64 it, .slice a2 n2 c2, .slice a3 n3 c3, .slice a4 n4 c4, .slice a5 n5 c5]] W fun e w' => ∃ v', e = .returned v' ∧ IaAt w' W.heap.size ⟨st, it, ins, outs, hids, steps⟩ v' ∧ Below W.heap.size W w') := fun W hW => toIa_any ⟨st, it, ins, outs, hids, steps⟩ _ W (HA.out.below hW) (IaFits.small f2 f3 f4 f5)
    obtain ⟨⟨tst, tit, tins, touts, thids, tsteps⟩, hT⟩ : ∃ t, t = trimmedOf ⟨st, it, ins, outs, hids, steps⟩ := ⟨_, rfl⟩
    obtain ⟨q2, q3, q4, q5⟩ := trimmed_len ⟨st, it, ins, outs, hids, steps⟩ f2 f3 f4 f5
    rw [← hT] at q2 q3 q4 q5
    simp only at q2 q3 q4 q5
    have FT : Hid (IaFits ⟨tst, tit, tins, touts, thids, tsteps⟩) := IaFits.small q2 q3 q4 q5
    have CP : Hid (∀ W base v, IaAt W base ⟨st, it, ins, outs, hids, steps⟩ v → Calls Try.prog 32 #[v] W fun e w' => ∃ y2 m2 d2 y3 m3 d3 y4 m4 d4 y5 m5 d5, e = .returned (.agg #[.int .i64 tst, .int .i64 tit, .slice y2 m2 d2, .slice y3 m3 d3, .slice y4 m4 d4, .slice y5 m5 d5]) ∧ IaRow w' ⟨tst, tit, tins, touts, thids, tsteps⟩ (.agg #[.int .i64 tst, .int .i64 tit, .slice y2 m2 d2, .slice y3 m3 d3, .slice y4 m4 d4, .slice y5 m5 d5]) ∧ Below W.heap.size W w') := fun W base v hv => by
      obtain ⟨g2, g3, g4, g5, rfl, _, _, _, _, o2, o3, o4, o5⟩ := hv
      rw [hT]
      refine Calls.mono (specTrimmed_any st it g2 0 _ _ g3 0 _ _ g4 0 _ _ _ _ _ ins outs hids steps W o2.row.2.2.2 o3.row.2.2.2 o4.row.2.2.2 o5.row.2.2.2 f2 f3 f4 f5) fun e w' h => ?_
      obtain ⟨u, he, ho, hb⟩ := h
      rw [← hT] at ho ⊢
      obtain ⟨y2, m2, d2, y3, m3, d3, y4, m4, d4, y5, m5, d5, rfl, hz⟩ := ho.row
      exact ⟨y2, m2, d2, y3, m3, d3, y4, m4, d4, y5, m5, d5, he, ⟨_, _, _, _, _, _, _, _, _, _, _, _, rfl, hz⟩, hb⟩
    have CI : Hid (∀ W base v, IaAt W base ⟨st, it, ins, outs, hids, steps⟩ v → Calls Try.prog 33 #[v] W fun e w' => ∃ p2 k2 p3 k3 p4 k4 p5 k5, e = .returned (.agg #[.int .i64 tst, .int .i64 tit, .slice p2 tins.length k2, .slice p3 touts.length k3, .slice p4 thids.length k4, .slice p5 tsteps.length k5]) ∧ IaOwn w' W.heap.size ⟨tst, tit, tins, touts, thids, tsteps⟩ (.agg #[.int .i64 tst, .int .i64 tit, .slice p2 tins.length k2, .slice p3 touts.length k3, .slice p4 thids.length k4, .slice p5 tsteps.length k5]) ∧ Below W.heap.size W w') := fun W base v hv => by
      refine Calls.mono (implTrimmed_any ⟨st, it, ins, outs, hids, steps⟩ v W hv.rowC f2 f3 f4 f5) fun e w' h => ?_
      obtain ⟨u, he, ho, hb⟩ := h
      rw [← hT] at ho
      obtain ⟨x2, x3, x4, x5, rfl, o2, o3, o4, o5, hp⟩ := ho
      obtain ⟨p2, k2, rfl⟩ := o2.form
      obtain ⟨p3, k3, rfl⟩ := o3.form
      obtain ⟨p4, k4, rfl⟩ := o4.form
      obtain ⟨p5, k5, rfl⟩ := o5.form
      exact ⟨p2, k2, p3, k3, p4, k4, p5, k5, he, ⟨_, _, _, _, rfl, o2, o3, o4, o5, hp⟩, hb⟩
    obtain ⟨M, hM⟩ : ∃ m, m = markSum ⟨tst, tit, tins, touts, thids, tsteps⟩ := ⟨_, rfl⟩
    have hM0 : 0 ≤ M := by
      rw [hM]
      unfold markSum
      omega
    have HM := Lib.hid hM
    clear hr hrm hbig e2 e3 e4 e5 hT hM
    go_enter Try.func10, Try.ntmps10
    go_wp2_with fail
    refine (CZ.out _).mono ?_
    rintro e w1 ⟨rfl, hb⟩
    have B1 : Hid (Below w.heap.size w w1) := (B0.out _).trans (hb.mono (B0.out _).size)
    have V1 := Lib.hid (V0.out.below hb)
    clear hb CZ B0 V0
    have m0 := V1.out.cell (j := 0) rfl
    have m1 := V1.out.cell (j := 1) rfl
    have m2 := V1.out.cell (j := 2) rfl
    have m3 := V1.out.cell (j := 3) rfl
    have m4 := V1.out.cell (j := 4) rfl
    have m5 := V1.out.cell (j := 5) rfl
    go_wp2_with fail
    clear m0 m1 m2 m3 m4 m5
    refine (CT.out _ B1.out).mono ?_
    rintro e w2 ⟨vs, rfl, hat, hb⟩
    have B2 : Hid (Below w.heap.size w w2) := B1.out.trans (hb.mono B1.out.size)
    have V2 := Lib.hid (V1.out.below hb)
    have RS := Lib.hid hat
    clear hb hat B1 V1
    go_wp2_with fail
    refine (CP.out _ _ _ RS.out).mono ?_
    rintro e w3 ⟨y2, m2, d2, y3, m3, d3, y4, m4, d4, y5, m5, d5, rfl, hoW, hb⟩
    have B3 : Hid (Below w.heap.size w w3) := B2.out.trans (hb.mono B2.out.size)
    have V3 := Lib.hid (V2.out.below hb)
    have bw := (Below.refl w3.heap.size w3).alloc (Nat.le_refl _) (.cells #[.int .i64 tst, .int .i64 tit, .slice y2 m2 d2, .slice y3 m3 d3, .slice y4 m4 d4, .slice y5 m5 d5] 30)
    have RW := Lib.hid (hoW.below bw)
    have VW : Hid (VarIs (w3.alloc (.cells #[.int .i64 tst, .int .i64 tit, .slice y2 m2 d2, .slice y3 m3 d3, .slice y4 m4 d4, .slice y5 m5 d5] 30)) w3.heap.size #[.int .i64 tst, .int .i64 tit, .slice y2 m2 d2, .slice y3 m3 d3, .slice y4 m4 d4, .slice y5 m5 d5] 30) := VarIs.new w3 _ _ rfl
    have V3b := Lib.hid (V3.out.alloc (.cells #[.int .i64 tst, .int .i64 tit, .slice y2 m2 d2, .slice y3 m3 d3, .slice y4 m4 d4, .slice y5 m5 d5] 30))
    have B3b := Lib.hid (B3.out.alloc B3.out.size (.cells #[.int .i64 tst, .int .i64 tit, .slice y2 m2 d2, .slice y3 m3 d3, .slice y4 m4 d4, .slice y5 m5 d5] 30))
    have BW3 : Hid (Below (w3.heap.size + 1) (w3.alloc (.cells #[.int .i64 tst, .int .i64 tit, .slice y2 m2 d2, .slice y3 m3 d3, .slice y4 m4 d4, .slice y5 m5 d5] 30)) (w3.alloc (.cells #[.int .i64 tst, .int .i64 tit, .slice y2 m2 d2, .slice y3 m3 d3, .slice y4 m4 d4, .slice y5 m5 d5] 30))) := Below.refl _ _
    have h23 := hb.size
    have hw3 := V3.out.lt
    clear hb hoW B2 V2 RS CP B3 V3 bw
    simp only
    have m0 := V3b.out.cell (j := 0) rfl
    have m1 := V3b.out.cell (j := 1) rfl
    have m2 := V3b.out.cell (j := 2) rfl
    have m3 := V3b.out.cell (j := 3) rfl
    have m4 := V3b.out.cell (j := 4) rfl
    have m5 := V3b.out.cell (j := 5) rfl
    go_wp2_with fail
    clear m0 m1 m2 m3 m4 m5
    refine (CT.out _ B3b.out).mono ?_
    rintro e w4 ⟨vx, rfl, hat, hb⟩
    have B4 : Hid (Below w.heap.size w w4) := B3b.out.trans (hb.mono B3b.out.size)
    have V4 := Lib.hid (V3b.out.below hb)
    have BW4 : Hid (Below (w3.heap.size + 1) (w3.alloc (.cells #[.int .i64 tst, .int .i64 tit, .slice y2 m2 d2, .slice y3 m3 d3, .slice y4 m4 d4, .slice y5 m5 d5] 30)) w4) := hb.mono (by simp)
    have h34 : w3.heap.size + 1 ≤ w4.heap.size := by
      have := hb.size
      simpa using this
    obtain ⟨g2, g3, g4, g5, rfl, gb, lt3, lt4, lt5, o2, o3, o4, o5⟩ := hat
    have gb' : w3.heap.size + 1 ≤ g2 := by simpa using gb
    have hg5 := (o5.lt g5 rfl).2
    have XA : Hid (IaAt w4 (w3.heap.size + 1) ⟨st, it, ins, outs, hids, steps⟩ (.agg #[.int .i64 st, .int .i64 it, .slice (some ⟨g2, 0, none⟩) ins.length ins.length, .slice (some ⟨g3, 0, none⟩) outs.length outs.length, .slice (some ⟨g4, 0, none⟩) hids.length hids.length, .slice (some ⟨g5, 0, none⟩) steps.length steps.length])) := ⟨g2, g3, g4, g5, rfl, gb', lt3, lt4, lt5, o2.mono (by simp), o3.mono (by simp), o4.mono (by simp), o5.mono (by simp)⟩
    clear hb o2 o3 o4 o5 gb B3b V3b BW3
    simp only
    have bx := (Below.refl w4.heap.size w4).alloc (Nat.le_refl _) (.cells #[.int .i64 st, .int .i64 it, .slice (some ⟨g2, 0, none⟩) ins.length ins.length, .slice (some ⟨g3, 0, none⟩) outs.length outs.length, .slice (some ⟨g4, 0, none⟩) hids.length hids.length, .slice (some ⟨g5, 0, none⟩) steps.length steps.length] 30)
    have XA5 := Lib.hid (XA.out.below bx)
    have BW5 : Hid (Below (w3.heap.size + 1) (w3.alloc (.cells #[.int .i64 tst, .int .i64 tit, .slice y2 m2 d2, .slice y3 m3 d3, .slice y4 m4 d4, .slice y5 m5 d5] 30)) (w4.alloc (.cells #[.int .i64 st, .int .i64 it, .slice (some ⟨g2, 0, none⟩) ins.length ins.length, .slice (some ⟨g3, 0, none⟩) outs.length outs.length, .slice (some ⟨g4, 0, none⟩) hids.length hids.length, .slice (some ⟨g5, 0, none⟩) steps.length steps.length] 30))) := BW4.out.trans (bx.mono h34)
    have V5 := Lib.hid (V4.out.alloc (.cells #[.int .i64 st, .int .i64 it, .slice (some ⟨g2, 0, none⟩) ins.length ins.length, .slice (some ⟨g3, 0, none⟩) outs.length outs.length, .slice (some ⟨g4, 0, none⟩) hids.length hids.length, .slice (some ⟨g5, 0, none⟩) steps.length steps.length] 30))
    have X5 := Lib.hid (VarIs.new w4 #[.int .i64 st, .int .i64 it, .slice (some ⟨g2, 0, none⟩) ins.length ins.length, .slice (some ⟨g3, 0, none⟩) outs.length outs.length, .slice (some ⟨g4, 0, none⟩) hids.length hids.length, .slice (some ⟨g5, 0, none⟩) steps.length steps.length] 30 rfl)
    have B5 := Lib.hid (B4.out.alloc B4.out.size (.cells #[.int .i64 st, .int .i64 it, .slice (some ⟨g2, 0, none⟩) ins.length ins.length, .slice (some ⟨g3, 0, none⟩) outs.length outs.length, .slice (some ⟨g4, 0, none⟩) hids.length hids.length, .slice (some ⟨g5, 0, none⟩) steps.length steps.length] 30))
    clear bx
    go_wp2_with fail
    refine (CI.out _ _ _ XA5.out).mono ?_
    rintro e w6 ⟨p2, k2, p3, k3, p4, k4, p5, k5, rfl, hoG, hb⟩
    have hs6 : w4.heap.size + 1 ≤ w6.heap.size := by
      have := hb.size
      simpa using this
    have hoG' : IaOwn w6 (w4.heap.size + 1) ⟨tst, tit, tins, touts, thids, tsteps⟩ (.agg #[.int .i64 tst, .int .i64 tit, .slice p2 tins.length k2, .slice p3 touts.length k3, .slice p4 thids.length k4, .slice p5 tsteps.length k5]) := by simpa using hoG
    have bg := (Below.refl w6.heap.size w6).alloc (Nat.le_refl _) (.cells #[.int .i64 tst, .int .i64 tit, .slice p2 tins.length k2, .slice p3 touts.length k3, .slice p4 thids.length k4, .slice p5 tsteps.length k5] 30)
    have HAW := Lib.hid (hoG'.away (Nat.le_refl _))
    have OG6 := Lib.hid (hoG'.below bg)
    have XA6 := Lib.hid ((XA5.out.below hb).below bg)
    have V6 := Lib.hid ((V5.out.below hb).below bg)
    have X6 := Lib.hid ((X5.out.below hb).below bg)
    have G6 : Hid (VarIs (w6.alloc (.cells #[.int .i64 tst, .int .i64 tit, .slice p2 tins.length k2, .slice p3 touts.length k3, .slice p4 thids.length k4, .slice p5 tsteps.length k5] 30)) w6.heap.size #[.int .i64 tst, .int .i64 tit, .slice p2 tins.length k2, .slice p3 touts.length k3, .slice p4 thids.length k4, .slice p5 tsteps.length k5] 30) := VarIs.new w6 _ _ rfl
    have BW6 : Hid (Below (w3.heap.size + 1) (w3.alloc (.cells #[.int .i64 tst, .int .i64 tit, .slice y2 m2 d2, .slice y3 m3 d3, .slice y4 m4 d4, .slice y5 m5 d5] 30)) (w6.alloc (.cells #[.int .i64 tst, .int .i64 tit, .slice p2 tins.length k2, .slice p3 touts.length k3, .slice p4 thids.length k4, .slice p5 tsteps.length k5] 30))) := (BW5.out.trans (hb.mono (by simp; omega))).trans (bg.mono (by omega))
    have B6 : Hid (Below w.heap.size w (w6.alloc (.cells #[.int .i64 tst, .int .i64 tit, .slice p2 tins.length k2, .slice p3 touts.length k3, .slice p4 thids.length k4, .slice p5 tsteps.length k5] 30))) := (B5.out.trans (hb.mono B5.out.size)).trans (bg.mono (by omega))
    have U6 := Lib.hid (VW.out.below (BW6.out.mono (by simp)))
    clear hb hoG hoG' XA5 V5 X5 B5 B4 V4 XA BW4 BW5 bg
    simp only
    have m0 := G6.out.cell (j := 0) rfl
    have m1 := G6.out.cell (j := 1) rfl
    have m2 := G6.out.cell (j := 2) rfl
    have m3 := G6.out.cell (j := 3) rfl
    have m4 := G6.out.cell (j := 4) rfl
    have m5 := G6.out.cell (j := 5) rfl
    have u0 := U6.out.cell (j := 0) rfl
    have u1 := U6.out.cell (j := 1) rfl
    have u2 := U6.out.cell (j := 2) rfl
    have u3 := U6.out.cell (j := 3) rfl
    have u4 := U6.out.cell (j := 4) rfl
    have u5 := U6.out.cell (j := 5) rfl
    go_wp2_with fail
    clear m0 m1 m2 m3 m4 m5 u0 u1 u2 u3 u4 u5
    refine (eqIa_any ⟨tst, tit, tins, touts, thids, tsteps⟩ ⟨tst, tit, tins, touts, thids, tsteps⟩ _ _ _ OG6.out.row (RW.out.below (BW6.out.mono (by simp))) FT.out FT.out).mono ?_
    rintro e w7 ⟨rfl, hb⟩
    rw [sameB_refl]
    have V7 := (V6.out.below hb).drew
    have X7 := (X6.out.below hb).drew
    have S0 : Boxes w w7.drew w.heap.size w4.heap.size #[.int .i64 st, .int .i64 it, .slice a2 n2 c2, .slice a3 n3 c3, .slice a4 n4 c4, .slice a5 n5 c5] #[.int .i64 st, .int .i64 it, .slice (some ⟨g2, 0, none⟩) ins.length ins.length, .slice (some ⟨g3, 0, none⟩) outs.length outs.length, .slice (some ⟨g4, 0, none⟩) hids.length hids.length, .slice (some ⟨g5, 0, none⟩) steps.length steps.length] ∧ IaAt w7.drew (w3.heap.size + 1) ⟨st, it, ins, outs, hids, steps⟩ (.agg #[.int .i64 st, .int .i64 it, .slice (some ⟨g2, 0, none⟩) ins.length ins.length, .slice (some ⟨g3, 0, none⟩) outs.length outs.length, .slice (some ⟨g4, 0, none⟩) hids.length hids.length, .slice (some ⟨g5, 0, none⟩) steps.length steps.length]) ∧ Below (w3.heap.size + 1) (w3.alloc (.cells #[.int .i64 tst, .int .i64 tit, .slice y2 m2 d2, .slice y3 m3 d3, .slice y4 m4 d4, .slice y5 m5 d5] 30)) w7.drew ∧ IaOwn w7.drew (w4.heap.size + 1) ⟨tst, tit, tins, touts, thids, tsteps⟩ (.agg #[.int .i64 tst, .int .i64 tit, .slice p2 tins.length k2, .slice p3 touts.length k3, .slice p4 thids.length k4, .slice p5 tsteps.length k5]) ∧ VarIs w7.drew w6.heap.size #[.int .i64 tst, .int .i64 tit, .slice p2 tins.length k2, .slice p3 touts.length k3, .slice p4 thids.length k4, .slice p5 tsteps.length k5] 30 ∧ w7.drew.cell? ⟨w.heap.size, 0, none⟩ = some (.int .i64 st) ∧ w7.drew.cell? ⟨w.heap.size, 1, none⟩ = some (.int .i64 it) ∧ w7.drew.cell? ⟨w.heap.size, 2, none⟩ = some (.slice a2 n2 c2) ∧ w7.drew.cell? ⟨w.heap.size, 3, none⟩ = some (.slice a3 n3 c3) ∧ w7.drew.cell? ⟨w.heap.size, 4, none⟩ = some (.slice a4 n4 c4) ∧ w7.drew.cell? ⟨w.heap.size, 5, none⟩ = some (.slice a5 n5 c5) ∧ w7.drew.cell? ⟨w4.heap.size, 0, none⟩ = some (.int .i64 st) ∧ w7.drew.cell? ⟨w4.heap.size, 1, none⟩ = some (.int .i64 it) ∧ w7.drew.cell? ⟨w4.heap.size, 2, none⟩ = some (.slice (some ⟨g2, 0, none⟩) ins.length ins.length) ∧ w7.drew.cell? ⟨w4.heap.size, 3, none⟩ = some (.slice (some ⟨g3, 0, none⟩) outs.length outs.length) ∧ w7.drew.cell? ⟨w4.heap.size, 4, none⟩ = some (.slice (some ⟨g4, 0, none⟩) hids.length hids.length) ∧ w7.drew.cell? ⟨w4.heap.size, 5, none⟩ = some (.slice (some ⟨g5, 0, none⟩) steps.length steps.length) := ⟨⟨(B6.out.trans (hb.mono B6.out.size)).drew, V7, X7⟩, (XA6.out.below hb).drew, (BW6.out.trans (hb.mono (by simp; omega))).drew, OG6.out.below hb.drew, (G6.out.below hb).drew, V7.cell rfl, V7.cell rfl, V7.cell rfl, V7.cell rfl, V7.cell rfl, V7.cell rfl, X7.cell rfl, X7.cell rfl, X7.cell rfl, X7.cell rfl, X7.cell rfl, X7.cell rfl⟩
    clear hb V7 X7 OG6 XA6 V6 X6 B6 G6 BW6 U6
    have CS : Hid (∀ W, Boxes w W w.heap.size w4.heap.size #[.int .i64 st, .int .i64 it, .slice a2 n2 c2, .slice a3 n3 c3, .slice a4 n4 c4, .slice a5 n5 c5] #[.int .i64 st, .int .i64 it, .slice (some ⟨g2, 0, none⟩) ins.length ins.length, .slice (some ⟨g3, 0, none⟩) outs.length outs.length, .slice (some ⟨g4, 0, none⟩) hids.length hids.length, .slice (some ⟨g5, 0, none⟩) steps.length steps.length] ∧ IaAt W (w3.heap.size + 1) ⟨st, it, ins, outs, hids, steps⟩ (.agg #[.int .i64 st, .int .i64 it, .slice (some ⟨g2, 0, none⟩) ins.length ins.length, .slice (some ⟨g3, 0, none⟩) outs.length outs.length, .slice (some ⟨g4, 0, none⟩) hids.length hids.length, .slice (some ⟨g5, 0, none⟩) steps.length steps.length]) ∧ Below (w3.heap.size + 1) (w3.alloc (.cells #[.int .i64 tst, .int .i64 tit, .slice y2 m2 d2, .slice y3 m3 d3, .slice y4 m4 d4, .slice y5 m5 d5] 30)) W ∧ IaOwn W (w4.heap.size + 1) ⟨tst, tit, tins, touts, thids, tsteps⟩ (.agg #[.int .i64 tst, .int .i64 tit, .slice p2 tins.length k2, .slice p3 touts.length k3, .slice p4 thids.length k4, .slice p5 tsteps.length k5]) ∧ VarIs W w6.heap.size #[.int .i64 tst, .int .i64 tit, .slice p2 tins.length k2, .slice p3 touts.length k3, .slice p4 thids.length k4, .slice p5 tsteps.length k5] 30 ∧ W.cell? ⟨w.heap.size, 0, none⟩ = some (.int .i64 st) ∧ W.cell? ⟨w.heap.size, 1, none⟩ = some (.int .i64 it) ∧ W.cell? ⟨w.heap.size, 2, none⟩ = some (.slice a2 n2 c2) ∧ W.cell? ⟨w.heap.size, 3, none⟩ = some (.slice a3 n3 c3) ∧ W.cell? ⟨w.heap.size, 4, none⟩ = some (.slice a4 n4 c4) ∧ W.cell? ⟨w.heap.size, 5, none⟩ = some (.slice a5 n5 c5) ∧ W.cell? ⟨w4.heap.size, 0, none⟩ = some (.int .i64 st) ∧ W.cell? ⟨w4.heap.size, 1, none⟩ = some (.int .i64 it) ∧ W.cell? ⟨w4.heap.size, 2, none⟩ = some (.slice (some ⟨g2, 0, none⟩) ins.length ins.length) ∧ W.cell? ⟨w4.heap.size, 3, none⟩ = some (.slice (some ⟨g3, 0, none⟩) outs.length outs.length) ∧ W.cell? ⟨w4.heap.size, 4, none⟩ = some (.slice (some ⟨g4, 0, none⟩) hids.length hids.length) ∧ W.cell? ⟨w4.heap.size, 5, none⟩ = some (.slice (some ⟨g5, 0, none⟩) steps.length steps.length) → Calls Try.prog 13 #[.agg #[.int .i64 st, .int .i64 it, .slice a2 n2 c2, .slice a3 n3 c3, .slice a4 n4 c4, .slice a5 n5 c5]] W fun e w' => ∃ v', e = .returned v' ∧ IaRow w' ⟨st, it, ins, outs, hids, steps⟩ v' ∧ (Boxes w w' w.heap.size w4.heap.size #[.int .i64 st, .int .i64 it, .slice a2 n2 c2, .slice a3 n3 c3, .slice a4 n4 c4, .slice a5 n5 c5] #[.int .i64 st, .int .i64 it, .slice (some ⟨g2, 0, none⟩) ins.length ins.length, .slice (some ⟨g3, 0, none⟩) outs.length outs.length, .slice (some ⟨g4, 0, none⟩) hids.length hids.length, .slice (some ⟨g5, 0, none⟩) steps.length steps.length] ∧ IaAt w' (w3.heap.size + 1) ⟨st, it, ins, outs, hids, steps⟩ (.agg #[.int .i64 st, .int .i64 it, .slice (some ⟨g2, 0, none⟩) ins.length ins.length, .slice (some ⟨g3, 0, none⟩) outs.length outs.length, .slice (some ⟨g4, 0, none⟩) hids.length hids.length, .slice (some ⟨g5, 0, none⟩) steps.length steps.length]) ∧ Below (w3.heap.size + 1) (w3.alloc (.cells #[.int .i64 tst, .int .i64 tit, .slice y2 m2 d2, .slice y3 m3 d3, .slice y4 m4 d4, .slice y5 m5 d5] 30)) w' ∧ IaOwn w' (w4.heap.size + 1) ⟨tst, tit, tins, touts, thids, tsteps⟩ (.agg #[.int .i64 tst, .int .i64 tit, .slice p2 tins.length k2, .slice p3 touts.length k3, .slice p4 thids.length k4, .slice p5 tsteps.length k5]) ∧ VarIs w' w6.heap.size #[.int .i64 tst, .int .i64 tit, .slice p2 tins.length k2, .slice p3 touts.length k3, .slice p4 thids.length k4, .slice p5 tsteps.length k5] 30 ∧ w'.cell? ⟨w.heap.size, 0, none⟩ = some (.int .i64 st) ∧ w'.cell? ⟨w.heap.size, 1, none⟩ = some (.int .i64 it) ∧ w'.cell? ⟨w.heap.size, 2, none⟩ = some (.slice a2 n2 c2) ∧ w'.cell? ⟨w.heap.size, 3, none⟩ = some (.slice a3 n3 c3) ∧ w'.cell? ⟨w.heap.size, 4, none⟩ = some (.slice a4 n4 c4) ∧ w'.cell? ⟨w.heap.size, 5, none⟩ = some (.slice a5 n5 c5) ∧ w'.cell? ⟨w4.heap.size, 0, none⟩ = some (.int .i64 st) ∧ w'.cell? ⟨w4.heap.size, 1, none⟩ = some (.int .i64 it) ∧ w'.cell? ⟨w4.heap.size, 2, none⟩ = some (.slice (some ⟨g2, 0, none⟩) ins.length ins.length) ∧ w'.cell? ⟨w4.heap.size, 3, none⟩ = some (.slice (some ⟨g3, 0, none⟩) outs.length outs.length) ∧ w'.cell? ⟨w4.heap.size, 4, none⟩ = some (.slice (some ⟨g4, 0, none⟩) hids.length hids.length) ∧ w'.cell? ⟨w4.heap.size, 5, none⟩ = some (.slice (some ⟨g5, 0, none⟩) steps.length steps.length))) := fun W hW => (CT.out W hW.1.1).mono fun e w' ⟨v', he, hat, hb⟩ => ⟨v', he, hat.row, ⟨hW.1.below hb, hW.2.1.below hb, hW.2.2.1.trans (hb.mono (by have := hW.2.2.1.size; simp at this; omega)), hW.2.2.2.1.below hb, hW.2.2.2.2.1.below hb, (hW.1.below hb).2.1.cell rfl, (hW.1.below hb).2.1.cell rfl, (hW.1.below hb).2.1.cell rfl, (hW.1.below hb).2.1.cell rfl, (hW.1.below hb).2.1.cell rfl, (hW.1.below hb).2.1.cell rfl, (hW.1.below hb).2.2.cell rfl, (hW.1.below hb).2.2.cell rfl, (hW.1.below hb).2.2.cell rfl, (hW.1.below hb).2.2.cell rfl, (hW.1.below hb).2.2.cell rfl, (hW.1.below hb).2.2.cell rfl⟩⟩
    have CE : Hid (∀ W v', Boxes w W w.heap.size w4.heap.size #[.int .i64 st, .int .i64 it, .slice a2 n2 c2, .slice a3 n3 c3, .slice a4 n4 c4, .slice a5 n5 c5] #[.int .i64 st, .int .i64 it, .slice (some ⟨g2, 0, none⟩) ins.length ins.length, .slice (some ⟨g3, 0, none⟩) outs.length outs.length, .slice (some ⟨g4, 0, none⟩) hids.length hids.length, .slice (some ⟨g5, 0, none⟩) steps.length steps.length] ∧ IaAt W (w3.heap.size + 1) ⟨st, it, ins, outs, hids, steps⟩ (.agg #[.int .i64 st, .int .i64 it, .slice (some ⟨g2, 0, none⟩) ins.length ins.length, .slice (some ⟨g3, 0, none⟩) outs.length outs.length, .slice (some ⟨g4, 0, none⟩) hids.length hids.length, .slice (some ⟨g5, 0, none⟩) steps.length steps.length]) ∧ Below (w3.heap.size + 1) (w3.alloc (.cells #[.int .i64 tst, .int .i64 tit, .slice y2 m2 d2, .slice y3 m3 d3, .slice y4 m4 d4, .slice y5 m5 d5] 30)) W ∧ IaOwn W (w4.heap.size + 1) ⟨tst, tit, tins, touts, thids, tsteps⟩ (.agg #[.int .i64 tst, .int .i64 tit, .slice p2 tins.length k2, .slice p3 touts.length k3, .slice p4 thids.length k4, .slice p5 tsteps.length k5]) ∧ VarIs W w6.heap.size #[.int .i64 tst, .int .i64 tit, .slice p2 tins.length k2, .slice p3 touts.length k3, .slice p4 thids.length k4, .slice p5 tsteps.length k5] 30 ∧ W.cell? ⟨w.heap.size, 0, none⟩ = some (.int .i64 st) ∧ W.cell? ⟨w.heap.size, 1, none⟩ = some (.int .i64 it) ∧ W.cell? ⟨w.heap.size, 2, none⟩ = some (.slice a2 n2 c2) ∧ W.cell? ⟨w.heap.size, 3, none⟩ = some (.slice a3 n3 c3) ∧ W.cell? ⟨w.heap.size, 4, none⟩ = some (.slice a4 n4 c4) ∧ W.cell? ⟨w.heap.size, 5, none⟩ = some (.slice a5 n5 c5) ∧ W.cell? ⟨w4.heap.size, 0, none⟩ = some (.int .i64 st) ∧ W.cell? ⟨w4.heap.size, 1, none⟩ = some (.int .i64 it) ∧ W.cell? ⟨w4.heap.size, 2, none⟩ = some (.slice (some ⟨g2, 0, none⟩) ins.length ins.length) ∧ W.cell? ⟨w4.heap.size, 3, none⟩ = some (.slice (some ⟨g3, 0, none⟩) outs.length outs.length) ∧ W.cell? ⟨w4.heap.size, 4, none⟩ = some (.slice (some ⟨g4, 0, none⟩) hids.length hids.length) ∧ W.cell? ⟨w4.heap.size, 5, none⟩ = some (.slice (some ⟨g5, 0, none⟩) steps.length steps.length) → IaRow W ⟨st, it, ins, outs, hids, steps⟩ v' → Calls Try.prog 15 #[.agg #[.int .i64 st, .int .i64 it, .slice (some ⟨g2, 0, none⟩) ins.length ins.length, .slice (some ⟨g3, 0, none⟩) outs.length outs.length, .slice (some ⟨g4, 0, none⟩) hids.length hids.length, .slice (some ⟨g5, 0, none⟩) steps.length steps.length], v'] W fun e w' => e = .returned (.bool true) ∧ (Boxes w w' w.heap.size w4.heap.size #[.int .i64 st, .int .i64 it, .slice a2 n2 c2, .slice a3 n3 c3, .slice a4 n4 c4, .slice a5 n5 c5] #[.int .i64 st, .int .i64 it, .slice (some ⟨g2, 0, none⟩) ins.length ins.length, .slice (some ⟨g3, 0, none⟩) outs.length outs.length, .slice (some ⟨g4, 0, none⟩) hids.length hids.length, .slice (some ⟨g5, 0, none⟩) steps.length steps.length] ∧ IaAt w' (w3.heap.size + 1) ⟨st, it, ins, outs, hids, steps⟩ (.agg #[.int .i64 st, .int .i64 it, .slice (some ⟨g2, 0, none⟩) ins.length ins.length, .slice (some ⟨g3, 0, none⟩) outs.length outs.length, .slice (some ⟨g4, 0, none⟩) hids.length hids.length, .slice (some ⟨g5, 0, none⟩) steps.length steps.length]) ∧ Below (w3.heap.size + 1) (w3.alloc (.cells #[.int .i64 tst, .int .i64 tit, .slice y2 m2 d2, .slice y3 m3 d3, .slice y4 m4 d4, .slice y5 m5 d5] 30)) w' ∧ IaOwn w' (w4.heap.size + 1) ⟨tst, tit, tins, touts, thids, tsteps⟩ (.agg #[.int .i64 tst, .int .i64 tit, .slice p2 tins.length k2, .slice p3 touts.length k3, .slice p4 thids.length k4, .slice p5 tsteps.length k5]) ∧ VarIs w' w6.heap.size #[.int .i64 tst, .int .i64 tit, .slice p2 tins.length k2, .slice p3 touts.length k3, .slice p4 thids.length k4, .slice p5 tsteps.length k5] 30 ∧ w'.cell? ⟨w.heap.size, 0, none⟩ = some (.int .i64 st) ∧ w'.cell? ⟨w.heap.size, 1, none⟩ = some (.int .i64 it) ∧ w'.cell? ⟨w.heap.size, 2, none⟩ = some (.slice a2 n2 c2) ∧ w'.cell? ⟨w.heap.size, 3, none⟩ = some (.slice a3 n3 c3) ∧ w'.cell? ⟨w.heap.size, 4, none⟩ = some (.slice a4 n4 c4) ∧ w'.cell? ⟨w.heap.size, 5, none⟩ = some (.slice a5 n5 c5) ∧ w'.cell? ⟨w4.heap.size, 0, none⟩ = some (.int .i64 st) ∧ w'.cell? ⟨w4.heap.size, 1, none⟩ = some (.int .i64 it) ∧ w'.cell? ⟨w4.heap.size, 2, none⟩ = some (.slice (some ⟨g2, 0, none⟩) ins.length ins.length) ∧ w'.cell? ⟨w4.heap.size, 3, none⟩ = some (.slice (some ⟨g3, 0, none⟩) outs.length outs.length) ∧ w'.cell? ⟨w4.heap.size, 4, none⟩ = some (.slice (some ⟨g4, 0, none⟩) hids.length hids.length) ∧ w'.cell? ⟨w4.heap.size, 5, none⟩ = some (.slice (some ⟨g5, 0, none⟩) steps.length steps.length))) := fun W v' hW hv => (eqIa_any ⟨st, it, ins, outs, hids, steps⟩ ⟨st, it, ins, outs, hids, steps⟩ _ _ W hW.2.1.row hv (IaFits.small f2 f3 f4 f5) (IaFits.small f2 f3 f4 f5)).mono fun e w' ⟨he, hb⟩ => ⟨by rw [he, sameB_refl], ⟨hW.1.below hb, hW.2.1.below hb, hW.2.2.1.trans (hb.mono (by have := hW.2.2.1.size; simp at this; omega)), hW.2.2.2.1.below hb, hW.2.2.2.2.1.below hb, (hW.1.below hb).2.1.cell rfl, (hW.1.below hb).2.1.cell rfl, (hW.1.below hb).2.1.cell rfl, (hW.1.below hb).2.1.cell rfl, (hW.1.below hb).2.1.cell rfl, (hW.1.below hb).2.1.cell rfl, (hW.1.below hb).2.2.cell rfl, (hW.1.below hb).2.2.cell rfl, (hW.1.below hb).2.2.cell rfl, (hW.1.below hb).2.2.cell rfl, (hW.1.below hb).2.2.cell rfl, (hW.1.below hb).2.2.cell rfl⟩⟩
    go_wp2_with fail
    go_region_held3 (fun w' => Boxes w w' w.heap.size w4.heap.size #[.int .i64 st, .int .i64 it, .slice a2 n2 c2, .slice a3 n3 c3, .slice a4 n4 c4, .slice a5 n5 c5] #[.int .i64 st, .int .i64 it, .slice (some ⟨g2, 0, none⟩) ins.length ins.length, .slice (some ⟨g3, 0, none⟩) outs.length outs.length, .slice (some ⟨g4, 0, none⟩) hids.length hids.length, .slice (some ⟨g5, 0, none⟩) steps.length steps.length] ∧ IaAt w' (w3.heap.size + 1) ⟨st, it, ins, outs, hids, steps⟩ (.agg #[.int .i64 st, .int .i64 it, .slice (some ⟨g2, 0, none⟩) ins.length ins.length, .slice (some ⟨g3, 0, none⟩) outs.length outs.length, .slice (some ⟨g4, 0, none⟩) hids.length hids.length, .slice (some ⟨g5, 0, none⟩) steps.length steps.length]) ∧ Below (w3.heap.size + 1) (w3.alloc (.cells #[.int .i64 tst, .int .i64 tit, .slice y2 m2 d2, .slice y3 m3 d3, .slice y4 m4 d4, .slice y5 m5 d5] 30)) w' ∧ IaOwn w' (w4.heap.size + 1) ⟨tst, tit, tins, touts, thids, tsteps⟩ (.agg #[.int .i64 tst, .int .i64 tit, .slice p2 tins.length k2, .slice p3 touts.length k3, .slice p4 thids.length k4, .slice p5 tsteps.length k5]) ∧ VarIs w' w6.heap.size #[.int .i64 tst, .int .i64 tit, .slice p2 tins.length k2, .slice p3 touts.length k3, .slice p4 thids.length k4, .slice p5 tsteps.length k5] 30 ∧ w'.cell? ⟨w.heap.size, 0, none⟩ = some (.int .i64 st) ∧ w'.cell? ⟨w.heap.size, 1, none⟩ = some (.int .i64 it) ∧ w'.cell? ⟨w.heap.size, 2, none⟩ = some (.slice a2 n2 c2) ∧ w'.cell? ⟨w.heap.size, 3, none⟩ = some (.slice a3 n3 c3) ∧ w'.cell? ⟨w.heap.size, 4, none⟩ = some (.slice a4 n4 c4) ∧ w'.cell? ⟨w.heap.size, 5, none⟩ = some (.slice a5 n5 c5) ∧ w'.cell? ⟨w4.heap.size, 0, none⟩ = some (.int .i64 st) ∧ w'.cell? ⟨w4.heap.size, 1, none⟩ = some (.int .i64 it) ∧ w'.cell? ⟨w4.heap.size, 2, none⟩ = some (.slice (some ⟨g2, 0, none⟩) ins.length ins.length) ∧ w'.cell? ⟨w4.heap.size, 3, none⟩ = some (.slice (some ⟨g3, 0, none⟩) outs.length outs.length) ∧ w'.cell? ⟨w4.heap.size, 4, none⟩ = some (.slice (some ⟨g4, 0, none⟩) hids.length hids.length) ∧ w'.cell? ⟨w4.heap.size, 5, none⟩ = some (.slice (some ⟨g5, 0, none⟩) steps.length steps.length))
      (first | exact hS2 | exact hS1 | exact S0)
      ((first | (go_at_call 13; refine (CS.out _ S0).mono ?_; rintro e w' ⟨v', rfl, hR, hS1⟩) | (go_at_call 15; refine (CE.out _ _ hS1 hR).mono ?_; rintro e w8 ⟨rfl, hS2⟩)))
    have B8 := Lib.hid hS2.1.1
    have V8 := Lib.hid hS2.1.2.1
    have X8 := Lib.hid hS2.1.2.2
    have A8 := Lib.hid hS2.2.1
    have BW8 := Lib.hid hS2.2.2.1
    have OG8 := Lib.hid hS2.2.2.2.1
    have G8 := Lib.hid hS2.2.2.2.2.1
    clear S0 hS1 hS2 CS CE hR
    have m0 := X8.out.cell (j := 0) rfl
    have m1 := X8.out.cell (j := 1) rfl
    have m2 := X8.out.cell (j := 2) rfl
    have m3 := X8.out.cell (j := 3) rfl
    have m4 := X8.out.cell (j := 4) rfl
    have m5 := X8.out.cell (j := 5) rfl
    go_wp2_with fail
    clear m0 m1 m2 m3 m4 m5
    obtain ⟨_, _, _, _, o2, o3, o4, o5⟩ := A8.out.parts
    have hx8 := X8.out.lt
    have hg8 := G8.out.lt
    refine (markIa_at st it g2 g3 g4 g5 ins outs hids steps (w3.heap.size + 1) _ gb' lt3 lt4 lt5 (by omega) o2 o3 o4 o5 (by omega) (by omega) (by omega) (by omega)).mono ?_
    rintro e w9 ⟨r, hr0, rfl, hb, hbut⟩
    have B9 : Hid (Below w.heap.size w w9) := B8.out.trans (hb.mono (by omega))
    have V9 := Lib.hid (V8.out.but4 hbut (by omega) (by omega) (by omega) (by omega))
    have OG9 := Lib.hid (OG8.out.but4 hbut (by omega) (by omega) (by omega) (by omega))
    have G9 := Lib.hid (G8.out.but4 hbut (by omega) (by omega) (by omega) (by omega))
    have BW9 := Lib.hid (BW8.out.trans hb)
    have U9 := Lib.hid (VW.out.below (BW9.out.mono (by simp)))
    clear hb hbut o2 o3 o4 o5 B8 V8 X8 A8 OG8 BW8 G8
    have hrd : decide (r < 0) = false := by simp; omega
    have m0 := G9.out.cell (j := 0) rfl
    have m1 := G9.out.cell (j := 1) rfl
    have m2 := G9.out.cell (j := 2) rfl
    have m3 := G9.out.cell (j := 3) rfl
    have m4 := G9.out.cell (j := 4) rfl
    have m5 := G9.out.cell (j := 5) rfl
    have u0 := U9.out.cell (j := 0) rfl
    have u1 := U9.out.cell (j := 1) rfl
    have u2 := U9.out.cell (j := 2) rfl
    have u3 := U9.out.cell (j := 3) rfl
    have u4 := U9.out.cell (j := 4) rfl
    have u5 := U9.out.cell (j := 5) rfl
    go_wp2_with fail
    clear m0 m1 m2 m3 m4 m5 u0 u1 u2 u3 u4 u5
    refine (eqIa_any ⟨tst, tit, tins, touts, thids, tsteps⟩ ⟨tst, tit, tins, touts, thids, tsteps⟩ _ _ _ OG9.out.row (RW.out.below (BW9.out.mono (by simp))) FT.out FT.out).mono ?_
    rintro e w10 ⟨rfl, hb⟩
    rw [sameB_refl]
    have hs9 := B9.out.size
    have hg9 := G9.out.lt
    have hs10 := hb.size
    have B10 : Hid (Below w.heap.size w w10) := B9.out.trans (hb.mono B9.out.size)
    have V10 := Lib.hid (V9.out.below hb)
    have OG10 := Lib.hid (OG9.out.below hb)
    have G10 := Lib.hid (G9.out.below hb)
    have BW10 := Lib.hid (BW9.out.trans (hb.mono (by omega)))
    clear hb B9 V9 OG9 G9 BW9 U9
    have m0 := G10.out.cell (j := 0) rfl
    have m1 := G10.out.cell (j := 1) rfl
    have m2 := G10.out.cell (j := 2) rfl
    have m3 := G10.out.cell (j := 3) rfl
    have m4 := G10.out.cell (j := 4) rfl
    have m5 := G10.out.cell (j := 5) rfl
    go_wp2_with fail
    clear m0 m1 m2 m3 m4 m5
    refine (markIa_own ⟨tst, tit, tins, touts, thids, tsteps⟩ _ (w4.heap.size + 1) _ OG10.out (by omega) (by simp only; omega) (by simp only; omega) (by simp only; omega) (by simp only; omega) w6.heap.size _ _ G10.out HAW.out).mono ?_
    rw [← HM.out]
    rintro e w11 ⟨rfl, ho, hb, hG⟩
    have B11 : Hid (Below w.heap.size w w11) := B10.out.trans (hb.mono (by omega))
    have V11 : Hid (VarIs w11 w.heap.size #[.int .i64 st, .int .i64 it, .slice a2 n2 c2, .slice a3 n3 c3, .slice a4 n4 c4, .slice a5 n5 c5] 25) := (hb.block _ (by omega)).trans V10.out
    have OG11 := Lib.hid ho
    have G11 := Lib.hid hG
    have BW11 := Lib.hid (BW10.out.trans (hb.mono (by omega)))
    have hs11 := hb.size
    clear hb ho hG B10 V10 OG10 G10 BW10
    have hMd : decide (M < 0) = false := by simp; omega
    have m0 := G11.out.cell (j := 0) rfl
    have m1 := G11.out.cell (j := 1) rfl
    have m2 := G11.out.cell (j := 2) rfl
    have m3 := G11.out.cell (j := 3) rfl
    have m4 := G11.out.cell (j := 4) rfl
    have m5 := G11.out.cell (j := 5) rfl
    go_wp2_with fail
    clear m0 m1 m2 m3 m4 m5
    refine (heldIa_own ⟨tst, tit, tins, touts, thids, tsteps⟩ _ _ OG11.out.row (by simp only; omega) (by simp only; omega) (by simp only; omega) (by simp only; omega)).mono ?_
    rw [← HM.out]
    rintro e w12 ⟨rfl, hb⟩
    have B12 : Hid (Below w.heap.size w w12) := B11.out.trans (hb.mono (by omega))
    have V12 := Lib.hid (V11.out.below hb)
    have OG12 := Lib.hid (OG11.out.below hb)
    have G12 := Lib.hid (G11.out.below hb)
    have BW12 := Lib.hid (BW11.out.trans (hb.mono (by omega)))
    have hs12 := hb.size
    clear hb B11 V11 OG11 G11 BW11
    have m0 := V12.out.cell (j := 0) rfl
    have m1 := V12.out.cell (j := 1) rfl
    have m2 := V12.out.cell (j := 2) rfl
    have m3 := V12.out.cell (j := 3) rfl
    have m4 := V12.out.cell (j := 4) rfl
    have m5 := V12.out.cell (j := 5) rfl
    go_wp2_with fail
    clear m0 m1 m2 m3 m4 m5
    refine (CT.out _ B12.out).mono ?_
    rintro e w13 ⟨vh, rfl, hat, hb⟩
    have B13 : Hid (Below w.heap.size w w13) := B12.out.trans (hb.mono B12.out.size)
    have OG13 := Lib.hid (OG12.out.below hb)
    have G13 := Lib.hid (G12.out.below hb)
    have BW13 := Lib.hid (BW12.out.trans (hb.mono (by omega)))
    have RH := Lib.hid hat
    have hs13 := hb.size
    clear hb hat B12 V12 OG12 G12 BW12
    go_wp2_with fail
    refine (CI.out _ _ _ RH.out).mono ?_
    rintro e w14 ⟨r2, j2, r3, j3, r4, j4, r5, j5, rfl, hoH, hb⟩
    have bh := (Below.refl w14.heap.size w14).alloc (Nat.le_refl _) (.cells #[.int .i64 tst, .int .i64 tit, .slice r2 tins.length j2, .slice r3 touts.length j3, .slice r4 thids.length j4, .slice r5 tsteps.length j5] 30)
    have hs14 := hb.size
    have B14 : Hid (Below w.heap.size w (w14.alloc (.cells #[.int .i64 tst, .int .i64 tit, .slice r2 tins.length j2, .slice r3 touts.length j3, .slice r4 thids.length j4, .slice r5 tsteps.length j5] 30))) := (B13.out.trans (hb.mono B13.out.size)).trans (bh.mono (by omega))
    have OG14 := Lib.hid ((OG13.out.below hb).below bh)
    have G14 := Lib.hid ((G13.out.below hb).below bh)
    have BW14 : Hid (Below (w3.heap.size + 1) (w3.alloc (.cells #[.int .i64 tst, .int .i64 tit, .slice y2 m2 d2, .slice y3 m3 d3, .slice y4 m4 d4, .slice y5 m5 d5] 30)) (w14.alloc (.cells #[.int .i64 tst, .int .i64 tit, .slice r2 tins.length j2, .slice r3 touts.length j3, .slice r4 thids.length j4, .slice r5 tsteps.length j5] 30))) := (BW13.out.trans (hb.mono (by omega))).trans (bh.mono (by omega))
    have OH14 := Lib.hid (hoH.below bh)
    have H14 : Hid (VarIs (w14.alloc (.cells #[.int .i64 tst, .int .i64 tit, .slice r2 tins.length j2, .slice r3 touts.length j3, .slice r4 thids.length j4, .slice r5 tsteps.length j5] 30)) w14.heap.size #[.int .i64 tst, .int .i64 tit, .slice r2 tins.length j2, .slice r3 touts.length j3, .slice r4 thids.length j4, .slice r5 tsteps.length j5] 30) := VarIs.new w14 _ _ rfl
    have U14 := Lib.hid (VW.out.below (BW14.out.mono (by simp)))
    clear hb hoH B13 OG13 G13 BW13 RH bh
    simp only
    have m0 := H14.out.cell (j := 0) rfl
    have m1 := H14.out.cell (j := 1) rfl
    have m2 := H14.out.cell (j := 2) rfl
    have m3 := H14.out.cell (j := 3) rfl
    have m4 := H14.out.cell (j := 4) rfl
    have m5 := H14.out.cell (j := 5) rfl
    have u0 := U14.out.cell (j := 0) rfl
    have u1 := U14.out.cell (j := 1) rfl
    have u2 := U14.out.cell (j := 2) rfl
    have u3 := U14.out.cell (j := 3) rfl
    have u4 := U14.out.cell (j := 4) rfl
    have u5 := U14.out.cell (j := 5) rfl
    go_wp2_with fail
    clear m0 m1 m2 m3 m4 m5 u0 u1 u2 u3 u4 u5
    refine (eqIa_any ⟨tst, tit, tins, touts, thids, tsteps⟩ ⟨tst, tit, tins, touts, thids, tsteps⟩ _ _ _ OH14.out.row (RW.out.below (BW14.out.mono (by simp))) FT.out FT.out).mono ?_
    rintro e w15 ⟨rfl, hb⟩
    rw [sameB_refl]
    have B15 : Hid (Below w.heap.size w w15) := B14.out.trans (hb.mono B14.out.size)
    have OG15 := Lib.hid (OG14.out.below hb)
    have G15 := Lib.hid (G14.out.below hb)
    clear hb B14 OG14 OH14 G14 BW14 U14 H14
    have m0 := G15.out.cell (j := 0) rfl
    have m1 := G15.out.cell (j := 1) rfl
    have m2 := G15.out.cell (j := 2) rfl
    have m3 := G15.out.cell (j := 3) rfl
    have m4 := G15.out.cell (j := 4) rfl
    have m5 := G15.out.cell (j := 5) rfl
    go_wp2_with fail
    clear m0 m1 m2 m3 m4 m5
    refine (heldIa_own ⟨tst, tit, tins, touts, thids, tsteps⟩ _ _ OG15.out.row (by simp only; omega) (by simp only; omega) (by simp only; omega) (by simp only; omega)).mono ?_
    rw [← HM.out]
    rintro e w16 ⟨rfl, hb⟩
    have B16 : Hid (Below w.heap.size w w16) := B15.out.trans (hb.mono B15.out.size)
    go_wp2_with fail
    go_ret
    exact ⟨rfl, B16.out⟩
  · have hr : roomOf 1048576 (n2 + n3 + n4 + n5) = -1 := roomOf_neg (by omega)
    rw [hr] at CZ
    go_enter Try.func10, Try.ntmps10
    go_wp2_with fail
    refine (CZ.out _).mono ?_
    rintro e w1 ⟨rfl, hb⟩
    have B1 : Hid (Below w.heap.size w w1) := (B0.out _).trans (hb.mono (B0.out _).size)
    clear hb CZ
    go_wp2_with fail
    go_ret
    exact ⟨rfl, B1.out⟩

end Go.Proofs.Ytodkahdnkpibiaa
