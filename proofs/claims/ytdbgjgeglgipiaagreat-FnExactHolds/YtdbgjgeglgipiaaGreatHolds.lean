/-
  The contracts of the model's and the program's Holds. Conditions: the automata's lists have at most 2^20 elements; at most 2^20 pairs.
-/
import Derived.Test.YtdbgjgeglgipiaaGreatSpecL07
import Derived.Test.YtdbgjgeglgipiaaGreatLetter7
namespace Go.Proofs.YtdbgjgeglgipiaaGreat
open Go.RowKit

/-- Does the pair hold with the pairs of 'L'? -/
def holdsB (a b : IaD) (v u : Int) (L : List (Int × Int)) : Bool := lettersB a b && stateB a v && stateB b u && holdsL a b v u L

set_option maxRecDepth 20000 in
set_option maxHeartbeats 6400000 in
theorem specHolds_any (a b : IaD) (va vb : Value) (v u : Int) (ra : Option Addr) (rn rc : Nat) (L : List (Int × Int)) (w : World) (h : IaRow w a va) (k : IaRow w b vb) (fa : Small a) (fb : Small b) (ca : InsC va) (cb : InsC vb) (hr : RowQ w ra rn L) (hrn : rn ≤ 1048576) :
    Calls Tryz.prog 14 #[va, vb, .int .i64 v, .int .i64 u, .slice ra rn rc] w fun e w' => e = .returned (.bool (holdsB a b v u L)) ∧ Below w.heap.size w w' := by
  obtain ⟨ql, hql⟩ : ∃ q, q = lettersB a b := ⟨_, rfl⟩
  obtain ⟨qa, hqa⟩ : ∃ q, q = stateB a v := ⟨_, rfl⟩
  obtain ⟨qb, hqb⟩ : ∃ q, q = stateB b u := ⟨_, rfl⟩
  obtain ⟨qh, hqh⟩ : ∃ q, q = holdsL a b v u L := ⟨_, rfl⟩
  obtain ⟨r, hr0⟩ : ∃ r, r = holdsB a b v u L := ⟨_, rfl⟩
  rw [← hr0]
  have HR : Hid (r = (ql && qa && qb && qh)) := by
    unfold Hid
    rw [hr0, hql, hqa, hqb, hqh]
    rfl
  have HOK : Hid (ql = true → iaOkB a = true ∧ iaOkB b = true) := fun e => by
    rw [e] at hql
    have := hql.symm
    unfold lettersB at this
    simp only [Bool.and_eq_true] at this
    exact ⟨this.1.1.1, this.1.1.2⟩
  have CL : Hid (∀ W, Below w.heap.size w W → Calls Tryz.prog 30 #[va, vb] W fun e w' => e = .returned (.bool ql) ∧ Below W.heap.size W w') := fun W hW => by
    rw [hql]
    exact specLetters_any a b va vb W (h.below hW) (k.below hW) fa fb
  have CH0 : Hid (iaOkB a = true → iaOkB b = true → ∀ W, Below w.heap.size w W → Calls Tryz.prog 32 #[va, vb, .int .i64 v, .int .i64 u, .slice ra rn rc] W fun e w' => e = .returned (.bool qh) ∧ Below W.heap.size W w') := fun h1 h2 W hW => by
    rw [hqh]
    exact l07Holds_any a b va vb v u ra rn rc L W (h.below hW) (k.below hW) fa fb ca cb h1 h2 (hr.below hW) hrn
  have HSA : Hid (ql = true → 1 ≤ a.states ∧ a.states ≤ 40 ∧ 1 ≤ b.states ∧ b.states ≤ 40) := fun e => by
    obtain ⟨h1, h2⟩ := HOK.out e
    have := iaOk_states h1
    have := iaOk_states h2
    omega
  obtain ⟨a2, n2, c2, a3, n3, c3, a4, n4, c4, a5, n5, c5, rfl, _⟩ := h
  obtain ⟨b2, m2, d2, b3, m3, d3, b4, m4, d4, b5, m5, d5, rfl, _⟩ := k
  obtain ⟨st, it, ins, outs, hids, steps⟩ := a
  obtain ⟨su, iu, jns, juts, jids, jteps⟩ := b
  simp only at HSA
  have CA : Hid (ql = true → ∀ W, Calls Tryz.prog 31 #[.agg #[.int .i64 st, .int .i64 it, .slice a2 n2 c2, .slice a3 n3 c3, .slice a4 n4 c4, .slice a5 n5 c5], .int .i64 v] W fun e w' => e = .returned (.bool qa) ∧ Below W.heap.size W w') := fun e W => by
    have := HSA.out e
    rw [hqa]
    exact state_any st it v _ _ _ _ W (by omega) (by omega)
  have CB : Hid (ql = true → ∀ W, Calls Tryz.prog 31 #[.agg #[.int .i64 su, .int .i64 iu, .slice b2 m2 d2, .slice b3 m3 d3, .slice b4 m4 d4, .slice b5 m5 d5], .int .i64 u] W fun e w' => e = .returned (.bool qb) ∧ Below W.heap.size W w') := fun e W => by
    have := HSA.out e
    rw [hqb]
    exact state_any su iu u _ _ _ _ W (by omega) (by omega)
  clear fa fb ca cb hr hql hqa hqb hqh hr0 HSA
  have S0 := Lib.hid (Box2.start w (iaC st it a2 n2 c2 a3 n3 c3 a4 n4 c4 a5 n5 c5) (iaC su iu b2 m2 d2 b3 m3 d3 b4 m4 d4 b5 m5 d5) 31)
  have xa0 := S0.out.2.1.cell (j := 0) (u := .int .i64 st) rfl
  have xa1 := S0.out.2.1.cell (j := 1) (u := .int .i64 it) rfl
  have xa2 := S0.out.2.1.cell (j := 2) (u := .slice a2 n2 c2) rfl
  have xa3 := S0.out.2.1.cell (j := 3) (u := .slice a3 n3 c3) rfl
  have xa4 := S0.out.2.1.cell (j := 4) (u := .slice a4 n4 c4) rfl
  have xa5 := S0.out.2.1.cell (j := 5) (u := .slice a5 n5 c5) rfl
  have xb0 := S0.out.2.2.cell (j := 0) (u := .int .i64 su) rfl
  have xb1 := S0.out.2.2.cell (j := 1) (u := .int .i64 iu) rfl
  have xb2 := S0.out.2.2.cell (j := 2) (u := .slice b2 m2 d2) rfl
  have xb3 := S0.out.2.2.cell (j := 3) (u := .slice b3 m3 d3) rfl
  have xb4 := S0.out.2.2.cell (j := 4) (u := .slice b4 m4 d4) rfl
  have xb5 := S0.out.2.2.cell (j := 5) (u := .slice b5 m5 d5) rfl
  go_enter Tryz.func14, Tryz.ntmps14
  go_wp2_with fail
  clear xa0 xa1 xa2 xa3 xa4 xa5 xb0 xb1 xb2 xb3 xb4 xb5
  refine (CL.out _ S0.out.1).mono ?_
  rintro e w1 ⟨rfl, hb⟩
  have S1 := Lib.hid (S0.out.below hb)
  clear hb S0 CL
  cases ql with
  | false =>
    have hr1 : r = false := by rw [HR.out]; rfl
    clear HR HOK CA CB CH0
    subst hr1
    go_wp2_with fail
    go_ret
    exact ⟨rfl, S1.out.1⟩
  | true =>
    obtain ⟨o1, o2⟩ := HOK.out rfl
    have CA1 := Lib.hid (CA.out rfl)
    have CB1 := Lib.hid (CB.out rfl)
    have CH1 := Lib.hid (CH0.out o1 o2)
    clear o1 o2 HOK CA CB CH0
    have xa0 := S1.out.2.1.cell (j := 0) (u := .int .i64 st) rfl
    have xa1 := S1.out.2.1.cell (j := 1) (u := .int .i64 it) rfl
    have xa2 := S1.out.2.1.cell (j := 2) (u := .slice a2 n2 c2) rfl
    have xa3 := S1.out.2.1.cell (j := 3) (u := .slice a3 n3 c3) rfl
    have xa4 := S1.out.2.1.cell (j := 4) (u := .slice a4 n4 c4) rfl
    have xa5 := S1.out.2.1.cell (j := 5) (u := .slice a5 n5 c5) rfl
    go_wp2_with fail
    clear xa0 xa1 xa2 xa3 xa4 xa5
    refine (CA1.out _).mono ?_
    rintro e w2 ⟨rfl, hb⟩
    have S2 := Lib.hid (S1.out.below hb)
    clear hb S1 CA1
    cases qa with
    | false =>
      have hr1 : r = false := by rw [HR.out]; rfl
      clear HR CB1 CH1
      subst hr1
      go_wp2_with fail
      go_ret
      exact ⟨rfl, S2.out.1⟩
    | true =>
      have xb0 := S2.out.2.2.cell (j := 0) (u := .int .i64 su) rfl
      have xb1 := S2.out.2.2.cell (j := 1) (u := .int .i64 iu) rfl
      have xb2 := S2.out.2.2.cell (j := 2) (u := .slice b2 m2 d2) rfl
      have xb3 := S2.out.2.2.cell (j := 3) (u := .slice b3 m3 d3) rfl
      have xb4 := S2.out.2.2.cell (j := 4) (u := .slice b4 m4 d4) rfl
      have xb5 := S2.out.2.2.cell (j := 5) (u := .slice b5 m5 d5) rfl
      go_wp2_with fail
      clear xb0 xb1 xb2 xb3 xb4 xb5
      refine (CB1.out _).mono ?_
      rintro e w3 ⟨rfl, hb⟩
      have S3 := Lib.hid (S2.out.below hb)
      clear hb S2 CB1
      cases qb with
      | false =>
        have hr1 : r = false := by rw [HR.out]; rfl
        clear HR CH1
        subst hr1
        go_wp2_with fail
        go_ret
        exact ⟨rfl, S3.out.1⟩
      | true =>
        have xa0 := S3.out.2.1.cell (j := 0) (u := .int .i64 st) rfl
        have xa1 := S3.out.2.1.cell (j := 1) (u := .int .i64 it) rfl
        have xa2 := S3.out.2.1.cell (j := 2) (u := .slice a2 n2 c2) rfl
        have xa3 := S3.out.2.1.cell (j := 3) (u := .slice a3 n3 c3) rfl
        have xa4 := S3.out.2.1.cell (j := 4) (u := .slice a4 n4 c4) rfl
        have xa5 := S3.out.2.1.cell (j := 5) (u := .slice a5 n5 c5) rfl
        have xb0 := S3.out.2.2.cell (j := 0) (u := .int .i64 su) rfl
        have xb1 := S3.out.2.2.cell (j := 1) (u := .int .i64 iu) rfl
        have xb2 := S3.out.2.2.cell (j := 2) (u := .slice b2 m2 d2) rfl
        have xb3 := S3.out.2.2.cell (j := 3) (u := .slice b3 m3 d3) rfl
        have xb4 := S3.out.2.2.cell (j := 4) (u := .slice b4 m4 d4) rfl
        have xb5 := S3.out.2.2.cell (j := 5) (u := .slice b5 m5 d5) rfl
        go_wp2_with fail
        clear xa0 xa1 xa2 xa3 xa4 xa5 xb0 xb1 xb2 xb3 xb4 xb5
        refine (CH1.out _ S3.out.1).mono ?_
        rintro e w4 ⟨rfl, hb⟩
        have B4 : Hid (Below w.heap.size w w4) := S3.out.1.trans (hb.mono S3.out.1.size)
        clear hb S3 CH1
        go_wp2_with fail
        go_ret
        exact ⟨ret_bool (by rw [HR.out]; rfl), B4.out⟩

set_option maxRecDepth 20000 in
set_option maxHeartbeats 6400000 in
theorem implHolds_any (a b : IaD) (va vb : Value) (v u : Int) (ra : Option Addr) (rn rc : Nat) (L : List (Int × Int)) (w : World) (h : IaRow w a va) (k : IaRow w b vb) (fa : Small a) (fb : Small b) (hr : RowQ w ra rn L) (hrn : rn ≤ 1048576) :
    Calls Tryz.prog 16 #[va, vb, .int .i64 v, .int .i64 u, .slice ra rn rc] w fun e w' => e = .returned (.bool (holdsB a b v u L)) ∧ Below w.heap.size w w' := by
  obtain ⟨ql, hql⟩ : ∃ q, q = lettersB a b := ⟨_, rfl⟩
  obtain ⟨qa, hqa⟩ : ∃ q, q = stateB a v := ⟨_, rfl⟩
  obtain ⟨qb, hqb⟩ : ∃ q, q = stateB b u := ⟨_, rfl⟩
  obtain ⟨qh, hqh⟩ : ∃ q, q = holdsL a b v u L := ⟨_, rfl⟩
  obtain ⟨r, hr0⟩ : ∃ r, r = holdsB a b v u L := ⟨_, rfl⟩
  rw [← hr0]
  have HR : Hid (r = (ql && qa && qb && qh)) := by
    unfold Hid
    rw [hr0, hql, hqa, hqb, hqh]
    rfl
  have HOK : Hid (ql = true → iaOkB a = true ∧ iaOkB b = true) := fun e => by
    rw [e] at hql
    have := hql.symm
    unfold lettersB at this
    simp only [Bool.and_eq_true] at this
    exact ⟨this.1.1.1, this.1.1.2⟩
  have CL : Hid (∀ W, Below w.heap.size w W → Calls Tryz.prog 34 #[va, vb] W fun e w' => e = .returned (.bool ql) ∧ Below W.heap.size W w') := fun W hW => by
    rw [hql]
    exact implLetters_any a b va vb W (h.below hW) (k.below hW) fa fb
  have CA : Hid (∀ W, Calls Tryz.prog 35 #[va, .int .i64 v] W fun e w' => e = .returned (.bool qa) ∧ Below W.heap.size W w') := fun W => by
    obtain ⟨a2, n2, c2, a3, n3, c3, a4, n4, c4, a5, n5, c5, rfl, _⟩ := h
    rw [hqa]
    exact isState_any a.states a.init v _ _ _ _ W
  have CB : Hid (∀ W, Calls Tryz.prog 35 #[vb, .int .i64 u] W fun e w' => e = .returned (.bool qb) ∧ Below W.heap.size W w') := fun W => by
    obtain ⟨a2, n2, c2, a3, n3, c3, a4, n4, c4, a5, n5, c5, rfl, _⟩ := k
    rw [hqb]
    exact isState_any b.states b.init u _ _ _ _ W
  obtain ⟨ns, hns⟩ : ∃ n : Nat, n = a.states.toNat := ⟨_, rfl⟩
  have CO0 : Hid (ql = true → qa = true → ∀ W, Below w.heap.size w W → Calls Tryz.prog 37 #[va, .int .i64 v] W fun e w' => ∃ C, e = .returned (.agg C) ∧ OutC w' W.heap.size a v C ∧ Below W.heap.size W w') := fun e1 e2 W hW => outlookOf_any a va v W (h.below hW) fa (HOK.out e1).1 (by rw [← hqa]; exact e2)
  have CP0 : Hid (ql = true → qb = true → ∀ W, Below w.heap.size w W → Calls Tryz.prog 37 #[vb, .int .i64 u] W fun e w' => ∃ C, e = .returned (.agg C) ∧ OutC w' W.heap.size b u C ∧ Below W.heap.size W w') := fun e1 e2 W hW => outlookOf_any b vb u W (k.below hW) fb (HOK.out e1).2 (by rw [← hqb]; exact e2)
  have CR0 : Hid (ql = true → ∀ W, Below w.heap.size w W → Calls Tryz.prog 38 #[va, vb, .slice ra rn rc] W fun e w' => ∃ ad c, e = .returned (.slice ad ns c) ∧ RoundAt w' ad ns (relR b L) ∧ Below W.heap.size W w') := fun e1 W hW => by
    obtain ⟨o1, o2⟩ := HOK.out e1
    have s1 := iaOk_states o1
    have s2 := iaOk_states o2
    exact roundOf_any a b va vb ra rn rc L ns W (h.below hW) (k.below hW) (hr.below hW) hrn (by omega) (by omega) (by omega)
  have CH0 : Hid (ql = true → ∀ W C1 C2 ad c b1 b2, OutC W b1 a v C1 → OutC W b2 b u C2 → RoundAt W ad ns (relR b L) → Calls Tryz.prog 36 #[.agg C1, .agg C2, .slice ad ns c] W fun e w' => e = .returned (.bool qh) ∧ Below W.heap.size W w') := fun e1 W C1 C2 ad c b1 b2 h1 h2 h3 => by
    obtain ⟨o1, o2⟩ := HOK.out e1
    obtain ⟨M1, N1, m1, m2, p1⟩ := h1
    obtain ⟨M2, N2, m3, m4, p2⟩ := h2
    have s1 := iaOk_states o1
    have s2 := iaOk_states o2
    rw [hqh, ← holds_eq o1 o2 v u L]
    refine holdsWith_any C1 C2 _ _ M1 N1 M2 N2 _ _ _ _ b1 b2 ad ns c _ W p1 p2 m1 m2 m3 m4 h3 (fun i x hx => ?_) (fun i x hx => ?_) (fun i => far_low o1 v i) (fun i => far_low o2 u i)
    · have := far_states o1 x hx
      simp only [stateB, btw, Bool.and_eq_true, decide_eq_true_eq] at this
      omega
    · have := far_states o2 x hx
      simp only [stateB, btw, Bool.and_eq_true, decide_eq_true_eq] at this
      omega
  clear hr hql hqa hqb hqh hr0 HOK hns
  obtain ⟨a2, n2, c2, a3, n3, c3, a4, n4, c4, a5, n5, c5, rfl, _⟩ := h
  obtain ⟨b2, m2, d2, b3, m3, d3, b4, m4, d4, b5, m5, d5, rfl, _⟩ := k
  obtain ⟨st, it, ins, outs, hids, steps⟩ := a
  obtain ⟨su, iu, jns, juts, jids, jteps⟩ := b
  clear fa fb
  have S0 := Lib.hid (Box2.start w (iaC st it a2 n2 c2 a3 n3 c3 a4 n4 c4 a5 n5 c5) (iaC su iu b2 m2 d2 b3 m3 d3 b4 m4 d4 b5 m5 d5) 31)
  go_enter Tryz.func16, Tryz.ntmps16
  go_wp2_with fail
  have SD : Box2 w ((w.alloc (.cells (iaC st it a2 n2 c2 a3 n3 c3 a4 n4 c4 a5 n5 c5) 31)).alloc (.cells (iaC su iu b2 m2 d2 b3 m3 d3 b4 m4 d4 b5 m5 d5) 31)).drew w.heap.size (w.heap.size + 1) 31 (iaC st it a2 n2 c2 a3 n3 c3 a4 n4 c4 a5 n5 c5) (iaC su iu b2 m2 d2 b3 m3 d3 b4 m4 d4 b5 m5 d5) := S0.out.drew
  clear S0
  cases ql with
  | false =>
    have hr1 : r = false := by rw [HR.out]; rfl
    clear HR CO0 CP0 CR0 CH0
    subst hr1
    refine wp_region_tf (S := fun w' => Box2 w w' w.heap.size (w.heap.size + 1) 31 (iaC st it a2 n2 c2 a3 n3 c3 a4 n4 c4 a5 n5 c5) (iaC su iu b2 m2 d2 b3 m3 d3 b4 m4 d4 b5 m5 d5)) 27 (by kernel_rfl) (by kernel_rfl) (by kernel_rfl) SD (fun hHeld => ?_)
    refine fast_yields 0 11 (.agg #[.int .i64 st, .int .i64 it, .slice a2 n2 c2, .slice a3 n3 c3, .slice a4 n4 c4, .slice a5 n5 c5]) (fuel := 26) rfl rfl (by kernel_rfl) (by kernel_rfl) (by kernel_rfl) (fun _ _ _ h => h) (yieldsIf_load_mid (by rfl) _ _ rfl (w.heap.size) 0 rfl (iaC st it a2 n2 c2 a3 n3 c3 a4 n4 c4 a5 n5 c5).toList _ (fun w hw => hw.2.1.range) Tryz.underlying31 rfl (by kernel_rfl)) hHeld (tf 1 27) (by kernel_rfl) (fun K hK => ?_)
    go_big_move
    refine hK.out _ ?_
    clear hK K
    refine fast_yields 1 12 (.agg #[.int .i64 su, .int .i64 iu, .slice b2 m2 d2, .slice b3 m3 d3, .slice b4 m4 d4, .slice b5 m5 d5]) (fuel := 25) rfl rfl (by kernel_rfl) (by kernel_rfl) (by kernel_rfl) (fun _ _ _ h => h) (yieldsIf_load_mid (by rfl) _ _ rfl (w.heap.size + 1) 0 rfl (iaC su iu b2 m2 d2 b3 m3 d3 b4 m4 d4 b5 m5 d5).toList _ (fun w hw => hw.2.2.range) Tryz.underlying31 rfl (by kernel_rfl)) hHeld (tf 3 27) (by kernel_rfl) (fun K hK => ?_)
    go_big_move
    refine hK.out _ ?_
    clear hK K
    refine wpAnyH_ready (rs := [2]) (fuel := 24) (by kernel_rfl) (by simp) ?_
    refine ready_want rfl (by kernel_rfl) (tf 7 27) (by kernel_rfl) (fun K hK => ?_) AllReadyH.nil
    simp only [List.getElem_toArray, List.getElem_cons_succ, List.getElem_cons_zero]
    go_big_op
    refine (CL.out _ hHeld.1).mono ?_
    rintro e w1 ⟨rfl, hb⟩
    have hS : Box2 w w1 w.heap.size (w.heap.size + 1) 31 (iaC st it a2 n2 c2 a3 n3 c3 a4 n4 c4 a5 n5 c5) (iaC su iu b2 m2 d2 b3 m3 d3 b4 m4 d4 b5 m5 d5) := hHeld.below hb
    clear hb
    refine hK.out _ _ hS (fun hHeld => ?_)
    clear hK K
    refine fast_move 3 14 (.bool false) (.tmp 13) (fuel := 23) rfl rfl (by kernel_rfl) (by kernel_rfl) (by kernel_rfl) (fun _ _ _ h => h) (by kernel_rfl) (by kernel_rfl) (by first | exact Or.inl rfl | exact Or.inr rfl) hHeld (tf 15 27) (by kernel_rfl) (fun K hK => ?_)
    go_big_move
    refine hK.out _ ?_
    clear hK K
    refine fast_skip 4 15 (fuel := 22) rfl rfl (by kernel_rfl) (by kernel_rfl) (by kernel_rfl) (fun _ _ _ h => h) (by kernel_rfl) hHeld (tf 31 27) (by kernel_rfl) (fun K hK => ?_)
    go_big_move
    refine hK.out _ ?_
    clear hK K
    refine fast_skip 5 16 (fuel := 21) rfl rfl (by kernel_rfl) (by kernel_rfl) (by kernel_rfl) (fun _ _ _ h => h) (by kernel_rfl) hHeld (tf 63 27) (by kernel_rfl) (fun K hK => ?_)
    go_big_move
    refine hK.out _ ?_
    clear hK K
    refine fast_skip 6 17 (fuel := 20) rfl rfl (by kernel_rfl) (by kernel_rfl) (by kernel_rfl) (fun _ _ _ h => h) (by kernel_rfl) hHeld (tf 127 27) (by kernel_rfl) (fun K hK => ?_)
    go_big_move
    refine hK.out _ ?_
    clear hK K
    refine fast2 7 18 (.bool false) (.tmp 14) (.bool false) (.tmp 17) (undef) (fuel := 19) rfl rfl (by kernel_rfl) (by kernel_rfl) (by kernel_rfl) (fun _ _ _ h => h) (by kernel_rfl) (by kernel_rfl) (by kernel_rfl) (fun ρ hr0 hr1 hc w hSw => by simp [go_sem, hc, hr0, hr1]) hHeld (tf 255 27) (by kernel_rfl) (fun K hK => ?_)
    go_big_move
    refine hK.out _ ?_
    clear hK K
    refine fast_move 8 19 (.bool false) (.tmp 18) (fuel := 18) rfl rfl (by kernel_rfl) (by kernel_rfl) (by kernel_rfl) (fun _ _ _ h => h) (by kernel_rfl) (by kernel_rfl) (by first | exact Or.inl rfl | exact Or.inr rfl) hHeld (tf 511 27) (by kernel_rfl) (fun K hK => ?_)
    go_big_move
    refine hK.out _ ?_
    clear hK K
    refine fast_skip 9 20 (fuel := 17) rfl rfl (by kernel_rfl) (by kernel_rfl) (by kernel_rfl) (fun _ _ _ h => h) (by kernel_rfl) hHeld (tf 1023 27) (by kernel_rfl) (fun K hK => ?_)
    go_big_move
    refine hK.out _ ?_
    clear hK K
    refine fast_skip 10 21 (fuel := 16) rfl rfl (by kernel_rfl) (by kernel_rfl) (by kernel_rfl) (fun _ _ _ h => h) (by kernel_rfl) hHeld (tf 2047 27) (by kernel_rfl) (fun K hK => ?_)
    go_big_move
    refine hK.out _ ?_
    clear hK K
    refine fast_skip 11 22 (fuel := 15) rfl rfl (by kernel_rfl) (by kernel_rfl) (by kernel_rfl) (fun _ _ _ h => h) (by kernel_rfl) hHeld (tf 4095 27) (by kernel_rfl) (fun K hK => ?_)
    go_big_move
    refine hK.out _ ?_
    clear hK K
    refine fast2 12 23 (.bool false) (.tmp 19) (.bool false) (.tmp 22) (undef) (fuel := 14) rfl rfl (by kernel_rfl) (by kernel_rfl) (by kernel_rfl) (fun _ _ _ h => h) (by kernel_rfl) (by kernel_rfl) (by kernel_rfl) (fun ρ hr0 hr1 hc w hSw => by simp [go_sem, hc, hr0, hr1]) hHeld (tf 8191 27) (by kernel_rfl) (fun K hK => ?_)
    go_big_move
    refine hK.out _ ?_
    clear hK K
    refine fast_move 13 24 (.bool false) (.tmp 23) (fuel := 13) rfl rfl (by kernel_rfl) (by kernel_rfl) (by kernel_rfl) (fun _ _ _ h => h) (by kernel_rfl) (by kernel_rfl) (by first | exact Or.inl rfl | exact Or.inr rfl) hHeld (tf 16383 27) (by kernel_rfl) (fun K hK => ?_)
    go_big_move
    refine hK.out _ ?_
    clear hK K
    refine fast_skip 14 25 (fuel := 12) rfl rfl (by kernel_rfl) (by kernel_rfl) (by kernel_rfl) (fun _ _ _ h => h) (by kernel_rfl) hHeld (tf 32767 27) (by kernel_rfl) (fun K hK => ?_)
    go_big_move
    refine hK.out _ ?_
    clear hK K
    refine fast_skip 15 26 (fuel := 11) rfl rfl (by kernel_rfl) (by kernel_rfl) (by kernel_rfl) (fun _ _ _ h => h) (by kernel_rfl) hHeld (tf 65535 27) (by kernel_rfl) (fun K hK => ?_)
    go_big_move
    refine hK.out _ ?_
    clear hK K
    refine fast_skip 16 27 (fuel := 10) rfl rfl (by kernel_rfl) (by kernel_rfl) (by kernel_rfl) (fun _ _ _ h => h) (by kernel_rfl) hHeld (tf 131071 27) (by kernel_rfl) (fun K hK => ?_)
    go_big_move
    refine hK.out _ ?_
    clear hK K
    refine fast_skip 17 28 (fuel := 9) rfl rfl (by kernel_rfl) (by kernel_rfl) (by kernel_rfl) (fun _ _ _ h => h) (by kernel_rfl) hHeld (tf 262143 27) (by kernel_rfl) (fun K hK => ?_)
    go_big_move
    refine hK.out _ ?_
    clear hK K
    refine fast_skip 18 29 (fuel := 8) rfl rfl (by kernel_rfl) (by kernel_rfl) (by kernel_rfl) (fun _ _ _ h => h) (by kernel_rfl) hHeld (tf 524287 27) (by kernel_rfl) (fun K hK => ?_)
    go_big_move
    refine hK.out _ ?_
    clear hK K
    refine fast_skip 19 30 (fuel := 7) rfl rfl (by kernel_rfl) (by kernel_rfl) (by kernel_rfl) (fun _ _ _ h => h) (by kernel_rfl) hHeld (tf 1048575 27) (by kernel_rfl) (fun K hK => ?_)
    go_big_move
    refine hK.out _ ?_
    clear hK K
    refine fast_skip 20 31 (fuel := 6) rfl rfl (by kernel_rfl) (by kernel_rfl) (by kernel_rfl) (fun _ _ _ h => h) (by kernel_rfl) hHeld (tf 2097151 27) (by kernel_rfl) (fun K hK => ?_)
    go_big_move
    refine hK.out _ ?_
    clear hK K
    refine fast_skip 21 32 (fuel := 5) rfl rfl (by kernel_rfl) (by kernel_rfl) (by kernel_rfl) (fun _ _ _ h => h) (by kernel_rfl) hHeld (tf 4194303 27) (by kernel_rfl) (fun K hK => ?_)
    go_big_move
    refine hK.out _ ?_
    clear hK K
    refine fast_skip 22 33 (fuel := 4) rfl rfl (by kernel_rfl) (by kernel_rfl) (by kernel_rfl) (fun _ _ _ h => h) (by kernel_rfl) hHeld (tf 8388607 27) (by kernel_rfl) (fun K hK => ?_)
    go_big_move
    refine hK.out _ ?_
    clear hK K
    refine fast_skip 23 34 (fuel := 3) rfl rfl (by kernel_rfl) (by kernel_rfl) (by kernel_rfl) (fun _ _ _ h => h) (by kernel_rfl) hHeld (tf 16777215 27) (by kernel_rfl) (fun K hK => ?_)
    go_big_move
    refine hK.out _ ?_
    clear hK K
    refine fast_skip 24 35 (fuel := 2) rfl rfl (by kernel_rfl) (by kernel_rfl) (by kernel_rfl) (fun _ _ _ h => h) (by kernel_rfl) hHeld (tf 33554431 27) (by kernel_rfl) (fun K hK => ?_)
    go_big_move
    refine hK.out _ ?_
    clear hK K
    refine fast2 25 36 (.bool false) (.tmp 24) (.bool false) (.tmp 35) (undef) (fuel := 1) rfl rfl (by kernel_rfl) (by kernel_rfl) (by kernel_rfl) (fun _ _ _ h => h) (by kernel_rfl) (by kernel_rfl) (by kernel_rfl) (fun ρ hr0 hr1 hc w hSw => by simp [go_sem, hc, hr0, hr1]) hHeld (tf 67108863 27) (by kernel_rfl) (fun K hK => ?_)
    go_big_move
    refine hK.out _ ?_
    clear hK K
    refine fast_move 26 10 (.bool false) (.tmp 36) (fuel := 0) rfl rfl (by kernel_rfl) (by kernel_rfl) (by kernel_rfl) (fun _ _ _ h => h) (by kernel_rfl) (by kernel_rfl) (by first | exact Or.inl rfl | exact Or.inr rfl) hHeld (tf 134217727 27) (by kernel_rfl) (fun K hK => ?_)
    go_big_move
    refine hK.out _ ?_
    clear hK K
    refine wpAnyH_done (by kernel_rfl) ?_ _
    clear SD
    go_wp2_with fail
    go_ret
    exact ⟨rfl, hHeld.1⟩
  | true =>
    have CR := Lib.hid (CR0.out rfl)
    have CH := Lib.hid (CH0.out rfl)
    have CO1 := Lib.hid (CO0.out rfl)
    have CP1 := Lib.hid (CP0.out rfl)
    clear CO0 CP0 CR0 CH0
    cases qa with
    | false =>
      have hr1 : r = false := by rw [HR.out]; rfl
      clear HR CO1 CP1
      subst hr1
      refine wp_region_tf (S := fun w' => Box2 w w' w.heap.size (w.heap.size + 1) 31 (iaC st it a2 n2 c2 a3 n3 c3 a4 n4 c4 a5 n5 c5) (iaC su iu b2 m2 d2 b3 m3 d3 b4 m4 d4 b5 m5 d5)) 27 (by kernel_rfl) (by kernel_rfl) (by kernel_rfl) SD (fun hHeld => ?_)
      refine fast_yields 0 11 (.agg #[.int .i64 st, .int .i64 it, .slice a2 n2 c2, .slice a3 n3 c3, .slice a4 n4 c4, .slice a5 n5 c5]) (fuel := 26) rfl rfl (by kernel_rfl) (by kernel_rfl) (by kernel_rfl) (fun _ _ _ h => h) (yieldsIf_load_mid (by rfl) _ _ rfl (w.heap.size) 0 rfl (iaC st it a2 n2 c2 a3 n3 c3 a4 n4 c4 a5 n5 c5).toList _ (fun w hw => hw.2.1.range) Tryz.underlying31 rfl (by kernel_rfl)) hHeld (tf 1 27) (by kernel_rfl) (fun K hK => ?_)
      go_big_move
      refine hK.out _ ?_
      clear hK K
      refine fast_yields 1 12 (.agg #[.int .i64 su, .int .i64 iu, .slice b2 m2 d2, .slice b3 m3 d3, .slice b4 m4 d4, .slice b5 m5 d5]) (fuel := 25) rfl rfl (by kernel_rfl) (by kernel_rfl) (by kernel_rfl) (fun _ _ _ h => h) (yieldsIf_load_mid (by rfl) _ _ rfl (w.heap.size + 1) 0 rfl (iaC su iu b2 m2 d2 b3 m3 d3 b4 m4 d4 b5 m5 d5).toList _ (fun w hw => hw.2.2.range) Tryz.underlying31 rfl (by kernel_rfl)) hHeld (tf 3 27) (by kernel_rfl) (fun K hK => ?_)
      go_big_move
      refine hK.out _ ?_
      clear hK K
      refine wpAnyH_ready (rs := [2]) (fuel := 24) (by kernel_rfl) (by simp) ?_
      refine ready_want rfl (by kernel_rfl) (tf 7 27) (by kernel_rfl) (fun K hK => ?_) AllReadyH.nil
      simp only [List.getElem_toArray, List.getElem_cons_succ, List.getElem_cons_zero]
      go_big_op
      refine (CL.out _ hHeld.1).mono ?_
      rintro e w1 ⟨rfl, hb⟩
      have hS : Box2 w w1 w.heap.size (w.heap.size + 1) 31 (iaC st it a2 n2 c2 a3 n3 c3 a4 n4 c4 a5 n5 c5) (iaC su iu b2 m2 d2 b3 m3 d3 b4 m4 d4 b5 m5 d5) := hHeld.below hb
      clear hb
      refine hK.out _ _ hS (fun hHeld => ?_)
      clear hK K
      refine fast_move 3 14 (.bool true) (.tmp 13) (fuel := 23) rfl rfl (by kernel_rfl) (by kernel_rfl) (by kernel_rfl) (fun _ _ _ h => h) (by kernel_rfl) (by kernel_rfl) (by first | exact Or.inl rfl | exact Or.inr rfl) hHeld (tf 15 27) (by kernel_rfl) (fun K hK => ?_)
      go_big_move
      refine hK.out _ ?_
      clear hK K
      refine fast_yields 4 15 (.agg #[.int .i64 st, .int .i64 it, .slice a2 n2 c2, .slice a3 n3 c3, .slice a4 n4 c4, .slice a5 n5 c5]) (fuel := 22) rfl rfl (by kernel_rfl) (by kernel_rfl) (by kernel_rfl) (fun _ _ _ h => h) (yieldsIf_load_mid (by rfl) _ _ rfl (w.heap.size) 0 rfl (iaC st it a2 n2 c2 a3 n3 c3 a4 n4 c4 a5 n5 c5).toList _ (fun w hw => hw.2.1.range) Tryz.underlying31 rfl (by kernel_rfl)) hHeld (tf 31 27) (by kernel_rfl) (fun K hK => ?_)
      go_big_move
      refine hK.out _ ?_
      clear hK K
      refine fast_move 5 16 (.int .i64 v) (.tmp 2) (fuel := 21) rfl rfl (by kernel_rfl) (by kernel_rfl) (by kernel_rfl) (fun _ _ _ h => h) (by kernel_rfl) (by kernel_rfl) (by first | exact Or.inl rfl | exact Or.inr rfl) hHeld (tf 63 27) (by kernel_rfl) (fun K hK => ?_)
      go_big_move
      refine hK.out _ ?_
      clear hK K
      refine wpAnyH_ready (rs := [6]) (fuel := 20) (by kernel_rfl) (by simp) ?_
      refine ready_want rfl (by kernel_rfl) (tf 127 27) (by kernel_rfl) (fun K hK => ?_) AllReadyH.nil
      simp only [List.getElem_toArray, List.getElem_cons_succ, List.getElem_cons_zero]
      go_big_op
      refine (CA.out _).mono ?_
      rintro e w2 ⟨rfl, hb⟩
      have hS : Box2 w w2 w.heap.size (w.heap.size + 1) 31 (iaC st it a2 n2 c2 a3 n3 c3 a4 n4 c4 a5 n5 c5) (iaC su iu b2 m2 d2 b3 m3 d3 b4 m4 d4 b5 m5 d5) := hHeld.below hb
      clear hb
      refine hK.out _ _ hS (fun hHeld => ?_)
      clear hK K
      refine fast2 7 18 (.bool false) (.tmp 14) (.bool true) (.tmp 17) (.bool false) (fuel := 19) rfl rfl (by kernel_rfl) (by kernel_rfl) (by kernel_rfl) (fun _ _ _ h => h) (by kernel_rfl) (by kernel_rfl) (by kernel_rfl) (fun ρ hr0 hr1 hc w hSw => by simp [go_sem, hc, hr0, hr1]) hHeld (tf 255 27) (by kernel_rfl) (fun K hK => ?_)
      go_big_move
      refine hK.out _ ?_
      clear hK K
      refine fast_move 8 19 (.bool false) (.tmp 18) (fuel := 18) rfl rfl (by kernel_rfl) (by kernel_rfl) (by kernel_rfl) (fun _ _ _ h => h) (by kernel_rfl) (by kernel_rfl) (by first | exact Or.inl rfl | exact Or.inr rfl) hHeld (tf 511 27) (by kernel_rfl) (fun K hK => ?_)
      go_big_move
      refine hK.out _ ?_
      clear hK K
      refine fast_skip 9 20 (fuel := 17) rfl rfl (by kernel_rfl) (by kernel_rfl) (by kernel_rfl) (fun _ _ _ h => h) (by kernel_rfl) hHeld (tf 1023 27) (by kernel_rfl) (fun K hK => ?_)
      go_big_move
      refine hK.out _ ?_
      clear hK K
      refine fast_skip 10 21 (fuel := 16) rfl rfl (by kernel_rfl) (by kernel_rfl) (by kernel_rfl) (fun _ _ _ h => h) (by kernel_rfl) hHeld (tf 2047 27) (by kernel_rfl) (fun K hK => ?_)
      go_big_move
      refine hK.out _ ?_
      clear hK K
      refine fast_skip 11 22 (fuel := 15) rfl rfl (by kernel_rfl) (by kernel_rfl) (by kernel_rfl) (fun _ _ _ h => h) (by kernel_rfl) hHeld (tf 4095 27) (by kernel_rfl) (fun K hK => ?_)
      go_big_move
      refine hK.out _ ?_
      clear hK K
      refine fast2 12 23 (.bool false) (.tmp 19) (.bool false) (.tmp 22) (undef) (fuel := 14) rfl rfl (by kernel_rfl) (by kernel_rfl) (by kernel_rfl) (fun _ _ _ h => h) (by kernel_rfl) (by kernel_rfl) (by kernel_rfl) (fun ρ hr0 hr1 hc w hSw => by simp [go_sem, hc, hr0, hr1]) hHeld (tf 8191 27) (by kernel_rfl) (fun K hK => ?_)
      go_big_move
      refine hK.out _ ?_
      clear hK K
      refine fast_move 13 24 (.bool false) (.tmp 23) (fuel := 13) rfl rfl (by kernel_rfl) (by kernel_rfl) (by kernel_rfl) (fun _ _ _ h => h) (by kernel_rfl) (by kernel_rfl) (by first | exact Or.inl rfl | exact Or.inr rfl) hHeld (tf 16383 27) (by kernel_rfl) (fun K hK => ?_)
      go_big_move
      refine hK.out _ ?_
      clear hK K
      refine fast_skip 14 25 (fuel := 12) rfl rfl (by kernel_rfl) (by kernel_rfl) (by kernel_rfl) (fun _ _ _ h => h) (by kernel_rfl) hHeld (tf 32767 27) (by kernel_rfl) (fun K hK => ?_)
      go_big_move
      refine hK.out _ ?_
      clear hK K
      refine fast_skip 15 26 (fuel := 11) rfl rfl (by kernel_rfl) (by kernel_rfl) (by kernel_rfl) (fun _ _ _ h => h) (by kernel_rfl) hHeld (tf 65535 27) (by kernel_rfl) (fun K hK => ?_)
      go_big_move
      refine hK.out _ ?_
      clear hK K
      refine fast_skip 16 27 (fuel := 10) rfl rfl (by kernel_rfl) (by kernel_rfl) (by kernel_rfl) (fun _ _ _ h => h) (by kernel_rfl) hHeld (tf 131071 27) (by kernel_rfl) (fun K hK => ?_)
      go_big_move
      refine hK.out _ ?_
      clear hK K
      refine fast_skip 17 28 (fuel := 9) rfl rfl (by kernel_rfl) (by kernel_rfl) (by kernel_rfl) (fun _ _ _ h => h) (by kernel_rfl) hHeld (tf 262143 27) (by kernel_rfl) (fun K hK => ?_)
      go_big_move
      refine hK.out _ ?_
      clear hK K
      refine fast_skip 18 29 (fuel := 8) rfl rfl (by kernel_rfl) (by kernel_rfl) (by kernel_rfl) (fun _ _ _ h => h) (by kernel_rfl) hHeld (tf 524287 27) (by kernel_rfl) (fun K hK => ?_)
      go_big_move
      refine hK.out _ ?_
      clear hK K
      refine fast_skip 19 30 (fuel := 7) rfl rfl (by kernel_rfl) (by kernel_rfl) (by kernel_rfl) (fun _ _ _ h => h) (by kernel_rfl) hHeld (tf 1048575 27) (by kernel_rfl) (fun K hK => ?_)
      go_big_move
      refine hK.out _ ?_
      clear hK K
      refine fast_skip 20 31 (fuel := 6) rfl rfl (by kernel_rfl) (by kernel_rfl) (by kernel_rfl) (fun _ _ _ h => h) (by kernel_rfl) hHeld (tf 2097151 27) (by kernel_rfl) (fun K hK => ?_)
      go_big_move
      refine hK.out _ ?_
      clear hK K
      refine fast_skip 21 32 (fuel := 5) rfl rfl (by kernel_rfl) (by kernel_rfl) (by kernel_rfl) (fun _ _ _ h => h) (by kernel_rfl) hHeld (tf 4194303 27) (by kernel_rfl) (fun K hK => ?_)
      go_big_move
      refine hK.out _ ?_
      clear hK K
      refine fast_skip 22 33 (fuel := 4) rfl rfl (by kernel_rfl) (by kernel_rfl) (by kernel_rfl) (fun _ _ _ h => h) (by kernel_rfl) hHeld (tf 8388607 27) (by kernel_rfl) (fun K hK => ?_)
      go_big_move
      refine hK.out _ ?_
      clear hK K
      refine fast_skip 23 34 (fuel := 3) rfl rfl (by kernel_rfl) (by kernel_rfl) (by kernel_rfl) (fun _ _ _ h => h) (by kernel_rfl) hHeld (tf 16777215 27) (by kernel_rfl) (fun K hK => ?_)
      go_big_move
      refine hK.out _ ?_
      clear hK K
      refine fast_skip 24 35 (fuel := 2) rfl rfl (by kernel_rfl) (by kernel_rfl) (by kernel_rfl) (fun _ _ _ h => h) (by kernel_rfl) hHeld (tf 33554431 27) (by kernel_rfl) (fun K hK => ?_)
      go_big_move
      refine hK.out _ ?_
      clear hK K
      refine fast2 25 36 (.bool false) (.tmp 24) (.bool false) (.tmp 35) (undef) (fuel := 1) rfl rfl (by kernel_rfl) (by kernel_rfl) (by kernel_rfl) (fun _ _ _ h => h) (by kernel_rfl) (by kernel_rfl) (by kernel_rfl) (fun ρ hr0 hr1 hc w hSw => by simp [go_sem, hc, hr0, hr1]) hHeld (tf 67108863 27) (by kernel_rfl) (fun K hK => ?_)
      go_big_move
      refine hK.out _ ?_
      clear hK K
      refine fast_move 26 10 (.bool false) (.tmp 36) (fuel := 0) rfl rfl (by kernel_rfl) (by kernel_rfl) (by kernel_rfl) (fun _ _ _ h => h) (by kernel_rfl) (by kernel_rfl) (by first | exact Or.inl rfl | exact Or.inr rfl) hHeld (tf 134217727 27) (by kernel_rfl) (fun K hK => ?_)
      go_big_move
      refine hK.out _ ?_
      clear hK K
      refine wpAnyH_done (by kernel_rfl) ?_ _
      clear SD
      go_wp2_with fail
      go_ret
      exact ⟨rfl, hHeld.1⟩
    | true =>
      have CO := Lib.hid (CO1.out rfl)
      clear CO1
      cases qb with
      | false =>
        have hr1 : r = false := by rw [HR.out]; rfl
        clear HR CP1
        subst hr1
        refine wp_region_tf (S := fun w' => Box2 w w' w.heap.size (w.heap.size + 1) 31 (iaC st it a2 n2 c2 a3 n3 c3 a4 n4 c4 a5 n5 c5) (iaC su iu b2 m2 d2 b3 m3 d3 b4 m4 d4 b5 m5 d5)) 27 (by kernel_rfl) (by kernel_rfl) (by kernel_rfl) SD (fun hHeld => ?_)
        refine fast_yields 0 11 (.agg #[.int .i64 st, .int .i64 it, .slice a2 n2 c2, .slice a3 n3 c3, .slice a4 n4 c4, .slice a5 n5 c5]) (fuel := 26) rfl rfl (by kernel_rfl) (by kernel_rfl) (by kernel_rfl) (fun _ _ _ h => h) (yieldsIf_load_mid (by rfl) _ _ rfl (w.heap.size) 0 rfl (iaC st it a2 n2 c2 a3 n3 c3 a4 n4 c4 a5 n5 c5).toList _ (fun w hw => hw.2.1.range) Tryz.underlying31 rfl (by kernel_rfl)) hHeld (tf 1 27) (by kernel_rfl) (fun K hK => ?_)
        go_big_move
        refine hK.out _ ?_
        clear hK K
        refine fast_yields 1 12 (.agg #[.int .i64 su, .int .i64 iu, .slice b2 m2 d2, .slice b3 m3 d3, .slice b4 m4 d4, .slice b5 m5 d5]) (fuel := 25) rfl rfl (by kernel_rfl) (by kernel_rfl) (by kernel_rfl) (fun _ _ _ h => h) (yieldsIf_load_mid (by rfl) _ _ rfl (w.heap.size + 1) 0 rfl (iaC su iu b2 m2 d2 b3 m3 d3 b4 m4 d4 b5 m5 d5).toList _ (fun w hw => hw.2.2.range) Tryz.underlying31 rfl (by kernel_rfl)) hHeld (tf 3 27) (by kernel_rfl) (fun K hK => ?_)
        go_big_move
        refine hK.out _ ?_
        clear hK K
        refine wpAnyH_ready (rs := [2]) (fuel := 24) (by kernel_rfl) (by simp) ?_
        refine ready_want rfl (by kernel_rfl) (tf 7 27) (by kernel_rfl) (fun K hK => ?_) AllReadyH.nil
        simp only [List.getElem_toArray, List.getElem_cons_succ, List.getElem_cons_zero]
        go_big_op
        refine (CL.out _ hHeld.1).mono ?_
        rintro e w1 ⟨rfl, hb⟩
        have hS : Box2 w w1 w.heap.size (w.heap.size + 1) 31 (iaC st it a2 n2 c2 a3 n3 c3 a4 n4 c4 a5 n5 c5) (iaC su iu b2 m2 d2 b3 m3 d3 b4 m4 d4 b5 m5 d5) := hHeld.below hb
        clear hb
        refine hK.out _ _ hS (fun hHeld => ?_)
        clear hK K
        refine fast_move 3 14 (.bool true) (.tmp 13) (fuel := 23) rfl rfl (by kernel_rfl) (by kernel_rfl) (by kernel_rfl) (fun _ _ _ h => h) (by kernel_rfl) (by kernel_rfl) (by first | exact Or.inl rfl | exact Or.inr rfl) hHeld (tf 15 27) (by kernel_rfl) (fun K hK => ?_)
        go_big_move
        refine hK.out _ ?_
        clear hK K
        refine fast_yields 4 15 (.agg #[.int .i64 st, .int .i64 it, .slice a2 n2 c2, .slice a3 n3 c3, .slice a4 n4 c4, .slice a5 n5 c5]) (fuel := 22) rfl rfl (by kernel_rfl) (by kernel_rfl) (by kernel_rfl) (fun _ _ _ h => h) (yieldsIf_load_mid (by rfl) _ _ rfl (w.heap.size) 0 rfl (iaC st it a2 n2 c2 a3 n3 c3 a4 n4 c4 a5 n5 c5).toList _ (fun w hw => hw.2.1.range) Tryz.underlying31 rfl (by kernel_rfl)) hHeld (tf 31 27) (by kernel_rfl) (fun K hK => ?_)
        go_big_move
        refine hK.out _ ?_
        clear hK K
        refine fast_move 5 16 (.int .i64 v) (.tmp 2) (fuel := 21) rfl rfl (by kernel_rfl) (by kernel_rfl) (by kernel_rfl) (fun _ _ _ h => h) (by kernel_rfl) (by kernel_rfl) (by first | exact Or.inl rfl | exact Or.inr rfl) hHeld (tf 63 27) (by kernel_rfl) (fun K hK => ?_)
        go_big_move
        refine hK.out _ ?_
        clear hK K
        refine wpAnyH_ready (rs := [6]) (fuel := 20) (by kernel_rfl) (by simp) ?_
        refine ready_want rfl (by kernel_rfl) (tf 127 27) (by kernel_rfl) (fun K hK => ?_) AllReadyH.nil
        simp only [List.getElem_toArray, List.getElem_cons_succ, List.getElem_cons_zero]
        go_big_op
        refine (CA.out _).mono ?_
        rintro e w2 ⟨rfl, hb⟩
        have hS : Box2 w w2 w.heap.size (w.heap.size + 1) 31 (iaC st it a2 n2 c2 a3 n3 c3 a4 n4 c4 a5 n5 c5) (iaC su iu b2 m2 d2 b3 m3 d3 b4 m4 d4 b5 m5 d5) := hHeld.below hb
        clear hb
        refine hK.out _ _ hS (fun hHeld => ?_)
        clear hK K
        refine fast2 7 18 (.bool true) (.tmp 14) (.bool true) (.tmp 17) (.bool true) (fuel := 19) rfl rfl (by kernel_rfl) (by kernel_rfl) (by kernel_rfl) (fun _ _ _ h => h) (by kernel_rfl) (by kernel_rfl) (by kernel_rfl) (fun ρ hr0 hr1 hc w hSw => by simp [go_sem, hc, hr0, hr1]) hHeld (tf 255 27) (by kernel_rfl) (fun K hK => ?_)
        go_big_move
        refine hK.out _ ?_
        clear hK K
        refine fast_move 8 19 (.bool true) (.tmp 18) (fuel := 18) rfl rfl (by kernel_rfl) (by kernel_rfl) (by kernel_rfl) (fun _ _ _ h => h) (by kernel_rfl) (by kernel_rfl) (by first | exact Or.inl rfl | exact Or.inr rfl) hHeld (tf 511 27) (by kernel_rfl) (fun K hK => ?_)
        go_big_move
        refine hK.out _ ?_
        clear hK K
        refine fast_yields 9 20 (.agg #[.int .i64 su, .int .i64 iu, .slice b2 m2 d2, .slice b3 m3 d3, .slice b4 m4 d4, .slice b5 m5 d5]) (fuel := 17) rfl rfl (by kernel_rfl) (by kernel_rfl) (by kernel_rfl) (fun _ _ _ h => h) (yieldsIf_load_mid (by rfl) _ _ rfl (w.heap.size + 1) 0 rfl (iaC su iu b2 m2 d2 b3 m3 d3 b4 m4 d4 b5 m5 d5).toList _ (fun w hw => hw.2.2.range) Tryz.underlying31 rfl (by kernel_rfl)) hHeld (tf 1023 27) (by kernel_rfl) (fun K hK => ?_)
        go_big_move
        refine hK.out _ ?_
        clear hK K
        refine fast_move 10 21 (.int .i64 u) (.tmp 3) (fuel := 16) rfl rfl (by kernel_rfl) (by kernel_rfl) (by kernel_rfl) (fun _ _ _ h => h) (by kernel_rfl) (by kernel_rfl) (by first | exact Or.inl rfl | exact Or.inr rfl) hHeld (tf 2047 27) (by kernel_rfl) (fun K hK => ?_)
        go_big_move
        refine hK.out _ ?_
        clear hK K
        refine wpAnyH_ready (rs := [11]) (fuel := 15) (by kernel_rfl) (by simp) ?_
        refine ready_want rfl (by kernel_rfl) (tf 4095 27) (by kernel_rfl) (fun K hK => ?_) AllReadyH.nil
        simp only [List.getElem_toArray, List.getElem_cons_succ, List.getElem_cons_zero]
        go_big_op
        refine (CB.out _).mono ?_
        rintro e w3 ⟨rfl, hb⟩
        have hS : Box2 w w3 w.heap.size (w.heap.size + 1) 31 (iaC st it a2 n2 c2 a3 n3 c3 a4 n4 c4 a5 n5 c5) (iaC su iu b2 m2 d2 b3 m3 d3 b4 m4 d4 b5 m5 d5) := hHeld.below hb
        clear hb
        refine hK.out _ _ hS (fun hHeld => ?_)
        clear hK K
        refine fast2 12 23 (.bool false) (.tmp 19) (.bool true) (.tmp 22) (.bool false) (fuel := 14) rfl rfl (by kernel_rfl) (by kernel_rfl) (by kernel_rfl) (fun _ _ _ h => h) (by kernel_rfl) (by kernel_rfl) (by kernel_rfl) (fun ρ hr0 hr1 hc w hSw => by simp [go_sem, hc, hr0, hr1]) hHeld (tf 8191 27) (by kernel_rfl) (fun K hK => ?_)
        go_big_move
        refine hK.out _ ?_
        clear hK K
        refine fast_move 13 24 (.bool false) (.tmp 23) (fuel := 13) rfl rfl (by kernel_rfl) (by kernel_rfl) (by kernel_rfl) (fun _ _ _ h => h) (by kernel_rfl) (by kernel_rfl) (by first | exact Or.inl rfl | exact Or.inr rfl) hHeld (tf 16383 27) (by kernel_rfl) (fun K hK => ?_)
        go_big_move
        refine hK.out _ ?_
        clear hK K
        refine fast_skip 14 25 (fuel := 12) rfl rfl (by kernel_rfl) (by kernel_rfl) (by kernel_rfl) (fun _ _ _ h => h) (by kernel_rfl) hHeld (tf 32767 27) (by kernel_rfl) (fun K hK => ?_)
        go_big_move
        refine hK.out _ ?_
        clear hK K
        refine fast_skip 15 26 (fuel := 11) rfl rfl (by kernel_rfl) (by kernel_rfl) (by kernel_rfl) (fun _ _ _ h => h) (by kernel_rfl) hHeld (tf 65535 27) (by kernel_rfl) (fun K hK => ?_)
        go_big_move
        refine hK.out _ ?_
        clear hK K
        refine fast_skip 16 27 (fuel := 10) rfl rfl (by kernel_rfl) (by kernel_rfl) (by kernel_rfl) (fun _ _ _ h => h) (by kernel_rfl) hHeld (tf 131071 27) (by kernel_rfl) (fun K hK => ?_)
        go_big_move
        refine hK.out _ ?_
        clear hK K
        refine fast_skip 17 28 (fuel := 9) rfl rfl (by kernel_rfl) (by kernel_rfl) (by kernel_rfl) (fun _ _ _ h => h) (by kernel_rfl) hHeld (tf 262143 27) (by kernel_rfl) (fun K hK => ?_)
        go_big_move
        refine hK.out _ ?_
        clear hK K
        refine fast_skip 18 29 (fuel := 8) rfl rfl (by kernel_rfl) (by kernel_rfl) (by kernel_rfl) (fun _ _ _ h => h) (by kernel_rfl) hHeld (tf 524287 27) (by kernel_rfl) (fun K hK => ?_)
        go_big_move
        refine hK.out _ ?_
        clear hK K
        refine fast_skip 19 30 (fuel := 7) rfl rfl (by kernel_rfl) (by kernel_rfl) (by kernel_rfl) (fun _ _ _ h => h) (by kernel_rfl) hHeld (tf 1048575 27) (by kernel_rfl) (fun K hK => ?_)
        go_big_move
        refine hK.out _ ?_
        clear hK K
        refine fast_skip 20 31 (fuel := 6) rfl rfl (by kernel_rfl) (by kernel_rfl) (by kernel_rfl) (fun _ _ _ h => h) (by kernel_rfl) hHeld (tf 2097151 27) (by kernel_rfl) (fun K hK => ?_)
        go_big_move
        refine hK.out _ ?_
        clear hK K
        refine fast_skip 21 32 (fuel := 5) rfl rfl (by kernel_rfl) (by kernel_rfl) (by kernel_rfl) (fun _ _ _ h => h) (by kernel_rfl) hHeld (tf 4194303 27) (by kernel_rfl) (fun K hK => ?_)
        go_big_move
        refine hK.out _ ?_
        clear hK K
        refine fast_skip 22 33 (fuel := 4) rfl rfl (by kernel_rfl) (by kernel_rfl) (by kernel_rfl) (fun _ _ _ h => h) (by kernel_rfl) hHeld (tf 8388607 27) (by kernel_rfl) (fun K hK => ?_)
        go_big_move
        refine hK.out _ ?_
        clear hK K
        refine fast_skip 23 34 (fuel := 3) rfl rfl (by kernel_rfl) (by kernel_rfl) (by kernel_rfl) (fun _ _ _ h => h) (by kernel_rfl) hHeld (tf 16777215 27) (by kernel_rfl) (fun K hK => ?_)
        go_big_move
        refine hK.out _ ?_
        clear hK K
        refine fast_skip 24 35 (fuel := 2) rfl rfl (by kernel_rfl) (by kernel_rfl) (by kernel_rfl) (fun _ _ _ h => h) (by kernel_rfl) hHeld (tf 33554431 27) (by kernel_rfl) (fun K hK => ?_)
        go_big_move
        refine hK.out _ ?_
        clear hK K
        refine fast2 25 36 (.bool false) (.tmp 24) (.bool false) (.tmp 35) (undef) (fuel := 1) rfl rfl (by kernel_rfl) (by kernel_rfl) (by kernel_rfl) (fun _ _ _ h => h) (by kernel_rfl) (by kernel_rfl) (by kernel_rfl) (fun ρ hr0 hr1 hc w hSw => by simp [go_sem, hc, hr0, hr1]) hHeld (tf 67108863 27) (by kernel_rfl) (fun K hK => ?_)
        go_big_move
        refine hK.out _ ?_
        clear hK K
        refine fast_move 26 10 (.bool false) (.tmp 36) (fuel := 0) rfl rfl (by kernel_rfl) (by kernel_rfl) (by kernel_rfl) (fun _ _ _ h => h) (by kernel_rfl) (by kernel_rfl) (by first | exact Or.inl rfl | exact Or.inr rfl) hHeld (tf 134217727 27) (by kernel_rfl) (fun K hK => ?_)
        go_big_move
        refine hK.out _ ?_
        clear hK K
        refine wpAnyH_done (by kernel_rfl) ?_ _
        clear SD
        go_wp2_with fail
        go_ret
        exact ⟨rfl, hHeld.1⟩
      | true =>
        have CP := Lib.hid (CP1.out rfl)
        clear CP1
        cases qh with
        | false =>
          have hr1 : r = false := by rw [HR.out]; rfl
          clear HR
          subst hr1
          refine wp_region_tf (S := fun w' => Box2 w w' w.heap.size (w.heap.size + 1) 31 (iaC st it a2 n2 c2 a3 n3 c3 a4 n4 c4 a5 n5 c5) (iaC su iu b2 m2 d2 b3 m3 d3 b4 m4 d4 b5 m5 d5)) 27 (by kernel_rfl) (by kernel_rfl) (by kernel_rfl) SD (fun hHeld => ?_)
          refine fast_yields 0 11 (.agg #[.int .i64 st, .int .i64 it, .slice a2 n2 c2, .slice a3 n3 c3, .slice a4 n4 c4, .slice a5 n5 c5]) (fuel := 26) rfl rfl (by kernel_rfl) (by kernel_rfl) (by kernel_rfl) (fun _ _ _ h => h) (yieldsIf_load_mid (by rfl) _ _ rfl (w.heap.size) 0 rfl (iaC st it a2 n2 c2 a3 n3 c3 a4 n4 c4 a5 n5 c5).toList _ (fun w hw => hw.2.1.range) Tryz.underlying31 rfl (by kernel_rfl)) hHeld (tf 1 27) (by kernel_rfl) (fun K hK => ?_)
          go_big_move
          refine hK.out _ ?_
          clear hK K
          refine fast_yields 1 12 (.agg #[.int .i64 su, .int .i64 iu, .slice b2 m2 d2, .slice b3 m3 d3, .slice b4 m4 d4, .slice b5 m5 d5]) (fuel := 25) rfl rfl (by kernel_rfl) (by kernel_rfl) (by kernel_rfl) (fun _ _ _ h => h) (yieldsIf_load_mid (by rfl) _ _ rfl (w.heap.size + 1) 0 rfl (iaC su iu b2 m2 d2 b3 m3 d3 b4 m4 d4 b5 m5 d5).toList _ (fun w hw => hw.2.2.range) Tryz.underlying31 rfl (by kernel_rfl)) hHeld (tf 3 27) (by kernel_rfl) (fun K hK => ?_)
          go_big_move
          refine hK.out _ ?_
          clear hK K
          refine wpAnyH_ready (rs := [2]) (fuel := 24) (by kernel_rfl) (by simp) ?_
          refine ready_want rfl (by kernel_rfl) (tf 7 27) (by kernel_rfl) (fun K hK => ?_) AllReadyH.nil
          simp only [List.getElem_toArray, List.getElem_cons_succ, List.getElem_cons_zero]
          go_big_op
          refine (CL.out _ hHeld.1).mono ?_
          rintro e w1 ⟨rfl, hb⟩
          have hS : Box2 w w1 w.heap.size (w.heap.size + 1) 31 (iaC st it a2 n2 c2 a3 n3 c3 a4 n4 c4 a5 n5 c5) (iaC su iu b2 m2 d2 b3 m3 d3 b4 m4 d4 b5 m5 d5) := hHeld.below hb
          clear hb
          refine hK.out _ _ hS (fun hHeld => ?_)
          clear hK K
          refine fast_move 3 14 (.bool true) (.tmp 13) (fuel := 23) rfl rfl (by kernel_rfl) (by kernel_rfl) (by kernel_rfl) (fun _ _ _ h => h) (by kernel_rfl) (by kernel_rfl) (by first | exact Or.inl rfl | exact Or.inr rfl) hHeld (tf 15 27) (by kernel_rfl) (fun K hK => ?_)
          go_big_move
          refine hK.out _ ?_
          clear hK K
          refine fast_yields 4 15 (.agg #[.int .i64 st, .int .i64 it, .slice a2 n2 c2, .slice a3 n3 c3, .slice a4 n4 c4, .slice a5 n5 c5]) (fuel := 22) rfl rfl (by kernel_rfl) (by kernel_rfl) (by kernel_rfl) (fun _ _ _ h => h) (yieldsIf_load_mid (by rfl) _ _ rfl (w.heap.size) 0 rfl (iaC st it a2 n2 c2 a3 n3 c3 a4 n4 c4 a5 n5 c5).toList _ (fun w hw => hw.2.1.range) Tryz.underlying31 rfl (by kernel_rfl)) hHeld (tf 31 27) (by kernel_rfl) (fun K hK => ?_)
          go_big_move
          refine hK.out _ ?_
          clear hK K
          refine fast_move 5 16 (.int .i64 v) (.tmp 2) (fuel := 21) rfl rfl (by kernel_rfl) (by kernel_rfl) (by kernel_rfl) (fun _ _ _ h => h) (by kernel_rfl) (by kernel_rfl) (by first | exact Or.inl rfl | exact Or.inr rfl) hHeld (tf 63 27) (by kernel_rfl) (fun K hK => ?_)
          go_big_move
          refine hK.out _ ?_
          clear hK K
          refine wpAnyH_ready (rs := [6]) (fuel := 20) (by kernel_rfl) (by simp) ?_
          refine ready_want rfl (by kernel_rfl) (tf 127 27) (by kernel_rfl) (fun K hK => ?_) AllReadyH.nil
          simp only [List.getElem_toArray, List.getElem_cons_succ, List.getElem_cons_zero]
          go_big_op
          refine (CA.out _).mono ?_
          rintro e w2 ⟨rfl, hb⟩
          have hS : Box2 w w2 w.heap.size (w.heap.size + 1) 31 (iaC st it a2 n2 c2 a3 n3 c3 a4 n4 c4 a5 n5 c5) (iaC su iu b2 m2 d2 b3 m3 d3 b4 m4 d4 b5 m5 d5) := hHeld.below hb
          clear hb
          refine hK.out _ _ hS (fun hHeld => ?_)
          clear hK K
          refine fast2 7 18 (.bool true) (.tmp 14) (.bool true) (.tmp 17) (.bool true) (fuel := 19) rfl rfl (by kernel_rfl) (by kernel_rfl) (by kernel_rfl) (fun _ _ _ h => h) (by kernel_rfl) (by kernel_rfl) (by kernel_rfl) (fun ρ hr0 hr1 hc w hSw => by simp [go_sem, hc, hr0, hr1]) hHeld (tf 255 27) (by kernel_rfl) (fun K hK => ?_)
          go_big_move
          refine hK.out _ ?_
          clear hK K
          refine fast_move 8 19 (.bool true) (.tmp 18) (fuel := 18) rfl rfl (by kernel_rfl) (by kernel_rfl) (by kernel_rfl) (fun _ _ _ h => h) (by kernel_rfl) (by kernel_rfl) (by first | exact Or.inl rfl | exact Or.inr rfl) hHeld (tf 511 27) (by kernel_rfl) (fun K hK => ?_)
          go_big_move
          refine hK.out _ ?_
          clear hK K
          refine fast_yields 9 20 (.agg #[.int .i64 su, .int .i64 iu, .slice b2 m2 d2, .slice b3 m3 d3, .slice b4 m4 d4, .slice b5 m5 d5]) (fuel := 17) rfl rfl (by kernel_rfl) (by kernel_rfl) (by kernel_rfl) (fun _ _ _ h => h) (yieldsIf_load_mid (by rfl) _ _ rfl (w.heap.size + 1) 0 rfl (iaC su iu b2 m2 d2 b3 m3 d3 b4 m4 d4 b5 m5 d5).toList _ (fun w hw => hw.2.2.range) Tryz.underlying31 rfl (by kernel_rfl)) hHeld (tf 1023 27) (by kernel_rfl) (fun K hK => ?_)
          go_big_move
          refine hK.out _ ?_
          clear hK K
          refine fast_move 10 21 (.int .i64 u) (.tmp 3) (fuel := 16) rfl rfl (by kernel_rfl) (by kernel_rfl) (by kernel_rfl) (fun _ _ _ h => h) (by kernel_rfl) (by kernel_rfl) (by first | exact Or.inl rfl | exact Or.inr rfl) hHeld (tf 2047 27) (by kernel_rfl) (fun K hK => ?_)
          go_big_move
          refine hK.out _ ?_
          clear hK K
          refine wpAnyH_ready (rs := [11]) (fuel := 15) (by kernel_rfl) (by simp) ?_
          refine ready_want rfl (by kernel_rfl) (tf 4095 27) (by kernel_rfl) (fun K hK => ?_) AllReadyH.nil
          simp only [List.getElem_toArray, List.getElem_cons_succ, List.getElem_cons_zero]
          go_big_op
          refine (CB.out _).mono ?_
          rintro e w3 ⟨rfl, hb⟩
          have hS : Box2 w w3 w.heap.size (w.heap.size + 1) 31 (iaC st it a2 n2 c2 a3 n3 c3 a4 n4 c4 a5 n5 c5) (iaC su iu b2 m2 d2 b3 m3 d3 b4 m4 d4 b5 m5 d5) := hHeld.below hb
          clear hb
          refine hK.out _ _ hS (fun hHeld => ?_)
          clear hK K
          refine fast2 12 23 (.bool true) (.tmp 19) (.bool true) (.tmp 22) (.bool true) (fuel := 14) rfl rfl (by kernel_rfl) (by kernel_rfl) (by kernel_rfl) (fun _ _ _ h => h) (by kernel_rfl) (by kernel_rfl) (by kernel_rfl) (fun ρ hr0 hr1 hc w hSw => by simp [go_sem, hc, hr0, hr1]) hHeld (tf 8191 27) (by kernel_rfl) (fun K hK => ?_)
          go_big_move
          refine hK.out _ ?_
          clear hK K
          refine fast_move 13 24 (.bool true) (.tmp 23) (fuel := 13) rfl rfl (by kernel_rfl) (by kernel_rfl) (by kernel_rfl) (fun _ _ _ h => h) (by kernel_rfl) (by kernel_rfl) (by first | exact Or.inl rfl | exact Or.inr rfl) hHeld (tf 16383 27) (by kernel_rfl) (fun K hK => ?_)
          go_big_move
          refine hK.out _ ?_
          clear hK K
          refine fast_yields 14 25 (.agg #[.int .i64 st, .int .i64 it, .slice a2 n2 c2, .slice a3 n3 c3, .slice a4 n4 c4, .slice a5 n5 c5]) (fuel := 12) rfl rfl (by kernel_rfl) (by kernel_rfl) (by kernel_rfl) (fun _ _ _ h => h) (yieldsIf_load_mid (by rfl) _ _ rfl (w.heap.size) 0 rfl (iaC st it a2 n2 c2 a3 n3 c3 a4 n4 c4 a5 n5 c5).toList _ (fun w hw => hw.2.1.range) Tryz.underlying31 rfl (by kernel_rfl)) hHeld (tf 32767 27) (by kernel_rfl) (fun K hK => ?_)
          go_big_move
          refine hK.out _ ?_
          clear hK K
          refine fast_move 15 26 (.int .i64 v) (.tmp 2) (fuel := 11) rfl rfl (by kernel_rfl) (by kernel_rfl) (by kernel_rfl) (fun _ _ _ h => h) (by kernel_rfl) (by kernel_rfl) (by first | exact Or.inl rfl | exact Or.inr rfl) hHeld (tf 65535 27) (by kernel_rfl) (fun K hK => ?_)
          go_big_move
          refine hK.out _ ?_
          clear hK K
          refine fast_yields 17 28 (.agg #[.int .i64 su, .int .i64 iu, .slice b2 m2 d2, .slice b3 m3 d3, .slice b4 m4 d4, .slice b5 m5 d5]) (fuel := 10) rfl rfl (by kernel_rfl) (by kernel_rfl) (by kernel_rfl) (fun _ _ _ h => h) (yieldsIf_load_mid (by rfl) _ _ rfl (w.heap.size + 1) 0 rfl (iaC su iu b2 m2 d2 b3 m3 d3 b4 m4 d4 b5 m5 d5).toList _ (fun w hw => hw.2.2.range) Tryz.underlying31 rfl (by kernel_rfl)) hHeld (tf 196607 27) (by kernel_rfl) (fun K hK => ?_)
          go_big_move
          refine hK.out _ ?_
          clear hK K
          refine fast_move 18 29 (.int .i64 u) (.tmp 3) (fuel := 9) rfl rfl (by kernel_rfl) (by kernel_rfl) (by kernel_rfl) (fun _ _ _ h => h) (by kernel_rfl) (by kernel_rfl) (by first | exact Or.inl rfl | exact Or.inr rfl) hHeld (tf 458751 27) (by kernel_rfl) (fun K hK => ?_)
          go_big_move
          refine hK.out _ ?_
          clear hK K
          refine fast_yields 20 31 (.agg #[.int .i64 st, .int .i64 it, .slice a2 n2 c2, .slice a3 n3 c3, .slice a4 n4 c4, .slice a5 n5 c5]) (fuel := 8) rfl rfl (by kernel_rfl) (by kernel_rfl) (by kernel_rfl) (fun _ _ _ h => h) (yieldsIf_load_mid (by rfl) _ _ rfl (w.heap.size) 0 rfl (iaC st it a2 n2 c2 a3 n3 c3 a4 n4 c4 a5 n5 c5).toList _ (fun w hw => hw.2.1.range) Tryz.underlying31 rfl (by kernel_rfl)) hHeld (tf 1507327 27) (by kernel_rfl) (fun K hK => ?_)
          go_big_move
          refine hK.out _ ?_
          clear hK K
          refine fast_yields 21 32 (.agg #[.int .i64 su, .int .i64 iu, .slice b2 m2 d2, .slice b3 m3 d3, .slice b4 m4 d4, .slice b5 m5 d5]) (fuel := 7) rfl rfl (by kernel_rfl) (by kernel_rfl) (by kernel_rfl) (fun _ _ _ h => h) (yieldsIf_load_mid (by rfl) _ _ rfl (w.heap.size + 1) 0 rfl (iaC su iu b2 m2 d2 b3 m3 d3 b4 m4 d4 b5 m5 d5).toList _ (fun w hw => hw.2.2.range) Tryz.underlying31 rfl (by kernel_rfl)) hHeld (tf 3604479 27) (by kernel_rfl) (fun K hK => ?_)
          go_big_move
          refine hK.out _ ?_
          clear hK K
          refine fast_move 22 33 (.slice ra rn rc) (.tmp 4) (fuel := 6) rfl rfl (by kernel_rfl) (by kernel_rfl) (by kernel_rfl) (fun _ _ _ h => h) (by kernel_rfl) (by kernel_rfl) (by first | exact Or.inl rfl | exact Or.inr rfl) hHeld (tf 7798783 27) (by kernel_rfl) (fun K hK => ?_)
          go_big_move
          refine hK.out _ ?_
          clear hK K
          refine wpAnyH_ready (rs := [16]) (fuel := 5) (by kernel_rfl) (by simp) ?_
          refine ready_want rfl (by kernel_rfl) (tf 7864319 27) (by kernel_rfl) (fun K hK => ?_) AllReadyH.nil
          simp only [List.getElem_toArray, List.getElem_cons_succ, List.getElem_cons_zero]
          go_big_op
          refine (CO.out _ hHeld.1).mono ?_
          rintro e w4 ⟨C1, rfl, ho1, hb⟩
          have k1 := ho1
          have hS : Box2 w w4 w.heap.size (w.heap.size + 1) 31 (iaC st it a2 n2 c2 a3 n3 c3 a4 n4 c4 a5 n5 c5) (iaC su iu b2 m2 d2 b3 m3 d3 b4 m4 d4 b5 m5 d5) := hHeld.below hb
          clear hb ho1
          refine hK.out _ _ hS (fun hHeld => ?_)
          clear hK K
          refine wpAnyH_ready (rs := [19]) (fuel := 4) (by kernel_rfl) (by simp) ?_
          refine ready_want rfl (by kernel_rfl) (tf 8388607 27) (by kernel_rfl) (fun K hK => ?_) AllReadyH.nil
          simp only [List.getElem_toArray, List.getElem_cons_succ, List.getElem_cons_zero]
          go_big_op
          refine (CP.out _ hHeld.1).mono ?_
          rintro e w5 ⟨C2, rfl, ho2, hb⟩
          have k2 := ho2
          have k1x := k1.below hb
          clear k1
          have hS : Box2 w w5 w.heap.size (w.heap.size + 1) 31 (iaC st it a2 n2 c2 a3 n3 c3 a4 n4 c4 a5 n5 c5) (iaC su iu b2 m2 d2 b3 m3 d3 b4 m4 d4 b5 m5 d5) := hHeld.below hb
          clear hb ho2
          refine hK.out _ _ hS (fun hHeld => ?_)
          clear hK K
          refine wpAnyH_ready (rs := [23]) (fuel := 3) (by kernel_rfl) (by simp) ?_
          refine ready_want rfl (by kernel_rfl) (tf 16777215 27) (by kernel_rfl) (fun K hK => ?_) AllReadyH.nil
          simp only [List.getElem_toArray, List.getElem_cons_succ, List.getElem_cons_zero]
          go_big_op
          refine (CR.out _ hHeld.1).mono ?_
          rintro e w6 ⟨ad, cd, rfl, ho3, hb⟩
          have k3 := ho3
          have k1 := k1x.below hb
          have k2x := k2.below hb
          clear k1x k2
          have hS : Box2 w w6 w.heap.size (w.heap.size + 1) 31 (iaC st it a2 n2 c2 a3 n3 c3 a4 n4 c4 a5 n5 c5) (iaC su iu b2 m2 d2 b3 m3 d3 b4 m4 d4 b5 m5 d5) := hHeld.below hb
          clear hb ho3
          refine hK.out _ _ hS (fun hHeld => ?_)
          clear hK K
          refine wpAnyH_ready (rs := [24]) (fuel := 2) (by kernel_rfl) (by simp) ?_
          refine ready_want rfl (by kernel_rfl) (tf 33554431 27) (by kernel_rfl) (fun K hK => ?_) AllReadyH.nil
          simp only [List.getElem_toArray, List.getElem_cons_succ, List.getElem_cons_zero]
          go_big_op
          refine (CH.out _ _ _ _ _ _ _ k1 k2x k3).mono ?_
          rintro e w7 ⟨rfl, hb⟩
          have hS : Box2 w w7 w.heap.size (w.heap.size + 1) 31 (iaC st it a2 n2 c2 a3 n3 c3 a4 n4 c4 a5 n5 c5) (iaC su iu b2 m2 d2 b3 m3 d3 b4 m4 d4 b5 m5 d5) := hHeld.below hb
          clear hb k1 k2x k3
          refine hK.out _ _ hS (fun hHeld => ?_)
          clear hK K
          refine fast2 25 36 (.bool false) (.tmp 24) (.bool true) (.tmp 35) (.bool false) (fuel := 1) rfl rfl (by kernel_rfl) (by kernel_rfl) (by kernel_rfl) (fun _ _ _ h => h) (by kernel_rfl) (by kernel_rfl) (by kernel_rfl) (fun ρ hr0 hr1 hc w hSw => by simp [go_sem, hc, hr0, hr1]) hHeld (tf 67108863 27) (by kernel_rfl) (fun K hK => ?_)
          go_big_move
          refine hK.out _ ?_
          clear hK K
          refine fast_move 26 10 (.bool false) (.tmp 36) (fuel := 0) rfl rfl (by kernel_rfl) (by kernel_rfl) (by kernel_rfl) (fun _ _ _ h => h) (by kernel_rfl) (by kernel_rfl) (by first | exact Or.inl rfl | exact Or.inr rfl) hHeld (tf 134217727 27) (by kernel_rfl) (fun K hK => ?_)
          go_big_move
          refine hK.out _ ?_
          clear hK K
          refine wpAnyH_done (by kernel_rfl) ?_ _
          clear SD
          go_wp2_with fail
          go_ret
          exact ⟨rfl, hHeld.1⟩
        | true =>
          have hr1 : r = true := by rw [HR.out]; rfl
          clear HR
          subst hr1
          refine wp_region_tf (S := fun w' => Box2 w w' w.heap.size (w.heap.size + 1) 31 (iaC st it a2 n2 c2 a3 n3 c3 a4 n4 c4 a5 n5 c5) (iaC su iu b2 m2 d2 b3 m3 d3 b4 m4 d4 b5 m5 d5)) 27 (by kernel_rfl) (by kernel_rfl) (by kernel_rfl) SD (fun hHeld => ?_)
          refine fast_yields 0 11 (.agg #[.int .i64 st, .int .i64 it, .slice a2 n2 c2, .slice a3 n3 c3, .slice a4 n4 c4, .slice a5 n5 c5]) (fuel := 26) rfl rfl (by kernel_rfl) (by kernel_rfl) (by kernel_rfl) (fun _ _ _ h => h) (yieldsIf_load_mid (by rfl) _ _ rfl (w.heap.size) 0 rfl (iaC st it a2 n2 c2 a3 n3 c3 a4 n4 c4 a5 n5 c5).toList _ (fun w hw => hw.2.1.range) Tryz.underlying31 rfl (by kernel_rfl)) hHeld (tf 1 27) (by kernel_rfl) (fun K hK => ?_)
          go_big_move
          refine hK.out _ ?_
          clear hK K
          refine fast_yields 1 12 (.agg #[.int .i64 su, .int .i64 iu, .slice b2 m2 d2, .slice b3 m3 d3, .slice b4 m4 d4, .slice b5 m5 d5]) (fuel := 25) rfl rfl (by kernel_rfl) (by kernel_rfl) (by kernel_rfl) (fun _ _ _ h => h) (yieldsIf_load_mid (by rfl) _ _ rfl (w.heap.size + 1) 0 rfl (iaC su iu b2 m2 d2 b3 m3 d3 b4 m4 d4 b5 m5 d5).toList _ (fun w hw => hw.2.2.range) Tryz.underlying31 rfl (by kernel_rfl)) hHeld (tf 3 27) (by kernel_rfl) (fun K hK => ?_)
          go_big_move
          refine hK.out _ ?_
          clear hK K
          refine wpAnyH_ready (rs := [2]) (fuel := 24) (by kernel_rfl) (by simp) ?_
          refine ready_want rfl (by kernel_rfl) (tf 7 27) (by kernel_rfl) (fun K hK => ?_) AllReadyH.nil
          simp only [List.getElem_toArray, List.getElem_cons_succ, List.getElem_cons_zero]
          go_big_op
          refine (CL.out _ hHeld.1).mono ?_
          rintro e w1 ⟨rfl, hb⟩
          have hS : Box2 w w1 w.heap.size (w.heap.size + 1) 31 (iaC st it a2 n2 c2 a3 n3 c3 a4 n4 c4 a5 n5 c5) (iaC su iu b2 m2 d2 b3 m3 d3 b4 m4 d4 b5 m5 d5) := hHeld.below hb
          clear hb
          refine hK.out _ _ hS (fun hHeld => ?_)
          clear hK K
          refine fast_move 3 14 (.bool true) (.tmp 13) (fuel := 23) rfl rfl (by kernel_rfl) (by kernel_rfl) (by kernel_rfl) (fun _ _ _ h => h) (by kernel_rfl) (by kernel_rfl) (by first | exact Or.inl rfl | exact Or.inr rfl) hHeld (tf 15 27) (by kernel_rfl) (fun K hK => ?_)
          go_big_move
          refine hK.out _ ?_
          clear hK K
          refine fast_yields 4 15 (.agg #[.int .i64 st, .int .i64 it, .slice a2 n2 c2, .slice a3 n3 c3, .slice a4 n4 c4, .slice a5 n5 c5]) (fuel := 22) rfl rfl (by kernel_rfl) (by kernel_rfl) (by kernel_rfl) (fun _ _ _ h => h) (yieldsIf_load_mid (by rfl) _ _ rfl (w.heap.size) 0 rfl (iaC st it a2 n2 c2 a3 n3 c3 a4 n4 c4 a5 n5 c5).toList _ (fun w hw => hw.2.1.range) Tryz.underlying31 rfl (by kernel_rfl)) hHeld (tf 31 27) (by kernel_rfl) (fun K hK => ?_)
          go_big_move
          refine hK.out _ ?_
          clear hK K
          refine fast_move 5 16 (.int .i64 v) (.tmp 2) (fuel := 21) rfl rfl (by kernel_rfl) (by kernel_rfl) (by kernel_rfl) (fun _ _ _ h => h) (by kernel_rfl) (by kernel_rfl) (by first | exact Or.inl rfl | exact Or.inr rfl) hHeld (tf 63 27) (by kernel_rfl) (fun K hK => ?_)
          go_big_move
          refine hK.out _ ?_
          clear hK K
          refine wpAnyH_ready (rs := [6]) (fuel := 20) (by kernel_rfl) (by simp) ?_
          refine ready_want rfl (by kernel_rfl) (tf 127 27) (by kernel_rfl) (fun K hK => ?_) AllReadyH.nil
          simp only [List.getElem_toArray, List.getElem_cons_succ, List.getElem_cons_zero]
          go_big_op
          refine (CA.out _).mono ?_
          rintro e w2 ⟨rfl, hb⟩
          have hS : Box2 w w2 w.heap.size (w.heap.size + 1) 31 (iaC st it a2 n2 c2 a3 n3 c3 a4 n4 c4 a5 n5 c5) (iaC su iu b2 m2 d2 b3 m3 d3 b4 m4 d4 b5 m5 d5) := hHeld.below hb
          clear hb
          refine hK.out _ _ hS (fun hHeld => ?_)
          clear hK K
          refine fast2 7 18 (.bool true) (.tmp 14) (.bool true) (.tmp 17) (.bool true) (fuel := 19) rfl rfl (by kernel_rfl) (by kernel_rfl) (by kernel_rfl) (fun _ _ _ h => h) (by kernel_rfl) (by kernel_rfl) (by kernel_rfl) (fun ρ hr0 hr1 hc w hSw => by simp [go_sem, hc, hr0, hr1]) hHeld (tf 255 27) (by kernel_rfl) (fun K hK => ?_)
          go_big_move
          refine hK.out _ ?_
          clear hK K
          refine fast_move 8 19 (.bool true) (.tmp 18) (fuel := 18) rfl rfl (by kernel_rfl) (by kernel_rfl) (by kernel_rfl) (fun _ _ _ h => h) (by kernel_rfl) (by kernel_rfl) (by first | exact Or.inl rfl | exact Or.inr rfl) hHeld (tf 511 27) (by kernel_rfl) (fun K hK => ?_)
          go_big_move
          refine hK.out _ ?_
          clear hK K
          refine fast_yields 9 20 (.agg #[.int .i64 su, .int .i64 iu, .slice b2 m2 d2, .slice b3 m3 d3, .slice b4 m4 d4, .slice b5 m5 d5]) (fuel := 17) rfl rfl (by kernel_rfl) (by kernel_rfl) (by kernel_rfl) (fun _ _ _ h => h) (yieldsIf_load_mid (by rfl) _ _ rfl (w.heap.size + 1) 0 rfl (iaC su iu b2 m2 d2 b3 m3 d3 b4 m4 d4 b5 m5 d5).toList _ (fun w hw => hw.2.2.range) Tryz.underlying31 rfl (by kernel_rfl)) hHeld (tf 1023 27) (by kernel_rfl) (fun K hK => ?_)
          go_big_move
          refine hK.out _ ?_
          clear hK K
          refine fast_move 10 21 (.int .i64 u) (.tmp 3) (fuel := 16) rfl rfl (by kernel_rfl) (by kernel_rfl) (by kernel_rfl) (fun _ _ _ h => h) (by kernel_rfl) (by kernel_rfl) (by first | exact Or.inl rfl | exact Or.inr rfl) hHeld (tf 2047 27) (by kernel_rfl) (fun K hK => ?_)
          go_big_move
          refine hK.out _ ?_
          clear hK K
          refine wpAnyH_ready (rs := [11]) (fuel := 15) (by kernel_rfl) (by simp) ?_
          refine ready_want rfl (by kernel_rfl) (tf 4095 27) (by kernel_rfl) (fun K hK => ?_) AllReadyH.nil
          simp only [List.getElem_toArray, List.getElem_cons_succ, List.getElem_cons_zero]
          go_big_op
          refine (CB.out _).mono ?_
          rintro e w3 ⟨rfl, hb⟩
          have hS : Box2 w w3 w.heap.size (w.heap.size + 1) 31 (iaC st it a2 n2 c2 a3 n3 c3 a4 n4 c4 a5 n5 c5) (iaC su iu b2 m2 d2 b3 m3 d3 b4 m4 d4 b5 m5 d5) := hHeld.below hb
          clear hb
          refine hK.out _ _ hS (fun hHeld => ?_)
          clear hK K
          refine fast2 12 23 (.bool true) (.tmp 19) (.bool true) (.tmp 22) (.bool true) (fuel := 14) rfl rfl (by kernel_rfl) (by kernel_rfl) (by kernel_rfl) (fun _ _ _ h => h) (by kernel_rfl) (by kernel_rfl) (by kernel_rfl) (fun ρ hr0 hr1 hc w hSw => by simp [go_sem, hc, hr0, hr1]) hHeld (tf 8191 27) (by kernel_rfl) (fun K hK => ?_)
          go_big_move
          refine hK.out _ ?_
          clear hK K
          refine fast_move 13 24 (.bool true) (.tmp 23) (fuel := 13) rfl rfl (by kernel_rfl) (by kernel_rfl) (by kernel_rfl) (fun _ _ _ h => h) (by kernel_rfl) (by kernel_rfl) (by first | exact Or.inl rfl | exact Or.inr rfl) hHeld (tf 16383 27) (by kernel_rfl) (fun K hK => ?_)
          go_big_move
          refine hK.out _ ?_
          clear hK K
          refine fast_yields 14 25 (.agg #[.int .i64 st, .int .i64 it, .slice a2 n2 c2, .slice a3 n3 c3, .slice a4 n4 c4, .slice a5 n5 c5]) (fuel := 12) rfl rfl (by kernel_rfl) (by kernel_rfl) (by kernel_rfl) (fun _ _ _ h => h) (yieldsIf_load_mid (by rfl) _ _ rfl (w.heap.size) 0 rfl (iaC st it a2 n2 c2 a3 n3 c3 a4 n4 c4 a5 n5 c5).toList _ (fun w hw => hw.2.1.range) Tryz.underlying31 rfl (by kernel_rfl)) hHeld (tf 32767 27) (by kernel_rfl) (fun K hK => ?_)
          go_big_move
          refine hK.out _ ?_
          clear hK K
          refine fast_move 15 26 (.int .i64 v) (.tmp 2) (fuel := 11) rfl rfl (by kernel_rfl) (by kernel_rfl) (by kernel_rfl) (fun _ _ _ h => h) (by kernel_rfl) (by kernel_rfl) (by first | exact Or.inl rfl | exact Or.inr rfl) hHeld (tf 65535 27) (by kernel_rfl) (fun K hK => ?_)
          go_big_move
          refine hK.out _ ?_
          clear hK K
          refine fast_yields 17 28 (.agg #[.int .i64 su, .int .i64 iu, .slice b2 m2 d2, .slice b3 m3 d3, .slice b4 m4 d4, .slice b5 m5 d5]) (fuel := 10) rfl rfl (by kernel_rfl) (by kernel_rfl) (by kernel_rfl) (fun _ _ _ h => h) (yieldsIf_load_mid (by rfl) _ _ rfl (w.heap.size + 1) 0 rfl (iaC su iu b2 m2 d2 b3 m3 d3 b4 m4 d4 b5 m5 d5).toList _ (fun w hw => hw.2.2.range) Tryz.underlying31 rfl (by kernel_rfl)) hHeld (tf 196607 27) (by kernel_rfl) (fun K hK => ?_)
          go_big_move
          refine hK.out _ ?_
          clear hK K
          refine fast_move 18 29 (.int .i64 u) (.tmp 3) (fuel := 9) rfl rfl (by kernel_rfl) (by kernel_rfl) (by kernel_rfl) (fun _ _ _ h => h) (by kernel_rfl) (by kernel_rfl) (by first | exact Or.inl rfl | exact Or.inr rfl) hHeld (tf 458751 27) (by kernel_rfl) (fun K hK => ?_)
          go_big_move
          refine hK.out _ ?_
          clear hK K
          refine fast_yields 20 31 (.agg #[.int .i64 st, .int .i64 it, .slice a2 n2 c2, .slice a3 n3 c3, .slice a4 n4 c4, .slice a5 n5 c5]) (fuel := 8) rfl rfl (by kernel_rfl) (by kernel_rfl) (by kernel_rfl) (fun _ _ _ h => h) (yieldsIf_load_mid (by rfl) _ _ rfl (w.heap.size) 0 rfl (iaC st it a2 n2 c2 a3 n3 c3 a4 n4 c4 a5 n5 c5).toList _ (fun w hw => hw.2.1.range) Tryz.underlying31 rfl (by kernel_rfl)) hHeld (tf 1507327 27) (by kernel_rfl) (fun K hK => ?_)
          go_big_move
          refine hK.out _ ?_
          clear hK K
          refine fast_yields 21 32 (.agg #[.int .i64 su, .int .i64 iu, .slice b2 m2 d2, .slice b3 m3 d3, .slice b4 m4 d4, .slice b5 m5 d5]) (fuel := 7) rfl rfl (by kernel_rfl) (by kernel_rfl) (by kernel_rfl) (fun _ _ _ h => h) (yieldsIf_load_mid (by rfl) _ _ rfl (w.heap.size + 1) 0 rfl (iaC su iu b2 m2 d2 b3 m3 d3 b4 m4 d4 b5 m5 d5).toList _ (fun w hw => hw.2.2.range) Tryz.underlying31 rfl (by kernel_rfl)) hHeld (tf 3604479 27) (by kernel_rfl) (fun K hK => ?_)
          go_big_move
          refine hK.out _ ?_
          clear hK K
          refine fast_move 22 33 (.slice ra rn rc) (.tmp 4) (fuel := 6) rfl rfl (by kernel_rfl) (by kernel_rfl) (by kernel_rfl) (fun _ _ _ h => h) (by kernel_rfl) (by kernel_rfl) (by first | exact Or.inl rfl | exact Or.inr rfl) hHeld (tf 7798783 27) (by kernel_rfl) (fun K hK => ?_)
          go_big_move
          refine hK.out _ ?_
          clear hK K
          refine wpAnyH_ready (rs := [16]) (fuel := 5) (by kernel_rfl) (by simp) ?_
          refine ready_want rfl (by kernel_rfl) (tf 7864319 27) (by kernel_rfl) (fun K hK => ?_) AllReadyH.nil
          simp only [List.getElem_toArray, List.getElem_cons_succ, List.getElem_cons_zero]
          go_big_op
          refine (CO.out _ hHeld.1).mono ?_
          rintro e w4 ⟨C1, rfl, ho1, hb⟩
          have k1 := ho1
          have hS : Box2 w w4 w.heap.size (w.heap.size + 1) 31 (iaC st it a2 n2 c2 a3 n3 c3 a4 n4 c4 a5 n5 c5) (iaC su iu b2 m2 d2 b3 m3 d3 b4 m4 d4 b5 m5 d5) := hHeld.below hb
          clear hb ho1
          refine hK.out _ _ hS (fun hHeld => ?_)
          clear hK K
          refine wpAnyH_ready (rs := [19]) (fuel := 4) (by kernel_rfl) (by simp) ?_
          refine ready_want rfl (by kernel_rfl) (tf 8388607 27) (by kernel_rfl) (fun K hK => ?_) AllReadyH.nil
          simp only [List.getElem_toArray, List.getElem_cons_succ, List.getElem_cons_zero]
          go_big_op
          refine (CP.out _ hHeld.1).mono ?_
          rintro e w5 ⟨C2, rfl, ho2, hb⟩
          have k2 := ho2
          have k1x := k1.below hb
          clear k1
          have hS : Box2 w w5 w.heap.size (w.heap.size + 1) 31 (iaC st it a2 n2 c2 a3 n3 c3 a4 n4 c4 a5 n5 c5) (iaC su iu b2 m2 d2 b3 m3 d3 b4 m4 d4 b5 m5 d5) := hHeld.below hb
          clear hb ho2
          refine hK.out _ _ hS (fun hHeld => ?_)
          clear hK K
          refine wpAnyH_ready (rs := [23]) (fuel := 3) (by kernel_rfl) (by simp) ?_
          refine ready_want rfl (by kernel_rfl) (tf 16777215 27) (by kernel_rfl) (fun K hK => ?_) AllReadyH.nil
          simp only [List.getElem_toArray, List.getElem_cons_succ, List.getElem_cons_zero]
          go_big_op
          refine (CR.out _ hHeld.1).mono ?_
          rintro e w6 ⟨ad, cd, rfl, ho3, hb⟩
          have k3 := ho3
          have k1 := k1x.below hb
          have k2x := k2.below hb
          clear k1x k2
          have hS : Box2 w w6 w.heap.size (w.heap.size + 1) 31 (iaC st it a2 n2 c2 a3 n3 c3 a4 n4 c4 a5 n5 c5) (iaC su iu b2 m2 d2 b3 m3 d3 b4 m4 d4 b5 m5 d5) := hHeld.below hb
          clear hb ho3
          refine hK.out _ _ hS (fun hHeld => ?_)
          clear hK K
          refine wpAnyH_ready (rs := [24]) (fuel := 2) (by kernel_rfl) (by simp) ?_
          refine ready_want rfl (by kernel_rfl) (tf 33554431 27) (by kernel_rfl) (fun K hK => ?_) AllReadyH.nil
          simp only [List.getElem_toArray, List.getElem_cons_succ, List.getElem_cons_zero]
          go_big_op
          refine (CH.out _ _ _ _ _ _ _ k1 k2x k3).mono ?_
          rintro e w7 ⟨rfl, hb⟩
          have hS : Box2 w w7 w.heap.size (w.heap.size + 1) 31 (iaC st it a2 n2 c2 a3 n3 c3 a4 n4 c4 a5 n5 c5) (iaC su iu b2 m2 d2 b3 m3 d3 b4 m4 d4 b5 m5 d5) := hHeld.below hb
          clear hb k1 k2x k3
          refine hK.out _ _ hS (fun hHeld => ?_)
          clear hK K
          refine fast2 25 36 (.bool true) (.tmp 24) (.bool true) (.tmp 35) (.bool true) (fuel := 1) rfl rfl (by kernel_rfl) (by kernel_rfl) (by kernel_rfl) (fun _ _ _ h => h) (by kernel_rfl) (by kernel_rfl) (by kernel_rfl) (fun ρ hr0 hr1 hc w hSw => by simp [go_sem, hc, hr0, hr1]) hHeld (tf 67108863 27) (by kernel_rfl) (fun K hK => ?_)
          go_big_move
          refine hK.out _ ?_
          clear hK K
          refine fast_move 26 10 (.bool true) (.tmp 36) (fuel := 0) rfl rfl (by kernel_rfl) (by kernel_rfl) (by kernel_rfl) (fun _ _ _ h => h) (by kernel_rfl) (by kernel_rfl) (by first | exact Or.inl rfl | exact Or.inr rfl) hHeld (tf 134217727 27) (by kernel_rfl) (fun K hK => ?_)
          go_big_move
          refine hK.out _ ?_
          clear hK K
          refine wpAnyH_done (by kernel_rfl) ?_ _
          clear SD
          go_wp2_with fail
          go_ret
          exact ⟨rfl, hHeld.1⟩

end Go.Proofs.YtdbgjgeglgipiaaGreat
