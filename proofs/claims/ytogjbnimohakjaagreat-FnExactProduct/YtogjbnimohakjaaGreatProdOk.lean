import Derived.Test.YtogjbnimohakjaaGreatProdDef
import Derived.Test.YtogjbnimohakjaaGreatSpecProdMath
import Derived.Test.YtogjbnimohakjaaGreatImplProduct
import Derived.Test.YtogjbnimohakjaaGreatTwoLaw
import Derived.Test.YtogjbnimohakjaaGreatIaLaw
import Derived.Test.YtogjbnimohakjaaGreatStates
import Derived.Test.YtogjbnimohakjaaGreatFast
import Derived.Test.YtogjbnimohakjaaGreatJoin2
/-
  The product of two that fit is right, where it has no more steps than it may. No conditions beyond these; nothing here speaks of the program.
-/
namespace Go.Proofs.YtogjbnimohakjaaGreat
open Go.RowKit

theorem setOk_of {xs : List Int} (hr : xs.Pairwise (· < ·)) (hl : ∀ x ∈ xs, 0 ≤ x ∧ x ≤ 11) : setOkB xs = true := by
  refine setOk_all (n := xs.length) (k := xs.length) rfl (Nat.lt_irrefl _) (fun j hj => ?_)
  have hm : xs.getD j 0 ∈ xs := by
    rw [List.getD_eq_getElem?_getD, List.getElem?_eq_getElem hj]
    exact List.getElem_mem hj
  have hb : btw (xs.getD j 0) 0 11 = true := by
    have := hl _ hm
    simp [btw]
    exact this
  by_cases h0 : 0 < j
  · refine good_yes (x := xs.getD j 0) (y := xs.getD (j - 1) 0) rfl rfl hb ?_
    have h1 : j - 1 < xs.length := by omega
    rw [List.getD_eq_getElem?_getD, List.getElem?_eq_getElem h1, List.getD_eq_getElem?_getD, List.getElem?_eq_getElem hj]
    exact List.pairwise_iff_getElem.1 hr (j - 1) j h1 hj (by omega)
  · exact good_zero (x := xs.getD j 0) rfl hb h0

theorem apart_of {a : IaD} (h1 : ∀ x, x ∈ a.ins → x ∈ a.outs → False) (h2 : ∀ x, x ∈ a.ins → x ∈ a.hids → False) (h3 : ∀ x, x ∈ a.outs → x ∈ a.hids → False) : apartB a = true := by
  have nil : ∀ xs ys : List Int, (∀ x, x ∈ xs → x ∈ ys → False) → (meetOf xs ys).length = 0 := by
    intro xs ys h
    rw [List.length_eq_zero_iff]
    apply List.eq_nil_iff_forall_not_mem.2
    intro x hx
    have := mem_meetOf.1 hx
    exact h x this.1 this.2
  unfold apartB
  rw [decide_eq_true_eq, nil _ _ h1, nil _ _ h2, nil _ _ h3]

theorem iaOk_apart {a : IaD} (h : iaOkB a = true) : (∀ x, x ∈ a.ins → x ∈ a.outs → False) ∧ (∀ x, x ∈ a.ins → x ∈ a.hids → False) ∧ (∀ x, x ∈ a.outs → x ∈ a.hids → False) := by
  simp only [iaOkB, apartB, Bool.and_eq_true, decide_eq_true_eq] at h
  have hz := h.1.2
  have nil : ∀ xs ys : List Int, (meetOf xs ys).length = 0 → ∀ x, x ∈ xs → x ∈ ys → False := by
    intro xs ys e x h1 h2
    have hm := mem_meetOf.2 ⟨h1, h2⟩
    rw [List.length_eq_zero_iff.1 e] at hm
    cases hm
  exact ⟨nil _ _ (by omega), nil _ _ (by omega), nil _ _ (by omega)⟩

/-- Two steps from one state with one input are one step. -/
theorem stepsB_one (a : IaD) : ∀ (ss : List St), stepsB a ss = true → ss.Pairwise (fun y x => y.1 = x.1 → y.2.1 = x.2.1 → x.2.1 ∈ a.ins → False)
  | [], _ => List.Pairwise.nil
  | [x], _ => by simp
  | y :: x :: r, h => by
    have hr := stepsB_rise a _ h
    simp only [stepsB, Bool.and_eq_true] at h
    have ih := stepsB_one a (x :: r) h.2
    have hn := h.1.2
    simp only [nextB, Bool.and_eq_true, Bool.not_eq_true', Bool.and_eq_false_iff, decide_eq_true_eq, decide_eq_false_iff_not, hasB] at hn
    have key : y.1 = x.1 → y.2.1 = x.2.1 → x.2.1 ∈ a.ins → False := by
      intro e1 e2 hm
      rcases hn.2 with (k | k) | k
      · exact k e1
      · exact k e2
      · exact k hm
    refine List.pairwise_cons.2 ⟨fun z hz => ?_, ih⟩
    rcases List.mem_cons.1 hz with rfl | hz
    · exact key
    · intro e1 e2 hm
      have h1 := (List.pairwise_cons.1 hr).1 x (by simp)
      have h2 := (List.pairwise_cons.1 (List.pairwise_cons.1 hr).2).1 z hz
      simp only [Ahead] at h1 h2
      have q1 : y.1 = x.1 := by omega
      have q2 : y.2.1 = x.2.1 := by omega
      exact key q1 q2 (by rw [← q2, e2]; exact hm)

theorem iaOk_one {a : IaD} (h : iaOkB a = true) {x y : St} (hx : x ∈ a.steps) (hy : y ∈ a.steps) (e1 : x.1 = y.1) (e2 : x.2.1 = y.2.1) (hm : x.2.1 ∈ a.ins) : x = y := by
  have hp := stepsB_one a _ (iaOk_steps h)
  obtain ⟨i, hi, rfl⟩ := List.getElem_of_mem hx
  obtain ⟨j, hj, rfl⟩ := List.getElem_of_mem hy
  rcases Nat.lt_trichotomy i j with k | k | k
  · exact (List.pairwise_iff_getElem.1 hp i j hi hj k e1 e2 (by rw [← e2]; exact hm)).elim
  · subst k
    rfl
  · exact (List.pairwise_iff_getElem.1 hp j i hj hi k e1.symm e2.symm hm).elim

/-- Steps that rise, are good, and of which no two have one beginning and one input, are right. -/
theorem stepsB_of (a : IaD) : ∀ (ss : List St), ss.Pairwise Ahead → (∀ x ∈ ss, goodStepB a x = true) → ss.Pairwise (fun y x => y.1 = x.1 → y.2.1 = x.2.1 → x.2.1 ∈ a.ins → False) → stepsB a ss = true
  | [], _, _, _ => rfl
  | [x], _, hg, _ => by simpa [stepsB] using hg x (by simp)
  | y :: x :: r, hr, hg, ho => by
    have ih := stepsB_of a (x :: r) (List.pairwise_cons.1 hr).2 (fun z hz => hg z (List.mem_cons_of_mem _ hz)) (List.pairwise_cons.1 ho).2
    have h1 := (List.pairwise_cons.1 hr).1 x (by simp)
    have h2 := (List.pairwise_cons.1 ho).1 x (by simp)
    have hn : nextB a y x = true := by
      simp only [nextB, Bool.and_eq_true, Bool.not_eq_true', Bool.and_eq_false_iff, decide_eq_true_eq, decide_eq_false_iff_not, hasB]
      refine ⟨(ahead_cmp y x).2 h1, ?_⟩
      by_cases e1 : y.1 = x.1
      · by_cases e2 : y.2.1 = x.2.1
        · exact .inr (fun hm => h2 e1 e2 hm)
        · exact .inl (.inr e2)
      · exact .inl (.inl e1)
    simp only [stepsB, Bool.and_eq_true]
    exact ⟨⟨hg y (by simp), hn⟩, ih⟩

/-- What two that fit have in common. -/
theorem fit_apart {a b : IaD} (h : fitB a b = true) : (∀ x, x ∈ a.ins → x ∈ b.ins → False) ∧ (∀ x, x ∈ a.outs → x ∈ b.outs → False) ∧ (∀ x, x ∈ a.hids → x ∈ actsOf b → False) ∧ (∀ x, x ∈ b.hids → x ∈ actsOf a → False) := by
  have hab := h
  unfold fitB at hab
  simp only [Bool.and_eq_true, decide_eq_true_eq] at hab
  obtain ⟨⟨_, hf⟩, _⟩ := hab
  unfold fitActs at hf
  simp only [Bool.and_eq_true, decide_eq_true_eq, List.length_eq_zero_iff] at hf
  obtain ⟨⟨⟨f1, f2⟩, f3⟩, f4⟩ := hf
  have nil : ∀ xs ys : List Int, meetOf xs ys = [] → ∀ x, x ∈ xs → x ∈ ys → False := by
    intro xs ys e x h1 h2
    have hm := mem_meetOf.2 ⟨h1, h2⟩
    rw [e] at hm
    cases hm
  exact ⟨nil _ _ f1, nil _ _ f2, nil _ _ f3, nil _ _ f4⟩

theorem mem_shOf {a b : IaD} {x : Int} : x ∈ shOf a b ↔ (x ∈ a.ins ∧ x ∈ b.outs) ∨ (x ∈ a.outs ∧ x ∈ b.ins) := by
  unfold shOf
  rw [mem_joinOf, mem_meetOf, mem_meetOf]

theorem pair_low {su p q n : Int} (hp : 0 ≤ p ∧ p ≤ n - 1) (hq : 0 ≤ q ∧ q ≤ su - 1) : 0 ≤ p * su + q ∧ p * su + q ≤ n * su - 1 := by
  have h0 : 0 ≤ p * su := Int.mul_nonneg hp.1 (by omega)
  have h1 : (p + 1) * su ≤ n * su := Int.mul_le_mul_of_nonneg_right (by omega) (by omega)
  rw [Int.add_mul, Int.one_mul] at h1
  omega

set_option maxHeartbeats 1600000 in
theorem prod_ok {a b : IaD} (hp : prodB a b = true) : iaOkB (productOf a b) = true := by
  unfold prodB at hp
  rw [Bool.and_eq_true, decide_eq_true_eq] at hp
  obtain ⟨hf, hlen⟩ := hp
  obtain ⟨ha, hb, hm⟩ := fitB_ok hf
  obtain ⟨p1, p2, p3, p4⟩ := fit_apart hf
  obtain ⟨a1, a2, a3⟩ := iaOk_apart ha
  obtain ⟨b1, b2, b3⟩ := iaOk_apart hb
  have sA := iaOk_states ha
  have sB := iaOk_states hb
  have iA := iaOk_init ha
  have iB := iaOk_init hb
  have eA := iaOk_ends ha
  have eB := iaOk_ends hb
  obtain ⟨oA1, oA2, oA3⟩ := iaOk_sets ha
  obtain ⟨oB1, oB2, oB3⟩ := iaOk_sets hb
  have mlow := mul_low sA sB
  simp only [iaOkB, setsB, Bool.and_eq_true, decide_eq_true_eq]
  have memI : ∀ x, x ∈ (productOf a b).ins ↔ (x ∈ a.ins ∨ x ∈ b.ins) ∧ ¬ x ∈ shOf a b := fun x => by
    show x ∈ lessOf (joinOf a.ins b.ins) (shOf a b) ↔ _
    rw [mem_lessOf, mem_joinOf]
  have memO : ∀ x, x ∈ (productOf a b).outs ↔ (x ∈ a.outs ∨ x ∈ b.outs) ∧ ¬ x ∈ shOf a b := fun x => by
    show x ∈ lessOf (joinOf a.outs b.outs) (shOf a b) ↔ _
    rw [mem_lessOf, mem_joinOf]
  have memH : ∀ x, x ∈ (productOf a b).hids ↔ (x ∈ a.hids ∨ x ∈ b.hids) ∨ x ∈ shOf a b := fun x => by
    show x ∈ joinOf (joinOf a.hids b.hids) (shOf a b) ↔ _
    rw [mem_joinOf, mem_joinOf]
  -- every step of both
  have stepA : ∀ x ∈ a.steps, hasB (shOf a b) x.2.1 = false → (x.2.1 ∈ (productOf a b).ins ∨ x.2.1 ∈ (productOf a b).outs ∨ x.2.1 ∈ (productOf a b).hids) := fun x hx hs => by
    have hn : ¬ x.2.1 ∈ shOf a b := by simpa [hasB] using hs
    rw [memI, memO, memH]
    rcases (eA x hx).2.2 with k | k | k
    · exact .inl ⟨.inl k, hn⟩
    · exact .inr (.inl ⟨.inl k, hn⟩)
    · exact .inr (.inr (.inl (.inl k)))
  have stepB : ∀ x ∈ b.steps, hasB (shOf a b) x.2.1 = false → (x.2.1 ∈ (productOf a b).ins ∨ x.2.1 ∈ (productOf a b).outs ∨ x.2.1 ∈ (productOf a b).hids) := fun x hx hs => by
    have hn : ¬ x.2.1 ∈ shOf a b := by simpa [hasB] using hs
    rw [memI, memO, memH]
    rcases (eB x hx).2.2 with k | k | k
    · exact .inl ⟨.inr k, hn⟩
    · exact .inr (.inl ⟨.inr k, hn⟩)
    · exact .inr (.inr (.inl (.inr k)))
  have good : ∀ u ∈ prodL a b, goodStepB (productOf a b) u = true := fun u hu => by
    have mk : ∀ p q p' q' : Int, (0 ≤ p ∧ p ≤ a.states - 1) → (0 ≤ q ∧ q ≤ b.states - 1) → (0 ≤ p' ∧ p' ≤ a.states - 1) → (0 ≤ q' ∧ q' ≤ b.states - 1) → ∀ x : Int, (x ∈ (productOf a b).ins ∨ x ∈ (productOf a b).outs ∨ x ∈ (productOf a b).hids) → goodStepB (productOf a b) (p * b.states + q, x, p' * b.states + q') = true := by
      intro p q p' q' h1 h2 h3 h4 x hx
      have k1 := pair_low h1 h2
      have k2 := pair_low h3 h4
      have e : (productOf a b).states = a.states * b.states := rfl
      simp only [goodStepB, stateB, btw, Bool.and_eq_true, Bool.or_eq_true, decide_eq_true_eq, hasB, e]
      exact ⟨⟨k1, k2⟩, by rcases hx with k | k | k <;> simp [k]⟩
    unfold prodL at hu
    rw [List.mem_append, List.mem_append] at hu
    rcases hu with (hu | hu) | hu
    · obtain ⟨x, hx, hs, hu⟩ := mem_aloneA.1 hu
      obtain ⟨q, hq, rfl⟩ := mem_besideA.1 hu
      exact mk _ _ _ _ (eA x hx).1 (by omega) (eA x hx).2.1 (by omega) _ (stepA x hx hs)
    · obtain ⟨y, hy, hs, hu⟩ := mem_aloneB.1 hu
      obtain ⟨p, hp, rfl⟩ := mem_besideB.1 hu
      exact mk _ _ _ _ (by omega) (eB y hy).1 (by omega) (eB y hy).2.1 _ (stepB y hy hs)
    · obtain ⟨x, hx, hs, hu⟩ := mem_togetherL.1 hu
      obtain ⟨y, hy, e, rfl⟩ := mem_besideT.1 hu
      exact mk _ _ _ _ (eA x hx).1 (eB y hy).1 (eA x hx).2.1 (eB y hy).2.1 _ (.inr (.inr ((memH _).2 (.inr (by simpa [hasB] using hs)))))
  have one : (prodSteps a b).Pairwise (fun y x => y.1 = x.1 → y.2.1 = x.2.1 → x.2.1 ∈ (productOf a b).ins → False) := by
    refine (List.Pairwise.and_mem.1 (prodSteps_ahead hf)).imp ?_
    intro u v ⟨hu, hv, huv⟩ e1 e2 hI
    rw [mem_prodSteps] at hu hv
    rw [memI] at hI
    obtain ⟨hI, hns⟩ := hI
    have hne : u ≠ v := huv.ne
    have onlyA : ∀ z : Int, z ∈ a.ins → ¬ z ∈ shOf a b → ∀ y ∈ b.steps, y.2.1 = z → False := by
      intro z h1 h2 y hy ez
      rw [mem_shOf] at h2
      rcases (eB y hy).2.2 with k | k | k <;> rw [ez] at k
      · exact p1 _ h1 k
      · exact h2 (.inl ⟨h1, k⟩)
      · exact p4 _ k (mem_actsOf.2 (.inl h1))
    have onlyB : ∀ z : Int, z ∈ b.ins → ¬ z ∈ shOf a b → ∀ y ∈ a.steps, y.2.1 = z → False := by
      intro z h1 h2 y hy ez
      rw [mem_shOf] at h2
      rcases (eA y hy).2.2 with k | k | k <;> rw [ez] at k
      · exact p1 _ k h1
      · exact h2 (.inr ⟨k, h1⟩)
      · exact p3 _ k (mem_actsOf.2 (.inl h1))
    have noT : ∀ w ∈ prodL a b, w.2.1 = v.2.1 → (∃ x ∈ a.steps, ∃ q : Nat, q < b.states.toNat ∧ w = (x.1 * b.states + (q : Int), x.2.1, x.2.2 * b.states + (q : Int))) ∨ (∃ y ∈ b.steps, ∃ p : Nat, p < a.states.toNat ∧ w = ((p : Int) * b.states + y.1, y.2.1, (p : Int) * b.states + y.2.2)) := by
      intro w hw ew
      unfold prodL at hw
      rw [List.mem_append, List.mem_append] at hw
      rcases hw with (hw | hw) | hw
      · obtain ⟨x, hx, hs, hw⟩ := mem_aloneA.1 hw
        obtain ⟨q, hq, rfl⟩ := mem_besideA.1 hw
        exact .inl ⟨x, hx, q, hq, rfl⟩
      · obtain ⟨y, hy, hs, hw⟩ := mem_aloneB.1 hw
        obtain ⟨p, hp, rfl⟩ := mem_besideB.1 hw
        exact .inr ⟨y, hy, p, hp, rfl⟩
      · obtain ⟨x, hx, hs, hw⟩ := mem_togetherL.1 hw
        obtain ⟨y, hy, e, rfl⟩ := mem_besideT.1 hw
        exact absurd (by rw [← ew]; simpa [hasB] using hs) hns
    rcases noT u hu e2 with ⟨x, hx, q, hq, rfl⟩ | ⟨y, hy, p, hp, rfl⟩ <;> rcases noT v hv rfl with ⟨x', hx', q', hq', rfl⟩ | ⟨y', hy', p', hp', rfl⟩
    · simp only at e1 e2 hI hns
      rcases hI with hI | hI
      · obtain ⟨d1, d2⟩ := divmod e1 (by omega) (by omega)
        have := iaOk_one ha hx hx' d1 e2 (by rw [e2]; exact hI)
        subst this
        exact hne (by rw [d2])
      · exact onlyB _ hI hns x' hx' rfl
    · simp only at e1 e2 hI hns
      rcases hI with hI | hI
      · exact onlyA _ hI hns y' hy' rfl
      · exact onlyB _ hI hns x hx e2
    · simp only at e1 e2 hI hns
      rcases hI with hI | hI
      · exact onlyA _ hI hns y hy e2
      · exact onlyB _ hI hns x' hx' rfl
    · simp only at e1 e2 hI hns
      rcases hI with hI | hI
      · exact onlyA _ hI hns y' hy' rfl
      · have q1 := (eB y hy).1
        have q2 := (eB y' hy').1
        obtain ⟨d1, d2⟩ := divmod e1 (by omega) (by omega)
        have := iaOk_one hb hy hy' d2 e2 (by rw [e2]; exact hI)
        subst this
        exact hne (by rw [d1])
  have low : ∀ x, (x ∈ a.ins ∨ x ∈ a.outs ∨ x ∈ a.hids ∨ x ∈ b.ins ∨ x ∈ b.outs ∨ x ∈ b.hids) → 0 ≤ x ∧ x ≤ 11 := by
    intro x h
    rcases h with h | h | h | h | h | h
    · exact setOk_low oA1 x h
    · exact setOk_low oA2 x h
    · exact setOk_low oA3 x h
    · exact setOk_low oB1 x h
    · exact setOk_low oB2 x h
    · exact setOk_low oB3 x h
  have lowS : ∀ x, x ∈ shOf a b → 0 ≤ x ∧ x ≤ 11 := by
    intro x h
    rw [mem_shOf] at h
    rcases h with h | h
    · exact low x (.inl h.1)
    · exact low x (.inr (.inl h.1))
  refine ⟨⟨⟨⟨?_, ?_⟩, ⟨⟨⟨?_, ?_⟩, ?_⟩, ?_⟩⟩, ?_⟩, ?_⟩
  · show btw (a.states * b.states) 1 40 = true
    simp [btw]
    omega
  · have := pair_low iA iB
    show stateB (productOf a b) (a.init * b.states + b.init) = true
    have e : (productOf a b).states = a.states * b.states := rfl
    simp [stateB, btw, e]
    omega
  · refine setOk_of (putAll_rises List.Pairwise.nil) (fun x hx => ?_)
    rcases ((memI x).1 hx).1 with k | k
    · exact low x (.inl k)
    · exact low x (.inr (.inr (.inr (.inl k))))
  · refine setOk_of (putAll_rises List.Pairwise.nil) (fun x hx => ?_)
    rcases ((memO x).1 hx).1 with k | k
    · exact low x (.inr (.inl k))
    · exact low x (.inr (.inr (.inr (.inr (.inl k)))))
  · refine setOk_of (putAll_rises (putAll_rises List.Pairwise.nil)) (fun x hx => ?_)
    rcases (memH x).1 hx with (k | k) | k
    · exact low x (.inr (.inr (.inl k)))
    · exact low x (.inr (.inr (.inr (.inr (.inr k)))))
    · exact lowS x k
  · show (prodSteps a b).length ≤ 400
    unfold prodSteps
    rw [sortS_len]
    exact hlen
  · refine apart_of (fun x h1 h2 => ?_) (fun x h1 h2 => ?_) (fun x h1 h2 => ?_)
    · rw [memI] at h1
      rw [memO] at h2
      have hn := h1.2
      rw [mem_shOf] at hn
      rcases h1.1 with k | k <;> rcases h2.1 with m | m
      · exact a1 x k m
      · exact hn (.inl ⟨k, m⟩)
      · exact hn (.inr ⟨m, k⟩)
      · exact b1 x k m
    · rw [memI] at h1
      rw [memH] at h2
      rcases h2 with (m | m) | m
      · rcases h1.1 with k | k
        · exact a2 x k m
        · exact p3 x m (mem_actsOf.2 (.inl k))
      · rcases h1.1 with k | k
        · exact p4 x m (mem_actsOf.2 (.inl k))
        · exact b2 x k m
      · exact h1.2 m
    · rw [memO] at h1
      rw [memH] at h2
      rcases h2 with (m | m) | m
      · rcases h1.1 with k | k
        · exact a3 x k m
        · exact p3 x m (mem_actsOf.2 (.inr (.inl k)))
      · rcases h1.1 with k | k
        · exact p4 x m (mem_actsOf.2 (.inr (.inl k)))
        · exact b3 x k m
      · exact h1.2 m
  · exact stepsB_of _ _ (prodSteps_ahead hf) (fun x hx => good x (mem_prodSteps.1 hx)) one

/-- A product has no more than an automaton may. -/
theorem prod_small {a b : IaD} (_ : Small a) (_ : Small b) : (prodIa a b).ins.length ≤ 1048576 ∧ (prodIa a b).outs.length ≤ 1048576 ∧ (prodIa a b).hids.length ≤ 1048576 ∧ (prodIa a b).steps.length ≤ 1048576 := by
  unfold prodIa
  by_cases h : prodB a b = true
  · rw [if_pos h]
    have ok := prod_ok h
    obtain ⟨o1, o2, o3⟩ := iaOk_sets ok
    have l1 : (productOf a b).ins.length ≤ 12 := rise_low12 (putAll_rises List.Pairwise.nil) (setOk_low o1)
    have l2 : (productOf a b).outs.length ≤ 12 := rise_low12 (putAll_rises List.Pairwise.nil) (setOk_low o2)
    have l3 : (productOf a b).hids.length ≤ 12 := rise_low12 (putAll_rises (putAll_rises List.Pairwise.nil)) (setOk_low o3)
    have l4 := iaOk_len ok
    exact ⟨by omega, by omega, by omega, by omega⟩
  · rw [if_neg h]
    simp [noIa]

end Go.Proofs.YtogjbnimohakjaaGreat

/-
  The walk of the law FnExactProduct: it returns true at every argument and writes nothing that was there. Conditions: none.
-/
namespace Go.Proofs.YtogjbnimohakjaaGreat
open Go.RowKit

/-- The world of the first answer kept, both copies in their boxes. -/
def LawP (w5 W : World) (p q bp bq : Nat) (a b : IaD) (C D : Array Value) : Prop :=
  Below w5.heap.size w5 W ∧ (VarIs W p C 32 ∧ IaAt W bp a (.agg C)) ∧ (VarIs W q D 32 ∧ IaAt W bq b (.agg D))

theorem LawP.below {w5 W W' : World} {p q bp bq : Nat} {a b : IaD} {C D : Array Value} (h : LawP w5 W p q bp bq a b C D) (hb : Below W.heap.size W W') : LawP w5 W' p q bp bq a b C D :=
  ⟨h.1.trans (hb.mono h.1.size), ⟨h.2.1.1.below hb, h.2.1.2.below hb⟩, ⟨h.2.2.1.below hb, h.2.2.2.below hb⟩⟩

theorem LawP.drew {w5 W : World} {p q bp bq : Nat} {a b : IaD} {C D : Array Value} (h : LawP w5 W p q bp bq a b C D) : LawP w5 W.drew p q bp bq a b C D :=
  ⟨h.1.drew, ⟨h.2.1.1, h.2.1.2.drew⟩, ⟨h.2.2.1, h.2.2.2.drew⟩⟩

/-- The same with the second answer in its box. -/
def LawG (w5 W : World) (p q bp bq : Nat) (a b : IaD) (C D : Array Value) (g bg : Nat) (t : IaD) (G : Array Value) : Prop :=
  LawP w5 W p q bp bq a b C D ∧ VarIs W g G 32 ∧ IaOwn W bg t (.agg G)

theorem LawG.below {w5 W W' : World} {p q bp bq g bg : Nat} {a b t : IaD} {C D G : Array Value} (h : LawG w5 W p q bp bq a b C D g bg t G) (hb : Below W.heap.size W W') : LawG w5 W' p q bp bq a b C D g bg t G :=
  ⟨h.1.below hb, h.2.1.below hb, h.2.2.below hb⟩

theorem LawG.drew {w5 W : World} {p q bp bq g bg : Nat} {a b t : IaD} {C D G : Array Value} (h : LawG w5 W p q bp bq a b C D g bg t G) : LawG w5 W.drew p q bp bq a b C D g bg t G :=
  ⟨h.1.drew, h.2.1, h.2.2.below (Below.refl _ _).drew⟩

/-- Behind the marks: the world of the first answer kept, the second one's box. -/
def LawM (w5 W : World) (g bg : Nat) (t : IaD) (G : Array Value) : Prop :=
  Below w5.heap.size w5 W ∧ VarIs W g G 32 ∧ IaOwn W bg t (.agg G)

theorem LawM.below {w5 W W' : World} {g bg : Nat} {t : IaD} {G : Array Value} (h : LawM w5 W g bg t G) (hb : Below W.heap.size W W') : LawM w5 W' g bg t G :=
  ⟨h.1.trans (hb.mono h.1.size), h.2.1.below hb, h.2.2.below hb⟩

theorem LawM.drew {w5 W : World} {g bg : Nat} {t : IaD} {G : Array Value} (h : LawM w5 W g bg t G) : LawM w5 W.drew g bg t G :=
  ⟨h.1.drew, h.2.1, h.2.2.below (Below.refl _ _).drew⟩

set_option maxRecDepth 20000 in
set_option maxHeartbeats 12800000 in
theorem walk_FnExactProduct (st it : Int) (a2 : Option Addr) (n2 c2 : Nat) (z2 : List Int) (a3 : Option Addr) (n3 c3 : Nat) (z3 : List Int) (a4 : Option Addr) (n4 c4 : Nat) (z4 : List Int) (a5 : Option Addr) (n5 c5 : Nat) (z5 : List St)
    (su iu : Int) (b2 : Option Addr) (m2 d2 : Nat) (y2 : List Int) (b3 : Option Addr) (m3 d3 : Nat) (y3 : List Int) (b4 : Option Addr) (m4 d4 : Nat) (y4 : List Int) (b5 : Option Addr) (m5 d5 : Nat) (y5 : List St) (w : World)
    (i2 : IsRow .i64 w a2 n2 c2 z2) (i3 : IsRow .i64 w a3 n3 c3 z3) (i4 : IsRow .i64 w a4 n4 c4 z4) (i5 : IsRowS w a5 n5 c5 z5) (j2 : IsRow .i64 w b2 m2 d2 y2) (j3 : IsRow .i64 w b3 m3 d3 y3) (j4 : IsRow .i64 w b4 m4 d4 y4) (j5 : IsRowS w b5 m5 d5 y5) :
    Calls Tryz.prog 11 #[.agg #[.int .i64 st, .int .i64 it, .slice a2 n2 c2, .slice a3 n3 c3, .slice a4 n4 c4, .slice a5 n5 c5], .agg #[.int .i64 su, .int .i64 iu, .slice b2 m2 d2, .slice b3 m3 d3, .slice b4 m4 d4, .slice b5 m5 d5]] w fun e w' => e = .returned (.bool true) ∧ Below w.heap.size w w' := by
  obtain ⟨ins, hins⟩ : ∃ l, l = z2.take n2 := ⟨_, rfl⟩
  obtain ⟨outs, houts⟩ : ∃ l, l = z3.take n3 := ⟨_, rfl⟩
  obtain ⟨hids, hhids⟩ : ∃ l, l = z4.take n4 := ⟨_, rfl⟩
  obtain ⟨steps, hsteps⟩ : ∃ l, l = z5.take n5 := ⟨_, rfl⟩
  obtain ⟨jns, hjns⟩ : ∃ l, l = y2.take m2 := ⟨_, rfl⟩
  obtain ⟨juts, hjuts⟩ : ∃ l, l = y3.take m3 := ⟨_, rfl⟩
  obtain ⟨jids, hjids⟩ : ∃ l, l = y4.take m4 := ⟨_, rfl⟩
  obtain ⟨jteps, hjteps⟩ : ∃ l, l = y5.take m5 := ⟨_, rfl⟩
  have r2 := i2.row
  rw [← hins] at r2
  have l2 := i2.len1
  have e2 := r2.1
  have r3 := i3.row
  rw [← houts] at r3
  have l3 := i3.len1
  have e3 := r3.1
  have r4 := i4.row
  rw [← hhids] at r4
  have l4 := i4.len1
  have e4 := r4.1
  have r5 := i5.row
  rw [← hsteps] at r5
  have l5 := i5.len1
  have e5 := r5.1
  have q2 := j2.row
  rw [← hjns] at q2
  have o2 := j2.len1
  have k2 := q2.1
  have q3 := j3.row
  rw [← hjuts] at q3
  have o3 := j3.len1
  have k3 := q3.1
  have q4 := j4.row
  rw [← hjids] at q4
  have o4 := j4.len1
  have k4 := q4.1
  have q5 := j5.row
  rw [← hjteps] at q5
  have o5 := j5.len1
  have k5 := q5.1
  have HA : Hid (∀ W, Below w.heap.size w W → IaRow W ⟨st, it, ins, outs, hids, steps⟩ (.agg #[.int .i64 st, .int .i64 it, .slice a2 n2 c2, .slice a3 n3 c3, .slice a4 n4 c4, .slice a5 n5 c5])) := fun W hW => IaRow.below ⟨a2, n2, c2, a3, n3, c3, a4, n4, c4, a5, n5, c5, rfl, r2, r3, r4, r5⟩ hW
  have HB : Hid (∀ W, Below w.heap.size w W → IaRow W ⟨su, iu, jns, juts, jids, jteps⟩ (.agg #[.int .i64 su, .int .i64 iu, .slice b2 m2 d2, .slice b3 m3 d3, .slice b4 m4 d4, .slice b5 m5 d5])) := fun W hW => IaRow.below ⟨b2, m2, d2, b3, m3, d3, b4, m4, d4, b5, m5, d5, rfl, q2, q3, q4, q5⟩ hW
  have CZ : Hid (∀ W, Calls Tryz.prog 14 #[.agg #[.int .i64 st, .int .i64 it, .slice a2 n2 c2, .slice a3 n3 c3, .slice a4 n4 c4, .slice a5 n5 c5], .int .i64 1048576] W fun e w' => e = .returned (.int .i64 (roomOf 1048576 (n2 + n3 + n4 + n5))) ∧ Below W.heap.size W w') := fun W => szIa_any st it a2 n2 c2 a3 n3 c3 a4 n4 c4 a5 n5 c5 1048576 W (by omega) (by omega) l2 l3 l4 l5
  have CY : Hid (∀ W (left : Int), 0 ≤ left → left ≤ 1048576 → Calls Tryz.prog 14 #[.agg #[.int .i64 su, .int .i64 iu, .slice b2 m2 d2, .slice b3 m3 d3, .slice b4 m4 d4, .slice b5 m5 d5], .int .i64 left] W fun e w' => e = .returned (.int .i64 (roomOf left (m2 + m3 + m4 + m5))) ∧ Below W.heap.size W w') := fun W left h0 h1 => szIa_any su iu b2 m2 d2 b3 m3 d3 b4 m4 d4 b5 m5 d5 left W h0 (by omega) o2 o3 o4 o5
  clear r2 r3 r4 r5 q2 q3 q4 q5 i2 i3 i4 i5 j2 j3 j4 j5 hins houts hhids hsteps hjns hjuts hjids hjteps z2 z3 z4 z5 y2 y3 y4 y5 l2 l3 l4 l5 o2 o3 o4 o5
  have S0 := Lib.hid (Box2.start w (iaC st it a2 n2 c2 a3 n3 c3 a4 n4 c4 a5 n5 c5) (iaC su iu b2 m2 d2 b3 m3 d3 b4 m4 d4 b5 m5 d5) 25)
  have ca0 := S0.out.2.1.cell (j := 0) (u := .int .i64 st) rfl
  have ca1 := S0.out.2.1.cell (j := 1) (u := .int .i64 it) rfl
  have ca2 := S0.out.2.1.cell (j := 2) (u := .slice a2 n2 c2) rfl
  have ca3 := S0.out.2.1.cell (j := 3) (u := .slice a3 n3 c3) rfl
  have ca4 := S0.out.2.1.cell (j := 4) (u := .slice a4 n4 c4) rfl
  have ca5 := S0.out.2.1.cell (j := 5) (u := .slice a5 n5 c5) rfl
  by_cases hbig : n2 + n3 + n4 + n5 ≤ 1048576
  · have hr : roomOf 1048576 (n2 + n3 + n4 + n5) = 1048576 - ((n2 + n3 + n4 + n5 : Nat) : Int) := roomOf_pos (by omega)
    obtain ⟨rm, hrm⟩ : ∃ m : Nat, (m : Int) = 1048576 - ((n2 + n3 + n4 + n5 : Nat) : Int) := ⟨1048576 - (n2 + n3 + n4 + n5), by omega⟩
    rw [hr, ← hrm] at CZ
    have f2 : ins.length ≤ 1048576 := by omega
    have f3 : outs.length ≤ 1048576 := by omega
    have f4 : hids.length ≤ 1048576 := by omega
    have f5 : steps.length ≤ 1048576 := by omega
    have hrm2 : (rm : Int) ≤ 1048576 := by omega
    have HRM := Lib.hid hrm
    clear hr hrm e2 e3 e4 e5
    go_enter Tryz.func11, Tryz.ntmps11
    go_wp2_with fail
    clear ca0 ca1 ca2 ca3 ca4 ca5
    refine (CZ.out _).mono ?_
    rintro e w1 ⟨rfl, hb⟩
    have S1 := Lib.hid (S0.out.below hb)
    clear hb CZ S0
    have cb0 := S1.out.2.2.cell (j := 0) (u := .int .i64 su) rfl
    have cb1 := S1.out.2.2.cell (j := 1) (u := .int .i64 iu) rfl
    have cb2 := S1.out.2.2.cell (j := 2) (u := .slice b2 m2 d2) rfl
    have cb3 := S1.out.2.2.cell (j := 3) (u := .slice b3 m3 d3) rfl
    have cb4 := S1.out.2.2.cell (j := 4) (u := .slice b4 m4 d4) rfl
    have cb5 := S1.out.2.2.cell (j := 5) (u := .slice b5 m5 d5) rfl
    go_wp2_with fail
    clear cb0 cb1 cb2 cb3 cb4 cb5
    by_cases hbig2 : m2 + m3 + m4 + m5 ≤ rm
    · have hr2 : roomOf (rm : Int) (m2 + m3 + m4 + m5) = (rm : Int) - ((m2 + m3 + m4 + m5 : Nat) : Int) := roomOf_pos (by omega)
      obtain ⟨rn, hrn⟩ : ∃ m : Nat, (m : Int) = (rm : Int) - ((m2 + m3 + m4 + m5 : Nat) : Int) := ⟨rm - (m2 + m3 + m4 + m5), by omega⟩
      have t2 : jns.length ≤ 1048576 := by omega
      have t3 : juts.length ≤ 1048576 := by omega
      have t4 : jids.length ≤ 1048576 := by omega
      have t5 : jteps.length ≤ 1048576 := by omega
      have CY2 := (CY.out w1 _ (by omega) hrm2)
      rw [hr2, ← hrn] at CY2
      refine CY2.mono ?_
      rintro e w2 ⟨rfl, hb⟩
      have S2 := Lib.hid (S1.out.below hb)
      clear hb S1 CY2 CY hr2 hrn hbig2 HRM k2 k3 k4 k5 hbig hrm2
      have CTA : Hid (∀ W, Below w.heap.size w W → Calls Tryz.prog 17 #[.agg #[.int .i64 st, .int .i64 it, .slice a2 n2 c2, .slice a3 n3 c3, .slice a4 n4 c4, .slice a5 n5 c5]] W fun e w' => ∃ v', e = .returned v' ∧ IaAt w' W.heap.size ⟨st, it, ins, outs, hids, steps⟩ v' ∧ Below W.heap.size W w') := fun W hW => toIa_any ⟨st, it, ins, outs, hids, steps⟩ _ W (HA.out W hW) (IaFits.small f2 f3 f4 f5)
      have CTB : Hid (∀ W, Below w.heap.size w W → Calls Tryz.prog 17 #[.agg #[.int .i64 su, .int .i64 iu, .slice b2 m2 d2, .slice b3 m3 d3, .slice b4 m4 d4, .slice b5 m5 d5]] W fun e w' => ∃ v', e = .returned v' ∧ IaAt w' W.heap.size ⟨su, iu, jns, juts, jids, jteps⟩ v' ∧ Below W.heap.size W w') := fun W hW => toIa_any ⟨su, iu, jns, juts, jids, jteps⟩ _ W (HB.out W hW) (IaFits.small t2 t3 t4 t5)
      clear HA HB
      obtain ⟨q, hq⟩ : ∃ q, q = prodB ⟨st, it, ins, outs, hids, steps⟩ ⟨su, iu, jns, juts, jids, jteps⟩ := ⟨_, rfl⟩
      obtain ⟨⟨tst, tit, tins, touts, thids, tsteps⟩, hT⟩ : ∃ t, t = prodIa ⟨st, it, ins, outs, hids, steps⟩ ⟨su, iu, jns, juts, jids, jteps⟩ := ⟨_, rfl⟩
      obtain ⟨x2, x3, x4, x5⟩ := prod_small (a := ⟨st, it, ins, outs, hids, steps⟩) (b := ⟨su, iu, jns, juts, jids, jteps⟩) ⟨f2, f3, f4, f5⟩ ⟨t2, t3, t4, t5⟩
      rw [← hT] at x2 x3 x4 x5
      simp only at x2 x3 x4 x5
      have FT : Hid (IaFits ⟨tst, tit, tins, touts, thids, tsteps⟩) := IaFits.small (by simp only; omega) (by simp only; omega) (by simp only; omega) (by simp only; omega)
      have CP : Hid (∀ W v1 v2, IaRow W ⟨st, it, ins, outs, hids, steps⟩ v1 → IaRow W ⟨su, iu, jns, juts, jids, jteps⟩ v2 → Calls Tryz.prog 55 #[v1, v2] W fun e w' => ∃ (wa2 : Option Addr) (wc2 : Nat) (wa3 : Option Addr) (wc3 : Nat) (wa4 : Option Addr) (wc4 : Nat) (wa5 : Option Addr) (wc5 : Nat), e = .returned (.tuple #[.agg #[.int .i64 tst, .int .i64 tit, .slice wa2 tins.length wc2, .slice wa3 touts.length wc3, .slice wa4 thids.length wc4, .slice wa5 tsteps.length wc5], .bool q]) ∧ IaHigh w' W.heap.size ⟨tst, tit, tins, touts, thids, tsteps⟩ (.agg #[.int .i64 tst, .int .i64 tit, .slice wa2 tins.length wc2, .slice wa3 touts.length wc3, .slice wa4 thids.length wc4, .slice wa5 tsteps.length wc5]) ∧ Below W.heap.size W w') := fun W v1 v2 h1 h2 => by
        rw [hq, hT]
        refine (specProduct_any ⟨st, it, ins, outs, hids, steps⟩ ⟨su, iu, jns, juts, jids, jteps⟩ v1 v2 W h1 h2 ⟨f2, f3, f4, f5⟩ ⟨t2, t3, t4, t5⟩).mono fun e w' ⟨v', he, ho, hb⟩ => ?_
        rw [← hT] at ho ⊢
        obtain ⟨_, _, _, _, _, _, _, _, rfl, _⟩ := ho.rowOf
        exact ⟨_, _, _, _, _, _, _, _, he, ho, hb⟩
      have CI : Hid (∀ W v1 v2, IaRow W ⟨st, it, ins, outs, hids, steps⟩ v1 → IaRow W ⟨su, iu, jns, juts, jids, jteps⟩ v2 → Calls Tryz.prog 54 #[v1, v2] W fun e w' => ∃ (ga2 : Option Addr) (gc2 : Nat) (ga3 : Option Addr) (gc3 : Nat) (ga4 : Option Addr) (gc4 : Nat) (ga5 : Option Addr) (gc5 : Nat), e = .returned (.tuple #[.agg #[.int .i64 tst, .int .i64 tit, .slice ga2 tins.length gc2, .slice ga3 touts.length gc3, .slice ga4 thids.length gc4, .slice ga5 tsteps.length gc5], .bool q]) ∧ IaOwn w' W.heap.size ⟨tst, tit, tins, touts, thids, tsteps⟩ (.agg #[.int .i64 tst, .int .i64 tit, .slice ga2 tins.length gc2, .slice ga3 touts.length gc3, .slice ga4 thids.length gc4, .slice ga5 tsteps.length gc5]) ∧ Below W.heap.size W w') := fun W v1 v2 h1 h2 => by
        rw [hq, hT]
        refine (implProduct_any ⟨st, it, ins, outs, hids, steps⟩ ⟨su, iu, jns, juts, jids, jteps⟩ v1 v2 W h1 h2 ⟨f2, f3, f4, f5⟩ ⟨t2, t3, t4, t5⟩).mono fun e w' ⟨v', he, ho, hb⟩ => ?_
        rw [← hT] at ho ⊢
        obtain ⟨_, _, _, _, _, _, _, _, rfl⟩ := ho.formOf
        exact ⟨_, _, _, _, _, _, _, _, he, ho, hb⟩
      obtain ⟨M, hM⟩ : ∃ m, m = markSum ⟨tst, tit, tins, touts, thids, tsteps⟩ := ⟨_, rfl⟩
      have hM0 : 0 ≤ M := by
        rw [hM]
        unfold markSum
        omega
      have HM := Lib.hid hM
      have hqq : (q == q) = true := by cases q <;> rfl
      have hqn : (q != q) = false := by cases q <;> rfl
      clear hq hT hM
      go_wp2_with fail
      have SD := S2.out.drew
      clear S2
      refine wp_region_held_drew (S := fun w' => Box2 w w' w.heap.size (w.heap.size + 1) 25 (iaC st it a2 n2 c2 a3 n3 c3 a4 n4 c4 a5 n5 c5) (iaC su iu b2 m2 d2 b3 m3 d3 b4 m4 d4 b5 m5 d5)) (by kernel_rfl) SD (fun hHeld => ?_)
      change wpAnyH _ _ _ _ _ 11 #[false, false, false, false, false, false, false, false, false, false, false] _ _
      refine fast_yields 0 28 (.agg #[.int .i64 st, .int .i64 it, .slice a2 n2 c2, .slice a3 n3 c3, .slice a4 n4 c4, .slice a5 n5 c5]) (fuel := 10) rfl rfl (by kernel_rfl) (by kernel_rfl) (by kernel_rfl) (fun _ _ _ h => h) (yieldsIf_load_mid (by rfl) _ _ rfl (w.heap.size) 0 rfl (iaC st it a2 n2 c2 a3 n3 c3 a4 n4 c4 a5 n5 c5).toList _ (fun w hw => hw.2.1.range) Tryz.underlying25 rfl (by kernel_rfl)) hHeld #[true, false, false, false, false, false, false, false, false, false, false] (by kernel_rfl) (fun K hK => ?_)
      go_big_move
      refine hK.out _ ?_
      clear hK K
      refine fast_yields 2 30 (.agg #[.int .i64 su, .int .i64 iu, .slice b2 m2 d2, .slice b3 m3 d3, .slice b4 m4 d4, .slice b5 m5 d5]) (fuel := 9) rfl rfl (by kernel_rfl) (by kernel_rfl) (by kernel_rfl) (fun _ _ _ h => h) (yieldsIf_load_mid (by rfl) _ _ rfl (w.heap.size + 1) 0 rfl (iaC su iu b2 m2 d2 b3 m3 d3 b4 m4 d4 b5 m5 d5).toList _ (fun w hw => hw.2.2.range) Tryz.underlying25 rfl (by kernel_rfl)) hHeld #[true, false, true, false, false, false, false, false, false, false, false] (by kernel_rfl) (fun K hK => ?_)
      go_big_move
      refine hK.out _ ?_
      clear hK K
      refine join_puts (ι := Nat × Value × Value × (Option Addr × Nat) × (Option Addr × Nat) × (Option Addr × Nat) × (Option Addr × Nat)) (fun i => [(28, .agg #[.int .i64 st, .int .i64 it, .slice a2 n2 c2, .slice a3 n3 c3, .slice a4 n4 c4, .slice a5 n5 c5]), (29, i.2.1), (30, .agg #[.int .i64 su, .int .i64 iu, .slice b2 m2 d2, .slice b3 m3 d3, .slice b4 m4 d4, .slice b5 m5 d5]), (31, i.2.2.1), (32, .tuple #[.agg #[.int .i64 tst, .int .i64 tit, .slice i.2.2.2.1.1 tins.length i.2.2.2.1.2, .slice i.2.2.2.2.1.1 touts.length i.2.2.2.2.1.2, .slice i.2.2.2.2.2.1.1 thids.length i.2.2.2.2.2.1.2, .slice i.2.2.2.2.2.2.1 tsteps.length i.2.2.2.2.2.2.2], .bool q]), (27, .tuple #[.agg #[.int .i64 tst, .int .i64 tit, .slice i.2.2.2.1.1 tins.length i.2.2.2.1.2, .slice i.2.2.2.2.1.1 touts.length i.2.2.2.2.1.2, .slice i.2.2.2.2.2.1.1 thids.length i.2.2.2.2.2.1.2, .slice i.2.2.2.2.2.2.1 tsteps.length i.2.2.2.2.2.2.2], .bool q]), (33, .agg #[.int .i64 tst, .int .i64 tit, .slice i.2.2.2.1.1 tins.length i.2.2.2.1.2, .slice i.2.2.2.2.1.1 touts.length i.2.2.2.2.1.2, .slice i.2.2.2.2.2.1.1 thids.length i.2.2.2.2.2.1.2, .slice i.2.2.2.2.2.2.1 tsteps.length i.2.2.2.2.2.2.2]), (34, .bool q), (6, .pointer (some ⟨i.1, 0, none⟩)), (7, .bool q)]) (fun i we => (Box2 w we w.heap.size (w.heap.size + 1) 25 (iaC st it a2 n2 c2 a3 n3 c3 a4 n4 c4 a5 n5 c5) (iaC su iu b2 m2 d2 b3 m3 d3 b4 m4 d4 b5 m5 d5)) ∧ VarIs we i.1 #[.int .i64 tst, .int .i64 tit, .slice i.2.2.2.1.1 tins.length i.2.2.2.1.2, .slice i.2.2.2.2.1.1 touts.length i.2.2.2.2.1.2, .slice i.2.2.2.2.2.1.1 thids.length i.2.2.2.2.2.1.2, .slice i.2.2.2.2.2.2.1 tsteps.length i.2.2.2.2.2.2.2] 32 ∧ IaHigh we 0 ⟨tst, tit, tins, touts, thids, tsteps⟩ (.agg #[.int .i64 tst, .int .i64 tit, .slice i.2.2.2.1.1 tins.length i.2.2.2.1.2, .slice i.2.2.2.2.1.1 touts.length i.2.2.2.2.1.2, .slice i.2.2.2.2.2.1.1 thids.length i.2.2.2.2.2.1.2, .slice i.2.2.2.2.2.2.1 tsteps.length i.2.2.2.2.2.2.2]) ∧ w.heap.size + 1 < i.1) ?_ (fun REST => ?_)
      · rintro ⟨bw, vA, vB, ⟨wa2, wc2⟩, ⟨wa3, wc3⟩, ⟨wa4, wc4⟩, ⟨wa5, wc5⟩⟩ w5 ⟨hS, hv, hr, hbw⟩
        simp only at hS hv hr hbw
        simp only [putsAll, Act.put, List.setIfInBounds_toArray, List.set_cons_zero, List.set_cons_succ]
        have S5 := Lib.hid hS
        have VA5 := Lib.hid hS.2.1
        have VB5 := Lib.hid hS.2.2
        have VW5 := Lib.hid hv
        have RW5 := Lib.hid hr.rowIa
        have C5A : Hid (∀ W, Below w5.heap.size w5 W → Calls Tryz.prog 17 #[.agg #[.int .i64 st, .int .i64 it, .slice a2 n2 c2, .slice a3 n3 c3, .slice a4 n4 c4, .slice a5 n5 c5]] W fun e w' => ∃ v', e = .returned v' ∧ IaAt w' W.heap.size ⟨st, it, ins, outs, hids, steps⟩ v' ∧ Below W.heap.size W w') := fun W hW => CTA.out W (S5.out.1.trans (hW.mono S5.out.1.size))
        have C5B : Hid (∀ W, Below w5.heap.size w5 W → Calls Tryz.prog 17 #[.agg #[.int .i64 su, .int .i64 iu, .slice b2 m2 d2, .slice b3 m3 d3, .slice b4 m4 d4, .slice b5 m5 d5]] W fun e w' => ∃ v', e = .returned v' ∧ IaAt w' W.heap.size ⟨su, iu, jns, juts, jids, jteps⟩ v' ∧ Below W.heap.size W w') := fun W hW => CTB.out W (S5.out.1.trans (hW.mono S5.out.1.size))
        clear hS hv hr hbw hHeld SD CP
        have ca0 := VA5.out.cell (j := 0) (u := .int .i64 st) rfl
        have ca1 := VA5.out.cell (j := 1) (u := .int .i64 it) rfl
        have ca2 := VA5.out.cell (j := 2) (u := .slice a2 n2 c2) rfl
        have ca3 := VA5.out.cell (j := 3) (u := .slice a3 n3 c3) rfl
        have ca4 := VA5.out.cell (j := 4) (u := .slice a4 n4 c4) rfl
        have ca5 := VA5.out.cell (j := 5) (u := .slice a5 n5 c5) rfl
        go_wp2_with fail
        clear ca0 ca1 ca2 ca3 ca4 ca5
        refine (C5A.out _ (Below.refl _ _)).mono ?_
        rintro e w6 ⟨vx, rfl, hat, hb⟩
        have h56 := hb.size
        have B6 := Lib.hid hb
        obtain ⟨g2, g3, g4, g5, rfl, gb, lt3, lt4, lt5, o2, o3, o4, o5⟩ := hat
        have hg5 := (o5.lt g5 rfl).2
        have XA6 : Hid (IaAt w6 w5.heap.size ⟨st, it, ins, outs, hids, steps⟩ (.agg (iaC st it (some ⟨g2, 0, none⟩) ins.length ins.length (some ⟨g3, 0, none⟩) outs.length outs.length (some ⟨g4, 0, none⟩) hids.length hids.length (some ⟨g5, 0, none⟩) steps.length steps.length))) := ⟨g2, g3, g4, g5, rfl, gb, lt3, lt4, lt5, o2, o3, o4, o5⟩
        clear hb o2 o3 o4 o5
        simp only
        have bx := (Below.refl w6.heap.size w6).alloc (Nat.le_refl _) (.cells #[.int .i64 st, .int .i64 it, .slice (some ⟨g2, 0, none⟩) ins.length ins.length, .slice (some ⟨g3, 0, none⟩) outs.length outs.length, .slice (some ⟨g4, 0, none⟩) hids.length hids.length, .slice (some ⟨g5, 0, none⟩) steps.length steps.length] 32)
        have B7 := Lib.hid (B6.out.trans (bx.mono B6.out.size))
        have XA7 := Lib.hid (XA6.out.below bx)
        have V7 : Hid (VarIs (w6.alloc (.cells #[.int .i64 st, .int .i64 it, .slice (some ⟨g2, 0, none⟩) ins.length ins.length, .slice (some ⟨g3, 0, none⟩) outs.length outs.length, .slice (some ⟨g4, 0, none⟩) hids.length hids.length, .slice (some ⟨g5, 0, none⟩) steps.length steps.length] 32)) w6.heap.size (iaC st it (some ⟨g2, 0, none⟩) ins.length ins.length (some ⟨g3, 0, none⟩) outs.length outs.length (some ⟨g4, 0, none⟩) hids.length hids.length (some ⟨g5, 0, none⟩) steps.length steps.length) 32) := VarIs.new w6 #[.int .i64 st, .int .i64 it, .slice (some ⟨g2, 0, none⟩) ins.length ins.length, .slice (some ⟨g3, 0, none⟩) outs.length outs.length, .slice (some ⟨g4, 0, none⟩) hids.length hids.length, .slice (some ⟨g5, 0, none⟩) steps.length steps.length] 32 rfl
        have VB7 := Lib.hid (VB5.out.below B7.out)
        clear bx B6 XA6
        have cb0 := VB7.out.cell (j := 0) (u := .int .i64 su) rfl
        have cb1 := VB7.out.cell (j := 1) (u := .int .i64 iu) rfl
        have cb2 := VB7.out.cell (j := 2) (u := .slice b2 m2 d2) rfl
        have cb3 := VB7.out.cell (j := 3) (u := .slice b3 m3 d3) rfl
        have cb4 := VB7.out.cell (j := 4) (u := .slice b4 m4 d4) rfl
        have cb5 := VB7.out.cell (j := 5) (u := .slice b5 m5 d5) rfl
        go_wp2_with fail
        clear cb0 cb1 cb2 cb3 cb4 cb5
        refine (C5B.out _ B7.out).mono ?_
        rintro e w8 ⟨vx, rfl, hat, hb⟩
        have h78 : w6.heap.size + 1 ≤ w8.heap.size := by
          have := hb.size
          simpa using this
        have B8 := Lib.hid (B7.out.trans (hb.mono B7.out.size))
        have XA8 := Lib.hid (XA7.out.below hb)
        have V8 := Lib.hid (V7.out.below hb)
        obtain ⟨h2, h3, h4, h5, rfl, gb', lt3', lt4', lt5', o2, o3, o4, o5⟩ := hat
        have hh5 := (o5.lt h5 rfl).2
        have gbh : w6.heap.size + 1 ≤ h2 := by
          have := gb'
          simpa using this
        have XB8 : Hid (IaAt w8 (w6.heap.size + 1) ⟨su, iu, jns, juts, jids, jteps⟩ (.agg (iaC su iu (some ⟨h2, 0, none⟩) jns.length jns.length (some ⟨h3, 0, none⟩) juts.length juts.length (some ⟨h4, 0, none⟩) jids.length jids.length (some ⟨h5, 0, none⟩) jteps.length jteps.length))) := by
          have : IaAt w8 _ ⟨su, iu, jns, juts, jids, jteps⟩ (.agg (iaC su iu (some ⟨h2, 0, none⟩) jns.length jns.length (some ⟨h3, 0, none⟩) juts.length juts.length (some ⟨h4, 0, none⟩) jids.length jids.length (some ⟨h5, 0, none⟩) jteps.length jteps.length)) := ⟨h2, h3, h4, h5, rfl, gb', lt3', lt4', lt5', o2, o3, o4, o5⟩
          simpa [Hid] using this
        clear hb o2 o3 o4 o5 gb' B7 XA7 V7 VB7
        simp only
        have bx := (Below.refl w8.heap.size w8).alloc (Nat.le_refl _) (.cells #[.int .i64 su, .int .i64 iu, .slice (some ⟨h2, 0, none⟩) jns.length jns.length, .slice (some ⟨h3, 0, none⟩) juts.length juts.length, .slice (some ⟨h4, 0, none⟩) jids.length jids.length, .slice (some ⟨h5, 0, none⟩) jteps.length jteps.length] 32)
        have L9 : Hid (LawP w5 (w8.alloc (.cells #[.int .i64 su, .int .i64 iu, .slice (some ⟨h2, 0, none⟩) jns.length jns.length, .slice (some ⟨h3, 0, none⟩) juts.length juts.length, .slice (some ⟨h4, 0, none⟩) jids.length jids.length, .slice (some ⟨h5, 0, none⟩) jteps.length jteps.length] 32)) w6.heap.size w8.heap.size w5.heap.size (w6.heap.size + 1) ⟨st, it, ins, outs, hids, steps⟩ ⟨su, iu, jns, juts, jids, jteps⟩ (iaC st it (some ⟨g2, 0, none⟩) ins.length ins.length (some ⟨g3, 0, none⟩) outs.length outs.length (some ⟨g4, 0, none⟩) hids.length hids.length (some ⟨g5, 0, none⟩) steps.length steps.length) (iaC su iu (some ⟨h2, 0, none⟩) jns.length jns.length (some ⟨h3, 0, none⟩) juts.length juts.length (some ⟨h4, 0, none⟩) jids.length jids.length (some ⟨h5, 0, none⟩) jteps.length jteps.length)) := ⟨B8.out.trans (bx.mono B8.out.size), ⟨V8.out.below bx, XA8.out.below bx⟩, ⟨VarIs.new w8 #[.int .i64 su, .int .i64 iu, .slice (some ⟨h2, 0, none⟩) jns.length jns.length, .slice (some ⟨h3, 0, none⟩) juts.length juts.length, .slice (some ⟨h4, 0, none⟩) jids.length jids.length, .slice (some ⟨h5, 0, none⟩) jteps.length jteps.length] 32 rfl, XB8.out.below bx⟩⟩
        have b9 := bx.size
        clear bx B8 XA8 V8 XB8
        have ca0 := L9.out.2.1.1.cell (j := 0) (u := .int .i64 st) rfl
        have ca1 := L9.out.2.1.1.cell (j := 1) (u := .int .i64 it) rfl
        have ca2 := L9.out.2.1.1.cell (j := 2) (u := .slice (some ⟨g2, 0, none⟩) ins.length ins.length) rfl
        have ca3 := L9.out.2.1.1.cell (j := 3) (u := .slice (some ⟨g3, 0, none⟩) outs.length outs.length) rfl
        have ca4 := L9.out.2.1.1.cell (j := 4) (u := .slice (some ⟨g4, 0, none⟩) hids.length hids.length) rfl
        have ca5 := L9.out.2.1.1.cell (j := 5) (u := .slice (some ⟨g5, 0, none⟩) steps.length steps.length) rfl
        have cb0 := L9.out.2.2.1.cell (j := 0) (u := .int .i64 su) rfl
        have cb1 := L9.out.2.2.1.cell (j := 1) (u := .int .i64 iu) rfl
        have cb2 := L9.out.2.2.1.cell (j := 2) (u := .slice (some ⟨h2, 0, none⟩) jns.length jns.length) rfl
        have cb3 := L9.out.2.2.1.cell (j := 3) (u := .slice (some ⟨h3, 0, none⟩) juts.length juts.length) rfl
        have cb4 := L9.out.2.2.1.cell (j := 4) (u := .slice (some ⟨h4, 0, none⟩) jids.length jids.length) rfl
        have cb5 := L9.out.2.2.1.cell (j := 5) (u := .slice (some ⟨h5, 0, none⟩) jteps.length jteps.length) rfl
        go_wp2_with fail
        clear ca0 ca1 ca2 ca3 ca4 ca5 cb0 cb1 cb2 cb3 cb4 cb5
        refine (CI.out _ _ _ L9.out.2.1.2.row L9.out.2.2.2.row).mono ?_
        rintro e w10 ⟨ga2, gc2, ga3, gc3, ga4, gc4, ga5, gc5, rfl, hoG, hb⟩
        have hs10 : w8.heap.size + 1 ≤ w10.heap.size := by
          have := hb.size
          simpa using this
        have hoG' : IaOwn w10 (w8.heap.size + 1) ⟨tst, tit, tins, touts, thids, tsteps⟩ (.agg #[.int .i64 tst, .int .i64 tit, .slice ga2 tins.length gc2, .slice ga3 touts.length gc3, .slice ga4 thids.length gc4, .slice ga5 tsteps.length gc5]) := by simpa using hoG
        have bg := (Below.refl w10.heap.size w10).alloc (Nat.le_refl _) (.cells #[.int .i64 tst, .int .i64 tit, .slice ga2 tins.length gc2, .slice ga3 touts.length gc3, .slice ga4 thids.length gc4, .slice ga5 tsteps.length gc5] 32)
        have HAW := Lib.hid (hoG'.apart (Nat.le_refl _))
        have G11 : Hid (LawG w5 (w10.alloc (.cells #[.int .i64 tst, .int .i64 tit, .slice ga2 tins.length gc2, .slice ga3 touts.length gc3, .slice ga4 thids.length gc4, .slice ga5 tsteps.length gc5] 32)) w6.heap.size w8.heap.size w5.heap.size (w6.heap.size + 1) ⟨st, it, ins, outs, hids, steps⟩ ⟨su, iu, jns, juts, jids, jteps⟩ (iaC st it (some ⟨g2, 0, none⟩) ins.length ins.length (some ⟨g3, 0, none⟩) outs.length outs.length (some ⟨g4, 0, none⟩) hids.length hids.length (some ⟨g5, 0, none⟩) steps.length steps.length) (iaC su iu (some ⟨h2, 0, none⟩) jns.length jns.length (some ⟨h3, 0, none⟩) juts.length juts.length (some ⟨h4, 0, none⟩) jids.length jids.length (some ⟨h5, 0, none⟩) jteps.length jteps.length) w10.heap.size (w8.heap.size + 1) (⟨tst, tit, tins, touts, thids, tsteps⟩) #[.int .i64 tst, .int .i64 tit, .slice ga2 tins.length gc2, .slice ga3 touts.length gc3, .slice ga4 thids.length gc4, .slice ga5 tsteps.length gc5]) := ⟨(L9.out.below hb).below bg, VarIs.new w10 #[.int .i64 tst, .int .i64 tit, .slice ga2 tins.length gc2, .slice ga3 touts.length gc3, .slice ga4 thids.length gc4, .slice ga5 tsteps.length gc5] 32 rfl, hoG'.below bg⟩
        have VW11 := Lib.hid (VW5.out.below G11.out.1.1)
        clear hb hoG hoG' bg L9
        simp only
        have ca0 := G11.out.2.1.cell (j := 0) rfl
        have ca1 := G11.out.2.1.cell (j := 1) rfl
        have ca2 := G11.out.2.1.cell (j := 2) rfl
        have ca3 := G11.out.2.1.cell (j := 3) rfl
        have ca4 := G11.out.2.1.cell (j := 4) rfl
        have ca5 := G11.out.2.1.cell (j := 5) rfl
        have cb0 := VW11.out.cell (j := 0) rfl
        have cb1 := VW11.out.cell (j := 1) rfl
        have cb2 := VW11.out.cell (j := 2) rfl
        have cb3 := VW11.out.cell (j := 3) rfl
        have cb4 := VW11.out.cell (j := 4) rfl
        have cb5 := VW11.out.cell (j := 5) rfl
        go_wp2_with fail
        clear ca0 ca1 ca2 ca3 ca4 ca5 cb0 cb1 cb2 cb3 cb4 cb5
        refine (eqIa_any ⟨tst, tit, tins, touts, thids, tsteps⟩ ⟨tst, tit, tins, touts, thids, tsteps⟩ _ _ _ G11.out.2.2.row (RW5.out.below G11.out.1.1) FT.out FT.out).mono ?_
        rintro e w11 ⟨rfl, hb⟩
        rw [sameB_refl]
        have G12 := Lib.hid (G11.out.below hb)
        clear hb G11 VW11
        have E1a : Hid (∀ W, LawG w5 W w6.heap.size w8.heap.size w5.heap.size (w6.heap.size + 1) ⟨st, it, ins, outs, hids, steps⟩ ⟨su, iu, jns, juts, jids, jteps⟩ (iaC st it (some ⟨g2, 0, none⟩) ins.length ins.length (some ⟨g3, 0, none⟩) outs.length outs.length (some ⟨g4, 0, none⟩) hids.length hids.length (some ⟨g5, 0, none⟩) steps.length steps.length) (iaC su iu (some ⟨h2, 0, none⟩) jns.length jns.length (some ⟨h3, 0, none⟩) juts.length juts.length (some ⟨h4, 0, none⟩) jids.length jids.length (some ⟨h5, 0, none⟩) jteps.length jteps.length) w10.heap.size (w8.heap.size + 1) (⟨tst, tit, tins, touts, thids, tsteps⟩) #[.int .i64 tst, .int .i64 tit, .slice ga2 tins.length gc2, .slice ga3 touts.length gc3, .slice ga4 thids.length gc4, .slice ga5 tsteps.length gc5] → Calls Tryz.prog 17 #[.agg #[.int .i64 st, .int .i64 it, .slice a2 n2 c2, .slice a3 n3 c3, .slice a4 n4 c4, .slice a5 n5 c5]] W fun e w' => ∃ v', e = .returned v' ∧ IaRow w' ⟨st, it, ins, outs, hids, steps⟩ v' ∧ LawG w5 w' w6.heap.size w8.heap.size w5.heap.size (w6.heap.size + 1) ⟨st, it, ins, outs, hids, steps⟩ ⟨su, iu, jns, juts, jids, jteps⟩ (iaC st it (some ⟨g2, 0, none⟩) ins.length ins.length (some ⟨g3, 0, none⟩) outs.length outs.length (some ⟨g4, 0, none⟩) hids.length hids.length (some ⟨g5, 0, none⟩) steps.length steps.length) (iaC su iu (some ⟨h2, 0, none⟩) jns.length jns.length (some ⟨h3, 0, none⟩) juts.length juts.length (some ⟨h4, 0, none⟩) jids.length jids.length (some ⟨h5, 0, none⟩) jteps.length jteps.length) w10.heap.size (w8.heap.size + 1) (⟨tst, tit, tins, touts, thids, tsteps⟩) #[.int .i64 tst, .int .i64 tit, .slice ga2 tins.length gc2, .slice ga3 touts.length gc3, .slice ga4 thids.length gc4, .slice ga5 tsteps.length gc5]) := fun W hW => (C5A.out W hW.1.1).mono fun e w' ⟨v', he, hat, hb⟩ => ⟨v', he, hat.row, hW.below hb⟩
        have E2a : Hid (∀ W v', IaRow W ⟨st, it, ins, outs, hids, steps⟩ v' → LawG w5 W w6.heap.size w8.heap.size w5.heap.size (w6.heap.size + 1) ⟨st, it, ins, outs, hids, steps⟩ ⟨su, iu, jns, juts, jids, jteps⟩ (iaC st it (some ⟨g2, 0, none⟩) ins.length ins.length (some ⟨g3, 0, none⟩) outs.length outs.length (some ⟨g4, 0, none⟩) hids.length hids.length (some ⟨g5, 0, none⟩) steps.length steps.length) (iaC su iu (some ⟨h2, 0, none⟩) jns.length jns.length (some ⟨h3, 0, none⟩) juts.length juts.length (some ⟨h4, 0, none⟩) jids.length jids.length (some ⟨h5, 0, none⟩) jteps.length jteps.length) w10.heap.size (w8.heap.size + 1) (⟨tst, tit, tins, touts, thids, tsteps⟩) #[.int .i64 tst, .int .i64 tit, .slice ga2 tins.length gc2, .slice ga3 touts.length gc3, .slice ga4 thids.length gc4, .slice ga5 tsteps.length gc5] → Calls Tryz.prog 20 #[.agg #[.int .i64 st, .int .i64 it, .slice (some ⟨g2, 0, none⟩) ins.length ins.length, .slice (some ⟨g3, 0, none⟩) outs.length outs.length, .slice (some ⟨g4, 0, none⟩) hids.length hids.length, .slice (some ⟨g5, 0, none⟩) steps.length steps.length], v'] W fun e w' => e = .returned (.bool true) ∧ LawG w5 w' w6.heap.size w8.heap.size w5.heap.size (w6.heap.size + 1) ⟨st, it, ins, outs, hids, steps⟩ ⟨su, iu, jns, juts, jids, jteps⟩ (iaC st it (some ⟨g2, 0, none⟩) ins.length ins.length (some ⟨g3, 0, none⟩) outs.length outs.length (some ⟨g4, 0, none⟩) hids.length hids.length (some ⟨g5, 0, none⟩) steps.length steps.length) (iaC su iu (some ⟨h2, 0, none⟩) jns.length jns.length (some ⟨h3, 0, none⟩) juts.length juts.length (some ⟨h4, 0, none⟩) jids.length jids.length (some ⟨h5, 0, none⟩) jteps.length jteps.length) w10.heap.size (w8.heap.size + 1) (⟨tst, tit, tins, touts, thids, tsteps⟩) #[.int .i64 tst, .int .i64 tit, .slice ga2 tins.length gc2, .slice ga3 touts.length gc3, .slice ga4 thids.length gc4, .slice ga5 tsteps.length gc5]) := fun W v' hv hW => (eqIa_any ⟨st, it, ins, outs, hids, steps⟩ ⟨st, it, ins, outs, hids, steps⟩ _ _ W hW.1.2.1.2.row hv (IaFits.small f2 f3 f4 f5) (IaFits.small f2 f3 f4 f5)).mono fun e w' ⟨he, hb⟩ => ⟨by rw [he, sameB_refl], hW.below hb⟩
        go_wp2_with fail
        have SD : LawG w5 w11.drew w6.heap.size w8.heap.size w5.heap.size (w6.heap.size + 1) ⟨st, it, ins, outs, hids, steps⟩ ⟨su, iu, jns, juts, jids, jteps⟩ (iaC st it (some ⟨g2, 0, none⟩) ins.length ins.length (some ⟨g3, 0, none⟩) outs.length outs.length (some ⟨g4, 0, none⟩) hids.length hids.length (some ⟨g5, 0, none⟩) steps.length steps.length) (iaC su iu (some ⟨h2, 0, none⟩) jns.length jns.length (some ⟨h3, 0, none⟩) juts.length juts.length (some ⟨h4, 0, none⟩) jids.length jids.length (some ⟨h5, 0, none⟩) jteps.length jteps.length) w10.heap.size (w8.heap.size + 1) (⟨tst, tit, tins, touts, thids, tsteps⟩) #[.int .i64 tst, .int .i64 tit, .slice ga2 tins.length gc2, .slice ga3 touts.length gc3, .slice ga4 thids.length gc4, .slice ga5 tsteps.length gc5] := G12.out.drew
        refine wp_region_held_drew (S := fun w' => LawG w5 w' w6.heap.size w8.heap.size w5.heap.size (w6.heap.size + 1) ⟨st, it, ins, outs, hids, steps⟩ ⟨su, iu, jns, juts, jids, jteps⟩ (iaC st it (some ⟨g2, 0, none⟩) ins.length ins.length (some ⟨g3, 0, none⟩) outs.length outs.length (some ⟨g4, 0, none⟩) hids.length hids.length (some ⟨g5, 0, none⟩) steps.length steps.length) (iaC su iu (some ⟨h2, 0, none⟩) jns.length jns.length (some ⟨h3, 0, none⟩) juts.length juts.length (some ⟨h4, 0, none⟩) jids.length jids.length (some ⟨h5, 0, none⟩) jteps.length jteps.length) w10.heap.size (w8.heap.size + 1) (⟨tst, tit, tins, touts, thids, tsteps⟩) #[.int .i64 tst, .int .i64 tit, .slice ga2 tins.length gc2, .slice ga3 touts.length gc3, .slice ga4 thids.length gc4, .slice ga5 tsteps.length gc5]) (by kernel_rfl) SD (fun hHeld => ?_)
        change wpAnyH _ _ _ _ _ 5 (Array.replicate 5 false) _ _
        refine take_yields 0 54 (.agg #[.int .i64 st, .int .i64 it, .slice (some ⟨g2, 0, none⟩) ins.length ins.length, .slice (some ⟨g3, 0, none⟩) outs.length outs.length, .slice (some ⟨g4, 0, none⟩) hids.length hids.length, .slice (some ⟨g5, 0, none⟩) steps.length steps.length]) (fuel := 4) rfl rfl (by kernel_rfl) (by kernel_rfl) (by kernel_rfl) (fun _ _ _ h => h) (yieldsIf_load_mid (by rfl) _ _ rfl (w6.heap.size) 0 rfl (iaC st it (some ⟨g2, 0, none⟩) ins.length ins.length (some ⟨g3, 0, none⟩) outs.length outs.length (some ⟨g4, 0, none⟩) hids.length hids.length (some ⟨g5, 0, none⟩) steps.length steps.length).toList _ (fun w hw => hw.1.2.1.1.range) Tryz.underlying32 rfl (by kernel_rfl)) hHeld ?_
        simp only [Act.put, List.setIfInBounds_toArray, List.set_cons_zero, List.set_cons_succ]
        refine take_yields 1 55 (.agg #[.int .i64 st, .int .i64 it, .slice a2 n2 c2, .slice a3 n3 c3, .slice a4 n4 c4, .slice a5 n5 c5]) (fuel := 3) rfl rfl (by kernel_rfl) (by kernel_rfl) (by kernel_rfl) (fun _ _ _ h => h) (yieldsIf_load_mid (by rfl) _ _ rfl (w.heap.size) 0 rfl (iaC st it a2 n2 c2 a3 n3 c3 a4 n4 c4 a5 n5 c5).toList _ (fun w hw => (VA5.out.below hw.1.1).range) Tryz.underlying25 rfl (by kernel_rfl)) hHeld ?_
        simp only [Act.put, List.setIfInBounds_toArray, List.set_cons_zero, List.set_cons_succ]
        refine wpAnyH_ready (rs := [2]) (fuel := 2) (by kernel_rfl) (by simp) ?_
        refine AllReadyH.cons rfl (fun K hK => ?_) AllReadyH.nil
        go_simp
        refine (E1a.out _ hHeld).mono ?_
        rintro e w12a ⟨vq, rfl, hrq, hS⟩
        go_wp2_with fail
        refine hK.out _ _ hS (fun hHeld => ?_)
        clear hK K
        refine wpAnyH_ready (rs := [3]) (fuel := 1) (by kernel_rfl) (by simp) ?_
        refine AllReadyH.cons rfl (fun K hK => ?_) AllReadyH.nil
        go_simp
        refine (E2a.out _ _ hrq hHeld).mono ?_
        rintro e w13a ⟨rfl, hS⟩
        clear hrq
        go_wp2_with fail
        refine hK.out _ _ hS (fun hHeld => ?_)
        clear hK K
        refine take_op 4 58 (.bool false) (fuel := 0) rfl rfl (by kernel_rfl) (by kernel_rfl) (by kernel_rfl) (fun _ _ _ h => h) (by rfl) (fun w hSw => by go_simp) hHeld ?_
        simp only [Act.put, List.setIfInBounds_toArray, List.set_cons_zero, List.set_cons_succ]
        refine wpAnyH_done (by kernel_rfl) ?_ _
        have HSa := Lib.hid hHeld
        clear G12
        clear hHeld SD E1a E2a
        have E1b : Hid (∀ W, LawG w5 W w6.heap.size w8.heap.size w5.heap.size (w6.heap.size + 1) ⟨st, it, ins, outs, hids, steps⟩ ⟨su, iu, jns, juts, jids, jteps⟩ (iaC st it (some ⟨g2, 0, none⟩) ins.length ins.length (some ⟨g3, 0, none⟩) outs.length outs.length (some ⟨g4, 0, none⟩) hids.length hids.length (some ⟨g5, 0, none⟩) steps.length steps.length) (iaC su iu (some ⟨h2, 0, none⟩) jns.length jns.length (some ⟨h3, 0, none⟩) juts.length juts.length (some ⟨h4, 0, none⟩) jids.length jids.length (some ⟨h5, 0, none⟩) jteps.length jteps.length) w10.heap.size (w8.heap.size + 1) (⟨tst, tit, tins, touts, thids, tsteps⟩) #[.int .i64 tst, .int .i64 tit, .slice ga2 tins.length gc2, .slice ga3 touts.length gc3, .slice ga4 thids.length gc4, .slice ga5 tsteps.length gc5] → Calls Tryz.prog 17 #[.agg #[.int .i64 su, .int .i64 iu, .slice b2 m2 d2, .slice b3 m3 d3, .slice b4 m4 d4, .slice b5 m5 d5]] W fun e w' => ∃ v', e = .returned v' ∧ IaRow w' ⟨su, iu, jns, juts, jids, jteps⟩ v' ∧ LawG w5 w' w6.heap.size w8.heap.size w5.heap.size (w6.heap.size + 1) ⟨st, it, ins, outs, hids, steps⟩ ⟨su, iu, jns, juts, jids, jteps⟩ (iaC st it (some ⟨g2, 0, none⟩) ins.length ins.length (some ⟨g3, 0, none⟩) outs.length outs.length (some ⟨g4, 0, none⟩) hids.length hids.length (some ⟨g5, 0, none⟩) steps.length steps.length) (iaC su iu (some ⟨h2, 0, none⟩) jns.length jns.length (some ⟨h3, 0, none⟩) juts.length juts.length (some ⟨h4, 0, none⟩) jids.length jids.length (some ⟨h5, 0, none⟩) jteps.length jteps.length) w10.heap.size (w8.heap.size + 1) (⟨tst, tit, tins, touts, thids, tsteps⟩) #[.int .i64 tst, .int .i64 tit, .slice ga2 tins.length gc2, .slice ga3 touts.length gc3, .slice ga4 thids.length gc4, .slice ga5 tsteps.length gc5]) := fun W hW => (C5B.out W hW.1.1).mono fun e w' ⟨v', he, hat, hb⟩ => ⟨v', he, hat.row, hW.below hb⟩
        have E2b : Hid (∀ W v', IaRow W ⟨su, iu, jns, juts, jids, jteps⟩ v' → LawG w5 W w6.heap.size w8.heap.size w5.heap.size (w6.heap.size + 1) ⟨st, it, ins, outs, hids, steps⟩ ⟨su, iu, jns, juts, jids, jteps⟩ (iaC st it (some ⟨g2, 0, none⟩) ins.length ins.length (some ⟨g3, 0, none⟩) outs.length outs.length (some ⟨g4, 0, none⟩) hids.length hids.length (some ⟨g5, 0, none⟩) steps.length steps.length) (iaC su iu (some ⟨h2, 0, none⟩) jns.length jns.length (some ⟨h3, 0, none⟩) juts.length juts.length (some ⟨h4, 0, none⟩) jids.length jids.length (some ⟨h5, 0, none⟩) jteps.length jteps.length) w10.heap.size (w8.heap.size + 1) (⟨tst, tit, tins, touts, thids, tsteps⟩) #[.int .i64 tst, .int .i64 tit, .slice ga2 tins.length gc2, .slice ga3 touts.length gc3, .slice ga4 thids.length gc4, .slice ga5 tsteps.length gc5] → Calls Tryz.prog 20 #[.agg #[.int .i64 su, .int .i64 iu, .slice (some ⟨h2, 0, none⟩) jns.length jns.length, .slice (some ⟨h3, 0, none⟩) juts.length juts.length, .slice (some ⟨h4, 0, none⟩) jids.length jids.length, .slice (some ⟨h5, 0, none⟩) jteps.length jteps.length], v'] W fun e w' => e = .returned (.bool true) ∧ LawG w5 w' w6.heap.size w8.heap.size w5.heap.size (w6.heap.size + 1) ⟨st, it, ins, outs, hids, steps⟩ ⟨su, iu, jns, juts, jids, jteps⟩ (iaC st it (some ⟨g2, 0, none⟩) ins.length ins.length (some ⟨g3, 0, none⟩) outs.length outs.length (some ⟨g4, 0, none⟩) hids.length hids.length (some ⟨g5, 0, none⟩) steps.length steps.length) (iaC su iu (some ⟨h2, 0, none⟩) jns.length jns.length (some ⟨h3, 0, none⟩) juts.length juts.length (some ⟨h4, 0, none⟩) jids.length jids.length (some ⟨h5, 0, none⟩) jteps.length jteps.length) w10.heap.size (w8.heap.size + 1) (⟨tst, tit, tins, touts, thids, tsteps⟩) #[.int .i64 tst, .int .i64 tit, .slice ga2 tins.length gc2, .slice ga3 touts.length gc3, .slice ga4 thids.length gc4, .slice ga5 tsteps.length gc5]) := fun W v' hv hW => (eqIa_any ⟨su, iu, jns, juts, jids, jteps⟩ ⟨su, iu, jns, juts, jids, jteps⟩ _ _ W hW.1.2.2.2.row hv (IaFits.small t2 t3 t4 t5) (IaFits.small t2 t3 t4 t5)).mono fun e w' ⟨he, hb⟩ => ⟨by rw [he, sameB_refl], hW.below hb⟩
        go_wp2_with fail
        have SD : LawG w5 w13a.drew w6.heap.size w8.heap.size w5.heap.size (w6.heap.size + 1) ⟨st, it, ins, outs, hids, steps⟩ ⟨su, iu, jns, juts, jids, jteps⟩ (iaC st it (some ⟨g2, 0, none⟩) ins.length ins.length (some ⟨g3, 0, none⟩) outs.length outs.length (some ⟨g4, 0, none⟩) hids.length hids.length (some ⟨g5, 0, none⟩) steps.length steps.length) (iaC su iu (some ⟨h2, 0, none⟩) jns.length jns.length (some ⟨h3, 0, none⟩) juts.length juts.length (some ⟨h4, 0, none⟩) jids.length jids.length (some ⟨h5, 0, none⟩) jteps.length jteps.length) w10.heap.size (w8.heap.size + 1) (⟨tst, tit, tins, touts, thids, tsteps⟩) #[.int .i64 tst, .int .i64 tit, .slice ga2 tins.length gc2, .slice ga3 touts.length gc3, .slice ga4 thids.length gc4, .slice ga5 tsteps.length gc5] := HSa.out.drew
        refine wp_region_held_drew (S := fun w' => LawG w5 w' w6.heap.size w8.heap.size w5.heap.size (w6.heap.size + 1) ⟨st, it, ins, outs, hids, steps⟩ ⟨su, iu, jns, juts, jids, jteps⟩ (iaC st it (some ⟨g2, 0, none⟩) ins.length ins.length (some ⟨g3, 0, none⟩) outs.length outs.length (some ⟨g4, 0, none⟩) hids.length hids.length (some ⟨g5, 0, none⟩) steps.length steps.length) (iaC su iu (some ⟨h2, 0, none⟩) jns.length jns.length (some ⟨h3, 0, none⟩) juts.length juts.length (some ⟨h4, 0, none⟩) jids.length jids.length (some ⟨h5, 0, none⟩) jteps.length jteps.length) w10.heap.size (w8.heap.size + 1) (⟨tst, tit, tins, touts, thids, tsteps⟩) #[.int .i64 tst, .int .i64 tit, .slice ga2 tins.length gc2, .slice ga3 touts.length gc3, .slice ga4 thids.length gc4, .slice ga5 tsteps.length gc5]) (by kernel_rfl) SD (fun hHeld => ?_)
        change wpAnyH _ _ _ _ _ 5 (Array.replicate 5 false) _ _
        refine take_yields 0 59 (.agg #[.int .i64 su, .int .i64 iu, .slice (some ⟨h2, 0, none⟩) jns.length jns.length, .slice (some ⟨h3, 0, none⟩) juts.length juts.length, .slice (some ⟨h4, 0, none⟩) jids.length jids.length, .slice (some ⟨h5, 0, none⟩) jteps.length jteps.length]) (fuel := 4) rfl rfl (by kernel_rfl) (by kernel_rfl) (by kernel_rfl) (fun _ _ _ h => h) (yieldsIf_load_mid (by rfl) _ _ rfl (w8.heap.size) 0 rfl (iaC su iu (some ⟨h2, 0, none⟩) jns.length jns.length (some ⟨h3, 0, none⟩) juts.length juts.length (some ⟨h4, 0, none⟩) jids.length jids.length (some ⟨h5, 0, none⟩) jteps.length jteps.length).toList _ (fun w hw => hw.1.2.2.1.range) Tryz.underlying32 rfl (by kernel_rfl)) hHeld ?_
        simp only [Act.put, List.setIfInBounds_toArray, List.set_cons_zero, List.set_cons_succ]
        refine take_yields 1 60 (.agg #[.int .i64 su, .int .i64 iu, .slice b2 m2 d2, .slice b3 m3 d3, .slice b4 m4 d4, .slice b5 m5 d5]) (fuel := 3) rfl rfl (by kernel_rfl) (by kernel_rfl) (by kernel_rfl) (fun _ _ _ h => h) (yieldsIf_load_mid (by rfl) _ _ rfl (w.heap.size + 1) 0 rfl (iaC su iu b2 m2 d2 b3 m3 d3 b4 m4 d4 b5 m5 d5).toList _ (fun w hw => (VB5.out.below hw.1.1).range) Tryz.underlying25 rfl (by kernel_rfl)) hHeld ?_
        simp only [Act.put, List.setIfInBounds_toArray, List.set_cons_zero, List.set_cons_succ]
        refine wpAnyH_ready (rs := [2]) (fuel := 2) (by kernel_rfl) (by simp) ?_
        refine AllReadyH.cons rfl (fun K hK => ?_) AllReadyH.nil
        go_simp
        refine (E1b.out _ hHeld).mono ?_
        rintro e w12b ⟨vq, rfl, hrq, hS⟩
        go_wp2_with fail
        refine hK.out _ _ hS (fun hHeld => ?_)
        clear hK K
        refine wpAnyH_ready (rs := [3]) (fuel := 1) (by kernel_rfl) (by simp) ?_
        refine AllReadyH.cons rfl (fun K hK => ?_) AllReadyH.nil
        go_simp
        refine (E2b.out _ _ hrq hHeld).mono ?_
        rintro e w13b ⟨rfl, hS⟩
        clear hrq
        go_wp2_with fail
        refine hK.out _ _ hS (fun hHeld => ?_)
        clear hK K
        refine take_op 4 63 (.bool false) (fuel := 0) rfl rfl (by kernel_rfl) (by kernel_rfl) (by kernel_rfl) (fun _ _ _ h => h) (by rfl) (fun w hSw => by go_simp) hHeld ?_
        simp only [Act.put, List.setIfInBounds_toArray, List.set_cons_zero, List.set_cons_succ]
        refine wpAnyH_done (by kernel_rfl) ?_ _
        have HSb := Lib.hid hHeld
        clear HSa
        clear hHeld SD E1b E2b
        have ca0 := HSb.out.1.2.1.1.cell (j := 0) (u := .int .i64 st) rfl
        have ca1 := HSb.out.1.2.1.1.cell (j := 1) (u := .int .i64 it) rfl
        have ca2 := HSb.out.1.2.1.1.cell (j := 2) (u := .slice (some ⟨g2, 0, none⟩) ins.length ins.length) rfl
        have ca3 := HSb.out.1.2.1.1.cell (j := 3) (u := .slice (some ⟨g3, 0, none⟩) outs.length outs.length) rfl
        have ca4 := HSb.out.1.2.1.1.cell (j := 4) (u := .slice (some ⟨g4, 0, none⟩) hids.length hids.length) rfl
        have ca5 := HSb.out.1.2.1.1.cell (j := 5) (u := .slice (some ⟨g5, 0, none⟩) steps.length steps.length) rfl
        go_wp2_with fail
        clear ca0 ca1 ca2 ca3 ca4 ca5
        obtain ⟨_, _, _, _, o2, o3, o4, o5⟩ := HSb.out.1.2.1.2.parts
        have hx8 := HSb.out.1.2.2.1.lt
        have hx10 := HSb.out.2.1.lt
        refine (markIa_from 1 st it g2 g3 g4 g5 ins outs hids steps w5.heap.size _ (by omega) (by omega) gb lt3 lt4 lt5 (by omega) o2 o3 o4 o5 (by omega) (by omega) (by omega) (by omega)).mono ?_
        rintro e w15 ⟨r1, hr0, hr1, rfl, hb, hbut⟩
        have B15 := Lib.hid (HSb.out.1.1.trans hb)
        have VB15 := Lib.hid (HSb.out.1.2.2.1.but4 hbut (by omega) (by omega) (by omega) (by omega))
        have XB15 := Lib.hid (HSb.out.1.2.2.2.but4 hbut lt3 lt4 lt5 (by omega))
        have VG15 := Lib.hid (HSb.out.2.1.but4 hbut (by omega) (by omega) (by omega) (by omega))
        have OG15 := Lib.hid (HSb.out.2.2.butFour hbut (by omega) (by omega) (by omega) (by omega))
        clear hb hbut o2 o3 o4 o5 HSb
        have cb0 := VB15.out.cell (j := 0) (u := .int .i64 su) rfl
        have cb1 := VB15.out.cell (j := 1) (u := .int .i64 iu) rfl
        have cb2 := VB15.out.cell (j := 2) (u := .slice (some ⟨h2, 0, none⟩) jns.length jns.length) rfl
        have cb3 := VB15.out.cell (j := 3) (u := .slice (some ⟨h3, 0, none⟩) juts.length juts.length) rfl
        have cb4 := VB15.out.cell (j := 4) (u := .slice (some ⟨h4, 0, none⟩) jids.length jids.length) rfl
        have cb5 := VB15.out.cell (j := 5) (u := .slice (some ⟨h5, 0, none⟩) jteps.length jteps.length) rfl
        go_wp2_with fail
        clear cb0 cb1 cb2 cb3 cb4 cb5
        obtain ⟨_, _, _, _, o2, o3, o4, o5⟩ := XB15.out.parts
        have hx15 := VB15.out.lt
        refine (markIa_from r1 su iu h2 h3 h4 h5 jns juts jids jteps (w6.heap.size + 1) _ hr0 (by omega) gbh lt3' lt4' lt5' (by omega) o2 o3 o4 o5 (by omega) (by omega) (by omega) (by omega)).mono ?_
        rintro e w16 ⟨r2, hr20, hr21, rfl, hb, hbut⟩
        have M16 : Hid (LawM w5 w16 w10.heap.size (w8.heap.size + 1) ⟨tst, tit, tins, touts, thids, tsteps⟩ #[.int .i64 tst, .int .i64 tit, .slice ga2 tins.length gc2, .slice ga3 touts.length gc3, .slice ga4 thids.length gc4, .slice ga5 tsteps.length gc5]) := ⟨B15.out.trans (hb.mono (by omega)), VG15.out.but4 hbut (by omega) (by omega) (by omega) (by omega), OG15.out.butFour hbut (by omega) (by omega) (by omega) (by omega)⟩
        have VW16 := Lib.hid (VW5.out.below M16.out.1)
        clear hb hbut o2 o3 o4 o5 VB15 XB15 B15 VG15 OG15
        have hrd : decide (r2 < 0) = false := by simp; omega
        have ca0 := M16.out.2.1.cell (j := 0) rfl
        have ca1 := M16.out.2.1.cell (j := 1) rfl
        have ca2 := M16.out.2.1.cell (j := 2) rfl
        have ca3 := M16.out.2.1.cell (j := 3) rfl
        have ca4 := M16.out.2.1.cell (j := 4) rfl
        have ca5 := M16.out.2.1.cell (j := 5) rfl
        have cb0 := VW16.out.cell (j := 0) rfl
        have cb1 := VW16.out.cell (j := 1) rfl
        have cb2 := VW16.out.cell (j := 2) rfl
        have cb3 := VW16.out.cell (j := 3) rfl
        have cb4 := VW16.out.cell (j := 4) rfl
        have cb5 := VW16.out.cell (j := 5) rfl
        go_wp2_with fail
        clear ca0 ca1 ca2 ca3 ca4 ca5 cb0 cb1 cb2 cb3 cb4 cb5
        refine (eqIa_any ⟨tst, tit, tins, touts, thids, tsteps⟩ ⟨tst, tit, tins, touts, thids, tsteps⟩ _ _ _ M16.out.2.2.row (RW5.out.below M16.out.1) FT.out FT.out).mono ?_
        rintro e w17 ⟨rfl, hb⟩
        rw [sameB_refl]
        have M17 := Lib.hid (M16.out.below hb)
        clear hb M16 VW16
        have ca0 := M17.out.2.1.cell (j := 0) rfl
        have ca1 := M17.out.2.1.cell (j := 1) rfl
        have ca2 := M17.out.2.1.cell (j := 2) rfl
        have ca3 := M17.out.2.1.cell (j := 3) rfl
        have ca4 := M17.out.2.1.cell (j := 4) rfl
        have ca5 := M17.out.2.1.cell (j := 5) rfl
        go_wp2_with fail
        clear ca0 ca1 ca2 ca3 ca4 ca5
        have hx17 := M17.out.2.1.lt
        refine (markIa_own ⟨tst, tit, tins, touts, thids, tsteps⟩ _ (w8.heap.size + 1) _ M17.out.2.2 (by omega) (by simp only; omega) (by simp only; omega) (by simp only; omega) (by simp only; omega) w10.heap.size _ _ M17.out.2.1 HAW.out).mono ?_
        rw [← HM.out]
        rintro e w18 ⟨rfl, ho, hb, hG⟩
        have M18 : Hid (LawM w5 w18 w10.heap.size (w8.heap.size + 1) (markedIa ⟨tst, tit, tins, touts, thids, tsteps⟩) #[.int .i64 tst, .int .i64 tit, .slice ga2 tins.length gc2, .slice ga3 touts.length gc3, .slice ga4 thids.length gc4, .slice ga5 tsteps.length gc5]) := ⟨M17.out.1.trans (hb.mono (by omega)), hG, ho⟩
        clear hb ho hG M17
        have hMd : decide (M < 0) = false := by simp; omega
        have ca0 := M18.out.2.1.cell (j := 0) rfl
        have ca1 := M18.out.2.1.cell (j := 1) rfl
        have ca2 := M18.out.2.1.cell (j := 2) rfl
        have ca3 := M18.out.2.1.cell (j := 3) rfl
        have ca4 := M18.out.2.1.cell (j := 4) rfl
        have ca5 := M18.out.2.1.cell (j := 5) rfl
        go_wp2_with fail
        clear ca0 ca1 ca2 ca3 ca4 ca5
        refine (heldIa_own ⟨tst, tit, tins, touts, thids, tsteps⟩ _ _ M18.out.2.2.row (by simp only; omega) (by simp only; omega) (by simp only; omega) (by simp only; omega)).mono ?_
        rw [← HM.out]
        rintro e w19 ⟨rfl, hb⟩
        have M19 := Lib.hid (M18.out.below hb)
        clear hb M18
        have CJ : Hid (∀ W v1 v2, IaRow W ⟨st, it, ins, outs, hids, steps⟩ v1 → IaRow W ⟨su, iu, jns, juts, jids, jteps⟩ v2 → Calls Tryz.prog 54 #[v1, v2] W fun e w' => ∃ (ha2 : Option Addr) (hc2 : Nat) (ha3 : Option Addr) (hc3 : Nat) (ha4 : Option Addr) (hc4 : Nat) (ha5 : Option Addr) (hc5 : Nat), e = .returned (.tuple #[.agg #[.int .i64 tst, .int .i64 tit, .slice ha2 tins.length hc2, .slice ha3 touts.length hc3, .slice ha4 thids.length hc4, .slice ha5 tsteps.length hc5], .bool q]) ∧ IaHigh w' W.heap.size ⟨tst, tit, tins, touts, thids, tsteps⟩ (.agg #[.int .i64 tst, .int .i64 tit, .slice ha2 tins.length hc2, .slice ha3 touts.length hc3, .slice ha4 thids.length hc4, .slice ha5 tsteps.length hc5]) ∧ Below W.heap.size W w') := fun W v1 v2 h1 h2 => (CI.out W v1 v2 h1 h2).mono fun e w' ⟨_, _, _, _, _, _, _, _, he, ho, hb⟩ => ⟨_, _, _, _, _, _, _, _, he, ho.high, hb⟩
        go_wp2_with fail
        have SD : LawM w5 w19.drew w10.heap.size (w8.heap.size + 1) (markedIa ⟨tst, tit, tins, touts, thids, tsteps⟩) #[.int .i64 tst, .int .i64 tit, .slice ga2 tins.length gc2, .slice ga3 touts.length gc3, .slice ga4 thids.length gc4, .slice ga5 tsteps.length gc5] := M19.out.drew
        clear M19 CI
        refine wp_region_held_drew (S := fun w' => LawM w5 w' w10.heap.size (w8.heap.size + 1) (markedIa ⟨tst, tit, tins, touts, thids, tsteps⟩) #[.int .i64 tst, .int .i64 tit, .slice ga2 tins.length gc2, .slice ga3 touts.length gc3, .slice ga4 thids.length gc4, .slice ga5 tsteps.length gc5]) (by kernel_rfl) SD (fun hHeld => ?_)
        change wpAnyH _ _ _ _ _ 11 #[false, false, false, false, false, false, false, false, false, false, false] _ _
        refine fast_yields 0 95 (.agg #[.int .i64 st, .int .i64 it, .slice a2 n2 c2, .slice a3 n3 c3, .slice a4 n4 c4, .slice a5 n5 c5]) (fuel := 10) rfl rfl (by kernel_rfl) (by kernel_rfl) (by kernel_rfl) (fun _ _ _ h => h) (yieldsIf_load_mid (by rfl) _ _ rfl (w.heap.size) 0 rfl (iaC st it a2 n2 c2 a3 n3 c3 a4 n4 c4 a5 n5 c5).toList _ (fun w hw => (VA5.out.below hw.1).range) Tryz.underlying25 rfl (by kernel_rfl)) hHeld #[true, false, false, false, false, false, false, false, false, false, false] (by kernel_rfl) (fun K hK => ?_)
        go_big_move
        refine hK.out _ ?_
        clear hK K
        refine fast_yields 2 97 (.agg #[.int .i64 su, .int .i64 iu, .slice b2 m2 d2, .slice b3 m3 d3, .slice b4 m4 d4, .slice b5 m5 d5]) (fuel := 9) rfl rfl (by kernel_rfl) (by kernel_rfl) (by kernel_rfl) (fun _ _ _ h => h) (yieldsIf_load_mid (by rfl) _ _ rfl (w.heap.size + 1) 0 rfl (iaC su iu b2 m2 d2 b3 m3 d3 b4 m4 d4 b5 m5 d5).toList _ (fun w hw => (VB5.out.below hw.1).range) Tryz.underlying25 rfl (by kernel_rfl)) hHeld #[true, false, true, false, false, false, false, false, false, false, false] (by kernel_rfl) (fun K hK => ?_)
        go_big_move
        refine hK.out _ ?_
        clear hK K
        refine join_puts (ι := Nat × Value × Value × (Option Addr × Nat) × (Option Addr × Nat) × (Option Addr × Nat) × (Option Addr × Nat)) (fun i => [(95, .agg #[.int .i64 st, .int .i64 it, .slice a2 n2 c2, .slice a3 n3 c3, .slice a4 n4 c4, .slice a5 n5 c5]), (96, i.2.1), (97, .agg #[.int .i64 su, .int .i64 iu, .slice b2 m2 d2, .slice b3 m3 d3, .slice b4 m4 d4, .slice b5 m5 d5]), (98, i.2.2.1), (99, .tuple #[.agg #[.int .i64 tst, .int .i64 tit, .slice i.2.2.2.1.1 tins.length i.2.2.2.1.2, .slice i.2.2.2.2.1.1 touts.length i.2.2.2.2.1.2, .slice i.2.2.2.2.2.1.1 thids.length i.2.2.2.2.2.1.2, .slice i.2.2.2.2.2.2.1 tsteps.length i.2.2.2.2.2.2.2], .bool q]), (94, .tuple #[.agg #[.int .i64 tst, .int .i64 tit, .slice i.2.2.2.1.1 tins.length i.2.2.2.1.2, .slice i.2.2.2.2.1.1 touts.length i.2.2.2.2.1.2, .slice i.2.2.2.2.2.1.1 thids.length i.2.2.2.2.2.1.2, .slice i.2.2.2.2.2.2.1 tsteps.length i.2.2.2.2.2.2.2], .bool q]), (100, .agg #[.int .i64 tst, .int .i64 tit, .slice i.2.2.2.1.1 tins.length i.2.2.2.1.2, .slice i.2.2.2.2.1.1 touts.length i.2.2.2.2.1.2, .slice i.2.2.2.2.2.1.1 thids.length i.2.2.2.2.2.1.2, .slice i.2.2.2.2.2.2.1 tsteps.length i.2.2.2.2.2.2.2]), (101, .bool q), (15, .pointer (some ⟨i.1, 0, none⟩)), (16, .bool q)]) (fun i we => (LawM w5 we w10.heap.size (w8.heap.size + 1) (markedIa ⟨tst, tit, tins, touts, thids, tsteps⟩) #[.int .i64 tst, .int .i64 tit, .slice ga2 tins.length gc2, .slice ga3 touts.length gc3, .slice ga4 thids.length gc4, .slice ga5 tsteps.length gc5]) ∧ VarIs we i.1 #[.int .i64 tst, .int .i64 tit, .slice i.2.2.2.1.1 tins.length i.2.2.2.1.2, .slice i.2.2.2.2.1.1 touts.length i.2.2.2.2.1.2, .slice i.2.2.2.2.2.1.1 thids.length i.2.2.2.2.2.1.2, .slice i.2.2.2.2.2.2.1 tsteps.length i.2.2.2.2.2.2.2] 32 ∧ IaHigh we 0 ⟨tst, tit, tins, touts, thids, tsteps⟩ (.agg #[.int .i64 tst, .int .i64 tit, .slice i.2.2.2.1.1 tins.length i.2.2.2.1.2, .slice i.2.2.2.2.1.1 touts.length i.2.2.2.2.1.2, .slice i.2.2.2.2.2.1.1 thids.length i.2.2.2.2.2.1.2, .slice i.2.2.2.2.2.2.1 tsteps.length i.2.2.2.2.2.2.2]) ∧ w10.heap.size < i.1) ?_ (fun REST => ?_)
        · rintro ⟨bh, vC, vD, ⟨ha2, hc2⟩, ⟨ha3, hc3⟩, ⟨ha4, hc4⟩, ⟨ha5, hc5⟩⟩ w20 ⟨hS, hv, hr, hbw⟩
          simp only at hS hv hr hbw
          simp only [putsAll, Act.put, List.setIfInBounds_toArray, List.set_cons_zero, List.set_cons_succ]
          have M20 := Lib.hid hS
          have VH20 := Lib.hid hv
          have RH20 := Lib.hid hr.rowIa
          have VW20 := Lib.hid (VW5.out.below M20.out.1)
          clear hS hv hr hbw hHeld SD CJ
          have ca0 := VH20.out.cell (j := 0) rfl
          have ca1 := VH20.out.cell (j := 1) rfl
          have ca2 := VH20.out.cell (j := 2) rfl
          have ca3 := VH20.out.cell (j := 3) rfl
          have ca4 := VH20.out.cell (j := 4) rfl
          have ca5 := VH20.out.cell (j := 5) rfl
          have cb0 := VW20.out.cell (j := 0) rfl
          have cb1 := VW20.out.cell (j := 1) rfl
          have cb2 := VW20.out.cell (j := 2) rfl
          have cb3 := VW20.out.cell (j := 3) rfl
          have cb4 := VW20.out.cell (j := 4) rfl
          have cb5 := VW20.out.cell (j := 5) rfl
          go_wp2_with fail
          clear ca0 ca1 ca2 ca3 ca4 ca5 cb0 cb1 cb2 cb3 cb4 cb5
          refine (eqIa_any ⟨tst, tit, tins, touts, thids, tsteps⟩ ⟨tst, tit, tins, touts, thids, tsteps⟩ _ _ _ RH20.out (RW5.out.below M20.out.1) FT.out FT.out).mono ?_
          rintro e w21 ⟨rfl, hb⟩
          rw [sameB_refl]
          have M21 := Lib.hid (M20.out.below hb)
          clear hb M20 VH20 RH20 VW20
          have ca0 := M21.out.2.1.cell (j := 0) rfl
          have ca1 := M21.out.2.1.cell (j := 1) rfl
          have ca2 := M21.out.2.1.cell (j := 2) rfl
          have ca3 := M21.out.2.1.cell (j := 3) rfl
          have ca4 := M21.out.2.1.cell (j := 4) rfl
          have ca5 := M21.out.2.1.cell (j := 5) rfl
          go_wp2_with fail
          clear ca0 ca1 ca2 ca3 ca4 ca5
          refine (heldIa_own ⟨tst, tit, tins, touts, thids, tsteps⟩ _ _ M21.out.2.2.row (by simp only; omega) (by simp only; omega) (by simp only; omega) (by simp only; omega)).mono ?_
          rw [← HM.out]
          rintro e w22 ⟨rfl, hb⟩
          have M22 := Lib.hid (M21.out.below hb)
          clear hb M21
          go_wp2_with fail
          go_ret
          exact ⟨rfl, S5.out.1.trans (M22.out.1.mono S5.out.1.size)⟩
        · refine wpAnyH_ready (rs := [1, 8]) (fuel := 8) (by kernel_rfl) (by simp) ?_
          refine ready_want rfl (by kernel_rfl) #[true, true, true, false, false, false, false, false, false, false, false] (by kernel_rfl) (fun K hK => ?_) ?_
          · simp only [List.getElem_toArray, List.getElem_cons_succ, List.getElem_cons_zero]
            go_big_op
            refine (CTA.out _ (S5.out.1.trans (hHeld.1.mono S5.out.1.size))).mono ?_
            rintro e wp1 ⟨va1, rfl, hat, hb⟩
            have ra1 : Hid (IaRow wp1 ⟨st, it, ins, outs, hids, steps⟩ va1) := hat.row
            have hS1 := hHeld.below hb
            clear hb hat
            refine hK.out _ _ hS1 (fun hHeld => ?_)
            clear hK K hS1
            refine wpAnyH_ready (rs := [3, 8]) (fuel := 7) (by kernel_rfl) (by simp) ?_
            refine ready_want rfl (by kernel_rfl) #[true, true, true, true, false, false, false, false, false, false, false] (by kernel_rfl) (fun K hK => ?_) ?_
            · simp only [List.getElem_toArray, List.getElem_cons_succ, List.getElem_cons_zero]
              go_big_op
              refine (CTB.out _ (S5.out.1.trans (hHeld.1.mono S5.out.1.size))).mono ?_
              rintro e wp2 ⟨vb2, rfl, hat, hb⟩
              have ra2 : Hid (IaRow wp2 ⟨st, it, ins, outs, hids, steps⟩ va1) := ra1.out.below (hb)
              have rb2 : Hid (IaRow wp2 ⟨su, iu, jns, juts, jids, jteps⟩ vb2) := hat.row
              have hS2 := hHeld.below hb
              clear hb hat
              refine hK.out _ _ hS2 (fun hHeld => ?_)
              clear hK K hS2
              refine wpAnyH_ready (rs := [4, 8]) (fuel := 6) (by kernel_rfl) (by simp) ?_
              refine ready_want rfl (by kernel_rfl) #[true, true, true, true, true, false, false, false, false, false, false] (by kernel_rfl) (fun K hK => ?_) ?_
              · simp only [List.getElem_toArray, List.getElem_cons_succ, List.getElem_cons_zero]
                go_big_op
                refine (CJ.out _ _ _ ra2.out rb2.out).mono ?_
                rintro e wp3 ⟨ha2_3, hc2_3, ha3_3, hc3_3, ha4_3, hc4_3, ha5_3, hc5_3, rfl, hr, hb⟩
                have ra3 : Hid (IaRow wp3 ⟨st, it, ins, outs, hids, steps⟩ va1) := ra2.out.below (hb)
                have rb3 : Hid (IaRow wp3 ⟨su, iu, jns, juts, jids, jteps⟩ vb2) := rb2.out.below (hb)
                have rw3 : Hid (IaHigh wp3 0 ⟨tst, tit, tins, touts, thids, tsteps⟩ (.agg #[.int .i64 tst, .int .i64 tit, .slice ha2_3 tins.length hc2_3, .slice ha3_3 touts.length hc3_3, .slice ha4_3 thids.length hc4_3, .slice ha5_3 tsteps.length hc5_3])) := hr.mono (Nat.zero_le _)
                have hS3 := hHeld.below hb
                clear hb hr
                refine hK.out _ _ hS3 (fun hHeld => ?_)
                clear hK K hS3
                refine fast_move 5 94 (.tuple #[.agg #[.int .i64 tst, .int .i64 tit, .slice ha2_3 tins.length hc2_3, .slice ha3_3 touts.length hc3_3, .slice ha4_3 thids.length hc4_3, .slice ha5_3 tsteps.length hc5_3], .bool q]) (.tmp 99) (fuel := 5) rfl rfl (by kernel_rfl) (by kernel_rfl) (by kernel_rfl) (fun _ _ _ h => h) (by kernel_rfl) (by kernel_rfl) (by first | exact Or.inl rfl | exact Or.inr rfl) hHeld #[true, true, true, true, true, true, false, false, false, false, false] (by kernel_rfl) (fun K hK => ?_)
                go_big_move
                refine hK.out _ ?_
                clear hK K
                refine fast1 6 100 (.agg #[.int .i64 tst, .int .i64 tit, .slice ha2_3 tins.length hc2_3, .slice ha3_3 touts.length hc3_3, .slice ha4_3 thids.length hc4_3, .slice ha5_3 tsteps.length hc5_3]) (.tmp 94) (.tuple #[.agg #[.int .i64 tst, .int .i64 tit, .slice ha2_3 tins.length hc2_3, .slice ha3_3 touts.length hc3_3, .slice ha4_3 thids.length hc4_3, .slice ha5_3 tsteps.length hc5_3], .bool q]) (fuel := 4) rfl rfl (by kernel_rfl) (by kernel_rfl) (by kernel_rfl) (fun _ _ _ h => h) (by kernel_rfl) (by kernel_rfl) (fun ρ hr0 _ w hSw => by simp [go_sem, hr0]) hHeld #[true, true, true, true, true, true, true, false, false, false, false] (by kernel_rfl) (fun K hK => ?_)
                go_big_move
                refine hK.out _ ?_
                clear hK K
                refine fast1 7 101 (.bool q) (.tmp 94) (.tuple #[.agg #[.int .i64 tst, .int .i64 tit, .slice ha2_3 tins.length hc2_3, .slice ha3_3 touts.length hc3_3, .slice ha4_3 thids.length hc4_3, .slice ha5_3 tsteps.length hc5_3], .bool q]) (fuel := 3) rfl rfl (by kernel_rfl) (by kernel_rfl) (by kernel_rfl) (fun _ _ _ h => h) (by kernel_rfl) (by kernel_rfl) (fun ρ hr0 _ w hSw => by simp [go_sem, hr0]) hHeld #[true, true, true, true, true, true, true, true, false, false, false] (by kernel_rfl) (fun K hK => ?_)
                go_big_move
                refine hK.out _ ?_
                clear hK K
                refine wpAnyH_ready (rs := [8]) (fuel := 2) (by kernel_rfl) (by simp) ?_
                refine ready_want rfl (by kernel_rfl) #[true, true, true, true, true, true, true, true, true, false, false] (by kernel_rfl) (fun K hK => ?_) AllReadyH.nil
                have ra4 : Hid (IaRow (wp3.alloc (.cells #[.int .i64 0, .int .i64 0, .slice none 0 0, .slice none 0 0, .slice none 0 0, .slice none 0 0] 32)) ⟨st, it, ins, outs, hids, steps⟩ va1) := ra3.out.below ((Below.refl _ wp3).alloc (Nat.le_refl _) (.cells #[.int .i64 0, .int .i64 0, .slice none 0 0, .slice none 0 0, .slice none 0 0, .slice none 0 0] 32))
                have rb4 : Hid (IaRow (wp3.alloc (.cells #[.int .i64 0, .int .i64 0, .slice none 0 0, .slice none 0 0, .slice none 0 0, .slice none 0 0] 32)) ⟨su, iu, jns, juts, jids, jteps⟩ vb2) := rb3.out.below ((Below.refl _ wp3).alloc (Nat.le_refl _) (.cells #[.int .i64 0, .int .i64 0, .slice none 0 0, .slice none 0 0, .slice none 0 0, .slice none 0 0] 32))
                have rw4 : Hid (IaHigh (wp3.alloc (.cells #[.int .i64 0, .int .i64 0, .slice none 0 0, .slice none 0 0, .slice none 0 0, .slice none 0 0] 32)) 0 ⟨tst, tit, tins, touts, thids, tsteps⟩ (.agg #[.int .i64 tst, .int .i64 tit, .slice ha2_3 tins.length hc2_3, .slice ha3_3 touts.length hc3_3, .slice ha4_3 thids.length hc4_3, .slice ha5_3 tsteps.length hc5_3])) := rw3.out.below ((Below.refl _ wp3).alloc (Nat.le_refl _) (.cells #[.int .i64 0, .int .i64 0, .slice none 0 0, .slice none 0 0, .slice none 0 0, .slice none 0 0] 32))
                have BL : Hid (w10.heap.size < wp3.heap.size) := by
                  have h1 := hHeld.2.1.lt
                  (try simp at h1)
                  unfold Hid
                  (try simp)
                  omega
                have vn4 : Hid (VarIs (wp3.alloc (.cells #[.int .i64 0, .int .i64 0, .slice none 0 0, .slice none 0 0, .slice none 0 0, .slice none 0 0] 32)) (wp3.heap.size) #[.int .i64 0, .int .i64 0, .slice none 0 0, .slice none 0 0, .slice none 0 0, .slice none 0 0] 32) := VarIs.new wp3 #[.int .i64 0, .int .i64 0, .slice none 0 0, .slice none 0 0, .slice none 0 0, .slice none 0 0] 32 (by simp)
                simp only [List.getElem_toArray, List.getElem_cons_succ, List.getElem_cons_zero]
                go_big_op
                refine hK.out _ _ (hHeld.below ((Below.refl _ wp3).alloc (Nat.le_refl _) (.cells #[.int .i64 0, .int .i64 0, .slice none 0 0, .slice none 0 0, .slice none 0 0, .slice none 0 0] 32))) (fun hHeld => ?_)
                clear hK K
                have tZ : Hid ((wp3.alloc (.cells #[.int .i64 0, .int .i64 0, .slice none 0 0, .slice none 0 0, .slice none 0 0, .slice none 0 0] 32)).there (wp3.heap.size) 0 6) := vn4.out.there rfl
                have gZ := Lib.hid (grown_setCells (wp3.heap.size) [.int .i64 tst, .int .i64 tit, .slice ha2_3 tins.length hc2_3, .slice ha3_3 touts.length hc3_3, .slice ha4_3 thids.length hc4_3, .slice ha5_3 tsteps.length hc5_3] 0 (wp3.alloc (.cells #[.int .i64 0, .int .i64 0, .slice none 0 0, .slice none 0 0, .slice none 0 0, .slice none 0 0] 32)))
                have hSZ : Hid (LawM w5 ((wp3.alloc (.cells #[.int .i64 0, .int .i64 0, .slice none 0 0, .slice none 0 0, .slice none 0 0, .slice none 0 0] 32)).setCells (wp3.heap.size) 0 [.int .i64 tst, .int .i64 tit, .slice ha2_3 tins.length hc2_3, .slice ha3_3 touts.length hc3_3, .slice ha4_3 thids.length hc4_3, .slice ha5_3 tsteps.length hc5_3]) w10.heap.size (w8.heap.size + 1) (markedIa ⟨tst, tit, tins, touts, thids, tsteps⟩) #[.int .i64 tst, .int .i64 tit, .slice ga2 tins.length gc2, .slice ga3 touts.length gc3, .slice ga4 thids.length gc4, .slice ga5 tsteps.length gc5]) := ⟨hHeld.1.grown gZ.out hHeld.1.size (fun q hq => by have h1 := Option.some.inj hq; have h2 := BL.out; omega), hHeld.2.1.grown gZ.out (fun e => by have h1 := Option.some.inj e; have h2 := BL.out; omega), hHeld.2.2.keepVar vn4.out gZ.out⟩
                have rZ : Hid (IaHigh ((wp3.alloc (.cells #[.int .i64 0, .int .i64 0, .slice none 0 0, .slice none 0 0, .slice none 0 0, .slice none 0 0] 32)).setCells (wp3.heap.size) 0 [.int .i64 tst, .int .i64 tit, .slice ha2_3 tins.length hc2_3, .slice ha3_3 touts.length hc3_3, .slice ha4_3 thids.length hc4_3, .slice ha5_3 tsteps.length hc5_3]) 0 ⟨tst, tit, tins, touts, thids, tsteps⟩ (.agg #[.int .i64 tst, .int .i64 tit, .slice ha2_3 tins.length hc2_3, .slice ha3_3 touts.length hc3_3, .slice ha4_3 thids.length hc4_3, .slice ha5_3 tsteps.length hc5_3])) := rw4.out.keepVar vn4.out gZ.out
                have vZ : Hid (VarIs ((wp3.alloc (.cells #[.int .i64 0, .int .i64 0, .slice none 0 0, .slice none 0 0, .slice none 0 0, .slice none 0 0] 32)).setCells (wp3.heap.size) 0 [.int .i64 tst, .int .i64 tit, .slice ha2_3 tins.length hc2_3, .slice ha3_3 touts.length hc3_3, .slice ha4_3 thids.length hc4_3, .slice ha5_3 tsteps.length hc5_3]) (wp3.heap.size) #[.int .i64 tst, .int .i64 tit, .slice ha2_3 tins.length hc2_3, .slice ha3_3 touts.length hc3_3, .slice ha4_3 thids.length hc4_3, .slice ha5_3 tsteps.length hc5_3] 32) := vn4.out.sets _ _ _ _ _ _
                refine wpAnyH_ready (rs := [9]) (fuel := 1) (by kernel_rfl) (by simp) ?_
                refine ready_want rfl (by kernel_rfl) #[true, true, true, true, true, true, true, true, true, true, false] (by kernel_rfl) (fun K hK => ?_) AllReadyH.nil
                refine wp_store_mid _ _ _ rfl (wp3.heap.size) 0 #[.int .i64 tst, .int .i64 tit, .slice ha2_3 tins.length hc2_3, .slice ha3_3 touts.length hc3_3, .slice ha4_3 thids.length hc4_3, .slice ha5_3 tsteps.length hc5_3] rfl rfl tZ.out (by kernel_rfl) (ia_one _ _ _ _ _ _ _ _ _ _ _ _ _ _) ?_
                refine hK.out _ _ hSZ.out (fun hHeld => ?_)
                clear hK K
                try simp only [List.getElem_toArray, List.getElem_cons_succ, List.getElem_cons_zero, Act.put]
                refine fast_move 10 16 (.bool q) (.tmp 101) (fuel := 0) rfl rfl (by kernel_rfl) (by kernel_rfl) (by kernel_rfl) (fun _ _ _ h => h) (by kernel_rfl) (by kernel_rfl) (by first | exact Or.inl rfl | exact Or.inr rfl) hHeld #[true, true, true, true, true, true, true, true, true, true, true] (by kernel_rfl) (fun K hK => ?_)
                go_big_move
                refine hK.out _ ?_
                clear hK K
                refine wpAnyH_done (by kernel_rfl) ?_ _
                exact REST.out (wp3.heap.size, va1, vb2, (ha2_3, hc2_3), (ha3_3, hc3_3), (ha4_3, hc4_3), (ha5_3, hc5_3)) _ _ (by kernel_rfl) ⟨hSZ.out, vZ.out, rZ.out, BL.out⟩
              refine ready_want rfl (by kernel_rfl) #[true, true, true, true, false, false, false, false, true, false, false] (by kernel_rfl) (fun K hK => ?_) AllReadyH.nil
              have ra5 : Hid (IaRow (wp2.alloc (.cells #[.int .i64 0, .int .i64 0, .slice none 0 0, .slice none 0 0, .slice none 0 0, .slice none 0 0] 32)) ⟨st, it, ins, outs, hids, steps⟩ va1) := ra2.out.below ((Below.refl _ wp2).alloc (Nat.le_refl _) (.cells #[.int .i64 0, .int .i64 0, .slice none 0 0, .slice none 0 0, .slice none 0 0, .slice none 0 0] 32))
              have rb5 : Hid (IaRow (wp2.alloc (.cells #[.int .i64 0, .int .i64 0, .slice none 0 0, .slice none 0 0, .slice none 0 0, .slice none 0 0] 32)) ⟨su, iu, jns, juts, jids, jteps⟩ vb2) := rb2.out.below ((Below.refl _ wp2).alloc (Nat.le_refl _) (.cells #[.int .i64 0, .int .i64 0, .slice none 0 0, .slice none 0 0, .slice none 0 0, .slice none 0 0] 32))
              have BL : Hid (w10.heap.size < wp2.heap.size) := by
                have h1 := hHeld.2.1.lt
                (try simp at h1)
                unfold Hid
                (try simp)
                omega
              have vn5 : Hid (VarIs (wp2.alloc (.cells #[.int .i64 0, .int .i64 0, .slice none 0 0, .slice none 0 0, .slice none 0 0, .slice none 0 0] 32)) (wp2.heap.size) #[.int .i64 0, .int .i64 0, .slice none 0 0, .slice none 0 0, .slice none 0 0, .slice none 0 0] 32) := VarIs.new wp2 #[.int .i64 0, .int .i64 0, .slice none 0 0, .slice none 0 0, .slice none 0 0, .slice none 0 0] 32 (by simp)
              simp only [List.getElem_toArray, List.getElem_cons_succ, List.getElem_cons_zero]
              go_big_op
              refine hK.out _ _ (hHeld.below ((Below.refl _ wp2).alloc (Nat.le_refl _) (.cells #[.int .i64 0, .int .i64 0, .slice none 0 0, .slice none 0 0, .slice none 0 0, .slice none 0 0] 32))) (fun hHeld => ?_)
              clear hK K
              refine wpAnyH_ready (rs := [4]) (fuel := 5) (by kernel_rfl) (by simp) ?_
              refine ready_want rfl (by kernel_rfl) #[true, true, true, true, true, false, false, false, true, false, false] (by kernel_rfl) (fun K hK => ?_) AllReadyH.nil
              simp only [List.getElem_toArray, List.getElem_cons_succ, List.getElem_cons_zero]
              go_big_op
              refine (CJ.out _ _ _ ra5.out rb5.out).mono ?_
              rintro e wp6 ⟨ha2_6, hc2_6, ha3_6, hc3_6, ha4_6, hc4_6, ha5_6, hc5_6, rfl, hr, hb⟩
              have ra6 : Hid (IaRow wp6 ⟨st, it, ins, outs, hids, steps⟩ va1) := ra5.out.below (hb)
              have rb6 : Hid (IaRow wp6 ⟨su, iu, jns, juts, jids, jteps⟩ vb2) := rb5.out.below (hb)
              have v6 : Hid (VarIs wp6 (wp2.heap.size) #[.int .i64 0, .int .i64 0, .slice none 0 0, .slice none 0 0, .slice none 0 0, .slice none 0 0] 32) := vn5.out.below (hb)
              have rw6 : Hid (IaHigh wp6 0 ⟨tst, tit, tins, touts, thids, tsteps⟩ (.agg #[.int .i64 tst, .int .i64 tit, .slice ha2_6 tins.length hc2_6, .slice ha3_6 touts.length hc3_6, .slice ha4_6 thids.length hc4_6, .slice ha5_6 tsteps.length hc5_6])) := hr.mono (Nat.zero_le _)
              have hS6 := hHeld.below hb
              clear hb hr
              refine hK.out _ _ hS6 (fun hHeld => ?_)
              clear hK K hS6
              refine fast_move 5 94 (.tuple #[.agg #[.int .i64 tst, .int .i64 tit, .slice ha2_6 tins.length hc2_6, .slice ha3_6 touts.length hc3_6, .slice ha4_6 thids.length hc4_6, .slice ha5_6 tsteps.length hc5_6], .bool q]) (.tmp 99) (fuel := 4) rfl rfl (by kernel_rfl) (by kernel_rfl) (by kernel_rfl) (fun _ _ _ h => h) (by kernel_rfl) (by kernel_rfl) (by first | exact Or.inl rfl | exact Or.inr rfl) hHeld #[true, true, true, true, true, true, false, false, true, false, false] (by kernel_rfl) (fun K hK => ?_)
              go_big_move
              refine hK.out _ ?_
              clear hK K
              refine fast1 6 100 (.agg #[.int .i64 tst, .int .i64 tit, .slice ha2_6 tins.length hc2_6, .slice ha3_6 touts.length hc3_6, .slice ha4_6 thids.length hc4_6, .slice ha5_6 tsteps.length hc5_6]) (.tmp 94) (.tuple #[.agg #[.int .i64 tst, .int .i64 tit, .slice ha2_6 tins.length hc2_6, .slice ha3_6 touts.length hc3_6, .slice ha4_6 thids.length hc4_6, .slice ha5_6 tsteps.length hc5_6], .bool q]) (fuel := 3) rfl rfl (by kernel_rfl) (by kernel_rfl) (by kernel_rfl) (fun _ _ _ h => h) (by kernel_rfl) (by kernel_rfl) (fun ρ hr0 _ w hSw => by simp [go_sem, hr0]) hHeld #[true, true, true, true, true, true, true, false, true, false, false] (by kernel_rfl) (fun K hK => ?_)
              go_big_move
              refine hK.out _ ?_
              clear hK K
              refine fast1 7 101 (.bool q) (.tmp 94) (.tuple #[.agg #[.int .i64 tst, .int .i64 tit, .slice ha2_6 tins.length hc2_6, .slice ha3_6 touts.length hc3_6, .slice ha4_6 thids.length hc4_6, .slice ha5_6 tsteps.length hc5_6], .bool q]) (fuel := 2) rfl rfl (by kernel_rfl) (by kernel_rfl) (by kernel_rfl) (fun _ _ _ h => h) (by kernel_rfl) (by kernel_rfl) (fun ρ hr0 _ w hSw => by simp [go_sem, hr0]) hHeld #[true, true, true, true, true, true, true, true, true, false, false] (by kernel_rfl) (fun K hK => ?_)
              go_big_move
              refine hK.out _ ?_
              clear hK K
              have tZ : Hid (wp6.there (wp2.heap.size) 0 6) := v6.out.there rfl
              have gZ := Lib.hid (grown_setCells (wp2.heap.size) [.int .i64 tst, .int .i64 tit, .slice ha2_6 tins.length hc2_6, .slice ha3_6 touts.length hc3_6, .slice ha4_6 thids.length hc4_6, .slice ha5_6 tsteps.length hc5_6] 0 wp6)
              have hSZ : Hid (LawM w5 (wp6.setCells (wp2.heap.size) 0 [.int .i64 tst, .int .i64 tit, .slice ha2_6 tins.length hc2_6, .slice ha3_6 touts.length hc3_6, .slice ha4_6 thids.length hc4_6, .slice ha5_6 tsteps.length hc5_6]) w10.heap.size (w8.heap.size + 1) (markedIa ⟨tst, tit, tins, touts, thids, tsteps⟩) #[.int .i64 tst, .int .i64 tit, .slice ga2 tins.length gc2, .slice ga3 touts.length gc3, .slice ga4 thids.length gc4, .slice ga5 tsteps.length gc5]) := ⟨hHeld.1.grown gZ.out hHeld.1.size (fun q hq => by have h1 := Option.some.inj hq; have h2 := BL.out; omega), hHeld.2.1.grown gZ.out (fun e => by have h1 := Option.some.inj e; have h2 := BL.out; omega), hHeld.2.2.keepVar v6.out gZ.out⟩
              have rZ : Hid (IaHigh (wp6.setCells (wp2.heap.size) 0 [.int .i64 tst, .int .i64 tit, .slice ha2_6 tins.length hc2_6, .slice ha3_6 touts.length hc3_6, .slice ha4_6 thids.length hc4_6, .slice ha5_6 tsteps.length hc5_6]) 0 ⟨tst, tit, tins, touts, thids, tsteps⟩ (.agg #[.int .i64 tst, .int .i64 tit, .slice ha2_6 tins.length hc2_6, .slice ha3_6 touts.length hc3_6, .slice ha4_6 thids.length hc4_6, .slice ha5_6 tsteps.length hc5_6])) := rw6.out.keepVar v6.out gZ.out
              have vZ : Hid (VarIs (wp6.setCells (wp2.heap.size) 0 [.int .i64 tst, .int .i64 tit, .slice ha2_6 tins.length hc2_6, .slice ha3_6 touts.length hc3_6, .slice ha4_6 thids.length hc4_6, .slice ha5_6 tsteps.length hc5_6]) (wp2.heap.size) #[.int .i64 tst, .int .i64 tit, .slice ha2_6 tins.length hc2_6, .slice ha3_6 touts.length hc3_6, .slice ha4_6 thids.length hc4_6, .slice ha5_6 tsteps.length hc5_6] 32) := v6.out.sets _ _ _ _ _ _
              refine wpAnyH_ready (rs := [9]) (fuel := 1) (by kernel_rfl) (by simp) ?_
              refine ready_want rfl (by kernel_rfl) #[true, true, true, true, true, true, true, true, true, true, false] (by kernel_rfl) (fun K hK => ?_) AllReadyH.nil
              refine wp_store_mid _ _ _ rfl (wp2.heap.size) 0 #[.int .i64 tst, .int .i64 tit, .slice ha2_6 tins.length hc2_6, .slice ha3_6 touts.length hc3_6, .slice ha4_6 thids.length hc4_6, .slice ha5_6 tsteps.length hc5_6] rfl rfl tZ.out (by kernel_rfl) (ia_one _ _ _ _ _ _ _ _ _ _ _ _ _ _) ?_
              refine hK.out _ _ hSZ.out (fun hHeld => ?_)
              clear hK K
              try simp only [List.getElem_toArray, List.getElem_cons_succ, List.getElem_cons_zero, Act.put]
              refine fast_move 10 16 (.bool q) (.tmp 101) (fuel := 0) rfl rfl (by kernel_rfl) (by kernel_rfl) (by kernel_rfl) (fun _ _ _ h => h) (by kernel_rfl) (by kernel_rfl) (by first | exact Or.inl rfl | exact Or.inr rfl) hHeld #[true, true, true, true, true, true, true, true, true, true, true] (by kernel_rfl) (fun K hK => ?_)
              go_big_move
              refine hK.out _ ?_
              clear hK K
              refine wpAnyH_done (by kernel_rfl) ?_ _
              exact REST.out (wp2.heap.size, va1, vb2, (ha2_6, hc2_6), (ha3_6, hc3_6), (ha4_6, hc4_6), (ha5_6, hc5_6)) _ _ (by kernel_rfl) ⟨hSZ.out, vZ.out, rZ.out, BL.out⟩
            refine ready_want rfl (by kernel_rfl) #[true, true, true, false, false, false, false, false, true, false, false] (by kernel_rfl) (fun K hK => ?_) AllReadyH.nil
            have ra7 : Hid (IaRow (wp1.alloc (.cells #[.int .i64 0, .int .i64 0, .slice none 0 0, .slice none 0 0, .slice none 0 0, .slice none 0 0] 32)) ⟨st, it, ins, outs, hids, steps⟩ va1) := ra1.out.below ((Below.refl _ wp1).alloc (Nat.le_refl _) (.cells #[.int .i64 0, .int .i64 0, .slice none 0 0, .slice none 0 0, .slice none 0 0, .slice none 0 0] 32))
            have BL : Hid (w10.heap.size < wp1.heap.size) := by
              have h1 := hHeld.2.1.lt
              (try simp at h1)
              unfold Hid
              (try simp)
              omega
            have vn7 : Hid (VarIs (wp1.alloc (.cells #[.int .i64 0, .int .i64 0, .slice none 0 0, .slice none 0 0, .slice none 0 0, .slice none 0 0] 32)) (wp1.heap.size) #[.int .i64 0, .int .i64 0, .slice none 0 0, .slice none 0 0, .slice none 0 0, .slice none 0 0] 32) := VarIs.new wp1 #[.int .i64 0, .int .i64 0, .slice none 0 0, .slice none 0 0, .slice none 0 0, .slice none 0 0] 32 (by simp)
            simp only [List.getElem_toArray, List.getElem_cons_succ, List.getElem_cons_zero]
            go_big_op
            refine hK.out _ _ (hHeld.below ((Below.refl _ wp1).alloc (Nat.le_refl _) (.cells #[.int .i64 0, .int .i64 0, .slice none 0 0, .slice none 0 0, .slice none 0 0, .slice none 0 0] 32))) (fun hHeld => ?_)
            clear hK K
            refine wpAnyH_ready (rs := [3]) (fuel := 6) (by kernel_rfl) (by simp) ?_
            refine ready_want rfl (by kernel_rfl) #[true, true, true, true, false, false, false, false, true, false, false] (by kernel_rfl) (fun K hK => ?_) AllReadyH.nil
            simp only [List.getElem_toArray, List.getElem_cons_succ, List.getElem_cons_zero]
            go_big_op
            refine (CTB.out _ (S5.out.1.trans (hHeld.1.mono S5.out.1.size))).mono ?_
            rintro e wp8 ⟨vb8, rfl, hat, hb⟩
            have ra8 : Hid (IaRow wp8 ⟨st, it, ins, outs, hids, steps⟩ va1) := ra7.out.below (hb)
            have v8 : Hid (VarIs wp8 (wp1.heap.size) #[.int .i64 0, .int .i64 0, .slice none 0 0, .slice none 0 0, .slice none 0 0, .slice none 0 0] 32) := vn7.out.below (hb)
            have rb8 : Hid (IaRow wp8 ⟨su, iu, jns, juts, jids, jteps⟩ vb8) := hat.row
            have hS8 := hHeld.below hb
            clear hb hat
            refine hK.out _ _ hS8 (fun hHeld => ?_)
            clear hK K hS8
            refine wpAnyH_ready (rs := [4]) (fuel := 5) (by kernel_rfl) (by simp) ?_
            refine ready_want rfl (by kernel_rfl) #[true, true, true, true, true, false, false, false, true, false, false] (by kernel_rfl) (fun K hK => ?_) AllReadyH.nil
            simp only [List.getElem_toArray, List.getElem_cons_succ, List.getElem_cons_zero]
            go_big_op
            refine (CJ.out _ _ _ ra8.out rb8.out).mono ?_
            rintro e wp9 ⟨ha2_9, hc2_9, ha3_9, hc3_9, ha4_9, hc4_9, ha5_9, hc5_9, rfl, hr, hb⟩
            have ra9 : Hid (IaRow wp9 ⟨st, it, ins, outs, hids, steps⟩ va1) := ra8.out.below (hb)
            have v9 : Hid (VarIs wp9 (wp1.heap.size) #[.int .i64 0, .int .i64 0, .slice none 0 0, .slice none 0 0, .slice none 0 0, .slice none 0 0] 32) := v8.out.below (hb)
            have rb9 : Hid (IaRow wp9 ⟨su, iu, jns, juts, jids, jteps⟩ vb8) := rb8.out.below (hb)
            have rw9 : Hid (IaHigh wp9 0 ⟨tst, tit, tins, touts, thids, tsteps⟩ (.agg #[.int .i64 tst, .int .i64 tit, .slice ha2_9 tins.length hc2_9, .slice ha3_9 touts.length hc3_9, .slice ha4_9 thids.length hc4_9, .slice ha5_9 tsteps.length hc5_9])) := hr.mono (Nat.zero_le _)
            have hS9 := hHeld.below hb
            clear hb hr
            refine hK.out _ _ hS9 (fun hHeld => ?_)
            clear hK K hS9
            refine fast_move 5 94 (.tuple #[.agg #[.int .i64 tst, .int .i64 tit, .slice ha2_9 tins.length hc2_9, .slice ha3_9 touts.length hc3_9, .slice ha4_9 thids.length hc4_9, .slice ha5_9 tsteps.length hc5_9], .bool q]) (.tmp 99) (fuel := 4) rfl rfl (by kernel_rfl) (by kernel_rfl) (by kernel_rfl) (fun _ _ _ h => h) (by kernel_rfl) (by kernel_rfl) (by first | exact Or.inl rfl | exact Or.inr rfl) hHeld #[true, true, true, true, true, true, false, false, true, false, false] (by kernel_rfl) (fun K hK => ?_)
            go_big_move
            refine hK.out _ ?_
            clear hK K
            refine fast1 6 100 (.agg #[.int .i64 tst, .int .i64 tit, .slice ha2_9 tins.length hc2_9, .slice ha3_9 touts.length hc3_9, .slice ha4_9 thids.length hc4_9, .slice ha5_9 tsteps.length hc5_9]) (.tmp 94) (.tuple #[.agg #[.int .i64 tst, .int .i64 tit, .slice ha2_9 tins.length hc2_9, .slice ha3_9 touts.length hc3_9, .slice ha4_9 thids.length hc4_9, .slice ha5_9 tsteps.length hc5_9], .bool q]) (fuel := 3) rfl rfl (by kernel_rfl) (by kernel_rfl) (by kernel_rfl) (fun _ _ _ h => h) (by kernel_rfl) (by kernel_rfl) (fun ρ hr0 _ w hSw => by simp [go_sem, hr0]) hHeld #[true, true, true, true, true, true, true, false, true, false, false] (by kernel_rfl) (fun K hK => ?_)
            go_big_move
            refine hK.out _ ?_
            clear hK K
            refine fast1 7 101 (.bool q) (.tmp 94) (.tuple #[.agg #[.int .i64 tst, .int .i64 tit, .slice ha2_9 tins.length hc2_9, .slice ha3_9 touts.length hc3_9, .slice ha4_9 thids.length hc4_9, .slice ha5_9 tsteps.length hc5_9], .bool q]) (fuel := 2) rfl rfl (by kernel_rfl) (by kernel_rfl) (by kernel_rfl) (fun _ _ _ h => h) (by kernel_rfl) (by kernel_rfl) (fun ρ hr0 _ w hSw => by simp [go_sem, hr0]) hHeld #[true, true, true, true, true, true, true, true, true, false, false] (by kernel_rfl) (fun K hK => ?_)
            go_big_move
            refine hK.out _ ?_
            clear hK K
            have tZ : Hid (wp9.there (wp1.heap.size) 0 6) := v9.out.there rfl
            have gZ := Lib.hid (grown_setCells (wp1.heap.size) [.int .i64 tst, .int .i64 tit, .slice ha2_9 tins.length hc2_9, .slice ha3_9 touts.length hc3_9, .slice ha4_9 thids.length hc4_9, .slice ha5_9 tsteps.length hc5_9] 0 wp9)
            have hSZ : Hid (LawM w5 (wp9.setCells (wp1.heap.size) 0 [.int .i64 tst, .int .i64 tit, .slice ha2_9 tins.length hc2_9, .slice ha3_9 touts.length hc3_9, .slice ha4_9 thids.length hc4_9, .slice ha5_9 tsteps.length hc5_9]) w10.heap.size (w8.heap.size + 1) (markedIa ⟨tst, tit, tins, touts, thids, tsteps⟩) #[.int .i64 tst, .int .i64 tit, .slice ga2 tins.length gc2, .slice ga3 touts.length gc3, .slice ga4 thids.length gc4, .slice ga5 tsteps.length gc5]) := ⟨hHeld.1.grown gZ.out hHeld.1.size (fun q hq => by have h1 := Option.some.inj hq; have h2 := BL.out; omega), hHeld.2.1.grown gZ.out (fun e => by have h1 := Option.some.inj e; have h2 := BL.out; omega), hHeld.2.2.keepVar v9.out gZ.out⟩
            have rZ : Hid (IaHigh (wp9.setCells (wp1.heap.size) 0 [.int .i64 tst, .int .i64 tit, .slice ha2_9 tins.length hc2_9, .slice ha3_9 touts.length hc3_9, .slice ha4_9 thids.length hc4_9, .slice ha5_9 tsteps.length hc5_9]) 0 ⟨tst, tit, tins, touts, thids, tsteps⟩ (.agg #[.int .i64 tst, .int .i64 tit, .slice ha2_9 tins.length hc2_9, .slice ha3_9 touts.length hc3_9, .slice ha4_9 thids.length hc4_9, .slice ha5_9 tsteps.length hc5_9])) := rw9.out.keepVar v9.out gZ.out
            have vZ : Hid (VarIs (wp9.setCells (wp1.heap.size) 0 [.int .i64 tst, .int .i64 tit, .slice ha2_9 tins.length hc2_9, .slice ha3_9 touts.length hc3_9, .slice ha4_9 thids.length hc4_9, .slice ha5_9 tsteps.length hc5_9]) (wp1.heap.size) #[.int .i64 tst, .int .i64 tit, .slice ha2_9 tins.length hc2_9, .slice ha3_9 touts.length hc3_9, .slice ha4_9 thids.length hc4_9, .slice ha5_9 tsteps.length hc5_9] 32) := v9.out.sets _ _ _ _ _ _
            refine wpAnyH_ready (rs := [9]) (fuel := 1) (by kernel_rfl) (by simp) ?_
            refine ready_want rfl (by kernel_rfl) #[true, true, true, true, true, true, true, true, true, true, false] (by kernel_rfl) (fun K hK => ?_) AllReadyH.nil
            refine wp_store_mid _ _ _ rfl (wp1.heap.size) 0 #[.int .i64 tst, .int .i64 tit, .slice ha2_9 tins.length hc2_9, .slice ha3_9 touts.length hc3_9, .slice ha4_9 thids.length hc4_9, .slice ha5_9 tsteps.length hc5_9] rfl rfl tZ.out (by kernel_rfl) (ia_one _ _ _ _ _ _ _ _ _ _ _ _ _ _) ?_
            refine hK.out _ _ hSZ.out (fun hHeld => ?_)
            clear hK K
            try simp only [List.getElem_toArray, List.getElem_cons_succ, List.getElem_cons_zero, Act.put]
            refine fast_move 10 16 (.bool q) (.tmp 101) (fuel := 0) rfl rfl (by kernel_rfl) (by kernel_rfl) (by kernel_rfl) (fun _ _ _ h => h) (by kernel_rfl) (by kernel_rfl) (by first | exact Or.inl rfl | exact Or.inr rfl) hHeld #[true, true, true, true, true, true, true, true, true, true, true] (by kernel_rfl) (fun K hK => ?_)
            go_big_move
            refine hK.out _ ?_
            clear hK K
            refine wpAnyH_done (by kernel_rfl) ?_ _
            exact REST.out (wp1.heap.size, va1, vb8, (ha2_9, hc2_9), (ha3_9, hc3_9), (ha4_9, hc4_9), (ha5_9, hc5_9)) _ _ (by kernel_rfl) ⟨hSZ.out, vZ.out, rZ.out, BL.out⟩
          refine ready_want rfl (by kernel_rfl) #[true, false, true, false, false, false, false, false, true, false, false] (by kernel_rfl) (fun K hK => ?_) AllReadyH.nil
          have BL : Hid (w10.heap.size < w19.heap.size) := by
            have h1 := hHeld.2.1.lt
            (try simp at h1)
            unfold Hid
            (try simp)
            omega
          have vn10 : Hid (VarIs (w19.drew.alloc (.cells #[.int .i64 0, .int .i64 0, .slice none 0 0, .slice none 0 0, .slice none 0 0, .slice none 0 0] 32)) (w19.heap.size) #[.int .i64 0, .int .i64 0, .slice none 0 0, .slice none 0 0, .slice none 0 0, .slice none 0 0] 32) := VarIs.new w19.drew #[.int .i64 0, .int .i64 0, .slice none 0 0, .slice none 0 0, .slice none 0 0, .slice none 0 0] 32 (by simp)
          simp only [List.getElem_toArray, List.getElem_cons_succ, List.getElem_cons_zero]
          go_big_op
          refine hK.out _ _ (hHeld.below ((Below.refl _ w19.drew).alloc (Nat.le_refl _) (.cells #[.int .i64 0, .int .i64 0, .slice none 0 0, .slice none 0 0, .slice none 0 0, .slice none 0 0] 32))) (fun hHeld => ?_)
          clear hK K
          refine wpAnyH_ready (rs := [1]) (fuel := 7) (by kernel_rfl) (by simp) ?_
          refine ready_want rfl (by kernel_rfl) #[true, true, true, false, false, false, false, false, true, false, false] (by kernel_rfl) (fun K hK => ?_) AllReadyH.nil
          simp only [List.getElem_toArray, List.getElem_cons_succ, List.getElem_cons_zero]
          go_big_op
          refine (CTA.out _ (S5.out.1.trans (hHeld.1.mono S5.out.1.size))).mono ?_
          rintro e wp11 ⟨va11, rfl, hat, hb⟩
          have v11 : Hid (VarIs wp11 (w19.heap.size) #[.int .i64 0, .int .i64 0, .slice none 0 0, .slice none 0 0, .slice none 0 0, .slice none 0 0] 32) := vn10.out.below (hb)
          have ra11 : Hid (IaRow wp11 ⟨st, it, ins, outs, hids, steps⟩ va11) := hat.row
          have hS11 := hHeld.below hb
          clear hb hat
          refine hK.out _ _ hS11 (fun hHeld => ?_)
          clear hK K hS11
          refine wpAnyH_ready (rs := [3]) (fuel := 6) (by kernel_rfl) (by simp) ?_
          refine ready_want rfl (by kernel_rfl) #[true, true, true, true, false, false, false, false, true, false, false] (by kernel_rfl) (fun K hK => ?_) AllReadyH.nil
          simp only [List.getElem_toArray, List.getElem_cons_succ, List.getElem_cons_zero]
          go_big_op
          refine (CTB.out _ (S5.out.1.trans (hHeld.1.mono S5.out.1.size))).mono ?_
          rintro e wp12 ⟨vb12, rfl, hat, hb⟩
          have v12 : Hid (VarIs wp12 (w19.heap.size) #[.int .i64 0, .int .i64 0, .slice none 0 0, .slice none 0 0, .slice none 0 0, .slice none 0 0] 32) := v11.out.below (hb)
          have ra12 : Hid (IaRow wp12 ⟨st, it, ins, outs, hids, steps⟩ va11) := ra11.out.below (hb)
          have rb12 : Hid (IaRow wp12 ⟨su, iu, jns, juts, jids, jteps⟩ vb12) := hat.row
          have hS12 := hHeld.below hb
          clear hb hat
          refine hK.out _ _ hS12 (fun hHeld => ?_)
          clear hK K hS12
          refine wpAnyH_ready (rs := [4]) (fuel := 5) (by kernel_rfl) (by simp) ?_
          refine ready_want rfl (by kernel_rfl) #[true, true, true, true, true, false, false, false, true, false, false] (by kernel_rfl) (fun K hK => ?_) AllReadyH.nil
          simp only [List.getElem_toArray, List.getElem_cons_succ, List.getElem_cons_zero]
          go_big_op
          refine (CJ.out _ _ _ ra12.out rb12.out).mono ?_
          rintro e wp13 ⟨ha2_13, hc2_13, ha3_13, hc3_13, ha4_13, hc4_13, ha5_13, hc5_13, rfl, hr, hb⟩
          have v13 : Hid (VarIs wp13 (w19.heap.size) #[.int .i64 0, .int .i64 0, .slice none 0 0, .slice none 0 0, .slice none 0 0, .slice none 0 0] 32) := v12.out.below (hb)
          have ra13 : Hid (IaRow wp13 ⟨st, it, ins, outs, hids, steps⟩ va11) := ra12.out.below (hb)
          have rb13 : Hid (IaRow wp13 ⟨su, iu, jns, juts, jids, jteps⟩ vb12) := rb12.out.below (hb)
          have rw13 : Hid (IaHigh wp13 0 ⟨tst, tit, tins, touts, thids, tsteps⟩ (.agg #[.int .i64 tst, .int .i64 tit, .slice ha2_13 tins.length hc2_13, .slice ha3_13 touts.length hc3_13, .slice ha4_13 thids.length hc4_13, .slice ha5_13 tsteps.length hc5_13])) := hr.mono (Nat.zero_le _)
          have hS13 := hHeld.below hb
          clear hb hr
          refine hK.out _ _ hS13 (fun hHeld => ?_)
          clear hK K hS13
          refine fast_move 5 94 (.tuple #[.agg #[.int .i64 tst, .int .i64 tit, .slice ha2_13 tins.length hc2_13, .slice ha3_13 touts.length hc3_13, .slice ha4_13 thids.length hc4_13, .slice ha5_13 tsteps.length hc5_13], .bool q]) (.tmp 99) (fuel := 4) rfl rfl (by kernel_rfl) (by kernel_rfl) (by kernel_rfl) (fun _ _ _ h => h) (by kernel_rfl) (by kernel_rfl) (by first | exact Or.inl rfl | exact Or.inr rfl) hHeld #[true, true, true, true, true, true, false, false, true, false, false] (by kernel_rfl) (fun K hK => ?_)
          go_big_move
          refine hK.out _ ?_
          clear hK K
          refine fast1 6 100 (.agg #[.int .i64 tst, .int .i64 tit, .slice ha2_13 tins.length hc2_13, .slice ha3_13 touts.length hc3_13, .slice ha4_13 thids.length hc4_13, .slice ha5_13 tsteps.length hc5_13]) (.tmp 94) (.tuple #[.agg #[.int .i64 tst, .int .i64 tit, .slice ha2_13 tins.length hc2_13, .slice ha3_13 touts.length hc3_13, .slice ha4_13 thids.length hc4_13, .slice ha5_13 tsteps.length hc5_13], .bool q]) (fuel := 3) rfl rfl (by kernel_rfl) (by kernel_rfl) (by kernel_rfl) (fun _ _ _ h => h) (by kernel_rfl) (by kernel_rfl) (fun ρ hr0 _ w hSw => by simp [go_sem, hr0]) hHeld #[true, true, true, true, true, true, true, false, true, false, false] (by kernel_rfl) (fun K hK => ?_)
          go_big_move
          refine hK.out _ ?_
          clear hK K
          refine fast1 7 101 (.bool q) (.tmp 94) (.tuple #[.agg #[.int .i64 tst, .int .i64 tit, .slice ha2_13 tins.length hc2_13, .slice ha3_13 touts.length hc3_13, .slice ha4_13 thids.length hc4_13, .slice ha5_13 tsteps.length hc5_13], .bool q]) (fuel := 2) rfl rfl (by kernel_rfl) (by kernel_rfl) (by kernel_rfl) (fun _ _ _ h => h) (by kernel_rfl) (by kernel_rfl) (fun ρ hr0 _ w hSw => by simp [go_sem, hr0]) hHeld #[true, true, true, true, true, true, true, true, true, false, false] (by kernel_rfl) (fun K hK => ?_)
          go_big_move
          refine hK.out _ ?_
          clear hK K
          have tZ : Hid (wp13.there (w19.heap.size) 0 6) := v13.out.there rfl
          have gZ := Lib.hid (grown_setCells (w19.heap.size) [.int .i64 tst, .int .i64 tit, .slice ha2_13 tins.length hc2_13, .slice ha3_13 touts.length hc3_13, .slice ha4_13 thids.length hc4_13, .slice ha5_13 tsteps.length hc5_13] 0 wp13)
          have hSZ : Hid (LawM w5 (wp13.setCells (w19.heap.size) 0 [.int .i64 tst, .int .i64 tit, .slice ha2_13 tins.length hc2_13, .slice ha3_13 touts.length hc3_13, .slice ha4_13 thids.length hc4_13, .slice ha5_13 tsteps.length hc5_13]) w10.heap.size (w8.heap.size + 1) (markedIa ⟨tst, tit, tins, touts, thids, tsteps⟩) #[.int .i64 tst, .int .i64 tit, .slice ga2 tins.length gc2, .slice ga3 touts.length gc3, .slice ga4 thids.length gc4, .slice ga5 tsteps.length gc5]) := ⟨hHeld.1.grown gZ.out hHeld.1.size (fun q hq => by have h1 := Option.some.inj hq; have h2 := BL.out; omega), hHeld.2.1.grown gZ.out (fun e => by have h1 := Option.some.inj e; have h2 := BL.out; omega), hHeld.2.2.keepVar v13.out gZ.out⟩
          have rZ : Hid (IaHigh (wp13.setCells (w19.heap.size) 0 [.int .i64 tst, .int .i64 tit, .slice ha2_13 tins.length hc2_13, .slice ha3_13 touts.length hc3_13, .slice ha4_13 thids.length hc4_13, .slice ha5_13 tsteps.length hc5_13]) 0 ⟨tst, tit, tins, touts, thids, tsteps⟩ (.agg #[.int .i64 tst, .int .i64 tit, .slice ha2_13 tins.length hc2_13, .slice ha3_13 touts.length hc3_13, .slice ha4_13 thids.length hc4_13, .slice ha5_13 tsteps.length hc5_13])) := rw13.out.keepVar v13.out gZ.out
          have vZ : Hid (VarIs (wp13.setCells (w19.heap.size) 0 [.int .i64 tst, .int .i64 tit, .slice ha2_13 tins.length hc2_13, .slice ha3_13 touts.length hc3_13, .slice ha4_13 thids.length hc4_13, .slice ha5_13 tsteps.length hc5_13]) (w19.heap.size) #[.int .i64 tst, .int .i64 tit, .slice ha2_13 tins.length hc2_13, .slice ha3_13 touts.length hc3_13, .slice ha4_13 thids.length hc4_13, .slice ha5_13 tsteps.length hc5_13] 32) := v13.out.sets _ _ _ _ _ _
          refine wpAnyH_ready (rs := [9]) (fuel := 1) (by kernel_rfl) (by simp) ?_
          refine ready_want rfl (by kernel_rfl) #[true, true, true, true, true, true, true, true, true, true, false] (by kernel_rfl) (fun K hK => ?_) AllReadyH.nil
          refine wp_store_mid _ _ _ rfl (w19.heap.size) 0 #[.int .i64 tst, .int .i64 tit, .slice ha2_13 tins.length hc2_13, .slice ha3_13 touts.length hc3_13, .slice ha4_13 thids.length hc4_13, .slice ha5_13 tsteps.length hc5_13] rfl rfl tZ.out (by kernel_rfl) (ia_one _ _ _ _ _ _ _ _ _ _ _ _ _ _) ?_
          refine hK.out _ _ hSZ.out (fun hHeld => ?_)
          clear hK K
          try simp only [List.getElem_toArray, List.getElem_cons_succ, List.getElem_cons_zero, Act.put]
          refine fast_move 10 16 (.bool q) (.tmp 101) (fuel := 0) rfl rfl (by kernel_rfl) (by kernel_rfl) (by kernel_rfl) (fun _ _ _ h => h) (by kernel_rfl) (by kernel_rfl) (by first | exact Or.inl rfl | exact Or.inr rfl) hHeld #[true, true, true, true, true, true, true, true, true, true, true] (by kernel_rfl) (fun K hK => ?_)
          go_big_move
          refine hK.out _ ?_
          clear hK K
          refine wpAnyH_done (by kernel_rfl) ?_ _
          exact REST.out (w19.heap.size, va11, vb12, (ha2_13, hc2_13), (ha3_13, hc3_13), (ha4_13, hc4_13), (ha5_13, hc5_13)) _ _ (by kernel_rfl) ⟨hSZ.out, vZ.out, rZ.out, BL.out⟩
      · refine wpAnyH_ready (rs := [1, 8]) (fuel := 8) (by kernel_rfl) (by simp) ?_
        refine ready_want rfl (by kernel_rfl) #[true, true, true, false, false, false, false, false, false, false, false] (by kernel_rfl) (fun K hK => ?_) ?_
        · simp only [List.getElem_toArray, List.getElem_cons_succ, List.getElem_cons_zero]
          go_big_op
          refine (CTA.out _ hHeld.1).mono ?_
          rintro e wp1 ⟨va1, rfl, hat, hb⟩
          have ra1 : Hid (IaRow wp1 ⟨st, it, ins, outs, hids, steps⟩ va1) := hat.row
          have hS1 := hHeld.below hb
          clear hb hat
          refine hK.out _ _ hS1 (fun hHeld => ?_)
          clear hK K hS1
          refine wpAnyH_ready (rs := [3, 8]) (fuel := 7) (by kernel_rfl) (by simp) ?_
          refine ready_want rfl (by kernel_rfl) #[true, true, true, true, false, false, false, false, false, false, false] (by kernel_rfl) (fun K hK => ?_) ?_
          · simp only [List.getElem_toArray, List.getElem_cons_succ, List.getElem_cons_zero]
            go_big_op
            refine (CTB.out _ hHeld.1).mono ?_
            rintro e wp2 ⟨vb2, rfl, hat, hb⟩
            have ra2 : Hid (IaRow wp2 ⟨st, it, ins, outs, hids, steps⟩ va1) := ra1.out.below (hb)
            have rb2 : Hid (IaRow wp2 ⟨su, iu, jns, juts, jids, jteps⟩ vb2) := hat.row
            have hS2 := hHeld.below hb
            clear hb hat
            refine hK.out _ _ hS2 (fun hHeld => ?_)
            clear hK K hS2
            refine wpAnyH_ready (rs := [4, 8]) (fuel := 6) (by kernel_rfl) (by simp) ?_
            refine ready_want rfl (by kernel_rfl) #[true, true, true, true, true, false, false, false, false, false, false] (by kernel_rfl) (fun K hK => ?_) ?_
            · simp only [List.getElem_toArray, List.getElem_cons_succ, List.getElem_cons_zero]
              go_big_op
              refine (CP.out _ _ _ ra2.out rb2.out).mono ?_
              rintro e wp3 ⟨wa2_3, wc2_3, wa3_3, wc3_3, wa4_3, wc4_3, wa5_3, wc5_3, rfl, hr, hb⟩
              have ra3 : Hid (IaRow wp3 ⟨st, it, ins, outs, hids, steps⟩ va1) := ra2.out.below (hb)
              have rb3 : Hid (IaRow wp3 ⟨su, iu, jns, juts, jids, jteps⟩ vb2) := rb2.out.below (hb)
              have rw3 : Hid (IaHigh wp3 0 ⟨tst, tit, tins, touts, thids, tsteps⟩ (.agg #[.int .i64 tst, .int .i64 tit, .slice wa2_3 tins.length wc2_3, .slice wa3_3 touts.length wc3_3, .slice wa4_3 thids.length wc4_3, .slice wa5_3 tsteps.length wc5_3])) := hr.mono (Nat.zero_le _)
              have hS3 := hHeld.below hb
              clear hb hr
              refine hK.out _ _ hS3 (fun hHeld => ?_)
              clear hK K hS3
              refine fast_move 5 27 (.tuple #[.agg #[.int .i64 tst, .int .i64 tit, .slice wa2_3 tins.length wc2_3, .slice wa3_3 touts.length wc3_3, .slice wa4_3 thids.length wc4_3, .slice wa5_3 tsteps.length wc5_3], .bool q]) (.tmp 32) (fuel := 5) rfl rfl (by kernel_rfl) (by kernel_rfl) (by kernel_rfl) (fun _ _ _ h => h) (by kernel_rfl) (by kernel_rfl) (by first | exact Or.inl rfl | exact Or.inr rfl) hHeld #[true, true, true, true, true, true, false, false, false, false, false] (by kernel_rfl) (fun K hK => ?_)
              go_big_move
              refine hK.out _ ?_
              clear hK K
              refine fast1 6 33 (.agg #[.int .i64 tst, .int .i64 tit, .slice wa2_3 tins.length wc2_3, .slice wa3_3 touts.length wc3_3, .slice wa4_3 thids.length wc4_3, .slice wa5_3 tsteps.length wc5_3]) (.tmp 27) (.tuple #[.agg #[.int .i64 tst, .int .i64 tit, .slice wa2_3 tins.length wc2_3, .slice wa3_3 touts.length wc3_3, .slice wa4_3 thids.length wc4_3, .slice wa5_3 tsteps.length wc5_3], .bool q]) (fuel := 4) rfl rfl (by kernel_rfl) (by kernel_rfl) (by kernel_rfl) (fun _ _ _ h => h) (by kernel_rfl) (by kernel_rfl) (fun ρ hr0 _ w hSw => by simp [go_sem, hr0]) hHeld #[true, true, true, true, true, true, true, false, false, false, false] (by kernel_rfl) (fun K hK => ?_)
              go_big_move
              refine hK.out _ ?_
              clear hK K
              refine fast1 7 34 (.bool q) (.tmp 27) (.tuple #[.agg #[.int .i64 tst, .int .i64 tit, .slice wa2_3 tins.length wc2_3, .slice wa3_3 touts.length wc3_3, .slice wa4_3 thids.length wc4_3, .slice wa5_3 tsteps.length wc5_3], .bool q]) (fuel := 3) rfl rfl (by kernel_rfl) (by kernel_rfl) (by kernel_rfl) (fun _ _ _ h => h) (by kernel_rfl) (by kernel_rfl) (fun ρ hr0 _ w hSw => by simp [go_sem, hr0]) hHeld #[true, true, true, true, true, true, true, true, false, false, false] (by kernel_rfl) (fun K hK => ?_)
              go_big_move
              refine hK.out _ ?_
              clear hK K
              refine wpAnyH_ready (rs := [8]) (fuel := 2) (by kernel_rfl) (by simp) ?_
              refine ready_want rfl (by kernel_rfl) #[true, true, true, true, true, true, true, true, true, false, false] (by kernel_rfl) (fun K hK => ?_) AllReadyH.nil
              have ra4 : Hid (IaRow (wp3.alloc (.cells #[.int .i64 0, .int .i64 0, .slice none 0 0, .slice none 0 0, .slice none 0 0, .slice none 0 0] 32)) ⟨st, it, ins, outs, hids, steps⟩ va1) := ra3.out.below ((Below.refl _ wp3).alloc (Nat.le_refl _) (.cells #[.int .i64 0, .int .i64 0, .slice none 0 0, .slice none 0 0, .slice none 0 0, .slice none 0 0] 32))
              have rb4 : Hid (IaRow (wp3.alloc (.cells #[.int .i64 0, .int .i64 0, .slice none 0 0, .slice none 0 0, .slice none 0 0, .slice none 0 0] 32)) ⟨su, iu, jns, juts, jids, jteps⟩ vb2) := rb3.out.below ((Below.refl _ wp3).alloc (Nat.le_refl _) (.cells #[.int .i64 0, .int .i64 0, .slice none 0 0, .slice none 0 0, .slice none 0 0, .slice none 0 0] 32))
              have rw4 : Hid (IaHigh (wp3.alloc (.cells #[.int .i64 0, .int .i64 0, .slice none 0 0, .slice none 0 0, .slice none 0 0, .slice none 0 0] 32)) 0 ⟨tst, tit, tins, touts, thids, tsteps⟩ (.agg #[.int .i64 tst, .int .i64 tit, .slice wa2_3 tins.length wc2_3, .slice wa3_3 touts.length wc3_3, .slice wa4_3 thids.length wc4_3, .slice wa5_3 tsteps.length wc5_3])) := rw3.out.below ((Below.refl _ wp3).alloc (Nat.le_refl _) (.cells #[.int .i64 0, .int .i64 0, .slice none 0 0, .slice none 0 0, .slice none 0 0, .slice none 0 0] 32))
              have BL : Hid (w.heap.size + 1 < wp3.heap.size) := by
                have h1 := hHeld.2.2.lt
                (try simp at h1)
                unfold Hid
                (try simp)
                omega
              have vn4 : Hid (VarIs (wp3.alloc (.cells #[.int .i64 0, .int .i64 0, .slice none 0 0, .slice none 0 0, .slice none 0 0, .slice none 0 0] 32)) (wp3.heap.size) #[.int .i64 0, .int .i64 0, .slice none 0 0, .slice none 0 0, .slice none 0 0, .slice none 0 0] 32) := VarIs.new wp3 #[.int .i64 0, .int .i64 0, .slice none 0 0, .slice none 0 0, .slice none 0 0, .slice none 0 0] 32 (by simp)
              simp only [List.getElem_toArray, List.getElem_cons_succ, List.getElem_cons_zero]
              go_big_op
              refine hK.out _ _ (hHeld.below ((Below.refl _ wp3).alloc (Nat.le_refl _) (.cells #[.int .i64 0, .int .i64 0, .slice none 0 0, .slice none 0 0, .slice none 0 0, .slice none 0 0] 32))) (fun hHeld => ?_)
              clear hK K
              have tZ : Hid ((wp3.alloc (.cells #[.int .i64 0, .int .i64 0, .slice none 0 0, .slice none 0 0, .slice none 0 0, .slice none 0 0] 32)).there (wp3.heap.size) 0 6) := vn4.out.there rfl
              have gZ := Lib.hid (grown_setCells (wp3.heap.size) [.int .i64 tst, .int .i64 tit, .slice wa2_3 tins.length wc2_3, .slice wa3_3 touts.length wc3_3, .slice wa4_3 thids.length wc4_3, .slice wa5_3 tsteps.length wc5_3] 0 (wp3.alloc (.cells #[.int .i64 0, .int .i64 0, .slice none 0 0, .slice none 0 0, .slice none 0 0, .slice none 0 0] 32)))
              have hSZ : Hid (Box2 w ((wp3.alloc (.cells #[.int .i64 0, .int .i64 0, .slice none 0 0, .slice none 0 0, .slice none 0 0, .slice none 0 0] 32)).setCells (wp3.heap.size) 0 [.int .i64 tst, .int .i64 tit, .slice wa2_3 tins.length wc2_3, .slice wa3_3 touts.length wc3_3, .slice wa4_3 thids.length wc4_3, .slice wa5_3 tsteps.length wc5_3]) w.heap.size (w.heap.size + 1) 25 (iaC st it a2 n2 c2 a3 n3 c3 a4 n4 c4 a5 n5 c5) (iaC su iu b2 m2 d2 b3 m3 d3 b4 m4 d4 b5 m5 d5)) := ⟨hHeld.1.grown gZ.out hHeld.1.size (fun q hq => by have h1 := Option.some.inj hq; have h2 := BL.out; omega), hHeld.2.1.grown gZ.out (fun e => by have h1 := Option.some.inj e; have h2 := BL.out; omega), hHeld.2.2.grown gZ.out (fun e => by have h1 := Option.some.inj e; have h2 := BL.out; omega)⟩
              have rZ : Hid (IaHigh ((wp3.alloc (.cells #[.int .i64 0, .int .i64 0, .slice none 0 0, .slice none 0 0, .slice none 0 0, .slice none 0 0] 32)).setCells (wp3.heap.size) 0 [.int .i64 tst, .int .i64 tit, .slice wa2_3 tins.length wc2_3, .slice wa3_3 touts.length wc3_3, .slice wa4_3 thids.length wc4_3, .slice wa5_3 tsteps.length wc5_3]) 0 ⟨tst, tit, tins, touts, thids, tsteps⟩ (.agg #[.int .i64 tst, .int .i64 tit, .slice wa2_3 tins.length wc2_3, .slice wa3_3 touts.length wc3_3, .slice wa4_3 thids.length wc4_3, .slice wa5_3 tsteps.length wc5_3])) := rw4.out.keepVar vn4.out gZ.out
              have vZ : Hid (VarIs ((wp3.alloc (.cells #[.int .i64 0, .int .i64 0, .slice none 0 0, .slice none 0 0, .slice none 0 0, .slice none 0 0] 32)).setCells (wp3.heap.size) 0 [.int .i64 tst, .int .i64 tit, .slice wa2_3 tins.length wc2_3, .slice wa3_3 touts.length wc3_3, .slice wa4_3 thids.length wc4_3, .slice wa5_3 tsteps.length wc5_3]) (wp3.heap.size) #[.int .i64 tst, .int .i64 tit, .slice wa2_3 tins.length wc2_3, .slice wa3_3 touts.length wc3_3, .slice wa4_3 thids.length wc4_3, .slice wa5_3 tsteps.length wc5_3] 32) := vn4.out.sets _ _ _ _ _ _
              refine wpAnyH_ready (rs := [9]) (fuel := 1) (by kernel_rfl) (by simp) ?_
              refine ready_want rfl (by kernel_rfl) #[true, true, true, true, true, true, true, true, true, true, false] (by kernel_rfl) (fun K hK => ?_) AllReadyH.nil
              refine wp_store_mid _ _ _ rfl (wp3.heap.size) 0 #[.int .i64 tst, .int .i64 tit, .slice wa2_3 tins.length wc2_3, .slice wa3_3 touts.length wc3_3, .slice wa4_3 thids.length wc4_3, .slice wa5_3 tsteps.length wc5_3] rfl rfl tZ.out (by kernel_rfl) (ia_one _ _ _ _ _ _ _ _ _ _ _ _ _ _) ?_
              refine hK.out _ _ hSZ.out (fun hHeld => ?_)
              clear hK K
              try simp only [List.getElem_toArray, List.getElem_cons_succ, List.getElem_cons_zero, Act.put]
              refine fast_move 10 7 (.bool q) (.tmp 34) (fuel := 0) rfl rfl (by kernel_rfl) (by kernel_rfl) (by kernel_rfl) (fun _ _ _ h => h) (by kernel_rfl) (by kernel_rfl) (by first | exact Or.inl rfl | exact Or.inr rfl) hHeld #[true, true, true, true, true, true, true, true, true, true, true] (by kernel_rfl) (fun K hK => ?_)
              go_big_move
              refine hK.out _ ?_
              clear hK K
              refine wpAnyH_done (by kernel_rfl) ?_ _
              exact REST.out (wp3.heap.size, va1, vb2, (wa2_3, wc2_3), (wa3_3, wc3_3), (wa4_3, wc4_3), (wa5_3, wc5_3)) _ _ (by kernel_rfl) ⟨hSZ.out, vZ.out, rZ.out, BL.out⟩
            refine ready_want rfl (by kernel_rfl) #[true, true, true, true, false, false, false, false, true, false, false] (by kernel_rfl) (fun K hK => ?_) AllReadyH.nil
            have ra5 : Hid (IaRow (wp2.alloc (.cells #[.int .i64 0, .int .i64 0, .slice none 0 0, .slice none 0 0, .slice none 0 0, .slice none 0 0] 32)) ⟨st, it, ins, outs, hids, steps⟩ va1) := ra2.out.below ((Below.refl _ wp2).alloc (Nat.le_refl _) (.cells #[.int .i64 0, .int .i64 0, .slice none 0 0, .slice none 0 0, .slice none 0 0, .slice none 0 0] 32))
            have rb5 : Hid (IaRow (wp2.alloc (.cells #[.int .i64 0, .int .i64 0, .slice none 0 0, .slice none 0 0, .slice none 0 0, .slice none 0 0] 32)) ⟨su, iu, jns, juts, jids, jteps⟩ vb2) := rb2.out.below ((Below.refl _ wp2).alloc (Nat.le_refl _) (.cells #[.int .i64 0, .int .i64 0, .slice none 0 0, .slice none 0 0, .slice none 0 0, .slice none 0 0] 32))
            have BL : Hid (w.heap.size + 1 < wp2.heap.size) := by
              have h1 := hHeld.2.2.lt
              (try simp at h1)
              unfold Hid
              (try simp)
              omega
            have vn5 : Hid (VarIs (wp2.alloc (.cells #[.int .i64 0, .int .i64 0, .slice none 0 0, .slice none 0 0, .slice none 0 0, .slice none 0 0] 32)) (wp2.heap.size) #[.int .i64 0, .int .i64 0, .slice none 0 0, .slice none 0 0, .slice none 0 0, .slice none 0 0] 32) := VarIs.new wp2 #[.int .i64 0, .int .i64 0, .slice none 0 0, .slice none 0 0, .slice none 0 0, .slice none 0 0] 32 (by simp)
            simp only [List.getElem_toArray, List.getElem_cons_succ, List.getElem_cons_zero]
            go_big_op
            refine hK.out _ _ (hHeld.below ((Below.refl _ wp2).alloc (Nat.le_refl _) (.cells #[.int .i64 0, .int .i64 0, .slice none 0 0, .slice none 0 0, .slice none 0 0, .slice none 0 0] 32))) (fun hHeld => ?_)
            clear hK K
            refine wpAnyH_ready (rs := [4]) (fuel := 5) (by kernel_rfl) (by simp) ?_
            refine ready_want rfl (by kernel_rfl) #[true, true, true, true, true, false, false, false, true, false, false] (by kernel_rfl) (fun K hK => ?_) AllReadyH.nil
            simp only [List.getElem_toArray, List.getElem_cons_succ, List.getElem_cons_zero]
            go_big_op
            refine (CP.out _ _ _ ra5.out rb5.out).mono ?_
            rintro e wp6 ⟨wa2_6, wc2_6, wa3_6, wc3_6, wa4_6, wc4_6, wa5_6, wc5_6, rfl, hr, hb⟩
            have ra6 : Hid (IaRow wp6 ⟨st, it, ins, outs, hids, steps⟩ va1) := ra5.out.below (hb)
            have rb6 : Hid (IaRow wp6 ⟨su, iu, jns, juts, jids, jteps⟩ vb2) := rb5.out.below (hb)
            have v6 : Hid (VarIs wp6 (wp2.heap.size) #[.int .i64 0, .int .i64 0, .slice none 0 0, .slice none 0 0, .slice none 0 0, .slice none 0 0] 32) := vn5.out.below (hb)
            have rw6 : Hid (IaHigh wp6 0 ⟨tst, tit, tins, touts, thids, tsteps⟩ (.agg #[.int .i64 tst, .int .i64 tit, .slice wa2_6 tins.length wc2_6, .slice wa3_6 touts.length wc3_6, .slice wa4_6 thids.length wc4_6, .slice wa5_6 tsteps.length wc5_6])) := hr.mono (Nat.zero_le _)
            have hS6 := hHeld.below hb
            clear hb hr
            refine hK.out _ _ hS6 (fun hHeld => ?_)
            clear hK K hS6
            refine fast_move 5 27 (.tuple #[.agg #[.int .i64 tst, .int .i64 tit, .slice wa2_6 tins.length wc2_6, .slice wa3_6 touts.length wc3_6, .slice wa4_6 thids.length wc4_6, .slice wa5_6 tsteps.length wc5_6], .bool q]) (.tmp 32) (fuel := 4) rfl rfl (by kernel_rfl) (by kernel_rfl) (by kernel_rfl) (fun _ _ _ h => h) (by kernel_rfl) (by kernel_rfl) (by first | exact Or.inl rfl | exact Or.inr rfl) hHeld #[true, true, true, true, true, true, false, false, true, false, false] (by kernel_rfl) (fun K hK => ?_)
            go_big_move
            refine hK.out _ ?_
            clear hK K
            refine fast1 6 33 (.agg #[.int .i64 tst, .int .i64 tit, .slice wa2_6 tins.length wc2_6, .slice wa3_6 touts.length wc3_6, .slice wa4_6 thids.length wc4_6, .slice wa5_6 tsteps.length wc5_6]) (.tmp 27) (.tuple #[.agg #[.int .i64 tst, .int .i64 tit, .slice wa2_6 tins.length wc2_6, .slice wa3_6 touts.length wc3_6, .slice wa4_6 thids.length wc4_6, .slice wa5_6 tsteps.length wc5_6], .bool q]) (fuel := 3) rfl rfl (by kernel_rfl) (by kernel_rfl) (by kernel_rfl) (fun _ _ _ h => h) (by kernel_rfl) (by kernel_rfl) (fun ρ hr0 _ w hSw => by simp [go_sem, hr0]) hHeld #[true, true, true, true, true, true, true, false, true, false, false] (by kernel_rfl) (fun K hK => ?_)
            go_big_move
            refine hK.out _ ?_
            clear hK K
            refine fast1 7 34 (.bool q) (.tmp 27) (.tuple #[.agg #[.int .i64 tst, .int .i64 tit, .slice wa2_6 tins.length wc2_6, .slice wa3_6 touts.length wc3_6, .slice wa4_6 thids.length wc4_6, .slice wa5_6 tsteps.length wc5_6], .bool q]) (fuel := 2) rfl rfl (by kernel_rfl) (by kernel_rfl) (by kernel_rfl) (fun _ _ _ h => h) (by kernel_rfl) (by kernel_rfl) (fun ρ hr0 _ w hSw => by simp [go_sem, hr0]) hHeld #[true, true, true, true, true, true, true, true, true, false, false] (by kernel_rfl) (fun K hK => ?_)
            go_big_move
            refine hK.out _ ?_
            clear hK K
            have tZ : Hid (wp6.there (wp2.heap.size) 0 6) := v6.out.there rfl
            have gZ := Lib.hid (grown_setCells (wp2.heap.size) [.int .i64 tst, .int .i64 tit, .slice wa2_6 tins.length wc2_6, .slice wa3_6 touts.length wc3_6, .slice wa4_6 thids.length wc4_6, .slice wa5_6 tsteps.length wc5_6] 0 wp6)
            have hSZ : Hid (Box2 w (wp6.setCells (wp2.heap.size) 0 [.int .i64 tst, .int .i64 tit, .slice wa2_6 tins.length wc2_6, .slice wa3_6 touts.length wc3_6, .slice wa4_6 thids.length wc4_6, .slice wa5_6 tsteps.length wc5_6]) w.heap.size (w.heap.size + 1) 25 (iaC st it a2 n2 c2 a3 n3 c3 a4 n4 c4 a5 n5 c5) (iaC su iu b2 m2 d2 b3 m3 d3 b4 m4 d4 b5 m5 d5)) := ⟨hHeld.1.grown gZ.out hHeld.1.size (fun q hq => by have h1 := Option.some.inj hq; have h2 := BL.out; omega), hHeld.2.1.grown gZ.out (fun e => by have h1 := Option.some.inj e; have h2 := BL.out; omega), hHeld.2.2.grown gZ.out (fun e => by have h1 := Option.some.inj e; have h2 := BL.out; omega)⟩
            have rZ : Hid (IaHigh (wp6.setCells (wp2.heap.size) 0 [.int .i64 tst, .int .i64 tit, .slice wa2_6 tins.length wc2_6, .slice wa3_6 touts.length wc3_6, .slice wa4_6 thids.length wc4_6, .slice wa5_6 tsteps.length wc5_6]) 0 ⟨tst, tit, tins, touts, thids, tsteps⟩ (.agg #[.int .i64 tst, .int .i64 tit, .slice wa2_6 tins.length wc2_6, .slice wa3_6 touts.length wc3_6, .slice wa4_6 thids.length wc4_6, .slice wa5_6 tsteps.length wc5_6])) := rw6.out.keepVar v6.out gZ.out
            have vZ : Hid (VarIs (wp6.setCells (wp2.heap.size) 0 [.int .i64 tst, .int .i64 tit, .slice wa2_6 tins.length wc2_6, .slice wa3_6 touts.length wc3_6, .slice wa4_6 thids.length wc4_6, .slice wa5_6 tsteps.length wc5_6]) (wp2.heap.size) #[.int .i64 tst, .int .i64 tit, .slice wa2_6 tins.length wc2_6, .slice wa3_6 touts.length wc3_6, .slice wa4_6 thids.length wc4_6, .slice wa5_6 tsteps.length wc5_6] 32) := v6.out.sets _ _ _ _ _ _
            refine wpAnyH_ready (rs := [9]) (fuel := 1) (by kernel_rfl) (by simp) ?_
            refine ready_want rfl (by kernel_rfl) #[true, true, true, true, true, true, true, true, true, true, false] (by kernel_rfl) (fun K hK => ?_) AllReadyH.nil
            refine wp_store_mid _ _ _ rfl (wp2.heap.size) 0 #[.int .i64 tst, .int .i64 tit, .slice wa2_6 tins.length wc2_6, .slice wa3_6 touts.length wc3_6, .slice wa4_6 thids.length wc4_6, .slice wa5_6 tsteps.length wc5_6] rfl rfl tZ.out (by kernel_rfl) (ia_one _ _ _ _ _ _ _ _ _ _ _ _ _ _) ?_
            refine hK.out _ _ hSZ.out (fun hHeld => ?_)
            clear hK K
            try simp only [List.getElem_toArray, List.getElem_cons_succ, List.getElem_cons_zero, Act.put]
            refine fast_move 10 7 (.bool q) (.tmp 34) (fuel := 0) rfl rfl (by kernel_rfl) (by kernel_rfl) (by kernel_rfl) (fun _ _ _ h => h) (by kernel_rfl) (by kernel_rfl) (by first | exact Or.inl rfl | exact Or.inr rfl) hHeld #[true, true, true, true, true, true, true, true, true, true, true] (by kernel_rfl) (fun K hK => ?_)
            go_big_move
            refine hK.out _ ?_
            clear hK K
            refine wpAnyH_done (by kernel_rfl) ?_ _
            exact REST.out (wp2.heap.size, va1, vb2, (wa2_6, wc2_6), (wa3_6, wc3_6), (wa4_6, wc4_6), (wa5_6, wc5_6)) _ _ (by kernel_rfl) ⟨hSZ.out, vZ.out, rZ.out, BL.out⟩
          refine ready_want rfl (by kernel_rfl) #[true, true, true, false, false, false, false, false, true, false, false] (by kernel_rfl) (fun K hK => ?_) AllReadyH.nil
          have ra7 : Hid (IaRow (wp1.alloc (.cells #[.int .i64 0, .int .i64 0, .slice none 0 0, .slice none 0 0, .slice none 0 0, .slice none 0 0] 32)) ⟨st, it, ins, outs, hids, steps⟩ va1) := ra1.out.below ((Below.refl _ wp1).alloc (Nat.le_refl _) (.cells #[.int .i64 0, .int .i64 0, .slice none 0 0, .slice none 0 0, .slice none 0 0, .slice none 0 0] 32))
          have BL : Hid (w.heap.size + 1 < wp1.heap.size) := by
            have h1 := hHeld.2.2.lt
            (try simp at h1)
            unfold Hid
            (try simp)
            omega
          have vn7 : Hid (VarIs (wp1.alloc (.cells #[.int .i64 0, .int .i64 0, .slice none 0 0, .slice none 0 0, .slice none 0 0, .slice none 0 0] 32)) (wp1.heap.size) #[.int .i64 0, .int .i64 0, .slice none 0 0, .slice none 0 0, .slice none 0 0, .slice none 0 0] 32) := VarIs.new wp1 #[.int .i64 0, .int .i64 0, .slice none 0 0, .slice none 0 0, .slice none 0 0, .slice none 0 0] 32 (by simp)
          simp only [List.getElem_toArray, List.getElem_cons_succ, List.getElem_cons_zero]
          go_big_op
          refine hK.out _ _ (hHeld.below ((Below.refl _ wp1).alloc (Nat.le_refl _) (.cells #[.int .i64 0, .int .i64 0, .slice none 0 0, .slice none 0 0, .slice none 0 0, .slice none 0 0] 32))) (fun hHeld => ?_)
          clear hK K
          refine wpAnyH_ready (rs := [3]) (fuel := 6) (by kernel_rfl) (by simp) ?_
          refine ready_want rfl (by kernel_rfl) #[true, true, true, true, false, false, false, false, true, false, false] (by kernel_rfl) (fun K hK => ?_) AllReadyH.nil
          simp only [List.getElem_toArray, List.getElem_cons_succ, List.getElem_cons_zero]
          go_big_op
          refine (CTB.out _ hHeld.1).mono ?_
          rintro e wp8 ⟨vb8, rfl, hat, hb⟩
          have ra8 : Hid (IaRow wp8 ⟨st, it, ins, outs, hids, steps⟩ va1) := ra7.out.below (hb)
          have v8 : Hid (VarIs wp8 (wp1.heap.size) #[.int .i64 0, .int .i64 0, .slice none 0 0, .slice none 0 0, .slice none 0 0, .slice none 0 0] 32) := vn7.out.below (hb)
          have rb8 : Hid (IaRow wp8 ⟨su, iu, jns, juts, jids, jteps⟩ vb8) := hat.row
          have hS8 := hHeld.below hb
          clear hb hat
          refine hK.out _ _ hS8 (fun hHeld => ?_)
          clear hK K hS8
          refine wpAnyH_ready (rs := [4]) (fuel := 5) (by kernel_rfl) (by simp) ?_
          refine ready_want rfl (by kernel_rfl) #[true, true, true, true, true, false, false, false, true, false, false] (by kernel_rfl) (fun K hK => ?_) AllReadyH.nil
          simp only [List.getElem_toArray, List.getElem_cons_succ, List.getElem_cons_zero]
          go_big_op
          refine (CP.out _ _ _ ra8.out rb8.out).mono ?_
          rintro e wp9 ⟨wa2_9, wc2_9, wa3_9, wc3_9, wa4_9, wc4_9, wa5_9, wc5_9, rfl, hr, hb⟩
          have ra9 : Hid (IaRow wp9 ⟨st, it, ins, outs, hids, steps⟩ va1) := ra8.out.below (hb)
          have v9 : Hid (VarIs wp9 (wp1.heap.size) #[.int .i64 0, .int .i64 0, .slice none 0 0, .slice none 0 0, .slice none 0 0, .slice none 0 0] 32) := v8.out.below (hb)
          have rb9 : Hid (IaRow wp9 ⟨su, iu, jns, juts, jids, jteps⟩ vb8) := rb8.out.below (hb)
          have rw9 : Hid (IaHigh wp9 0 ⟨tst, tit, tins, touts, thids, tsteps⟩ (.agg #[.int .i64 tst, .int .i64 tit, .slice wa2_9 tins.length wc2_9, .slice wa3_9 touts.length wc3_9, .slice wa4_9 thids.length wc4_9, .slice wa5_9 tsteps.length wc5_9])) := hr.mono (Nat.zero_le _)
          have hS9 := hHeld.below hb
          clear hb hr
          refine hK.out _ _ hS9 (fun hHeld => ?_)
          clear hK K hS9
          refine fast_move 5 27 (.tuple #[.agg #[.int .i64 tst, .int .i64 tit, .slice wa2_9 tins.length wc2_9, .slice wa3_9 touts.length wc3_9, .slice wa4_9 thids.length wc4_9, .slice wa5_9 tsteps.length wc5_9], .bool q]) (.tmp 32) (fuel := 4) rfl rfl (by kernel_rfl) (by kernel_rfl) (by kernel_rfl) (fun _ _ _ h => h) (by kernel_rfl) (by kernel_rfl) (by first | exact Or.inl rfl | exact Or.inr rfl) hHeld #[true, true, true, true, true, true, false, false, true, false, false] (by kernel_rfl) (fun K hK => ?_)
          go_big_move
          refine hK.out _ ?_
          clear hK K
          refine fast1 6 33 (.agg #[.int .i64 tst, .int .i64 tit, .slice wa2_9 tins.length wc2_9, .slice wa3_9 touts.length wc3_9, .slice wa4_9 thids.length wc4_9, .slice wa5_9 tsteps.length wc5_9]) (.tmp 27) (.tuple #[.agg #[.int .i64 tst, .int .i64 tit, .slice wa2_9 tins.length wc2_9, .slice wa3_9 touts.length wc3_9, .slice wa4_9 thids.length wc4_9, .slice wa5_9 tsteps.length wc5_9], .bool q]) (fuel := 3) rfl rfl (by kernel_rfl) (by kernel_rfl) (by kernel_rfl) (fun _ _ _ h => h) (by kernel_rfl) (by kernel_rfl) (fun ρ hr0 _ w hSw => by simp [go_sem, hr0]) hHeld #[true, true, true, true, true, true, true, false, true, false, false] (by kernel_rfl) (fun K hK => ?_)
          go_big_move
          refine hK.out _ ?_
          clear hK K
          refine fast1 7 34 (.bool q) (.tmp 27) (.tuple #[.agg #[.int .i64 tst, .int .i64 tit, .slice wa2_9 tins.length wc2_9, .slice wa3_9 touts.length wc3_9, .slice wa4_9 thids.length wc4_9, .slice wa5_9 tsteps.length wc5_9], .bool q]) (fuel := 2) rfl rfl (by kernel_rfl) (by kernel_rfl) (by kernel_rfl) (fun _ _ _ h => h) (by kernel_rfl) (by kernel_rfl) (fun ρ hr0 _ w hSw => by simp [go_sem, hr0]) hHeld #[true, true, true, true, true, true, true, true, true, false, false] (by kernel_rfl) (fun K hK => ?_)
          go_big_move
          refine hK.out _ ?_
          clear hK K
          have tZ : Hid (wp9.there (wp1.heap.size) 0 6) := v9.out.there rfl
          have gZ := Lib.hid (grown_setCells (wp1.heap.size) [.int .i64 tst, .int .i64 tit, .slice wa2_9 tins.length wc2_9, .slice wa3_9 touts.length wc3_9, .slice wa4_9 thids.length wc4_9, .slice wa5_9 tsteps.length wc5_9] 0 wp9)
          have hSZ : Hid (Box2 w (wp9.setCells (wp1.heap.size) 0 [.int .i64 tst, .int .i64 tit, .slice wa2_9 tins.length wc2_9, .slice wa3_9 touts.length wc3_9, .slice wa4_9 thids.length wc4_9, .slice wa5_9 tsteps.length wc5_9]) w.heap.size (w.heap.size + 1) 25 (iaC st it a2 n2 c2 a3 n3 c3 a4 n4 c4 a5 n5 c5) (iaC su iu b2 m2 d2 b3 m3 d3 b4 m4 d4 b5 m5 d5)) := ⟨hHeld.1.grown gZ.out hHeld.1.size (fun q hq => by have h1 := Option.some.inj hq; have h2 := BL.out; omega), hHeld.2.1.grown gZ.out (fun e => by have h1 := Option.some.inj e; have h2 := BL.out; omega), hHeld.2.2.grown gZ.out (fun e => by have h1 := Option.some.inj e; have h2 := BL.out; omega)⟩
          have rZ : Hid (IaHigh (wp9.setCells (wp1.heap.size) 0 [.int .i64 tst, .int .i64 tit, .slice wa2_9 tins.length wc2_9, .slice wa3_9 touts.length wc3_9, .slice wa4_9 thids.length wc4_9, .slice wa5_9 tsteps.length wc5_9]) 0 ⟨tst, tit, tins, touts, thids, tsteps⟩ (.agg #[.int .i64 tst, .int .i64 tit, .slice wa2_9 tins.length wc2_9, .slice wa3_9 touts.length wc3_9, .slice wa4_9 thids.length wc4_9, .slice wa5_9 tsteps.length wc5_9])) := rw9.out.keepVar v9.out gZ.out
          have vZ : Hid (VarIs (wp9.setCells (wp1.heap.size) 0 [.int .i64 tst, .int .i64 tit, .slice wa2_9 tins.length wc2_9, .slice wa3_9 touts.length wc3_9, .slice wa4_9 thids.length wc4_9, .slice wa5_9 tsteps.length wc5_9]) (wp1.heap.size) #[.int .i64 tst, .int .i64 tit, .slice wa2_9 tins.length wc2_9, .slice wa3_9 touts.length wc3_9, .slice wa4_9 thids.length wc4_9, .slice wa5_9 tsteps.length wc5_9] 32) := v9.out.sets _ _ _ _ _ _
          refine wpAnyH_ready (rs := [9]) (fuel := 1) (by kernel_rfl) (by simp) ?_
          refine ready_want rfl (by kernel_rfl) #[true, true, true, true, true, true, true, true, true, true, false] (by kernel_rfl) (fun K hK => ?_) AllReadyH.nil
          refine wp_store_mid _ _ _ rfl (wp1.heap.size) 0 #[.int .i64 tst, .int .i64 tit, .slice wa2_9 tins.length wc2_9, .slice wa3_9 touts.length wc3_9, .slice wa4_9 thids.length wc4_9, .slice wa5_9 tsteps.length wc5_9] rfl rfl tZ.out (by kernel_rfl) (ia_one _ _ _ _ _ _ _ _ _ _ _ _ _ _) ?_
          refine hK.out _ _ hSZ.out (fun hHeld => ?_)
          clear hK K
          try simp only [List.getElem_toArray, List.getElem_cons_succ, List.getElem_cons_zero, Act.put]
          refine fast_move 10 7 (.bool q) (.tmp 34) (fuel := 0) rfl rfl (by kernel_rfl) (by kernel_rfl) (by kernel_rfl) (fun _ _ _ h => h) (by kernel_rfl) (by kernel_rfl) (by first | exact Or.inl rfl | exact Or.inr rfl) hHeld #[true, true, true, true, true, true, true, true, true, true, true] (by kernel_rfl) (fun K hK => ?_)
          go_big_move
          refine hK.out _ ?_
          clear hK K
          refine wpAnyH_done (by kernel_rfl) ?_ _
          exact REST.out (wp1.heap.size, va1, vb8, (wa2_9, wc2_9), (wa3_9, wc3_9), (wa4_9, wc4_9), (wa5_9, wc5_9)) _ _ (by kernel_rfl) ⟨hSZ.out, vZ.out, rZ.out, BL.out⟩
        refine ready_want rfl (by kernel_rfl) #[true, false, true, false, false, false, false, false, true, false, false] (by kernel_rfl) (fun K hK => ?_) AllReadyH.nil
        have BL : Hid (w.heap.size + 1 < w2.heap.size) := by
          have h1 := hHeld.2.2.lt
          (try simp at h1)
          unfold Hid
          (try simp)
          omega
        have vn10 : Hid (VarIs (w2.drew.alloc (.cells #[.int .i64 0, .int .i64 0, .slice none 0 0, .slice none 0 0, .slice none 0 0, .slice none 0 0] 32)) (w2.heap.size) #[.int .i64 0, .int .i64 0, .slice none 0 0, .slice none 0 0, .slice none 0 0, .slice none 0 0] 32) := VarIs.new w2.drew #[.int .i64 0, .int .i64 0, .slice none 0 0, .slice none 0 0, .slice none 0 0, .slice none 0 0] 32 (by simp)
        simp only [List.getElem_toArray, List.getElem_cons_succ, List.getElem_cons_zero]
        go_big_op
        refine hK.out _ _ (hHeld.below ((Below.refl _ w2.drew).alloc (Nat.le_refl _) (.cells #[.int .i64 0, .int .i64 0, .slice none 0 0, .slice none 0 0, .slice none 0 0, .slice none 0 0] 32))) (fun hHeld => ?_)
        clear hK K
        refine wpAnyH_ready (rs := [1]) (fuel := 7) (by kernel_rfl) (by simp) ?_
        refine ready_want rfl (by kernel_rfl) #[true, true, true, false, false, false, false, false, true, false, false] (by kernel_rfl) (fun K hK => ?_) AllReadyH.nil
        simp only [List.getElem_toArray, List.getElem_cons_succ, List.getElem_cons_zero]
        go_big_op
        refine (CTA.out _ hHeld.1).mono ?_
        rintro e wp11 ⟨va11, rfl, hat, hb⟩
        have v11 : Hid (VarIs wp11 (w2.heap.size) #[.int .i64 0, .int .i64 0, .slice none 0 0, .slice none 0 0, .slice none 0 0, .slice none 0 0] 32) := vn10.out.below (hb)
        have ra11 : Hid (IaRow wp11 ⟨st, it, ins, outs, hids, steps⟩ va11) := hat.row
        have hS11 := hHeld.below hb
        clear hb hat
        refine hK.out _ _ hS11 (fun hHeld => ?_)
        clear hK K hS11
        refine wpAnyH_ready (rs := [3]) (fuel := 6) (by kernel_rfl) (by simp) ?_
        refine ready_want rfl (by kernel_rfl) #[true, true, true, true, false, false, false, false, true, false, false] (by kernel_rfl) (fun K hK => ?_) AllReadyH.nil
        simp only [List.getElem_toArray, List.getElem_cons_succ, List.getElem_cons_zero]
        go_big_op
        refine (CTB.out _ hHeld.1).mono ?_
        rintro e wp12 ⟨vb12, rfl, hat, hb⟩
        have v12 : Hid (VarIs wp12 (w2.heap.size) #[.int .i64 0, .int .i64 0, .slice none 0 0, .slice none 0 0, .slice none 0 0, .slice none 0 0] 32) := v11.out.below (hb)
        have ra12 : Hid (IaRow wp12 ⟨st, it, ins, outs, hids, steps⟩ va11) := ra11.out.below (hb)
        have rb12 : Hid (IaRow wp12 ⟨su, iu, jns, juts, jids, jteps⟩ vb12) := hat.row
        have hS12 := hHeld.below hb
        clear hb hat
        refine hK.out _ _ hS12 (fun hHeld => ?_)
        clear hK K hS12
        refine wpAnyH_ready (rs := [4]) (fuel := 5) (by kernel_rfl) (by simp) ?_
        refine ready_want rfl (by kernel_rfl) #[true, true, true, true, true, false, false, false, true, false, false] (by kernel_rfl) (fun K hK => ?_) AllReadyH.nil
        simp only [List.getElem_toArray, List.getElem_cons_succ, List.getElem_cons_zero]
        go_big_op
        refine (CP.out _ _ _ ra12.out rb12.out).mono ?_
        rintro e wp13 ⟨wa2_13, wc2_13, wa3_13, wc3_13, wa4_13, wc4_13, wa5_13, wc5_13, rfl, hr, hb⟩
        have v13 : Hid (VarIs wp13 (w2.heap.size) #[.int .i64 0, .int .i64 0, .slice none 0 0, .slice none 0 0, .slice none 0 0, .slice none 0 0] 32) := v12.out.below (hb)
        have ra13 : Hid (IaRow wp13 ⟨st, it, ins, outs, hids, steps⟩ va11) := ra12.out.below (hb)
        have rb13 : Hid (IaRow wp13 ⟨su, iu, jns, juts, jids, jteps⟩ vb12) := rb12.out.below (hb)
        have rw13 : Hid (IaHigh wp13 0 ⟨tst, tit, tins, touts, thids, tsteps⟩ (.agg #[.int .i64 tst, .int .i64 tit, .slice wa2_13 tins.length wc2_13, .slice wa3_13 touts.length wc3_13, .slice wa4_13 thids.length wc4_13, .slice wa5_13 tsteps.length wc5_13])) := hr.mono (Nat.zero_le _)
        have hS13 := hHeld.below hb
        clear hb hr
        refine hK.out _ _ hS13 (fun hHeld => ?_)
        clear hK K hS13
        refine fast_move 5 27 (.tuple #[.agg #[.int .i64 tst, .int .i64 tit, .slice wa2_13 tins.length wc2_13, .slice wa3_13 touts.length wc3_13, .slice wa4_13 thids.length wc4_13, .slice wa5_13 tsteps.length wc5_13], .bool q]) (.tmp 32) (fuel := 4) rfl rfl (by kernel_rfl) (by kernel_rfl) (by kernel_rfl) (fun _ _ _ h => h) (by kernel_rfl) (by kernel_rfl) (by first | exact Or.inl rfl | exact Or.inr rfl) hHeld #[true, true, true, true, true, true, false, false, true, false, false] (by kernel_rfl) (fun K hK => ?_)
        go_big_move
        refine hK.out _ ?_
        clear hK K
        refine fast1 6 33 (.agg #[.int .i64 tst, .int .i64 tit, .slice wa2_13 tins.length wc2_13, .slice wa3_13 touts.length wc3_13, .slice wa4_13 thids.length wc4_13, .slice wa5_13 tsteps.length wc5_13]) (.tmp 27) (.tuple #[.agg #[.int .i64 tst, .int .i64 tit, .slice wa2_13 tins.length wc2_13, .slice wa3_13 touts.length wc3_13, .slice wa4_13 thids.length wc4_13, .slice wa5_13 tsteps.length wc5_13], .bool q]) (fuel := 3) rfl rfl (by kernel_rfl) (by kernel_rfl) (by kernel_rfl) (fun _ _ _ h => h) (by kernel_rfl) (by kernel_rfl) (fun ρ hr0 _ w hSw => by simp [go_sem, hr0]) hHeld #[true, true, true, true, true, true, true, false, true, false, false] (by kernel_rfl) (fun K hK => ?_)
        go_big_move
        refine hK.out _ ?_
        clear hK K
        refine fast1 7 34 (.bool q) (.tmp 27) (.tuple #[.agg #[.int .i64 tst, .int .i64 tit, .slice wa2_13 tins.length wc2_13, .slice wa3_13 touts.length wc3_13, .slice wa4_13 thids.length wc4_13, .slice wa5_13 tsteps.length wc5_13], .bool q]) (fuel := 2) rfl rfl (by kernel_rfl) (by kernel_rfl) (by kernel_rfl) (fun _ _ _ h => h) (by kernel_rfl) (by kernel_rfl) (fun ρ hr0 _ w hSw => by simp [go_sem, hr0]) hHeld #[true, true, true, true, true, true, true, true, true, false, false] (by kernel_rfl) (fun K hK => ?_)
        go_big_move
        refine hK.out _ ?_
        clear hK K
        have tZ : Hid (wp13.there (w2.heap.size) 0 6) := v13.out.there rfl
        have gZ := Lib.hid (grown_setCells (w2.heap.size) [.int .i64 tst, .int .i64 tit, .slice wa2_13 tins.length wc2_13, .slice wa3_13 touts.length wc3_13, .slice wa4_13 thids.length wc4_13, .slice wa5_13 tsteps.length wc5_13] 0 wp13)
        have hSZ : Hid (Box2 w (wp13.setCells (w2.heap.size) 0 [.int .i64 tst, .int .i64 tit, .slice wa2_13 tins.length wc2_13, .slice wa3_13 touts.length wc3_13, .slice wa4_13 thids.length wc4_13, .slice wa5_13 tsteps.length wc5_13]) w.heap.size (w.heap.size + 1) 25 (iaC st it a2 n2 c2 a3 n3 c3 a4 n4 c4 a5 n5 c5) (iaC su iu b2 m2 d2 b3 m3 d3 b4 m4 d4 b5 m5 d5)) := ⟨hHeld.1.grown gZ.out hHeld.1.size (fun q hq => by have h1 := Option.some.inj hq; have h2 := BL.out; omega), hHeld.2.1.grown gZ.out (fun e => by have h1 := Option.some.inj e; have h2 := BL.out; omega), hHeld.2.2.grown gZ.out (fun e => by have h1 := Option.some.inj e; have h2 := BL.out; omega)⟩
        have rZ : Hid (IaHigh (wp13.setCells (w2.heap.size) 0 [.int .i64 tst, .int .i64 tit, .slice wa2_13 tins.length wc2_13, .slice wa3_13 touts.length wc3_13, .slice wa4_13 thids.length wc4_13, .slice wa5_13 tsteps.length wc5_13]) 0 ⟨tst, tit, tins, touts, thids, tsteps⟩ (.agg #[.int .i64 tst, .int .i64 tit, .slice wa2_13 tins.length wc2_13, .slice wa3_13 touts.length wc3_13, .slice wa4_13 thids.length wc4_13, .slice wa5_13 tsteps.length wc5_13])) := rw13.out.keepVar v13.out gZ.out
        have vZ : Hid (VarIs (wp13.setCells (w2.heap.size) 0 [.int .i64 tst, .int .i64 tit, .slice wa2_13 tins.length wc2_13, .slice wa3_13 touts.length wc3_13, .slice wa4_13 thids.length wc4_13, .slice wa5_13 tsteps.length wc5_13]) (w2.heap.size) #[.int .i64 tst, .int .i64 tit, .slice wa2_13 tins.length wc2_13, .slice wa3_13 touts.length wc3_13, .slice wa4_13 thids.length wc4_13, .slice wa5_13 tsteps.length wc5_13] 32) := v13.out.sets _ _ _ _ _ _
        refine wpAnyH_ready (rs := [9]) (fuel := 1) (by kernel_rfl) (by simp) ?_
        refine ready_want rfl (by kernel_rfl) #[true, true, true, true, true, true, true, true, true, true, false] (by kernel_rfl) (fun K hK => ?_) AllReadyH.nil
        refine wp_store_mid _ _ _ rfl (w2.heap.size) 0 #[.int .i64 tst, .int .i64 tit, .slice wa2_13 tins.length wc2_13, .slice wa3_13 touts.length wc3_13, .slice wa4_13 thids.length wc4_13, .slice wa5_13 tsteps.length wc5_13] rfl rfl tZ.out (by kernel_rfl) (ia_one _ _ _ _ _ _ _ _ _ _ _ _ _ _) ?_
        refine hK.out _ _ hSZ.out (fun hHeld => ?_)
        clear hK K
        try simp only [List.getElem_toArray, List.getElem_cons_succ, List.getElem_cons_zero, Act.put]
        refine fast_move 10 7 (.bool q) (.tmp 34) (fuel := 0) rfl rfl (by kernel_rfl) (by kernel_rfl) (by kernel_rfl) (fun _ _ _ h => h) (by kernel_rfl) (by kernel_rfl) (by first | exact Or.inl rfl | exact Or.inr rfl) hHeld #[true, true, true, true, true, true, true, true, true, true, true] (by kernel_rfl) (fun K hK => ?_)
        go_big_move
        refine hK.out _ ?_
        clear hK K
        refine wpAnyH_done (by kernel_rfl) ?_ _
        exact REST.out (w2.heap.size, va11, vb12, (wa2_13, wc2_13), (wa3_13, wc3_13), (wa4_13, wc4_13), (wa5_13, wc5_13)) _ _ (by kernel_rfl) ⟨hSZ.out, vZ.out, rZ.out, BL.out⟩
    · have hr2 : roomOf (rm : Int) (m2 + m3 + m4 + m5) = -1 := roomOf_neg (by omega)
      refine (CY.out _ _ (by omega) hrm2).mono ?_
      rw [hr2]
      rintro e w2 ⟨rfl, hb⟩
      have S2 := Lib.hid (S1.out.below hb)
      clear hb S1
      go_wp2_with fail
      go_ret
      exact ⟨rfl, S2.out.1⟩
  · have hr : roomOf 1048576 (n2 + n3 + n4 + n5) = -1 := roomOf_neg (by omega)
    rw [hr] at CZ
    go_enter Tryz.func11, Tryz.ntmps11
    go_wp2_with fail
    refine (CZ.out _).mono ?_
    rintro e w1 ⟨rfl, hb⟩
    have S1 := Lib.hid (S0.out.below hb)
    clear hb CZ S0
    go_wp2_with fail
    go_ret
    exact ⟨rfl, S1.out.1⟩

end Go.Proofs.YtogjbnimohakjaaGreat
