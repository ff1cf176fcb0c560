/-
  The product of two that fit is right, where it has no more steps than it may. No conditions beyond these; nothing here speaks of the program.
-/
import Derived.Test.YtdbgjgeglgipiaaGreatProdDef
namespace Go.Proofs.YtdbgjgeglgipiaaGreat
open Go.RowKit

theorem setOk_of {xs : List Int} (hr : xs.Pairwise (· < ·)) (hl : ∀ x ∈ xs, 0 ≤ x ∧ x ≤ 11) : setOkB xs = true := by
  refine setOk_all (n := xs.length) (k := xs.length) rfl (Nat.lt_irrefl _) (fun j hj => ?_)
  have hm : xs.getD j 0 ∈ xs := by
    rw [List.getD_eq_getElem?_getD, List.getElem?_eq_getElem hj]
    exact List.getElem_mem hj
  have hb : btw (xs.getD j 0) 0 11 = true := by
    have := hl _ hm
    simp [btw]
    exact this
  by_cases h0 : 0 < j
  · refine good_yes (x := xs.getD j 0) (y := xs.getD (j - 1) 0) rfl rfl hb ?_
    have h1 : j - 1 < xs.length := by omega
    rw [List.getD_eq_getElem?_getD, List.getElem?_eq_getElem h1, List.getD_eq_getElem?_getD, List.getElem?_eq_getElem hj]
    exact List.pairwise_iff_getElem.1 hr (j - 1) j h1 hj (by omega)
  · exact good_zero (x := xs.getD j 0) rfl hb h0

theorem apart_of {a : IaD} (h1 : ∀ x, x ∈ a.ins → x ∈ a.outs → False) (h2 : ∀ x, x ∈ a.ins → x ∈ a.hids → False) (h3 : ∀ x, x ∈ a.outs → x ∈ a.hids → False) : apartB a = true := by
  have nil : ∀ xs ys : List Int, (∀ x, x ∈ xs → x ∈ ys → False) → (meetOf xs ys).length = 0 := by
    intro xs ys h
    rw [List.length_eq_zero_iff]
    apply List.eq_nil_iff_forall_not_mem.2
    intro x hx
    have := mem_meetOf.1 hx
    exact h x this.1 this.2
  unfold apartB
  rw [decide_eq_true_eq, nil _ _ h1, nil _ _ h2, nil _ _ h3]

theorem iaOk_apart {a : IaD} (h : iaOkB a = true) : (∀ x, x ∈ a.ins → x ∈ a.outs → False) ∧ (∀ x, x ∈ a.ins → x ∈ a.hids → False) ∧ (∀ x, x ∈ a.outs → x ∈ a.hids → False) := by
  simp only [iaOkB, apartB, Bool.and_eq_true, decide_eq_true_eq] at h
  have hz := h.1.2
  have nil : ∀ xs ys : List Int, (meetOf xs ys).length = 0 → ∀ x, x ∈ xs → x ∈ ys → False := by
    intro xs ys e x h1 h2
    have hm := mem_meetOf.2 ⟨h1, h2⟩
    rw [List.length_eq_zero_iff.1 e] at hm
    cases hm
  exact ⟨nil _ _ (by omega), nil _ _ (by omega), nil _ _ (by omega)⟩

/-- Two steps from one state with one input are one step. -/
theorem stepsB_one (a : IaD) : ∀ (ss : List St), stepsB a ss = true → ss.Pairwise (fun y x => y.1 = x.1 → y.2.1 = x.2.1 → x.2.1 ∈ a.ins → False)
  | [], _ => List.Pairwise.nil
  | [x], _ => by simp
  | y :: x :: r, h => by
    have hr := stepsB_rise a _ h
    simp only [stepsB, Bool.and_eq_true] at h
    have ih := stepsB_one a (x :: r) h.2
    have hn := h.1.2
    simp only [nextB, Bool.and_eq_true, Bool.not_eq_true', Bool.and_eq_false_iff, decide_eq_true_eq, decide_eq_false_iff_not, hasB] at hn
    have key : y.1 = x.1 → y.2.1 = x.2.1 → x.2.1 ∈ a.ins → False := by
      intro e1 e2 hm
      rcases hn.2 with (k | k) | k
      · exact k e1
      · exact k e2
      · exact k hm
    refine List.pairwise_cons.2 ⟨fun z hz => ?_, ih⟩
    rcases List.mem_cons.1 hz with rfl | hz
    · exact key
    · intro e1 e2 hm
      have h1 := (List.pairwise_cons.1 hr).1 x (by simp)
      have h2 := (List.pairwise_cons.1 (List.pairwise_cons.1 hr).2).1 z hz
      simp only [Ahead] at h1 h2
      have q1 : y.1 = x.1 := by omega
      have q2 : y.2.1 = x.2.1 := by omega
      exact key q1 q2 (by rw [← q2, e2]; exact hm)

theorem iaOk_one {a : IaD} (h : iaOkB a = true) {x y : St} (hx : x ∈ a.steps) (hy : y ∈ a.steps) (e1 : x.1 = y.1) (e2 : x.2.1 = y.2.1) (hm : x.2.1 ∈ a.ins) : x = y := by
  have hp := stepsB_one a _ (iaOk_steps h)
  obtain ⟨i, hi, rfl⟩ := List.getElem_of_mem hx
  obtain ⟨j, hj, rfl⟩ := List.getElem_of_mem hy
  rcases Nat.lt_trichotomy i j with k | k | k
  · exact (List.pairwise_iff_getElem.1 hp i j hi hj k e1 e2 (by rw [← e2]; exact hm)).elim
  · subst k
    rfl
  · exact (List.pairwise_iff_getElem.1 hp j i hj hi k e1.symm e2.symm hm).elim

/-- Steps that rise, are good, and of which no two have one beginning and one input, are right. -/
theorem stepsB_of (a : IaD) : ∀ (ss : List St), ss.Pairwise Ahead → (∀ x ∈ ss, goodStepB a x = true) → ss.Pairwise (fun y x => y.1 = x.1 → y.2.1 = x.2.1 → x.2.1 ∈ a.ins → False) → stepsB a ss = true
  | [], _, _, _ => rfl
  | [x], _, hg, _ => by simpa [stepsB] using hg x (by simp)
  | y :: x :: r, hr, hg, ho => by
    have ih := stepsB_of a (x :: r) (List.pairwise_cons.1 hr).2 (fun z hz => hg z (List.mem_cons_of_mem _ hz)) (List.pairwise_cons.1 ho).2
    have h1 := (List.pairwise_cons.1 hr).1 x (by simp)
    have h2 := (List.pairwise_cons.1 ho).1 x (by simp)
    have hn : nextB a y x = true := by
      simp only [nextB, Bool.and_eq_true, Bool.not_eq_true', Bool.and_eq_false_iff, decide_eq_true_eq, decide_eq_false_iff_not, hasB]
      refine ⟨(ahead_cmp y x).2 h1, ?_⟩
      by_cases e1 : y.1 = x.1
      · by_cases e2 : y.2.1 = x.2.1
        · exact .inr (fun hm => h2 e1 e2 hm)
        · exact .inl (.inr e2)
      · exact .inl (.inl e1)
    simp only [stepsB, Bool.and_eq_true]
    exact ⟨⟨hg y (by simp), hn⟩, ih⟩

/-- What two that fit have in common. -/
theorem fit_apart {a b : IaD} (h : fitB a b = true) : (∀ x, x ∈ a.ins → x ∈ b.ins → False) ∧ (∀ x, x ∈ a.outs → x ∈ b.outs → False) ∧ (∀ x, x ∈ a.hids → x ∈ actsOf b → False) ∧ (∀ x, x ∈ b.hids → x ∈ actsOf a → False) := by
  have hab := h
  unfold fitB at hab
  simp only [Bool.and_eq_true, decide_eq_true_eq] at hab
  obtain ⟨⟨_, hf⟩, _⟩ := hab
  unfold fitActs at hf
  simp only [Bool.and_eq_true, decide_eq_true_eq, List.length_eq_zero_iff] at hf
  obtain ⟨⟨⟨f1, f2⟩, f3⟩, f4⟩ := hf
  have nil : ∀ xs ys : List Int, meetOf xs ys = [] → ∀ x, x ∈ xs → x ∈ ys → False := by
    intro xs ys e x h1 h2
    have hm := mem_meetOf.2 ⟨h1, h2⟩
    rw [e] at hm
    cases hm
  exact ⟨nil _ _ f1, nil _ _ f2, nil _ _ f3, nil _ _ f4⟩

theorem mem_shOf {a b : IaD} {x : Int} : x ∈ shOf a b ↔ (x ∈ a.ins ∧ x ∈ b.outs) ∨ (x ∈ a.outs ∧ x ∈ b.ins) := by
  unfold shOf
  rw [mem_joinOf, mem_meetOf, mem_meetOf]

theorem pair_low {su p q n : Int} (hp : 0 ≤ p ∧ p ≤ n - 1) (hq : 0 ≤ q ∧ q ≤ su - 1) : 0 ≤ p * su + q ∧ p * su + q ≤ n * su - 1 := by
  have h0 : 0 ≤ p * su := Int.mul_nonneg hp.1 (by omega)
  have h1 : (p + 1) * su ≤ n * su := Int.mul_le_mul_of_nonneg_right (by omega) (by omega)
  rw [Int.add_mul, Int.one_mul] at h1
  omega

set_option maxHeartbeats 1600000 in
theorem prod_ok {a b : IaD} (hp : prodB a b = true) : iaOkB (productOf a b) = true := by
  unfold prodB at hp
  rw [Bool.and_eq_true, decide_eq_true_eq] at hp
  obtain ⟨hf, hlen⟩ := hp
  obtain ⟨ha, hb, hm⟩ := fitB_ok hf
  obtain ⟨p1, p2, p3, p4⟩ := fit_apart hf
  obtain ⟨a1, a2, a3⟩ := iaOk_apart ha
  obtain ⟨b1, b2, b3⟩ := iaOk_apart hb
  have sA := iaOk_states ha
  have sB := iaOk_states hb
  have iA := iaOk_init ha
  have iB := iaOk_init hb
  have eA := iaOk_ends ha
  have eB := iaOk_ends hb
  obtain ⟨oA1, oA2, oA3⟩ := iaOk_sets ha
  obtain ⟨oB1, oB2, oB3⟩ := iaOk_sets hb
  have mlow := mul_low sA sB
  simp only [iaOkB, setsB, Bool.and_eq_true, decide_eq_true_eq]
  have memI : ∀ x, x ∈ (productOf a b).ins ↔ (x ∈ a.ins ∨ x ∈ b.ins) ∧ ¬ x ∈ shOf a b := fun x => by
    show x ∈ lessOf (joinOf a.ins b.ins) (shOf a b) ↔ _
    rw [mem_lessOf, mem_joinOf]
  have memO : ∀ x, x ∈ (productOf a b).outs ↔ (x ∈ a.outs ∨ x ∈ b.outs) ∧ ¬ x ∈ shOf a b := fun x => by
    show x ∈ lessOf (joinOf a.outs b.outs) (shOf a b) ↔ _
    rw [mem_lessOf, mem_joinOf]
  have memH : ∀ x, x ∈ (productOf a b).hids ↔ (x ∈ a.hids ∨ x ∈ b.hids) ∨ x ∈ shOf a b := fun x => by
    show x ∈ joinOf (joinOf a.hids b.hids) (shOf a b) ↔ _
    rw [mem_joinOf, mem_joinOf]
  -- every step of both
  have stepA : ∀ x ∈ a.steps, hasB (shOf a b) x.2.1 = false → (x.2.1 ∈ (productOf a b).ins ∨ x.2.1 ∈ (productOf a b).outs ∨ x.2.1 ∈ (productOf a b).hids) := fun x hx hs => by
    have hn : ¬ x.2.1 ∈ shOf a b := by simpa [hasB] using hs
    rw [memI, memO, memH]
    rcases (eA x hx).2.2 with k | k | k
    · exact .inl ⟨.inl k, hn⟩
    · exact .inr (.inl ⟨.inl k, hn⟩)
    · exact .inr (.inr (.inl (.inl k)))
  have stepB : ∀ x ∈ b.steps, hasB (shOf a b) x.2.1 = false → (x.2.1 ∈ (productOf a b).ins ∨ x.2.1 ∈ (productOf a b).outs ∨ x.2.1 ∈ (productOf a b).hids) := fun x hx hs => by
    have hn : ¬ x.2.1 ∈ shOf a b := by simpa [hasB] using hs
    rw [memI, memO, memH]
    rcases (eB x hx).2.2 with k | k | k
    · exact .inl ⟨.inr k, hn⟩
    · exact .inr (.inl ⟨.inr k, hn⟩)
    · exact .inr (.inr (.inl (.inr k)))
  have good : ∀ u ∈ prodL a b, goodStepB (productOf a b) u = true := fun u hu => by
    have mk : ∀ p q p' q' : Int, (0 ≤ p ∧ p ≤ a.states - 1) → (0 ≤ q ∧ q ≤ b.states - 1) → (0 ≤ p' ∧ p' ≤ a.states - 1) → (0 ≤ q' ∧ q' ≤ b.states - 1) → ∀ x : Int, (x ∈ (productOf a b).ins ∨ x ∈ (productOf a b).outs ∨ x ∈ (productOf a b).hids) → goodStepB (productOf a b) (p * b.states + q, x, p' * b.states + q') = true := by
      intro p q p' q' h1 h2 h3 h4 x hx
      have k1 := pair_low h1 h2
      have k2 := pair_low h3 h4
      have e : (productOf a b).states = a.states * b.states := rfl
      simp only [goodStepB, stateB, btw, Bool.and_eq_true, Bool.or_eq_true, decide_eq_true_eq, hasB, e]
      exact ⟨⟨k1, k2⟩, by rcases hx with k | k | k <;> simp [k]⟩
    unfold prodL at hu
    rw [List.mem_append, List.mem_append] at hu
    rcases hu with (hu | hu) | hu
    · obtain ⟨x, hx, hs, hu⟩ := mem_aloneA.1 hu
      obtain ⟨q, hq, rfl⟩ := mem_besideA.1 hu
      exact mk _ _ _ _ (eA x hx).1 (by omega) (eA x hx).2.1 (by omega) _ (stepA x hx hs)
    · obtain ⟨y, hy, hs, hu⟩ := mem_aloneB.1 hu
      obtain ⟨p, hp, rfl⟩ := mem_besideB.1 hu
      exact mk _ _ _ _ (by omega) (eB y hy).1 (by omega) (eB y hy).2.1 _ (stepB y hy hs)
    · obtain ⟨x, hx, hs, hu⟩ := mem_togetherL.1 hu
      obtain ⟨y, hy, e, rfl⟩ := mem_besideT.1 hu
      exact mk _ _ _ _ (eA x hx).1 (eB y hy).1 (eA x hx).2.1 (eB y hy).2.1 _ (.inr (.inr ((memH _).2 (.inr (by simpa [hasB] using hs)))))
  have one : (prodSteps a b).Pairwise (fun y x => y.1 = x.1 → y.2.1 = x.2.1 → x.2.1 ∈ (productOf a b).ins → False) := by
    refine (List.Pairwise.and_mem.1 (prodSteps_ahead hf)).imp ?_
    intro u v ⟨hu, hv, huv⟩ e1 e2 hI
    rw [mem_prodSteps] at hu hv
    rw [memI] at hI
    obtain ⟨hI, hns⟩ := hI
    have hne : u ≠ v := huv.ne
    have onlyA : ∀ z : Int, z ∈ a.ins → ¬ z ∈ shOf a b → ∀ y ∈ b.steps, y.2.1 = z → False := by
      intro z h1 h2 y hy ez
      rw [mem_shOf] at h2
      rcases (eB y hy).2.2 with k | k | k <;> rw [ez] at k
      · exact p1 _ h1 k
      · exact h2 (.inl ⟨h1, k⟩)
      · exact p4 _ k (mem_actsOf.2 (.inl h1))
    have onlyB : ∀ z : Int, z ∈ b.ins → ¬ z ∈ shOf a b → ∀ y ∈ a.steps, y.2.1 = z → False := by
      intro z h1 h2 y hy ez
      rw [mem_shOf] at h2
      rcases (eA y hy).2.2 with k | k | k <;> rw [ez] at k
      · exact p1 _ k h1
      · exact h2 (.inr ⟨k, h1⟩)
      · exact p3 _ k (mem_actsOf.2 (.inl h1))
    have noT : ∀ w ∈ prodL a b, w.2.1 = v.2.1 → (∃ x ∈ a.steps, ∃ q : Nat, q < b.states.toNat ∧ w = (x.1 * b.states + (q : Int), x.2.1, x.2.2 * b.states + (q : Int))) ∨ (∃ y ∈ b.steps, ∃ p : Nat, p < a.states.toNat ∧ w = ((p : Int) * b.states + y.1, y.2.1, (p : Int) * b.states + y.2.2)) := by
      intro w hw ew
      unfold prodL at hw
      rw [List.mem_append, List.mem_append] at hw
      rcases hw with (hw | hw) | hw
      · obtain ⟨x, hx, hs, hw⟩ := mem_aloneA.1 hw
        obtain ⟨q, hq, rfl⟩ := mem_besideA.1 hw
        exact .inl ⟨x, hx, q, hq, rfl⟩
      · obtain ⟨y, hy, hs, hw⟩ := mem_aloneB.1 hw
        obtain ⟨p, hp, rfl⟩ := mem_besideB.1 hw
        exact .inr ⟨y, hy, p, hp, rfl⟩
      · obtain ⟨x, hx, hs, hw⟩ := mem_togetherL.1 hw
        obtain ⟨y, hy, e, rfl⟩ := mem_besideT.1 hw
        exact absurd (by rw [← ew]; simpa [hasB] using hs) hns
    rcases noT u hu e2 with ⟨x, hx, q, hq, rfl⟩ | ⟨y, hy, p, hp, rfl⟩ <;> rcases noT v hv rfl with ⟨x', hx', q', hq', rfl⟩ | ⟨y', hy', p', hp', rfl⟩
    · simp only at e1 e2 hI hns
      rcases hI with hI | hI
      · obtain ⟨d1, d2⟩ := divmod e1 (by omega) (by omega)
        have := iaOk_one ha hx hx' d1 e2 (by rw [e2]; exact hI)
        subst this
        exact hne (by rw [d2])
      · exact onlyB _ hI hns x' hx' rfl
    · simp only at e1 e2 hI hns
      rcases hI with hI | hI
      · exact onlyA _ hI hns y' hy' rfl
      · exact onlyB _ hI hns x hx e2
    · simp only at e1 e2 hI hns
      rcases hI with hI | hI
      · exact onlyA _ hI hns y hy e2
      · exact onlyB _ hI hns x' hx' rfl
    · simp only at e1 e2 hI hns
      rcases hI with hI | hI
      · exact onlyA _ hI hns y' hy' rfl
      · have q1 := (eB y hy).1
        have q2 := (eB y' hy').1
        obtain ⟨d1, d2⟩ := divmod e1 (by omega) (by omega)
        have := iaOk_one hb hy hy' d2 e2 (by rw [e2]; exact hI)
        subst this
        exact hne (by rw [d1])
  have low : ∀ x, (x ∈ a.ins ∨ x ∈ a.outs ∨ x ∈ a.hids ∨ x ∈ b.ins ∨ x ∈ b.outs ∨ x ∈ b.hids) → 0 ≤ x ∧ x ≤ 11 := by
    intro x h
    rcases h with h | h | h | h | h | h
    · exact setOk_low oA1 x h
    · exact setOk_low oA2 x h
    · exact setOk_low oA3 x h
    · exact setOk_low oB1 x h
    · exact setOk_low oB2 x h
    · exact setOk_low oB3 x h
  have lowS : ∀ x, x ∈ shOf a b → 0 ≤ x ∧ x ≤ 11 := by
    intro x h
    rw [mem_shOf] at h
    rcases h with h | h
    · exact low x (.inl h.1)
    · exact low x (.inr (.inl h.1))
  refine ⟨⟨⟨⟨?_, ?_⟩, ⟨⟨⟨?_, ?_⟩, ?_⟩, ?_⟩⟩, ?_⟩, ?_⟩
  · show btw (a.states * b.states) 1 40 = true
    simp [btw]
    omega
  · have := pair_low iA iB
    show stateB (productOf a b) (a.init * b.states + b.init) = true
    have e : (productOf a b).states = a.states * b.states := rfl
    simp [stateB, btw, e]
    omega
  · refine setOk_of (putAll_rises List.Pairwise.nil) (fun x hx => ?_)
    rcases ((memI x).1 hx).1 with k | k
    · exact low x (.inl k)
    · exact low x (.inr (.inr (.inr (.inl k))))
  · refine setOk_of (putAll_rises List.Pairwise.nil) (fun x hx => ?_)
    rcases ((memO x).1 hx).1 with k | k
    · exact low x (.inr (.inl k))
    · exact low x (.inr (.inr (.inr (.inr (.inl k)))))
  · refine setOk_of (putAll_rises (putAll_rises List.Pairwise.nil)) (fun x hx => ?_)
    rcases (memH x).1 hx with (k | k) | k
    · exact low x (.inr (.inr (.inl k)))
    · exact low x (.inr (.inr (.inr (.inr (.inr k)))))
    · exact lowS x k
  · show (prodSteps a b).length ≤ 400
    unfold prodSteps
    rw [sortS_len]
    exact hlen
  · refine apart_of (fun x h1 h2 => ?_) (fun x h1 h2 => ?_) (fun x h1 h2 => ?_)
    · rw [memI] at h1
      rw [memO] at h2
      have hn := h1.2
      rw [mem_shOf] at hn
      rcases h1.1 with k | k <;> rcases h2.1 with m | m
      · exact a1 x k m
      · exact hn (.inl ⟨k, m⟩)
      · exact hn (.inr ⟨m, k⟩)
      · exact b1 x k m
    · rw [memI] at h1
      rw [memH] at h2
      rcases h2 with (m | m) | m
      · rcases h1.1 with k | k
        · exact a2 x k m
        · exact p3 x m (mem_actsOf.2 (.inl k))
      · rcases h1.1 with k | k
        · exact p4 x m (mem_actsOf.2 (.inl k))
        · exact b2 x k m
      · exact h1.2 m
    · rw [memO] at h1
      rw [memH] at h2
      rcases h2 with (m | m) | m
      · rcases h1.1 with k | k
        · exact a3 x k m
        · exact p3 x m (mem_actsOf.2 (.inr (.inl k)))
      · rcases h1.1 with k | k
        · exact p4 x m (mem_actsOf.2 (.inr (.inl k)))
        · exact b3 x k m
      · exact h1.2 m
  · exact stepsB_of _ _ (prodSteps_ahead hf) (fun x hx => good x (mem_prodSteps.1 hx)) one

/-- A product has no more than an automaton may. -/
theorem prod_small {a b : IaD} (_ : Small a) (_ : Small b) : (prodIa a b).ins.length ≤ 1048576 ∧ (prodIa a b).outs.length ≤ 1048576 ∧ (prodIa a b).hids.length ≤ 1048576 ∧ (prodIa a b).steps.length ≤ 1048576 := by
  unfold prodIa
  by_cases h : prodB a b = true
  · rw [if_pos h]
    have ok := prod_ok h
    obtain ⟨o1, o2, o3⟩ := iaOk_sets ok
    have l1 : (productOf a b).ins.length ≤ 12 := rise_low12 (putAll_rises List.Pairwise.nil) (setOk_low o1)
    have l2 : (productOf a b).outs.length ≤ 12 := rise_low12 (putAll_rises List.Pairwise.nil) (setOk_low o2)
    have l3 : (productOf a b).hids.length ≤ 12 := rise_low12 (putAll_rises (putAll_rises List.Pairwise.nil)) (setOk_low o3)
    have l4 := iaOk_len ok
    exact ⟨by omega, by omega, by omega, by omega⟩
  · rw [if_neg h]
    simp [noIa]

end Go.Proofs.YtdbgjgeglgipiaaGreat
