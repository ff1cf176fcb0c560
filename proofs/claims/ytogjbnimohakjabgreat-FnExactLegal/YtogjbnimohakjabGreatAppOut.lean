import Derived.Test.YtogjbnimohakjabGreatBase
import Derived.ArgAppend
import Derived.Test.YtogjbnimohakjabGreatProdDef
import Derived.Test.YtogjbnimohakjabGreatBtw
import Derived.Test.YtogjbnimohakjabGreatRowOf
import Derived.Test.YtogjbnimohakjabGreatReachMath
import Derived.Test.YtogjbnimohakjabGreatIaLaw
import Derived.WalkMore
import Derived.Test.YtogjbnimohakjabGreatAlong
import Derived.Test.YtogjbnimohakjabGreatActs
import Derived.Test.YtogjbnimohakjabGreatRegion
import Derived.Test.YtogjbnimohakjabGreatClashing
import Derived.Test.YtogjbnimohakjabGreatClashList
import Derived.Test.YtogjbnimohakjabGreatClashMath
import Derived.Test.YtogjbnimohakjabGreatShared
import Derived.Test.YtogjbnimohakjabGreatStates
import Derived.Test.YtogjbnimohakjabGreatTwoLaw
/-
  A row of ints that begins as an empty literal and is appended to: its memory lies behind a given mark as soon as it holds something. Conditions: as each statement says; nothing here speaks of the program.
-/
namespace Go.Proofs.YtogjbnimohakjabGreat
open Go.RowKit

/-- A row that the call owns: it lies behind the mark B, or is still the empty literal with no room. -/
def OutB (w : World) (B base : Nat) (v : Value) (n : Nat) (xs : List Int) : Prop :=
  Owns w base v n xs ∧ (Owns w B v n xs ∨ (n = 0 ∧ xs = [] ∧ ∃ g, v = .slice (some ⟨g, 0, none⟩) 0 0))

theorem OutB.below {w w' : World} {B base n : Nat} {v : Value} {xs : List Int} (h : OutB w B base v n xs) (hb : Below w.heap.size w w') : OutB w' B base v n xs :=
  ⟨h.1.below hb, h.2.imp (fun k => k.below hb) id⟩

theorem OutB.alloc {w : World} {B base n : Nat} {v : Value} {xs : List Int} (h : OutB w B base v n xs) (o : Obj) : OutB (w.alloc o) B base v n xs :=
  ⟨h.1.alloc o, h.2.imp (fun k => k.alloc o) id⟩

theorem OutB.start {w : World} {B base : Nat} {g : Nat} (h : Owns w base (.slice (some ⟨g, 0, none⟩) 0 0) 0 []) : OutB w B base (.slice (some ⟨g, 0, none⟩) 0 0) 0 [] :=
  ⟨h, .inr ⟨rfl, rfl, g, rfl⟩⟩

/-- Between two worlds nothing ahead of the mark was written. -/
def Behind (w w' : World) (B : Nat) : Prop := ∃ r, w.grownBy w' r ∧ ∀ k, r = some k → B ≤ k

theorem wpList_appO {P : Program} {w : World} {ops : Array Oper} {rest : List Oper} {o : Oper} {a : Act} {Q : Exit → Act → World → Prop} (hgd : o.guard = none) (s x : Operand)
    (ho : o.op = .call { callee := .builtin .append, args := #[s, x], argTypes := #[ 22, 22 ] })
    (B base : Nat) (i : TypeInfo) (ht : P.underlying 22 = some (.slice 3)) (hi : P.info? 3 = some i) (hz : i.zero = some (.int .i64 0)) (hsize : i.size = 1) (hby : i.bytes = 8)
    (v : Value) (n : Nat) (xs : List Int) (hs : a.eval s = v) (hout : OutB w B base v n xs) (ad : Addr) (m c : Nat) (ys : List Int) (hx : a.eval x = .slice (some ad) m c) (hsrc : Src w (some ad) m c ys)
    (hbig : n + m ≤ 8796093022208) (hm : 0 < m) (hB : B ≤ w.heap.size) (hbB : base ≤ B)
    (h : ∀ g' c' w', OutB w' B base (.slice (some ⟨g', 0, none⟩) (n + m) c') (n + m) (xs ++ ys) → Behind w w' B → wpList P ops Q rest (a.put o.dst (.slice (some ⟨g', 0, none⟩) (n + m) c')) w') : wpList P ops Q (o :: rest) a w := by
  have key : ∀ v' w', Owns w' B v' (n + m) (xs ++ ys) → Behind w w' B → wpList P ops Q rest (a.put o.dst v') w' := by
    intro v' w' h1 h2
    obtain ⟨g', c', rfl⟩ := h1.head (fun e => by
      have hl := h1.length
      rcases h1.2 with ⟨_, h0⟩ | ⟨g, cap, cur, hv, _⟩
      · omega
      · rw [e] at hv; cases hv)
    exact h g' c' w' ⟨h1.mono hbB, .inl h1⟩ h2
  rcases hout.2 with h1 | ⟨rfl, rfl, g, rfl⟩
  · refine wpList_app hgd s x ho B i ht hi hz hsize hby v n xs hs h1 (some ad) m c ys hx hsrc hbig hB ?_
    rintro v' w' ⟨k1, k2, _⟩
    exact key v' w' k1 ⟨_, k2, fun k hk => (h1.lt k hk).1⟩
  · obtain ⟨hl, _, hc⟩ := hsrc
    refine wpList_append_grows w hgd s x 22 ho 3 i (.int .i64 0) 1 8 ht hi hz hsize hby rfl (by decide) (some ⟨g, 0, none⟩) 0 0 [] hs (fun e => by cases e) (by simp) (fun b _ j u hu => by simp at hu)
      ad m c (ys.map (Value.int .i64)) hx (by simpa using hl) (hc ad rfl) (ints_oneCell _ _) (by omega) (by unfold maxLen; omega) (by omega) ?_
    intro v' w' h1 h2
    have h3 : Owns w' w.heap.size v' (0 + m) ([] ++ ys) := by simpa [Owns] using h1
    exact key v' w' (h3.mono hB) ⟨none, h2, fun k hk => by cases hk⟩

end Go.Proofs.YtogjbnimohakjabGreat

/-
  The product of two that fit is right, where it has no more steps than it may. No conditions beyond these; nothing here speaks of the program.
-/
namespace Go.Proofs.YtogjbnimohakjabGreat
open Go.RowKit

theorem setOk_of {xs : List Int} (hr : xs.Pairwise (· < ·)) (hl : ∀ x ∈ xs, 0 ≤ x ∧ x ≤ 11) : setOkB xs = true := by
  refine setOk_all (n := xs.length) (k := xs.length) rfl (Nat.lt_irrefl _) (fun j hj => ?_)
  have hm : xs.getD j 0 ∈ xs := by
    rw [List.getD_eq_getElem?_getD, List.getElem?_eq_getElem hj]
    exact List.getElem_mem hj
  have hb : btw (xs.getD j 0) 0 11 = true := by
    have := hl _ hm
    simp [btw]
    exact this
  by_cases h0 : 0 < j
  · refine good_yes (x := xs.getD j 0) (y := xs.getD (j - 1) 0) rfl rfl hb ?_
    have h1 : j - 1 < xs.length := by omega
    rw [List.getD_eq_getElem?_getD, List.getElem?_eq_getElem h1, List.getD_eq_getElem?_getD, List.getElem?_eq_getElem hj]
    exact List.pairwise_iff_getElem.1 hr (j - 1) j h1 hj (by omega)
  · exact good_zero (x := xs.getD j 0) rfl hb h0

theorem apart_of {a : IaD} (h1 : ∀ x, x ∈ a.ins → x ∈ a.outs → False) (h2 : ∀ x, x ∈ a.ins → x ∈ a.hids → False) (h3 : ∀ x, x ∈ a.outs → x ∈ a.hids → False) : apartB a = true := by
  have nil : ∀ xs ys : List Int, (∀ x, x ∈ xs → x ∈ ys → False) → (meetOf xs ys).length = 0 := by
    intro xs ys h
    rw [List.length_eq_zero_iff]
    apply List.eq_nil_iff_forall_not_mem.2
    intro x hx
    have := mem_meetOf.1 hx
    exact h x this.1 this.2
  unfold apartB
  rw [decide_eq_true_eq, nil _ _ h1, nil _ _ h2, nil _ _ h3]

theorem iaOk_apart {a : IaD} (h : iaOkB a = true) : (∀ x, x ∈ a.ins → x ∈ a.outs → False) ∧ (∀ x, x ∈ a.ins → x ∈ a.hids → False) ∧ (∀ x, x ∈ a.outs → x ∈ a.hids → False) := by
  simp only [iaOkB, apartB, Bool.and_eq_true, decide_eq_true_eq] at h
  have hz := h.1.2
  have nil : ∀ xs ys : List Int, (meetOf xs ys).length = 0 → ∀ x, x ∈ xs → x ∈ ys → False := by
    intro xs ys e x h1 h2
    have hm := mem_meetOf.2 ⟨h1, h2⟩
    rw [List.length_eq_zero_iff.1 e] at hm
    cases hm
  exact ⟨nil _ _ (by omega), nil _ _ (by omega), nil _ _ (by omega)⟩

/-- Two steps from one state with one input are one step. -/
theorem stepsB_one (a : IaD) : ∀ (ss : List St), stepsB a ss = true → ss.Pairwise (fun y x => y.1 = x.1 → y.2.1 = x.2.1 → x.2.1 ∈ a.ins → False)
  | [], _ => List.Pairwise.nil
  | [x], _ => by simp
  | y :: x :: r, h => by
    have hr := stepsB_rise a _ h
    simp only [stepsB, Bool.and_eq_true] at h
    have ih := stepsB_one a (x :: r) h.2
    have hn := h.1.2
    simp only [nextB, Bool.and_eq_true, Bool.not_eq_true', Bool.and_eq_false_iff, decide_eq_true_eq, decide_eq_false_iff_not, hasB] at hn
    have key : y.1 = x.1 → y.2.1 = x.2.1 → x.2.1 ∈ a.ins → False := by
      intro e1 e2 hm
      rcases hn.2 with (k | k) | k
      · exact k e1
      · exact k e2
      · exact k hm
    refine List.pairwise_cons.2 ⟨fun z hz => ?_, ih⟩
    rcases List.mem_cons.1 hz with rfl | hz
    · exact key
    · intro e1 e2 hm
      have h1 := (List.pairwise_cons.1 hr).1 x (by simp)
      have h2 := (List.pairwise_cons.1 (List.pairwise_cons.1 hr).2).1 z hz
      simp only [Ahead] at h1 h2
      have q1 : y.1 = x.1 := by omega
      have q2 : y.2.1 = x.2.1 := by omega
      exact key q1 q2 (by rw [← q2, e2]; exact hm)

theorem iaOk_one {a : IaD} (h : iaOkB a = true) {x y : St} (hx : x ∈ a.steps) (hy : y ∈ a.steps) (e1 : x.1 = y.1) (e2 : x.2.1 = y.2.1) (hm : x.2.1 ∈ a.ins) : x = y := by
  have hp := stepsB_one a _ (iaOk_steps h)
  obtain ⟨i, hi, rfl⟩ := List.getElem_of_mem hx
  obtain ⟨j, hj, rfl⟩ := List.getElem_of_mem hy
  rcases Nat.lt_trichotomy i j with k | k | k
  · exact (List.pairwise_iff_getElem.1 hp i j hi hj k e1 e2 (by rw [← e2]; exact hm)).elim
  · subst k
    rfl
  · exact (List.pairwise_iff_getElem.1 hp j i hj hi k e1.symm e2.symm hm).elim

/-- Steps that rise, are good, and of which no two have one beginning and one input, are right. -/
theorem stepsB_of (a : IaD) : ∀ (ss : List St), ss.Pairwise Ahead → (∀ x ∈ ss, goodStepB a x = true) → ss.Pairwise (fun y x => y.1 = x.1 → y.2.1 = x.2.1 → x.2.1 ∈ a.ins → False) → stepsB a ss = true
  | [], _, _, _ => rfl
  | [x], _, hg, _ => by simpa [stepsB] using hg x (by simp)
  | y :: x :: r, hr, hg, ho => by
    have ih := stepsB_of a (x :: r) (List.pairwise_cons.1 hr).2 (fun z hz => hg z (List.mem_cons_of_mem _ hz)) (List.pairwise_cons.1 ho).2
    have h1 := (List.pairwise_cons.1 hr).1 x (by simp)
    have h2 := (List.pairwise_cons.1 ho).1 x (by simp)
    have hn : nextB a y x = true := by
      simp only [nextB, Bool.and_eq_true, Bool.not_eq_true', Bool.and_eq_false_iff, decide_eq_true_eq, decide_eq_false_iff_not, hasB]
      refine ⟨(ahead_cmp y x).2 h1, ?_⟩
      by_cases e1 : y.1 = x.1
      · by_cases e2 : y.2.1 = x.2.1
        · exact .inr (fun hm => h2 e1 e2 hm)
        · exact .inl (.inr e2)
      · exact .inl (.inl e1)
    simp only [stepsB, Bool.and_eq_true]
    exact ⟨⟨hg y (by simp), hn⟩, ih⟩

/-- What two that fit have in common. -/
theorem fit_apart {a b : IaD} (h : fitB a b = true) : (∀ x, x ∈ a.ins → x ∈ b.ins → False) ∧ (∀ x, x ∈ a.outs → x ∈ b.outs → False) ∧ (∀ x, x ∈ a.hids → x ∈ actsOf b → False) ∧ (∀ x, x ∈ b.hids → x ∈ actsOf a → False) := by
  have hab := h
  unfold fitB at hab
  simp only [Bool.and_eq_true, decide_eq_true_eq] at hab
  obtain ⟨⟨_, hf⟩, _⟩ := hab
  unfold fitActs at hf
  simp only [Bool.and_eq_true, decide_eq_true_eq, List.length_eq_zero_iff] at hf
  obtain ⟨⟨⟨f1, f2⟩, f3⟩, f4⟩ := hf
  have nil : ∀ xs ys : List Int, meetOf xs ys = [] → ∀ x, x ∈ xs → x ∈ ys → False := by
    intro xs ys e x h1 h2
    have hm := mem_meetOf.2 ⟨h1, h2⟩
    rw [e] at hm
    cases hm
  exact ⟨nil _ _ f1, nil _ _ f2, nil _ _ f3, nil _ _ f4⟩

theorem mem_shOf {a b : IaD} {x : Int} : x ∈ shOf a b ↔ (x ∈ a.ins ∧ x ∈ b.outs) ∨ (x ∈ a.outs ∧ x ∈ b.ins) := by
  unfold shOf
  rw [mem_joinOf, mem_meetOf, mem_meetOf]

theorem pair_low {su p q n : Int} (hp : 0 ≤ p ∧ p ≤ n - 1) (hq : 0 ≤ q ∧ q ≤ su - 1) : 0 ≤ p * su + q ∧ p * su + q ≤ n * su - 1 := by
  have h0 : 0 ≤ p * su := Int.mul_nonneg hp.1 (by omega)
  have h1 : (p + 1) * su ≤ n * su := Int.mul_le_mul_of_nonneg_right (by omega) (by omega)
  rw [Int.add_mul, Int.one_mul] at h1
  omega

set_option maxHeartbeats 1600000 in
theorem prod_ok {a b : IaD} (hp : prodB a b = true) : iaOkB (productOf a b) = true := by
  unfold prodB at hp
  rw [Bool.and_eq_true, decide_eq_true_eq] at hp
  obtain ⟨hf, hlen⟩ := hp
  obtain ⟨ha, hb, hm⟩ := fitB_ok hf
  obtain ⟨p1, p2, p3, p4⟩ := fit_apart hf
  obtain ⟨a1, a2, a3⟩ := iaOk_apart ha
  obtain ⟨b1, b2, b3⟩ := iaOk_apart hb
  have sA := iaOk_states ha
  have sB := iaOk_states hb
  have iA := iaOk_init ha
  have iB := iaOk_init hb
  have eA := iaOk_ends ha
  have eB := iaOk_ends hb
  obtain ⟨oA1, oA2, oA3⟩ := iaOk_sets ha
  obtain ⟨oB1, oB2, oB3⟩ := iaOk_sets hb
  have mlow := mul_low sA sB
  simp only [iaOkB, setsB, Bool.and_eq_true, decide_eq_true_eq]
  have memI : ∀ x, x ∈ (productOf a b).ins ↔ (x ∈ a.ins ∨ x ∈ b.ins) ∧ ¬ x ∈ shOf a b := fun x => by
    show x ∈ lessOf (joinOf a.ins b.ins) (shOf a b) ↔ _
    rw [mem_lessOf, mem_joinOf]
  have memO : ∀ x, x ∈ (productOf a b).outs ↔ (x ∈ a.outs ∨ x ∈ b.outs) ∧ ¬ x ∈ shOf a b := fun x => by
    show x ∈ lessOf (joinOf a.outs b.outs) (shOf a b) ↔ _
    rw [mem_lessOf, mem_joinOf]
  have memH : ∀ x, x ∈ (productOf a b).hids ↔ (x ∈ a.hids ∨ x ∈ b.hids) ∨ x ∈ shOf a b := fun x => by
    show x ∈ joinOf (joinOf a.hids b.hids) (shOf a b) ↔ _
    rw [mem_joinOf, mem_joinOf]
  -- every step of both
  have stepA : ∀ x ∈ a.steps, hasB (shOf a b) x.2.1 = false → (x.2.1 ∈ (productOf a b).ins ∨ x.2.1 ∈ (productOf a b).outs ∨ x.2.1 ∈ (productOf a b).hids) := fun x hx hs => by
    have hn : ¬ x.2.1 ∈ shOf a b := by simpa [hasB] using hs
    rw [memI, memO, memH]
    rcases (eA x hx).2.2 with k | k | k
    · exact .inl ⟨.inl k, hn⟩
    · exact .inr (.inl ⟨.inl k, hn⟩)
    · exact .inr (.inr (.inl (.inl k)))
  have stepB : ∀ x ∈ b.steps, hasB (shOf a b) x.2.1 = false → (x.2.1 ∈ (productOf a b).ins ∨ x.2.1 ∈ (productOf a b).outs ∨ x.2.1 ∈ (productOf a b).hids) := fun x hx hs => by
    have hn : ¬ x.2.1 ∈ shOf a b := by simpa [hasB] using hs
    rw [memI, memO, memH]
    rcases (eB x hx).2.2 with k | k | k
    · exact .inl ⟨.inr k, hn⟩
    · exact .inr (.inl ⟨.inr k, hn⟩)
    · exact .inr (.inr (.inl (.inr k)))
  have good : ∀ u ∈ prodL a b, goodStepB (productOf a b) u = true := fun u hu => by
    have mk : ∀ p q p' q' : Int, (0 ≤ p ∧ p ≤ a.states - 1) → (0 ≤ q ∧ q ≤ b.states - 1) → (0 ≤ p' ∧ p' ≤ a.states - 1) → (0 ≤ q' ∧ q' ≤ b.states - 1) → ∀ x : Int, (x ∈ (productOf a b).ins ∨ x ∈ (productOf a b).outs ∨ x ∈ (productOf a b).hids) → goodStepB (productOf a b) (p * b.states + q, x, p' * b.states + q') = true := by
      intro p q p' q' h1 h2 h3 h4 x hx
      have k1 := pair_low h1 h2
      have k2 := pair_low h3 h4
      have e : (productOf a b).states = a.states * b.states := rfl
      simp only [goodStepB, stateB, btw, Bool.and_eq_true, Bool.or_eq_true, decide_eq_true_eq, hasB, e]
      exact ⟨⟨k1, k2⟩, by rcases hx with k | k | k <;> simp [k]⟩
    unfold prodL at hu
    rw [List.mem_append, List.mem_append] at hu
    rcases hu with (hu | hu) | hu
    · obtain ⟨x, hx, hs, hu⟩ := mem_aloneA.1 hu
      obtain ⟨q, hq, rfl⟩ := mem_besideA.1 hu
      exact mk _ _ _ _ (eA x hx).1 (by omega) (eA x hx).2.1 (by omega) _ (stepA x hx hs)
    · obtain ⟨y, hy, hs, hu⟩ := mem_aloneB.1 hu
      obtain ⟨p, hp, rfl⟩ := mem_besideB.1 hu
      exact mk _ _ _ _ (by omega) (eB y hy).1 (by omega) (eB y hy).2.1 _ (stepB y hy hs)
    · obtain ⟨x, hx, hs, hu⟩ := mem_togetherL.1 hu
      obtain ⟨y, hy, e, rfl⟩ := mem_besideT.1 hu
      exact mk _ _ _ _ (eA x hx).1 (eB y hy).1 (eA x hx).2.1 (eB y hy).2.1 _ (.inr (.inr ((memH _).2 (.inr (by simpa [hasB] using hs)))))
  have one : (prodSteps a b).Pairwise (fun y x => y.1 = x.1 → y.2.1 = x.2.1 → x.2.1 ∈ (productOf a b).ins → False) := by
    refine (List.Pairwise.and_mem.1 (prodSteps_ahead hf)).imp ?_
    intro u v ⟨hu, hv, huv⟩ e1 e2 hI
    rw [mem_prodSteps] at hu hv
    rw [memI] at hI
    obtain ⟨hI, hns⟩ := hI
    have hne : u ≠ v := huv.ne
    have onlyA : ∀ z : Int, z ∈ a.ins → ¬ z ∈ shOf a b → ∀ y ∈ b.steps, y.2.1 = z → False := by
      intro z h1 h2 y hy ez
      rw [mem_shOf] at h2
      rcases (eB y hy).2.2 with k | k | k <;> rw [ez] at k
      · exact p1 _ h1 k
      · exact h2 (.inl ⟨h1, k⟩)
      · exact p4 _ k (mem_actsOf.2 (.inl h1))
    have onlyB : ∀ z : Int, z ∈ b.ins → ¬ z ∈ shOf a b → ∀ y ∈ a.steps, y.2.1 = z → False := by
      intro z h1 h2 y hy ez
      rw [mem_shOf] at h2
      rcases (eA y hy).2.2 with k | k | k <;> rw [ez] at k
      · exact p1 _ k h1
      · exact h2 (.inr ⟨k, h1⟩)
      · exact p3 _ k (mem_actsOf.2 (.inl h1))
    have noT : ∀ w ∈ prodL a b, w.2.1 = v.2.1 → (∃ x ∈ a.steps, ∃ q : Nat, q < b.states.toNat ∧ w = (x.1 * b.states + (q : Int), x.2.1, x.2.2 * b.states + (q : Int))) ∨ (∃ y ∈ b.steps, ∃ p : Nat, p < a.states.toNat ∧ w = ((p : Int) * b.states + y.1, y.2.1, (p : Int) * b.states + y.2.2)) := by
      intro w hw ew
      unfold prodL at hw
      rw [List.mem_append, List.mem_append] at hw
      rcases hw with (hw | hw) | hw
      · obtain ⟨x, hx, hs, hw⟩ := mem_aloneA.1 hw
        obtain ⟨q, hq, rfl⟩ := mem_besideA.1 hw
        exact .inl ⟨x, hx, q, hq, rfl⟩
      · obtain ⟨y, hy, hs, hw⟩ := mem_aloneB.1 hw
        obtain ⟨p, hp, rfl⟩ := mem_besideB.1 hw
        exact .inr ⟨y, hy, p, hp, rfl⟩
      · obtain ⟨x, hx, hs, hw⟩ := mem_togetherL.1 hw
        obtain ⟨y, hy, e, rfl⟩ := mem_besideT.1 hw
        exact absurd (by rw [← ew]; simpa [hasB] using hs) hns
    rcases noT u hu e2 with ⟨x, hx, q, hq, rfl⟩ | ⟨y, hy, p, hp, rfl⟩ <;> rcases noT v hv rfl with ⟨x', hx', q', hq', rfl⟩ | ⟨y', hy', p', hp', rfl⟩
    · simp only at e1 e2 hI hns
      rcases hI with hI | hI
      · obtain ⟨d1, d2⟩ := divmod e1 (by omega) (by omega)
        have := iaOk_one ha hx hx' d1 e2 (by rw [e2]; exact hI)
        subst this
        exact hne (by rw [d2])
      · exact onlyB _ hI hns x' hx' rfl
    · simp only at e1 e2 hI hns
      rcases hI with hI | hI
      · exact onlyA _ hI hns y' hy' rfl
      · exact onlyB _ hI hns x hx e2
    · simp only at e1 e2 hI hns
      rcases hI with hI | hI
      · exact onlyA _ hI hns y hy e2
      · exact onlyB _ hI hns x' hx' rfl
    · simp only at e1 e2 hI hns
      rcases hI with hI | hI
      · exact onlyA _ hI hns y' hy' rfl
      · have q1 := (eB y hy).1
        have q2 := (eB y' hy').1
        obtain ⟨d1, d2⟩ := divmod e1 (by omega) (by omega)
        have := iaOk_one hb hy hy' d2 e2 (by rw [e2]; exact hI)
        subst this
        exact hne (by rw [d1])
  have low : ∀ x, (x ∈ a.ins ∨ x ∈ a.outs ∨ x ∈ a.hids ∨ x ∈ b.ins ∨ x ∈ b.outs ∨ x ∈ b.hids) → 0 ≤ x ∧ x ≤ 11 := by
    intro x h
    rcases h with h | h | h | h | h | h
    · exact setOk_low oA1 x h
    · exact setOk_low oA2 x h
    · exact setOk_low oA3 x h
    · exact setOk_low oB1 x h
    · exact setOk_low oB2 x h
    · exact setOk_low oB3 x h
  have lowS : ∀ x, x ∈ shOf a b → 0 ≤ x ∧ x ≤ 11 := by
    intro x h
    rw [mem_shOf] at h
    rcases h with h | h
    · exact low x (.inl h.1)
    · exact low x (.inr (.inl h.1))
  refine ⟨⟨⟨⟨?_, ?_⟩, ⟨⟨⟨?_, ?_⟩, ?_⟩, ?_⟩⟩, ?_⟩, ?_⟩
  · show btw (a.states * b.states) 1 40 = true
    simp [btw]
    omega
  · have := pair_low iA iB
    show stateB (productOf a b) (a.init * b.states + b.init) = true
    have e : (productOf a b).states = a.states * b.states := rfl
    simp [stateB, btw, e]
    omega
  · refine setOk_of (putAll_rises List.Pairwise.nil) (fun x hx => ?_)
    rcases ((memI x).1 hx).1 with k | k
    · exact low x (.inl k)
    · exact low x (.inr (.inr (.inr (.inl k))))
  · refine setOk_of (putAll_rises List.Pairwise.nil) (fun x hx => ?_)
    rcases ((memO x).1 hx).1 with k | k
    · exact low x (.inr (.inl k))
    · exact low x (.inr (.inr (.inr (.inr (.inl k)))))
  · refine setOk_of (putAll_rises (putAll_rises List.Pairwise.nil)) (fun x hx => ?_)
    rcases (memH x).1 hx with (k | k) | k
    · exact low x (.inr (.inr (.inl k)))
    · exact low x (.inr (.inr (.inr (.inr (.inr k)))))
    · exact lowS x k
  · show (prodSteps a b).length ≤ 400
    unfold prodSteps
    rw [sortS_len]
    exact hlen
  · refine apart_of (fun x h1 h2 => ?_) (fun x h1 h2 => ?_) (fun x h1 h2 => ?_)
    · rw [memI] at h1
      rw [memO] at h2
      have hn := h1.2
      rw [mem_shOf] at hn
      rcases h1.1 with k | k <;> rcases h2.1 with m | m
      · exact a1 x k m
      · exact hn (.inl ⟨k, m⟩)
      · exact hn (.inr ⟨m, k⟩)
      · exact b1 x k m
    · rw [memI] at h1
      rw [memH] at h2
      rcases h2 with (m | m) | m
      · rcases h1.1 with k | k
        · exact a2 x k m
        · exact p3 x m (mem_actsOf.2 (.inl k))
      · rcases h1.1 with k | k
        · exact p4 x m (mem_actsOf.2 (.inl k))
        · exact b2 x k m
      · exact h1.2 m
    · rw [memO] at h1
      rw [memH] at h2
      rcases h2 with (m | m) | m
      · rcases h1.1 with k | k
        · exact a3 x k m
        · exact p3 x m (mem_actsOf.2 (.inr (.inl k)))
      · rcases h1.1 with k | k
        · exact p4 x m (mem_actsOf.2 (.inr (.inl k)))
        · exact b3 x k m
      · exact h1.2 m
  · exact stepsB_of _ _ (prodSteps_ahead hf) (fun x hx => good x (mem_prodSteps.1 hx)) one

/-- A product has no more than an automaton may. -/
theorem prod_small {a b : IaD} (_ : Small a) (_ : Small b) : (prodIa a b).ins.length ≤ 1048576 ∧ (prodIa a b).outs.length ≤ 1048576 ∧ (prodIa a b).hids.length ≤ 1048576 ∧ (prodIa a b).steps.length ≤ 1048576 := by
  unfold prodIa
  by_cases h : prodB a b = true
  · rw [if_pos h]
    have ok := prod_ok h
    obtain ⟨o1, o2, o3⟩ := iaOk_sets ok
    have l1 : (productOf a b).ins.length ≤ 12 := rise_low12 (putAll_rises List.Pairwise.nil) (setOk_low o1)
    have l2 : (productOf a b).outs.length ≤ 12 := rise_low12 (putAll_rises List.Pairwise.nil) (setOk_low o2)
    have l3 : (productOf a b).hids.length ≤ 12 := rise_low12 (putAll_rises (putAll_rises List.Pairwise.nil)) (setOk_low o3)
    have l4 := iaOk_len ok
    exact ⟨by omega, by omega, by omega, by omega⟩
  · rw [if_neg h]
    simp [noIa]

end Go.Proofs.YtogjbnimohakjabGreat

/-
  Contracts of the model's l01Same and of the library's Equal of two lists of ints. Conditions: lists of at most 2^40 elements.
-/
namespace Go.Proofs.YtogjbnimohakjabGreat
open Go.RowKit

set_option maxRecDepth 20000 in
set_option maxHeartbeats 1600000 in
theorem same1_any (a a2 : Option Addr) (n c m c2 : Nat) (xs ys : List Int) (w : World) (h : Row w a n xs) (h2 : Row w a2 m ys) (hn : n ≤ 1099511627776) (hm : m ≤ 1099511627776) :
    Calls Tryz.prog 98 #[.slice a n c, .slice a2 m c2] w fun e w' => e = .returned (.bool (decide (xs = ys))) ∧ Below w.heap.size w w' := by
  obtain ⟨hl, hc⟩ := h
  obtain ⟨hl2, hc2⟩ := h2
  by_cases hnm : n = m
  · subst hnm
    go_enter Tryz.func98, Tryz.ntmps98
    go_wp2
    go_loopw [5] (fun i wr => ∃ k : Nat, k ≤ n ∧ i = .int .i64 k ∧ xs.take k = ys.take k ∧ Below w.heap.size w wr) (fun i _ => n - (intOf i).toNat)
    case atStart => exact ⟨0, Nat.zero_le _, rfl, rfl, Below.refl _ _⟩
    case round =>
      obtain ⟨k, hk, rfl, ht, hnx⟩ := hrel
      have HT := Lib.hid ht
      clear ht
      by_cases hlt : k < n
      · obtain ⟨b, off, rfl, hb, hcell⟩ := hc (by omega)
        obtain ⟨b2, off2, rfl, hb2, hcell2⟩ := hc2 (by omega)
        have hkx : k < xs.length := by omega
        have hky : k < ys.length := by omega
        have g1 : wr.cell? ⟨b, off + k, none⟩ = some (.int .i64 xs[k]) := by rw [← getD_eq xs k hkx]; exact (hnx.cell (p := ⟨b, off + k, none⟩) hb).trans (hcell k hlt)
        have g2 : wr.cell? ⟨b2, off2 + k, none⟩ = some (.int .i64 ys[k]) := by rw [← getD_eq ys k hky]; exact (hnx.cell (p := ⟨b2, off2 + k, none⟩) hb2).trans (hcell2 k hlt)
        clear hc hc2 hcell hcell2
        by_cases he : xs[k] = ys[k]
        · have HE := Lib.hid he
          have he1 : (xs[k] != ys[k]) = false := by simp [he]
          clear he
          go_wp2
          go_quiet (fail)
          go_wp2
          go_roundw
          case rel => exact ⟨k + 1, by omega, by go_num, take_eq_step HT.out hkx hky HE.out, below_drewN hnx _⟩
          case measure => simp [intOf]; omega
        · have HE := Lib.hid he
          have he1 : (xs[k] != ys[k]) = true := by simp [he]
          clear he
          go_wp2
          go_quiet (fail)
          go_wp2
          go_ret
          refine ⟨ret_bool (decide_eq_false (ne_of_at hkx hky HE.out)).symm, below_drewN hnx _⟩
      · go_wp2
        go_ret
        have := HT.out
        rw [List.take_of_length_le (by omega), List.take_of_length_le (by omega)] at this
        exact ⟨ret_bool (decide_eq_true this).symm, hnx⟩
  · have hne : ¬ xs = ys := by intro e; subst e; omega
    have HN := Lib.hid hne
    clear hne hc hc2
    go_enter Tryz.func98, Tryz.ntmps98
    go_wp2
    go_ret
    exact ⟨ret_bool (decide_eq_false HN.out).symm, Below.refl _ _⟩

set_option maxRecDepth 20000 in
set_option maxHeartbeats 1600000 in
theorem equal_any (a a2 : Option Addr) (n c m c2 : Nat) (xs ys : List Int) (w : World) (h : Row w a n xs) (h2 : Row w a2 m ys) (hn : n ≤ 1099511627776) (hm : m ≤ 1099511627776) :
    Calls Tryz.prog 103 #[.slice a n c, .slice a2 m c2] w fun e w' => e = .returned (.bool (decide (xs = ys))) ∧ Below w.heap.size w w' := by
  obtain ⟨hl, hc⟩ := h
  obtain ⟨hl2, hc2⟩ := h2
  by_cases hnm : n = m
  · subst hnm
    go_enter Tryz.func103, Tryz.ntmps103
    go_wp2
    go_loopw [13] (fun i wr => ∃ k : Nat, k ≤ n ∧ i = .int .i64 k ∧ xs.take k = ys.take k ∧ Below w.heap.size w wr) (fun i _ => n - (intOf i).toNat)
    case atStart => exact ⟨0, Nat.zero_le _, rfl, rfl, Below.refl _ _⟩
    case round =>
      obtain ⟨k, hk, rfl, ht, hnx⟩ := hrel
      have HT := Lib.hid ht
      clear ht
      by_cases hlt : k < n
      · obtain ⟨b, off, rfl, hb, hcell⟩ := hc (by omega)
        obtain ⟨b2, off2, rfl, hb2, hcell2⟩ := hc2 (by omega)
        have hkx : k < xs.length := by omega
        have hky : k < ys.length := by omega
        have g1 : wr.cell? ⟨b, off + k, none⟩ = some (.int .i64 xs[k]) := by rw [← getD_eq xs k hkx]; exact (hnx.cell (p := ⟨b, off + k, none⟩) hb).trans (hcell k hlt)
        have g2 : wr.cell? ⟨b2, off2 + k, none⟩ = some (.int .i64 ys[k]) := by rw [← getD_eq ys k hky]; exact (hnx.cell (p := ⟨b2, off2 + k, none⟩) hb2).trans (hcell2 k hlt)
        clear hc hc2 hcell hcell2
        by_cases he : xs[k] = ys[k]
        · have HE := Lib.hid he
          have he1 : (xs[k] != ys[k]) = false := by simp [he]
          clear he
          go_wp2
          go_quiet (fail)
          go_wp2
          go_roundw
          case rel => exact ⟨k + 1, by omega, by go_num, take_eq_step HT.out hkx hky HE.out, below_drewN hnx _⟩
          case measure => simp [intOf]; omega
        · have HE := Lib.hid he
          have he1 : (xs[k] != ys[k]) = true := by simp [he]
          clear he
          go_wp2
          go_quiet (fail)
          go_wp2
          go_ret
          refine ⟨ret_bool (decide_eq_false (ne_of_at hkx hky HE.out)).symm, below_drewN hnx _⟩
      · go_wp2
        go_ret
        have := HT.out
        rw [List.take_of_length_le (by omega), List.take_of_length_le (by omega)] at this
        exact ⟨ret_bool (decide_eq_true this).symm, hnx⟩
  · have hne : ¬ xs = ys := by intro e; subst e; omega
    have HN := Lib.hid hne
    clear hne hc hc2
    go_enter Tryz.func103, Tryz.ntmps103
    go_wp2
    go_ret
    exact ⟨ret_bool (decide_eq_false HN.out).symm, Below.refl _ _⟩

end Go.Proofs.YtogjbnimohakjabGreat

/-
  The contract of the program's Reached. Conditions: the automaton's lists have at most 2^20 elements.
-/
namespace Go.Proofs.YtogjbnimohakjabGreat
open Go.RowKit

set_option maxRecDepth 20000 in
set_option maxHeartbeats 6400000 in
theorem implReached_any (a : IaD) (v : Value) (w : World) (h : IaRow w a v) (f2 : a.ins.length ≤ 1048576) (f3 : a.outs.length ≤ 1048576) (f4 : a.hids.length ≤ 1048576) (f5 : a.steps.length ≤ 1048576) :
    Calls Tryz.prog 105 #[v] w (RowRes w w.heap.size (if iaOkB a then reachedOf a else [])) := by
  have CO : Hid (∀ W, Below w.heap.size w W → Calls Tryz.prog 31 #[v] W fun e w' => e = .returned (.bool (iaOkB a)) ∧ Below W.heap.size W w') := fun W hW => implIaOk_any a v W (h.below hW) f2 f3 f4 f5
  obtain ⟨i0, hi, hz0, hz1, hz2⟩ := info_parts info_int
  obtain ⟨a2, n2, c2, a3, n3, c3, a4, n4, c4, a5, n5, c5, rfl, r2, r3, r4, r5⟩ := h
  obtain ⟨st, it, ins, outs, hids, steps⟩ := a
  simp only at r2 r3 r4 r5 f2 f3 f4 f5
  have R5 := Lib.hid r5
  clear r2 r3 r4 r5 f2 f3 f4 f5
  obtain ⟨q, hq⟩ : ∃ q, q = iaOkB ⟨st, it, ins, outs, hids, steps⟩ := ⟨_, rfl⟩
  rw [← hq] at CO ⊢
  obtain ⟨L, hL⟩ : ∃ L, L = if q then reachedOf ⟨st, it, ins, outs, hids, steps⟩ else [] := ⟨_, rfl⟩
  rw [← hL]
  have HL := Lib.hid hL
  have HQ := Lib.hid hq.symm
  clear hq hL
  have B0 : Hid (∀ o, Below w.heap.size w (w.alloc o)) := fun o => (Below.refl _ _).alloc (Nat.le_refl _) _
  have V0 := Lib.hid (VarIs.new w #[.int .i64 st, .int .i64 it, .slice a2 n2 c2, .slice a3 n3 c3, .slice a4 n4 c4, .slice a5 n5 c5] 29 rfl)
  go_enter Tryz.func105, Tryz.ntmps105
  go_wp2_with fail
  refine (CO.out _ (B0.out _)).mono ?_
  rintro e w1 ⟨rfl, hb⟩
  have B1 : Hid (Below w.heap.size w w1) := (B0.out _).trans (hb.mono (B0.out _).size)
  have V1 := Lib.hid (V0.out.below hb)
  clear hb V0 CO B0
  cases q with
  | false =>
    go_wp2_with fail
    go_ret
    obtain rfl : L = [] := HL.out
    exact ⟨_, rfl, World.ownsRow_nil _ _ _ _, B1.out⟩
  | true =>
    have HLEN := Lib.hid (iaOk_len HQ.out)
    have HLOW := Lib.hid (iaOk_low HQ.out)
    have m0 := V1.out.cell (j := 0) rfl
    have m1 := V1.out.cell (j := 1) rfl
    have m2 := V1.out.cell (j := 2) rfl
    have m3 := V1.out.cell (j := 3) rfl
    have m4 := V1.out.cell (j := 4) rfl
    have m5 := V1.out.cell (j := 5) rfl
    go_wp2_with fail
    clear m0 m1 m2 m3 m4 m5
    refine (rowsOf_any st it _ _ _ a5 n5 c5 steps _ (R5.out.below B1.out) (by have h1 := HLEN.out; have h2 := R5.out.1; rw [← h2]; exact h1) HLOW.out).mono ?_
    rintro e w2 ⟨C, rfl, hC, hb⟩
    have B2 : Hid (Below w.heap.size w w2) := B1.out.trans (hb.mono B1.out.size)
    have V2 := Lib.hid (V1.out.below hb)
    have hCl : C.toList.length = 40 := by simpa using hC.1
    have HCL := Lib.hid hCl
    have HGS := grown_setCells w2.heap.size C.toList 0 (w2.alloc (.cells #[.slice none 0 0, .slice none 0 0, .slice none 0 0, .slice none 0 0, .slice none 0 0, .slice none 0 0, .slice none 0 0, .slice none 0 0, .slice none 0 0, .slice none 0 0, .slice none 0 0, .slice none 0 0, .slice none 0 0, .slice none 0 0, .slice none 0 0, .slice none 0 0, .slice none 0 0, .slice none 0 0, .slice none 0 0, .slice none 0 0, .slice none 0 0, .slice none 0 0, .slice none 0 0, .slice none 0 0, .slice none 0 0, .slice none 0 0, .slice none 0 0, .slice none 0 0, .slice none 0 0, .slice none 0 0, .slice none 0 0, .slice none 0 0, .slice none 0 0, .slice none 0 0, .slice none 0 0, .slice none 0 0, .slice none 0 0, .slice none 0 0, .slice none 0 0, .slice none 0 0] 131))
    have BW : Hid (Below w2.heap.size w2 ((w2.alloc (.cells #[.slice none 0 0, .slice none 0 0, .slice none 0 0, .slice none 0 0, .slice none 0 0, .slice none 0 0, .slice none 0 0, .slice none 0 0, .slice none 0 0, .slice none 0 0, .slice none 0 0, .slice none 0 0, .slice none 0 0, .slice none 0 0, .slice none 0 0, .slice none 0 0, .slice none 0 0, .slice none 0 0, .slice none 0 0, .slice none 0 0, .slice none 0 0, .slice none 0 0, .slice none 0 0, .slice none 0 0, .slice none 0 0, .slice none 0 0, .slice none 0 0, .slice none 0 0, .slice none 0 0, .slice none 0 0, .slice none 0 0, .slice none 0 0, .slice none 0 0, .slice none 0 0, .slice none 0 0, .slice none 0 0, .slice none 0 0, .slice none 0 0, .slice none 0 0, .slice none 0 0] 131)).setCells w2.heap.size 0 C.toList)) := ((Below.refl w2.heap.size w2).alloc (Nat.le_refl _) _).grown HGS (by simp) (fun q hq => by cases hq; exact Nat.le_refl _)
    have TH0 : (w2.alloc (.cells #[.slice none 0 0, .slice none 0 0, .slice none 0 0, .slice none 0 0, .slice none 0 0, .slice none 0 0, .slice none 0 0, .slice none 0 0, .slice none 0 0, .slice none 0 0, .slice none 0 0, .slice none 0 0, .slice none 0 0, .slice none 0 0, .slice none 0 0, .slice none 0 0, .slice none 0 0, .slice none 0 0, .slice none 0 0, .slice none 0 0, .slice none 0 0, .slice none 0 0, .slice none 0 0, .slice none 0 0, .slice none 0 0, .slice none 0 0, .slice none 0 0, .slice none 0 0, .slice none 0 0, .slice none 0 0, .slice none 0 0, .slice none 0 0, .slice none 0 0, .slice none 0 0, .slice none 0 0, .slice none 0 0, .slice none 0 0, .slice none 0 0, .slice none 0 0, .slice none 0 0] 131)).there w2.heap.size 0 40 := (VarIs.new w2 #[.slice none 0 0, .slice none 0 0, .slice none 0 0, .slice none 0 0, .slice none 0 0, .slice none 0 0, .slice none 0 0, .slice none 0 0, .slice none 0 0, .slice none 0 0, .slice none 0 0, .slice none 0 0, .slice none 0 0, .slice none 0 0, .slice none 0 0, .slice none 0 0, .slice none 0 0, .slice none 0 0, .slice none 0 0, .slice none 0 0, .slice none 0 0, .slice none 0 0, .slice none 0 0, .slice none 0 0, .slice none 0 0, .slice none 0 0, .slice none 0 0, .slice none 0 0, .slice none 0 0, .slice none 0 0, .slice none 0 0, .slice none 0 0, .slice none 0 0, .slice none 0 0, .slice none 0 0, .slice none 0 0, .slice none 0 0, .slice none 0 0, .slice none 0 0, .slice none 0 0] 131 rfl).there rfl
    have TH : Hid ((w2.alloc (.cells #[.slice none 0 0, .slice none 0 0, .slice none 0 0, .slice none 0 0, .slice none 0 0, .slice none 0 0, .slice none 0 0, .slice none 0 0, .slice none 0 0, .slice none 0 0, .slice none 0 0, .slice none 0 0, .slice none 0 0, .slice none 0 0, .slice none 0 0, .slice none 0 0, .slice none 0 0, .slice none 0 0, .slice none 0 0, .slice none 0 0, .slice none 0 0, .slice none 0 0, .slice none 0 0, .slice none 0 0, .slice none 0 0, .slice none 0 0, .slice none 0 0, .slice none 0 0, .slice none 0 0, .slice none 0 0, .slice none 0 0, .slice none 0 0, .slice none 0 0, .slice none 0 0, .slice none 0 0, .slice none 0 0, .slice none 0 0, .slice none 0 0, .slice none 0 0, .slice none 0 0] 131)).there w2.heap.size 0 C.toList.toArray.size) := by
      rw [show C.toList.toArray.size = 40 by simpa using hC.1]
      exact TH0
    have ON : Hid (C.toList.toArray.all (·.oneCell') = true) := all_oneCell_toArray (fun u hu => hC.one u (by simpa using hu))
    have RG : Hid ((((w2.alloc (.cells #[.slice none 0 0, .slice none 0 0, .slice none 0 0, .slice none 0 0, .slice none 0 0, .slice none 0 0, .slice none 0 0, .slice none 0 0, .slice none 0 0, .slice none 0 0, .slice none 0 0, .slice none 0 0, .slice none 0 0, .slice none 0 0, .slice none 0 0, .slice none 0 0, .slice none 0 0, .slice none 0 0, .slice none 0 0, .slice none 0 0, .slice none 0 0, .slice none 0 0, .slice none 0 0, .slice none 0 0, .slice none 0 0, .slice none 0 0, .slice none 0 0, .slice none 0 0, .slice none 0 0, .slice none 0 0, .slice none 0 0, .slice none 0 0, .slice none 0 0, .slice none 0 0, .slice none 0 0, .slice none 0 0, .slice none 0 0, .slice none 0 0, .slice none 0 0, .slice none 0 0] 131)).setCells w2.heap.size 0 C.toList)).rangeAt w2.heap.size 0 C.toList) := World.rangeAt_setCells_same _ w2.heap.size 0 C.toList (by rw [hCl]; exact TH0)
    have hsz : w2.heap.size < (((w2.alloc (.cells #[.slice none 0 0, .slice none 0 0, .slice none 0 0, .slice none 0 0, .slice none 0 0, .slice none 0 0, .slice none 0 0, .slice none 0 0, .slice none 0 0, .slice none 0 0, .slice none 0 0, .slice none 0 0, .slice none 0 0, .slice none 0 0, .slice none 0 0, .slice none 0 0, .slice none 0 0, .slice none 0 0, .slice none 0 0, .slice none 0 0, .slice none 0 0, .slice none 0 0, .slice none 0 0, .slice none 0 0, .slice none 0 0, .slice none 0 0, .slice none 0 0, .slice none 0 0, .slice none 0 0, .slice none 0 0, .slice none 0 0, .slice none 0 0, .slice none 0 0, .slice none 0 0, .slice none 0 0, .slice none 0 0, .slice none 0 0, .slice none 0 0, .slice none 0 0, .slice none 0 0] 131)).setCells w2.heap.size 0 C.toList)).heap.size := by
      have h1 := HGS.size
      have h2 : (w2.alloc (.cells #[.slice none 0 0, .slice none 0 0, .slice none 0 0, .slice none 0 0, .slice none 0 0, .slice none 0 0, .slice none 0 0, .slice none 0 0, .slice none 0 0, .slice none 0 0, .slice none 0 0, .slice none 0 0, .slice none 0 0, .slice none 0 0, .slice none 0 0, .slice none 0 0, .slice none 0 0, .slice none 0 0, .slice none 0 0, .slice none 0 0, .slice none 0 0, .slice none 0 0, .slice none 0 0, .slice none 0 0, .slice none 0 0, .slice none 0 0, .slice none 0 0, .slice none 0 0, .slice none 0 0, .slice none 0 0, .slice none 0 0, .slice none 0 0, .slice none 0 0, .slice none 0 0, .slice none 0 0, .slice none 0 0, .slice none 0 0, .slice none 0 0, .slice none 0 0, .slice none 0 0] 131)).heap.size = w2.heap.size + 1 := by simp
      rw [h2] at h1
      omega
    have HC2 := Lib.hid hC
    have mi := ((V2.out.below BW.out).cell (j := 1) rfl)
    have B3 : Hid (Below w.heap.size w ((w2.alloc (.cells #[.slice none 0 0, .slice none 0 0, .slice none 0 0, .slice none 0 0, .slice none 0 0, .slice none 0 0, .slice none 0 0, .slice none 0 0, .slice none 0 0, .slice none 0 0, .slice none 0 0, .slice none 0 0, .slice none 0 0, .slice none 0 0, .slice none 0 0, .slice none 0 0, .slice none 0 0, .slice none 0 0, .slice none 0 0, .slice none 0 0, .slice none 0 0, .slice none 0 0, .slice none 0 0, .slice none 0 0, .slice none 0 0, .slice none 0 0, .slice none 0 0, .slice none 0 0, .slice none 0 0, .slice none 0 0, .slice none 0 0, .slice none 0 0, .slice none 0 0, .slice none 0 0, .slice none 0 0, .slice none 0 0, .slice none 0 0, .slice none 0 0, .slice none 0 0, .slice none 0 0] 131)).setCells w2.heap.size 0 C.toList)) := B2.out.trans (BW.out.mono B2.out.size)
    clear hb hC hCl HGS TH0 V1 B1 V2
    obtain ⟨w3, hw3⟩ : ∃ w3, w3 = ((w2.alloc (.cells #[.slice none 0 0, .slice none 0 0, .slice none 0 0, .slice none 0 0, .slice none 0 0, .slice none 0 0, .slice none 0 0, .slice none 0 0, .slice none 0 0, .slice none 0 0, .slice none 0 0, .slice none 0 0, .slice none 0 0, .slice none 0 0, .slice none 0 0, .slice none 0 0, .slice none 0 0, .slice none 0 0, .slice none 0 0, .slice none 0 0, .slice none 0 0, .slice none 0 0, .slice none 0 0, .slice none 0 0, .slice none 0 0, .slice none 0 0, .slice none 0 0, .slice none 0 0, .slice none 0 0, .slice none 0 0, .slice none 0 0, .slice none 0 0, .slice none 0 0, .slice none 0 0, .slice none 0 0, .slice none 0 0, .slice none 0 0, .slice none 0 0, .slice none 0 0, .slice none 0 0] 131)).setCells w2.heap.size 0 C.toList) := ⟨_, rfl⟩
    rw [← hw3] at BW RG mi B3 hsz
    have HW3 := Lib.hid hw3
    go_wp2_with (refine wpList_store_mid rfl _ _ _ rfl w2.heap.size 0 C.toList.toArray rfl rfl TH.out (by rw [List.size_toArray, HCL.out]; kernel_rfl) ON.out ?_; simp only; rw [← hw3]; clear hw3)
    clear mi TH ON HCL HW3
    have hw23 := BW.out.size
    have G0 : Hid (Owns (w3.alloc (.cells #[.int .i64 it] 3)) w3.heap.size (.slice (some ⟨w3.heap.size, 0, none⟩) 1 1) 1 [it]) := owns_lit w3 [it] 1 rfl (by unfold maxLen; omega)
    go_loopw [4, 5] (fun fd i wr => ∃ (k g c0 len : Nat) (F : List Int), i = .int .i64 k ∧ fd = .slice (some ⟨g, 0, none⟩) len c0 ∧ k ≤ len ∧ Hid (Owns wr w3.heap.size (.slice (some ⟨g, 0, none⟩) len c0) len F) ∧ Hid (Found ⟨st, it, ins, outs, hids, steps⟩ F k) ∧ Below w3.heap.size w3 wr) (fun _ i _ => 40 - (intOf i).toNat)
    case atStart => exact ⟨0, _, 1, 1, [it], rfl, rfl, by omega, G0.out, Found.start ⟨st, it, ins, outs, hids, steps⟩, (Below.refl _ _).alloc (Nat.le_refl _) _⟩
    case round =>
      obtain ⟨k, g, c0, len, F, rfl, rfl, hk, HO, HF, hnx⟩ := hrel
      clear G0
      have hl40 : len ≤ 40 := by
        have := HF.out.len HQ.out
        rw [HO.out.length] at this
        exact this
      by_cases hlt : k < len
      · have hkF : k < F.length := by rw [HO.out.length]; exact hlt
        obtain ⟨s, hs⟩ : ∃ s, s = F[k] := ⟨_, rfl⟩
        have hsl := HF.out.low HQ.out s (by rw [hs]; exact List.getElem_mem hkF)
        obtain ⟨j, rfl⟩ : ∃ j : Nat, s = (j : Int) := ⟨s.toNat, by omega⟩
        have hj : j < 40 := by omega
        have hj' : (j : Int) < 40 := by omega
        have gF : wr.cell? ⟨g, k, none⟩ = some (.int .i64 (j : Int)) := by
          rw [HO.out.cells.2 k hlt, getD_eq F k hkF, hs]
        obtain ⟨ar, cr, hCs, hor⟩ := HC2.out.2.1 j hj
        obtain ⟨row, hrow⟩ : ∃ r, r = rowL steps (j : Int) := ⟨_, rfl⟩
        obtain ⟨m, hm⟩ : ∃ m, m = row.length := ⟨_, rfl⟩
        rw [← hrow, ← hm] at hCs hor
        have hm4 : m ≤ 400 := by
          have h1 := rowL_len steps (j : Int)
          have h2 := HLEN.out
          rw [hm, hrow]
          omega
        have gR : wr.cell? ⟨w2.heap.size, j, none⟩ = some (.slice ar m cr) := by
          have := RG.out j (.slice ar m cr) (by simpa using hCs)
          rw [Nat.zero_add] at this
          exact (hnx.cell (p := ⟨w2.heap.size, j, none⟩) hsz).trans this
        have HRW := Lib.hid ((hor.row.2.2.2).below BW.out)
        have HFK : Hid (F[k]? = some (j : Int)) := by rw [List.getElem?_eq_getElem hkF, ← hs]; rfl
        have HROW := Lib.hid hrow
        have HM := Lib.hid hm
        clear hs hsl hCs hor hrow hm
        go_wp2_with fail
        go_step3
        go_wp2_with fail
        go_step3
        go_wp2_with fail
        clear gF gR
        go_loopw [4, 31] (fun fd i wr2 => ∃ (j2 g2 d2 len2 : Nat) (F2 : List Int), i = .int .i64 j2 ∧ fd = .slice (some ⟨g2, 0, none⟩) len2 d2 ∧ j2 ≤ m ∧ Hid (Owns wr2 w3.heap.size (.slice (some ⟨g2, 0, none⟩) len2 d2) len2 F2) ∧ Hid (FoundIn ⟨st, it, ins, outs, hids, steps⟩ F k row j2 F2) ∧ Below w3.heap.size w3 wr2) (fun _ i _ => m - (intOf i).toNat)
        case atStart => exact ⟨0, g, c0, len, F, rfl, rfl, by omega, HO.out, FoundIn.start HF.out row, hnx⟩
        case round =>
          obtain ⟨j2, g2, d2, len2, F2, rfl, rfl, hj2, HO2, HF2, hnx2⟩ := hrel
          have hl2 : len2 ≤ 40 := by
            have := HF2.out.2.1.len HQ.out
            rw [HO2.out.length] at this
            exact this
          by_cases hlt2 : j2 < m
          · obtain ⟨b, off, rfl, hb, hcell⟩ := HRW.out.2 (by omega)
            have hjx : j2 < row.length := by rw [← HM.out]; exact hlt2
            obtain ⟨⟨x, y, z⟩, hx⟩ : ∃ t, t = row[j2] := ⟨_, rfl⟩
            obtain ⟨d0, d1, dd⟩ := hcell j2 row[j2] (List.getElem?_eq_getElem hjx)
            rw [← hx] at d0 d1 dd
            have e0 := (hnx2.cell (p := ⟨b, off + j2 * 3, none⟩) hb).trans d0
            have e1 := (hnx2.cell (p := ⟨b, off + j2 * 3 + 1, none⟩) hb).trans d1
            have e2 := (hnx2.cell (p := ⟨b, off + j2 * 3 + 2, none⟩) hb).trans dd
            simp only at e0 e1 e2
            have XV := Lib.hid (VarIs.new wr #[.int .i64 x, .int .i64 y, .int .i64 z] 42 rfl)
            have BX := Lib.hid (hnx2.alloc hnx2.size (.cells #[.int .i64 x, .int .i64 y, .int .i64 z] 42))
            have HO3 := Lib.hid (HO2.out.alloc (.cells #[.int .i64 x, .int .i64 y, .int .i64 z] 42))
            have HZ : Hid (row[j2].2.2 = z) := by rw [← hx]; rfl
            have HSF : Hid ((j : Int) ∈ F2) := by
              obtain ⟨E, hE⟩ := HF2.out.1
              rw [hE]
              exact List.mem_append_left _ (List.mem_of_getElem? HFK.out)
            clear d0 d1 dd hx hcell
            go_wp2_with fail
            clear e0 e1 e2
            go_loop [37] (fun i => ∃ j3 : Nat, j3 ≤ len2 ∧ i = .int .i64 j3 ∧ Hid (z ∉ F2.take j3)) (fun i => len2 - (intOf i).toNat)
            case atStart => exact ⟨0, Nat.zero_le _, rfl, by simp [Hid]⟩
            case round =>
              obtain ⟨j3, hj3, rfl, HN⟩ := hrel
              have kz := XV.out.cell (j := 2) rfl
              by_cases hlt3 : j3 < len2
              · have h3F : j3 < F2.length := by rw [HO2.out.length]; exact hlt3
                obtain ⟨kn, hkn⟩ : ∃ s, s = F2[j3] := ⟨_, rfl⟩
                have gk : (wr.alloc (.cells #[.int .i64 x, .int .i64 y, .int .i64 z] 42)).cell? ⟨g2, j3, none⟩ = some (.int .i64 kn) := by
                  rw [HO3.out.cells.2 j3 hlt3, getD_eq F2 j3 h3F, hkn]
                have HKN := Lib.hid hkn
                clear hkn
                by_cases heq : kn = z
                · have hd : (kn == z) = true := by simp [heq]
                  have HK2 : Hid (FoundIn ⟨st, it, ins, outs, hids, steps⟩ F k row (j2 + 1) F2) := HF2.out.known hjx (by rw [HZ.out, ← heq, HKN.out]; exact List.getElem_mem h3F)
                  clear heq
                  go_wp2_with fail
                  go_roundw
                  case rel => exact ⟨j2 + 1, g2, d2, len2, F2, by go_num, rfl, by omega, HO3.out, HK2.out, BX.out⟩
                  case measure => simp [intOf]; omega
                · have hd : (kn == z) = false := by simp [heq]
                  have HN2 : Hid (z ∉ F2.take (j3 + 1)) := by
                    unfold Hid
                    rw [List.take_succ_eq_append_getElem h3F, List.mem_append]
                    rintro (h | h)
                    · exact HN.out h
                    · obtain rfl := List.mem_singleton.1 h
                      exact heq HKN.out
                  have HEQ := Lib.hid heq
                  clear heq
                  go_wp2_with fail
                  go_round
                  case rel => exact ⟨j3 + 1, by omega, by go_num, HN2.out⟩
                  case measure => simp [intOf]; omega
              · have HNF : Hid (z ∉ F2) := by
                  have := HN.out
                  rw [List.take_of_length_le (by rw [HO2.out.length]; omega)] at this
                  exact this
                have HK2 : Hid (FoundIn ⟨st, it, ins, outs, hids, steps⟩ F k row (j2 + 1) (F2 ++ [z])) := by
                  have := HF2.out.fresh HQ.out (by rw [HO.out.length]; exact hk) HSF.out HROW.out hjx (by rw [HZ.out]; exact HNF.out)
                  rwa [HZ.out] at this
                have T1 := HO3.out.alloc (.cells #[.int .i64 z] 3)
                have S1 : Src ((wr.alloc (.cells #[.int .i64 x, .int .i64 y, .int .i64 z] 42)).alloc (.cells #[.int .i64 z] 3)) (some ⟨wr.heap.size + 1, 0, none⟩) 1 1 [z] := src_one (by simp)
                have b1 := hnx2.size
                go_wp2_with (at_builtin; refine wpList_app rfl (.tmp 46) (.tmp 49) rfl w3.heap.size i0 Tryz.underlying22 hi hz0 hz1 hz2 _ _ _ rfl T1 _ 1 _ [z] rfl S1 (by omega) (by simp; omega) ?_)
                rintro v4 w4 ⟨hown4, hgrow4, hnil4⟩
                have hb4 : Below w3.heap.size w3 w4 := T1.grown (BX.out.alloc BX.out.size _) hgrow4 (Nat.le_refl _) (by simp; omega)
                obtain ⟨g4, d4, rfl⟩ := hown4.head (fun e => by have := (hnil4.1 e).1; cases this)
                have HO4 := Lib.hid hown4
                clear T1 S1 hgrow4 hown4 hnil4 kz
                go_wp2_with fail
                go_roundw
                case rel => exact ⟨j2 + 1, g4, d4, len2 + 1, F2 ++ [z], by go_num, rfl, by omega, HO4.out, HK2.out, hb4⟩
                case measure => simp [intOf]; omega
          · have HD : Hid (Found ⟨st, it, ins, outs, hids, steps⟩ F2 (k + 1)) := by
              have h1 : j2 = row.length := by rw [← HM.out]; omega
              have h2 := HF2.out
              rw [h1] at h2
              exact h2.done HFK.out HROW.out
            have hkl : k + 1 ≤ len2 := by
              obtain ⟨E, hE⟩ := HF2.out.1
              have := HO2.out.length
              rw [hE, List.length_append] at this
              omega
            go_wp2_with fail
            apply_assumption
            go_wp2_with fail
            go_roundw
            case rel => exact ⟨k + 1, g2, d2, len2, F2, by go_num, rfl, hkl, HO2.out, HD.out, hnx2⟩
            case measure => simp [intOf]; omega
      · have HD : Hid ((F.mergeSort fun x y => decide (x ≤ y)) = reachedOf ⟨st, it, ins, outs, hids, steps⟩) := by
          have h1 : k = F.length := by rw [HO.out.length]; omega
          have h2 := HF.out
          rw [h1] at h2
          exact h2.done
        go_wp2_with fail
        refine (sort_at g len c0 w3.heap.size F _ HO.out (by omega)).mono ?_
        rintro e w4 ⟨rfl, ho4, hg4⟩
        have HO4 := Lib.hid ho4
        have B4 : Hid (Below w3.heap.size w3 w4) := hnx.grown hg4 hnx.size (fun q hq => by cases hq; exact (HO.out.lt g rfl).1)
        clear ho4 hg4
        go_wp2_with fail
        go_ret
        obtain rfl : L = reachedOf ⟨st, it, ins, outs, hids, steps⟩ := HL.out
        rw [← HD.out]
        have e := HO4.out.length
        have h5 : Owns w4 w3.heap.size (.slice (some ⟨g, 0, none⟩) len c0) (F.mergeSort fun x y => decide (x ≤ y)).length (F.mergeSort fun x y => decide (x ≤ y)) := by
          rw [e]
          exact HO4.out
        exact ⟨_, rfl, h5.mono B3.out.size, B3.out.trans (B4.out.mono B3.out.size)⟩

end Go.Proofs.YtogjbnimohakjabGreat

/-
  The contract of the model's Reached. Conditions: the automaton's lists have at most 2^20 elements.
-/
namespace Go.Proofs.YtogjbnimohakjabGreat
open Go.RowKit

theorem row_lit1 (W0 : World) (x : Int) (g : Nat) (hg : g = W0.heap.size) : Row (W0.alloc (.cells #[.int .i64 x] 3)) (some ⟨g, 0, none⟩) 1 [x] := by
  subst hg
  exact (owns_lit W0 [x] 1 rfl (by unfold maxLen; omega)).row.2.2.2

end Go.Proofs.YtogjbnimohakjabGreat

/-
  The contract of the program's Clashes. Conditions: the lists have at most 2^20 elements.
-/
namespace Go.Proofs.YtogjbnimohakjabGreat
open Go.RowKit

theorem allP_done (C : Int → Int → Bool) (m k : Nat) : allP (doneS C m k 0) m k = allP C m k :=
  allP_congr (fun p q hp hq => by
    unfold doneS
    rw [decide_eq_true (p := (0 ≤ (p : Int) ∧ (p : Int) < (k : Int) ∧ 0 ≤ (q : Int) ∧ (q : Int) < (m : Int))) (by omega)]
    simp)

set_option maxRecDepth 20000 in
set_option maxHeartbeats 3200000 in
theorem implClashes_any (a b : IaD) (v u : Value) (w : World) (h : IaRow w a v) (k : IaRow w b u) (fa : Small a) (fb : Small b) :
    Calls Tryz.prog 30 #[v, u] w (RowRes w w.heap.size (clashesOf a b)) := by
  have CF : Hid (∀ W, Below w.heap.size w W → Calls Tryz.prog 69 #[v, u] W fun e w' => e = .returned (.bool (fitB a b)) ∧ Below W.heap.size W w') := fun W hW => implFit_any a b v u W (h.below hW) (k.below hW) fa fb
  have CP0 : Hid (iaOkB a = true → iaOkB b = true → ∀ W, Below w.heap.size w W → Calls Tryz.prog 89 #[v, u] W fun e w' => ∃ M n, e = .returned (.map (some M)) ∧ MapB w' M n (doneS (clashB a b) b.states.toNat a.states.toNat 0) ∧ W.heap.size ≤ M ∧ n ≤ 1600 ∧ Below W.heap.size W w') := fun h1 h2 W hW => clashingPairs_any a b v u W (h.below hW) (k.below hW) fa fb h1 h2
  obtain ⟨q, hq⟩ : ∃ q, q = fitB a b := ⟨_, rfl⟩
  have HOK : Hid (q = true → iaOkB a = true ∧ iaOkB b = true ∧ a.states * b.states ≤ 40) := fun e => fitB_ok (by rw [← hq]; exact e)
  obtain ⟨C, hC⟩ : ∃ C, C = clashB a b := ⟨_, rfl⟩
  obtain ⟨R, hR⟩ : ∃ R, R = clashesOf a b := ⟨_, rfl⟩
  have HR : Hid (R = if q then (allP C b.states.toNat a.states.toNat).map (stOf b.states) else []) := by unfold Hid; rw [hR, hC, hq]; rfl
  rw [← hR]
  rw [← hC] at CP0
  rw [← hq] at CF
  clear hq hC hR
  obtain ⟨a2, n2, c2, a3, n3, c3, a4, n4, c4, a5, n5, c5, rfl, r2, r3, r4, r5⟩ := h
  obtain ⟨b2, m2, d2, b3, m3, d3, b4, m4, d4, b5, m5, d5, rfl, q2, q3, q4, q5⟩ := k
  obtain ⟨st, it, ins, outs, hids, steps⟩ := a
  obtain ⟨su, iu, jns, juts, jids, jteps⟩ := b
  obtain ⟨f2, f3, f4, f5⟩ := fa
  obtain ⟨g2, g3, g4, g5⟩ := fb
  simp only at r2 r3 r4 r5 q2 q3 q4 q5 f2 f3 f4 f5 g2 g3 g4 g5
  have HA : Hid (∀ W, Below w.heap.size w W → IaRow W ⟨st, it, ins, outs, hids, steps⟩ (.agg #[.int .i64 st, .int .i64 it, .slice a2 n2 c2, .slice a3 n3 c3, .slice a4 n4 c4, .slice a5 n5 c5])) := fun W hW => IaRow.below ⟨a2, n2, c2, a3, n3, c3, a4, n4, c4, a5, n5, c5, rfl, r2, r3, r4, r5⟩ hW
  have HB : Hid (∀ W, Below w.heap.size w W → IaRow W ⟨su, iu, jns, juts, jids, jteps⟩ (.agg #[.int .i64 su, .int .i64 iu, .slice b2 m2 d2, .slice b3 m3 d3, .slice b4 m4 d4, .slice b5 m5 d5])) := fun W hW => IaRow.below ⟨b2, m2, d2, b3, m3, d3, b4, m4, d4, b5, m5, d5, rfl, q2, q3, q4, q5⟩ hW
  have S0 := Lib.hid (Box2.start w (iaC st it a2 n2 c2 a3 n3 c3 a4 n4 c4 a5 n5 c5) (iaC su iu b2 m2 d2 b3 m3 d3 b4 m4 d4 b5 m5 d5) 29)
  clear HA HB r2 r3 r4 r5 q2 q3 q4 q5 f2 f3 f4 f5 g2 g3 g4 g5
  simp only at HOK HR CP0
  have ca0 := S0.out.2.1.cell (j := 0) (u := .int .i64 st) rfl
  have ca1 := S0.out.2.1.cell (j := 1) (u := .int .i64 it) rfl
  have ca2 := S0.out.2.1.cell (j := 2) (u := .slice a2 n2 c2) rfl
  have ca3 := S0.out.2.1.cell (j := 3) (u := .slice a3 n3 c3) rfl
  have ca4 := S0.out.2.1.cell (j := 4) (u := .slice a4 n4 c4) rfl
  have ca5 := S0.out.2.1.cell (j := 5) (u := .slice a5 n5 c5) rfl
  have cb0 := S0.out.2.2.cell (j := 0) (u := .int .i64 su) rfl
  have cb1 := S0.out.2.2.cell (j := 1) (u := .int .i64 iu) rfl
  have cb2 := S0.out.2.2.cell (j := 2) (u := .slice b2 m2 d2) rfl
  have cb3 := S0.out.2.2.cell (j := 3) (u := .slice b3 m3 d3) rfl
  have cb4 := S0.out.2.2.cell (j := 4) (u := .slice b4 m4 d4) rfl
  have cb5 := S0.out.2.2.cell (j := 5) (u := .slice b5 m5 d5) rfl
  go_enter Tryz.func30, Tryz.ntmps30
  go_wp2_with fail
  clear ca0 ca1 ca2 ca3 ca4 ca5 cb0 cb1 cb2 cb3 cb4 cb5
  refine (CF.out _ S0.out.1).mono ?_
  rintro e w1 ⟨rfl, hb⟩
  have S1 := Lib.hid (S0.out.below hb)
  clear hb S0
  cases q with
  | false =>
    have HE : Hid (R = []) := by rw [HR.out]; rfl
    go_wp2_with fail
    go_ret
    rw [HE.out]
    exact ⟨_, rfl, World.ownsRow_nil _ _ _ _, S1.out.1⟩
  | true =>
    have hok := HOK.out rfl
    have hsA := iaOk_states hok.1
    have hsB := iaOk_states hok.2.1
    simp only at hsA hsB
    have HE : Hid (R = (allP C su.toNat st.toNat).map (stOf su)) := HR.out
    have CP := Lib.hid (CP0.out hok.1 hok.2.1)
    have CI : Hid (∀ W M n, MapB W M n (doneS C su.toNat st.toNat 0) → Below w.heap.size w W → Calls Tryz.prog 88 #[.agg #[.int .i64 st, .int .i64 it, .slice a2 n2 c2, .slice a3 n3 c3, .slice a4 n4 c4, .slice a5 n5 c5], .agg #[.int .i64 su, .int .i64 iu, .slice b2 m2 d2, .slice b3 m3 d3, .slice b4 m4 d4, .slice b5 m5 d5], .map (some M)] W (RowRes W W.heap.size R)) := fun W M n hM _ => by
      have := inOrder_any st it (.slice a2 n2 c2) (.slice a3 n3 c3) (.slice a4 n4 c4) (.slice a5 n5 c5) su iu (.slice b2 m2 d2) (.slice b3 m3 d3) (.slice b4 m4 d4) (.slice b5 m5 d5) M n _ W hM (by omega) (by omega)
      rw [allP_done, ← HE.out] at this
      exact this
    clear HR CF CP0 HOK hok HE
    go_wp2_with fail
    have SD := S1.out.drew
    clear S1
    refine wp_region_held_drew (S := fun w' => Box2 w w' w.heap.size (w.heap.size + 1) 29 (iaC st it a2 n2 c2 a3 n3 c3 a4 n4 c4 a5 n5 c5) (iaC su iu b2 m2 d2 b3 m3 d3 b4 m4 d4 b5 m5 d5)) (by kernel_rfl) SD (fun hHeld => ?_)
    change wpAnyH _ _ _ _ _ 7 (Array.replicate 7 false) _ _
    refine take_yields 0 9 (.agg #[.int .i64 st, .int .i64 it, .slice a2 n2 c2, .slice a3 n3 c3, .slice a4 n4 c4, .slice a5 n5 c5]) (fuel := 6) rfl rfl (by kernel_rfl) (by kernel_rfl) (by kernel_rfl) (fun _ _ _ h => h) (yieldsIf_load_mid (by rfl) _ _ rfl (w.heap.size) 0 rfl (iaC st it a2 n2 c2 a3 n3 c3 a4 n4 c4 a5 n5 c5).toList _ (fun w hw => hw.2.1.range) Tryz.underlying29 rfl (by kernel_rfl)) hHeld ?_
    simp only [Act.put, List.setIfInBounds_toArray, List.set_cons_zero, List.set_cons_succ]
    refine take_yields 1 10 (.agg #[.int .i64 su, .int .i64 iu, .slice b2 m2 d2, .slice b3 m3 d3, .slice b4 m4 d4, .slice b5 m5 d5]) (fuel := 5) rfl rfl (by kernel_rfl) (by kernel_rfl) (by kernel_rfl) (fun _ _ _ h => h) (yieldsIf_load_mid (by rfl) _ _ rfl (w.heap.size + 1) 0 rfl (iaC su iu b2 m2 d2 b3 m3 d3 b4 m4 d4 b5 m5 d5).toList _ (fun w hw => hw.2.2.range) Tryz.underlying29 rfl (by kernel_rfl)) hHeld ?_
    simp only [Act.put, List.setIfInBounds_toArray, List.set_cons_zero, List.set_cons_succ]
    refine take_yields 2 11 (.agg #[.int .i64 st, .int .i64 it, .slice a2 n2 c2, .slice a3 n3 c3, .slice a4 n4 c4, .slice a5 n5 c5]) (fuel := 4) rfl rfl (by kernel_rfl) (by kernel_rfl) (by kernel_rfl) (fun _ _ _ h => h) (yieldsIf_load_mid (by rfl) _ _ rfl (w.heap.size) 0 rfl (iaC st it a2 n2 c2 a3 n3 c3 a4 n4 c4 a5 n5 c5).toList _ (fun w hw => hw.2.1.range) Tryz.underlying29 rfl (by kernel_rfl)) hHeld ?_
    simp only [Act.put, List.setIfInBounds_toArray, List.set_cons_zero, List.set_cons_succ]
    refine take_yields 3 12 (.agg #[.int .i64 su, .int .i64 iu, .slice b2 m2 d2, .slice b3 m3 d3, .slice b4 m4 d4, .slice b5 m5 d5]) (fuel := 3) rfl rfl (by kernel_rfl) (by kernel_rfl) (by kernel_rfl) (fun _ _ _ h => h) (yieldsIf_load_mid (by rfl) _ _ rfl (w.heap.size + 1) 0 rfl (iaC su iu b2 m2 d2 b3 m3 d3 b4 m4 d4 b5 m5 d5).toList _ (fun w hw => hw.2.2.range) Tryz.underlying29 rfl (by kernel_rfl)) hHeld ?_
    simp only [Act.put, List.setIfInBounds_toArray, List.set_cons_zero, List.set_cons_succ]
    refine wpAnyH_ready (rs := [4]) (fuel := 2) (by kernel_rfl) (by simp) ?_
    refine AllReadyH.cons rfl (fun K hK => ?_) AllReadyH.nil
    go_simp
    refine (CP.out _ hHeld.1).mono ?_
    rintro e w2 ⟨M, n, rfl, hm, hM, hn, hb⟩
    have HM := Lib.hid hm
    have hS2 := hHeld.below hb
    clear hm hb
    go_wp2_with fail
    refine hK.out _ _ hS2 (fun hHeld => ?_)
    clear hK K
    refine wpAnyH_ready (rs := [5]) (fuel := 1) (by kernel_rfl) (by simp) ?_
    refine AllReadyH.cons rfl (fun K hK => ?_) AllReadyH.nil
    go_simp
    refine (CI.out _ M n HM.out hHeld.1).mono ?_
    rintro e w3 ⟨v3, rfl, ho, hb⟩
    have HO := Lib.hid (ho.mono (base := w.heap.size) hHeld.1.size)
    have hS3 := hHeld.below hb
    clear ho hb
    go_wp2_with fail
    refine hK.out _ _ hS3 (fun hHeld => ?_)
    clear hK K
    refine take_op 6 4 (v3) (fuel := 0) rfl rfl (by kernel_rfl) (by kernel_rfl) (by kernel_rfl) (fun _ _ _ h => h) (by rfl) (fun w hSw => by go_simp) hHeld ?_
    simp only [Act.put, List.setIfInBounds_toArray, List.set_cons_zero, List.set_cons_succ]
    refine wpAnyH_done (by kernel_rfl) ?_ _

    go_wp2_with fail
    go_ret
    exact ⟨_, rfl, HO.out, hHeld.1⟩

end Go.Proofs.YtogjbnimohakjabGreat

/-
  The contract of the model's Clashes. Conditions: the lists have at most 2^20 elements.
-/
namespace Go.Proofs.YtogjbnimohakjabGreat
open Go.RowKit

theorem rowP_no {S : Int → Int → Bool} {p j : Nat} (h : S p j = false) : rowP S p (j + 1) = rowP S p j := by
  show rowP S p j ++ _ = _
  rw [h]
  simp

theorem rowP_yes {S : Int → Int → Bool} {p j : Nat} (h : S p j = true) : rowP S p (j + 1) = rowP S p j ++ [((p : Int), (j : Int))] := by
  show rowP S p j ++ _ = _
  rw [h]
  simp

set_option maxRecDepth 20000 in
set_option maxHeartbeats 6400000 in
theorem specClashes_any (a b : IaD) (v u : Value) (w : World) (h : IaRow w a v) (k : IaRow w b u) (fa : Small a) (fb : Small b) :
    Calls Tryz.prog 102 #[v, u] w (OwnRes w w.heap.size (clashesOf a b)) := by
  have CSH0 : Hid (∀ W, Below w.heap.size w W → Calls Tryz.prog 80 #[v, u] W (OwnRes W W.heap.size (sharedOf a b))) := fun W hW => specShared_any a b v u W (h.below hW) (k.below hW) fa fb
  have CF : Hid (∀ W, Below w.heap.size w W → Calls Tryz.prog 79 #[v, u] W fun e w' => e = .returned (.bool (fitB a b)) ∧ Below W.heap.size W w') := fun W hW => specFit_any a b v u W (h.below hW) (k.below hW) fa fb
  obtain ⟨q, hq⟩ : ∃ q, q = fitB a b := ⟨_, rfl⟩
  obtain ⟨sh, hsh⟩ : ∃ l, l = sharedOf a b := ⟨_, rfl⟩
  obtain ⟨R, hR⟩ : ∃ l, l = clashesOf a b := ⟨_, rfl⟩
  have HOK : Hid (q = true → iaOkB a = true ∧ iaOkB b = true ∧ a.states * b.states ≤ 40) := fun e => fitB_ok (by rw [← hq]; exact e)
  have HSH : Hid (q = true → sh = shOf a b) := fun e => by rw [hsh]; unfold sharedOf; rw [← hq, e]; rfl
  have HSL : Hid (sh.length ≤ 2097152) := by
    have h1 := sh_len a b
    obtain ⟨h2, h3, _⟩ := fa
    unfold Hid
    rw [hsh]
    unfold sharedOf
    split
    · omega
    · simp
  have HR : Hid (R = if q then (allP (clashB a b) b.states.toNat a.states.toNat).map (stOf b.states) else []) := by unfold Hid; rw [hR, hq]; rfl
  rw [← hR]
  rw [← hsh] at CSH0
  rw [← hq] at CF
  clear hq hsh hR
  obtain ⟨a2, n2, c2, a3, n3, c3, a4, n4, c4, a5, n5, c5, rfl, r2, r3, r4, r5⟩ := h
  obtain ⟨b2, m2, d2, b3, m3, d3, b4, m4, d4, b5, m5, d5, rfl, q2, q3, q4, q5⟩ := k
  obtain ⟨st, it, ins, outs, hids, steps⟩ := a
  obtain ⟨su, iu, jns, juts, jids, jteps⟩ := b
  obtain ⟨f2, f3, f4, f5⟩ := fa
  obtain ⟨g2, g3, g4, g5⟩ := fb
  simp only at r2 r3 r4 r5 q2 q3 q4 q5 f2 f3 f4 f5 g2 g3 g4 g5
  have HA : Hid (∀ W, Below w.heap.size w W → IaRow W ⟨st, it, ins, outs, hids, steps⟩ (.agg #[.int .i64 st, .int .i64 it, .slice a2 n2 c2, .slice a3 n3 c3, .slice a4 n4 c4, .slice a5 n5 c5])) := fun W hW => IaRow.below ⟨a2, n2, c2, a3, n3, c3, a4, n4, c4, a5, n5, c5, rfl, r2, r3, r4, r5⟩ hW
  have HB : Hid (∀ W, Below w.heap.size w W → IaRow W ⟨su, iu, jns, juts, jids, jteps⟩ (.agg #[.int .i64 su, .int .i64 iu, .slice b2 m2 d2, .slice b3 m3 d3, .slice b4 m4 d4, .slice b5 m5 d5])) := fun W hW => IaRow.below ⟨b2, m2, d2, b3, m3, d3, b4, m4, d4, b5, m5, d5, rfl, q2, q3, q4, q5⟩ hW
  have S0 := Lib.hid (Box2.start w (iaC st it a2 n2 c2 a3 n3 c3 a4 n4 c4 a5 n5 c5) (iaC su iu b2 m2 d2 b3 m3 d3 b4 m4 d4 b5 m5 d5) 29)
  have e2 := r2.1
  have e3 := r3.1
  have e4 := r4.1
  have k2 := q2.1
  have k3 := q3.1
  have k4 := q4.1
  rw [e2] at f2
  rw [e3] at f3
  rw [e4] at f4
  rw [k2] at g2
  rw [k3] at g3
  rw [k4] at g4
  have R2 := Lib.hid r2
  have R3 := Lib.hid r3
  have R4 := Lib.hid r4
  have R5 := Lib.hid r5
  have Q2 := Lib.hid q2
  have Q3 := Lib.hid q3
  have Q4 := Lib.hid q4
  have Q5 := Lib.hid q5
  clear r2 r3 r4 r5 q2 q3 q4 q5
  clear HA HB
  simp only at HOK HSH HSL HR
  obtain ⟨C, hC⟩ : ∃ C, C = clashB ⟨st, it, ins, outs, hids, steps⟩ ⟨su, iu, jns, juts, jids, jteps⟩ := ⟨_, rfl⟩
  have HC : Hid (q = true → ∀ p q, C p q = (tellB sh (ofL steps p outs) (ofL jteps q jns) || tellB sh (ofL jteps q juts) (ofL steps p ins))) := fun e p q => by rw [hC, HSH.out e]; rfl
  rw [← hC] at HR
  clear hC HSH
  obtain ⟨nA, hnA⟩ : ∃ n : Nat, n = st.toNat := ⟨_, rfl⟩
  obtain ⟨nB, hnB⟩ : ∃ n : Nat, n = su.toNat := ⟨_, rfl⟩
  rw [← hnA, ← hnB] at HR
  have HNA := Lib.hid hnA
  have HNB := Lib.hid hnB
  clear hnA hnB
  obtain ⟨ns, hns⟩ : ∃ n, n = sh.length := ⟨_, rfl⟩
  have CSH : Hid (∀ W, Below w.heap.size w W → Calls Tryz.prog 80 #[.agg #[.int .i64 st, .int .i64 it, .slice a2 n2 c2, .slice a3 n3 c3, .slice a4 n4 c4, .slice a5 n5 c5], .agg #[.int .i64 su, .int .i64 iu, .slice b2 m2 d2, .slice b3 m3 d3, .slice b4 m4 d4, .slice b5 m5 d5]] W fun e w' => ∃ g c, e = .returned (.slice (some ⟨g, 0, none⟩) ns c) ∧ Owns w' W.heap.size (.slice (some ⟨g, 0, none⟩) ns c) ns sh ∧ Below W.heap.size W w') := by rw [hns]; exact CSH0
  have hns2 : ns ≤ 2097152 := by rw [hns]; exact HSL.out
  clear hns CSH0 HSL
  obtain ⟨i0, hi, hz0, hz1, hz2⟩ := info_parts info_int
  have S1 := Lib.hid (S0.out.alloc (.cells #[] 3))
  have O1 : Hid (Owns (((w.alloc (.cells #[.int .i64 st, .int .i64 it, .slice a2 n2 c2, .slice a3 n3 c3, .slice a4 n4 c4, .slice a5 n5 c5] 29)).alloc (.cells #[.int .i64 su, .int .i64 iu, .slice b2 m2 d2, .slice b3 m3 d3, .slice b4 m4 d4, .slice b5 m5 d5] 29)).alloc (.cells #[] 3)) w.heap.size (.slice (some ⟨w.heap.size + 2, 0, none⟩) 0 0) 0 []) := by
    have := (owns_lit ((w.alloc (.cells #[.int .i64 st, .int .i64 it, .slice a2 n2 c2, .slice a3 n3 c3, .slice a4 n4 c4, .slice a5 n5 c5] 29)).alloc (.cells #[.int .i64 su, .int .i64 iu, .slice b2 m2 d2, .slice b3 m3 d3, .slice b4 m4 d4, .slice b5 m5 d5] 29)) [] 0 rfl (by unfold maxLen; omega)).mono (base := w.heap.size) (by simp; omega)
    simpa [Hid] using this
  clear S0
  have ca0 := S1.out.2.1.cell (j := 0) (u := .int .i64 st) rfl
  have ca1 := S1.out.2.1.cell (j := 1) (u := .int .i64 it) rfl
  have ca2 := S1.out.2.1.cell (j := 2) (u := .slice a2 n2 c2) rfl
  have ca3 := S1.out.2.1.cell (j := 3) (u := .slice a3 n3 c3) rfl
  have ca4 := S1.out.2.1.cell (j := 4) (u := .slice a4 n4 c4) rfl
  have ca5 := S1.out.2.1.cell (j := 5) (u := .slice a5 n5 c5) rfl
  have cb0 := S1.out.2.2.cell (j := 0) (u := .int .i64 su) rfl
  have cb1 := S1.out.2.2.cell (j := 1) (u := .int .i64 iu) rfl
  have cb2 := S1.out.2.2.cell (j := 2) (u := .slice b2 m2 d2) rfl
  have cb3 := S1.out.2.2.cell (j := 3) (u := .slice b3 m3 d3) rfl
  have cb4 := S1.out.2.2.cell (j := 4) (u := .slice b4 m4 d4) rfl
  have cb5 := S1.out.2.2.cell (j := 5) (u := .slice b5 m5 d5) rfl

  go_enter Tryz.func102, Tryz.ntmps102
  go_wp2_with fail
  clear ca0 cb0 ca1 cb1 ca2 cb2 ca3 cb3 ca4 cb4 ca5 cb5
  refine (CSH.out _ S1.out.1).mono ?_
  rintro e w1 ⟨gs, cs, rfl, ho, hb⟩
  have S2 := Lib.hid (S1.out.below hb)
  have O2 : Hid (OutB w1 w1.heap.size w.heap.size (.slice (some ⟨w.heap.size + 2, 0, none⟩) 0 0) 0 []) := OutB.start (O1.out.below hb)
  have PSH := Lib.hid ho.row.2.2.2
  have hs2 := S2.out.1.size
  clear ho hb S1 O1 CSH
  go_wp2_with fail
  go_loopw [5, 7] (fun out pv wr => ∃ (k go co len : Nat) (O : List Int), k ≤ nA ∧ out = .slice (some ⟨go, 0, none⟩) len co ∧ pv = .int .i64 (k : Int) ∧ Hid (OutB wr w1.heap.size w.heap.size (.slice (some ⟨go, 0, none⟩) len co) len O) ∧ Hid (O = (allP C nB k).map (stOf su)) ∧ Hid (Below w1.heap.size w1 wr) ∧ Hid (0 < k → q = true)) (fun _ pv _ => nA - (intOf pv).toNat)
  case atStart => exact ⟨0, _, 0, 0, [], Nat.zero_le _, rfl, rfl, O2.out, rfl, Below.refl _ _, fun h => absurd h (by omega)⟩
  case round =>
    obtain ⟨k, go, co, len, O, hk, rfl, rfl, HO, HT, HB, HQ⟩ := hrel
    clear O2
    by_cases hlt : (k : Int) < st
    · have ca0 := (S2.out.below HB.out).2.1.cell (j := 0) (u := .int .i64 st) rfl
      have ca1 := (S2.out.below HB.out).2.1.cell (j := 1) (u := .int .i64 it) rfl
      have ca2 := (S2.out.below HB.out).2.1.cell (j := 2) (u := .slice a2 n2 c2) rfl
      have ca3 := (S2.out.below HB.out).2.1.cell (j := 3) (u := .slice a3 n3 c3) rfl
      have ca4 := (S2.out.below HB.out).2.1.cell (j := 4) (u := .slice a4 n4 c4) rfl
      have ca5 := (S2.out.below HB.out).2.1.cell (j := 5) (u := .slice a5 n5 c5) rfl
      have cb0 := (S2.out.below HB.out).2.2.cell (j := 0) (u := .int .i64 su) rfl
      have cb1 := (S2.out.below HB.out).2.2.cell (j := 1) (u := .int .i64 iu) rfl
      have cb2 := (S2.out.below HB.out).2.2.cell (j := 2) (u := .slice b2 m2 d2) rfl
      have cb3 := (S2.out.below HB.out).2.2.cell (j := 3) (u := .slice b3 m3 d3) rfl
      have cb4 := (S2.out.below HB.out).2.2.cell (j := 4) (u := .slice b4 m4 d4) rfl
      have cb5 := (S2.out.below HB.out).2.2.cell (j := 5) (u := .slice b5 m5 d5) rfl
      go_wp2_with fail
      clear ca0 cb0 ca1 cb1 ca2 cb2 ca3 cb3 ca4 cb4 ca5 cb5
      refine (CF.out _ (S2.out.below HB.out).1).mono ?_
      rintro e wa ⟨rfl, hba⟩
      have BA := Lib.hid (HB.out.trans (hba.mono HB.out.size))
      have OA := Lib.hid (HO.out.below hba)
      clear hba HB HO
      cases q with
      | false =>
        obtain rfl : R = [] := HR.out
        have hk0 : k = 0 := by
          apply Classical.byContradiction
          intro hne
          have := HQ.out (by omega)
          cases this
        have HO0 : Hid (O = []) := by rw [HT.out, hk0]; rfl
        go_wp2_with fail
        go_ret
        have e := OA.out.1.length
        rw [HO0.out] at e
        obtain rfl : len = 0 := by simpa using e.symm
        have := OA.out.1
        rw [HO0.out] at this
        exact ⟨_, _, rfl, this, S2.out.1.trans (BA.out.mono hs2)⟩
      | true =>
        have hsA := iaOk_states (HOK.out (by simp)).1
        have hsB := iaOk_states (HOK.out (by simp)).2.1
        have lA := iaOk_len (HOK.out (by simp)).1
        have lB := iaOk_len (HOK.out (by simp)).2.1
        simp only at hsA hsB lA lB
        have hkn : k < nA := by have h1 := HNA.out; omega
        have hA40 : nA ≤ 40 := by have h1 := HNA.out; omega
        have hB40 : nB ≤ 40 := by have h1 := HNB.out; omega
        obtain ⟨P1, hP1⟩ : ∃ l, l = ofL steps (k : Int) outs := ⟨_, rfl⟩
        obtain ⟨P4, hP4⟩ : ∃ l, l = ofL steps (k : Int) ins := ⟨_, rfl⟩
        obtain ⟨l1, hl1⟩ : ∃ n, n = P1.length := ⟨_, rfl⟩
        obtain ⟨l4, hl4⟩ : ∃ n, n = P4.length := ⟨_, rfl⟩
        have hl1b : l1 ≤ 400 := by rw [hl1, hP1]; exact Nat.le_trans (ofL_len _ _ _) lA
        have hl4b : l4 ≤ 400 := by rw [hl4, hP4]; exact Nat.le_trans (ofL_len _ _ _) lA
        have C1 : Hid (∀ W, Below w.heap.size w W → Calls Tryz.prog 150 #[.agg #[.int .i64 st, .int .i64 it, .slice a2 n2 c2, .slice a3 n3 c3, .slice a4 n4 c4, .slice a5 n5 c5], .int .i64 (k : Int), .slice a3 n3 c3] W fun e w' => ∃ g c, e = .returned (.slice (some ⟨g, 0, none⟩) l1 c) ∧ Owns w' W.heap.size (.slice (some ⟨g, 0, none⟩) l1 c) l1 P1 ∧ Below W.heap.size W w') := fun W hW => by
          rw [hl1, hP1]
          exact of_any st it k _ _ _ a5 n5 c5 steps a3 n3 c3 outs W (R5.out.below hW) (by have h1 := R5.out.1; omega) (R3.out.below hW) (by omega)
        have C4 : Hid (∀ W, Below w.heap.size w W → Calls Tryz.prog 150 #[.agg #[.int .i64 st, .int .i64 it, .slice a2 n2 c2, .slice a3 n3 c3, .slice a4 n4 c4, .slice a5 n5 c5], .int .i64 (k : Int), .slice a2 n2 c2] W fun e w' => ∃ g c, e = .returned (.slice (some ⟨g, 0, none⟩) l4 c) ∧ Owns w' W.heap.size (.slice (some ⟨g, 0, none⟩) l4 c) l4 P4 ∧ Below W.heap.size W w') := fun W hW => by
          rw [hl4, hP4]
          exact of_any st it k _ _ _ a5 n5 c5 steps a2 n2 c2 ins W (R5.out.below hW) (by have h1 := R5.out.1; omega) (R2.out.below hW) (by omega)
        have HP1 := Lib.hid hP1
        have HP4 := Lib.hid hP4
        obtain ⟨M1, hM1⟩ : ∃ l, l = meetOf P1 sh := ⟨_, rfl⟩
        obtain ⟨lm1, hlm1⟩ : ∃ n, n = M1.length := ⟨_, rfl⟩
        have hlm1b : lm1 ≤ 400 := by rw [hlm1, hM1]; have := meet_len P1 sh; omega
        have HM1 := Lib.hid hM1
        have HLM1 := Lib.hid hlm1
        clear hl1 hl4 hP1 hP4 hM1 hlm1
        go_wp2_with fail
        go_loopw [5, 8] (fun out qv wr2 => ∃ (j go co len : Nat) (O : List Int), j ≤ nB ∧ out = .slice (some ⟨go, 0, none⟩) len co ∧ qv = .int .i64 (j : Int) ∧ Hid (OutB wr2 w1.heap.size w.heap.size (.slice (some ⟨go, 0, none⟩) len co) len O) ∧ Hid (O = (allP C nB k ++ rowP C k j).map (stOf su)) ∧ Hid (Below w1.heap.size w1 wr2)) (fun _ qv _ => nB - (intOf qv).toNat)
        case atStart => exact ⟨0, go, co, len, O, Nat.zero_le _, rfl, rfl, OA.out, by unfold Hid; rw [HT.out]; simp [rowP], BA.out⟩
        case round =>
          clear HT OA BA
          obtain ⟨j, go, co, len, O, hj, rfl, rfl, HO, HT, HB⟩ := hrel
          by_cases hltj : (j : Int) < su
          · have hjn : j < nB := by have h1 := HNB.out; omega
            obtain ⟨P2, hP2⟩ : ∃ l, l = ofL jteps (j : Int) juts := ⟨_, rfl⟩
            obtain ⟨P3, hP3⟩ : ∃ l, l = ofL jteps (j : Int) jns := ⟨_, rfl⟩
            obtain ⟨l2, hl2⟩ : ∃ n, n = P2.length := ⟨_, rfl⟩
            obtain ⟨l3, hl3⟩ : ∃ n, n = P3.length := ⟨_, rfl⟩
            have hl2b : l2 ≤ 400 := by rw [hl2, hP2]; exact Nat.le_trans (ofL_len _ _ _) lB
            have hl3b : l3 ≤ 400 := by rw [hl3, hP3]; exact Nat.le_trans (ofL_len _ _ _) lB
            have C2 : Hid (∀ W, Below w.heap.size w W → Calls Tryz.prog 150 #[.agg #[.int .i64 su, .int .i64 iu, .slice b2 m2 d2, .slice b3 m3 d3, .slice b4 m4 d4, .slice b5 m5 d5], .int .i64 (j : Int), .slice b3 m3 d3] W fun e w' => ∃ g c, e = .returned (.slice (some ⟨g, 0, none⟩) l2 c) ∧ Owns w' W.heap.size (.slice (some ⟨g, 0, none⟩) l2 c) l2 P2 ∧ Below W.heap.size W w') := fun W hW => by
              rw [hl2, hP2]
              exact of_any su iu j _ _ _ b5 m5 d5 jteps b3 m3 d3 juts W (Q5.out.below hW) (by have h1 := Q5.out.1; omega) (Q3.out.below hW) (by omega)
            have C3 : Hid (∀ W, Below w.heap.size w W → Calls Tryz.prog 150 #[.agg #[.int .i64 su, .int .i64 iu, .slice b2 m2 d2, .slice b3 m3 d3, .slice b4 m4 d4, .slice b5 m5 d5], .int .i64 (j : Int), .slice b2 m2 d2] W fun e w' => ∃ g c, e = .returned (.slice (some ⟨g, 0, none⟩) l3 c) ∧ Owns w' W.heap.size (.slice (some ⟨g, 0, none⟩) l3 c) l3 P3 ∧ Below W.heap.size W w') := fun W hW => by
              rw [hl3, hP3]
              exact of_any su iu j _ _ _ b5 m5 d5 jteps b2 m2 d2 jns W (Q5.out.below hW) (by have h1 := Q5.out.1; omega) (Q2.out.below hW) (by omega)
            obtain ⟨M2, hM2⟩ : ∃ l, l = meetOf P2 sh := ⟨_, rfl⟩
            obtain ⟨lm2, hlm2⟩ : ∃ n, n = M2.length := ⟨_, rfl⟩
            have hlm2b : lm2 ≤ 400 := by rw [hlm2, hM2]; have := meet_len P2 sh; omega
            obtain ⟨x1, hx1⟩ : ∃ x, x = inB M1 P3 := ⟨_, rfl⟩
            obtain ⟨x2, hx2⟩ : ∃ x, x = inB M2 P4 := ⟨_, rfl⟩
            have HCC : Hid (C k j = (!x1 || !x2)) := by
              unfold Hid
              rw [HC.out (by simp), hx1, hx2, HM1.out, hM2, tell_in, tell_in, HP1.out, HP4.out, hP2, hP3]
            have CM1 : Hid (∀ W g c gt ct, Row W (some g) l1 P1 → Row W (some gt) ns sh → Calls Tryz.prog 99 #[.slice (some g) l1 c, .slice (some gt) ns ct] W fun e w' => ∃ g c, e = .returned (.slice (some ⟨g, 0, none⟩) lm1 c) ∧ Owns w' W.heap.size (.slice (some ⟨g, 0, none⟩) lm1 c) lm1 M1 ∧ Below W.heap.size W w') := fun W g c gt ct h1 h2 => by
              rw [HLM1.out, HM1.out]
              exact specSetMeet_any (some g) (some gt) l1 c ns ct P1 sh W h1 h2 (by omega) (by omega)
            have CM2 : Hid (∀ W g c gt ct, Row W (some g) l2 P2 → Row W (some gt) ns sh → Calls Tryz.prog 99 #[.slice (some g) l2 c, .slice (some gt) ns ct] W fun e w' => ∃ g c, e = .returned (.slice (some ⟨g, 0, none⟩) lm2 c) ∧ Owns w' W.heap.size (.slice (some ⟨g, 0, none⟩) lm2 c) lm2 M2 ∧ Below W.heap.size W w') := fun W g c gt ct h1 h2 => by
              rw [hlm2, hM2]
              exact specSetMeet_any (some g) (some gt) l2 c ns ct P2 sh W h1 h2 (by omega) (by omega)
            have CI1 : Hid (∀ W g c gt ct, Row W (some g) lm1 M1 → Row W (some gt) l3 P3 → Calls Tryz.prog 32 #[.slice (some g) lm1 c, .slice (some gt) l3 ct] W fun e w' => e = .returned (.bool x1) ∧ W = w') := fun W g c gt ct h1 h2 => by
              rw [hx1]
              exact (specSetIn_any (some g) (some gt) lm1 c l3 ct M1 P3 W h1 h2 (by omega) (by omega)).mono fun e w' h => ⟨h.1, h.2.symm⟩
            have CI2 : Hid (∀ W g c gt ct, Row W (some g) lm2 M2 → Row W (some gt) l4 P4 → Calls Tryz.prog 32 #[.slice (some g) lm2 c, .slice (some gt) l4 ct] W fun e w' => e = .returned (.bool x2) ∧ W = w') := fun W g c gt ct h1 h2 => by
              rw [hx2]
              exact (specSetIn_any (some g) (some gt) lm2 c l4 ct M2 P4 W h1 h2 (by omega) (by omega)).mono fun e w' h => ⟨h.1, h.2.symm⟩
            have hkb : (k + 1) * nB ≤ 1600 := Nat.le_trans (Nat.mul_le_mul (show k + 1 ≤ 40 by omega) hB40) (by omega)
            have hlen : len ≤ 1600 := by
              have h1 := HT.out
              have h2 := allP_len C nB k
              have h3 := rowP_len C k j
              have h4 := HO.out.1.length
              rw [h1, List.length_map, List.length_append] at h4
              rw [Nat.succ_mul] at hkb
              omega
            have hmul : 0 ≤ (k : Int) * su ∧ (k : Int) * su ≤ 1600 := by
              have h1 : ((k : Int)) * su ≤ 40 * 40 := Int.mul_le_mul (by omega) (by omega) (by omega) (by omega)
              have h2 : 0 ≤ (k : Int) * su := Int.mul_nonneg (by omega) (by omega)
              omega
            clear hP2 hP3 hl2 hl3 hM2 hlm2 hx1 hx2
            have ca0 := (S2.out.below HB.out).2.1.cell (j := 0) (u := .int .i64 st) rfl
            have ca1 := (S2.out.below HB.out).2.1.cell (j := 1) (u := .int .i64 it) rfl
            have ca2 := (S2.out.below HB.out).2.1.cell (j := 2) (u := .slice a2 n2 c2) rfl
            have ca3 := (S2.out.below HB.out).2.1.cell (j := 3) (u := .slice a3 n3 c3) rfl
            have ca4 := (S2.out.below HB.out).2.1.cell (j := 4) (u := .slice a4 n4 c4) rfl
            have ca5 := (S2.out.below HB.out).2.1.cell (j := 5) (u := .slice a5 n5 c5) rfl
            have cb0 := (S2.out.below HB.out).2.2.cell (j := 0) (u := .int .i64 su) rfl
            have cb1 := (S2.out.below HB.out).2.2.cell (j := 1) (u := .int .i64 iu) rfl
            have cb2 := (S2.out.below HB.out).2.2.cell (j := 2) (u := .slice b2 m2 d2) rfl
            have cb3 := (S2.out.below HB.out).2.2.cell (j := 3) (u := .slice b3 m3 d3) rfl
            have cb4 := (S2.out.below HB.out).2.2.cell (j := 4) (u := .slice b4 m4 d4) rfl
            have cb5 := (S2.out.below HB.out).2.2.cell (j := 5) (u := .slice b5 m5 d5) rfl
            go_wp2_with fail
            clear ca0 cb0 ca1 cb1 ca2 cb2 ca3 cb3 ca4 cb4 ca5 cb5
            refine (C1.out _ (S2.out.below HB.out).1).mono ?_
            rintro e w11 ⟨g1, k1, rfl, ho, hb⟩
            have B11 := Lib.hid (HB.out.trans (hb.mono HB.out.size))
            have O11 := Lib.hid (HO.out.below hb)
            have A11 := Lib.hid ho.row.2.2.2
            clear hb ho HB HO 
            go_wp2_with fail
            refine (CM1.out _ _ _ _ _ A11.out (PSH.out.below B11.out)).mono ?_
            rintro e w12 ⟨g2, k2x, rfl, ho, hb⟩
            have B12 := Lib.hid (B11.out.trans (hb.mono B11.out.size))
            have O12 := Lib.hid (O11.out.below hb)
            have A12 := Lib.hid (A11.out.below hb)
            have D12 := Lib.hid ho.row.2.2.2
            clear hb ho B11 O11 A11
            have ca0 := (S2.out.below B12.out).2.1.cell (j := 0) (u := .int .i64 st) rfl
            have ca1 := (S2.out.below B12.out).2.1.cell (j := 1) (u := .int .i64 it) rfl
            have ca2 := (S2.out.below B12.out).2.1.cell (j := 2) (u := .slice a2 n2 c2) rfl
            have ca3 := (S2.out.below B12.out).2.1.cell (j := 3) (u := .slice a3 n3 c3) rfl
            have ca4 := (S2.out.below B12.out).2.1.cell (j := 4) (u := .slice a4 n4 c4) rfl
            have ca5 := (S2.out.below B12.out).2.1.cell (j := 5) (u := .slice a5 n5 c5) rfl
            have cb0 := (S2.out.below B12.out).2.2.cell (j := 0) (u := .int .i64 su) rfl
            have cb1 := (S2.out.below B12.out).2.2.cell (j := 1) (u := .int .i64 iu) rfl
            have cb2 := (S2.out.below B12.out).2.2.cell (j := 2) (u := .slice b2 m2 d2) rfl
            have cb3 := (S2.out.below B12.out).2.2.cell (j := 3) (u := .slice b3 m3 d3) rfl
            have cb4 := (S2.out.below B12.out).2.2.cell (j := 4) (u := .slice b4 m4 d4) rfl
            have cb5 := (S2.out.below B12.out).2.2.cell (j := 5) (u := .slice b5 m5 d5) rfl
            go_wp2_with fail
            clear ca0 cb0 ca1 cb1 ca2 cb2 ca3 cb3 ca4 cb4 ca5 cb5
            refine (C2.out _ (S2.out.below B12.out).1).mono ?_
            rintro e w13 ⟨g3, k3x, rfl, ho, hb⟩
            have B13 := Lib.hid (B12.out.trans (hb.mono B12.out.size))
            have O13 := Lib.hid (O12.out.below hb)
            have A13 := Lib.hid (A12.out.below hb)
            have D13 := Lib.hid (D12.out.below hb)
            have E13 := Lib.hid ho.row.2.2.2
            clear hb ho B12 O12 A12 D12
            go_wp2_with fail
            refine (CM2.out _ _ _ _ _ E13.out (PSH.out.below B13.out)).mono ?_
            rintro e w14 ⟨g4, k4x, rfl, ho, hb⟩
            have B14 := Lib.hid (B13.out.trans (hb.mono B13.out.size))
            have O14 := Lib.hid (O13.out.below hb)
            have A14 := Lib.hid (A13.out.below hb)
            have D14 := Lib.hid (D13.out.below hb)
            have E14 := Lib.hid (E13.out.below hb)
            have F14 := Lib.hid ho.row.2.2.2
            clear hb ho B13 O13 A13 D13 E13
            have ca0 := (S2.out.below B14.out).2.1.cell (j := 0) (u := .int .i64 st) rfl
            have ca1 := (S2.out.below B14.out).2.1.cell (j := 1) (u := .int .i64 it) rfl
            have ca2 := (S2.out.below B14.out).2.1.cell (j := 2) (u := .slice a2 n2 c2) rfl
            have ca3 := (S2.out.below B14.out).2.1.cell (j := 3) (u := .slice a3 n3 c3) rfl
            have ca4 := (S2.out.below B14.out).2.1.cell (j := 4) (u := .slice a4 n4 c4) rfl
            have ca5 := (S2.out.below B14.out).2.1.cell (j := 5) (u := .slice a5 n5 c5) rfl
            have cb0 := (S2.out.below B14.out).2.2.cell (j := 0) (u := .int .i64 su) rfl
            have cb1 := (S2.out.below B14.out).2.2.cell (j := 1) (u := .int .i64 iu) rfl
            have cb2 := (S2.out.below B14.out).2.2.cell (j := 2) (u := .slice b2 m2 d2) rfl
            have cb3 := (S2.out.below B14.out).2.2.cell (j := 3) (u := .slice b3 m3 d3) rfl
            have cb4 := (S2.out.below B14.out).2.2.cell (j := 4) (u := .slice b4 m4 d4) rfl
            have cb5 := (S2.out.below B14.out).2.2.cell (j := 5) (u := .slice b5 m5 d5) rfl
            go_wp2_with fail
            clear ca0 cb0 ca1 cb1 ca2 cb2 ca3 cb3 ca4 cb4 ca5 cb5
            refine (C3.out _ (S2.out.below B14.out).1).mono ?_
            rintro e w15 ⟨g5x, k5x, rfl, ho, hb⟩
            have B15 := Lib.hid (B14.out.trans (hb.mono B14.out.size))
            have O15 := Lib.hid (O14.out.below hb)
            have A15 := Lib.hid (A14.out.below hb)
            have D15 := Lib.hid (D14.out.below hb)
            have E15 := Lib.hid (E14.out.below hb)
            have F15 := Lib.hid (F14.out.below hb)
            have G15 := Lib.hid ho.row.2.2.2
            clear hb ho B14 O14 A14 D14 E14 F14
            go_wp2_with fail
            refine (CI1.out _ _ _ _ _ D15.out G15.out).mono ?_
            rintro e w16 ⟨rfl, rfl⟩
            cases x1 with
            | false =>
              have HCY : Hid (C k j = true) := by unfold Hid; rw [HCC.out]; rfl
              have HT2 : Hid (O ++ [(k : Int) * su + (j : Int)] = (allP C nB k ++ rowP C k (j + 1)).map (stOf su)) := by
                unfold Hid
                rw [rowP_yes HCY.out, HT.out, ← List.append_assoc, List.map_append (l₂ := [_])]
                rfl
              have T1 := O15.out.alloc (.cells #[.int .i64 ((k : Int) * su + (j : Int))] 3)
              have b1 := B15.out.size
              have BA : Hid (Below w1.heap.size w1 (w15.alloc (.cells #[.int .i64 ((k : Int) * su + (j : Int))] 3))) := B15.out.alloc b1 _
              have S1x : Src (w15.alloc (.cells #[.int .i64 ((k : Int) * su + (j : Int))] 3)) (some ⟨w15.heap.size, 0, none⟩) 1 1 [(k : Int) * su + (j : Int)] := src_one (by simp)
              have cb0 := (S2.out.below B15.out).2.2.cell (j := 0) (u := .int .i64 su) rfl
              clear A15 D15 E15 F15 G15
              go_wp2_with (at_builtin; refine wpList_appO rfl (.tmp 64) (.tmp 71) rfl w1.heap.size w.heap.size i0 Tryz.underlying22 hi hz0 hz1 hz2 _ len _ rfl T1 _ 1 _ [(k : Int) * su + (j : Int)] rfl S1x (by omega) (by omega) (by simp; omega) hs2 ?_)
              rintro go2 co2 w22 hown ⟨r, hgrow, hrr⟩
              have B22 := Lib.hid (BA.out.grown hgrow BA.out.size hrr)
              have O22 := Lib.hid hown
              clear hown hgrow hrr T1 S1x cb0 BA O15 B15
              go_wp2_with fail
              go_roundw
              case rel => exact ⟨j + 1, go2, co2, len + 1, _, by omega, rfl, by go_num, O22.out, HT2.out, B22.out⟩
              case measure => simp [intOf]; omega

            | true =>
              have ca0 := (S2.out.below B15.out).2.1.cell (j := 0) (u := .int .i64 st) rfl
              have ca1 := (S2.out.below B15.out).2.1.cell (j := 1) (u := .int .i64 it) rfl
              have ca2 := (S2.out.below B15.out).2.1.cell (j := 2) (u := .slice a2 n2 c2) rfl
              have ca3 := (S2.out.below B15.out).2.1.cell (j := 3) (u := .slice a3 n3 c3) rfl
              have ca4 := (S2.out.below B15.out).2.1.cell (j := 4) (u := .slice a4 n4 c4) rfl
              have ca5 := (S2.out.below B15.out).2.1.cell (j := 5) (u := .slice a5 n5 c5) rfl
              have cb0 := (S2.out.below B15.out).2.2.cell (j := 0) (u := .int .i64 su) rfl
              have cb1 := (S2.out.below B15.out).2.2.cell (j := 1) (u := .int .i64 iu) rfl
              have cb2 := (S2.out.below B15.out).2.2.cell (j := 2) (u := .slice b2 m2 d2) rfl
              have cb3 := (S2.out.below B15.out).2.2.cell (j := 3) (u := .slice b3 m3 d3) rfl
              have cb4 := (S2.out.below B15.out).2.2.cell (j := 4) (u := .slice b4 m4 d4) rfl
              have cb5 := (S2.out.below B15.out).2.2.cell (j := 5) (u := .slice b5 m5 d5) rfl
              go_wp2_with fail
              clear ca0 cb0 ca1 cb1 ca2 cb2 ca3 cb3 ca4 cb4 ca5 cb5
              refine (C4.out _ (S2.out.below B15.out).1).mono ?_
              rintro e w17 ⟨g6x, k6x, rfl, ho, hb⟩
              have B17 := Lib.hid (B15.out.trans (hb.mono B15.out.size))
              have O17 := Lib.hid (O15.out.below hb)
              have A17 := Lib.hid (A15.out.below hb)
              have D17 := Lib.hid (D15.out.below hb)
              have E17 := Lib.hid (E15.out.below hb)
              have F17 := Lib.hid (F15.out.below hb)
              have G17 := Lib.hid (G15.out.below hb)
              have K17 := Lib.hid ho.row.2.2.2
              clear hb ho B15 O15 A15 D15 E15 F15 G15
              go_wp2_with fail
              refine (CI2.out _ _ _ _ _ F17.out K17.out).mono ?_
              rintro e w18 ⟨rfl, rfl⟩
              cases x2 with
              | false =>
                have HCY : Hid (C k j = true) := by unfold Hid; rw [HCC.out]; rfl
                have HT2 : Hid (O ++ [(k : Int) * su + (j : Int)] = (allP C nB k ++ rowP C k (j + 1)).map (stOf su)) := by
                  unfold Hid
                  rw [rowP_yes HCY.out, HT.out, ← List.append_assoc, List.map_append (l₂ := [_])]
                  rfl
                have T1 := O17.out.alloc (.cells #[.int .i64 ((k : Int) * su + (j : Int))] 3)
                have b1 := B17.out.size
                have BA : Hid (Below w1.heap.size w1 (w17.alloc (.cells #[.int .i64 ((k : Int) * su + (j : Int))] 3))) := B17.out.alloc b1 _
                have S1x : Src (w17.alloc (.cells #[.int .i64 ((k : Int) * su + (j : Int))] 3)) (some ⟨w17.heap.size, 0, none⟩) 1 1 [(k : Int) * su + (j : Int)] := src_one (by simp)
                have cb0 := (S2.out.below B17.out).2.2.cell (j := 0) (u := .int .i64 su) rfl
                clear A17 D17 E17 F17 G17 K17
                go_wp2_with (at_builtin; refine wpList_appO rfl (.tmp 64) (.tmp 71) rfl w1.heap.size w.heap.size i0 Tryz.underlying22 hi hz0 hz1 hz2 _ len _ rfl T1 _ 1 _ [(k : Int) * su + (j : Int)] rfl S1x (by omega) (by omega) (by simp; omega) hs2 ?_)
                rintro go2 co2 w22 hown ⟨r, hgrow, hrr⟩
                have B22 := Lib.hid (BA.out.grown hgrow BA.out.size hrr)
                have O22 := Lib.hid hown
                clear hown hgrow hrr T1 S1x cb0 BA O17 B17
                go_wp2_with fail
                go_roundw
                case rel => exact ⟨j + 1, go2, co2, len + 1, _, by omega, rfl, by go_num, O22.out, HT2.out, B22.out⟩
                case measure => simp [intOf]; omega

              | true =>
                have HCY : Hid (C k j = false) := by unfold Hid; rw [HCC.out]; rfl
                have HT2 : Hid (O = (allP C nB k ++ rowP C k (j + 1)).map (stOf su)) := by
                  unfold Hid
                  rw [rowP_no HCY.out, HT.out]
                go_wp2_with fail
                go_roundw
                case rel => exact ⟨j + 1, go, co, len, O, by omega, rfl, by go_num, O17.out, HT2.out, B17.out⟩
                case measure => simp [intOf]; omega

          · obtain rfl : j = nB := by have h1 := HNB.out; omega
            have cb0 := (S2.out.below HB.out).2.2.cell (j := 0) (u := .int .i64 su) rfl
            go_wp2_with fail
            go_roundw
            case rel => exact ⟨k + 1, go, co, len, O, by omega, rfl, by go_num, HO.out, HT.out, HB.out, fun _ => by simp⟩
            case measure => simp [intOf]; omega
    · have HE : Hid (O = R) := by
        unfold Hid
        rw [HT.out, HR.out]
        cases q with
        | true =>
          have h1 := HNA.out
          have : k = nA := by omega
          rw [this]
          rfl
        | false =>
          have hk0 : k = 0 := by
            apply Classical.byContradiction
            intro hne
            have := HQ.out (by omega)
            cases this
          rw [hk0]
          rfl
      have ca0 := (S2.out.below HB.out).2.1.cell (j := 0) (u := .int .i64 st) rfl
      go_wp2_with fail
      go_ret
      have e := HO.out.1.length
      rw [← HE.out]
      subst e
      exact ⟨_, _, rfl, HO.out.1, S2.out.1.trans (HB.out.mono hs2)⟩

end Go.Proofs.YtogjbnimohakjabGreat

/-
  Contracts of Legal, of the program and of the model. Conditions: the automata's lists have at most 2^20 elements.
-/
namespace Go.Proofs.YtogjbnimohakjabGreat
open Go.RowKit

/-- Is the second a legal environment of the first? -/
def legalB (a b : IaD) : Bool := prodB a b && decide (b.ins = a.outs) && decide (b.outs = a.ins) && decide ((meetOf (reachedOf (prodIa a b)) (clashesOf a b)).length = 0)

/-- Both arguments' boxes and the product's box. -/
def LegS (w W : World) (A B C : Array Value) (p : Nat) (t : IaD) : Prop :=
  Box2 w W w.heap.size (w.heap.size + 1) 29 A B ∧ VarIs W p C 29 ∧ IaHigh W w.heap.size t (.agg C)

theorem LegS.below {w W W' : World} {A B C : Array Value} {p : Nat} {t : IaD} (h : LegS w W A B C p t) (hb : Below W.heap.size W W') : LegS w W' A B C p t := ⟨h.1.below hb, h.2.1.below hb, h.2.2.below hb⟩

theorem LegS.drew {w W : World} {A B C : Array Value} {p : Nat} {t : IaD} (h : LegS w W A B C p t) : LegS w W.drew A B C p t := ⟨h.1.drew, h.2.1, h.2.2.below (Below.refl _ _).drew⟩

theorem reachedOf_len (a : IaD) (f5 : a.steps.length ≤ 1048576) : (reachedOf a).length ≤ 2097152 := by
  have h := alongOf_mem (actsOf a) a.steps [a.init]
  have := come_bound h.1 (fun y hy => (h.2 y).1 hy)
  unfold reachedOf
  simp only [List.length_singleton] at this
  omega

theorem clashes_len2 {a b : IaD} (_ : Small a) (_ : Small b) : (clashesOf a b).length ≤ 2097152 := by
  unfold clashesOf
  split
  · rename_i h
    obtain ⟨ha, hb, hm⟩ := fitB_ok h
    have s1 := iaOk_states ha
    have s2 := iaOk_states hb
    have h1 := allP_len (clashB a b) b.states.toNat a.states.toNat
    have h2 : a.states.toNat * b.states.toNat ≤ 40 * 40 := Nat.mul_le_mul (by omega) (by omega)
    rw [List.length_map]
    omega
  · simp

set_option maxRecDepth 20000 in
set_option maxHeartbeats 12800000 in
theorem implLegal_any (a b : IaD) (v u : Value) (w : World) (h : IaRow w a v) (k : IaRow w b u) (fa : Small a) (fb : Small b) :
    Calls Tryz.prog 42 #[v, u] w fun e w' => e = .returned (.bool (legalB a b)) ∧ Below w.heap.size w w' := by
  obtain ⟨q, hq⟩ : ∃ q, q = prodB a b := ⟨_, rfl⟩
  obtain ⟨⟨tst, tit, tins, touts, thids, tsteps⟩, hT⟩ : ∃ t, t = prodIa a b := ⟨_, rfl⟩
  have HOK : Hid (q = true → iaOkB ⟨tst, tit, tins, touts, thids, tsteps⟩ = true) := fun e => by
    have h1 : prodB a b = true := by rw [← hq]; exact e
    rw [hT]
    unfold prodIa
    rw [if_pos h1]
    exact prod_ok h1
  obtain ⟨x2, x3, x4, x5⟩ := prod_small fa fb
  rw [← hT] at x2 x3 x4 x5
  simp only at x2 x3 x4 x5
  have CPr : Hid (∀ W, Below w.heap.size w W → Calls Tryz.prog 20 #[v, u] W fun e w' => ∃ (xa2 : Option Addr) (xc2 : Nat) (xa3 : Option Addr) (xc3 : Nat) (xa4 : Option Addr) (xc4 : Nat) (xa5 : Option Addr) (xc5 : Nat), e = .returned (.tuple #[.agg #[.int .i64 tst, .int .i64 tit, .slice xa2 tins.length xc2, .slice xa3 touts.length xc3, .slice xa4 thids.length xc4, .slice xa5 tsteps.length xc5], .bool q]) ∧ IaHigh w' W.heap.size ⟨tst, tit, tins, touts, thids, tsteps⟩ (.agg #[.int .i64 tst, .int .i64 tit, .slice xa2 tins.length xc2, .slice xa3 touts.length xc3, .slice xa4 thids.length xc4, .slice xa5 tsteps.length xc5]) ∧ Below W.heap.size W w') := fun W hW => by
    rw [hq, hT]
    refine (implProduct_any a b v u W (h.below hW) (k.below hW) fa fb).mono fun e w' ⟨v', he, ho, hb⟩ => ?_
    rw [← hT] at ho ⊢
    have ho := ho.high
    obtain ⟨_, _, _, _, _, _, _, _, rfl, _⟩ := ho.rowOf
    exact ⟨_, _, _, _, _, _, _, _, he, ho, hb⟩
  obtain ⟨CL, hCL⟩ : ∃ l, l = clashesOf a b := ⟨_, rfl⟩
  have hcl : CL.length ≤ 2097152 := by rw [hCL]; exact clashes_len2 fa fb
  obtain ⟨RL, hRL⟩ : ∃ l, l = reachedOf ⟨tst, tit, tins, touts, thids, tsteps⟩ := ⟨_, rfl⟩
  have hrl : RL.length ≤ 2097152 := by rw [hRL]; exact reachedOf_len _ x5
  obtain ⟨x, hx⟩ : ∃ n, n = (meetOf RL CL).length := ⟨_, rfl⟩
  obtain ⟨s1, hs1⟩ : ∃ s, s = decide (b.ins = a.outs) := ⟨_, rfl⟩
  obtain ⟨s2, hs2⟩ : ∃ s, s = decide (b.outs = a.ins) := ⟨_, rfl⟩
  obtain ⟨r, hr⟩ : ∃ r, r = legalB a b := ⟨_, rfl⟩
  rw [← hr]
  have HR : Hid (r = (q && s1 && s2 && decide (x = 0))) := by
    unfold Hid
    rw [hr, hq, hs1, hs2, hx, hRL, hCL, hT]
    rfl
  clear hr hq hT
  obtain ⟨a2, n2, c2, a3, n3, c3, a4, n4, c4, a5, n5, c5, rfl, r2, r3, r4, r5⟩ := h
  obtain ⟨b2, m2, d2, b3, m3, d3, b4, m4, d4, b5, m5, d5, rfl, q2, q3, q4, q5⟩ := k
  obtain ⟨st, it, ins, outs, hids, steps⟩ := a
  obtain ⟨su, iu, jns, juts, jids, jteps⟩ := b
  obtain ⟨f2, f3, f4, f5⟩ := fa
  obtain ⟨g2, g3, g4, g5⟩ := fb
  simp only at r2 r3 r4 r5 q2 q3 q4 q5 f2 f3 f4 f5 g2 g3 g4 g5
  have HA : Hid (∀ W, Below w.heap.size w W → IaRow W ⟨st, it, ins, outs, hids, steps⟩ (.agg #[.int .i64 st, .int .i64 it, .slice a2 n2 c2, .slice a3 n3 c3, .slice a4 n4 c4, .slice a5 n5 c5])) := fun W hW => IaRow.below ⟨a2, n2, c2, a3, n3, c3, a4, n4, c4, a5, n5, c5, rfl, r2, r3, r4, r5⟩ hW
  have HB : Hid (∀ W, Below w.heap.size w W → IaRow W ⟨su, iu, jns, juts, jids, jteps⟩ (.agg #[.int .i64 su, .int .i64 iu, .slice b2 m2 d2, .slice b3 m3 d3, .slice b4 m4 d4, .slice b5 m5 d5])) := fun W hW => IaRow.below ⟨b2, m2, d2, b3, m3, d3, b4, m4, d4, b5, m5, d5, rfl, q2, q3, q4, q5⟩ hW
  have S0 := Lib.hid (Box2.start w (iaC st it a2 n2 c2 a3 n3 c3 a4 n4 c4 a5 n5 c5) (iaC su iu b2 m2 d2 b3 m3 d3 b4 m4 d4 b5 m5 d5) 29)
  have FSA : Hid (Small ⟨st, it, ins, outs, hids, steps⟩) := ⟨f2, f3, f4, f5⟩
  have FSB : Hid (Small ⟨su, iu, jns, juts, jids, jteps⟩) := ⟨g2, g3, g4, g5⟩
  have e2 := r2.1
  have e3 := r3.1
  have e4 := r4.1
  have k2 := q2.1
  have k3 := q3.1
  have k4 := q4.1
  rw [e2] at f2
  rw [e3] at f3
  rw [e4] at f4
  rw [k2] at g2
  rw [k3] at g3
  rw [k4] at g4
  have R2 := Lib.hid r2
  have R3 := Lib.hid r3
  have R4 := Lib.hid r4
  have R5 := Lib.hid r5
  have Q2 := Lib.hid q2
  have Q3 := Lib.hid q3
  have Q4 := Lib.hid q4
  have Q5 := Lib.hid q5
  clear r2 r3 r4 r5 q2 q3 q4 q5
  simp only at hs1 hs2 hCL
  have CE1 : Hid (∀ W, Below w.heap.size w W → Calls Tryz.prog 103 #[.slice b2 m2 d2, .slice a3 n3 c3] W fun e w' => e = .returned (.bool s1) ∧ Below W.heap.size W w') := fun W hW => by
    rw [hs1]
    exact equal_any b2 a3 m2 d2 n3 c3 jns outs W (Q2.out.below hW) (R3.out.below hW) (by omega) (by omega)
  have CE2 : Hid (∀ W, Below w.heap.size w W → Calls Tryz.prog 103 #[.slice b3 m3 d3, .slice a2 n2 c2] W fun e w' => e = .returned (.bool s2) ∧ Below W.heap.size W w') := fun W hW => by
    rw [hs2]
    exact equal_any b3 a2 m3 d3 n2 c2 juts ins W (Q3.out.below hW) (R2.out.below hW) (by omega) (by omega)
  have CC : Hid (∀ W, Below w.heap.size w W → Calls Tryz.prog 30 #[.agg #[.int .i64 st, .int .i64 it, .slice a2 n2 c2, .slice a3 n3 c3, .slice a4 n4 c4, .slice a5 n5 c5], .agg #[.int .i64 su, .int .i64 iu, .slice b2 m2 d2, .slice b3 m3 d3, .slice b4 m4 d4, .slice b5 m5 d5]] W fun e w' => ∃ ad cc, e = .returned (.slice ad CL.length cc) ∧ Row w' ad CL.length CL ∧ Below W.heap.size W w') := fun W hW => by
    rw [hCL]
    refine (implClashes_any ⟨st, it, ins, outs, hids, steps⟩ ⟨su, iu, jns, juts, jids, jteps⟩ _ _ W (HA.out W hW) (HB.out W hW) FSA.out FSB.out).mono fun e w' h => ?_
    obtain ⟨v', he, ho, hb⟩ := h
    obtain ⟨ad, cc, rfl⟩ := ho.form
    exact ⟨ad, cc, he, ho.row.2.2.2, hb⟩
  have CM : Hid (∀ W ad cc ad2 cc2, Row W ad RL.length RL → Row W ad2 CL.length CL → Calls Tryz.prog 104 #[.slice ad RL.length cc, .slice ad2 CL.length cc2] W fun e w' => ∃ a3 c3, e = .returned (.slice a3 x c3) ∧ Below W.heap.size W w') := fun W ad cc ad2 cc2 h1 h2 => by
    rw [hx]
    exact (implSetMeet_any ad ad2 RL.length cc CL.length cc2 RL CL W h1 h2 (by omega) (by omega)).mono fun e w' h => RowRes.slice h
  clear hCL hs1 hs2
  have CR0 : Hid (iaOkB ⟨tst, tit, tins, touts, thids, tsteps⟩ = true → ∀ W v', IaRow W ⟨tst, tit, tins, touts, thids, tsteps⟩ v' → Calls Tryz.prog 105 #[v'] W fun e w' => ∃ ad cc, e = .returned (.slice ad RL.length cc) ∧ Row w' ad RL.length RL ∧ Below W.heap.size W w') := fun hok W v' hv => by
    rw [hRL]
    refine (implReached_any ⟨tst, tit, tins, touts, thids, tsteps⟩ _ W hv x2 x3 x4 x5).mono fun e w' h => ?_
    rw [if_pos hok] at h
    obtain ⟨v', he, ho, hb⟩ := h
    obtain ⟨ad, cc, rfl⟩ := ho.form
    exact ⟨ad, cc, he, ho.row.2.2.2, hb⟩
  clear R4 R5 Q4 Q5 e4 k4
  have ca0 := S0.out.2.1.cell (j := 0) (u := .int .i64 st) rfl
  have ca1 := S0.out.2.1.cell (j := 1) (u := .int .i64 it) rfl
  have ca2 := S0.out.2.1.cell (j := 2) (u := .slice a2 n2 c2) rfl
  have ca3 := S0.out.2.1.cell (j := 3) (u := .slice a3 n3 c3) rfl
  have ca4 := S0.out.2.1.cell (j := 4) (u := .slice a4 n4 c4) rfl
  have ca5 := S0.out.2.1.cell (j := 5) (u := .slice a5 n5 c5) rfl
  have cb0 := S0.out.2.2.cell (j := 0) (u := .int .i64 su) rfl
  have cb1 := S0.out.2.2.cell (j := 1) (u := .int .i64 iu) rfl
  have cb2 := S0.out.2.2.cell (j := 2) (u := .slice b2 m2 d2) rfl
  have cb3 := S0.out.2.2.cell (j := 3) (u := .slice b3 m3 d3) rfl
  have cb4 := S0.out.2.2.cell (j := 4) (u := .slice b4 m4 d4) rfl
  have cb5 := S0.out.2.2.cell (j := 5) (u := .slice b5 m5 d5) rfl
  go_enter Tryz.func42, Tryz.ntmps42
  go_wp2_with fail
  clear ca0 ca1 ca2 ca3 ca4 ca5 cb0 cb1 cb2 cb3 cb4 cb5
  refine (CPr.out _ S0.out.1).mono ?_
  rintro e w4 ⟨xa2, xc2, xa3, xc3, xa4, xc4, xa5, xc5, rfl, hT4, hb⟩
  have bx := (Below.refl w4.heap.size w4).alloc (Nat.le_refl _) (.cells #[.int .i64 tst, .int .i64 tit, .slice xa2 tins.length xc2, .slice xa3 touts.length xc3, .slice xa4 thids.length xc4, .slice xa5 tsteps.length xc5] 29)
  have S4 := S0.out.below hb
  have S5 : Hid (LegS w (w4.alloc (.cells #[.int .i64 tst, .int .i64 tit, .slice xa2 tins.length xc2, .slice xa3 touts.length xc3, .slice xa4 thids.length xc4, .slice xa5 tsteps.length xc5] 29)) (iaC st it a2 n2 c2 a3 n3 c3 a4 n4 c4 a5 n5 c5) (iaC su iu b2 m2 d2 b3 m3 d3 b4 m4 d4 b5 m5 d5) (iaC tst tit xa2 tins.length xc2 xa3 touts.length xc3 xa4 thids.length xc4 xa5 tsteps.length xc5) w4.heap.size ⟨tst, tit, tins, touts, thids, tsteps⟩) := ⟨S4.below bx, VarIs.new w4 #[.int .i64 tst, .int .i64 tit, .slice xa2 tins.length xc2, .slice xa3 touts.length xc3, .slice xa4 thids.length xc4, .slice xa5 tsteps.length xc5] 29 rfl, (hT4.mono S0.out.1.size).below bx⟩
  obtain ⟨w5, hw5⟩ : ∃ x, x = w4.alloc (.cells #[.int .i64 tst, .int .i64 tit, .slice xa2 tins.length xc2, .slice xa3 touts.length xc3, .slice xa4 thids.length xc4, .slice xa5 tsteps.length xc5] 29) := ⟨_, rfl⟩
  clear hb hT4 bx S4 S0 CPr HA HB
  simp only
  go_wp2_with fail
  rw [← hw5] at S5 ⊢
  clear hw5
  have SD : LegS w w5.drew (iaC st it a2 n2 c2 a3 n3 c3 a4 n4 c4 a5 n5 c5) (iaC su iu b2 m2 d2 b3 m3 d3 b4 m4 d4 b5 m5 d5) (iaC tst tit xa2 tins.length xc2 xa3 touts.length xc3 xa4 thids.length xc4 xa5 tsteps.length xc5) w4.heap.size ⟨tst, tit, tins, touts, thids, tsteps⟩ := S5.out.drew
  clear S5
  cases q with
  | false =>
    refine wp_region_tf (S := fun w' => LegS w w' (iaC st it a2 n2 c2 a3 n3 c3 a4 n4 c4 a5 n5 c5) (iaC su iu b2 m2 d2 b3 m3 d3 b4 m4 d4 b5 m5 d5) (iaC tst tit xa2 tins.length xc2 xa3 touts.length xc3 xa4 thids.length xc4 xa5 tsteps.length xc5) w4.heap.size ⟨tst, tit, tins, touts, thids, tsteps⟩) 26 (by kernel_rfl) (by kernel_rfl) (by kernel_rfl) SD (fun hHeld => ?_)
    refine fast_move 0 13 (.bool false) (.tmp 6) (fuel := 25) rfl rfl (by kernel_rfl) (by kernel_rfl) (by kernel_rfl) (fun _ _ _ h => h) (by kernel_rfl) (by kernel_rfl) (by first | exact Or.inl rfl | exact Or.inr rfl) hHeld (tf 1 26) (by kernel_rfl) (fun K hK => ?_)
    go_big_move
    refine hK.out _ ?_
    clear hK K
    refine fast_move 1 14 (.bool false) (.tmp 13) (fuel := 24) rfl rfl (by kernel_rfl) (by kernel_rfl) (by kernel_rfl) (fun _ _ _ h => h) (by kernel_rfl) (by kernel_rfl) (by first | exact Or.inl rfl | exact Or.inr rfl) hHeld (tf 3 26) (by kernel_rfl) (fun K hK => ?_)
    go_big_move
    refine hK.out _ ?_
    clear hK K
    refine fast_skip 2 15 (fuel := 23) rfl rfl (by kernel_rfl) (by kernel_rfl) (by kernel_rfl) (fun _ _ _ h => h) (by kernel_rfl) hHeld (tf 7 26) (by kernel_rfl) (fun K hK => ?_)
    go_big_move
    refine hK.out _ ?_
    clear hK K
    refine fast_skip 3 16 (fuel := 22) rfl rfl (by kernel_rfl) (by kernel_rfl) (by kernel_rfl) (fun _ _ _ h => h) (by kernel_rfl) hHeld (tf 15 26) (by kernel_rfl) (fun K hK => ?_)
    go_big_move
    refine hK.out _ ?_
    clear hK K
    refine fast_skip 4 17 (fuel := 21) rfl rfl (by kernel_rfl) (by kernel_rfl) (by kernel_rfl) (fun _ _ _ h => h) (by kernel_rfl) hHeld (tf 31 26) (by kernel_rfl) (fun K hK => ?_)
    go_big_move
    refine hK.out _ ?_
    clear hK K
    refine fast_skip 5 18 (fuel := 20) rfl rfl (by kernel_rfl) (by kernel_rfl) (by kernel_rfl) (fun _ _ _ h => h) (by kernel_rfl) hHeld (tf 63 26) (by kernel_rfl) (fun K hK => ?_)
    go_big_move
    refine hK.out _ ?_
    clear hK K
    refine fast_skip 6 19 (fuel := 19) rfl rfl (by kernel_rfl) (by kernel_rfl) (by kernel_rfl) (fun _ _ _ h => h) (by kernel_rfl) hHeld (tf 127 26) (by kernel_rfl) (fun K hK => ?_)
    go_big_move
    refine hK.out _ ?_
    clear hK K
    refine fast2 7 20 (.bool false) (.tmp 14) (.bool false) (.tmp 19) (undef) (fuel := 18) rfl rfl (by kernel_rfl) (by kernel_rfl) (by kernel_rfl) (fun _ _ _ h => h) (by kernel_rfl) (by kernel_rfl) (by kernel_rfl) (fun ρ hr0 hr1 hc w hSw => by simp [go_sem, hc, hr0, hr1]) hHeld (tf 255 26) (by kernel_rfl) (fun K hK => ?_)
    go_big_move
    refine hK.out _ ?_
    clear hK K
    refine fast_move 8 21 (.bool false) (.tmp 20) (fuel := 17) rfl rfl (by kernel_rfl) (by kernel_rfl) (by kernel_rfl) (fun _ _ _ h => h) (by kernel_rfl) (by kernel_rfl) (by first | exact Or.inl rfl | exact Or.inr rfl) hHeld (tf 511 26) (by kernel_rfl) (fun K hK => ?_)
    go_big_move
    refine hK.out _ ?_
    clear hK K
    refine fast_skip 9 22 (fuel := 16) rfl rfl (by kernel_rfl) (by kernel_rfl) (by kernel_rfl) (fun _ _ _ h => h) (by kernel_rfl) hHeld (tf 1023 26) (by kernel_rfl) (fun K hK => ?_)
    go_big_move
    refine hK.out _ ?_
    clear hK K
    refine fast_skip 10 23 (fuel := 15) rfl rfl (by kernel_rfl) (by kernel_rfl) (by kernel_rfl) (fun _ _ _ h => h) (by kernel_rfl) hHeld (tf 2047 26) (by kernel_rfl) (fun K hK => ?_)
    go_big_move
    refine hK.out _ ?_
    clear hK K
    refine fast_skip 11 24 (fuel := 14) rfl rfl (by kernel_rfl) (by kernel_rfl) (by kernel_rfl) (fun _ _ _ h => h) (by kernel_rfl) hHeld (tf 4095 26) (by kernel_rfl) (fun K hK => ?_)
    go_big_move
    refine hK.out _ ?_
    clear hK K
    refine fast_skip 12 25 (fuel := 13) rfl rfl (by kernel_rfl) (by kernel_rfl) (by kernel_rfl) (fun _ _ _ h => h) (by kernel_rfl) hHeld (tf 8191 26) (by kernel_rfl) (fun K hK => ?_)
    go_big_move
    refine hK.out _ ?_
    clear hK K
    refine fast_skip 13 26 (fuel := 12) rfl rfl (by kernel_rfl) (by kernel_rfl) (by kernel_rfl) (fun _ _ _ h => h) (by kernel_rfl) hHeld (tf 16383 26) (by kernel_rfl) (fun K hK => ?_)
    go_big_move
    refine hK.out _ ?_
    clear hK K
    refine fast2 14 27 (.bool false) (.tmp 21) (.bool false) (.tmp 26) (undef) (fuel := 11) rfl rfl (by kernel_rfl) (by kernel_rfl) (by kernel_rfl) (fun _ _ _ h => h) (by kernel_rfl) (by kernel_rfl) (by kernel_rfl) (fun ρ hr0 hr1 hc w hSw => by simp [go_sem, hc, hr0, hr1]) hHeld (tf 32767 26) (by kernel_rfl) (fun K hK => ?_)
    go_big_move
    refine hK.out _ ?_
    clear hK K
    refine fast_move 15 28 (.bool false) (.tmp 27) (fuel := 10) rfl rfl (by kernel_rfl) (by kernel_rfl) (by kernel_rfl) (fun _ _ _ h => h) (by kernel_rfl) (by kernel_rfl) (by first | exact Or.inl rfl | exact Or.inr rfl) hHeld (tf 65535 26) (by kernel_rfl) (fun K hK => ?_)
    go_big_move
    refine hK.out _ ?_
    clear hK K
    refine fast_skip 16 29 (fuel := 9) rfl rfl (by kernel_rfl) (by kernel_rfl) (by kernel_rfl) (fun _ _ _ h => h) (by kernel_rfl) hHeld (tf 131071 26) (by kernel_rfl) (fun K hK => ?_)
    go_big_move
    refine hK.out _ ?_
    clear hK K
    refine fast_skip 17 30 (fuel := 8) rfl rfl (by kernel_rfl) (by kernel_rfl) (by kernel_rfl) (fun _ _ _ h => h) (by kernel_rfl) hHeld (tf 262143 26) (by kernel_rfl) (fun K hK => ?_)
    go_big_move
    refine hK.out _ ?_
    clear hK K
    refine fast_skip 18 31 (fuel := 7) rfl rfl (by kernel_rfl) (by kernel_rfl) (by kernel_rfl) (fun _ _ _ h => h) (by kernel_rfl) hHeld (tf 524287 26) (by kernel_rfl) (fun K hK => ?_)
    go_big_move
    refine hK.out _ ?_
    clear hK K
    refine fast_skip 19 32 (fuel := 6) rfl rfl (by kernel_rfl) (by kernel_rfl) (by kernel_rfl) (fun _ _ _ h => h) (by kernel_rfl) hHeld (tf 1048575 26) (by kernel_rfl) (fun K hK => ?_)
    go_big_move
    refine hK.out _ ?_
    clear hK K
    refine fast_skip 20 33 (fuel := 5) rfl rfl (by kernel_rfl) (by kernel_rfl) (by kernel_rfl) (fun _ _ _ h => h) (by kernel_rfl) hHeld (tf 2097151 26) (by kernel_rfl) (fun K hK => ?_)
    go_big_move
    refine hK.out _ ?_
    clear hK K
    refine fast_skip 21 34 (fuel := 4) rfl rfl (by kernel_rfl) (by kernel_rfl) (by kernel_rfl) (fun _ _ _ h => h) (by kernel_rfl) hHeld (tf 4194303 26) (by kernel_rfl) (fun K hK => ?_)
    go_big_move
    refine hK.out _ ?_
    clear hK K
    refine fast_skip 22 35 (fuel := 3) rfl rfl (by kernel_rfl) (by kernel_rfl) (by kernel_rfl) (fun _ _ _ h => h) (by kernel_rfl) hHeld (tf 8388607 26) (by kernel_rfl) (fun K hK => ?_)
    go_big_move
    refine hK.out _ ?_
    clear hK K
    refine fast_skip 23 36 (fuel := 2) rfl rfl (by kernel_rfl) (by kernel_rfl) (by kernel_rfl) (fun _ _ _ h => h) (by kernel_rfl) hHeld (tf 16777215 26) (by kernel_rfl) (fun K hK => ?_)
    go_big_move
    refine hK.out _ ?_
    clear hK K
    refine fast2 24 37 (.bool false) (.tmp 28) (.bool false) (.tmp 36) (undef) (fuel := 1) rfl rfl (by kernel_rfl) (by kernel_rfl) (by kernel_rfl) (fun _ _ _ h => h) (by kernel_rfl) (by kernel_rfl) (by kernel_rfl) (fun ρ hr0 hr1 hc w hSw => by simp [go_sem, hc, hr0, hr1]) hHeld (tf 33554431 26) (by kernel_rfl) (fun K hK => ?_)
    go_big_move
    refine hK.out _ ?_
    clear hK K
    refine fast_move 25 4 (.bool false) (.tmp 37) (fuel := 0) rfl rfl (by kernel_rfl) (by kernel_rfl) (by kernel_rfl) (fun _ _ _ h => h) (by kernel_rfl) (by kernel_rfl) (by first | exact Or.inl rfl | exact Or.inr rfl) hHeld (tf 67108863 26) (by kernel_rfl) (fun K hK => ?_)
    go_big_move
    refine hK.out _ ?_
    clear hK K
    refine wpAnyH_done (by kernel_rfl) ?_ _
    go_wp2_with fail
    go_ret
    exact ⟨ret_bool (by rw [HR.out]; rfl), hHeld.1.1⟩
  | true =>
    have hok := HOK.out (by simp)
    have CR := Lib.hid (CR0.out hok)
    clear HOK CR0 hok hRL
    cases s1 with
    | false =>
      refine wp_region_tf (S := fun w' => LegS w w' (iaC st it a2 n2 c2 a3 n3 c3 a4 n4 c4 a5 n5 c5) (iaC su iu b2 m2 d2 b3 m3 d3 b4 m4 d4 b5 m5 d5) (iaC tst tit xa2 tins.length xc2 xa3 touts.length xc3 xa4 thids.length xc4 xa5 tsteps.length xc5) w4.heap.size ⟨tst, tit, tins, touts, thids, tsteps⟩) 26 (by kernel_rfl) (by kernel_rfl) (by kernel_rfl) SD (fun hHeld => ?_)
      refine fast_move 0 13 (.bool true) (.tmp 6) (fuel := 25) rfl rfl (by kernel_rfl) (by kernel_rfl) (by kernel_rfl) (fun _ _ _ h => h) (by kernel_rfl) (by kernel_rfl) (by first | exact Or.inl rfl | exact Or.inr rfl) hHeld (tf 1 26) (by kernel_rfl) (fun K hK => ?_)
      go_big_move
      refine hK.out _ ?_
      clear hK K
      refine fast_move 1 14 (.bool true) (.tmp 13) (fuel := 24) rfl rfl (by kernel_rfl) (by kernel_rfl) (by kernel_rfl) (fun _ _ _ h => h) (by kernel_rfl) (by kernel_rfl) (by first | exact Or.inl rfl | exact Or.inr rfl) hHeld (tf 3 26) (by kernel_rfl) (fun K hK => ?_)
      go_big_move
      refine hK.out _ ?_
      clear hK K
      refine fast1 2 15 (.pointer (some ⟨w.heap.size + 1, 2, none⟩)) (.tmp 3) (.pointer (some ⟨w.heap.size + 1, 0, none⟩)) (fuel := 23) rfl rfl (by kernel_rfl) (by kernel_rfl) (by kernel_rfl) (fun _ _ _ h => h) (by kernel_rfl) (by kernel_rfl) (fun ρ hr0 _ w hSw => by simp [go_sem, hr0]) hHeld (tf 7 26) (by kernel_rfl) (fun K hK => ?_)
      go_big_move
      refine hK.out _ ?_
      clear hK K
      refine fast1 3 16 (.slice b2 m2 d2) (.tmp 15) (.pointer (some ⟨w.heap.size + 1, 2, none⟩)) (fuel := 22) rfl rfl (by kernel_rfl) (by kernel_rfl) (by kernel_rfl) (fun _ _ _ h => h) (by kernel_rfl) (by kernel_rfl) (fun ρ hr0 _ w hSw => by have m := hSw.1.2.2.cell (j := 2) (u := .slice b2 m2 d2) rfl; simp [go_sem, hr0, m]) hHeld (tf 15 26) (by kernel_rfl) (fun K hK => ?_)
      go_big_move
      refine hK.out _ ?_
      clear hK K
      refine fast1 4 17 (.pointer (some ⟨w.heap.size, 3, none⟩)) (.tmp 2) (.pointer (some ⟨w.heap.size, 0, none⟩)) (fuel := 21) rfl rfl (by kernel_rfl) (by kernel_rfl) (by kernel_rfl) (fun _ _ _ h => h) (by kernel_rfl) (by kernel_rfl) (fun ρ hr0 _ w hSw => by simp [go_sem, hr0]) hHeld (tf 31 26) (by kernel_rfl) (fun K hK => ?_)
      go_big_move
      refine hK.out _ ?_
      clear hK K
      refine fast1 5 18 (.slice a3 n3 c3) (.tmp 17) (.pointer (some ⟨w.heap.size, 3, none⟩)) (fuel := 20) rfl rfl (by kernel_rfl) (by kernel_rfl) (by kernel_rfl) (fun _ _ _ h => h) (by kernel_rfl) (by kernel_rfl) (fun ρ hr0 _ w hSw => by have m := hSw.1.2.1.cell (j := 3) (u := .slice a3 n3 c3) rfl; simp [go_sem, hr0, m]) hHeld (tf 63 26) (by kernel_rfl) (fun K hK => ?_)
      go_big_move
      refine hK.out _ ?_
      clear hK K
      refine wpAnyH_ready (rs := [6]) (fuel := 19) (by kernel_rfl) (by simp) ?_
      refine ready_want rfl (by kernel_rfl) (tf 127 26) (by kernel_rfl) (fun K hK => ?_) AllReadyH.nil
      simp only [List.getElem_toArray, List.getElem_cons_succ, List.getElem_cons_zero]
      go_big_op
      refine (CE1.out _ hHeld.1.1).mono ?_
      rintro e w6 ⟨rfl, hb⟩
      have hS := hHeld.below hb
      clear hb
      refine hK.out _ _ hS (fun hHeld => ?_)
      clear hK K
      refine fast2 7 20 (.bool false) (.tmp 14) (.bool true) (.tmp 19) (.bool false) (fuel := 18) rfl rfl (by kernel_rfl) (by kernel_rfl) (by kernel_rfl) (fun _ _ _ h => h) (by kernel_rfl) (by kernel_rfl) (by kernel_rfl) (fun ρ hr0 hr1 hc w hSw => by simp [go_sem, hc, hr0, hr1]) hHeld (tf 255 26) (by kernel_rfl) (fun K hK => ?_)
      go_big_move
      refine hK.out _ ?_
      clear hK K
      refine fast_move 8 21 (.bool false) (.tmp 20) (fuel := 17) rfl rfl (by kernel_rfl) (by kernel_rfl) (by kernel_rfl) (fun _ _ _ h => h) (by kernel_rfl) (by kernel_rfl) (by first | exact Or.inl rfl | exact Or.inr rfl) hHeld (tf 511 26) (by kernel_rfl) (fun K hK => ?_)
      go_big_move
      refine hK.out _ ?_
      clear hK K
      refine fast_skip 9 22 (fuel := 16) rfl rfl (by kernel_rfl) (by kernel_rfl) (by kernel_rfl) (fun _ _ _ h => h) (by kernel_rfl) hHeld (tf 1023 26) (by kernel_rfl) (fun K hK => ?_)
      go_big_move
      refine hK.out _ ?_
      clear hK K
      refine fast_skip 10 23 (fuel := 15) rfl rfl (by kernel_rfl) (by kernel_rfl) (by kernel_rfl) (fun _ _ _ h => h) (by kernel_rfl) hHeld (tf 2047 26) (by kernel_rfl) (fun K hK => ?_)
      go_big_move
      refine hK.out _ ?_
      clear hK K
      refine fast_skip 11 24 (fuel := 14) rfl rfl (by kernel_rfl) (by kernel_rfl) (by kernel_rfl) (fun _ _ _ h => h) (by kernel_rfl) hHeld (tf 4095 26) (by kernel_rfl) (fun K hK => ?_)
      go_big_move
      refine hK.out _ ?_
      clear hK K
      refine fast_skip 12 25 (fuel := 13) rfl rfl (by kernel_rfl) (by kernel_rfl) (by kernel_rfl) (fun _ _ _ h => h) (by kernel_rfl) hHeld (tf 8191 26) (by kernel_rfl) (fun K hK => ?_)
      go_big_move
      refine hK.out _ ?_
      clear hK K
      refine fast_skip 13 26 (fuel := 12) rfl rfl (by kernel_rfl) (by kernel_rfl) (by kernel_rfl) (fun _ _ _ h => h) (by kernel_rfl) hHeld (tf 16383 26) (by kernel_rfl) (fun K hK => ?_)
      go_big_move
      refine hK.out _ ?_
      clear hK K
      refine fast2 14 27 (.bool false) (.tmp 21) (.bool false) (.tmp 26) (undef) (fuel := 11) rfl rfl (by kernel_rfl) (by kernel_rfl) (by kernel_rfl) (fun _ _ _ h => h) (by kernel_rfl) (by kernel_rfl) (by kernel_rfl) (fun ρ hr0 hr1 hc w hSw => by simp [go_sem, hc, hr0, hr1]) hHeld (tf 32767 26) (by kernel_rfl) (fun K hK => ?_)
      go_big_move
      refine hK.out _ ?_
      clear hK K
      refine fast_move 15 28 (.bool false) (.tmp 27) (fuel := 10) rfl rfl (by kernel_rfl) (by kernel_rfl) (by kernel_rfl) (fun _ _ _ h => h) (by kernel_rfl) (by kernel_rfl) (by first | exact Or.inl rfl | exact Or.inr rfl) hHeld (tf 65535 26) (by kernel_rfl) (fun K hK => ?_)
      go_big_move
      refine hK.out _ ?_
      clear hK K
      refine fast_skip 16 29 (fuel := 9) rfl rfl (by kernel_rfl) (by kernel_rfl) (by kernel_rfl) (fun _ _ _ h => h) (by kernel_rfl) hHeld (tf 131071 26) (by kernel_rfl) (fun K hK => ?_)
      go_big_move
      refine hK.out _ ?_
      clear hK K
      refine fast_skip 17 30 (fuel := 8) rfl rfl (by kernel_rfl) (by kernel_rfl) (by kernel_rfl) (fun _ _ _ h => h) (by kernel_rfl) hHeld (tf 262143 26) (by kernel_rfl) (fun K hK => ?_)
      go_big_move
      refine hK.out _ ?_
      clear hK K
      refine fast_skip 18 31 (fuel := 7) rfl rfl (by kernel_rfl) (by kernel_rfl) (by kernel_rfl) (fun _ _ _ h => h) (by kernel_rfl) hHeld (tf 524287 26) (by kernel_rfl) (fun K hK => ?_)
      go_big_move
      refine hK.out _ ?_
      clear hK K
      refine fast_skip 19 32 (fuel := 6) rfl rfl (by kernel_rfl) (by kernel_rfl) (by kernel_rfl) (fun _ _ _ h => h) (by kernel_rfl) hHeld (tf 1048575 26) (by kernel_rfl) (fun K hK => ?_)
      go_big_move
      refine hK.out _ ?_
      clear hK K
      refine fast_skip 20 33 (fuel := 5) rfl rfl (by kernel_rfl) (by kernel_rfl) (by kernel_rfl) (fun _ _ _ h => h) (by kernel_rfl) hHeld (tf 2097151 26) (by kernel_rfl) (fun K hK => ?_)
      go_big_move
      refine hK.out _ ?_
      clear hK K
      refine fast_skip 21 34 (fuel := 4) rfl rfl (by kernel_rfl) (by kernel_rfl) (by kernel_rfl) (fun _ _ _ h => h) (by kernel_rfl) hHeld (tf 4194303 26) (by kernel_rfl) (fun K hK => ?_)
      go_big_move
      refine hK.out _ ?_
      clear hK K
      refine fast_skip 22 35 (fuel := 3) rfl rfl (by kernel_rfl) (by kernel_rfl) (by kernel_rfl) (fun _ _ _ h => h) (by kernel_rfl) hHeld (tf 8388607 26) (by kernel_rfl) (fun K hK => ?_)
      go_big_move
      refine hK.out _ ?_
      clear hK K
      refine fast_skip 23 36 (fuel := 2) rfl rfl (by kernel_rfl) (by kernel_rfl) (by kernel_rfl) (fun _ _ _ h => h) (by kernel_rfl) hHeld (tf 16777215 26) (by kernel_rfl) (fun K hK => ?_)
      go_big_move
      refine hK.out _ ?_
      clear hK K
      refine fast2 24 37 (.bool false) (.tmp 28) (.bool false) (.tmp 36) (undef) (fuel := 1) rfl rfl (by kernel_rfl) (by kernel_rfl) (by kernel_rfl) (fun _ _ _ h => h) (by kernel_rfl) (by kernel_rfl) (by kernel_rfl) (fun ρ hr0 hr1 hc w hSw => by simp [go_sem, hc, hr0, hr1]) hHeld (tf 33554431 26) (by kernel_rfl) (fun K hK => ?_)
      go_big_move
      refine hK.out _ ?_
      clear hK K
      refine fast_move 25 4 (.bool false) (.tmp 37) (fuel := 0) rfl rfl (by kernel_rfl) (by kernel_rfl) (by kernel_rfl) (fun _ _ _ h => h) (by kernel_rfl) (by kernel_rfl) (by first | exact Or.inl rfl | exact Or.inr rfl) hHeld (tf 67108863 26) (by kernel_rfl) (fun K hK => ?_)
      go_big_move
      refine hK.out _ ?_
      clear hK K
      refine wpAnyH_done (by kernel_rfl) ?_ _
      go_wp2_with fail
      go_ret
      exact ⟨ret_bool (by rw [HR.out]; rfl), hHeld.1.1⟩
    | true =>
      cases s2 with
      | false =>
        refine wp_region_tf (S := fun w' => LegS w w' (iaC st it a2 n2 c2 a3 n3 c3 a4 n4 c4 a5 n5 c5) (iaC su iu b2 m2 d2 b3 m3 d3 b4 m4 d4 b5 m5 d5) (iaC tst tit xa2 tins.length xc2 xa3 touts.length xc3 xa4 thids.length xc4 xa5 tsteps.length xc5) w4.heap.size ⟨tst, tit, tins, touts, thids, tsteps⟩) 26 (by kernel_rfl) (by kernel_rfl) (by kernel_rfl) SD (fun hHeld => ?_)
        refine fast_move 0 13 (.bool true) (.tmp 6) (fuel := 25) rfl rfl (by kernel_rfl) (by kernel_rfl) (by kernel_rfl) (fun _ _ _ h => h) (by kernel_rfl) (by kernel_rfl) (by first | exact Or.inl rfl | exact Or.inr rfl) hHeld (tf 1 26) (by kernel_rfl) (fun K hK => ?_)
        go_big_move
        refine hK.out _ ?_
        clear hK K
        refine fast_move 1 14 (.bool true) (.tmp 13) (fuel := 24) rfl rfl (by kernel_rfl) (by kernel_rfl) (by kernel_rfl) (fun _ _ _ h => h) (by kernel_rfl) (by kernel_rfl) (by first | exact Or.inl rfl | exact Or.inr rfl) hHeld (tf 3 26) (by kernel_rfl) (fun K hK => ?_)
        go_big_move
        refine hK.out _ ?_
        clear hK K
        refine fast1 2 15 (.pointer (some ⟨w.heap.size + 1, 2, none⟩)) (.tmp 3) (.pointer (some ⟨w.heap.size + 1, 0, none⟩)) (fuel := 23) rfl rfl (by kernel_rfl) (by kernel_rfl) (by kernel_rfl) (fun _ _ _ h => h) (by kernel_rfl) (by kernel_rfl) (fun ρ hr0 _ w hSw => by simp [go_sem, hr0]) hHeld (tf 7 26) (by kernel_rfl) (fun K hK => ?_)
        go_big_move
        refine hK.out _ ?_
        clear hK K
        refine fast1 3 16 (.slice b2 m2 d2) (.tmp 15) (.pointer (some ⟨w.heap.size + 1, 2, none⟩)) (fuel := 22) rfl rfl (by kernel_rfl) (by kernel_rfl) (by kernel_rfl) (fun _ _ _ h => h) (by kernel_rfl) (by kernel_rfl) (fun ρ hr0 _ w hSw => by have m := hSw.1.2.2.cell (j := 2) (u := .slice b2 m2 d2) rfl; simp [go_sem, hr0, m]) hHeld (tf 15 26) (by kernel_rfl) (fun K hK => ?_)
        go_big_move
        refine hK.out _ ?_
        clear hK K
        refine fast1 4 17 (.pointer (some ⟨w.heap.size, 3, none⟩)) (.tmp 2) (.pointer (some ⟨w.heap.size, 0, none⟩)) (fuel := 21) rfl rfl (by kernel_rfl) (by kernel_rfl) (by kernel_rfl) (fun _ _ _ h => h) (by kernel_rfl) (by kernel_rfl) (fun ρ hr0 _ w hSw => by simp [go_sem, hr0]) hHeld (tf 31 26) (by kernel_rfl) (fun K hK => ?_)
        go_big_move
        refine hK.out _ ?_
        clear hK K
        refine fast1 5 18 (.slice a3 n3 c3) (.tmp 17) (.pointer (some ⟨w.heap.size, 3, none⟩)) (fuel := 20) rfl rfl (by kernel_rfl) (by kernel_rfl) (by kernel_rfl) (fun _ _ _ h => h) (by kernel_rfl) (by kernel_rfl) (fun ρ hr0 _ w hSw => by have m := hSw.1.2.1.cell (j := 3) (u := .slice a3 n3 c3) rfl; simp [go_sem, hr0, m]) hHeld (tf 63 26) (by kernel_rfl) (fun K hK => ?_)
        go_big_move
        refine hK.out _ ?_
        clear hK K
        refine wpAnyH_ready (rs := [6]) (fuel := 19) (by kernel_rfl) (by simp) ?_
        refine ready_want rfl (by kernel_rfl) (tf 127 26) (by kernel_rfl) (fun K hK => ?_) AllReadyH.nil
        simp only [List.getElem_toArray, List.getElem_cons_succ, List.getElem_cons_zero]
        go_big_op
        refine (CE1.out _ hHeld.1.1).mono ?_
        rintro e w6 ⟨rfl, hb⟩
        have hS := hHeld.below hb
        clear hb
        refine hK.out _ _ hS (fun hHeld => ?_)
        clear hK K
        refine fast2 7 20 (.bool true) (.tmp 14) (.bool true) (.tmp 19) (.bool true) (fuel := 18) rfl rfl (by kernel_rfl) (by kernel_rfl) (by kernel_rfl) (fun _ _ _ h => h) (by kernel_rfl) (by kernel_rfl) (by kernel_rfl) (fun ρ hr0 hr1 hc w hSw => by simp [go_sem, hc, hr0, hr1]) hHeld (tf 255 26) (by kernel_rfl) (fun K hK => ?_)
        go_big_move
        refine hK.out _ ?_
        clear hK K
        refine fast_move 8 21 (.bool true) (.tmp 20) (fuel := 17) rfl rfl (by kernel_rfl) (by kernel_rfl) (by kernel_rfl) (fun _ _ _ h => h) (by kernel_rfl) (by kernel_rfl) (by first | exact Or.inl rfl | exact Or.inr rfl) hHeld (tf 511 26) (by kernel_rfl) (fun K hK => ?_)
        go_big_move
        refine hK.out _ ?_
        clear hK K
        refine fast1 9 22 (.pointer (some ⟨w.heap.size + 1, 3, none⟩)) (.tmp 3) (.pointer (some ⟨w.heap.size + 1, 0, none⟩)) (fuel := 16) rfl rfl (by kernel_rfl) (by kernel_rfl) (by kernel_rfl) (fun _ _ _ h => h) (by kernel_rfl) (by kernel_rfl) (fun ρ hr0 _ w hSw => by simp [go_sem, hr0]) hHeld (tf 1023 26) (by kernel_rfl) (fun K hK => ?_)
        go_big_move
        refine hK.out _ ?_
        clear hK K
        refine fast1 10 23 (.slice b3 m3 d3) (.tmp 22) (.pointer (some ⟨w.heap.size + 1, 3, none⟩)) (fuel := 15) rfl rfl (by kernel_rfl) (by kernel_rfl) (by kernel_rfl) (fun _ _ _ h => h) (by kernel_rfl) (by kernel_rfl) (fun ρ hr0 _ w hSw => by have m := hSw.1.2.2.cell (j := 3) (u := .slice b3 m3 d3) rfl; simp [go_sem, hr0, m]) hHeld (tf 2047 26) (by kernel_rfl) (fun K hK => ?_)
        go_big_move
        refine hK.out _ ?_
        clear hK K
        refine fast1 11 24 (.pointer (some ⟨w.heap.size, 2, none⟩)) (.tmp 2) (.pointer (some ⟨w.heap.size, 0, none⟩)) (fuel := 14) rfl rfl (by kernel_rfl) (by kernel_rfl) (by kernel_rfl) (fun _ _ _ h => h) (by kernel_rfl) (by kernel_rfl) (fun ρ hr0 _ w hSw => by simp [go_sem, hr0]) hHeld (tf 4095 26) (by kernel_rfl) (fun K hK => ?_)
        go_big_move
        refine hK.out _ ?_
        clear hK K
        refine fast1 12 25 (.slice a2 n2 c2) (.tmp 24) (.pointer (some ⟨w.heap.size, 2, none⟩)) (fuel := 13) rfl rfl (by kernel_rfl) (by kernel_rfl) (by kernel_rfl) (fun _ _ _ h => h) (by kernel_rfl) (by kernel_rfl) (fun ρ hr0 _ w hSw => by have m := hSw.1.2.1.cell (j := 2) (u := .slice a2 n2 c2) rfl; simp [go_sem, hr0, m]) hHeld (tf 8191 26) (by kernel_rfl) (fun K hK => ?_)
        go_big_move
        refine hK.out _ ?_
        clear hK K
        refine wpAnyH_ready (rs := [13]) (fuel := 12) (by kernel_rfl) (by simp) ?_
        refine ready_want rfl (by kernel_rfl) (tf 16383 26) (by kernel_rfl) (fun K hK => ?_) AllReadyH.nil
        simp only [List.getElem_toArray, List.getElem_cons_succ, List.getElem_cons_zero]
        go_big_op
        refine (CE2.out _ hHeld.1.1).mono ?_
        rintro e w7 ⟨rfl, hb⟩
        have hS := hHeld.below hb
        clear hb
        refine hK.out _ _ hS (fun hHeld => ?_)
        clear hK K
        refine fast2 14 27 (.bool false) (.tmp 21) (.bool true) (.tmp 26) (.bool false) (fuel := 11) rfl rfl (by kernel_rfl) (by kernel_rfl) (by kernel_rfl) (fun _ _ _ h => h) (by kernel_rfl) (by kernel_rfl) (by kernel_rfl) (fun ρ hr0 hr1 hc w hSw => by simp [go_sem, hc, hr0, hr1]) hHeld (tf 32767 26) (by kernel_rfl) (fun K hK => ?_)
        go_big_move
        refine hK.out _ ?_
        clear hK K
        refine fast_move 15 28 (.bool false) (.tmp 27) (fuel := 10) rfl rfl (by kernel_rfl) (by kernel_rfl) (by kernel_rfl) (fun _ _ _ h => h) (by kernel_rfl) (by kernel_rfl) (by first | exact Or.inl rfl | exact Or.inr rfl) hHeld (tf 65535 26) (by kernel_rfl) (fun K hK => ?_)
        go_big_move
        refine hK.out _ ?_
        clear hK K
        refine fast_skip 16 29 (fuel := 9) rfl rfl (by kernel_rfl) (by kernel_rfl) (by kernel_rfl) (fun _ _ _ h => h) (by kernel_rfl) hHeld (tf 131071 26) (by kernel_rfl) (fun K hK => ?_)
        go_big_move
        refine hK.out _ ?_
        clear hK K
        refine fast_skip 17 30 (fuel := 8) rfl rfl (by kernel_rfl) (by kernel_rfl) (by kernel_rfl) (fun _ _ _ h => h) (by kernel_rfl) hHeld (tf 262143 26) (by kernel_rfl) (fun K hK => ?_)
        go_big_move
        refine hK.out _ ?_
        clear hK K
        refine fast_skip 18 31 (fuel := 7) rfl rfl (by kernel_rfl) (by kernel_rfl) (by kernel_rfl) (fun _ _ _ h => h) (by kernel_rfl) hHeld (tf 524287 26) (by kernel_rfl) (fun K hK => ?_)
        go_big_move
        refine hK.out _ ?_
        clear hK K
        refine fast_skip 19 32 (fuel := 6) rfl rfl (by kernel_rfl) (by kernel_rfl) (by kernel_rfl) (fun _ _ _ h => h) (by kernel_rfl) hHeld (tf 1048575 26) (by kernel_rfl) (fun K hK => ?_)
        go_big_move
        refine hK.out _ ?_
        clear hK K
        refine fast_skip 20 33 (fuel := 5) rfl rfl (by kernel_rfl) (by kernel_rfl) (by kernel_rfl) (fun _ _ _ h => h) (by kernel_rfl) hHeld (tf 2097151 26) (by kernel_rfl) (fun K hK => ?_)
        go_big_move
        refine hK.out _ ?_
        clear hK K
        refine fast_skip 21 34 (fuel := 4) rfl rfl (by kernel_rfl) (by kernel_rfl) (by kernel_rfl) (fun _ _ _ h => h) (by kernel_rfl) hHeld (tf 4194303 26) (by kernel_rfl) (fun K hK => ?_)
        go_big_move
        refine hK.out _ ?_
        clear hK K
        refine fast_skip 22 35 (fuel := 3) rfl rfl (by kernel_rfl) (by kernel_rfl) (by kernel_rfl) (fun _ _ _ h => h) (by kernel_rfl) hHeld (tf 8388607 26) (by kernel_rfl) (fun K hK => ?_)
        go_big_move
        refine hK.out _ ?_
        clear hK K
        refine fast_skip 23 36 (fuel := 2) rfl rfl (by kernel_rfl) (by kernel_rfl) (by kernel_rfl) (fun _ _ _ h => h) (by kernel_rfl) hHeld (tf 16777215 26) (by kernel_rfl) (fun K hK => ?_)
        go_big_move
        refine hK.out _ ?_
        clear hK K
        refine fast2 24 37 (.bool false) (.tmp 28) (.bool false) (.tmp 36) (undef) (fuel := 1) rfl rfl (by kernel_rfl) (by kernel_rfl) (by kernel_rfl) (fun _ _ _ h => h) (by kernel_rfl) (by kernel_rfl) (by kernel_rfl) (fun ρ hr0 hr1 hc w hSw => by simp [go_sem, hc, hr0, hr1]) hHeld (tf 33554431 26) (by kernel_rfl) (fun K hK => ?_)
        go_big_move
        refine hK.out _ ?_
        clear hK K
        refine fast_move 25 4 (.bool false) (.tmp 37) (fuel := 0) rfl rfl (by kernel_rfl) (by kernel_rfl) (by kernel_rfl) (fun _ _ _ h => h) (by kernel_rfl) (by kernel_rfl) (by first | exact Or.inl rfl | exact Or.inr rfl) hHeld (tf 67108863 26) (by kernel_rfl) (fun K hK => ?_)
        go_big_move
        refine hK.out _ ?_
        clear hK K
        refine wpAnyH_done (by kernel_rfl) ?_ _
        go_wp2_with fail
        go_ret
        exact ⟨ret_bool (by rw [HR.out]; rfl), hHeld.1.1⟩
      | true =>
        clear hx
        by_cases hz : x = 0
        · subst hz
          refine wp_region_tf (S := fun w' => LegS w w' (iaC st it a2 n2 c2 a3 n3 c3 a4 n4 c4 a5 n5 c5) (iaC su iu b2 m2 d2 b3 m3 d3 b4 m4 d4 b5 m5 d5) (iaC tst tit xa2 tins.length xc2 xa3 touts.length xc3 xa4 thids.length xc4 xa5 tsteps.length xc5) w4.heap.size ⟨tst, tit, tins, touts, thids, tsteps⟩) 26 (by kernel_rfl) (by kernel_rfl) (by kernel_rfl) SD (fun hHeld => ?_)
          refine fast_move 0 13 (.bool true) (.tmp 6) (fuel := 25) rfl rfl (by kernel_rfl) (by kernel_rfl) (by kernel_rfl) (fun _ _ _ h => h) (by kernel_rfl) (by kernel_rfl) (by first | exact Or.inl rfl | exact Or.inr rfl) hHeld (tf 1 26) (by kernel_rfl) (fun K hK => ?_)
          go_big_move
          refine hK.out _ ?_
          clear hK K
          refine fast_move 1 14 (.bool true) (.tmp 13) (fuel := 24) rfl rfl (by kernel_rfl) (by kernel_rfl) (by kernel_rfl) (fun _ _ _ h => h) (by kernel_rfl) (by kernel_rfl) (by first | exact Or.inl rfl | exact Or.inr rfl) hHeld (tf 3 26) (by kernel_rfl) (fun K hK => ?_)
          go_big_move
          refine hK.out _ ?_
          clear hK K
          refine fast1 2 15 (.pointer (some ⟨w.heap.size + 1, 2, none⟩)) (.tmp 3) (.pointer (some ⟨w.heap.size + 1, 0, none⟩)) (fuel := 23) rfl rfl (by kernel_rfl) (by kernel_rfl) (by kernel_rfl) (fun _ _ _ h => h) (by kernel_rfl) (by kernel_rfl) (fun ρ hr0 _ w hSw => by simp [go_sem, hr0]) hHeld (tf 7 26) (by kernel_rfl) (fun K hK => ?_)
          go_big_move
          refine hK.out _ ?_
          clear hK K
          refine fast1 3 16 (.slice b2 m2 d2) (.tmp 15) (.pointer (some ⟨w.heap.size + 1, 2, none⟩)) (fuel := 22) rfl rfl (by kernel_rfl) (by kernel_rfl) (by kernel_rfl) (fun _ _ _ h => h) (by kernel_rfl) (by kernel_rfl) (fun ρ hr0 _ w hSw => by have m := hSw.1.2.2.cell (j := 2) (u := .slice b2 m2 d2) rfl; simp [go_sem, hr0, m]) hHeld (tf 15 26) (by kernel_rfl) (fun K hK => ?_)
          go_big_move
          refine hK.out _ ?_
          clear hK K
          refine fast1 4 17 (.pointer (some ⟨w.heap.size, 3, none⟩)) (.tmp 2) (.pointer (some ⟨w.heap.size, 0, none⟩)) (fuel := 21) rfl rfl (by kernel_rfl) (by kernel_rfl) (by kernel_rfl) (fun _ _ _ h => h) (by kernel_rfl) (by kernel_rfl) (fun ρ hr0 _ w hSw => by simp [go_sem, hr0]) hHeld (tf 31 26) (by kernel_rfl) (fun K hK => ?_)
          go_big_move
          refine hK.out _ ?_
          clear hK K
          refine fast1 5 18 (.slice a3 n3 c3) (.tmp 17) (.pointer (some ⟨w.heap.size, 3, none⟩)) (fuel := 20) rfl rfl (by kernel_rfl) (by kernel_rfl) (by kernel_rfl) (fun _ _ _ h => h) (by kernel_rfl) (by kernel_rfl) (fun ρ hr0 _ w hSw => by have m := hSw.1.2.1.cell (j := 3) (u := .slice a3 n3 c3) rfl; simp [go_sem, hr0, m]) hHeld (tf 63 26) (by kernel_rfl) (fun K hK => ?_)
          go_big_move
          refine hK.out _ ?_
          clear hK K
          refine wpAnyH_ready (rs := [6]) (fuel := 19) (by kernel_rfl) (by simp) ?_
          refine ready_want rfl (by kernel_rfl) (tf 127 26) (by kernel_rfl) (fun K hK => ?_) AllReadyH.nil
          simp only [List.getElem_toArray, List.getElem_cons_succ, List.getElem_cons_zero]
          go_big_op
          refine (CE1.out _ hHeld.1.1).mono ?_
          rintro e wp1 ⟨rfl, hb⟩
          have hS1 := hHeld.below hb
          clear hb 
          refine hK.out _ _ hS1 (fun hHeld => ?_)
          clear hK K hS1
          refine fast2 7 20 (.bool true) (.tmp 14) (.bool true) (.tmp 19) (.bool true) (fuel := 18) rfl rfl (by kernel_rfl) (by kernel_rfl) (by kernel_rfl) (fun _ _ _ h => h) (by kernel_rfl) (by kernel_rfl) (by kernel_rfl) (fun ρ hr0 hr1 hc w hSw => by simp [go_sem, hc, hr0, hr1]) hHeld (tf 255 26) (by kernel_rfl) (fun K hK => ?_)
          go_big_move
          refine hK.out _ ?_
          clear hK K
          refine fast_move 8 21 (.bool true) (.tmp 20) (fuel := 17) rfl rfl (by kernel_rfl) (by kernel_rfl) (by kernel_rfl) (fun _ _ _ h => h) (by kernel_rfl) (by kernel_rfl) (by first | exact Or.inl rfl | exact Or.inr rfl) hHeld (tf 511 26) (by kernel_rfl) (fun K hK => ?_)
          go_big_move
          refine hK.out _ ?_
          clear hK K
          refine fast1 9 22 (.pointer (some ⟨w.heap.size + 1, 3, none⟩)) (.tmp 3) (.pointer (some ⟨w.heap.size + 1, 0, none⟩)) (fuel := 16) rfl rfl (by kernel_rfl) (by kernel_rfl) (by kernel_rfl) (fun _ _ _ h => h) (by kernel_rfl) (by kernel_rfl) (fun ρ hr0 _ w hSw => by simp [go_sem, hr0]) hHeld (tf 1023 26) (by kernel_rfl) (fun K hK => ?_)
          go_big_move
          refine hK.out _ ?_
          clear hK K
          refine fast1 10 23 (.slice b3 m3 d3) (.tmp 22) (.pointer (some ⟨w.heap.size + 1, 3, none⟩)) (fuel := 15) rfl rfl (by kernel_rfl) (by kernel_rfl) (by kernel_rfl) (fun _ _ _ h => h) (by kernel_rfl) (by kernel_rfl) (fun ρ hr0 _ w hSw => by have m := hSw.1.2.2.cell (j := 3) (u := .slice b3 m3 d3) rfl; simp [go_sem, hr0, m]) hHeld (tf 2047 26) (by kernel_rfl) (fun K hK => ?_)
          go_big_move
          refine hK.out _ ?_
          clear hK K
          refine fast1 11 24 (.pointer (some ⟨w.heap.size, 2, none⟩)) (.tmp 2) (.pointer (some ⟨w.heap.size, 0, none⟩)) (fuel := 14) rfl rfl (by kernel_rfl) (by kernel_rfl) (by kernel_rfl) (fun _ _ _ h => h) (by kernel_rfl) (by kernel_rfl) (fun ρ hr0 _ w hSw => by simp [go_sem, hr0]) hHeld (tf 4095 26) (by kernel_rfl) (fun K hK => ?_)
          go_big_move
          refine hK.out _ ?_
          clear hK K
          refine fast1 12 25 (.slice a2 n2 c2) (.tmp 24) (.pointer (some ⟨w.heap.size, 2, none⟩)) (fuel := 13) rfl rfl (by kernel_rfl) (by kernel_rfl) (by kernel_rfl) (fun _ _ _ h => h) (by kernel_rfl) (by kernel_rfl) (fun ρ hr0 _ w hSw => by have m := hSw.1.2.1.cell (j := 2) (u := .slice a2 n2 c2) rfl; simp [go_sem, hr0, m]) hHeld (tf 8191 26) (by kernel_rfl) (fun K hK => ?_)
          go_big_move
          refine hK.out _ ?_
          clear hK K
          refine wpAnyH_ready (rs := [13]) (fuel := 12) (by kernel_rfl) (by simp) ?_
          refine ready_want rfl (by kernel_rfl) (tf 16383 26) (by kernel_rfl) (fun K hK => ?_) AllReadyH.nil
          simp only [List.getElem_toArray, List.getElem_cons_succ, List.getElem_cons_zero]
          go_big_op
          refine (CE2.out _ hHeld.1.1).mono ?_
          rintro e wp2 ⟨rfl, hb⟩
          have hS2 := hHeld.below hb
          clear hb 
          refine hK.out _ _ hS2 (fun hHeld => ?_)
          clear hK K hS2
          refine fast2 14 27 (.bool true) (.tmp 21) (.bool true) (.tmp 26) (.bool true) (fuel := 11) rfl rfl (by kernel_rfl) (by kernel_rfl) (by kernel_rfl) (fun _ _ _ h => h) (by kernel_rfl) (by kernel_rfl) (by kernel_rfl) (fun ρ hr0 hr1 hc w hSw => by simp [go_sem, hc, hr0, hr1]) hHeld (tf 32767 26) (by kernel_rfl) (fun K hK => ?_)
          go_big_move
          refine hK.out _ ?_
          clear hK K
          refine fast_move 15 28 (.bool true) (.tmp 27) (fuel := 10) rfl rfl (by kernel_rfl) (by kernel_rfl) (by kernel_rfl) (fun _ _ _ h => h) (by kernel_rfl) (by kernel_rfl) (by first | exact Or.inl rfl | exact Or.inr rfl) hHeld (tf 65535 26) (by kernel_rfl) (fun K hK => ?_)
          go_big_move
          refine hK.out _ ?_
          clear hK K
          refine fast_yields 16 29 (.agg #[.int .i64 tst, .int .i64 tit, .slice xa2 tins.length xc2, .slice xa3 touts.length xc3, .slice xa4 thids.length xc4, .slice xa5 tsteps.length xc5]) (fuel := 9) rfl rfl (by kernel_rfl) (by kernel_rfl) (by kernel_rfl) (fun _ _ _ h => h) (yieldsIf_load_mid (by rfl) _ _ rfl (w4.heap.size) 0 rfl (iaC tst tit xa2 tins.length xc2 xa3 touts.length xc3 xa4 thids.length xc4 xa5 tsteps.length xc5).toList _ (fun w hw => hw.2.1.range) Tryz.underlying29 rfl (by kernel_rfl)) hHeld (tf 131071 26) (by kernel_rfl) (fun K hK => ?_)
          go_big_move
          refine hK.out _ ?_
          clear hK K
          refine fast_yields 18 31 (.agg #[.int .i64 st, .int .i64 it, .slice a2 n2 c2, .slice a3 n3 c3, .slice a4 n4 c4, .slice a5 n5 c5]) (fuel := 8) rfl rfl (by kernel_rfl) (by kernel_rfl) (by kernel_rfl) (fun _ _ _ h => h) (yieldsIf_load_mid (by rfl) _ _ rfl (w.heap.size) 0 rfl (iaC st it a2 n2 c2 a3 n3 c3 a4 n4 c4 a5 n5 c5).toList _ (fun w hw => hw.1.2.1.range) Tryz.underlying29 rfl (by kernel_rfl)) hHeld (tf 393215 26) (by kernel_rfl) (fun K hK => ?_)
          go_big_move
          refine hK.out _ ?_
          clear hK K
          refine fast_yields 19 32 (.agg #[.int .i64 su, .int .i64 iu, .slice b2 m2 d2, .slice b3 m3 d3, .slice b4 m4 d4, .slice b5 m5 d5]) (fuel := 7) rfl rfl (by kernel_rfl) (by kernel_rfl) (by kernel_rfl) (fun _ _ _ h => h) (yieldsIf_load_mid (by rfl) _ _ rfl (w.heap.size + 1) 0 rfl (iaC su iu b2 m2 d2 b3 m3 d3 b4 m4 d4 b5 m5 d5).toList _ (fun w hw => hw.1.2.2.range) Tryz.underlying29 rfl (by kernel_rfl)) hHeld (tf 917503 26) (by kernel_rfl) (fun K hK => ?_)
          go_big_move
          refine hK.out _ ?_
          clear hK K
          refine wpAnyH_ready (rs := [17]) (fuel := 6) (by kernel_rfl) (by simp) ?_
          refine ready_want rfl (by kernel_rfl) (tf 1048575 26) (by kernel_rfl) (fun K hK => ?_) AllReadyH.nil
          simp only [List.getElem_toArray, List.getElem_cons_succ, List.getElem_cons_zero]
          go_big_op
          refine (CR.out _ _ hHeld.2.2.rowIa).mono ?_
          rintro e wp3 ⟨ad3, cc3, rfl, hr, hb⟩
          have rr3 : Hid (Row wp3 ad3 RL.length RL) := hr
          have hS3 := hHeld.below hb
          clear hb hr
          refine hK.out _ _ hS3 (fun hHeld => ?_)
          clear hK K hS3
          refine wpAnyH_ready (rs := [20]) (fuel := 5) (by kernel_rfl) (by simp) ?_
          refine ready_want rfl (by kernel_rfl) (tf 2097151 26) (by kernel_rfl) (fun K hK => ?_) AllReadyH.nil
          simp only [List.getElem_toArray, List.getElem_cons_succ, List.getElem_cons_zero]
          go_big_op
          refine (CC.out _ hHeld.1.1).mono ?_
          rintro e wp4 ⟨ad4, cc4, rfl, hr, hb⟩
          have rr4 : Hid (Row wp4 ad3 RL.length RL) := rr3.out.below (hb)
          have rc4 : Hid (Row wp4 ad4 CL.length CL) := hr
          have hS4 := hHeld.below hb
          clear hb hr
          refine hK.out _ _ hS4 (fun hHeld => ?_)
          clear hK K hS4
          refine wpAnyH_ready (rs := [21]) (fuel := 4) (by kernel_rfl) (by simp) ?_
          refine ready_want rfl (by kernel_rfl) (tf 4194303 26) (by kernel_rfl) (fun K hK => ?_) AllReadyH.nil
          simp only [List.getElem_toArray, List.getElem_cons_succ, List.getElem_cons_zero]
          go_big_op
          refine (CM.out _ _ _ _ _ rr4.out rc4.out).mono ?_
          rintro e wp5 ⟨ad5, cc5, rfl, hb⟩
          have rr5 : Hid (Row wp5 ad3 RL.length RL) := rr4.out.below (hb)
          have rc5 : Hid (Row wp5 ad4 CL.length CL) := rc4.out.below (hb)
          have hS5 := hHeld.below hb
          clear hb 
          refine hK.out _ _ hS5 (fun hHeld => ?_)
          clear hK K hS5
          refine fast1 22 35 (.int .i64 0) (.tmp 34) (.slice ad5 0 cc5) (fuel := 3) rfl rfl (by kernel_rfl) (by kernel_rfl) (by kernel_rfl) (fun _ _ _ h => h) (by kernel_rfl) (by kernel_rfl) (fun ρ hr0 _ w hSw => by simp [go_sem, hr0]) hHeld (tf 8388607 26) (by kernel_rfl) (fun K hK => ?_)
          go_big_move
          refine hK.out _ ?_
          clear hK K
          refine fast1 23 36 (.bool true) (.tmp 35) (.int .i64 0) (fuel := 2) rfl rfl (by kernel_rfl) (by kernel_rfl) (by kernel_rfl) (fun _ _ _ h => h) (by kernel_rfl) (by kernel_rfl) (fun ρ hr0 hc w hSw => by simp [go_sem, hc, hr0]) hHeld (tf 16777215 26) (by kernel_rfl) (fun K hK => ?_)
          go_big_move
          refine hK.out _ ?_
          clear hK K
          refine fast2 24 37 (.bool true) (.tmp 28) (.bool true) (.tmp 36) (.bool true) (fuel := 1) rfl rfl (by kernel_rfl) (by kernel_rfl) (by kernel_rfl) (fun _ _ _ h => h) (by kernel_rfl) (by kernel_rfl) (by kernel_rfl) (fun ρ hr0 hr1 hc w hSw => by simp [go_sem, hc, hr0, hr1]) hHeld (tf 33554431 26) (by kernel_rfl) (fun K hK => ?_)
          go_big_move
          refine hK.out _ ?_
          clear hK K
          refine fast_move 25 4 (.bool true) (.tmp 37) (fuel := 0) rfl rfl (by kernel_rfl) (by kernel_rfl) (by kernel_rfl) (fun _ _ _ h => h) (by kernel_rfl) (by kernel_rfl) (by first | exact Or.inl rfl | exact Or.inr rfl) hHeld (tf 67108863 26) (by kernel_rfl) (fun K hK => ?_)
          go_big_move
          refine hK.out _ ?_
          clear hK K
          refine wpAnyH_done (by kernel_rfl) ?_ _
          go_wp2_with fail
          go_ret
          exact ⟨ret_bool (by rw [HR.out]; try simp), hHeld.1.1⟩
        · have hd : (((x : Nat) : Int) == 0) = false := by simp; omega
          have HZ := Lib.hid hz
          clear hz
          refine wp_region_tf (S := fun w' => LegS w w' (iaC st it a2 n2 c2 a3 n3 c3 a4 n4 c4 a5 n5 c5) (iaC su iu b2 m2 d2 b3 m3 d3 b4 m4 d4 b5 m5 d5) (iaC tst tit xa2 tins.length xc2 xa3 touts.length xc3 xa4 thids.length xc4 xa5 tsteps.length xc5) w4.heap.size ⟨tst, tit, tins, touts, thids, tsteps⟩) 26 (by kernel_rfl) (by kernel_rfl) (by kernel_rfl) SD (fun hHeld => ?_)
          refine fast_move 0 13 (.bool true) (.tmp 6) (fuel := 25) rfl rfl (by kernel_rfl) (by kernel_rfl) (by kernel_rfl) (fun _ _ _ h => h) (by kernel_rfl) (by kernel_rfl) (by first | exact Or.inl rfl | exact Or.inr rfl) hHeld (tf 1 26) (by kernel_rfl) (fun K hK => ?_)
          go_big_move
          refine hK.out _ ?_
          clear hK K
          refine fast_move 1 14 (.bool true) (.tmp 13) (fuel := 24) rfl rfl (by kernel_rfl) (by kernel_rfl) (by kernel_rfl) (fun _ _ _ h => h) (by kernel_rfl) (by kernel_rfl) (by first | exact Or.inl rfl | exact Or.inr rfl) hHeld (tf 3 26) (by kernel_rfl) (fun K hK => ?_)
          go_big_move
          refine hK.out _ ?_
          clear hK K
          refine fast1 2 15 (.pointer (some ⟨w.heap.size + 1, 2, none⟩)) (.tmp 3) (.pointer (some ⟨w.heap.size + 1, 0, none⟩)) (fuel := 23) rfl rfl (by kernel_rfl) (by kernel_rfl) (by kernel_rfl) (fun _ _ _ h => h) (by kernel_rfl) (by kernel_rfl) (fun ρ hr0 _ w hSw => by simp [go_sem, hr0]) hHeld (tf 7 26) (by kernel_rfl) (fun K hK => ?_)
          go_big_move
          refine hK.out _ ?_
          clear hK K
          refine fast1 3 16 (.slice b2 m2 d2) (.tmp 15) (.pointer (some ⟨w.heap.size + 1, 2, none⟩)) (fuel := 22) rfl rfl (by kernel_rfl) (by kernel_rfl) (by kernel_rfl) (fun _ _ _ h => h) (by kernel_rfl) (by kernel_rfl) (fun ρ hr0 _ w hSw => by have m := hSw.1.2.2.cell (j := 2) (u := .slice b2 m2 d2) rfl; simp [go_sem, hr0, m]) hHeld (tf 15 26) (by kernel_rfl) (fun K hK => ?_)
          go_big_move
          refine hK.out _ ?_
          clear hK K
          refine fast1 4 17 (.pointer (some ⟨w.heap.size, 3, none⟩)) (.tmp 2) (.pointer (some ⟨w.heap.size, 0, none⟩)) (fuel := 21) rfl rfl (by kernel_rfl) (by kernel_rfl) (by kernel_rfl) (fun _ _ _ h => h) (by kernel_rfl) (by kernel_rfl) (fun ρ hr0 _ w hSw => by simp [go_sem, hr0]) hHeld (tf 31 26) (by kernel_rfl) (fun K hK => ?_)
          go_big_move
          refine hK.out _ ?_
          clear hK K
          refine fast1 5 18 (.slice a3 n3 c3) (.tmp 17) (.pointer (some ⟨w.heap.size, 3, none⟩)) (fuel := 20) rfl rfl (by kernel_rfl) (by kernel_rfl) (by kernel_rfl) (fun _ _ _ h => h) (by kernel_rfl) (by kernel_rfl) (fun ρ hr0 _ w hSw => by have m := hSw.1.2.1.cell (j := 3) (u := .slice a3 n3 c3) rfl; simp [go_sem, hr0, m]) hHeld (tf 63 26) (by kernel_rfl) (fun K hK => ?_)
          go_big_move
          refine hK.out _ ?_
          clear hK K
          refine wpAnyH_ready (rs := [6]) (fuel := 19) (by kernel_rfl) (by simp) ?_
          refine ready_want rfl (by kernel_rfl) (tf 127 26) (by kernel_rfl) (fun K hK => ?_) AllReadyH.nil
          simp only [List.getElem_toArray, List.getElem_cons_succ, List.getElem_cons_zero]
          go_big_op
          refine (CE1.out _ hHeld.1.1).mono ?_
          rintro e wp1 ⟨rfl, hb⟩
          have hS1 := hHeld.below hb
          clear hb 
          refine hK.out _ _ hS1 (fun hHeld => ?_)
          clear hK K hS1
          refine fast2 7 20 (.bool true) (.tmp 14) (.bool true) (.tmp 19) (.bool true) (fuel := 18) rfl rfl (by kernel_rfl) (by kernel_rfl) (by kernel_rfl) (fun _ _ _ h => h) (by kernel_rfl) (by kernel_rfl) (by kernel_rfl) (fun ρ hr0 hr1 hc w hSw => by simp [go_sem, hc, hr0, hr1]) hHeld (tf 255 26) (by kernel_rfl) (fun K hK => ?_)
          go_big_move
          refine hK.out _ ?_
          clear hK K
          refine fast_move 8 21 (.bool true) (.tmp 20) (fuel := 17) rfl rfl (by kernel_rfl) (by kernel_rfl) (by kernel_rfl) (fun _ _ _ h => h) (by kernel_rfl) (by kernel_rfl) (by first | exact Or.inl rfl | exact Or.inr rfl) hHeld (tf 511 26) (by kernel_rfl) (fun K hK => ?_)
          go_big_move
          refine hK.out _ ?_
          clear hK K
          refine fast1 9 22 (.pointer (some ⟨w.heap.size + 1, 3, none⟩)) (.tmp 3) (.pointer (some ⟨w.heap.size + 1, 0, none⟩)) (fuel := 16) rfl rfl (by kernel_rfl) (by kernel_rfl) (by kernel_rfl) (fun _ _ _ h => h) (by kernel_rfl) (by kernel_rfl) (fun ρ hr0 _ w hSw => by simp [go_sem, hr0]) hHeld (tf 1023 26) (by kernel_rfl) (fun K hK => ?_)
          go_big_move
          refine hK.out _ ?_
          clear hK K
          refine fast1 10 23 (.slice b3 m3 d3) (.tmp 22) (.pointer (some ⟨w.heap.size + 1, 3, none⟩)) (fuel := 15) rfl rfl (by kernel_rfl) (by kernel_rfl) (by kernel_rfl) (fun _ _ _ h => h) (by kernel_rfl) (by kernel_rfl) (fun ρ hr0 _ w hSw => by have m := hSw.1.2.2.cell (j := 3) (u := .slice b3 m3 d3) rfl; simp [go_sem, hr0, m]) hHeld (tf 2047 26) (by kernel_rfl) (fun K hK => ?_)
          go_big_move
          refine hK.out _ ?_
          clear hK K
          refine fast1 11 24 (.pointer (some ⟨w.heap.size, 2, none⟩)) (.tmp 2) (.pointer (some ⟨w.heap.size, 0, none⟩)) (fuel := 14) rfl rfl (by kernel_rfl) (by kernel_rfl) (by kernel_rfl) (fun _ _ _ h => h) (by kernel_rfl) (by kernel_rfl) (fun ρ hr0 _ w hSw => by simp [go_sem, hr0]) hHeld (tf 4095 26) (by kernel_rfl) (fun K hK => ?_)
          go_big_move
          refine hK.out _ ?_
          clear hK K
          refine fast1 12 25 (.slice a2 n2 c2) (.tmp 24) (.pointer (some ⟨w.heap.size, 2, none⟩)) (fuel := 13) rfl rfl (by kernel_rfl) (by kernel_rfl) (by kernel_rfl) (fun _ _ _ h => h) (by kernel_rfl) (by kernel_rfl) (fun ρ hr0 _ w hSw => by have m := hSw.1.2.1.cell (j := 2) (u := .slice a2 n2 c2) rfl; simp [go_sem, hr0, m]) hHeld (tf 8191 26) (by kernel_rfl) (fun K hK => ?_)
          go_big_move
          refine hK.out _ ?_
          clear hK K
          refine wpAnyH_ready (rs := [13]) (fuel := 12) (by kernel_rfl) (by simp) ?_
          refine ready_want rfl (by kernel_rfl) (tf 16383 26) (by kernel_rfl) (fun K hK => ?_) AllReadyH.nil
          simp only [List.getElem_toArray, List.getElem_cons_succ, List.getElem_cons_zero]
          go_big_op
          refine (CE2.out _ hHeld.1.1).mono ?_
          rintro e wp2 ⟨rfl, hb⟩
          have hS2 := hHeld.below hb
          clear hb 
          refine hK.out _ _ hS2 (fun hHeld => ?_)
          clear hK K hS2
          refine fast2 14 27 (.bool true) (.tmp 21) (.bool true) (.tmp 26) (.bool true) (fuel := 11) rfl rfl (by kernel_rfl) (by kernel_rfl) (by kernel_rfl) (fun _ _ _ h => h) (by kernel_rfl) (by kernel_rfl) (by kernel_rfl) (fun ρ hr0 hr1 hc w hSw => by simp [go_sem, hc, hr0, hr1]) hHeld (tf 32767 26) (by kernel_rfl) (fun K hK => ?_)
          go_big_move
          refine hK.out _ ?_
          clear hK K
          refine fast_move 15 28 (.bool true) (.tmp 27) (fuel := 10) rfl rfl (by kernel_rfl) (by kernel_rfl) (by kernel_rfl) (fun _ _ _ h => h) (by kernel_rfl) (by kernel_rfl) (by first | exact Or.inl rfl | exact Or.inr rfl) hHeld (tf 65535 26) (by kernel_rfl) (fun K hK => ?_)
          go_big_move
          refine hK.out _ ?_
          clear hK K
          refine fast_yields 16 29 (.agg #[.int .i64 tst, .int .i64 tit, .slice xa2 tins.length xc2, .slice xa3 touts.length xc3, .slice xa4 thids.length xc4, .slice xa5 tsteps.length xc5]) (fuel := 9) rfl rfl (by kernel_rfl) (by kernel_rfl) (by kernel_rfl) (fun _ _ _ h => h) (yieldsIf_load_mid (by rfl) _ _ rfl (w4.heap.size) 0 rfl (iaC tst tit xa2 tins.length xc2 xa3 touts.length xc3 xa4 thids.length xc4 xa5 tsteps.length xc5).toList _ (fun w hw => hw.2.1.range) Tryz.underlying29 rfl (by kernel_rfl)) hHeld (tf 131071 26) (by kernel_rfl) (fun K hK => ?_)
          go_big_move
          refine hK.out _ ?_
          clear hK K
          refine fast_yields 18 31 (.agg #[.int .i64 st, .int .i64 it, .slice a2 n2 c2, .slice a3 n3 c3, .slice a4 n4 c4, .slice a5 n5 c5]) (fuel := 8) rfl rfl (by kernel_rfl) (by kernel_rfl) (by kernel_rfl) (fun _ _ _ h => h) (yieldsIf_load_mid (by rfl) _ _ rfl (w.heap.size) 0 rfl (iaC st it a2 n2 c2 a3 n3 c3 a4 n4 c4 a5 n5 c5).toList _ (fun w hw => hw.1.2.1.range) Tryz.underlying29 rfl (by kernel_rfl)) hHeld (tf 393215 26) (by kernel_rfl) (fun K hK => ?_)
          go_big_move
          refine hK.out _ ?_
          clear hK K
          refine fast_yields 19 32 (.agg #[.int .i64 su, .int .i64 iu, .slice b2 m2 d2, .slice b3 m3 d3, .slice b4 m4 d4, .slice b5 m5 d5]) (fuel := 7) rfl rfl (by kernel_rfl) (by kernel_rfl) (by kernel_rfl) (fun _ _ _ h => h) (yieldsIf_load_mid (by rfl) _ _ rfl (w.heap.size + 1) 0 rfl (iaC su iu b2 m2 d2 b3 m3 d3 b4 m4 d4 b5 m5 d5).toList _ (fun w hw => hw.1.2.2.range) Tryz.underlying29 rfl (by kernel_rfl)) hHeld (tf 917503 26) (by kernel_rfl) (fun K hK => ?_)
          go_big_move
          refine hK.out _ ?_
          clear hK K
          refine wpAnyH_ready (rs := [17]) (fuel := 6) (by kernel_rfl) (by simp) ?_
          refine ready_want rfl (by kernel_rfl) (tf 1048575 26) (by kernel_rfl) (fun K hK => ?_) AllReadyH.nil
          simp only [List.getElem_toArray, List.getElem_cons_succ, List.getElem_cons_zero]
          go_big_op
          refine (CR.out _ _ hHeld.2.2.rowIa).mono ?_
          rintro e wp3 ⟨ad3, cc3, rfl, hr, hb⟩
          have rr3 : Hid (Row wp3 ad3 RL.length RL) := hr
          have hS3 := hHeld.below hb
          clear hb hr
          refine hK.out _ _ hS3 (fun hHeld => ?_)
          clear hK K hS3
          refine wpAnyH_ready (rs := [20]) (fuel := 5) (by kernel_rfl) (by simp) ?_
          refine ready_want rfl (by kernel_rfl) (tf 2097151 26) (by kernel_rfl) (fun K hK => ?_) AllReadyH.nil
          simp only [List.getElem_toArray, List.getElem_cons_succ, List.getElem_cons_zero]
          go_big_op
          refine (CC.out _ hHeld.1.1).mono ?_
          rintro e wp4 ⟨ad4, cc4, rfl, hr, hb⟩
          have rr4 : Hid (Row wp4 ad3 RL.length RL) := rr3.out.below (hb)
          have rc4 : Hid (Row wp4 ad4 CL.length CL) := hr
          have hS4 := hHeld.below hb
          clear hb hr
          refine hK.out _ _ hS4 (fun hHeld => ?_)
          clear hK K hS4
          refine wpAnyH_ready (rs := [21]) (fuel := 4) (by kernel_rfl) (by simp) ?_
          refine ready_want rfl (by kernel_rfl) (tf 4194303 26) (by kernel_rfl) (fun K hK => ?_) AllReadyH.nil
          simp only [List.getElem_toArray, List.getElem_cons_succ, List.getElem_cons_zero]
          go_big_op
          refine (CM.out _ _ _ _ _ rr4.out rc4.out).mono ?_
          rintro e wp5 ⟨ad5, cc5, rfl, hb⟩
          have rr5 : Hid (Row wp5 ad3 RL.length RL) := rr4.out.below (hb)
          have rc5 : Hid (Row wp5 ad4 CL.length CL) := rc4.out.below (hb)
          have hS5 := hHeld.below hb
          clear hb 
          refine hK.out _ _ hS5 (fun hHeld => ?_)
          clear hK K hS5
          refine fast1 22 35 (.int .i64 ((x : Nat) : Int)) (.tmp 34) (.slice ad5 x cc5) (fuel := 3) rfl rfl (by kernel_rfl) (by kernel_rfl) (by kernel_rfl) (fun _ _ _ h => h) (by kernel_rfl) (by kernel_rfl) (fun ρ hr0 _ w hSw => by simp [go_sem, hr0]) hHeld (tf 8388607 26) (by kernel_rfl) (fun K hK => ?_)
          go_big_move
          refine hK.out _ ?_
          clear hK K
          refine fast1 23 36 (.bool false) (.tmp 35) (.int .i64 ((x : Nat) : Int)) (fuel := 2) rfl rfl (by kernel_rfl) (by kernel_rfl) (by kernel_rfl) (fun _ _ _ h => h) (by kernel_rfl) (by kernel_rfl) (fun ρ hr0 hc w hSw => by have hz2 := HZ.out; simp [go_sem, hc, hr0, hz2]) hHeld (tf 16777215 26) (by kernel_rfl) (fun K hK => ?_)
          go_big_move
          refine hK.out _ ?_
          clear hK K
          refine fast2 24 37 (.bool false) (.tmp 28) (.bool true) (.tmp 36) (.bool false) (fuel := 1) rfl rfl (by kernel_rfl) (by kernel_rfl) (by kernel_rfl) (fun _ _ _ h => h) (by kernel_rfl) (by kernel_rfl) (by kernel_rfl) (fun ρ hr0 hr1 hc w hSw => by simp [go_sem, hc, hr0, hr1]) hHeld (tf 33554431 26) (by kernel_rfl) (fun K hK => ?_)
          go_big_move
          refine hK.out _ ?_
          clear hK K
          refine fast_move 25 4 (.bool false) (.tmp 37) (fuel := 0) rfl rfl (by kernel_rfl) (by kernel_rfl) (by kernel_rfl) (fun _ _ _ h => h) (by kernel_rfl) (by kernel_rfl) (by first | exact Or.inl rfl | exact Or.inr rfl) hHeld (tf 67108863 26) (by kernel_rfl) (fun K hK => ?_)
          go_big_move
          refine hK.out _ ?_
          clear hK K
          refine wpAnyH_done (by kernel_rfl) ?_ _
          go_wp2_with fail
          go_ret
          exact ⟨ret_bool (by rw [HR.out, decide_eq_false HZ.out]; try simp), hHeld.1.1⟩

set_option maxRecDepth 20000 in
set_option maxHeartbeats 12800000 in
theorem specLegal_any (a b : IaD) (v u : Value) (w : World) (h : IaRow w a v) (k : IaRow w b u) (fa : Small a) (fb : Small b) :
    Calls Tryz.prog 41 #[v, u] w fun e w' => e = .returned (.bool (legalB a b)) ∧ Below w.heap.size w w' := by
  obtain ⟨q, hq⟩ : ∃ q, q = prodB a b := ⟨_, rfl⟩
  obtain ⟨⟨tst, tit, tins, touts, thids, tsteps⟩, hT⟩ : ∃ t, t = prodIa a b := ⟨_, rfl⟩
  have HOK : Hid (q = true → iaOkB ⟨tst, tit, tins, touts, thids, tsteps⟩ = true) := fun e => by
    have h1 : prodB a b = true := by rw [← hq]; exact e
    rw [hT]
    unfold prodIa
    rw [if_pos h1]
    exact prod_ok h1
  obtain ⟨x2, x3, x4, x5⟩ := prod_small fa fb
  rw [← hT] at x2 x3 x4 x5
  simp only at x2 x3 x4 x5
  have CPr : Hid (∀ W, Below w.heap.size w W → Calls Tryz.prog 21 #[v, u] W fun e w' => ∃ (xa2 : Option Addr) (xc2 : Nat) (xa3 : Option Addr) (xc3 : Nat) (xa4 : Option Addr) (xc4 : Nat) (xa5 : Option Addr) (xc5 : Nat), e = .returned (.tuple #[.agg #[.int .i64 tst, .int .i64 tit, .slice xa2 tins.length xc2, .slice xa3 touts.length xc3, .slice xa4 thids.length xc4, .slice xa5 tsteps.length xc5], .bool q]) ∧ IaHigh w' W.heap.size ⟨tst, tit, tins, touts, thids, tsteps⟩ (.agg #[.int .i64 tst, .int .i64 tit, .slice xa2 tins.length xc2, .slice xa3 touts.length xc3, .slice xa4 thids.length xc4, .slice xa5 tsteps.length xc5]) ∧ Below W.heap.size W w') := fun W hW => by
    rw [hq, hT]
    refine (specProduct_any a b v u W (h.below hW) (k.below hW) fa fb).mono fun e w' ⟨v', he, ho, hb⟩ => ?_
    rw [← hT] at ho ⊢
    obtain ⟨_, _, _, _, _, _, _, _, rfl, _⟩ := ho.rowOf
    exact ⟨_, _, _, _, _, _, _, _, he, ho, hb⟩
  obtain ⟨CL, hCL⟩ : ∃ l, l = clashesOf a b := ⟨_, rfl⟩
  have hcl : CL.length ≤ 2097152 := by rw [hCL]; exact clashes_len2 fa fb
  obtain ⟨RL, hRL⟩ : ∃ l, l = reachedOf ⟨tst, tit, tins, touts, thids, tsteps⟩ := ⟨_, rfl⟩
  have hrl : RL.length ≤ 2097152 := by rw [hRL]; exact reachedOf_len _ x5
  obtain ⟨x, hx⟩ : ∃ n, n = (meetOf RL CL).length := ⟨_, rfl⟩
  obtain ⟨s1, hs1⟩ : ∃ s, s = decide (b.ins = a.outs) := ⟨_, rfl⟩
  obtain ⟨s2, hs2⟩ : ∃ s, s = decide (b.outs = a.ins) := ⟨_, rfl⟩
  obtain ⟨r, hr⟩ : ∃ r, r = legalB a b := ⟨_, rfl⟩
  rw [← hr]
  have HR : Hid (r = (q && s1 && s2 && decide (x = 0))) := by
    unfold Hid
    rw [hr, hq, hs1, hs2, hx, hRL, hCL, hT]
    rfl
  clear hr hq hT
  obtain ⟨a2, n2, c2, a3, n3, c3, a4, n4, c4, a5, n5, c5, rfl, r2, r3, r4, r5⟩ := h
  obtain ⟨b2, m2, d2, b3, m3, d3, b4, m4, d4, b5, m5, d5, rfl, q2, q3, q4, q5⟩ := k
  obtain ⟨st, it, ins, outs, hids, steps⟩ := a
  obtain ⟨su, iu, jns, juts, jids, jteps⟩ := b
  obtain ⟨f2, f3, f4, f5⟩ := fa
  obtain ⟨g2, g3, g4, g5⟩ := fb
  simp only at r2 r3 r4 r5 q2 q3 q4 q5 f2 f3 f4 f5 g2 g3 g4 g5
  have HA : Hid (∀ W, Below w.heap.size w W → IaRow W ⟨st, it, ins, outs, hids, steps⟩ (.agg #[.int .i64 st, .int .i64 it, .slice a2 n2 c2, .slice a3 n3 c3, .slice a4 n4 c4, .slice a5 n5 c5])) := fun W hW => IaRow.below ⟨a2, n2, c2, a3, n3, c3, a4, n4, c4, a5, n5, c5, rfl, r2, r3, r4, r5⟩ hW
  have HB : Hid (∀ W, Below w.heap.size w W → IaRow W ⟨su, iu, jns, juts, jids, jteps⟩ (.agg #[.int .i64 su, .int .i64 iu, .slice b2 m2 d2, .slice b3 m3 d3, .slice b4 m4 d4, .slice b5 m5 d5])) := fun W hW => IaRow.below ⟨b2, m2, d2, b3, m3, d3, b4, m4, d4, b5, m5, d5, rfl, q2, q3, q4, q5⟩ hW
  have S0 := Lib.hid (Box2.start w (iaC st it a2 n2 c2 a3 n3 c3 a4 n4 c4 a5 n5 c5) (iaC su iu b2 m2 d2 b3 m3 d3 b4 m4 d4 b5 m5 d5) 29)
  have FSA : Hid (Small ⟨st, it, ins, outs, hids, steps⟩) := ⟨f2, f3, f4, f5⟩
  have FSB : Hid (Small ⟨su, iu, jns, juts, jids, jteps⟩) := ⟨g2, g3, g4, g5⟩
  have e2 := r2.1
  have e3 := r3.1
  have e4 := r4.1
  have k2 := q2.1
  have k3 := q3.1
  have k4 := q4.1
  rw [e2] at f2
  rw [e3] at f3
  rw [e4] at f4
  rw [k2] at g2
  rw [k3] at g3
  rw [k4] at g4
  have R2 := Lib.hid r2
  have R3 := Lib.hid r3
  have R4 := Lib.hid r4
  have R5 := Lib.hid r5
  have Q2 := Lib.hid q2
  have Q3 := Lib.hid q3
  have Q4 := Lib.hid q4
  have Q5 := Lib.hid q5
  clear r2 r3 r4 r5 q2 q3 q4 q5
  simp only at hs1 hs2 hCL
  have CE1 : Hid (∀ W, Below w.heap.size w W → Calls Tryz.prog 98 #[.slice b2 m2 d2, .slice a3 n3 c3] W fun e w' => e = .returned (.bool s1) ∧ Below W.heap.size W w') := fun W hW => by
    rw [hs1]
    exact same1_any b2 a3 m2 d2 n3 c3 jns outs W (Q2.out.below hW) (R3.out.below hW) (by omega) (by omega)
  have CE2 : Hid (∀ W, Below w.heap.size w W → Calls Tryz.prog 98 #[.slice b3 m3 d3, .slice a2 n2 c2] W fun e w' => e = .returned (.bool s2) ∧ Below W.heap.size W w') := fun W hW => by
    rw [hs2]
    exact same1_any b3 a2 m3 d3 n2 c2 juts ins W (Q3.out.below hW) (R2.out.below hW) (by omega) (by omega)
  have CC : Hid (∀ W, Below w.heap.size w W → Calls Tryz.prog 102 #[.agg #[.int .i64 st, .int .i64 it, .slice a2 n2 c2, .slice a3 n3 c3, .slice a4 n4 c4, .slice a5 n5 c5], .agg #[.int .i64 su, .int .i64 iu, .slice b2 m2 d2, .slice b3 m3 d3, .slice b4 m4 d4, .slice b5 m5 d5]] W fun e w' => ∃ ad cc, e = .returned (.slice ad CL.length cc) ∧ Row w' ad CL.length CL ∧ Below W.heap.size W w') := fun W hW => by
    rw [hCL]
    refine (specClashes_any ⟨st, it, ins, outs, hids, steps⟩ ⟨su, iu, jns, juts, jids, jteps⟩ _ _ W (HA.out W hW) (HB.out W hW) FSA.out FSB.out).mono fun e w' h => ?_
    obtain ⟨g, cc, he, ho, hb⟩ := h
    exact ⟨_, cc, he, ho.row.2.2.2, hb⟩
  have CM : Hid (∀ W ad cc ad2 cc2, Row W ad RL.length RL → Row W ad2 CL.length CL → Calls Tryz.prog 99 #[.slice ad RL.length cc, .slice ad2 CL.length cc2] W fun e w' => ∃ a3 c3, e = .returned (.slice a3 x c3) ∧ Below W.heap.size W w') := fun W ad cc ad2 cc2 h1 h2 => by
    rw [hx]
    exact (specSetMeet_any ad ad2 RL.length cc CL.length cc2 RL CL W h1 h2 (by omega) (by omega)).mono fun e w' h => OwnRes.slice h
  clear hCL hs1 hs2
  obtain ⟨AL, hAL⟩ : ∃ l, l = actsOf ⟨tst, tit, tins, touts, thids, tsteps⟩ := ⟨_, rfl⟩
  have hal : AL.length ≤ 4194304 := by
    have h1 := actsOf_len ⟨tst, tit, tins, touts, thids, tsteps⟩
    rw [hAL]
    simp only at h1
    omega
  have CAO0 : Hid (iaOkB ⟨tst, tit, tins, touts, thids, tsteps⟩ = true → ∀ W v', IaRow W ⟨tst, tit, tins, touts, thids, tsteps⟩ v' → Calls Tryz.prog 101 #[v'] W fun e w' => ∃ ad cc, e = .returned (.slice ad AL.length cc) ∧ Row w' ad AL.length AL ∧ Below W.heap.size W w') := fun hok W v' hv => by
    rw [hAL]
    refine (specActsOf_any ⟨tst, tit, tins, touts, thids, tsteps⟩ _ W hv x2 x3 x4 x5).mono fun e w' h => ?_
    rw [if_pos hok] at h
    obtain ⟨g, cc, he, ho, hb⟩ := h
    exact ⟨_, cc, he, ho.row.2.2.2, hb⟩
  clear R4 R5 Q4 Q5 e4 k4
  have ca0 := S0.out.2.1.cell (j := 0) (u := .int .i64 st) rfl
  have ca1 := S0.out.2.1.cell (j := 1) (u := .int .i64 it) rfl
  have ca2 := S0.out.2.1.cell (j := 2) (u := .slice a2 n2 c2) rfl
  have ca3 := S0.out.2.1.cell (j := 3) (u := .slice a3 n3 c3) rfl
  have ca4 := S0.out.2.1.cell (j := 4) (u := .slice a4 n4 c4) rfl
  have ca5 := S0.out.2.1.cell (j := 5) (u := .slice a5 n5 c5) rfl
  have cb0 := S0.out.2.2.cell (j := 0) (u := .int .i64 su) rfl
  have cb1 := S0.out.2.2.cell (j := 1) (u := .int .i64 iu) rfl
  have cb2 := S0.out.2.2.cell (j := 2) (u := .slice b2 m2 d2) rfl
  have cb3 := S0.out.2.2.cell (j := 3) (u := .slice b3 m3 d3) rfl
  have cb4 := S0.out.2.2.cell (j := 4) (u := .slice b4 m4 d4) rfl
  have cb5 := S0.out.2.2.cell (j := 5) (u := .slice b5 m5 d5) rfl
  go_enter Tryz.func41, Tryz.ntmps41
  go_wp2_with fail
  clear ca0 ca1 ca2 ca3 ca4 ca5 cb0 cb1 cb2 cb3 cb4 cb5
  refine (CPr.out _ S0.out.1).mono ?_
  rintro e w4 ⟨xa2, xc2, xa3, xc3, xa4, xc4, xa5, xc5, rfl, hT4, hb⟩
  have bx := (Below.refl w4.heap.size w4).alloc (Nat.le_refl _) (.cells #[.int .i64 tst, .int .i64 tit, .slice xa2 tins.length xc2, .slice xa3 touts.length xc3, .slice xa4 thids.length xc4, .slice xa5 tsteps.length xc5] 29)
  have S4 := S0.out.below hb
  have S5 : Hid (LegS w (w4.alloc (.cells #[.int .i64 tst, .int .i64 tit, .slice xa2 tins.length xc2, .slice xa3 touts.length xc3, .slice xa4 thids.length xc4, .slice xa5 tsteps.length xc5] 29)) (iaC st it a2 n2 c2 a3 n3 c3 a4 n4 c4 a5 n5 c5) (iaC su iu b2 m2 d2 b3 m3 d3 b4 m4 d4 b5 m5 d5) (iaC tst tit xa2 tins.length xc2 xa3 touts.length xc3 xa4 thids.length xc4 xa5 tsteps.length xc5) w4.heap.size ⟨tst, tit, tins, touts, thids, tsteps⟩) := ⟨S4.below bx, VarIs.new w4 #[.int .i64 tst, .int .i64 tit, .slice xa2 tins.length xc2, .slice xa3 touts.length xc3, .slice xa4 thids.length xc4, .slice xa5 tsteps.length xc5] 29 rfl, (hT4.mono S0.out.1.size).below bx⟩
  obtain ⟨w5, hw5⟩ : ∃ x, x = w4.alloc (.cells #[.int .i64 tst, .int .i64 tit, .slice xa2 tins.length xc2, .slice xa3 touts.length xc3, .slice xa4 thids.length xc4, .slice xa5 tsteps.length xc5] 29) := ⟨_, rfl⟩
  clear hb hT4 bx S4 S0 CPr HA HB
  have CAL : Hid (∀ W g ad cc, IaRow W ⟨tst, tit, tins, touts, thids, tsteps⟩ (.agg #[.int .i64 tst, .int .i64 tit, .slice xa2 tins.length xc2, .slice xa3 touts.length xc3, .slice xa4 thids.length xc4, .slice xa5 tsteps.length xc5]) → Row W (some ⟨g, 0, none⟩) 1 [tit] → Row W ad AL.length AL → Calls Tryz.prog 100 #[.agg #[.int .i64 tst, .int .i64 tit, .slice xa2 tins.length xc2, .slice xa3 touts.length xc3, .slice xa4 thids.length xc4, .slice xa5 tsteps.length xc5], .slice (some ⟨g, 0, none⟩) 1 1, .slice ad AL.length cc] W fun e w' => ∃ ad cc, e = .returned (.slice ad RL.length cc) ∧ Row w' ad RL.length RL ∧ Below W.heap.size W w') := fun W g ad cc hv h1 h2 => by
      rw [hRL]
      obtain ⟨_, _, _, _, _, _, _, _, _, _, _, _, e, _, _, _, r5⟩ := hv
      simp only [Value.agg.injEq, Array.mk.injEq, List.cons.injEq, Value.slice.injEq, and_true, true_and] at e
      obtain ⟨_, _, _, rfl, rfl, rfl⟩ := e
      refine (along_any tst tit _ _ _ _ _ _ tsteps _ 1 1 [tit] ad AL.length cc AL W r5 (by omega) h1 (by omega) h2 hal).mono fun e w' h => ?_
      obtain ⟨g', cc', he, ho, hb⟩ := h
      rw [hAL] at he ho
      exact ⟨_, cc', he, ho.row.2.2.2, hb⟩
  clear hAL
  simp only
  go_wp2_with fail
  rw [← hw5] at S5 ⊢
  clear hw5
  have SD : LegS w w5.drew (iaC st it a2 n2 c2 a3 n3 c3 a4 n4 c4 a5 n5 c5) (iaC su iu b2 m2 d2 b3 m3 d3 b4 m4 d4 b5 m5 d5) (iaC tst tit xa2 tins.length xc2 xa3 touts.length xc3 xa4 thids.length xc4 xa5 tsteps.length xc5) w4.heap.size ⟨tst, tit, tins, touts, thids, tsteps⟩ := S5.out.drew
  clear S5
  cases q with
  | false =>
    refine wp_region_tf (S := fun w' => LegS w w' (iaC st it a2 n2 c2 a3 n3 c3 a4 n4 c4 a5 n5 c5) (iaC su iu b2 m2 d2 b3 m3 d3 b4 m4 d4 b5 m5 d5) (iaC tst tit xa2 tins.length xc2 xa3 touts.length xc3 xa4 thids.length xc4 xa5 tsteps.length xc5) w4.heap.size ⟨tst, tit, tins, touts, thids, tsteps⟩) 31 (by kernel_rfl) (by kernel_rfl) (by kernel_rfl) SD (fun hHeld => ?_)
    refine fast_move 0 13 (.bool false) (.tmp 6) (fuel := 30) rfl rfl (by kernel_rfl) (by kernel_rfl) (by kernel_rfl) (fun _ _ _ h => h) (by kernel_rfl) (by kernel_rfl) (by first | exact Or.inl rfl | exact Or.inr rfl) hHeld (tf 1 31) (by kernel_rfl) (fun K hK => ?_)
    go_big_move
    refine hK.out _ ?_
    clear hK K
    refine fast_move 1 14 (.bool false) (.tmp 13) (fuel := 29) rfl rfl (by kernel_rfl) (by kernel_rfl) (by kernel_rfl) (fun _ _ _ h => h) (by kernel_rfl) (by kernel_rfl) (by first | exact Or.inl rfl | exact Or.inr rfl) hHeld (tf 3 31) (by kernel_rfl) (fun K hK => ?_)
    go_big_move
    refine hK.out _ ?_
    clear hK K
    refine fast_skip 2 15 (fuel := 28) rfl rfl (by kernel_rfl) (by kernel_rfl) (by kernel_rfl) (fun _ _ _ h => h) (by kernel_rfl) hHeld (tf 7 31) (by kernel_rfl) (fun K hK => ?_)
    go_big_move
    refine hK.out _ ?_
    clear hK K
    refine fast_skip 3 16 (fuel := 27) rfl rfl (by kernel_rfl) (by kernel_rfl) (by kernel_rfl) (fun _ _ _ h => h) (by kernel_rfl) hHeld (tf 15 31) (by kernel_rfl) (fun K hK => ?_)
    go_big_move
    refine hK.out _ ?_
    clear hK K
    refine fast_skip 4 17 (fuel := 26) rfl rfl (by kernel_rfl) (by kernel_rfl) (by kernel_rfl) (fun _ _ _ h => h) (by kernel_rfl) hHeld (tf 31 31) (by kernel_rfl) (fun K hK => ?_)
    go_big_move
    refine hK.out _ ?_
    clear hK K
    refine fast_skip 5 18 (fuel := 25) rfl rfl (by kernel_rfl) (by kernel_rfl) (by kernel_rfl) (fun _ _ _ h => h) (by kernel_rfl) hHeld (tf 63 31) (by kernel_rfl) (fun K hK => ?_)
    go_big_move
    refine hK.out _ ?_
    clear hK K
    refine fast_skip 6 19 (fuel := 24) rfl rfl (by kernel_rfl) (by kernel_rfl) (by kernel_rfl) (fun _ _ _ h => h) (by kernel_rfl) hHeld (tf 127 31) (by kernel_rfl) (fun K hK => ?_)
    go_big_move
    refine hK.out _ ?_
    clear hK K
    refine fast2 7 20 (.bool false) (.tmp 14) (.bool false) (.tmp 19) (undef) (fuel := 23) rfl rfl (by kernel_rfl) (by kernel_rfl) (by kernel_rfl) (fun _ _ _ h => h) (by kernel_rfl) (by kernel_rfl) (by kernel_rfl) (fun ρ hr0 hr1 hc w hSw => by simp [go_sem, hc, hr0, hr1]) hHeld (tf 255 31) (by kernel_rfl) (fun K hK => ?_)
    go_big_move
    refine hK.out _ ?_
    clear hK K
    refine fast_move 8 21 (.bool false) (.tmp 20) (fuel := 22) rfl rfl (by kernel_rfl) (by kernel_rfl) (by kernel_rfl) (fun _ _ _ h => h) (by kernel_rfl) (by kernel_rfl) (by first | exact Or.inl rfl | exact Or.inr rfl) hHeld (tf 511 31) (by kernel_rfl) (fun K hK => ?_)
    go_big_move
    refine hK.out _ ?_
    clear hK K
    refine fast_skip 9 22 (fuel := 21) rfl rfl (by kernel_rfl) (by kernel_rfl) (by kernel_rfl) (fun _ _ _ h => h) (by kernel_rfl) hHeld (tf 1023 31) (by kernel_rfl) (fun K hK => ?_)
    go_big_move
    refine hK.out _ ?_
    clear hK K
    refine fast_skip 10 23 (fuel := 20) rfl rfl (by kernel_rfl) (by kernel_rfl) (by kernel_rfl) (fun _ _ _ h => h) (by kernel_rfl) hHeld (tf 2047 31) (by kernel_rfl) (fun K hK => ?_)
    go_big_move
    refine hK.out _ ?_
    clear hK K
    refine fast_skip 11 24 (fuel := 19) rfl rfl (by kernel_rfl) (by kernel_rfl) (by kernel_rfl) (fun _ _ _ h => h) (by kernel_rfl) hHeld (tf 4095 31) (by kernel_rfl) (fun K hK => ?_)
    go_big_move
    refine hK.out _ ?_
    clear hK K
    refine fast_skip 12 25 (fuel := 18) rfl rfl (by kernel_rfl) (by kernel_rfl) (by kernel_rfl) (fun _ _ _ h => h) (by kernel_rfl) hHeld (tf 8191 31) (by kernel_rfl) (fun K hK => ?_)
    go_big_move
    refine hK.out _ ?_
    clear hK K
    refine fast_skip 13 26 (fuel := 17) rfl rfl (by kernel_rfl) (by kernel_rfl) (by kernel_rfl) (fun _ _ _ h => h) (by kernel_rfl) hHeld (tf 16383 31) (by kernel_rfl) (fun K hK => ?_)
    go_big_move
    refine hK.out _ ?_
    clear hK K
    refine fast2 14 27 (.bool false) (.tmp 21) (.bool false) (.tmp 26) (undef) (fuel := 16) rfl rfl (by kernel_rfl) (by kernel_rfl) (by kernel_rfl) (fun _ _ _ h => h) (by kernel_rfl) (by kernel_rfl) (by kernel_rfl) (fun ρ hr0 hr1 hc w hSw => by simp [go_sem, hc, hr0, hr1]) hHeld (tf 32767 31) (by kernel_rfl) (fun K hK => ?_)
    go_big_move
    refine hK.out _ ?_
    clear hK K
    refine fast_move 15 28 (.bool false) (.tmp 27) (fuel := 15) rfl rfl (by kernel_rfl) (by kernel_rfl) (by kernel_rfl) (fun _ _ _ h => h) (by kernel_rfl) (by kernel_rfl) (by first | exact Or.inl rfl | exact Or.inr rfl) hHeld (tf 65535 31) (by kernel_rfl) (fun K hK => ?_)
    go_big_move
    refine hK.out _ ?_
    clear hK K
    refine fast_skip 16 29 (fuel := 14) rfl rfl (by kernel_rfl) (by kernel_rfl) (by kernel_rfl) (fun _ _ _ h => h) (by kernel_rfl) hHeld (tf 131071 31) (by kernel_rfl) (fun K hK => ?_)
    go_big_move
    refine hK.out _ ?_
    clear hK K
    refine fast_skip 17 30 (fuel := 13) rfl rfl (by kernel_rfl) (by kernel_rfl) (by kernel_rfl) (fun _ _ _ h => h) (by kernel_rfl) hHeld (tf 262143 31) (by kernel_rfl) (fun K hK => ?_)
    go_big_move
    refine hK.out _ ?_
    clear hK K
    refine fast_skip 18 31 (fuel := 12) rfl rfl (by kernel_rfl) (by kernel_rfl) (by kernel_rfl) (fun _ _ _ h => h) (by kernel_rfl) hHeld (tf 524287 31) (by kernel_rfl) (fun K hK => ?_)
    go_big_move
    refine hK.out _ ?_
    clear hK K
    refine fast_skip 19 32 (fuel := 11) rfl rfl (by kernel_rfl) (by kernel_rfl) (by kernel_rfl) (fun _ _ _ h => h) (by kernel_rfl) hHeld (tf 1048575 31) (by kernel_rfl) (fun K hK => ?_)
    go_big_move
    refine hK.out _ ?_
    clear hK K
    refine fast_skip 20 33 (fuel := 10) rfl rfl (by kernel_rfl) (by kernel_rfl) (by kernel_rfl) (fun _ _ _ h => h) (by kernel_rfl) hHeld (tf 2097151 31) (by kernel_rfl) (fun K hK => ?_)
    go_big_move
    refine hK.out _ ?_
    clear hK K
    refine fast_skip 21 34 (fuel := 9) rfl rfl (by kernel_rfl) (by kernel_rfl) (by kernel_rfl) (fun _ _ _ h => h) (by kernel_rfl) hHeld (tf 4194303 31) (by kernel_rfl) (fun K hK => ?_)
    go_big_move
    refine hK.out _ ?_
    clear hK K
    refine fast_skip 22 35 (fuel := 8) rfl rfl (by kernel_rfl) (by kernel_rfl) (by kernel_rfl) (fun _ _ _ h => h) (by kernel_rfl) hHeld (tf 8388607 31) (by kernel_rfl) (fun K hK => ?_)
    go_big_move
    refine hK.out _ ?_
    clear hK K
    refine fast_skip 23 36 (fuel := 7) rfl rfl (by kernel_rfl) (by kernel_rfl) (by kernel_rfl) (fun _ _ _ h => h) (by kernel_rfl) hHeld (tf 16777215 31) (by kernel_rfl) (fun K hK => ?_)
    go_big_move
    refine hK.out _ ?_
    clear hK K
    refine fast_skip 24 37 (fuel := 6) rfl rfl (by kernel_rfl) (by kernel_rfl) (by kernel_rfl) (fun _ _ _ h => h) (by kernel_rfl) hHeld (tf 33554431 31) (by kernel_rfl) (fun K hK => ?_)
    go_big_move
    refine hK.out _ ?_
    clear hK K
    refine fast_skip 25 38 (fuel := 5) rfl rfl (by kernel_rfl) (by kernel_rfl) (by kernel_rfl) (fun _ _ _ h => h) (by kernel_rfl) hHeld (tf 67108863 31) (by kernel_rfl) (fun K hK => ?_)
    go_big_move
    refine hK.out _ ?_
    clear hK K
    refine fast_skip 26 39 (fuel := 4) rfl rfl (by kernel_rfl) (by kernel_rfl) (by kernel_rfl) (fun _ _ _ h => h) (by kernel_rfl) hHeld (tf 134217727 31) (by kernel_rfl) (fun K hK => ?_)
    go_big_move
    refine hK.out _ ?_
    clear hK K
    refine fast_skip 27 40 (fuel := 3) rfl rfl (by kernel_rfl) (by kernel_rfl) (by kernel_rfl) (fun _ _ _ h => h) (by kernel_rfl) hHeld (tf 268435455 31) (by kernel_rfl) (fun K hK => ?_)
    go_big_move
    refine hK.out _ ?_
    clear hK K
    refine fast_skip 28 41 (fuel := 2) rfl rfl (by kernel_rfl) (by kernel_rfl) (by kernel_rfl) (fun _ _ _ h => h) (by kernel_rfl) hHeld (tf 536870911 31) (by kernel_rfl) (fun K hK => ?_)
    go_big_move
    refine hK.out _ ?_
    clear hK K
    refine fast2 29 42 (.bool false) (.tmp 28) (.bool false) (.tmp 41) (undef) (fuel := 1) rfl rfl (by kernel_rfl) (by kernel_rfl) (by kernel_rfl) (fun _ _ _ h => h) (by kernel_rfl) (by kernel_rfl) (by kernel_rfl) (fun ρ hr0 hr1 hc w hSw => by simp [go_sem, hc, hr0, hr1]) hHeld (tf 1073741823 31) (by kernel_rfl) (fun K hK => ?_)
    go_big_move
    refine hK.out _ ?_
    clear hK K
    refine fast_move 30 4 (.bool false) (.tmp 42) (fuel := 0) rfl rfl (by kernel_rfl) (by kernel_rfl) (by kernel_rfl) (fun _ _ _ h => h) (by kernel_rfl) (by kernel_rfl) (by first | exact Or.inl rfl | exact Or.inr rfl) hHeld (tf 2147483647 31) (by kernel_rfl) (fun K hK => ?_)
    go_big_move
    refine hK.out _ ?_
    clear hK K
    refine wpAnyH_done (by kernel_rfl) ?_ _
    go_wp2_with fail
    go_ret
    exact ⟨ret_bool (by rw [HR.out]; rfl), hHeld.1.1⟩
  | true =>
    have hok := HOK.out (by simp)
    have CAO := Lib.hid (CAO0.out hok)
    clear HOK CAO0 hok hRL
    cases s1 with
    | false =>
      refine wp_region_tf (S := fun w' => LegS w w' (iaC st it a2 n2 c2 a3 n3 c3 a4 n4 c4 a5 n5 c5) (iaC su iu b2 m2 d2 b3 m3 d3 b4 m4 d4 b5 m5 d5) (iaC tst tit xa2 tins.length xc2 xa3 touts.length xc3 xa4 thids.length xc4 xa5 tsteps.length xc5) w4.heap.size ⟨tst, tit, tins, touts, thids, tsteps⟩) 31 (by kernel_rfl) (by kernel_rfl) (by kernel_rfl) SD (fun hHeld => ?_)
      refine fast_move 0 13 (.bool true) (.tmp 6) (fuel := 30) rfl rfl (by kernel_rfl) (by kernel_rfl) (by kernel_rfl) (fun _ _ _ h => h) (by kernel_rfl) (by kernel_rfl) (by first | exact Or.inl rfl | exact Or.inr rfl) hHeld (tf 1 31) (by kernel_rfl) (fun K hK => ?_)
      go_big_move
      refine hK.out _ ?_
      clear hK K
      refine fast_move 1 14 (.bool true) (.tmp 13) (fuel := 29) rfl rfl (by kernel_rfl) (by kernel_rfl) (by kernel_rfl) (fun _ _ _ h => h) (by kernel_rfl) (by kernel_rfl) (by first | exact Or.inl rfl | exact Or.inr rfl) hHeld (tf 3 31) (by kernel_rfl) (fun K hK => ?_)
      go_big_move
      refine hK.out _ ?_
      clear hK K
      refine fast1 2 15 (.pointer (some ⟨w.heap.size + 1, 2, none⟩)) (.tmp 3) (.pointer (some ⟨w.heap.size + 1, 0, none⟩)) (fuel := 28) rfl rfl (by kernel_rfl) (by kernel_rfl) (by kernel_rfl) (fun _ _ _ h => h) (by kernel_rfl) (by kernel_rfl) (fun ρ hr0 _ w hSw => by simp [go_sem, hr0]) hHeld (tf 7 31) (by kernel_rfl) (fun K hK => ?_)
      go_big_move
      refine hK.out _ ?_
      clear hK K
      refine fast1 3 16 (.slice b2 m2 d2) (.tmp 15) (.pointer (some ⟨w.heap.size + 1, 2, none⟩)) (fuel := 27) rfl rfl (by kernel_rfl) (by kernel_rfl) (by kernel_rfl) (fun _ _ _ h => h) (by kernel_rfl) (by kernel_rfl) (fun ρ hr0 _ w hSw => by have m := hSw.1.2.2.cell (j := 2) (u := .slice b2 m2 d2) rfl; simp [go_sem, hr0, m]) hHeld (tf 15 31) (by kernel_rfl) (fun K hK => ?_)
      go_big_move
      refine hK.out _ ?_
      clear hK K
      refine fast1 4 17 (.pointer (some ⟨w.heap.size, 3, none⟩)) (.tmp 2) (.pointer (some ⟨w.heap.size, 0, none⟩)) (fuel := 26) rfl rfl (by kernel_rfl) (by kernel_rfl) (by kernel_rfl) (fun _ _ _ h => h) (by kernel_rfl) (by kernel_rfl) (fun ρ hr0 _ w hSw => by simp [go_sem, hr0]) hHeld (tf 31 31) (by kernel_rfl) (fun K hK => ?_)
      go_big_move
      refine hK.out _ ?_
      clear hK K
      refine fast1 5 18 (.slice a3 n3 c3) (.tmp 17) (.pointer (some ⟨w.heap.size, 3, none⟩)) (fuel := 25) rfl rfl (by kernel_rfl) (by kernel_rfl) (by kernel_rfl) (fun _ _ _ h => h) (by kernel_rfl) (by kernel_rfl) (fun ρ hr0 _ w hSw => by have m := hSw.1.2.1.cell (j := 3) (u := .slice a3 n3 c3) rfl; simp [go_sem, hr0, m]) hHeld (tf 63 31) (by kernel_rfl) (fun K hK => ?_)
      go_big_move
      refine hK.out _ ?_
      clear hK K
      refine wpAnyH_ready (rs := [6]) (fuel := 24) (by kernel_rfl) (by simp) ?_
      refine ready_want rfl (by kernel_rfl) (tf 127 31) (by kernel_rfl) (fun K hK => ?_) AllReadyH.nil
      simp only [List.getElem_toArray, List.getElem_cons_succ, List.getElem_cons_zero]
      go_big_op
      refine (CE1.out _ hHeld.1.1).mono ?_
      rintro e w6 ⟨rfl, hb⟩
      have hS := hHeld.below hb
      clear hb
      refine hK.out _ _ hS (fun hHeld => ?_)
      clear hK K
      refine fast2 7 20 (.bool false) (.tmp 14) (.bool true) (.tmp 19) (.bool false) (fuel := 23) rfl rfl (by kernel_rfl) (by kernel_rfl) (by kernel_rfl) (fun _ _ _ h => h) (by kernel_rfl) (by kernel_rfl) (by kernel_rfl) (fun ρ hr0 hr1 hc w hSw => by simp [go_sem, hc, hr0, hr1]) hHeld (tf 255 31) (by kernel_rfl) (fun K hK => ?_)
      go_big_move
      refine hK.out _ ?_
      clear hK K
      refine fast_move 8 21 (.bool false) (.tmp 20) (fuel := 22) rfl rfl (by kernel_rfl) (by kernel_rfl) (by kernel_rfl) (fun _ _ _ h => h) (by kernel_rfl) (by kernel_rfl) (by first | exact Or.inl rfl | exact Or.inr rfl) hHeld (tf 511 31) (by kernel_rfl) (fun K hK => ?_)
      go_big_move
      refine hK.out _ ?_
      clear hK K
      refine fast_skip 9 22 (fuel := 21) rfl rfl (by kernel_rfl) (by kernel_rfl) (by kernel_rfl) (fun _ _ _ h => h) (by kernel_rfl) hHeld (tf 1023 31) (by kernel_rfl) (fun K hK => ?_)
      go_big_move
      refine hK.out _ ?_
      clear hK K
      refine fast_skip 10 23 (fuel := 20) rfl rfl (by kernel_rfl) (by kernel_rfl) (by kernel_rfl) (fun _ _ _ h => h) (by kernel_rfl) hHeld (tf 2047 31) (by kernel_rfl) (fun K hK => ?_)
      go_big_move
      refine hK.out _ ?_
      clear hK K
      refine fast_skip 11 24 (fuel := 19) rfl rfl (by kernel_rfl) (by kernel_rfl) (by kernel_rfl) (fun _ _ _ h => h) (by kernel_rfl) hHeld (tf 4095 31) (by kernel_rfl) (fun K hK => ?_)
      go_big_move
      refine hK.out _ ?_
      clear hK K
      refine fast_skip 12 25 (fuel := 18) rfl rfl (by kernel_rfl) (by kernel_rfl) (by kernel_rfl) (fun _ _ _ h => h) (by kernel_rfl) hHeld (tf 8191 31) (by kernel_rfl) (fun K hK => ?_)
      go_big_move
      refine hK.out _ ?_
      clear hK K
      refine fast_skip 13 26 (fuel := 17) rfl rfl (by kernel_rfl) (by kernel_rfl) (by kernel_rfl) (fun _ _ _ h => h) (by kernel_rfl) hHeld (tf 16383 31) (by kernel_rfl) (fun K hK => ?_)
      go_big_move
      refine hK.out _ ?_
      clear hK K
      refine fast2 14 27 (.bool false) (.tmp 21) (.bool false) (.tmp 26) (undef) (fuel := 16) rfl rfl (by kernel_rfl) (by kernel_rfl) (by kernel_rfl) (fun _ _ _ h => h) (by kernel_rfl) (by kernel_rfl) (by kernel_rfl) (fun ρ hr0 hr1 hc w hSw => by simp [go_sem, hc, hr0, hr1]) hHeld (tf 32767 31) (by kernel_rfl) (fun K hK => ?_)
      go_big_move
      refine hK.out _ ?_
      clear hK K
      refine fast_move 15 28 (.bool false) (.tmp 27) (fuel := 15) rfl rfl (by kernel_rfl) (by kernel_rfl) (by kernel_rfl) (fun _ _ _ h => h) (by kernel_rfl) (by kernel_rfl) (by first | exact Or.inl rfl | exact Or.inr rfl) hHeld (tf 65535 31) (by kernel_rfl) (fun K hK => ?_)
      go_big_move
      refine hK.out _ ?_
      clear hK K
      refine fast_skip 16 29 (fuel := 14) rfl rfl (by kernel_rfl) (by kernel_rfl) (by kernel_rfl) (fun _ _ _ h => h) (by kernel_rfl) hHeld (tf 131071 31) (by kernel_rfl) (fun K hK => ?_)
      go_big_move
      refine hK.out _ ?_
      clear hK K
      refine fast_skip 17 30 (fuel := 13) rfl rfl (by kernel_rfl) (by kernel_rfl) (by kernel_rfl) (fun _ _ _ h => h) (by kernel_rfl) hHeld (tf 262143 31) (by kernel_rfl) (fun K hK => ?_)
      go_big_move
      refine hK.out _ ?_
      clear hK K
      refine fast_skip 18 31 (fuel := 12) rfl rfl (by kernel_rfl) (by kernel_rfl) (by kernel_rfl) (fun _ _ _ h => h) (by kernel_rfl) hHeld (tf 524287 31) (by kernel_rfl) (fun K hK => ?_)
      go_big_move
      refine hK.out _ ?_
      clear hK K
      refine fast_skip 19 32 (fuel := 11) rfl rfl (by kernel_rfl) (by kernel_rfl) (by kernel_rfl) (fun _ _ _ h => h) (by kernel_rfl) hHeld (tf 1048575 31) (by kernel_rfl) (fun K hK => ?_)
      go_big_move
      refine hK.out _ ?_
      clear hK K
      refine fast_skip 20 33 (fuel := 10) rfl rfl (by kernel_rfl) (by kernel_rfl) (by kernel_rfl) (fun _ _ _ h => h) (by kernel_rfl) hHeld (tf 2097151 31) (by kernel_rfl) (fun K hK => ?_)
      go_big_move
      refine hK.out _ ?_
      clear hK K
      refine fast_skip 21 34 (fuel := 9) rfl rfl (by kernel_rfl) (by kernel_rfl) (by kernel_rfl) (fun _ _ _ h => h) (by kernel_rfl) hHeld (tf 4194303 31) (by kernel_rfl) (fun K hK => ?_)
      go_big_move
      refine hK.out _ ?_
      clear hK K
      refine fast_skip 22 35 (fuel := 8) rfl rfl (by kernel_rfl) (by kernel_rfl) (by kernel_rfl) (fun _ _ _ h => h) (by kernel_rfl) hHeld (tf 8388607 31) (by kernel_rfl) (fun K hK => ?_)
      go_big_move
      refine hK.out _ ?_
      clear hK K
      refine fast_skip 23 36 (fuel := 7) rfl rfl (by kernel_rfl) (by kernel_rfl) (by kernel_rfl) (fun _ _ _ h => h) (by kernel_rfl) hHeld (tf 16777215 31) (by kernel_rfl) (fun K hK => ?_)
      go_big_move
      refine hK.out _ ?_
      clear hK K
      refine fast_skip 24 37 (fuel := 6) rfl rfl (by kernel_rfl) (by kernel_rfl) (by kernel_rfl) (fun _ _ _ h => h) (by kernel_rfl) hHeld (tf 33554431 31) (by kernel_rfl) (fun K hK => ?_)
      go_big_move
      refine hK.out _ ?_
      clear hK K
      refine fast_skip 25 38 (fuel := 5) rfl rfl (by kernel_rfl) (by kernel_rfl) (by kernel_rfl) (fun _ _ _ h => h) (by kernel_rfl) hHeld (tf 67108863 31) (by kernel_rfl) (fun K hK => ?_)
      go_big_move
      refine hK.out _ ?_
      clear hK K
      refine fast_skip 26 39 (fuel := 4) rfl rfl (by kernel_rfl) (by kernel_rfl) (by kernel_rfl) (fun _ _ _ h => h) (by kernel_rfl) hHeld (tf 134217727 31) (by kernel_rfl) (fun K hK => ?_)
      go_big_move
      refine hK.out _ ?_
      clear hK K
      refine fast_skip 27 40 (fuel := 3) rfl rfl (by kernel_rfl) (by kernel_rfl) (by kernel_rfl) (fun _ _ _ h => h) (by kernel_rfl) hHeld (tf 268435455 31) (by kernel_rfl) (fun K hK => ?_)
      go_big_move
      refine hK.out _ ?_
      clear hK K
      refine fast_skip 28 41 (fuel := 2) rfl rfl (by kernel_rfl) (by kernel_rfl) (by kernel_rfl) (fun _ _ _ h => h) (by kernel_rfl) hHeld (tf 536870911 31) (by kernel_rfl) (fun K hK => ?_)
      go_big_move
      refine hK.out _ ?_
      clear hK K
      refine fast2 29 42 (.bool false) (.tmp 28) (.bool false) (.tmp 41) (undef) (fuel := 1) rfl rfl (by kernel_rfl) (by kernel_rfl) (by kernel_rfl) (fun _ _ _ h => h) (by kernel_rfl) (by kernel_rfl) (by kernel_rfl) (fun ρ hr0 hr1 hc w hSw => by simp [go_sem, hc, hr0, hr1]) hHeld (tf 1073741823 31) (by kernel_rfl) (fun K hK => ?_)
      go_big_move
      refine hK.out _ ?_
      clear hK K
      refine fast_move 30 4 (.bool false) (.tmp 42) (fuel := 0) rfl rfl (by kernel_rfl) (by kernel_rfl) (by kernel_rfl) (fun _ _ _ h => h) (by kernel_rfl) (by kernel_rfl) (by first | exact Or.inl rfl | exact Or.inr rfl) hHeld (tf 2147483647 31) (by kernel_rfl) (fun K hK => ?_)
      go_big_move
      refine hK.out _ ?_
      clear hK K
      refine wpAnyH_done (by kernel_rfl) ?_ _
      go_wp2_with fail
      go_ret
      exact ⟨ret_bool (by rw [HR.out]; rfl), hHeld.1.1⟩
    | true =>
      cases s2 with
      | false =>
        refine wp_region_tf (S := fun w' => LegS w w' (iaC st it a2 n2 c2 a3 n3 c3 a4 n4 c4 a5 n5 c5) (iaC su iu b2 m2 d2 b3 m3 d3 b4 m4 d4 b5 m5 d5) (iaC tst tit xa2 tins.length xc2 xa3 touts.length xc3 xa4 thids.length xc4 xa5 tsteps.length xc5) w4.heap.size ⟨tst, tit, tins, touts, thids, tsteps⟩) 31 (by kernel_rfl) (by kernel_rfl) (by kernel_rfl) SD (fun hHeld => ?_)
        refine fast_move 0 13 (.bool true) (.tmp 6) (fuel := 30) rfl rfl (by kernel_rfl) (by kernel_rfl) (by kernel_rfl) (fun _ _ _ h => h) (by kernel_rfl) (by kernel_rfl) (by first | exact Or.inl rfl | exact Or.inr rfl) hHeld (tf 1 31) (by kernel_rfl) (fun K hK => ?_)
        go_big_move
        refine hK.out _ ?_
        clear hK K
        refine fast_move 1 14 (.bool true) (.tmp 13) (fuel := 29) rfl rfl (by kernel_rfl) (by kernel_rfl) (by kernel_rfl) (fun _ _ _ h => h) (by kernel_rfl) (by kernel_rfl) (by first | exact Or.inl rfl | exact Or.inr rfl) hHeld (tf 3 31) (by kernel_rfl) (fun K hK => ?_)
        go_big_move
        refine hK.out _ ?_
        clear hK K
        refine fast1 2 15 (.pointer (some ⟨w.heap.size + 1, 2, none⟩)) (.tmp 3) (.pointer (some ⟨w.heap.size + 1, 0, none⟩)) (fuel := 28) rfl rfl (by kernel_rfl) (by kernel_rfl) (by kernel_rfl) (fun _ _ _ h => h) (by kernel_rfl) (by kernel_rfl) (fun ρ hr0 _ w hSw => by simp [go_sem, hr0]) hHeld (tf 7 31) (by kernel_rfl) (fun K hK => ?_)
        go_big_move
        refine hK.out _ ?_
        clear hK K
        refine fast1 3 16 (.slice b2 m2 d2) (.tmp 15) (.pointer (some ⟨w.heap.size + 1, 2, none⟩)) (fuel := 27) rfl rfl (by kernel_rfl) (by kernel_rfl) (by kernel_rfl) (fun _ _ _ h => h) (by kernel_rfl) (by kernel_rfl) (fun ρ hr0 _ w hSw => by have m := hSw.1.2.2.cell (j := 2) (u := .slice b2 m2 d2) rfl; simp [go_sem, hr0, m]) hHeld (tf 15 31) (by kernel_rfl) (fun K hK => ?_)
        go_big_move
        refine hK.out _ ?_
        clear hK K
        refine fast1 4 17 (.pointer (some ⟨w.heap.size, 3, none⟩)) (.tmp 2) (.pointer (some ⟨w.heap.size, 0, none⟩)) (fuel := 26) rfl rfl (by kernel_rfl) (by kernel_rfl) (by kernel_rfl) (fun _ _ _ h => h) (by kernel_rfl) (by kernel_rfl) (fun ρ hr0 _ w hSw => by simp [go_sem, hr0]) hHeld (tf 31 31) (by kernel_rfl) (fun K hK => ?_)
        go_big_move
        refine hK.out _ ?_
        clear hK K
        refine fast1 5 18 (.slice a3 n3 c3) (.tmp 17) (.pointer (some ⟨w.heap.size, 3, none⟩)) (fuel := 25) rfl rfl (by kernel_rfl) (by kernel_rfl) (by kernel_rfl) (fun _ _ _ h => h) (by kernel_rfl) (by kernel_rfl) (fun ρ hr0 _ w hSw => by have m := hSw.1.2.1.cell (j := 3) (u := .slice a3 n3 c3) rfl; simp [go_sem, hr0, m]) hHeld (tf 63 31) (by kernel_rfl) (fun K hK => ?_)
        go_big_move
        refine hK.out _ ?_
        clear hK K
        refine wpAnyH_ready (rs := [6]) (fuel := 24) (by kernel_rfl) (by simp) ?_
        refine ready_want rfl (by kernel_rfl) (tf 127 31) (by kernel_rfl) (fun K hK => ?_) AllReadyH.nil
        simp only [List.getElem_toArray, List.getElem_cons_succ, List.getElem_cons_zero]
        go_big_op
        refine (CE1.out _ hHeld.1.1).mono ?_
        rintro e w6 ⟨rfl, hb⟩
        have hS := hHeld.below hb
        clear hb
        refine hK.out _ _ hS (fun hHeld => ?_)
        clear hK K
        refine fast2 7 20 (.bool true) (.tmp 14) (.bool true) (.tmp 19) (.bool true) (fuel := 23) rfl rfl (by kernel_rfl) (by kernel_rfl) (by kernel_rfl) (fun _ _ _ h => h) (by kernel_rfl) (by kernel_rfl) (by kernel_rfl) (fun ρ hr0 hr1 hc w hSw => by simp [go_sem, hc, hr0, hr1]) hHeld (tf 255 31) (by kernel_rfl) (fun K hK => ?_)
        go_big_move
        refine hK.out _ ?_
        clear hK K
        refine fast_move 8 21 (.bool true) (.tmp 20) (fuel := 22) rfl rfl (by kernel_rfl) (by kernel_rfl) (by kernel_rfl) (fun _ _ _ h => h) (by kernel_rfl) (by kernel_rfl) (by first | exact Or.inl rfl | exact Or.inr rfl) hHeld (tf 511 31) (by kernel_rfl) (fun K hK => ?_)
        go_big_move
        refine hK.out _ ?_
        clear hK K
        refine fast1 9 22 (.pointer (some ⟨w.heap.size + 1, 3, none⟩)) (.tmp 3) (.pointer (some ⟨w.heap.size + 1, 0, none⟩)) (fuel := 21) rfl rfl (by kernel_rfl) (by kernel_rfl) (by kernel_rfl) (fun _ _ _ h => h) (by kernel_rfl) (by kernel_rfl) (fun ρ hr0 _ w hSw => by simp [go_sem, hr0]) hHeld (tf 1023 31) (by kernel_rfl) (fun K hK => ?_)
        go_big_move
        refine hK.out _ ?_
        clear hK K
        refine fast1 10 23 (.slice b3 m3 d3) (.tmp 22) (.pointer (some ⟨w.heap.size + 1, 3, none⟩)) (fuel := 20) rfl rfl (by kernel_rfl) (by kernel_rfl) (by kernel_rfl) (fun _ _ _ h => h) (by kernel_rfl) (by kernel_rfl) (fun ρ hr0 _ w hSw => by have m := hSw.1.2.2.cell (j := 3) (u := .slice b3 m3 d3) rfl; simp [go_sem, hr0, m]) hHeld (tf 2047 31) (by kernel_rfl) (fun K hK => ?_)
        go_big_move
        refine hK.out _ ?_
        clear hK K
        refine fast1 11 24 (.pointer (some ⟨w.heap.size, 2, none⟩)) (.tmp 2) (.pointer (some ⟨w.heap.size, 0, none⟩)) (fuel := 19) rfl rfl (by kernel_rfl) (by kernel_rfl) (by kernel_rfl) (fun _ _ _ h => h) (by kernel_rfl) (by kernel_rfl) (fun ρ hr0 _ w hSw => by simp [go_sem, hr0]) hHeld (tf 4095 31) (by kernel_rfl) (fun K hK => ?_)
        go_big_move
        refine hK.out _ ?_
        clear hK K
        refine fast1 12 25 (.slice a2 n2 c2) (.tmp 24) (.pointer (some ⟨w.heap.size, 2, none⟩)) (fuel := 18) rfl rfl (by kernel_rfl) (by kernel_rfl) (by kernel_rfl) (fun _ _ _ h => h) (by kernel_rfl) (by kernel_rfl) (fun ρ hr0 _ w hSw => by have m := hSw.1.2.1.cell (j := 2) (u := .slice a2 n2 c2) rfl; simp [go_sem, hr0, m]) hHeld (tf 8191 31) (by kernel_rfl) (fun K hK => ?_)
        go_big_move
        refine hK.out _ ?_
        clear hK K
        refine wpAnyH_ready (rs := [13]) (fuel := 17) (by kernel_rfl) (by simp) ?_
        refine ready_want rfl (by kernel_rfl) (tf 16383 31) (by kernel_rfl) (fun K hK => ?_) AllReadyH.nil
        simp only [List.getElem_toArray, List.getElem_cons_succ, List.getElem_cons_zero]
        go_big_op
        refine (CE2.out _ hHeld.1.1).mono ?_
        rintro e w7 ⟨rfl, hb⟩
        have hS := hHeld.below hb
        clear hb
        refine hK.out _ _ hS (fun hHeld => ?_)
        clear hK K
        refine fast2 14 27 (.bool false) (.tmp 21) (.bool true) (.tmp 26) (.bool false) (fuel := 16) rfl rfl (by kernel_rfl) (by kernel_rfl) (by kernel_rfl) (fun _ _ _ h => h) (by kernel_rfl) (by kernel_rfl) (by kernel_rfl) (fun ρ hr0 hr1 hc w hSw => by simp [go_sem, hc, hr0, hr1]) hHeld (tf 32767 31) (by kernel_rfl) (fun K hK => ?_)
        go_big_move
        refine hK.out _ ?_
        clear hK K
        refine fast_move 15 28 (.bool false) (.tmp 27) (fuel := 15) rfl rfl (by kernel_rfl) (by kernel_rfl) (by kernel_rfl) (fun _ _ _ h => h) (by kernel_rfl) (by kernel_rfl) (by first | exact Or.inl rfl | exact Or.inr rfl) hHeld (tf 65535 31) (by kernel_rfl) (fun K hK => ?_)
        go_big_move
        refine hK.out _ ?_
        clear hK K
        refine fast_skip 16 29 (fuel := 14) rfl rfl (by kernel_rfl) (by kernel_rfl) (by kernel_rfl) (fun _ _ _ h => h) (by kernel_rfl) hHeld (tf 131071 31) (by kernel_rfl) (fun K hK => ?_)
        go_big_move
        refine hK.out _ ?_
        clear hK K
        refine fast_skip 17 30 (fuel := 13) rfl rfl (by kernel_rfl) (by kernel_rfl) (by kernel_rfl) (fun _ _ _ h => h) (by kernel_rfl) hHeld (tf 262143 31) (by kernel_rfl) (fun K hK => ?_)
        go_big_move
        refine hK.out _ ?_
        clear hK K
        refine fast_skip 18 31 (fuel := 12) rfl rfl (by kernel_rfl) (by kernel_rfl) (by kernel_rfl) (fun _ _ _ h => h) (by kernel_rfl) hHeld (tf 524287 31) (by kernel_rfl) (fun K hK => ?_)
        go_big_move
        refine hK.out _ ?_
        clear hK K
        refine fast_skip 19 32 (fuel := 11) rfl rfl (by kernel_rfl) (by kernel_rfl) (by kernel_rfl) (fun _ _ _ h => h) (by kernel_rfl) hHeld (tf 1048575 31) (by kernel_rfl) (fun K hK => ?_)
        go_big_move
        refine hK.out _ ?_
        clear hK K
        refine fast_skip 20 33 (fuel := 10) rfl rfl (by kernel_rfl) (by kernel_rfl) (by kernel_rfl) (fun _ _ _ h => h) (by kernel_rfl) hHeld (tf 2097151 31) (by kernel_rfl) (fun K hK => ?_)
        go_big_move
        refine hK.out _ ?_
        clear hK K
        refine fast_skip 21 34 (fuel := 9) rfl rfl (by kernel_rfl) (by kernel_rfl) (by kernel_rfl) (fun _ _ _ h => h) (by kernel_rfl) hHeld (tf 4194303 31) (by kernel_rfl) (fun K hK => ?_)
        go_big_move
        refine hK.out _ ?_
        clear hK K
        refine fast_skip 22 35 (fuel := 8) rfl rfl (by kernel_rfl) (by kernel_rfl) (by kernel_rfl) (fun _ _ _ h => h) (by kernel_rfl) hHeld (tf 8388607 31) (by kernel_rfl) (fun K hK => ?_)
        go_big_move
        refine hK.out _ ?_
        clear hK K
        refine fast_skip 23 36 (fuel := 7) rfl rfl (by kernel_rfl) (by kernel_rfl) (by kernel_rfl) (fun _ _ _ h => h) (by kernel_rfl) hHeld (tf 16777215 31) (by kernel_rfl) (fun K hK => ?_)
        go_big_move
        refine hK.out _ ?_
        clear hK K
        refine fast_skip 24 37 (fuel := 6) rfl rfl (by kernel_rfl) (by kernel_rfl) (by kernel_rfl) (fun _ _ _ h => h) (by kernel_rfl) hHeld (tf 33554431 31) (by kernel_rfl) (fun K hK => ?_)
        go_big_move
        refine hK.out _ ?_
        clear hK K
        refine fast_skip 25 38 (fuel := 5) rfl rfl (by kernel_rfl) (by kernel_rfl) (by kernel_rfl) (fun _ _ _ h => h) (by kernel_rfl) hHeld (tf 67108863 31) (by kernel_rfl) (fun K hK => ?_)
        go_big_move
        refine hK.out _ ?_
        clear hK K
        refine fast_skip 26 39 (fuel := 4) rfl rfl (by kernel_rfl) (by kernel_rfl) (by kernel_rfl) (fun _ _ _ h => h) (by kernel_rfl) hHeld (tf 134217727 31) (by kernel_rfl) (fun K hK => ?_)
        go_big_move
        refine hK.out _ ?_
        clear hK K
        refine fast_skip 27 40 (fuel := 3) rfl rfl (by kernel_rfl) (by kernel_rfl) (by kernel_rfl) (fun _ _ _ h => h) (by kernel_rfl) hHeld (tf 268435455 31) (by kernel_rfl) (fun K hK => ?_)
        go_big_move
        refine hK.out _ ?_
        clear hK K
        refine fast_skip 28 41 (fuel := 2) rfl rfl (by kernel_rfl) (by kernel_rfl) (by kernel_rfl) (fun _ _ _ h => h) (by kernel_rfl) hHeld (tf 536870911 31) (by kernel_rfl) (fun K hK => ?_)
        go_big_move
        refine hK.out _ ?_
        clear hK K
        refine fast2 29 42 (.bool false) (.tmp 28) (.bool false) (.tmp 41) (undef) (fuel := 1) rfl rfl (by kernel_rfl) (by kernel_rfl) (by kernel_rfl) (fun _ _ _ h => h) (by kernel_rfl) (by kernel_rfl) (by kernel_rfl) (fun ρ hr0 hr1 hc w hSw => by simp [go_sem, hc, hr0, hr1]) hHeld (tf 1073741823 31) (by kernel_rfl) (fun K hK => ?_)
        go_big_move
        refine hK.out _ ?_
        clear hK K
        refine fast_move 30 4 (.bool false) (.tmp 42) (fuel := 0) rfl rfl (by kernel_rfl) (by kernel_rfl) (by kernel_rfl) (fun _ _ _ h => h) (by kernel_rfl) (by kernel_rfl) (by first | exact Or.inl rfl | exact Or.inr rfl) hHeld (tf 2147483647 31) (by kernel_rfl) (fun K hK => ?_)
        go_big_move
        refine hK.out _ ?_
        clear hK K
        refine wpAnyH_done (by kernel_rfl) ?_ _
        go_wp2_with fail
        go_ret
        exact ⟨ret_bool (by rw [HR.out]; rfl), hHeld.1.1⟩
      | true =>
        clear hx
        by_cases hz : x = 0
        · subst hz
          refine wp_region_tf (S := fun w' => LegS w w' (iaC st it a2 n2 c2 a3 n3 c3 a4 n4 c4 a5 n5 c5) (iaC su iu b2 m2 d2 b3 m3 d3 b4 m4 d4 b5 m5 d5) (iaC tst tit xa2 tins.length xc2 xa3 touts.length xc3 xa4 thids.length xc4 xa5 tsteps.length xc5) w4.heap.size ⟨tst, tit, tins, touts, thids, tsteps⟩) 31 (by kernel_rfl) (by kernel_rfl) (by kernel_rfl) SD (fun hHeld => ?_)
          refine fast_move 0 13 (.bool true) (.tmp 6) (fuel := 30) rfl rfl (by kernel_rfl) (by kernel_rfl) (by kernel_rfl) (fun _ _ _ h => h) (by kernel_rfl) (by kernel_rfl) (by first | exact Or.inl rfl | exact Or.inr rfl) hHeld (tf 1 31) (by kernel_rfl) (fun K hK => ?_)
          go_big_move
          refine hK.out _ ?_
          clear hK K
          refine fast_move 1 14 (.bool true) (.tmp 13) (fuel := 29) rfl rfl (by kernel_rfl) (by kernel_rfl) (by kernel_rfl) (fun _ _ _ h => h) (by kernel_rfl) (by kernel_rfl) (by first | exact Or.inl rfl | exact Or.inr rfl) hHeld (tf 3 31) (by kernel_rfl) (fun K hK => ?_)
          go_big_move
          refine hK.out _ ?_
          clear hK K
          refine fast1 2 15 (.pointer (some ⟨w.heap.size + 1, 2, none⟩)) (.tmp 3) (.pointer (some ⟨w.heap.size + 1, 0, none⟩)) (fuel := 28) rfl rfl (by kernel_rfl) (by kernel_rfl) (by kernel_rfl) (fun _ _ _ h => h) (by kernel_rfl) (by kernel_rfl) (fun ρ hr0 _ w hSw => by simp [go_sem, hr0]) hHeld (tf 7 31) (by kernel_rfl) (fun K hK => ?_)
          go_big_move
          refine hK.out _ ?_
          clear hK K
          refine fast1 3 16 (.slice b2 m2 d2) (.tmp 15) (.pointer (some ⟨w.heap.size + 1, 2, none⟩)) (fuel := 27) rfl rfl (by kernel_rfl) (by kernel_rfl) (by kernel_rfl) (fun _ _ _ h => h) (by kernel_rfl) (by kernel_rfl) (fun ρ hr0 _ w hSw => by have m := hSw.1.2.2.cell (j := 2) (u := .slice b2 m2 d2) rfl; simp [go_sem, hr0, m]) hHeld (tf 15 31) (by kernel_rfl) (fun K hK => ?_)
          go_big_move
          refine hK.out _ ?_
          clear hK K
          refine fast1 4 17 (.pointer (some ⟨w.heap.size, 3, none⟩)) (.tmp 2) (.pointer (some ⟨w.heap.size, 0, none⟩)) (fuel := 26) rfl rfl (by kernel_rfl) (by kernel_rfl) (by kernel_rfl) (fun _ _ _ h => h) (by kernel_rfl) (by kernel_rfl) (fun ρ hr0 _ w hSw => by simp [go_sem, hr0]) hHeld (tf 31 31) (by kernel_rfl) (fun K hK => ?_)
          go_big_move
          refine hK.out _ ?_
          clear hK K
          refine fast1 5 18 (.slice a3 n3 c3) (.tmp 17) (.pointer (some ⟨w.heap.size, 3, none⟩)) (fuel := 25) rfl rfl (by kernel_rfl) (by kernel_rfl) (by kernel_rfl) (fun _ _ _ h => h) (by kernel_rfl) (by kernel_rfl) (fun ρ hr0 _ w hSw => by have m := hSw.1.2.1.cell (j := 3) (u := .slice a3 n3 c3) rfl; simp [go_sem, hr0, m]) hHeld (tf 63 31) (by kernel_rfl) (fun K hK => ?_)
          go_big_move
          refine hK.out _ ?_
          clear hK K
          refine wpAnyH_ready (rs := [6]) (fuel := 24) (by kernel_rfl) (by simp) ?_
          refine ready_want rfl (by kernel_rfl) (tf 127 31) (by kernel_rfl) (fun K hK => ?_) AllReadyH.nil
          simp only [List.getElem_toArray, List.getElem_cons_succ, List.getElem_cons_zero]
          go_big_op
          refine (CE1.out _ hHeld.1.1).mono ?_
          rintro e wp1 ⟨rfl, hb⟩
          have hS1 := hHeld.below hb
          clear hb 
          refine hK.out _ _ hS1 (fun hHeld => ?_)
          clear hK K hS1
          refine fast2 7 20 (.bool true) (.tmp 14) (.bool true) (.tmp 19) (.bool true) (fuel := 23) rfl rfl (by kernel_rfl) (by kernel_rfl) (by kernel_rfl) (fun _ _ _ h => h) (by kernel_rfl) (by kernel_rfl) (by kernel_rfl) (fun ρ hr0 hr1 hc w hSw => by simp [go_sem, hc, hr0, hr1]) hHeld (tf 255 31) (by kernel_rfl) (fun K hK => ?_)
          go_big_move
          refine hK.out _ ?_
          clear hK K
          refine fast_move 8 21 (.bool true) (.tmp 20) (fuel := 22) rfl rfl (by kernel_rfl) (by kernel_rfl) (by kernel_rfl) (fun _ _ _ h => h) (by kernel_rfl) (by kernel_rfl) (by first | exact Or.inl rfl | exact Or.inr rfl) hHeld (tf 511 31) (by kernel_rfl) (fun K hK => ?_)
          go_big_move
          refine hK.out _ ?_
          clear hK K
          refine fast1 9 22 (.pointer (some ⟨w.heap.size + 1, 3, none⟩)) (.tmp 3) (.pointer (some ⟨w.heap.size + 1, 0, none⟩)) (fuel := 21) rfl rfl (by kernel_rfl) (by kernel_rfl) (by kernel_rfl) (fun _ _ _ h => h) (by kernel_rfl) (by kernel_rfl) (fun ρ hr0 _ w hSw => by simp [go_sem, hr0]) hHeld (tf 1023 31) (by kernel_rfl) (fun K hK => ?_)
          go_big_move
          refine hK.out _ ?_
          clear hK K
          refine fast1 10 23 (.slice b3 m3 d3) (.tmp 22) (.pointer (some ⟨w.heap.size + 1, 3, none⟩)) (fuel := 20) rfl rfl (by kernel_rfl) (by kernel_rfl) (by kernel_rfl) (fun _ _ _ h => h) (by kernel_rfl) (by kernel_rfl) (fun ρ hr0 _ w hSw => by have m := hSw.1.2.2.cell (j := 3) (u := .slice b3 m3 d3) rfl; simp [go_sem, hr0, m]) hHeld (tf 2047 31) (by kernel_rfl) (fun K hK => ?_)
          go_big_move
          refine hK.out _ ?_
          clear hK K
          refine fast1 11 24 (.pointer (some ⟨w.heap.size, 2, none⟩)) (.tmp 2) (.pointer (some ⟨w.heap.size, 0, none⟩)) (fuel := 19) rfl rfl (by kernel_rfl) (by kernel_rfl) (by kernel_rfl) (fun _ _ _ h => h) (by kernel_rfl) (by kernel_rfl) (fun ρ hr0 _ w hSw => by simp [go_sem, hr0]) hHeld (tf 4095 31) (by kernel_rfl) (fun K hK => ?_)
          go_big_move
          refine hK.out _ ?_
          clear hK K
          refine fast1 12 25 (.slice a2 n2 c2) (.tmp 24) (.pointer (some ⟨w.heap.size, 2, none⟩)) (fuel := 18) rfl rfl (by kernel_rfl) (by kernel_rfl) (by kernel_rfl) (fun _ _ _ h => h) (by kernel_rfl) (by kernel_rfl) (fun ρ hr0 _ w hSw => by have m := hSw.1.2.1.cell (j := 2) (u := .slice a2 n2 c2) rfl; simp [go_sem, hr0, m]) hHeld (tf 8191 31) (by kernel_rfl) (fun K hK => ?_)
          go_big_move
          refine hK.out _ ?_
          clear hK K
          refine wpAnyH_ready (rs := [13]) (fuel := 17) (by kernel_rfl) (by simp) ?_
          refine ready_want rfl (by kernel_rfl) (tf 16383 31) (by kernel_rfl) (fun K hK => ?_) AllReadyH.nil
          simp only [List.getElem_toArray, List.getElem_cons_succ, List.getElem_cons_zero]
          go_big_op
          refine (CE2.out _ hHeld.1.1).mono ?_
          rintro e wp2 ⟨rfl, hb⟩
          have hS2 := hHeld.below hb
          clear hb 
          refine hK.out _ _ hS2 (fun hHeld => ?_)
          clear hK K hS2
          refine fast2 14 27 (.bool true) (.tmp 21) (.bool true) (.tmp 26) (.bool true) (fuel := 16) rfl rfl (by kernel_rfl) (by kernel_rfl) (by kernel_rfl) (fun _ _ _ h => h) (by kernel_rfl) (by kernel_rfl) (by kernel_rfl) (fun ρ hr0 hr1 hc w hSw => by simp [go_sem, hc, hr0, hr1]) hHeld (tf 32767 31) (by kernel_rfl) (fun K hK => ?_)
          go_big_move
          refine hK.out _ ?_
          clear hK K
          refine fast_move 15 28 (.bool true) (.tmp 27) (fuel := 15) rfl rfl (by kernel_rfl) (by kernel_rfl) (by kernel_rfl) (fun _ _ _ h => h) (by kernel_rfl) (by kernel_rfl) (by first | exact Or.inl rfl | exact Or.inr rfl) hHeld (tf 65535 31) (by kernel_rfl) (fun K hK => ?_)
          go_big_move
          refine hK.out _ ?_
          clear hK K
          refine fast_yields 16 29 (.agg #[.int .i64 tst, .int .i64 tit, .slice xa2 tins.length xc2, .slice xa3 touts.length xc3, .slice xa4 thids.length xc4, .slice xa5 tsteps.length xc5]) (fuel := 14) rfl rfl (by kernel_rfl) (by kernel_rfl) (by kernel_rfl) (fun _ _ _ h => h) (yieldsIf_load_mid (by rfl) _ _ rfl (w4.heap.size) 0 rfl (iaC tst tit xa2 tins.length xc2 xa3 touts.length xc3 xa4 thids.length xc4 xa5 tsteps.length xc5).toList _ (fun w hw => hw.2.1.range) Tryz.underlying29 rfl (by kernel_rfl)) hHeld (tf 131071 31) (by kernel_rfl) (fun K hK => ?_)
          go_big_move
          refine hK.out _ ?_
          clear hK K
          refine fast1 17 30 (.pointer (some ⟨w4.heap.size, 1, none⟩)) (.tmp 5) (.pointer (some ⟨w4.heap.size, 0, none⟩)) (fuel := 13) rfl rfl (by kernel_rfl) (by kernel_rfl) (by kernel_rfl) (fun _ _ _ h => h) (by kernel_rfl) (by kernel_rfl) (fun ρ hr0 _ w hSw => by simp [go_sem, hr0]) hHeld (tf 262143 31) (by kernel_rfl) (fun K hK => ?_)
          go_big_move
          refine hK.out _ ?_
          clear hK K
          refine fast1 18 31 (.int .i64 tit) (.tmp 30) (.pointer (some ⟨w4.heap.size, 1, none⟩)) (fuel := 12) rfl rfl (by kernel_rfl) (by kernel_rfl) (by kernel_rfl) (fun _ _ _ h => h) (by kernel_rfl) (by kernel_rfl) (fun ρ hr0 _ w hSw => by have m := hSw.2.1.cell (j := 1) (u := .int .i64 tit) rfl; simp [go_sem, hr0, m]) hHeld (tf 524287 31) (by kernel_rfl) (fun K hK => ?_)
          go_big_move
          refine hK.out _ ?_
          clear hK K
          refine fast_yields 20 33 (.agg #[.int .i64 tst, .int .i64 tit, .slice xa2 tins.length xc2, .slice xa3 touts.length xc3, .slice xa4 thids.length xc4, .slice xa5 tsteps.length xc5]) (fuel := 11) rfl rfl (by kernel_rfl) (by kernel_rfl) (by kernel_rfl) (fun _ _ _ h => h) (yieldsIf_load_mid (by rfl) _ _ rfl (w4.heap.size) 0 rfl (iaC tst tit xa2 tins.length xc2 xa3 touts.length xc3 xa4 thids.length xc4 xa5 tsteps.length xc5).toList _ (fun w hw => hw.2.1.range) Tryz.underlying29 rfl (by kernel_rfl)) hHeld (tf 1572863 31) (by kernel_rfl) (fun K hK => ?_)
          go_big_move
          refine hK.out _ ?_
          clear hK K
          refine fast_yields 23 36 (.agg #[.int .i64 st, .int .i64 it, .slice a2 n2 c2, .slice a3 n3 c3, .slice a4 n4 c4, .slice a5 n5 c5]) (fuel := 10) rfl rfl (by kernel_rfl) (by kernel_rfl) (by kernel_rfl) (fun _ _ _ h => h) (yieldsIf_load_mid (by rfl) _ _ rfl (w.heap.size) 0 rfl (iaC st it a2 n2 c2 a3 n3 c3 a4 n4 c4 a5 n5 c5).toList _ (fun w hw => hw.1.2.1.range) Tryz.underlying29 rfl (by kernel_rfl)) hHeld (tf 9961471 31) (by kernel_rfl) (fun K hK => ?_)
          go_big_move
          refine hK.out _ ?_
          clear hK K
          refine fast_yields 24 37 (.agg #[.int .i64 su, .int .i64 iu, .slice b2 m2 d2, .slice b3 m3 d3, .slice b4 m4 d4, .slice b5 m5 d5]) (fuel := 9) rfl rfl (by kernel_rfl) (by kernel_rfl) (by kernel_rfl) (fun _ _ _ h => h) (yieldsIf_load_mid (by rfl) _ _ rfl (w.heap.size + 1) 0 rfl (iaC su iu b2 m2 d2 b3 m3 d3 b4 m4 d4 b5 m5 d5).toList _ (fun w hw => hw.1.2.2.range) Tryz.underlying29 rfl (by kernel_rfl)) hHeld (tf 26738687 31) (by kernel_rfl) (fun K hK => ?_)
          go_big_move
          refine hK.out _ ?_
          clear hK K
          refine wpAnyH_ready (rs := [19, 21]) (fuel := 8) (by kernel_rfl) (by simp) ?_
          refine ready_want rfl (by kernel_rfl) (tf 27262975 31) (by kernel_rfl) (fun K hK => ?_) ?_
          · have il3 : Hid (Row (wp2.alloc (.cells #[.int .i64 tit] 3)) (some ⟨wp2.heap.size, 0, none⟩) 1 [tit]) := row_lit1 wp2 tit _ (by simp)
            simp only [List.getElem_toArray, List.getElem_cons_succ, List.getElem_cons_zero]
            go_big_op
            refine hK.out _ _ (hHeld.below ((Below.refl _ wp2).alloc (Nat.le_refl _) (.cells #[.int .i64 tit] 3))) (fun hHeld => ?_)
            clear hK K
            refine wpAnyH_ready (rs := [21]) (fuel := 7) (by kernel_rfl) (by simp) ?_
            refine ready_want rfl (by kernel_rfl) (tf 29360127 31) (by kernel_rfl) (fun K hK => ?_) AllReadyH.nil
            simp only [List.getElem_toArray, List.getElem_cons_succ, List.getElem_cons_zero]
            go_big_op
            refine (CAO.out _ _ hHeld.2.2.rowIa).mono ?_
            rintro e wp4 ⟨ad4, cc4, rfl, hr, hb⟩
            have il4 : Hid (Row wp4 (some ⟨wp2.heap.size, 0, none⟩) 1 [tit]) := il3.out.below (hb)
            have ao4 : Hid (Row wp4 ad4 AL.length AL) := hr
            have hS4 := hHeld.below hb
            clear hb hr
            refine hK.out _ _ hS4 (fun hHeld => ?_)
            clear hK K hS4
            refine wpAnyH_ready (rs := [22]) (fuel := 6) (by kernel_rfl) (by simp) ?_
            refine ready_want rfl (by kernel_rfl) (tf 33554431 31) (by kernel_rfl) (fun K hK => ?_) AllReadyH.nil
            simp only [List.getElem_toArray, List.getElem_cons_succ, List.getElem_cons_zero]
            go_big_op
            refine (CAL.out _ _ _ _ hHeld.2.2.rowIa il4.out ao4.out).mono ?_
            rintro e wp5 ⟨ad5, cc5, rfl, hr, hb⟩
            have il5 : Hid (Row wp5 (some ⟨wp2.heap.size, 0, none⟩) 1 [tit]) := il4.out.below (hb)
            have ao5 : Hid (Row wp5 ad4 AL.length AL) := ao4.out.below (hb)
            have rr5 : Hid (Row wp5 ad5 RL.length RL) := hr
            have hS5 := hHeld.below hb
            clear hb hr
            refine hK.out _ _ hS5 (fun hHeld => ?_)
            clear hK K hS5
            refine wpAnyH_ready (rs := [25]) (fuel := 5) (by kernel_rfl) (by simp) ?_
            refine ready_want rfl (by kernel_rfl) (tf 67108863 31) (by kernel_rfl) (fun K hK => ?_) AllReadyH.nil
            simp only [List.getElem_toArray, List.getElem_cons_succ, List.getElem_cons_zero]
            go_big_op
            refine (CC.out _ hHeld.1.1).mono ?_
            rintro e wp6 ⟨ad6, cc6, rfl, hr, hb⟩
            have il6 : Hid (Row wp6 (some ⟨wp2.heap.size, 0, none⟩) 1 [tit]) := il5.out.below (hb)
            have ao6 : Hid (Row wp6 ad4 AL.length AL) := ao5.out.below (hb)
            have rr6 : Hid (Row wp6 ad5 RL.length RL) := rr5.out.below (hb)
            have rc6 : Hid (Row wp6 ad6 CL.length CL) := hr
            have hS6 := hHeld.below hb
            clear hb hr
            refine hK.out _ _ hS6 (fun hHeld => ?_)
            clear hK K hS6
            refine wpAnyH_ready (rs := [26]) (fuel := 4) (by kernel_rfl) (by simp) ?_
            refine ready_want rfl (by kernel_rfl) (tf 134217727 31) (by kernel_rfl) (fun K hK => ?_) AllReadyH.nil
            simp only [List.getElem_toArray, List.getElem_cons_succ, List.getElem_cons_zero]
            go_big_op
            refine (CM.out _ _ _ _ _ rr6.out rc6.out).mono ?_
            rintro e wp7 ⟨ad7, cc7, rfl, hb⟩
            have il7 : Hid (Row wp7 (some ⟨wp2.heap.size, 0, none⟩) 1 [tit]) := il6.out.below (hb)
            have ao7 : Hid (Row wp7 ad4 AL.length AL) := ao6.out.below (hb)
            have rr7 : Hid (Row wp7 ad5 RL.length RL) := rr6.out.below (hb)
            have rc7 : Hid (Row wp7 ad6 CL.length CL) := rc6.out.below (hb)
            have hS7 := hHeld.below hb
            clear hb 
            refine hK.out _ _ hS7 (fun hHeld => ?_)
            clear hK K hS7
            refine fast1 27 40 (.int .i64 0) (.tmp 39) (.slice ad7 0 cc7) (fuel := 3) rfl rfl (by kernel_rfl) (by kernel_rfl) (by kernel_rfl) (fun _ _ _ h => h) (by kernel_rfl) (by kernel_rfl) (fun ρ hr0 _ w hSw => by simp [go_sem, hr0]) hHeld (tf 268435455 31) (by kernel_rfl) (fun K hK => ?_)
            go_big_move
            refine hK.out _ ?_
            clear hK K
            refine fast1 28 41 (.bool true) (.tmp 40) (.int .i64 0) (fuel := 2) rfl rfl (by kernel_rfl) (by kernel_rfl) (by kernel_rfl) (fun _ _ _ h => h) (by kernel_rfl) (by kernel_rfl) (fun ρ hr0 hc w hSw => by simp [go_sem, hc, hr0]) hHeld (tf 536870911 31) (by kernel_rfl) (fun K hK => ?_)
            go_big_move
            refine hK.out _ ?_
            clear hK K
            refine fast2 29 42 (.bool true) (.tmp 28) (.bool true) (.tmp 41) (.bool true) (fuel := 1) rfl rfl (by kernel_rfl) (by kernel_rfl) (by kernel_rfl) (fun _ _ _ h => h) (by kernel_rfl) (by kernel_rfl) (by kernel_rfl) (fun ρ hr0 hr1 hc w hSw => by simp [go_sem, hc, hr0, hr1]) hHeld (tf 1073741823 31) (by kernel_rfl) (fun K hK => ?_)
            go_big_move
            refine hK.out _ ?_
            clear hK K
            refine fast_move 30 4 (.bool true) (.tmp 42) (fuel := 0) rfl rfl (by kernel_rfl) (by kernel_rfl) (by kernel_rfl) (fun _ _ _ h => h) (by kernel_rfl) (by kernel_rfl) (by first | exact Or.inl rfl | exact Or.inr rfl) hHeld (tf 2147483647 31) (by kernel_rfl) (fun K hK => ?_)
            go_big_move
            refine hK.out _ ?_
            clear hK K
            refine wpAnyH_done (by kernel_rfl) ?_ _
            go_wp2_with fail
            go_ret
            exact ⟨ret_bool (by rw [HR.out]; try simp), hHeld.1.1⟩
          refine ready_want rfl (by kernel_rfl) (tf 28835839 31) (by kernel_rfl) (fun K hK => ?_) AllReadyH.nil
          simp only [List.getElem_toArray, List.getElem_cons_succ, List.getElem_cons_zero]
          go_big_op
          refine (CAO.out _ _ hHeld.2.2.rowIa).mono ?_
          rintro e wp8 ⟨ad8, cc8, rfl, hr, hb⟩
          have ao8 : Hid (Row wp8 ad8 AL.length AL) := hr
          have hS8 := hHeld.below hb
          clear hb hr
          refine hK.out _ _ hS8 (fun hHeld => ?_)
          clear hK K hS8
          refine wpAnyH_ready (rs := [19]) (fuel := 7) (by kernel_rfl) (by simp) ?_
          refine ready_want rfl (by kernel_rfl) (tf 29360127 31) (by kernel_rfl) (fun K hK => ?_) AllReadyH.nil
          have ao9 : Hid (Row (wp8.alloc (.cells #[.int .i64 tit] 3)) ad8 AL.length AL) := ao8.out.below ((Below.refl _ wp8).alloc (Nat.le_refl _) (.cells #[.int .i64 tit] 3))
          have il9 : Hid (Row (wp8.alloc (.cells #[.int .i64 tit] 3)) (some ⟨wp8.heap.size, 0, none⟩) 1 [tit]) := row_lit1 wp8 tit _ (by simp)
          simp only [List.getElem_toArray, List.getElem_cons_succ, List.getElem_cons_zero]
          go_big_op
          refine hK.out _ _ (hHeld.below ((Below.refl _ wp8).alloc (Nat.le_refl _) (.cells #[.int .i64 tit] 3))) (fun hHeld => ?_)
          clear hK K
          refine wpAnyH_ready (rs := [22]) (fuel := 6) (by kernel_rfl) (by simp) ?_
          refine ready_want rfl (by kernel_rfl) (tf 33554431 31) (by kernel_rfl) (fun K hK => ?_) AllReadyH.nil
          simp only [List.getElem_toArray, List.getElem_cons_succ, List.getElem_cons_zero]
          go_big_op
          refine (CAL.out _ _ _ _ hHeld.2.2.rowIa il9.out ao9.out).mono ?_
          rintro e wp10 ⟨ad10, cc10, rfl, hr, hb⟩
          have ao10 : Hid (Row wp10 ad8 AL.length AL) := ao9.out.below (hb)
          have il10 : Hid (Row wp10 (some ⟨wp8.heap.size, 0, none⟩) 1 [tit]) := il9.out.below (hb)
          have rr10 : Hid (Row wp10 ad10 RL.length RL) := hr
          have hS10 := hHeld.below hb
          clear hb hr
          refine hK.out _ _ hS10 (fun hHeld => ?_)
          clear hK K hS10
          refine wpAnyH_ready (rs := [25]) (fuel := 5) (by kernel_rfl) (by simp) ?_
          refine ready_want rfl (by kernel_rfl) (tf 67108863 31) (by kernel_rfl) (fun K hK => ?_) AllReadyH.nil
          simp only [List.getElem_toArray, List.getElem_cons_succ, List.getElem_cons_zero]
          go_big_op
          refine (CC.out _ hHeld.1.1).mono ?_
          rintro e wp11 ⟨ad11, cc11, rfl, hr, hb⟩
          have ao11 : Hid (Row wp11 ad8 AL.length AL) := ao10.out.below (hb)
          have il11 : Hid (Row wp11 (some ⟨wp8.heap.size, 0, none⟩) 1 [tit]) := il10.out.below (hb)
          have rr11 : Hid (Row wp11 ad10 RL.length RL) := rr10.out.below (hb)
          have rc11 : Hid (Row wp11 ad11 CL.length CL) := hr
          have hS11 := hHeld.below hb
          clear hb hr
          refine hK.out _ _ hS11 (fun hHeld => ?_)
          clear hK K hS11
          refine wpAnyH_ready (rs := [26]) (fuel := 4) (by kernel_rfl) (by simp) ?_
          refine ready_want rfl (by kernel_rfl) (tf 134217727 31) (by kernel_rfl) (fun K hK => ?_) AllReadyH.nil
          simp only [List.getElem_toArray, List.getElem_cons_succ, List.getElem_cons_zero]
          go_big_op
          refine (CM.out _ _ _ _ _ rr11.out rc11.out).mono ?_
          rintro e wp12 ⟨ad12, cc12, rfl, hb⟩
          have ao12 : Hid (Row wp12 ad8 AL.length AL) := ao11.out.below (hb)
          have il12 : Hid (Row wp12 (some ⟨wp8.heap.size, 0, none⟩) 1 [tit]) := il11.out.below (hb)
          have rr12 : Hid (Row wp12 ad10 RL.length RL) := rr11.out.below (hb)
          have rc12 : Hid (Row wp12 ad11 CL.length CL) := rc11.out.below (hb)
          have hS12 := hHeld.below hb
          clear hb 
          refine hK.out _ _ hS12 (fun hHeld => ?_)
          clear hK K hS12
          refine fast1 27 40 (.int .i64 0) (.tmp 39) (.slice ad12 0 cc12) (fuel := 3) rfl rfl (by kernel_rfl) (by kernel_rfl) (by kernel_rfl) (fun _ _ _ h => h) (by kernel_rfl) (by kernel_rfl) (fun ρ hr0 _ w hSw => by simp [go_sem, hr0]) hHeld (tf 268435455 31) (by kernel_rfl) (fun K hK => ?_)
          go_big_move
          refine hK.out _ ?_
          clear hK K
          refine fast1 28 41 (.bool true) (.tmp 40) (.int .i64 0) (fuel := 2) rfl rfl (by kernel_rfl) (by kernel_rfl) (by kernel_rfl) (fun _ _ _ h => h) (by kernel_rfl) (by kernel_rfl) (fun ρ hr0 hc w hSw => by simp [go_sem, hc, hr0]) hHeld (tf 536870911 31) (by kernel_rfl) (fun K hK => ?_)
          go_big_move
          refine hK.out _ ?_
          clear hK K
          refine fast2 29 42 (.bool true) (.tmp 28) (.bool true) (.tmp 41) (.bool true) (fuel := 1) rfl rfl (by kernel_rfl) (by kernel_rfl) (by kernel_rfl) (fun _ _ _ h => h) (by kernel_rfl) (by kernel_rfl) (by kernel_rfl) (fun ρ hr0 hr1 hc w hSw => by simp [go_sem, hc, hr0, hr1]) hHeld (tf 1073741823 31) (by kernel_rfl) (fun K hK => ?_)
          go_big_move
          refine hK.out _ ?_
          clear hK K
          refine fast_move 30 4 (.bool true) (.tmp 42) (fuel := 0) rfl rfl (by kernel_rfl) (by kernel_rfl) (by kernel_rfl) (fun _ _ _ h => h) (by kernel_rfl) (by kernel_rfl) (by first | exact Or.inl rfl | exact Or.inr rfl) hHeld (tf 2147483647 31) (by kernel_rfl) (fun K hK => ?_)
          go_big_move
          refine hK.out _ ?_
          clear hK K
          refine wpAnyH_done (by kernel_rfl) ?_ _
          go_wp2_with fail
          go_ret
          exact ⟨ret_bool (by rw [HR.out]; try simp), hHeld.1.1⟩
        · have hd : (((x : Nat) : Int) == 0) = false := by simp; omega
          have HZ := Lib.hid hz
          clear hz
          refine wp_region_tf (S := fun w' => LegS w w' (iaC st it a2 n2 c2 a3 n3 c3 a4 n4 c4 a5 n5 c5) (iaC su iu b2 m2 d2 b3 m3 d3 b4 m4 d4 b5 m5 d5) (iaC tst tit xa2 tins.length xc2 xa3 touts.length xc3 xa4 thids.length xc4 xa5 tsteps.length xc5) w4.heap.size ⟨tst, tit, tins, touts, thids, tsteps⟩) 31 (by kernel_rfl) (by kernel_rfl) (by kernel_rfl) SD (fun hHeld => ?_)
          refine fast_move 0 13 (.bool true) (.tmp 6) (fuel := 30) rfl rfl (by kernel_rfl) (by kernel_rfl) (by kernel_rfl) (fun _ _ _ h => h) (by kernel_rfl) (by kernel_rfl) (by first | exact Or.inl rfl | exact Or.inr rfl) hHeld (tf 1 31) (by kernel_rfl) (fun K hK => ?_)
          go_big_move
          refine hK.out _ ?_
          clear hK K
          refine fast_move 1 14 (.bool true) (.tmp 13) (fuel := 29) rfl rfl (by kernel_rfl) (by kernel_rfl) (by kernel_rfl) (fun _ _ _ h => h) (by kernel_rfl) (by kernel_rfl) (by first | exact Or.inl rfl | exact Or.inr rfl) hHeld (tf 3 31) (by kernel_rfl) (fun K hK => ?_)
          go_big_move
          refine hK.out _ ?_
          clear hK K
          refine fast1 2 15 (.pointer (some ⟨w.heap.size + 1, 2, none⟩)) (.tmp 3) (.pointer (some ⟨w.heap.size + 1, 0, none⟩)) (fuel := 28) rfl rfl (by kernel_rfl) (by kernel_rfl) (by kernel_rfl) (fun _ _ _ h => h) (by kernel_rfl) (by kernel_rfl) (fun ρ hr0 _ w hSw => by simp [go_sem, hr0]) hHeld (tf 7 31) (by kernel_rfl) (fun K hK => ?_)
          go_big_move
          refine hK.out _ ?_
          clear hK K
          refine fast1 3 16 (.slice b2 m2 d2) (.tmp 15) (.pointer (some ⟨w.heap.size + 1, 2, none⟩)) (fuel := 27) rfl rfl (by kernel_rfl) (by kernel_rfl) (by kernel_rfl) (fun _ _ _ h => h) (by kernel_rfl) (by kernel_rfl) (fun ρ hr0 _ w hSw => by have m := hSw.1.2.2.cell (j := 2) (u := .slice b2 m2 d2) rfl; simp [go_sem, hr0, m]) hHeld (tf 15 31) (by kernel_rfl) (fun K hK => ?_)
          go_big_move
          refine hK.out _ ?_
          clear hK K
          refine fast1 4 17 (.pointer (some ⟨w.heap.size, 3, none⟩)) (.tmp 2) (.pointer (some ⟨w.heap.size, 0, none⟩)) (fuel := 26) rfl rfl (by kernel_rfl) (by kernel_rfl) (by kernel_rfl) (fun _ _ _ h => h) (by kernel_rfl) (by kernel_rfl) (fun ρ hr0 _ w hSw => by simp [go_sem, hr0]) hHeld (tf 31 31) (by kernel_rfl) (fun K hK => ?_)
          go_big_move
          refine hK.out _ ?_
          clear hK K
          refine fast1 5 18 (.slice a3 n3 c3) (.tmp 17) (.pointer (some ⟨w.heap.size, 3, none⟩)) (fuel := 25) rfl rfl (by kernel_rfl) (by kernel_rfl) (by kernel_rfl) (fun _ _ _ h => h) (by kernel_rfl) (by kernel_rfl) (fun ρ hr0 _ w hSw => by have m := hSw.1.2.1.cell (j := 3) (u := .slice a3 n3 c3) rfl; simp [go_sem, hr0, m]) hHeld (tf 63 31) (by kernel_rfl) (fun K hK => ?_)
          go_big_move
          refine hK.out _ ?_
          clear hK K
          refine wpAnyH_ready (rs := [6]) (fuel := 24) (by kernel_rfl) (by simp) ?_
          refine ready_want rfl (by kernel_rfl) (tf 127 31) (by kernel_rfl) (fun K hK => ?_) AllReadyH.nil
          simp only [List.getElem_toArray, List.getElem_cons_succ, List.getElem_cons_zero]
          go_big_op
          refine (CE1.out _ hHeld.1.1).mono ?_
          rintro e wp1 ⟨rfl, hb⟩
          have hS1 := hHeld.below hb
          clear hb 
          refine hK.out _ _ hS1 (fun hHeld => ?_)
          clear hK K hS1
          refine fast2 7 20 (.bool true) (.tmp 14) (.bool true) (.tmp 19) (.bool true) (fuel := 23) rfl rfl (by kernel_rfl) (by kernel_rfl) (by kernel_rfl) (fun _ _ _ h => h) (by kernel_rfl) (by kernel_rfl) (by kernel_rfl) (fun ρ hr0 hr1 hc w hSw => by simp [go_sem, hc, hr0, hr1]) hHeld (tf 255 31) (by kernel_rfl) (fun K hK => ?_)
          go_big_move
          refine hK.out _ ?_
          clear hK K
          refine fast_move 8 21 (.bool true) (.tmp 20) (fuel := 22) rfl rfl (by kernel_rfl) (by kernel_rfl) (by kernel_rfl) (fun _ _ _ h => h) (by kernel_rfl) (by kernel_rfl) (by first | exact Or.inl rfl | exact Or.inr rfl) hHeld (tf 511 31) (by kernel_rfl) (fun K hK => ?_)
          go_big_move
          refine hK.out _ ?_
          clear hK K
          refine fast1 9 22 (.pointer (some ⟨w.heap.size + 1, 3, none⟩)) (.tmp 3) (.pointer (some ⟨w.heap.size + 1, 0, none⟩)) (fuel := 21) rfl rfl (by kernel_rfl) (by kernel_rfl) (by kernel_rfl) (fun _ _ _ h => h) (by kernel_rfl) (by kernel_rfl) (fun ρ hr0 _ w hSw => by simp [go_sem, hr0]) hHeld (tf 1023 31) (by kernel_rfl) (fun K hK => ?_)
          go_big_move
          refine hK.out _ ?_
          clear hK K
          refine fast1 10 23 (.slice b3 m3 d3) (.tmp 22) (.pointer (some ⟨w.heap.size + 1, 3, none⟩)) (fuel := 20) rfl rfl (by kernel_rfl) (by kernel_rfl) (by kernel_rfl) (fun _ _ _ h => h) (by kernel_rfl) (by kernel_rfl) (fun ρ hr0 _ w hSw => by have m := hSw.1.2.2.cell (j := 3) (u := .slice b3 m3 d3) rfl; simp [go_sem, hr0, m]) hHeld (tf 2047 31) (by kernel_rfl) (fun K hK => ?_)
          go_big_move
          refine hK.out _ ?_
          clear hK K
          refine fast1 11 24 (.pointer (some ⟨w.heap.size, 2, none⟩)) (.tmp 2) (.pointer (some ⟨w.heap.size, 0, none⟩)) (fuel := 19) rfl rfl (by kernel_rfl) (by kernel_rfl) (by kernel_rfl) (fun _ _ _ h => h) (by kernel_rfl) (by kernel_rfl) (fun ρ hr0 _ w hSw => by simp [go_sem, hr0]) hHeld (tf 4095 31) (by kernel_rfl) (fun K hK => ?_)
          go_big_move
          refine hK.out _ ?_
          clear hK K
          refine fast1 12 25 (.slice a2 n2 c2) (.tmp 24) (.pointer (some ⟨w.heap.size, 2, none⟩)) (fuel := 18) rfl rfl (by kernel_rfl) (by kernel_rfl) (by kernel_rfl) (fun _ _ _ h => h) (by kernel_rfl) (by kernel_rfl) (fun ρ hr0 _ w hSw => by have m := hSw.1.2.1.cell (j := 2) (u := .slice a2 n2 c2) rfl; simp [go_sem, hr0, m]) hHeld (tf 8191 31) (by kernel_rfl) (fun K hK => ?_)
          go_big_move
          refine hK.out _ ?_
          clear hK K
          refine wpAnyH_ready (rs := [13]) (fuel := 17) (by kernel_rfl) (by simp) ?_
          refine ready_want rfl (by kernel_rfl) (tf 16383 31) (by kernel_rfl) (fun K hK => ?_) AllReadyH.nil
          simp only [List.getElem_toArray, List.getElem_cons_succ, List.getElem_cons_zero]
          go_big_op
          refine (CE2.out _ hHeld.1.1).mono ?_
          rintro e wp2 ⟨rfl, hb⟩
          have hS2 := hHeld.below hb
          clear hb 
          refine hK.out _ _ hS2 (fun hHeld => ?_)
          clear hK K hS2
          refine fast2 14 27 (.bool true) (.tmp 21) (.bool true) (.tmp 26) (.bool true) (fuel := 16) rfl rfl (by kernel_rfl) (by kernel_rfl) (by kernel_rfl) (fun _ _ _ h => h) (by kernel_rfl) (by kernel_rfl) (by kernel_rfl) (fun ρ hr0 hr1 hc w hSw => by simp [go_sem, hc, hr0, hr1]) hHeld (tf 32767 31) (by kernel_rfl) (fun K hK => ?_)
          go_big_move
          refine hK.out _ ?_
          clear hK K
          refine fast_move 15 28 (.bool true) (.tmp 27) (fuel := 15) rfl rfl (by kernel_rfl) (by kernel_rfl) (by kernel_rfl) (fun _ _ _ h => h) (by kernel_rfl) (by kernel_rfl) (by first | exact Or.inl rfl | exact Or.inr rfl) hHeld (tf 65535 31) (by kernel_rfl) (fun K hK => ?_)
          go_big_move
          refine hK.out _ ?_
          clear hK K
          refine fast_yields 16 29 (.agg #[.int .i64 tst, .int .i64 tit, .slice xa2 tins.length xc2, .slice xa3 touts.length xc3, .slice xa4 thids.length xc4, .slice xa5 tsteps.length xc5]) (fuel := 14) rfl rfl (by kernel_rfl) (by kernel_rfl) (by kernel_rfl) (fun _ _ _ h => h) (yieldsIf_load_mid (by rfl) _ _ rfl (w4.heap.size) 0 rfl (iaC tst tit xa2 tins.length xc2 xa3 touts.length xc3 xa4 thids.length xc4 xa5 tsteps.length xc5).toList _ (fun w hw => hw.2.1.range) Tryz.underlying29 rfl (by kernel_rfl)) hHeld (tf 131071 31) (by kernel_rfl) (fun K hK => ?_)
          go_big_move
          refine hK.out _ ?_
          clear hK K
          refine fast1 17 30 (.pointer (some ⟨w4.heap.size, 1, none⟩)) (.tmp 5) (.pointer (some ⟨w4.heap.size, 0, none⟩)) (fuel := 13) rfl rfl (by kernel_rfl) (by kernel_rfl) (by kernel_rfl) (fun _ _ _ h => h) (by kernel_rfl) (by kernel_rfl) (fun ρ hr0 _ w hSw => by simp [go_sem, hr0]) hHeld (tf 262143 31) (by kernel_rfl) (fun K hK => ?_)
          go_big_move
          refine hK.out _ ?_
          clear hK K
          refine fast1 18 31 (.int .i64 tit) (.tmp 30) (.pointer (some ⟨w4.heap.size, 1, none⟩)) (fuel := 12) rfl rfl (by kernel_rfl) (by kernel_rfl) (by kernel_rfl) (fun _ _ _ h => h) (by kernel_rfl) (by kernel_rfl) (fun ρ hr0 _ w hSw => by have m := hSw.2.1.cell (j := 1) (u := .int .i64 tit) rfl; simp [go_sem, hr0, m]) hHeld (tf 524287 31) (by kernel_rfl) (fun K hK => ?_)
          go_big_move
          refine hK.out _ ?_
          clear hK K
          refine fast_yields 20 33 (.agg #[.int .i64 tst, .int .i64 tit, .slice xa2 tins.length xc2, .slice xa3 touts.length xc3, .slice xa4 thids.length xc4, .slice xa5 tsteps.length xc5]) (fuel := 11) rfl rfl (by kernel_rfl) (by kernel_rfl) (by kernel_rfl) (fun _ _ _ h => h) (yieldsIf_load_mid (by rfl) _ _ rfl (w4.heap.size) 0 rfl (iaC tst tit xa2 tins.length xc2 xa3 touts.length xc3 xa4 thids.length xc4 xa5 tsteps.length xc5).toList _ (fun w hw => hw.2.1.range) Tryz.underlying29 rfl (by kernel_rfl)) hHeld (tf 1572863 31) (by kernel_rfl) (fun K hK => ?_)
          go_big_move
          refine hK.out _ ?_
          clear hK K
          refine fast_yields 23 36 (.agg #[.int .i64 st, .int .i64 it, .slice a2 n2 c2, .slice a3 n3 c3, .slice a4 n4 c4, .slice a5 n5 c5]) (fuel := 10) rfl rfl (by kernel_rfl) (by kernel_rfl) (by kernel_rfl) (fun _ _ _ h => h) (yieldsIf_load_mid (by rfl) _ _ rfl (w.heap.size) 0 rfl (iaC st it a2 n2 c2 a3 n3 c3 a4 n4 c4 a5 n5 c5).toList _ (fun w hw => hw.1.2.1.range) Tryz.underlying29 rfl (by kernel_rfl)) hHeld (tf 9961471 31) (by kernel_rfl) (fun K hK => ?_)
          go_big_move
          refine hK.out _ ?_
          clear hK K
          refine fast_yields 24 37 (.agg #[.int .i64 su, .int .i64 iu, .slice b2 m2 d2, .slice b3 m3 d3, .slice b4 m4 d4, .slice b5 m5 d5]) (fuel := 9) rfl rfl (by kernel_rfl) (by kernel_rfl) (by kernel_rfl) (fun _ _ _ h => h) (yieldsIf_load_mid (by rfl) _ _ rfl (w.heap.size + 1) 0 rfl (iaC su iu b2 m2 d2 b3 m3 d3 b4 m4 d4 b5 m5 d5).toList _ (fun w hw => hw.1.2.2.range) Tryz.underlying29 rfl (by kernel_rfl)) hHeld (tf 26738687 31) (by kernel_rfl) (fun K hK => ?_)
          go_big_move
          refine hK.out _ ?_
          clear hK K
          refine wpAnyH_ready (rs := [19, 21]) (fuel := 8) (by kernel_rfl) (by simp) ?_
          refine ready_want rfl (by kernel_rfl) (tf 27262975 31) (by kernel_rfl) (fun K hK => ?_) ?_
          · have il3 : Hid (Row (wp2.alloc (.cells #[.int .i64 tit] 3)) (some ⟨wp2.heap.size, 0, none⟩) 1 [tit]) := row_lit1 wp2 tit _ (by simp)
            simp only [List.getElem_toArray, List.getElem_cons_succ, List.getElem_cons_zero]
            go_big_op
            refine hK.out _ _ (hHeld.below ((Below.refl _ wp2).alloc (Nat.le_refl _) (.cells #[.int .i64 tit] 3))) (fun hHeld => ?_)
            clear hK K
            refine wpAnyH_ready (rs := [21]) (fuel := 7) (by kernel_rfl) (by simp) ?_
            refine ready_want rfl (by kernel_rfl) (tf 29360127 31) (by kernel_rfl) (fun K hK => ?_) AllReadyH.nil
            simp only [List.getElem_toArray, List.getElem_cons_succ, List.getElem_cons_zero]
            go_big_op
            refine (CAO.out _ _ hHeld.2.2.rowIa).mono ?_
            rintro e wp4 ⟨ad4, cc4, rfl, hr, hb⟩
            have il4 : Hid (Row wp4 (some ⟨wp2.heap.size, 0, none⟩) 1 [tit]) := il3.out.below (hb)
            have ao4 : Hid (Row wp4 ad4 AL.length AL) := hr
            have hS4 := hHeld.below hb
            clear hb hr
            refine hK.out _ _ hS4 (fun hHeld => ?_)
            clear hK K hS4
            refine wpAnyH_ready (rs := [22]) (fuel := 6) (by kernel_rfl) (by simp) ?_
            refine ready_want rfl (by kernel_rfl) (tf 33554431 31) (by kernel_rfl) (fun K hK => ?_) AllReadyH.nil
            simp only [List.getElem_toArray, List.getElem_cons_succ, List.getElem_cons_zero]
            go_big_op
            refine (CAL.out _ _ _ _ hHeld.2.2.rowIa il4.out ao4.out).mono ?_
            rintro e wp5 ⟨ad5, cc5, rfl, hr, hb⟩
            have il5 : Hid (Row wp5 (some ⟨wp2.heap.size, 0, none⟩) 1 [tit]) := il4.out.below (hb)
            have ao5 : Hid (Row wp5 ad4 AL.length AL) := ao4.out.below (hb)
            have rr5 : Hid (Row wp5 ad5 RL.length RL) := hr
            have hS5 := hHeld.below hb
            clear hb hr
            refine hK.out _ _ hS5 (fun hHeld => ?_)
            clear hK K hS5
            refine wpAnyH_ready (rs := [25]) (fuel := 5) (by kernel_rfl) (by simp) ?_
            refine ready_want rfl (by kernel_rfl) (tf 67108863 31) (by kernel_rfl) (fun K hK => ?_) AllReadyH.nil
            simp only [List.getElem_toArray, List.getElem_cons_succ, List.getElem_cons_zero]
            go_big_op
            refine (CC.out _ hHeld.1.1).mono ?_
            rintro e wp6 ⟨ad6, cc6, rfl, hr, hb⟩
            have il6 : Hid (Row wp6 (some ⟨wp2.heap.size, 0, none⟩) 1 [tit]) := il5.out.below (hb)
            have ao6 : Hid (Row wp6 ad4 AL.length AL) := ao5.out.below (hb)
            have rr6 : Hid (Row wp6 ad5 RL.length RL) := rr5.out.below (hb)
            have rc6 : Hid (Row wp6 ad6 CL.length CL) := hr
            have hS6 := hHeld.below hb
            clear hb hr
            refine hK.out _ _ hS6 (fun hHeld => ?_)
            clear hK K hS6
            refine wpAnyH_ready (rs := [26]) (fuel := 4) (by kernel_rfl) (by simp) ?_
            refine ready_want rfl (by kernel_rfl) (tf 134217727 31) (by kernel_rfl) (fun K hK => ?_) AllReadyH.nil
            simp only [List.getElem_toArray, List.getElem_cons_succ, List.getElem_cons_zero]
            go_big_op
            refine (CM.out _ _ _ _ _ rr6.out rc6.out).mono ?_
            rintro e wp7 ⟨ad7, cc7, rfl, hb⟩
            have il7 : Hid (Row wp7 (some ⟨wp2.heap.size, 0, none⟩) 1 [tit]) := il6.out.below (hb)
            have ao7 : Hid (Row wp7 ad4 AL.length AL) := ao6.out.below (hb)
            have rr7 : Hid (Row wp7 ad5 RL.length RL) := rr6.out.below (hb)
            have rc7 : Hid (Row wp7 ad6 CL.length CL) := rc6.out.below (hb)
            have hS7 := hHeld.below hb
            clear hb 
            refine hK.out _ _ hS7 (fun hHeld => ?_)
            clear hK K hS7
            refine fast1 27 40 (.int .i64 ((x : Nat) : Int)) (.tmp 39) (.slice ad7 x cc7) (fuel := 3) rfl rfl (by kernel_rfl) (by kernel_rfl) (by kernel_rfl) (fun _ _ _ h => h) (by kernel_rfl) (by kernel_rfl) (fun ρ hr0 _ w hSw => by simp [go_sem, hr0]) hHeld (tf 268435455 31) (by kernel_rfl) (fun K hK => ?_)
            go_big_move
            refine hK.out _ ?_
            clear hK K
            refine fast1 28 41 (.bool false) (.tmp 40) (.int .i64 ((x : Nat) : Int)) (fuel := 2) rfl rfl (by kernel_rfl) (by kernel_rfl) (by kernel_rfl) (fun _ _ _ h => h) (by kernel_rfl) (by kernel_rfl) (fun ρ hr0 hc w hSw => by have hz2 := HZ.out; simp [go_sem, hc, hr0, hz2]) hHeld (tf 536870911 31) (by kernel_rfl) (fun K hK => ?_)
            go_big_move
            refine hK.out _ ?_
            clear hK K
            refine fast2 29 42 (.bool false) (.tmp 28) (.bool true) (.tmp 41) (.bool false) (fuel := 1) rfl rfl (by kernel_rfl) (by kernel_rfl) (by kernel_rfl) (fun _ _ _ h => h) (by kernel_rfl) (by kernel_rfl) (by kernel_rfl) (fun ρ hr0 hr1 hc w hSw => by simp [go_sem, hc, hr0, hr1]) hHeld (tf 1073741823 31) (by kernel_rfl) (fun K hK => ?_)
            go_big_move
            refine hK.out _ ?_
            clear hK K
            refine fast_move 30 4 (.bool false) (.tmp 42) (fuel := 0) rfl rfl (by kernel_rfl) (by kernel_rfl) (by kernel_rfl) (fun _ _ _ h => h) (by kernel_rfl) (by kernel_rfl) (by first | exact Or.inl rfl | exact Or.inr rfl) hHeld (tf 2147483647 31) (by kernel_rfl) (fun K hK => ?_)
            go_big_move
            refine hK.out _ ?_
            clear hK K
            refine wpAnyH_done (by kernel_rfl) ?_ _
            go_wp2_with fail
            go_ret
            exact ⟨ret_bool (by rw [HR.out, decide_eq_false HZ.out]; try simp), hHeld.1.1⟩
          refine ready_want rfl (by kernel_rfl) (tf 28835839 31) (by kernel_rfl) (fun K hK => ?_) AllReadyH.nil
          simp only [List.getElem_toArray, List.getElem_cons_succ, List.getElem_cons_zero]
          go_big_op
          refine (CAO.out _ _ hHeld.2.2.rowIa).mono ?_
          rintro e wp8 ⟨ad8, cc8, rfl, hr, hb⟩
          have ao8 : Hid (Row wp8 ad8 AL.length AL) := hr
          have hS8 := hHeld.below hb
          clear hb hr
          refine hK.out _ _ hS8 (fun hHeld => ?_)
          clear hK K hS8
          refine wpAnyH_ready (rs := [19]) (fuel := 7) (by kernel_rfl) (by simp) ?_
          refine ready_want rfl (by kernel_rfl) (tf 29360127 31) (by kernel_rfl) (fun K hK => ?_) AllReadyH.nil
          have ao9 : Hid (Row (wp8.alloc (.cells #[.int .i64 tit] 3)) ad8 AL.length AL) := ao8.out.below ((Below.refl _ wp8).alloc (Nat.le_refl _) (.cells #[.int .i64 tit] 3))
          have il9 : Hid (Row (wp8.alloc (.cells #[.int .i64 tit] 3)) (some ⟨wp8.heap.size, 0, none⟩) 1 [tit]) := row_lit1 wp8 tit _ (by simp)
          simp only [List.getElem_toArray, List.getElem_cons_succ, List.getElem_cons_zero]
          go_big_op
          refine hK.out _ _ (hHeld.below ((Below.refl _ wp8).alloc (Nat.le_refl _) (.cells #[.int .i64 tit] 3))) (fun hHeld => ?_)
          clear hK K
          refine wpAnyH_ready (rs := [22]) (fuel := 6) (by kernel_rfl) (by simp) ?_
          refine ready_want rfl (by kernel_rfl) (tf 33554431 31) (by kernel_rfl) (fun K hK => ?_) AllReadyH.nil
          simp only [List.getElem_toArray, List.getElem_cons_succ, List.getElem_cons_zero]
          go_big_op
          refine (CAL.out _ _ _ _ hHeld.2.2.rowIa il9.out ao9.out).mono ?_
          rintro e wp10 ⟨ad10, cc10, rfl, hr, hb⟩
          have ao10 : Hid (Row wp10 ad8 AL.length AL) := ao9.out.below (hb)
          have il10 : Hid (Row wp10 (some ⟨wp8.heap.size, 0, none⟩) 1 [tit]) := il9.out.below (hb)
          have rr10 : Hid (Row wp10 ad10 RL.length RL) := hr
          have hS10 := hHeld.below hb
          clear hb hr
          refine hK.out _ _ hS10 (fun hHeld => ?_)
          clear hK K hS10
          refine wpAnyH_ready (rs := [25]) (fuel := 5) (by kernel_rfl) (by simp) ?_
          refine ready_want rfl (by kernel_rfl) (tf 67108863 31) (by kernel_rfl) (fun K hK => ?_) AllReadyH.nil
          simp only [List.getElem_toArray, List.getElem_cons_succ, List.getElem_cons_zero]
          go_big_op
          refine (CC.out _ hHeld.1.1).mono ?_
          rintro e wp11 ⟨ad11, cc11, rfl, hr, hb⟩
          have ao11 : Hid (Row wp11 ad8 AL.length AL) := ao10.out.below (hb)
          have il11 : Hid (Row wp11 (some ⟨wp8.heap.size, 0, none⟩) 1 [tit]) := il10.out.below (hb)
          have rr11 : Hid (Row wp11 ad10 RL.length RL) := rr10.out.below (hb)
          have rc11 : Hid (Row wp11 ad11 CL.length CL) := hr
          have hS11 := hHeld.below hb
          clear hb hr
          refine hK.out _ _ hS11 (fun hHeld => ?_)
          clear hK K hS11
          refine wpAnyH_ready (rs := [26]) (fuel := 4) (by kernel_rfl) (by simp) ?_
          refine ready_want rfl (by kernel_rfl) (tf 134217727 31) (by kernel_rfl) (fun K hK => ?_) AllReadyH.nil
          simp only [List.getElem_toArray, List.getElem_cons_succ, List.getElem_cons_zero]
          go_big_op
          refine (CM.out _ _ _ _ _ rr11.out rc11.out).mono ?_
          rintro e wp12 ⟨ad12, cc12, rfl, hb⟩
          have ao12 : Hid (Row wp12 ad8 AL.length AL) := ao11.out.below (hb)
          have il12 : Hid (Row wp12 (some ⟨wp8.heap.size, 0, none⟩) 1 [tit]) := il11.out.below (hb)
          have rr12 : Hid (Row wp12 ad10 RL.length RL) := rr11.out.below (hb)
          have rc12 : Hid (Row wp12 ad11 CL.length CL) := rc11.out.below (hb)
          have hS12 := hHeld.below hb
          clear hb 
          refine hK.out _ _ hS12 (fun hHeld => ?_)
          clear hK K hS12
          refine fast1 27 40 (.int .i64 ((x : Nat) : Int)) (.tmp 39) (.slice ad12 x cc12) (fuel := 3) rfl rfl (by kernel_rfl) (by kernel_rfl) (by kernel_rfl) (fun _ _ _ h => h) (by kernel_rfl) (by kernel_rfl) (fun ρ hr0 _ w hSw => by simp [go_sem, hr0]) hHeld (tf 268435455 31) (by kernel_rfl) (fun K hK => ?_)
          go_big_move
          refine hK.out _ ?_
          clear hK K
          refine fast1 28 41 (.bool false) (.tmp 40) (.int .i64 ((x : Nat) : Int)) (fuel := 2) rfl rfl (by kernel_rfl) (by kernel_rfl) (by kernel_rfl) (fun _ _ _ h => h) (by kernel_rfl) (by kernel_rfl) (fun ρ hr0 hc w hSw => by have hz2 := HZ.out; simp [go_sem, hc, hr0, hz2]) hHeld (tf 536870911 31) (by kernel_rfl) (fun K hK => ?_)
          go_big_move
          refine hK.out _ ?_
          clear hK K
          refine fast2 29 42 (.bool false) (.tmp 28) (.bool true) (.tmp 41) (.bool false) (fuel := 1) rfl rfl (by kernel_rfl) (by kernel_rfl) (by kernel_rfl) (fun _ _ _ h => h) (by kernel_rfl) (by kernel_rfl) (by kernel_rfl) (fun ρ hr0 hr1 hc w hSw => by simp [go_sem, hc, hr0, hr1]) hHeld (tf 1073741823 31) (by kernel_rfl) (fun K hK => ?_)
          go_big_move
          refine hK.out _ ?_
          clear hK K
          refine fast_move 30 4 (.bool false) (.tmp 42) (fuel := 0) rfl rfl (by kernel_rfl) (by kernel_rfl) (by kernel_rfl) (fun _ _ _ h => h) (by kernel_rfl) (by kernel_rfl) (by first | exact Or.inl rfl | exact Or.inr rfl) hHeld (tf 2147483647 31) (by kernel_rfl) (fun K hK => ?_)
          go_big_move
          refine hK.out _ ?_
          clear hK K
          refine wpAnyH_done (by kernel_rfl) ?_ _
          go_wp2_with fail
          go_ret
          exact ⟨ret_bool (by rw [HR.out, decide_eq_false HZ.out]; try simp), hHeld.1.1⟩

end Go.Proofs.YtogjbnimohakjabGreat

/-
  The walk of the law FnExactLegal: it returns true at every argument and writes nothing that was there. Conditions: none.
-/
namespace Go.Proofs.YtogjbnimohakjabGreat
open Go.RowKit

set_option maxRecDepth 20000 in
set_option maxHeartbeats 6400000 in
theorem walk_FnExactLegal (st it : Int) (a2 : Option Addr) (n2 c2 : Nat) (z2 : List Int) (a3 : Option Addr) (n3 c3 : Nat) (z3 : List Int) (a4 : Option Addr) (n4 c4 : Nat) (z4 : List Int) (a5 : Option Addr) (n5 c5 : Nat) (z5 : List St)
    (su iu : Int) (b2 : Option Addr) (m2 d2 : Nat) (y2 : List Int) (b3 : Option Addr) (m3 d3 : Nat) (y3 : List Int) (b4 : Option Addr) (m4 d4 : Nat) (y4 : List Int) (b5 : Option Addr) (m5 d5 : Nat) (y5 : List St) (w : World)
    (i2 : IsRow .i64 w a2 n2 c2 z2) (i3 : IsRow .i64 w a3 n3 c3 z3) (i4 : IsRow .i64 w a4 n4 c4 z4) (i5 : IsRowS w a5 n5 c5 z5) (j2 : IsRow .i64 w b2 m2 d2 y2) (j3 : IsRow .i64 w b3 m3 d3 y3) (j4 : IsRow .i64 w b4 m4 d4 y4) (j5 : IsRowS w b5 m5 d5 y5) :
    Calls Tryz.prog 8 #[.agg #[.int .i64 st, .int .i64 it, .slice a2 n2 c2, .slice a3 n3 c3, .slice a4 n4 c4, .slice a5 n5 c5], .agg #[.int .i64 su, .int .i64 iu, .slice b2 m2 d2, .slice b3 m3 d3, .slice b4 m4 d4, .slice b5 m5 d5]] w fun e w' => e = .returned (.bool true) ∧ Below w.heap.size w w' := by
  obtain ⟨ins, hins⟩ : ∃ l, l = z2.take n2 := ⟨_, rfl⟩
  obtain ⟨outs, houts⟩ : ∃ l, l = z3.take n3 := ⟨_, rfl⟩
  obtain ⟨hids, hhids⟩ : ∃ l, l = z4.take n4 := ⟨_, rfl⟩
  obtain ⟨steps, hsteps⟩ : ∃ l, l = z5.take n5 := ⟨_, rfl⟩
  obtain ⟨jns, hjns⟩ : ∃ l, l = y2.take m2 := ⟨_, rfl⟩
  obtain ⟨juts, hjuts⟩ : ∃ l, l = y3.take m3 := ⟨_, rfl⟩
  obtain ⟨jids, hjids⟩ : ∃ l, l = y4.take m4 := ⟨_, rfl⟩
  obtain ⟨jteps, hjteps⟩ : ∃ l, l = y5.take m5 := ⟨_, rfl⟩
  have r2 := i2.row
  rw [← hins] at r2
  have l2 := i2.len1
  have e2 := r2.1
  have r3 := i3.row
  rw [← houts] at r3
  have l3 := i3.len1
  have e3 := r3.1
  have r4 := i4.row
  rw [← hhids] at r4
  have l4 := i4.len1
  have e4 := r4.1
  have r5 := i5.row
  rw [← hsteps] at r5
  have l5 := i5.len1
  have e5 := r5.1
  have q2 := j2.row
  rw [← hjns] at q2
  have o2 := j2.len1
  have k2 := q2.1
  have q3 := j3.row
  rw [← hjuts] at q3
  have o3 := j3.len1
  have k3 := q3.1
  have q4 := j4.row
  rw [← hjids] at q4
  have o4 := j4.len1
  have k4 := q4.1
  have q5 := j5.row
  rw [← hjteps] at q5
  have o5 := j5.len1
  have k5 := q5.1
  have HA : Hid (∀ W, Below w.heap.size w W → IaRow W ⟨st, it, ins, outs, hids, steps⟩ (.agg #[.int .i64 st, .int .i64 it, .slice a2 n2 c2, .slice a3 n3 c3, .slice a4 n4 c4, .slice a5 n5 c5])) := fun W hW => IaRow.below ⟨a2, n2, c2, a3, n3, c3, a4, n4, c4, a5, n5, c5, rfl, r2, r3, r4, r5⟩ hW
  have HB : Hid (∀ W, Below w.heap.size w W → IaRow W ⟨su, iu, jns, juts, jids, jteps⟩ (.agg #[.int .i64 su, .int .i64 iu, .slice b2 m2 d2, .slice b3 m3 d3, .slice b4 m4 d4, .slice b5 m5 d5])) := fun W hW => IaRow.below ⟨b2, m2, d2, b3, m3, d3, b4, m4, d4, b5, m5, d5, rfl, q2, q3, q4, q5⟩ hW
  have CZ : Hid (∀ W, Calls Tryz.prog 11 #[.agg #[.int .i64 st, .int .i64 it, .slice a2 n2 c2, .slice a3 n3 c3, .slice a4 n4 c4, .slice a5 n5 c5], .int .i64 1048576] W fun e w' => e = .returned (.int .i64 (roomOf 1048576 (n2 + n3 + n4 + n5))) ∧ Below W.heap.size W w') := fun W => szIa_any st it a2 n2 c2 a3 n3 c3 a4 n4 c4 a5 n5 c5 1048576 W (by omega) (by omega) l2 l3 l4 l5
  have CY : Hid (∀ W (left : Int), 0 ≤ left → left ≤ 1048576 → Calls Tryz.prog 11 #[.agg #[.int .i64 su, .int .i64 iu, .slice b2 m2 d2, .slice b3 m3 d3, .slice b4 m4 d4, .slice b5 m5 d5], .int .i64 left] W fun e w' => e = .returned (.int .i64 (roomOf left (m2 + m3 + m4 + m5))) ∧ Below W.heap.size W w') := fun W left h0 h1 => szIa_any su iu b2 m2 d2 b3 m3 d3 b4 m4 d4 b5 m5 d5 left W h0 (by omega) o2 o3 o4 o5
  clear r2 r3 r4 r5 q2 q3 q4 q5 i2 i3 i4 i5 j2 j3 j4 j5 hins houts hhids hsteps hjns hjuts hjids hjteps z2 z3 z4 z5 y2 y3 y4 y5 l2 l3 l4 l5 o2 o3 o4 o5
  have S0 := Lib.hid (Box2.start w (iaC st it a2 n2 c2 a3 n3 c3 a4 n4 c4 a5 n5 c5) (iaC su iu b2 m2 d2 b3 m3 d3 b4 m4 d4 b5 m5 d5) 25)
  have ca0 := S0.out.2.1.cell (j := 0) (u := .int .i64 st) rfl
  have ca1 := S0.out.2.1.cell (j := 1) (u := .int .i64 it) rfl
  have ca2 := S0.out.2.1.cell (j := 2) (u := .slice a2 n2 c2) rfl
  have ca3 := S0.out.2.1.cell (j := 3) (u := .slice a3 n3 c3) rfl
  have ca4 := S0.out.2.1.cell (j := 4) (u := .slice a4 n4 c4) rfl
  have ca5 := S0.out.2.1.cell (j := 5) (u := .slice a5 n5 c5) rfl
  by_cases hbig : n2 + n3 + n4 + n5 ≤ 1048576
  · have hr : roomOf 1048576 (n2 + n3 + n4 + n5) = 1048576 - ((n2 + n3 + n4 + n5 : Nat) : Int) := roomOf_pos (by omega)
    obtain ⟨rm, hrm⟩ : ∃ m : Nat, (m : Int) = 1048576 - ((n2 + n3 + n4 + n5 : Nat) : Int) := ⟨1048576 - (n2 + n3 + n4 + n5), by omega⟩
    rw [hr, ← hrm] at CZ
    have f2 : ins.length ≤ 1048576 := by omega
    have f3 : outs.length ≤ 1048576 := by omega
    have f4 : hids.length ≤ 1048576 := by omega
    have f5 : steps.length ≤ 1048576 := by omega
    have hrm2 : (rm : Int) ≤ 1048576 := by omega
    have HRM := Lib.hid hrm
    clear hr hrm e2 e3 e4 e5
    go_enter Tryz.func8, Tryz.ntmps8
    go_wp2_with fail
    clear ca0 ca1 ca2 ca3 ca4 ca5
    refine (CZ.out _).mono ?_
    rintro e w1 ⟨rfl, hb⟩
    have S1 := Lib.hid (S0.out.below hb)
    clear hb CZ S0
    have cb0 := S1.out.2.2.cell (j := 0) (u := .int .i64 su) rfl
    have cb1 := S1.out.2.2.cell (j := 1) (u := .int .i64 iu) rfl
    have cb2 := S1.out.2.2.cell (j := 2) (u := .slice b2 m2 d2) rfl
    have cb3 := S1.out.2.2.cell (j := 3) (u := .slice b3 m3 d3) rfl
    have cb4 := S1.out.2.2.cell (j := 4) (u := .slice b4 m4 d4) rfl
    have cb5 := S1.out.2.2.cell (j := 5) (u := .slice b5 m5 d5) rfl
    go_wp2_with fail
    clear cb0 cb1 cb2 cb3 cb4 cb5
    by_cases hbig2 : m2 + m3 + m4 + m5 ≤ rm
    · have hr2 : roomOf (rm : Int) (m2 + m3 + m4 + m5) = (rm : Int) - ((m2 + m3 + m4 + m5 : Nat) : Int) := roomOf_pos (by omega)
      obtain ⟨rn, hrn⟩ : ∃ m : Nat, (m : Int) = (rm : Int) - ((m2 + m3 + m4 + m5 : Nat) : Int) := ⟨rm - (m2 + m3 + m4 + m5), by omega⟩
      have t2 : jns.length ≤ 1048576 := by omega
      have t3 : juts.length ≤ 1048576 := by omega
      have t4 : jids.length ≤ 1048576 := by omega
      have t5 : jteps.length ≤ 1048576 := by omega
      have CY2 := (CY.out w1 _ (by omega) hrm2)
      rw [hr2, ← hrn] at CY2
      refine CY2.mono ?_
      rintro e w2 ⟨rfl, hb⟩
      have S2 := Lib.hid (S1.out.below hb)
      clear hb S1 CY2 CY hr2 hrn hbig2 HRM k2 k3 k4 k5 hbig hrm2
      have CTA : Hid (∀ W, Below w.heap.size w W → Calls Tryz.prog 13 #[.agg #[.int .i64 st, .int .i64 it, .slice a2 n2 c2, .slice a3 n3 c3, .slice a4 n4 c4, .slice a5 n5 c5]] W fun e w' => ∃ v', e = .returned v' ∧ IaAt w' W.heap.size ⟨st, it, ins, outs, hids, steps⟩ v' ∧ Below W.heap.size W w') := fun W hW => toIa_any ⟨st, it, ins, outs, hids, steps⟩ _ W (HA.out W hW) (IaFits.small f2 f3 f4 f5)
      have CTB : Hid (∀ W, Below w.heap.size w W → Calls Tryz.prog 13 #[.agg #[.int .i64 su, .int .i64 iu, .slice b2 m2 d2, .slice b3 m3 d3, .slice b4 m4 d4, .slice b5 m5 d5]] W fun e w' => ∃ v', e = .returned v' ∧ IaAt w' W.heap.size ⟨su, iu, jns, juts, jids, jteps⟩ v' ∧ Below W.heap.size W w') := fun W hW => toIa_any ⟨su, iu, jns, juts, jids, jteps⟩ _ W (HB.out W hW) (IaFits.small t2 t3 t4 t5)
      have CT1 : Hid (∀ W, Box2 w W w.heap.size (w.heap.size + 1) 25 (iaC st it a2 n2 c2 a3 n3 c3 a4 n4 c4 a5 n5 c5) (iaC su iu b2 m2 d2 b3 m3 d3 b4 m4 d4 b5 m5 d5) → Calls Tryz.prog 13 #[.agg #[.int .i64 st, .int .i64 it, .slice a2 n2 c2, .slice a3 n3 c3, .slice a4 n4 c4, .slice a5 n5 c5]] W fun e w' => ∃ v', e = .returned v' ∧ IaRow w' ⟨st, it, ins, outs, hids, steps⟩ v' ∧ Box2 w w' w.heap.size (w.heap.size + 1) 25 (iaC st it a2 n2 c2 a3 n3 c3 a4 n4 c4 a5 n5 c5) (iaC su iu b2 m2 d2 b3 m3 d3 b4 m4 d4 b5 m5 d5)) := fun W hW => (CTA.out W hW.1).mono fun e w' ⟨v', he, hat, hb⟩ => ⟨v', he, hat.row, hW.below hb⟩
      have CT2 : Hid (∀ W v1, IaRow W ⟨st, it, ins, outs, hids, steps⟩ v1 → Box2 w W w.heap.size (w.heap.size + 1) 25 (iaC st it a2 n2 c2 a3 n3 c3 a4 n4 c4 a5 n5 c5) (iaC su iu b2 m2 d2 b3 m3 d3 b4 m4 d4 b5 m5 d5) → Calls Tryz.prog 13 #[.agg #[.int .i64 su, .int .i64 iu, .slice b2 m2 d2, .slice b3 m3 d3, .slice b4 m4 d4, .slice b5 m5 d5]] W fun e w' => ∃ v', e = .returned v' ∧ IaRow w' ⟨st, it, ins, outs, hids, steps⟩ v1 ∧ IaRow w' ⟨su, iu, jns, juts, jids, jteps⟩ v' ∧ Box2 w w' w.heap.size (w.heap.size + 1) 25 (iaC st it a2 n2 c2 a3 n3 c3 a4 n4 c4 a5 n5 c5) (iaC su iu b2 m2 d2 b3 m3 d3 b4 m4 d4 b5 m5 d5)) := fun W v1 hv hW => (CTB.out W hW.1).mono fun e w' ⟨v', he, hat, hb⟩ => ⟨v', he, hv.below hb, hat.row, hW.below hb⟩
      clear HA HB
      obtain ⟨q, hq⟩ : ∃ q, q = legalB ⟨st, it, ins, outs, hids, steps⟩ ⟨su, iu, jns, juts, jids, jteps⟩ := ⟨_, rfl⟩
      have CP : Hid (∀ W v1 v2, IaRow W ⟨st, it, ins, outs, hids, steps⟩ v1 → IaRow W ⟨su, iu, jns, juts, jids, jteps⟩ v2 → Box2 w W w.heap.size (w.heap.size + 1) 25 (iaC st it a2 n2 c2 a3 n3 c3 a4 n4 c4 a5 n5 c5) (iaC su iu b2 m2 d2 b3 m3 d3 b4 m4 d4 b5 m5 d5) → Calls Tryz.prog 41 #[v1, v2] W fun e w' => e = .returned (.bool q) ∧ Box2 w w' w.heap.size (w.heap.size + 1) 25 (iaC st it a2 n2 c2 a3 n3 c3 a4 n4 c4 a5 n5 c5) (iaC su iu b2 m2 d2 b3 m3 d3 b4 m4 d4 b5 m5 d5)) := fun W v1 v2 h1 h2 hW => by
        rw [hq]
        exact (specLegal_any ⟨st, it, ins, outs, hids, steps⟩ ⟨su, iu, jns, juts, jids, jteps⟩ v1 v2 W h1 h2 ⟨f2, f3, f4, f5⟩ ⟨t2, t3, t4, t5⟩).mono fun e w' ⟨he, hb⟩ => ⟨he, hW.below hb⟩
      have CI : Hid (∀ W v1 v2, IaRow W ⟨st, it, ins, outs, hids, steps⟩ v1 → IaRow W ⟨su, iu, jns, juts, jids, jteps⟩ v2 → Calls Tryz.prog 42 #[v1, v2] W fun e w' => e = .returned (.bool q) ∧ Below W.heap.size W w') := fun W v1 v2 h1 h2 => by
        rw [hq]
        exact implLegal_any ⟨st, it, ins, outs, hids, steps⟩ ⟨su, iu, jns, juts, jids, jteps⟩ v1 v2 W h1 h2 ⟨f2, f3, f4, f5⟩ ⟨t2, t3, t4, t5⟩
      clear hq
      go_wp2_with fail
      have SD := S2.out.drew
      clear S2
      refine wp_region_held_drew (S := fun w' => Box2 w w' w.heap.size (w.heap.size + 1) 25 (iaC st it a2 n2 c2 a3 n3 c3 a4 n4 c4 a5 n5 c5) (iaC su iu b2 m2 d2 b3 m3 d3 b4 m4 d4 b5 m5 d5)) (by kernel_rfl) SD (fun hHeld => ?_)
      change wpAnyH _ _ _ _ _ 6 (Array.replicate 6 false) _ _
      refine take_yields 0 20 (.agg #[.int .i64 st, .int .i64 it, .slice a2 n2 c2, .slice a3 n3 c3, .slice a4 n4 c4, .slice a5 n5 c5]) (fuel := 5) rfl rfl (by kernel_rfl) (by kernel_rfl) (by kernel_rfl) (fun _ _ _ h => h) (yieldsIf_load_mid (by rfl) _ _ rfl (w.heap.size) 0 rfl (iaC st it a2 n2 c2 a3 n3 c3 a4 n4 c4 a5 n5 c5).toList _ (fun w hw => hw.2.1.range) Tryz.underlying25 rfl (by kernel_rfl)) hHeld ?_
      simp only [Act.put, List.setIfInBounds_toArray, List.set_cons_zero, List.set_cons_succ]
      refine take_yields 2 22 (.agg #[.int .i64 su, .int .i64 iu, .slice b2 m2 d2, .slice b3 m3 d3, .slice b4 m4 d4, .slice b5 m5 d5]) (fuel := 4) rfl rfl (by kernel_rfl) (by kernel_rfl) (by kernel_rfl) (fun _ _ _ h => h) (yieldsIf_load_mid (by rfl) _ _ rfl (w.heap.size + 1) 0 rfl (iaC su iu b2 m2 d2 b3 m3 d3 b4 m4 d4 b5 m5 d5).toList _ (fun w hw => hw.2.2.range) Tryz.underlying25 rfl (by kernel_rfl)) hHeld ?_
      simp only [Act.put, List.setIfInBounds_toArray, List.set_cons_zero, List.set_cons_succ]
      refine wpAnyH_ready (rs := [1]) (fuel := 3) (by kernel_rfl) (by simp) ?_
      refine AllReadyH.cons rfl (fun K hK => ?_) AllReadyH.nil
      go_simp
      refine (CT1.out _ hHeld).mono ?_
      rintro e w3 ⟨v1, rfl, hrA1, hS⟩
      go_wp2_with fail
      refine hK.out _ _ hS (fun hHeld => ?_)
      clear hK K
      refine wpAnyH_ready (rs := [3]) (fuel := 2) (by kernel_rfl) (by simp) ?_
      refine AllReadyH.cons rfl (fun K hK => ?_) AllReadyH.nil
      go_simp
      refine (CT2.out _ _ hrA1 hHeld).mono ?_
      rintro e w4 ⟨v2, rfl, hrA, hrB, hS⟩
      clear hrA1
      go_wp2_with fail
      refine hK.out _ _ hS (fun hHeld => ?_)
      clear hK K
      refine wpAnyH_ready (rs := [4]) (fuel := 1) (by kernel_rfl) (by simp) ?_
      refine AllReadyH.cons rfl (fun K hK => ?_) AllReadyH.nil
      go_simp
      refine (CP.out _ _ _ hrA hrB hHeld).mono ?_
      rintro e w5 ⟨rfl, hS⟩
      clear hrA hrB
      go_wp2_with fail
      refine hK.out _ _ hS (fun hHeld => ?_)
      clear hK K
      refine take_op 5 6 (.bool q) (fuel := 0) rfl rfl (by kernel_rfl) (by kernel_rfl) (by kernel_rfl) (fun _ _ _ h => h) (by rfl) (fun w hSw => by go_simp) hHeld ?_
      simp only [Act.put, List.setIfInBounds_toArray, List.set_cons_zero, List.set_cons_succ]
      refine wpAnyH_done (by kernel_rfl) ?_ _
      have S5 := Lib.hid hHeld
      clear hHeld SD
      have ca0 := S5.out.2.1.cell (j := 0) (u := .int .i64 st) rfl
      have ca1 := S5.out.2.1.cell (j := 1) (u := .int .i64 it) rfl
      have ca2 := S5.out.2.1.cell (j := 2) (u := .slice a2 n2 c2) rfl
      have ca3 := S5.out.2.1.cell (j := 3) (u := .slice a3 n3 c3) rfl
      have ca4 := S5.out.2.1.cell (j := 4) (u := .slice a4 n4 c4) rfl
      have ca5 := S5.out.2.1.cell (j := 5) (u := .slice a5 n5 c5) rfl
      go_wp2_with fail
      clear ca0 ca1 ca2 ca3 ca4 ca5
      refine (CTA.out _ S5.out.1).mono ?_
      rintro e w6 ⟨vx, rfl, hat, hb⟩
      have h56 := hb.size
      have S6 := Lib.hid (S5.out.below hb)
      obtain ⟨g2, g3, g4, g5, rfl, gb, lt3, lt4, lt5, o2, o3, o4, o5⟩ := hat
      have hg5 := (o5.lt g5 rfl).2
      have hw5 := S5.out.2.2.lt
      have XA6 : Hid (IaAt w6 w5.heap.size ⟨st, it, ins, outs, hids, steps⟩ (.agg (iaC st it (some ⟨g2, 0, none⟩) ins.length ins.length (some ⟨g3, 0, none⟩) outs.length outs.length (some ⟨g4, 0, none⟩) hids.length hids.length (some ⟨g5, 0, none⟩) steps.length steps.length))) := ⟨g2, g3, g4, g5, rfl, gb, lt3, lt4, lt5, o2, o3, o4, o5⟩
      clear hb o2 o3 o4 o5 S5
      simp only
      have bx := (Below.refl w6.heap.size w6).alloc (Nat.le_refl _) (.cells #[.int .i64 st, .int .i64 it, .slice (some ⟨g2, 0, none⟩) ins.length ins.length, .slice (some ⟨g3, 0, none⟩) outs.length outs.length, .slice (some ⟨g4, 0, none⟩) hids.length hids.length, .slice (some ⟨g5, 0, none⟩) steps.length steps.length] 29)
      have XA7 := Lib.hid (XA6.out.below bx)
      have S7 := Lib.hid (S6.out.below bx)

      have V7 : Hid (VarIs (w6.alloc (.cells #[.int .i64 st, .int .i64 it, .slice (some ⟨g2, 0, none⟩) ins.length ins.length, .slice (some ⟨g3, 0, none⟩) outs.length outs.length, .slice (some ⟨g4, 0, none⟩) hids.length hids.length, .slice (some ⟨g5, 0, none⟩) steps.length steps.length] 29)) w6.heap.size (iaC st it (some ⟨g2, 0, none⟩) ins.length ins.length (some ⟨g3, 0, none⟩) outs.length outs.length (some ⟨g4, 0, none⟩) hids.length hids.length (some ⟨g5, 0, none⟩) steps.length steps.length) 29) := VarIs.new w6 #[.int .i64 st, .int .i64 it, .slice (some ⟨g2, 0, none⟩) ins.length ins.length, .slice (some ⟨g3, 0, none⟩) outs.length outs.length, .slice (some ⟨g4, 0, none⟩) hids.length hids.length, .slice (some ⟨g5, 0, none⟩) steps.length steps.length] 29 rfl
      clear bx S6 XA6
      have cb0 := S7.out.2.2.cell (j := 0) (u := .int .i64 su) rfl
      have cb1 := S7.out.2.2.cell (j := 1) (u := .int .i64 iu) rfl
      have cb2 := S7.out.2.2.cell (j := 2) (u := .slice b2 m2 d2) rfl
      have cb3 := S7.out.2.2.cell (j := 3) (u := .slice b3 m3 d3) rfl
      have cb4 := S7.out.2.2.cell (j := 4) (u := .slice b4 m4 d4) rfl
      have cb5 := S7.out.2.2.cell (j := 5) (u := .slice b5 m5 d5) rfl
      go_wp2_with fail
      clear cb0 cb1 cb2 cb3 cb4 cb5
      refine (CTB.out _ S7.out.1).mono ?_
      rintro e w8 ⟨vx, rfl, hat, hb⟩
      have h78 : w6.heap.size + 1 ≤ w8.heap.size := by
        have := hb.size
        simpa using this
      have S8 := Lib.hid (S7.out.below hb)
      have XA8 := Lib.hid (XA7.out.below hb)
      have V8 := Lib.hid (V7.out.below hb)

      obtain ⟨h2, h3, h4, h5, rfl, gb', lt3', lt4', lt5', o2, o3, o4, o5⟩ := hat
      have hh5 := (o5.lt h5 rfl).2
      have gbh : w6.heap.size + 1 ≤ h2 := by
        have := gb'
        simpa using this
      have XB8 : Hid (IaAt w8 (w6.heap.size + 1) ⟨su, iu, jns, juts, jids, jteps⟩ (.agg (iaC su iu (some ⟨h2, 0, none⟩) jns.length jns.length (some ⟨h3, 0, none⟩) juts.length juts.length (some ⟨h4, 0, none⟩) jids.length jids.length (some ⟨h5, 0, none⟩) jteps.length jteps.length))) := by
        have : IaAt w8 _ ⟨su, iu, jns, juts, jids, jteps⟩ (.agg (iaC su iu (some ⟨h2, 0, none⟩) jns.length jns.length (some ⟨h3, 0, none⟩) juts.length juts.length (some ⟨h4, 0, none⟩) jids.length jids.length (some ⟨h5, 0, none⟩) jteps.length jteps.length)) := ⟨h2, h3, h4, h5, rfl, gb', lt3', lt4', lt5', o2, o3, o4, o5⟩
        simpa [Hid] using this
      clear hb o2 o3 o4 o5 gb' S7 XA7 V7
      simp only
      have bx := (Below.refl w8.heap.size w8).alloc (Nat.le_refl _) (.cells #[.int .i64 su, .int .i64 iu, .slice (some ⟨h2, 0, none⟩) jns.length jns.length, .slice (some ⟨h3, 0, none⟩) juts.length juts.length, .slice (some ⟨h4, 0, none⟩) jids.length jids.length, .slice (some ⟨h5, 0, none⟩) jteps.length jteps.length] 29)
      have L9 : Hid (LawS w (w8.alloc (.cells #[.int .i64 su, .int .i64 iu, .slice (some ⟨h2, 0, none⟩) jns.length jns.length, .slice (some ⟨h3, 0, none⟩) juts.length juts.length, .slice (some ⟨h4, 0, none⟩) jids.length jids.length, .slice (some ⟨h5, 0, none⟩) jteps.length jteps.length] 29)) (iaC st it a2 n2 c2 a3 n3 c3 a4 n4 c4 a5 n5 c5) (iaC su iu b2 m2 d2 b3 m3 d3 b4 m4 d4 b5 m5 d5) w6.heap.size w8.heap.size w5.heap.size (w6.heap.size + 1) ⟨st, it, ins, outs, hids, steps⟩ ⟨su, iu, jns, juts, jids, jteps⟩ (iaC st it (some ⟨g2, 0, none⟩) ins.length ins.length (some ⟨g3, 0, none⟩) outs.length outs.length (some ⟨g4, 0, none⟩) hids.length hids.length (some ⟨g5, 0, none⟩) steps.length steps.length) (iaC su iu (some ⟨h2, 0, none⟩) jns.length jns.length (some ⟨h3, 0, none⟩) juts.length juts.length (some ⟨h4, 0, none⟩) jids.length jids.length (some ⟨h5, 0, none⟩) jteps.length jteps.length)) := ⟨S8.out.below bx, ⟨V8.out.below bx, XA8.out.below bx⟩, ⟨VarIs.new w8 #[.int .i64 su, .int .i64 iu, .slice (some ⟨h2, 0, none⟩) jns.length jns.length, .slice (some ⟨h3, 0, none⟩) juts.length juts.length, .slice (some ⟨h4, 0, none⟩) jids.length jids.length, .slice (some ⟨h5, 0, none⟩) jteps.length jteps.length] 29 rfl, XB8.out.below bx⟩⟩

      have b9 := bx.size
      clear bx S8 XA8 V8 XB8
      have ca0 := L9.out.2.1.1.cell (j := 0) (u := .int .i64 st) rfl
      have ca1 := L9.out.2.1.1.cell (j := 1) (u := .int .i64 it) rfl
      have ca2 := L9.out.2.1.1.cell (j := 2) (u := .slice (some ⟨g2, 0, none⟩) ins.length ins.length) rfl
      have ca3 := L9.out.2.1.1.cell (j := 3) (u := .slice (some ⟨g3, 0, none⟩) outs.length outs.length) rfl
      have ca4 := L9.out.2.1.1.cell (j := 4) (u := .slice (some ⟨g4, 0, none⟩) hids.length hids.length) rfl
      have ca5 := L9.out.2.1.1.cell (j := 5) (u := .slice (some ⟨g5, 0, none⟩) steps.length steps.length) rfl
      have cb0 := L9.out.2.2.1.cell (j := 0) (u := .int .i64 su) rfl
      have cb1 := L9.out.2.2.1.cell (j := 1) (u := .int .i64 iu) rfl
      have cb2 := L9.out.2.2.1.cell (j := 2) (u := .slice (some ⟨h2, 0, none⟩) jns.length jns.length) rfl
      have cb3 := L9.out.2.2.1.cell (j := 3) (u := .slice (some ⟨h3, 0, none⟩) juts.length juts.length) rfl
      have cb4 := L9.out.2.2.1.cell (j := 4) (u := .slice (some ⟨h4, 0, none⟩) jids.length jids.length) rfl
      have cb5 := L9.out.2.2.1.cell (j := 5) (u := .slice (some ⟨h5, 0, none⟩) jteps.length jteps.length) rfl
      go_wp2_with fail
      clear ca0 ca1 ca2 ca3 ca4 ca5 cb0 cb1 cb2 cb3 cb4 cb5
      refine (CI.out _ _ _ L9.out.2.1.2.row L9.out.2.2.2.row).mono ?_
      rintro e w10 ⟨rfl, hb⟩
      have L10 := Lib.hid (L9.out.below hb)
      clear hb L9
      have hqq : (q == q) = true := by cases q <;> rfl
      have hqn : (q != q) = false := by cases q <;> rfl
      have E1a : Hid (∀ W, LawS w W (iaC st it a2 n2 c2 a3 n3 c3 a4 n4 c4 a5 n5 c5) (iaC su iu b2 m2 d2 b3 m3 d3 b4 m4 d4 b5 m5 d5) w6.heap.size w8.heap.size w5.heap.size (w6.heap.size + 1) ⟨st, it, ins, outs, hids, steps⟩ ⟨su, iu, jns, juts, jids, jteps⟩ (iaC st it (some ⟨g2, 0, none⟩) ins.length ins.length (some ⟨g3, 0, none⟩) outs.length outs.length (some ⟨g4, 0, none⟩) hids.length hids.length (some ⟨g5, 0, none⟩) steps.length steps.length) (iaC su iu (some ⟨h2, 0, none⟩) jns.length jns.length (some ⟨h3, 0, none⟩) juts.length juts.length (some ⟨h4, 0, none⟩) jids.length jids.length (some ⟨h5, 0, none⟩) jteps.length jteps.length) → Calls Tryz.prog 13 #[.agg #[.int .i64 st, .int .i64 it, .slice a2 n2 c2, .slice a3 n3 c3, .slice a4 n4 c4, .slice a5 n5 c5]] W fun e w' => ∃ v', e = .returned v' ∧ IaRow w' ⟨st, it, ins, outs, hids, steps⟩ v' ∧ LawS w w' (iaC st it a2 n2 c2 a3 n3 c3 a4 n4 c4 a5 n5 c5) (iaC su iu b2 m2 d2 b3 m3 d3 b4 m4 d4 b5 m5 d5) w6.heap.size w8.heap.size w5.heap.size (w6.heap.size + 1) ⟨st, it, ins, outs, hids, steps⟩ ⟨su, iu, jns, juts, jids, jteps⟩ (iaC st it (some ⟨g2, 0, none⟩) ins.length ins.length (some ⟨g3, 0, none⟩) outs.length outs.length (some ⟨g4, 0, none⟩) hids.length hids.length (some ⟨g5, 0, none⟩) steps.length steps.length) (iaC su iu (some ⟨h2, 0, none⟩) jns.length jns.length (some ⟨h3, 0, none⟩) juts.length juts.length (some ⟨h4, 0, none⟩) jids.length jids.length (some ⟨h5, 0, none⟩) jteps.length jteps.length)) := fun W hW => (CTA.out W hW.1.1).mono fun e w' ⟨v', he, hat, hb⟩ => ⟨v', he, hat.row, hW.below hb⟩
      have E2a : Hid (∀ W v', IaRow W ⟨st, it, ins, outs, hids, steps⟩ v' → LawS w W (iaC st it a2 n2 c2 a3 n3 c3 a4 n4 c4 a5 n5 c5) (iaC su iu b2 m2 d2 b3 m3 d3 b4 m4 d4 b5 m5 d5) w6.heap.size w8.heap.size w5.heap.size (w6.heap.size + 1) ⟨st, it, ins, outs, hids, steps⟩ ⟨su, iu, jns, juts, jids, jteps⟩ (iaC st it (some ⟨g2, 0, none⟩) ins.length ins.length (some ⟨g3, 0, none⟩) outs.length outs.length (some ⟨g4, 0, none⟩) hids.length hids.length (some ⟨g5, 0, none⟩) steps.length steps.length) (iaC su iu (some ⟨h2, 0, none⟩) jns.length jns.length (some ⟨h3, 0, none⟩) juts.length juts.length (some ⟨h4, 0, none⟩) jids.length jids.length (some ⟨h5, 0, none⟩) jteps.length jteps.length) → Calls Tryz.prog 15 #[.agg #[.int .i64 st, .int .i64 it, .slice (some ⟨g2, 0, none⟩) ins.length ins.length, .slice (some ⟨g3, 0, none⟩) outs.length outs.length, .slice (some ⟨g4, 0, none⟩) hids.length hids.length, .slice (some ⟨g5, 0, none⟩) steps.length steps.length], v'] W fun e w' => e = .returned (.bool true) ∧ LawS w w' (iaC st it a2 n2 c2 a3 n3 c3 a4 n4 c4 a5 n5 c5) (iaC su iu b2 m2 d2 b3 m3 d3 b4 m4 d4 b5 m5 d5) w6.heap.size w8.heap.size w5.heap.size (w6.heap.size + 1) ⟨st, it, ins, outs, hids, steps⟩ ⟨su, iu, jns, juts, jids, jteps⟩ (iaC st it (some ⟨g2, 0, none⟩) ins.length ins.length (some ⟨g3, 0, none⟩) outs.length outs.length (some ⟨g4, 0, none⟩) hids.length hids.length (some ⟨g5, 0, none⟩) steps.length steps.length) (iaC su iu (some ⟨h2, 0, none⟩) jns.length jns.length (some ⟨h3, 0, none⟩) juts.length juts.length (some ⟨h4, 0, none⟩) jids.length jids.length (some ⟨h5, 0, none⟩) jteps.length jteps.length)) := fun W v' hv hW => (eqIa_any ⟨st, it, ins, outs, hids, steps⟩ ⟨st, it, ins, outs, hids, steps⟩ _ _ W hW.2.1.2.row hv (IaFits.small f2 f3 f4 f5) (IaFits.small f2 f3 f4 f5)).mono fun e w' ⟨he, hb⟩ => ⟨by rw [he, sameB_refl], hW.below hb⟩
      go_wp2_with fail
      have SD : LawS w w10.drew (iaC st it a2 n2 c2 a3 n3 c3 a4 n4 c4 a5 n5 c5) (iaC su iu b2 m2 d2 b3 m3 d3 b4 m4 d4 b5 m5 d5) w6.heap.size w8.heap.size w5.heap.size (w6.heap.size + 1) ⟨st, it, ins, outs, hids, steps⟩ ⟨su, iu, jns, juts, jids, jteps⟩ (iaC st it (some ⟨g2, 0, none⟩) ins.length ins.length (some ⟨g3, 0, none⟩) outs.length outs.length (some ⟨g4, 0, none⟩) hids.length hids.length (some ⟨g5, 0, none⟩) steps.length steps.length) (iaC su iu (some ⟨h2, 0, none⟩) jns.length jns.length (some ⟨h3, 0, none⟩) juts.length juts.length (some ⟨h4, 0, none⟩) jids.length jids.length (some ⟨h5, 0, none⟩) jteps.length jteps.length) := L10.out.drew
      refine wp_region_held_drew (S := fun w' => LawS w w' (iaC st it a2 n2 c2 a3 n3 c3 a4 n4 c4 a5 n5 c5) (iaC su iu b2 m2 d2 b3 m3 d3 b4 m4 d4 b5 m5 d5) w6.heap.size w8.heap.size w5.heap.size (w6.heap.size + 1) ⟨st, it, ins, outs, hids, steps⟩ ⟨su, iu, jns, juts, jids, jteps⟩ (iaC st it (some ⟨g2, 0, none⟩) ins.length ins.length (some ⟨g3, 0, none⟩) outs.length outs.length (some ⟨g4, 0, none⟩) hids.length hids.length (some ⟨g5, 0, none⟩) steps.length steps.length) (iaC su iu (some ⟨h2, 0, none⟩) jns.length jns.length (some ⟨h3, 0, none⟩) juts.length juts.length (some ⟨h4, 0, none⟩) jids.length jids.length (some ⟨h5, 0, none⟩) jteps.length jteps.length)) (by kernel_rfl) SD (fun hHeld => ?_)
      change wpAnyH _ _ _ _ _ 5 (Array.replicate 5 false) _ _
      refine take_yields 0 35 (.agg #[.int .i64 st, .int .i64 it, .slice (some ⟨g2, 0, none⟩) ins.length ins.length, .slice (some ⟨g3, 0, none⟩) outs.length outs.length, .slice (some ⟨g4, 0, none⟩) hids.length hids.length, .slice (some ⟨g5, 0, none⟩) steps.length steps.length]) (fuel := 4) rfl rfl (by kernel_rfl) (by kernel_rfl) (by kernel_rfl) (fun _ _ _ h => h) (yieldsIf_load_mid (by rfl) _ _ rfl (w6.heap.size) 0 rfl (iaC st it (some ⟨g2, 0, none⟩) ins.length ins.length (some ⟨g3, 0, none⟩) outs.length outs.length (some ⟨g4, 0, none⟩) hids.length hids.length (some ⟨g5, 0, none⟩) steps.length steps.length).toList _ (fun w hw => hw.2.1.1.range) Tryz.underlying29 rfl (by kernel_rfl)) hHeld ?_
      simp only [Act.put, List.setIfInBounds_toArray, List.set_cons_zero, List.set_cons_succ]
      refine take_yields 1 36 (.agg #[.int .i64 st, .int .i64 it, .slice a2 n2 c2, .slice a3 n3 c3, .slice a4 n4 c4, .slice a5 n5 c5]) (fuel := 3) rfl rfl (by kernel_rfl) (by kernel_rfl) (by kernel_rfl) (fun _ _ _ h => h) (yieldsIf_load_mid (by rfl) _ _ rfl (w.heap.size) 0 rfl (iaC st it a2 n2 c2 a3 n3 c3 a4 n4 c4 a5 n5 c5).toList _ (fun w hw => hw.1.2.1.range) Tryz.underlying25 rfl (by kernel_rfl)) hHeld ?_
      simp only [Act.put, List.setIfInBounds_toArray, List.set_cons_zero, List.set_cons_succ]
      refine wpAnyH_ready (rs := [2]) (fuel := 2) (by kernel_rfl) (by simp) ?_
      refine AllReadyH.cons rfl (fun K hK => ?_) AllReadyH.nil
      go_simp
      refine (E1a.out _ hHeld).mono ?_
      rintro e w12a ⟨vq, rfl, hrq, hS⟩
      go_wp2_with fail
      refine hK.out _ _ hS (fun hHeld => ?_)
      clear hK K
      refine wpAnyH_ready (rs := [3]) (fuel := 1) (by kernel_rfl) (by simp) ?_
      refine AllReadyH.cons rfl (fun K hK => ?_) AllReadyH.nil
      go_simp
      refine (E2a.out _ _ hrq hHeld).mono ?_
      rintro e w13a ⟨rfl, hS⟩
      clear hrq
      go_wp2_with fail
      refine hK.out _ _ hS (fun hHeld => ?_)
      clear hK K
      refine take_op 4 39 (.bool false) (fuel := 0) rfl rfl (by kernel_rfl) (by kernel_rfl) (by kernel_rfl) (fun _ _ _ h => h) (by rfl) (fun w hSw => by go_simp) hHeld ?_
      simp only [Act.put, List.setIfInBounds_toArray, List.set_cons_zero, List.set_cons_succ]
      refine wpAnyH_done (by kernel_rfl) ?_ _
      have HSb := Lib.hid hHeld
      clear hHeld SD E1a E2a
      have E1b : Hid (∀ W, LawS w W (iaC st it a2 n2 c2 a3 n3 c3 a4 n4 c4 a5 n5 c5) (iaC su iu b2 m2 d2 b3 m3 d3 b4 m4 d4 b5 m5 d5) w6.heap.size w8.heap.size w5.heap.size (w6.heap.size + 1) ⟨st, it, ins, outs, hids, steps⟩ ⟨su, iu, jns, juts, jids, jteps⟩ (iaC st it (some ⟨g2, 0, none⟩) ins.length ins.length (some ⟨g3, 0, none⟩) outs.length outs.length (some ⟨g4, 0, none⟩) hids.length hids.length (some ⟨g5, 0, none⟩) steps.length steps.length) (iaC su iu (some ⟨h2, 0, none⟩) jns.length jns.length (some ⟨h3, 0, none⟩) juts.length juts.length (some ⟨h4, 0, none⟩) jids.length jids.length (some ⟨h5, 0, none⟩) jteps.length jteps.length) → Calls Tryz.prog 13 #[.agg #[.int .i64 su, .int .i64 iu, .slice b2 m2 d2, .slice b3 m3 d3, .slice b4 m4 d4, .slice b5 m5 d5]] W fun e w' => ∃ v', e = .returned v' ∧ IaRow w' ⟨su, iu, jns, juts, jids, jteps⟩ v' ∧ LawS w w' (iaC st it a2 n2 c2 a3 n3 c3 a4 n4 c4 a5 n5 c5) (iaC su iu b2 m2 d2 b3 m3 d3 b4 m4 d4 b5 m5 d5) w6.heap.size w8.heap.size w5.heap.size (w6.heap.size + 1) ⟨st, it, ins, outs, hids, steps⟩ ⟨su, iu, jns, juts, jids, jteps⟩ (iaC st it (some ⟨g2, 0, none⟩) ins.length ins.length (some ⟨g3, 0, none⟩) outs.length outs.length (some ⟨g4, 0, none⟩) hids.length hids.length (some ⟨g5, 0, none⟩) steps.length steps.length) (iaC su iu (some ⟨h2, 0, none⟩) jns.length jns.length (some ⟨h3, 0, none⟩) juts.length juts.length (some ⟨h4, 0, none⟩) jids.length jids.length (some ⟨h5, 0, none⟩) jteps.length jteps.length)) := fun W hW => (CTB.out W hW.1.1).mono fun e w' ⟨v', he, hat, hb⟩ => ⟨v', he, hat.row, hW.below hb⟩
      have E2b : Hid (∀ W v', IaRow W ⟨su, iu, jns, juts, jids, jteps⟩ v' → LawS w W (iaC st it a2 n2 c2 a3 n3 c3 a4 n4 c4 a5 n5 c5) (iaC su iu b2 m2 d2 b3 m3 d3 b4 m4 d4 b5 m5 d5) w6.heap.size w8.heap.size w5.heap.size (w6.heap.size + 1) ⟨st, it, ins, outs, hids, steps⟩ ⟨su, iu, jns, juts, jids, jteps⟩ (iaC st it (some ⟨g2, 0, none⟩) ins.length ins.length (some ⟨g3, 0, none⟩) outs.length outs.length (some ⟨g4, 0, none⟩) hids.length hids.length (some ⟨g5, 0, none⟩) steps.length steps.length) (iaC su iu (some ⟨h2, 0, none⟩) jns.length jns.length (some ⟨h3, 0, none⟩) juts.length juts.length (some ⟨h4, 0, none⟩) jids.length jids.length (some ⟨h5, 0, none⟩) jteps.length jteps.length) → Calls Tryz.prog 15 #[.agg #[.int .i64 su, .int .i64 iu, .slice (some ⟨h2, 0, none⟩) jns.length jns.length, .slice (some ⟨h3, 0, none⟩) juts.length juts.length, .slice (some ⟨h4, 0, none⟩) jids.length jids.length, .slice (some ⟨h5, 0, none⟩) jteps.length jteps.length], v'] W fun e w' => e = .returned (.bool true) ∧ LawS w w' (iaC st it a2 n2 c2 a3 n3 c3 a4 n4 c4 a5 n5 c5) (iaC su iu b2 m2 d2 b3 m3 d3 b4 m4 d4 b5 m5 d5) w6.heap.size w8.heap.size w5.heap.size (w6.heap.size + 1) ⟨st, it, ins, outs, hids, steps⟩ ⟨su, iu, jns, juts, jids, jteps⟩ (iaC st it (some ⟨g2, 0, none⟩) ins.length ins.length (some ⟨g3, 0, none⟩) outs.length outs.length (some ⟨g4, 0, none⟩) hids.length hids.length (some ⟨g5, 0, none⟩) steps.length steps.length) (iaC su iu (some ⟨h2, 0, none⟩) jns.length jns.length (some ⟨h3, 0, none⟩) juts.length juts.length (some ⟨h4, 0, none⟩) jids.length jids.length (some ⟨h5, 0, none⟩) jteps.length jteps.length)) := fun W v' hv hW => (eqIa_any ⟨su, iu, jns, juts, jids, jteps⟩ ⟨su, iu, jns, juts, jids, jteps⟩ _ _ W hW.2.2.2.row hv (IaFits.small t2 t3 t4 t5) (IaFits.small t2 t3 t4 t5)).mono fun e w' ⟨he, hb⟩ => ⟨by rw [he, sameB_refl], hW.below hb⟩
      go_wp2_with fail
      have SD : LawS w w13a.drew (iaC st it a2 n2 c2 a3 n3 c3 a4 n4 c4 a5 n5 c5) (iaC su iu b2 m2 d2 b3 m3 d3 b4 m4 d4 b5 m5 d5) w6.heap.size w8.heap.size w5.heap.size (w6.heap.size + 1) ⟨st, it, ins, outs, hids, steps⟩ ⟨su, iu, jns, juts, jids, jteps⟩ (iaC st it (some ⟨g2, 0, none⟩) ins.length ins.length (some ⟨g3, 0, none⟩) outs.length outs.length (some ⟨g4, 0, none⟩) hids.length hids.length (some ⟨g5, 0, none⟩) steps.length steps.length) (iaC su iu (some ⟨h2, 0, none⟩) jns.length jns.length (some ⟨h3, 0, none⟩) juts.length juts.length (some ⟨h4, 0, none⟩) jids.length jids.length (some ⟨h5, 0, none⟩) jteps.length jteps.length) := HSb.out.drew
      refine wp_region_held_drew (S := fun w' => LawS w w' (iaC st it a2 n2 c2 a3 n3 c3 a4 n4 c4 a5 n5 c5) (iaC su iu b2 m2 d2 b3 m3 d3 b4 m4 d4 b5 m5 d5) w6.heap.size w8.heap.size w5.heap.size (w6.heap.size + 1) ⟨st, it, ins, outs, hids, steps⟩ ⟨su, iu, jns, juts, jids, jteps⟩ (iaC st it (some ⟨g2, 0, none⟩) ins.length ins.length (some ⟨g3, 0, none⟩) outs.length outs.length (some ⟨g4, 0, none⟩) hids.length hids.length (some ⟨g5, 0, none⟩) steps.length steps.length) (iaC su iu (some ⟨h2, 0, none⟩) jns.length jns.length (some ⟨h3, 0, none⟩) juts.length juts.length (some ⟨h4, 0, none⟩) jids.length jids.length (some ⟨h5, 0, none⟩) jteps.length jteps.length)) (by kernel_rfl) SD (fun hHeld => ?_)
      change wpAnyH _ _ _ _ _ 5 (Array.replicate 5 false) _ _
      refine take_yields 0 40 (.agg #[.int .i64 su, .int .i64 iu, .slice (some ⟨h2, 0, none⟩) jns.length jns.length, .slice (some ⟨h3, 0, none⟩) juts.length juts.length, .slice (some ⟨h4, 0, none⟩) jids.length jids.length, .slice (some ⟨h5, 0, none⟩) jteps.length jteps.length]) (fuel := 4) rfl rfl (by kernel_rfl) (by kernel_rfl) (by kernel_rfl) (fun _ _ _ h => h) (yieldsIf_load_mid (by rfl) _ _ rfl (w8.heap.size) 0 rfl (iaC su iu (some ⟨h2, 0, none⟩) jns.length jns.length (some ⟨h3, 0, none⟩) juts.length juts.length (some ⟨h4, 0, none⟩) jids.length jids.length (some ⟨h5, 0, none⟩) jteps.length jteps.length).toList _ (fun w hw => hw.2.2.1.range) Tryz.underlying29 rfl (by kernel_rfl)) hHeld ?_
      simp only [Act.put, List.setIfInBounds_toArray, List.set_cons_zero, List.set_cons_succ]
      refine take_yields 1 41 (.agg #[.int .i64 su, .int .i64 iu, .slice b2 m2 d2, .slice b3 m3 d3, .slice b4 m4 d4, .slice b5 m5 d5]) (fuel := 3) rfl rfl (by kernel_rfl) (by kernel_rfl) (by kernel_rfl) (fun _ _ _ h => h) (yieldsIf_load_mid (by rfl) _ _ rfl (w.heap.size + 1) 0 rfl (iaC su iu b2 m2 d2 b3 m3 d3 b4 m4 d4 b5 m5 d5).toList _ (fun w hw => hw.1.2.2.range) Tryz.underlying25 rfl (by kernel_rfl)) hHeld ?_
      simp only [Act.put, List.setIfInBounds_toArray, List.set_cons_zero, List.set_cons_succ]
      refine wpAnyH_ready (rs := [2]) (fuel := 2) (by kernel_rfl) (by simp) ?_
      refine AllReadyH.cons rfl (fun K hK => ?_) AllReadyH.nil
      go_simp
      refine (E1b.out _ hHeld).mono ?_
      rintro e w12b ⟨vq, rfl, hrq, hS⟩
      go_wp2_with fail
      refine hK.out _ _ hS (fun hHeld => ?_)
      clear hK K
      refine wpAnyH_ready (rs := [3]) (fuel := 1) (by kernel_rfl) (by simp) ?_
      refine AllReadyH.cons rfl (fun K hK => ?_) AllReadyH.nil
      go_simp
      refine (E2b.out _ _ hrq hHeld).mono ?_
      rintro e w13b ⟨rfl, hS⟩
      clear hrq
      go_wp2_with fail
      refine hK.out _ _ hS (fun hHeld => ?_)
      clear hK K
      refine take_op 4 44 (.bool false) (fuel := 0) rfl rfl (by kernel_rfl) (by kernel_rfl) (by kernel_rfl) (fun _ _ _ h => h) (by rfl) (fun w hSw => by go_simp) hHeld ?_
      simp only [Act.put, List.setIfInBounds_toArray, List.set_cons_zero, List.set_cons_succ]
      refine wpAnyH_done (by kernel_rfl) ?_ _
      have HSc := Lib.hid hHeld
      clear hHeld SD E1b E2b
      go_wp2_with fail
      go_ret
      exact ⟨rfl, HSc.out.1.1⟩
    · have hr2 : roomOf (rm : Int) (m2 + m3 + m4 + m5) = -1 := roomOf_neg (by omega)
      refine (CY.out _ _ (by omega) hrm2).mono ?_
      rw [hr2]
      rintro e w2 ⟨rfl, hb⟩
      have S2 := Lib.hid (S1.out.below hb)
      clear hb S1
      go_wp2_with fail
      go_ret
      exact ⟨rfl, S2.out.1⟩
  · have hr : roomOf 1048576 (n2 + n3 + n4 + n5) = -1 := roomOf_neg (by omega)
    rw [hr] at CZ
    go_enter Tryz.func8, Tryz.ntmps8
    go_wp2_with fail
    refine (CZ.out _).mono ?_
    rintro e w1 ⟨rfl, hb⟩
    have S1 := Lib.hid (S0.out.below hb)
    clear hb CZ S0
    go_wp2_with fail
    go_ret
    exact ⟨rfl, S1.out.1⟩

end Go.Proofs.YtogjbnimohakjabGreat
