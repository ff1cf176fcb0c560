/-
  Twelve counts of three in a box: one of them goes up by one; a list's numbers are counted. Conditions: as each statement says.
-/
import Derived.Test.YtdbgjgeglgipiaaDisputed
import Derived.Test.YtdbgjgeglgipiaaSpecAllFit
import Derived.Test.YtdbgjgeglgipiaaIaMath
import Derived.Test.YtdbgjgeglgipiaaFit
namespace Go.Proofs.Ytdbgjgeglgipiaa
open Go.RowKit

/-- Twelve counts of three in a box of the call's own. -/
def Held3 (w : World) (H : Nat) (G : Nat → Nat → Nat) : Prop :=
  H < w.heap.size ∧ (∀ x j, x < 12 → j < 3 → w.cell? ⟨H, x * 3 + j, none⟩ = some (.int .i64 (G x j : Int))) ∧ ∀ i, w.frozen? ⟨H, i, none⟩ = false

theorem Held3.below {w w' : World} {H : Nat} {G : Nat → Nat → Nat} (h : Held3 w H G) (hb : Below w.heap.size w w') : Held3 w' H G :=
  ⟨Nat.lt_of_lt_of_le h.1 hb.size, fun x j hx hj => (hb.cell (p := ⟨H, x * 3 + j, none⟩) h.1).trans (h.2.1 x j hx hj), fun i => (hb.frozen (p := ⟨H, i, none⟩) h.1).trans (h.2.2 i)⟩

theorem Held3.like {w : World} {H : Nat} {G G' : Nat → Nat → Nat} (h : Held3 w H G) (hg : ∀ x j, x < 12 → j < 3 → G x j = G' x j) : Held3 w H G' :=
  ⟨h.1, fun x j hx hj => by rw [← hg x j hx hj]; exact h.2.1 x j hx hj, h.2.2⟩

theorem Held3.rowH {w : World} {H : Nat} {G : Nat → Nat → Nat} (h : Held3 w H G) : RowH w H (fun x => G x 0) (fun x => G x 1) (fun x => G x 2) :=
  ⟨h.1, fun x hx j v hv => by
    match j, hv with
    | 0, hv => exact (h.2.1 x 0 hx (by omega)).trans hv
    | 1, hv => exact (h.2.1 x 1 hx (by omega)).trans hv
    | 2, hv => exact (h.2.1 x 2 hx (by omega)).trans hv⟩

def upG (G : Nat → Nat → Nat) (x j : Nat) : Nat → Nat → Nat := fun y i => if y = x ∧ i = j then G y i + 1 else G y i

theorem Held3.up {w : World} {H : Nat} {G : Nat → Nat → Nat} (h : Held3 w H G) (x j : Nat) (hx : x < 12) (hj : j < 3) : Held3 (w.setCell ⟨H, x * 3 + j, none⟩ (.int .i64 ((G x j : Int) + 1))) H (upG G x j) := by
  refine ⟨by simpa using h.1, fun y i hy hi => ?_, fun i => by rw [World.frozen?_setCell]; exact h.2.2 i⟩
  by_cases e : y = x ∧ i = j
  · obtain ⟨rfl, rfl⟩ := e
    rw [World.cell?_setCell_same _ _ _ (h.2.1 y i hy hi)]
    simp [upG]
  · rw [World.cell?_setCell_other _ _ _ _ (fun q => e (by have q2 : x * 3 + j = y * 3 + i := congrArg Addr.off q; omega)), h.2.1 y i hy hi]
    simp only [upG, if_neg e]

/-- The numbers of a list counted in row 'j'. -/
def addG (G : Nat → Nat → Nat) (xs : List Int) (j : Nat) : Nat → Nat → Nat := fun y i => if i = j then G y i + xs.count (y : Int) else G y i

theorem addG_nil (G : Nat → Nat → Nat) (j : Nat) : addG G [] j = G := by
  funext y i
  unfold addG
  split <;> simp

theorem addG_step (G : Nat → Nat → Nat) (xs : List Int) (j k x : Nat) (hk : k < xs.length) (hx : xs[k] = (x : Int)) : addG G (xs.take (k + 1)) j = upG (addG G (xs.take k) j) x j := by
  funext y i
  unfold addG upG
  rw [List.take_succ_eq_append_getElem hk, List.count_append, hx]
  by_cases hi : i = j
  · by_cases hy : y = x
    · simp [hi, hy]
      omega
    · have : ¬ ((x : Int) = (y : Int)) := by omega
      simp [hi, hy, this]
  · simp [hi]

theorem addG_le (G : Nat → Nat → Nat) (xs : List Int) (j y i : Nat) : addG G xs j y i ≤ G y i + xs.length := by
  unfold addG
  split
  · have := List.count_le_length (a := (y : Int)) (l := xs)
    omega
  · omega

theorem setOk_step {xs : List Int} (h : setOkB xs = true) {j : Nat} (hj : j + 1 < xs.length) : xs.getD j 0 < xs.getD (j + 1) 0 := by
  simp only [setOkB, List.all_eq_true, List.mem_range] at h
  have h1 := h (j + 1) hj
  simp only [goodB, Bool.and_eq_true, Bool.or_eq_true, decide_eq_true_eq] at h1
  rcases h1.2 with h2 | h2
  · omega
  · simpa using h2

theorem setOk_rise {xs : List Int} (h : setOkB xs = true) : xs.Pairwise (· < ·) := by
  rw [List.pairwise_iff_getElem]
  have key : ∀ d i : Nat, i + d + 1 < xs.length → xs.getD i 0 < xs.getD (i + d + 1) 0 := by
    intro d
    induction d with
    | zero => exact fun i hi => setOk_step h hi
    | succ d ih => exact fun i hi => Int.lt_trans (ih i (by omega)) (setOk_step h (j := i + d + 1) (by omega))
  intro i j hi hj hij
  have h1 := key (j - i - 1) i (by omega)
  have e : i + (j - i - 1) + 1 = j := by omega
  rw [e] at h1
  simpa [List.getD_eq_getElem?_getD, hi, hj] using h1

theorem setOk_count {xs : List Int} (h : setOkB xs = true) (y : Int) : xs.count y = if hasB xs y then 1 else 0 := by
  have hn : xs.Nodup := (setOk_rise h).imp (fun h => Int.ne_of_lt h)
  rw [hn.count]
  by_cases hm : y ∈ xs
  · rw [if_pos hm, if_pos (hasB_mem.2 hm)]
  · rw [if_neg hm, if_neg (fun e => hm (hasB_mem.1 e))]

/-- What has been counted of the first 'k' automata: who takes, says, hides an action. -/
def cntG (L : List IaD) (k : Nat) : Nat → Nat → Nat := fun y i => if i = 0 then countOf (isTaker (y : Int)) (L.take k) else if i = 1 then countOf (isSayer (y : Int)) (L.take k) else countOf (isHider (y : Int)) (L.take k)

theorem cntG_zero (L : List IaD) : cntG L 0 = fun _ _ => 0 := by
  funext y i
  unfold cntG countOf
  simp

theorem cntG_le (L : List IaD) (k y i : Nat) : cntG L k y i ≤ k := by
  unfold cntG
  split
  · exact count_le _ _ _
  · split
    · exact count_le _ _ _
    · exact count_le _ _ _

theorem apart_nil {xs ys : List Int} (h : (meetOf xs ys).length = 0) {y : Int} (h1 : y ∈ xs) (h2 : y ∈ ys) : False := by
  have h3 : y ∈ meetOf xs ys := mem_meetOf.2 ⟨h1, h2⟩
  rw [List.length_eq_zero_iff.1 h] at h3
  cases h3

theorem cntG_step (L : List IaD) (k : Nat) (hk : k < L.length) (x : IaD) (hx : L[k] = x) (hok : iaOkB x = true) :
    addG (addG (addG (cntG L k) x.ins 0) x.outs 1) x.hids 2 = fun y i => if i < 3 then cntG L (k + 1) y i else cntG L k y i := by
  obtain ⟨o1, o2, o3⟩ := iaOk_sets hok
  have hap : apartB x = true := by
    simp only [iaOkB, Bool.and_eq_true] at hok
    exact hok.1.2
  simp only [apartB, decide_eq_true_eq] at hap
  have p1 := fun y => @apart_nil x.ins x.outs (by omega) y
  have p2 := fun y => @apart_nil x.ins x.hids (by omega) y
  have p3 := fun y => @apart_nil x.outs x.hids (by omega) y
  funext y i
  have c1 := setOk_count o1 (y : Int)
  have c2 := setOk_count o2 (y : Int)
  have c3 := setOk_count o3 (y : Int)
  have s1 : countOf (isTaker (y : Int)) (L.take (k + 1)) = countOf (isTaker (y : Int)) (L.take k) + if hasB x.ins (y : Int) = true then 1 else 0 := by
    have h := count_step (isTaker (y : Int)) L k hk
    rw [hx] at h
    exact h
  have s2 : countOf (isSayer (y : Int)) (L.take (k + 1)) = countOf (isSayer (y : Int)) (L.take k) + if (!hasB x.ins (y : Int) && hasB x.outs (y : Int)) = true then 1 else 0 := by
    have h := count_step (isSayer (y : Int)) L k hk
    rw [hx] at h
    exact h
  have s3 : countOf (isHider (y : Int)) (L.take (k + 1)) = countOf (isHider (y : Int)) (L.take k) + if (!hasB x.ins (y : Int) && !hasB x.outs (y : Int) && hasB x.hids (y : Int)) = true then 1 else 0 := by
    have h := count_step (isHider (y : Int)) L k hk
    rw [hx] at h
    exact h
  have t1 : hasB x.ins (y : Int) = true → hasB x.outs (y : Int) = true → False := fun a b => p1 _ (hasB_mem.1 a) (hasB_mem.1 b)
  have t2 : hasB x.ins (y : Int) = true → hasB x.hids (y : Int) = true → False := fun a b => p2 _ (hasB_mem.1 a) (hasB_mem.1 b)
  have t3 : hasB x.outs (y : Int) = true → hasB x.hids (y : Int) = true → False := fun a b => p3 _ (hasB_mem.1 a) (hasB_mem.1 b)
  obtain ⟨q1, hq1⟩ : ∃ q, q = hasB x.ins (y : Int) := ⟨_, rfl⟩
  obtain ⟨q2, hq2⟩ : ∃ q, q = hasB x.outs (y : Int) := ⟨_, rfl⟩
  obtain ⟨q3, hq3⟩ : ∃ q, q = hasB x.hids (y : Int) := ⟨_, rfl⟩
  rw [← hq1] at c1 s1 s2 s3 t1 t2
  rw [← hq2] at c2 s2 s3 t1 t3
  rw [← hq3] at c3 s3 t2 t3
  unfold addG
  rw [c1, c2, c3]
  match i with
  | 0 =>
    simp only [cntG]
    simpa using s1.symm
  | 1 =>
    simp only [cntG]
    have : (if q2 = true then 1 else 0) = if (!q1 && q2) = true then 1 else 0 := by cases q1 <;> cases q2 <;> simp_all
    simpa [this] using s2.symm
  | 2 =>
    simp only [cntG]
    have : (if q3 = true then 1 else 0) = if (!q1 && !q2 && q3) = true then 1 else 0 := by cases q1 <;> cases q2 <;> cases q3 <;> simp_all
    simpa [this] using s3.symm
  | i + 3 => simp; omega

end Go.Proofs.Ytdbgjgeglgipiaa
