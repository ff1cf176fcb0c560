/-
  What trimming makes: the program's way to number states anew is the model's. Conditions: none; nothing here speaks of the program.
-/
import Derived.Test.YtogjbnimohakjabGreatReachMath
namespace Go.Proofs.YtogjbnimohakjabGreat
open Go.RowKit

/-- The place of a state among the first 'k' that are kept, or 0. -/
def plOf (kept : List Int) (k : Nat) (s : Nat) : Int := if (s : Int) ∈ kept.take k then (kept.idxOf (s : Int) : Int) else 0

theorem plOf_zero (kept : List Int) (s : Nat) : plOf kept 0 s = 0 := by simp [plOf]

/-- One more is numbered. -/
theorem plOf_step {kept : List Int} (hn : kept.Nodup) {k : Nat} (hk : k < kept.length) {t : Nat} (ht : kept[k] = (t : Int)) (s : Nat) : plOf kept (k + 1) s = if s = t then (k : Int) else plOf kept k s := by
  unfold plOf
  rw [List.take_succ_eq_append_getElem hk]
  by_cases e : s = t
  · subst e
    rw [if_pos rfl, if_pos (by rw [List.mem_append, ht]; simp)]
    have : kept.idxOf (s : Int) = k := by
      rw [← ht]
      exact hn.idxOf_getElem k hk
    rw [this]
  · rw [if_neg e]
    have hne : ¬ (s : Int) = kept[k] := by rw [ht]; omega
    by_cases h : (s : Int) ∈ kept.take k
    · rw [if_pos (List.mem_append_left _ h), if_pos h]
    · rw [if_neg (fun hm => (List.mem_append.1 hm).elim h (fun h' => hne (List.mem_singleton.1 h'))), if_neg h]

/-- What stepsBetween makes. -/
def betweenOf (kept : List Int) (pl : Nat → Int) (ss : List St) : List St := (ss.filter fun x => hasB kept x.1).map fun x => (pl x.1.toNat, x.2.1, pl x.2.2.toNat)

theorem reached_rise (a : IaD) : (reachedOf a).Pairwise (· < ·) := (alongOf_mem _ _ _).1

theorem reached_nodup (a : IaD) : (reachedOf a).Nodup := (reached_rise a).imp (fun h e => by omega)

theorem mem_reached {a : IaD} {x : Int} : x ∈ reachedOf a ↔ Come (actsOf a) a.steps [a.init] x := (alongOf_mem _ _ _).2 x

theorem init_reached (a : IaD) : a.init ∈ reachedOf a := mem_reached.2 (.start _ (by simp))

theorem step_reached {a : IaD} (h : iaOkB a = true) {x : St} (hx : x ∈ a.steps) (hf : x.1 ∈ reachedOf a) : x.2.2 ∈ reachedOf a := mem_reached.2 (.step x hx (act_in h hx) (mem_reached.1 hf))

theorem reached_low {a : IaD} (h : iaOkB a = true) : ∀ y ∈ reachedOf a, 0 ≤ y ∧ y < 40 := by
  intro y hy
  have h1 := come_state h (mem_reached.1 hy)
  have h2 := (iaOk_states h).2
  omega

theorem reached_short {a : IaD} (h : iaOkB a = true) : (reachedOf a).length ≤ 40 := nodup_low (reached_nodup a) (reached_low h)

theorem plOf_all {kept : List Int} {y : Int} (h0 : 0 ≤ y) (hm : y ∈ kept) : plOf kept kept.length y.toNat = placeOf kept y := by
  have e : ((y.toNat : Nat) : Int) = y := by omega
  unfold plOf placeOf
  rw [e, List.take_length, if_pos hm, if_pos hm]

theorem placeOf_neg {L : List Int} {x : Int} : 0 ≤ placeOf L x ↔ x ∈ L := by
  unfold placeOf
  split
  · rename_i h
    simp [h]
  · rename_i h
    simp [h]

theorem between_eq {a : IaD} (h : iaOkB a = true) : betweenOf (reachedOf a) (plOf (reachedOf a) (reachedOf a).length) a.steps = (onlyOf a (reachedOf a)).steps := by
  have key : ∀ ss : List St, (∀ x ∈ ss, x ∈ a.steps) → betweenOf (reachedOf a) (plOf (reachedOf a) (reachedOf a).length) ss = (ss.map fun x => (placeOf (reachedOf a) x.1, x.2.1, placeOf (reachedOf a) x.2.2)).filter fun x => decide (0 ≤ x.1) && decide (0 ≤ x.2.2) := by
    intro ss
    induction ss with
    | nil => intro _; rfl
    | cons x r ih =>
      intro hs
      have ihr := ih (fun y hy => hs y (List.mem_cons_of_mem _ hy))
      have hx := hs x (List.mem_cons_self ..)
      unfold betweenOf at ihr ⊢
      rw [List.map_cons, List.filter_cons, List.filter_cons]
      by_cases hf : x.1 ∈ reachedOf a
      · have ht := step_reached h hx hf
        rw [if_pos (hasB_mem.2 hf), if_pos (by simp [placeOf_neg, hf, ht]), List.map_cons, ihr]
        rw [plOf_all (reached_low h _ hf).1 hf, plOf_all (reached_low h _ ht).1 ht]
      · rw [if_neg (by rw [hasB_mem]; exact hf), if_neg (by simp [placeOf_neg, hf]), ihr]
  exact key a.steps (fun _ h => h)

/-- The automaton that the program makes is the model's. -/
theorem trimmed_eq {a : IaD} (h : iaOkB a = true) : (⟨((reachedOf a).length : Int), plOf (reachedOf a) (reachedOf a).length a.init.toNat, a.ins, a.outs, a.hids, betweenOf (reachedOf a) (plOf (reachedOf a) (reachedOf a).length) a.steps⟩ : IaD) = trimmedOf a := by
  unfold trimmedOf
  rw [if_pos h, between_eq h, plOf_all (iaOk_init h).1 (init_reached a)]
  rfl

end Go.Proofs.YtogjbnimohakjabGreat
