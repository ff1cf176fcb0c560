/-
  Mixes of states as lists: what all of them take and what some of them say. No conditions.
-/
import Derived.Test.YtdbgjgeglgipiaaGreatHidMath
namespace Go.Proofs.YtdbgjgeglgipiaaGreat

/-- The states that one may be in unseen from those of a list; none of what is not right. -/
def runIf (a : IaD) (L : List Int) : List Int := if iaOkB a && L.all (stateB a) then alongOf a.hids a.steps L else []

def rightB (a : IaD) (m : List Int) : Bool := iaOkB a && (!m.isEmpty && m.all (stateB a))

def mixTakenOf (a : IaD) (m : List Int) : List Int := if rightB a m then m.foldl (fun o s => meetOf o (sureOf a s)) a.ins else []

def mixSaidOf (a : IaD) (m : List Int) : List Int := if rightB a m then m.foldl (fun o s => joinOf o (sayOf a s)) [] else []

theorem runIf_ok {a : IaD} {L : List Int} (h : runIf a L ≠ []) : iaOkB a = true ∧ L.all (stateB a) = true := by
  unfold runIf at h
  split at h
  · rename_i hc
    rw [Bool.and_eq_true] at hc
    exact hc
  · exact absurd rfl h

theorem runIf_states {a : IaD} {L : List Int} : ∀ x ∈ runIf a L, stateB a x = true := by
  intro x hx
  obtain ⟨h1, h2⟩ := runIf_ok (List.ne_nil_of_mem hx)
  unfold runIf at hx
  rw [h1, h2] at hx
  exact along_states h1 (List.all_eq_true.1 h2) x hx

theorem runIf_low {a : IaD} {L : List Int} : ∀ x ∈ runIf a L, 0 ≤ x ∧ x < 40 := by
  intro x hx
  obtain ⟨h1, h2⟩ := runIf_ok (List.ne_nil_of_mem hx)
  have h3 := runIf_states x hx
  have h4 := iaOk_states h1
  simp only [stateB, btw, Bool.and_eq_true, decide_eq_true_eq] at h3
  omega

theorem runIf_rises (a : IaD) (L : List Int) : (runIf a L).Pairwise (· < ·) := by
  unfold runIf
  split
  · exact (alongOf_mem _ _ _).1
  · exact List.Pairwise.nil

theorem runIf_len (a : IaD) (L : List Int) : (runIf a L).length ≤ 40 := by
  by_cases h : runIf a L = []
  · rw [h]; simp
  · exact rises_low (runIf_ok h).1 (runIf_rises a L) runIf_states

theorem come_one {set : List Int} {ss : List St} {L : List Int} {y : Int} (h : Come set ss L y) : ∃ s ∈ L, Come set ss [s] y := by
  induction h with
  | start x hx => exact ⟨x, hx, .start x (by simp)⟩
  | step s hs hp _ ih =>
    obtain ⟨r, hr, hc⟩ := ih
    exact ⟨r, hr, .step s hs hp hc⟩

theorem mem_along_one {a : IaD} {L : List Int} {y : Int} : y ∈ alongOf a.hids a.steps L ↔ ∃ s ∈ L, y ∈ closeOf a s := by
  rw [(alongOf_mem _ _ _).2 y]
  constructor
  · intro h
    obtain ⟨s, hs, hc⟩ := come_one h
    exact ⟨s, hs, mem_close.2 hc⟩
  · rintro ⟨s, hs, hc⟩
    exact (mem_close.1 hc).trans (.start s hs)

theorem mem_sure {a : IaD} {s y : Int} : y ∈ sureOf a s ↔ y ∈ a.ins ∧ ∀ x ∈ closeOf a s, y ∈ ofL a.steps x a.ins := mem_foldMeet
theorem mem_say {a : IaD} {s y : Int} : y ∈ sayOf a s ↔ ∃ x ∈ closeOf a s, y ∈ ofL a.steps x a.outs := by
  unfold sayOf
  rw [mem_foldJoin]
  simp

theorem mem_sureP {f : Int → List Int} {y : Int} : ∀ {L : List Int}, L ≠ [] → (y ∈ sureP f L ↔ ∀ x ∈ L, y ∈ f x)
  | [], h => absurd rfl h
  | x :: r, _ => by
    show y ∈ r.foldl _ _ ↔ _
    rw [mem_foldMeet]
    simp

theorem sureP_rises {ss : List St} {ins : List Int} : ∀ (L : List Int), (sureP (fun x => ofL ss x ins) L).Pairwise (· < ·)
  | [] => List.Pairwise.nil
  | x :: _ => foldMeet_rises (ofL_rises ss x ins)

theorem mixTaken_eq (a : IaD) (m : List Int) : sureP (fun x => ofL a.steps x a.ins) (runIf a m) = mixTakenOf a m := by
  unfold runIf mixTakenOf rightB
  cases hq : iaOkB a with
  | false => rfl
  | true =>
    cases hq2 : m.all (stateB a) with
    | false => simp [sureP]
    | true =>
      cases m with
      | nil => rw [along_nil]; rfl
      | cons s r =>
        simp only [List.isEmpty_cons, Bool.not_false, Bool.and_self, if_true]
        have hne : alongOf a.hids a.steps (s :: r) ≠ [] := List.ne_nil_of_mem (mem_along_one.2 ⟨s, by simp, close_self a s⟩)
        rw [List.foldl_cons]
        refine rise_eq (sureP_rises _) (foldMeet_rises (meet_rises _ _)) (fun y => ?_)
        rw [mem_sureP hne]
        have e : (y ∈ r.foldl (fun o s => meetOf o (sureOf a s)) (meetOf a.ins (sureOf a s))) ↔ y ∈ a.ins ∧ ∀ x ∈ s :: r, y ∈ sureOf a x := by
          rw [mem_foldMeet, mem_meetOf]
          simp only [List.mem_cons, forall_eq_or_imp]
          exact and_assoc
        rw [e]
        constructor
        · intro h
          have hs := h s (mem_along_one.2 ⟨s, by simp, close_self a s⟩)
          refine ⟨(mem_ofL.1 hs).1, fun x hx => mem_sure.2 ⟨(mem_ofL.1 hs).1, fun z hz => h z (mem_along_one.2 ⟨x, hx, hz⟩)⟩⟩
        · rintro ⟨_, h⟩ z hz
          obtain ⟨x, hx, hc⟩ := mem_along_one.1 hz
          exact (mem_sure.1 (h x hx)).2 z hc

theorem mixSaid_eq (a : IaD) (m : List Int) : (runIf a m).foldl (fun o x => joinOf o (ofL a.steps x a.outs)) [] = mixSaidOf a m := by
  unfold runIf mixSaidOf rightB
  cases hq : iaOkB a with
  | false => rfl
  | true =>
    cases hq2 : m.all (stateB a) with
    | false => simp
    | true =>
      cases m with
      | nil => rw [along_nil]; rfl
      | cons s r =>
        simp only [List.isEmpty_cons, Bool.not_false, Bool.and_self, if_true]
        refine rise_eq (foldJoin_rises List.Pairwise.nil) (foldJoin_rises List.Pairwise.nil) (fun y => ?_)
        rw [mem_foldJoin, mem_foldJoin]
        constructor
        · rintro (h | ⟨x, hx, hy⟩)
          · exact .inl h
          · obtain ⟨z, hz, hc⟩ := mem_along_one.1 hx
            exact .inr ⟨z, hz, mem_say.2 ⟨x, hc, hy⟩⟩
        · rintro (h | ⟨z, hz, hy⟩)
          · exact .inl h
          · obtain ⟨x, hc, hy⟩ := mem_say.1 hy
            exact .inr ⟨x, mem_along_one.2 ⟨z, hz, hc⟩, hy⟩

theorem mixTaken_len (a : IaD) (m : List Int) : (mixTakenOf a m).length ≤ a.ins.length := by
  rw [← mixTaken_eq]
  generalize runIf a m = L
  cases L with
  | nil => simp [sureP]
  | cons x r => exact rises_len (foldMeet_rises (L := r) (ofL_rises a.steps x a.ins)) (fun y hy => (mem_ofL.1 (mem_foldMeet.1 hy).1).1)

theorem mixSaid_len (a : IaD) (m : List Int) : (mixSaidOf a m).length ≤ a.outs.length := by
  rw [← mixSaid_eq]
  refine rises_len (foldJoin_rises List.Pairwise.nil) (fun y hy => ?_)
  rcases mem_foldJoin.1 hy with h | ⟨x, _, hx⟩
  · cases h
  · exact (mem_ofL.1 hx).1

end Go.Proofs.YtdbgjgeglgipiaaGreat
