/-
  What may be come to is the least list that holds the beginning and is closed under steps. Conditions: none; nothing here speaks of the program.
-/
import Derived.Test.YtfhjhfhfbgddeaaGreatDoorIaDef
import Derived.Test.YtfhjhfhfbgddeaaGreatDoorRisen
namespace Go.Proofs.YtfhjhfhfbgddeaaGreatDoor
open Go.RowKit

/-- 'x' may be come to from one of 'L', along steps with actions of 'set'. -/
inductive Come (set : List Int) (ss : List St) (L : List Int) : Int → Prop
  | start (x : Int) (h : x ∈ L) : Come set ss L x
  | step (s : St) (h : s ∈ ss) (hp : hasB set s.2.1 = true) (hc : Come set ss L s.1) : Come set ss L s.2.2

theorem hasB_mem {xs : List Int} {x : Int} : hasB xs x = true ↔ x ∈ xs := by simp [hasB]

theorem Come.mono {set : List Int} {ss ss' : List St} {L L' : List Int} {x : Int} (h : Come set ss L x) (hs : ∀ s ∈ ss, s ∈ ss') (hL : ∀ x ∈ L, Come set ss' L' x) : Come set ss' L' x := by
  induction h with
  | start x h => exact hL x h
  | step s h hp _ ih => exact .step s (hs s h) hp ih

theorem passOf_cons (set : List Int) (x : St) (r : List St) (out : List Int) : passOf set (x :: r) out = passOf set r (if hasB set x.2.1 && hasB out x.1 then put out x.2.2 else out) := rfl

theorem passOf_snoc (set : List Int) (x : St) (r : List St) (out : List Int) : passOf set (r ++ [x]) out = (if hasB set x.2.1 && hasB (passOf set r out) x.1 then put (passOf set r out) x.2.2 else passOf set r out) := by simp [passOf]

theorem passOf_rises {set : List Int} {ss : List St} {out : List Int} (h : out.Pairwise (· < ·)) : (passOf set ss out).Pairwise (· < ·) := by
  induction ss generalizing out with
  | nil => exact h
  | cons x r ih =>
    rw [passOf_cons]
    refine ih ?_
    split
    · exact put_rises h
    · exact h

theorem mem_passOf {set : List Int} {ss : List St} {out : List Int} {y : Int} (h : y ∈ out) : y ∈ passOf set ss out := by
  induction ss generalizing out with
  | nil => exact h
  | cons x r ih =>
    rw [passOf_cons]
    refine ih ?_
    split
    · exact mem_put.2 (Or.inr h)
    · exact h

theorem passOf_come {set : List Int} {ss ss' : List St} {out L : List Int} (hs : ∀ s ∈ ss, s ∈ ss') (h : ∀ y ∈ out, Come set ss' L y) : ∀ y ∈ passOf set ss out, Come set ss' L y := by
  induction ss generalizing out with
  | nil => exact h
  | cons x r ih =>
    rw [passOf_cons]
    refine ih (fun s hm => hs s (List.mem_cons_of_mem _ hm)) ?_
    intro y hy
    split at hy
    · rename_i hc
      rw [Bool.and_eq_true] at hc
      rcases mem_put.1 hy with rfl | hy
      · exact .step x (hs x (List.mem_cons_self ..)) hc.1 (h _ (hasB_mem.1 hc.2))
      · exact h y hy
    · exact h y hy

/-- Where a way brought nothing new, all is closed. -/
theorem passOf_closed {set : List Int} {ss : List St} {out : List Int} (h : ∀ y ∈ passOf set ss out, y ∈ out) : ∀ s ∈ ss, hasB set s.2.1 = true → s.1 ∈ out → s.2.2 ∈ out := by
  induction ss with
  | nil => intro s hs; simp at hs
  | cons x r ih =>
    intro s hs hp hm
    rw [passOf_cons] at h
    by_cases hc : (hasB set x.2.1 && hasB out x.1) = true
    · rw [if_pos hc] at h
      have hx : x.2.2 ∈ out := h _ (mem_passOf (mem_put.2 (Or.inl rfl)))
      rcases List.mem_cons.1 hs with rfl | hs
      · exact hx
      · have e : ∀ y ∈ passOf set r out, y ∈ out := by
          intro y hy
          refine h y ?_
          have mono : ∀ (r : List St) (o o' : List Int), (∀ z ∈ o, z ∈ o') → ∀ z ∈ passOf set r o, z ∈ passOf set r o' := by
            intro r
            induction r with
            | nil => intro o o' ho; exact ho
            | cons x r ih =>
              intro o o' ho
              rw [passOf_cons, passOf_cons]
              refine ih _ _ ?_
              intro z hz
              split at hz
              · rename_i h1
                rw [Bool.and_eq_true] at h1
                rw [if_pos (by rw [h1.1, hasB_mem.2 (ho _ (hasB_mem.1 h1.2))]; rfl)]
                rcases mem_put.1 hz with rfl | hz
                · exact mem_put.2 (Or.inl rfl)
                · exact mem_put.2 (Or.inr (ho z hz))
              · split
                · exact mem_put.2 (Or.inr (ho z hz))
                · exact ho z hz
          exact mono r out _ (fun z hz => mem_put.2 (Or.inr hz)) y hy
        exact ih e s hs hp hm
    · rw [if_neg hc] at h
      rcases List.mem_cons.1 hs with rfl | hs
      · exact absurd (by rw [hp, hasB_mem.2 hm]; rfl) hc
      · exact ih h s hs hp hm

theorem closed_come {set : List Int} {ss : List St} {out L : List Int} (hL : ∀ x ∈ L, x ∈ out) (hc : ∀ s ∈ ss, hasB set s.2.1 = true → s.1 ∈ out → s.2.2 ∈ out) {x : Int} (h : Come set ss L x) : x ∈ out := by
  induction h with
  | start x h => exact hL x h
  | step s h hp _ ih => exact hc s h hp ih

/-- A rising list within another one is no longer. -/
theorem rises_len {xs ys : List Int} (hx : xs.Pairwise (· < ·)) (h : ∀ x ∈ xs, x ∈ ys) : xs.length ≤ ys.length := by
  have hn : xs.Nodup := hx.imp (fun h e => by omega)
  exact hn.length_le_of_subset h

theorem rises_same {xs ys : List Int} (hx : xs.Pairwise (· < ·)) (hy : ys.Pairwise (· < ·)) (h : ∀ x ∈ xs, x ∈ ys) (hl : ys.length = xs.length) : ys = xs := by
  have hn : xs.Nodup := hx.imp (fun h e => by omega)
  refine (rise_eq hx hy (fun x => ⟨h x, fun hxy => ?_⟩)).symm
  by_cases hm : x ∈ xs
  · exact hm
  · have h2 : (x :: xs).Nodup := List.nodup_cons.2 ⟨hm, hn⟩
    have h3 := h2.length_le_of_subset (l₂ := ys) (fun z hz => by
      rcases List.mem_cons.1 hz with rfl | hz
      · exact hxy
      · exact h z hz)
    simp at h3
    omega

/-- A way through the steps is no shorter; where it is as long, it is the same. -/
theorem passOf_len {set : List Int} {ss : List St} {out : List Int} (h : out.Pairwise (· < ·)) : out.length ≤ (passOf set ss out).length := rises_len h (fun _ hx => mem_passOf hx)

theorem passOf_done {set : List Int} {ss : List St} {out : List Int} (h : out.Pairwise (· < ·)) (hl : (passOf set ss out).length = out.length) : passOf set ss out = out := rises_same h (passOf_rises h) (fun _ hx => mem_passOf hx) hl

/-- What stands when a way through all steps brings nothing new: just what may be come to. -/
theorem pass_end {set : List Int} {ss : List St} {out L : List Int} (h : out.Pairwise (· < ·)) (hL : ∀ x ∈ L, x ∈ out) (hc : ∀ y ∈ out, Come set ss L y) (hl : (passOf set ss out).length = out.length) : ∀ x, x ∈ out ↔ Come set ss L x := by
  intro x
  refine ⟨hc x, fun hx => closed_come hL (passOf_closed ?_) hx⟩
  rw [passOf_done h hl]; exact fun _ h => h

/-- All that may be come to is among the beginning and the ends of steps. -/
theorem come_among {set : List Int} {ss : List St} {L : List Int} {x : Int} (h : Come set ss L x) : x ∈ L ++ ss.map (fun s => s.2.2) := by
  cases h with
  | start x h => exact List.mem_append_left _ h
  | step s h hp hc => exact List.mem_append_right _ (List.mem_map.2 ⟨s, h, rfl⟩)

theorem come_bound {set : List Int} {ss : List St} {out L : List Int} (h : out.Pairwise (· < ·)) (hc : ∀ y ∈ out, Come set ss L y) : out.length ≤ L.length + ss.length := by
  have := rises_len (ys := L ++ ss.map (fun s => s.2.2)) h (fun x hx => come_among (hc x hx))
  simpa using this

/-- Ways enough: what comes out rises, and holds just what may be come to. -/
theorem alongN_mem {set : List Int} {ss : List St} {L : List Int} (n : Nat) (out : List Int) (h : out.Pairwise (· < ·)) (hL : ∀ x ∈ L, x ∈ out) (hc : ∀ y ∈ out, Come set ss L y) (hn : L.length + ss.length < n + out.length) :
    (alongN set ss n out).Pairwise (· < ·) ∧ ∀ x, x ∈ alongN set ss n out ↔ Come set ss L x := by
  induction n generalizing out with
  | zero =>
    have := come_bound h hc
    omega
  | succ n ih =>
    rw [alongN]
    split
    · rename_i hl
      rw [passOf_done h hl]
      exact ⟨h, pass_end h hL hc hl⟩
    · rename_i hl
      have hge := passOf_len (set := set) (ss := ss) h
      refine ih _ (passOf_rises h) (fun x hx => mem_passOf (hL x hx)) (passOf_come (fun _ h => h) hc) (by omega)

theorem alongOf_mem (set : List Int) (ss : List St) (L : List Int) : (alongOf set ss L).Pairwise (· < ·) ∧ ∀ x, x ∈ alongOf set ss L ↔ Come set ss L x :=
  alongN_mem _ _ (putAll_rises List.Pairwise.nil) (fun x hx => mem_putAll.2 (Or.inr hx)) (fun y hy => by
    rcases mem_putAll.1 hy with hy | hy
    · simp at hy
    · exact .start y hy) (by omega)

/-- Whatever rises and holds just what may be come to is this list. -/
theorem along_eq {set : List Int} {ss : List St} {L out : List Int} (h : out.Pairwise (· < ·)) (hm : ∀ x, x ∈ out ↔ Come set ss L x) : out = alongOf set ss L :=
  rise_eq h (alongOf_mem set ss L).1 (fun x => (hm x).trans ((alongOf_mem set ss L).2 x).symm)

end Go.Proofs.YtfhjhfhfbgddeaaGreatDoor
