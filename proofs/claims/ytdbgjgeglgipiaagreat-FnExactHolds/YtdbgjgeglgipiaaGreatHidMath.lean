/-
  What is hidden, as functions of lists: the model's functions of chapter 4, what the program's search keeps, and that both say the same. Conditions: none; nothing here speaks of the program.
-/
import Derived.Test.YtdbgjgeglgipiaaGreatReachMath
namespace Go.Proofs.YtdbgjgeglgipiaaGreat
open Go.RowKit

def closeOf (a : IaD) (s : Int) : List Int := alongOf a.hids a.steps [s]

def sureOf (a : IaD) (s : Int) : List Int := (closeOf a s).foldl (fun o x => meetOf o (ofL a.steps x a.ins)) a.ins

def sayOf (a : IaD) (s : Int) : List Int := (closeOf a s).foldl (fun o x => joinOf o (ofL a.steps x a.outs)) []

def farOf (a : IaD) (s act : Int) : List Int := (closeOf a s).foldl (fun o x => joinOf o (afterL a.steps x act)) []

def nextOf (a : IaD) (now : List Int) (act : Int) : List Int := now.foldl (fun o x => joinOf o (farOf a x act)) []

def runOf (a : IaD) (now trace : List Int) : List Int := trace.foldl (fun o act => alongOf a.hids a.steps (nextOf a o act)) now

def runsOf (a : IaD) (from_ trace : List Int) : List Int := runOf a (alongOf a.hids a.steps from_) trace

theorem mem_foldJoin {f : Int → List Int} {y : Int} : ∀ {L o : List Int}, y ∈ L.foldl (fun o x => joinOf o (f x)) o ↔ y ∈ o ∨ ∃ x ∈ L, y ∈ f x
  | [], o => by simp
  | z :: r, o => by
    rw [List.foldl_cons, mem_foldJoin, mem_joinOf]
    simp only [List.mem_cons, exists_eq_or_imp, or_assoc]

theorem mem_foldMeet {f : Int → List Int} {y : Int} : ∀ {L o : List Int}, y ∈ L.foldl (fun o x => meetOf o (f x)) o ↔ y ∈ o ∧ ∀ x ∈ L, y ∈ f x
  | [], o => by simp
  | z :: r, o => by
    rw [List.foldl_cons, mem_foldMeet, mem_meetOf]
    simp only [List.mem_cons, forall_eq_or_imp, and_assoc]

theorem join_rises (xs ys : List Int) : (joinOf xs ys).Pairwise (· < ·) := putAll_rises (putAll_rises List.Pairwise.nil)
theorem meet_rises (xs ys : List Int) : (meetOf xs ys).Pairwise (· < ·) := putAll_rises List.Pairwise.nil

theorem foldJoin_rises {f : Int → List Int} : ∀ {L o : List Int}, o.Pairwise (· < ·) → (L.foldl (fun o x => joinOf o (f x)) o).Pairwise (· < ·)
  | [], _, h => h
  | _ :: r, _, _ => foldJoin_rises (L := r) (join_rises _ _)

theorem foldMeet_rises {f : Int → List Int} : ∀ {L o : List Int}, o.Pairwise (· < ·) → (L.foldl (fun o x => meetOf o (f x)) o).Pairwise (· < ·)
  | [], _, h => h
  | _ :: r, _, _ => foldMeet_rises (L := r) (meet_rises _ _)

theorem ofL_rises (ss : List St) (s : Int) (set : List Int) : (ofL ss s set).Pairwise (· < ·) := putAll_rises List.Pairwise.nil
theorem afterL_rises (ss : List St) (s act : Int) : (afterL ss s act).Pairwise (· < ·) := putAll_rises List.Pairwise.nil

theorem mem_ofL {ss : List St} {s y : Int} {set : List Int} : y ∈ ofL ss s set ↔ y ∈ set ∧ ∃ z, (s, y, z) ∈ ss := by
  unfold ofL
  rw [mem_putAll]
  simp only [List.not_mem_nil, false_or, List.mem_map, List.mem_filter, Bool.and_eq_true, decide_eq_true_eq, hasB_mem]
  constructor
  · rintro ⟨⟨f, b, z⟩, ⟨h1, h2, h3⟩, rfl⟩
    simp only at h2
    subst h2
    exact ⟨h3, z, h1⟩
  · rintro ⟨h1, z, h2⟩
    exact ⟨(s, y, z), ⟨h2, rfl, h1⟩, rfl⟩

theorem mem_afterL {ss : List St} {s act y : Int} : y ∈ afterL ss s act ↔ (s, act, y) ∈ ss := by
  unfold afterL
  rw [mem_putAll]
  simp only [List.not_mem_nil, false_or, List.mem_map, List.mem_filter, Bool.and_eq_true, decide_eq_true_eq]
  constructor
  · rintro ⟨⟨f, b, z⟩, ⟨h1, h2, h3⟩, rfl⟩
    simp only at h2 h3
    subst h2 h3
    exact h1
  · intro h
    exact ⟨(s, act, y), ⟨h, rfl, rfl⟩, rfl⟩

theorem close_rises (a : IaD) (s : Int) : (closeOf a s).Pairwise (· < ·) := (alongOf_mem _ _ _).1
theorem mem_close {a : IaD} {s x : Int} : x ∈ closeOf a s ↔ Come a.hids a.steps [s] x := (alongOf_mem _ _ _).2 x
theorem close_self (a : IaD) (s : Int) : s ∈ closeOf a s := mem_close.2 (.start s (by simp))
theorem close_ne (a : IaD) (s : Int) : closeOf a s ≠ [] := List.ne_nil_of_mem (close_self a s)

/-- Whatever may be come to from states is a state. -/
theorem come_states {a : IaD} (h : iaOkB a = true) {set L : List Int} (hL : ∀ x ∈ L, stateB a x = true) {y : Int} (hy : Come set a.steps L y) : 0 ≤ y ∧ y ≤ a.states - 1 := by
  cases hy with
  | start y hm =>
    have := hL y hm
    simpa [stateB, btw] using this
  | step s hs hp hc => exact (iaOk_ends h s hs).2.1

theorem state_of {a : IaD} {y : Int} (h : 0 ≤ y ∧ y ≤ a.states - 1) : stateB a y = true := by simpa [stateB, btw] using h

theorem along_states {a : IaD} (h : iaOkB a = true) {set L : List Int} (hL : ∀ x ∈ L, stateB a x = true) : ∀ y ∈ alongOf set a.steps L, stateB a y = true := fun y hy => state_of (come_states h hL (((alongOf_mem _ _ _).2 y).1 hy))

theorem rises_low {a : IaD} (h : iaOkB a = true) {L : List Int} (hr : L.Pairwise (· < ·)) (hL : ∀ x ∈ L, stateB a x = true) : L.length ≤ 40 :=
  nodup_low (hr.imp (fun h e => by omega)) (fun y hy => by
    have h1 := hL y hy
    have h2 := iaOk_states h
    simp only [stateB, btw, Bool.and_eq_true, decide_eq_true_eq] at h1
    omega)

theorem close_states {a : IaD} (h : iaOkB a = true) {s : Int} (hs : stateB a s = true) : ∀ y ∈ closeOf a s, stateB a y = true := along_states h (fun x hx => by obtain rfl := List.mem_singleton.1 hx; exact hs)

theorem close_low {a : IaD} (h : iaOkB a = true) {s : Int} (hs : stateB a s = true) : (closeOf a s).length ≤ 40 := rises_low h (close_rises a s) (close_states h hs)

/-- Come to from what may be come to. -/
theorem Come.trans {set : List Int} {ss : List St} {L : List Int} {x y : Int} (h : Come set ss [x] y) (hx : Come set ss L x) : Come set ss L y :=
  h.mono (fun _ h => h) (fun z hz => by obtain rfl := List.mem_singleton.1 hz; exact hx)

theorem close_in {a : IaD} {L : List Int} {x : Int} (hx : x ∈ alongOf a.hids a.steps L) : ∀ y ∈ closeOf a x, y ∈ alongOf a.hids a.steps L := fun y hy =>
  ((alongOf_mem _ _ _).2 y).2 ((mem_close.1 hy).trans (((alongOf_mem _ _ _).2 x).1 hx))

/-! ### What the program keeps -/

/-- Where the steps with actions of 'hids' go from 's'. -/
def hidR (hids : List Int) (ss : List St) (s : Int) : List Int := (ss.filter fun x => hasB hids x.2.1 && decide (x.1 = s)).map fun x => x.2.2

theorem hidR_snoc_no (hids : List Int) (ss : List St) (x : St) (s : Int) (h : hasB hids x.2.1 = false) : hidR hids (ss ++ [x]) s = hidR hids ss s := by simp [hidR, h]
theorem hidR_snoc_same (hids : List Int) (ss : List St) (x : St) (s : Int) (h : hasB hids x.2.1 = true) (hs : x.1 = s) : hidR hids (ss ++ [x]) s = hidR hids ss s ++ [x.2.2] := by simp [hidR, h, hs]
theorem hidR_snoc_other (hids : List Int) (ss : List St) (x : St) (s : Int) (hs : ¬ x.1 = s) : hidR hids (ss ++ [x]) s = hidR hids ss s := by simp [hidR, hs]
theorem hidR_len (hids : List Int) (ss : List St) (s : Int) : (hidR hids ss s).length ≤ ss.length := by unfold hidR; rw [List.length_map]; exact List.length_filter_le _ _

theorem mem_hidR {hids : List Int} {ss : List St} {s y : Int} : y ∈ hidR hids ss s ↔ ∃ x ∈ ss, hasB hids x.2.1 = true ∧ x.1 = s ∧ x.2.2 = y := by
  unfold hidR
  simp only [List.mem_map, List.mem_filter, Bool.and_eq_true, decide_eq_true_eq]
  constructor
  · rintro ⟨x, ⟨h1, h2, h3⟩, h4⟩; exact ⟨x, h1, h2, h3, h4⟩
  · rintro ⟨x, h1, h2, h3, h4⟩; exact ⟨x, ⟨h1, h2, h3⟩, h4⟩

/-- What is not there yet is put at the end. -/
def addOne (F : List Int) (x : Int) : List Int := if hasB F x then F else F ++ [x]
def addL (F L : List Int) : List Int := L.foldl addOne F

theorem addL_snoc (F L : List Int) (x : Int) : addL F (L ++ [x]) = addOne (addL F L) x := by simp [addL]

theorem addOne_nodup {F : List Int} {x : Int} (h : F.Nodup) : (addOne F x).Nodup := by
  unfold addOne
  split
  · exact h
  · rename_i hx
    rw [List.nodup_append]
    refine ⟨h, by simp, fun y hy z hz e => ?_⟩
    obtain rfl := List.mem_singleton.1 hz
    subst e
    exact hx (hasB_mem.2 hy)

theorem mem_addOne {F : List Int} {x y : Int} : y ∈ addOne F x ↔ y ∈ F ∨ y = x := by
  unfold addOne
  split
  · rename_i hx
    exact ⟨Or.inl, fun h => h.elim id (fun e => by rw [e]; exact hasB_mem.1 hx)⟩
  · simp

theorem addL_nodup : ∀ {L F : List Int}, F.Nodup → (addL F L).Nodup
  | [], _, h => h
  | _ :: r, _, h => addL_nodup (L := r) (addOne_nodup h)

theorem mem_addL {y : Int} : ∀ {L F : List Int}, y ∈ addL F L ↔ y ∈ F ∨ y ∈ L
  | [], F => by simp [addL]
  | z :: r, F => by
    show y ∈ addL (addOne F z) r ↔ _
    rw [mem_addL, mem_addOne, List.mem_cons, or_assoc]

theorem addL_more : ∀ (L F : List Int), ∃ E, addL F L = F ++ E
  | [], F => ⟨[], by simp [addL]⟩
  | z :: r, F => by
    obtain ⟨E, hE⟩ := addL_more r (addOne F z)
    have h1 : addL F (z :: r) = addL (addOne F z) r := rfl
    rw [h1, hE]
    unfold addOne
    split
    · exact ⟨E, rfl⟩
    · exact ⟨[z] ++ E, by simp⟩

/-- All that is found may be come to, nothing comes twice, and from the first 'k' places all is found. -/
def FoundH (a : IaD) (L F : List Int) (k : Nat) : Prop :=
  F.Nodup ∧ (∀ x ∈ L, x ∈ F) ∧ (∀ y ∈ F, Come a.hids a.steps L y) ∧ ∀ j, j < k → ∀ s, F[j]? = some s → ∀ x ∈ hidR a.hids a.steps s, x ∈ F

theorem FoundH.start (a : IaD) (L : List Int) : FoundH a L (addL [] L) 0 :=
  ⟨addL_nodup List.nodup_nil, fun x hx => mem_addL.2 (Or.inr hx), fun y hy => .start y (by simpa using mem_addL.1 hy), fun j hj => absurd hj (by omega)⟩

theorem FoundH.next {a : IaD} {L F : List Int} {k : Nat} {s : Int} (h : FoundH a L F k) (hs : F[k]? = some s) : FoundH a L (addL F (hidR a.hids a.steps s)) (k + 1) := by
  obtain ⟨h1, h2, h3, h4⟩ := h
  have hsm : s ∈ F := List.mem_of_getElem? hs
  refine ⟨addL_nodup h1, fun x hx => mem_addL.2 (Or.inl (h2 x hx)), fun y hy => ?_, fun j hj s' hs' x hx => ?_⟩
  · rcases mem_addL.1 hy with hy | hy
    · exact h3 y hy
    · obtain ⟨t, ht, hp, hf, rfl⟩ := mem_hidR.1 hy
      exact .step t ht hp (by rw [hf]; exact h3 s hsm)
  · obtain ⟨E, hE⟩ := addL_more (hidR a.hids a.steps s) F
    have hlt : k < F.length := (List.getElem?_eq_some_iff.1 hs).1
    rw [hE, List.getElem?_append_left (by omega)] at hs'
    by_cases e : j = k
    · subst e
      rw [hs] at hs'
      cases hs'
      exact mem_addL.2 (Or.inr hx)
    · exact mem_addL.2 (Or.inl (h4 j (by omega) s' hs' x hx))

theorem FoundH.low {a : IaD} (h : iaOkB a = true) {L F : List Int} {k : Nat} (hL : ∀ x ∈ L, stateB a x = true) (hF : FoundH a L F k) : ∀ y ∈ F, 0 ≤ y ∧ y < 40 := by
  intro y hy
  have h1 := come_states h hL (hF.2.2.1 y hy)
  have h2 := (iaOk_states h).2
  omega

theorem FoundH.len {a : IaD} (h : iaOkB a = true) {L F : List Int} {k : Nat} (hL : ∀ x ∈ L, stateB a x = true) (hF : FoundH a L F k) : F.length ≤ 40 := nodup_low hF.1 (hF.low h hL)

/-- All is gone through: what was found, risen, is what may be come to. -/
theorem FoundH.done {a : IaD} {L F : List Int} (h : FoundH a L F F.length) : ris F = alongOf a.hids a.steps L := by
  obtain ⟨h1, h2, h3, h4⟩ := h
  refine along_eq (ris_lt F) (fun x => ?_)
  rw [mem_ris]
  refine ⟨h3 x, fun hx => closed_come h2 (fun s hs hp hm => ?_) hx⟩
  obtain ⟨j, hj, e⟩ := List.getElem_of_mem hm
  exact h4 j hj s.1 (by rw [List.getElem?_eq_getElem hj, e]) s.2.2 (mem_hidR.2 ⟨s, hs, hp, rfl, rfl⟩)

/-- What the program's SureTaken gathers: the first list, then what it has with each next one. -/
def sureP (f : Int → List Int) : List Int → List Int
  | [] => []
  | x :: r => r.foldl (fun o x => meetOf o (f x)) (f x)

theorem sureP_one (f : Int → List Int) (x : Int) : sureP f [x] = f x := rfl

theorem sureP_snoc (f : Int → List Int) : ∀ (L : List Int) (x : Int), L ≠ [] → sureP f (L ++ [x]) = meetOf (sureP f L) (f x)
  | [], _, h => absurd rfl h
  | y :: r, x, _ => by simp [sureP]

theorem sureP_eq {a : IaD} {s : Int} : sureP (fun x => ofL a.steps x a.ins) (closeOf a s) = sureOf a s := by
  have hne := close_ne a s
  unfold sureOf
  obtain ⟨C, hC⟩ : ∃ C, C = closeOf a s := ⟨_, rfl⟩
  rw [← hC] at hne ⊢
  cases C with
  | nil => exact absurd rfl hne
  | cons x r =>
    show r.foldl _ _ = r.foldl _ _
    refine rise_eq (foldMeet_rises (ofL_rises _ _ _)) (foldMeet_rises (meet_rises _ _)) (fun y => ?_)
    rw [mem_foldMeet, mem_foldMeet, mem_meetOf]
    exact ⟨fun h => ⟨⟨(mem_ofL.1 h.1).1, h.1⟩, h.2⟩, fun h => ⟨h.1.2, h.2⟩⟩

/-- What the program's tosOfRows gathers. -/
def tosP (ss : List St) (act : Int) (C : List Int) : List Int := C.flatMap fun x => afterR (rowL ss x) act

theorem mem_afterR {ss : List St} {s act y : Int} : y ∈ afterR (rowL ss s) act ↔ (s, act, y) ∈ ss := by
  unfold afterR rowL
  simp only [List.mem_map, List.mem_filter, decide_eq_true_eq]
  constructor
  · rintro ⟨⟨f, b, z⟩, ⟨⟨h1, h2⟩, h3⟩, rfl⟩
    simp only at h2 h3
    subst h2 h3
    exact h1
  · intro h
    exact ⟨(s, act, y), ⟨⟨h, rfl⟩, rfl⟩, rfl⟩

theorem mem_tosP {ss : List St} {act y : Int} {C : List Int} : y ∈ tosP ss act C ↔ ∃ x ∈ C, (x, act, y) ∈ ss := by
  unfold tosP
  simp only [List.mem_flatMap, mem_afterR]

theorem far_eq (a : IaD) (s act : Int) : ris (tosP a.steps act (closeOf a s)) = farOf a s act := by
  unfold farOf
  refine rise_eq (ris_lt _) (foldJoin_rises List.Pairwise.nil) (fun y => ?_)
  rw [mem_ris, mem_tosP, mem_foldJoin]
  simp only [mem_afterL, List.not_mem_nil, false_or]

theorem mem_farOf {a : IaD} {s act y : Int} : y ∈ farOf a s act ↔ ∃ x ∈ closeOf a s, (x, act, y) ∈ a.steps := by
  unfold farOf
  rw [mem_foldJoin]
  simp only [mem_afterL, List.not_mem_nil, false_or]

theorem mem_nextOf {a : IaD} {now : List Int} {act y : Int} : y ∈ nextOf a now act ↔ ∃ x ∈ now, y ∈ farOf a x act := by
  unfold nextOf
  rw [mem_foldJoin]
  simp only [List.not_mem_nil, false_or]

theorem next_rises (a : IaD) (now : List Int) (act : Int) : (nextOf a now act).Pairwise (· < ·) := foldJoin_rises List.Pairwise.nil

/-- Of states that are closed under what is hidden, After them alone is FarAfter of them all. -/
theorem next_eq {a : IaD} {now : List Int} (act : Int) (h : ∀ x ∈ now, ∀ y ∈ closeOf a x, y ∈ now) : ris (tosP a.steps act now) = nextOf a now act := by
  refine rise_eq (ris_lt _) (next_rises _ _ _) (fun y => ?_)
  rw [mem_ris, mem_tosP, mem_nextOf]
  constructor
  · rintro ⟨x, hx, hs⟩
    exact ⟨x, hx, mem_farOf.2 ⟨x, close_self a x, hs⟩⟩
  · rintro ⟨x, hx, hy⟩
    obtain ⟨z, hz, hs⟩ := mem_farOf.1 hy
    exact ⟨z, h x hx z hz, hs⟩

theorem next_states {a : IaD} (h : iaOkB a = true) {now : List Int} {act : Int} : ∀ y ∈ nextOf a now act, stateB a y = true := by
  intro y hy
  obtain ⟨x, _, hx⟩ := mem_nextOf.1 hy
  obtain ⟨z, _, hs⟩ := mem_farOf.1 hx
  exact state_of (iaOk_ends h _ hs).2.1

theorem far_states {a : IaD} (h : iaOkB a = true) {s act : Int} : ∀ y ∈ farOf a s act, stateB a y = true := by
  intro y hx
  obtain ⟨z, _, hs⟩ := mem_farOf.1 hx
  exact state_of (iaOk_ends h _ hs).2.1

theorem far_rises (a : IaD) (s act : Int) : (farOf a s act).Pairwise (· < ·) := foldJoin_rises List.Pairwise.nil

theorem far_low {a : IaD} (h : iaOkB a = true) (s act : Int) : (farOf a s act).length ≤ 40 := rises_low h (far_rises a s act) (far_states h)
theorem next_low {a : IaD} (h : iaOkB a = true) (now : List Int) (act : Int) : (nextOf a now act).length ≤ 40 := rises_low h (next_rises a now act) (next_states h)

theorem runOf_snoc (a : IaD) (now trace : List Int) (act : Int) : runOf a now (trace ++ [act]) = alongOf a.hids a.steps (nextOf a (runOf a now trace) act) := by simp [runOf]

theorem along_nil (set : List Int) (ss : List St) : alongOf set ss [] = [] := by
  refine List.eq_nil_iff_forall_not_mem.2 (fun x hx => ?_)
  have h := ((alongOf_mem set ss []).2 x).1 hx
  induction h with
  | start x h => simp at h
  | step s _ _ _ ih => exact ih (((alongOf_mem set ss []).2 _).2 (by assumption))

theorem runOf_nil (a : IaD) : ∀ trace, runOf a [] trace = []
  | [] => rfl
  | x :: r => by
    show runOf a (alongOf a.hids a.steps (nextOf a [] x)) r = []
    have : nextOf a [] x = [] := rfl
    rw [this, along_nil]
    exact runOf_nil a r

theorem runOf_append (a : IaD) (now t1 t2 : List Int) : runOf a now (t1 ++ t2) = runOf a (runOf a now t1) t2 := by simp [runOf]

/-- What is run along holds what it may come to unseen. -/
theorem runOf_closed {a : IaD} {L : List Int} : ∀ (trace : List Int), ∀ x ∈ runOf a (alongOf a.hids a.steps L) trace, ∀ y ∈ closeOf a x, y ∈ runOf a (alongOf a.hids a.steps L) trace := by
  intro trace
  rcases List.eq_nil_or_concat trace with rfl | ⟨r, act, rfl⟩
  · exact fun x hx => close_in hx
  · rw [List.concat_eq_append, runOf_snoc]
    exact fun x hx => close_in hx

theorem runOf_rises {a : IaD} {L : List Int} (trace : List Int) : (runOf a (alongOf a.hids a.steps L) trace).Pairwise (· < ·) := by
  rcases List.eq_nil_or_concat trace with rfl | ⟨r, act, rfl⟩
  · exact (alongOf_mem _ _ _).1
  · rw [List.concat_eq_append, runOf_snoc]
    exact (alongOf_mem _ _ _).1

theorem runOf_states {a : IaD} (h : iaOkB a = true) {L : List Int} (hL : ∀ x ∈ L, stateB a x = true) (trace : List Int) : ∀ x ∈ runOf a (alongOf a.hids a.steps L) trace, stateB a x = true := by
  rcases List.eq_nil_or_concat trace with rfl | ⟨r, act, rfl⟩
  · exact along_states h hL
  · rw [List.concat_eq_append, runOf_snoc]
    exact along_states h (next_states h)

theorem runOf_low {a : IaD} (h : iaOkB a = true) {L : List Int} (hL : ∀ x ∈ L, stateB a x = true) (trace : List Int) : (runOf a (alongOf a.hids a.steps L) trace).length ≤ 40 := rises_low h (runOf_rises trace) (runOf_states h hL trace)

/-- What is closed and rises is what may be come to from it. -/
theorem along_closed {a : IaD} {now : List Int} (hr : now.Pairwise (· < ·)) (h : ∀ x ∈ now, ∀ y ∈ closeOf a x, y ∈ now) : alongOf a.hids a.steps now = now := by
  refine (along_eq hr (fun x => ⟨fun hx => .start x hx, fun hx => closed_come (fun _ h => h) (fun s hs hp hm => ?_) hx⟩)).symm
  exact h s.1 hm s.2.2 (mem_close.2 (.step s hs hp (.start _ (by simp))))

/-- To run along two traces, one behind the other, is to run along both. -/
theorem runs_two (a : IaD) (L t1 t2 : List Int) : runsOf a (runsOf a L t1) t2 = runsOf a L (t1 ++ t2) := by
  unfold runsOf
  rw [along_closed (runOf_rises t1) (runOf_closed t1), runOf_append]

end Go.Proofs.YtdbgjgeglgipiaaGreat
