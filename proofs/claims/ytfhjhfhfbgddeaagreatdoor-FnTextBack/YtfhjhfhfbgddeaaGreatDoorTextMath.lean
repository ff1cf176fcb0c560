import Derived.Test.YtfhjhfhfbgddeaaGreatDoorTextDef
import Derived.Lib.Split
/-
  Texts taken apart: what stands between signs, lines read as numbers, the automaton that lines say. Conditions: none; plain lists of bytes, nothing here speaks of the program.
-/
namespace Go.Proofs.YtfhjhfhfbgddeaaGreatDoor
open Go.RowKit

/-- What stands between the signs of a text. -/
def parts (c : UInt8) : List UInt8 → List (List UInt8)
  | [] => [[]]
  | x :: r => if x = c then [] :: parts c r else (x :: (parts c r).headD []) :: (parts c r).tail

theorem parts_ne (c : UInt8) (l : List UInt8) : parts c l ≠ [] := by
  cases l with
  | nil => simp [parts]
  | cons x r =>
    unfold parts
    split <;> simp

theorem parts_none {c : UInt8} : ∀ {l : List UInt8}, c ∉ l → parts c l = [l]
  | [], _ => rfl
  | x :: r, h => by
    have hx : x ≠ c := fun e => h (by simp [e])
    have ih := parts_none (l := r) (fun hr => h (List.mem_cons_of_mem _ hr))
    unfold parts
    rw [if_neg hx, ih]
    rfl

theorem parts_cut {c : UInt8} (r : List UInt8) : ∀ {p : List UInt8}, c ∉ p → parts c (p ++ c :: r) = p :: parts c r
  | [], _ => by show parts c (c :: r) = _; unfold parts; rw [if_pos rfl]; cases r <;> rfl
  | x :: p, h => by
    have hx : x ≠ c := fun e => h (by simp [e])
    have ih := parts_cut r (p := p) (fun hr => h (List.mem_cons_of_mem _ hr))
    show parts c (x :: (p ++ c :: r)) = _
    rw [parts, if_neg hx, ih]
    rfl

theorem first_cut (c : UInt8) : ∀ l : List UInt8, c ∉ l ∨ ∃ p r, l = p ++ c :: r ∧ c ∉ p
  | [] => Or.inl (by simp)
  | x :: l => by
    by_cases hx : x = c
    · exact Or.inr ⟨[], l, by simp [hx], by simp⟩
    · rcases first_cut c l with h | ⟨p, r, h1, h2⟩
      · refine Or.inl (fun hm => ?_)
        rcases List.mem_cons.1 hm with e | e
        · exact hx e.symm
        · exact h e
      · refine Or.inr ⟨x :: p, r, by simp [h1], fun hm => ?_⟩
        rcases List.mem_cons.1 hm with e | e
        · exact hx e.symm
        · exact h2 e

theorem parts_count (c : UInt8) : ∀ (n : Nat) (l : List UInt8), l.length ≤ n → (parts c l).length ≤ l.length + 1 ∧ ∀ q ∈ parts c l, q.length ≤ l.length := by
  intro n
  induction n with
  | zero =>
    intro l hl
    obtain rfl : l = [] := List.length_eq_zero_iff.1 (by omega)
    simp [parts]
  | succ n ih =>
    intro l hl
    rcases first_cut c l with h | ⟨p, r, rfl, h2⟩
    · rw [parts_none h]; simp
    · rw [parts_cut r h2]
      simp only [List.length_append, List.length_cons] at hl ⊢
      obtain ⟨h3, h4⟩ := ih r (by omega)
      refine ⟨by omega, fun q hq => ?_⟩
      rcases List.mem_cons.1 hq with rfl | hq
      · omega
      · have := h4 q hq; omega

theorem parts_len (c : UInt8) (l : List UInt8) : (parts c l).length ≤ l.length + 1 := (parts_count c l.length l (Nat.le_refl _)).1
theorem parts_short {c : UInt8} {l q : List UInt8} (h : q ∈ parts c l) : q.length ≤ l.length := (parts_count c l.length l (Nat.le_refl _)).2 q h
theorem parts_pos (c : UInt8) (l : List UInt8) : 0 < (parts c l).length := List.length_pos_iff.2 (parts_ne c l)

/-! What the library's search answers at one sign. -/

theorem indexByte_none {c : UInt8} : ∀ {l : List UInt8}, c ∉ l → Lib.indexByte l c = -1
  | [], _ => rfl
  | x :: l, h => by
    have hx : ¬ (x == c) = true := fun e => h (by simp [eq_of_beq e])
    have ih := indexByte_none (l := l) (fun hr => h (List.mem_cons_of_mem _ hr))
    unfold Lib.indexByte
    rw [if_neg hx, ih]
    rfl

theorem indexByte_cut {c : UInt8} (r : List UInt8) : ∀ {p : List UInt8}, c ∉ p → Lib.indexByte (p ++ c :: r) c = p.length
  | [], _ => by show Lib.indexByte (c :: r) c = _; unfold Lib.indexByte; rw [if_pos (by simp)]; rfl
  | x :: p, h => by
    have hx : ¬ (x == c) = true := fun e => h (by simp [eq_of_beq e])
    have ih := indexByte_cut r (p := p) (fun hr => h (List.mem_cons_of_mem _ hr))
    show Lib.indexByte (x :: (p ++ c :: r)) c = _
    unfold Lib.indexByte
    rw [if_neg hx, ih, if_neg (by simp)]
    simp

theorem cut_none {c : UInt8} {l : List UInt8} (h : c ∉ l) : Lib.cut l [c] = (l, [], false) := by
  unfold Lib.cut
  rw [Lib.index_one, indexByte_none h]
  rfl

theorem cut_cut {c : UInt8} (r : List UInt8) {p : List UInt8} (h : c ∉ p) : Lib.cut (p ++ c :: r) [c] = (p, r, true) := by
  unfold Lib.cut
  rw [Lib.index_one, indexByte_cut r h, if_pos (by omega)]
  have e1 : (p ++ c :: r).take p.length = p := List.take_left
  have e2 : (p ++ c :: r).drop (p.length + 1) = r := by rw [List.drop_append]; simp
  simp only [Int.toNat_natCast, List.length_cons, List.length_nil]
  rw [e1, e2]

theorem splitK_parts (c : UInt8) : ∀ (n : Nat) (l : List UInt8), l.length ≤ n → ∀ k, Lib.count l [c] ≤ k → Lib.splitK [c] 0 k l = parts c l ∧ (parts c l).length = Lib.count l [c] + 1 := by
  intro n
  induction n with
  | zero =>
    intro l hl k _
    obtain rfl : l = [] := List.length_eq_zero_iff.1 (by omega)
    have h0 : Lib.index ([] : List UInt8) [c] = -1 := by rw [Lib.index_one]; rfl
    rw [Lib.count_miss h0]
    refine ⟨?_, rfl⟩
    cases k with
    | zero => rfl
    | succ k => unfold Lib.splitK; rw [if_pos (by rw [h0]; rfl)]; rfl
  | succ n ih =>
    intro l hl k hk
    rcases first_cut c l with h | ⟨p, r, rfl, h2⟩
    · have h0 : Lib.index l [c] = -1 := by rw [Lib.index_one]; exact indexByte_none h
      rw [Lib.count_miss h0, parts_none h]
      refine ⟨?_, rfl⟩
      cases k with
      | zero => rfl
      | succ k => unfold Lib.splitK; rw [if_pos (by rw [h0]; rfl)]
    · have h0 : Lib.index (p ++ c :: r) [c] = (p.length : Nat) := by rw [Lib.index_one]; exact indexByte_cut r h2
      have hc := Lib.count_hit (s := p ++ c :: r) (sub := [c]) (i := p.length) (by simp) h0
      have e2 : (p ++ c :: r).drop (p.length + 1) = r := by rw [List.drop_append]; simp
      simp only [List.length_cons, List.length_nil, Nat.zero_add] at hc
      rw [e2] at hc
      simp only [List.length_append, List.length_cons] at hl
      rw [hc] at hk ⊢
      obtain ⟨k, rfl⟩ : ∃ j, k = j + 1 := ⟨k - 1, by omega⟩
      obtain ⟨h3, h4⟩ := ih r (by omega) k (by omega)
      rw [parts_cut r h2]
      refine ⟨?_, by rw [List.length_cons, h4]; omega⟩
      unfold Lib.splitK
      rw [h0, if_neg (by simp)]
      simp only [Int.toNat_natCast, List.length_cons, List.length_nil, Nat.add_zero, Nat.zero_add]
      rw [List.take_left, e2, h3]

/-! Numbers of lines. -/

open Classical in
/-- The number of which this is the text. -/
noncomputable def numOf (l : List UInt8) : Option Int := if h : ∃ v : Int, small v ∧ Lib.itoa v = l then some h.choose else none

theorem numOf_no {l : List UInt8} (h : ∀ v : Int, small v → ¬ Lib.itoa v = l) : numOf l = none := by
  unfold numOf
  rw [dif_neg (fun ⟨v, h1, h2⟩ => h v h1 h2)]

theorem numOf_reads {l : List UInt8} {n : Int} {b : Bool} (h : ReadsAs l n b) : numOf l = if b then some n else none := by
  rcases h with ⟨rfl, h1, h2, h3⟩ | ⟨rfl, rfl, h1⟩
  · have hx : ∃ v : Int, small v ∧ Lib.itoa v = l := ⟨n, ⟨h1, h2⟩, h3⟩
    unfold numOf
    rw [dif_pos hx]
    obtain ⟨k1, k2⟩ := hx.choose_spec
    have := (reads_one (reads_ok h1 h2 h3) (reads_ok k1.1 k1.2 k2)).1
    simp [← this]
  · rw [numOf_no (fun v hv => h1 v hv.1 hv.2)]
    rfl

theorem numOf_itoa {n : Int} (h : small n) : numOf (Lib.itoa n) = some n := numOf_reads (reads_ok h.1 h.2 rfl)

theorem numOf_some {l : List UInt8} {n : Int} (h : numOf l = some n) : small n ∧ Lib.itoa n = l := by
  unfold numOf at h
  split at h
  · rename_i hx
    cases h
    exact hx.choose_spec
  · cases h

noncomputable def numsIn : List (List UInt8) → Option (List Int)
  | [] => some []
  | l :: r => match numOf l with
    | none => none
    | some n => match numsIn r with
      | none => none
      | some ns => some (n :: ns)

theorem numsIn_len : ∀ {ls : List (List UInt8)} {ns : List Int}, numsIn ls = some ns → ns.length = ls.length
  | [], ns, h => by cases h; rfl
  | l :: r, ns, h => by
    unfold numsIn at h
    split at h
    · cases h
    · split at h
      · cases h
      · rename_i h2
        cases h
        simp [numsIn_len h2]

theorem numsIn_snoc : ∀ (ls : List (List UInt8)) (l : List UInt8), numsIn (ls ++ [l]) = match numsIn ls with | none => none | some ns => match numOf l with | none => none | some n => some (ns ++ [n])
  | [], l => by
    show numsIn [l] = _
    unfold numsIn
    cases numOf l <;> rfl
  | k :: r, l => by
    show numsIn (k :: (r ++ [l])) = _
    unfold numsIn
    cases numOf k with
    | none => rfl
    | some n =>
      simp only
      rw [numsIn_snoc r l]
      cases numsIn r with
      | none => rfl
      | some ns =>
        simp only
        cases numOf l <;> rfl

theorem numsIn_stop {ls : List (List UInt8)} {k : Nat} (h : numsIn (ls.take k) = none) : numsIn ls = none := by
  induction ls generalizing k with
  | nil => simp [numsIn] at h
  | cons l r ih =>
    cases k with
    | zero => simp [numsIn] at h
    | succ k =>
      rw [List.take_succ_cons] at h
      unfold numsIn at h ⊢
      cases hn : numOf l with
      | none => rfl
      | some n =>
        rw [hn] at h
        simp only at h ⊢
        cases hr : numsIn (r.take k) with
        | none => rw [ih hr]
        | some ns => rw [hr] at h; cases h

/-- The numbers of a line that begins with a word. -/
noncomputable def lineAt (word line : List UInt8) : Option (List Int) := if (parts 32 line).headD [] = word then numsIn (parts 32 line).tail else none

def wordOf (i : Nat) : List UInt8 := if i = 0 then wStates else if i = 1 then wIns else if i = 2 then wOuts else if i = 3 then wHids else wStep

/-- The numbers of the line at the place 'i' go into an automaton. -/
def putLine (i : Nat) (n : List Int) (a : IaD) : Option IaD :=
  if i = 0 then (if n.length = 2 then some ⟨n.getD 0 0, n.getD 1 0, a.ins, a.outs, a.hids, a.steps⟩ else none)
  else if i = 1 then some ⟨a.states, a.init, n, a.outs, a.hids, a.steps⟩
  else if i = 2 then some ⟨a.states, a.init, a.ins, n, a.hids, a.steps⟩
  else if i = 3 then some ⟨a.states, a.init, a.ins, a.outs, n, a.steps⟩
  else if n.length = 3 then some ⟨a.states, a.init, a.ins, a.outs, a.hids, a.steps ++ [(n.getD 0 0, n.getD 1 0, n.getD 2 0)]⟩ else none

noncomputable def readLineOf (i : Nat) (line : List UInt8) (a : IaD) : Option IaD := match lineAt (wordOf i) line with
  | none => none
  | some n => putLine i n a

/-- What lines say, from the place 'i' on; or the first that is wrong or missing. -/
noncomputable def readOf : Nat → List (List UInt8) → IaD → Except Nat IaD
  | i, [], _ => .error (i + 1)
  | i, [l], a => if l = [] ∧ 4 ≤ i then .ok a else .error (i + 1)
  | i, l :: m :: r, a => match readLineOf i l a with
    | none => .error (i + 1)
    | some a' => readOf (i + 1) (m :: r) a'

noncomputable def iaReadOf (s : List UInt8) : IaD × Int :=
  if 8000 < s.length then (noIa, -1) else match readOf 0 (parts 10 s) noIa with
    | .error k => (noIa, (k : Int))
    | .ok a => if iaOkB a then (a, 0) else (noIa, -1)

theorem readOf_end {i : Nat} {l : List UInt8} {a : IaD} (h : l = [] ∧ 4 ≤ i) : readOf i [l] a = .ok a := by unfold readOf; rw [if_pos h]
theorem readOf_last {i : Nat} {l : List UInt8} {a : IaD} (h : ¬ (l = [] ∧ 4 ≤ i)) : readOf i [l] a = .error (i + 1) := by unfold readOf; rw [if_neg h]
theorem readOf_wrong {i : Nat} {l : List UInt8} {r : List (List UInt8)} {a : IaD} (hr : r ≠ []) (h : readLineOf i l a = none) : readOf i (l :: r) a = .error (i + 1) := by
  cases r with
  | nil => exact absurd rfl hr
  | cons m r => unfold readOf; rw [h]
theorem readOf_next {i : Nat} {l : List UInt8} {r : List (List UInt8)} {a a' : IaD} (hr : r ≠ []) (h : readLineOf i l a = some a') : readOf i (l :: r) a = readOf (i + 1) r a' := by
  cases r with
  | nil => exact absurd rfl hr
  | cons m r =>
    rw [readOf, h]

/-- How long the lists are that lines may say. -/
def IaLess (K : Nat) (a : IaD) : Prop := a.ins.length ≤ K ∧ a.outs.length ≤ K ∧ a.hids.length ≤ K ∧ a.steps.length ≤ K

theorem lineAt_len {word line : List UInt8} {ns : List Int} (h : lineAt word line = some ns) : ns.length ≤ line.length := by
  unfold lineAt at h
  split at h
  · have h1 := numsIn_len h
    have h2 := parts_len 32 line
    rw [List.length_tail] at h1
    omega
  · cases h

end Go.Proofs.YtfhjhfhfbgddeaaGreatDoor

/-
  What a line says, place by place. Conditions: none; nothing here speaks of the program.
-/
namespace Go.Proofs.YtfhjhfhfbgddeaaGreatDoor

theorem readLine_none {i : Nat} {l : List UInt8} {a : IaD} (h : lineAt (wordOf i) l = none) : readLineOf i l a = none := by unfold readLineOf; rw [h]
theorem readLine_some {i : Nat} {l : List UInt8} {a : IaD} {n : List Int} (h : lineAt (wordOf i) l = some n) : readLineOf i l a = putLine i n a := by unfold readLineOf; rw [h]
theorem putLine_0 {n : List Int} (a : IaD) (h : n.length = 2) : putLine 0 n a = some ⟨n.getD 0 0, n.getD 1 0, a.ins, a.outs, a.hids, a.steps⟩ := by unfold putLine; rw [if_pos rfl, if_pos h]
theorem putLine_0no {n : List Int} (a : IaD) (h : ¬ n.length = 2) : putLine 0 n a = none := by unfold putLine; rw [if_pos rfl, if_neg h]
theorem putLine_1 (n : List Int) (a : IaD) : putLine 1 n a = some ⟨a.states, a.init, n, a.outs, a.hids, a.steps⟩ := rfl
theorem putLine_2 (n : List Int) (a : IaD) : putLine 2 n a = some ⟨a.states, a.init, a.ins, n, a.hids, a.steps⟩ := rfl
theorem putLine_3 (n : List Int) (a : IaD) : putLine 3 n a = some ⟨a.states, a.init, a.ins, a.outs, n, a.steps⟩ := rfl
theorem putLine_4 {i : Nat} {n : List Int} (a : IaD) (hi : ¬ i < 4) (h : n.length = 3) : putLine i n a = some ⟨a.states, a.init, a.ins, a.outs, a.hids, a.steps ++ [(n.getD 0 0, n.getD 1 0, n.getD 2 0)]⟩ := by
  unfold putLine
  rw [if_neg (by omega), if_neg (by omega), if_neg (by omega), if_neg (by omega), if_pos h]
theorem putLine_4no {i : Nat} {n : List Int} (a : IaD) (hi : ¬ i < 4) (h : ¬ n.length = 3) : putLine i n a = none := by
  unfold putLine
  rw [if_neg (by omega), if_neg (by omega), if_neg (by omega), if_neg (by omega), if_neg h]

end Go.Proofs.YtfhjhfhfbgddeaaGreatDoor
