import Derived.Test.YtfhjhfhfbgddeaaGreatDoorTextMath
import Derived.Test.YtfhjhfhfbgddeaaGreatDoorSpecText
import Derived.Test.YtfhjhfhfbgddeaaGreatDoorToStep
import Derived.Test.YtfhjhfhfbgddeaaGreatDoorChecked
import Derived.Test.YtfhjhfhfbgddeaaGreatDoorBase
import Derived.Test.YtfhjhfhfbgddeaaGreatDoorDrawIaRead
import Derived.Test.YtfhjhfhfbgddeaaGreatDoorImplText
import Derived.Test.YtfhjhfhfbgddeaaGreatDoorImplRead
import Derived.Test.YtfhjhfhfbgddeaaGreatDoorSpecRead
/-
  Automata as texts: what is read from an automaton's text is the automaton; a text that is read is the text of what was read. Conditions: none; nothing here speaks of the program.
-/
namespace Go.Proofs.YtfhjhfhfbgddeaaGreatDoor
open Go.RowKit

theorem itoa_digits {v : Int} (h : small v) : ∀ c ∈ Lib.itoa v, isDigit c := by
  obtain ⟨u, rfl⟩ : ∃ u : Nat, v = (u : Int) := ⟨v.toNat, by have := h.1; omega⟩
  rw [itoa_nat]
  exact all_digits u

theorem digits_no {l : List UInt8} (h : ∀ c ∈ l, isDigit c) {c : UInt8} (hc : c.toNat < 48) : c ∉ l := fun hm => by
  have := (h c hm).1
  omega

theorem parts_nums : ∀ (ns : List Int) (word : List UInt8), 32 ∉ word → (∀ x ∈ ns, small x) → parts 32 (word ++ numsOf ns) = word :: ns.map Lib.itoa
  | [], word, hw, _ => by rw [numsOf_nil, List.append_nil, parts_none hw]; rfl
  | x :: l, word, hw, h => by
    have ih := parts_nums l (Lib.itoa x) (digits_no (itoa_digits (h x (List.mem_cons_self ..))) (by decide)) (fun y hy => h y (List.mem_cons_of_mem _ hy))
    rw [numsOf_cons, List.cons_append, parts_cut _ hw, ih]
    rfl

theorem numsIn_map : ∀ (ns : List Int), (∀ x ∈ ns, small x) → numsIn (ns.map Lib.itoa) = some ns
  | [], _ => rfl
  | x :: l, h => by
    have ih := numsIn_map l (fun y hy => h y (List.mem_cons_of_mem _ hy))
    rw [List.map_cons, numsIn, numOf_itoa (h x (List.mem_cons_self ..)), ih]

theorem lineAt_of {word : List UInt8} {ns : List Int} (hw : 32 ∉ word) (h : ∀ x ∈ ns, small x) : lineAt word (word ++ numsOf ns) = some ns := by
  unfold lineAt
  rw [parts_nums ns word hw h]
  simp only [List.headD_cons, List.tail_cons, if_true]
  exact numsIn_map ns h

theorem no_end : ∀ (ns : List Int), (∀ x ∈ ns, small x) → (10 : UInt8) ∉ numsOf ns
  | [], _ => by simp [numsOf]
  | x :: l, h => by
    have ih := no_end l (fun y hy => h y (List.mem_cons_of_mem _ hy))
    have h1 : (10 : UInt8) ∉ Lib.itoa x := digits_no (itoa_digits (h x (List.mem_cons_self ..))) (by decide)
    rw [numsOf_cons]
    intro hm
    rcases List.mem_append.1 hm with hm | hm
    · rcases List.mem_cons.1 hm with hm | hm
      · exact absurd hm (by decide)
      · exact h1 hm
    · exact ih hm

theorem parts_line {word : List UInt8} {ns : List Int} (hw : (10 : UInt8) ∉ word) (h : ∀ x ∈ ns, small x) (rest : List UInt8) : parts 10 (lineOf word ns ++ rest) = (word ++ numsOf ns) :: parts 10 rest := by
  have hn : (10 : UInt8) ∉ word ++ numsOf ns := fun hm => by
    rcases List.mem_append.1 hm with hm | hm
    · exact hw hm
    · exact no_end ns h hm
  unfold lineOf
  rw [List.append_assoc (word ++ numsOf ns)]
  exact parts_cut rest hn

theorem step_small {x : St} (h : small x.1 ∧ small x.2.1 ∧ small x.2.2) : ∀ y ∈ stepNums x, small y := by
  intro y hy
  simp only [stepNums, List.mem_cons, List.not_mem_nil, or_false] at hy
  rcases hy with rfl | rfl | rfl
  · exact h.1
  · exact h.2.1
  · exact h.2.2

theorem word_later {i : Nat} (h : 4 ≤ i) : wordOf i = wStep := by
  unfold wordOf
  rw [if_neg (by omega), if_neg (by omega), if_neg (by omega), if_neg (by omega)]

theorem read_steps : ∀ (ss : List St) (i : Nat) (a : IaD), 4 ≤ i → (∀ x ∈ ss, small x.1 ∧ small x.2.1 ∧ small x.2.2) →
    readOf i (parts 10 (ss.flatMap stepLine)) a = .ok ⟨a.states, a.init, a.ins, a.outs, a.hids, a.steps ++ ss⟩
  | [], i, a, hi, _ => by
    show readOf i [[]] a = _
    rw [readOf_end ⟨rfl, hi⟩, List.append_nil]
  | x :: r, i, a, hi, h => by
    have hx := step_small (h x (List.mem_cons_self ..))
    have h1 : lineAt (wordOf i) (wStep ++ numsOf (stepNums x)) = some (stepNums x) := by rw [word_later hi]; exact lineAt_of (by decide) hx
    have h2 : readLineOf i (wStep ++ numsOf (stepNums x)) a = some ⟨a.states, a.init, a.ins, a.outs, a.hids, a.steps ++ [x]⟩ := by
      unfold readLineOf
      rw [h1]
      simp only [putLine]
      rw [if_neg (by omega), if_neg (by omega), if_neg (by omega), if_neg (by omega), if_pos (show (stepNums x).length = 3 from rfl)]
      rfl
    rw [List.flatMap_cons, stepLine, parts_line (by decide) hx, readOf_next (parts_ne _ _) h2, read_steps r (i + 1) _ (by omega) (fun y hy => h y (List.mem_cons_of_mem _ hy))]
    simp

theorem two_small {x y : Int} (h1 : small x) (h2 : small y) : ∀ z ∈ [x, y], small z := by
  intro z hz
  simp only [List.mem_cons, List.not_mem_nil, or_false] at hz
  rcases hz with rfl | rfl
  · exact h1
  · exact h2

/-- What is read from an automaton's text is the automaton. -/
theorem read_back {a : IaD} (h : iaOkB a = true) (hl : (iaLines a).length ≤ 8000) : iaReadOf (iaLines a) = (a, 0) := by
  have hn := iaOk_nums h
  have h0 := two_small hn.states hn.init
  have k0 : lineAt (wordOf 0) (wStates ++ numsOf [a.states, a.init]) = some [a.states, a.init] := lineAt_of (by decide) h0
  have k1 : lineAt (wordOf 1) (wIns ++ numsOf a.ins) = some a.ins := lineAt_of (by decide) hn.ins
  have k2 : lineAt (wordOf 2) (wOuts ++ numsOf a.outs) = some a.outs := lineAt_of (by decide) hn.outs
  have k3 : lineAt (wordOf 3) (wHids ++ numsOf a.hids) = some a.hids := lineAt_of (by decide) hn.hids
  have e : readOf 0 (parts 10 (iaLines a)) noIa = .ok a := by
    unfold iaLines headOf
    rw [List.append_assoc, List.append_assoc, List.append_assoc]
    rw [parts_line (by decide) h0, readOf_next (parts_ne _ _) (a := noIa) (a' := ⟨a.states, a.init, [], [], [], []⟩) (by unfold readLineOf; rw [k0]; rfl)]
    rw [parts_line (by decide) hn.ins, readOf_next (parts_ne _ _) (a := ⟨a.states, a.init, [], [], [], []⟩) (a' := ⟨a.states, a.init, a.ins, [], [], []⟩) (by unfold readLineOf; rw [k1]; rfl)]
    rw [parts_line (by decide) hn.outs, readOf_next (parts_ne _ _) (a := ⟨a.states, a.init, a.ins, [], [], []⟩) (a' := ⟨a.states, a.init, a.ins, a.outs, [], []⟩) (by unfold readLineOf; rw [k2]; rfl)]
    rw [parts_line (by decide) hn.hids, readOf_next (parts_ne _ _) (a := ⟨a.states, a.init, a.ins, a.outs, [], []⟩) (a' := ⟨a.states, a.init, a.ins, a.outs, a.hids, []⟩) (by unfold readLineOf; rw [k3]; rfl)]
    rw [read_steps a.steps _ _ (by omega) hn.steps]
    rfl
  unfold iaReadOf
  rw [if_neg (by omega), e]
  simp only [h, if_true]

/-! And back. -/

theorem glue_parts (c : UInt8) : ∀ (l : List UInt8), (parts c l).headD [] ++ (parts c l).tail.flatMap (fun q => c :: q) = l
  | [] => rfl
  | x :: r => by
    have ih := glue_parts c r
    have hne := parts_ne c r
    obtain ⟨p, ps, hp⟩ : ∃ p ps, parts c r = p :: ps := by
      cases hq : parts c r with
      | nil => exact absurd hq hne
      | cons p ps => exact ⟨p, ps, rfl⟩
    rw [hp] at ih
    simp only [List.headD_cons, List.tail_cons] at ih
    unfold parts
    rw [hp]
    split
    · rename_i hx
      simp only [List.headD_cons, List.tail_cons, List.nil_append, List.flatMap_cons, List.cons_append, ih, hx]
    · simp only [List.headD_cons, List.tail_cons, List.cons_append, ih]

theorem numsIn_some : ∀ {ls : List (List UInt8)} {ns : List Int}, numsIn ls = some ns → ls = ns.map Lib.itoa
  | [], ns, h => by cases h; rfl
  | l :: r, ns, h => by
    unfold numsIn at h
    split at h
    · cases h
    · rename_i n hn
      split at h
      · cases h
      · rename_i m hm
        cases h
        rw [List.map_cons, ← numsIn_some hm, (numOf_some hn).2]

theorem numsOf_map : ∀ (ns : List Int), (ns.map Lib.itoa).flatMap (fun q => (32 : UInt8) :: q) = numsOf ns
  | [] => rfl
  | x :: l => by rw [List.map_cons, List.flatMap_cons, numsOf_map l, numsOf_cons]

theorem lineAt_some {word line : List UInt8} {ns : List Int} (h : lineAt word line = some ns) : line = word ++ numsOf ns := by
  unfold lineAt at h
  split at h
  · rename_i hw
    have h1 := numsIn_some h
    have h2 := glue_parts 32 line
    rw [h1, hw, numsOf_map] at h2
    exact h2.symm
  · cases h

theorem three_of {n : List Int} (h : n.length = 3) : n = [n.getD 0 0, n.getD 1 0, n.getD 2 0] := by
  match n, h with
  | [x, y, z], _ => rfl
theorem two_of {n : List Int} (h : n.length = 2) : n = [n.getD 0 0, n.getD 1 0] := by
  match n, h with
  | [x, y], _ => rfl

/-- The lines, put together again. -/
def glue (ls : List (List UInt8)) : List UInt8 := ls.headD [] ++ ls.tail.flatMap (fun q => (10 : UInt8) :: q)
theorem glue_cons (l m : List UInt8) (r : List (List UInt8)) : glue (l :: m :: r) = l ++ 10 :: glue (m :: r) := by
  simp [glue]

theorem steps_back : ∀ (ls : List (List UInt8)) (i : Nat) (a b : IaD), 4 ≤ i → readOf i ls a = .ok b →
    ∃ ss : List St, b = ⟨a.states, a.init, a.ins, a.outs, a.hids, a.steps ++ ss⟩ ∧ glue ls = ss.flatMap stepLine
  | [], i, a, b, _, h => by simp [readOf] at h
  | [l], i, a, b, hi, h => by
    unfold readOf at h
    split at h
    · rename_i hl
      cases h
      refine ⟨[], by simp, ?_⟩
      rw [hl.1]
      rfl
    · cases h
  | l :: m :: r, i, a, b, hi, h => by
    unfold readOf at h
    split at h
    · cases h
    · rename_i a' ha
      unfold readLineOf at ha
      split at ha
      · cases ha
      · rename_i n hn
        have hline := lineAt_some hn
        rw [word_later hi] at hline
        simp only [putLine] at ha
        rw [if_neg (by omega), if_neg (by omega), if_neg (by omega), if_neg (by omega)] at ha
        split at ha
        · rename_i h3
          cases ha
          obtain ⟨ss, h4, h5⟩ := steps_back (m :: r) (i + 1) _ b (by omega) h
          refine ⟨(n.getD 0 0, n.getD 1 0, n.getD 2 0) :: ss, by rw [h4]; simp, ?_⟩
          rw [glue_cons, h5, hline, List.flatMap_cons, stepLine, stepNums, lineOf, ← three_of h3]
          simp
        · cases ha

theorem glue_text (t : List UInt8) : glue (parts 10 t) = t := glue_parts 10 t

theorem read_one {i : Nat} {ls : List (List UInt8)} {a b : IaD} (hi : i < 4) (h : readOf i ls a = .ok b) :
    ∃ l r n a', ls = l :: r ∧ r ≠ [] ∧ lineAt (wordOf i) l = some n ∧ putLine i n a = some a' ∧ readOf (i + 1) r a' = .ok b := by
  match ls, h with
  | [], h => simp [readOf] at h
  | [l], h =>
    unfold readOf at h
    rw [if_neg (fun hh => by omega)] at h
    cases h
  | l :: m :: r, h =>
    unfold readOf at h
    split at h
    · cases h
    · rename_i a' ha
      unfold readLineOf at ha
      split at ha
      · cases ha
      · rename_i n hn
        exact ⟨l, m :: r, n, a', rfl, by simp, hn, ha, h⟩

theorem glue_next {l : List UInt8} {r : List (List UInt8)} (h : r ≠ []) : glue (l :: r) = l ++ 10 :: glue r := by
  cases r with
  | nil => exact absurd rfl h
  | cons m r => exact glue_cons l m r

theorem lines_back {t : List UInt8} {b : IaD} (h : readOf 0 (parts 10 t) noIa = .ok b) : iaLines b = t := by
  have ht := glue_text t
  obtain ⟨l0, r0, n0, a0, e0, x0, k0, p0, h⟩ := read_one (by omega) h
  obtain ⟨l1, r1, n1, a1, e1, x1, k1, p1, h⟩ := read_one (by omega) h
  obtain ⟨l2, r2, n2, a2, e2, x2, k2, p2, h⟩ := read_one (by omega) h
  obtain ⟨l3, r3, n3, a3, e3, x3, k3, p3, h⟩ := read_one (by omega) h
  obtain ⟨ss, hb, hs⟩ := steps_back r3 4 a3 b (by omega) h
  rw [e0, glue_next x0, e1, glue_next x1, e2, glue_next x2, e3, glue_next x3, hs, lineAt_some k0, lineAt_some k1, lineAt_some k2, lineAt_some k3] at ht
  simp only [putLine, if_pos] at p0
  split at p0
  · rename_i h2
    cases p0
    cases p1
    cases p2
    cases p3
    rw [← ht, hb]
    simp only [iaLines, headOf, noIa, List.nil_append]
    rw [two_of h2]
    simp [lineOf, wordOf]
  · cases p0

theorem read_pos : ∀ (i : Nat) (ls : List (List UInt8)) (a : IaD), ¬ readOf i ls a = .error 0
  | i, [], a, h => by simp [readOf] at h
  | i, [l], a, h => by
    unfold readOf at h
    split at h
    · cases h
    · simp at h
  | i, l :: m :: r, a, h => by
    unfold readOf at h
    split at h
    · simp at h
    · exact read_pos (i + 1) (m :: r) _ h

theorem read_bad {t : List UInt8} {b : IaD} {k : Int} (h : iaReadOf t = (b, k)) (hk : ¬ k = 0) : b = noIa := by
  unfold iaReadOf at h
  split at h
  · cases h; rfl
  · split at h
    · cases h; rfl
    · split at h
      · cases h; exact absurd rfl hk
      · cases h; rfl

/-- A text that is read is the text of what was read. -/
theorem text_back {t : List UInt8} {b : IaD} (h : iaReadOf t = (b, 0)) : iaOkB b = true ∧ iaLines b = t ∧ iaTextOf b = t := by
  unfold iaReadOf at h
  split at h
  · simp at h
  · split at h
    · rename_i k hk
      simp only [Prod.mk.injEq] at h
      have h0 : k = 0 := by omega
      subst h0
      exact absurd hk (fun hk => by
        exact read_pos 0 _ _ hk)
    · rename_i a ha
      split at h
      · rename_i hok
        cases h
        have := lines_back ha
        exact ⟨hok, this, by unfold iaTextOf; rw [if_pos hok]; exact this⟩
      · simp at h

end Go.Proofs.YtfhjhfhfbgddeaaGreatDoor

/-
  Contracts of the laws' same, sameSteps, sameIa where the two are the same. Conditions: the slices read as lists of at most 2^40 elements.
-/
namespace Go.Proofs.YtfhjhfhfbgddeaaGreatDoor
open Go.RowKit

set_option maxRecDepth 20000 in
set_option maxHeartbeats 1600000 in
theorem same_eq (a a2 : Option Addr) (n c m c2 : Nat) (xs : List Int) (w : World) (h : Row w a n xs) (h2 : Row w a2 m xs) (hn : n ≤ 1099511627776) :
    Calls Tryz.prog 28 #[.slice a n c, .slice a2 m c2] w fun e w' => e = .returned (.bool true) ∧ Below w.heap.size w w' := by
  obtain ⟨hl, hc⟩ := h
  obtain ⟨hl2, hc2⟩ := h2
  obtain rfl : n = m := by omega
  go_enter Tryz.func28, Tryz.ntmps28
  go_wp2
  go_loopw [5] (fun i wr => ∃ k : Nat, k ≤ n ∧ i = .int .i64 k ∧ Below w.heap.size w wr) (fun i _ => n - (intOf i).toNat)
  case atStart => exact ⟨0, Nat.zero_le _, rfl, Below.refl _ _⟩
  case round =>
    obtain ⟨k, hk, rfl, hnx⟩ := hrel
    by_cases hlt : k < n
    · obtain ⟨b, off, rfl, hb, hcell⟩ := hc (by omega)
      obtain ⟨b2, off2, rfl, hb2, hcell2⟩ := hc2 (by omega)
      obtain ⟨x, hx⟩ : ∃ x, x = xs.getD k 0 := ⟨_, rfl⟩
      have g1 : wr.cell? ⟨b, off + k, none⟩ = some (.int .i64 x) := by rw [hx]; exact (hnx.cell (p := ⟨b, off + k, none⟩) hb).trans (hcell k hlt)
      have g2 : wr.cell? ⟨b2, off2 + k, none⟩ = some (.int .i64 x) := by rw [hx]; exact (hnx.cell (p := ⟨b2, off2 + k, none⟩) hb2).trans (hcell2 k hlt)
      have he1 : (x != x) = false := by simp
      clear hc hc2 hcell hcell2 hx
      go_wp2
      go_quiet (fail)
      go_wp2
      go_roundw
      case rel => exact ⟨k + 1, by omega, by go_num, (hnx.trans ⟨rfl, rfl, rfl, Nat.le_refl _, fun _ _ => rfl⟩)⟩
      case measure => simp [intOf]; omega
    · go_wp2
      go_ret
      exact ⟨rfl, hnx⟩

set_option maxRecDepth 20000 in
set_option maxHeartbeats 1600000 in
theorem sameSteps_eq (a a2 : Option Addr) (n c m c2 : Nat) (xs : List St) (w : World) (h : RowS w a n xs) (h2 : RowS w a2 m xs) (hn : n ≤ 1099511627776) :
    Calls Tryz.prog 29 #[.slice a n c, .slice a2 m c2] w fun e w' => e = .returned (.bool true) ∧ Below w.heap.size w w' := by
  obtain ⟨hl, hc⟩ := h
  obtain ⟨hl2, hc2⟩ := h2
  obtain rfl : n = m := by omega
  have HL := Lib.hid hl
  have HC := Lib.hid hc
  have HC2 := Lib.hid hc2
  clear hl hl2 hc hc2
  go_enter Tryz.func29, Tryz.ntmps29
  go_wp2
  go_loopw [5] (fun i wr => ∃ k : Nat, k ≤ n ∧ i = .int .i64 k ∧ Below w.heap.size w wr) (fun i _ => n - (intOf i).toNat)
  case atStart => exact ⟨0, Nat.zero_le _, rfl, Below.refl _ _⟩
  case round =>
    obtain ⟨k, hk, rfl, hnx⟩ := hrel
    by_cases hlt : k < n
    · obtain ⟨b, off, rfl, hb, hcell⟩ := HC.out (by omega)
      obtain ⟨b2, off2, rfl, hb2, hcell2⟩ := HC2.out (by omega)
      have hkx : k < xs.length := by rw [HL.out]; exact hlt
      obtain ⟨s, hs⟩ : ∃ s, s = xs[k] := ⟨_, rfl⟩
      obtain ⟨c0, c1, c2'⟩ := hcell k xs[k] (List.getElem?_eq_getElem hkx)
      obtain ⟨d0, d1, d2⟩ := hcell2 k xs[k] (List.getElem?_eq_getElem hkx)
      rw [← hs] at c0 c1 c2' d0 d1 d2
      have k0 := (hnx.cell (p := ⟨b, off + k * 3, none⟩) hb).trans c0
      have k1 := (hnx.cell (p := ⟨b, off + k * 3 + 1, none⟩) hb).trans c1
      have k2 := (hnx.cell (p := ⟨b, off + k * 3 + 2, none⟩) hb).trans c2'
      have l0 := (hnx.cell (p := ⟨b2, off2 + k * 3, none⟩) hb2).trans d0
      have l1 := (hnx.cell (p := ⟨b2, off2 + k * 3 + 1, none⟩) hb2).trans d1
      have l2 := (hnx.cell (p := ⟨b2, off2 + k * 3 + 2, none⟩) hb2).trans d2
      obtain ⟨x, y, z⟩ := s
      simp only at k0 k1 k2 l0 l1 l2
      have i1 : (0 : Int) ≤ (k : Int) := by omega
      have i2 : (k : Int) < (n : Int) := by omega
      clear c0 c1 c2' d0 d1 d2 hs hcell hcell2
      go_wp2
      go_quiet (fail)
      go_wp2
      go_roundw
      case rel => exact ⟨k + 1, by omega, by go_num, (hnx.trans ⟨rfl, rfl, rfl, Nat.le_refl _, fun _ _ => rfl⟩)⟩
      case measure => simp [intOf]; omega
    · go_wp2
      go_ret
      exact ⟨rfl, hnx⟩

set_option maxRecDepth 20000 in
set_option maxHeartbeats 3200000 in
theorem sameIa_eq (a : IaD) (v v' : Value) (w : World) (h : IaRow w a v) (h' : IaRow w a v') (hf : IaFits a) :
    Calls Tryz.prog 10 #[v, v'] w fun e w' => e = .returned (.bool true) ∧ Below w.heap.size w w' := by
  obtain ⟨a2, n2, c2, a3, n3, c3, a4, n4, c4, a5, n5, c5, rfl, r2, r3, r4, r5⟩ := h
  obtain ⟨b2, m2, d2, b3, m3, d3, b4, m4, d4, b5, m5, d5, rfl, q2, q3, q4, q5⟩ := h'
  have R2 := Lib.hid r2
  have Q2 := Lib.hid q2
  have R3 := Lib.hid r3
  have Q3 := Lib.hid q3
  have R4 := Lib.hid r4
  have Q4 := Lib.hid q4
  have R5 := Lib.hid r5
  have Q5 := Lib.hid q5
  clear r2 r3 r4 r5 q2 q3 q4 q5
  have F2 := Lib.hid (R2.out.1.symm ▸ hf.1)
  have F3 := Lib.hid (R3.out.1.symm ▸ hf.2.1)
  have F4 := Lib.hid (R4.out.1.symm ▸ hf.2.2.1)
  have F5 := Lib.hid (R5.out.1.symm ▸ hf.2.2.2)
  clear hf
  obtain ⟨st, it, ins, outs, hids, steps⟩ := a
  simp only at R2 R3 R4 R5 Q2 Q3 Q4 Q5 F2 F3 F4 F5
  have HB : Hid (∀ o o', Below w.heap.size w ((w.alloc o).alloc o')) := fun o o' => ((Below.refl _ _).alloc (Nat.le_refl _) _).alloc (by simp) _
  go_enter Tryz.func10, Tryz.ntmps10
  go_wp2_with fail
  refine (same_eq a2 b2 n2 c2 m2 d2 ins _ (R2.out.below (HB.out _ _)) (Q2.out.below (HB.out _ _)) F2.out).mono ?_
  rintro e w1 ⟨rfl, hb⟩
  have B1 : Hid (Below w.heap.size w w1) := (HB.out _ _).trans (hb.mono (by simp; omega))
  have VA1 : Hid (VarIs w1 w.heap.size #[.int .i64 st, .int .i64 it, .slice a2 n2 c2, .slice a3 n3 c3, .slice a4 n4 c4, .slice a5 n5 c5] 27) := ((VarIs.new w _ _ rfl).alloc _).below hb
  have VB1 : Hid (VarIs w1 (w.heap.size + 1) #[.int .i64 st, .int .i64 it, .slice b2 m2 d2, .slice b3 m3 d3, .slice b4 m4 d4, .slice b5 m5 d5] 27) := (VarIs.new _ _ _ (by simp)).below hb
  clear hb
  have k1 := VA1.out.cell (j := 3) rfl
  have k2 := VB1.out.cell (j := 3) rfl
  go_wp2_with fail
  clear k1 k2
  refine (same_eq a3 b3 n3 c3 m3 d3 outs _ (R3.out.below B1.out) (Q3.out.below B1.out) F3.out).mono ?_
  rintro e w2 ⟨rfl, hb⟩
  have B2 : Hid (Below w.heap.size w w2) := B1.out.trans (hb.mono B1.out.size)
  have VA2 : Hid (VarIs w2 w.heap.size #[.int .i64 st, .int .i64 it, .slice a2 n2 c2, .slice a3 n3 c3, .slice a4 n4 c4, .slice a5 n5 c5] 27) := VA1.out.below hb
  have VB2 : Hid (VarIs w2 (w.heap.size + 1) #[.int .i64 st, .int .i64 it, .slice b2 m2 d2, .slice b3 m3 d3, .slice b4 m4 d4, .slice b5 m5 d5] 27) := VB1.out.below hb
  clear hb
  have k1 := VA2.out.cell (j := 4) rfl
  have k2 := VB2.out.cell (j := 4) rfl
  go_wp2_with fail
  clear k1 k2
  refine (same_eq a4 b4 n4 c4 m4 d4 hids _ (R4.out.below B2.out) (Q4.out.below B2.out) F4.out).mono ?_
  rintro e w3 ⟨rfl, hb⟩
  have B3 : Hid (Below w.heap.size w w3) := B2.out.trans (hb.mono B2.out.size)
  have VA3 : Hid (VarIs w3 w.heap.size #[.int .i64 st, .int .i64 it, .slice a2 n2 c2, .slice a3 n3 c3, .slice a4 n4 c4, .slice a5 n5 c5] 27) := VA2.out.below hb
  have VB3 : Hid (VarIs w3 (w.heap.size + 1) #[.int .i64 st, .int .i64 it, .slice b2 m2 d2, .slice b3 m3 d3, .slice b4 m4 d4, .slice b5 m5 d5] 27) := VB2.out.below hb
  clear hb
  have k1 := VA3.out.cell (j := 5) rfl
  have k2 := VB3.out.cell (j := 5) rfl
  go_wp2_with fail
  clear k1 k2
  refine (sameSteps_eq a5 b5 n5 c5 m5 d5 steps _ (R5.out.below B3.out) (Q5.out.below B3.out) F5.out).mono ?_
  rintro e w4 ⟨rfl, hb⟩
  have B4 : Hid (Below w.heap.size w w4) := B3.out.trans (hb.mono B3.out.size)
  clear hb
  go_wp2_with fail
  go_ret
  exact ⟨rfl, B4.out⟩

end Go.Proofs.YtfhjhfhfbgddeaaGreatDoor

/-
  The contract of the laws' helper big. Conditions: none.
-/
namespace Go.Proofs.YtfhjhfhfbgddeaaGreatDoor
open Go.RowKit

theorem big_any (a : Option Addr) (n c : Nat) (w : World) (hn : n ≤ 9223372036854775807) : Calls Tryz.prog 4 #[.slice a n c] w fun e w' => e = .returned (.bool (decide (1048576 < n))) ∧ w' = w := by
  go_enter Tryz.func4, Tryz.ntmps4
  go_wp2
  go_ret
  exact ⟨ret_bool (by rw [Bool.eq_iff_iff, decide_eq_true_iff, decide_eq_true_iff]; omega), rfl⟩

end Go.Proofs.YtfhjhfhfbgddeaaGreatDoor

/-
  The walk of the law FnTextBack: it returns true at every code and writes nothing that was there. Conditions: the listed variables hold what the program's text lays in them; internal/bytealg.MaxLen holds a number.
-/
namespace Go.Proofs.YtfhjhfhfbgddeaaGreatDoor
open Go.RowKit

set_option maxRecDepth 20000 in
set_option maxHeartbeats 6400000 in
theorem walk_FnTextBack (a0 : Option Addr) (len0 cap0 : Nat) (z0 : List Int) (w : World) (w0 : IsRow .u8 w a0 len0 cap0 z0) (he : EnvR w) :
    Calls Tryz.prog 3 #[.slice a0 len0 cap0] w fun e w' => e = .returned (.bool true) ∧ Below w.heap.size w w' := by
  have hl := w0.lenAny
  have HA := Lib.hid w0.code
  have HE := Lib.hid he
  clear w0 he
  by_cases hbig : 1048576 < len0
  · go_enter Tryz.func3, Tryz.ntmps3
    go_wp2_with fail
    refine (big_any _ _ _ _ hl).mono ?_
    rintro e wz ⟨rfl, hz⟩
    obtain rfl : w = wz := hz.symm
    rw [decide_eq_true hbig]
    go_wp2_with fail
    go_ret
    exact ⟨rfl, Below.refl _ _⟩
  · go_enter Tryz.func3, Tryz.ntmps3
    go_wp2_with fail
    refine (big_any _ _ _ _ hl).mono ?_
    rintro e wz ⟨rfl, hz⟩
    obtain rfl : w = wz := hz.symm
    rw [decide_eq_false hbig]
    have hlen : len0 ≤ 1048576 := by omega
    go_wp2_with fail
    refine (drawIaText_any a0 len0 cap0 _ hlen HA.out).mono ?_
    rintro e w1 ⟨ia, v, rfl, hm, hln, hb⟩
    have B1 := Lib.hid hb
    have HLN := Lib.hid hln
    have HM := Lib.hid hm.row
    obtain ⟨b2, m2, d2, b3, m3, d3, b4, m4, d4, b5, m5, d5, rfl, _⟩ := hm.row
    clear hm hln hb hl hbig
    have s2 : ia.ins.length ≤ 1048576 := Nat.le_trans HLN.out.1 (by decide)
    have s3 : ia.outs.length ≤ 1048576 := Nat.le_trans HLN.out.2.1 (by decide)
    have s4 : ia.hids.length ≤ 1048576 := Nat.le_trans HLN.out.2.2.1 (by decide)
    have s5 : ia.steps.length ≤ 1048576 := Nat.le_trans HLN.out.2.2.2 (by decide)
    have HT : Hid (∀ W, Below w1.heap.size w1 W → Tab W) := fun W hW => (HE.out.env.tab.below B1.out).below hW
    have CTI : Hid (∀ W, Below w1.heap.size w1 W → Calls Tryz.prog 6 #[.agg #[.int .i64 ia.states, .int .i64 ia.init, .slice b2 m2 d2, .slice b3 m3 d3, .slice b4 m4 d4, .slice b5 m5 d5]] W fun e w' => e = .returned (.string (bs (iaTextOf ia))) ∧ Below W.heap.size W w') := fun W hW => implIaText_any ia _ W (HM.out.below hW) s2 s3 s4 s5 (HT.out W hW)
    have CTS : Hid (∀ W, Below w1.heap.size w1 W → Calls Tryz.prog 7 #[.agg #[.int .i64 ia.states, .int .i64 ia.init, .slice b2 m2 d2, .slice b3 m3 d3, .slice b4 m4 d4, .slice b5 m5 d5]] W fun e w' => e = .returned (.string (bs (iaTextOf ia))) ∧ Below W.heap.size W w') := fun W hW => specIaText_any ia _ W (HM.out.below hW) s2 s3 s4 s5
    have CSO : Hid (∀ W, Below w1.heap.size w1 W → Calls Tryz.prog 8 #[.agg #[.int .i64 ia.states, .int .i64 ia.init, .slice b2 m2 d2, .slice b3 m3 d3, .slice b4 m4 d4, .slice b5 m5 d5]] W fun e w' => e = .returned (.bool (iaOkB ia)) ∧ Below W.heap.size W w') := fun W hW => specIaOk_any ia _ W (HM.out.below hW) s2 s3 s4 s5
    obtain ⟨T, hT⟩ : ∃ t, t = iaTextOf ia := ⟨_, rfl⟩
    have hTl : T.length ≤ 1000000 := by rw [hT]; exact iaText_len ia HLN.out
    obtain ⟨qo, hqo⟩ : ∃ q, q = iaOkB ia := ⟨_, rfl⟩
    have HBK : Hid (qo = true → T.length ≤ 8000 → iaReadOf T = (ia, 0)) := fun e h8 => by
      have h1 : iaOkB ia = true := by rw [← hqo]; exact e
      have h2 : T = iaLines ia := by
        rw [hT]
        unfold iaTextOf
        rw [if_pos h1]
      rw [h2] at h8 ⊢
      exact read_back h1 h8
    rw [← hT] at CTI CTS
    rw [← hqo] at CSO
    obtain ⟨S, hS⟩ : ∃ s, s = bs T := ⟨_, rfl⟩
    obtain ⟨n, hn⟩ : ∃ n, n = T.length := ⟨_, rfl⟩
    have hSn : S.size = n := by rw [hS, bs_size, hn]
    rw [← hS] at CTI CTS
    rw [← hn] at HBK hTl
    have CRI : Hid (∀ W, EnvR W → Calls Tryz.prog 9 #[.string S] W (IaOwnRes W (iaReadOf T))) := fun W hW => by
      rw [hS]
      exact implIaRead_any T W (by omega) hW
    clear hT hqo hS hn
    have V2 : Hid (VarIs (w1.alloc (.cells #[.int .i64 ia.states, .int .i64 ia.init, .slice b2 m2 d2, .slice b3 m3 d3, .slice b4 m4 d4, .slice b5 m5 d5] 27)) w1.heap.size #[.int .i64 ia.states, .int .i64 ia.init, .slice b2 m2 d2, .slice b3 m3 d3, .slice b4 m4 d4, .slice b5 m5 d5] 27) := VarIs.new w1 _ _ rfl
    have B2 : Hid (Below w1.heap.size w1 (w1.alloc (.cells #[.int .i64 ia.states, .int .i64 ia.init, .slice b2 m2 d2, .slice b3 m3 d3, .slice b4 m4 d4, .slice b5 m5 d5] 27))) := (Below.refl _ _).alloc (Nat.le_refl _) _
    go_wp2_with fail
    refine (CTI.out _ B2.out).mono ?_
    rintro e w3 ⟨rfl, hb⟩
    have B3 : Hid (Below w1.heap.size w1 w3) := B2.out.trans (hb.mono B2.out.size)
    have V3 := Lib.hid (V2.out.below hb)
    clear hb B2 V2
    have c0 := V3.out.cell (j := 0) (u := .int .i64 ia.states) rfl
    have c1 := V3.out.cell (j := 1) (u := .int .i64 ia.init) rfl
    have c2 := V3.out.cell (j := 2) (u := .slice b2 m2 d2) rfl
    have c3 := V3.out.cell (j := 3) (u := .slice b3 m3 d3) rfl
    have c4 := V3.out.cell (j := 4) (u := .slice b4 m4 d4) rfl
    have c5 := V3.out.cell (j := 5) (u := .slice b5 m5 d5) rfl
    go_wp2_with fail
    clear c0 c1 c2 c3 c4 c5
    refine (CTS.out _ B3.out).mono ?_
    rintro e w4 ⟨rfl, hb⟩
    have B4 : Hid (Below w1.heap.size w1 w4) := B3.out.trans (hb.mono B3.out.size)
    have V4 := Lib.hid (V3.out.below hb)
    clear hb B3 V3
    have c0 := V4.out.cell (j := 0) (u := .int .i64 ia.states) rfl
    have c1 := V4.out.cell (j := 1) (u := .int .i64 ia.init) rfl
    have c2 := V4.out.cell (j := 2) (u := .slice b2 m2 d2) rfl
    have c3 := V4.out.cell (j := 3) (u := .slice b3 m3 d3) rfl
    have c4 := V4.out.cell (j := 4) (u := .slice b4 m4 d4) rfl
    have c5 := V4.out.cell (j := 5) (u := .slice b5 m5 d5) rfl
    go_wp2_with fail
    clear c0 c1 c2 c3 c4 c5
    refine (CSO.out _ B4.out).mono ?_
    rintro e w5 ⟨rfl, hb⟩
    have B5 : Hid (Below w1.heap.size w1 w5) := B4.out.trans (hb.mono B4.out.size)
    have V5 := Lib.hid (V4.out.below hb)
    clear hb B4 V4 CSO CTS CTI
    cases qo with
    | false =>
      clear HBK CRI
      have BX : Hid (Below w.heap.size w w5) := B1.out.trans (B5.out.mono B1.out.size)
      go_wp2_with fail
      refine (drawIaRead_any a0 len0 cap0 _ hlen ((HA.out.below BX.out).mono BX.out.size)).mono ?_
      rintro e x6 ⟨t, rfl, ht, hb⟩
      have BX6 : Hid (Below w.heap.size w x6) := BX.out.trans (hb.mono BX.out.size)
      obtain ⟨L, hL⟩ : ∃ l, l = t.data.toList := ⟨_, rfl⟩
      have htL : t = bs L := by rw [hL, bs_back]
      have hLl : L.length ≤ 1048576 := by rw [hL]; simp; exact Nat.le_trans ht (by decide)
      obtain ⟨⟨b, k⟩, hR⟩ : ∃ R, R = iaReadOf L := ⟨_, rfl⟩
      have CI : Hid (∀ W, EnvR W → Calls Tryz.prog 9 #[.string t] W (IaOwnRes W (b, k))) := fun W hW => by
        have := implIaRead_any L W hLl hW
        rw [← hR] at this
        rw [htL]
        exact this
      have CS : Hid (∀ W, Calls Tryz.prog 12 #[.string t] W (IaReadRes W (b, k))) := fun W => by
        have := specIaRead_any t W (Nat.le_trans ht (by decide))
        rw [← hL, ← hR] at this
        exact this
      have HB0 : Hid (k = 0 → iaOkB b = true ∧ iaTextOf b = L) := fun e => by
        rw [e] at hR
        obtain ⟨h1, _, h3⟩ := text_back hR.symm
        exact ⟨h1, h3⟩
      have HB1 : Hid (¬ k = 0 → b = noIa) := fun e => read_bad hR.symm e
      have HTL : Hid (bs L = t) := htL.symm
      clear hL htL hR hb ht BX
      go_wp2_with fail
      refine (CI.out _ (HE.out.below BX6.out)).mono ?_
      rintro e x7 ⟨v, rfl, hown, hb, hless⟩
      have HLS := Lib.hid hless
      have HRW := Lib.hid hown.row
      obtain ⟨y2, yn2, yc2, y3, yn3, yc3, y4, yn4, yc4, y5, yn5, yc5, rfl, _⟩ := hown.row
      have BX7 : Hid (Below w.heap.size w (x7.alloc (.cells #[.int .i64 b.states, .int .i64 b.init, .slice y2 yn2 yc2, .slice y3 yn3 yc3, .slice y4 yn4 yc4, .slice y5 yn5 yc5] 27))) := (BX6.out.trans (hb.mono BX6.out.size)).alloc (Nat.le_trans BX6.out.size hb.size) _
      have VX7 : Hid (VarIs (x7.alloc (.cells #[.int .i64 b.states, .int .i64 b.init, .slice y2 yn2 yc2, .slice y3 yn3 yc3, .slice y4 yn4 yc4, .slice y5 yn5 yc5] 27)) x7.heap.size #[.int .i64 b.states, .int .i64 b.init, .slice y2 yn2 yc2, .slice y3 yn3 yc3, .slice y4 yn4 yc4, .slice y5 yn5 yc5] 27) := VarIs.new x7 _ _ rfl
      have HR7 : Hid (∀ W, Below x7.heap.size x7 W → IaRow W b (.agg #[.int .i64 b.states, .int .i64 b.init, .slice y2 yn2 yc2, .slice y3 yn3 yc3, .slice y4 yn4 yc4, .slice y5 yn5 yc5])) := fun W hW => HRW.out.below hW
      have BY7 : Hid (Below x7.heap.size x7 (x7.alloc (.cells #[.int .i64 b.states, .int .i64 b.init, .slice y2 yn2 yc2, .slice y3 yn3 yc3, .slice y4 yn4 yc4, .slice y5 yn5 yc5] 27))) := (Below.refl _ _).alloc (Nat.le_refl _) _
      clear hown hb hless HRW BX6 CI
      simp only
      go_wp2_with fail
      refine (CS.out _).mono ?_
      rintro e x8 ⟨v, rfl, hrow, hb⟩
      obtain ⟨z2, zn2, zc2, z3, zn3, zc3, z4, zn4, zc4, z5, zn5, zc5, rfl, _⟩ := hrow
      have hb2 := hb.alloc hb.size (.cells #[.int .i64 b.states, .int .i64 b.init, .slice z2 zn2 zc2, .slice z3 zn3 zc3, .slice z4 zn4 zc4, .slice z5 zn5 zc5] 27)
      have BX8 : Hid (Below w.heap.size w (x8.alloc (.cells #[.int .i64 b.states, .int .i64 b.init, .slice z2 zn2 zc2, .slice z3 zn3 zc3, .slice z4 zn4 zc4, .slice z5 zn5 zc5] 27))) := BX7.out.trans (hb2.mono BX7.out.size)
      have BY8 : Hid (Below x7.heap.size x7 (x8.alloc (.cells #[.int .i64 b.states, .int .i64 b.init, .slice z2 zn2 zc2, .slice z3 zn3 zc3, .slice z4 zn4 zc4, .slice z5 zn5 zc5] 27))) := BY7.out.trans (hb2.mono BY7.out.size)
      have VX8 := Lib.hid (VX7.out.below hb2)
      clear hb hb2 BX7 BY7 VX7 CS
      simp only
      have hkk : (k == k) = true := by simp
      by_cases hk : k = 0
      · have hk1 : (k != 0) = false := by simp [hk]
        have hk2 : (k == 0) = true := by simp [hk]
        obtain ⟨h1, h2⟩ := HB0.out hk
        have q2 : b.ins.length ≤ 1048576 := Nat.le_trans HLS.out.1 (by decide)
        have q3 : b.outs.length ≤ 1048576 := Nat.le_trans HLS.out.2.1 (by decide)
        have q4 : b.hids.length ≤ 1048576 := Nat.le_trans HLS.out.2.2.1 (by decide)
        have q5 : b.steps.length ≤ 1048576 := Nat.le_trans HLS.out.2.2.2 (by decide)
        have CO : Hid (∀ W, Below x7.heap.size x7 W → Calls Tryz.prog 13 #[.agg #[.int .i64 b.states, .int .i64 b.init, .slice y2 yn2 yc2, .slice y3 yn3 yc3, .slice y4 yn4 yc4, .slice y5 yn5 yc5]] W fun e w' => e = .returned (.bool true) ∧ Below W.heap.size W w') := fun W hW => by
          rw [← h1]
          exact implIaOk_any b _ W (HR7.out W hW) q2 q3 q4 q5
        have CX : Hid (∀ W, Below x7.heap.size x7 W → Tab W → Calls Tryz.prog 6 #[.agg #[.int .i64 b.states, .int .i64 b.init, .slice y2 yn2 yc2, .slice y3 yn3 yc3, .slice y4 yn4 yc4, .slice y5 yn5 yc5]] W fun e w' => e = .returned (.string t) ∧ Below W.heap.size W w') := fun W hW ht => by
          rw [← HTL.out, ← h2]
          exact implIaText_any b _ W (HR7.out W hW) q2 q3 q4 q5 ht
        clear hk h1 h2 HB0 HB1 HLS HTL HR7 q2 q3 q4 q5
        have c0 := VX8.out.cell (j := 0) (u := .int .i64 b.states) rfl
        have c1 := VX8.out.cell (j := 1) (u := .int .i64 b.init) rfl
        have c2 := VX8.out.cell (j := 2) (u := .slice y2 yn2 yc2) rfl
        have c3 := VX8.out.cell (j := 3) (u := .slice y3 yn3 yc3) rfl
        have c4 := VX8.out.cell (j := 4) (u := .slice y4 yn4 yc4) rfl
        have c5 := VX8.out.cell (j := 5) (u := .slice y5 yn5 yc5) rfl
        go_wp2_with fail
        clear c0 c1 c2 c3 c4 c5
        refine (CO.out _ BY8.out).mono ?_
        rintro e x9 ⟨rfl, hb⟩
        have BX9 : Hid (Below w.heap.size w x9) := BX8.out.trans (hb.mono BX8.out.size)
        have BY9 : Hid (Below x7.heap.size x7 x9) := BY8.out.trans (hb.mono BY8.out.size)
        have VX9 := Lib.hid (VX8.out.below hb)
        clear hb BX8 BY8 VX8 CO
        have c0 := VX9.out.cell (j := 0) (u := .int .i64 b.states) rfl
        have c1 := VX9.out.cell (j := 1) (u := .int .i64 b.init) rfl
        have c2 := VX9.out.cell (j := 2) (u := .slice y2 yn2 yc2) rfl
        have c3 := VX9.out.cell (j := 3) (u := .slice y3 yn3 yc3) rfl
        have c4 := VX9.out.cell (j := 4) (u := .slice y4 yn4 yc4) rfl
        have c5 := VX9.out.cell (j := 5) (u := .slice y5 yn5 yc5) rfl
        go_wp2_with fail
        clear c0 c1 c2 c3 c4 c5
        refine (CX.out _ BY9.out ((HE.out.env.tab).below BX9.out)).mono ?_
        rintro e y1 ⟨rfl, hb⟩
        have BXE : Hid (Below w.heap.size w y1) := BX9.out.trans (hb.mono BX9.out.size)
        clear hb BX9 BY9 VX9 CX
        go_wp2_with fail
        go_ret
        exact ⟨rfl, BXE.out⟩
      · have hk1 : (k != 0) = true := by simp [hk]
        have hb0 : b.states = 0 := by rw [HB1.out hk]; rfl
        have hb1 : (b.states == 0) = true := by simp [hb0]
        have c0 := VX8.out.cell (j := 0) (u := .int .i64 b.states) rfl
        clear hk hb0 HB0 HB1 HLS HTL HR7
        go_wp2_with fail
        clear c0
        go_ret
        exact ⟨rfl, BX8.out⟩
    | true =>
      by_cases hn8 : n ≤ 8000
      · have hn9 : (n : Int) ≤ 8000 := by omega
        have HRD := Lib.hid (HBK.out rfl hn8)
        have CRI2 : Hid (∀ W, EnvR W → Calls Tryz.prog 9 #[.string S] W (IaOwnRes W (ia, 0))) := fun W hW => by
          rw [← HRD.out]
          exact CRI.out W hW
        have BE5 : Hid (Below w.heap.size w w5) := B1.out.trans (B5.out.mono B1.out.size)
        clear HBK CRI HRD hn8
        have hsz : ((S.size : Nat) : Int) = (n : Int) := by rw [hSn]
        go_wp2_with fail
        clear hsz hn9
        refine (CRI2.out _ (HE.out.below BE5.out)).mono ?_
        rintro e u6 ⟨v, rfl, hown, hb, hless⟩
        have HRW := Lib.hid hown.row
        obtain ⟨p2, pn2, pc2, p3, pn3, pc3, p4, pn4, pc4, p5, pn5, pc5, rfl, _⟩ := hown.row
        have B6 : Hid (Below w1.heap.size w1 u6) := B5.out.trans (hb.mono B5.out.size)
        have V6 := Lib.hid (V5.out.below hb)
        clear hown hb hless CRI2 BE5 B5 V5
        simp only
        have B7 : Hid (Below w1.heap.size w1 (u6.alloc (.cells #[.int .i64 ia.states, .int .i64 ia.init, .slice p2 pn2 pc2, .slice p3 pn3 pc3, .slice p4 pn4 pc4, .slice p5 pn5 pc5] 27))) := B6.out.alloc B6.out.size _
        have bu : Below u6.heap.size u6 (u6.alloc (.cells #[.int .i64 ia.states, .int .i64 ia.init, .slice p2 pn2 pc2, .slice p3 pn3 pc3, .slice p4 pn4 pc4, .slice p5 pn5 pc5] 27)) := (Below.refl _ _).alloc (Nat.le_refl _) _
        have V7 := Lib.hid (V6.out.below bu)
        have VP : Hid (VarIs (u6.alloc (.cells #[.int .i64 ia.states, .int .i64 ia.init, .slice p2 pn2 pc2, .slice p3 pn3 pc3, .slice p4 pn4 pc4, .slice p5 pn5 pc5] 27)) u6.heap.size #[.int .i64 ia.states, .int .i64 ia.init, .slice p2 pn2 pc2, .slice p3 pn3 pc3, .slice p4 pn4 pc4, .slice p5 pn5 pc5] 27) := VarIs.new u6 _ _ rfl
        have HRP := Lib.hid (HRW.out.below bu)
        have CSM := Lib.hid (sameIa_eq ia _ _ _ (HM.out.below B7.out) HRP.out (IaFits.small s2 s3 s4 s5))
        clear bu HRW HRP B6 V6
        have c0 := V7.out.cell (j := 0) (u := .int .i64 ia.states) rfl
        have c1 := V7.out.cell (j := 1) (u := .int .i64 ia.init) rfl
        have c2 := V7.out.cell (j := 2) (u := .slice b2 m2 d2) rfl
        have c3 := V7.out.cell (j := 3) (u := .slice b3 m3 d3) rfl
        have c4 := V7.out.cell (j := 4) (u := .slice b4 m4 d4) rfl
        have c5 := V7.out.cell (j := 5) (u := .slice b5 m5 d5) rfl
        have e0 := VP.out.cell (j := 0) (u := .int .i64 ia.states) rfl
        have e1 := VP.out.cell (j := 1) (u := .int .i64 ia.init) rfl
        have e2 := VP.out.cell (j := 2) (u := .slice p2 pn2 pc2) rfl
        have e3 := VP.out.cell (j := 3) (u := .slice p3 pn3 pc3) rfl
        have e4 := VP.out.cell (j := 4) (u := .slice p4 pn4 pc4) rfl
        have e5 := VP.out.cell (j := 5) (u := .slice p5 pn5 pc5) rfl
        go_wp2_with fail
        clear c0 c1 c2 c3 c4 c5 e0 e1 e2 e3 e4 e5
        refine CSM.out.mono ?_
        rintro e w7 ⟨rfl, hb⟩
        have B8 : Hid (Below w1.heap.size w1 w7) := B7.out.trans (hb.mono B7.out.size)
        clear hb CSM V7 VP B7
        have BX : Hid (Below w.heap.size w w7) := B1.out.trans (B8.out.mono B1.out.size)
        go_wp2_with fail
        refine (drawIaRead_any a0 len0 cap0 _ hlen ((HA.out.below BX.out).mono BX.out.size)).mono ?_
        rintro e x6 ⟨t, rfl, ht, hb⟩
        have BX6 : Hid (Below w.heap.size w x6) := BX.out.trans (hb.mono BX.out.size)
        obtain ⟨L, hL⟩ : ∃ l, l = t.data.toList := ⟨_, rfl⟩
        have htL : t = bs L := by rw [hL, bs_back]
        have hLl : L.length ≤ 1048576 := by rw [hL]; simp; exact Nat.le_trans ht (by decide)
        obtain ⟨⟨b, k⟩, hR⟩ : ∃ R, R = iaReadOf L := ⟨_, rfl⟩
        have CI : Hid (∀ W, EnvR W → Calls Tryz.prog 9 #[.string t] W (IaOwnRes W (b, k))) := fun W hW => by
          have := implIaRead_any L W hLl hW
          rw [← hR] at this
          rw [htL]
          exact this
        have CS : Hid (∀ W, Calls Tryz.prog 12 #[.string t] W (IaReadRes W (b, k))) := fun W => by
          have := specIaRead_any t W (Nat.le_trans ht (by decide))
          rw [← hL, ← hR] at this
          exact this
        have HB0 : Hid (k = 0 → iaOkB b = true ∧ iaTextOf b = L) := fun e => by
          rw [e] at hR
          obtain ⟨h1, _, h3⟩ := text_back hR.symm
          exact ⟨h1, h3⟩
        have HB1 : Hid (¬ k = 0 → b = noIa) := fun e => read_bad hR.symm e
        have HTL : Hid (bs L = t) := htL.symm
        clear hL htL hR hb ht BX
        go_wp2_with fail
        refine (CI.out _ (HE.out.below BX6.out)).mono ?_
        rintro e x7 ⟨v, rfl, hown, hb, hless⟩
        have HLS := Lib.hid hless
        have HRW := Lib.hid hown.row
        obtain ⟨y2, yn2, yc2, y3, yn3, yc3, y4, yn4, yc4, y5, yn5, yc5, rfl, _⟩ := hown.row
        have BX7 : Hid (Below w.heap.size w (x7.alloc (.cells #[.int .i64 b.states, .int .i64 b.init, .slice y2 yn2 yc2, .slice y3 yn3 yc3, .slice y4 yn4 yc4, .slice y5 yn5 yc5] 27))) := (BX6.out.trans (hb.mono BX6.out.size)).alloc (Nat.le_trans BX6.out.size hb.size) _
        have VX7 : Hid (VarIs (x7.alloc (.cells #[.int .i64 b.states, .int .i64 b.init, .slice y2 yn2 yc2, .slice y3 yn3 yc3, .slice y4 yn4 yc4, .slice y5 yn5 yc5] 27)) x7.heap.size #[.int .i64 b.states, .int .i64 b.init, .slice y2 yn2 yc2, .slice y3 yn3 yc3, .slice y4 yn4 yc4, .slice y5 yn5 yc5] 27) := VarIs.new x7 _ _ rfl
        have HR7 : Hid (∀ W, Below x7.heap.size x7 W → IaRow W b (.agg #[.int .i64 b.states, .int .i64 b.init, .slice y2 yn2 yc2, .slice y3 yn3 yc3, .slice y4 yn4 yc4, .slice y5 yn5 yc5])) := fun W hW => HRW.out.below hW
        have BY7 : Hid (Below x7.heap.size x7 (x7.alloc (.cells #[.int .i64 b.states, .int .i64 b.init, .slice y2 yn2 yc2, .slice y3 yn3 yc3, .slice y4 yn4 yc4, .slice y5 yn5 yc5] 27))) := (Below.refl _ _).alloc (Nat.le_refl _) _
        clear hown hb hless HRW BX6 CI
        simp only
        go_wp2_with fail
        refine (CS.out _).mono ?_
        rintro e x8 ⟨v, rfl, hrow, hb⟩
        obtain ⟨z2, zn2, zc2, z3, zn3, zc3, z4, zn4, zc4, z5, zn5, zc5, rfl, _⟩ := hrow
        have hb2 := hb.alloc hb.size (.cells #[.int .i64 b.states, .int .i64 b.init, .slice z2 zn2 zc2, .slice z3 zn3 zc3, .slice z4 zn4 zc4, .slice z5 zn5 zc5] 27)
        have BX8 : Hid (Below w.heap.size w (x8.alloc (.cells #[.int .i64 b.states, .int .i64 b.init, .slice z2 zn2 zc2, .slice z3 zn3 zc3, .slice z4 zn4 zc4, .slice z5 zn5 zc5] 27))) := BX7.out.trans (hb2.mono BX7.out.size)
        have BY8 : Hid (Below x7.heap.size x7 (x8.alloc (.cells #[.int .i64 b.states, .int .i64 b.init, .slice z2 zn2 zc2, .slice z3 zn3 zc3, .slice z4 zn4 zc4, .slice z5 zn5 zc5] 27))) := BY7.out.trans (hb2.mono BY7.out.size)
        have VX8 := Lib.hid (VX7.out.below hb2)
        clear hb hb2 BX7 BY7 VX7 CS
        simp only
        have hkk : (k == k) = true := by simp
        by_cases hk : k = 0
        · have hk1 : (k != 0) = false := by simp [hk]
          have hk2 : (k == 0) = true := by simp [hk]
          obtain ⟨h1, h2⟩ := HB0.out hk
          have q2 : b.ins.length ≤ 1048576 := Nat.le_trans HLS.out.1 (by decide)
          have q3 : b.outs.length ≤ 1048576 := Nat.le_trans HLS.out.2.1 (by decide)
          have q4 : b.hids.length ≤ 1048576 := Nat.le_trans HLS.out.2.2.1 (by decide)
          have q5 : b.steps.length ≤ 1048576 := Nat.le_trans HLS.out.2.2.2 (by decide)
          have CO : Hid (∀ W, Below x7.heap.size x7 W → Calls Tryz.prog 13 #[.agg #[.int .i64 b.states, .int .i64 b.init, .slice y2 yn2 yc2, .slice y3 yn3 yc3, .slice y4 yn4 yc4, .slice y5 yn5 yc5]] W fun e w' => e = .returned (.bool true) ∧ Below W.heap.size W w') := fun W hW => by
            rw [← h1]
            exact implIaOk_any b _ W (HR7.out W hW) q2 q3 q4 q5
          have CX : Hid (∀ W, Below x7.heap.size x7 W → Tab W → Calls Tryz.prog 6 #[.agg #[.int .i64 b.states, .int .i64 b.init, .slice y2 yn2 yc2, .slice y3 yn3 yc3, .slice y4 yn4 yc4, .slice y5 yn5 yc5]] W fun e w' => e = .returned (.string t) ∧ Below W.heap.size W w') := fun W hW ht => by
            rw [← HTL.out, ← h2]
            exact implIaText_any b _ W (HR7.out W hW) q2 q3 q4 q5 ht
          clear hk h1 h2 HB0 HB1 HLS HTL HR7 q2 q3 q4 q5
          have c0 := VX8.out.cell (j := 0) (u := .int .i64 b.states) rfl
          have c1 := VX8.out.cell (j := 1) (u := .int .i64 b.init) rfl
          have c2 := VX8.out.cell (j := 2) (u := .slice y2 yn2 yc2) rfl
          have c3 := VX8.out.cell (j := 3) (u := .slice y3 yn3 yc3) rfl
          have c4 := VX8.out.cell (j := 4) (u := .slice y4 yn4 yc4) rfl
          have c5 := VX8.out.cell (j := 5) (u := .slice y5 yn5 yc5) rfl
          go_wp2_with fail
          clear c0 c1 c2 c3 c4 c5
          refine (CO.out _ BY8.out).mono ?_
          rintro e x9 ⟨rfl, hb⟩
          have BX9 : Hid (Below w.heap.size w x9) := BX8.out.trans (hb.mono BX8.out.size)
          have BY9 : Hid (Below x7.heap.size x7 x9) := BY8.out.trans (hb.mono BY8.out.size)
          have VX9 := Lib.hid (VX8.out.below hb)
          clear hb BX8 BY8 VX8 CO
          have c0 := VX9.out.cell (j := 0) (u := .int .i64 b.states) rfl
          have c1 := VX9.out.cell (j := 1) (u := .int .i64 b.init) rfl
          have c2 := VX9.out.cell (j := 2) (u := .slice y2 yn2 yc2) rfl
          have c3 := VX9.out.cell (j := 3) (u := .slice y3 yn3 yc3) rfl
          have c4 := VX9.out.cell (j := 4) (u := .slice y4 yn4 yc4) rfl
          have c5 := VX9.out.cell (j := 5) (u := .slice y5 yn5 yc5) rfl
          go_wp2_with fail
          clear c0 c1 c2 c3 c4 c5
          refine (CX.out _ BY9.out ((HE.out.env.tab).below BX9.out)).mono ?_
          rintro e y1 ⟨rfl, hb⟩
          have BXE : Hid (Below w.heap.size w y1) := BX9.out.trans (hb.mono BX9.out.size)
          clear hb BX9 BY9 VX9 CX
          go_wp2_with fail
          go_ret
          exact ⟨rfl, BXE.out⟩
        · have hk1 : (k != 0) = true := by simp [hk]
          have hb0 : b.states = 0 := by rw [HB1.out hk]; rfl
          have hb1 : (b.states == 0) = true := by simp [hb0]
          have c0 := VX8.out.cell (j := 0) (u := .int .i64 b.states) rfl
          clear hk hb0 HB0 HB1 HLS HTL HR7
          go_wp2_with fail
          clear c0
          go_ret
          exact ⟨rfl, BX8.out⟩
      · have hn9 : ¬ (n : Int) ≤ 8000 := by omega
        have hsz : ((S.size : Nat) : Int) = (n : Int) := by rw [hSn]
        clear HBK CRI hn8
        have BX : Hid (Below w.heap.size w w5) := B1.out.trans (B5.out.mono B1.out.size)
        go_wp2_with fail
        refine (drawIaRead_any a0 len0 cap0 _ hlen ((HA.out.below BX.out).mono BX.out.size)).mono ?_
        rintro e x6 ⟨t, rfl, ht, hb⟩
        have BX6 : Hid (Below w.heap.size w x6) := BX.out.trans (hb.mono BX.out.size)
        obtain ⟨L, hL⟩ : ∃ l, l = t.data.toList := ⟨_, rfl⟩
        have htL : t = bs L := by rw [hL, bs_back]
        have hLl : L.length ≤ 1048576 := by rw [hL]; simp; exact Nat.le_trans ht (by decide)
        obtain ⟨⟨b, k⟩, hR⟩ : ∃ R, R = iaReadOf L := ⟨_, rfl⟩
        have CI : Hid (∀ W, EnvR W → Calls Tryz.prog 9 #[.string t] W (IaOwnRes W (b, k))) := fun W hW => by
          have := implIaRead_any L W hLl hW
          rw [← hR] at this
          rw [htL]
          exact this
        have CS : Hid (∀ W, Calls Tryz.prog 12 #[.string t] W (IaReadRes W (b, k))) := fun W => by
          have := specIaRead_any t W (Nat.le_trans ht (by decide))
          rw [← hL, ← hR] at this
          exact this
        have HB0 : Hid (k = 0 → iaOkB b = true ∧ iaTextOf b = L) := fun e => by
          rw [e] at hR
          obtain ⟨h1, _, h3⟩ := text_back hR.symm
          exact ⟨h1, h3⟩
        have HB1 : Hid (¬ k = 0 → b = noIa) := fun e => read_bad hR.symm e
        have HTL : Hid (bs L = t) := htL.symm
        clear hL htL hR hb ht BX
        go_wp2_with fail
        refine (CI.out _ (HE.out.below BX6.out)).mono ?_
        rintro e x7 ⟨v, rfl, hown, hb, hless⟩
        have HLS := Lib.hid hless
        have HRW := Lib.hid hown.row
        obtain ⟨y2, yn2, yc2, y3, yn3, yc3, y4, yn4, yc4, y5, yn5, yc5, rfl, _⟩ := hown.row
        have BX7 : Hid (Below w.heap.size w (x7.alloc (.cells #[.int .i64 b.states, .int .i64 b.init, .slice y2 yn2 yc2, .slice y3 yn3 yc3, .slice y4 yn4 yc4, .slice y5 yn5 yc5] 27))) := (BX6.out.trans (hb.mono BX6.out.size)).alloc (Nat.le_trans BX6.out.size hb.size) _
        have VX7 : Hid (VarIs (x7.alloc (.cells #[.int .i64 b.states, .int .i64 b.init, .slice y2 yn2 yc2, .slice y3 yn3 yc3, .slice y4 yn4 yc4, .slice y5 yn5 yc5] 27)) x7.heap.size #[.int .i64 b.states, .int .i64 b.init, .slice y2 yn2 yc2, .slice y3 yn3 yc3, .slice y4 yn4 yc4, .slice y5 yn5 yc5] 27) := VarIs.new x7 _ _ rfl
        have HR7 : Hid (∀ W, Below x7.heap.size x7 W → IaRow W b (.agg #[.int .i64 b.states, .int .i64 b.init, .slice y2 yn2 yc2, .slice y3 yn3 yc3, .slice y4 yn4 yc4, .slice y5 yn5 yc5])) := fun W hW => HRW.out.below hW
        have BY7 : Hid (Below x7.heap.size x7 (x7.alloc (.cells #[.int .i64 b.states, .int .i64 b.init, .slice y2 yn2 yc2, .slice y3 yn3 yc3, .slice y4 yn4 yc4, .slice y5 yn5 yc5] 27))) := (Below.refl _ _).alloc (Nat.le_refl _) _
        clear hown hb hless HRW BX6 CI
        simp only
        go_wp2_with fail
        refine (CS.out _).mono ?_
        rintro e x8 ⟨v, rfl, hrow, hb⟩
        obtain ⟨z2, zn2, zc2, z3, zn3, zc3, z4, zn4, zc4, z5, zn5, zc5, rfl, _⟩ := hrow
        have hb2 := hb.alloc hb.size (.cells #[.int .i64 b.states, .int .i64 b.init, .slice z2 zn2 zc2, .slice z3 zn3 zc3, .slice z4 zn4 zc4, .slice z5 zn5 zc5] 27)
        have BX8 : Hid (Below w.heap.size w (x8.alloc (.cells #[.int .i64 b.states, .int .i64 b.init, .slice z2 zn2 zc2, .slice z3 zn3 zc3, .slice z4 zn4 zc4, .slice z5 zn5 zc5] 27))) := BX7.out.trans (hb2.mono BX7.out.size)
        have BY8 : Hid (Below x7.heap.size x7 (x8.alloc (.cells #[.int .i64 b.states, .int .i64 b.init, .slice z2 zn2 zc2, .slice z3 zn3 zc3, .slice z4 zn4 zc4, .slice z5 zn5 zc5] 27))) := BY7.out.trans (hb2.mono BY7.out.size)
        have VX8 := Lib.hid (VX7.out.below hb2)
        clear hb hb2 BX7 BY7 VX7 CS
        simp only
        have hkk : (k == k) = true := by simp
        by_cases hk : k = 0
        · have hk1 : (k != 0) = false := by simp [hk]
          have hk2 : (k == 0) = true := by simp [hk]
          obtain ⟨h1, h2⟩ := HB0.out hk
          have q2 : b.ins.length ≤ 1048576 := Nat.le_trans HLS.out.1 (by decide)
          have q3 : b.outs.length ≤ 1048576 := Nat.le_trans HLS.out.2.1 (by decide)
          have q4 : b.hids.length ≤ 1048576 := Nat.le_trans HLS.out.2.2.1 (by decide)
          have q5 : b.steps.length ≤ 1048576 := Nat.le_trans HLS.out.2.2.2 (by decide)
          have CO : Hid (∀ W, Below x7.heap.size x7 W → Calls Tryz.prog 13 #[.agg #[.int .i64 b.states, .int .i64 b.init, .slice y2 yn2 yc2, .slice y3 yn3 yc3, .slice y4 yn4 yc4, .slice y5 yn5 yc5]] W fun e w' => e = .returned (.bool true) ∧ Below W.heap.size W w') := fun W hW => by
            rw [← h1]
            exact implIaOk_any b _ W (HR7.out W hW) q2 q3 q4 q5
          have CX : Hid (∀ W, Below x7.heap.size x7 W → Tab W → Calls Tryz.prog 6 #[.agg #[.int .i64 b.states, .int .i64 b.init, .slice y2 yn2 yc2, .slice y3 yn3 yc3, .slice y4 yn4 yc4, .slice y5 yn5 yc5]] W fun e w' => e = .returned (.string t) ∧ Below W.heap.size W w') := fun W hW ht => by
            rw [← HTL.out, ← h2]
            exact implIaText_any b _ W (HR7.out W hW) q2 q3 q4 q5 ht
          clear hk h1 h2 HB0 HB1 HLS HTL HR7 q2 q3 q4 q5
          have c0 := VX8.out.cell (j := 0) (u := .int .i64 b.states) rfl
          have c1 := VX8.out.cell (j := 1) (u := .int .i64 b.init) rfl
          have c2 := VX8.out.cell (j := 2) (u := .slice y2 yn2 yc2) rfl
          have c3 := VX8.out.cell (j := 3) (u := .slice y3 yn3 yc3) rfl
          have c4 := VX8.out.cell (j := 4) (u := .slice y4 yn4 yc4) rfl
          have c5 := VX8.out.cell (j := 5) (u := .slice y5 yn5 yc5) rfl
          go_wp2_with fail
          clear c0 c1 c2 c3 c4 c5
          refine (CO.out _ BY8.out).mono ?_
          rintro e x9 ⟨rfl, hb⟩
          have BX9 : Hid (Below w.heap.size w x9) := BX8.out.trans (hb.mono BX8.out.size)
          have BY9 : Hid (Below x7.heap.size x7 x9) := BY8.out.trans (hb.mono BY8.out.size)
          have VX9 := Lib.hid (VX8.out.below hb)
          clear hb BX8 BY8 VX8 CO
          have c0 := VX9.out.cell (j := 0) (u := .int .i64 b.states) rfl
          have c1 := VX9.out.cell (j := 1) (u := .int .i64 b.init) rfl
          have c2 := VX9.out.cell (j := 2) (u := .slice y2 yn2 yc2) rfl
          have c3 := VX9.out.cell (j := 3) (u := .slice y3 yn3 yc3) rfl
          have c4 := VX9.out.cell (j := 4) (u := .slice y4 yn4 yc4) rfl
          have c5 := VX9.out.cell (j := 5) (u := .slice y5 yn5 yc5) rfl
          go_wp2_with fail
          clear c0 c1 c2 c3 c4 c5
          refine (CX.out _ BY9.out ((HE.out.env.tab).below BX9.out)).mono ?_
          rintro e y1 ⟨rfl, hb⟩
          have BXE : Hid (Below w.heap.size w y1) := BX9.out.trans (hb.mono BX9.out.size)
          clear hb BX9 BY9 VX9 CX
          go_wp2_with fail
          go_ret
          exact ⟨rfl, BXE.out⟩
        · have hk1 : (k != 0) = true := by simp [hk]
          have hb0 : b.states = 0 := by rw [HB1.out hk]; rfl
          have hb1 : (b.states == 0) = true := by simp [hb0]
          have c0 := VX8.out.cell (j := 0) (u := .int .i64 b.states) rfl
          clear hk hb0 HB0 HB1 HLS HTL HR7
          go_wp2_with fail
          clear c0
          go_ret
          exact ⟨rfl, BX8.out⟩

end Go.Proofs.YtfhjhfhfbgddeaaGreatDoor
