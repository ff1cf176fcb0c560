/-
  Rows of steps in memory: three ints an element, read, owned, stored into and appended to. Conditions: none; nothing here speaks of the program.
-/
import Derived.Test.YtfhjhfhfbgddeaaGreatDoorBase
import Derived.Deep.MidRow
namespace Go.Proofs.YtfhjhfhfbgddeaaGreatDoor
open Go.RowKit

/-- A step: from, act, to. -/
abbrev St : Type := Int × Int × Int

def stCells (s : St) : List Value := [.int .i64 s.1, .int .i64 s.2.1, .int .i64 s.2.2]

def flat (ss : List St) : List Value := ss.flatMap stCells

theorem flat_nil : flat [] = [] := rfl
theorem flat_cons (s : St) (ss : List St) : flat (s :: ss) = .int .i64 s.1 :: .int .i64 s.2.1 :: .int .i64 s.2.2 :: flat ss := rfl
theorem flat_append (xs ys : List St) : flat (xs ++ ys) = flat xs ++ flat ys := by simp [flat]

theorem flat_length (ss : List St) : (flat ss).length = ss.length * 3 := by
  induction ss with
  | nil => rfl
  | cons s t ih => rw [flat_cons]; simp [ih]; omega

theorem flat_at (ss : List St) (j : Nat) (s : St) (h : ss[j]? = some s) : (flat ss)[j * 3]? = some (.int .i64 s.1) ∧ (flat ss)[j * 3 + 1]? = some (.int .i64 s.2.1) ∧ (flat ss)[j * 3 + 2]? = some (.int .i64 s.2.2) := by
  induction ss generalizing j with
  | nil => simp at h
  | cons x t ih =>
    cases j with
    | zero =>
      simp at h
      subst h
      rw [flat_cons]; exact ⟨rfl, rfl, rfl⟩
    | succ j =>
      have := ih j (by simpa using h)
      rw [flat_cons]
      have e : (j + 1) * 3 = j * 3 + 3 := by omega
      rw [e]
      simpa using this

theorem flat_set (ss : List St) (j : Nat) (s : St) : ((((flat ss).set (j * 3) (.int .i64 s.1)).set (j * 3 + 1) (.int .i64 s.2.1)).set (j * 3 + 2) (.int .i64 s.2.2)) = flat (ss.set j s) := by
  induction ss generalizing j with
  | nil => simp [flat]
  | cons x t ih =>
    cases j with
    | zero => rw [flat_cons]; rfl
    | succ j =>
      have e : (j + 1) * 3 = j * 3 + 1 + 1 + 1 := by omega
      show _ = flat (x :: t.set j s)
      rw [flat_cons, e, flat_cons, ← ih j]
      rfl

theorem flat_one (ss : List St) : ∀ u ∈ flat ss, u.oneCell' = true := by
  intro u hu
  simp only [flat, List.mem_flatMap, stCells] at hu
  obtain ⟨s, _, h⟩ := hu
  simp at h
  rcases h with rfl | rfl | rfl <;> rfl

/-- The slice at 'a' of 'n' steps reads as 'ss'. -/
def RowS (w : World) (a : Option Addr) (n : Nat) (ss : List St) : Prop :=
  ss.length = n ∧ (0 < n → ∃ b off, a = some ⟨b, off, none⟩ ∧ b < w.heap.size ∧ ∀ j s, ss[j]? = some s → w.cell? ⟨b, off + j * 3, none⟩ = some (.int .i64 s.1) ∧ w.cell? ⟨b, off + j * 3 + 1, none⟩ = some (.int .i64 s.2.1) ∧ w.cell? ⟨b, off + j * 3 + 2, none⟩ = some (.int .i64 s.2.2))

/-- An owned row of steps, of the element type 'e'. -/
def OwnsS (e : TypeId) (w : World) (base : Nat) (v : Value) (n : Nat) (ss : List St) : Prop := w.ownsRow base e 3 v n (flat ss)

theorem RowS.below {w w' : World} {a : Option Addr} {n : Nat} {ss : List St} (h : RowS w a n ss) (hb : Below w.heap.size w w') : RowS w' a n ss := by
  refine ⟨h.1, fun hn => ?_⟩
  obtain ⟨b, off, e, hlt, hc⟩ := h.2 hn
  refine ⟨b, off, e, Nat.lt_of_lt_of_le hlt hb.size, fun j s hs => ?_⟩
  obtain ⟨c0, c1, c2⟩ := hc j s hs
  exact ⟨(hb.cell (p := ⟨b, off + j * 3, none⟩) hlt).trans c0, (hb.cell (p := ⟨b, off + j * 3 + 1, none⟩) hlt).trans c1, (hb.cell (p := ⟨b, off + j * 3 + 2, none⟩) hlt).trans c2⟩

/-- The range of one element. -/
theorem rangeAt_step {w : World} {b o : Nat} {s : St} (c0 : w.cell? ⟨b, o, none⟩ = some (.int .i64 s.1)) (c1 : w.cell? ⟨b, o + 1, none⟩ = some (.int .i64 s.2.1)) (c2 : w.cell? ⟨b, o + 2, none⟩ = some (.int .i64 s.2.2)) : w.rangeAt b o (stCells s) := by
  intro j v hv
  match j, hv with
  | 0, hv => simp [stCells] at hv; subst hv; exact c0
  | 1, hv => simp [stCells] at hv; subst hv; exact c1
  | 2, hv => simp [stCells] at hv; subst hv; exact c2
  | j + 3, hv => simp [stCells] at hv

section
variable {e : TypeId} {w w' : World} {base n : Nat} {v : Value} {ss : List St}

theorem OwnsS.below (h : OwnsS e w base v n ss) (hb : Below w.heap.size w w') : OwnsS e w' base v n ss := ownsRow_below h hb

theorem OwnsS.length (h : OwnsS e w base v n ss) : ss.length = n := by
  have := h.1; rw [flat_length] at this; omega

theorem OwnsS.form (h : OwnsS e w base v n ss) : ∃ a c, v = .slice a n c := by
  rcases h.2 with ⟨rfl, rfl⟩ | ⟨g, cap, cur, rfl, _⟩
  · exact ⟨_, _, rfl⟩
  · exact ⟨_, _, rfl⟩

theorem OwnsS.head (h : OwnsS e w base v n ss) (hv : ¬ v = .slice none 0 0) : ∃ g c, v = .slice (some ⟨g, 0, none⟩) n c := by
  rcases h.2 with ⟨h2, _⟩ | ⟨g, cap, cur, h2, _⟩
  · exact absurd h2 hv
  · exact ⟨g, cap, h2⟩

theorem OwnsS.lt (h : OwnsS e w base v n ss) : ∀ k, v.ownBlock = some k → base ≤ k ∧ k < w.heap.size := World.ownsRow.lt h

theorem OwnsS.mono {base' : Nat} (h : OwnsS e w base' v n ss) (hb : base ≤ base') : OwnsS e w base v n ss := by
  obtain ⟨h1, h2⟩ := h
  refine ⟨h1, ?_⟩
  rcases h2 with h2 | ⟨g, cap, cur, hv, hg, r⟩
  · exact Or.inl h2
  · exact Or.inr ⟨g, cap, cur, hv, Nat.le_trans hb hg, r⟩

theorem OwnsS.alloc (h : OwnsS e w base v n ss) (o : Obj) : OwnsS e (w.alloc o) base v n ss := World.ownsRow.alloc h o

theorem OwnsS.grown {B : Nat} {a : World} (h : OwnsS e w base v n ss) (hb : Below B a w) (hg : w.grownBy w' v.ownBlock) (hB : B ≤ base) (hs : B ≤ w.heap.size) : Below B a w' :=
  hb.grown hg hs (fun k hk => Nat.le_trans hB (h.lt k hk).1)

theorem OwnsS.keep {r : Option Nat} (h : OwnsS e w base v n ss) (hg : w.grownBy w' r) (hne : ∀ k, v.ownBlock = some k → some k ≠ r) : OwnsS e w' base v n ss :=
  World.ownsRow.kept h hg (by
    cases e : v.ownBlock with
    | none => exact Or.inl rfl
    | some k => exact Or.inr (hne k e))

theorem OwnsS.cells {g c : Nat} (h : OwnsS e w base (.slice (some ⟨g, 0, none⟩) n c) n ss) : g < w.heap.size ∧ ∀ j s, ss[j]? = some s → w.cell? ⟨g, j * 3, none⟩ = some (.int .i64 s.1) ∧ w.cell? ⟨g, j * 3 + 1, none⟩ = some (.int .i64 s.2.1) ∧ w.cell? ⟨g, j * 3 + 2, none⟩ = some (.int .i64 s.2.2) := by
  refine ⟨(h.lt g rfl).2, fun j s hs => ?_⟩
  have hj := (List.getElem?_eq_some_iff.1 hs).1
  have hl := h.length
  obtain ⟨f0, f1, f2⟩ := flat_at ss j s hs
  have h' : w.ownsRow base e 3 (.slice (some ⟨g, 0, none⟩) n c) n (flat ss) := h
  exact ⟨(h'.cellAt (j * 3) (by omega)).trans f0, (h'.cellAt (j * 3 + 1) (by omega)).trans f1, (h'.cellAt (j * 3 + 2) (by omega)).trans f2⟩

theorem OwnsS.row {a : Option Addr} {m c : Nat} (h : OwnsS e w base (.slice a m c) n ss) : m = n ∧ n ≤ c ∧ c ≤ maxLen ∧ RowS w a n ss := by
  have hl := h.length
  rcases h.2 with ⟨hv, hn⟩ | ⟨g, cap, cur, hv, hb, hg, hnc, hcm, hcs, ht⟩
  · simp at hv
    obtain ⟨rfl, rfl, rfl⟩ := hv
    subst hn
    exact ⟨rfl, Nat.le_refl _, by unfold maxLen; omega, hl, fun h0 => absurd h0 (by omega)⟩
  · simp at hv
    obtain ⟨rfl, rfl, rfl⟩ := hv
    obtain ⟨hlt, hc⟩ := OwnsS.cells h
    exact ⟨rfl, hnc, hcm, hl, fun h0 => ⟨g, 0, rfl, hlt, fun j s hs => by simpa using hc j s hs⟩⟩

/-- One step is stored, cell by cell. -/
theorem OwnsS.stored {g c : Nat} (h : OwnsS e w base (.slice (some ⟨g, 0, none⟩) n c) n ss) (j : Nat) (s : St) :
    OwnsS e (w.setCells g (j * 3) (stCells s)) base (.slice (some ⟨g, 0, none⟩) n c) n (ss.set j s) ∧ w.grownBy (w.setCells g (j * 3) (stCells s)) (some g) := by
  have h' : w.ownsRow base e 3 (.slice (some ⟨g, 0, none⟩) n c) n (flat ss) := h
  obtain ⟨a1, b1⟩ := h'.stored (j * 3) (.int .i64 s.1)
  obtain ⟨a2, b2⟩ := a1.stored (j * 3 + 1) (.int .i64 s.2.1)
  obtain ⟨a3, b3⟩ := a2.stored (j * 3 + 2) (.int .i64 s.2.2)
  rw [flat_set] at a3
  exact ⟨a3, grownBy_trans (grownBy_trans b1 b2) b3⟩

theorem OwnsS.there {g c : Nat} (h : OwnsS e w base (.slice (some ⟨g, 0, none⟩) n c) n ss) (j : Nat) (hj : j < n) : w.there g (j * 3) 3 := by
  intro i hi
  have hl := h.length
  obtain ⟨f0, f1, f2⟩ := h.cells.2 j _ (List.getElem?_eq_getElem (by omega))
  have h' : w.ownsRow base e 3 (.slice (some ⟨g, 0, none⟩) n c) n (flat ss) := h
  refine ⟨?_, h'.frozenAt _⟩
  match i, hi with
  | 0, _ => rw [Nat.add_zero, f0]; rfl
  | 1, _ => rw [f1]; rfl
  | 2, _ => rw [f2]; rfl

end

/-- Steps that are appended. -/
def SrcS (w : World) (ao : Option Addr) (m c : Nat) (ys : List St) : Prop :=
  ys.length = m ∧ (ao = none → m = 0 ∧ c = 0) ∧ ∀ ad, ao = some ad → ∀ j u, (flat ys)[j]? = some u → w.cell? (ad.add j) = some u

theorem SrcS.nil (w : World) : SrcS w none 0 0 [] := ⟨rfl, fun _ => ⟨rfl, rfl⟩, fun _ _ j u hu => by simp [flat] at hu⟩

theorem SrcS.empty (w : World) (ad : Addr) (c : Nat) : SrcS w (some ad) 0 c [] := ⟨rfl, (fun h => by cases h), fun _ _ j u hu => by simp [flat] at hu⟩

theorem srcS_of {w : World} {b off m c : Nat} {ys : List St} (hl : ys.length = m) (hc : ∀ j s, ys[j]? = some s → w.cell? ⟨b, off + j * 3, none⟩ = some (.int .i64 s.1) ∧ w.cell? ⟨b, off + j * 3 + 1, none⟩ = some (.int .i64 s.2.1) ∧ w.cell? ⟨b, off + j * 3 + 2, none⟩ = some (.int .i64 s.2.2)) :
    SrcS w (some ⟨b, off, none⟩) m c ys := by
  refine ⟨hl, (fun h => by cases h), fun ad had j u hu => ?_⟩
  cases had
  have hj := (List.getElem?_eq_some_iff.1 hu).1
  rw [flat_length] at hj
  have hq : j / 3 < ys.length := by omega
  obtain ⟨c0, c1, c2⟩ := hc (j / 3) _ (List.getElem?_eq_getElem hq)
  obtain ⟨f0, f1, f2⟩ := flat_at ys (j / 3) _ (List.getElem?_eq_getElem hq)
  rw [add_lit]
  have hr : j = j / 3 * 3 ∨ j = j / 3 * 3 + 1 ∨ j = j / 3 * 3 + 2 := by omega
  generalize hg : j / 3 = q at *
  rcases hr with rfl | rfl | rfl
  · rw [f0] at hu; rw [c0, hu]
  · rw [f1] at hu; rw [← Nat.add_assoc, c1, hu]
  · rw [f2] at hu; rw [← Nat.add_assoc, c2, hu]

theorem RowS.src {w : World} {a : Option Addr} {n c : Nat} {ss : List St} (h : RowS w a n ss) (ha : a = none → n = 0 ∧ c = 0) : SrcS w a n c ss := by
  cases a with
  | none =>
    obtain ⟨rfl, rfl⟩ := ha rfl
    obtain rfl : ss = [] := List.length_eq_zero_iff.1 h.1
    exact SrcS.nil w
  | some ad =>
    by_cases hn : 0 < n
    · obtain ⟨b, off, e, _, hc⟩ := h.2 hn
      cases e
      exact srcS_of h.1 hc
    · obtain rfl : n = 0 := by omega
      obtain rfl : ss = [] := List.length_eq_zero_iff.1 h.1
      exact SrcS.empty w ad c

/-- What an append of steps leaves. -/
def AppResS (e : TypeId) (w w' : World) (base : Nat) (v v' : Value) (n m : Nat) (xs ys : List St) : Prop :=
  OwnsS e w' base v' (n + m) (xs ++ ys) ∧ w.grownBy w' v.ownBlock ∧ (v' = .slice none 0 0 ↔ v = .slice none 0 0 ∧ m = 0)

/-- An append onto a row of steps of the call's own; it may grow. -/
theorem wpList_appS {P : Program} {w : World} {ops : Array Oper} {rest : List Oper} {o : Oper} {a : Act} {Q : Exit → Act → World → Prop} (hgd : o.guard = none) (s x : Operand) (t e : TypeId)
    (ho : o.op = .call { callee := .builtin .append, args := #[s, x], argTypes := #[t, t] })
    (base : Nat) (i : TypeInfo) (ht : P.underlying t = some (.slice e)) (hi : P.info? e = some i) (hz : i.zero = some (.agg #[.int .i64 0, .int .i64 0, .int .i64 0])) (hsize : i.size = 3) (hby : i.bytes = 24)
    (v : Value) (n : Nat) (xs : List St) (hs : a.eval s = v) (hown : OwnsS e w base v n xs) (ao : Option Addr) (m c : Nat) (ys : List St) (hx : a.eval x = .slice ao m c) (hsrc : SrcS w ao m c ys)
    (hbig : n + m ≤ 1099511627776) (hbase : base ≤ w.heap.size)
    (h : ∀ v' w', AppResS e w w' base v v' n m xs ys → wpList P ops Q rest (a.put o.dst v') w') : wpList P ops Q (o :: rest) a w := by
  obtain ⟨hl, hn, hc⟩ := hsrc
  cases ao with
  | none =>
    obtain ⟨rfl, rfl⟩ := hn rfl
    obtain rfl : ys = [] := List.length_eq_zero_iff.1 hl
    refine wpList_append_own_none hgd s x t ho base e i 3 ht hi v n _ hs hown hx ?_
    exact h v w ⟨by simpa using hown, ⟨rfl, rfl, rfl, Nat.le_refl _, fun _ _ _ => rfl⟩, by simp⟩
  | some ad =>
    refine wpList_append_own w hgd s x t ho base e i (.agg #[.int .i64 0, .int .i64 0, .int .i64 0]) 3 24 ht hi hz hsize hby rfl (by decide) v n _ hs hown ad m c (flat ys) hx (by rw [flat_length, hl]) (hc ad rfl) (flat_one ys) (by unfold maxLen; omega) (by omega) hbase ?_
    intro v' w' h1 h2 h3
    exact h v' w' ⟨by unfold OwnsS; rw [flat_append]; exact h1, h2, h3⟩

end Go.Proofs.YtfhjhfhfbgddeaaGreatDoor
