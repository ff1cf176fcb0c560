/-
  Rows of ints in memory: what a slice of ints reads as, that what a call owns stays owned while only new memory is made, and the small laws of lists that the walks of this seat use. Conditions: none; nothing here speaks of the program.
-/
import Derived.WalkKit
import Derived.ProofKit
import Derived.Lib.Hide
import Derived.Laws.AppendOwnNone
namespace Go.Proofs.YtfhjhfhfbgddeaaGreatDoor
open Go.RowKit

/-- The slice at 'a' of 'n' elements reads as the numbers 'xs'. -/
def Row (w : World) (a : Option Addr) (n : Nat) (xs : List Int) : Prop :=
  xs.length = n ∧ (0 < n → ∃ b off, a = some ⟨b, off, none⟩ ∧ b < w.heap.size ∧ ∀ j, j < n → w.cell? ⟨b, off + j, none⟩ = some (.int .i64 (xs.getD j 0)))

/-- An owned row of ints. -/
def Owns (w : World) (base : Nat) (v : Value) (n : Nat) (xs : List Int) : Prop :=
  w.ownsRow base 3 1 v n (xs.map (Value.int .i64))

theorem Row.below {w w' : World} {a : Option Addr} {n : Nat} {xs : List Int} (h : Row w a n xs) (hb : Below w.heap.size w w') : Row w' a n xs := by
  refine ⟨h.1, fun hn => ?_⟩
  obtain ⟨b, off, e, hlt, hc⟩ := h.2 hn
  exact ⟨b, off, e, Nat.lt_of_lt_of_le hlt hb.size, fun j hj => (hb.cell (p := ⟨b, off + j, none⟩) hlt).trans (hc j hj)⟩

theorem ownsRow_below {w w' : World} {base : Nat} {e : TypeId} {size : Nat} {v : Value} {n : Nat} {xs : List Value} (h : w.ownsRow base e size v n xs) (hb : Below w.heap.size w w') : w'.ownsRow base e size v n xs := by
  obtain ⟨h1, h2⟩ := h
  refine ⟨h1, ?_⟩
  rcases h2 with h2 | ⟨g, cap, cur, hv, hg, hh, r⟩
  · exact Or.inl h2
  · have hlt : g < w.heap.size := by
      by_cases hlt : g < w.heap.size
      · exact hlt
      · rw [Array.getElem?_eq_none (by omega)] at hh; cases hh
    exact Or.inr ⟨g, cap, cur, hv, hg, by rw [hb.block g hlt]; exact hh, r⟩

theorem Owns.below {w w' : World} {base : Nat} {v : Value} {n : Nat} {xs : List Int} (h : Owns w base v n xs) (hb : Below w.heap.size w w') : Owns w' base v n xs := ownsRow_below h hb

theorem Owns.length {w : World} {base : Nat} {v : Value} {n : Nat} {xs : List Int} (h : Owns w base v n xs) : xs.length = n := by
  have := h.1; simpa using this

theorem Owns.form {w : World} {base : Nat} {v : Value} {n : Nat} {xs : List Int} (h : Owns w base v n xs) : ∃ a c, v = .slice a n c := by
  rcases h.2 with ⟨rfl, rfl⟩ | ⟨g, cap, cur, rfl, _⟩
  · exact ⟨_, _, rfl⟩
  · exact ⟨_, _, rfl⟩

theorem Owns.row {w : World} {base : Nat} {a : Option Addr} {n m c : Nat} {xs : List Int} (h : Owns w base (.slice a m c) n xs) : m = n ∧ n ≤ c ∧ c ≤ maxLen ∧ Row w a n xs := by
  have hl := h.length
  rcases h.2 with ⟨hv, hn⟩ | ⟨g, cap, cur, hv, hb, hg, hnc, hcm, hcs, ht⟩
  · simp at hv
    obtain ⟨rfl, rfl, rfl⟩ := hv
    subst hn
    exact ⟨rfl, Nat.le_refl _, by unfold maxLen; omega, hl, fun h0 => absurd h0 (by omega)⟩
  · simp at hv
    obtain ⟨rfl, rfl, rfl⟩ := hv
    refine ⟨rfl, hnc, hcm, hl, fun h0 => ⟨g, 0, rfl, ?_, fun j hj => ?_⟩⟩
    · by_cases hlt : g < w.heap.size
      · exact hlt
      · rw [Array.getElem?_eq_none (by omega)] at hg; cases hg
    · have := World.ownsRow.cellAt (h := h) j (by omega)
      rw [Nat.zero_add, this]
      simp [List.getElem?_eq_getElem (show j < xs.length by omega)]

/-- What a walk is told of a slice of integers that came in. -/
def IsRow (k : IntKind) (w : World) (a : Option Addr) (len cap : Nat) (zs : List Int) : Prop :=
  (a = none ∧ len = 0 ∧ cap = 0 ∧ zs = []) ∨
  ∃ x, a = some x ∧ len ≤ cap ∧ cap ≤ maxLen ∧ zs.length = cap ∧ (∀ i, i < zs.length → w.cell? (x.add i) = some (.int k (zs.getD i 0))) ∧ ∀ n ∈ zs, (Lit.int k n).wf = true

theorem IsRow.row {w : World} {a : Option Addr} {len cap : Nat} {zs : List Int} (h : IsRow .i64 w a len cap zs) : Row w a len (zs.take len) := by
  rcases h with ⟨rfl, rfl, rfl, rfl⟩ | ⟨x, rfl, hl, hm, hz, hcell, hwz⟩
  · exact ⟨rfl, fun h => absurd h (by omega)⟩
  · refine ⟨by simp; omega, fun h0 => ?_⟩
    obtain ⟨b, off, spot⟩ := x
    have hc := hcell 0 (by omega)
    have hspot : spot = none := by simpa [Addr.add] using World.cell?_spot hc
    subst hspot
    refine ⟨b, off, rfl, ?_, fun j hj => ?_⟩
    · have := World.block_lt_of_cell? w _ hc
      simpa [Addr.add] using this
    · have := hcell j (by omega)
      have e : (⟨b, off, none⟩ : Addr).add j = ⟨b, off + j, none⟩ := by unfold Addr.add; split <;> simp_all
      rw [e] at this
      rw [this]
      simp [hj]

/-- What is appended: the cells behind an address, or nothing. -/
def Src (w : World) (ao : Option Addr) (m c : Nat) (ys : List Int) : Prop :=
  ys.length = m ∧ (ao = none → m = 0 ∧ c = 0) ∧ ∀ ad, ao = some ad → ∀ j u, (ys.map (Value.int .i64))[j]? = some u → w.cell? (ad.add j) = some u

theorem add_lit (b off j : Nat) : (⟨b, off, none⟩ : Addr).add j = ⟨b, off + j, none⟩ := by unfold Addr.add; split <;> simp_all

theorem src_of {w : World} {b off m c : Nat} {ys : List Int} (hl : ys.length = m) (hc : ∀ j, j < m → w.cell? ⟨b, off + j, none⟩ = some (.int .i64 (ys.getD j 0))) : Src w (some ⟨b, off, none⟩) m c ys := by
  refine ⟨hl, (fun h => by cases h), fun ad had j u hu => ?_⟩
  cases had
  have hj := (List.getElem?_eq_some_iff.1 hu).1
  rw [List.length_map] at hj
  rw [add_lit, hc j (by omega)]
  rw [List.getElem?_map, List.getElem?_eq_getElem hj] at hu
  rw [← hu]
  simp [hj]

theorem Src.empty (w : World) (ad : Addr) (c : Nat) : Src w (some ad) 0 c [] := ⟨rfl, (fun h => by cases h), fun _ _ j u hu => by simp at hu⟩

theorem Src.nil (w : World) : Src w none 0 0 [] := ⟨rfl, fun _ => ⟨rfl, rfl⟩, fun _ _ j u hu => by simp at hu⟩

/-- What an append leaves. -/
def AppRes (w w' : World) (base : Nat) (v v' : Value) (n m : Nat) (xs ys : List Int) : Prop :=
  Owns w' base v' (n + m) (xs ++ ys) ∧ w.grownBy w' v.ownBlock ∧ (v' = .slice none 0 0 ↔ v = .slice none 0 0 ∧ m = 0)

/-- An append onto a row of ints of the call's own; it may grow. -/
theorem wpList_app {P : Program} {w : World} {ops : Array Oper} {rest : List Oper} {o : Oper} {a : Act} {Q : Exit → Act → World → Prop} (hgd : o.guard = none) (s x : Operand)
    (ho : o.op = .call { callee := .builtin .append, args := #[s, x], argTypes := #[ 24, 24 ] })
    (base : Nat) (i : TypeInfo) (ht : P.underlying 24 = some (.slice 3)) (hi : P.info? 3 = some i) (hz : i.zero = some (.int .i64 0)) (hsize : i.size = 1) (hby : i.bytes = 8)
    (v : Value) (n : Nat) (xs : List Int) (hs : a.eval s = v) (hown : Owns w base v n xs) (ao : Option Addr) (m c : Nat) (ys : List Int) (hx : a.eval x = .slice ao m c) (hsrc : Src w ao m c ys)
    (hbig : n + m ≤ 8796093022208) (hbase : base ≤ w.heap.size)
    (h : ∀ v' w', AppRes w w' base v v' n m xs ys → wpList P ops Q rest (a.put o.dst v') w') : wpList P ops Q (o :: rest) a w := by
  obtain ⟨hl, hn, hc⟩ := hsrc
  cases ao with
  | none =>
    obtain ⟨rfl, rfl⟩ := hn rfl
    obtain rfl : ys = [] := List.length_eq_zero_iff.1 hl
    refine wpList_append_own_none hgd s x 24 ho base 3 i 1 ht hi v n _ hs hown hx ?_
    exact h v w ⟨by simpa using hown, ⟨rfl, rfl, rfl, Nat.le_refl _, fun _ _ _ => rfl⟩, by simp⟩
  | some ad =>
    refine wpList_append_own w hgd s x 24 ho base 3 i (.int .i64 0) 1 8 ht hi hz hsize hby rfl (by decide) v n _ hs hown ad m c (ys.map (Value.int .i64)) hx (by simpa using hl) (hc ad rfl) (ints_oneCell _ _) (by unfold maxLen; omega) (by omega) hbase ?_
    intro v' w' h1 h2 h3
    exact h v' w' ⟨by unfold Owns; rw [List.map_append]; exact h1, h2, h3⟩

theorem Owns.mono {w : World} {base base' : Nat} {v : Value} {n : Nat} {xs : List Int} (h : Owns w base' v n xs) (hb : base ≤ base') : Owns w base v n xs := by
  obtain ⟨h1, h2⟩ := h
  refine ⟨h1, ?_⟩
  rcases h2 with h2 | ⟨g, cap, cur, hv, hg, r⟩
  · exact Or.inl h2
  · exact Or.inr ⟨g, cap, cur, hv, Nat.le_trans hb hg, r⟩

/-- A row that is not nil begins at the head of its block. -/
theorem Owns.head {w : World} {base : Nat} {v : Value} {n : Nat} {xs : List Int} (h : Owns w base v n xs) (hv : ¬ v = .slice none 0 0) : ∃ g c, v = .slice (some ⟨g, 0, none⟩) n c := by
  rcases h.2 with ⟨h2, _⟩ | ⟨g, cap, cur, h2, _⟩
  · exact absurd h2 hv
  · exact ⟨g, cap, h2⟩

theorem Owns.lt {w : World} {base : Nat} {v : Value} {n : Nat} {xs : List Int} (h : Owns w base v n xs) : ∀ k, v.ownBlock = some k → base ≤ k ∧ k < w.heap.size := World.ownsRow.lt h

theorem Owns.grown {B : Nat} {a w w' : World} {base : Nat} {v : Value} {n : Nat} {xs : List Int} (h : Owns w base v n xs) (hb : Below B a w) (hg : w.grownBy w' v.ownBlock) (hB : B ≤ base) (hs : B ≤ w.heap.size) : Below B a w' :=
  hb.grown hg hs (fun k hk => Nat.le_trans hB (h.lt k hk).1)

theorem Owns.alloc {w : World} {base : Nat} {v : Value} {n : Nat} {xs : List Int} (h : Owns w base v n xs) (o : Obj) : Owns (w.alloc o) base v n xs := World.ownsRow.alloc h o

theorem owns_lit (w : World) (xs : List Int) (n : Nat) (hn : xs.length = n) (hm : n ≤ maxLen) : Owns (w.alloc (.cells (xs.map (Value.int .i64)).toArray 3)) w.heap.size (.slice (some ⟨w.heap.size, 0, none⟩) n n) n xs := by
  have := World.ownsRow_lit (base := w.heap.size) (e := 3) (size := 1) w (xs.map (Value.int .i64)).toArray n (Nat.le_refl _) hm (by simpa using hn)
  simpa [Owns] using this

/-- The cells of an owned row, read at its head. -/
theorem Owns.cells {w : World} {base g n c : Nat} {xs : List Int} (h : Owns w base (.slice (some ⟨g, 0, none⟩) n c) n xs) : g < w.heap.size ∧ ∀ j, j < n → w.cell? ⟨g, j, none⟩ = some (.int .i64 (xs.getD j 0)) := by
  refine ⟨(h.lt g rfl).2, fun j hj => ?_⟩
  obtain ⟨b, off, e, _, hc⟩ := h.row.2.2.2.2 (by omega)
  cases e
  simpa using hc j hj

theorem src_take {w w' : World} {g n k c : Nat} {xs : List Int} (hc : ∀ j, j < n → w.cell? ⟨g, j, none⟩ = some (.int .i64 (xs.getD j 0))) (hg : g < w.heap.size) (hl : xs.length = n) (hk : k ≤ n) (hb : Below w.heap.size w w') :
    Src w' (some ⟨g, 0, none⟩) k c (xs.take k) := by
  refine src_of (by simp; omega) (fun j hj => ?_)
  rw [hb.cell (p := ⟨g, 0 + j, none⟩) hg, Nat.zero_add, hc j (by omega)]
  simp [hj]

theorem src_drop {w w' : World} {g n k c c' : Nat} {xs : List Int} {ao : Option Addr} (hc : ∀ j, j < n → w.cell? ⟨g, j, none⟩ = some (.int .i64 (xs.getD j 0))) (hg : g < w.heap.size) (hl : xs.length = n) (hnc : n ≤ c) (hk : k ≤ n) (hb : Below w.heap.size w w')
    (hao : ¬ c = k → ao = some ⟨g, k, none⟩) (hne : ∃ ad, ao = some ad) : Src w' ao (n - k) c' (xs.drop k) := by
  by_cases e : k = n
  · obtain ⟨ad, rfl⟩ := hne
    have e1 : n - k = 0 := by omega
    have e2 : xs.drop k = [] := List.drop_eq_nil_of_le (by omega)
    rw [e1, e2]; exact Src.empty _ _ _
  · rw [hao (by omega)]
    refine src_of (by simp; omega) (fun j hj => ?_)
    rw [hb.cell (p := ⟨g, k + j, none⟩) hg, hc (k + j) (by omega)]
    simp

theorem src_one {w' : World} {g : Nat} {x : Int} (h : w'.cell? ⟨g, 0, none⟩ = some (.int .i64 x)) : Src w' (some ⟨g, 0, none⟩) 1 1 [x] := by
  refine src_of rfl (fun j hj => ?_)
  obtain rfl : j = 0 := by omega
  simpa using h

theorem ret_bool {a b : Bool} (h : a = b) : Ending.returned (.bool a) = .returned (.bool b) := by rw [h]
theorem ret_int {k : IntKind} {a b : Int} (h : a = b) : Ending.returned (.int k a) = .returned (.int k b) := by rw [h]

theorem grownBy_trans {a b c : World} {r : Option Nat} (h : a.grownBy b r) (k : b.grownBy c r) : a.grownBy c r :=
  ⟨k.os.trans h.os, k.tape.trans h.tape, k.output.trans h.output, Nat.le_trans h.size k.size, fun i hi hne => (k.block i (Nat.lt_of_lt_of_le hi h.size) hne).trans (h.block i hi hne)⟩

theorem Owns.keep {w w' : World} {base : Nat} {v : Value} {n : Nat} {xs : List Int} {r : Option Nat} (h : Owns w base v n xs) (hg : w.grownBy w' r) (hne : ∀ k, v.ownBlock = some k → some k ≠ r) : Owns w' base v n xs :=
  World.ownsRow.kept h hg (by
    cases e : v.ownBlock with
    | none => exact Or.inl rfl
    | some k => exact Or.inr (hne k e))

theorem getD_eq (xs : List Int) (k : Nat) (h : k < xs.length) : xs.getD k 0 = xs[k] := by simp [h]

end Go.Proofs.YtfhjhfhfbgddeaaGreatDoor
