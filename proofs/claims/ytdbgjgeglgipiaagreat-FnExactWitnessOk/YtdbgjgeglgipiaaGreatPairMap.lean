/-
  Maps of pairs, and rows of pairs in memory: two ints an element, read, owned and appended to. Conditions: as each statement says.
-/
import Derived.Test.YtdbgjgeglgipiaaGreatToStep
import Derived.Maps.OwnSet
import Derived.DeepKeys5
namespace Go.Proofs.YtdbgjgeglgipiaaGreat
open Go.RowKit

/-- What a pair is told as, as a key. -/
def prKey (a b : Int) : Lit := .string (keyBytes [.int .i64 a, .int .i64 b])

theorem pairLaid : laidOutB Tryz.prog = true := by kernel_rfl
theorem pairRow : (59 : TypeId) < Tryz.prog.types.size := of_decide_eq_true (by kernel_rfl)
theorem pairAt : Tryz.prog.keyTypeAt 3 59 = true := by kernel_rfl
theorem keyed_struct {P : Program} {k : TypeId} {fs : Array Field} (hl : laidOutB P = true) (hrow : k < P.types.size) (hk : P.keyTypeAt 3 k = true) (h : P.underlying k = some (.struct fs)) : Maps.Keyed P k :=
  Maps.Keyed.of_law (deep_law_laid hl (m := 3) (by omega) hrow hk (by simp only [h]))
theorem pairLaw : Maps.Keyed Tryz.prog 59 := keyed_struct pairLaid pairRow pairAt Tryz.underlying59
theorem pos_succ {n : Nat} (h : 0 < n) : ∃ m, n = m + 1 := ⟨n - 1, by omega⟩
theorem pairSize : ∃ m, Tryz.prog.types.size = m + 1 := pos_succ (of_decide_eq_true (by kernel_rfl))
theorem pairType : Tryz.prog.keyType 59 = true := by kernel_rfl
theorem pairCells : Tryz.prog.cellsOf 59 = 2 := by kernel_rfl
theorem intCells : Tryz.prog.cellsOf 3 = 1 := by kernel_rfl
theorem boolZero (w : World) : (zeroValue 4).run Tryz.prog w = .ok (.bool false) w := by kernel_rfl

theorem pairKeyOf {a b : Int} (wa : (Lit.int .i64 a).wf = true) (wb : (Lit.int .i64 b).wf = true) : keyOf Tryz.prog 59 (.agg #[.int .i64 a, .int .i64 b]) = some (prKey a b) := by
  have hu := Tryz.underlying59
  have hi := Tryz.underlying3
  obtain ⟨m, hm⟩ := pairSize
  unfold keyOf
  simp only [hu]
  rw [if_pos (by simp [pairType, Value.formed, hu, pairCells]), hm]
  unfold Program.keyLits
  simp only [hu, Value.cells]
  rw [if_pos (by rw [pairCells]; exact ⟨rfl, by simp⟩)]
  simp [intCells, Program.keyLits, hi, wa, wb, prKey]

theorem prKey_inj {a b c d : Int} (wa : (Lit.int .i64 a).wf = true) (wb : (Lit.int .i64 b).wf = true) (wc : (Lit.int .i64 c).wf = true) (wd : (Lit.int .i64 d).wf = true) (h : prKey a b = prKey c d) : a = c ∧ b = d := by
  have h1 := pairKeyOf wa wb
  have h2 := pairKeyOf wc wd
  rw [← h] at h2
  have := pairLaw.inj h1 h2
  simpa using this

/-- Block b is a map of pairs of at most n entries: S says what is told of each. -/
def MapB (w : World) (b n : Nat) (S : Int → Int → Bool) : Prop :=
  ∃ D : DataW Unit, w.ownsMap Tryz.prog 59 (plainElem Tryz.prog 4) b n D ∧
    ∀ p q : Int, (Lit.int .i64 p).wf = true → (Lit.int .i64 q).wf = true → D.atKey (prKey p q) (.lit (.bool false)) = .lit (.bool (S p q))

theorem MapB.made (w : World) : MapB (w.alloc (.map #[] 0)) w.heap.size 0 (fun _ _ => false) :=
  ⟨.map [], World.ownsMap_made _ _ _ _, fun _ _ _ _ => rfl⟩

theorem MapB.lt {w : World} {b n : Nat} {S : Int → Int → Bool} (h : MapB w b n S) : b < w.heap.size := by
  obtain ⟨D, h, _⟩ := h
  exact h.lt

theorem MapB.mono {w : World} {b n m : Nat} {S : Int → Int → Bool} (h : MapB w b n S) (hm : n ≤ m) : MapB w b m S := by
  obtain ⟨D, h, k⟩ := h
  exact ⟨D, h.mono hm, k⟩

theorem MapB.below {w w' : World} {b n : Nat} {S : Int → Int → Bool} (h : MapB w b n S) (hb : Below w.heap.size w w') : MapB w' b n S := by
  obtain ⟨D, h, k⟩ := h
  have hlt := h.lt
  obtain ⟨es, clock, h1, h2⟩ := h
  exact ⟨D, ⟨es, clock, (hb.block b hlt).trans h1, h2⟩, k⟩

theorem MapB.kept {w w' : World} {b n : Nat} {S : Int → Int → Bool} {row : Option Nat} (h : MapB w b n S) (hg : w.grownBy w' row) (hne : some b ≠ row) : MapB w' b n S := by
  obtain ⟨D, h, k⟩ := h
  exact ⟨D, h.kept hg hne, k⟩

theorem MapB.alloc {w : World} {b n : Nat} {S : Int → Int → Bool} (h : MapB w b n S) (o : Obj) : MapB (w.alloc o) b n S := by
  obtain ⟨D, h, k⟩ := h
  exact ⟨D, h.alloc o, k⟩

theorem MapB.drew {w : World} {b n : Nat} {S : Int → Int → Bool} (h : MapB w b n S) : MapB w.drew b n S := by
  obtain ⟨D, h, k⟩ := h
  exact ⟨D, h.drew, k⟩

/-- An element that reads as a bool's datum is that bool. -/
theorem plainElem_bool_inv {v : Value} {z : DataW Unit × List MemPlace} (h : plainElem Tryz.prog 4 v = some z) : ∃ x, v = .bool x ∧ z = (.lit (.bool x), []) := by
  unfold plainElem at h
  simp only [Tryz.underlying4 ] at h
  cases v <;> simp at h
  case bool x => exact ⟨x, rfl, h.symm⟩

theorem MapB.look {w : World} {b n : Nat} {S : Int → Int → Bool} (h : MapB w b n S) {p q : Int} (wp : (Lit.int .i64 p).wf = true) (wq : (Lit.int .i64 q).wf = true) :
    (Instr.lookup 86 (.map (some b)) (.agg #[.int .i64 p, .int .i64 q]) false).run Tryz.prog w = .ok (.bool (S p q)) w := by
  obtain ⟨D, h, k⟩ := h
  obtain ⟨v, ps, hrun, hv⟩ := h.lookup pairLaw Tryz.underlying86 (boolZero w) (plainElem_bool Tryz.underlying4 false) (pairKeyOf wp wq)
  obtain ⟨x, rfl, hx⟩ := plainElem_bool_inv hv
  simp only [Prod.mk.injEq] at hx
  have := k p q wp wq
  rw [hx.1] at this
  simp only [DataW.lit.injEq, Lit.bool.injEq] at this
  rw [hrun, this]

/-- A pair is put into the set. -/
def putP (S : Int → Int → Bool) (p q : Int) : Int → Int → Bool := fun p' q' => if p' = p ∧ q' = q then true else S p' q'

theorem wpList_putP {w : World} {ops : Array Oper} {rest : List Oper} {o : Oper} {a : Act} {Q : Exit → Act → World → Prop} (hg : o.guard = none) (m x v : Operand) (hop : o.op = Op.mapUpdate 86 m x v)
    (b n : Nat) (S : Int → Int → Bool) (hm : a.eval m = .map (some b)) (hown : MapB w b n S) (hn : n < maxLen) (p q : Int) (hx : a.eval x = .agg #[.int .i64 p, .int .i64 q]) (hv : a.eval v = .bool true) (wp : (Lit.int .i64 p).wf = true) (wq : (Lit.int .i64 q).wf = true)
    (hK : ∀ w', MapB w' b (n + 1) (putP S p q) → w.grownBy w' (some b) → wpList Tryz.prog ops Q rest (a.put o.dst undef) w') :
    wpList Tryz.prog ops Q (o :: rest) a w := by
  obtain ⟨D, h, k⟩ := hown
  refine wpList_mapUpdate_own w hg m x v 86 hop 59 4 pairLaw Tryz.underlying86 (plainElem Tryz.prog 4) b n D hm h hn _ _ (prKey p q) hx hv (pairKeyOf wp wq) (.lit (.bool true)) [] (plainElem_bool Tryz.underlying4 true) ?_
  intro w' h1 h2
  refine hK w' ⟨_, h1, fun p' q' wp' wq' => ?_⟩ h2
  unfold putP
  by_cases e : p' = p ∧ q' = q
  · obtain ⟨rfl, rfl⟩ := e
    rw [if_pos ⟨rfl, rfl⟩]
    exact Maps.atKey_put_same h.isMap (pairLaw.key (pairKeyOf wp wq)) _ _
  · rw [if_neg e, Maps.atKey_put_other (fun he => e (prKey_inj wp' wq' wp wq he))]
    exact k p' q' wp' wq'

/-! Rows of pairs. -/

abbrev Pr : Type := Int × Int

def prCells (s : Pr) : List Value := [.int .i64 s.1, .int .i64 s.2]

def flatP (ss : List Pr) : List Value := ss.flatMap prCells

theorem flatP_cons (s : Pr) (ss : List Pr) : flatP (s :: ss) = .int .i64 s.1 :: .int .i64 s.2 :: flatP ss := rfl
theorem flatP_append (xs ys : List Pr) : flatP (xs ++ ys) = flatP xs ++ flatP ys := by simp [flatP]

theorem flatP_length (ss : List Pr) : (flatP ss).length = ss.length * 2 := by
  induction ss with
  | nil => rfl
  | cons s t ih => rw [flatP_cons]; simp [ih]; omega

theorem flatP_at (ss : List Pr) (j : Nat) (s : Pr) (h : ss[j]? = some s) : (flatP ss)[j * 2]? = some (.int .i64 s.1) ∧ (flatP ss)[j * 2 + 1]? = some (.int .i64 s.2) := by
  induction ss generalizing j with
  | nil => simp at h
  | cons x t ih =>
    cases j with
    | zero =>
      simp at h
      subst h
      rw [flatP_cons]; exact ⟨rfl, rfl⟩
    | succ j =>
      have := ih j (by simpa using h)
      rw [flatP_cons]
      have e : (j + 1) * 2 = j * 2 + 2 := by omega
      rw [e]
      simpa using this

theorem flatP_one (ss : List Pr) : ∀ u ∈ flatP ss, u.oneCell' = true := by
  intro u hu
  simp only [flatP, List.mem_flatMap, prCells] at hu
  obtain ⟨s, _, h⟩ := hu
  simp at h
  rcases h with rfl | rfl <;> rfl

/-- The slice at 'a' of 'n' pairs reads as 'ss'. -/
def RowP (w : World) (a : Option Addr) (n : Nat) (ss : List Pr) : Prop :=
  ss.length = n ∧ (0 < n → ∃ b off, a = some ⟨b, off, none⟩ ∧ b < w.heap.size ∧ ∀ j s, ss[j]? = some s → w.cell? ⟨b, off + j * 2, none⟩ = some (.int .i64 s.1) ∧ w.cell? ⟨b, off + j * 2 + 1, none⟩ = some (.int .i64 s.2))

/-- An owned row of pairs. -/
def OwnsP (w : World) (base : Nat) (v : Value) (n : Nat) (ss : List Pr) : Prop := w.ownsRow base 59 2 v n (flatP ss)

theorem RowP.below {w w' : World} {a : Option Addr} {n : Nat} {ss : List Pr} (h : RowP w a n ss) (hb : Below w.heap.size w w') : RowP w' a n ss := by
  refine ⟨h.1, fun hn => ?_⟩
  obtain ⟨b, off, e, hlt, hc⟩ := h.2 hn
  refine ⟨b, off, e, Nat.lt_of_lt_of_le hlt hb.size, fun j s hs => ?_⟩
  obtain ⟨c0, c1⟩ := hc j s hs
  exact ⟨(hb.cell (p := ⟨b, off + j * 2, none⟩) hlt).trans c0, (hb.cell (p := ⟨b, off + j * 2 + 1, none⟩) hlt).trans c1⟩

section
variable {w w' : World} {base n : Nat} {v : Value} {ss : List Pr}

theorem OwnsP.below (h : OwnsP w base v n ss) (hb : Below w.heap.size w w') : OwnsP w' base v n ss := ownsRow_below h hb

theorem OwnsP.length (h : OwnsP w base v n ss) : ss.length = n := by
  have := h.1; rw [flatP_length] at this; omega

theorem OwnsP.form (h : OwnsP w base v n ss) : ∃ a c, v = .slice a n c := by
  rcases h.2 with ⟨rfl, rfl⟩ | ⟨g, cap, cur, rfl, _⟩
  · exact ⟨_, _, rfl⟩
  · exact ⟨_, _, rfl⟩

theorem OwnsP.lt (h : OwnsP w base v n ss) : ∀ k, v.ownBlock = some k → base ≤ k ∧ k < w.heap.size := World.ownsRow.lt h

theorem OwnsP.mono {base' : Nat} (h : OwnsP w base' v n ss) (hb : base ≤ base') : OwnsP w base v n ss := by
  obtain ⟨h1, h2⟩ := h
  refine ⟨h1, ?_⟩
  rcases h2 with h2 | ⟨g, cap, cur, hv, hg, r⟩
  · exact Or.inl h2
  · exact Or.inr ⟨g, cap, cur, hv, Nat.le_trans hb hg, r⟩

theorem OwnsP.alloc (h : OwnsP w base v n ss) (o : Obj) : OwnsP (w.alloc o) base v n ss := World.ownsRow.alloc h o

theorem OwnsP.grown {B : Nat} {a : World} (h : OwnsP w base v n ss) (hb : Below B a w) (hg : w.grownBy w' v.ownBlock) (hB : B ≤ base) (hs : B ≤ w.heap.size) : Below B a w' :=
  hb.grown hg hs (fun k hk => Nat.le_trans hB (h.lt k hk).1)

theorem OwnsP.keep {r : Option Nat} (h : OwnsP w base v n ss) (hg : w.grownBy w' r) (hne : ∀ k, v.ownBlock = some k → some k ≠ r) : OwnsP w' base v n ss :=
  World.ownsRow.kept h hg (by
    cases e : v.ownBlock with
    | none => exact Or.inl rfl
    | some k => exact Or.inr (hne k e))

theorem OwnsP.cells {g c : Nat} (h : OwnsP w base (.slice (some ⟨g, 0, none⟩) n c) n ss) : g < w.heap.size ∧ ∀ j s, ss[j]? = some s → w.cell? ⟨g, j * 2, none⟩ = some (.int .i64 s.1) ∧ w.cell? ⟨g, j * 2 + 1, none⟩ = some (.int .i64 s.2) := by
  refine ⟨(h.lt g rfl).2, fun j s hs => ?_⟩
  have hj := (List.getElem?_eq_some_iff.1 hs).1
  have hl := h.length
  obtain ⟨f0, f1⟩ := flatP_at ss j s hs
  have h' : w.ownsRow base 59 2 (.slice (some ⟨g, 0, none⟩) n c) n (flatP ss) := h
  exact ⟨(h'.cellAt (j * 2) (by omega)).trans f0, (h'.cellAt (j * 2 + 1) (by omega)).trans f1⟩

theorem OwnsP.row {a : Option Addr} {m c : Nat} (h : OwnsP w base (.slice a m c) n ss) : m = n ∧ n ≤ c ∧ c ≤ maxLen ∧ RowP w a n ss := by
  have hl := h.length
  rcases h.2 with ⟨hv, hn⟩ | ⟨g, cap, cur, hv, hb, hg, hnc, hcm, hcs, ht⟩
  · simp at hv
    obtain ⟨rfl, rfl, rfl⟩ := hv
    subst hn
    exact ⟨rfl, Nat.le_refl _, by unfold maxLen; omega, hl, fun h0 => absurd h0 (by omega)⟩
  · simp at hv
    obtain ⟨rfl, rfl, rfl⟩ := hv
    obtain ⟨hlt, hc⟩ := OwnsP.cells h
    exact ⟨rfl, hnc, hcm, hl, fun h0 => ⟨g, 0, rfl, hlt, fun j s hs => by simpa using hc j s hs⟩⟩

end

/-- One pair that is appended. -/
def SrcP (w : World) (ad : Addr) (s : Pr) : Prop := ∀ j u, (prCells s)[j]? = some u → w.cell? (ad.add j) = some u

theorem srcP_new {w : World} {t : TypeId} {p q : Int} : SrcP (w.alloc (.cells #[.int .i64 p, .int .i64 q] t)) ⟨w.heap.size, 0, none⟩ (p, q) := by
  have hv := VarIs.new w #[.int .i64 p, .int .i64 q] t rfl
  intro j u hu
  rw [add_lit]
  match j, hu with
  | 0, hu => simp [prCells] at hu; subst hu; exact hv.cell rfl
  | 1, hu => simp [prCells] at hu; subst hu; exact hv.cell rfl
  | j + 2, hu => simp [prCells] at hu

theorem info_pair : (Tryz.prog.info? 59).map (fun i => (i.zero, i.size, i.bytes)) = some (some (.agg #[.int .i64 0, .int .i64 0]), 2, 16) := by kernel_rfl

/-- An append of one pair onto a row of pairs of the call's own; it may grow. -/
theorem wpList_appP {w : World} {ops : Array Oper} {rest : List Oper} {o : Oper} {a : Act} {Q : Exit → Act → World → Prop} (hgd : o.guard = none) (s x : Operand)
    (ho : o.op = .call { callee := .builtin .append, args := #[s, x], argTypes := #[ 40, 40 ] })
    (base : Nat) (v : Value) (n : Nat) (xs : List Pr) (hs : a.eval s = v) (hown : OwnsP w base v n xs) (ad : Addr) (c : Nat) (y : Pr) (hx : a.eval x = .slice (some ad) 1 c) (hsrc : SrcP w ad y)
    (hbig : n + 1 ≤ 1099511627776) (hbase : base ≤ w.heap.size)
    (h : ∀ v' w', OwnsP w' base v' (n + 1) (xs ++ [y]) → w.grownBy w' v.ownBlock → wpList Tryz.prog ops Q rest (a.put o.dst v') w') : wpList Tryz.prog ops Q (o :: rest) a w := by
  obtain ⟨i, hi, hz, hsize, hby⟩ := info_parts info_pair
  have e : flatP [y] = prCells y := by simp [flatP]
  refine wpList_append_own w hgd s x 40 ho base 59 i (.agg #[.int .i64 0, .int .i64 0]) 2 16 Tryz.underlying40 hi hz hsize hby rfl (by decide) v n _ hs hown ad 1 c (flatP [y]) hx rfl (by rw [e]; exact hsrc) (flatP_one [y]) (by unfold maxLen; omega) (by omega) hbase ?_
  intro v' w' h1 h2 h3
  exact h v' w' (by unfold OwnsP; rw [flatP_append]; exact h1) h2

end Go.Proofs.YtdbgjgeglgipiaaGreat
