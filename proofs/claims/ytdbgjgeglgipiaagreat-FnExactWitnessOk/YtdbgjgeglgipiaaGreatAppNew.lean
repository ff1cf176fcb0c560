/-
  An append onto a row of the call's own lies where the row lay, or in new memory. Conditions: as each statement says; nothing here speaks of the program.
-/
import Derived.Test.YtdbgjgeglgipiaaGreatSteps
import Derived.ArgAppend
import Derived.OwnWalk
namespace Go.Proofs.YtdbgjgeglgipiaaGreat
open Go.RowKit

/-- What v' lies in is v's block, or a new one. -/
def Fresh (w : World) (v v' : Value) : Prop := ∀ q, q < w.heap.size → v.ownBlock ≠ some q → v'.ownBlock ≠ some q

theorem ownsRow_mono {w : World} {base base' : Nat} {e : TypeId} {size : Nat} {v : Value} {n : Nat} {xs : List Value} (h : w.ownsRow base' e size v n xs) (hb : base ≤ base') : w.ownsRow base e size v n xs := by
  obtain ⟨h1, h2⟩ := h
  refine ⟨h1, ?_⟩
  rcases h2 with h2 | ⟨g, cap, cur, hv, hg, r⟩
  · exact Or.inl h2
  · exact Or.inr ⟨g, cap, cur, hv, Nat.le_trans hb hg, r⟩

theorem wpList_app_new {P : Program} (w : World) {ops : Array Oper} {rest : List Oper} {o : Oper} {a : Act} {Q : Exit → Act → World → Prop} (hgd : o.guard = none) (s x : Operand) (t : TypeId)
    (ho : o.op = .call { callee := .builtin .append, args := #[s, x], argTypes := #[t, t] })
    (base : Nat) (e : TypeId) (i : TypeInfo) (z : Value) (size bytes : Nat) (ht : P.underlying t = some (.slice e)) (hi : P.info? e = some i) (hz : i.zero = some z)
    (hsize : i.size = size) (hby : i.bytes = bytes) (hzs : z.cells.size = size) (hsz : 0 < size)
    (v : Value) (n : Nat) (xs : List Value) (hs : a.eval s = v) (hown : w.ownsRow base e size v n xs)
    (ad : Addr) (m c : Nat) (news : List Value) (hx : a.eval x = .slice (some ad) m c) (hl : news.length = m * size) (hnews : ∀ j u, news[j]? = some u → w.cell? (ad.add j) = some u) (h1 : ∀ u ∈ news, u.oneCell' = true)
    (h63 : n + m ≤ maxLen) (hbytes : (n + m) * bytes ≤ 140737488355328) (hbase : base ≤ w.heap.size)
    (h : ∀ v' w', w'.ownsRow base e size v' (n + m) (xs ++ news) → w.grownBy w' v.ownBlock → Fresh w v v' → wpList P ops Q rest (a.put o.dst v') w') : wpList P ops Q (o :: rest) a w := by
  rcases hown.2 with ⟨rfl, rfl⟩ | ⟨g, cap, cur, rfl, hbg, hh, hnc, hcm, hcs, htk⟩
  · have hx0 : xs = [] := List.length_eq_zero_iff.1 (by have := hown.1; omega)
    subst hx0
    refine wpList_append_own w hgd s x t ho w.heap.size e i z size bytes ht hi hz hsize hby hzs hsz (.slice none 0 0) 0 [] hs (World.ownsRow_nil _ _ _ _) ad m c news hx hl hnews h1 h63 hbytes (Nat.le_refl _) ?_
    intro v' w' k1 k2 _
    exact h v' w' (ownsRow_mono k1 hbase) k2 (fun q hq _ e' => by have := (World.ownsRow.lt k1 q e').1; omega)
  · by_cases hf : n + m ≤ cap
    · refine wpList_append_fits w hgd s x t ho base e i size ht hi hsize g n cap xs hs hown ad m c news hx hl hnews h1 hf ?_
      intro w' k1 k2
      exact h _ w' k1 k2 (fun q _ hne => hne)
    · refine wpList_append_grows w hgd s x t ho e i z size bytes ht hi hz hsize hby hzs hsz (some ⟨g, 0, none⟩) n cap xs hs (fun e' => by cases e') hown.1 ?_ ad m c news hx hl hnews h1 (by omega) h63 hbytes ?_
      · intro b hb j u hu
        cases hb
        have hj := (List.getElem?_eq_some_iff.1 hu).1
        have hlen := hown.1
        have h2 := World.ownsRow.cellAt (h := hown) j (by omega)
        have h3 : (⟨g, 0, none⟩ : Addr).add j = ⟨g, j, none⟩ := by rw [show (⟨g, 0, none⟩ : Addr).add j = ⟨g, 0 + j, none⟩ from add_lit g 0 j, Nat.zero_add]
        rw [h3, h2]
        exact hu
      · intro v' w' k1 k2
        exact h v' w' (ownsRow_mono k1 hbase) ⟨k2.os, k2.tape, k2.output, k2.size, fun q hq _ => k2.block q hq (by simp)⟩ (fun q hq _ e' => by have := (World.ownsRow.lt k1 q e').1; omega)

/-- What an append of steps leaves. -/
def AppNewS (e : TypeId) (w w' : World) (base : Nat) (v v' : Value) (n m : Nat) (xs ys : List St) : Prop :=
  OwnsS e w' base v' (n + m) (xs ++ ys) ∧ w.grownBy w' v.ownBlock ∧ Fresh w v v'

theorem wpList_appS_new {P : Program} {w : World} {ops : Array Oper} {rest : List Oper} {o : Oper} {a : Act} {Q : Exit → Act → World → Prop} (hgd : o.guard = none) (s x : Operand) (t e : TypeId)
    (ho : o.op = .call { callee := .builtin .append, args := #[s, x], argTypes := #[t, t] })
    (base : Nat) (i : TypeInfo) (ht : P.underlying t = some (.slice e)) (hi : P.info? e = some i) (hz : i.zero = some (.agg #[.int .i64 0, .int .i64 0, .int .i64 0])) (hsize : i.size = 3) (hby : i.bytes = 24)
    (v : Value) (n : Nat) (xs : List St) (hs : a.eval s = v) (hown : OwnsS e w base v n xs) (ad : Addr) (m c : Nat) (ys : List St) (hx : a.eval x = .slice (some ad) m c) (hsrc : SrcS w (some ad) m c ys)
    (hbig : n + m ≤ 1099511627776) (hbase : base ≤ w.heap.size)
    (h : ∀ v' w', AppNewS e w w' base v v' n m xs ys → wpList P ops Q rest (a.put o.dst v') w') : wpList P ops Q (o :: rest) a w := by
  obtain ⟨hl, _, hc⟩ := hsrc
  refine wpList_app_new w hgd s x t ho base e i (.agg #[.int .i64 0, .int .i64 0, .int .i64 0]) 3 24 ht hi hz hsize hby rfl (by decide) v n _ hs hown ad m c (flat ys) hx (by rw [flat_length, hl]) (hc ad rfl) (flat_one ys) (by unfold maxLen; omega) (by omega) hbase ?_
  intro v' w' h1 h2 h3
  exact h v' w' ⟨by unfold OwnsS; rw [flat_append]; exact h1, h2, h3⟩

end Go.Proofs.YtdbgjgeglgipiaaGreat
