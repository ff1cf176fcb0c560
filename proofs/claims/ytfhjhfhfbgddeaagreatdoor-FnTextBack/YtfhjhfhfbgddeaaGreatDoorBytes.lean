/-
  Rows of bytes of the call's own, an append onto one, and the text that a row of bytes is. Conditions: none; nothing here speaks of the program.
-/
import Derived.Test.YtfhjhfhfbgddeaaGreatDoorBase
import Derived.Lib.UnsafeStr
import Derived.Laws.IdiomStrings
namespace Go.Proofs.YtfhjhfhfbgddeaaGreatDoor
open Go.RowKit

/-- An owned row of bytes. -/
def OwnsB (w : World) (base : Nat) (v : Value) (n : Nat) (bs : List UInt8) : Prop :=
  w.ownsRow base 5 1 v n (Lib.byteCells bs)

theorem OwnsB.length {w : World} {base : Nat} {v : Value} {n : Nat} {xs : List UInt8} (h : OwnsB w base v n xs) : xs.length = n := by
  have := h.1; simpa [Lib.byteCells] using this
theorem OwnsB.lt {w : World} {base : Nat} {v : Value} {n : Nat} {xs : List UInt8} (h : OwnsB w base v n xs) : ∀ k, v.ownBlock = some k → base ≤ k ∧ k < w.heap.size := World.ownsRow.lt h
theorem OwnsB.below {w w' : World} {base : Nat} {v : Value} {n : Nat} {xs : List UInt8} (h : OwnsB w base v n xs) (hb : Below w.heap.size w w') : OwnsB w' base v n xs := ownsRow_below h hb
theorem OwnsB.alloc {w : World} {base : Nat} {v : Value} {n : Nat} {xs : List UInt8} (h : OwnsB w base v n xs) (o : Obj) : OwnsB (w.alloc o) base v n xs := World.ownsRow.alloc h o
theorem OwnsB.head {w : World} {base : Nat} {v : Value} {n : Nat} {xs : List UInt8} (h : OwnsB w base v n xs) (hv : ¬ v = .slice none 0 0) : ∃ g c, v = .slice (some ⟨g, 0, none⟩) n c := by
  rcases h.2 with ⟨h2, _⟩ | ⟨g, cap, cur, h2, _⟩
  · exact absurd h2 hv
  · exact ⟨g, cap, h2⟩
theorem OwnsB.mono {w : World} {base base' : Nat} {v : Value} {n : Nat} {xs : List UInt8} (h : OwnsB w base' v n xs) (hb : base ≤ base') : OwnsB w base v n xs := by
  obtain ⟨h1, h2⟩ := h
  refine ⟨h1, ?_⟩
  rcases h2 with h2 | ⟨g, cap, cur, hv, hg, r⟩
  · exact Or.inl h2
  · exact Or.inr ⟨g, cap, cur, hv, Nat.le_trans hb hg, r⟩
theorem OwnsB.grown {B : Nat} {a w w' : World} {base : Nat} {v : Value} {n : Nat} {xs : List UInt8} (h : OwnsB w base v n xs) (hb : Below B a w) (hg : w.grownBy w' v.ownBlock) (hB : B ≤ base) (hs : B ≤ w.heap.size) : Below B a w' :=
  hb.grown hg hs (fun k hk => Nat.le_trans hB (h.lt k hk).1)
theorem OwnsB.caps {w : World} {base g n c : Nat} {xs : List UInt8} (h : OwnsB w base (.slice (some ⟨g, 0, none⟩) n c) n xs) : n ≤ c ∧ c ≤ maxLen := by
  rcases h.2 with ⟨hv, _⟩ | ⟨g', cap, cur, hv, _, _, hnc, hcm, _⟩
  · cases hv
  · simp at hv; obtain ⟨rfl, rfl⟩ := hv; exact ⟨hnc, hcm⟩

theorem ownsB_lit (w : World) (xs : List UInt8) (n : Nat) (hn : xs.length = n) (hm : n ≤ maxLen) : OwnsB (w.alloc (.cells (Lib.byteCells xs).toArray 5)) w.heap.size (.slice (some ⟨w.heap.size, 0, none⟩) n n) n xs := by
  have := World.ownsRow_lit (base := w.heap.size) (e := 5) (size := 1) w (Lib.byteCells xs).toArray n (Nat.le_refl _) hm (by simpa [Lib.byteCells] using hn)
  simpa [OwnsB] using this

theorem OwnsB.cells {w : World} {base g n c : Nat} {xs : List UInt8} (h : OwnsB w base (.slice (some ⟨g, 0, none⟩) n c) n xs) : ∀ j u, (Lib.byteCells xs)[j]? = some u → w.cell? ((⟨g, 0, none⟩ : Addr).add j) = some u :=
  World.ownsRow.cells h rfl

theorem bytes_oneCell (xs : List UInt8) : ∀ u ∈ Lib.byteCells xs, u.oneCell' = true := by
  intro u hu
  obtain ⟨b, _, rfl⟩ := List.mem_map.1 hu
  rfl

/-- What an append of bytes leaves. -/
def AppResB (w w' : World) (base : Nat) (v v' : Value) (n m : Nat) (xs ys : List UInt8) : Prop :=
  OwnsB w' base v' (n + m) (xs ++ ys) ∧ w.grownBy w' v.ownBlock ∧ (v' = .slice none 0 0 ↔ v = .slice none 0 0 ∧ m = 0)

theorem wpList_appB {P : Program} {w : World} {ops : Array Oper} {rest : List Oper} {o : Oper} {a : Act} {Q : Exit → Act → World → Prop} (hgd : o.guard = none) (s x : Operand)
    (ho : o.op = .call { callee := .builtin .append, args := #[s, x], argTypes := #[ 22, 22 ] })
    (base : Nat) (i : TypeInfo) (ht : P.underlying 22 = some (.slice 5)) (hi : P.info? 5 = some i) (hz : i.zero = some (.int .u8 0)) (hsize : i.size = 1) (hby : i.bytes = 1)
    (v : Value) (n : Nat) (xs : List UInt8) (hs : a.eval s = v) (hown : OwnsB w base v n xs) (ad : Addr) (m c : Nat) (ys : List UInt8) (hx : a.eval x = .slice (some ad) m c) (hl : ys.length = m) (hc : ∀ j u, (Lib.byteCells ys)[j]? = some u → w.cell? (ad.add j) = some u)
    (hbig : n + m ≤ 8796093022208) (hbase : base ≤ w.heap.size)
    (h : ∀ v' w', AppResB w w' base v v' n m xs ys → wpList P ops Q rest (a.put o.dst v') w') : wpList P ops Q (o :: rest) a w := by
  refine wpList_append_own w hgd s x 22 ho base 5 i (.int .u8 0) 1 1 ht hi hz hsize hby rfl (by decide) v n _ hs hown ad m c (Lib.byteCells ys) hx (by simpa [Lib.byteCells] using hl) hc (bytes_oneCell _) (by unfold maxLen; omega) (by omega) hbase ?_
  intro v' w' h1 h2 h3
  exact h v' w' ⟨by unfold OwnsB; rw [Lib.byteCells, List.map_append]; exact h1, h2, h3⟩

/-- 'string(b)' of an owned row. -/
theorem OwnsB.text {P : Program} {w : World} {base g n c : Nat} {xs : List UInt8} (h : OwnsB w base (.slice (some ⟨g, 0, none⟩) n c) n xs) (hs : P.underlying 22 = some (.slice 5)) (he : P.underlying 5 = some (.int .u8)) (hd : P.underlying 9 = some .string) :
    (convert 22 9 (.slice (some ⟨g, 0, none⟩) n c)).run P w = .ok (.string ⟨xs.toArray⟩) w := by
  have hl := h.length
  subst hl
  refine run_convert_bytes_back w 22 9 5 ⟨g, 0, none⟩ c xs hs he hd (fun j hj => ?_)
  refine h.cells j _ ?_
  simp [Lib.byteCells, hj]

end Go.Proofs.YtfhjhfhfbgddeaaGreatDoor
