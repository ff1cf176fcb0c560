/-
  Contracts of the model's cursor over a code (l01Open, pick, once, raw): each answers a number within its bound and moves the cursor alone. Conditions: the code is a slice of at most 2^20 bytes that lies below the cursor's own block.
-/
import Derived.Test.YtbppboophfojkaaDoorChecked
import Derived.Test.YtbppboophfojkaaDoorBase
import Derived.Deep.QuietTactic
import Derived.BigQuiet
import Derived.WalkSmall
namespace Go.Proofs.YtbppboophfojkaaDoor
open Go.RowKit

/-- A slice of bytes below block 'P'. -/
def Code (w : World) (P : Nat) (a : Option Addr) (n : Nat) : Prop :=
  0 < n → ∃ b off, a = some ⟨b, off, none⟩ ∧ b < P ∧ b < w.heap.size ∧ ∀ i, i < n → ∃ y : Nat, y ≤ 255 ∧ w.cell? ⟨b, off + i, none⟩ = some (.int .u8 y)

theorem Code.grown {w w' : World} {P n : Nat} {a : Option Addr} (h : Code w P a n) (hg : w.grownBy w' (some P)) : Code w' P a n := by
  intro hn
  obtain ⟨b, off, e, hb, hs, hc⟩ := h hn
  refine ⟨b, off, e, hb, Nat.lt_of_lt_of_le hs hg.size, fun i hi => ?_⟩
  obtain ⟨y, hy, hcell⟩ := hc i hi
  exact ⟨y, hy, hg.cell hcell (by simp; omega)⟩

theorem Code.below {w w' : World} {P n : Nat} {a : Option Addr} (h : Code w P a n) (hb : Below w.heap.size w w') : Code w' P a n := by
  intro hn
  obtain ⟨b, off, e, hbP, hs, hc⟩ := h hn
  refine ⟨b, off, e, hbP, Nat.lt_of_lt_of_le hs hb.size, fun i hi => ?_⟩
  obtain ⟨y, hy, hcell⟩ := hc i hi
  exact ⟨y, hy, (hb.cell (p := ⟨b, off + i, none⟩) hs).trans hcell⟩

theorem Code.mono {w : World} {P P' n : Nat} {a : Option Addr} (h : Code w P a n) (hP : P ≤ P') : Code w P' a n := by
  intro hn
  obtain ⟨b, off, e, hb, r⟩ := h hn
  exact ⟨b, off, e, by omega, r⟩

theorem grownBy_set (w : World) (P o : Nat) (v : Value) : w.grownBy (w.setCell ⟨P, o, none⟩ v) (some P) :=
  ⟨rfl, rfl, rfl, by simp [World.setCell], fun k _ hk => Below.heap_setCell _ _ _ _ (fun e => hk (by simp [e]))⟩
theorem grownBy_drewN (w : World) (n : Nat) (r : Option Nat) : w.grownBy (w.drewN n) r := ⟨rfl, rfl, rfl, Nat.le_refl _, fun _ _ _ => rfl⟩

/-- A number that an int holds. -/
def InI64 (n : Int) : Prop := -9223372036854775808 ≤ n ∧ n ≤ 9223372036854775807

def rawTab : Array Value := #[.int .i64 9223372036854775807, .int .i64 (-9223372036854775808), .int .i64 4611686018427387904, .int .i64 1000, .int .i64 1001, .int .i64 (-1000), .int .i64 100000, .int .i64 100001]

theorem raw_at : ∀ j, j < 8 → ∃ u, InI64 u ∧ rawTab[j]? = some (.int .i64 u)
  | 0, _ => ⟨_, ⟨by decide, by decide⟩, rfl⟩ | 1, _ => ⟨_, ⟨by decide, by decide⟩, rfl⟩ | 2, _ => ⟨_, ⟨by decide, by decide⟩, rfl⟩ | 3, _ => ⟨_, ⟨by decide, by decide⟩, rfl⟩ | 4, _ => ⟨_, ⟨by decide, by decide⟩, rfl⟩ | 5, _ => ⟨_, ⟨by decide, by decide⟩, rfl⟩ | 6, _ => ⟨_, ⟨by decide, by decide⟩, rfl⟩ | 7, _ => ⟨_, ⟨by decide, by decide⟩, rfl⟩

theorem raw_cell {w1 w2 : World} {P j : Nat} (hg : (w1.alloc (.cells rawTab 3)).grownBy w2 (some P)) (hP : P < w1.heap.size) (hj : j < 8) : ∃ u, InI64 u ∧ w2.cell? ⟨w1.heap.size, j, none⟩ = some (.int .i64 u) := by
  obtain ⟨u, hi, hu⟩ := raw_at j hj
  refine ⟨u, hi, ?_⟩
  have h1 : (w1.alloc (.cells rawTab 3)).cell? ⟨w1.heap.size, j, none⟩ = some (.int .i64 u) := by
    rw [cell_of_row _ w1.heap.size j rawTab 3 (0, 0) (heap_alloc_new w1 _)]
    exact hu
  exact hg.cell h1 (by simp; omega)

theorem below_of_grown {w w1 w2 : World} (hb : Below w.heap.size w w1) (hg : w1.grownBy w2 (some w.heap.size)) : Below w.heap.size w w2 :=
  hb.grown hg hb.size (fun k hk => by cases hk; exact Nat.le_refl _)

theorem IsRow.code {w : World} {a : Option Addr} {len cap : Nat} {zs : List Int} (h : IsRow .u8 w a len cap zs) : Code w w.heap.size a len := by
  intro h0
  rcases h with ⟨rfl, rfl, rfl, rfl⟩ | ⟨x, rfl, hl, hm, hz, hcell, hwz⟩
  · omega
  · obtain ⟨b, off, spot⟩ := x
    have hc := hcell 0 (by omega)
    have hspot : spot = none := by simpa [Addr.add] using World.cell?_spot hc
    subst hspot
    have hlt : b < w.heap.size := by
      have := World.block_lt_of_cell? w _ hc
      simpa [Addr.add] using this
    refine ⟨b, off, rfl, hlt, hlt, fun j hj => ?_⟩
    have := hcell j (by omega)
    rw [add_lit] at this
    have hj2 : j < zs.length := by omega
    have hw := hwz zs[j] (List.getElem_mem hj2)
    have hx : 0 ≤ zs[j] ∧ zs[j] ≤ 255 := by simpa [Lit.wf, IntKind.min, IntKind.max, IntKind.signed, IntKind.bits] using hw
    refine ⟨zs[j].toNat, by omega, ?_⟩
    rw [this, getD_eq zs j hj2]
    congr 2
    omega

theorem IsRow.lenAny {k : IntKind} {w : World} {a : Option Addr} {len cap : Nat} {zs : List Int} (h : IsRow k w a len cap zs) : len ≤ 9223372036854775807 := by
  rcases h with ⟨_, rfl, _⟩ | ⟨_, _, h1, h2, _⟩
  · omega
  · unfold maxLen at h2; omega


end Go.Proofs.YtbppboophfojkaaDoor
