/-
  The contracts of NumText and NumRead of the program, and of NumRead of the model. Conditions: the variables of strconv hold what the program's text lays in them; texts of at most 2^20 bytes.
-/
import Derived.Test.YtbppboophfojkaaDoorNumMath
import Derived.Test.YtbppboophfojkaaDoorShelf
import Derived.Lib.LaidTab
import Derived.Lib.AtoiErrMem
namespace Go.Proofs.YtbppboophfojkaaDoor
open Go.RowKit

theorem var_keeps {P : Program} {w w' : World} {n : String} {cs : Array Value} (hb : Below w.heap.size w w') (hv : w.var? P n = some cs) : w'.var? P n = some cs := by
  unfold World.var? at hv ⊢
  cases hg : P.globalNamed n with
  | none => rw [hg] at hv; cases hv
  | some g =>
    rw [hg] at hv
    simp only [Option.bind_some] at hv ⊢
    have hlt : g < w.heap.size := by
      by_cases h : g < w.heap.size
      · exact h
      · rw [Array.getElem?_eq_none (by omega)] at hv; cases hv
    rw [hb.block g hlt]
    exact hv

/-- The table of powers of ten lies as the program's text lays it. -/
def Tab (w : World) : Prop := Lib.TabIs Tryd.prog w "internal/strconv.uint64pow10" .u64 Lib.pow10Tab
/-- The two errors of strconv are errors. -/
def Errs (w : World) : Prop := (∃ tp p, w.var? Tryd.prog "strconv.ErrSyntax" = some #[.iface tp p]) ∧ (∃ tp p, w.var? Tryd.prog "strconv.ErrRange" = some #[.iface tp p])

theorem Tab.below {w w' : World} (h : Tab w) (hb : Below w.heap.size w w') : Tab w' := var_keeps hb h
theorem Errs.below {w w' : World} (h : Errs w) (hb : Below w.heap.size w w') : Errs w' := by
  obtain ⟨⟨t1, p1, h1⟩, ⟨t2, p2, h2⟩⟩ := h
  exact ⟨⟨t1, p1, var_keeps hb h1⟩, ⟨t2, p2, var_keeps hb h2⟩⟩

theorem below_grow (w : World) (k : Nat) (os : Array Obj) : Below w.heap.size w (Sort.grow (w.drewN k) os) :=
  ⟨rfl, rfl, rfl, by rw [Sort.size_grow]; exact Nat.le_add_right _ _, fun i hi => Sort.heap_grow_old (w.drewN k) os hi⟩

theorem implNumText_any (n : Int) (w : World) (h : InI64 n) (ht : Tab w) :
    Calls Tryd.prog 33 #[.int .i64 n] w fun e w' => e = .returned (.string ⟨(Lib.itoa n).toArray⟩) ∧ Below w.heap.size w w' := by
  have H := Lib.hid h
  have HT := Lib.hid ht
  clear h ht
  go_enter Tryd.func33, Tryd.ntmps33
  go_wp2_with fail
  refine (Tryd.strconv_Itoa n H.out.1 H.out.2 _ HT.out).mono ?_
  rintro e w' ⟨rfl, k, os, hw⟩
  have hb : Below w.heap.size w w' := by rw [hw]; exact below_grow _ _ _
  clear hw
  go_wp2_with fail
  go_ret
  exact ⟨rfl, hb⟩

/-- A number and whether it is one come back. -/
def ReadRes (w : World) (l : List UInt8) (e : Ending) (w' : World) : Prop :=
  ∃ n b, e = .returned (.tuple #[.int .i64 n, .bool b]) ∧ ReadsAs l n b ∧ Below w.heap.size w w'

theorem val_step (s : ByteArray) (k : Nat) (h : k < s.size) : valFrom 0 (s.data.toList.take (k + 1)) = 10 * valFrom 0 (s.data.toList.take k) + (s[k].toNat - 48) := by
  rw [List.take_succ_eq_append_getElem (by simpa using h), valFrom_append]; rfl

theorem digits_step {s : ByteArray} {k : Nat} (h : k < s.size) (hd : ∀ c ∈ s.data.toList.take k, isDigit c) (hc : isDigit s[k]) : ∀ c ∈ s.data.toList.take (k + 1), isDigit c := by
  rw [List.take_succ_eq_append_getElem (by simpa using h)]
  intro c hm
  rcases List.mem_append.1 hm with hm | hm
  · exact hd c hm
  · obtain rfl := List.mem_singleton.1 hm
    exact hc

theorem at_mem (s : ByteArray) (k : Nat) (h : k < s.size) : s[k] ∈ s.data.toList := by
  have : s[k] = s.data.toList[k]'(by simpa using h) := rfl
  rw [this]; exact List.getElem_mem _

theorem pow_mono {k : Nat} (h : k ≤ 6) : (10 : Nat) ^ k ≤ 1000000 := Nat.le_trans (Nat.pow_le_pow_right (by omega) h) (by decide)

end Go.Proofs.YtbppboophfojkaaDoor
