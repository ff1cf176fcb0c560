import Derived.Test.YtfhjhfhfbgddeaaGreatDoorChecked
import Derived.Test.YtfhjhfhfbgddeaaGreatDoorBase
import Derived.Deep.QuietTactic
import Derived.BigQuiet
import Derived.WalkSmall
import Derived.Test.YtfhjhfhfbgddeaaGreatDoorStepPut
import Derived.Test.YtfhjhfhfbgddeaaGreatDoorRegion
import Derived.Test.YtfhjhfhfbgddeaaGreatDoorAlong
import Derived.Test.YtfhjhfhfbgddeaaGreatDoorIaLaw
/-
  Contracts of the model's cursor over a code (l01Open, pick, once, raw): each answers a number within its bound and moves the cursor alone. Conditions: the code is a slice of at most 2^20 bytes that lies below the cursor's own block.
-/
namespace Go.Proofs.YtfhjhfhfbgddeaaGreatDoor
open Go.RowKit

/-- A slice of bytes below block 'P'. -/
def Code (w : World) (P : Nat) (a : Option Addr) (n : Nat) : Prop :=
  0 < n → ∃ b off, a = some ⟨b, off, none⟩ ∧ b < P ∧ b < w.heap.size ∧ ∀ i, i < n → ∃ y : Nat, y ≤ 255 ∧ w.cell? ⟨b, off + i, none⟩ = some (.int .u8 y)

/-- A cursor lies in block 'P'; it has handed out at most 't' numbers. -/
def Cur (w : World) (P t : Nat) : Prop :=
  ∃ (a : Option Addr) (n c j s : Nat), w.heap[P]? = some (.cells #[.slice a n c, .int .i64 j, .int .i64 s] 72 (0, 0)) ∧ j ≤ t ∧ s ≤ 70000 ∧ n ≤ 1048576 ∧ Code w P a n

theorem Code.grown {w w' : World} {P n : Nat} {a : Option Addr} (h : Code w P a n) (hg : w.grownBy w' (some P)) : Code w' P a n := by
  intro hn
  obtain ⟨b, off, e, hb, hs, hc⟩ := h hn
  refine ⟨b, off, e, hb, Nat.lt_of_lt_of_le hs hg.size, fun i hi => ?_⟩
  obtain ⟨y, hy, hcell⟩ := hc i hi
  exact ⟨y, hy, hg.cell hcell (by simp; omega)⟩

theorem Code.below {w w' : World} {P n : Nat} {a : Option Addr} (h : Code w P a n) (hb : Below w.heap.size w w') : Code w' P a n := by
  intro hn
  obtain ⟨b, off, e, hbP, hs, hc⟩ := h hn
  refine ⟨b, off, e, hbP, Nat.lt_of_lt_of_le hs hb.size, fun i hi => ?_⟩
  obtain ⟨y, hy, hcell⟩ := hc i hi
  exact ⟨y, hy, (hb.cell (p := ⟨b, off + i, none⟩) hs).trans hcell⟩

theorem Code.mono {w : World} {P P' n : Nat} {a : Option Addr} (h : Code w P a n) (hP : P ≤ P') : Code w P' a n := by
  intro hn
  obtain ⟨b, off, e, hb, r⟩ := h hn
  exact ⟨b, off, e, by omega, r⟩

theorem Cur.lt {w : World} {P t : Nat} (h : Cur w P t) : P < w.heap.size := by
  obtain ⟨a, n, c, j, s, hh, _⟩ := h
  by_cases hlt : P < w.heap.size
  · exact hlt
  · rw [Array.getElem?_eq_none (by omega)] at hh; cases hh

theorem Cur.mono {w : World} {P t t' : Nat} (h : Cur w P t) (ht : t ≤ t') : Cur w P t' := by
  obtain ⟨a, n, c, j, s, hh, h1, h2⟩ := h
  exact ⟨a, n, c, j, s, hh, by omega, h2⟩

theorem Cur.below {w w' : World} {P t : Nat} (h : Cur w P t) (hb : Below w.heap.size w w') : Cur w' P t := by
  have hlt := h.lt
  obtain ⟨a, n, c, j, s, hh, h1, h2, h3, h4⟩ := h
  exact ⟨a, n, c, j, s, by rw [hb.block P hlt]; exact hh, h1, h2, h3, h4.below hb⟩

/-- The cursor stays while a row at or above block 'B' is written and new blocks are made. -/
theorem Cur.keep {w w' : World} {P t B : Nat} {r : Option Nat} (h : Cur w P t) (hg : w.grownBy w' r) (hB : P < B) (hr : ∀ k, r = some k → B ≤ k) : Cur w' P t := by
  have hlt := h.lt
  obtain ⟨a, n, c, j, s, hh, h1, h2, h3, h4⟩ := h
  refine ⟨a, n, c, j, s, ?_, h1, h2, h3, fun hn => ?_⟩
  · rw [hg.block P hlt (fun e => by have := hr P e.symm; omega)]; exact hh
  · obtain ⟨b, off, e, hb, hs, hc⟩ := h4 hn
    refine ⟨b, off, e, hb, Nat.lt_of_lt_of_le hs hg.size, fun i hi => ?_⟩
    obtain ⟨y, hy, hcell⟩ := hc i hi
    exact ⟨y, hy, hg.cell hcell (fun e => by have := hr b e.symm; omega)⟩

/-- What a pick leaves. -/
def PickRes (w : World) (P t : Nat) (n : Int) (e : Ending) (w' : World) : Prop :=
  ∃ r : Int, e = .returned (.int .i64 r) ∧ 0 ≤ r ∧ r < n ∧ Cur w' P (t + 1) ∧ w.grownBy w' (some P)

theorem grownBy_set (w : World) (P o : Nat) (v : Value) : w.grownBy (w.setCell ⟨P, o, none⟩ v) (some P) :=
  ⟨rfl, rfl, rfl, by simp [World.setCell], fun k _ hk => Below.heap_setCell _ _ _ _ (fun e => hk (by simp [e]))⟩
theorem grownBy_drewN (w : World) (n : Nat) (r : Option Nat) : w.grownBy (w.drewN n) r := ⟨rfl, rfl, rfl, Nat.le_refl _, fun _ _ _ => rfl⟩

/-- The end of a pick: the place moved on, the seed as it is. -/
theorem pick_end1 {w w' : World} {P t n c j s q : Nat} {a : Option Addr} (hh : w.heap[P]? = some (.cells #[.slice a n c, .int .i64 j, .int .i64 s] 72 (0, 0))) (hj : j ≤ t) (hs : s ≤ 70000) (hn : n ≤ 1048576) (hc : Code w P a n)
    (hw : w' = (w.drewN q).setCell ⟨P, 1, none⟩ (.int .i64 ((j : Int) + 1))) : Cur w' P (t + 1) ∧ w.grownBy w' (some P) := by
  have hg : w.grownBy w' (some P) := by subst hw; exact grownBy_trans (grownBy_drewN _ _ _) (grownBy_set _ _ _ _)
  refine ⟨⟨a, n, c, j + 1, s, ?_, by omega, hs, hn, hc.grown hg⟩, hg⟩
  subst hw
  exact heap_setCell_same (w.drewN q) P 1 _ _ _ hh

/-- The same, the seed turned too. -/
theorem pick_end2 {w w' : World} {P t n c j s q q2 : Nat} {a : Option Addr} {x : Int} (hh : w.heap[P]? = some (.cells #[.slice a n c, .int .i64 j, .int .i64 s] 72 (0, 0))) (hj : j ≤ t) (hx0 : 0 ≤ x) (hx : x ≤ 70000) (hn : n ≤ 1048576) (hc : Code w P a n)
    (hw : w' = (((w.drewN q).setCell ⟨P, 2, none⟩ (.int .i64 x)).drewN q2).setCell ⟨P, 1, none⟩ (.int .i64 ((j : Int) + 1))) : Cur w' P (t + 1) ∧ w.grownBy w' (some P) := by
  have hg : w.grownBy w' (some P) := by
    subst hw; exact grownBy_trans (grownBy_trans (grownBy_trans (grownBy_drewN _ _ _) (grownBy_set _ _ _ _)) (grownBy_drewN _ _ _)) (grownBy_set _ _ _ _)
  obtain ⟨s', rfl⟩ : ∃ s' : Nat, x = (s' : Int) := ⟨x.toNat, by omega⟩
  refine ⟨⟨a, n, c, j + 1, s', ?_, by omega, by omega, hn, hc.grown hg⟩, hg⟩
  subst hw
  exact heap_setCell_same _ P 1 _ _ _ (heap_setCell_same (w.drewN q) P 2 _ _ _ hh)

set_option maxRecDepth 20000 in
set_option maxHeartbeats 1600000 in
theorem pick_any (P t : Nat) (m : Int) (w : World) (h : Cur w P t) (ht : t ≤ 1099511627776) (hm : 2 ≤ m) (hm2 : m ≤ 1048576) :
    Calls Tryz.prog 31 #[.pointer (some ⟨P, 0, none⟩), .int .i64 m] w (PickRes w P t m) := by
  obtain ⟨a, n, c, j, s, hh, hj, hs, hn, hcode⟩ := h
  have c0 : w.cell? ⟨P, 0, none⟩ = some (.slice a n c) := by rw [cell_of_row w P 0 _ _ _ hh]; rfl
  have c1 : w.cell? ⟨P, 1, none⟩ = some (.int .i64 j) := by rw [cell_of_row w P 1 _ _ _ hh]; rfl
  have c2 : w.cell? ⟨P, 2, none⟩ = some (.int .i64 s) := by rw [cell_of_row w P 2 _ _ _ hh]; rfl
  have f1 : w.frozen? ⟨P, 1, none⟩ = false := frozen_of_row w P 1 _ _ hh
  have f2 : w.frozen? ⟨P, 2, none⟩ = false := frozen_of_row w P 2 _ _ hh
  have HH := Lib.hid hh
  have HC := Lib.hid hcode
  clear hh hcode
  by_cases hlt : j < n
  · obtain ⟨b, off, rfl, hb, hbs, hcell⟩ := HC.out (by omega)
    obtain ⟨y, hy, hcy⟩ := hcell j hlt
    clear hcell
    go_enter Tryz.func31, Tryz.ntmps31
    go_wp2
    go_quiet (fail)
    go_wp2
    go_quiet (fail)
    go_wp2
    go_ret
    obtain ⟨hcur, hgr⟩ := pick_end1 (t := t) HH.out hj hs hn HC.out rfl
    exact ⟨_, rfl, Int.emod_nonneg _ (by omega), Int.emod_lt_of_pos _ (by omega), hcur, hgr⟩
  · by_cases h0 : 0 < n
    · obtain ⟨b, off, rfl, hb, hbs, hcell⟩ := HC.out (by omega)
      obtain ⟨y, hy, hcy⟩ := hcell (j % n) (Nat.mod_lt _ h0)
      have hjn := Nat.mod_lt j h0
      clear hcell
      go_enter Tryz.func31, Tryz.ntmps31
      go_wp2
      go_quiet (fail)
      go_wp2
      go_quiet (fail)
      go_wp2
      go_ret
      exact ⟨_, rfl, Int.emod_nonneg _ (by omega), Int.emod_lt_of_pos _ (by omega), pick_end2 (x := ((s : Int) * 1103 + 12345) % 65521) HH.out hj (by omega) (by omega) hn HC.out rfl⟩
    · go_enter Tryz.func31, Tryz.ntmps31
      go_wp2
      go_quiet (fail)
      go_wp2
      go_ret
      exact ⟨0, rfl, by omega, by omega, pick_end2 (x := ((s : Int) * 1103 + 12345) % 65521) (q2 := 0) HH.out hj (by omega) (by omega) hn HC.out rfl⟩

/-- What once leaves. -/
def OnceRes (w : World) (P t : Nat) (e : Ending) (w' : World) : Prop :=
  ∃ r : Bool, e = .returned (.bool r) ∧ Cur w' P (t + 1) ∧ w.grownBy w' (some P)

theorem once_any (P t : Nat) (m : Int) (w : World) (h : Cur w P t) (ht : t ≤ 1099511627776) (hm : 2 ≤ m) (hm2 : m ≤ 1048576) :
    Calls Tryz.prog 30 #[.pointer (some ⟨P, 0, none⟩), .int .i64 m] w (OnceRes w P t) := by
  have H := Lib.hid h
  clear h
  go_enter Tryz.func30, Tryz.ntmps30
  go_wp2_with fail
  refine (pick_any P t m _ H.out ht hm hm2).mono ?_
  rintro e w1 ⟨r, rfl, hr0, hr1, hcur, hg⟩
  go_wp2_with fail
  go_ret
  exact ⟨_, rfl, hcur, hg⟩

/-- A number that an int holds. -/
def InI64 (n : Int) : Prop := -9223372036854775808 ≤ n ∧ n ≤ 9223372036854775807

/-- What raw leaves. -/
def RawRes (w : World) (P t : Nat) (e : Ending) (w' : World) : Prop :=
  ∃ r : Int, e = .returned (.int .i64 r) ∧ InI64 r ∧ Cur w' P (t + 2) ∧ w.grownBy w' (some P)

def rawTab : Array Value := #[.int .i64 9223372036854775807, .int .i64 (-9223372036854775808), .int .i64 4611686018427387904, .int .i64 1000, .int .i64 1001, .int .i64 (-1000), .int .i64 100000, .int .i64 100001]

theorem raw_at : ∀ j, j < 8 → ∃ u, InI64 u ∧ rawTab[j]? = some (.int .i64 u)
  | 0, _ => ⟨_, ⟨by decide, by decide⟩, rfl⟩ | 1, _ => ⟨_, ⟨by decide, by decide⟩, rfl⟩ | 2, _ => ⟨_, ⟨by decide, by decide⟩, rfl⟩ | 3, _ => ⟨_, ⟨by decide, by decide⟩, rfl⟩ | 4, _ => ⟨_, ⟨by decide, by decide⟩, rfl⟩ | 5, _ => ⟨_, ⟨by decide, by decide⟩, rfl⟩ | 6, _ => ⟨_, ⟨by decide, by decide⟩, rfl⟩ | 7, _ => ⟨_, ⟨by decide, by decide⟩, rfl⟩

theorem raw_cell {w1 w2 : World} {P j : Nat} (hg : (w1.alloc (.cells rawTab 3)).grownBy w2 (some P)) (hP : P < w1.heap.size) (hj : j < 8) : ∃ u, InI64 u ∧ w2.cell? ⟨w1.heap.size, j, none⟩ = some (.int .i64 u) := by
  obtain ⟨u, hi, hu⟩ := raw_at j hj
  refine ⟨u, hi, ?_⟩
  have h1 : (w1.alloc (.cells rawTab 3)).cell? ⟨w1.heap.size, j, none⟩ = some (.int .i64 u) := by
    rw [cell_of_row _ w1.heap.size j rawTab 3 (0, 0) (heap_alloc_new w1 _)]
    exact hu
  exact hg.cell h1 (by simp; omega)

set_option maxRecDepth 20000 in
set_option maxHeartbeats 1600000 in
theorem raw_any (P t : Nat) (w : World) (h : Cur w P t) (ht : t ≤ 1099511627774) :
    Calls Tryz.prog 38 #[.pointer (some ⟨P, 0, none⟩)] w (RawRes w P t) := by
  have H := Lib.hid h
  clear h
  go_enter Tryz.func38, Tryz.ntmps38
  go_wp2_with fail
  refine (pick_any P t 8 _ H.out (by omega) (by omega) (by omega)).mono ?_
  rintro e w1 ⟨r, rfl, hr0, hr1, hcur, hg⟩
  have H1 := Lib.hid hcur
  clear hcur
  by_cases h0 : r = 0
  · subst h0
    go_wp2_with fail
    refine (pick_any P (t + 1) 256 _ H1.out (by omega) (by omega) (by omega)).mono ?_
    rintro e w2 ⟨r2, rfl, hr20, hr21, hcur2, hg2⟩
    go_wp2_with fail
    go_ret
    exact ⟨_, rfl, ⟨by omega, by omega⟩, hcur2, grownBy_trans hg hg2⟩
  · by_cases h1 : r = 1
    · subst h1
      clear h0
      go_wp2_with fail
      have hbel : ∀ o, Below w1.heap.size w1 (w1.alloc o) := fun o => (Below.refl _ w1).alloc (Nat.le_refl _) o
      change Calls _ _ _ (w1.alloc (.cells rawTab 3)) _
      refine (pick_any P (t + 1) 8 _ (H1.out.below (hbel _)) (by omega) (by omega) (by omega)).mono ?_
      rintro e w2 ⟨r2, rfl, hr20, hr21, hcur2, hg2⟩
      obtain ⟨j, rfl⟩ : ∃ j : Nat, r2 = (j : Int) := ⟨r2.toNat, by omega⟩
      have hj8 : j < 8 := by omega
      obtain ⟨u, hi8, hu⟩ := raw_cell hg2 H1.out.lt hj8
      have HI := Lib.hid hi8
      clear hi8
      have HG := Lib.hid (grownBy_trans hg (grownBy_trans (World.grownBy_alloc w1 (.cells rawTab 3) (some P)) hg2))
      clear hg hg2 hbel
      go_wp2_with fail
      go_ret
      exact ⟨_, rfl, HI.out, hcur2, HG.out⟩
    · go_wp2_with fail
      refine (pick_any P (t + 1) 14 _ H1.out (by omega) (by omega) (by omega)).mono ?_
      rintro e w2 ⟨r2, rfl, hr20, hr21, hcur2, hg2⟩
      go_wp2_with fail
      go_ret
      exact ⟨_, rfl, ⟨by omega, by omega⟩, hcur2, grownBy_trans hg hg2⟩

theorem open_any (a : Option Addr) (n c : Nat) (w : World) (hn : n ≤ 1048576) (hcode : Code w w.heap.size a n) :
    Calls Tryz.prog 14 #[.slice a n c] w fun e w' => e = .returned (.pointer (some ⟨w.heap.size, 0, none⟩)) ∧ Cur w' w.heap.size 0 ∧ Below w.heap.size w w' := by
  have HC := Lib.hid hcode
  clear hcode
  go_enter Tryz.func14, Tryz.ntmps14
  go_wp2
  go_ret
  have hb : ∀ o, Below w.heap.size w (w.alloc o) := fun o => (Below.refl _ w).alloc (Nat.le_refl _) o
  obtain ⟨s, hs, hs2⟩ : ∃ s : Nat, (107 + (n : Int) % 1000) = (s : Int) ∧ s ≤ 70000 := ⟨107 + n % 1000, by omega, by omega⟩
  rw [hs]
  exact ⟨rfl, ⟨a, n, c, 0, s, heap_alloc_new w _, Nat.le_refl _, hs2, hn, HC.out.below (hb _)⟩, hb _⟩

theorem below_of_grown {w w1 w2 : World} (hb : Below w.heap.size w w1) (hg : w1.grownBy w2 (some w.heap.size)) : Below w.heap.size w w2 :=
  hb.grown hg hb.size (fun k hk => by cases hk; exact Nat.le_refl _)

theorem IsRow.code {w : World} {a : Option Addr} {len cap : Nat} {zs : List Int} (h : IsRow .u8 w a len cap zs) : Code w w.heap.size a len := by
  intro h0
  rcases h with ⟨rfl, rfl, rfl, rfl⟩ | ⟨x, rfl, hl, hm, hz, hcell, hwz⟩
  · omega
  · obtain ⟨b, off, spot⟩ := x
    have hc := hcell 0 (by omega)
    have hspot : spot = none := by simpa [Addr.add] using World.cell?_spot hc
    subst hspot
    have hlt : b < w.heap.size := by
      have := World.block_lt_of_cell? w _ hc
      simpa [Addr.add] using this
    refine ⟨b, off, rfl, hlt, hlt, fun j hj => ?_⟩
    have := hcell j (by omega)
    rw [add_lit] at this
    have hj2 : j < zs.length := by omega
    have hw := hwz zs[j] (List.getElem_mem hj2)
    have hx : 0 ≤ zs[j] ∧ zs[j] ≤ 255 := by simpa [Lit.wf, IntKind.min, IntKind.max, IntKind.signed, IntKind.bits] using hw
    refine ⟨zs[j].toNat, by omega, ?_⟩
    rw [this, getD_eq zs j hj2]
    congr 2
    omega

theorem IsRow.lenAny {k : IntKind} {w : World} {a : Option Addr} {len cap : Nat} {zs : List Int} (h : IsRow k w a len cap zs) : len ≤ 9223372036854775807 := by
  rcases h with ⟨_, rfl, _⟩ | ⟨_, _, h1, h2, _⟩
  · omega
  · unfold maxLen at h2; omega


end Go.Proofs.YtfhjhfhfbgddeaaGreatDoor

/-
  Contracts of the model's cursor besides: a pick at 1, size. Conditions: those of the cursor.
-/
namespace Go.Proofs.YtfhjhfhfbgddeaaGreatDoor
open Go.RowKit

theorem grownBy_same (w : World) (r : Option Nat) : w.grownBy w r := ⟨rfl, rfl, rfl, Nat.le_refl _, fun _ _ _ => rfl⟩

theorem pick_one (P : Nat) (m : Int) (w : World) (hm : m < 2) :
    Calls Tryz.prog 31 #[.pointer (some ⟨P, 0, none⟩), .int .i64 m] w fun e w' => e = .returned (.int .i64 0) ∧ w' = w := by
  go_enter Tryz.func31, Tryz.ntmps31
  go_wp2
  go_ret
  exact ⟨rfl, rfl⟩

/-- A pick at any bound from 1 on. -/
theorem pick_le (P t : Nat) (m : Int) (w : World) (h : Cur w P t) (ht : t ≤ 1099511627776) (hm : 1 ≤ m) (hm2 : m ≤ 1048576) :
    Calls Tryz.prog 31 #[.pointer (some ⟨P, 0, none⟩), .int .i64 m] w (PickRes w P t m) := by
  by_cases h2 : 2 ≤ m
  · exact pick_any P t m w h ht h2 hm2
  · refine (pick_one P m w (by omega)).mono ?_
    rintro e w' ⟨rfl, rfl⟩
    exact ⟨0, rfl, by omega, by omega, h.mono (by omega), grownBy_same _ _⟩

set_option maxRecDepth 20000 in
set_option maxHeartbeats 1600000 in
theorem size_any (P t : Nat) (m : Int) (w : World) (h : Cur w P t) (ht : t ≤ 1099511627776) (hm : 1 ≤ m) (hm2 : m ≤ 1000000) :
    Calls Tryz.prog 66 #[.pointer (some ⟨P, 0, none⟩), .int .i64 m] w (PickRes w P t (m + 1)) := by
  have H := Lib.hid h
  obtain ⟨a, n, c, j, s, hh, hj, hs, hn, hcode⟩ := h
  have c0 : w.cell? ⟨P, 0, none⟩ = some (.slice a n c) := by rw [cell_of_row w P 0 _ _ _ hh]; rfl
  clear hh hcode
  have q1 : ((n : Int)).tdiv 8 = (n : Int) / 8 := Int.tdiv_eq_ediv_of_nonneg (by omega)
  have W1 : Hid (∀ (k : Int), 1 ≤ k → k ≤ m → Calls Tryz.prog 31 #[.pointer (some ⟨P, 0, none⟩), .int .i64 (k + 1)] w (PickRes w P t (m + 1))) := fun k hk hkm =>
    (pick_any P t (k + 1) w H.out ht (by omega) (by omega)).mono fun e w' ⟨r, he, h0, h1, hcur, hg⟩ => ⟨r, he, h0, by omega, hcur, hg⟩
  by_cases hk : 1 + (n : Int) / 8 > m
  · go_enter Tryz.func66, Tryz.ntmps66
    go_wp2_with fail
    refine (W1.out m (by omega) (by omega)).mono ?_
    rintro e w1 ⟨r, rfl, hr0, hr1, hcur, hg⟩
    go_wp2_with fail
    go_ret
    exact ⟨_, rfl, hr0, hr1, hcur, hg⟩
  · go_enter Tryz.func66, Tryz.ntmps66
    go_wp2_with fail
    refine (W1.out _ (by omega) (by omega)).mono ?_
    rintro e w1 ⟨r, rfl, hr0, hr1, hcur, hg⟩
    go_wp2_with fail
    go_ret
    exact ⟨_, rfl, hr0, hr1, hcur, hg⟩

end Go.Proofs.YtfhjhfhfbgddeaaGreatDoor

/-
  What the draws of automata need besides: calls that only make memory, and which numbers a join holds. Conditions: none.
-/
namespace Go.Proofs.YtfhjhfhfbgddeaaGreatDoor
open Go.RowKit

theorem grown_of_below {w w' : World} (h : Below w.heap.size w w') (r : Option Nat) : w.grownBy w' r :=
  ⟨h.1, h.2, h.3, h.size, fun k hk _ => h.block k hk⟩

theorem drawn_put {xs : List Int} {x y : Int} (h : y ∈ put xs x) : y ∈ xs ∨ y = x := by
  simp only [put] at h
  split at h
  · exact Or.inl h
  · rcases List.mem_append.1 h with h | h
    · exact Or.inl (List.takeWhile_subset _ h)
    · rcases List.mem_cons.1 h with h | h
      · exact Or.inr h
      · exact Or.inl (List.dropWhile_subset _ h)

theorem drawn_putAll : ∀ {ys xs : List Int} {y : Int}, y ∈ putAll xs ys → y ∈ xs ∨ y ∈ ys
  | [], _, _, h => Or.inl h
  | z :: r, xs, y, h => by
    have h1 : y ∈ putAll (put xs z) r := h
    rcases drawn_putAll h1 with h2 | h2
    · rcases drawn_put h2 with h3 | rfl
      · exact Or.inl h3
      · exact Or.inr (List.mem_cons_self ..)
    · exact Or.inr (List.mem_cons_of_mem _ h2)

theorem drawn_join {xs ys : List Int} {y : Int} (h : y ∈ joinOf xs ys) : y ∈ xs ∨ y ∈ ys := by
  rcases drawn_putAll h with h | h
  · rcases drawn_putAll h with h | h
    · simp at h
    · exact Or.inl h
  · exact Or.inr h

theorem drawn_put_len (xs : List Int) (x : Int) : (put xs x).length ≤ xs.length + 1 := by
  simp only [put]
  split
  · omega
  · have := List.takeWhile_append_dropWhile (p := fun y => decide (y < x)) (l := xs)
    have h2 := congrArg List.length this
    simp only [List.length_append, List.length_cons] at h2 ⊢
    omega

theorem drawn_putAll_len : ∀ (ys xs : List Int), (putAll xs ys).length ≤ xs.length + ys.length
  | [], xs => by simp [putAll]
  | z :: r, xs => by
    have h1 := drawn_putAll_len r (put xs z)
    have h2 := drawn_put_len xs z
    show (putAll (put xs z) r).length ≤ _
    simp only [List.length_cons]
    omega

theorem drawn_join_len (xs ys : List Int) : (joinOf xs ys).length ≤ xs.length + ys.length := by
  have h1 := drawn_putAll_len ys (putAll [] xs)
  have h2 := drawn_putAll_len xs []
  simp only [List.length_nil, Nat.zero_add] at h2
  unfold joinOf
  omega

end Go.Proofs.YtfhjhfhfbgddeaaGreatDoor

/-
  A region that draws its order, by its states: what holds in each state, whichever way it was come to. Conditions: as each statement says; nothing here speaks of the program.
-/
namespace Go.Proofs.YtfhjhfhfbgddeaaGreatDoor
open Go

theorem ready_all {l : List Nat} {i : Nat} {f : Nat → Bool} (hi : i ∈ l) (h : l.all f = true) : f i = true := List.all_eq_true.1 h i hi

section
variable {P : Program} {md : Region.Mode} {ops : Array Oper} {Q : Exit → Act → World → Prop} {S : World → Prop}

/-- In each state each operation that may come up leads to a state, and at the end what is asked stands. -/
theorem anyH_states {σ : Type} (L : σ → Array Bool) (F : σ → Nat) (J : σ → Act → World → Prop) (hS : ∀ s a w, J s a w → S w)
    (hend : ∀ s a w, J s a w → F s = 0 → Region.ready md ops (L s) = [] ∧ Q .normal a w)
    (hne : ∀ s a w, J s a w → 0 < F s → Region.ready md ops (L s) ≠ [])
    (hgo : ∀ s a w, J s a w → 0 < F s → ∀ i ∈ Region.ready md ops (L s), ∃ o, ops[i]? = some o ∧ ∀ K : Act → World → Prop, Shut (∀ s' a' w', F s' + 1 = F s → L s' = (L s).setIfInBounds i true → J s' a' w' → K a' w') →
      if Region.wanted o (yielded ops a.tmps) = true then Oper.wp P o a w K Q else K (a.put o.dst undef) w) :
    ∀ n s a w, F s = n → J s a w → wpAnyH P md ops Q S n (L s) a w := by
  intro n
  induction n with
  | zero => intro s a w hF hJ; exact hend s a w hJ hF
  | succ n ih =>
    intro s a w hF hJ
    refine ⟨fun h => absurd h (hne s a w hJ (by omega)), fun i hi => ?_⟩
    obtain ⟨o, ho, h⟩ := hgo s a w hJ (by omega) i hi
    exact wpOp_step ho (fun K' hK => h K' (fun s' a' w' hF' hL hJ' => hK a' w' ⟨hS s' a' w' hJ', by rw [← hL]; exact ih s' a' w' (by omega) hJ'⟩))
end

theorem ne_nil_of {l : List Nat} (h : l.isEmpty = false) : l ≠ [] := by
  intro e
  subst e
  cases h

section
variable {P : Program} {md : Region.Mode} {ops : Array Oper} {Q : Exit → Act → World → Prop} {S : World → Prop}

theorem anyH_from {σ : Type} (L : σ → Array Bool) (F : σ → Nat) (J : σ → Act → World → Prop) (hS : ∀ s a w, J s a w → S w)
    (hend : ∀ s a w, J s a w → F s = 0 → Region.ready md ops (L s) = [] ∧ Q .normal a w)
    (hne : ∀ s a w, J s a w → 0 < F s → Region.ready md ops (L s) ≠ [])
    (hgo : ∀ s a w, J s a w → 0 < F s → ∀ i ∈ Region.ready md ops (L s), ∃ o, ops[i]? = some o ∧ ∀ K : Act → World → Prop, Shut (∀ s' a' w', F s' + 1 = F s → L s' = (L s).setIfInBounds i true → J s' a' w' → K a' w') →
      if Region.wanted o (yielded ops a.tmps) = true then Oper.wp P o a w K Q else K (a.put o.dst undef) w)
    (s : σ) {n : Nat} {listed : Array Bool} {a : Act} {w : World} (hl : listed = L s) (hF : F s = n) (hJ : J s a w) : wpAnyH P md ops Q S n listed a w := by
  subst hl
  exact anyH_states L F J hS hend hne hgo n s a w hF hJ
end

end Go.Proofs.YtfhjhfhfbgddeaaGreatDoor

/-
  The contract of the model's draw of an automaton over given actions (over): some automaton, its steps in new memory. Conditions: those of the cursor; the three lists are rows of the caller's own.
-/
namespace Go.Proofs.YtfhjhfhfbgddeaaGreatDoor
open Go.RowKit

/-- What stands while steps are drawn: the automaton's variable, the result's, the steps, the actions, the inputs. -/
structure Ov (W : World) (P base R A : Nat) (X : Array Value) (x5 : Value) (n5 : Nat) (ss : List St) (ga na ca : Nat) (acts : List Int) (b2 : Option Addr) (n2 d2 : Nat) (ins : List Int) : Prop where
  hP : P < base
  hB : base ≤ R
  hR : R < A
  var : VarIs W A X 27
  res : VarIs W R #[.int .i64 0, .int .i64 0, .slice none 0 0, .slice none 0 0, .slice none 0 0, .slice none 0 0] 27
  own5 : OwnsS 47 W (A + 1) x5 n5 ss
  own6 : Owns W (A + 1) (.slice (some ⟨ga, 0, none⟩) na ca) na acts
  own2 : Owns W base (.slice b2 n2 d2) n2 ins
  low2 : ∀ b, (Value.slice b2 n2 d2).ownBlock = some b → b < R

section
variable {W W' : World} {P base R A : Nat} {X : Array Value} {x5 : Value} {n5 : Nat} {ss : List St} {ga na ca : Nat} {acts : List Int} {b2 : Option Addr} {n2 d2 : Nat} {ins : List Int}

theorem Ov.below (h : Ov W P base R A X x5 n5 ss ga na ca acts b2 n2 d2 ins) (hb : Below W.heap.size W W') : Ov W' P base R A X x5 n5 ss ga na ca acts b2 n2 d2 ins :=
  ⟨h.hP, h.hB, h.hR, h.var.below hb, h.res.below hb, h.own5.below hb, h.own6.below hb, h.own2.below hb, h.low2⟩

theorem Ov.alloc (h : Ov W P base R A X x5 n5 ss ga na ca acts b2 n2 d2 ins) (o : Obj) : Ov (W.alloc o) P base R A X x5 n5 ss ga na ca acts b2 n2 d2 ins := h.below ((Below.refl _ _).alloc (Nat.le_refl _) _)

theorem Ov.drew (h : Ov W P base R A X x5 n5 ss ga na ca acts b2 n2 d2 ins) : Ov W.drew P base R A X x5 n5 ss ga na ca acts b2 n2 d2 ins := h.below (Below.refl _ _).drew

/-- A block that none of these lies in is written. -/
theorem Ov.other (h : Ov W P base R A X x5 n5 ss ga na ca acts b2 n2 d2 ins) {q : Nat} (hg : W.grownBy W' (some q)) (hA : A ≠ q) (hR : R ≠ q) (h5 : x5.ownBlock ≠ some q) (h6 : ga ≠ q) (h2 : (Value.slice b2 n2 d2).ownBlock ≠ some q) : Ov W' P base R A X x5 n5 ss ga na ca acts b2 n2 d2 ins :=
  ⟨h.hP, h.hB, h.hR, h.var.grown hg (fun e => hA (Option.some.inj e)), h.res.grown hg (fun e => hR (Option.some.inj e)), h.own5.keep hg (fun k hk e => h5 (hk.trans e)), h.own6.keep hg (fun k hk e => h6 (by have e1 := hk.trans e; exact Option.some.inj e1)), h.own2.keep hg (fun k hk e => h2 (hk.trans e)), h.low2⟩

theorem Ov.pick (h : Ov W P base R A X x5 n5 ss ga na ca acts b2 n2 d2 ins) (hg : W.grownBy W' (some P)) : Ov W' P base R A X x5 n5 ss ga na ca acts b2 n2 d2 ins := by
  have h1 := h.hP
  have h2 := h.hB
  have h3 := h.hR
  refine h.other hg (by omega) (by omega) (fun e => ?_) ?_ (fun e => ?_)
  · have := (h.own5.lt P e).1; omega
  · have := (h.own6.lt ga rfl).1; omega
  · have := (h.own2.lt P e).1; omega

/-- A new variable, made behind all these, is written. -/
theorem Ov.fresh (h : Ov W P base R A X x5 n5 ss ga na ca acts b2 n2 d2 ins) {q : Nat} (hg : W.grownBy W' (some q)) (hA : A < q) (h5 : x5.ownBlock ≠ some q) (h6 : ga ≠ q) : Ov W' P base R A X x5 n5 ss ga na ca acts b2 n2 d2 ins := by
  have h3 := h.hR
  exact h.other hg (by omega) (by omega) h5 h6 (fun e => by have := h.low2 q e; omega)

end

theorem three_one (x y z : Int) : (#[.int .i64 x, .int .i64 y, .int .i64 z] : Array Value).all (·.oneCell') = true :=
  all_oneCell_toArray (fun u hu => by
    simp only [List.mem_cons, List.not_mem_nil, or_false] at hu
    rcases hu with rfl | rfl | rfl <;> rfl)

theorem var3_set {w : World} {b : Nat} {t : TypeId} {z0 z1 z2 : Value} (h : VarIs w b #[z0, z1, z2] t) (v0 v1 v2 : Value) : VarIs (w.setCells b 0 [v0, v1, v2]) b #[v0, v1, v2] t :=
  ((h.set 0 v0).set 1 v1).set 2 v2

theorem grown_past {a b c : World} {P X : Nat} (h : a.grownBy b (some P)) (k : b.grownBy c (some X)) (hX : a.heap.size ≤ X) : a.grownBy c (some P) :=
  ⟨k.os.trans h.os, k.tape.trans h.tape, k.output.trans h.output, Nat.le_trans h.size k.size, fun i hi hne => (k.block i (Nat.lt_of_lt_of_le hi h.size) (fun e => by have := Option.some.inj e; omega)).trans (h.block i hi hne)⟩

theorem six_one (s i : Int) (a2 : Option Addr) (n2 c2 : Nat) (a3 : Option Addr) (n3 c3 : Nat) (a4 : Option Addr) (n4 c4 : Nat) (a5 : Option Addr) (n5 c5 : Nat) : (#[.int .i64 s, .int .i64 i, .slice a2 n2 c2, .slice a3 n3 c3, .slice a4 n4 c4, .slice a5 n5 c5] : Array Value).all (·.oneCell') = true :=
  all_oneCell_toArray (fun u hu => by
    simp only [List.mem_cons, List.not_mem_nil, or_false] at hu
    rcases hu with rfl | rfl | rfl | rfl | rfl | rfl <;> rfl)

/-- What stands behind a region, however its operations came, is asked once. -/
theorem join_rest {P : Program} {md : Region.Mode} {ops : Array Oper} {Q : Exit → Act → World → Prop} {S : World → Prop} {n : Nat} {listed : Array Bool} {a : Act} {w : World}
    (Fr : Nat → Int → Nat → Int → Int → Act) (Ok : Nat → Int → Nat → Int → Int → World → Prop) (h2 : ∀ x f j y z we, Ok x f j y z we → Q .normal (Fr x f j y z) we)
    (h1 : Hid (∀ x f j y z we, Ok x f j y z we → Q .normal (Fr x f j y z) we) → wpAnyH P md ops Q S n listed a w) : wpAnyH P md ops Q S n listed a w := h1 h2

/-- The steps are stored into the automaton. -/
theorem Ov.put {W W' : World} {P base R A : Nat} {y0 y1 y2 y3 y4 x5 x5' : Value} {n5 n5' : Nat} {ss ss' : List St} {ga na ca : Nat} {acts : List Int} {b2 : Option Addr} {n2 d2 : Nat} {ins : List Int} (h : Ov W P base R A #[y0, y1, y2, y3, y4, x5] x5 n5 ss ga na ca acts b2 n2 d2 ins)
    (hb : Below W.heap.size W W') (h5 : OwnsS 47 W' (A + 1) x5' n5' ss') : Ov (W'.setCell ⟨A, 5, none⟩ x5') P base R A #[y0, y1, y2, y3, y4, x5'] x5' n5' ss' ga na ca acts b2 n2 d2 ins := by
  have k := h.below hb
  have hg : W'.grownBy (W'.setCell ⟨A, 5, none⟩ x5') (some A) := grownBy_set W' A 5 x5'
  have h3 := h.hR
  exact ⟨h.hP, h.hB, h.hR, k.var.set 5 x5', k.res.other (by omega) _, h5.keep hg (fun q hq e => by have h1 := (h5.lt q hq).1; have h2 := Option.some.inj e; omega), k.own6.keep hg (fun q hq e => by have h1 := (k.own6.lt q hq).1; have h2 := Option.some.inj e; omega), k.own2.keep hg (fun q hq e => by have h1 := h.low2 q hq; have h2 := Option.some.inj e; omega), h.low2⟩

theorem getD_mem (xs : List Int) (j : Nat) (h : j < xs.length) : xs.getD j 0 ∈ xs := by
  rw [getD_eq xs j h]
  exact List.getElem_mem h

/-- Numbers that are not too great. -/
def NearL (xs : List Int) : Prop := ∀ x ∈ xs, -1099511627776 ≤ x ∧ x ≤ 1099511627776

/-- What over leaves. -/
def OverRes (w : World) (P t : Nat) (b2 : Option Addr) (n2 d2 : Nat) (b3 : Option Addr) (n3 d3 : Nat) (b4 : Option Addr) (n4 d4 : Nat) (e : Ending) (w' : World) : Prop :=
  ∃ (st : Int) (x5 : Value) (n5 : Nat) (ss : List St), e = .returned (.agg #[.int .i64 st, .int .i64 0, .slice b2 n2 d2, .slice b3 n3 d3, .slice b4 n4 d4, x5]) ∧ OwnsS 47 w' w.heap.size x5 n5 ss ∧ n5 ≤ 100 ∧ (∀ s ∈ ss, Near s) ∧ 1 ≤ st ∧ st ≤ 20 ∧ Cur w' P (t + 300) ∧ w.grownBy w' (some P)

set_option maxRecDepth 20000 in
set_option maxHeartbeats 6400000 in
theorem over_any (P t base : Nat) (b2 : Option Addr) (n2 d2 : Nat) (ins : List Int) (b3 : Option Addr) (n3 d3 : Nat) (outs : List Int) (b4 : Option Addr) (n4 d4 : Nat) (hids : List Int) (many : Int) (w : World) (h : Cur w P t) (ht : t ≤ 1000000) (hm1 : 2 ≤ many) (hm2 : many ≤ 20)
    (o2 : Owns w base (.slice b2 n2 d2) n2 ins) (o3 : Owns w base (.slice b3 n3 d3) n3 outs) (o4 : Owns w base (.slice b4 n4 d4) n4 hids) (k2 : n2 ≤ 1000) (k3 : n3 ≤ 1000) (k4 : n4 ≤ 1000) (l2 : NearL ins) (l3 : NearL outs) (l4 : NearL hids) (hP : P < base) (hbase : base ≤ w.heap.size) :
    Calls Tryz.prog 54 #[.pointer (some ⟨P, 0, none⟩), .slice b2 n2 d2, .slice b3 n3 d3, .slice b4 n4 d4, .int .i64 many] w (OverRes w P t b2 n2 d2 b3 n3 d3 b4 n4 d4) := by
  have H := Lib.hid h
  have O2 := Lib.hid o2
  have O3 := Lib.hid o3
  have O4 := Lib.hid o4
  have HNJ : Hid (NearL (joinOf (joinOf ins outs) hids)) := fun x hx => by
    rcases drawn_join hx with hx | hx
    · rcases drawn_join hx with hx | hx
      · exact l2 x hx
      · exact l3 x hx
    · exact l4 x hx
  have hjl1 := drawn_join_len ins outs
  have hjl2 := drawn_join_len (joinOf ins outs) hids
  rw [o2.length, o3.length] at hjl1
  rw [o4.length] at hjl2
  clear h o2 o3 o4 l2 l3 l4
  have BZ : Hid (Below w.heap.size w (w.alloc (.cells #[.int .i64 0, .int .i64 0, .slice none 0 0, .slice none 0 0, .slice none 0 0, .slice none 0 0] 27))) := (Below.refl _ _).alloc (Nat.le_refl _) _
  have VZ := Lib.hid (VarIs.new w #[.int .i64 0, .int .i64 0, .slice none 0 0, .slice none 0 0, .slice none 0 0, .slice none 0 0] 27 rfl)
  go_enter Tryz.func54, Tryz.ntmps54
  go_wp2_with fail
  refine (pick_le P t many _ (H.out.below BZ.out) (by omega) (by omega) (by omega)).mono ?_
  rintro e w1 ⟨r, rfl, hr0, hr1, hcur, hg⟩
  have HC1 := Lib.hid hcur
  have HGA : Hid (w.grownBy w1 (some P)) := grownBy_trans (World.grownBy_alloc w _ _) hg
  have V1 := Lib.hid (VZ.out.grown hg (fun e => by have h1 := Option.some.inj e; omega))
  have P2 := Lib.hid (O2.out.keep HGA.out (fun k hk e => by have h1 := (O2.out.lt k hk).1; have h2 := Option.some.inj e; omega))
  have P3 := Lib.hid (O3.out.keep HGA.out (fun k hk e => by have h1 := (O3.out.lt k hk).1; have h2 := Option.some.inj e; omega))
  have P4 := Lib.hid (O4.out.keep HGA.out (fun k hk e => by have h1 := (O4.out.lt k hk).1; have h2 := Option.some.inj e; omega))
  have LW2 : Hid (∀ b, (Value.slice b2 n2 d2).ownBlock = some b → b < w.heap.size) := fun b hb => (O2.out.lt b hb).2
  have hA1 : w.heap.size < w1.heap.size := V1.out.lt
  clear hcur hg BZ VZ H O2 O3 O4
  obtain ⟨st, hst⟩ : ∃ st, st = 1 + r := ⟨_, rfl⟩
  have hst1 : 1 ≤ st := by omega
  have hst2 : st ≤ 20 := by omega
  have VA := Lib.hid (VarIs.new w1 #[.int .i64 st, .int .i64 0, .slice b2 n2 d2, .slice b3 n3 d3, .slice b4 n4 d4, .slice none 0 0] 27 rfl)
  have BA : Hid (Below w1.heap.size w1 (w1.alloc (.cells #[.int .i64 st, .int .i64 0, .slice b2 n2 d2, .slice b3 n3 d3, .slice b4 n4 d4, .slice none 0 0] 27))) := (Below.refl _ _).alloc (Nat.le_refl _) _
  have hr : 1 + r = st := hst.symm
  clear hst
  go_wp2_with fail
  refine (specSetJoin_any b2 b3 n2 d2 n3 d3 ins outs _ (P2.out.below BA.out).row.2.2.2 (P3.out.below BA.out).row.2.2.2 (by omega) (by omega)).mono ?_
  obtain ⟨J1, hJ1⟩ : ∃ J, J = joinOf ins outs := ⟨_, rfl⟩
  rw [← hJ1] at hjl1 hjl2 HNJ ⊢
  clear hJ1
  rintro e w2 ⟨g1, c1, rfl, ho, hb⟩
  obtain ⟨nj, hnj⟩ : ∃ n, n = J1.length := ⟨_, rfl⟩
  rw [← hnj] at hjl1 hjl2 ho ⊢
  clear hnj
  have hAa : (w1.alloc (.cells #[.int .i64 st, .int .i64 0, .slice b2 n2 d2, .slice b3 n3 d3, .slice b4 n4 d4, .slice none 0 0] 27)).heap.size = w1.heap.size + 1 := by simp
  have BB : Hid (Below w1.heap.size w1 w2) := BA.out.trans (hb.mono (by omega))
  have VA2 := Lib.hid (VA.out.below hb)
  have OJ := Lib.hid ho
  clear ho hb VA BA
  go_wp2_with fail
  refine (specSetJoin_any _ b4 nj c1 n4 d4 J1 hids _ OJ.out.row.2.2.2 (P4.out.below BB.out).row.2.2.2 (by omega) (by omega)).mono ?_
  obtain ⟨acts, hacts⟩ : ∃ J, J = joinOf J1 hids := ⟨_, rfl⟩
  rw [← hacts] at hjl2 HNJ ⊢
  clear hacts
  rintro e w3 ⟨ga, ca, rfl, ho, hb⟩
  obtain ⟨na, hna⟩ : ∃ n, n = acts.length := ⟨_, rfl⟩
  rw [← hna] at hjl2 ho ⊢
  have HAL := Lib.hid hna
  clear hna
  have BC : Hid (Below w1.heap.size w1 w3) := BB.out.trans (hb.mono (by have := VA2.out.lt; omega))
  have hA2 := VA2.out.lt
  have OV3 : Hid (Ov w3 P base w.heap.size w1.heap.size #[.int .i64 st, .int .i64 0, .slice b2 n2 d2, .slice b3 n3 d3, .slice b4 n4 d4, .slice none 0 0] (.slice none 0 0) 0 [] ga na ca acts b2 n2 d2 ins) := ⟨hP, hbase, hA1, VA2.out.below hb, V1.out.below BC.out, World.ownsRow_nil _ _ _ _, ho.mono (by omega), P2.out.below BC.out, LW2.out⟩
  have HC3 := Lib.hid (HC1.out.below BC.out)
  have HG3 : Hid (w.grownBy w3 (some P)) := grownBy_trans HGA.out (grown_of_below BC.out _)
  have hna2 : na ≤ 3000 := by omega
  have k2' := k2
  clear ho hb VA2 OJ BB V1 P2 P3 P4 HC1 HGA BC LW2 hjl1 hjl2 hAa k2 k3 k4
  have S0 : VarIs w3.drew w1.heap.size #[.int .i64 st, .int .i64 0, .slice b2 n2 d2, .slice b3 n3 d3, .slice b4 n4 d4, .slice none 0 0] 27 ∧ w3.drew.cell? ⟨w1.heap.size, 0, none⟩ = some (.int .i64 st) := ⟨OV3.out.drew.var, OV3.out.drew.var.cell rfl⟩
  have CZ : Hid (Calls Tryz.prog 66 #[.pointer (some ⟨P, 0, none⟩), .int .i64 (2 * st + 2)] w3.drew fun e w' => ∃ (r : Int) (s : VarIs w' w1.heap.size #[.int .i64 st, .int .i64 0, .slice b2 n2 d2, .slice b3 n3 d3, .slice b4 n4 d4, .slice none 0 0] 27 ∧ w'.cell? ⟨w1.heap.size, 0, none⟩ = some (.int .i64 st)), e = .returned (.int .i64 r) ∧ 0 ≤ r ∧ r < 2 * st + 2 + 1 ∧ Cur w' P (t + 2) ∧ w3.drew.grownBy w' (some P)) := (size_any P (t + 1) (2 * st + 2) w3.drew (HC3.out.below (Below.refl _ _).drew) (by omega) (by omega) (by omega)).mono fun e w' ⟨r, he, h0, h1, hc, hg⟩ => ⟨r, ⟨(OV3.out.drew.pick hg).var, (OV3.out.drew.pick hg).var.cell rfl⟩, he, h0, h1, hc, hg⟩
  go_wp2_with fail
  refine wp_region_held_drew (S := fun w' => VarIs w' w1.heap.size #[.int .i64 st, .int .i64 0, .slice b2 n2 d2, .slice b3 n3 d3, .slice b4 n4 d4, .slice none 0 0] 27 ∧ w'.cell? ⟨w1.heap.size, 0, none⟩ = some (.int .i64 st)) (by kernel_rfl) S0 (fun hHeld => ?_)
  change wpAnyH _ _ _ _ _ 10 (Array.replicate 10 false) _ _
  refine take_op 0 28 (.pointer (some ⟨w1.heap.size, 0, none⟩)) (fuel := 9) rfl rfl (by kernel_rfl) (by kernel_rfl) (by kernel_rfl) (fun _ _ _ h => h) (by rfl) (fun w hSw => by go_simp) hHeld ?_
  simp only [Act.put, List.setIfInBounds_toArray, List.set_cons_zero, List.set_cons_succ]
  refine take_op 1 29 (.int .i64 st) (fuel := 8) rfl rfl (by kernel_rfl) (by kernel_rfl) (by kernel_rfl) (fun _ _ _ h => h) (by rfl) (fun w hSw => by go_simp) hHeld ?_
  simp only [Act.put, List.setIfInBounds_toArray, List.set_cons_zero, List.set_cons_succ]
  refine take_op 2 30 (.pointer (some ⟨P, 0, none⟩)) (fuel := 7) rfl rfl (by kernel_rfl) (by kernel_rfl) (by kernel_rfl) (fun _ _ _ h => h) (by rfl) (fun w hSw => by go_simp) hHeld ?_
  simp only [Act.put, List.setIfInBounds_toArray, List.set_cons_zero, List.set_cons_succ]
  refine take_op 3 31 (.pointer (some ⟨w1.heap.size, 0, none⟩)) (fuel := 6) rfl rfl (by kernel_rfl) (by kernel_rfl) (by kernel_rfl) (fun _ _ _ h => h) (by rfl) (fun w hSw => by go_simp) hHeld ?_
  simp only [Act.put, List.setIfInBounds_toArray, List.set_cons_zero, List.set_cons_succ]
  refine take_op 4 32 (.int .i64 st) (fuel := 5) rfl rfl (by kernel_rfl) (by kernel_rfl) (by kernel_rfl) (fun _ _ _ h => h) (by rfl) (fun w hSw => by go_simp) hHeld ?_
  simp only [Act.put, List.setIfInBounds_toArray, List.set_cons_zero, List.set_cons_succ]
  refine take_op 5 33 (.int .i64 (2 * st)) (fuel := 4) rfl rfl (by kernel_rfl) (by kernel_rfl) (by kernel_rfl) (fun _ _ _ h => h) (by rfl) (fun w hSw => by go_simp; exact Go.IntWalk.i64_in _ (by constructor <;> omega)) hHeld ?_
  simp only [Act.put, List.setIfInBounds_toArray, List.set_cons_zero, List.set_cons_succ]
  refine take_op 6 34 (.int .i64 (2 * st + 2)) (fuel := 3) rfl rfl (by kernel_rfl) (by kernel_rfl) (by kernel_rfl) (fun _ _ _ h => h) (by rfl) (fun w hSw => by go_simp; exact Go.IntWalk.i64_in _ (by constructor <;> omega)) hHeld ?_
  simp only [Act.put, List.setIfInBounds_toArray, List.set_cons_zero, List.set_cons_succ]
  refine wpAnyH_ready (rs := [7]) (fuel := 2) (by kernel_rfl) (by simp) ?_
  refine AllReadyH.cons rfl (fun K hK => ?_) AllReadyH.nil
  go_simp
  refine CZ.out.mono ?_
  rintro e w4 ⟨rz, hS1, rfl, hz0, hz1, hcz, hgz⟩
  go_wp2_with fail
  refine hK.out _ _ hS1 (fun hHeld => ?_)
  clear hK K hS1
  refine take_op 8 36 (.int .i64 (st + rz)) (fuel := 1) rfl rfl (by kernel_rfl) (by kernel_rfl) (by kernel_rfl) (fun _ _ _ h => h) (by rfl) (fun w hSw => by go_simp; exact Go.IntWalk.i64_in _ (by constructor <;> omega)) hHeld ?_
  simp only [Act.put, List.setIfInBounds_toArray, List.set_cons_zero, List.set_cons_succ]
  refine take_op 9 13 (.int .i64 (st + rz)) (fuel := 0) rfl rfl (by kernel_rfl) (by kernel_rfl) (by kernel_rfl) (fun _ _ _ h => h) (by rfl) (fun w hSw => by go_simp) hHeld ?_
  simp only [Act.put, List.setIfInBounds_toArray, List.set_cons_zero, List.set_cons_succ]
  refine wpAnyH_done (by kernel_rfl) ?_ _
  clear hHeld
  obtain ⟨w', hw'⟩ : ∃ W, W = w4 := ⟨_, rfl⟩
  subst hw'
  have OV4 := Lib.hid (OV3.out.drew.pick hgz)
  have HC4 := Lib.hid hcz
  have HG4 : Hid (w.grownBy w' (some P)) := grownBy_trans HG3.out (grownBy_trans (grownBy_drewN w3 1 _) hgz)
  clear S0 CZ hcz hgz OV3 HC3 HG3
  obtain ⟨k0, hk0⟩ : ∃ k : Nat, st + rz = (k : Int) := ⟨(st + rz).toNat, by omega⟩
  have hk62 : k0 ≤ 62 := by omega
  go_wp2_with fail
  go_loopw [13] (fun kv wr => ∃ (k j n5 : Nat) (x5 : Value) (ss : List St), kv = .int .i64 (k : Int) ∧ k + j ≤ 62 ∧ n5 ≤ j ∧ Hid (Ov wr P base w.heap.size w1.heap.size #[.int .i64 st, .int .i64 0, .slice b2 n2 d2, .slice b3 n3 d3, .slice b4 n4 d4, x5] (x5) n5 ss ga na ca acts b2 n2 d2 ins) ∧ Hid (∀ s ∈ ss, Near s) ∧ Hid (Cur wr P (t + 2 + 3 * j)) ∧ Hid (w.grownBy wr (some P))) (fun kv _ => (intOf kv).toNat)
  case atStart => exact ⟨k0, 0, 0, _, [], by rw [hk0], by omega, Nat.le_refl _, OV4.out, fun s hs => by simp at hs, HC4.out, HG4.out⟩
  case round =>
    obtain ⟨k, j, n5, x5, ss, rfl, hkj, hn5, HOV, HNS, HCU, HGR⟩ := hrel
    clear OV4 HC4 HG4 hk0
    by_cases hk : 0 < k
    · by_cases hna0 : 0 < na
      · obtain ⟨a5, c5, rfl⟩ := HOV.out.own5.form
        have S0 : VarIs wr.drew w1.heap.size #[.int .i64 st, .int .i64 0, .slice b2 n2 d2, .slice b3 n3 d3, .slice b4 n4 d4, .slice a5 n5 c5] 27 ∧ wr.drew.cell? ⟨w1.heap.size, 0, none⟩ = some (.int .i64 st) ∧ Hid (∀ j, j < na → wr.drew.cell? ⟨ga, j, none⟩ = some (.int .i64 (acts.getD j 0))) := ⟨HOV.out.drew.var, HOV.out.drew.var.cell rfl, HOV.out.drew.own6.cells.2⟩
        have OV0 := Lib.hid HOV.out.drew
        have CU0 : Hid (Cur wr.drew P (t + 2 + 3 * j + 0)) := HCU.out.below (Below.refl _ _).drew
        have GR0 : Hid (wr.grownBy wr.drew (some P)) := grownBy_drewN wr 1 _
        go_wp2_with fail
        refine wp_region_held_drew (S := fun w' => VarIs w' w1.heap.size #[.int .i64 st, .int .i64 0, .slice b2 n2 d2, .slice b3 n3 d3, .slice b4 n4 d4, .slice a5 n5 c5] 27 ∧ w'.cell? ⟨w1.heap.size, 0, none⟩ = some (.int .i64 st) ∧ Hid (∀ j, j < na → w'.cell? ⟨ga, j, none⟩ = some (.int .i64 (acts.getD j 0)))) (by kernel_rfl) S0 (fun hHeld => ?_)
        change wpAnyH _ _ _ _ _ 18 (Array.replicate 18 false) _ _
        refine take_op 0 46 (.pointer (some ⟨P, 0, none⟩)) (fuel := 17) rfl rfl (by kernel_rfl) (by kernel_rfl) (by kernel_rfl) (fun _ _ _ h => h) (by rfl) (fun w hSw => by go_simp) hHeld ?_
        simp only [Act.put, List.setIfInBounds_toArray, List.set_cons_zero, List.set_cons_succ]
        refine take_op 1 47 (.pointer (some ⟨w1.heap.size, 0, none⟩)) (fuel := 16) rfl rfl (by kernel_rfl) (by kernel_rfl) (by kernel_rfl) (fun _ _ _ h => h) (by rfl) (fun w hSw => by go_simp) hHeld ?_
        simp only [Act.put, List.setIfInBounds_toArray, List.set_cons_zero, List.set_cons_succ]
        refine take_op 2 48 (.int .i64 st) (fuel := 15) rfl rfl (by kernel_rfl) (by kernel_rfl) (by kernel_rfl) (fun _ _ _ h => h) (by rfl) (fun w hSw => by go_simp) hHeld ?_
        simp only [Act.put, List.setIfInBounds_toArray, List.set_cons_zero, List.set_cons_succ]
        refine take_op 4 50 (.slice (some ⟨ga, 0, none⟩) na ca) (fuel := 14) rfl rfl (by kernel_rfl) (by kernel_rfl) (by kernel_rfl) (fun _ _ _ h => h) (by rfl) (fun w hSw => by go_simp) hHeld ?_
        simp only [Act.put, List.setIfInBounds_toArray, List.set_cons_zero, List.set_cons_succ]
        refine take_op 5 51 (.pointer (some ⟨P, 0, none⟩)) (fuel := 13) rfl rfl (by kernel_rfl) (by kernel_rfl) (by kernel_rfl) (fun _ _ _ h => h) (by rfl) (fun w hSw => by go_simp) hHeld ?_
        simp only [Act.put, List.setIfInBounds_toArray, List.set_cons_zero, List.set_cons_succ]
        refine take_op 6 52 (.slice (some ⟨ga, 0, none⟩) na ca) (fuel := 12) rfl rfl (by kernel_rfl) (by kernel_rfl) (by kernel_rfl) (fun _ _ _ h => h) (by rfl) (fun w hSw => by go_simp) hHeld ?_
        simp only [Act.put, List.setIfInBounds_toArray, List.set_cons_zero, List.set_cons_succ]
        refine take_op 7 53 (.int .i64 (na : Int)) (fuel := 11) rfl rfl (by kernel_rfl) (by kernel_rfl) (by kernel_rfl) (fun _ _ _ h => h) (by rfl) (fun w hSw => by go_simp) hHeld ?_
        simp only [Act.put, List.setIfInBounds_toArray, List.set_cons_zero, List.set_cons_succ]
        refine take_op 11 57 (.pointer (some ⟨P, 0, none⟩)) (fuel := 10) rfl rfl (by kernel_rfl) (by kernel_rfl) (by kernel_rfl) (fun _ _ _ h => h) (by rfl) (fun w hSw => by go_simp) hHeld ?_
        simp only [Act.put, List.setIfInBounds_toArray, List.set_cons_zero, List.set_cons_succ]
        refine take_op 12 58 (.pointer (some ⟨w1.heap.size, 0, none⟩)) (fuel := 9) rfl rfl (by kernel_rfl) (by kernel_rfl) (by kernel_rfl) (fun _ _ _ h => h) (by rfl) (fun w hSw => by go_simp) hHeld ?_
        simp only [Act.put, List.setIfInBounds_toArray, List.set_cons_zero, List.set_cons_succ]
        refine take_op 13 59 (.int .i64 st) (fuel := 8) rfl rfl (by kernel_rfl) (by kernel_rfl) (by kernel_rfl) (fun _ _ _ h => h) (by rfl) (fun w hSw => by go_simp) hHeld ?_
        simp only [Act.put, List.setIfInBounds_toArray, List.set_cons_zero, List.set_cons_succ]
        refine join_rest (fun x f jy y z => ⟨#[.pointer (some ⟨P, 0, none⟩), .slice b2 n2 d2, .slice b3 n3 d3, .slice b4 n4 d4, .int .i64 many, undef, undef, undef, undef, undef, .pointer (some ⟨w.heap.size, 0, none⟩), .pointer (some ⟨w1.heap.size, 0, none⟩), .slice (some ⟨ga, 0, none⟩) na ca, .int .i64 (k : Int), .pointer (some ⟨x, 0, none⟩), .pointer (some ⟨P, 0, none⟩), .int .i64 many, .int .i64 r, .int .i64 st, .slice b2 n2 d2, .slice b3 n3 d3, .slice b4 n4 d4, .agg #[.int .i64 st, .int .i64 0, .slice b2 n2 d2, .slice b3 n3 d3, .slice b4 n4 d4, .slice none 0 0], .slice b2 n2 d2, .slice b3 n3 d3, .slice (some ⟨g1, 0, none⟩) nj c1, .slice b4 n4 d4, .slice (some ⟨ga, 0, none⟩) na ca, .pointer (some ⟨w1.heap.size, 0, none⟩), .int .i64 st, .pointer (some ⟨P, 0, none⟩), .pointer (some ⟨w1.heap.size, 0, none⟩), .int .i64 st, .int .i64 (2 * st), .int .i64 (2 * st + 2), .int .i64 rz, .int .i64 (st + rz), .int .i64 (k : Int), .bool true, .bool true, .slice (some ⟨ga, 0, none⟩) na ca, .int .i64 (na : Int), .bool true, .bool true, u44, u45, .pointer (some ⟨P, 0, none⟩), .pointer (some ⟨w1.heap.size, 0, none⟩), .int .i64 st, .int .i64 f, .slice (some ⟨ga, 0, none⟩) na ca, .pointer (some ⟨P, 0, none⟩), .slice (some ⟨ga, 0, none⟩) na ca, .int .i64 (na : Int), .int .i64 (jy : Int), .pointer (some ⟨ga, jy, none⟩), .int .i64 y, .pointer (some ⟨P, 0, none⟩), .pointer (some ⟨w1.heap.size, 0, none⟩), .int .i64 st, .int .i64 z, .agg #[.int .i64 f, .int .i64 y, .int .i64 z], u62, u63, u64, u65, u66, u67, u68, u69, u70, u71, u72, u73, u74, u75, u76, u77, u78, u79, u80, undef], []⟩) (fun x f jy y z we => 0 ≤ f ∧ f ≤ 20 ∧ 0 ≤ z ∧ z ≤ 20 ∧ jy < na ∧ y = acts.getD jy 0 ∧ (Ov we P base w.heap.size w1.heap.size #[.int .i64 st, .int .i64 0, .slice b2 n2 d2, .slice b3 n3 d3, .slice b4 n4 d4, .slice a5 n5 c5] (.slice a5 n5 c5) n5 ss ga na ca acts b2 n2 d2 ins) ∧ Cur we P (t + 2 + 3 * j + 3) ∧ VarIs we x #[.int .i64 f, .int .i64 y, .int .i64 z] 47 ∧ wr.grownBy we (some P)) ?_ (fun REST => ?_)
        · rintro x f jy y z we ⟨hf0, hf1, hz0', hz1', hjl, hy, hov, hcu, hvx, hgr⟩
          have OVE := Lib.hid hov
          have CUE := Lib.hid hcu
          have VXE := Lib.hid hvx
          have GRE := Lib.hid hgr
          have HYN := HNJ.out y (by rw [hy]; exact getD_mem acts jy (by rw [← HAL.out]; exact hjl))
          have NEAR : Hid (Near (f, y, z)) := ⟨⟨by simp only; omega, by simp only; omega⟩, ⟨HYN.1, HYN.2⟩, ⟨by simp only; omega, by simp only; omega⟩⟩
          clear hov hcu hvx hgr hy HYN S0 OV0 CU0 GR0 hHeld
          obtain ⟨q, hq⟩ : ∃ q, q = hasB ins y := ⟨_, rfl⟩
          have CH : Hid (Calls Tryz.prog 24 #[.slice b2 n2 d2, .int .i64 y] we fun e w' => e = .returned (.bool q) ∧ we = w') := by
            unfold Hid
            rw [hq]
            exact (specSetHas_any b2 n2 d2 y ins we OVE.out.own2.row.2.2.2 (by omega)).mono fun _ _ h => ⟨h.1, h.2.symm⟩
          clear hq
          have x1 := VXE.out.cell (j := 1) rfl
          cases q with
          | false =>
            go_wp2_with fail
            refine CH.out.mono ?_
            rintro e w' ⟨rfl, rfl⟩
            clear x1
            have m5 := OVE.out.var.cell (j := 5) rfl
            have x0 := VXE.out.cell (j := 0) rfl
            have x1 := VXE.out.cell (j := 1) rfl
            have x2 := VXE.out.cell (j := 2) rfl
            have hsz := OVE.out.var.lt
            go_wp2_with fail
            clear m5 x0 x1 x2
            refine (stepPut_any _ n5 ss f y z (w1.heap.size + 1) _ OVE.out.own5 NEAR.out HNS.out (by omega) (by omega)).mono ?_
            rintro e ws ⟨v5, n5', ss', rfl, ho5, hnear, hn5', hb⟩
            obtain ⟨a5', c5', rfl⟩ := ho5.form
            have ovp := Lib.hid (OVE.out.put hb ho5)
            have cup := Lib.hid ((CUE.out.below hb).keep (B := P + 1) (grownBy_set ws w1.heap.size 5 (.slice a5' n5' c5')) (by omega) (fun q hq => by have h1 := Option.some.inj hq; omega))
            have grp := Lib.hid (grown_past (grownBy_trans HGR.out (grownBy_trans GRE.out (grown_of_below hb _))) (grownBy_set ws w1.heap.size 5 (.slice a5' n5' c5')) (by omega))
            have HN' := Lib.hid hnear
            have kv := (OVE.out.below hb).var
            have m5 := kv.cell (j := 5) rfl
            have fr5 := kv.frozen 5
            clear hnear ho5 hb kv
            go_wp2_with fail
            clear m5 fr5
            go_roundw
            case rel => exact ⟨k - 1, j + 1, n5', _, ss', by go_num, by omega, by omega, ovp.out, HN'.out, (cup.out.mono (by omega)), grp.out⟩
            case measure => simp [intOf]; omega
          | true =>
            go_wp2_with fail
            refine CH.out.mono ?_
            rintro e w' ⟨rfl, rfl⟩
            have x0 := VXE.out.cell (j := 0) rfl
            have m0 := OVE.out.var.cell (j := 0) rfl
            have m1 := OVE.out.var.cell (j := 1) rfl
            have m2 := OVE.out.var.cell (j := 2) rfl
            have m3 := OVE.out.var.cell (j := 3) rfl
            have m4 := OVE.out.var.cell (j := 4) rfl
            have m5 := OVE.out.var.cell (j := 5) rfl
            go_wp2_with fail
            clear m0 m1 m2 m3 m4 m5 x0 x1
            refine (after_any st 0 f y _ _ _ a5 n5 c5 ss _ OVE.out.own5.row.2.2.2 (by omega)).mono ?_
            obtain ⟨AF, hAF⟩ : ∃ l, l = afterL ss f y := ⟨_, rfl⟩
            rw [← hAF]
            clear hAF
            rintro e wf ⟨gf, cf, rfl, _, hb⟩
            obtain ⟨lf, hlf⟩ : ∃ n, n = AF.length := ⟨_, rfl⟩
            rw [← hlf]
            clear hlf
            have OVF := Lib.hid (OVE.out.below hb)
            have CUF := Lib.hid (CUE.out.below hb)
            have VXF := Lib.hid (VXE.out.below hb)
            have GRF := Lib.hid (grownBy_trans GRE.out (grown_of_below hb _))
            clear hb OVE CUE VXE GRE
            by_cases h0 : 0 < lf
            · have hd1 : decide ((lf : Int) > 0) = true := by simp; omega
              go_wp2_with fail
              go_roundw
              case rel => exact ⟨k - 1, j + 1, n5, _, ss, by go_num, by omega, by omega, OVF.out, HNS.out, (CUF.out.mono (by omega)), grownBy_trans HGR.out GRF.out⟩
              case measure => simp [intOf]; omega
            · have hd1 : decide ((lf : Int) > 0) = false := by simp; omega
              have m5 := OVF.out.var.cell (j := 5) rfl
              have x0 := VXF.out.cell (j := 0) rfl
              have x1 := VXF.out.cell (j := 1) rfl
              have x2 := VXF.out.cell (j := 2) rfl
              have hsz := OVF.out.var.lt
              go_wp2_with fail
              clear m5 x0 x1 x2
              refine (stepPut_any _ n5 ss f y z (w1.heap.size + 1) _ OVF.out.own5 NEAR.out HNS.out (by omega) (by omega)).mono ?_
              rintro e ws ⟨v5, n5', ss', rfl, ho5, hnear, hn5', hb⟩
              obtain ⟨a5', c5', rfl⟩ := ho5.form
              have ovp := Lib.hid (OVF.out.put hb ho5)
              have cup := Lib.hid ((CUF.out.below hb).keep (B := P + 1) (grownBy_set ws w1.heap.size 5 (.slice a5' n5' c5')) (by omega) (fun q hq => by have h1 := Option.some.inj hq; omega))
              have grp := Lib.hid (grown_past (grownBy_trans HGR.out (grownBy_trans GRF.out (grown_of_below hb _))) (grownBy_set ws w1.heap.size 5 (.slice a5' n5' c5')) (by omega))
              have HN' := Lib.hid hnear
              have kv := (OVF.out.below hb).var
              have m5 := kv.cell (j := 5) rfl
              have fr5 := kv.frozen 5
              clear hnear ho5 hb kv
              go_wp2_with fail
              clear m5 fr5
              go_roundw
              case rel => exact ⟨k - 1, j + 1, n5', _, ss', by go_num, by omega, by omega, ovp.out, HN'.out, (cup.out.mono (by omega)), grp.out⟩
              case measure => simp [intOf]; omega
        refine wpAnyH_ready (rs := [3, 16]) (fuel := 7) (by kernel_rfl) (by simp) ?_
        refine AllReadyH.cons rfl (fun K hK => ?_) ?_
        · go_simp
          refine (pick_le P (t + 2 + 3 * j + 0) st _ CU0.out (by omega) (by omega) (by omega)).mono ?_
          rintro e wp1 ⟨r1, rfl, hra1, hrb1, hcur, hg⟩
          have ov1 := Lib.hid (OV0.out.pick hg)
          have cu1 := Lib.hid hcur
          have gr1 := Lib.hid (grownBy_trans GR0.out hg)
          clear hcur hg
          go_wp2_with fail
          refine hK.out _ _ ⟨ov1.out.var, ov1.out.var.cell rfl, ov1.out.own6.cells.2⟩ (fun hHeld => ?_)
          clear hK K
          refine wpAnyH_ready (rs := [8, 16]) (fuel := 6) (by kernel_rfl) (by simp) ?_
          refine AllReadyH.cons rfl (fun K hK => ?_) ?_
          · go_simp
            refine (pick_le P (t + 2 + 3 * j + 1) (na : Int) _ cu1.out (by omega) (by omega) (by omega)).mono ?_
            rintro e wp2 ⟨r2, rfl, hra2, hrb2, hcur, hg⟩
            have ov2 := Lib.hid (ov1.out.pick hg)
            have cu2 := Lib.hid hcur
            have gr2 := Lib.hid (grownBy_trans gr1.out hg)
            clear hcur hg
            go_wp2_with fail
            refine hK.out _ _ ⟨ov2.out.var, ov2.out.var.cell rfl, ov2.out.own6.cells.2⟩ (fun hHeld => ?_)
            clear hK K
            obtain ⟨jy, hjy⟩ : ∃ j : Nat, r2 = (j : Int) := ⟨r2.toNat, by omega⟩
            subst hjy
            have hjl : jy < na := by omega
            have hjl' : (jy : Int) < (na : Int) := by omega
            obtain ⟨y, hy⟩ : ∃ y, y = acts.getD jy 0 := ⟨_, rfl⟩
            have HY := Lib.hid hy
            clear hy
            refine take_op 9 55 (.pointer (some ⟨ga, jy, none⟩)) (fuel := 5) rfl rfl (by kernel_rfl) (by kernel_rfl) (by kernel_rfl) (fun _ _ _ h => h) (by rfl) (fun w hSw => by go_simp) hHeld ?_
            simp only [Act.put, List.setIfInBounds_toArray, List.set_cons_zero, List.set_cons_succ]
            refine take_op 10 56 (.int .i64 y) (fuel := 4) rfl rfl (by kernel_rfl) (by kernel_rfl) (by kernel_rfl) (fun _ _ _ h => h) (by rfl) (fun w hSw => by have hcy := hSw.2.2.out jy hjl; rw [← HY.out] at hcy; go_simp) hHeld ?_
            simp only [Act.put, List.setIfInBounds_toArray, List.set_cons_zero, List.set_cons_succ]
            refine wpAnyH_ready (rs := [14, 16]) (fuel := 3) (by kernel_rfl) (by simp) ?_
            refine AllReadyH.cons rfl (fun K hK => ?_) ?_
            · go_simp
              refine (pick_le P (t + 2 + 3 * j + 2) st _ cu2.out (by omega) (by omega) (by omega)).mono ?_
              rintro e wp3 ⟨r3, rfl, hra3, hrb3, hcur, hg⟩
              have ov3 := Lib.hid (ov2.out.pick hg)
              have cu3 := Lib.hid hcur
              have gr3 := Lib.hid (grownBy_trans gr2.out hg)
              clear hcur hg
              go_wp2_with fail
              refine hK.out _ _ ⟨ov3.out.var, ov3.out.var.cell rfl, ov3.out.own6.cells.2⟩ (fun hHeld => ?_)
              clear hK K
              refine take_op 15 61 (.agg #[.int .i64 r1, .int .i64 y, .int .i64 r3]) (fuel := 2) rfl rfl (by kernel_rfl) (by kernel_rfl) (by kernel_rfl) (fun _ _ _ h => h) (by rfl) (fun w hSw => by go_simp) hHeld ?_
              simp only [Act.put, List.setIfInBounds_toArray, List.set_cons_zero, List.set_cons_succ]
              refine wpAnyH_ready (rs := [16]) (fuel := 1) (by kernel_rfl) (by simp) ?_
              refine AllReadyH.cons rfl (fun K hK => ?_) AllReadyH.nil
              have ov4 : Hid (Ov (wp3.alloc (.cells #[.int .i64 0, .int .i64 0, .int .i64 0] 47)) P base w.heap.size w1.heap.size #[.int .i64 st, .int .i64 0, .slice b2 n2 d2, .slice b3 n3 d3, .slice b4 n4 d4, .slice a5 n5 c5] (.slice a5 n5 c5) n5 ss ga na ca acts b2 n2 d2 ins) := ov3.out.below ((Below.refl _ wp3).alloc (Nat.le_refl _) (.cells #[.int .i64 0, .int .i64 0, .int .i64 0] 47))
              have vx4 : Hid (VarIs (wp3.alloc (.cells #[.int .i64 0, .int .i64 0, .int .i64 0] 47)) wp3.heap.size #[.int .i64 0, .int .i64 0, .int .i64 0] 47) := VarIs.new wp3 #[.int .i64 0, .int .i64 0, .int .i64 0] 47 rfl
              have cu4 : Hid (Cur (wp3.alloc (.cells #[.int .i64 0, .int .i64 0, .int .i64 0] 47)) P (t + 2 + 3 * j + 3)) := cu3.out.below ((Below.refl _ wp3).alloc (Nat.le_refl _) (.cells #[.int .i64 0, .int .i64 0, .int .i64 0] 47))
              have gr4 : Hid (wr.grownBy (wp3.alloc (.cells #[.int .i64 0, .int .i64 0, .int .i64 0] 47)) (some P)) := grownBy_trans gr3.out (grown_of_below ((Below.refl _ wp3).alloc (Nat.le_refl _) (.cells #[.int .i64 0, .int .i64 0, .int .i64 0] 47)) _)
              have hx4 : Hid (w1.heap.size < wp3.heap.size ∧ ga ≠ wp3.heap.size ∧ (Value.slice a5 n5 c5).ownBlock ≠ some wp3.heap.size ∧ wr.heap.size ≤ wp3.heap.size) := ⟨ov3.out.var.lt, Nat.ne_of_lt (ov3.out.own6.lt ga rfl).2, (fun e => Nat.lt_irrefl _ (ov3.out.own5.lt _ e).2), gr3.out.size⟩
              go_simp
              refine hK.out _ _ ⟨ov4.out.var, ov4.out.var.cell rfl, ov4.out.own6.cells.2⟩ (fun hHeld => ?_)
              clear hK K
              try simp only [Act.put, List.setIfInBounds_toArray, List.set_cons_zero, List.set_cons_succ]
              refine wpAnyH_ready (rs := [17]) (fuel := 0) (by kernel_rfl) (by simp) ?_
              refine AllReadyH.cons rfl (fun K hK => ?_) AllReadyH.nil
              have HGS := grown_setCells (wp3.heap.size) [.int .i64 r1, .int .i64 y, .int .i64 r3] 0 (wp3.alloc (.cells #[.int .i64 0, .int .i64 0, .int .i64 0] 47))
              have hA9 := hx4.out.1
              have ovs := Lib.hid (ov4.out.fresh HGS hx4.out.1 hx4.out.2.2.1 hx4.out.2.1)
              have cus : Hid (Cur ((wp3.alloc (.cells #[.int .i64 0, .int .i64 0, .int .i64 0] 47)).setCells (wp3.heap.size) 0 [.int .i64 r1, .int .i64 y, .int .i64 r3]) P (t + 2 + 3 * j + 3)) := cu4.out.keep (B := P + 1) HGS (by omega) (fun k hk => by have h1 := Option.some.inj hk; omega)
              have vxs := Lib.hid (var3_set vx4.out (.int .i64 r1) (.int .i64 y) (.int .i64 r3))
              have grs : Hid (wr.grownBy ((wp3.alloc (.cells #[.int .i64 0, .int .i64 0, .int .i64 0] 47)).setCells (wp3.heap.size) 0 [.int .i64 r1, .int .i64 y, .int .i64 r3]) (some P)) := grown_past gr4.out HGS hx4.out.2.2.2
              rw [if_pos (by rfl)]
              refine wp_store_mid _ _ _ rfl (wp3.heap.size) 0 #[.int .i64 r1, .int .i64 y, .int .i64 r3] rfl rfl (vx4.out.there rfl) (by kernel_rfl) (three_one _ _ _) ?_
              refine hK.out _ _ ⟨ovs.out.var, ovs.out.var.cell rfl, ovs.out.own6.cells.2⟩ (fun hHeld => ?_)
              clear hK K
              refine wpAnyH_done (by kernel_rfl) ?_ _
              exact REST.out (wp3.heap.size) r1 jy y r3 _ ⟨by omega, by omega, by omega, by omega, hjl, HY.out, ovs.out, cus.out, vxs.out, grs.out⟩
            refine AllReadyH.cons rfl (fun K hK => ?_) AllReadyH.nil
            have ov5 : Hid (Ov (wp2.alloc (.cells #[.int .i64 0, .int .i64 0, .int .i64 0] 47)) P base w.heap.size w1.heap.size #[.int .i64 st, .int .i64 0, .slice b2 n2 d2, .slice b3 n3 d3, .slice b4 n4 d4, .slice a5 n5 c5] (.slice a5 n5 c5) n5 ss ga na ca acts b2 n2 d2 ins) := ov2.out.below ((Below.refl _ wp2).alloc (Nat.le_refl _) (.cells #[.int .i64 0, .int .i64 0, .int .i64 0] 47))
            have vx5 : Hid (VarIs (wp2.alloc (.cells #[.int .i64 0, .int .i64 0, .int .i64 0] 47)) wp2.heap.size #[.int .i64 0, .int .i64 0, .int .i64 0] 47) := VarIs.new wp2 #[.int .i64 0, .int .i64 0, .int .i64 0] 47 rfl
            have cu5 : Hid (Cur (wp2.alloc (.cells #[.int .i64 0, .int .i64 0, .int .i64 0] 47)) P (t + 2 + 3 * j + 2)) := cu2.out.below ((Below.refl _ wp2).alloc (Nat.le_refl _) (.cells #[.int .i64 0, .int .i64 0, .int .i64 0] 47))
            have gr5 : Hid (wr.grownBy (wp2.alloc (.cells #[.int .i64 0, .int .i64 0, .int .i64 0] 47)) (some P)) := grownBy_trans gr2.out (grown_of_below ((Below.refl _ wp2).alloc (Nat.le_refl _) (.cells #[.int .i64 0, .int .i64 0, .int .i64 0] 47)) _)
            have hx5 : Hid (w1.heap.size < wp2.heap.size ∧ ga ≠ wp2.heap.size ∧ (Value.slice a5 n5 c5).ownBlock ≠ some wp2.heap.size ∧ wr.heap.size ≤ wp2.heap.size) := ⟨ov2.out.var.lt, Nat.ne_of_lt (ov2.out.own6.lt ga rfl).2, (fun e => Nat.lt_irrefl _ (ov2.out.own5.lt _ e).2), gr2.out.size⟩
            go_simp
            refine hK.out _ _ ⟨ov5.out.var, ov5.out.var.cell rfl, ov5.out.own6.cells.2⟩ (fun hHeld => ?_)
            clear hK K
            try simp only [Act.put, List.setIfInBounds_toArray, List.set_cons_zero, List.set_cons_succ]
            refine wpAnyH_ready (rs := [14]) (fuel := 2) (by kernel_rfl) (by simp) ?_
            refine AllReadyH.cons rfl (fun K hK => ?_) AllReadyH.nil
            go_simp
            refine (pick_le P (t + 2 + 3 * j + 2) st _ cu5.out (by omega) (by omega) (by omega)).mono ?_
            rintro e wp6 ⟨r6, rfl, hra6, hrb6, hcur, hg⟩
            have ov6 := Lib.hid (ov5.out.pick hg)
            have cu6 := Lib.hid hcur
            have gr6 := Lib.hid (grownBy_trans gr5.out hg)
            have vx6 := Lib.hid (vx5.out.grown hg (fun e => by have h1 := Option.some.inj e; have h2 := hx5.out.1; omega))
            clear hcur hg
            go_wp2_with fail
            refine hK.out _ _ ⟨ov6.out.var, ov6.out.var.cell rfl, ov6.out.own6.cells.2⟩ (fun hHeld => ?_)
            clear hK K
            refine take_op 15 61 (.agg #[.int .i64 r1, .int .i64 y, .int .i64 r6]) (fuel := 1) rfl rfl (by kernel_rfl) (by kernel_rfl) (by kernel_rfl) (fun _ _ _ h => h) (by rfl) (fun w hSw => by go_simp) hHeld ?_
            simp only [Act.put, List.setIfInBounds_toArray, List.set_cons_zero, List.set_cons_succ]
            refine wpAnyH_ready (rs := [17]) (fuel := 0) (by kernel_rfl) (by simp) ?_
            refine AllReadyH.cons rfl (fun K hK => ?_) AllReadyH.nil
            have HGS := grown_setCells (wp2.heap.size) [.int .i64 r1, .int .i64 y, .int .i64 r6] 0 wp6
            have hA9 := hx5.out.1
            have ovs := Lib.hid (ov6.out.fresh HGS hx5.out.1 hx5.out.2.2.1 hx5.out.2.1)
            have cus : Hid (Cur (wp6.setCells (wp2.heap.size) 0 [.int .i64 r1, .int .i64 y, .int .i64 r6]) P (t + 2 + 3 * j + 3)) := cu6.out.keep (B := P + 1) HGS (by omega) (fun k hk => by have h1 := Option.some.inj hk; omega)
            have vxs := Lib.hid (var3_set vx6.out (.int .i64 r1) (.int .i64 y) (.int .i64 r6))
            have grs : Hid (wr.grownBy (wp6.setCells (wp2.heap.size) 0 [.int .i64 r1, .int .i64 y, .int .i64 r6]) (some P)) := grown_past gr6.out HGS hx5.out.2.2.2
            rw [if_pos (by rfl)]
            refine wp_store_mid _ _ _ rfl (wp2.heap.size) 0 #[.int .i64 r1, .int .i64 y, .int .i64 r6] rfl rfl (vx6.out.there rfl) (by kernel_rfl) (three_one _ _ _) ?_
            refine hK.out _ _ ⟨ovs.out.var, ovs.out.var.cell rfl, ovs.out.own6.cells.2⟩ (fun hHeld => ?_)
            clear hK K
            refine wpAnyH_done (by kernel_rfl) ?_ _
            exact REST.out (wp2.heap.size) r1 jy y r6 _ ⟨by omega, by omega, by omega, by omega, hjl, HY.out, ovs.out, cus.out, vxs.out, grs.out⟩
          refine AllReadyH.cons rfl (fun K hK => ?_) AllReadyH.nil
          have ov7 : Hid (Ov (wp1.alloc (.cells #[.int .i64 0, .int .i64 0, .int .i64 0] 47)) P base w.heap.size w1.heap.size #[.int .i64 st, .int .i64 0, .slice b2 n2 d2, .slice b3 n3 d3, .slice b4 n4 d4, .slice a5 n5 c5] (.slice a5 n5 c5) n5 ss ga na ca acts b2 n2 d2 ins) := ov1.out.below ((Below.refl _ wp1).alloc (Nat.le_refl _) (.cells #[.int .i64 0, .int .i64 0, .int .i64 0] 47))
          have vx7 : Hid (VarIs (wp1.alloc (.cells #[.int .i64 0, .int .i64 0, .int .i64 0] 47)) wp1.heap.size #[.int .i64 0, .int .i64 0, .int .i64 0] 47) := VarIs.new wp1 #[.int .i64 0, .int .i64 0, .int .i64 0] 47 rfl
          have cu7 : Hid (Cur (wp1.alloc (.cells #[.int .i64 0, .int .i64 0, .int .i64 0] 47)) P (t + 2 + 3 * j + 1)) := cu1.out.below ((Below.refl _ wp1).alloc (Nat.le_refl _) (.cells #[.int .i64 0, .int .i64 0, .int .i64 0] 47))
          have gr7 : Hid (wr.grownBy (wp1.alloc (.cells #[.int .i64 0, .int .i64 0, .int .i64 0] 47)) (some P)) := grownBy_trans gr1.out (grown_of_below ((Below.refl _ wp1).alloc (Nat.le_refl _) (.cells #[.int .i64 0, .int .i64 0, .int .i64 0] 47)) _)
          have hx7 : Hid (w1.heap.size < wp1.heap.size ∧ ga ≠ wp1.heap.size ∧ (Value.slice a5 n5 c5).ownBlock ≠ some wp1.heap.size ∧ wr.heap.size ≤ wp1.heap.size) := ⟨ov1.out.var.lt, Nat.ne_of_lt (ov1.out.own6.lt ga rfl).2, (fun e => Nat.lt_irrefl _ (ov1.out.own5.lt _ e).2), gr1.out.size⟩
          go_simp
          refine hK.out _ _ ⟨ov7.out.var, ov7.out.var.cell rfl, ov7.out.own6.cells.2⟩ (fun hHeld => ?_)
          clear hK K
          try simp only [Act.put, List.setIfInBounds_toArray, List.set_cons_zero, List.set_cons_succ]
          refine wpAnyH_ready (rs := [8]) (fuel := 5) (by kernel_rfl) (by simp) ?_
          refine AllReadyH.cons rfl (fun K hK => ?_) AllReadyH.nil
          go_simp
          refine (pick_le P (t + 2 + 3 * j + 1) (na : Int) _ cu7.out (by omega) (by omega) (by omega)).mono ?_
          rintro e wp8 ⟨r8, rfl, hra8, hrb8, hcur, hg⟩
          have ov8 := Lib.hid (ov7.out.pick hg)
          have cu8 := Lib.hid hcur
          have gr8 := Lib.hid (grownBy_trans gr7.out hg)
          have vx8 := Lib.hid (vx7.out.grown hg (fun e => by have h1 := Option.some.inj e; have h2 := hx7.out.1; omega))
          clear hcur hg
          go_wp2_with fail
          refine hK.out _ _ ⟨ov8.out.var, ov8.out.var.cell rfl, ov8.out.own6.cells.2⟩ (fun hHeld => ?_)
          clear hK K
          obtain ⟨jy, hjy⟩ : ∃ j : Nat, r8 = (j : Int) := ⟨r8.toNat, by omega⟩
          subst hjy
          have hjl : jy < na := by omega
          have hjl' : (jy : Int) < (na : Int) := by omega
          obtain ⟨y, hy⟩ : ∃ y, y = acts.getD jy 0 := ⟨_, rfl⟩
          have HY := Lib.hid hy
          clear hy
          refine take_op 9 55 (.pointer (some ⟨ga, jy, none⟩)) (fuel := 4) rfl rfl (by kernel_rfl) (by kernel_rfl) (by kernel_rfl) (fun _ _ _ h => h) (by rfl) (fun w hSw => by go_simp) hHeld ?_
          simp only [Act.put, List.setIfInBounds_toArray, List.set_cons_zero, List.set_cons_succ]
          refine take_op 10 56 (.int .i64 y) (fuel := 3) rfl rfl (by kernel_rfl) (by kernel_rfl) (by kernel_rfl) (fun _ _ _ h => h) (by rfl) (fun w hSw => by have hcy := hSw.2.2.out jy hjl; rw [← HY.out] at hcy; go_simp) hHeld ?_
          simp only [Act.put, List.setIfInBounds_toArray, List.set_cons_zero, List.set_cons_succ]
          refine wpAnyH_ready (rs := [14]) (fuel := 2) (by kernel_rfl) (by simp) ?_
          refine AllReadyH.cons rfl (fun K hK => ?_) AllReadyH.nil
          go_simp
          refine (pick_le P (t + 2 + 3 * j + 2) st _ cu8.out (by omega) (by omega) (by omega)).mono ?_
          rintro e wp9 ⟨r9, rfl, hra9, hrb9, hcur, hg⟩
          have ov9 := Lib.hid (ov8.out.pick hg)
          have cu9 := Lib.hid hcur
          have gr9 := Lib.hid (grownBy_trans gr8.out hg)
          have vx9 := Lib.hid (vx8.out.grown hg (fun e => by have h1 := Option.some.inj e; have h2 := hx7.out.1; omega))
          clear hcur hg
          go_wp2_with fail
          refine hK.out _ _ ⟨ov9.out.var, ov9.out.var.cell rfl, ov9.out.own6.cells.2⟩ (fun hHeld => ?_)
          clear hK K
          refine take_op 15 61 (.agg #[.int .i64 r1, .int .i64 y, .int .i64 r9]) (fuel := 1) rfl rfl (by kernel_rfl) (by kernel_rfl) (by kernel_rfl) (fun _ _ _ h => h) (by rfl) (fun w hSw => by go_simp) hHeld ?_
          simp only [Act.put, List.setIfInBounds_toArray, List.set_cons_zero, List.set_cons_succ]
          refine wpAnyH_ready (rs := [17]) (fuel := 0) (by kernel_rfl) (by simp) ?_
          refine AllReadyH.cons rfl (fun K hK => ?_) AllReadyH.nil
          have HGS := grown_setCells (wp1.heap.size) [.int .i64 r1, .int .i64 y, .int .i64 r9] 0 wp9
          have hA9 := hx7.out.1
          have ovs := Lib.hid (ov9.out.fresh HGS hx7.out.1 hx7.out.2.2.1 hx7.out.2.1)
          have cus : Hid (Cur (wp9.setCells (wp1.heap.size) 0 [.int .i64 r1, .int .i64 y, .int .i64 r9]) P (t + 2 + 3 * j + 3)) := cu9.out.keep (B := P + 1) HGS (by omega) (fun k hk => by have h1 := Option.some.inj hk; omega)
          have vxs := Lib.hid (var3_set vx9.out (.int .i64 r1) (.int .i64 y) (.int .i64 r9))
          have grs : Hid (wr.grownBy (wp9.setCells (wp1.heap.size) 0 [.int .i64 r1, .int .i64 y, .int .i64 r9]) (some P)) := grown_past gr9.out HGS hx7.out.2.2.2
          rw [if_pos (by rfl)]
          refine wp_store_mid _ _ _ rfl (wp1.heap.size) 0 #[.int .i64 r1, .int .i64 y, .int .i64 r9] rfl rfl (vx9.out.there rfl) (by kernel_rfl) (three_one _ _ _) ?_
          refine hK.out _ _ ⟨ovs.out.var, ovs.out.var.cell rfl, ovs.out.own6.cells.2⟩ (fun hHeld => ?_)
          clear hK K
          refine wpAnyH_done (by kernel_rfl) ?_ _
          exact REST.out (wp1.heap.size) r1 jy y r9 _ ⟨by omega, by omega, by omega, by omega, hjl, HY.out, ovs.out, cus.out, vxs.out, grs.out⟩
        refine AllReadyH.cons rfl (fun K hK => ?_) AllReadyH.nil
        have ov10 : Hid (Ov (wr.alloc (.cells #[.int .i64 0, .int .i64 0, .int .i64 0] 47)).drew P base w.heap.size w1.heap.size #[.int .i64 st, .int .i64 0, .slice b2 n2 d2, .slice b3 n3 d3, .slice b4 n4 d4, .slice a5 n5 c5] (.slice a5 n5 c5) n5 ss ga na ca acts b2 n2 d2 ins) := OV0.out.below ((Below.refl _ wr.drew).alloc (Nat.le_refl _) (.cells #[.int .i64 0, .int .i64 0, .int .i64 0] 47))
        have vx10 : Hid (VarIs (wr.alloc (.cells #[.int .i64 0, .int .i64 0, .int .i64 0] 47)).drew wr.heap.size #[.int .i64 0, .int .i64 0, .int .i64 0] 47) := VarIs.new wr.drew #[.int .i64 0, .int .i64 0, .int .i64 0] 47 rfl
        have cu10 : Hid (Cur (wr.alloc (.cells #[.int .i64 0, .int .i64 0, .int .i64 0] 47)).drew P (t + 2 + 3 * j + 0)) := CU0.out.below ((Below.refl _ wr.drew).alloc (Nat.le_refl _) (.cells #[.int .i64 0, .int .i64 0, .int .i64 0] 47))
        have gr10 : Hid (wr.grownBy (wr.alloc (.cells #[.int .i64 0, .int .i64 0, .int .i64 0] 47)).drew (some P)) := grownBy_trans GR0.out (grown_of_below ((Below.refl _ wr.drew).alloc (Nat.le_refl _) (.cells #[.int .i64 0, .int .i64 0, .int .i64 0] 47)) _)
        have hx10 : Hid (w1.heap.size < wr.heap.size ∧ ga ≠ wr.heap.size ∧ (Value.slice a5 n5 c5).ownBlock ≠ some wr.heap.size ∧ wr.heap.size ≤ wr.heap.size) := ⟨OV0.out.var.lt, Nat.ne_of_lt (OV0.out.own6.lt ga rfl).2, (fun e => Nat.lt_irrefl _ (OV0.out.own5.lt _ e).2), GR0.out.size⟩
        go_simp
        refine hK.out _ _ ⟨ov10.out.var, ov10.out.var.cell rfl, ov10.out.own6.cells.2⟩ (fun hHeld => ?_)
        clear hK K
        try simp only [Act.put, List.setIfInBounds_toArray, List.set_cons_zero, List.set_cons_succ]
        refine wpAnyH_ready (rs := [3]) (fuel := 6) (by kernel_rfl) (by simp) ?_
        refine AllReadyH.cons rfl (fun K hK => ?_) AllReadyH.nil
        go_simp
        refine (pick_le P (t + 2 + 3 * j + 0) st _ cu10.out (by omega) (by omega) (by omega)).mono ?_
        rintro e wp11 ⟨r11, rfl, hra11, hrb11, hcur, hg⟩
        have ov11 := Lib.hid (ov10.out.pick hg)
        have cu11 := Lib.hid hcur
        have gr11 := Lib.hid (grownBy_trans gr10.out hg)
        have vx11 := Lib.hid (vx10.out.grown hg (fun e => by have h1 := Option.some.inj e; have h2 := hx10.out.1; omega))
        clear hcur hg
        go_wp2_with fail
        refine hK.out _ _ ⟨ov11.out.var, ov11.out.var.cell rfl, ov11.out.own6.cells.2⟩ (fun hHeld => ?_)
        clear hK K
        refine wpAnyH_ready (rs := [8]) (fuel := 5) (by kernel_rfl) (by simp) ?_
        refine AllReadyH.cons rfl (fun K hK => ?_) AllReadyH.nil
        go_simp
        refine (pick_le P (t + 2 + 3 * j + 1) (na : Int) _ cu11.out (by omega) (by omega) (by omega)).mono ?_
        rintro e wp12 ⟨r12, rfl, hra12, hrb12, hcur, hg⟩
        have ov12 := Lib.hid (ov11.out.pick hg)
        have cu12 := Lib.hid hcur
        have gr12 := Lib.hid (grownBy_trans gr11.out hg)
        have vx12 := Lib.hid (vx11.out.grown hg (fun e => by have h1 := Option.some.inj e; have h2 := hx10.out.1; omega))
        clear hcur hg
        go_wp2_with fail
        refine hK.out _ _ ⟨ov12.out.var, ov12.out.var.cell rfl, ov12.out.own6.cells.2⟩ (fun hHeld => ?_)
        clear hK K
        obtain ⟨jy, hjy⟩ : ∃ j : Nat, r12 = (j : Int) := ⟨r12.toNat, by omega⟩
        subst hjy
        have hjl : jy < na := by omega
        have hjl' : (jy : Int) < (na : Int) := by omega
        obtain ⟨y, hy⟩ : ∃ y, y = acts.getD jy 0 := ⟨_, rfl⟩
        have HY := Lib.hid hy
        clear hy
        refine take_op 9 55 (.pointer (some ⟨ga, jy, none⟩)) (fuel := 4) rfl rfl (by kernel_rfl) (by kernel_rfl) (by kernel_rfl) (fun _ _ _ h => h) (by rfl) (fun w hSw => by go_simp) hHeld ?_
        simp only [Act.put, List.setIfInBounds_toArray, List.set_cons_zero, List.set_cons_succ]
        refine take_op 10 56 (.int .i64 y) (fuel := 3) rfl rfl (by kernel_rfl) (by kernel_rfl) (by kernel_rfl) (fun _ _ _ h => h) (by rfl) (fun w hSw => by have hcy := hSw.2.2.out jy hjl; rw [← HY.out] at hcy; go_simp) hHeld ?_
        simp only [Act.put, List.setIfInBounds_toArray, List.set_cons_zero, List.set_cons_succ]
        refine wpAnyH_ready (rs := [14]) (fuel := 2) (by kernel_rfl) (by simp) ?_
        refine AllReadyH.cons rfl (fun K hK => ?_) AllReadyH.nil
        go_simp
        refine (pick_le P (t + 2 + 3 * j + 2) st _ cu12.out (by omega) (by omega) (by omega)).mono ?_
        rintro e wp13 ⟨r13, rfl, hra13, hrb13, hcur, hg⟩
        have ov13 := Lib.hid (ov12.out.pick hg)
        have cu13 := Lib.hid hcur
        have gr13 := Lib.hid (grownBy_trans gr12.out hg)
        have vx13 := Lib.hid (vx12.out.grown hg (fun e => by have h1 := Option.some.inj e; have h2 := hx10.out.1; omega))
        clear hcur hg
        go_wp2_with fail
        refine hK.out _ _ ⟨ov13.out.var, ov13.out.var.cell rfl, ov13.out.own6.cells.2⟩ (fun hHeld => ?_)
        clear hK K
        refine take_op 15 61 (.agg #[.int .i64 r11, .int .i64 y, .int .i64 r13]) (fuel := 1) rfl rfl (by kernel_rfl) (by kernel_rfl) (by kernel_rfl) (fun _ _ _ h => h) (by rfl) (fun w hSw => by go_simp) hHeld ?_
        simp only [Act.put, List.setIfInBounds_toArray, List.set_cons_zero, List.set_cons_succ]
        refine wpAnyH_ready (rs := [17]) (fuel := 0) (by kernel_rfl) (by simp) ?_
        refine AllReadyH.cons rfl (fun K hK => ?_) AllReadyH.nil
        have HGS := grown_setCells (wr.heap.size) [.int .i64 r11, .int .i64 y, .int .i64 r13] 0 wp13
        have hA9 := hx10.out.1
        have ovs := Lib.hid (ov13.out.fresh HGS hx10.out.1 hx10.out.2.2.1 hx10.out.2.1)
        have cus : Hid (Cur (wp13.setCells (wr.heap.size) 0 [.int .i64 r11, .int .i64 y, .int .i64 r13]) P (t + 2 + 3 * j + 3)) := cu13.out.keep (B := P + 1) HGS (by omega) (fun k hk => by have h1 := Option.some.inj hk; omega)
        have vxs := Lib.hid (var3_set vx13.out (.int .i64 r11) (.int .i64 y) (.int .i64 r13))
        have grs : Hid (wr.grownBy (wp13.setCells (wr.heap.size) 0 [.int .i64 r11, .int .i64 y, .int .i64 r13]) (some P)) := grown_past gr13.out HGS hx10.out.2.2.2
        rw [if_pos (by rfl)]
        refine wp_store_mid _ _ _ rfl (wr.heap.size) 0 #[.int .i64 r11, .int .i64 y, .int .i64 r13] rfl rfl (vx13.out.there rfl) (by kernel_rfl) (three_one _ _ _) ?_
        refine hK.out _ _ ⟨ovs.out.var, ovs.out.var.cell rfl, ovs.out.own6.cells.2⟩ (fun hHeld => ?_)
        clear hK K
        refine wpAnyH_done (by kernel_rfl) ?_ _
        exact REST.out (wr.heap.size) r11 jy y r13 _ ⟨by omega, by omega, by omega, by omega, hjl, HY.out, ovs.out, cus.out, vxs.out, grs.out⟩
      · have hd : decide ((na : Int) > 0) = false := by simp; omega
        obtain ⟨a5, c5, rfl⟩ := HOV.out.own5.form
        obtain ⟨C, hC⟩ : ∃ C : Array Value, C = #[.int .i64 st, .int .i64 0, .slice b2 n2 d2, .slice b3 n3 d3, .slice b4 n4 d4, .slice a5 n5 c5] := ⟨_, rfl⟩
        have HC := Lib.hid hC
        have VC : Hid (VarIs wr w1.heap.size C 27) := by rw [hC]; exact HOV.out.var
        have hCl : C.toList.length = 6 := by rw [hC]; rfl
        have HCL := Lib.hid hCl
        have RG := Lib.hid VC.out.range
        have TH : Hid (wr.there w.heap.size 0 C.toList.toArray.size) := HOV.out.res.there (by rw [List.size_toArray, hCl]; rfl)
        have ON : Hid (C.toList.toArray.all (·.oneCell') = true) := by rw [hC]; exact six_one _ _ _ _ _ _ _ _ _ _ _ _ _ _
        clear hC hCl VC
        go_wp2_with (first | refine wpList_load_mid rfl _ _ rfl w1.heap.size 0 rfl C.toList _ RG.out Tryz.underlying27 rfl (by rw [HCL.out]; kernel_rfl) ?_ | refine wpList_store_mid rfl _ _ _ rfl w.heap.size 0 C.toList.toArray rfl rfl TH.out (by rw [List.size_toArray, HCL.out]; kernel_rfl) ON.out ?_)
        have RG2 : Hid ((wr.setCells w.heap.size 0 C.toList).rangeAt w.heap.size 0 C.toList) := World.rangeAt_setCells_same wr w.heap.size 0 C.toList (by simpa using TH.out)
        have HGS := Lib.hid (grown_setCells w.heap.size C.toList 0 wr)
        refine bodyPost_ret (v := .agg C) ?_ rfl ⟨st, .slice a5 n5 c5, n5, ss, by rw [HC.out], (HOV.out.own5.keep HGS.out (fun q hq e => by have h1 := (HOV.out.own5.lt q hq).1; have h2 := Option.some.inj e; omega)).mono (by omega), by omega, HNS.out, hst1, hst2, (HCU.out.keep (B := P + 1) HGS.out (by omega) (fun q hq => by have h1 := Option.some.inj hq; omega)).mono (by omega), grown_past HGR.out HGS.out (Nat.le_refl _)⟩
        have hCx := HC.out
        subst hCx
        have HF := RG2.out
        have HC0 := HF 0 _ rfl
        have HC1 := HF 1 _ rfl
        have HC2 := HF 2 _ rfl
        have HC3 := HF 3 _ rfl
        have HC4 := HF 4 _ rfl
        have HC5 := HF 5 _ rfl
        simp only [Nat.zero_add] at HC0 HC1 HC2 HC3 HC4 HC5
        clear HF RG2 HGS HC
        simp [results, Tryz.results54, go_sem, HC0, HC1, HC2, HC3, HC4, HC5]

    · have hd0 : decide ((k : Int) > 0) = false := by simp; omega
      obtain ⟨a5, c5, rfl⟩ := HOV.out.own5.form
      obtain ⟨C, hC⟩ : ∃ C : Array Value, C = #[.int .i64 st, .int .i64 0, .slice b2 n2 d2, .slice b3 n3 d3, .slice b4 n4 d4, .slice a5 n5 c5] := ⟨_, rfl⟩
      have HC := Lib.hid hC
      have VC : Hid (VarIs wr w1.heap.size C 27) := by rw [hC]; exact HOV.out.var
      have hCl : C.toList.length = 6 := by rw [hC]; rfl
      have HCL := Lib.hid hCl
      have RG := Lib.hid VC.out.range
      have TH : Hid (wr.there w.heap.size 0 C.toList.toArray.size) := HOV.out.res.there (by rw [List.size_toArray, hCl]; rfl)
      have ON : Hid (C.toList.toArray.all (·.oneCell') = true) := by rw [hC]; exact six_one _ _ _ _ _ _ _ _ _ _ _ _ _ _
      clear hC hCl VC
      go_wp2_with (first | refine wpList_load_mid rfl _ _ rfl w1.heap.size 0 rfl C.toList _ RG.out Tryz.underlying27 rfl (by rw [HCL.out]; kernel_rfl) ?_ | refine wpList_store_mid rfl _ _ _ rfl w.heap.size 0 C.toList.toArray rfl rfl TH.out (by rw [List.size_toArray, HCL.out]; kernel_rfl) ON.out ?_)
      have RG2 : Hid ((wr.setCells w.heap.size 0 C.toList).rangeAt w.heap.size 0 C.toList) := World.rangeAt_setCells_same wr w.heap.size 0 C.toList (by simpa using TH.out)
      have HGS := Lib.hid (grown_setCells w.heap.size C.toList 0 wr)
      refine bodyPost_ret (v := .agg C) ?_ rfl ⟨st, .slice a5 n5 c5, n5, ss, by rw [HC.out], (HOV.out.own5.keep HGS.out (fun q hq e => by have h1 := (HOV.out.own5.lt q hq).1; have h2 := Option.some.inj e; omega)).mono (by omega), by omega, HNS.out, hst1, hst2, (HCU.out.keep (B := P + 1) HGS.out (by omega) (fun q hq => by have h1 := Option.some.inj hq; omega)).mono (by omega), grown_past HGR.out HGS.out (Nat.le_refl _)⟩
      have hCx := HC.out
      subst hCx
      have HF := RG2.out
      have HC0 := HF 0 _ rfl
      have HC1 := HF 1 _ rfl
      have HC2 := HF 2 _ rfl
      have HC3 := HF 3 _ rfl
      have HC4 := HF 4 _ rfl
      have HC5 := HF 5 _ rfl
      simp only [Nat.zero_add] at HC0 HC1 HC2 HC3 HC4 HC5
      clear HF RG2 HGS HC
      simp [results, Tryz.results54, go_sem, HC0, HC1, HC2, HC3, HC4, HC5]

end Go.Proofs.YtfhjhfhfbgddeaaGreatDoor
