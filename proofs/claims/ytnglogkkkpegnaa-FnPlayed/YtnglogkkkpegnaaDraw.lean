/-
  Contracts of the model's cursor over a code (l01Open, pick, once, raw): each answers a number within its bound and moves the cursor alone. Conditions: the code is a slice of at most 2^20 bytes that lies below the cursor's own block.
-/
import Derived.Test.YtnglogkkkpegnaaChecked
import Derived.Test.YtnglogkkkpegnaaBase
import Derived.Deep.QuietTactic
import Derived.BigQuiet
import Derived.WalkSmall
namespace Go.Proofs.Ytnglogkkkpegnaa
open Go.RowKit

/-- A slice of bytes below block 'P'. -/
def Code (w : World) (P : Nat) (a : Option Addr) (n : Nat) : Prop :=
  0 < n → ∃ b off, a = some ⟨b, off, none⟩ ∧ b < P ∧ b < w.heap.size ∧ ∀ i, i < n → ∃ y : Nat, y ≤ 255 ∧ w.cell? ⟨b, off + i, none⟩ = some (.int .u8 y)

/-- A cursor lies in block 'P'; it has handed out at most 't' numbers. -/
def Cur (w : World) (P t : Nat) : Prop :=
  ∃ (a : Option Addr) (n c j s : Nat), w.heap[P]? = some (.cells #[.slice a n c, .int .i64 j, .int .i64 s] 84 (0, 0)) ∧ j ≤ t ∧ s ≤ 70000 ∧ n ≤ 1048576 ∧ Code w P a n

theorem Code.grown {w w' : World} {P n : Nat} {a : Option Addr} (h : Code w P a n) (hg : w.grownBy w' (some P)) : Code w' P a n := by
  intro hn
  obtain ⟨b, off, e, hb, hs, hc⟩ := h hn
  refine ⟨b, off, e, hb, Nat.lt_of_lt_of_le hs hg.size, fun i hi => ?_⟩
  obtain ⟨y, hy, hcell⟩ := hc i hi
  exact ⟨y, hy, hg.cell hcell (by simp; omega)⟩

theorem Code.below {w w' : World} {P n : Nat} {a : Option Addr} (h : Code w P a n) (hb : Below w.heap.size w w') : Code w' P a n := by
  intro hn
  obtain ⟨b, off, e, hbP, hs, hc⟩ := h hn
  refine ⟨b, off, e, hbP, Nat.lt_of_lt_of_le hs hb.size, fun i hi => ?_⟩
  obtain ⟨y, hy, hcell⟩ := hc i hi
  exact ⟨y, hy, (hb.cell (p := ⟨b, off + i, none⟩) hs).trans hcell⟩

theorem Code.mono {w : World} {P P' n : Nat} {a : Option Addr} (h : Code w P a n) (hP : P ≤ P') : Code w P' a n := by
  intro hn
  obtain ⟨b, off, e, hb, r⟩ := h hn
  exact ⟨b, off, e, by omega, r⟩

theorem Cur.lt {w : World} {P t : Nat} (h : Cur w P t) : P < w.heap.size := by
  obtain ⟨a, n, c, j, s, hh, _⟩ := h
  by_cases hlt : P < w.heap.size
  · exact hlt
  · rw [Array.getElem?_eq_none (by omega)] at hh; cases hh

theorem Cur.mono {w : World} {P t t' : Nat} (h : Cur w P t) (ht : t ≤ t') : Cur w P t' := by
  obtain ⟨a, n, c, j, s, hh, h1, h2⟩ := h
  exact ⟨a, n, c, j, s, hh, by omega, h2⟩

theorem Cur.below {w w' : World} {P t : Nat} (h : Cur w P t) (hb : Below w.heap.size w w') : Cur w' P t := by
  have hlt := h.lt
  obtain ⟨a, n, c, j, s, hh, h1, h2, h3, h4⟩ := h
  exact ⟨a, n, c, j, s, by rw [hb.block P hlt]; exact hh, h1, h2, h3, h4.below hb⟩

/-- The cursor stays while a row at or above block 'B' is written and new blocks are made. -/
theorem Cur.keep {w w' : World} {P t B : Nat} {r : Option Nat} (h : Cur w P t) (hg : w.grownBy w' r) (hB : P < B) (hr : ∀ k, r = some k → B ≤ k) : Cur w' P t := by
  have hlt := h.lt
  obtain ⟨a, n, c, j, s, hh, h1, h2, h3, h4⟩ := h
  refine ⟨a, n, c, j, s, ?_, h1, h2, h3, fun hn => ?_⟩
  · rw [hg.block P hlt (fun e => by have := hr P e.symm; omega)]; exact hh
  · obtain ⟨b, off, e, hb, hs, hc⟩ := h4 hn
    refine ⟨b, off, e, hb, Nat.lt_of_lt_of_le hs hg.size, fun i hi => ?_⟩
    obtain ⟨y, hy, hcell⟩ := hc i hi
    exact ⟨y, hy, hg.cell hcell (fun e => by have := hr b e.symm; omega)⟩

/-- What a pick leaves. -/
def PickRes (w : World) (P t : Nat) (n : Int) (e : Ending) (w' : World) : Prop :=
  ∃ r : Int, e = .returned (.int .i64 r) ∧ 0 ≤ r ∧ r < n ∧ Cur w' P (t + 1) ∧ w.grownBy w' (some P)

theorem grownBy_set (w : World) (P o : Nat) (v : Value) : w.grownBy (w.setCell ⟨P, o, none⟩ v) (some P) :=
  ⟨rfl, rfl, rfl, by simp [World.setCell], fun k _ hk => Below.heap_setCell _ _ _ _ (fun e => hk (by simp [e]))⟩
theorem grownBy_drewN (w : World) (n : Nat) (r : Option Nat) : w.grownBy (w.drewN n) r := ⟨rfl, rfl, rfl, Nat.le_refl _, fun _ _ _ => rfl⟩

/-- The end of a pick: the place moved on, the seed as it is. -/
theorem pick_end1 {w w' : World} {P t n c j s q : Nat} {a : Option Addr} (hh : w.heap[P]? = some (.cells #[.slice a n c, .int .i64 j, .int .i64 s] 84 (0, 0))) (hj : j ≤ t) (hs : s ≤ 70000) (hn : n ≤ 1048576) (hc : Code w P a n)
    (hw : w' = (w.drewN q).setCell ⟨P, 1, none⟩ (.int .i64 ((j : Int) + 1))) : Cur w' P (t + 1) ∧ w.grownBy w' (some P) := by
  have hg : w.grownBy w' (some P) := by subst hw; exact grownBy_trans (grownBy_drewN _ _ _) (grownBy_set _ _ _ _)
  refine ⟨⟨a, n, c, j + 1, s, ?_, by omega, hs, hn, hc.grown hg⟩, hg⟩
  subst hw
  exact heap_setCell_same (w.drewN q) P 1 _ _ _ hh

/-- The same, the seed turned too. -/
theorem pick_end2 {w w' : World} {P t n c j s q q2 : Nat} {a : Option Addr} {x : Int} (hh : w.heap[P]? = some (.cells #[.slice a n c, .int .i64 j, .int .i64 s] 84 (0, 0))) (hj : j ≤ t) (hx0 : 0 ≤ x) (hx : x ≤ 70000) (hn : n ≤ 1048576) (hc : Code w P a n)
    (hw : w' = (((w.drewN q).setCell ⟨P, 2, none⟩ (.int .i64 x)).drewN q2).setCell ⟨P, 1, none⟩ (.int .i64 ((j : Int) + 1))) : Cur w' P (t + 1) ∧ w.grownBy w' (some P) := by
  have hg : w.grownBy w' (some P) := by
    subst hw; exact grownBy_trans (grownBy_trans (grownBy_trans (grownBy_drewN _ _ _) (grownBy_set _ _ _ _)) (grownBy_drewN _ _ _)) (grownBy_set _ _ _ _)
  obtain ⟨s', rfl⟩ : ∃ s' : Nat, x = (s' : Int) := ⟨x.toNat, by omega⟩
  refine ⟨⟨a, n, c, j + 1, s', ?_, by omega, by omega, hn, hc.grown hg⟩, hg⟩
  subst hw
  exact heap_setCell_same _ P 1 _ _ _ (heap_setCell_same (w.drewN q) P 2 _ _ _ hh)

set_option maxRecDepth 20000 in
set_option maxHeartbeats 1600000 in
theorem pick_any (P t : Nat) (m : Int) (w : World) (h : Cur w P t) (ht : t ≤ 1099511627776) (hm : 2 ≤ m) (hm2 : m ≤ 1048576) :
    Calls Try.prog 35 #[.pointer (some ⟨P, 0, none⟩), .int .i64 m] w (PickRes w P t m) := by
  obtain ⟨a, n, c, j, s, hh, hj, hs, hn, hcode⟩ := h
  have c0 : w.cell? ⟨P, 0, none⟩ = some (.slice a n c) := by rw [cell_of_row w P 0 _ _ _ hh]; rfl
  have c1 : w.cell? ⟨P, 1, none⟩ = some (.int .i64 j) := by rw [cell_of_row w P 1 _ _ _ hh]; rfl
  have c2 : w.cell? ⟨P, 2, none⟩ = some (.int .i64 s) := by rw [cell_of_row w P 2 _ _ _ hh]; rfl
  have f1 : w.frozen? ⟨P, 1, none⟩ = false := frozen_of_row w P 1 _ _ hh
  have f2 : w.frozen? ⟨P, 2, none⟩ = false := frozen_of_row w P 2 _ _ hh
  have HH := Lib.hid hh
  have HC := Lib.hid hcode
  clear hh hcode
  by_cases hlt : j < n
  · obtain ⟨b, off, rfl, hb, hbs, hcell⟩ := HC.out (by omega)
    obtain ⟨y, hy, hcy⟩ := hcell j hlt
    clear hcell
    go_enter Try.func35, Try.ntmps35
    go_wp2
    go_quiet (fail)
    go_wp2
    go_quiet (fail)
    go_wp2
    go_ret
    obtain ⟨hcur, hgr⟩ := pick_end1 (t := t) HH.out hj hs hn HC.out rfl
    exact ⟨_, rfl, Int.emod_nonneg _ (by omega), Int.emod_lt_of_pos _ (by omega), hcur, hgr⟩
  · by_cases h0 : 0 < n
    · obtain ⟨b, off, rfl, hb, hbs, hcell⟩ := HC.out (by omega)
      obtain ⟨y, hy, hcy⟩ := hcell (j % n) (Nat.mod_lt _ h0)
      have hjn := Nat.mod_lt j h0
      clear hcell
      go_enter Try.func35, Try.ntmps35
      go_wp2
      go_quiet (fail)
      go_wp2
      go_quiet (fail)
      go_wp2
      go_ret
      exact ⟨_, rfl, Int.emod_nonneg _ (by omega), Int.emod_lt_of_pos _ (by omega), pick_end2 (x := ((s : Int) * 1103 + 12345) % 65521) HH.out hj (by omega) (by omega) hn HC.out rfl⟩
    · go_enter Try.func35, Try.ntmps35
      go_wp2
      go_quiet (fail)
      go_wp2
      go_ret
      exact ⟨0, rfl, by omega, by omega, pick_end2 (x := ((s : Int) * 1103 + 12345) % 65521) (q2 := 0) HH.out hj (by omega) (by omega) hn HC.out rfl⟩

/-- What once leaves. -/
def OnceRes (w : World) (P t : Nat) (e : Ending) (w' : World) : Prop :=
  ∃ r : Bool, e = .returned (.bool r) ∧ Cur w' P (t + 1) ∧ w.grownBy w' (some P)

theorem once_any (P t : Nat) (m : Int) (w : World) (h : Cur w P t) (ht : t ≤ 1099511627776) (hm : 2 ≤ m) (hm2 : m ≤ 1048576) :
    Calls Try.prog 55 #[.pointer (some ⟨P, 0, none⟩), .int .i64 m] w (OnceRes w P t) := by
  have H := Lib.hid h
  clear h
  go_enter Try.func55, Try.ntmps55
  go_wp2_with fail
  refine (pick_any P t m _ H.out ht hm hm2).mono ?_
  rintro e w1 ⟨r, rfl, hr0, hr1, hcur, hg⟩
  go_wp2_with fail
  go_ret
  exact ⟨_, rfl, hcur, hg⟩

/-- A number that an int holds. -/
def InI64 (n : Int) : Prop := -9223372036854775808 ≤ n ∧ n ≤ 9223372036854775807

/-- What raw leaves. -/
def RawRes (w : World) (P t : Nat) (e : Ending) (w' : World) : Prop :=
  ∃ r : Int, e = .returned (.int .i64 r) ∧ InI64 r ∧ Cur w' P (t + 2) ∧ w.grownBy w' (some P)

def rawTab : Array Value := #[.int .i64 9223372036854775807, .int .i64 (-9223372036854775808), .int .i64 4611686018427387904, .int .i64 1000, .int .i64 1001, .int .i64 (-1000), .int .i64 100000, .int .i64 100001]

theorem raw_at : ∀ j, j < 8 → ∃ u, InI64 u ∧ rawTab[j]? = some (.int .i64 u)
  | 0, _ => ⟨_, ⟨by decide, by decide⟩, rfl⟩ | 1, _ => ⟨_, ⟨by decide, by decide⟩, rfl⟩ | 2, _ => ⟨_, ⟨by decide, by decide⟩, rfl⟩ | 3, _ => ⟨_, ⟨by decide, by decide⟩, rfl⟩ | 4, _ => ⟨_, ⟨by decide, by decide⟩, rfl⟩ | 5, _ => ⟨_, ⟨by decide, by decide⟩, rfl⟩ | 6, _ => ⟨_, ⟨by decide, by decide⟩, rfl⟩ | 7, _ => ⟨_, ⟨by decide, by decide⟩, rfl⟩

theorem raw_cell {w1 w2 : World} {P j : Nat} (hg : (w1.alloc (.cells rawTab 3)).grownBy w2 (some P)) (hP : P < w1.heap.size) (hj : j < 8) : ∃ u, InI64 u ∧ w2.cell? ⟨w1.heap.size, j, none⟩ = some (.int .i64 u) := by
  obtain ⟨u, hi, hu⟩ := raw_at j hj
  refine ⟨u, hi, ?_⟩
  have h1 : (w1.alloc (.cells rawTab 3)).cell? ⟨w1.heap.size, j, none⟩ = some (.int .i64 u) := by
    rw [cell_of_row _ w1.heap.size j rawTab 3 (0, 0) (heap_alloc_new w1 _)]
    exact hu
  exact hg.cell h1 (by simp; omega)

set_option maxRecDepth 20000 in
set_option maxHeartbeats 1600000 in
theorem raw_any (P t : Nat) (w : World) (h : Cur w P t) (ht : t ≤ 1099511627774) :
    Calls Try.prog 36 #[.pointer (some ⟨P, 0, none⟩)] w (RawRes w P t) := by
  have H := Lib.hid h
  clear h
  go_enter Try.func36, Try.ntmps36
  go_wp2_with fail
  refine (pick_any P t 8 _ H.out (by omega) (by omega) (by omega)).mono ?_
  rintro e w1 ⟨r, rfl, hr0, hr1, hcur, hg⟩
  have H1 := Lib.hid hcur
  clear hcur
  by_cases h0 : r = 0
  · subst h0
    go_wp2_with fail
    refine (pick_any P (t + 1) 256 _ H1.out (by omega) (by omega) (by omega)).mono ?_
    rintro e w2 ⟨r2, rfl, hr20, hr21, hcur2, hg2⟩
    go_wp2_with fail
    go_ret
    exact ⟨_, rfl, ⟨by omega, by omega⟩, hcur2, grownBy_trans hg hg2⟩
  · by_cases h1 : r = 1
    · subst h1
      clear h0
      go_wp2_with fail
      have hbel : ∀ o, Below w1.heap.size w1 (w1.alloc o) := fun o => (Below.refl _ w1).alloc (Nat.le_refl _) o
      change Calls _ _ _ (w1.alloc (.cells rawTab 3)) _
      refine (pick_any P (t + 1) 8 _ (H1.out.below (hbel _)) (by omega) (by omega) (by omega)).mono ?_
      rintro e w2 ⟨r2, rfl, hr20, hr21, hcur2, hg2⟩
      obtain ⟨j, rfl⟩ : ∃ j : Nat, r2 = (j : Int) := ⟨r2.toNat, by omega⟩
      have hj8 : j < 8 := by omega
      obtain ⟨u, hi8, hu⟩ := raw_cell hg2 H1.out.lt hj8
      have HI := Lib.hid hi8
      clear hi8
      have HG := Lib.hid (grownBy_trans hg (grownBy_trans (World.grownBy_alloc w1 (.cells rawTab 3) (some P)) hg2))
      clear hg hg2 hbel
      go_wp2_with fail
      go_ret
      exact ⟨_, rfl, HI.out, hcur2, HG.out⟩
    · go_wp2_with fail
      refine (pick_any P (t + 1) 14 _ H1.out (by omega) (by omega) (by omega)).mono ?_
      rintro e w2 ⟨r2, rfl, hr20, hr21, hcur2, hg2⟩
      go_wp2_with fail
      go_ret
      exact ⟨_, rfl, ⟨by omega, by omega⟩, hcur2, grownBy_trans hg hg2⟩

theorem open_any (a : Option Addr) (n c : Nat) (w : World) (hn : n ≤ 1048576) (hcode : Code w w.heap.size a n) :
    Calls Try.prog 32 #[.slice a n c] w fun e w' => e = .returned (.pointer (some ⟨w.heap.size, 0, none⟩)) ∧ Cur w' w.heap.size 0 ∧ Below w.heap.size w w' := by
  have HC := Lib.hid hcode
  clear hcode
  go_enter Try.func32, Try.ntmps32
  go_wp2
  go_ret
  have hb : ∀ o, Below w.heap.size w (w.alloc o) := fun o => (Below.refl _ w).alloc (Nat.le_refl _) o
  obtain ⟨s, hs, hs2⟩ : ∃ s : Nat, (107 + (n : Int) % 1000) = (s : Int) ∧ s ≤ 70000 := ⟨107 + n % 1000, by omega, by omega⟩
  rw [hs]
  exact ⟨rfl, ⟨a, n, c, 0, s, heap_alloc_new w _, Nat.le_refl _, hs2, hn, HC.out.below (hb _)⟩, hb _⟩

theorem below_of_grown {w w1 w2 : World} (hb : Below w.heap.size w w1) (hg : w1.grownBy w2 (some w.heap.size)) : Below w.heap.size w w2 :=
  hb.grown hg hb.size (fun k hk => by cases hk; exact Nat.le_refl _)

theorem IsRow.code {w : World} {a : Option Addr} {len cap : Nat} {zs : List Int} (h : IsRow .u8 w a len cap zs) : Code w w.heap.size a len := by
  intro h0
  rcases h with ⟨rfl, rfl, rfl, rfl⟩ | ⟨x, rfl, hl, hm, hz, hcell, hwz⟩
  · omega
  · obtain ⟨b, off, spot⟩ := x
    have hc := hcell 0 (by omega)
    have hspot : spot = none := by simpa [Addr.add] using World.cell?_spot hc
    subst hspot
    have hlt : b < w.heap.size := by
      have := World.block_lt_of_cell? w _ hc
      simpa [Addr.add] using this
    refine ⟨b, off, rfl, hlt, hlt, fun j hj => ?_⟩
    have := hcell j (by omega)
    rw [add_lit] at this
    have hj2 : j < zs.length := by omega
    have hw := hwz zs[j] (List.getElem_mem hj2)
    have hx : 0 ≤ zs[j] ∧ zs[j] ≤ 255 := by simpa [Lit.wf, IntKind.min, IntKind.max, IntKind.signed, IntKind.bits] using hw
    refine ⟨zs[j].toNat, by omega, ?_⟩
    rw [this, getD_eq zs j hj2]
    congr 2
    omega

theorem IsRow.lenAny {k : IntKind} {w : World} {a : Option Addr} {len cap : Nat} {zs : List Int} (h : IsRow k w a len cap zs) : len ≤ 9223372036854775807 := by
  rcases h with ⟨_, rfl, _⟩ | ⟨_, _, h1, h2, _⟩
  · omega
  · unfold maxLen at h2; omega


end Go.Proofs.Ytnglogkkkpegnaa
