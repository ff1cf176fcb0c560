/-
  Rows of pairs in the laws: how they are measured, copied and compared (szPairS, toPairS, eqPairS), and one that came in as an argument. Conditions: as each statement says.
-/
import Derived.Test.YtdbgjgeglgipiaaGreatRowQ
import Derived.Test.YtdbgjgeglgipiaaGreatIaS
import Derived.Test.YtdbgjgeglgipiaaGreatFast
namespace Go.Proofs.YtdbgjgeglgipiaaGreat
open Go.RowKit Go.ChangeShapes Go.WideShapes Go.Deep

theorem RowQ.drew {w : World} {a : Option Addr} {n : Nat} {L : List (Int × Int)} (h : RowQ w a n L) : RowQ w.drew a n L := h.below (Below.refl _ _).drew

theorem szPairS_any (a : Option Addr) (n c : Nat) (left : Int) (w : World) (h0 : 0 ≤ left) (h1 : left ≤ 1099511627776) (hn : n ≤ maxLen) :
    Calls Tryz.prog 13 #[.slice a n c, .int .i64 left] w fun e w' => e = .returned (.int .i64 (roomOf left n)) ∧ w' = w := by
  unfold maxLen at hn
  by_cases h : (n : Int) ≤ left
  · have e : roomOf left n = left - n := if_pos h
    rw [e]
    go_enter Tryz.func13, Tryz.ntmps13
    go_wp2
    go_ret
    exact ⟨ret_int (by go_num), rfl⟩
  · have e : roomOf left n = -1 := if_neg h
    rw [e]
    go_enter Tryz.func13, Tryz.ntmps13
    go_wp2
    go_ret
    exact ⟨rfl, rfl⟩

theorem toPair_any (x y : Int) (w : World) :
    Calls Tryz.prog 33 #[.agg #[.int .i64 x, .int .i64 y]] w fun e w' => e = .returned (.agg #[.int .i64 x, .int .i64 y]) ∧ Below w.heap.size w w' := by
  go_enter Tryz.func33, Tryz.ntmps33
  go_wp2
  refine bodyPost_ret (v := .agg #[.int .i64 x, .int .i64 y]) (by simp [results, Tryz.results33, go_sem]) rfl ⟨rfl, ?_⟩
  exact (((Below.refl _ _).alloc (Nat.le_refl _) _).alloc (by simp) _).alloc (by simp; omega) _

theorem eqPair_any (x y : Int) (w : World) :
    Calls Tryz.prog 39 #[.agg #[.int .i64 x, .int .i64 y], .agg #[.int .i64 x, .int .i64 y]] w fun e w' => e = .returned (.bool true) ∧ Below w.heap.size w w' := by
  have HB : Hid (∀ o o', Below w.heap.size w ((w.alloc o).alloc o')) := fun o o' => ((Below.refl _ _).alloc (Nat.le_refl _) _).alloc (by simp) _
  go_enter Tryz.func39, Tryz.ntmps39
  go_wp2
  go_ret
  exact ⟨rfl, HB.out _ _⟩

/-- A row of pairs under way. -/
def PartQ (w : World) (g n k : Nat) (L : List (Int × Int)) : Prop :=
  g < w.heap.size ∧ (∀ j, j < n → w.there g (j * 2) 2) ∧ ∀ j x, j < k → L[j]? = some x → w.rangeAt g (j * 2) [.int .i64 x.1, .int .i64 x.2]

theorem PartQ.below {w w' : World} {g n k : Nat} {L : List (Int × Int)} (h : PartQ w g n k L) (hb : Below w.heap.size w w') : PartQ w' g n k L :=
  ⟨Nat.lt_of_lt_of_le h.1 hb.size, fun j hj => there_below (h.2.1 j hj) h.1 hb, fun j x hj hx => rangeAt_below (h.2.2 j x hj hx) h.1 hb⟩

theorem PartQ.stored {w : World} {g n k : Nat} {L : List (Int × Int)} (h : PartQ w g n k L) (hk : k < n) {x y : Int} (hx : L[k]? = some (x, y)) : PartQ (w.setCells g (k * 2) [.int .i64 x, .int .i64 y]) g n (k + 1) L := by
  obtain ⟨h1, h2, h3⟩ := h
  have hg := grown_setCells g [.int .i64 x, .int .i64 y] (k * 2) w
  refine ⟨Nat.lt_of_lt_of_le h1 hg.size, fun j hj => World.there_setCells (h2 j hj) _ _ _, fun j z hj hz => ?_⟩
  by_cases e : j = k
  · subst e
    obtain rfl : (x, y) = z := Option.some.inj (hx.symm.trans hz)
    exact World.rangeAt_setCells_same _ _ _ _ (h2 j hk)
  · exact World.rangeAt_setCells_apart (h3 j z (by omega) hz) _ _ _ (Or.inr (Or.inl (by simp; omega)))

theorem PartQ.row {w : World} {g n : Nat} {L : List (Int × Int)} (h : PartQ w g n n L) (hl : L.length = n) : RowQ w (some ⟨g, 0, none⟩) n L := by
  refine ⟨hl, fun _ => ⟨g, 0, rfl, h.1, fun j x hx => ?_⟩⟩
  have hj : j < L.length := (List.getElem?_eq_some_iff.1 hx).1
  have hr := h.2.2 j x (by omega) hx
  rw [Nat.zero_add]
  exact ⟨hr 0 _ rfl, hr 1 _ rfl⟩

theorem pair_range {w : World} {b o : Nat} {x y : Int} (c0 : w.cell? ⟨b, o, none⟩ = some (.int .i64 x)) (c1 : w.cell? ⟨b, o + 1, none⟩ = some (.int .i64 y)) : w.rangeAt b o [.int .i64 x, .int .i64 y] := by
  intro j v hv
  match j, hv with
  | 0, hv => simp at hv; subst hv; exact c0
  | 1, hv => simp at hv; subst hv; exact c1
  | j + 2, hv => simp at hv

theorem pair_one (x y : Int) : (#[.int .i64 x, .int .i64 y] : Array Value).all (·.oneCell') = true :=
  all_oneCell_toArray (fun u hu => by
    simp only [List.mem_cons, List.not_mem_nil, or_false] at hu
    rcases hu with rfl | rfl <;> rfl)

set_option maxRecDepth 20000 in
set_option maxHeartbeats 1600000 in
theorem toPairS_any (a : Option Addr) (n c : Nat) (L : List (Int × Int)) (w : World) (h : RowQ w a n L) (hn : n ≤ 1048576) :
    Calls Tryz.prog 15 #[.slice a n c] w fun e w' => e = .returned (.slice (some ⟨w.heap.size, 0, none⟩) n n) ∧ RowQ w' (some ⟨w.heap.size, 0, none⟩) n L ∧ Below w.heap.size w w' := by
  obtain ⟨i0, hi, hz0, hz1, hz2⟩ := info_parts (show (Tryz.prog.info? 59).map (fun i => (i.zero, i.size, i.bytes)) = some (some (.agg #[.int .i64 0, .int .i64 0]), 2, 16) by kernel_rfl)
  have HL := Lib.hid h.1
  have HC := Lib.hid h.2
  clear h
  go_enter Tryz.func15, Tryz.ntmps15
  go_wp2_with (at_make; refine wpList_make_full _ rfl _ _ 40 rfl w.heap.size 59 i0 (.agg #[.int .i64 0, .int .i64 0]) 2 Tryz.underlying40 hi hz0 hz1 _ _ _ _ n rfl rfl rfl rfl ?b2 ?b3 (Nat.le_refl _) ?_)
  case b2 => first | (rw [hz2]; omega) | omega
  case b3 => unfold maxLen; omega
  intro w0 hown0 hgrow0
  have H0 : Hid (PartQ w0 w.heap.size n 0 L) := ⟨hown0.lt _ rfl |>.2, fun j hj => there_made hown0 j hj, fun j x hj _ => absurd hj (Nat.not_lt_zero _)⟩
  have B0 : Hid (Below w.heap.size w w0) := (Below.refl _ _).grown hgrow0 (Nat.le_refl _) (fun k h => by cases h)
  clear hown0 hgrow0
  go_wp2
  go_loopw [4] (fun i wr => ∃ k : Nat, k ≤ n ∧ i = .int .i64 k ∧ Hid (PartQ wr w.heap.size n k L) ∧ Hid (Below w.heap.size w wr)) (fun i _ => n - (intOf i).toNat)
  case atStart => exact ⟨0, Nat.zero_le _, rfl, H0.out, B0.out⟩
  case round =>
    clear H0 B0
    obtain ⟨k, hk, rfl, HO, HB⟩ := hrel
    by_cases hlt : k < n
    · obtain ⟨b, off, rfl, hb, hcell⟩ := HC.out (by omega)
      have hkx : k < L.length := by rw [HL.out]; exact hlt
      obtain ⟨c0, c1⟩ := hcell k L[k] (List.getElem?_eq_getElem hkx)
      obtain ⟨⟨x, y⟩, hx⟩ : ∃ x, L[k]? = some x := ⟨_, List.getElem?_eq_getElem hkx⟩
      have hx2 : L[k] = (x, y) := Option.some.inj ((List.getElem?_eq_getElem hkx).symm.trans hx)
      rw [hx2] at c0 c1
      have HX := Lib.hid hx
      have HRg : Hid (wr.rangeAt b (off + k * 2) [.int .i64 x, .int .i64 y]) := rangeAt_below (pair_range c0 c1) hb HB.out
      clear hx hx2 c0 c1 hcell
      go_wp2_with (refine wpList_load_mid rfl _ _ rfl b (off + k * 2) rfl [.int .i64 x, .int .i64 y] _ HRg.out Tryz.underlying61 rfl (by kernel_rfl) ?_)
      refine (toPair_any x y _).mono ?_
      rintro e w1 ⟨rfl, hb1⟩
      have HO1 : Hid (PartQ w1 w.heap.size n k L) := HO.out.below hb1
      have HB1 : Hid (Below w.heap.size w w1) := HB.out.trans (hb1.mono HB.out.size)
      have HTH : Hid (w1.there w.heap.size (k * 2) 2) := HO1.out.2.1 k hlt
      have HST := Lib.hid (HO1.out.stored hlt HX.out)
      have HB2 : Hid (Below w.heap.size w (w1.setCells w.heap.size (k * 2) [.int .i64 x, .int .i64 y])) := HB1.out.grown (grown_setCells _ _ _ _) HB1.out.size (fun k h => by cases h; exact Nat.le_refl _)
      clear hb1 HO HO1 HB
      go_wp2_with (refine wpList_store_mid rfl _ _ _ rfl w.heap.size _ #[.int .i64 x, .int .i64 y] rfl rfl (by simpa using HTH.out) (by kernel_rfl) (pair_one x y) ?_)
      go_roundw
      case rel => exact ⟨k + 1, by omega, by go_num, HST.out, HB2.out⟩
      case measure => simp [intOf]; omega
    · obtain rfl : n = k := by omega
      go_wp2
      go_ret
      exact ⟨rfl, HO.out.row HL.out, HB.out⟩

set_option maxRecDepth 20000 in
set_option maxHeartbeats 6400000 in
theorem eqPairS_any (ar br : Option Addr) (n c c2 : Nat) (L : List (Int × Int)) (w : World) (h : RowQ w ar n L) (h2 : RowQ w br n L) (hn : n ≤ 1048576) :
    Calls Tryz.prog 17 #[.slice ar n c, .slice br n c2] w fun e w' => e = .returned (.bool true) ∧ Below w.heap.size w w' := by
  have HL := Lib.hid h.1
  have HC := Lib.hid h.2
  have HD := Lib.hid h2.2
  clear h h2
  have hnn : ((n : Int) != (n : Int)) = false := by simp
  go_enter Tryz.func17, Tryz.ntmps17
  go_wp2_with fail
  go_loopw [5] (fun i wr => ∃ k : Nat, k ≤ n ∧ i = .int .i64 k ∧ Hid (Below w.heap.size w wr)) (fun i _ => n - (intOf i).toNat)
  case atStart => exact ⟨0, Nat.zero_le _, rfl, Below.refl _ _⟩
  case round =>
    obtain ⟨k, hk, rfl, HB⟩ := hrel
    by_cases hlt : k < n
    · obtain ⟨b, off, rfl, hb, hcell⟩ := HC.out (by omega)
      obtain ⟨g, og, rfl, hg, hcelg⟩ := HD.out (by omega)
      have hkx : k < L.length := by rw [HL.out]; exact hlt
      obtain ⟨c0, c1⟩ := hcell k L[k] (List.getElem?_eq_getElem hkx)
      obtain ⟨d0, d1⟩ := hcelg k L[k] (List.getElem?_eq_getElem hkx)
      obtain ⟨⟨x, y⟩, hx⟩ : ∃ x, x = L[k] := ⟨_, rfl⟩
      rw [← hx] at c0 c1 d0 d1
      have RA : Hid (∀ W, Below w.heap.size w W → W.rangeAt b (off + k * 2) [.int .i64 x, .int .i64 y]) := fun W hW => rangeAt_below (pair_range c0 c1) hb hW
      have RB : Hid (∀ W, Below w.heap.size w W → W.rangeAt g (og + k * 2) [.int .i64 x, .int .i64 y]) := fun W hW => rangeAt_below (pair_range d0 d1) hg hW
      have CE : Hid (∀ W, Calls Tryz.prog 39 #[.agg #[.int .i64 x, .int .i64 y], .agg #[.int .i64 x, .int .i64 y]] W fun e w' => e = .returned (.bool true) ∧ Below W.heap.size W w') := fun W => eqPair_any x y W
      have i1 : (0 : Int) ≤ (k : Int) := by omega
      have i2 : (k : Int) < (n : Int) := by omega
      clear c0 c1 d0 d1 hcell hcelg hx hkx hb hg
      go_wp2_with fail
      have SD : Below w.heap.size w wr.drew := HB.out.drew
      clear HB
      refine wp_region_tf (S := fun w' => Below w.heap.size w w') 10 (by kernel_rfl) (by kernel_rfl) (by kernel_rfl) SD (fun hHeld => ?_)
      refine fast_move 0 17 (.slice (some ⟨b, off, none⟩) n c) (.tmp 0) (fuel := 9) rfl rfl (by kernel_rfl) (by kernel_rfl) (by kernel_rfl) (fun _ _ _ h => h) (by kernel_rfl) (by kernel_rfl) (by first | exact Or.inl rfl | exact Or.inr rfl) hHeld (tf 1 10) (by kernel_rfl) (fun K hK => ?_)
      go_big_move
      refine hK.out _ ?_
      clear hK K
      refine fast_move 1 18 (.int .i64 (k : Int)) (.tmp 5) (fuel := 8) rfl rfl (by kernel_rfl) (by kernel_rfl) (by kernel_rfl) (fun _ _ _ h => h) (by kernel_rfl) (by kernel_rfl) (by first | exact Or.inl rfl | exact Or.inr rfl) hHeld (tf 3 10) (by kernel_rfl) (fun K hK => ?_)
      go_big_move
      refine hK.out _ ?_
      clear hK K
      refine fast2 2 19 (.pointer (some ⟨b, off + k * 2, none⟩)) (.tmp 17) (.slice (some ⟨b, off, none⟩) n c) (.tmp 18) (.int .i64 (k : Int)) (fuel := 7) rfl rfl (by kernel_rfl) (by kernel_rfl) (by kernel_rfl) (fun _ _ _ h => h) (by kernel_rfl) (by kernel_rfl) (by kernel_rfl) (fun ρ hr0 hr1 _ w hSw => by have h1 := i1; have h2 := i2; simp [go_sem, hr0, hr1, h1, h2]) hHeld (tf 7 10) (by kernel_rfl) (fun K hK => ?_)
      go_big_move
      refine hK.out _ ?_
      clear hK K
      refine fast_yields 3 20 (.agg #[.int .i64 x, .int .i64 y]) (fuel := 6) rfl rfl (by kernel_rfl) (by kernel_rfl) (by kernel_rfl) (fun _ _ _ h => h) (yieldsIf_load_mid (by rfl) _ _ rfl (b) (off + k * 2) rfl [.int .i64 x, .int .i64 y] _ (fun w hw => RA.out w hw) Tryz.underlying59 rfl (by kernel_rfl)) hHeld (tf 15 10) (by kernel_rfl) (fun K hK => ?_)
      go_big_move
      refine hK.out _ ?_
      clear hK K
      refine fast_move 4 21 (.slice (some ⟨g, og, none⟩) n c2) (.tmp 1) (fuel := 5) rfl rfl (by kernel_rfl) (by kernel_rfl) (by kernel_rfl) (fun _ _ _ h => h) (by kernel_rfl) (by kernel_rfl) (by first | exact Or.inl rfl | exact Or.inr rfl) hHeld (tf 31 10) (by kernel_rfl) (fun K hK => ?_)
      go_big_move
      refine hK.out _ ?_
      clear hK K
      refine fast_move 5 22 (.int .i64 (k : Int)) (.tmp 5) (fuel := 4) rfl rfl (by kernel_rfl) (by kernel_rfl) (by kernel_rfl) (fun _ _ _ h => h) (by kernel_rfl) (by kernel_rfl) (by first | exact Or.inl rfl | exact Or.inr rfl) hHeld (tf 63 10) (by kernel_rfl) (fun K hK => ?_)
      go_big_move
      refine hK.out _ ?_
      clear hK K
      refine fast2 6 23 (.pointer (some ⟨g, og + k * 2, none⟩)) (.tmp 21) (.slice (some ⟨g, og, none⟩) n c2) (.tmp 22) (.int .i64 (k : Int)) (fuel := 3) rfl rfl (by kernel_rfl) (by kernel_rfl) (by kernel_rfl) (fun _ _ _ h => h) (by kernel_rfl) (by kernel_rfl) (by kernel_rfl) (fun ρ hr0 hr1 _ w hSw => by have h1 := i1; have h2 := i2; simp [go_sem, hr0, hr1, h1, h2]) hHeld (tf 127 10) (by kernel_rfl) (fun K hK => ?_)
      go_big_move
      refine hK.out _ ?_
      clear hK K
      refine fast_yields 7 24 (.agg #[.int .i64 x, .int .i64 y]) (fuel := 2) rfl rfl (by kernel_rfl) (by kernel_rfl) (by kernel_rfl) (fun _ _ _ h => h) (yieldsIf_load_mid (by rfl) _ _ rfl (g) (og + k * 2) rfl [.int .i64 x, .int .i64 y] _ (fun w hw => RB.out w hw) Tryz.underlying59 rfl (by kernel_rfl)) hHeld (tf 255 10) (by kernel_rfl) (fun K hK => ?_)
      go_big_move
      refine hK.out _ ?_
      clear hK K
      refine wpAnyH_ready (rs := [8]) (fuel := 1) (by kernel_rfl) (by simp) ?_
      refine ready_want rfl (by kernel_rfl) (tf 511 10) (by kernel_rfl) (fun K hK => ?_) AllReadyH.nil
      simp only [List.getElem_toArray, List.getElem_cons_succ, List.getElem_cons_zero]
      go_big_op
      refine (CE.out _).mono ?_
      rintro e w9 ⟨rfl, hb⟩
      have hS : Below w.heap.size w w9 := hHeld.trans (hb.mono hHeld.size)
      clear hb
      refine hK.out _ _ hS (fun hHeld => ?_)
      clear hK K
      refine fast1 9 26 (.bool false) (.tmp 25) (.bool true) (fuel := 0) rfl rfl (by kernel_rfl) (by kernel_rfl) (by kernel_rfl) (fun _ _ _ h => h) (by kernel_rfl) (by kernel_rfl) (fun ρ hr0 _ w hSw => by simp [go_sem, hr0]) hHeld (tf 1023 10) (by kernel_rfl) (fun K hK => ?_)
      go_big_move
      refine hK.out _ ?_
      clear hK K
      refine wpAnyH_done (by kernel_rfl) ?_ _
      have HS := Lib.hid hHeld
      clear hHeld SD RA RB CE
      go_wp2_with fail
      go_roundw
      case rel => exact ⟨k + 1, by omega, by go_num, HS.out⟩
      case measure => simp [intOf]; omega
    · obtain rfl : n = k := by omega
      go_wp2
      go_ret
      exact ⟨rfl, HB.out⟩

section
variable {H : Type} {enc : TypeId × Value → H} {P : Program} {w : World} {base : Nat} {held : Bool}

theorem rowQ_of {t e : TypeId} {g0 g1 : Field} {n : Nat} {v : Value} {y : DataW H × List MemPlace} (ht : P.underlying t = some (.slice e)) (he : P.underlying e = some (.struct #[g0, g1])) (oe : oneCellFields P #[g0, g1] = true) (ce : P.cellsOf e = 2)
    (u0 : P.underlying g0.type = some (.int .i64)) (u1 : P.underlying g1.type = some (.int .i64))
    (h : DataW.trod enc P w base (fun _ => true) held n t [v] = some y) : ∃ a len cap L, v = .slice a len cap ∧ RowQ w a len L ∧ len ≤ maxLen := by
  rcases open_slice ht h with ⟨hcs, _⟩ | ⟨a, len, cap, m, k, D, Pl, hcs, hb, hl, hm, hmm, _, hx⟩
  · simp at hcs
    exact ⟨_, _, _, [], hcs, ⟨rfl, fun h0 => absurd h0 (by omega)⟩, by unfold maxLen; omega⟩
  · simp at hcs
    obtain rfl : m = cap := by simpa using hmm
    have each : ∀ i, i < m → ∃ s : Int × Int, w.cell? (a.add (i * 2)) = some (.int .i64 s.1) ∧ w.cell? (a.add (i * 2 + 1)) = some (.int .i64 s.2) := by
      intro i hi
      obtain ⟨cs', h1, h2⟩ := hx i hi
      obtain ⟨xs, q, _, _, hl2, hxl, hf⟩ := DataW.trod_struct he h2
      rw [ce] at hl2
      match cs', hl2 with
      | [v0, v1], _ =>
        match xs, hxl with
        | [y0, y1], _ =>
          obtain ⟨o0, k0⟩ := hone_of oe 0 g0 rfl
          obtain ⟨o1, k1⟩ := hone_of oe 1 g1 rfl
          have f0 := hf 0 g0 rfl
          have f1 := hf 1 g1 rfl
          simp [o0, k0] at f0
          simp [o1, k1] at f1
          obtain ⟨n0, e0, _, w0⟩ := DataW.trod_int u0 f0
          obtain ⟨n1, e1, _, w1⟩ := DataW.trod_int u1 f1
          simp at e0 e1
          subst e0 e1
          rw [ce] at h1
          obtain ⟨_, _, hcell⟩ := World.cells?_some h1
          have e0 := hcell 0 (by omega)
          have e1 := hcell 1 (by omega)
          rw [add_add] at e0 e1
          exact ⟨(n0, n1), by simpa using e0, by simpa using e1⟩
    obtain ⟨q, hq⟩ := choose_lt each
    refine ⟨_, _, _, ((List.range m).map q).take len, hcs, ⟨by simp; omega, fun h0 => ?_⟩, Nat.le_trans hl hm⟩
    obtain ⟨b, off, spot⟩ := a
    have hc := (hq 0 (by omega)).1
    have hspot : spot = none := by simpa [Addr.add] using World.cell?_spot hc
    subst hspot
    refine ⟨b, off, rfl, ?_, fun j x hx => ?_⟩
    · have := World.block_lt_of_cell? w _ hc
      simpa [Addr.add] using this
    · rw [List.getElem?_take] at hx
      split at hx
      · rw [List.getElem?_map] at hx
        obtain ⟨j', hj', rfl⟩ := Option.map_eq_some_iff.1 hx
        obtain ⟨hlt, rfl⟩ := List.getElem?_eq_some_iff.1 hj'
        simp at hlt
        obtain ⟨c0, c1⟩ := hq j hlt
        rw [add_lit] at c0 c1
        simp only [List.getElem_range]
        exact ⟨c0, by rw [Nat.add_assoc]; exact c1⟩
      · simp at hx
end

end Go.Proofs.YtdbgjgeglgipiaaGreat
