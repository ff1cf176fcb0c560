/-
  Rows of automata: how they read, how the laws measure and copy them (szIaS, toIaS). Conditions: as each statement says; lists no longer than slices may be.
-/
import Derived.Test.YtdbgjgeglgipiaaIaLaw
namespace Go.Proofs.Ytdbgjgeglgipiaa
open Go.RowKit

/-- A row of automata. -/
def RowA (w : World) (a : Option Addr) (n : Nat) (L : List IaD) : Prop :=
  L.length = n ∧ (0 < n → ∃ b off, a = some ⟨b, off, none⟩ ∧ b < w.heap.size ∧ ∀ j x, L[j]? = some x → ∃ (a2 : Option Addr) (n2 c2 : Nat) (a3 : Option Addr) (n3 c3 : Nat) (a4 : Option Addr) (n4 c4 : Nat) (a5 : Option Addr) (n5 c5 : Nat),
    w.rangeAt b (off + j * 6) [.int .i64 x.states, .int .i64 x.init, .slice a2 n2 c2, .slice a3 n3 c3, .slice a4 n4 c4, .slice a5 n5 c5] ∧ IaRow w x (.agg #[.int .i64 x.states, .int .i64 x.init, .slice a2 n2 c2, .slice a3 n3 c3, .slice a4 n4 c4, .slice a5 n5 c5]))

theorem rangeAt_below {w w' : World} {b o : Nat} {cs : List Value} (h : w.rangeAt b o cs) (hlt : b < w.heap.size) (hb : Below w.heap.size w w') : w'.rangeAt b o cs := fun j v hv => (hb.cell (p := ⟨b, o + j, none⟩) hlt).trans (h j v hv)

theorem RowA.below {w w' : World} {a : Option Addr} {n : Nat} {L : List IaD} (h : RowA w a n L) (hb : Below w.heap.size w w') : RowA w' a n L := by
  refine ⟨h.1, fun hn => ?_⟩
  obtain ⟨b, off, e, hlt, hc⟩ := h.2 hn
  refine ⟨b, off, e, Nat.lt_of_lt_of_le hlt hb.size, fun j x hx => ?_⟩
  obtain ⟨a2, n2, c2, a3, n3, c3, a4, n4, c4, a5, n5, c5, hr, hi⟩ := hc j x hx
  exact ⟨a2, n2, c2, a3, n3, c3, a4, n4, c4, a5, n5, c5, rangeAt_below hr hlt hb, hi.below hb⟩

theorem rowA_parts {W : World} {x : IaD} {a2 : Option Addr} {n2 c2 : Nat} {a3 : Option Addr} {n3 c3 : Nat} {a4 : Option Addr} {n4 c4 : Nat} {a5 : Option Addr} {n5 c5 : Nat} (h : IaRow W x (.agg #[.int .i64 x.states, .int .i64 x.init, .slice a2 n2 c2, .slice a3 n3 c3, .slice a4 n4 c4, .slice a5 n5 c5])) : Row W a2 n2 x.ins ∧ Row W a3 n3 x.outs ∧ Row W a4 n4 x.hids ∧ RowS W a5 n5 x.steps := by
  obtain ⟨b2, m2, d2, b3, m3, d3, b4, m4, d4, b5, m5, d5, e, h2, h3, h4, h5⟩ := h
  simp only [Value.agg.injEq, Array.mk.injEq, List.cons.injEq, Value.slice.injEq, and_true, true_and] at e
  obtain ⟨⟨rfl, rfl, rfl⟩, ⟨rfl, rfl, rfl⟩, ⟨rfl, rfl, rfl⟩, rfl, rfl, rfl⟩ := e
  exact ⟨h2, h3, h4, h5⟩

/-- How many numbers and steps an automaton holds; a row of them. -/
def bulkOf (x : IaD) : Nat := x.ins.length + x.outs.length + x.hids.length + x.steps.length
def bulkS (L : List IaD) : Nat := (L.map bulkOf).sum

theorem bulkS_step (L : List IaD) (k : Nat) (hk : k < L.length) : bulkS (L.take (k + 1)) = bulkS (L.take k) + bulkOf L[k] := by
  unfold bulkS
  rw [List.take_succ_eq_append_getElem hk, List.map_append, List.sum_append]
  simp

theorem bulkS_le (L : List IaD) (k : Nat) : bulkS (L.take k) ≤ bulkS L := by
  have h : bulkS L = bulkS (L.take k) + bulkS (L.drop k) := by
    unfold bulkS
    rw [← List.sum_append, ← List.map_append, List.take_append_drop]
  omega

/-- No list of an automaton is longer than slices may be. -/
def ShortA (x : IaD) : Prop := x.ins.length ≤ maxLen ∧ x.outs.length ≤ maxLen ∧ x.hids.length ≤ maxLen ∧ x.steps.length ≤ maxLen

set_option maxRecDepth 20000 in
set_option maxHeartbeats 1600000 in
theorem szIaS_any (a : Option Addr) (n c : Nat) (L : List IaD) (left : Int) (w : World) (h : RowA w a n L) (h0 : 0 ≤ left) (h1 : left ≤ 1099511627776) (hn : n ≤ maxLen) (hm : ∀ x ∈ L, ShortA x) :
    Calls Try.prog 12 #[.slice a n c, .int .i64 left] w fun e w' => e = .returned (.int .i64 (roomOf left (n + bulkS L))) ∧ Below w.heap.size w w' := by
  unfold maxLen at hn
  obtain ⟨r, hr⟩ : ∃ r, r = roomOf left (n + bulkS L) := ⟨_, rfl⟩
  rw [← hr]
  have HL := Lib.hid h.1
  have HC := Lib.hid h.2
  have HM := Lib.hid hm
  have HR0 : Hid (∀ k, k ≤ n → ¬ ((n : Int) + bulkS (L.take k) ≤ left) → r = -1) := fun k hk hg => by
    have := bulkS_le L k
    rw [hr]
    exact roomOf_neg (by omega)
  have HR1 : Hid ((n : Int) + bulkS L ≤ left → r = left - n - bulkS L) := fun hg => by
    rw [hr, roomOf_pos (by omega)]
    omega
  clear h hm hr
  by_cases hbig : (n : Int) ≤ left
  · obtain ⟨l0, hl0⟩ : ∃ z : Int, z = left - n := ⟨_, rfl⟩
    have HL0 := Lib.hid hl0
    go_enter Try.func12, Try.ntmps12
    go_wp2
    go_loopw [1, 5] (fun lv iv wr => ∃ (k : Nat) (l : Int), k ≤ n ∧ lv = .int .i64 l ∧ iv = .int .i64 (k : Int) ∧ 0 ≤ l ∧ l ≤ 1099511627776 ∧ Hid (l = left - n - bulkS (L.take k)) ∧ Hid (Below w.heap.size w wr)) (fun _ iv _ => n - (intOf iv).toNat)
    case atStart => exact ⟨0, left - n, Nat.zero_le _, by go_num, rfl, by omega, by omega, by simp [Hid, bulkS], Below.refl _ _⟩
    case round =>
      obtain ⟨k, l, hk, rfl, rfl, hl1, hl2, HE, HB⟩ := hrel
      by_cases hlt : k < n
      · obtain ⟨b, off, rfl, hb, hcell⟩ := HC.out (by omega)
        have hkx : k < L.length := by rw [HL.out]; exact hlt
        obtain ⟨a2, n2, c2, a3, n3, c3, a4, n4, c4, a5, n5, c5, hra, hro⟩ := hcell k L[k] (List.getElem?_eq_getElem hkx)
        have hsh := HM.out L[k] (List.getElem_mem hkx)
        obtain ⟨x, hx⟩ : ∃ x, x = L[k] := ⟨_, rfl⟩
        have hst := bulkS_step L k hkx
        rw [← hx] at hra hro hsh hst
        have HRg : Hid (wr.rangeAt b (off + k * 6) [.int .i64 x.states, .int .i64 x.init, .slice a2 n2 c2, .slice a3 n3 c3, .slice a4 n4 c4, .slice a5 n5 c5]) := rangeAt_below hra hb HB.out
        obtain ⟨r2, r3, r4, r5⟩ := rowA_parts hro
        have e2 : n2 = x.ins.length := r2.1.symm
        have e3 : n3 = x.outs.length := r3.1.symm
        have e4 : n4 = x.hids.length := r4.1.symm
        have e5 : n5 = x.steps.length := r5.1.symm
        have HST : Hid (bulkS (L.take (k + 1)) = bulkS (L.take k) + (n2 + n3 + n4 + n5)) := by
          unfold Hid
          rw [hst, e2, e3, e4, e5]
          rfl
        obtain ⟨s2, s3, s4, s5⟩ := hsh
        have CS := Lib.hid (szIa_any x.states x.init a2 n2 c2 a3 n3 c3 a4 n4 c4 a5 n5 c5 l wr hl1 hl2 (by omega) (by omega) (by omega) (by omega))
        obtain ⟨p, hp⟩ : ∃ p, p = roomOf l (n2 + n3 + n4 + n5) := ⟨_, rfl⟩
        rw [← hp] at CS
        have HP := Lib.hid hp
        clear hra hro hcell hx hst r2 r3 r4 r5 e2 e3 e4 e5 s2 s3 s4 s5 hp
        go_wp2_with (refine wpList_load_mid rfl _ _ rfl b (off + k * 6) rfl [.int .i64 x.states, .int .i64 x.init, .slice a2 n2 c2, .slice a3 n3 c3, .slice a4 n4 c4, .slice a5 n5 c5] _ HRg.out Try.underlying25 rfl (by kernel_rfl) ?_)
        refine CS.out.mono ?_
        rintro e w1 ⟨rfl, hb1⟩
        have HB1 : Hid (Below w.heap.size w w1) := HB.out.trans (hb1.mono HB.out.size)
        by_cases hfit : ((n2 + n3 + n4 + n5 : Nat) : Int) ≤ l
        · have hpv : p = l - ((n2 + n3 + n4 + n5 : Nat) : Int) := by rw [HP.out]; exact roomOf_pos hfit
          have hp0 : ¬ p < 0 := by omega
          have HE2 : Hid (p = left - n - bulkS (L.take (k + 1))) := by
            have h1 := HE.out
            have h2 := HST.out
            unfold Hid
            omega
          have hp2 : p ≤ 1099511627776 := by omega
          clear hb1 HP hpv
          go_wp2
          go_roundw
          case rel => exact ⟨k + 1, p, by omega, rfl, by go_num, by omega, hp2, HE2.out, HB1.out⟩
          case measure => simp [intOf]; omega
        · have hpv : p = -1 := by rw [HP.out]; exact roomOf_neg hfit
          have hr1 : r = -1 := HR0.out (k + 1) (by omega) (by have h1 := HE.out; have h2 := HST.out; omega)
          clear HP
          subst hpv
          subst hr1
          go_wp2
          go_ret
          exact ⟨rfl, HB1.out⟩
      · obtain rfl : n = k := by omega
        have hE : l = left - n - bulkS L := by
          have h1 := HE.out
          rw [List.take_of_length_le (by rw [HL.out]; omega)] at h1
          exact h1
        have hr1 : r = l := by rw [HR1.out (by omega), hE]
        clear HE hE HR0 HR1
        subst hr1
        go_wp2
        go_ret
        exact ⟨rfl, HB.out⟩
  · have hr1 : r = -1 := HR0.out 0 (Nat.zero_le _) (by simp [bulkS]; omega)
    rw [hr1]
    go_enter Try.func12, Try.ntmps12
    go_wp2
    go_ret
    exact ⟨rfl, Below.refl _ _⟩

theorem IaAt.grownB {w w' : World} {base b : Nat} {a : IaD} {v : Value} (h : IaAt w base a v) (hg : w.grownBy w' (some b)) (hb : b < base) : IaAt w' base a v := by
  obtain ⟨g2, g3, g4, g5, e, l2, l3, l4, l5, o2, o3, o4, o5⟩ := h
  exact ⟨g2, g3, g4, g5, e, l2, l3, l4, l5, World.ownsRow.kept o2 hg (Or.inr (fun e => by have : g2 = b := Option.some.inj e; omega)), World.ownsRow.kept o3 hg (Or.inr (fun e => by have : g3 = b := Option.some.inj e; omega)), World.ownsRow.kept o4 hg (Or.inr (fun e => by have : g4 = b := Option.some.inj e; omega)), World.ownsRow.kept o5 hg (Or.inr (fun e => by have : g5 = b := Option.some.inj e; omega))⟩

theorem there_below {w w' : World} {b o n : Nat} (h : w.there b o n) (hlt : b < w.heap.size) (hb : Below w.heap.size w w') : w'.there b o n := fun j hj => by
  rw [hb.cell (p := ⟨b, o + j, none⟩) hlt, hb.frozen (p := ⟨b, o + j, none⟩) hlt]
  exact h j hj

theorem there_made {w : World} {base s g n c : Nat} {e : TypeId} {xs : List Value} (h : w.ownsRow base e s (.slice (some ⟨g, 0, none⟩) n c) n xs) (j : Nat) (hj : j < n) : w.there g (j * s) s := fun i hi => by
  have h1 : j * s + i < n * s := by
    have := Nat.mul_le_mul_right s (show j + 1 ≤ n by omega)
    rw [Nat.add_mul] at this
    omega
  refine ⟨?_, h.frozenAt _⟩
  rw [h.cellAt _ h1, List.getElem?_eq_getElem (by rw [h.1]; exact h1)]
  rfl

/-- A row of automata under way: the first 'k' are laid, each in memory behind the row's. -/
def RowPart (w : World) (g n k : Nat) (L : List IaD) : Prop :=
  g < w.heap.size ∧ (∀ j, j < n → w.there g (j * 6) 6) ∧ ∀ j x, j < k → L[j]? = some x → ∃ (a2 : Option Addr) (n2 c2 : Nat) (a3 : Option Addr) (n3 c3 : Nat) (a4 : Option Addr) (n4 c4 : Nat) (a5 : Option Addr) (n5 c5 : Nat),
    w.rangeAt g (j * 6) [.int .i64 x.states, .int .i64 x.init, .slice a2 n2 c2, .slice a3 n3 c3, .slice a4 n4 c4, .slice a5 n5 c5] ∧ IaAt w (g + 1) x (.agg #[.int .i64 x.states, .int .i64 x.init, .slice a2 n2 c2, .slice a3 n3 c3, .slice a4 n4 c4, .slice a5 n5 c5])

theorem RowPart.below {w w' : World} {g n k : Nat} {L : List IaD} (h : RowPart w g n k L) (hb : Below w.heap.size w w') : RowPart w' g n k L := by
  obtain ⟨h1, h2, h3⟩ := h
  refine ⟨Nat.lt_of_lt_of_le h1 hb.size, fun j hj => there_below (h2 j hj) h1 hb, fun j x hj hx => ?_⟩
  obtain ⟨a2, n2, c2, a3, n3, c3, a4, n4, c4, a5, n5, c5, hr, hi⟩ := h3 j x hj hx
  exact ⟨a2, n2, c2, a3, n3, c3, a4, n4, c4, a5, n5, c5, rangeAt_below hr h1 hb, hi.below hb⟩

theorem RowPart.stored {w : World} {g n k : Nat} {L : List IaD} (h : RowPart w g n k L) (hk : k < n) (x : IaD) (hx : L[k]? = some x) {a2 : Option Addr} {n2 c2 : Nat} {a3 : Option Addr} {n3 c3 : Nat} {a4 : Option Addr} {n4 c4 : Nat} {a5 : Option Addr} {n5 c5 : Nat}
    (hi : IaAt w (g + 1) x (.agg #[.int .i64 x.states, .int .i64 x.init, .slice a2 n2 c2, .slice a3 n3 c3, .slice a4 n4 c4, .slice a5 n5 c5])) :
    RowPart (w.setCells g (k * 6) [.int .i64 x.states, .int .i64 x.init, .slice a2 n2 c2, .slice a3 n3 c3, .slice a4 n4 c4, .slice a5 n5 c5]) g n (k + 1) L := by
  obtain ⟨h1, h2, h3⟩ := h
  have hg := grown_setCells g [.int .i64 x.states, .int .i64 x.init, .slice a2 n2 c2, .slice a3 n3 c3, .slice a4 n4 c4, .slice a5 n5 c5] (k * 6) w
  refine ⟨Nat.lt_of_lt_of_le h1 hg.size, fun j hj => World.there_setCells (h2 j hj) _ _ _, fun j y hj hy => ?_⟩
  by_cases e : j = k
  · subst e
    have e2 : x = y := Option.some.inj (hx.symm.trans hy)
    subst e2
    exact ⟨a2, n2, c2, a3, n3, c3, a4, n4, c4, a5, n5, c5, World.rangeAt_setCells_same _ _ _ _ (h2 j hk), hi.grownB hg (by omega)⟩
  · obtain ⟨b2, m2, d2, b3, m3, d3, b4, m4, d4, b5, m5, d5, hr, hq⟩ := h3 j y (by omega) hy
    exact ⟨b2, m2, d2, b3, m3, d3, b4, m4, d4, b5, m5, d5, World.rangeAt_setCells_apart hr _ _ _ (Or.inr (Or.inl (by simp; omega))), hq.grownB hg (by omega)⟩

theorem RowPart.row {w : World} {g n : Nat} {L : List IaD} (h : RowPart w g n n L) (hl : L.length = n) : RowA w (some ⟨g, 0, none⟩) n L := by
  obtain ⟨h1, _, h3⟩ := h
  refine ⟨hl, fun _ => ⟨g, 0, rfl, h1, fun j x hx => ?_⟩⟩
  have hj : j < L.length := (List.getElem?_eq_some_iff.1 hx).1
  obtain ⟨a2, n2, c2, a3, n3, c3, a4, n4, c4, a5, n5, c5, hr, hi⟩ := h3 j x (by omega) hx
  exact ⟨a2, n2, c2, a3, n3, c3, a4, n4, c4, a5, n5, c5, by rw [Nat.zero_add]; exact hr, hi.row⟩

theorem six_one (st it : Int) (a2 : Option Addr) (n2 c2 : Nat) (a3 : Option Addr) (n3 c3 : Nat) (a4 : Option Addr) (n4 c4 : Nat) (a5 : Option Addr) (n5 c5 : Nat) : (#[.int .i64 st, .int .i64 it, .slice a2 n2 c2, .slice a3 n3 c3, .slice a4 n4 c4, .slice a5 n5 c5] : Array Value).all (·.oneCell') = true :=
  all_oneCell_toArray (fun u hu => by
    simp only [List.mem_cons, List.not_mem_nil, or_false] at hu
    rcases hu with rfl | rfl | rfl | rfl | rfl | rfl <;> rfl)

set_option maxRecDepth 20000 in
set_option maxHeartbeats 1600000 in
theorem toIaS_any (a : Option Addr) (n c : Nat) (L : List IaD) (w : World) (h : RowA w a n L) (hn : n ≤ 1048576) (hf : ∀ x ∈ L, IaFits x) :
    Calls Try.prog 14 #[.slice a n c] w fun e w' => e = .returned (.slice (some ⟨w.heap.size, 0, none⟩) n n) ∧ RowPart w' w.heap.size n n L ∧ Below w.heap.size w w' := by
  obtain ⟨i0, hi, hz0, hz1, hz2⟩ := info_parts (show (Try.prog.info? 30).map (fun i => (i.zero, i.size, i.bytes)) = some (some (.agg #[.int .i64 0, .int .i64 0, .slice none 0 0, .slice none 0 0, .slice none 0 0, .slice none 0 0]), 6, 112) by kernel_rfl)
  have HL := Lib.hid h.1
  have HC := Lib.hid h.2
  have HF := Lib.hid hf
  clear h hf
  go_enter Try.func14, Try.ntmps14
  go_wp2_with (at_make; refine wpList_make_full _ rfl _ _ 39 rfl w.heap.size 30 i0 (.agg #[.int .i64 0, .int .i64 0, .slice none 0 0, .slice none 0 0, .slice none 0 0, .slice none 0 0]) 6 Try.underlying39 hi hz0 hz1 _ _ _ _ n rfl rfl rfl rfl ?b2 ?b3 (Nat.le_refl _) ?_)
  case b2 => rw [hz2]; omega
  case b3 => unfold maxLen; omega
  intro w0 hown0 hgrow0
  have H0 : Hid (RowPart w0 w.heap.size n 0 L) := ⟨hown0.lt _ rfl |>.2, fun j hj => there_made hown0 j hj, fun j x hj _ => absurd hj (Nat.not_lt_zero _)⟩
  have B0 : Hid (Below w.heap.size w w0) := (Below.refl _ _).grown hgrow0 (Nat.le_refl _) (fun k h => by cases h)
  clear hown0 hgrow0
  go_wp2
  go_loopw [4] (fun i wr => ∃ k : Nat, k ≤ n ∧ i = .int .i64 k ∧ Hid (RowPart wr w.heap.size n k L) ∧ Hid (Below w.heap.size w wr)) (fun i _ => n - (intOf i).toNat)
  case atStart => exact ⟨0, Nat.zero_le _, rfl, H0.out, B0.out⟩
  case round =>
    obtain ⟨k, hk, rfl, HO, HB⟩ := hrel
    by_cases hlt : k < n
    · obtain ⟨b, off, rfl, hb, hcell⟩ := HC.out (by omega)
      have hkx : k < L.length := by rw [HL.out]; exact hlt
      obtain ⟨a2, n2, c2, a3, n3, c3, a4, n4, c4, a5, n5, c5, hra, hro⟩ := hcell k L[k] (List.getElem?_eq_getElem hkx)
      have hft := HF.out L[k] (List.getElem_mem hkx)
      obtain ⟨x, hx⟩ : ∃ x, L[k]? = some x := ⟨_, List.getElem?_eq_getElem hkx⟩
      have hx2 : L[k] = x := Option.some.inj ((List.getElem?_eq_getElem hkx).symm.trans hx)
      rw [hx2] at hra hro hft
      have HX := Lib.hid hx
      have HRg : Hid (wr.rangeAt b (off + k * 6) [.int .i64 x.states, .int .i64 x.init, .slice a2 n2 c2, .slice a3 n3 c3, .slice a4 n4 c4, .slice a5 n5 c5]) := rangeAt_below hra hb HB.out
      have CT : Hid (Calls Try.prog 7 #[.agg #[.int .i64 x.states, .int .i64 x.init, .slice a2 n2 c2, .slice a3 n3 c3, .slice a4 n4 c4, .slice a5 n5 c5]] wr fun e w' => ∃ g2 g3 g4 g5 : Nat, e = .returned (.agg #[.int .i64 x.states, .int .i64 x.init, .slice (some ⟨g2, 0, none⟩) x.ins.length x.ins.length, .slice (some ⟨g3, 0, none⟩) x.outs.length x.outs.length, .slice (some ⟨g4, 0, none⟩) x.hids.length x.hids.length, .slice (some ⟨g5, 0, none⟩) x.steps.length x.steps.length]) ∧ IaAt w' wr.heap.size x (.agg #[.int .i64 x.states, .int .i64 x.init, .slice (some ⟨g2, 0, none⟩) x.ins.length x.ins.length, .slice (some ⟨g3, 0, none⟩) x.outs.length x.outs.length, .slice (some ⟨g4, 0, none⟩) x.hids.length x.hids.length, .slice (some ⟨g5, 0, none⟩) x.steps.length x.steps.length]) ∧ Below wr.heap.size wr w') :=
        (toIa_any x _ wr (hro.below HB.out) hft).mono fun e w' ⟨v', he, hat, hbl⟩ => by
          obtain ⟨g2, g3, g4, g5, rfl, rest⟩ := hat
          exact ⟨g2, g3, g4, g5, he, ⟨g2, g3, g4, g5, rfl, rest⟩, hbl⟩
      clear hra hro hcell hx hx2 hft
      go_wp2_with (refine wpList_load_mid rfl _ _ rfl b (off + k * 6) rfl [.int .i64 x.states, .int .i64 x.init, .slice a2 n2 c2, .slice a3 n3 c3, .slice a4 n4 c4, .slice a5 n5 c5] _ HRg.out Try.underlying25 rfl (by kernel_rfl) ?_)
      refine CT.out.mono ?_
      rintro e w1 ⟨g2, g3, g4, g5, rfl, hat, hb1⟩
      have hgs := HO.out.1
      have HO1 : Hid (RowPart w1 w.heap.size n k L) := HO.out.below hb1
      have HB1 : Hid (Below w.heap.size w w1) := HB.out.trans (hb1.mono HB.out.size)
      have HTH : Hid (w1.there w.heap.size (k * 6) 6) := HO1.out.2.1 k hlt
      have HST := Lib.hid (HO1.out.stored hlt x HX.out (hat.mono (by omega)))
      have HB2 : Hid (Below w.heap.size w (w1.setCells w.heap.size (k * 6) [.int .i64 x.states, .int .i64 x.init, .slice (some ⟨g2, 0, none⟩) x.ins.length x.ins.length, .slice (some ⟨g3, 0, none⟩) x.outs.length x.outs.length, .slice (some ⟨g4, 0, none⟩) x.hids.length x.hids.length, .slice (some ⟨g5, 0, none⟩) x.steps.length x.steps.length])) := HB1.out.grown (grown_setCells _ _ _ _) HB1.out.size (fun k h => by cases h; exact Nat.le_refl _)
      clear hat hb1 HO HO1 HB CT
      go_wp2_with (refine wpList_store_mid rfl _ _ _ rfl w.heap.size (k * 6) #[.int .i64 x.states, .int .i64 x.init, .slice (some ⟨g2, 0, none⟩) x.ins.length x.ins.length, .slice (some ⟨g3, 0, none⟩) x.outs.length x.outs.length, .slice (some ⟨g4, 0, none⟩) x.hids.length x.hids.length, .slice (some ⟨g5, 0, none⟩) x.steps.length x.steps.length] rfl rfl ?th (by kernel_rfl) (six_one _ _ _ _ _ _ _ _ _ _ _ _ _ _) ?_)
      case th =>
        simp only [List.size_toArray, List.length_cons, List.length_nil]
        exact HTH.out
      go_roundw
      case rel => exact ⟨k + 1, by omega, by go_num, HST.out, HB2.out⟩
      case measure => simp [intOf]; omega
    · obtain rfl : n = k := by omega
      go_wp2
      go_ret
      exact ⟨rfl, HO.out, HB.out⟩

end Go.Proofs.Ytdbgjgeglgipiaa
