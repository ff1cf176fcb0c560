import Derived.Test.YtdbgjgeglgipiaaGreatIaLaw
import Derived.Test.YtdbgjgeglgipiaaGreatProdOk
import Derived.Test.YtdbgjgeglgipiaaGreatClashMath
import Derived.Test.YtdbgjgeglgipiaaGreatFast
import Derived.Test.YtdbgjgeglgipiaaGreatImplStep
import Derived.Test.YtdbgjgeglgipiaaGreatIaRise
import Derived.WalkMore
import Derived.Test.YtdbgjgeglgipiaaGreatProdDef
import Derived.Test.YtdbgjgeglgipiaaGreatProdSteps
import Derived.Test.YtdbgjgeglgipiaaGreatShared
import Derived.Test.YtdbgjgeglgipiaaGreatClashing
import Derived.Test.YtdbgjgeglgipiaaGreatClashList
import Derived.Test.YtdbgjgeglgipiaaGreatHidMath
import Derived.Test.YtdbgjgeglgipiaaGreatRowOf
import Derived.Test.YtdbgjgeglgipiaaGreatTwoLaw
/-
  Rows of automata: how they read, how the laws measure and copy them (szIaS, toIaS). Conditions: as each statement says; lists no longer than slices may be.
-/
namespace Go.Proofs.YtdbgjgeglgipiaaGreat
open Go.RowKit

/-- A row of automata. -/
def RowA (w : World) (a : Option Addr) (n : Nat) (L : List IaD) : Prop :=
  L.length = n ∧ (0 < n → ∃ b off, a = some ⟨b, off, none⟩ ∧ b < w.heap.size ∧ ∀ j x, L[j]? = some x → ∃ (a2 : Option Addr) (n2 c2 : Nat) (a3 : Option Addr) (n3 c3 : Nat) (a4 : Option Addr) (n4 c4 : Nat) (a5 : Option Addr) (n5 c5 : Nat),
    w.rangeAt b (off + j * 6) [.int .i64 x.states, .int .i64 x.init, .slice a2 n2 c2, .slice a3 n3 c3, .slice a4 n4 c4, .slice a5 n5 c5] ∧ IaRow w x (.agg #[.int .i64 x.states, .int .i64 x.init, .slice a2 n2 c2, .slice a3 n3 c3, .slice a4 n4 c4, .slice a5 n5 c5]))

theorem rangeAt_below {w w' : World} {b o : Nat} {cs : List Value} (h : w.rangeAt b o cs) (hlt : b < w.heap.size) (hb : Below w.heap.size w w') : w'.rangeAt b o cs := fun j v hv => (hb.cell (p := ⟨b, o + j, none⟩) hlt).trans (h j v hv)

theorem RowA.below {w w' : World} {a : Option Addr} {n : Nat} {L : List IaD} (h : RowA w a n L) (hb : Below w.heap.size w w') : RowA w' a n L := by
  refine ⟨h.1, fun hn => ?_⟩
  obtain ⟨b, off, e, hlt, hc⟩ := h.2 hn
  refine ⟨b, off, e, Nat.lt_of_lt_of_le hlt hb.size, fun j x hx => ?_⟩
  obtain ⟨a2, n2, c2, a3, n3, c3, a4, n4, c4, a5, n5, c5, hr, hi⟩ := hc j x hx
  exact ⟨a2, n2, c2, a3, n3, c3, a4, n4, c4, a5, n5, c5, rangeAt_below hr hlt hb, hi.below hb⟩

theorem IaAt.grownB {w w' : World} {base b : Nat} {a : IaD} {v : Value} (h : IaAt w base a v) (hg : w.grownBy w' (some b)) (hb : b < base) : IaAt w' base a v := by
  obtain ⟨g2, g3, g4, g5, e, l2, l3, l4, l5, o2, o3, o4, o5⟩ := h
  exact ⟨g2, g3, g4, g5, e, l2, l3, l4, l5, World.ownsRow.kept o2 hg (Or.inr (fun e => by have : g2 = b := Option.some.inj e; omega)), World.ownsRow.kept o3 hg (Or.inr (fun e => by have : g3 = b := Option.some.inj e; omega)), World.ownsRow.kept o4 hg (Or.inr (fun e => by have : g4 = b := Option.some.inj e; omega)), World.ownsRow.kept o5 hg (Or.inr (fun e => by have : g5 = b := Option.some.inj e; omega))⟩

theorem there_below {w w' : World} {b o n : Nat} (h : w.there b o n) (hlt : b < w.heap.size) (hb : Below w.heap.size w w') : w'.there b o n := fun j hj => by
  rw [hb.cell (p := ⟨b, o + j, none⟩) hlt, hb.frozen (p := ⟨b, o + j, none⟩) hlt]
  exact h j hj

/-- A row of automata under way: the first 'k' are laid, each in memory behind the row's. -/
def RowPart (w : World) (g n k : Nat) (L : List IaD) : Prop :=
  g < w.heap.size ∧ (∀ j, j < n → w.there g (j * 6) 6) ∧ ∀ j x, j < k → L[j]? = some x → ∃ (a2 : Option Addr) (n2 c2 : Nat) (a3 : Option Addr) (n3 c3 : Nat) (a4 : Option Addr) (n4 c4 : Nat) (a5 : Option Addr) (n5 c5 : Nat),
    w.rangeAt g (j * 6) [.int .i64 x.states, .int .i64 x.init, .slice a2 n2 c2, .slice a3 n3 c3, .slice a4 n4 c4, .slice a5 n5 c5] ∧ IaAt w (g + 1) x (.agg #[.int .i64 x.states, .int .i64 x.init, .slice a2 n2 c2, .slice a3 n3 c3, .slice a4 n4 c4, .slice a5 n5 c5])

theorem RowPart.below {w w' : World} {g n k : Nat} {L : List IaD} (h : RowPart w g n k L) (hb : Below w.heap.size w w') : RowPart w' g n k L := by
  obtain ⟨h1, h2, h3⟩ := h
  refine ⟨Nat.lt_of_lt_of_le h1 hb.size, fun j hj => there_below (h2 j hj) h1 hb, fun j x hj hx => ?_⟩
  obtain ⟨a2, n2, c2, a3, n3, c3, a4, n4, c4, a5, n5, c5, hr, hi⟩ := h3 j x hj hx
  exact ⟨a2, n2, c2, a3, n3, c3, a4, n4, c4, a5, n5, c5, rangeAt_below hr h1 hb, hi.below hb⟩

theorem RowPart.stored {w : World} {g n k : Nat} {L : List IaD} (h : RowPart w g n k L) (hk : k < n) (x : IaD) (hx : L[k]? = some x) {a2 : Option Addr} {n2 c2 : Nat} {a3 : Option Addr} {n3 c3 : Nat} {a4 : Option Addr} {n4 c4 : Nat} {a5 : Option Addr} {n5 c5 : Nat}
    (hi : IaAt w (g + 1) x (.agg #[.int .i64 x.states, .int .i64 x.init, .slice a2 n2 c2, .slice a3 n3 c3, .slice a4 n4 c4, .slice a5 n5 c5])) :
    RowPart (w.setCells g (k * 6) [.int .i64 x.states, .int .i64 x.init, .slice a2 n2 c2, .slice a3 n3 c3, .slice a4 n4 c4, .slice a5 n5 c5]) g n (k + 1) L := by
  obtain ⟨h1, h2, h3⟩ := h
  have hg := grown_setCells g [.int .i64 x.states, .int .i64 x.init, .slice a2 n2 c2, .slice a3 n3 c3, .slice a4 n4 c4, .slice a5 n5 c5] (k * 6) w
  refine ⟨Nat.lt_of_lt_of_le h1 hg.size, fun j hj => World.there_setCells (h2 j hj) _ _ _, fun j y hj hy => ?_⟩
  by_cases e : j = k
  · subst e
    have e2 : x = y := Option.some.inj (hx.symm.trans hy)
    subst e2
    exact ⟨a2, n2, c2, a3, n3, c3, a4, n4, c4, a5, n5, c5, World.rangeAt_setCells_same _ _ _ _ (h2 j hk), hi.grownB hg (by omega)⟩
  · obtain ⟨b2, m2, d2, b3, m3, d3, b4, m4, d4, b5, m5, d5, hr, hq⟩ := h3 j y (by omega) hy
    exact ⟨b2, m2, d2, b3, m3, d3, b4, m4, d4, b5, m5, d5, World.rangeAt_setCells_apart hr _ _ _ (Or.inr (Or.inl (by simp; omega))), hq.grownB hg (by omega)⟩

theorem RowPart.row {w : World} {g n : Nat} {L : List IaD} (h : RowPart w g n n L) (hl : L.length = n) : RowA w (some ⟨g, 0, none⟩) n L := by
  obtain ⟨h1, _, h3⟩ := h
  refine ⟨hl, fun _ => ⟨g, 0, rfl, h1, fun j x hx => ?_⟩⟩
  have hj : j < L.length := (List.getElem?_eq_some_iff.1 hx).1
  obtain ⟨a2, n2, c2, a3, n3, c3, a4, n4, c4, a5, n5, c5, hr, hi⟩ := h3 j x (by omega) hx
  exact ⟨a2, n2, c2, a3, n3, c3, a4, n4, c4, a5, n5, c5, by rw [Nat.zero_add]; exact hr, hi.row⟩

end Go.Proofs.YtdbgjgeglgipiaaGreat

/-
  Witnesses as a function of lists: a row of steps of a product, from its beginning to a clash, with nothing taken from outside. Conditions: none; nothing here speaks of the program.
-/
namespace Go.Proofs.YtdbgjgeglgipiaaGreat
open Go.RowKit

/-- Is the step one of the automaton's, made with nothing taken from outside? -/
def unaskedB (P : IaD) (x : St) : Bool := decide (x ∈ P.steps) && !hasB P.ins x.2.1

/-- Does the row lead from 'z' on, step by step, to one of 'C'? -/
def witR (P : IaD) (C : List Int) : List St → Int → Bool
  | [], z => hasB C z
  | x :: r, z => decide (x.1 = z) && unaskedB P x && witR P C r x.2.2

def witB (a b : IaD) (ws : List St) : Bool := prodB a b && witR (prodIa a b) (clashesOf a b) ws (prodIa a b).init

theorem witR_step {P : IaD} {C : List Int} {ws : List St} {k : Nat} (hk : k < ws.length) (z : Int) : witR P C (ws.drop k) z = (decide (ws[k].1 = z) && unaskedB P ws[k] && witR P C (ws.drop (k + 1)) ws[k].2.2) := by
  rw [List.drop_eq_getElem_cons hk]
  rfl

theorem clashes_len2w {a b : IaD} : (clashesOf a b).length ≤ 2097152 := by
  unfold clashesOf
  split
  · rename_i h
    obtain ⟨ha, hb, hm⟩ := fitB_ok h
    have s1 := iaOk_states ha
    have s2 := iaOk_states hb
    have h1 := allP_len (clashB a b) b.states.toNat a.states.toNat
    have h2 : a.states.toNat * b.states.toNat ≤ 40 * 40 := Nat.mul_le_mul (by omega) (by omega)
    rw [List.length_map]
    omega
  · simp

/-- Both arguments' boxes and the product's box. -/
def WitS (w W : World) (A B C : Array Value) (p : Nat) (t : IaD) : Prop :=
  Box2 w W w.heap.size (w.heap.size + 1) 31 A B ∧ VarIs W p C 31 ∧ IaRow W t (.agg C)

theorem WitS.below {w W W' : World} {A B C : Array Value} {p : Nat} {t : IaD} (h : WitS w W A B C p t) (hb : Below W.heap.size W W') : WitS w W' A B C p t := ⟨h.1.below hb, h.2.1.below hb, h.2.2.below hb⟩

end Go.Proofs.YtdbgjgeglgipiaaGreat

/-
  slices.BinarySearchFunc over steps that rise, by compareSteps: it tells whether the step is one of them. Conditions: at most 2^20 steps.
-/
namespace Go.Proofs.YtdbgjgeglgipiaaGreat
open Go.RowKit

/-- What stands while one searches: what lay there, and the box of the step. -/
def BinS (w W : World) (x : St) : Prop := Below w.heap.size w W ∧ VarIs W w.heap.size #[.int .i64 x.1, .int .i64 x.2.1, .int .i64 x.2.2] 48
theorem BinS.below {w W W' : World} {x : St} (h : BinS w W x) (hb : Below W.heap.size W W') : BinS w W' x := ⟨h.1.trans (hb.mono h.1.size), h.2.below hb⟩
theorem BinS.drew {w W : World} {x : St} (h : BinS w W x) : BinS w W.drew x := ⟨h.1.drew, h.2⟩

theorem signOf_zero (y x : St) : signOf y x = 0 ↔ y = x := by
  obtain ⟨a, b, c⟩ := y
  obtain ⟨a', b', c'⟩ := x
  simp only [signOf, firstOf, Lib.compareInt, Prod.mk.injEq]
  by_cases h1 : a < a'
  · have : ¬ a = a' := by omega
    simp [h1, this]
  · by_cases h2 : a > a'
    · have : ¬ a = a' := by omega
      simp [h1, h2, this]
    · have e : a = a' := by omega
      subst e
      by_cases h3 : b < b'
      · have : ¬ b = b' := by omega
        simp [h3, this]
      · by_cases h4 : b > b'
        · have : ¬ b = b' := by omega
          simp [h3, h4, this]
        · have e : b = b' := by omega
          subst e
          by_cases h5 : c < c'
          · have : ¬ c = c' := by omega
            simp [h5, this]
          · by_cases h6 : c > c'
            · have : ¬ c = c' := by omega
              simp [h5, h6, this]
            · have e : c = c' := by omega
              simp [e]

theorem signOf_ahead (y x : St) : signOf y x < 0 ↔ Ahead y x := by
  have h := signOf_neg y x
  rw [decide_eq_decide] at h
  rw [h, ahead_cmp]

theorem Ahead.irrefl (x : St) : ¬ Ahead x x := by
  unfold Ahead
  omega

/-- Where the search ends. -/
theorem bin_end {ss : List St} {x : St} {i : Nat} (hs : ss.Pairwise Ahead) (h1 : ∀ k (hk : k < ss.length), k < i → Ahead ss[k] x) (h2 : ∀ k (hk : k < ss.length), i ≤ k → ¬ Ahead ss[k] x) :
    x ∈ ss ↔ ∃ hi : i < ss.length, ss[i] = x := by
  constructor
  · intro hm
    obtain ⟨k, hk, rfl⟩ := List.getElem_of_mem hm
    by_cases e : k < i
    · exact absurd (h1 k hk e) (Ahead.irrefl _)
    · by_cases e2 : k = i
      · subst e2; exact ⟨hk, rfl⟩
      · have hi : i < ss.length := by omega
        exact absurd (List.pairwise_iff_getElem.1 hs i k hi hk (by omega)) (h2 i hi (Nat.le_refl _))
  · rintro ⟨hi, rfl⟩
    exact List.getElem_mem hi

set_option maxRecDepth 20000 in
set_option maxHeartbeats 6400000 in
theorem binSearch_any (ad : Option Addr) (n c : Nat) (ss : List St) (x : St) (w : World) (h : RowS w ad n ss) (hn : n ≤ 1048576) (hs : ss.Pairwise Ahead) :
    Calls Tryz.prog 59 #[.slice ad n c, .agg #[.int .i64 x.1, .int .i64 x.2.1, .int .i64 x.2.2], .func (.func 55) #[] #[]] w fun e w' => ∃ i : Int, e = .returned (.tuple #[.int .i64 i, .bool (decide (x ∈ ss))]) ∧ Below w.heap.size w w' := by
  have HL := Lib.hid h.1
  have HC := Lib.hid h.2
  obtain ⟨q, hq⟩ : ∃ q, q = decide (x ∈ ss) := ⟨_, rfl⟩
  rw [← hq]
  have HE : Hid (∀ i, (∀ k (hk : k < ss.length), k < i → Ahead ss[k] x) → (∀ k (hk : k < ss.length), i ≤ k → ¬ Ahead ss[k] x) → (q = true ↔ ∃ hi : i < ss.length, ss[i] = x)) := fun i h1 h2 => by
    rw [hq, decide_eq_true_iff]
    exact bin_end hs h1 h2
  have HS : Hid (∀ i j (hi : i < ss.length) (hj : j < ss.length), i < j → Ahead ss[i] ss[j]) := fun i j hi hj hij => List.pairwise_iff_getElem.1 hs i j hi hj hij
  clear h hs hq
  have S0 : Hid (BinS w (w.alloc (.cells #[.int .i64 x.1, .int .i64 x.2.1, .int .i64 x.2.2] 48)) x) := ⟨(Below.refl _ _).alloc (Nat.le_refl _) _, VarIs.new w _ _ rfl⟩
  go_enter Tryz.func59, Tryz.ntmps59
  go_wp2_with fail
  go_loopw [9, 10] (fun iv jv wr => ∃ i j : Nat, i ≤ j ∧ j ≤ n ∧ iv = .int .i64 (i : Int) ∧ jv = .int .i64 (j : Int) ∧ Hid (∀ k (hk : k < ss.length), k < i → Ahead ss[k] x) ∧ Hid (∀ k (hk : k < ss.length), j ≤ k → ¬ Ahead ss[k] x) ∧ Hid (BinS w wr x)) (fun iv jv _ => (intOf jv).toNat - (intOf iv).toNat)
  case atStart => exact ⟨0, n, Nat.zero_le _, Nat.le_refl _, rfl, rfl, fun k hk h0 => absurd h0 (Nat.not_lt_zero _), fun k hk h0 => absurd h0 (by have := HL.out; omega), S0.out⟩
  case round =>
    clear S0
    obtain ⟨i, j, hij, hjn, rfl, rfl, HI, HJ, HB⟩ := hrel
    by_cases hlt : i < j
    · obtain ⟨h, hh⟩ : ∃ h, h = (i + j) / 2 := ⟨_, rfl⟩
      have h1 : i ≤ h := by omega
      have h2 : h < j := by omega
      have hkx : h < ss.length := by rw [HL.out]; omega
      have hil : (i : Int) < (j : Int) := by omega
      have hhi : ((i : Int) + (j : Int)) / 2 = (h : Int) := by omega
      clear hh
      obtain ⟨b, off, rfl, hb, hcell⟩ := HC.out (by omega)
      obtain ⟨c0, c1, c2⟩ := hcell h ss[h] (List.getElem?_eq_getElem hkx)
      obtain ⟨y, hy⟩ : ∃ y, y = ss[h] := ⟨_, rfl⟩
      rw [← hy] at c0 c1 c2
      have RA : Hid (∀ W, Below w.heap.size w W → W.rangeAt b (off + h * 3) [.int .i64 y.1, .int .i64 y.2.1, .int .i64 y.2.2]) := fun W hW => rangeAt_below (rangeAt_step c0 c1 c2) hb hW
      obtain ⟨sg, hsg0⟩ : ∃ s, s = signOf y x := ⟨_, rfl⟩
      have CC : Hid (∀ W, BinS w W x → Calls Tryz.prog 55 #[.agg #[.int .i64 y.1, .int .i64 y.2.1, .int .i64 y.2.2], .agg #[.int .i64 x.1, .int .i64 x.2.1, .int .i64 x.2.2]] W fun e w' => e = .returned (.int .i64 sg) ∧ Below W.heap.size W w') := fun W _ => by
        rw [hsg0]
        exact compareSteps_any y.1 y.2.1 y.2.2 x.1 x.2.1 x.2.2 W
      have HY : Hid (y = ss[h]) := hy
      have HSG : Hid (sg = signOf y x) := hsg0
      have i1 : (0 : Int) ≤ (h : Int) := by omega
      have i2 : (h : Int) < (n : Int) := by omega
      clear hb hcell c0 c1 c2 hy hsg0
      go_wp2_with fail
      have SD : BinS w wr.drew x := HB.out.drew
      clear HB
      by_cases hsg : sg < 0
      · refine wp_region_tf (S := fun w' => BinS w w' x) 8 (by kernel_rfl) (by kernel_rfl) (by kernel_rfl) SD (fun hHeld => ?_)
        refine fast_move 0 24 (.func (.func 55) #[] #[]) (.tmp 2) (fuel := 7) rfl rfl (by kernel_rfl) (by kernel_rfl) (by kernel_rfl) (fun _ _ _ h => h) (by kernel_rfl) (by kernel_rfl) (by first | exact Or.inl rfl | exact Or.inr rfl) hHeld (tf 1 8) (by kernel_rfl) (fun K hK => ?_)
        go_big_move
        refine hK.out _ ?_
        clear hK K
        refine fast_move 1 25 (.slice (some ⟨b, off, none⟩) n c) (.tmp 0) (fuel := 6) rfl rfl (by kernel_rfl) (by kernel_rfl) (by kernel_rfl) (fun _ _ _ h => h) (by kernel_rfl) (by kernel_rfl) (by first | exact Or.inl rfl | exact Or.inr rfl) hHeld (tf 3 8) (by kernel_rfl) (fun K hK => ?_)
        go_big_move
        refine hK.out _ ?_
        clear hK K
        refine fast_move 2 26 (.int .i64 (h : Int)) (.tmp 11) (fuel := 5) rfl rfl (by kernel_rfl) (by kernel_rfl) (by kernel_rfl) (fun _ _ _ h => h) (by kernel_rfl) (by kernel_rfl) (by first | exact Or.inl rfl | exact Or.inr rfl) hHeld (tf 7 8) (by kernel_rfl) (fun K hK => ?_)
        go_big_move
        refine hK.out _ ?_
        clear hK K
        refine fast2 3 27 (.pointer (some ⟨b, off + h * 3, none⟩)) (.tmp 25) (.slice (some ⟨b, off, none⟩) n c) (.tmp 26) (.int .i64 (h : Int)) (fuel := 4) rfl rfl (by kernel_rfl) (by kernel_rfl) (by kernel_rfl) (fun _ _ _ h => h) (by kernel_rfl) (by kernel_rfl) (by kernel_rfl) (fun ρ hr0 hr1 _ w hSw => by have h1 := i1; have h2 := i2; simp [go_sem, hr0, hr1, h1, h2]) hHeld (tf 15 8) (by kernel_rfl) (fun K hK => ?_)
        go_big_move
        refine hK.out _ ?_
        clear hK K
        refine fast_yields 4 28 (.agg #[.int .i64 y.1, .int .i64 y.2.1, .int .i64 y.2.2]) (fuel := 3) rfl rfl (by kernel_rfl) (by kernel_rfl) (by kernel_rfl) (fun _ _ _ h => h) (yieldsIf_load_mid (by rfl) _ _ rfl (b) (off + h * 3) rfl [.int .i64 y.1, .int .i64 y.2.1, .int .i64 y.2.2] _ (fun w hw => RA.out w hw.1) Tryz.underlying48 rfl (by kernel_rfl)) hHeld (tf 31 8) (by kernel_rfl) (fun K hK => ?_)
        go_big_move
        refine hK.out _ ?_
        clear hK K
        refine fast_yields 5 29 (.agg #[.int .i64 x.1, .int .i64 x.2.1, .int .i64 x.2.2]) (fuel := 2) rfl rfl (by kernel_rfl) (by kernel_rfl) (by kernel_rfl) (fun _ _ _ h => h) (yieldsIf_load_mid (by rfl) _ _ rfl (w.heap.size) 0 rfl [.int .i64 x.1, .int .i64 x.2.1, .int .i64 x.2.2] _ (fun w hw => hw.2.range) Tryz.underlying48 rfl (by kernel_rfl)) hHeld (tf 63 8) (by kernel_rfl) (fun K hK => ?_)
        go_big_move
        refine hK.out _ ?_
        clear hK K
        refine wpAnyH_ready (rs := [6]) (fuel := 1) (by kernel_rfl) (by simp) ?_
        refine ready_want rfl (by kernel_rfl) (tf 127 8) (by kernel_rfl) (fun K hK => ?_) AllReadyH.nil
        simp only [List.getElem_toArray, List.getElem_cons_succ, List.getElem_cons_zero]
        go_big_op
        refine (CC.out _ hHeld).mono ?_
        rintro e w9 ⟨rfl, hb⟩
        have hS : BinS w w9 x := hHeld.below hb
        clear hb
        refine hK.out _ _ hS (fun hHeld => ?_)
        clear hK K
        refine fast1 7 31 (.bool true) (.tmp 30) (.int .i64 sg) (fuel := 0) rfl rfl (by kernel_rfl) (by kernel_rfl) (by kernel_rfl) (fun _ _ _ h => h) (by kernel_rfl) (by kernel_rfl) (fun ρ hr0 hc w hSw => by have hg := hsg; simp [go_sem, hc, hr0, hg]) hHeld (tf 255 8) (by kernel_rfl) (fun K hK => ?_)
        go_big_move
        refine hK.out _ ?_
        clear hK K
        refine wpAnyH_done (by kernel_rfl) ?_ _
        have HB2 := Lib.hid hHeld
        have HI2 : Hid (∀ k (hk : k < ss.length), k < h + 1 → Ahead ss[k] x) := fun k hk h0 => by
          have ha : Ahead ss[h] x := by
            rw [← HY.out]
            exact (signOf_ahead _ _).1 (by rw [← HSG.out]; exact hsg)
          by_cases e : k = h
          · subst e; exact ha
          · exact (HS.out k h hk hkx (by omega)).trans ha
        clear hHeld SD RA CC hsg HY HSG
        go_wp2_with fail
        go_roundw
        case rel => exact ⟨h + 1, j, by omega, hjn, by go_num, rfl, HI2.out, HJ.out, HB2.out⟩
        case measure => simp [intOf]; omega
      · refine wp_region_tf (S := fun w' => BinS w w' x) 8 (by kernel_rfl) (by kernel_rfl) (by kernel_rfl) SD (fun hHeld => ?_)
        refine fast_move 0 24 (.func (.func 55) #[] #[]) (.tmp 2) (fuel := 7) rfl rfl (by kernel_rfl) (by kernel_rfl) (by kernel_rfl) (fun _ _ _ h => h) (by kernel_rfl) (by kernel_rfl) (by first | exact Or.inl rfl | exact Or.inr rfl) hHeld (tf 1 8) (by kernel_rfl) (fun K hK => ?_)
        go_big_move
        refine hK.out _ ?_
        clear hK K
        refine fast_move 1 25 (.slice (some ⟨b, off, none⟩) n c) (.tmp 0) (fuel := 6) rfl rfl (by kernel_rfl) (by kernel_rfl) (by kernel_rfl) (fun _ _ _ h => h) (by kernel_rfl) (by kernel_rfl) (by first | exact Or.inl rfl | exact Or.inr rfl) hHeld (tf 3 8) (by kernel_rfl) (fun K hK => ?_)
        go_big_move
        refine hK.out _ ?_
        clear hK K
        refine fast_move 2 26 (.int .i64 (h : Int)) (.tmp 11) (fuel := 5) rfl rfl (by kernel_rfl) (by kernel_rfl) (by kernel_rfl) (fun _ _ _ h => h) (by kernel_rfl) (by kernel_rfl) (by first | exact Or.inl rfl | exact Or.inr rfl) hHeld (tf 7 8) (by kernel_rfl) (fun K hK => ?_)
        go_big_move
        refine hK.out _ ?_
        clear hK K
        refine fast2 3 27 (.pointer (some ⟨b, off + h * 3, none⟩)) (.tmp 25) (.slice (some ⟨b, off, none⟩) n c) (.tmp 26) (.int .i64 (h : Int)) (fuel := 4) rfl rfl (by kernel_rfl) (by kernel_rfl) (by kernel_rfl) (fun _ _ _ h => h) (by kernel_rfl) (by kernel_rfl) (by kernel_rfl) (fun ρ hr0 hr1 _ w hSw => by have h1 := i1; have h2 := i2; simp [go_sem, hr0, hr1, h1, h2]) hHeld (tf 15 8) (by kernel_rfl) (fun K hK => ?_)
        go_big_move
        refine hK.out _ ?_
        clear hK K
        refine fast_yields 4 28 (.agg #[.int .i64 y.1, .int .i64 y.2.1, .int .i64 y.2.2]) (fuel := 3) rfl rfl (by kernel_rfl) (by kernel_rfl) (by kernel_rfl) (fun _ _ _ h => h) (yieldsIf_load_mid (by rfl) _ _ rfl (b) (off + h * 3) rfl [.int .i64 y.1, .int .i64 y.2.1, .int .i64 y.2.2] _ (fun w hw => RA.out w hw.1) Tryz.underlying48 rfl (by kernel_rfl)) hHeld (tf 31 8) (by kernel_rfl) (fun K hK => ?_)
        go_big_move
        refine hK.out _ ?_
        clear hK K
        refine fast_yields 5 29 (.agg #[.int .i64 x.1, .int .i64 x.2.1, .int .i64 x.2.2]) (fuel := 2) rfl rfl (by kernel_rfl) (by kernel_rfl) (by kernel_rfl) (fun _ _ _ h => h) (yieldsIf_load_mid (by rfl) _ _ rfl (w.heap.size) 0 rfl [.int .i64 x.1, .int .i64 x.2.1, .int .i64 x.2.2] _ (fun w hw => hw.2.range) Tryz.underlying48 rfl (by kernel_rfl)) hHeld (tf 63 8) (by kernel_rfl) (fun K hK => ?_)
        go_big_move
        refine hK.out _ ?_
        clear hK K
        refine wpAnyH_ready (rs := [6]) (fuel := 1) (by kernel_rfl) (by simp) ?_
        refine ready_want rfl (by kernel_rfl) (tf 127 8) (by kernel_rfl) (fun K hK => ?_) AllReadyH.nil
        simp only [List.getElem_toArray, List.getElem_cons_succ, List.getElem_cons_zero]
        go_big_op
        refine (CC.out _ hHeld).mono ?_
        rintro e w9 ⟨rfl, hb⟩
        have hS : BinS w w9 x := hHeld.below hb
        clear hb
        refine hK.out _ _ hS (fun hHeld => ?_)
        clear hK K
        refine fast1 7 31 (.bool false) (.tmp 30) (.int .i64 sg) (fuel := 0) rfl rfl (by kernel_rfl) (by kernel_rfl) (by kernel_rfl) (fun _ _ _ h => h) (by kernel_rfl) (by kernel_rfl) (fun ρ hr0 hc w hSw => by have hg := hsg; simp [go_sem, hc, hr0, hg]) hHeld (tf 255 8) (by kernel_rfl) (fun K hK => ?_)
        go_big_move
        refine hK.out _ ?_
        clear hK K
        refine wpAnyH_done (by kernel_rfl) ?_ _
        have HB2 := Lib.hid hHeld
        have HJ2 : Hid (∀ k (hk : k < ss.length), h ≤ k → ¬ Ahead ss[k] x) := fun k hk h0 => by
          have ha : ¬ Ahead ss[h] x := by
            rw [← HY.out]
            exact fun e => hsg (by rw [HSG.out]; exact (signOf_ahead _ _).2 e)
          by_cases e : k = h
          · subst e; exact ha
          · exact fun e2 => ha ((HS.out h k hkx hk (by omega)).trans e2)
        clear hHeld SD RA CC hsg HY HSG
        go_wp2_with fail
        go_roundw
        case rel => exact ⟨i, h, by omega, by omega, rfl, by go_num, HI.out, HJ2.out, HB2.out⟩
        case measure => simp [intOf]; omega
    · obtain rfl : i = j := by omega
      have HQ := Lib.hid (HE.out i HI.out HJ.out)
      clear HI HJ HE HS
      go_wp2_with fail
      have SD : BinS w wr.drew x := HB.out.drew
      clear HB
      by_cases hin : (i : Int) < (n : Int)
      · have hkx : i < ss.length := by rw [HL.out]; omega
        obtain ⟨b, off, rfl, hb, hcell⟩ := HC.out (by omega)
        obtain ⟨c0, c1, c2⟩ := hcell i ss[i] (List.getElem?_eq_getElem hkx)
        obtain ⟨y, hy⟩ : ∃ y, y = ss[i] := ⟨_, rfl⟩
        rw [← hy] at c0 c1 c2
        have RA : Hid (∀ W, Below w.heap.size w W → W.rangeAt b (off + i * 3) [.int .i64 y.1, .int .i64 y.2.1, .int .i64 y.2.2]) := fun W hW => rangeAt_below (rangeAt_step c0 c1 c2) hb hW
        obtain ⟨sg, hsg0⟩ : ∃ s, s = signOf y x := ⟨_, rfl⟩
        have CC : Hid (∀ W, BinS w W x → Calls Tryz.prog 55 #[.agg #[.int .i64 y.1, .int .i64 y.2.1, .int .i64 y.2.2], .agg #[.int .i64 x.1, .int .i64 x.2.1, .int .i64 x.2.2]] W fun e w' => e = .returned (.int .i64 sg) ∧ Below W.heap.size W w') := fun W _ => by
          rw [hsg0]
          exact compareSteps_any y.1 y.2.1 y.2.2 x.1 x.2.1 x.2.2 W
        have HY : Hid (y = ss[i]) := hy
        have HSG : Hid (sg = signOf y x) := hsg0
        have i1 : (0 : Int) ≤ (i : Int) := by omega
        have i2 : (i : Int) < (n : Int) := by omega
        clear hb hcell c0 c1 c2 hy hsg0
        by_cases hsg : sg = 0
        · refine wp_region_tf (S := fun w' => BinS w w' x) 16 (by kernel_rfl) (by kernel_rfl) (by kernel_rfl) SD (fun hHeld => ?_)
          refine fast_move 0 35 (.int .i64 (i : Int)) (.tmp 9) (fuel := 15) rfl rfl (by kernel_rfl) (by kernel_rfl) (by kernel_rfl) (fun _ _ _ h => h) (by kernel_rfl) (by kernel_rfl) (by first | exact Or.inl rfl | exact Or.inr rfl) hHeld (tf 1 16) (by kernel_rfl) (fun K hK => ?_)
          go_big_move
          refine hK.out _ ?_
          clear hK K
          refine fast_move 1 36 (.int .i64 (i : Int)) (.tmp 9) (fuel := 14) rfl rfl (by kernel_rfl) (by kernel_rfl) (by kernel_rfl) (fun _ _ _ h => h) (by kernel_rfl) (by kernel_rfl) (by first | exact Or.inl rfl | exact Or.inr rfl) hHeld (tf 3 16) (by kernel_rfl) (fun K hK => ?_)
          go_big_move
          refine hK.out _ ?_
          clear hK K
          refine fast_move 2 37 (.int .i64 (n : Int)) (.tmp 8) (fuel := 13) rfl rfl (by kernel_rfl) (by kernel_rfl) (by kernel_rfl) (fun _ _ _ h => h) (by kernel_rfl) (by kernel_rfl) (by first | exact Or.inl rfl | exact Or.inr rfl) hHeld (tf 7 16) (by kernel_rfl) (fun K hK => ?_)
          go_big_move
          refine hK.out _ ?_
          clear hK K
          refine fast2 3 38 (.bool true) (.tmp 36) (.int .i64 (i : Int)) (.tmp 37) (.int .i64 (n : Int)) (fuel := 12) rfl rfl (by kernel_rfl) (by kernel_rfl) (by kernel_rfl) (fun _ _ _ h => h) (by kernel_rfl) (by kernel_rfl) (by kernel_rfl) (fun ρ hr0 hr1 _ w hSw => by have h1 := hin; simp [go_sem, hr0, hr1, h1]) hHeld (tf 15 16) (by kernel_rfl) (fun K hK => ?_)
          go_big_move
          refine hK.out _ ?_
          clear hK K
          refine fast_move 4 39 (.bool true) (.tmp 38) (fuel := 11) rfl rfl (by kernel_rfl) (by kernel_rfl) (by kernel_rfl) (fun _ _ _ h => h) (by kernel_rfl) (by kernel_rfl) (by first | exact Or.inl rfl | exact Or.inr rfl) hHeld (tf 31 16) (by kernel_rfl) (fun K hK => ?_)
          go_big_move
          refine hK.out _ ?_
          clear hK K
          refine fast_move 5 40 (.func (.func 55) #[] #[]) (.tmp 2) (fuel := 10) rfl rfl (by kernel_rfl) (by kernel_rfl) (by kernel_rfl) (fun _ _ _ h => h) (by kernel_rfl) (by kernel_rfl) (by first | exact Or.inl rfl | exact Or.inr rfl) hHeld (tf 63 16) (by kernel_rfl) (fun K hK => ?_)
          go_big_move
          refine hK.out _ ?_
          clear hK K
          refine fast_move 6 41 (.slice (some ⟨b, off, none⟩) n c) (.tmp 0) (fuel := 9) rfl rfl (by kernel_rfl) (by kernel_rfl) (by kernel_rfl) (fun _ _ _ h => h) (by kernel_rfl) (by kernel_rfl) (by first | exact Or.inl rfl | exact Or.inr rfl) hHeld (tf 127 16) (by kernel_rfl) (fun K hK => ?_)
          go_big_move
          refine hK.out _ ?_
          clear hK K
          refine fast_move 7 42 (.int .i64 (i : Int)) (.tmp 9) (fuel := 8) rfl rfl (by kernel_rfl) (by kernel_rfl) (by kernel_rfl) (fun _ _ _ h => h) (by kernel_rfl) (by kernel_rfl) (by first | exact Or.inl rfl | exact Or.inr rfl) hHeld (tf 255 16) (by kernel_rfl) (fun K hK => ?_)
          go_big_move
          refine hK.out _ ?_
          clear hK K
          refine fast2 8 43 (.pointer (some ⟨b, off + i * 3, none⟩)) (.tmp 41) (.slice (some ⟨b, off, none⟩) n c) (.tmp 42) (.int .i64 (i : Int)) (fuel := 7) rfl rfl (by kernel_rfl) (by kernel_rfl) (by kernel_rfl) (fun _ _ _ h => h) (by kernel_rfl) (by kernel_rfl) (by kernel_rfl) (fun ρ hr0 hr1 _ w hSw => by have h1 := i1; have h2 := i2; simp [go_sem, hr0, hr1, h1, h2]) hHeld (tf 511 16) (by kernel_rfl) (fun K hK => ?_)
          go_big_move
          refine hK.out _ ?_
          clear hK K
          refine fast_yields 9 44 (.agg #[.int .i64 y.1, .int .i64 y.2.1, .int .i64 y.2.2]) (fuel := 6) rfl rfl (by kernel_rfl) (by kernel_rfl) (by kernel_rfl) (fun _ _ _ h => h) (yieldsIf_load_mid (by rfl) _ _ rfl (b) (off + i * 3) rfl [.int .i64 y.1, .int .i64 y.2.1, .int .i64 y.2.2] _ (fun w hw => RA.out w hw.1) Tryz.underlying48 rfl (by kernel_rfl)) hHeld (tf 1023 16) (by kernel_rfl) (fun K hK => ?_)
          go_big_move
          refine hK.out _ ?_
          clear hK K
          refine fast_yields 10 45 (.agg #[.int .i64 x.1, .int .i64 x.2.1, .int .i64 x.2.2]) (fuel := 5) rfl rfl (by kernel_rfl) (by kernel_rfl) (by kernel_rfl) (fun _ _ _ h => h) (yieldsIf_load_mid (by rfl) _ _ rfl (w.heap.size) 0 rfl [.int .i64 x.1, .int .i64 x.2.1, .int .i64 x.2.2] _ (fun w hw => hw.2.range) Tryz.underlying48 rfl (by kernel_rfl)) hHeld (tf 2047 16) (by kernel_rfl) (fun K hK => ?_)
          go_big_move
          refine hK.out _ ?_
          clear hK K
          refine wpAnyH_ready (rs := [11]) (fuel := 4) (by kernel_rfl) (by simp) ?_
          refine ready_want rfl (by kernel_rfl) (tf 4095 16) (by kernel_rfl) (fun K hK => ?_) AllReadyH.nil
          simp only [List.getElem_toArray, List.getElem_cons_succ, List.getElem_cons_zero]
          go_big_op
          refine (CC.out _ hHeld).mono ?_
          rintro e w9 ⟨rfl, hb⟩
          have hS : BinS w w9 x := hHeld.below hb
          clear hb
          refine hK.out _ _ hS (fun hHeld => ?_)
          clear hK K
          refine fast1 12 47 (.bool true) (.tmp 46) (.int .i64 sg) (fuel := 3) rfl rfl (by kernel_rfl) (by kernel_rfl) (by kernel_rfl) (fun _ _ _ h => h) (by kernel_rfl) (by kernel_rfl) (fun ρ hr0 hc w hSw => by have hg := hsg; simp [go_sem, hc, hr0, hg]) hHeld (tf 8191 16) (by kernel_rfl) (fun K hK => ?_)
          go_big_move
          refine hK.out _ ?_
          clear hK K
          refine fast2 13 48 (.bool true) (.tmp 39) (.bool true) (.tmp 47) (.bool true) (fuel := 2) rfl rfl (by kernel_rfl) (by kernel_rfl) (by kernel_rfl) (fun _ _ _ h => h) (by kernel_rfl) (by kernel_rfl) (by kernel_rfl) (fun ρ hr0 hr1 hc w hSw => by simp [go_sem, hc, hr0, hr1]) hHeld (tf 16383 16) (by kernel_rfl) (fun K hK => ?_)
          go_big_move
          refine hK.out _ ?_
          clear hK K
          refine fast_move 14 6 (.int .i64 (i : Int)) (.tmp 35) (fuel := 1) rfl rfl (by kernel_rfl) (by kernel_rfl) (by kernel_rfl) (fun _ _ _ h => h) (by kernel_rfl) (by kernel_rfl) (by first | exact Or.inl rfl | exact Or.inr rfl) hHeld (tf 32767 16) (by kernel_rfl) (fun K hK => ?_)
          go_big_move
          refine hK.out _ ?_
          clear hK K
          refine fast_move 15 7 (.bool true) (.tmp 48) (fuel := 0) rfl rfl (by kernel_rfl) (by kernel_rfl) (by kernel_rfl) (fun _ _ _ h => h) (by kernel_rfl) (by kernel_rfl) (by first | exact Or.inl rfl | exact Or.inr rfl) hHeld (tf 65535 16) (by kernel_rfl) (fun K hK => ?_)
          go_big_move
          refine hK.out _ ?_
          clear hK K
          refine wpAnyH_done (by kernel_rfl) ?_ _
          have hq1 : q = true := HQ.out.2 ⟨hkx, by rw [← HY.out]; exact (signOf_zero _ _).1 (by rw [← HSG.out]; exact hsg)⟩
          clear HQ SD RA CC HY HSG hsg
          subst hq1
          go_wp2_with fail
          go_ret2
          exact ⟨_, rfl, hHeld.1⟩
        · refine wp_region_tf (S := fun w' => BinS w w' x) 16 (by kernel_rfl) (by kernel_rfl) (by kernel_rfl) SD (fun hHeld => ?_)
          refine fast_move 0 35 (.int .i64 (i : Int)) (.tmp 9) (fuel := 15) rfl rfl (by kernel_rfl) (by kernel_rfl) (by kernel_rfl) (fun _ _ _ h => h) (by kernel_rfl) (by kernel_rfl) (by first | exact Or.inl rfl | exact Or.inr rfl) hHeld (tf 1 16) (by kernel_rfl) (fun K hK => ?_)
          go_big_move
          refine hK.out _ ?_
          clear hK K
          refine fast_move 1 36 (.int .i64 (i : Int)) (.tmp 9) (fuel := 14) rfl rfl (by kernel_rfl) (by kernel_rfl) (by kernel_rfl) (fun _ _ _ h => h) (by kernel_rfl) (by kernel_rfl) (by first | exact Or.inl rfl | exact Or.inr rfl) hHeld (tf 3 16) (by kernel_rfl) (fun K hK => ?_)
          go_big_move
          refine hK.out _ ?_
          clear hK K
          refine fast_move 2 37 (.int .i64 (n : Int)) (.tmp 8) (fuel := 13) rfl rfl (by kernel_rfl) (by kernel_rfl) (by kernel_rfl) (fun _ _ _ h => h) (by kernel_rfl) (by kernel_rfl) (by first | exact Or.inl rfl | exact Or.inr rfl) hHeld (tf 7 16) (by kernel_rfl) (fun K hK => ?_)
          go_big_move
          refine hK.out _ ?_
          clear hK K
          refine fast2 3 38 (.bool true) (.tmp 36) (.int .i64 (i : Int)) (.tmp 37) (.int .i64 (n : Int)) (fuel := 12) rfl rfl (by kernel_rfl) (by kernel_rfl) (by kernel_rfl) (fun _ _ _ h => h) (by kernel_rfl) (by kernel_rfl) (by kernel_rfl) (fun ρ hr0 hr1 _ w hSw => by have h1 := hin; simp [go_sem, hr0, hr1, h1]) hHeld (tf 15 16) (by kernel_rfl) (fun K hK => ?_)
          go_big_move
          refine hK.out _ ?_
          clear hK K
          refine fast_move 4 39 (.bool true) (.tmp 38) (fuel := 11) rfl rfl (by kernel_rfl) (by kernel_rfl) (by kernel_rfl) (fun _ _ _ h => h) (by kernel_rfl) (by kernel_rfl) (by first | exact Or.inl rfl | exact Or.inr rfl) hHeld (tf 31 16) (by kernel_rfl) (fun K hK => ?_)
          go_big_move
          refine hK.out _ ?_
          clear hK K
          refine fast_move 5 40 (.func (.func 55) #[] #[]) (.tmp 2) (fuel := 10) rfl rfl (by kernel_rfl) (by kernel_rfl) (by kernel_rfl) (fun _ _ _ h => h) (by kernel_rfl) (by kernel_rfl) (by first | exact Or.inl rfl | exact Or.inr rfl) hHeld (tf 63 16) (by kernel_rfl) (fun K hK => ?_)
          go_big_move
          refine hK.out _ ?_
          clear hK K
          refine fast_move 6 41 (.slice (some ⟨b, off, none⟩) n c) (.tmp 0) (fuel := 9) rfl rfl (by kernel_rfl) (by kernel_rfl) (by kernel_rfl) (fun _ _ _ h => h) (by kernel_rfl) (by kernel_rfl) (by first | exact Or.inl rfl | exact Or.inr rfl) hHeld (tf 127 16) (by kernel_rfl) (fun K hK => ?_)
          go_big_move
          refine hK.out _ ?_
          clear hK K
          refine fast_move 7 42 (.int .i64 (i : Int)) (.tmp 9) (fuel := 8) rfl rfl (by kernel_rfl) (by kernel_rfl) (by kernel_rfl) (fun _ _ _ h => h) (by kernel_rfl) (by kernel_rfl) (by first | exact Or.inl rfl | exact Or.inr rfl) hHeld (tf 255 16) (by kernel_rfl) (fun K hK => ?_)
          go_big_move
          refine hK.out _ ?_
          clear hK K
          refine fast2 8 43 (.pointer (some ⟨b, off + i * 3, none⟩)) (.tmp 41) (.slice (some ⟨b, off, none⟩) n c) (.tmp 42) (.int .i64 (i : Int)) (fuel := 7) rfl rfl (by kernel_rfl) (by kernel_rfl) (by kernel_rfl) (fun _ _ _ h => h) (by kernel_rfl) (by kernel_rfl) (by kernel_rfl) (fun ρ hr0 hr1 _ w hSw => by have h1 := i1; have h2 := i2; simp [go_sem, hr0, hr1, h1, h2]) hHeld (tf 511 16) (by kernel_rfl) (fun K hK => ?_)
          go_big_move
          refine hK.out _ ?_
          clear hK K
          refine fast_yields 9 44 (.agg #[.int .i64 y.1, .int .i64 y.2.1, .int .i64 y.2.2]) (fuel := 6) rfl rfl (by kernel_rfl) (by kernel_rfl) (by kernel_rfl) (fun _ _ _ h => h) (yieldsIf_load_mid (by rfl) _ _ rfl (b) (off + i * 3) rfl [.int .i64 y.1, .int .i64 y.2.1, .int .i64 y.2.2] _ (fun w hw => RA.out w hw.1) Tryz.underlying48 rfl (by kernel_rfl)) hHeld (tf 1023 16) (by kernel_rfl) (fun K hK => ?_)
          go_big_move
          refine hK.out _ ?_
          clear hK K
          refine fast_yields 10 45 (.agg #[.int .i64 x.1, .int .i64 x.2.1, .int .i64 x.2.2]) (fuel := 5) rfl rfl (by kernel_rfl) (by kernel_rfl) (by kernel_rfl) (fun _ _ _ h => h) (yieldsIf_load_mid (by rfl) _ _ rfl (w.heap.size) 0 rfl [.int .i64 x.1, .int .i64 x.2.1, .int .i64 x.2.2] _ (fun w hw => hw.2.range) Tryz.underlying48 rfl (by kernel_rfl)) hHeld (tf 2047 16) (by kernel_rfl) (fun K hK => ?_)
          go_big_move
          refine hK.out _ ?_
          clear hK K
          refine wpAnyH_ready (rs := [11]) (fuel := 4) (by kernel_rfl) (by simp) ?_
          refine ready_want rfl (by kernel_rfl) (tf 4095 16) (by kernel_rfl) (fun K hK => ?_) AllReadyH.nil
          simp only [List.getElem_toArray, List.getElem_cons_succ, List.getElem_cons_zero]
          go_big_op
          refine (CC.out _ hHeld).mono ?_
          rintro e w9 ⟨rfl, hb⟩
          have hS : BinS w w9 x := hHeld.below hb
          clear hb
          refine hK.out _ _ hS (fun hHeld => ?_)
          clear hK K
          refine fast1 12 47 (.bool false) (.tmp 46) (.int .i64 sg) (fuel := 3) rfl rfl (by kernel_rfl) (by kernel_rfl) (by kernel_rfl) (fun _ _ _ h => h) (by kernel_rfl) (by kernel_rfl) (fun ρ hr0 hc w hSw => by have hg := hsg; simp [go_sem, hc, hr0, hg]) hHeld (tf 8191 16) (by kernel_rfl) (fun K hK => ?_)
          go_big_move
          refine hK.out _ ?_
          clear hK K
          refine fast2 13 48 (.bool false) (.tmp 39) (.bool true) (.tmp 47) (.bool false) (fuel := 2) rfl rfl (by kernel_rfl) (by kernel_rfl) (by kernel_rfl) (fun _ _ _ h => h) (by kernel_rfl) (by kernel_rfl) (by kernel_rfl) (fun ρ hr0 hr1 hc w hSw => by simp [go_sem, hc, hr0, hr1]) hHeld (tf 16383 16) (by kernel_rfl) (fun K hK => ?_)
          go_big_move
          refine hK.out _ ?_
          clear hK K
          refine fast_move 14 6 (.int .i64 (i : Int)) (.tmp 35) (fuel := 1) rfl rfl (by kernel_rfl) (by kernel_rfl) (by kernel_rfl) (fun _ _ _ h => h) (by kernel_rfl) (by kernel_rfl) (by first | exact Or.inl rfl | exact Or.inr rfl) hHeld (tf 32767 16) (by kernel_rfl) (fun K hK => ?_)
          go_big_move
          refine hK.out _ ?_
          clear hK K
          refine fast_move 15 7 (.bool false) (.tmp 48) (fuel := 0) rfl rfl (by kernel_rfl) (by kernel_rfl) (by kernel_rfl) (fun _ _ _ h => h) (by kernel_rfl) (by kernel_rfl) (by first | exact Or.inl rfl | exact Or.inr rfl) hHeld (tf 65535 16) (by kernel_rfl) (fun K hK => ?_)
          go_big_move
          refine hK.out _ ?_
          clear hK K
          refine wpAnyH_done (by kernel_rfl) ?_ _
          have hq1 : q = false := by
            cases q with
            | false => rfl
            | true =>
              obtain ⟨_, e⟩ := HQ.out.1 rfl
              exact absurd (by rw [HSG.out, HY.out, e]; exact (signOf_zero _ _).2 rfl) hsg
          clear HQ SD RA CC HY HSG hsg
          subst hq1
          go_wp2_with fail
          go_ret2
          exact ⟨_, rfl, hHeld.1⟩
      · refine wp_region_tf (S := fun w' => BinS w w' x) 16 (by kernel_rfl) (by kernel_rfl) (by kernel_rfl) SD (fun hHeld => ?_)
        refine fast_move 0 35 (.int .i64 (i : Int)) (.tmp 9) (fuel := 15) rfl rfl (by kernel_rfl) (by kernel_rfl) (by kernel_rfl) (fun _ _ _ h => h) (by kernel_rfl) (by kernel_rfl) (by first | exact Or.inl rfl | exact Or.inr rfl) hHeld (tf 1 16) (by kernel_rfl) (fun K hK => ?_)
        go_big_move
        refine hK.out _ ?_
        clear hK K
        refine fast_move 1 36 (.int .i64 (i : Int)) (.tmp 9) (fuel := 14) rfl rfl (by kernel_rfl) (by kernel_rfl) (by kernel_rfl) (fun _ _ _ h => h) (by kernel_rfl) (by kernel_rfl) (by first | exact Or.inl rfl | exact Or.inr rfl) hHeld (tf 3 16) (by kernel_rfl) (fun K hK => ?_)
        go_big_move
        refine hK.out _ ?_
        clear hK K
        refine fast_move 2 37 (.int .i64 (n : Int)) (.tmp 8) (fuel := 13) rfl rfl (by kernel_rfl) (by kernel_rfl) (by kernel_rfl) (fun _ _ _ h => h) (by kernel_rfl) (by kernel_rfl) (by first | exact Or.inl rfl | exact Or.inr rfl) hHeld (tf 7 16) (by kernel_rfl) (fun K hK => ?_)
        go_big_move
        refine hK.out _ ?_
        clear hK K
        refine fast2 3 38 (.bool false) (.tmp 36) (.int .i64 (i : Int)) (.tmp 37) (.int .i64 (n : Int)) (fuel := 12) rfl rfl (by kernel_rfl) (by kernel_rfl) (by kernel_rfl) (fun _ _ _ h => h) (by kernel_rfl) (by kernel_rfl) (by kernel_rfl) (fun ρ hr0 hr1 _ w hSw => by have h1 := hin; simp [go_sem, hr0, hr1, h1]) hHeld (tf 15 16) (by kernel_rfl) (fun K hK => ?_)
        go_big_move
        refine hK.out _ ?_
        clear hK K
        refine fast_move 4 39 (.bool false) (.tmp 38) (fuel := 11) rfl rfl (by kernel_rfl) (by kernel_rfl) (by kernel_rfl) (fun _ _ _ h => h) (by kernel_rfl) (by kernel_rfl) (by first | exact Or.inl rfl | exact Or.inr rfl) hHeld (tf 31 16) (by kernel_rfl) (fun K hK => ?_)
        go_big_move
        refine hK.out _ ?_
        clear hK K
        refine fast_skip 5 40 (fuel := 10) rfl rfl (by kernel_rfl) (by kernel_rfl) (by kernel_rfl) (fun _ _ _ h => h) (by kernel_rfl) hHeld (tf 63 16) (by kernel_rfl) (fun K hK => ?_)
        go_big_move
        refine hK.out _ ?_
        clear hK K
        refine fast_skip 6 41 (fuel := 9) rfl rfl (by kernel_rfl) (by kernel_rfl) (by kernel_rfl) (fun _ _ _ h => h) (by kernel_rfl) hHeld (tf 127 16) (by kernel_rfl) (fun K hK => ?_)
        go_big_move
        refine hK.out _ ?_
        clear hK K
        refine fast_skip 7 42 (fuel := 8) rfl rfl (by kernel_rfl) (by kernel_rfl) (by kernel_rfl) (fun _ _ _ h => h) (by kernel_rfl) hHeld (tf 255 16) (by kernel_rfl) (fun K hK => ?_)
        go_big_move
        refine hK.out _ ?_
        clear hK K
        refine fast_skip 8 43 (fuel := 7) rfl rfl (by kernel_rfl) (by kernel_rfl) (by kernel_rfl) (fun _ _ _ h => h) (by kernel_rfl) hHeld (tf 511 16) (by kernel_rfl) (fun K hK => ?_)
        go_big_move
        refine hK.out _ ?_
        clear hK K
        refine fast_skip 9 44 (fuel := 6) rfl rfl (by kernel_rfl) (by kernel_rfl) (by kernel_rfl) (fun _ _ _ h => h) (by kernel_rfl) hHeld (tf 1023 16) (by kernel_rfl) (fun K hK => ?_)
        go_big_move
        refine hK.out _ ?_
        clear hK K
        refine fast_skip 10 45 (fuel := 5) rfl rfl (by kernel_rfl) (by kernel_rfl) (by kernel_rfl) (fun _ _ _ h => h) (by kernel_rfl) hHeld (tf 2047 16) (by kernel_rfl) (fun K hK => ?_)
        go_big_move
        refine hK.out _ ?_
        clear hK K
        refine fast_skip 11 46 (fuel := 4) rfl rfl (by kernel_rfl) (by kernel_rfl) (by kernel_rfl) (fun _ _ _ h => h) (by kernel_rfl) hHeld (tf 4095 16) (by kernel_rfl) (fun K hK => ?_)
        go_big_move
        refine hK.out _ ?_
        clear hK K
        refine fast_skip 12 47 (fuel := 3) rfl rfl (by kernel_rfl) (by kernel_rfl) (by kernel_rfl) (fun _ _ _ h => h) (by kernel_rfl) hHeld (tf 8191 16) (by kernel_rfl) (fun K hK => ?_)
        go_big_move
        refine hK.out _ ?_
        clear hK K
        refine fast2 13 48 (.bool false) (.tmp 39) (.bool false) (.tmp 47) (undef) (fuel := 2) rfl rfl (by kernel_rfl) (by kernel_rfl) (by kernel_rfl) (fun _ _ _ h => h) (by kernel_rfl) (by kernel_rfl) (by kernel_rfl) (fun ρ hr0 hr1 hc w hSw => by simp [go_sem, hc, hr0, hr1]) hHeld (tf 16383 16) (by kernel_rfl) (fun K hK => ?_)
        go_big_move
        refine hK.out _ ?_
        clear hK K
        refine fast_move 14 6 (.int .i64 (i : Int)) (.tmp 35) (fuel := 1) rfl rfl (by kernel_rfl) (by kernel_rfl) (by kernel_rfl) (fun _ _ _ h => h) (by kernel_rfl) (by kernel_rfl) (by first | exact Or.inl rfl | exact Or.inr rfl) hHeld (tf 32767 16) (by kernel_rfl) (fun K hK => ?_)
        go_big_move
        refine hK.out _ ?_
        clear hK K
        refine fast_move 15 7 (.bool false) (.tmp 48) (fuel := 0) rfl rfl (by kernel_rfl) (by kernel_rfl) (by kernel_rfl) (fun _ _ _ h => h) (by kernel_rfl) (by kernel_rfl) (by first | exact Or.inl rfl | exact Or.inr rfl) hHeld (tf 65535 16) (by kernel_rfl) (fun K hK => ?_)
        go_big_move
        refine hK.out _ ?_
        clear hK K
        refine wpAnyH_done (by kernel_rfl) ?_ _
        have hq1 : q = false := by
          cases q with
          | false => rfl
          | true =>
            obtain ⟨hi, _⟩ := HQ.out.1 rfl
            rw [HL.out] at hi
            exact absurd hi (by omega)
        clear HQ SD
        subst hq1
        go_wp2_with fail
        go_ret2
        exact ⟨⟨_, rfl⟩, hHeld.1⟩

end Go.Proofs.YtdbgjgeglgipiaaGreat

/-
  The contract of the program's Product. Conditions: the lists have at most 2^20 elements.
-/
namespace Go.Proofs.YtdbgjgeglgipiaaGreat
open Go.RowKit

theorem own_ne2 {W : World} {base base' size size' n n' : Nat} {e e' : TypeId} {v v' : Value} {xs xs' : List Value} (h : W.ownsRow base e size v n xs) (h' : W.ownsRow base' e' size' v' n' xs') (he : e ≠ e') : ∀ k, v.ownBlock = some k → v'.ownBlock ≠ some k := by
  intro k hk hk'
  rcases h.2 with ⟨rfl, _⟩ | ⟨g, cap, cur, rfl, _, hh, _⟩
  · cases hk
  rcases h'.2 with ⟨rfl, _⟩ | ⟨g', cap', cur', rfl, _, hh', _⟩
  · cases hk'
  have e1 : g = k := by simpa [Value.ownBlock] using hk
  have e2 : g' = k := by simpa [Value.ownBlock] using hk'
  rw [e1] at hh
  rw [e2, hh] at hh'
  simp only [Option.some.injEq, Obj.cells.injEq] at hh'
  exact he hh'.2.1

theorem own_none (w : World) (base : Nat) : IaOwn w base noIa (.agg #[.int .i64 0, .int .i64 0, .slice none 0 0, .slice none 0 0, .slice none 0 0, .slice none 0 0]) :=
  ⟨_, _, _, _, rfl, World.ownsRow_nil _ _ _ _, World.ownsRow_nil _ _ _ _, World.ownsRow_nil _ _ _ _, World.ownsRow_nil _ _ _ _, (fun b h => by cases h), (fun b h => by cases h), fun b h => by cases h⟩

set_option maxRecDepth 20000 in
set_option maxHeartbeats 6400000 in
theorem implProduct_any (a b : IaD) (v u : Value) (w : World) (h : IaRow w a v) (k : IaRow w b u) (fa : Small a) (fb : Small b) :
    Calls Tryz.prog 24 #[v, u] w fun e w' => ∃ v', e = .returned (.tuple #[v', .bool (prodB a b)]) ∧ IaOwn w' w.heap.size (prodIa a b) v' ∧ Below w.heap.size w w' := by
  have CF : Hid (∀ W, Below w.heap.size w W → Calls Tryz.prog 49 #[v, u] W fun e w' => e = .returned (.bool (fitB a b)) ∧ Below W.heap.size W w') := fun W hW => implFit_any a b v u W (h.below hW) (k.below hW) fa fb
  have CSH : Hid (∀ W, Below w.heap.size w W → Calls Tryz.prog 50 #[v, u] W (RowRes W W.heap.size (shOf a b))) := fun W hW => sharedActs_any a b v u W (h.below hW) (k.below hW) fa fb
  have CA0 : Hid (iaOkB a = true → iaOkB b = true → ∀ W sa sn sc, Below w.heap.size w W → Row W sa sn (shOf a b) → sn ≤ 1048576 → Calls Tryz.prog 52 #[v, u, .slice sa sn sc] W fun e w' => ∃ v', e = .returned v' ∧ OwnsS 48 w' W.heap.size v' (aloneA (shOf a b) b.states b.states.toNat a.steps ++ aloneB (shOf a b) b.states a.states.toNat b.steps).length (aloneA (shOf a b) b.states b.states.toNat a.steps ++ aloneB (shOf a b) b.states a.states.toNat b.steps) ∧ Below W.heap.size W w') := fun h1 h2 W sa sn sc hW hr hn => stepsApart_any a b v u W (h.below hW) (k.below hW) fa fb h1 h2 sa sn sc _ hr hn
  have CT0 : Hid (iaOkB a = true → iaOkB b = true → ∀ W sa sn sc, Below w.heap.size w W → Row W sa sn (shOf a b) → sn ≤ 1048576 → Calls Tryz.prog 53 #[v, u, .slice sa sn sc] W fun e w' => ∃ v', e = .returned v' ∧ OwnsS 48 w' W.heap.size v' (togetherL (shOf a b) b.states a.steps b.steps).length (togetherL (shOf a b) b.states a.steps b.steps) ∧ Below W.heap.size W w') := fun h1 h2 W sa sn sc hW hr hn => stepsTogether_any a b v u W (h.below hW) (k.below hW) fa fb h1 h2 sa sn sc _ hr hn
  obtain ⟨q, hq⟩ : ∃ q, q = fitB a b := ⟨_, rfl⟩
  have HOK : Hid (q = true → iaOkB a = true ∧ iaOkB b = true ∧ a.states * b.states ≤ 40) := fun e => fitB_ok (by rw [← hq]; exact e)
  have HSL : Hid (q = true → (shOf a b).length ≤ 12) := fun e => sh_low (fitB_ok (by rw [← hq]; exact e)).1
  obtain ⟨LA1, hLA1⟩ : ∃ l, l = aloneA (shOf a b) b.states b.states.toNat a.steps ++ aloneB (shOf a b) b.states a.states.toNat b.steps := ⟨_, rfl⟩
  obtain ⟨LT1, hLT1⟩ : ∃ l, l = togetherL (shOf a b) b.states a.steps b.steps := ⟨_, rfl⟩
  obtain ⟨ok, hok⟩ : ∃ r, r = prodB a b := ⟨_, rfl⟩
  obtain ⟨I, hI⟩ : ∃ I, I = prodIa a b := ⟨_, rfl⟩
  have HI : Hid (I = if ok then ⟨a.states * b.states, stOf b.states (a.init, b.init), lessOf (joinOf a.ins b.ins) (shOf a b), lessOf (joinOf a.outs b.outs) (shOf a b), joinOf (joinOf a.hids b.hids) (shOf a b), sortS (LA1 ++ LT1)⟩ else noIa) := by unfold Hid; rw [hI, hok, hLA1, hLT1]; rfl
  have HB_ : Hid (ok = (q && decide ((LA1 ++ LT1).length ≤ 400))) := by unfold Hid; rw [hok, hq, hLA1, hLT1]; rfl
  have HNL : Hid (q = true → LA1.length ≤ 32000 ∧ LT1.length ≤ 160000) := fun e => by
    obtain ⟨h1, h2, _⟩ := HOK.out e
    have s1 := iaOk_states h1
    have s2 := iaOk_states h2
    have l1 := iaOk_len h1
    have l2 := iaOk_len h2
    have m1 := aloneA_len (shOf a b) b.states b.states.toNat a.steps
    have m2 := aloneB_len (shOf a b) b.states a.states.toNat b.steps
    have m3 := togetherL_len (shOf a b) b.states b.steps a.steps
    have p1 : a.steps.length * b.states.toNat ≤ 400 * 40 := Nat.mul_le_mul l1 (by omega)
    have p2 : b.steps.length * a.states.toNat ≤ 400 * 40 := Nat.mul_le_mul l2 (by omega)
    have p3 : a.steps.length * b.steps.length ≤ 400 * 400 := Nat.mul_le_mul l1 l2
    rw [hLA1, hLT1, List.length_append]
    omega
  rw [← hok, ← hI]
  rw [← hq] at CF
  rw [← hLA1] at CA0
  rw [← hLT1] at CT0
  clear hq hok hI hLA1 hLT1
  obtain ⟨a2, n2, c2, a3, n3, c3, a4, n4, c4, a5, n5, c5, rfl, r2, r3, r4, r5⟩ := h
  obtain ⟨b2, m2, d2, b3, m3, d3, b4, m4, d4, b5, m5, d5, rfl, q2, q3, q4, q5⟩ := k
  obtain ⟨st, it, ins, outs, hids, steps⟩ := a
  obtain ⟨su, iu, jns, juts, jids, jteps⟩ := b
  obtain ⟨f2, f3, f4, f5⟩ := fa
  obtain ⟨g2, g3, g4, g5⟩ := fb
  simp only at r2 r3 r4 r5 q2 q3 q4 q5 f2 f3 f4 f5 g2 g3 g4 g5
  have HA : Hid (∀ W, Below w.heap.size w W → IaRow W ⟨st, it, ins, outs, hids, steps⟩ (.agg #[.int .i64 st, .int .i64 it, .slice a2 n2 c2, .slice a3 n3 c3, .slice a4 n4 c4, .slice a5 n5 c5])) := fun W hW => IaRow.below ⟨a2, n2, c2, a3, n3, c3, a4, n4, c4, a5, n5, c5, rfl, r2, r3, r4, r5⟩ hW
  have HB : Hid (∀ W, Below w.heap.size w W → IaRow W ⟨su, iu, jns, juts, jids, jteps⟩ (.agg #[.int .i64 su, .int .i64 iu, .slice b2 m2 d2, .slice b3 m3 d3, .slice b4 m4 d4, .slice b5 m5 d5])) := fun W hW => IaRow.below ⟨b2, m2, d2, b3, m3, d3, b4, m4, d4, b5, m5, d5, rfl, q2, q3, q4, q5⟩ hW
  have S0 := Lib.hid (Box2.start w (iaC st it a2 n2 c2 a3 n3 c3 a4 n4 c4 a5 n5 c5) (iaC su iu b2 m2 d2 b3 m3 d3 b4 m4 d4 b5 m5 d5) 31)
  have e2 := r2.1
  have e3 := r3.1
  have e4 := r4.1
  have k2 := q2.1
  have k3 := q3.1
  have k4 := q4.1
  rw [e2] at f2
  rw [e3] at f3
  rw [e4] at f4
  rw [k2] at g2
  rw [k3] at g3
  rw [k4] at g4
  have R2 := Lib.hid r2
  have R3 := Lib.hid r3
  have R4 := Lib.hid r4
  have R5 := Lib.hid r5
  have Q2 := Lib.hid q2
  have Q3 := Lib.hid q3
  have Q4 := Lib.hid q4
  have Q5 := Lib.hid q5
  clear r2 r3 r4 r5 q2 q3 q4 q5
  clear HA HB R5 Q5
  simp only at HOK HSL HI CA0 CT0 CSH
  obtain ⟨sh, hsh⟩ : ∃ l, l = shOf ⟨st, it, ins, outs, hids, steps⟩ ⟨su, iu, jns, juts, jids, jteps⟩ := ⟨_, rfl⟩
  rw [← hsh] at CSH HSL HI CA0 CT0
  clear hsh
  have S0x := S0.out.alloc (.cells #[.int .i64 0, .int .i64 0, .slice none 0 0, .slice none 0 0, .slice none 0 0, .slice none 0 0] 31)
  have S0 := Lib.hid S0x
  have TZ : Hid (VarIs (((w.alloc (.cells #[.int .i64 st, .int .i64 it, .slice a2 n2 c2, .slice a3 n3 c3, .slice a4 n4 c4, .slice a5 n5 c5] 31)).alloc (.cells #[.int .i64 su, .int .i64 iu, .slice b2 m2 d2, .slice b3 m3 d3, .slice b4 m4 d4, .slice b5 m5 d5] 31)).alloc (.cells #[.int .i64 0, .int .i64 0, .slice none 0 0, .slice none 0 0, .slice none 0 0, .slice none 0 0] 31)) (w.heap.size + 2) #[.int .i64 0, .int .i64 0, .slice none 0 0, .slice none 0 0, .slice none 0 0, .slice none 0 0] 31) := VarIs.new ((w.alloc (.cells #[.int .i64 st, .int .i64 it, .slice a2 n2 c2, .slice a3 n3 c3, .slice a4 n4 c4, .slice a5 n5 c5] 31)).alloc (.cells #[.int .i64 su, .int .i64 iu, .slice b2 m2 d2, .slice b3 m3 d3, .slice b4 m4 d4, .slice b5 m5 d5] 31)) #[.int .i64 0, .int .i64 0, .slice none 0 0, .slice none 0 0, .slice none 0 0, .slice none 0 0] 31 (by simp)
  clear S0x
  have ca0 := S0.out.2.1.cell (j := 0) (u := .int .i64 st) rfl
  have ca1 := S0.out.2.1.cell (j := 1) (u := .int .i64 it) rfl
  have ca2 := S0.out.2.1.cell (j := 2) (u := .slice a2 n2 c2) rfl
  have ca3 := S0.out.2.1.cell (j := 3) (u := .slice a3 n3 c3) rfl
  have ca4 := S0.out.2.1.cell (j := 4) (u := .slice a4 n4 c4) rfl
  have ca5 := S0.out.2.1.cell (j := 5) (u := .slice a5 n5 c5) rfl
  have cb0 := S0.out.2.2.cell (j := 0) (u := .int .i64 su) rfl
  have cb1 := S0.out.2.2.cell (j := 1) (u := .int .i64 iu) rfl
  have cb2 := S0.out.2.2.cell (j := 2) (u := .slice b2 m2 d2) rfl
  have cb3 := S0.out.2.2.cell (j := 3) (u := .slice b3 m3 d3) rfl
  have cb4 := S0.out.2.2.cell (j := 4) (u := .slice b4 m4 d4) rfl
  have cb5 := S0.out.2.2.cell (j := 5) (u := .slice b5 m5 d5) rfl
  go_enter Tryz.func24, Tryz.ntmps24
  go_wp2_with fail
  clear ca0 ca1 ca2 ca3 ca4 ca5 cb0 cb1 cb2 cb3 cb4 cb5
  refine (CF.out _ S0.out.1).mono ?_
  rintro e w1 ⟨rfl, hb⟩
  have S1 := Lib.hid (S0.out.below hb)
  have T1 := Lib.hid (TZ.out.below hb)
  clear hb S0 TZ CF
  cases q with
  | false =>
    have HOF : ok = false := by rw [HB_.out]; rfl
    subst HOF
    have THX : Hid (w1.there (w.heap.size + 2) 0 6) := T1.out.there rfl
    have RGX : Hid ((w1.setCells (w.heap.size + 2) 0 [.int .i64 0, .int .i64 0, .slice none 0 0, .slice none 0 0, .slice none 0 0, .slice none 0 0]).rangeAt (w.heap.size + 2) 0 [.int .i64 0, .int .i64 0, .slice none 0 0, .slice none 0 0, .slice none 0 0, .slice none 0 0]) := World.rangeAt_setCells_same w1 (w.heap.size + 2) 0 [.int .i64 0, .int .i64 0, .slice none 0 0, .slice none 0 0, .slice none 0 0, .slice none 0 0] (by simpa using THX.out)
    have GX := Lib.hid (grown_setCells (w.heap.size + 2) [.int .i64 0, .int .i64 0, .slice none 0 0, .slice none 0 0, .slice none 0 0, .slice none 0 0] 0 w1)
    have BX : Hid (Below w.heap.size w (w1.setCells (w.heap.size + 2) 0 [.int .i64 0, .int .i64 0, .slice none 0 0, .slice none 0 0, .slice none 0 0, .slice none 0 0])) := S1.out.1.grown GX.out S1.out.1.size (fun q hq => by have h1 := Option.some.inj hq; omega)
    have HIN : Hid (I = noIa) := HI.out
    go_wp2_with (refine wpList_store_mid rfl _ _ _ rfl (w.heap.size + 2) 0 #[.int .i64 0, .int .i64 0, .slice none 0 0, .slice none 0 0, .slice none 0 0, .slice none 0 0] rfl rfl THX.out (by kernel_rfl) (ia_one _ _ _ _ _ _ _ _ _ _ _ _ _ _) ?_)
    refine bodyPost_ret (v := .tuple #[.agg #[.int .i64 0, .int .i64 0, .slice none 0 0, .slice none 0 0, .slice none 0 0, .slice none 0 0], .bool false]) ?_ rfl ⟨.agg #[.int .i64 0, .int .i64 0, .slice none 0 0, .slice none 0 0, .slice none 0 0, .slice none 0 0], rfl, by rw [HIN.out]; exact own_none _ _, BX.out⟩
    have HC0 := RGX.out 0 _ rfl
    have HC1 := RGX.out 1 _ rfl
    have HC2 := RGX.out 2 _ rfl
    have HC3 := RGX.out 3 _ rfl
    have HC4 := RGX.out 4 _ rfl
    have HC5 := RGX.out 5 _ rfl
    simp only [Nat.zero_add] at HC0 HC1 HC2 HC3 HC4 HC5
    simp [results, Tryz.results24, go_sem, HC0, HC1, HC2, HC3, HC4, HC5]
  | true =>
    have hok := HOK.out (by simp)
    have hsl := HSL.out (by simp)
    have hnl := HNL.out (by simp)
    have hsA := iaOk_states hok.1
    have hsB := iaOk_states hok.2.1
    have hiA := iaOk_init hok.1
    have hiB := iaOk_init hok.2.1
    simp only at hsA hsB hiA hiB
    have HMUL : 0 ≤ st * su ∧ st * su ≤ 1600 := mul_low40 (by omega) (by omega)
    have CA1 := Lib.hid (CA0.out hok.1 hok.2.1)
    have CT1 := Lib.hid (CT0.out hok.1 hok.2.1)
    clear CA0 CT0 HOK HSL HNL hok
    have ca0 := S1.out.2.1.cell (j := 0) (u := .int .i64 st) rfl
    have ca1 := S1.out.2.1.cell (j := 1) (u := .int .i64 it) rfl
    have ca2 := S1.out.2.1.cell (j := 2) (u := .slice a2 n2 c2) rfl
    have ca3 := S1.out.2.1.cell (j := 3) (u := .slice a3 n3 c3) rfl
    have ca4 := S1.out.2.1.cell (j := 4) (u := .slice a4 n4 c4) rfl
    have ca5 := S1.out.2.1.cell (j := 5) (u := .slice a5 n5 c5) rfl
    have cb0 := S1.out.2.2.cell (j := 0) (u := .int .i64 su) rfl
    have cb1 := S1.out.2.2.cell (j := 1) (u := .int .i64 iu) rfl
    have cb2 := S1.out.2.2.cell (j := 2) (u := .slice b2 m2 d2) rfl
    have cb3 := S1.out.2.2.cell (j := 3) (u := .slice b3 m3 d3) rfl
    have cb4 := S1.out.2.2.cell (j := 4) (u := .slice b4 m4 d4) rfl
    have cb5 := S1.out.2.2.cell (j := 5) (u := .slice b5 m5 d5) rfl
    go_wp2_with fail
    clear ca0 ca1 ca2 ca3 ca4 ca5 cb0 cb1 cb2 cb3 cb4 cb5
    refine (CSH.out _ S1.out.1).mono ?_
    rintro e w2 ⟨vsh, rfl, ho, hb⟩
    obtain ⟨sn, hsn⟩ : ∃ n, n = sh.length := ⟨_, rfl⟩
    rw [← hsn] at ho hsl
    obtain ⟨sa, sc, rfl⟩ := ho.form
    have S2 := Lib.hid (S1.out.below hb)
    have T2 := Lib.hid (T1.out.below hb)
    have P2 := Lib.hid (ho.mono (base := w.heap.size) S1.out.1.size)
    clear hb ho hsn S1 T1 CSH
    have CA : Hid (∀ W, Box2 w W w.heap.size (w.heap.size + 1) 31 (iaC st it a2 n2 c2 a3 n3 c3 a4 n4 c4 a5 n5 c5) (iaC su iu b2 m2 d2 b3 m3 d3 b4 m4 d4 b5 m5 d5) → Row W sa sn sh → Calls Tryz.prog 52 #[.agg #[.int .i64 st, .int .i64 it, .slice a2 n2 c2, .slice a3 n3 c3, .slice a4 n4 c4, .slice a5 n5 c5], .agg #[.int .i64 su, .int .i64 iu, .slice b2 m2 d2, .slice b3 m3 d3, .slice b4 m4 d4, .slice b5 m5 d5], .slice sa sn sc] W fun e w' => ∃ ad n cc, e = .returned (.slice ad n cc) ∧ (OwnsS 48 w' W.heap.size (.slice ad n cc) LA1.length LA1) ∧ Below W.heap.size W w') := fun W hW hr => (CA1.out W sa sn sc hW.1 hr (by omega)).mono fun e w' h => by
      obtain ⟨v', he, ho, hb⟩ := h
      obtain ⟨ad, cc, rfl⟩ := ho.form
      exact ⟨ad, _, cc, he, ho, hb⟩
    have CT : Hid (∀ W, Box2 w W w.heap.size (w.heap.size + 1) 31 (iaC st it a2 n2 c2 a3 n3 c3 a4 n4 c4 a5 n5 c5) (iaC su iu b2 m2 d2 b3 m3 d3 b4 m4 d4 b5 m5 d5) → Row W sa sn sh → Calls Tryz.prog 53 #[.agg #[.int .i64 st, .int .i64 it, .slice a2 n2 c2, .slice a3 n3 c3, .slice a4 n4 c4, .slice a5 n5 c5], .agg #[.int .i64 su, .int .i64 iu, .slice b2 m2 d2, .slice b3 m3 d3, .slice b4 m4 d4, .slice b5 m5 d5], .slice sa sn sc] W fun e w' => ∃ ad n cc, e = .returned (.slice ad n cc) ∧ (OwnsS 48 w' W.heap.size (.slice ad n cc) LT1.length LT1) ∧ Below W.heap.size W w') := fun W hW hr => (CT1.out W sa sn sc hW.1 hr (by omega)).mono fun e w' h => by
      obtain ⟨v', he, ho, hb⟩ := h
      obtain ⟨ad, cc, rfl⟩ := ho.form
      exact ⟨ad, _, cc, he, ho, hb⟩
    have CCC : Hid (∀ W a1 l1 c1 a2 l2 c2 , OwnsS 48 W w.heap.size (.slice a1 l1 c1) LA1.length LA1 → OwnsS 48 W w.heap.size (.slice a2 l2 c2) LT1.length LT1 → Calls Tryz.prog 51 #[.slice (some ⟨W.heap.size, 0, none⟩) 2 2] (W.alloc (.cells #[.slice a1 l1 c1, .slice a2 l2 c2] 29)) fun e w' => ∃ v, e = .returned v ∧ OwnsS 48 w' (W.alloc (.cells #[.slice a1 l1 c1, .slice a2 l2 c2] 29)).heap.size v (LA1 ++ LT1).length (LA1 ++ LT1) ∧ Below (W.alloc (.cells #[.slice a1 l1 c1, .slice a2 l2 c2] 29)).heap.size (W.alloc (.cells #[.slice a1 l1 c1, .slice a2 l2 c2] 29)) w') := fun W a1 l1 c1 a2 l2 c2 h1 h2 => by
      obtain rfl := h1.row.1
      obtain rfl := h2.row.1
      have X := VarIs.new W #[.slice a1 LA1.length c1, .slice a2 LT1.length c2] 29 rfl
      exact concatS_any W.heap.size a1 a2 LA1.length c1 LT1.length c2 LA1 LT1 _ X.lt (X.cell (j := 0) rfl) (X.cell (j := 1) rfl) (h1.alloc _).src (h2.alloc _).src (by omega) (by omega)
    clear CA1 CT1
    go_wp2_with fail
    have SD := S2.out.drew
    have TD : Hid (VarIs w2.drew (w.heap.size + 2) #[.int .i64 0, .int .i64 0, .slice none 0 0, .slice none 0 0, .slice none 0 0, .slice none 0 0] 31) := T2.out
    have PD : Hid (Owns w2.drew w.heap.size (.slice sa sn sc) sn sh) := P2.out
    clear S2 T2 P2
    refine wp_region_held_drew (S := fun w' => Box2 w w' w.heap.size (w.heap.size + 1) 31 (iaC st it a2 n2 c2 a3 n3 c3 a4 n4 c4 a5 n5 c5) (iaC su iu b2 m2 d2 b3 m3 d3 b4 m4 d4 b5 m5 d5)) (by kernel_rfl) SD (fun hHeld => ?_)
    change wpAnyH _ _ _ _ _ 11 (Array.replicate 11 false) _ _
    refine take_yields 0 16 (.agg #[.int .i64 st, .int .i64 it, .slice a2 n2 c2, .slice a3 n3 c3, .slice a4 n4 c4, .slice a5 n5 c5]) (fuel := 10) rfl rfl (by kernel_rfl) (by kernel_rfl) (by kernel_rfl) (fun _ _ _ h => h) (yieldsIf_load_mid (by rfl) _ _ rfl (w.heap.size) 0 rfl (iaC st it a2 n2 c2 a3 n3 c3 a4 n4 c4 a5 n5 c5).toList _ (fun w hw => hw.2.1.range) Tryz.underlying31 rfl (by kernel_rfl)) hHeld ?_
    simp only [Act.put, List.setIfInBounds_toArray, List.set_cons_zero, List.set_cons_succ]
    refine take_yields 1 17 (.agg #[.int .i64 su, .int .i64 iu, .slice b2 m2 d2, .slice b3 m3 d3, .slice b4 m4 d4, .slice b5 m5 d5]) (fuel := 9) rfl rfl (by kernel_rfl) (by kernel_rfl) (by kernel_rfl) (fun _ _ _ h => h) (yieldsIf_load_mid (by rfl) _ _ rfl (w.heap.size + 1) 0 rfl (iaC su iu b2 m2 d2 b3 m3 d3 b4 m4 d4 b5 m5 d5).toList _ (fun w hw => hw.2.2.range) Tryz.underlying31 rfl (by kernel_rfl)) hHeld ?_
    simp only [Act.put, List.setIfInBounds_toArray, List.set_cons_zero, List.set_cons_succ]
    refine take_op 2 18 (.slice sa sn sc) (fuel := 8) rfl rfl (by kernel_rfl) (by kernel_rfl) (by kernel_rfl) (fun _ _ _ h => h) (by rfl) (fun w hSw => by go_simp) hHeld ?_
    simp only [Act.put, List.setIfInBounds_toArray, List.set_cons_zero, List.set_cons_succ]
    refine take_yields 4 20 (.agg #[.int .i64 st, .int .i64 it, .slice a2 n2 c2, .slice a3 n3 c3, .slice a4 n4 c4, .slice a5 n5 c5]) (fuel := 7) rfl rfl (by kernel_rfl) (by kernel_rfl) (by kernel_rfl) (fun _ _ _ h => h) (yieldsIf_load_mid (by rfl) _ _ rfl (w.heap.size) 0 rfl (iaC st it a2 n2 c2 a3 n3 c3 a4 n4 c4 a5 n5 c5).toList _ (fun w hw => hw.2.1.range) Tryz.underlying31 rfl (by kernel_rfl)) hHeld ?_
    simp only [Act.put, List.setIfInBounds_toArray, List.set_cons_zero, List.set_cons_succ]
    refine take_yields 5 21 (.agg #[.int .i64 su, .int .i64 iu, .slice b2 m2 d2, .slice b3 m3 d3, .slice b4 m4 d4, .slice b5 m5 d5]) (fuel := 6) rfl rfl (by kernel_rfl) (by kernel_rfl) (by kernel_rfl) (fun _ _ _ h => h) (yieldsIf_load_mid (by rfl) _ _ rfl (w.heap.size + 1) 0 rfl (iaC su iu b2 m2 d2 b3 m3 d3 b4 m4 d4 b5 m5 d5).toList _ (fun w hw => hw.2.2.range) Tryz.underlying31 rfl (by kernel_rfl)) hHeld ?_
    simp only [Act.put, List.setIfInBounds_toArray, List.set_cons_zero, List.set_cons_succ]
    refine take_op 6 22 (.slice sa sn sc) (fuel := 5) rfl rfl (by kernel_rfl) (by kernel_rfl) (by kernel_rfl) (fun _ _ _ h => h) (by rfl) (fun w hSw => by go_simp) hHeld ?_
    simp only [Act.put, List.setIfInBounds_toArray, List.set_cons_zero, List.set_cons_succ]
    refine wpAnyH_ready (rs := [3]) (fuel := 4) (by kernel_rfl) (by simp) ?_
    refine AllReadyH.cons rfl (fun K hK => ?_) AllReadyH.nil
    go_simp
    refine (CA.out _ hHeld PD.out.row.2.2.2).mono ?_
    rintro e w3 ⟨a3v, l3, c3v, rfl, ho, hb⟩
    have T3 := Lib.hid (TD.out.below hb)
    have O3 := Lib.hid (ho.mono (base := w.heap.size) hHeld.1.size)
    have P3 := Lib.hid (PD.out.below hb)
    have hS3 := hHeld.below hb
    clear hb ho
    go_wp2_with fail
    refine hK.out _ _ hS3 (fun hHeld => ?_)
    clear hK K
    refine wpAnyH_ready (rs := [7]) (fuel := 3) (by kernel_rfl) (by simp) ?_
    refine AllReadyH.cons rfl (fun K hK => ?_) AllReadyH.nil
    go_simp
    refine (CT.out _ hHeld P3.out.row.2.2.2).mono ?_
    rintro e w4 ⟨a4v, l4, c4v, rfl, ho, hb⟩
    have T4 := Lib.hid (T3.out.below hb)
    have O4 := Lib.hid (O3.out.below hb)
    have Q4x := Lib.hid (ho.mono (base := w.heap.size) hHeld.1.size)
    have P4 := Lib.hid (P3.out.below hb)
    have hS4 := hHeld.below hb
    clear hb ho O3 T3 P3
    have CC := Lib.hid (CCC.out w4 a3v l3 c3v a4v l4 c4v O4.out Q4x.out)
    go_wp2_with fail
    refine hK.out _ _ hS4 (fun hHeld => ?_)
    clear hK K
    refine wpAnyH_ready (rs := [8]) (fuel := 2) (by kernel_rfl) (by simp) ?_
    refine AllReadyH.cons rfl (fun K hK => ?_) AllReadyH.nil
    go_simp
    refine hK.out _ _ (hHeld.alloc _) (fun hHeld => ?_)
    clear hK K
    try simp only [Act.put, List.setIfInBounds_toArray, List.set_cons_zero, List.set_cons_succ]
    refine wpAnyH_ready (rs := [9]) (fuel := 1) (by kernel_rfl) (by simp) ?_
    refine AllReadyH.cons rfl (fun K hK => ?_) AllReadyH.nil
    go_simp
    refine (CC.out).mono ?_
    rintro e w5 ⟨v5, rfl, ho, hb⟩
    have T5 := Lib.hid ((T4.out.alloc (.cells #[.slice a3v l3 c3v, .slice a4v l4 c4v] 29)).below hb)
    have O5 := Lib.hid (ho.mono (base := w.heap.size + 3) (by have h1 := T4.out.lt; simp; omega))
    have P5 := Lib.hid ((P4.out.alloc (.cells #[.slice a3v l3 c3v, .slice a4v l4 c4v] 29)).below hb)
    have hS5 := hHeld.below hb
    clear hb ho O4 Q4x T4 P4
    go_wp2_with fail
    refine hK.out _ _ hS5 (fun hHeld => ?_)
    clear hK K
    refine take_op 10 7 (v5) (fuel := 0) rfl rfl (by kernel_rfl) (by kernel_rfl) (by kernel_rfl) (fun _ _ _ h => h) (by rfl) (fun w hSw => by go_simp) hHeld ?_
    simp only [Act.put, List.setIfInBounds_toArray, List.set_cons_zero, List.set_cons_succ]
    refine wpAnyH_done (by kernel_rfl) ?_ _
    obtain ⟨LL, hLL⟩ : ∃ l, l = LA1 ++ LT1 := ⟨_, rfl⟩
    rw [← hLL] at O5 HI HB_
    obtain ⟨l5, hl5⟩ : ∃ n, n = LL.length := ⟨_, rfl⟩
    rw [← hl5] at O5 HB_
    have hl5b : l5 ≤ 192000 := by rw [hl5, hLL, List.length_append]; omega
    obtain ⟨a5v, c5v, rfl⟩ := O5.out.form
    have SE := Lib.hid hHeld
    clear hHeld hLL hl5 CA CT CCC CC
    by_cases hlen : l5 ≤ 400
    · have hd : decide ((l5 : Int) > 400) = false := by simp; omega
      have HOT : ok = true := by rw [HB_.out]; simp [hlen]
      subst HOT
      have HIT : Hid (I = ⟨st * su, stOf su (it, iu), lessOf (joinOf ins jns) sh, lessOf (joinOf outs juts) sh, joinOf (joinOf hids jids) sh, sortS LL⟩) := HI.out
      go_wp2_with fail
      refine (sortFunc_any _ l5 LL (w.heap.size + 3) _ O5.out (by omega)).mono ?_
      rintro e w6 ⟨rfl, ho, hg⟩
      have hrow := fun q hq => (O5.out.lt q hq).1
      have S6 : Hid (Box2 w w6 w.heap.size (w.heap.size + 1) 31 (iaC st it a2 n2 c2 a3 n3 c3 a4 n4 c4 a5 n5 c5) (iaC su iu b2 m2 d2 b3 m3 d3 b4 m4 d4 b5 m5 d5)) := ⟨SE.out.1.grown hg SE.out.1.size (fun q hq => by have := hrow q hq; omega), SE.out.2.1.grown hg (fun e => by have := hrow _ e.symm; omega), SE.out.2.2.grown hg (fun e => by have := hrow _ e.symm; omega)⟩
      have T6 := Lib.hid (T5.out.grown hg (fun e => by have := hrow _ e.symm; omega))
      have O6 := Lib.hid ho
      have P6 : Hid (Owns w6 w.heap.size (.slice sa sn sc) sn sh) := P5.out.keep hg (fun k hk he => own_ne2 P5.out O5.out (by decide) k hk he.symm)
      have bO := Lib.hid ho.lt
      obtain ⟨ini, hini⟩ : ∃ x, x = stOf su (it, iu) := ⟨_, rfl⟩
      rw [← hini] at HIT
      have CST : Hid (∀ W, Calls Tryz.prog 56 #[.agg #[.int .i64 su, .int .i64 iu, .slice b2 m2 d2, .slice b3 m3 d3, .slice b4 m4 d4, .slice b5 m5 d5], .agg #[.int .i64 it, .int .i64 iu]] W fun e w' => e = .returned (.int .i64 ini) ∧ Below W.heap.size W w') := fun W => by
        rw [hini]
        exact stateOf_any su iu (.slice b2 m2 d2) (.slice b3 m3 d3) (.slice b4 m4 d4) (.slice b5 m5 d5) it iu W (by omega) (by omega) (by omega)
      have CJ1 : Hid (∀ W, Box2 w W w.heap.size (w.heap.size + 1) 31 (iaC st it a2 n2 c2 a3 n3 c3 a4 n4 c4 a5 n5 c5) (iaC su iu b2 m2 d2 b3 m3 d3 b4 m4 d4 b5 m5 d5) → Calls Tryz.prog 58 #[.slice a2 n2 c2, .slice b2 m2 d2] W fun e w' => ∃ ad n cc, e = .returned (.slice ad n cc) ∧ (n ≤ 2097152 ∧ Row w' ad n (joinOf ins jns)) ∧ Below W.heap.size W w') := fun W hW =>
        (implSetJoin_any a2 b2 n2 c2 m2 d2 ins jns W (R2.out.below hW.1) (Q2.out.below hW.1) (by omega) (by omega)).mono fun e w' h => by
          obtain ⟨v, he, ho, hb⟩ := h
          obtain ⟨ad, cc, rfl⟩ := ho.form
          exact ⟨ad, _, cc, he, ⟨by have := join_len ins jns; omega, ho.row.2.2.2⟩, hb⟩
      have CJ2 : Hid (∀ W, Box2 w W w.heap.size (w.heap.size + 1) 31 (iaC st it a2 n2 c2 a3 n3 c3 a4 n4 c4 a5 n5 c5) (iaC su iu b2 m2 d2 b3 m3 d3 b4 m4 d4 b5 m5 d5) → Calls Tryz.prog 58 #[.slice a3 n3 c3, .slice b3 m3 d3] W fun e w' => ∃ ad n cc, e = .returned (.slice ad n cc) ∧ (n ≤ 2097152 ∧ Row w' ad n (joinOf outs juts)) ∧ Below W.heap.size W w') := fun W hW =>
        (implSetJoin_any a3 b3 n3 c3 m3 d3 outs juts W (R3.out.below hW.1) (Q3.out.below hW.1) (by omega) (by omega)).mono fun e w' h => by
          obtain ⟨v, he, ho, hb⟩ := h
          obtain ⟨ad, cc, rfl⟩ := ho.form
          exact ⟨ad, _, cc, he, ⟨by have := join_len outs juts; omega, ho.row.2.2.2⟩, hb⟩
      have CJ3 : Hid (∀ W, Box2 w W w.heap.size (w.heap.size + 1) 31 (iaC st it a2 n2 c2 a3 n3 c3 a4 n4 c4 a5 n5 c5) (iaC su iu b2 m2 d2 b3 m3 d3 b4 m4 d4 b5 m5 d5) → Calls Tryz.prog 58 #[.slice a4 n4 c4, .slice b4 m4 d4] W fun e w' => ∃ ad n cc, e = .returned (.slice ad n cc) ∧ (n ≤ 2097152 ∧ Row w' ad n (joinOf hids jids)) ∧ Below W.heap.size W w') := fun W hW =>
        (implSetJoin_any a4 b4 n4 c4 m4 d4 hids jids W (R4.out.below hW.1) (Q4.out.below hW.1) (by omega) (by omega)).mono fun e w' h => by
          obtain ⟨v, he, ho, hb⟩ := h
          obtain ⟨ad, cc, rfl⟩ := ho.form
          exact ⟨ad, _, cc, he, ⟨by have := join_len hids jids; omega, ho.row.2.2.2⟩, hb⟩
      have CL1 : Hid (∀ W ad n cc, (n ≤ 2097152 ∧ Row W ad n (joinOf ins jns)) → Row W sa sn sh → Calls Tryz.prog 57 #[.slice ad n cc, .slice sa sn sc] W fun e w' => ∃ xa xn xc, e = .returned (.slice xa xn xc) ∧ Owns w' W.heap.size (.slice xa xn xc) (lessOf (joinOf ins jns) sh).length (lessOf (joinOf ins jns) sh) ∧ Below W.heap.size W w') := fun W ad n cc h1 h2 => (implSetLess_any ad sa n cc sn sc (joinOf ins jns) sh W h1.2 h2 (by omega) (by omega)).mono fun e w' h => by
          obtain ⟨v, he, ho, hb⟩ := h
          obtain ⟨xa, xc, rfl⟩ := ho.form
          exact ⟨xa, _, xc, he, ho, hb⟩
      have CL2 : Hid (∀ W ad n cc, (n ≤ 2097152 ∧ Row W ad n (joinOf outs juts)) → Row W sa sn sh → Calls Tryz.prog 57 #[.slice ad n cc, .slice sa sn sc] W fun e w' => ∃ xa xn xc, e = .returned (.slice xa xn xc) ∧ Owns w' W.heap.size (.slice xa xn xc) (lessOf (joinOf outs juts) sh).length (lessOf (joinOf outs juts) sh) ∧ Below W.heap.size W w') := fun W ad n cc h1 h2 => (implSetLess_any ad sa n cc sn sc (joinOf outs juts) sh W h1.2 h2 (by omega) (by omega)).mono fun e w' h => by
          obtain ⟨v, he, ho, hb⟩ := h
          obtain ⟨xa, xc, rfl⟩ := ho.form
          exact ⟨xa, _, xc, he, ho, hb⟩
      have CL3 : Hid (∀ W ad n cc, (n ≤ 2097152 ∧ Row W ad n (joinOf hids jids)) → Row W sa sn sh → Calls Tryz.prog 58 #[.slice ad n cc, .slice sa sn sc] W fun e w' => ∃ xa xn xc, e = .returned (.slice xa xn xc) ∧ Owns w' W.heap.size (.slice xa xn xc) (joinOf (joinOf hids jids) sh).length (joinOf (joinOf hids jids) sh) ∧ Below W.heap.size W w') := fun W ad n cc h1 h2 => (implSetJoin_any ad sa n cc sn sc (joinOf hids jids) sh W h1.2 h2 (by omega) (by omega)).mono fun e w' h => by
          obtain ⟨v, he, ho, hb⟩ := h
          obtain ⟨xa, xc, rfl⟩ := ho.form
          exact ⟨xa, _, xc, he, ho, hb⟩
      have T8 := Lib.hid T6.out.drew
      have P8 : Hid (Owns w6.drew w.heap.size (.slice sa sn sc) sn sh) := P6.out
      have O8 : Hid (OwnsS 48 w6.drew (w.heap.size + 3) (.slice a5v l5 c5v) l5 (sortS LL)) := O6.out
      have SD8 := S6.out.drew
      clear ho hg hrow SE T5 O5 P5 S6 T6 O6 P6 hini
      go_wp2_with fail
      refine wp_region_held_drew (S := fun w' => Box2 w w' w.heap.size (w.heap.size + 1) 31 (iaC st it a2 n2 c2 a3 n3 c3 a4 n4 c4 a5 n5 c5) (iaC su iu b2 m2 d2 b3 m3 d3 b4 m4 d4 b5 m5 d5)) (by kernel_rfl) SD8 (fun hHeld => ?_)
      change wpAnyH _ _ _ _ _ 37 (Array.replicate 37 false) _ _
      refine take_op 0 32 (.pointer (some ⟨w.heap.size, 0, none⟩)) (fuel := 36) rfl rfl (by kernel_rfl) (by kernel_rfl) (by kernel_rfl) (fun _ _ _ h => h) (by rfl) (fun w hSw => by go_simp) hHeld ?_
      simp only [Act.put, List.setIfInBounds_toArray, List.set_cons_zero, List.set_cons_succ]
      refine take_op 1 33 (.int .i64 st) (fuel := 35) rfl rfl (by kernel_rfl) (by kernel_rfl) (by kernel_rfl) (fun _ _ _ h => h) (by rfl) (fun w hSw => by have m := hSw.2.1.cell (j := 0) (u := .int .i64 st) rfl; go_simp) hHeld ?_
      simp only [Act.put, List.setIfInBounds_toArray, List.set_cons_zero, List.set_cons_succ]
      refine take_op 2 34 (.pointer (some ⟨w.heap.size + 1, 0, none⟩)) (fuel := 34) rfl rfl (by kernel_rfl) (by kernel_rfl) (by kernel_rfl) (fun _ _ _ h => h) (by rfl) (fun w hSw => by go_simp) hHeld ?_
      simp only [Act.put, List.setIfInBounds_toArray, List.set_cons_zero, List.set_cons_succ]
      refine take_op 3 35 (.int .i64 su) (fuel := 33) rfl rfl (by kernel_rfl) (by kernel_rfl) (by kernel_rfl) (fun _ _ _ h => h) (by rfl) (fun w hSw => by have m := hSw.2.2.cell (j := 0) (u := .int .i64 su) rfl; go_simp) hHeld ?_
      simp only [Act.put, List.setIfInBounds_toArray, List.set_cons_zero, List.set_cons_succ]
      refine take_op 4 36 (.int .i64 (st * su)) (fuel := 32) rfl rfl (by kernel_rfl) (by kernel_rfl) (by kernel_rfl) (fun _ _ _ h => h) (by rfl) (fun w hSw => by go_simp; exact Go.IntWalk.i64_in _ (by have h1 := HMUL; omega)) hHeld ?_
      simp only [Act.put, List.setIfInBounds_toArray, List.set_cons_zero, List.set_cons_succ]
      refine take_yields 5 37 (.agg #[.int .i64 su, .int .i64 iu, .slice b2 m2 d2, .slice b3 m3 d3, .slice b4 m4 d4, .slice b5 m5 d5]) (fuel := 31) rfl rfl (by kernel_rfl) (by kernel_rfl) (by kernel_rfl) (fun _ _ _ h => h) (yieldsIf_load_mid (by rfl) _ _ rfl (w.heap.size + 1) 0 rfl (iaC su iu b2 m2 d2 b3 m3 d3 b4 m4 d4 b5 m5 d5).toList _ (fun w hw => hw.2.2.range) Tryz.underlying31 rfl (by kernel_rfl)) hHeld ?_
      simp only [Act.put, List.setIfInBounds_toArray, List.set_cons_zero, List.set_cons_succ]
      refine take_op 6 38 (.pointer (some ⟨w.heap.size, 1, none⟩)) (fuel := 30) rfl rfl (by kernel_rfl) (by kernel_rfl) (by kernel_rfl) (fun _ _ _ h => h) (by rfl) (fun w hSw => by go_simp) hHeld ?_
      simp only [Act.put, List.setIfInBounds_toArray, List.set_cons_zero, List.set_cons_succ]
      refine take_op 7 39 (.int .i64 it) (fuel := 29) rfl rfl (by kernel_rfl) (by kernel_rfl) (by kernel_rfl) (fun _ _ _ h => h) (by rfl) (fun w hSw => by have m := hSw.2.1.cell (j := 1) (u := .int .i64 it) rfl; go_simp) hHeld ?_
      simp only [Act.put, List.setIfInBounds_toArray, List.set_cons_zero, List.set_cons_succ]
      refine take_op 8 40 (.pointer (some ⟨w.heap.size + 1, 1, none⟩)) (fuel := 28) rfl rfl (by kernel_rfl) (by kernel_rfl) (by kernel_rfl) (fun _ _ _ h => h) (by rfl) (fun w hSw => by go_simp) hHeld ?_
      simp only [Act.put, List.setIfInBounds_toArray, List.set_cons_zero, List.set_cons_succ]
      refine take_op 9 41 (.int .i64 iu) (fuel := 27) rfl rfl (by kernel_rfl) (by kernel_rfl) (by kernel_rfl) (fun _ _ _ h => h) (by rfl) (fun w hSw => by have m := hSw.2.2.cell (j := 1) (u := .int .i64 iu) rfl; go_simp) hHeld ?_
      simp only [Act.put, List.setIfInBounds_toArray, List.set_cons_zero, List.set_cons_succ]
      refine take_op 10 42 (.agg #[.int .i64 it, .int .i64 iu]) (fuel := 26) rfl rfl (by kernel_rfl) (by kernel_rfl) (by kernel_rfl) (fun _ _ _ h => h) (by rfl) (fun w hSw => by go_simp) hHeld ?_
      simp only [Act.put, List.setIfInBounds_toArray, List.set_cons_zero, List.set_cons_succ]
      refine take_op 12 44 (.pointer (some ⟨w.heap.size, 2, none⟩)) (fuel := 25) rfl rfl (by kernel_rfl) (by kernel_rfl) (by kernel_rfl) (fun _ _ _ h => h) (by rfl) (fun w hSw => by go_simp) hHeld ?_
      simp only [Act.put, List.setIfInBounds_toArray, List.set_cons_zero, List.set_cons_succ]
      refine take_op 13 45 (.slice a2 n2 c2) (fuel := 24) rfl rfl (by kernel_rfl) (by kernel_rfl) (by kernel_rfl) (fun _ _ _ h => h) (by rfl) (fun w hSw => by have m := hSw.2.1.cell (j := 2) (u := .slice a2 n2 c2) rfl; go_simp) hHeld ?_
      simp only [Act.put, List.setIfInBounds_toArray, List.set_cons_zero, List.set_cons_succ]
      refine take_op 14 46 (.pointer (some ⟨w.heap.size + 1, 2, none⟩)) (fuel := 23) rfl rfl (by kernel_rfl) (by kernel_rfl) (by kernel_rfl) (fun _ _ _ h => h) (by rfl) (fun w hSw => by go_simp) hHeld ?_
      simp only [Act.put, List.setIfInBounds_toArray, List.set_cons_zero, List.set_cons_succ]
      refine take_op 15 47 (.slice b2 m2 d2) (fuel := 22) rfl rfl (by kernel_rfl) (by kernel_rfl) (by kernel_rfl) (fun _ _ _ h => h) (by rfl) (fun w hSw => by have m := hSw.2.2.cell (j := 2) (u := .slice b2 m2 d2) rfl; go_simp) hHeld ?_
      simp only [Act.put, List.setIfInBounds_toArray, List.set_cons_zero, List.set_cons_succ]
      refine take_op 17 49 (.slice sa sn sc) (fuel := 21) rfl rfl (by kernel_rfl) (by kernel_rfl) (by kernel_rfl) (fun _ _ _ h => h) (by rfl) (fun w hSw => by go_simp) hHeld ?_
      simp only [Act.put, List.setIfInBounds_toArray, List.set_cons_zero, List.set_cons_succ]
      refine take_op 19 51 (.pointer (some ⟨w.heap.size, 3, none⟩)) (fuel := 20) rfl rfl (by kernel_rfl) (by kernel_rfl) (by kernel_rfl) (fun _ _ _ h => h) (by rfl) (fun w hSw => by go_simp) hHeld ?_
      simp only [Act.put, List.setIfInBounds_toArray, List.set_cons_zero, List.set_cons_succ]
      refine take_op 20 52 (.slice a3 n3 c3) (fuel := 19) rfl rfl (by kernel_rfl) (by kernel_rfl) (by kernel_rfl) (fun _ _ _ h => h) (by rfl) (fun w hSw => by have m := hSw.2.1.cell (j := 3) (u := .slice a3 n3 c3) rfl; go_simp) hHeld ?_
      simp only [Act.put, List.setIfInBounds_toArray, List.set_cons_zero, List.set_cons_succ]
      refine take_op 21 53 (.pointer (some ⟨w.heap.size + 1, 3, none⟩)) (fuel := 18) rfl rfl (by kernel_rfl) (by kernel_rfl) (by kernel_rfl) (fun _ _ _ h => h) (by rfl) (fun w hSw => by go_simp) hHeld ?_
      simp only [Act.put, List.setIfInBounds_toArray, List.set_cons_zero, List.set_cons_succ]
      refine take_op 22 54 (.slice b3 m3 d3) (fuel := 17) rfl rfl (by kernel_rfl) (by kernel_rfl) (by kernel_rfl) (fun _ _ _ h => h) (by rfl) (fun w hSw => by have m := hSw.2.2.cell (j := 3) (u := .slice b3 m3 d3) rfl; go_simp) hHeld ?_
      simp only [Act.put, List.setIfInBounds_toArray, List.set_cons_zero, List.set_cons_succ]
      refine take_op 24 56 (.slice sa sn sc) (fuel := 16) rfl rfl (by kernel_rfl) (by kernel_rfl) (by kernel_rfl) (fun _ _ _ h => h) (by rfl) (fun w hSw => by go_simp) hHeld ?_
      simp only [Act.put, List.setIfInBounds_toArray, List.set_cons_zero, List.set_cons_succ]
      refine take_op 26 58 (.pointer (some ⟨w.heap.size, 4, none⟩)) (fuel := 15) rfl rfl (by kernel_rfl) (by kernel_rfl) (by kernel_rfl) (fun _ _ _ h => h) (by rfl) (fun w hSw => by go_simp) hHeld ?_
      simp only [Act.put, List.setIfInBounds_toArray, List.set_cons_zero, List.set_cons_succ]
      refine take_op 27 59 (.slice a4 n4 c4) (fuel := 14) rfl rfl (by kernel_rfl) (by kernel_rfl) (by kernel_rfl) (fun _ _ _ h => h) (by rfl) (fun w hSw => by have m := hSw.2.1.cell (j := 4) (u := .slice a4 n4 c4) rfl; go_simp) hHeld ?_
      simp only [Act.put, List.setIfInBounds_toArray, List.set_cons_zero, List.set_cons_succ]
      refine take_op 28 60 (.pointer (some ⟨w.heap.size + 1, 4, none⟩)) (fuel := 13) rfl rfl (by kernel_rfl) (by kernel_rfl) (by kernel_rfl) (fun _ _ _ h => h) (by rfl) (fun w hSw => by go_simp) hHeld ?_
      simp only [Act.put, List.setIfInBounds_toArray, List.set_cons_zero, List.set_cons_succ]
      refine take_op 29 61 (.slice b4 m4 d4) (fuel := 12) rfl rfl (by kernel_rfl) (by kernel_rfl) (by kernel_rfl) (fun _ _ _ h => h) (by rfl) (fun w hSw => by have m := hSw.2.2.cell (j := 4) (u := .slice b4 m4 d4) rfl; go_simp) hHeld ?_
      simp only [Act.put, List.setIfInBounds_toArray, List.set_cons_zero, List.set_cons_succ]
      refine take_op 31 63 (.slice sa sn sc) (fuel := 11) rfl rfl (by kernel_rfl) (by kernel_rfl) (by kernel_rfl) (fun _ _ _ h => h) (by rfl) (fun w hSw => by go_simp) hHeld ?_
      simp only [Act.put, List.setIfInBounds_toArray, List.set_cons_zero, List.set_cons_succ]
      refine take_op 33 65 (.slice a5v l5 c5v) (fuel := 10) rfl rfl (by kernel_rfl) (by kernel_rfl) (by kernel_rfl) (fun _ _ _ h => h) (by rfl) (fun w hSw => by go_simp) hHeld ?_
      simp only [Act.put, List.setIfInBounds_toArray, List.set_cons_zero, List.set_cons_succ]
      refine wpAnyH_ready (rs := [11]) (fuel := 9) (by kernel_rfl) (by simp) ?_
      refine AllReadyH.cons rfl (fun K hK => ?_) AllReadyH.nil
      go_simp
      refine (CST.out _).mono ?_
      rintro e w9 ⟨rfl, hb⟩
      have hz9 : w6.heap.size ≤ w9.heap.size := hb.size
      have T9 := Lib.hid (T8.out.below hb)
      have P9 := Lib.hid (P8.out.below hb)
      have O9 := Lib.hid (O8.out.below hb)
      have hS9 := hHeld.below hb
      clear hb  T8 P8 O8
      go_wp2_with fail
      refine hK.out _ _ hS9 (fun hHeld => ?_)
      clear hK K
      refine wpAnyH_ready (rs := [16]) (fuel := 8) (by kernel_rfl) (by simp) ?_
      refine AllReadyH.cons rfl (fun K hK => ?_) AllReadyH.nil
      go_simp
      refine (CJ1.out _ hHeld).mono ?_
      rintro e w10 ⟨j1a, j1n, j1c, rfl, ho, hb⟩
      have hz10 := hb.size
      have T10 := Lib.hid (T9.out.below hb)
      have P10 := Lib.hid (P9.out.below hb)
      have O10 := Lib.hid (O9.out.below hb)
      have hlow := T10.out.lt
      have J10 := Lib.hid ho
      have hS10 := hHeld.below hb
      clear hb ho T9 P9 O9
      go_wp2_with fail
      refine hK.out _ _ hS10 (fun hHeld => ?_)
      clear hK K
      refine wpAnyH_ready (rs := [18]) (fuel := 7) (by kernel_rfl) (by simp) ?_
      refine AllReadyH.cons rfl (fun K hK => ?_) AllReadyH.nil
      go_simp
      refine (CL1.out _ _ _ _ J10.out P10.out.row.2.2.2).mono ?_
      rintro e w11 ⟨x2a, x2n, x2c, rfl, ho, hb⟩
      have hz11 := hb.size
      have T11 := Lib.hid (T10.out.below hb)
      have P11 := Lib.hid (P10.out.below hb)
      have O11 := Lib.hid (O10.out.below hb)
      have X211 := Lib.hid ho
      have bdX2 := Lib.hid ho.lt
      have hS11 := hHeld.below hb
      clear hb ho T10 P10 O10
      go_wp2_with fail
      refine hK.out _ _ hS11 (fun hHeld => ?_)
      clear hK K
      refine wpAnyH_ready (rs := [23]) (fuel := 6) (by kernel_rfl) (by simp) ?_
      refine AllReadyH.cons rfl (fun K hK => ?_) AllReadyH.nil
      go_simp
      refine (CJ2.out _ hHeld).mono ?_
      rintro e w12 ⟨j2a, j2n, j2c, rfl, ho, hb⟩
      have hz12 := hb.size
      have T12 := Lib.hid (T11.out.below hb)
      have P12 := Lib.hid (P11.out.below hb)
      have O12 := Lib.hid (O11.out.below hb)
      have X212 := Lib.hid (X211.out.below hb)
      have J12 := Lib.hid ho
      have hS12 := hHeld.below hb
      clear hb ho T11 P11 O11 X211
      go_wp2_with fail
      refine hK.out _ _ hS12 (fun hHeld => ?_)
      clear hK K
      refine wpAnyH_ready (rs := [25]) (fuel := 5) (by kernel_rfl) (by simp) ?_
      refine AllReadyH.cons rfl (fun K hK => ?_) AllReadyH.nil
      go_simp
      refine (CL2.out _ _ _ _ J12.out P12.out.row.2.2.2).mono ?_
      rintro e w13 ⟨x3a, x3n, x3c, rfl, ho, hb⟩
      have hz13 := hb.size
      have T13 := Lib.hid (T12.out.below hb)
      have P13 := Lib.hid (P12.out.below hb)
      have O13 := Lib.hid (O12.out.below hb)
      have X213 := Lib.hid (X212.out.below hb)
      have X313 := Lib.hid ho
      have bdX3 := Lib.hid ho.lt
      have hS13 := hHeld.below hb
      clear hb ho T12 P12 O12 X212
      go_wp2_with fail
      refine hK.out _ _ hS13 (fun hHeld => ?_)
      clear hK K
      refine wpAnyH_ready (rs := [30]) (fuel := 4) (by kernel_rfl) (by simp) ?_
      refine AllReadyH.cons rfl (fun K hK => ?_) AllReadyH.nil
      go_simp
      refine (CJ3.out _ hHeld).mono ?_
      rintro e w14 ⟨j3a, j3n, j3c, rfl, ho, hb⟩
      have hz14 := hb.size
      have T14 := Lib.hid (T13.out.below hb)
      have P14 := Lib.hid (P13.out.below hb)
      have O14 := Lib.hid (O13.out.below hb)
      have X214 := Lib.hid (X213.out.below hb)
      have X314 := Lib.hid (X313.out.below hb)
      have J14 := Lib.hid ho
      have hS14 := hHeld.below hb
      clear hb ho T13 P13 O13 X213 X313
      go_wp2_with fail
      refine hK.out _ _ hS14 (fun hHeld => ?_)
      clear hK K
      refine wpAnyH_ready (rs := [32]) (fuel := 3) (by kernel_rfl) (by simp) ?_
      refine AllReadyH.cons rfl (fun K hK => ?_) AllReadyH.nil
      go_simp
      refine (CL3.out _ _ _ _ J14.out P14.out.row.2.2.2).mono ?_
      rintro e w15 ⟨x4a, x4n, x4c, rfl, ho, hb⟩
      have hz15 := hb.size
      have T15 := Lib.hid (T14.out.below hb)
      have P15 := Lib.hid (P14.out.below hb)
      have O15 := Lib.hid (O14.out.below hb)
      have X215 := Lib.hid (X214.out.below hb)
      have X315 := Lib.hid (X314.out.below hb)
      have X415 := Lib.hid ho
      have bdX4 := Lib.hid ho.lt
      have hS15 := hHeld.below hb
      clear hb ho T14 P14 O14 X214 X314
      have hone : (#[.int .i64 (st * su), .int .i64 ini, .slice x2a x2n x2c, .slice x3a x3n x3c, .slice x4a x4n x4c, .slice a5v l5 c5v] : Array Value).all (·.oneCell') = true := by
        exact ia_one _ _ _ _ _ _ _ _ _ _ _ _ _ _
      have t9 : Hid (w15.there (w.heap.size + 2) 0 6) := T15.out.there rfl
      have g9 := Lib.hid (grown_setCells (w.heap.size + 2) [.int .i64 (st * su), .int .i64 ini, .slice x2a x2n x2c, .slice x3a x3n x3c, .slice x4a x4n x4c, .slice a5v l5 c5v] 0 w15)
      have rg9 : Hid ((w15.setCells (w.heap.size + 2) 0 [.int .i64 (st * su), .int .i64 ini, .slice x2a x2n x2c, .slice x3a x3n x3c, .slice x4a x4n x4c, .slice a5v l5 c5v]).rangeAt (w.heap.size + 2) 0 [.int .i64 (st * su), .int .i64 ini, .slice x2a x2n x2c, .slice x3a x3n x3c, .slice x4a x4n x4c, .slice a5v l5 c5v]) := World.rangeAt_setCells_same w15 (w.heap.size + 2) 0 [.int .i64 (st * su), .int .i64 ini, .slice x2a x2n x2c, .slice x3a x3n x3c, .slice x4a x4n x4c, .slice a5v l5 c5v] (by simpa using t9.out)
      go_wp2_with fail
      refine hK.out _ _ hS15 (fun hHeld => ?_)
      clear hK K
      refine take_op 34 66 (.agg #[.int .i64 (st * su), .int .i64 ini, .slice x2a x2n x2c, .slice x3a x3n x3c, .slice x4a x4n x4c, .slice a5v l5 c5v]) (fuel := 2) rfl rfl (by kernel_rfl) (by kernel_rfl) (by kernel_rfl) (fun _ _ _ h => h) (by rfl) (fun w hSw => by go_simp) hHeld ?_
      simp only [Act.put, List.setIfInBounds_toArray, List.set_cons_zero, List.set_cons_succ]
      refine wpAnyH_ready (rs := [35]) (fuel := 1) (by kernel_rfl) (by simp) ?_
      refine AllReadyH.cons rfl (fun K hK => ?_) AllReadyH.nil
      rw [if_pos (by rfl)]
      refine wp_store_mid _ _ _ rfl (w.heap.size + 2) 0 #[.int .i64 (st * su), .int .i64 ini, .slice x2a x2n x2c, .slice x3a x3n x3c, .slice x4a x4n x4c, .slice a5v l5 c5v] rfl rfl t9.out (by kernel_rfl) hone ?_
      refine hK.out _ _ ⟨hHeld.1.grown g9.out hHeld.1.size (fun q hq => by have h1 := Option.some.inj hq; omega), hHeld.2.1.grown g9.out (fun e => by have h1 := Option.some.inj e; omega), hHeld.2.2.grown g9.out (fun e => by have h1 := Option.some.inj e; omega)⟩ (fun hHeld => ?_)
      clear hK K
      refine take_op 36 5 (.bool true) (fuel := 0) rfl rfl (by kernel_rfl) (by kernel_rfl) (by kernel_rfl) (fun _ _ _ h => h) (by rfl) (fun w hSw => by go_simp) hHeld ?_
      simp only [Act.put, List.setIfInBounds_toArray]
      refine wpAnyH_done (by kernel_rfl) ?_ _
      have rg := rg9.out
      have HC0 := rg 0 _ rfl
      have HC1 := rg 1 _ rfl
      have HC2 := rg 2 _ rfl
      have HC3 := rg 3 _ rfl
      have HC4 := rg 4 _ rfl
      have HC5 := rg 5 _ rfl
      simp only [Nat.zero_add] at HC0 HC1 HC2 HC3 HC4 HC5
      have y2 := X215.out.keep g9.out (fun k hk e => by have h1 := (bdX2.out k hk).1; have h2 := Option.some.inj e; have h3 := hlow; omega)
      have y3 := X315.out.keep g9.out (fun k hk e => by have h1 := (bdX3.out k hk).1; have h2 := Option.some.inj e; have h3 := hlow; omega)
      have y4 := X415.out.keep g9.out (fun k hk e => by have h1 := (bdX4.out k hk).1; have h2 := Option.some.inj e; have h3 := hlow; omega)
      have y5 := O15.out.keep g9.out (fun k hk e => by have h1 := (bO.out k hk).1; have h2 := Option.some.inj e; omega)
      go_wp2_with fail
      refine bodyPost_ret (v := .tuple #[.agg #[.int .i64 (st * su), .int .i64 ini, .slice x2a x2n x2c, .slice x3a x3n x3c, .slice x4a x4n x4c, .slice a5v l5 c5v], .bool true]) ?_ rfl ⟨.agg #[.int .i64 (st * su), .int .i64 ini, .slice x2a x2n x2c, .slice x3a x3n x3c, .slice x4a x4n x4c, .slice a5v l5 c5v], rfl, ?_, hHeld.1⟩
      · simp [results, Tryz.results24, go_sem, HC0, HC1, HC2, HC3, HC4, HC5]
      · rw [HIT.out]
        refine ⟨_, _, _, _, rfl, y2.mono (by omega), y3.mono (by omega), y4.mono (by omega), ?_, ?_, ?_, ?_⟩
        · have e := y5.length
          rw [e]
          exact y5.mono (by omega)
        · intro b hb
          have h2 := bdX2.out b hb
          exact ⟨fun h => by have := bdX3.out b h; omega, fun h => by have := bdX4.out b h; omega, fun h => by have := bO.out b h; omega⟩
        · intro b hb
          have h2 := bdX3.out b hb
          exact ⟨fun h => by have := bdX4.out b h; omega, fun h => by have := bO.out b h; omega⟩
        · intro b hb h
          have h2 := bdX4.out b hb
          have := bO.out b h
          omega
    · have hd : decide ((l5 : Int) > 400) = true := by simp; omega
      have HOF : ok = false := by rw [HB_.out]; simp [hlen]
      subst HOF
      have THX : Hid (w5.there (w.heap.size + 2) 0 6) := T5.out.there rfl
      have RGX : Hid ((w5.setCells (w.heap.size + 2) 0 [.int .i64 0, .int .i64 0, .slice none 0 0, .slice none 0 0, .slice none 0 0, .slice none 0 0]).rangeAt (w.heap.size + 2) 0 [.int .i64 0, .int .i64 0, .slice none 0 0, .slice none 0 0, .slice none 0 0, .slice none 0 0]) := World.rangeAt_setCells_same w5 (w.heap.size + 2) 0 [.int .i64 0, .int .i64 0, .slice none 0 0, .slice none 0 0, .slice none 0 0, .slice none 0 0] (by simpa using THX.out)
      have GX := Lib.hid (grown_setCells (w.heap.size + 2) [.int .i64 0, .int .i64 0, .slice none 0 0, .slice none 0 0, .slice none 0 0, .slice none 0 0] 0 w5)
      have BX : Hid (Below w.heap.size w (w5.setCells (w.heap.size + 2) 0 [.int .i64 0, .int .i64 0, .slice none 0 0, .slice none 0 0, .slice none 0 0, .slice none 0 0])) := SE.out.1.grown GX.out SE.out.1.size (fun q hq => by have h1 := Option.some.inj hq; omega)
      have HIN : Hid (I = noIa) := HI.out
      go_wp2_with (refine wpList_store_mid rfl _ _ _ rfl (w.heap.size + 2) 0 #[.int .i64 0, .int .i64 0, .slice none 0 0, .slice none 0 0, .slice none 0 0, .slice none 0 0] rfl rfl THX.out (by kernel_rfl) (ia_one _ _ _ _ _ _ _ _ _ _ _ _ _ _) ?_)
      refine bodyPost_ret (v := .tuple #[.agg #[.int .i64 0, .int .i64 0, .slice none 0 0, .slice none 0 0, .slice none 0 0, .slice none 0 0], .bool false]) ?_ rfl ⟨.agg #[.int .i64 0, .int .i64 0, .slice none 0 0, .slice none 0 0, .slice none 0 0, .slice none 0 0], rfl, by rw [HIN.out]; exact own_none _ _, BX.out⟩
      have HC0 := RGX.out 0 _ rfl
      have HC1 := RGX.out 1 _ rfl
      have HC2 := RGX.out 2 _ rfl
      have HC3 := RGX.out 3 _ rfl
      have HC4 := RGX.out 4 _ rfl
      have HC5 := RGX.out 5 _ rfl
      simp only [Nat.zero_add] at HC0 HC1 HC2 HC3 HC4 HC5
      simp [results, Tryz.results24, go_sem, HC0, HC1, HC2, HC3, HC4, HC5]

end Go.Proofs.YtdbgjgeglgipiaaGreat

/-
  The contract of the program's Clashes. Conditions: the lists have at most 2^20 elements.
-/
namespace Go.Proofs.YtdbgjgeglgipiaaGreat
open Go.RowKit

theorem allP_done (C : Int → Int → Bool) (m k : Nat) : allP (doneS C m k 0) m k = allP C m k :=
  allP_congr (fun p q hp hq => by
    unfold doneS
    rw [decide_eq_true (p := (0 ≤ (p : Int) ∧ (p : Int) < (k : Int) ∧ 0 ≤ (q : Int) ∧ (q : Int) < (m : Int))) (by omega)]
    simp)

set_option maxRecDepth 20000 in
set_option maxHeartbeats 3200000 in
theorem implClashes_any (a b : IaD) (v u : Value) (w : World) (h : IaRow w a v) (k : IaRow w b u) (fa : Small a) (fb : Small b) :
    Calls Tryz.prog 27 #[v, u] w (RowRes w w.heap.size (clashesOf a b)) := by
  have CF : Hid (∀ W, Below w.heap.size w W → Calls Tryz.prog 49 #[v, u] W fun e w' => e = .returned (.bool (fitB a b)) ∧ Below W.heap.size W w') := fun W hW => implFit_any a b v u W (h.below hW) (k.below hW) fa fb
  have CP0 : Hid (iaOkB a = true → iaOkB b = true → ∀ W, Below w.heap.size w W → Calls Tryz.prog 62 #[v, u] W fun e w' => ∃ M n, e = .returned (.map (some M)) ∧ MapB w' M n (doneS (clashB a b) b.states.toNat a.states.toNat 0) ∧ W.heap.size ≤ M ∧ n ≤ 1600 ∧ Below W.heap.size W w') := fun h1 h2 W hW => clashingPairs_any a b v u W (h.below hW) (k.below hW) fa fb h1 h2
  obtain ⟨q, hq⟩ : ∃ q, q = fitB a b := ⟨_, rfl⟩
  have HOK : Hid (q = true → iaOkB a = true ∧ iaOkB b = true ∧ a.states * b.states ≤ 40) := fun e => fitB_ok (by rw [← hq]; exact e)
  obtain ⟨C, hC⟩ : ∃ C, C = clashB a b := ⟨_, rfl⟩
  obtain ⟨R, hR⟩ : ∃ R, R = clashesOf a b := ⟨_, rfl⟩
  have HR : Hid (R = if q then (allP C b.states.toNat a.states.toNat).map (stOf b.states) else []) := by unfold Hid; rw [hR, hC, hq]; rfl
  rw [← hR]
  rw [← hC] at CP0
  rw [← hq] at CF
  clear hq hC hR
  obtain ⟨a2, n2, c2, a3, n3, c3, a4, n4, c4, a5, n5, c5, rfl, r2, r3, r4, r5⟩ := h
  obtain ⟨b2, m2, d2, b3, m3, d3, b4, m4, d4, b5, m5, d5, rfl, q2, q3, q4, q5⟩ := k
  obtain ⟨st, it, ins, outs, hids, steps⟩ := a
  obtain ⟨su, iu, jns, juts, jids, jteps⟩ := b
  obtain ⟨f2, f3, f4, f5⟩ := fa
  obtain ⟨g2, g3, g4, g5⟩ := fb
  simp only at r2 r3 r4 r5 q2 q3 q4 q5 f2 f3 f4 f5 g2 g3 g4 g5
  have HA : Hid (∀ W, Below w.heap.size w W → IaRow W ⟨st, it, ins, outs, hids, steps⟩ (.agg #[.int .i64 st, .int .i64 it, .slice a2 n2 c2, .slice a3 n3 c3, .slice a4 n4 c4, .slice a5 n5 c5])) := fun W hW => IaRow.below ⟨a2, n2, c2, a3, n3, c3, a4, n4, c4, a5, n5, c5, rfl, r2, r3, r4, r5⟩ hW
  have HB : Hid (∀ W, Below w.heap.size w W → IaRow W ⟨su, iu, jns, juts, jids, jteps⟩ (.agg #[.int .i64 su, .int .i64 iu, .slice b2 m2 d2, .slice b3 m3 d3, .slice b4 m4 d4, .slice b5 m5 d5])) := fun W hW => IaRow.below ⟨b2, m2, d2, b3, m3, d3, b4, m4, d4, b5, m5, d5, rfl, q2, q3, q4, q5⟩ hW
  have S0 := Lib.hid (Box2.start w (iaC st it a2 n2 c2 a3 n3 c3 a4 n4 c4 a5 n5 c5) (iaC su iu b2 m2 d2 b3 m3 d3 b4 m4 d4 b5 m5 d5) 31)
  clear HA HB r2 r3 r4 r5 q2 q3 q4 q5 f2 f3 f4 f5 g2 g3 g4 g5
  simp only at HOK HR CP0
  have ca0 := S0.out.2.1.cell (j := 0) (u := .int .i64 st) rfl
  have ca1 := S0.out.2.1.cell (j := 1) (u := .int .i64 it) rfl
  have ca2 := S0.out.2.1.cell (j := 2) (u := .slice a2 n2 c2) rfl
  have ca3 := S0.out.2.1.cell (j := 3) (u := .slice a3 n3 c3) rfl
  have ca4 := S0.out.2.1.cell (j := 4) (u := .slice a4 n4 c4) rfl
  have ca5 := S0.out.2.1.cell (j := 5) (u := .slice a5 n5 c5) rfl
  have cb0 := S0.out.2.2.cell (j := 0) (u := .int .i64 su) rfl
  have cb1 := S0.out.2.2.cell (j := 1) (u := .int .i64 iu) rfl
  have cb2 := S0.out.2.2.cell (j := 2) (u := .slice b2 m2 d2) rfl
  have cb3 := S0.out.2.2.cell (j := 3) (u := .slice b3 m3 d3) rfl
  have cb4 := S0.out.2.2.cell (j := 4) (u := .slice b4 m4 d4) rfl
  have cb5 := S0.out.2.2.cell (j := 5) (u := .slice b5 m5 d5) rfl
  go_enter Tryz.func27, Tryz.ntmps27
  go_wp2_with fail
  clear ca0 ca1 ca2 ca3 ca4 ca5 cb0 cb1 cb2 cb3 cb4 cb5
  refine (CF.out _ S0.out.1).mono ?_
  rintro e w1 ⟨rfl, hb⟩
  have S1 := Lib.hid (S0.out.below hb)
  clear hb S0
  cases q with
  | false =>
    have HE : Hid (R = []) := by rw [HR.out]; rfl
    go_wp2_with fail
    go_ret
    rw [HE.out]
    exact ⟨_, rfl, World.ownsRow_nil _ _ _ _, S1.out.1⟩
  | true =>
    have hok := HOK.out rfl
    have hsA := iaOk_states hok.1
    have hsB := iaOk_states hok.2.1
    simp only at hsA hsB
    have HE : Hid (R = (allP C su.toNat st.toNat).map (stOf su)) := HR.out
    have CP := Lib.hid (CP0.out hok.1 hok.2.1)
    have CI : Hid (∀ W M n, MapB W M n (doneS C su.toNat st.toNat 0) → Below w.heap.size w W → Calls Tryz.prog 61 #[.agg #[.int .i64 st, .int .i64 it, .slice a2 n2 c2, .slice a3 n3 c3, .slice a4 n4 c4, .slice a5 n5 c5], .agg #[.int .i64 su, .int .i64 iu, .slice b2 m2 d2, .slice b3 m3 d3, .slice b4 m4 d4, .slice b5 m5 d5], .map (some M)] W (RowRes W W.heap.size R)) := fun W M n hM _ => by
      have := inOrder_any st it (.slice a2 n2 c2) (.slice a3 n3 c3) (.slice a4 n4 c4) (.slice a5 n5 c5) su iu (.slice b2 m2 d2) (.slice b3 m3 d3) (.slice b4 m4 d4) (.slice b5 m5 d5) M n _ W hM (by omega) (by omega)
      rw [allP_done, ← HE.out] at this
      exact this
    clear HR CF CP0 HOK hok HE
    go_wp2_with fail
    have SD := S1.out.drew
    clear S1
    refine wp_region_held_drew (S := fun w' => Box2 w w' w.heap.size (w.heap.size + 1) 31 (iaC st it a2 n2 c2 a3 n3 c3 a4 n4 c4 a5 n5 c5) (iaC su iu b2 m2 d2 b3 m3 d3 b4 m4 d4 b5 m5 d5)) (by kernel_rfl) SD (fun hHeld => ?_)
    change wpAnyH _ _ _ _ _ 7 (Array.replicate 7 false) _ _
    refine take_yields 0 9 (.agg #[.int .i64 st, .int .i64 it, .slice a2 n2 c2, .slice a3 n3 c3, .slice a4 n4 c4, .slice a5 n5 c5]) (fuel := 6) rfl rfl (by kernel_rfl) (by kernel_rfl) (by kernel_rfl) (fun _ _ _ h => h) (yieldsIf_load_mid (by rfl) _ _ rfl (w.heap.size) 0 rfl (iaC st it a2 n2 c2 a3 n3 c3 a4 n4 c4 a5 n5 c5).toList _ (fun w hw => hw.2.1.range) Tryz.underlying31 rfl (by kernel_rfl)) hHeld ?_
    simp only [Act.put, List.setIfInBounds_toArray, List.set_cons_zero, List.set_cons_succ]
    refine take_yields 1 10 (.agg #[.int .i64 su, .int .i64 iu, .slice b2 m2 d2, .slice b3 m3 d3, .slice b4 m4 d4, .slice b5 m5 d5]) (fuel := 5) rfl rfl (by kernel_rfl) (by kernel_rfl) (by kernel_rfl) (fun _ _ _ h => h) (yieldsIf_load_mid (by rfl) _ _ rfl (w.heap.size + 1) 0 rfl (iaC su iu b2 m2 d2 b3 m3 d3 b4 m4 d4 b5 m5 d5).toList _ (fun w hw => hw.2.2.range) Tryz.underlying31 rfl (by kernel_rfl)) hHeld ?_
    simp only [Act.put, List.setIfInBounds_toArray, List.set_cons_zero, List.set_cons_succ]
    refine take_yields 2 11 (.agg #[.int .i64 st, .int .i64 it, .slice a2 n2 c2, .slice a3 n3 c3, .slice a4 n4 c4, .slice a5 n5 c5]) (fuel := 4) rfl rfl (by kernel_rfl) (by kernel_rfl) (by kernel_rfl) (fun _ _ _ h => h) (yieldsIf_load_mid (by rfl) _ _ rfl (w.heap.size) 0 rfl (iaC st it a2 n2 c2 a3 n3 c3 a4 n4 c4 a5 n5 c5).toList _ (fun w hw => hw.2.1.range) Tryz.underlying31 rfl (by kernel_rfl)) hHeld ?_
    simp only [Act.put, List.setIfInBounds_toArray, List.set_cons_zero, List.set_cons_succ]
    refine take_yields 3 12 (.agg #[.int .i64 su, .int .i64 iu, .slice b2 m2 d2, .slice b3 m3 d3, .slice b4 m4 d4, .slice b5 m5 d5]) (fuel := 3) rfl rfl (by kernel_rfl) (by kernel_rfl) (by kernel_rfl) (fun _ _ _ h => h) (yieldsIf_load_mid (by rfl) _ _ rfl (w.heap.size + 1) 0 rfl (iaC su iu b2 m2 d2 b3 m3 d3 b4 m4 d4 b5 m5 d5).toList _ (fun w hw => hw.2.2.range) Tryz.underlying31 rfl (by kernel_rfl)) hHeld ?_
    simp only [Act.put, List.setIfInBounds_toArray, List.set_cons_zero, List.set_cons_succ]
    refine wpAnyH_ready (rs := [4]) (fuel := 2) (by kernel_rfl) (by simp) ?_
    refine AllReadyH.cons rfl (fun K hK => ?_) AllReadyH.nil
    go_simp
    refine (CP.out _ hHeld.1).mono ?_
    rintro e w2 ⟨M, n, rfl, hm, hM, hn, hb⟩
    have HM := Lib.hid hm
    have hS2 := hHeld.below hb
    clear hm hb
    go_wp2_with fail
    refine hK.out _ _ hS2 (fun hHeld => ?_)
    clear hK K
    refine wpAnyH_ready (rs := [5]) (fuel := 1) (by kernel_rfl) (by simp) ?_
    refine AllReadyH.cons rfl (fun K hK => ?_) AllReadyH.nil
    go_simp
    refine (CI.out _ M n HM.out hHeld.1).mono ?_
    rintro e w3 ⟨v3, rfl, ho, hb⟩
    have HO := Lib.hid (ho.mono (base := w.heap.size) hHeld.1.size)
    have hS3 := hHeld.below hb
    clear ho hb
    go_wp2_with fail
    refine hK.out _ _ hS3 (fun hHeld => ?_)
    clear hK K
    refine take_op 6 4 (v3) (fuel := 0) rfl rfl (by kernel_rfl) (by kernel_rfl) (by kernel_rfl) (fun _ _ _ h => h) (by rfl) (fun w hSw => by go_simp) hHeld ?_
    simp only [Act.put, List.setIfInBounds_toArray, List.set_cons_zero, List.set_cons_succ]
    refine wpAnyH_done (by kernel_rfl) ?_ _

    go_wp2_with fail
    go_ret
    exact ⟨_, rfl, HO.out, hHeld.1⟩

end Go.Proofs.YtdbgjgeglgipiaaGreat

/-
  The contract of the model's WitnessOk. Conditions: lists of at most 2^20 elements.
-/
namespace Go.Proofs.YtdbgjgeglgipiaaGreat
open Go.RowKit

theorem WitS.drew {w W : World} {A B C : Array Value} {p : Nat} {t : IaD} (h : WitS w W A B C p t) : WitS w W.drew A B C p t := ⟨h.1.drew, h.2.1, h.2.2.below (Below.refl _ _).drew⟩

theorem mem_take_step {ss : List St} {k : Nat} (hk : k < ss.length) (x : St) : decide (x ∈ ss.take (k + 1)) = (decide (x ∈ ss.take k) || decide (ss[k] = x)) := by
  rw [List.take_succ_eq_append_getElem hk, Bool.eq_iff_iff]
  simp only [decide_eq_true_eq, Bool.or_eq_true, List.mem_append, List.mem_singleton]
  exact ⟨fun h => h.imp id Eq.symm, fun h => h.imp id Eq.symm⟩

set_option maxRecDepth 20000 in
set_option maxHeartbeats 12800000 in
theorem specWitnessOk_any (a b : IaD) (v u : Value) (sa : Option Addr) (sn sc : Nat) (ws : List St) (w : World) (h : IaRow w a v) (k : IaRow w b u) (fa : Small a) (fb : Small b) (rs : RowS w sa sn ws) (hsn : sn ≤ 1048576) :
    Calls Tryz.prog 7 #[v, u, .slice sa sn sc] w fun e w' => e = .returned (.bool (witB a b ws)) ∧ Below w.heap.size w w' := by
  obtain ⟨q, hq⟩ : ∃ q, q = prodB a b := ⟨_, rfl⟩
  obtain ⟨⟨tst, tit, tins, touts, thids, tsteps⟩, hT⟩ : ∃ t, t = prodIa a b := ⟨_, rfl⟩
  have HOK : Hid (q = true → iaOkB ⟨tst, tit, tins, touts, thids, tsteps⟩ = true) := fun e => by
    have h1 : prodB a b = true := by rw [← hq]; exact e
    rw [hT]
    unfold prodIa
    rw [if_pos h1]
    exact prod_ok h1
  obtain ⟨x2, x3, x4, x5⟩ := prod_small fa fb
  rw [← hT] at x2 x3 x4 x5
  simp only at x2 x3 x4 x5
  have CPr : Hid (∀ W, Below w.heap.size w W → Calls Tryz.prog 19 #[v, u] W fun e w' => ∃ (xa2 : Option Addr) (xc2 : Nat) (xa3 : Option Addr) (xc3 : Nat) (xa4 : Option Addr) (xc4 : Nat) (xa5 : Option Addr) (xc5 : Nat), e = .returned (.tuple #[.agg #[.int .i64 tst, .int .i64 tit, .slice xa2 tins.length xc2, .slice xa3 touts.length xc3, .slice xa4 thids.length xc4, .slice xa5 tsteps.length xc5], .bool q]) ∧ IaHigh w' W.heap.size ⟨tst, tit, tins, touts, thids, tsteps⟩ (.agg #[.int .i64 tst, .int .i64 tit, .slice xa2 tins.length xc2, .slice xa3 touts.length xc3, .slice xa4 thids.length xc4, .slice xa5 tsteps.length xc5]) ∧ Below W.heap.size W w') := fun W hW => by
    rw [hq, hT]
    refine (specProduct_any a b v u W (h.below hW) (k.below hW) fa fb).mono fun e w' ⟨v', he, ho, hb⟩ => ?_
    rw [← hT] at ho ⊢

    obtain ⟨_, _, _, _, _, _, _, _, rfl, _⟩ := ho.rowOf
    exact ⟨_, _, _, _, _, _, _, _, he, ho, hb⟩
  obtain ⟨CL, hCL⟩ : ∃ l, l = clashesOf a b := ⟨_, rfl⟩
  have hcl : CL.length ≤ 2097152 := by rw [hCL]; exact clashes_len2w
  obtain ⟨r, hr⟩ : ∃ r, r = witB a b ws := ⟨_, rfl⟩
  rw [← hr]
  have HR : Hid (r = (q && witR ⟨tst, tit, tins, touts, thids, tsteps⟩ CL ws tit)) := by
    unfold Hid
    rw [hr, hq, hCL]
    unfold witB
    rw [← hT]
  have HL := Lib.hid rs.1
  have RW : Hid (∀ W i, Below w.heap.size w W → i < sn → ∃ (x : St) (b0 off : Nat), ws[i]? = some x ∧ sa = some ⟨b0, off, none⟩ ∧ W.cell? ⟨b0, off + i * 3, none⟩ = some (.int .i64 x.1) ∧ W.cell? ⟨b0, off + i * 3 + 1, none⟩ = some (.int .i64 x.2.1) ∧ W.cell? ⟨b0, off + i * 3 + 2, none⟩ = some (.int .i64 x.2.2)) := fun W i hW hi => by
    obtain ⟨b0, off, e, hlt, hc⟩ := rs.2 (by omega)
    have hix : i < ws.length := by rw [rs.1]; exact hi
    obtain ⟨c0, c1, c2⟩ := hc i ws[i] (List.getElem?_eq_getElem hix)
    exact ⟨ws[i], b0, off, List.getElem?_eq_getElem hix, e, (hW.cell (p := ⟨b0, off + i * 3, none⟩) hlt).trans c0, (hW.cell (p := ⟨b0, off + i * 3 + 1, none⟩) hlt).trans c1, (hW.cell (p := ⟨b0, off + i * 3 + 2, none⟩) hlt).trans c2⟩
  clear hr hq hT rs
  obtain ⟨a2, n2, c2, a3, n3, c3, a4, n4, c4, a5, n5, c5, rfl, r2, r3, r4, r5⟩ := h
  obtain ⟨b2, m2, d2, b3, m3, d3, b4, m4, d4, b5, m5, d5, rfl, q2, q3, q4, q5⟩ := k
  obtain ⟨st, it, ins, outs, hids, steps⟩ := a
  obtain ⟨su, iu, jns, juts, jids, jteps⟩ := b
  have HA : Hid (∀ W, Below w.heap.size w W → IaRow W ⟨st, it, ins, outs, hids, steps⟩ (.agg #[.int .i64 st, .int .i64 it, .slice a2 n2 c2, .slice a3 n3 c3, .slice a4 n4 c4, .slice a5 n5 c5])) := fun W hW => IaRow.below ⟨a2, n2, c2, a3, n3, c3, a4, n4, c4, a5, n5, c5, rfl, r2, r3, r4, r5⟩ hW
  have HB : Hid (∀ W, Below w.heap.size w W → IaRow W ⟨su, iu, jns, juts, jids, jteps⟩ (.agg #[.int .i64 su, .int .i64 iu, .slice b2 m2 d2, .slice b3 m3 d3, .slice b4 m4 d4, .slice b5 m5 d5])) := fun W hW => IaRow.below ⟨b2, m2, d2, b3, m3, d3, b4, m4, d4, b5, m5, d5, rfl, q2, q3, q4, q5⟩ hW
  have S0 := Lib.hid (Box2.start w (iaC st it a2 n2 c2 a3 n3 c3 a4 n4 c4 a5 n5 c5) (iaC su iu b2 m2 d2 b3 m3 d3 b4 m4 d4 b5 m5 d5) 31)
  have CC : Hid (∀ W, Below w.heap.size w W → Calls Tryz.prog 21 #[.agg #[.int .i64 st, .int .i64 it, .slice a2 n2 c2, .slice a3 n3 c3, .slice a4 n4 c4, .slice a5 n5 c5], .agg #[.int .i64 su, .int .i64 iu, .slice b2 m2 d2, .slice b3 m3 d3, .slice b4 m4 d4, .slice b5 m5 d5]] W fun e w' => ∃ ad cc, e = .returned (.slice ad CL.length cc) ∧ Row w' ad CL.length CL ∧ Below W.heap.size W w') := fun W hW => by
    rw [hCL]
    refine (specClashes_any ⟨st, it, ins, outs, hids, steps⟩ ⟨su, iu, jns, juts, jids, jteps⟩ _ _ W (HA.out W hW) (HB.out W hW) fa fb).mono fun e w' h => ?_
    obtain ⟨g, cc, he, ho, hb⟩ := h
    exact ⟨_, cc, he, ho.row.2.2.2, hb⟩
  have CH : Hid (∀ W ad cc z, Row W ad CL.length CL → Calls Tryz.prog 20 #[.slice ad CL.length cc, .int .i64 z] W fun e w' => e = .returned (.bool (hasB CL z)) ∧ Below W.heap.size W w') := fun W ad cc z hr => (specSetHas_any ad CL.length cc z CL W hr (by omega)).mono fun e w' h => ⟨h.1, by rw [h.2]; exact Below.refl _ _⟩
  clear hCL r2 r3 r4 r5 q2 q3 q4 q5 fa fb
  have ca0 := S0.out.2.1.cell (j := 0) (u := .int .i64 st) rfl
  have ca1 := S0.out.2.1.cell (j := 1) (u := .int .i64 it) rfl
  have ca2 := S0.out.2.1.cell (j := 2) (u := .slice a2 n2 c2) rfl
  have ca3 := S0.out.2.1.cell (j := 3) (u := .slice a3 n3 c3) rfl
  have ca4 := S0.out.2.1.cell (j := 4) (u := .slice a4 n4 c4) rfl
  have ca5 := S0.out.2.1.cell (j := 5) (u := .slice a5 n5 c5) rfl
  have cb0 := S0.out.2.2.cell (j := 0) (u := .int .i64 su) rfl
  have cb1 := S0.out.2.2.cell (j := 1) (u := .int .i64 iu) rfl
  have cb2 := S0.out.2.2.cell (j := 2) (u := .slice b2 m2 d2) rfl
  have cb3 := S0.out.2.2.cell (j := 3) (u := .slice b3 m3 d3) rfl
  have cb4 := S0.out.2.2.cell (j := 4) (u := .slice b4 m4 d4) rfl
  have cb5 := S0.out.2.2.cell (j := 5) (u := .slice b5 m5 d5) rfl
  go_enter Tryz.func7, Tryz.ntmps7
  go_wp2_with fail
  clear ca0 ca1 ca2 ca3 ca4 ca5 cb0 cb1 cb2 cb3 cb4 cb5
  refine (CPr.out _ S0.out.1).mono ?_
  rintro e w4 ⟨xa2, xc2, xa3, xc3, xa4, xc4, xa5, xc5, rfl, hT4, hb⟩
  have bx := (Below.refl w4.heap.size w4).alloc (Nat.le_refl _) (.cells #[.int .i64 tst, .int .i64 tit, .slice xa2 tins.length xc2, .slice xa3 touts.length xc3, .slice xa4 thids.length xc4, .slice xa5 tsteps.length xc5] 31)
  have S4 := S0.out.below hb
  have S5 : Hid (WitS w (w4.alloc (.cells #[.int .i64 tst, .int .i64 tit, .slice xa2 tins.length xc2, .slice xa3 touts.length xc3, .slice xa4 thids.length xc4, .slice xa5 tsteps.length xc5] 31)) (iaC st it a2 n2 c2 a3 n3 c3 a4 n4 c4 a5 n5 c5) (iaC su iu b2 m2 d2 b3 m3 d3 b4 m4 d4 b5 m5 d5) (iaC tst tit xa2 tins.length xc2 xa3 touts.length xc3 xa4 thids.length xc4 xa5 tsteps.length xc5) w4.heap.size ⟨tst, tit, tins, touts, thids, tsteps⟩) := ⟨S4.below bx, VarIs.new w4 #[.int .i64 tst, .int .i64 tit, .slice xa2 tins.length xc2, .slice xa3 touts.length xc3, .slice xa4 thids.length xc4, .slice xa5 tsteps.length xc5] 31 rfl, hT4.rowIa.below bx⟩
  obtain ⟨w5, hw5⟩ : ∃ x, x = w4.alloc (.cells #[.int .i64 tst, .int .i64 tit, .slice xa2 tins.length xc2, .slice xa3 touts.length xc3, .slice xa4 thids.length xc4, .slice xa5 tsteps.length xc5] 31) := ⟨_, rfl⟩
  clear hb hT4 bx S4 S0 CPr HA HB
  cases q with
  | false =>
    have hr0 : r = false := by rw [HR.out]; rfl
    clear HR
    subst hr0
    simp only
    go_wp2_with fail
    go_ret
    exact ⟨rfl, S5.out.1.1⟩
  | true =>
    have HOK2 := Lib.hid (HOK.out rfl)
    have HR2 : Hid (witR ⟨tst, tit, tins, touts, thids, tsteps⟩ CL (ws.drop 0) tit = r) := by
      rw [HR.out, List.drop_zero]
      rfl
    clear HR HOK
    have mt := S5.out.2.1.cell (j := 1) (u := .int .i64 tit) rfl
    simp only
    go_wp2_with fail
    clear mt
    rw [← hw5] at S5 ⊢
    clear hw5
    have CX0 : Hid (∀ W (x1 : Int), IaRow W ⟨tst, tit, tins, touts, thids, tsteps⟩ (.agg #[.int .i64 tst, .int .i64 tit, .slice xa2 tins.length xc2, .slice xa3 touts.length xc3, .slice xa4 thids.length xc4, .slice xa5 tsteps.length xc5]) → Calls Tryz.prog 20 #[.slice xa2 tins.length xc2, .int .i64 x1] W fun e w' => e = .returned (.bool (hasB tins x1)) ∧ Below W.heap.size W w') := fun W x1 hr => by
      obtain ⟨y2, k2, e2, y3, k3, e3, y4, k4, e4, y5, k5, e5, e, r2, r3, r4, r5⟩ := hr
      simp only [Value.agg.injEq, Array.mk.injEq, List.cons.injEq, Value.slice.injEq, and_true, true_and] at e
      obtain ⟨⟨rfl, rfl, rfl⟩, ⟨rfl, rfl, rfl⟩, ⟨rfl, rfl, rfl⟩, rfl, rfl, rfl⟩ := e
      exact (specSetHas_any xa2 tins.length xc2 x1 tins W r2 (by omega)).mono fun e w' h => ⟨h.1, by rw [h.2]; exact Below.refl _ _⟩
    have RY0 : Hid (∀ W i, IaRow W ⟨tst, tit, tins, touts, thids, tsteps⟩ (.agg #[.int .i64 tst, .int .i64 tit, .slice xa2 tins.length xc2, .slice xa3 touts.length xc3, .slice xa4 thids.length xc4, .slice xa5 tsteps.length xc5]) → i < tsteps.length → ∃ (y : St) (bq oq : Nat), tsteps[i]? = some y ∧ xa5 = some ⟨bq, oq, none⟩ ∧ W.rangeAt bq (oq + i * 3) [.int .i64 y.1, .int .i64 y.2.1, .int .i64 y.2.2]) := fun W i hr hi => by
      obtain ⟨y2, k2, e2, y3, k3, e3, y4, k4, e4, y5, k5, e5, e, r2, r3, r4, r5⟩ := hr
      simp only [Value.agg.injEq, Array.mk.injEq, List.cons.injEq, Value.slice.injEq, and_true, true_and] at e
      obtain ⟨⟨rfl, rfl, rfl⟩, ⟨rfl, rfl, rfl⟩, ⟨rfl, rfl, rfl⟩, rfl, rfl, rfl⟩ := e
      obtain ⟨bq, oq, e, hlt, hc⟩ := r5.2 (by omega)
      obtain ⟨c0, c1, c2⟩ := hc i tsteps[i] (List.getElem?_eq_getElem hi)
      exact ⟨tsteps[i], bq, oq, List.getElem?_eq_getElem hi, e, rangeAt_step c0 c1 c2⟩
    have hts : tsteps.length ≤ 400 := iaOk_len HOK2.out
    clear HOK2
    go_loopw [9, 10] (fun av iv wr => ∃ (k : Nat) (z : Int), k ≤ sn ∧ av = .int .i64 z ∧ iv = .int .i64 (k : Int) ∧ Hid (witR ⟨tst, tit, tins, touts, thids, tsteps⟩ CL (ws.drop k) z = r) ∧ Hid (WitS w wr (iaC st it a2 n2 c2 a3 n3 c3 a4 n4 c4 a5 n5 c5) (iaC su iu b2 m2 d2 b3 m3 d3 b4 m4 d4 b5 m5 d5) (iaC tst tit xa2 tins.length xc2 xa3 touts.length xc3 xa4 thids.length xc4 xa5 tsteps.length xc5) w4.heap.size ⟨tst, tit, tins, touts, thids, tsteps⟩)) (fun _ iv _ => sn - (intOf iv).toNat)
    case atStart => exact ⟨0, tit, Nat.zero_le _, rfl, rfl, HR2.out, S5.out⟩
    case round =>
      clear S5 HR2
      obtain ⟨k, z, hk, rfl, rfl, HZ, HS⟩ := hrel
      obtain ⟨wo, hwo⟩ : ∃ z, z = wr := ⟨_, rfl⟩
      subst hwo
      by_cases hlt : k < sn
      · obtain ⟨x, b0, off, hx, rfl, g0, g1, g2⟩ := RW.out wo k HS.out.1.1 hlt
        have RX0 : ∀ W, Below w.heap.size w W → W.rangeAt b0 (off + k * 3) [.int .i64 x.1, .int .i64 x.2.1, .int .i64 x.2.2] := fun W hW => by
          obtain ⟨x', b0', off', hx', e', g0', g1', g2'⟩ := RW.out W k hW hlt
          simp only [Option.some.injEq, Addr.mk.injEq, and_true] at e'
          obtain ⟨rfl, rfl⟩ := e'
          obtain rfl : x' = x := Option.some.inj (hx'.symm.trans hx)
          exact rangeAt_step g0' g1' g2'
        have hkx : k < ws.length := by rw [HL.out]; exact hlt
        have hx2 : ws[k] = x := Option.some.inj ((List.getElem?_eq_getElem hkx).symm.trans hx)
        obtain ⟨x0, x1, xx2⟩ := x
        simp only at g0 g1 g2 RX0
        have RX := Lib.hid RX0
        have HST : Hid (r = (decide (x0 = z) && unaskedB ⟨tst, tit, tins, touts, thids, tsteps⟩ (x0, x1, xx2) && witR ⟨tst, tit, tins, touts, thids, tsteps⟩ CL (ws.drop (k + 1)) xx2)) := by
          have h1 := HZ.out
          rw [witR_step hkx, hx2] at h1
          exact h1.symm
        obtain ⟨p, hp⟩ : ∃ p, p = hasB tins x1 := ⟨_, rfl⟩
        have CX : Hid (∀ W, IaRow W ⟨tst, tit, tins, touts, thids, tsteps⟩ (.agg #[.int .i64 tst, .int .i64 tit, .slice xa2 tins.length xc2, .slice xa3 touts.length xc3, .slice xa4 thids.length xc4, .slice xa5 tsteps.length xc5]) → Calls Tryz.prog 20 #[.slice xa2 tins.length xc2, .int .i64 x1] W fun e w' => e = .returned (.bool p) ∧ Below W.heap.size W w') := fun W hr => by
          rw [hp]
          exact CX0.out W x1 hr
        have HP := Lib.hid hp
        have i1 : (0 : Int) ≤ (k : Int) := by omega
        have i2 : (k : Int) < (sn : Int) := by omega
        clear hx hx2 HZ hkx RX0 hp g0 g1 g2
        have mq5 := HS.out.2.1.cell (j := 5) (u := .slice xa5 tsteps.length xc5) rfl
        go_wp2_with fail
        clear mq5
        go_loopw [11, 12] (fun sv kv wr => ∃ (k' : Nat), k' ≤ tsteps.length ∧ kv = .int .i64 (k' : Int) ∧ sv = .bool (decide ((x0, x1, xx2) ∈ tsteps.take k')) ∧ Hid (WitS w wr (iaC st it a2 n2 c2 a3 n3 c3 a4 n4 c4 a5 n5 c5) (iaC su iu b2 m2 d2 b3 m3 d3 b4 m4 d4 b5 m5 d5) (iaC tst tit xa2 tins.length xc2 xa3 touts.length xc3 xa4 thids.length xc4 xa5 tsteps.length xc5) w4.heap.size ⟨tst, tit, tins, touts, thids, tsteps⟩)) (fun _ kv _ => tsteps.length - (intOf kv).toNat)
        case atStart => exact ⟨0, Nat.zero_le _, rfl, by simp, HS.out⟩
        case round =>
          clear HS
          obtain ⟨k', hk', rfl, rfl, HS⟩ := hrel
          by_cases hlt' : k' < tsteps.length
          · obtain ⟨y, bq, oq, hy, rfl, hry⟩ := RY0.out wr k' HS.out.2.2 hlt'
            have hy2 : tsteps[k'] = y := Option.some.inj ((List.getElem?_eq_getElem hlt').symm.trans hy)
            have HM := Lib.hid (mem_take_step hlt' (x0, x1, xx2))
            rw [hy2] at HM
            obtain ⟨y0, y1, y2⟩ := y
            obtain ⟨s, hs⟩ : ∃ s, s = decide ((x0, x1, xx2) ∈ tsteps.take k') := ⟨_, rfl⟩
            rw [← hs] at HM ⊢
            have j1 : (0 : Int) ≤ (k' : Int) := by omega
            have j2 : (k' : Int) < (tsteps.length : Int) := by omega
            have SD : (WitS w wr.drew (iaC st it a2 n2 c2 a3 n3 c3 a4 n4 c4 a5 n5 c5) (iaC su iu b2 m2 d2 b3 m3 d3 b4 m4 d4 b5 m5 d5) (iaC tst tit xa2 tins.length xc2 xa3 touts.length xc3 xa4 thids.length xc4 (some ⟨bq, oq, none⟩) tsteps.length xc5) w4.heap.size ⟨tst, tit, tins, touts, thids, tsteps⟩) ∧ wr.drew.rangeAt bq (oq + k' * 3) [.int .i64 y0, .int .i64 y1, .int .i64 y2] := ⟨HS.out.drew, hry⟩
            have mq5 := HS.out.2.1.cell (j := 5) (u := .slice (some ⟨bq, oq, none⟩) tsteps.length xc5) rfl
            clear hs hy hy2 hry
            go_wp2_with fail
            clear mq5 HS
            cases s with
            | true =>
              refine wp_region_tf (S := fun w' => (WitS w w' (iaC st it a2 n2 c2 a3 n3 c3 a4 n4 c4 a5 n5 c5) (iaC su iu b2 m2 d2 b3 m3 d3 b4 m4 d4 b5 m5 d5) (iaC tst tit xa2 tins.length xc2 xa3 touts.length xc3 xa4 thids.length xc4 (some ⟨bq, oq, none⟩) tsteps.length xc5) w4.heap.size ⟨tst, tit, tins, touts, thids, tsteps⟩) ∧ w'.rangeAt bq (oq + k' * 3) [.int .i64 y0, .int .i64 y1, .int .i64 y2]) 14 (by kernel_rfl) (by kernel_rfl) (by kernel_rfl) SD (fun hHeld => ?_)
              refine fast_move 0 36 (.bool true) (.tmp 11) (fuel := 13) rfl rfl (by kernel_rfl) (by kernel_rfl) (by kernel_rfl) (fun _ _ _ h => h) (by kernel_rfl) (by kernel_rfl) (by first | exact Or.inl rfl | exact Or.inr rfl) hHeld (tf 1 14) (by kernel_rfl) (fun K hK => ?_)
              go_big_move
              refine hK.out _ ?_
              clear hK K
              refine fast_move 1 37 (.bool true) (.tmp 36) (fuel := 12) rfl rfl (by kernel_rfl) (by kernel_rfl) (by kernel_rfl) (fun _ _ _ h => h) (by kernel_rfl) (by kernel_rfl) (by first | exact Or.inl rfl | exact Or.inr rfl) hHeld (tf 3 14) (by kernel_rfl) (fun K hK => ?_)
              go_big_move
              refine hK.out _ ?_
              clear hK K
              refine fast_skip 2 38 (fuel := 11) rfl rfl (by kernel_rfl) (by kernel_rfl) (by kernel_rfl) (fun _ _ _ h => h) (by kernel_rfl) hHeld (tf 7 14) (by kernel_rfl) (fun K hK => ?_)
              go_big_move
              refine hK.out _ ?_
              clear hK K
              refine fast_skip 3 39 (fuel := 10) rfl rfl (by kernel_rfl) (by kernel_rfl) (by kernel_rfl) (fun _ _ _ h => h) (by kernel_rfl) hHeld (tf 15 14) (by kernel_rfl) (fun K hK => ?_)
              go_big_move
              refine hK.out _ ?_
              clear hK K
              refine fast_skip 4 40 (fuel := 9) rfl rfl (by kernel_rfl) (by kernel_rfl) (by kernel_rfl) (fun _ _ _ h => h) (by kernel_rfl) hHeld (tf 31 14) (by kernel_rfl) (fun K hK => ?_)
              go_big_move
              refine hK.out _ ?_
              clear hK K
              refine fast_skip 5 41 (fuel := 8) rfl rfl (by kernel_rfl) (by kernel_rfl) (by kernel_rfl) (fun _ _ _ h => h) (by kernel_rfl) hHeld (tf 63 14) (by kernel_rfl) (fun K hK => ?_)
              go_big_move
              refine hK.out _ ?_
              clear hK K
              refine fast_skip 6 42 (fuel := 7) rfl rfl (by kernel_rfl) (by kernel_rfl) (by kernel_rfl) (fun _ _ _ h => h) (by kernel_rfl) hHeld (tf 127 14) (by kernel_rfl) (fun K hK => ?_)
              go_big_move
              refine hK.out _ ?_
              clear hK K
              refine fast_skip 7 43 (fuel := 6) rfl rfl (by kernel_rfl) (by kernel_rfl) (by kernel_rfl) (fun _ _ _ h => h) (by kernel_rfl) hHeld (tf 255 14) (by kernel_rfl) (fun K hK => ?_)
              go_big_move
              refine hK.out _ ?_
              clear hK K
              refine fast_skip 8 44 (fuel := 5) rfl rfl (by kernel_rfl) (by kernel_rfl) (by kernel_rfl) (fun _ _ _ h => h) (by kernel_rfl) hHeld (tf 511 14) (by kernel_rfl) (fun K hK => ?_)
              go_big_move
              refine hK.out _ ?_
              clear hK K
              refine fast_skip 9 45 (fuel := 4) rfl rfl (by kernel_rfl) (by kernel_rfl) (by kernel_rfl) (fun _ _ _ h => h) (by kernel_rfl) hHeld (tf 1023 14) (by kernel_rfl) (fun K hK => ?_)
              go_big_move
              refine hK.out _ ?_
              clear hK K
              refine fast_skip 10 46 (fuel := 3) rfl rfl (by kernel_rfl) (by kernel_rfl) (by kernel_rfl) (fun _ _ _ h => h) (by kernel_rfl) hHeld (tf 2047 14) (by kernel_rfl) (fun K hK => ?_)
              go_big_move
              refine hK.out _ ?_
              clear hK K
              refine fast_skip 11 47 (fuel := 2) rfl rfl (by kernel_rfl) (by kernel_rfl) (by kernel_rfl) (fun _ _ _ h => h) (by kernel_rfl) hHeld (tf 4095 14) (by kernel_rfl) (fun K hK => ?_)
              go_big_move
              refine hK.out _ ?_
              clear hK K
              refine fast2 12 48 (.bool true) (.tmp 37) (.bool true) (.tmp 47) (undef) (fuel := 1) rfl rfl (by kernel_rfl) (by kernel_rfl) (by kernel_rfl) (fun _ _ _ h => h) (by kernel_rfl) (by kernel_rfl) (by kernel_rfl) (fun ρ hr0 hr1 hc w hSw => by simp [go_sem, hc, hr0, hr1]) hHeld (tf 8191 14) (by kernel_rfl) (fun K hK => ?_)
              go_big_move
              refine hK.out _ ?_
              clear hK K
              refine fast_move 13 11 (.bool true) (.tmp 48) (fuel := 0) rfl rfl (by kernel_rfl) (by kernel_rfl) (by kernel_rfl) (fun _ _ _ h => h) (by kernel_rfl) (by kernel_rfl) (by first | exact Or.inl rfl | exact Or.inr rfl) hHeld (tf 16383 14) (by kernel_rfl) (fun K hK => ?_)
              go_big_move
              refine hK.out _ ?_
              clear hK K
              refine wpAnyH_done (by kernel_rfl) ?_ _
              have HS2 := Lib.hid hHeld.1
              have HM2 : Hid (decide ((x0, x1, xx2) ∈ tsteps.take (k' + 1)) = true) := by rw [HM.out]; rfl
              clear hHeld SD HM
              go_wp2_with fail
              go_roundw
              case rel => exact ⟨k' + 1, by omega, by go_num, by rw [HM2.out], HS2.out⟩
              case measure => simp [intOf]; omega
            | false =>
              by_cases hyx : (y0 = x0 ∧ y1 = x1 ∧ y2 = xx2)
              · have HM2 : Hid (decide ((x0, x1, xx2) ∈ tsteps.take (k' + 1)) = true) := by
                  rw [HM.out, hyx.1, hyx.2.1, hyx.2.2]
                  simp [Hid]
                refine wp_region_tf (S := fun w' => (WitS w w' (iaC st it a2 n2 c2 a3 n3 c3 a4 n4 c4 a5 n5 c5) (iaC su iu b2 m2 d2 b3 m3 d3 b4 m4 d4 b5 m5 d5) (iaC tst tit xa2 tins.length xc2 xa3 touts.length xc3 xa4 thids.length xc4 (some ⟨bq, oq, none⟩) tsteps.length xc5) w4.heap.size ⟨tst, tit, tins, touts, thids, tsteps⟩) ∧ w'.rangeAt bq (oq + k' * 3) [.int .i64 y0, .int .i64 y1, .int .i64 y2]) 14 (by kernel_rfl) (by kernel_rfl) (by kernel_rfl) SD (fun hHeld => ?_)
                refine fast_move 0 36 (.bool false) (.tmp 11) (fuel := 13) rfl rfl (by kernel_rfl) (by kernel_rfl) (by kernel_rfl) (fun _ _ _ h => h) (by kernel_rfl) (by kernel_rfl) (by first | exact Or.inl rfl | exact Or.inr rfl) hHeld (tf 1 14) (by kernel_rfl) (fun K hK => ?_)
                go_big_move
                refine hK.out _ ?_
                clear hK K
                refine fast_move 1 37 (.bool false) (.tmp 36) (fuel := 12) rfl rfl (by kernel_rfl) (by kernel_rfl) (by kernel_rfl) (fun _ _ _ h => h) (by kernel_rfl) (by kernel_rfl) (by first | exact Or.inl rfl | exact Or.inr rfl) hHeld (tf 3 14) (by kernel_rfl) (fun K hK => ?_)
                go_big_move
                refine hK.out _ ?_
                clear hK K
                refine fast1 2 38 (.pointer (some ⟨w4.heap.size, 5, none⟩)) (.tmp 7) (.pointer (some ⟨w4.heap.size, 0, none⟩)) (fuel := 11) rfl rfl (by kernel_rfl) (by kernel_rfl) (by kernel_rfl) (fun _ _ _ h => h) (by kernel_rfl) (by kernel_rfl) (fun ρ hr0 _ w hSw => by simp [go_sem, hr0]) hHeld (tf 7 14) (by kernel_rfl) (fun K hK => ?_)
                go_big_move
                refine hK.out _ ?_
                clear hK K
                refine fast1 3 39 (.slice (some ⟨bq, oq, none⟩) tsteps.length xc5) (.tmp 38) (.pointer (some ⟨w4.heap.size, 5, none⟩)) (fuel := 10) rfl rfl (by kernel_rfl) (by kernel_rfl) (by kernel_rfl) (fun _ _ _ h => h) (by kernel_rfl) (by kernel_rfl) (fun ρ hr0 _ w hSw => by have m := hSw.1.2.1.cell (j := 5) (u := .slice (some ⟨bq, oq, none⟩) tsteps.length xc5) rfl; simp [go_sem, hr0, m]) hHeld (tf 15 14) (by kernel_rfl) (fun K hK => ?_)
                go_big_move
                refine hK.out _ ?_
                clear hK K
                refine fast_move 4 40 (Value.int .i64 (k' : Int)) (.tmp 12) (fuel := 9) rfl rfl (by kernel_rfl) (by kernel_rfl) (by kernel_rfl) (fun _ _ _ h => h) (by kernel_rfl) (by kernel_rfl) (by first | exact Or.inl rfl | exact Or.inr rfl) hHeld (tf 31 14) (by kernel_rfl) (fun K hK => ?_)
                go_big_move
                refine hK.out _ ?_
                clear hK K
                refine fast2 5 41 (.pointer (some ⟨bq, oq + k' * 3, none⟩)) (.tmp 39) (.slice (some ⟨bq, oq, none⟩) tsteps.length xc5) (.tmp 40) (Value.int .i64 (k' : Int)) (fuel := 8) rfl rfl (by kernel_rfl) (by kernel_rfl) (by kernel_rfl) (fun _ _ _ h => h) (by kernel_rfl) (by kernel_rfl) (by kernel_rfl) (fun ρ hr0 hr1 _ w hSw => by have h1 := j1; have h2 := j2; simp [go_sem, hr0, hr1, h1, h2]) hHeld (tf 63 14) (by kernel_rfl) (fun K hK => ?_)
                go_big_move
                refine hK.out _ ?_
                clear hK K
                refine fast_yields 6 42 (.agg #[.int .i64 y0, .int .i64 y1, .int .i64 y2]) (fuel := 7) rfl rfl (by kernel_rfl) (by kernel_rfl) (by kernel_rfl) (fun _ _ _ h => h) (yieldsIf_load_mid (by rfl) _ _ rfl (bq) (oq + k' * 3) rfl [.int .i64 y0, .int .i64 y1, .int .i64 y2] _ (fun w hw => hw.2) Tryz.underlying48 rfl (by kernel_rfl)) hHeld (tf 127 14) (by kernel_rfl) (fun K hK => ?_)
                go_big_move
                refine hK.out _ ?_
                clear hK K
                refine fast_move 7 43 (.slice (some ⟨b0, off, none⟩) sn sc) (.tmp 2) (fuel := 6) rfl rfl (by kernel_rfl) (by kernel_rfl) (by kernel_rfl) (fun _ _ _ h => h) (by kernel_rfl) (by kernel_rfl) (by first | exact Or.inl rfl | exact Or.inr rfl) hHeld (tf 255 14) (by kernel_rfl) (fun K hK => ?_)
                go_big_move
                refine hK.out _ ?_
                clear hK K
                refine fast_move 8 44 (.int .i64 (k : Int)) (.tmp 10) (fuel := 5) rfl rfl (by kernel_rfl) (by kernel_rfl) (by kernel_rfl) (fun _ _ _ h => h) (by kernel_rfl) (by kernel_rfl) (by first | exact Or.inl rfl | exact Or.inr rfl) hHeld (tf 511 14) (by kernel_rfl) (fun K hK => ?_)
                go_big_move
                refine hK.out _ ?_
                clear hK K
                refine fast2 9 45 (.pointer (some ⟨b0, off + k * 3, none⟩)) (.tmp 43) (.slice (some ⟨b0, off, none⟩) sn sc) (.tmp 44) (.int .i64 (k : Int)) (fuel := 4) rfl rfl (by kernel_rfl) (by kernel_rfl) (by kernel_rfl) (fun _ _ _ h => h) (by kernel_rfl) (by kernel_rfl) (by kernel_rfl) (fun ρ hr0 hr1 _ w hSw => by have h1 := i1; have h2 := i2; simp [go_sem, hr0, hr1, h1, h2]) hHeld (tf 1023 14) (by kernel_rfl) (fun K hK => ?_)
                go_big_move
                refine hK.out _ ?_
                clear hK K
                refine fast_yields 10 46 (.agg #[.int .i64 x0, .int .i64 x1, .int .i64 xx2]) (fuel := 3) rfl rfl (by kernel_rfl) (by kernel_rfl) (by kernel_rfl) (fun _ _ _ h => h) (yieldsIf_load_mid (by rfl) _ _ rfl (b0) (off + k * 3) rfl [.int .i64 x0, .int .i64 x1, .int .i64 xx2] _ (fun w hw => RX.out w hw.1.1.1) Tryz.underlying48 rfl (by kernel_rfl)) hHeld (tf 2047 14) (by kernel_rfl) (fun K hK => ?_)
                go_big_move
                refine hK.out _ ?_
                clear hK K
                refine fast2 11 47 (.bool true) (.tmp 42) (.agg #[.int .i64 y0, .int .i64 y1, .int .i64 y2]) (.tmp 46) (.agg #[.int .i64 x0, .int .i64 x1, .int .i64 xx2]) (fuel := 2) rfl rfl (by kernel_rfl) (by kernel_rfl) (by kernel_rfl) (fun _ _ _ h => h) (by kernel_rfl) (by kernel_rfl) (by kernel_rfl) (fun ρ hr0 hr1 _ w hSw => by have hg := hyx; simp [go_sem, hr0, hr1, hg]) hHeld (tf 4095 14) (by kernel_rfl) (fun K hK => ?_)
                go_big_move
                refine hK.out _ ?_
                clear hK K
                refine fast2 12 48 (.bool true) (.tmp 37) (.bool false) (.tmp 47) (.bool true) (fuel := 1) rfl rfl (by kernel_rfl) (by kernel_rfl) (by kernel_rfl) (fun _ _ _ h => h) (by kernel_rfl) (by kernel_rfl) (by kernel_rfl) (fun ρ hr0 hr1 hc w hSw => by simp [go_sem, hc, hr0, hr1]) hHeld (tf 8191 14) (by kernel_rfl) (fun K hK => ?_)
                go_big_move
                refine hK.out _ ?_
                clear hK K
                refine fast_move 13 11 (.bool true) (.tmp 48) (fuel := 0) rfl rfl (by kernel_rfl) (by kernel_rfl) (by kernel_rfl) (fun _ _ _ h => h) (by kernel_rfl) (by kernel_rfl) (by first | exact Or.inl rfl | exact Or.inr rfl) hHeld (tf 16383 14) (by kernel_rfl) (fun K hK => ?_)
                go_big_move
                refine hK.out _ ?_
                clear hK K
                refine wpAnyH_done (by kernel_rfl) ?_ _
                have HS2 := Lib.hid hHeld.1
                clear hHeld SD HM hyx
                go_wp2_with fail
                go_roundw
                case rel => exact ⟨k' + 1, by omega, by go_num, by rw [HM2.out], HS2.out⟩
                case measure => simp [intOf]; omega
              · have HM2 : Hid (decide ((x0, x1, xx2) ∈ tsteps.take (k' + 1)) = false) := by
                  rw [HM.out]
                  simp only [Bool.false_or, Prod.mk.injEq]
                  exact decide_eq_false hyx
                refine wp_region_tf (S := fun w' => (WitS w w' (iaC st it a2 n2 c2 a3 n3 c3 a4 n4 c4 a5 n5 c5) (iaC su iu b2 m2 d2 b3 m3 d3 b4 m4 d4 b5 m5 d5) (iaC tst tit xa2 tins.length xc2 xa3 touts.length xc3 xa4 thids.length xc4 (some ⟨bq, oq, none⟩) tsteps.length xc5) w4.heap.size ⟨tst, tit, tins, touts, thids, tsteps⟩) ∧ w'.rangeAt bq (oq + k' * 3) [.int .i64 y0, .int .i64 y1, .int .i64 y2]) 14 (by kernel_rfl) (by kernel_rfl) (by kernel_rfl) SD (fun hHeld => ?_)
                refine fast_move 0 36 (.bool false) (.tmp 11) (fuel := 13) rfl rfl (by kernel_rfl) (by kernel_rfl) (by kernel_rfl) (fun _ _ _ h => h) (by kernel_rfl) (by kernel_rfl) (by first | exact Or.inl rfl | exact Or.inr rfl) hHeld (tf 1 14) (by kernel_rfl) (fun K hK => ?_)
                go_big_move
                refine hK.out _ ?_
                clear hK K
                refine fast_move 1 37 (.bool false) (.tmp 36) (fuel := 12) rfl rfl (by kernel_rfl) (by kernel_rfl) (by kernel_rfl) (fun _ _ _ h => h) (by kernel_rfl) (by kernel_rfl) (by first | exact Or.inl rfl | exact Or.inr rfl) hHeld (tf 3 14) (by kernel_rfl) (fun K hK => ?_)
                go_big_move
                refine hK.out _ ?_
                clear hK K
                refine fast1 2 38 (.pointer (some ⟨w4.heap.size, 5, none⟩)) (.tmp 7) (.pointer (some ⟨w4.heap.size, 0, none⟩)) (fuel := 11) rfl rfl (by kernel_rfl) (by kernel_rfl) (by kernel_rfl) (fun _ _ _ h => h) (by kernel_rfl) (by kernel_rfl) (fun ρ hr0 _ w hSw => by simp [go_sem, hr0]) hHeld (tf 7 14) (by kernel_rfl) (fun K hK => ?_)
                go_big_move
                refine hK.out _ ?_
                clear hK K
                refine fast1 3 39 (.slice (some ⟨bq, oq, none⟩) tsteps.length xc5) (.tmp 38) (.pointer (some ⟨w4.heap.size, 5, none⟩)) (fuel := 10) rfl rfl (by kernel_rfl) (by kernel_rfl) (by kernel_rfl) (fun _ _ _ h => h) (by kernel_rfl) (by kernel_rfl) (fun ρ hr0 _ w hSw => by have m := hSw.1.2.1.cell (j := 5) (u := .slice (some ⟨bq, oq, none⟩) tsteps.length xc5) rfl; simp [go_sem, hr0, m]) hHeld (tf 15 14) (by kernel_rfl) (fun K hK => ?_)
                go_big_move
                refine hK.out _ ?_
                clear hK K
                refine fast_move 4 40 (Value.int .i64 (k' : Int)) (.tmp 12) (fuel := 9) rfl rfl (by kernel_rfl) (by kernel_rfl) (by kernel_rfl) (fun _ _ _ h => h) (by kernel_rfl) (by kernel_rfl) (by first | exact Or.inl rfl | exact Or.inr rfl) hHeld (tf 31 14) (by kernel_rfl) (fun K hK => ?_)
                go_big_move
                refine hK.out _ ?_
                clear hK K
                refine fast2 5 41 (.pointer (some ⟨bq, oq + k' * 3, none⟩)) (.tmp 39) (.slice (some ⟨bq, oq, none⟩) tsteps.length xc5) (.tmp 40) (Value.int .i64 (k' : Int)) (fuel := 8) rfl rfl (by kernel_rfl) (by kernel_rfl) (by kernel_rfl) (fun _ _ _ h => h) (by kernel_rfl) (by kernel_rfl) (by kernel_rfl) (fun ρ hr0 hr1 _ w hSw => by have h1 := j1; have h2 := j2; simp [go_sem, hr0, hr1, h1, h2]) hHeld (tf 63 14) (by kernel_rfl) (fun K hK => ?_)
                go_big_move
                refine hK.out _ ?_
                clear hK K
                refine fast_yields 6 42 (.agg #[.int .i64 y0, .int .i64 y1, .int .i64 y2]) (fuel := 7) rfl rfl (by kernel_rfl) (by kernel_rfl) (by kernel_rfl) (fun _ _ _ h => h) (yieldsIf_load_mid (by rfl) _ _ rfl (bq) (oq + k' * 3) rfl [.int .i64 y0, .int .i64 y1, .int .i64 y2] _ (fun w hw => hw.2) Tryz.underlying48 rfl (by kernel_rfl)) hHeld (tf 127 14) (by kernel_rfl) (fun K hK => ?_)
                go_big_move
                refine hK.out _ ?_
                clear hK K
                refine fast_move 7 43 (.slice (some ⟨b0, off, none⟩) sn sc) (.tmp 2) (fuel := 6) rfl rfl (by kernel_rfl) (by kernel_rfl) (by kernel_rfl) (fun _ _ _ h => h) (by kernel_rfl) (by kernel_rfl) (by first | exact Or.inl rfl | exact Or.inr rfl) hHeld (tf 255 14) (by kernel_rfl) (fun K hK => ?_)
                go_big_move
                refine hK.out _ ?_
                clear hK K
                refine fast_move 8 44 (.int .i64 (k : Int)) (.tmp 10) (fuel := 5) rfl rfl (by kernel_rfl) (by kernel_rfl) (by kernel_rfl) (fun _ _ _ h => h) (by kernel_rfl) (by kernel_rfl) (by first | exact Or.inl rfl | exact Or.inr rfl) hHeld (tf 511 14) (by kernel_rfl) (fun K hK => ?_)
                go_big_move
                refine hK.out _ ?_
                clear hK K
                refine fast2 9 45 (.pointer (some ⟨b0, off + k * 3, none⟩)) (.tmp 43) (.slice (some ⟨b0, off, none⟩) sn sc) (.tmp 44) (.int .i64 (k : Int)) (fuel := 4) rfl rfl (by kernel_rfl) (by kernel_rfl) (by kernel_rfl) (fun _ _ _ h => h) (by kernel_rfl) (by kernel_rfl) (by kernel_rfl) (fun ρ hr0 hr1 _ w hSw => by have h1 := i1; have h2 := i2; simp [go_sem, hr0, hr1, h1, h2]) hHeld (tf 1023 14) (by kernel_rfl) (fun K hK => ?_)
                go_big_move
                refine hK.out _ ?_
                clear hK K
                refine fast_yields 10 46 (.agg #[.int .i64 x0, .int .i64 x1, .int .i64 xx2]) (fuel := 3) rfl rfl (by kernel_rfl) (by kernel_rfl) (by kernel_rfl) (fun _ _ _ h => h) (yieldsIf_load_mid (by rfl) _ _ rfl (b0) (off + k * 3) rfl [.int .i64 x0, .int .i64 x1, .int .i64 xx2] _ (fun w hw => RX.out w hw.1.1.1) Tryz.underlying48 rfl (by kernel_rfl)) hHeld (tf 2047 14) (by kernel_rfl) (fun K hK => ?_)
                go_big_move
                refine hK.out _ ?_
                clear hK K
                refine fast2 11 47 (.bool false) (.tmp 42) (.agg #[.int .i64 y0, .int .i64 y1, .int .i64 y2]) (.tmp 46) (.agg #[.int .i64 x0, .int .i64 x1, .int .i64 xx2]) (fuel := 2) rfl rfl (by kernel_rfl) (by kernel_rfl) (by kernel_rfl) (fun _ _ _ h => h) (by kernel_rfl) (by kernel_rfl) (by kernel_rfl) (fun ρ hr0 hr1 _ w hSw => by simp [go_sem, hr0, hr1]; exact fun e1 e2 e3 => hyx ⟨e1, e2, e3⟩) hHeld (tf 4095 14) (by kernel_rfl) (fun K hK => ?_)
                go_big_move
                refine hK.out _ ?_
                clear hK K
                refine fast2 12 48 (.bool false) (.tmp 37) (.bool false) (.tmp 47) (.bool false) (fuel := 1) rfl rfl (by kernel_rfl) (by kernel_rfl) (by kernel_rfl) (fun _ _ _ h => h) (by kernel_rfl) (by kernel_rfl) (by kernel_rfl) (fun ρ hr0 hr1 hc w hSw => by simp [go_sem, hc, hr0, hr1]) hHeld (tf 8191 14) (by kernel_rfl) (fun K hK => ?_)
                go_big_move
                refine hK.out _ ?_
                clear hK K
                refine fast_move 13 11 (.bool false) (.tmp 48) (fuel := 0) rfl rfl (by kernel_rfl) (by kernel_rfl) (by kernel_rfl) (fun _ _ _ h => h) (by kernel_rfl) (by kernel_rfl) (by first | exact Or.inl rfl | exact Or.inr rfl) hHeld (tf 16383 14) (by kernel_rfl) (fun K hK => ?_)
                go_big_move
                refine hK.out _ ?_
                clear hK K
                refine wpAnyH_done (by kernel_rfl) ?_ _
                have HS2 := Lib.hid hHeld.1
                clear hHeld SD HM hyx
                go_wp2_with fail
                go_roundw
                case rel => exact ⟨k' + 1, by omega, by go_num, by rw [HM2.out], HS2.out⟩
                case measure => simp [intOf]; omega
          · obtain rfl : tsteps.length = k' := by omega
            have HMM : Hid (unaskedB ⟨tst, tit, tins, touts, thids, tsteps⟩ (x0, x1, xx2) = (decide ((x0, x1, xx2) ∈ tsteps.take tsteps.length) && !p)) := by
              rw [List.take_length, HP.out]
              rfl
            obtain ⟨s, hs⟩ : ∃ s, s = decide ((x0, x1, xx2) ∈ tsteps.take tsteps.length) := ⟨_, rfl⟩
            rw [← hs] at HMM ⊢
            have HST2 : Hid (r = (decide (x0 = z) && (s && !p) && witR ⟨tst, tit, tins, touts, thids, tsteps⟩ CL (ws.drop (k + 1)) xx2)) := by
              rw [← HMM.out]
              exact HST.out
            clear hs HMM HST HP CX0 RY0
            have mq5 := HS.out.2.1.cell (j := 5) (u := .slice xa5 tsteps.length xc5) rfl
            go_wp2_with fail
            clear mq5
            have SD : WitS w wr.drew (iaC st it a2 n2 c2 a3 n3 c3 a4 n4 c4 a5 n5 c5) (iaC su iu b2 m2 d2 b3 m3 d3 b4 m4 d4 b5 m5 d5) (iaC tst tit xa2 tins.length xc2 xa3 touts.length xc3 xa4 thids.length xc4 xa5 tsteps.length xc5) w4.heap.size ⟨tst, tit, tins, touts, thids, tsteps⟩ := HS.out.drew
            clear HS
            cases s with
            | false =>
              refine wp_region_tf (S := fun w' => WitS w w' (iaC st it a2 n2 c2 a3 n3 c3 a4 n4 c4 a5 n5 c5) (iaC su iu b2 m2 d2 b3 m3 d3 b4 m4 d4 b5 m5 d5) (iaC tst tit xa2 tins.length xc2 xa3 touts.length xc3 xa4 thids.length xc4 xa5 tsteps.length xc5) w4.heap.size ⟨tst, tit, tins, touts, thids, tsteps⟩) 21 (by kernel_rfl) (by kernel_rfl) (by kernel_rfl) SD (fun hHeld => ?_)
              refine fast_move 0 49 (.bool false) (.tmp 11) (fuel := 20) rfl rfl (by kernel_rfl) (by kernel_rfl) (by kernel_rfl) (fun _ _ _ h => h) (by kernel_rfl) (by kernel_rfl) (by first | exact Or.inl rfl | exact Or.inr rfl) hHeld (tf 1 21) (by kernel_rfl) (fun K hK => ?_)
              go_big_move
              refine hK.out _ ?_
              clear hK K
              refine fast1 1 50 (.bool true) (.tmp 49) (.bool false) (fuel := 19) rfl rfl (by kernel_rfl) (by kernel_rfl) (by kernel_rfl) (fun _ _ _ h => h) (by kernel_rfl) (by kernel_rfl) (fun ρ hr0 _ w hSw => by simp [go_sem, hr0]) hHeld (tf 3 21) (by kernel_rfl) (fun K hK => ?_)
              go_big_move
              refine hK.out _ ?_
              clear hK K
              refine fast_move 2 51 (.bool true) (.tmp 50) (fuel := 18) rfl rfl (by kernel_rfl) (by kernel_rfl) (by kernel_rfl) (fun _ _ _ h => h) (by kernel_rfl) (by kernel_rfl) (by first | exact Or.inl rfl | exact Or.inr rfl) hHeld (tf 7 21) (by kernel_rfl) (fun K hK => ?_)
              go_big_move
              refine hK.out _ ?_
              clear hK K
              refine fast_skip 3 52 (fuel := 17) rfl rfl (by kernel_rfl) (by kernel_rfl) (by kernel_rfl) (fun _ _ _ h => h) (by kernel_rfl) hHeld (tf 15 21) (by kernel_rfl) (fun K hK => ?_)
              go_big_move
              refine hK.out _ ?_
              clear hK K
              refine fast_skip 4 53 (fuel := 16) rfl rfl (by kernel_rfl) (by kernel_rfl) (by kernel_rfl) (fun _ _ _ h => h) (by kernel_rfl) hHeld (tf 31 21) (by kernel_rfl) (fun K hK => ?_)
              go_big_move
              refine hK.out _ ?_
              clear hK K
              refine fast_skip 5 54 (fuel := 15) rfl rfl (by kernel_rfl) (by kernel_rfl) (by kernel_rfl) (fun _ _ _ h => h) (by kernel_rfl) hHeld (tf 63 21) (by kernel_rfl) (fun K hK => ?_)
              go_big_move
              refine hK.out _ ?_
              clear hK K
              refine fast_skip 6 55 (fuel := 14) rfl rfl (by kernel_rfl) (by kernel_rfl) (by kernel_rfl) (fun _ _ _ h => h) (by kernel_rfl) hHeld (tf 127 21) (by kernel_rfl) (fun K hK => ?_)
              go_big_move
              refine hK.out _ ?_
              clear hK K
              refine fast_skip 7 56 (fuel := 13) rfl rfl (by kernel_rfl) (by kernel_rfl) (by kernel_rfl) (fun _ _ _ h => h) (by kernel_rfl) hHeld (tf 255 21) (by kernel_rfl) (fun K hK => ?_)
              go_big_move
              refine hK.out _ ?_
              clear hK K
              refine fast_skip 8 57 (fuel := 12) rfl rfl (by kernel_rfl) (by kernel_rfl) (by kernel_rfl) (fun _ _ _ h => h) (by kernel_rfl) hHeld (tf 511 21) (by kernel_rfl) (fun K hK => ?_)
              go_big_move
              refine hK.out _ ?_
              clear hK K
              refine fast_skip 9 58 (fuel := 11) rfl rfl (by kernel_rfl) (by kernel_rfl) (by kernel_rfl) (fun _ _ _ h => h) (by kernel_rfl) hHeld (tf 1023 21) (by kernel_rfl) (fun K hK => ?_)
              go_big_move
              refine hK.out _ ?_
              clear hK K
              refine fast2 10 59 (.bool true) (.tmp 51) (.bool true) (.tmp 58) (undef) (fuel := 10) rfl rfl (by kernel_rfl) (by kernel_rfl) (by kernel_rfl) (fun _ _ _ h => h) (by kernel_rfl) (by kernel_rfl) (by kernel_rfl) (fun ρ hr0 hr1 hc w hSw => by simp [go_sem, hc, hr0, hr1]) hHeld (tf 2047 21) (by kernel_rfl) (fun K hK => ?_)
              go_big_move
              refine hK.out _ ?_
              clear hK K
              refine fast_move 11 60 (.bool true) (.tmp 59) (fuel := 9) rfl rfl (by kernel_rfl) (by kernel_rfl) (by kernel_rfl) (fun _ _ _ h => h) (by kernel_rfl) (by kernel_rfl) (by first | exact Or.inl rfl | exact Or.inr rfl) hHeld (tf 4095 21) (by kernel_rfl) (fun K hK => ?_)
              go_big_move
              refine hK.out _ ?_
              clear hK K
              refine fast_skip 12 61 (fuel := 8) rfl rfl (by kernel_rfl) (by kernel_rfl) (by kernel_rfl) (fun _ _ _ h => h) (by kernel_rfl) hHeld (tf 8191 21) (by kernel_rfl) (fun K hK => ?_)
              go_big_move
              refine hK.out _ ?_
              clear hK K
              refine fast_skip 13 62 (fuel := 7) rfl rfl (by kernel_rfl) (by kernel_rfl) (by kernel_rfl) (fun _ _ _ h => h) (by kernel_rfl) hHeld (tf 16383 21) (by kernel_rfl) (fun K hK => ?_)
              go_big_move
              refine hK.out _ ?_
              clear hK K
              refine fast_skip 14 63 (fuel := 6) rfl rfl (by kernel_rfl) (by kernel_rfl) (by kernel_rfl) (fun _ _ _ h => h) (by kernel_rfl) hHeld (tf 32767 21) (by kernel_rfl) (fun K hK => ?_)
              go_big_move
              refine hK.out _ ?_
              clear hK K
              refine fast_skip 15 64 (fuel := 5) rfl rfl (by kernel_rfl) (by kernel_rfl) (by kernel_rfl) (fun _ _ _ h => h) (by kernel_rfl) hHeld (tf 65535 21) (by kernel_rfl) (fun K hK => ?_)
              go_big_move
              refine hK.out _ ?_
              clear hK K
              refine fast_skip 16 65 (fuel := 4) rfl rfl (by kernel_rfl) (by kernel_rfl) (by kernel_rfl) (fun _ _ _ h => h) (by kernel_rfl) hHeld (tf 131071 21) (by kernel_rfl) (fun K hK => ?_)
              go_big_move
              refine hK.out _ ?_
              clear hK K
              refine fast_skip 17 66 (fuel := 3) rfl rfl (by kernel_rfl) (by kernel_rfl) (by kernel_rfl) (fun _ _ _ h => h) (by kernel_rfl) hHeld (tf 262143 21) (by kernel_rfl) (fun K hK => ?_)
              go_big_move
              refine hK.out _ ?_
              clear hK K
              refine fast_skip 18 67 (fuel := 2) rfl rfl (by kernel_rfl) (by kernel_rfl) (by kernel_rfl) (fun _ _ _ h => h) (by kernel_rfl) hHeld (tf 524287 21) (by kernel_rfl) (fun K hK => ?_)
              go_big_move
              refine hK.out _ ?_
              clear hK K
              refine fast_skip 19 68 (fuel := 1) rfl rfl (by kernel_rfl) (by kernel_rfl) (by kernel_rfl) (fun _ _ _ h => h) (by kernel_rfl) hHeld (tf 1048575 21) (by kernel_rfl) (fun K hK => ?_)
              go_big_move
              refine hK.out _ ?_
              clear hK K
              refine fast2 20 69 (.bool true) (.tmp 60) (.bool true) (.tmp 68) (undef) (fuel := 0) rfl rfl (by kernel_rfl) (by kernel_rfl) (by kernel_rfl) (fun _ _ _ h => h) (by kernel_rfl) (by kernel_rfl) (by kernel_rfl) (fun ρ hr0 hr1 hc w hSw => by simp [go_sem, hc, hr0, hr1]) hHeld (tf 2097151 21) (by kernel_rfl) (fun K hK => ?_)
              go_big_move
              refine hK.out _ ?_
              clear hK K
              refine wpAnyH_done (by kernel_rfl) ?_ _
              have hr0 : r = false := by rw [HST2.out]; simp
              clear HST2 SD
              subst hr0
              go_wp2_with fail
              go_ret
              exact ⟨rfl, hHeld.1.1⟩
            | true =>
              by_cases he : x0 = z
              · have hne : (x0 != z) = false := by simp [he]
                cases p with
                | true =>
                  refine wp_region_tf (S := fun w' => WitS w w' (iaC st it a2 n2 c2 a3 n3 c3 a4 n4 c4 a5 n5 c5) (iaC su iu b2 m2 d2 b3 m3 d3 b4 m4 d4 b5 m5 d5) (iaC tst tit xa2 tins.length xc2 xa3 touts.length xc3 xa4 thids.length xc4 xa5 tsteps.length xc5) w4.heap.size ⟨tst, tit, tins, touts, thids, tsteps⟩) 21 (by kernel_rfl) (by kernel_rfl) (by kernel_rfl) SD (fun hHeld => ?_)
                  refine fast_move 0 49 (.bool true) (.tmp 11) (fuel := 20) rfl rfl (by kernel_rfl) (by kernel_rfl) (by kernel_rfl) (fun _ _ _ h => h) (by kernel_rfl) (by kernel_rfl) (by first | exact Or.inl rfl | exact Or.inr rfl) hHeld (tf 1 21) (by kernel_rfl) (fun K hK => ?_)
                  go_big_move
                  refine hK.out _ ?_
                  clear hK K
                  refine fast1 1 50 (.bool false) (.tmp 49) (.bool true) (fuel := 19) rfl rfl (by kernel_rfl) (by kernel_rfl) (by kernel_rfl) (fun _ _ _ h => h) (by kernel_rfl) (by kernel_rfl) (fun ρ hr0 _ w hSw => by simp [go_sem, hr0]) hHeld (tf 3 21) (by kernel_rfl) (fun K hK => ?_)
                  go_big_move
                  refine hK.out _ ?_
                  clear hK K
                  refine fast_move 2 51 (.bool false) (.tmp 50) (fuel := 18) rfl rfl (by kernel_rfl) (by kernel_rfl) (by kernel_rfl) (fun _ _ _ h => h) (by kernel_rfl) (by kernel_rfl) (by first | exact Or.inl rfl | exact Or.inr rfl) hHeld (tf 7 21) (by kernel_rfl) (fun K hK => ?_)
                  go_big_move
                  refine hK.out _ ?_
                  clear hK K
                  refine fast_move 3 52 (.slice (some ⟨b0, off, none⟩) sn sc) (.tmp 2) (fuel := 17) rfl rfl (by kernel_rfl) (by kernel_rfl) (by kernel_rfl) (fun _ _ _ h => h) (by kernel_rfl) (by kernel_rfl) (by first | exact Or.inl rfl | exact Or.inr rfl) hHeld (tf 15 21) (by kernel_rfl) (fun K hK => ?_)
                  go_big_move
                  refine hK.out _ ?_
                  clear hK K
                  refine fast_move 4 53 (.int .i64 (k : Int)) (.tmp 10) (fuel := 16) rfl rfl (by kernel_rfl) (by kernel_rfl) (by kernel_rfl) (fun _ _ _ h => h) (by kernel_rfl) (by kernel_rfl) (by first | exact Or.inl rfl | exact Or.inr rfl) hHeld (tf 31 21) (by kernel_rfl) (fun K hK => ?_)
                  go_big_move
                  refine hK.out _ ?_
                  clear hK K
                  refine fast2 5 54 (.pointer (some ⟨b0, off + k * 3, none⟩)) (.tmp 52) (.slice (some ⟨b0, off, none⟩) sn sc) (.tmp 53) (.int .i64 (k : Int)) (fuel := 15) rfl rfl (by kernel_rfl) (by kernel_rfl) (by kernel_rfl) (fun _ _ _ h => h) (by kernel_rfl) (by kernel_rfl) (by kernel_rfl) (fun ρ hr0 hr1 _ w hSw => by have h1 := i1; have h2 := i2; simp [go_sem, hr0, hr1, h1, h2]) hHeld (tf 63 21) (by kernel_rfl) (fun K hK => ?_)
                  go_big_move
                  refine hK.out _ ?_
                  clear hK K
                  refine fast1 6 55 (.pointer (some ⟨b0, off + k * 3, none⟩)) (.tmp 54) (.pointer (some ⟨b0, off + k * 3, none⟩)) (fuel := 14) rfl rfl (by kernel_rfl) (by kernel_rfl) (by kernel_rfl) (fun _ _ _ h => h) (by kernel_rfl) (by kernel_rfl) (fun ρ hr0 _ w hSw => by simp [go_sem, hr0]) hHeld (tf 127 21) (by kernel_rfl) (fun K hK => ?_)
                  go_big_move
                  refine hK.out _ ?_
                  clear hK K
                  refine fast1 7 56 (.int .i64 x0) (.tmp 55) (.pointer (some ⟨b0, off + k * 3, none⟩)) (fuel := 13) rfl rfl (by kernel_rfl) (by kernel_rfl) (by kernel_rfl) (fun _ _ _ h => h) (by kernel_rfl) (by kernel_rfl) (fun ρ hr0 _ w hSw => by have m := (RX.out w hSw.1.1) 0 _ rfl; simp only [Nat.add_zero] at m; simp [go_sem, hr0, m]) hHeld (tf 255 21) (by kernel_rfl) (fun K hK => ?_)
                  go_big_move
                  refine hK.out _ ?_
                  clear hK K
                  refine fast_move 8 57 (.int .i64 z) (.tmp 9) (fuel := 12) rfl rfl (by kernel_rfl) (by kernel_rfl) (by kernel_rfl) (fun _ _ _ h => h) (by kernel_rfl) (by kernel_rfl) (by first | exact Or.inl rfl | exact Or.inr rfl) hHeld (tf 511 21) (by kernel_rfl) (fun K hK => ?_)
                  go_big_move
                  refine hK.out _ ?_
                  clear hK K
                  refine fast2 9 58 (.bool false) (.tmp 56) (.int .i64 x0) (.tmp 57) (.int .i64 z) (fuel := 11) rfl rfl (by kernel_rfl) (by kernel_rfl) (by kernel_rfl) (fun _ _ _ h => h) (by kernel_rfl) (by kernel_rfl) (by kernel_rfl) (fun ρ hr0 hr1 _ w hSw => by have hg := hne; simp [go_sem, hr0, hr1, hg]) hHeld (tf 1023 21) (by kernel_rfl) (fun K hK => ?_)
                  go_big_move
                  refine hK.out _ ?_
                  clear hK K
                  refine fast2 10 59 (.bool false) (.tmp 51) (.bool false) (.tmp 58) (.bool false) (fuel := 10) rfl rfl (by kernel_rfl) (by kernel_rfl) (by kernel_rfl) (fun _ _ _ h => h) (by kernel_rfl) (by kernel_rfl) (by kernel_rfl) (fun ρ hr0 hr1 hc w hSw => by simp [go_sem, hc, hr0, hr1]) hHeld (tf 2047 21) (by kernel_rfl) (fun K hK => ?_)
                  go_big_move
                  refine hK.out _ ?_
                  clear hK K
                  refine fast_move 11 60 (.bool false) (.tmp 59) (fuel := 9) rfl rfl (by kernel_rfl) (by kernel_rfl) (by kernel_rfl) (fun _ _ _ h => h) (by kernel_rfl) (by kernel_rfl) (by first | exact Or.inl rfl | exact Or.inr rfl) hHeld (tf 4095 21) (by kernel_rfl) (fun K hK => ?_)
                  go_big_move
                  refine hK.out _ ?_
                  clear hK K
                  refine fast1 12 61 (.pointer (some ⟨w4.heap.size, 2, none⟩)) (.tmp 7) (.pointer (some ⟨w4.heap.size, 0, none⟩)) (fuel := 8) rfl rfl (by kernel_rfl) (by kernel_rfl) (by kernel_rfl) (fun _ _ _ h => h) (by kernel_rfl) (by kernel_rfl) (fun ρ hr0 _ w hSw => by simp [go_sem, hr0]) hHeld (tf 8191 21) (by kernel_rfl) (fun K hK => ?_)
                  go_big_move
                  refine hK.out _ ?_
                  clear hK K
                  refine fast1 13 62 (.slice xa2 tins.length xc2) (.tmp 61) (.pointer (some ⟨w4.heap.size, 2, none⟩)) (fuel := 7) rfl rfl (by kernel_rfl) (by kernel_rfl) (by kernel_rfl) (fun _ _ _ h => h) (by kernel_rfl) (by kernel_rfl) (fun ρ hr0 _ w hSw => by have m := hSw.2.1.cell (j := 2) (u := .slice xa2 tins.length xc2) rfl; simp [go_sem, hr0, m]) hHeld (tf 16383 21) (by kernel_rfl) (fun K hK => ?_)
                  go_big_move
                  refine hK.out _ ?_
                  clear hK K
                  refine fast_move 14 63 (.slice (some ⟨b0, off, none⟩) sn sc) (.tmp 2) (fuel := 6) rfl rfl (by kernel_rfl) (by kernel_rfl) (by kernel_rfl) (fun _ _ _ h => h) (by kernel_rfl) (by kernel_rfl) (by first | exact Or.inl rfl | exact Or.inr rfl) hHeld (tf 32767 21) (by kernel_rfl) (fun K hK => ?_)
                  go_big_move
                  refine hK.out _ ?_
                  clear hK K
                  refine fast_move 15 64 (.int .i64 (k : Int)) (.tmp 10) (fuel := 5) rfl rfl (by kernel_rfl) (by kernel_rfl) (by kernel_rfl) (fun _ _ _ h => h) (by kernel_rfl) (by kernel_rfl) (by first | exact Or.inl rfl | exact Or.inr rfl) hHeld (tf 65535 21) (by kernel_rfl) (fun K hK => ?_)
                  go_big_move
                  refine hK.out _ ?_
                  clear hK K
                  refine fast2 16 65 (.pointer (some ⟨b0, off + k * 3, none⟩)) (.tmp 63) (.slice (some ⟨b0, off, none⟩) sn sc) (.tmp 64) (.int .i64 (k : Int)) (fuel := 4) rfl rfl (by kernel_rfl) (by kernel_rfl) (by kernel_rfl) (fun _ _ _ h => h) (by kernel_rfl) (by kernel_rfl) (by kernel_rfl) (fun ρ hr0 hr1 _ w hSw => by have h1 := i1; have h2 := i2; simp [go_sem, hr0, hr1, h1, h2]) hHeld (tf 131071 21) (by kernel_rfl) (fun K hK => ?_)
                  go_big_move
                  refine hK.out _ ?_
                  clear hK K
                  refine fast1 17 66 (.pointer (some ⟨b0, off + k * 3 + 1, none⟩)) (.tmp 65) (.pointer (some ⟨b0, off + k * 3, none⟩)) (fuel := 3) rfl rfl (by kernel_rfl) (by kernel_rfl) (by kernel_rfl) (fun _ _ _ h => h) (by kernel_rfl) (by kernel_rfl) (fun ρ hr0 _ w hSw => by simp [go_sem, hr0]) hHeld (tf 262143 21) (by kernel_rfl) (fun K hK => ?_)
                  go_big_move
                  refine hK.out _ ?_
                  clear hK K
                  refine fast1 18 67 (.int .i64 x1) (.tmp 66) (.pointer (some ⟨b0, off + k * 3 + 1, none⟩)) (fuel := 2) rfl rfl (by kernel_rfl) (by kernel_rfl) (by kernel_rfl) (fun _ _ _ h => h) (by kernel_rfl) (by kernel_rfl) (fun ρ hr0 _ w hSw => by have m := (RX.out w hSw.1.1) 1 _ rfl; simp [go_sem, hr0, m]) hHeld (tf 524287 21) (by kernel_rfl) (fun K hK => ?_)
                  go_big_move
                  refine hK.out _ ?_
                  clear hK K
                  refine wpAnyH_ready (rs := [19]) (fuel := 1) (by kernel_rfl) (by simp) ?_
                  refine ready_want rfl (by kernel_rfl) (tf 1048575 21) (by kernel_rfl) (fun K hK => ?_) AllReadyH.nil
                  simp only [List.getElem_toArray, List.getElem_cons_succ, List.getElem_cons_zero]
                  go_big_op
                  refine (CX.out _ hHeld.2.2).mono ?_
                  rintro e w7 ⟨rfl, hb⟩
                  have hS : WitS w w7 (iaC st it a2 n2 c2 a3 n3 c3 a4 n4 c4 a5 n5 c5) (iaC su iu b2 m2 d2 b3 m3 d3 b4 m4 d4 b5 m5 d5) (iaC tst tit xa2 tins.length xc2 xa3 touts.length xc3 xa4 thids.length xc4 xa5 tsteps.length xc5) w4.heap.size ⟨tst, tit, tins, touts, thids, tsteps⟩ := hHeld.below hb
                  clear hb
                  refine hK.out _ _ hS (fun hHeld => ?_)
                  clear hK K
                  refine fast2 20 69 (.bool true) (.tmp 60) (.bool false) (.tmp 68) (.bool true) (fuel := 0) rfl rfl (by kernel_rfl) (by kernel_rfl) (by kernel_rfl) (fun _ _ _ h => h) (by kernel_rfl) (by kernel_rfl) (by kernel_rfl) (fun ρ hr0 hr1 hc w hSw => by simp [go_sem, hc, hr0, hr1]) hHeld (tf 2097151 21) (by kernel_rfl) (fun K hK => ?_)
                  go_big_move
                  refine hK.out _ ?_
                  clear hK K
                  refine wpAnyH_done (by kernel_rfl) ?_ _
                  have hr0 : r = false := by rw [HST2.out]; simp
                  clear HST2 SD hne
                  subst hr0
                  go_wp2_with fail
                  go_ret
                  exact ⟨rfl, hHeld.1.1⟩
                | false =>
                  refine wp_region_tf (S := fun w' => WitS w w' (iaC st it a2 n2 c2 a3 n3 c3 a4 n4 c4 a5 n5 c5) (iaC su iu b2 m2 d2 b3 m3 d3 b4 m4 d4 b5 m5 d5) (iaC tst tit xa2 tins.length xc2 xa3 touts.length xc3 xa4 thids.length xc4 xa5 tsteps.length xc5) w4.heap.size ⟨tst, tit, tins, touts, thids, tsteps⟩) 21 (by kernel_rfl) (by kernel_rfl) (by kernel_rfl) SD (fun hHeld => ?_)
                  refine fast_move 0 49 (.bool true) (.tmp 11) (fuel := 20) rfl rfl (by kernel_rfl) (by kernel_rfl) (by kernel_rfl) (fun _ _ _ h => h) (by kernel_rfl) (by kernel_rfl) (by first | exact Or.inl rfl | exact Or.inr rfl) hHeld (tf 1 21) (by kernel_rfl) (fun K hK => ?_)
                  go_big_move
                  refine hK.out _ ?_
                  clear hK K
                  refine fast1 1 50 (.bool false) (.tmp 49) (.bool true) (fuel := 19) rfl rfl (by kernel_rfl) (by kernel_rfl) (by kernel_rfl) (fun _ _ _ h => h) (by kernel_rfl) (by kernel_rfl) (fun ρ hr0 _ w hSw => by simp [go_sem, hr0]) hHeld (tf 3 21) (by kernel_rfl) (fun K hK => ?_)
                  go_big_move
                  refine hK.out _ ?_
                  clear hK K
                  refine fast_move 2 51 (.bool false) (.tmp 50) (fuel := 18) rfl rfl (by kernel_rfl) (by kernel_rfl) (by kernel_rfl) (fun _ _ _ h => h) (by kernel_rfl) (by kernel_rfl) (by first | exact Or.inl rfl | exact Or.inr rfl) hHeld (tf 7 21) (by kernel_rfl) (fun K hK => ?_)
                  go_big_move
                  refine hK.out _ ?_
                  clear hK K
                  refine fast_move 3 52 (.slice (some ⟨b0, off, none⟩) sn sc) (.tmp 2) (fuel := 17) rfl rfl (by kernel_rfl) (by kernel_rfl) (by kernel_rfl) (fun _ _ _ h => h) (by kernel_rfl) (by kernel_rfl) (by first | exact Or.inl rfl | exact Or.inr rfl) hHeld (tf 15 21) (by kernel_rfl) (fun K hK => ?_)
                  go_big_move
                  refine hK.out _ ?_
                  clear hK K
                  refine fast_move 4 53 (.int .i64 (k : Int)) (.tmp 10) (fuel := 16) rfl rfl (by kernel_rfl) (by kernel_rfl) (by kernel_rfl) (fun _ _ _ h => h) (by kernel_rfl) (by kernel_rfl) (by first | exact Or.inl rfl | exact Or.inr rfl) hHeld (tf 31 21) (by kernel_rfl) (fun K hK => ?_)
                  go_big_move
                  refine hK.out _ ?_
                  clear hK K
                  refine fast2 5 54 (.pointer (some ⟨b0, off + k * 3, none⟩)) (.tmp 52) (.slice (some ⟨b0, off, none⟩) sn sc) (.tmp 53) (.int .i64 (k : Int)) (fuel := 15) rfl rfl (by kernel_rfl) (by kernel_rfl) (by kernel_rfl) (fun _ _ _ h => h) (by kernel_rfl) (by kernel_rfl) (by kernel_rfl) (fun ρ hr0 hr1 _ w hSw => by have h1 := i1; have h2 := i2; simp [go_sem, hr0, hr1, h1, h2]) hHeld (tf 63 21) (by kernel_rfl) (fun K hK => ?_)
                  go_big_move
                  refine hK.out _ ?_
                  clear hK K
                  refine fast1 6 55 (.pointer (some ⟨b0, off + k * 3, none⟩)) (.tmp 54) (.pointer (some ⟨b0, off + k * 3, none⟩)) (fuel := 14) rfl rfl (by kernel_rfl) (by kernel_rfl) (by kernel_rfl) (fun _ _ _ h => h) (by kernel_rfl) (by kernel_rfl) (fun ρ hr0 _ w hSw => by simp [go_sem, hr0]) hHeld (tf 127 21) (by kernel_rfl) (fun K hK => ?_)
                  go_big_move
                  refine hK.out _ ?_
                  clear hK K
                  refine fast1 7 56 (.int .i64 x0) (.tmp 55) (.pointer (some ⟨b0, off + k * 3, none⟩)) (fuel := 13) rfl rfl (by kernel_rfl) (by kernel_rfl) (by kernel_rfl) (fun _ _ _ h => h) (by kernel_rfl) (by kernel_rfl) (fun ρ hr0 _ w hSw => by have m := (RX.out w hSw.1.1) 0 _ rfl; simp only [Nat.add_zero] at m; simp [go_sem, hr0, m]) hHeld (tf 255 21) (by kernel_rfl) (fun K hK => ?_)
                  go_big_move
                  refine hK.out _ ?_
                  clear hK K
                  refine fast_move 8 57 (.int .i64 z) (.tmp 9) (fuel := 12) rfl rfl (by kernel_rfl) (by kernel_rfl) (by kernel_rfl) (fun _ _ _ h => h) (by kernel_rfl) (by kernel_rfl) (by first | exact Or.inl rfl | exact Or.inr rfl) hHeld (tf 511 21) (by kernel_rfl) (fun K hK => ?_)
                  go_big_move
                  refine hK.out _ ?_
                  clear hK K
                  refine fast2 9 58 (.bool false) (.tmp 56) (.int .i64 x0) (.tmp 57) (.int .i64 z) (fuel := 11) rfl rfl (by kernel_rfl) (by kernel_rfl) (by kernel_rfl) (fun _ _ _ h => h) (by kernel_rfl) (by kernel_rfl) (by kernel_rfl) (fun ρ hr0 hr1 _ w hSw => by have hg := hne; simp [go_sem, hr0, hr1, hg]) hHeld (tf 1023 21) (by kernel_rfl) (fun K hK => ?_)
                  go_big_move
                  refine hK.out _ ?_
                  clear hK K
                  refine fast2 10 59 (.bool false) (.tmp 51) (.bool false) (.tmp 58) (.bool false) (fuel := 10) rfl rfl (by kernel_rfl) (by kernel_rfl) (by kernel_rfl) (fun _ _ _ h => h) (by kernel_rfl) (by kernel_rfl) (by kernel_rfl) (fun ρ hr0 hr1 hc w hSw => by simp [go_sem, hc, hr0, hr1]) hHeld (tf 2047 21) (by kernel_rfl) (fun K hK => ?_)
                  go_big_move
                  refine hK.out _ ?_
                  clear hK K
                  refine fast_move 11 60 (.bool false) (.tmp 59) (fuel := 9) rfl rfl (by kernel_rfl) (by kernel_rfl) (by kernel_rfl) (fun _ _ _ h => h) (by kernel_rfl) (by kernel_rfl) (by first | exact Or.inl rfl | exact Or.inr rfl) hHeld (tf 4095 21) (by kernel_rfl) (fun K hK => ?_)
                  go_big_move
                  refine hK.out _ ?_
                  clear hK K
                  refine fast1 12 61 (.pointer (some ⟨w4.heap.size, 2, none⟩)) (.tmp 7) (.pointer (some ⟨w4.heap.size, 0, none⟩)) (fuel := 8) rfl rfl (by kernel_rfl) (by kernel_rfl) (by kernel_rfl) (fun _ _ _ h => h) (by kernel_rfl) (by kernel_rfl) (fun ρ hr0 _ w hSw => by simp [go_sem, hr0]) hHeld (tf 8191 21) (by kernel_rfl) (fun K hK => ?_)
                  go_big_move
                  refine hK.out _ ?_
                  clear hK K
                  refine fast1 13 62 (.slice xa2 tins.length xc2) (.tmp 61) (.pointer (some ⟨w4.heap.size, 2, none⟩)) (fuel := 7) rfl rfl (by kernel_rfl) (by kernel_rfl) (by kernel_rfl) (fun _ _ _ h => h) (by kernel_rfl) (by kernel_rfl) (fun ρ hr0 _ w hSw => by have m := hSw.2.1.cell (j := 2) (u := .slice xa2 tins.length xc2) rfl; simp [go_sem, hr0, m]) hHeld (tf 16383 21) (by kernel_rfl) (fun K hK => ?_)
                  go_big_move
                  refine hK.out _ ?_
                  clear hK K
                  refine fast_move 14 63 (.slice (some ⟨b0, off, none⟩) sn sc) (.tmp 2) (fuel := 6) rfl rfl (by kernel_rfl) (by kernel_rfl) (by kernel_rfl) (fun _ _ _ h => h) (by kernel_rfl) (by kernel_rfl) (by first | exact Or.inl rfl | exact Or.inr rfl) hHeld (tf 32767 21) (by kernel_rfl) (fun K hK => ?_)
                  go_big_move
                  refine hK.out _ ?_
                  clear hK K
                  refine fast_move 15 64 (.int .i64 (k : Int)) (.tmp 10) (fuel := 5) rfl rfl (by kernel_rfl) (by kernel_rfl) (by kernel_rfl) (fun _ _ _ h => h) (by kernel_rfl) (by kernel_rfl) (by first | exact Or.inl rfl | exact Or.inr rfl) hHeld (tf 65535 21) (by kernel_rfl) (fun K hK => ?_)
                  go_big_move
                  refine hK.out _ ?_
                  clear hK K
                  refine fast2 16 65 (.pointer (some ⟨b0, off + k * 3, none⟩)) (.tmp 63) (.slice (some ⟨b0, off, none⟩) sn sc) (.tmp 64) (.int .i64 (k : Int)) (fuel := 4) rfl rfl (by kernel_rfl) (by kernel_rfl) (by kernel_rfl) (fun _ _ _ h => h) (by kernel_rfl) (by kernel_rfl) (by kernel_rfl) (fun ρ hr0 hr1 _ w hSw => by have h1 := i1; have h2 := i2; simp [go_sem, hr0, hr1, h1, h2]) hHeld (tf 131071 21) (by kernel_rfl) (fun K hK => ?_)
                  go_big_move
                  refine hK.out _ ?_
                  clear hK K
                  refine fast1 17 66 (.pointer (some ⟨b0, off + k * 3 + 1, none⟩)) (.tmp 65) (.pointer (some ⟨b0, off + k * 3, none⟩)) (fuel := 3) rfl rfl (by kernel_rfl) (by kernel_rfl) (by kernel_rfl) (fun _ _ _ h => h) (by kernel_rfl) (by kernel_rfl) (fun ρ hr0 _ w hSw => by simp [go_sem, hr0]) hHeld (tf 262143 21) (by kernel_rfl) (fun K hK => ?_)
                  go_big_move
                  refine hK.out _ ?_
                  clear hK K
                  refine fast1 18 67 (.int .i64 x1) (.tmp 66) (.pointer (some ⟨b0, off + k * 3 + 1, none⟩)) (fuel := 2) rfl rfl (by kernel_rfl) (by kernel_rfl) (by kernel_rfl) (fun _ _ _ h => h) (by kernel_rfl) (by kernel_rfl) (fun ρ hr0 _ w hSw => by have m := (RX.out w hSw.1.1) 1 _ rfl; simp [go_sem, hr0, m]) hHeld (tf 524287 21) (by kernel_rfl) (fun K hK => ?_)
                  go_big_move
                  refine hK.out _ ?_
                  clear hK K
                  refine wpAnyH_ready (rs := [19]) (fuel := 1) (by kernel_rfl) (by simp) ?_
                  refine ready_want rfl (by kernel_rfl) (tf 1048575 21) (by kernel_rfl) (fun K hK => ?_) AllReadyH.nil
                  simp only [List.getElem_toArray, List.getElem_cons_succ, List.getElem_cons_zero]
                  go_big_op
                  refine (CX.out _ hHeld.2.2).mono ?_
                  rintro e w7 ⟨rfl, hb⟩
                  have hS : WitS w w7 (iaC st it a2 n2 c2 a3 n3 c3 a4 n4 c4 a5 n5 c5) (iaC su iu b2 m2 d2 b3 m3 d3 b4 m4 d4 b5 m5 d5) (iaC tst tit xa2 tins.length xc2 xa3 touts.length xc3 xa4 thids.length xc4 xa5 tsteps.length xc5) w4.heap.size ⟨tst, tit, tins, touts, thids, tsteps⟩ := hHeld.below hb
                  clear hb
                  refine hK.out _ _ hS (fun hHeld => ?_)
                  clear hK K
                  refine fast2 20 69 (.bool false) (.tmp 60) (.bool false) (.tmp 68) (.bool false) (fuel := 0) rfl rfl (by kernel_rfl) (by kernel_rfl) (by kernel_rfl) (fun _ _ _ h => h) (by kernel_rfl) (by kernel_rfl) (by kernel_rfl) (fun ρ hr0 hr1 hc w hSw => by simp [go_sem, hc, hr0, hr1]) hHeld (tf 2097151 21) (by kernel_rfl) (fun K hK => ?_)
                  go_big_move
                  refine hK.out _ ?_
                  clear hK K
                  refine wpAnyH_done (by kernel_rfl) ?_ _
                  have HZ2 : Hid (witR ⟨tst, tit, tins, touts, thids, tsteps⟩ CL (ws.drop (k + 1)) xx2 = r) := by
                    rw [HST2.out]
                    simp [he, Hid]
                  have HS2 := Lib.hid hHeld
                  have g2 := (RX.out _ hHeld.1.1) 2 _ rfl
                  clear HST2 SD hne hHeld
                  go_wp2_with fail
                  clear g2
                  go_roundw
                  case rel => exact ⟨k + 1, xx2, by omega, rfl, by go_num, HZ2.out, HS2.out⟩
                  case measure => simp [intOf]; omega
              · have hne : (x0 != z) = true := by simp [he]
                refine wp_region_tf (S := fun w' => WitS w w' (iaC st it a2 n2 c2 a3 n3 c3 a4 n4 c4 a5 n5 c5) (iaC su iu b2 m2 d2 b3 m3 d3 b4 m4 d4 b5 m5 d5) (iaC tst tit xa2 tins.length xc2 xa3 touts.length xc3 xa4 thids.length xc4 xa5 tsteps.length xc5) w4.heap.size ⟨tst, tit, tins, touts, thids, tsteps⟩) 21 (by kernel_rfl) (by kernel_rfl) (by kernel_rfl) SD (fun hHeld => ?_)
                refine fast_move 0 49 (.bool true) (.tmp 11) (fuel := 20) rfl rfl (by kernel_rfl) (by kernel_rfl) (by kernel_rfl) (fun _ _ _ h => h) (by kernel_rfl) (by kernel_rfl) (by first | exact Or.inl rfl | exact Or.inr rfl) hHeld (tf 1 21) (by kernel_rfl) (fun K hK => ?_)
                go_big_move
                refine hK.out _ ?_
                clear hK K
                refine fast1 1 50 (.bool false) (.tmp 49) (.bool true) (fuel := 19) rfl rfl (by kernel_rfl) (by kernel_rfl) (by kernel_rfl) (fun _ _ _ h => h) (by kernel_rfl) (by kernel_rfl) (fun ρ hr0 _ w hSw => by simp [go_sem, hr0]) hHeld (tf 3 21) (by kernel_rfl) (fun K hK => ?_)
                go_big_move
                refine hK.out _ ?_
                clear hK K
                refine fast_move 2 51 (.bool false) (.tmp 50) (fuel := 18) rfl rfl (by kernel_rfl) (by kernel_rfl) (by kernel_rfl) (fun _ _ _ h => h) (by kernel_rfl) (by kernel_rfl) (by first | exact Or.inl rfl | exact Or.inr rfl) hHeld (tf 7 21) (by kernel_rfl) (fun K hK => ?_)
                go_big_move
                refine hK.out _ ?_
                clear hK K
                refine fast_move 3 52 (.slice (some ⟨b0, off, none⟩) sn sc) (.tmp 2) (fuel := 17) rfl rfl (by kernel_rfl) (by kernel_rfl) (by kernel_rfl) (fun _ _ _ h => h) (by kernel_rfl) (by kernel_rfl) (by first | exact Or.inl rfl | exact Or.inr rfl) hHeld (tf 15 21) (by kernel_rfl) (fun K hK => ?_)
                go_big_move
                refine hK.out _ ?_
                clear hK K
                refine fast_move 4 53 (.int .i64 (k : Int)) (.tmp 10) (fuel := 16) rfl rfl (by kernel_rfl) (by kernel_rfl) (by kernel_rfl) (fun _ _ _ h => h) (by kernel_rfl) (by kernel_rfl) (by first | exact Or.inl rfl | exact Or.inr rfl) hHeld (tf 31 21) (by kernel_rfl) (fun K hK => ?_)
                go_big_move
                refine hK.out _ ?_
                clear hK K
                refine fast2 5 54 (.pointer (some ⟨b0, off + k * 3, none⟩)) (.tmp 52) (.slice (some ⟨b0, off, none⟩) sn sc) (.tmp 53) (.int .i64 (k : Int)) (fuel := 15) rfl rfl (by kernel_rfl) (by kernel_rfl) (by kernel_rfl) (fun _ _ _ h => h) (by kernel_rfl) (by kernel_rfl) (by kernel_rfl) (fun ρ hr0 hr1 _ w hSw => by have h1 := i1; have h2 := i2; simp [go_sem, hr0, hr1, h1, h2]) hHeld (tf 63 21) (by kernel_rfl) (fun K hK => ?_)
                go_big_move
                refine hK.out _ ?_
                clear hK K
                refine fast1 6 55 (.pointer (some ⟨b0, off + k * 3, none⟩)) (.tmp 54) (.pointer (some ⟨b0, off + k * 3, none⟩)) (fuel := 14) rfl rfl (by kernel_rfl) (by kernel_rfl) (by kernel_rfl) (fun _ _ _ h => h) (by kernel_rfl) (by kernel_rfl) (fun ρ hr0 _ w hSw => by simp [go_sem, hr0]) hHeld (tf 127 21) (by kernel_rfl) (fun K hK => ?_)
                go_big_move
                refine hK.out _ ?_
                clear hK K
                refine fast1 7 56 (.int .i64 x0) (.tmp 55) (.pointer (some ⟨b0, off + k * 3, none⟩)) (fuel := 13) rfl rfl (by kernel_rfl) (by kernel_rfl) (by kernel_rfl) (fun _ _ _ h => h) (by kernel_rfl) (by kernel_rfl) (fun ρ hr0 _ w hSw => by have m := (RX.out w hSw.1.1) 0 _ rfl; simp only [Nat.add_zero] at m; simp [go_sem, hr0, m]) hHeld (tf 255 21) (by kernel_rfl) (fun K hK => ?_)
                go_big_move
                refine hK.out _ ?_
                clear hK K
                refine fast_move 8 57 (.int .i64 z) (.tmp 9) (fuel := 12) rfl rfl (by kernel_rfl) (by kernel_rfl) (by kernel_rfl) (fun _ _ _ h => h) (by kernel_rfl) (by kernel_rfl) (by first | exact Or.inl rfl | exact Or.inr rfl) hHeld (tf 511 21) (by kernel_rfl) (fun K hK => ?_)
                go_big_move
                refine hK.out _ ?_
                clear hK K
                refine fast2 9 58 (.bool true) (.tmp 56) (.int .i64 x0) (.tmp 57) (.int .i64 z) (fuel := 11) rfl rfl (by kernel_rfl) (by kernel_rfl) (by kernel_rfl) (fun _ _ _ h => h) (by kernel_rfl) (by kernel_rfl) (by kernel_rfl) (fun ρ hr0 hr1 _ w hSw => by have hg := hne; simp [go_sem, hr0, hr1, hg]) hHeld (tf 1023 21) (by kernel_rfl) (fun K hK => ?_)
                go_big_move
                refine hK.out _ ?_
                clear hK K
                refine fast2 10 59 (.bool true) (.tmp 51) (.bool false) (.tmp 58) (.bool true) (fuel := 10) rfl rfl (by kernel_rfl) (by kernel_rfl) (by kernel_rfl) (fun _ _ _ h => h) (by kernel_rfl) (by kernel_rfl) (by kernel_rfl) (fun ρ hr0 hr1 hc w hSw => by simp [go_sem, hc, hr0, hr1]) hHeld (tf 2047 21) (by kernel_rfl) (fun K hK => ?_)
                go_big_move
                refine hK.out _ ?_
                clear hK K
                refine fast_move 11 60 (.bool true) (.tmp 59) (fuel := 9) rfl rfl (by kernel_rfl) (by kernel_rfl) (by kernel_rfl) (fun _ _ _ h => h) (by kernel_rfl) (by kernel_rfl) (by first | exact Or.inl rfl | exact Or.inr rfl) hHeld (tf 4095 21) (by kernel_rfl) (fun K hK => ?_)
                go_big_move
                refine hK.out _ ?_
                clear hK K
                refine fast_skip 12 61 (fuel := 8) rfl rfl (by kernel_rfl) (by kernel_rfl) (by kernel_rfl) (fun _ _ _ h => h) (by kernel_rfl) hHeld (tf 8191 21) (by kernel_rfl) (fun K hK => ?_)
                go_big_move
                refine hK.out _ ?_
                clear hK K
                refine fast_skip 13 62 (fuel := 7) rfl rfl (by kernel_rfl) (by kernel_rfl) (by kernel_rfl) (fun _ _ _ h => h) (by kernel_rfl) hHeld (tf 16383 21) (by kernel_rfl) (fun K hK => ?_)
                go_big_move
                refine hK.out _ ?_
                clear hK K
                refine fast_skip 14 63 (fuel := 6) rfl rfl (by kernel_rfl) (by kernel_rfl) (by kernel_rfl) (fun _ _ _ h => h) (by kernel_rfl) hHeld (tf 32767 21) (by kernel_rfl) (fun K hK => ?_)
                go_big_move
                refine hK.out _ ?_
                clear hK K
                refine fast_skip 15 64 (fuel := 5) rfl rfl (by kernel_rfl) (by kernel_rfl) (by kernel_rfl) (fun _ _ _ h => h) (by kernel_rfl) hHeld (tf 65535 21) (by kernel_rfl) (fun K hK => ?_)
                go_big_move
                refine hK.out _ ?_
                clear hK K
                refine fast_skip 16 65 (fuel := 4) rfl rfl (by kernel_rfl) (by kernel_rfl) (by kernel_rfl) (fun _ _ _ h => h) (by kernel_rfl) hHeld (tf 131071 21) (by kernel_rfl) (fun K hK => ?_)
                go_big_move
                refine hK.out _ ?_
                clear hK K
                refine fast_skip 17 66 (fuel := 3) rfl rfl (by kernel_rfl) (by kernel_rfl) (by kernel_rfl) (fun _ _ _ h => h) (by kernel_rfl) hHeld (tf 262143 21) (by kernel_rfl) (fun K hK => ?_)
                go_big_move
                refine hK.out _ ?_
                clear hK K
                refine fast_skip 18 67 (fuel := 2) rfl rfl (by kernel_rfl) (by kernel_rfl) (by kernel_rfl) (fun _ _ _ h => h) (by kernel_rfl) hHeld (tf 524287 21) (by kernel_rfl) (fun K hK => ?_)
                go_big_move
                refine hK.out _ ?_
                clear hK K
                refine fast_skip 19 68 (fuel := 1) rfl rfl (by kernel_rfl) (by kernel_rfl) (by kernel_rfl) (fun _ _ _ h => h) (by kernel_rfl) hHeld (tf 1048575 21) (by kernel_rfl) (fun K hK => ?_)
                go_big_move
                refine hK.out _ ?_
                clear hK K
                refine fast2 20 69 (.bool true) (.tmp 60) (.bool true) (.tmp 68) (undef) (fuel := 0) rfl rfl (by kernel_rfl) (by kernel_rfl) (by kernel_rfl) (fun _ _ _ h => h) (by kernel_rfl) (by kernel_rfl) (by kernel_rfl) (fun ρ hr0 hr1 hc w hSw => by simp [go_sem, hc, hr0, hr1]) hHeld (tf 2097151 21) (by kernel_rfl) (fun K hK => ?_)
                go_big_move
                refine hK.out _ ?_
                clear hK K
                refine wpAnyH_done (by kernel_rfl) ?_ _
                have hr0 : r = false := by rw [HST2.out]; simp [he]
                clear HST2 SD hne
                subst hr0
                go_wp2_with fail
                go_ret
                exact ⟨rfl, hHeld.1.1⟩
      · obtain rfl : sn = k := by omega
        have HZ : Hid (hasB CL z = r) := by
          have h1 := HZ.out
          rw [List.drop_eq_nil_of_le (by rw [HL.out]; omega)] at h1
          exact h1
        clear RW HL CX0 RY0
        have ca0 := HS.out.1.2.1.cell (j := 0) (u := .int .i64 st) rfl
        have ca1 := HS.out.1.2.1.cell (j := 1) (u := .int .i64 it) rfl
        have ca2 := HS.out.1.2.1.cell (j := 2) (u := .slice a2 n2 c2) rfl
        have ca3 := HS.out.1.2.1.cell (j := 3) (u := .slice a3 n3 c3) rfl
        have ca4 := HS.out.1.2.1.cell (j := 4) (u := .slice a4 n4 c4) rfl
        have ca5 := HS.out.1.2.1.cell (j := 5) (u := .slice a5 n5 c5) rfl
        have cb0 := HS.out.1.2.2.cell (j := 0) (u := .int .i64 su) rfl
        have cb1 := HS.out.1.2.2.cell (j := 1) (u := .int .i64 iu) rfl
        have cb2 := HS.out.1.2.2.cell (j := 2) (u := .slice b2 m2 d2) rfl
        have cb3 := HS.out.1.2.2.cell (j := 3) (u := .slice b3 m3 d3) rfl
        have cb4 := HS.out.1.2.2.cell (j := 4) (u := .slice b4 m4 d4) rfl
        have cb5 := HS.out.1.2.2.cell (j := 5) (u := .slice b5 m5 d5) rfl
        go_wp2_with fail
        clear ca0 ca1 ca2 ca3 ca4 ca5 cb0 cb1 cb2 cb3 cb4 cb5
        refine (CC.out _ HS.out.1.1).mono ?_
        rintro e w8 ⟨ad, cc, rfl, hrow, hb⟩
        have B8 := Lib.hid (HS.out.1.below hb).1
        have RC := Lib.hid hrow
        clear hb hrow HS
        go_wp2_with fail
        refine (CH.out _ _ _ _ RC.out).mono ?_
        rintro e w9 ⟨rfl, hb⟩
        have B9 : Hid (Below w.heap.size w w9) := B8.out.trans (hb.mono B8.out.size)
        clear hb B8 RC
        go_wp2_with fail
        go_ret
        exact ⟨ret_bool (by rw [← HZ.out]), B9.out⟩

end Go.Proofs.YtdbgjgeglgipiaaGreat

/-
  The contracts of the program's isUnasked and WitnessOk. Conditions: lists of at most 2^20 elements.
-/
namespace Go.Proofs.YtdbgjgeglgipiaaGreat
open Go.RowKit

set_option maxRecDepth 20000 in
set_option maxHeartbeats 1600000 in
theorem isUnasked_any (P : IaD) (v : Value) (x : St) (w : World) (h : IaRow w P v) (hf : Small P) (hs : P.steps.Pairwise Ahead) :
    Calls Tryz.prog 25 #[v, .agg #[.int .i64 x.1, .int .i64 x.2.1, .int .i64 x.2.2]] w fun e w' => e = .returned (.bool (unaskedB P x)) ∧ Below w.heap.size w w' := by
  obtain ⟨a2, n2, c2, a3, n3, c3, a4, n4, c4, a5, n5, c5, rfl, r2, r3, r4, r5⟩ := h
  obtain ⟨st, it, ins, outs, hids, steps⟩ := P
  obtain ⟨f2, f3, f4, f5⟩ := hf
  simp only at r2 r3 r4 r5 f2 f5 hs
  have e2 := r2.1
  have e5 := r5.1
  obtain ⟨q, hq⟩ : ∃ q, q = decide (x ∈ steps) := ⟨_, rfl⟩
  obtain ⟨p, hp⟩ : ∃ q, q = hasB ins x.2.1 := ⟨_, rfl⟩
  have HR : Hid (unaskedB ⟨st, it, ins, outs, hids, steps⟩ x = (q && !p)) := by
    rw [hq, hp]
    rfl
  obtain ⟨r, hr⟩ : ∃ r, r = unaskedB ⟨st, it, ins, outs, hids, steps⟩ x := ⟨_, rfl⟩
  rw [← hr] at HR ⊢
  have CB : Hid (∀ W, Below w.heap.size w W → Calls Tryz.prog 59 #[.slice a5 n5 c5, .agg #[.int .i64 x.1, .int .i64 x.2.1, .int .i64 x.2.2], .func (.func 55) #[] #[]] W fun e w' => ∃ i : Int, e = .returned (.tuple #[.int .i64 i, .bool q]) ∧ Below W.heap.size W w') := fun W hW => by
    rw [hq]
    exact binSearch_any a5 n5 c5 steps x W (r5.below hW) (by omega) hs
  have CS : Hid (∀ W, Below w.heap.size w W → Calls Tryz.prog 26 #[.slice a2 n2 c2, .int .i64 x.2.1] W fun e w' => e = .returned (.bool p) ∧ Below W.heap.size W w') := fun W hW => by
    rw [hp]
    exact (implSetHas_any a2 n2 c2 x.2.1 ins W (r2.below hW) (by omega)).mono fun e w' h => ⟨h.1, by rw [h.2]; exact Below.refl _ _⟩
  obtain ⟨x0, x1, x2⟩ := x
  simp only at CB CS HR ⊢
  have V0 : Hid (VarIs ((w.alloc (.cells #[.int .i64 st, .int .i64 it, .slice a2 n2 c2, .slice a3 n3 c3, .slice a4 n4 c4, .slice a5 n5 c5] 31)).alloc (.cells #[.int .i64 x0, .int .i64 x1, .int .i64 x2] 48)) w.heap.size #[.int .i64 st, .int .i64 it, .slice a2 n2 c2, .slice a3 n3 c3, .slice a4 n4 c4, .slice a5 n5 c5] 31) := (VarIs.new w _ _ rfl).alloc _
  have V1 : Hid (VarIs ((w.alloc (.cells #[.int .i64 st, .int .i64 it, .slice a2 n2 c2, .slice a3 n3 c3, .slice a4 n4 c4, .slice a5 n5 c5] 31)).alloc (.cells #[.int .i64 x0, .int .i64 x1, .int .i64 x2] 48)) (w.heap.size + 1) #[.int .i64 x0, .int .i64 x1, .int .i64 x2] 48) := VarIs.new _ _ _ (by simp)
  have B0 : Hid (Below w.heap.size w ((w.alloc (.cells #[.int .i64 st, .int .i64 it, .slice a2 n2 c2, .slice a3 n3 c3, .slice a4 n4 c4, .slice a5 n5 c5] 31)).alloc (.cells #[.int .i64 x0, .int .i64 x1, .int .i64 x2] 48))) := ((Below.refl _ _).alloc (Nat.le_refl _) _).alloc (by simp) _
  clear hq hp hr e2 e5 r2 r3 r4 r5 f2 f3 f4 f5 hs
  have m5 := V0.out.cell (j := 5) (u := .slice a5 n5 c5) rfl
  have s0 := V1.out.cell (j := 0) (u := .int .i64 x0) rfl
  have s1 := V1.out.cell (j := 1) (u := .int .i64 x1) rfl
  have s2 := V1.out.cell (j := 2) (u := .int .i64 x2) rfl
  go_enter Tryz.func25, Tryz.ntmps25
  go_wp2_with fail
  clear m5 s0 s1 s2
  refine (CB.out _ B0.out).mono ?_
  rintro e w1 ⟨i, rfl, hb⟩
  have B1 : Hid (Below w.heap.size w w1) := B0.out.trans (hb.mono B0.out.size)
  have V2 := Lib.hid (V0.out.below hb)
  have V3 := Lib.hid (V1.out.below hb)
  clear hb B0 V0 V1 CB
  simp only
  cases q with
  | false =>
    have hr0 : r = false := by rw [HR.out]; rfl
    clear HR
    subst hr0
    go_wp2_with fail
    go_ret
    exact ⟨rfl, B1.out⟩
  | true =>
    have HR2 : Hid (r = !p) := by rw [HR.out]; simp [Hid]
    clear HR
    have m2 := V2.out.cell (j := 2) (u := .slice a2 n2 c2) rfl
    have s1 := V3.out.cell (j := 1) (u := .int .i64 x1) rfl
    go_wp2_with fail
    clear m2 s1
    refine (CS.out _ B1.out).mono ?_
    rintro e w2 ⟨rfl, hb⟩
    have B2 : Hid (Below w.heap.size w w2) := B1.out.trans (hb.mono B1.out.size)
    clear hb B1 CS V2 V3
    cases p with
    | true =>
      have hr0 : r = false := HR2.out
      clear HR2
      subst hr0
      go_wp2_with fail
      go_ret
      exact ⟨rfl, B2.out⟩
    | false =>
      have hr0 : r = true := HR2.out
      clear HR2
      subst hr0
      go_wp2_with fail
      go_ret
      exact ⟨rfl, B2.out⟩

set_option maxRecDepth 20000 in
set_option maxHeartbeats 12800000 in
theorem implWitnessOk_any (a b : IaD) (v u : Value) (sa : Option Addr) (sn sc : Nat) (ws : List St) (w : World) (h : IaRow w a v) (k : IaRow w b u) (fa : Small a) (fb : Small b) (rs : RowS w sa sn ws) (hsn : sn ≤ 1048576) :
    Calls Tryz.prog 10 #[v, u, .slice sa sn sc] w fun e w' => e = .returned (.bool (witB a b ws)) ∧ Below w.heap.size w w' := by
  obtain ⟨q, hq⟩ : ∃ q, q = prodB a b := ⟨_, rfl⟩
  obtain ⟨⟨tst, tit, tins, touts, thids, tsteps⟩, hT⟩ : ∃ t, t = prodIa a b := ⟨_, rfl⟩
  have HOK : Hid (q = true → iaOkB ⟨tst, tit, tins, touts, thids, tsteps⟩ = true) := fun e => by
    have h1 : prodB a b = true := by rw [← hq]; exact e
    rw [hT]
    unfold prodIa
    rw [if_pos h1]
    exact prod_ok h1
  obtain ⟨x2, x3, x4, x5⟩ := prod_small fa fb
  rw [← hT] at x2 x3 x4 x5
  simp only at x2 x3 x4 x5
  have CPr : Hid (∀ W, Below w.heap.size w W → Calls Tryz.prog 24 #[v, u] W fun e w' => ∃ (xa2 : Option Addr) (xc2 : Nat) (xa3 : Option Addr) (xc3 : Nat) (xa4 : Option Addr) (xc4 : Nat) (xa5 : Option Addr) (xc5 : Nat), e = .returned (.tuple #[.agg #[.int .i64 tst, .int .i64 tit, .slice xa2 tins.length xc2, .slice xa3 touts.length xc3, .slice xa4 thids.length xc4, .slice xa5 tsteps.length xc5], .bool q]) ∧ IaHigh w' W.heap.size ⟨tst, tit, tins, touts, thids, tsteps⟩ (.agg #[.int .i64 tst, .int .i64 tit, .slice xa2 tins.length xc2, .slice xa3 touts.length xc3, .slice xa4 thids.length xc4, .slice xa5 tsteps.length xc5]) ∧ Below W.heap.size W w') := fun W hW => by
    rw [hq, hT]
    refine (implProduct_any a b v u W (h.below hW) (k.below hW) fa fb).mono fun e w' ⟨v', he, ho, hb⟩ => ?_
    rw [← hT] at ho ⊢
    have ho := ho.high
    obtain ⟨_, _, _, _, _, _, _, _, rfl, _⟩ := ho.rowOf
    exact ⟨_, _, _, _, _, _, _, _, he, ho, hb⟩
  obtain ⟨CL, hCL⟩ : ∃ l, l = clashesOf a b := ⟨_, rfl⟩
  have hcl : CL.length ≤ 2097152 := by rw [hCL]; exact clashes_len2w
  obtain ⟨r, hr⟩ : ∃ r, r = witB a b ws := ⟨_, rfl⟩
  rw [← hr]
  have HR : Hid (r = (q && witR ⟨tst, tit, tins, touts, thids, tsteps⟩ CL ws tit)) := by
    unfold Hid
    rw [hr, hq, hCL]
    unfold witB
    rw [← hT]
  have HL := Lib.hid rs.1
  have RW : Hid (∀ W i, Below w.heap.size w W → i < sn → ∃ (x : St) (b0 off : Nat), ws[i]? = some x ∧ sa = some ⟨b0, off, none⟩ ∧ W.cell? ⟨b0, off + i * 3, none⟩ = some (.int .i64 x.1) ∧ W.cell? ⟨b0, off + i * 3 + 1, none⟩ = some (.int .i64 x.2.1) ∧ W.cell? ⟨b0, off + i * 3 + 2, none⟩ = some (.int .i64 x.2.2)) := fun W i hW hi => by
    obtain ⟨b0, off, e, hlt, hc⟩ := rs.2 (by omega)
    have hix : i < ws.length := by rw [rs.1]; exact hi
    obtain ⟨c0, c1, c2⟩ := hc i ws[i] (List.getElem?_eq_getElem hix)
    exact ⟨ws[i], b0, off, List.getElem?_eq_getElem hix, e, (hW.cell (p := ⟨b0, off + i * 3, none⟩) hlt).trans c0, (hW.cell (p := ⟨b0, off + i * 3 + 1, none⟩) hlt).trans c1, (hW.cell (p := ⟨b0, off + i * 3 + 2, none⟩) hlt).trans c2⟩
  clear hr hq hT rs
  obtain ⟨a2, n2, c2, a3, n3, c3, a4, n4, c4, a5, n5, c5, rfl, r2, r3, r4, r5⟩ := h
  obtain ⟨b2, m2, d2, b3, m3, d3, b4, m4, d4, b5, m5, d5, rfl, q2, q3, q4, q5⟩ := k
  obtain ⟨st, it, ins, outs, hids, steps⟩ := a
  obtain ⟨su, iu, jns, juts, jids, jteps⟩ := b
  have HA : Hid (∀ W, Below w.heap.size w W → IaRow W ⟨st, it, ins, outs, hids, steps⟩ (.agg #[.int .i64 st, .int .i64 it, .slice a2 n2 c2, .slice a3 n3 c3, .slice a4 n4 c4, .slice a5 n5 c5])) := fun W hW => IaRow.below ⟨a2, n2, c2, a3, n3, c3, a4, n4, c4, a5, n5, c5, rfl, r2, r3, r4, r5⟩ hW
  have HB : Hid (∀ W, Below w.heap.size w W → IaRow W ⟨su, iu, jns, juts, jids, jteps⟩ (.agg #[.int .i64 su, .int .i64 iu, .slice b2 m2 d2, .slice b3 m3 d3, .slice b4 m4 d4, .slice b5 m5 d5])) := fun W hW => IaRow.below ⟨b2, m2, d2, b3, m3, d3, b4, m4, d4, b5, m5, d5, rfl, q2, q3, q4, q5⟩ hW
  have S0 := Lib.hid (Box2.start w (iaC st it a2 n2 c2 a3 n3 c3 a4 n4 c4 a5 n5 c5) (iaC su iu b2 m2 d2 b3 m3 d3 b4 m4 d4 b5 m5 d5) 31)
  have CC : Hid (∀ W, Below w.heap.size w W → Calls Tryz.prog 27 #[.agg #[.int .i64 st, .int .i64 it, .slice a2 n2 c2, .slice a3 n3 c3, .slice a4 n4 c4, .slice a5 n5 c5], .agg #[.int .i64 su, .int .i64 iu, .slice b2 m2 d2, .slice b3 m3 d3, .slice b4 m4 d4, .slice b5 m5 d5]] W fun e w' => ∃ ad cc, e = .returned (.slice ad CL.length cc) ∧ Row w' ad CL.length CL ∧ Below W.heap.size W w') := fun W hW => by
    rw [hCL]
    refine (implClashes_any ⟨st, it, ins, outs, hids, steps⟩ ⟨su, iu, jns, juts, jids, jteps⟩ _ _ W (HA.out W hW) (HB.out W hW) fa fb).mono fun e w' h => ?_
    obtain ⟨v', he, ho, hb⟩ := h
    obtain ⟨ad, cc, rfl⟩ := ho.form
    exact ⟨ad, cc, he, ho.row.2.2.2, hb⟩
  have CH : Hid (∀ W ad cc z, Row W ad CL.length CL → Calls Tryz.prog 26 #[.slice ad CL.length cc, .int .i64 z] W fun e w' => e = .returned (.bool (hasB CL z)) ∧ Below W.heap.size W w') := fun W ad cc z hr => (implSetHas_any ad CL.length cc z CL W hr (by omega)).mono fun e w' h => ⟨h.1, by rw [h.2]; exact Below.refl _ _⟩
  clear hCL r2 r3 r4 r5 q2 q3 q4 q5 fa fb
  have ca0 := S0.out.2.1.cell (j := 0) (u := .int .i64 st) rfl
  have ca1 := S0.out.2.1.cell (j := 1) (u := .int .i64 it) rfl
  have ca2 := S0.out.2.1.cell (j := 2) (u := .slice a2 n2 c2) rfl
  have ca3 := S0.out.2.1.cell (j := 3) (u := .slice a3 n3 c3) rfl
  have ca4 := S0.out.2.1.cell (j := 4) (u := .slice a4 n4 c4) rfl
  have ca5 := S0.out.2.1.cell (j := 5) (u := .slice a5 n5 c5) rfl
  have cb0 := S0.out.2.2.cell (j := 0) (u := .int .i64 su) rfl
  have cb1 := S0.out.2.2.cell (j := 1) (u := .int .i64 iu) rfl
  have cb2 := S0.out.2.2.cell (j := 2) (u := .slice b2 m2 d2) rfl
  have cb3 := S0.out.2.2.cell (j := 3) (u := .slice b3 m3 d3) rfl
  have cb4 := S0.out.2.2.cell (j := 4) (u := .slice b4 m4 d4) rfl
  have cb5 := S0.out.2.2.cell (j := 5) (u := .slice b5 m5 d5) rfl
  go_enter Tryz.func10, Tryz.ntmps10
  go_wp2_with fail
  clear ca0 ca1 ca2 ca3 ca4 ca5 cb0 cb1 cb2 cb3 cb4 cb5
  refine (CPr.out _ S0.out.1).mono ?_
  rintro e w4 ⟨xa2, xc2, xa3, xc3, xa4, xc4, xa5, xc5, rfl, hT4, hb⟩
  have bx := (Below.refl w4.heap.size w4).alloc (Nat.le_refl _) (.cells #[.int .i64 tst, .int .i64 tit, .slice xa2 tins.length xc2, .slice xa3 touts.length xc3, .slice xa4 thids.length xc4, .slice xa5 tsteps.length xc5] 31)
  have S4 := S0.out.below hb
  have S5 : Hid (WitS w (w4.alloc (.cells #[.int .i64 tst, .int .i64 tit, .slice xa2 tins.length xc2, .slice xa3 touts.length xc3, .slice xa4 thids.length xc4, .slice xa5 tsteps.length xc5] 31)) (iaC st it a2 n2 c2 a3 n3 c3 a4 n4 c4 a5 n5 c5) (iaC su iu b2 m2 d2 b3 m3 d3 b4 m4 d4 b5 m5 d5) (iaC tst tit xa2 tins.length xc2 xa3 touts.length xc3 xa4 thids.length xc4 xa5 tsteps.length xc5) w4.heap.size ⟨tst, tit, tins, touts, thids, tsteps⟩) := ⟨S4.below bx, VarIs.new w4 #[.int .i64 tst, .int .i64 tit, .slice xa2 tins.length xc2, .slice xa3 touts.length xc3, .slice xa4 thids.length xc4, .slice xa5 tsteps.length xc5] 31 rfl, hT4.rowIa.below bx⟩
  obtain ⟨w5, hw5⟩ : ∃ x, x = w4.alloc (.cells #[.int .i64 tst, .int .i64 tit, .slice xa2 tins.length xc2, .slice xa3 touts.length xc3, .slice xa4 thids.length xc4, .slice xa5 tsteps.length xc5] 31) := ⟨_, rfl⟩
  clear hb hT4 bx S4 S0 CPr HA HB
  cases q with
  | false =>
    have hr0 : r = false := by rw [HR.out]; rfl
    clear HR
    subst hr0
    simp only
    go_wp2_with fail
    go_ret
    exact ⟨rfl, S5.out.1.1⟩
  | true =>
    have HOK2 := Lib.hid (HOK.out rfl)
    have HR2 : Hid (witR ⟨tst, tit, tins, touts, thids, tsteps⟩ CL (ws.drop 0) tit = r) := by
      rw [HR.out, List.drop_zero]
      rfl
    clear HR HOK
    have mt := S5.out.2.1.cell (j := 1) (u := .int .i64 tit) rfl
    simp only
    go_wp2_with fail
    clear mt
    rw [← hw5] at S5 ⊢
    clear hw5
    have CU : Hid (∀ W (x : St), IaRow W ⟨tst, tit, tins, touts, thids, tsteps⟩ (.agg #[.int .i64 tst, .int .i64 tit, .slice xa2 tins.length xc2, .slice xa3 touts.length xc3, .slice xa4 thids.length xc4, .slice xa5 tsteps.length xc5]) → Calls Tryz.prog 25 #[.agg #[.int .i64 tst, .int .i64 tit, .slice xa2 tins.length xc2, .slice xa3 touts.length xc3, .slice xa4 thids.length xc4, .slice xa5 tsteps.length xc5], .agg #[.int .i64 x.1, .int .i64 x.2.1, .int .i64 x.2.2]] W fun e w' => e = .returned (.bool (unaskedB ⟨tst, tit, tins, touts, thids, tsteps⟩ x)) ∧ Below W.heap.size W w') := fun W x hr => isUnasked_any ⟨tst, tit, tins, touts, thids, tsteps⟩ _ x W hr ⟨x2, x3, x4, x5⟩ (stepsB_rise _ _ (iaOk_steps HOK2.out))
    clear HOK2
    go_loopw [9, 24] (fun av iv wr => ∃ (k : Nat) (z : Int), k ≤ sn ∧ av = .int .i64 z ∧ iv = .int .i64 (k : Int) ∧ Hid (witR ⟨tst, tit, tins, touts, thids, tsteps⟩ CL (ws.drop k) z = r) ∧ Hid (WitS w wr (iaC st it a2 n2 c2 a3 n3 c3 a4 n4 c4 a5 n5 c5) (iaC su iu b2 m2 d2 b3 m3 d3 b4 m4 d4 b5 m5 d5) (iaC tst tit xa2 tins.length xc2 xa3 touts.length xc3 xa4 thids.length xc4 xa5 tsteps.length xc5) w4.heap.size ⟨tst, tit, tins, touts, thids, tsteps⟩)) (fun _ iv _ => sn - (intOf iv).toNat)
    case atStart => exact ⟨0, tit, Nat.zero_le _, rfl, rfl, HR2.out, S5.out⟩
    case round =>
      clear S5 HR2
      obtain ⟨k, z, hk, rfl, rfl, HZ, HS⟩ := hrel
      by_cases hlt : k < sn
      · obtain ⟨x, b0, off, hx, rfl, g0, g1, g2⟩ := RW.out wr k HS.out.1.1 hlt
        have hkx : k < ws.length := by rw [HL.out]; exact hlt
        have hx2 : ws[k] = x := Option.some.inj ((List.getElem?_eq_getElem hkx).symm.trans hx)
        obtain ⟨un, hun⟩ : ∃ u, u = unaskedB ⟨tst, tit, tins, touts, thids, tsteps⟩ x := ⟨_, rfl⟩
        have HST : Hid (r = (decide (x.1 = z) && un && witR ⟨tst, tit, tins, touts, thids, tsteps⟩ CL (ws.drop (k + 1)) x.2.2)) := by
          have h1 := HZ.out
          rw [witR_step hkx, hx2, ← hun] at h1
          exact h1.symm
        have CUx : Hid (∀ W, IaRow W ⟨tst, tit, tins, touts, thids, tsteps⟩ (.agg #[.int .i64 tst, .int .i64 tit, .slice xa2 tins.length xc2, .slice xa3 touts.length xc3, .slice xa4 thids.length xc4, .slice xa5 tsteps.length xc5]) → Calls Tryz.prog 25 #[.agg #[.int .i64 tst, .int .i64 tit, .slice xa2 tins.length xc2, .slice xa3 touts.length xc3, .slice xa4 thids.length xc4, .slice xa5 tsteps.length xc5], .agg #[.int .i64 x.1, .int .i64 x.2.1, .int .i64 x.2.2]] W fun e w' => e = .returned (.bool un) ∧ Below W.heap.size W w') := fun W hr => by
          rw [hun]
          exact CU.out W x hr
        have i1 : (0 : Int) ≤ (k : Int) := by omega
        have i2 : (k : Int) < (sn : Int) := by omega
        have S6 : Hid (WitS w (wr.alloc (.cells #[.int .i64 x.1, .int .i64 x.2.1, .int .i64 x.2.2] 48)) (iaC st it a2 n2 c2 a3 n3 c3 a4 n4 c4 a5 n5 c5) (iaC su iu b2 m2 d2 b3 m3 d3 b4 m4 d4 b5 m5 d5) (iaC tst tit xa2 tins.length xc2 xa3 touts.length xc3 xa4 thids.length xc4 xa5 tsteps.length xc5) w4.heap.size ⟨tst, tit, tins, touts, thids, tsteps⟩) := HS.out.below ((Below.refl _ _).alloc (Nat.le_refl _) _)
        have VX : Hid (VarIs (wr.alloc (.cells #[.int .i64 x.1, .int .i64 x.2.1, .int .i64 x.2.2] 48)) wr.heap.size #[.int .i64 x.1, .int .i64 x.2.1, .int .i64 x.2.2] 48) := VarIs.new wr _ _ rfl
        clear hx hx2 hun HZ HS hkx
        obtain ⟨x0, x1, xx2⟩ := x
        simp only at g0 g1 g2 HST CUx S6 VX
        have s0 := VX.out.cell (j := 0) (u := .int .i64 x0) rfl
        have s1 := VX.out.cell (j := 1) (u := .int .i64 x1) rfl
        have s2 := VX.out.cell (j := 2) (u := .int .i64 xx2) rfl
        have mq0 := S6.out.2.1.cell (j := 0) (u := .int .i64 tst) rfl
        have mq1 := S6.out.2.1.cell (j := 1) (u := .int .i64 tit) rfl
        have mq2 := S6.out.2.1.cell (j := 2) (u := .slice xa2 tins.length xc2) rfl
        have mq3 := S6.out.2.1.cell (j := 3) (u := .slice xa3 touts.length xc3) rfl
        have mq4 := S6.out.2.1.cell (j := 4) (u := .slice xa4 thids.length xc4) rfl
        have mq5 := S6.out.2.1.cell (j := 5) (u := .slice xa5 tsteps.length xc5) rfl
        by_cases he : x0 = z
        · subst he
          have he1 : (x0 != x0) = false := by simp
          go_wp2_with fail
          clear s0 s1 s2 mq0 mq1 mq2 mq3 mq4 mq5 g0 g1 g2 he1
          refine (CUx.out _ S6.out.2.2).mono ?_
          rintro e w7 ⟨rfl, hb⟩
          have S7 := Lib.hid (S6.out.below hb)
          have VX7 := Lib.hid (VX.out.below hb)
          clear hb S6 VX CUx
          cases un with
          | false =>
            have hr0 : r = false := by rw [HST.out]; simp
            clear HST CU
            subst hr0
            go_wp2_with fail
            go_ret
            exact ⟨rfl, S7.out.1.1⟩
          | true =>
            have HZ2 : Hid (witR ⟨tst, tit, tins, touts, thids, tsteps⟩ CL (ws.drop (k + 1)) xx2 = r) := by
              rw [HST.out]
              simp [Hid]
            clear HST
            have s2 := VX7.out.cell (j := 2) (u := .int .i64 xx2) rfl
            go_wp2_with fail
            clear s2 VX7
            go_roundw
            case rel => exact ⟨k + 1, xx2, by omega, rfl, by go_num, HZ2.out, S7.out⟩
            case measure => simp [intOf]; omega
        · have he1 : (x0 != z) = true := by simp [he]
          have hr0 : r = false := by rw [HST.out]; simp [he]
          clear HST CU CUx
          subst hr0
          go_wp2_with fail
          go_ret
          exact ⟨rfl, S6.out.1.1⟩
      · obtain rfl : sn = k := by omega
        have HZ : Hid (hasB CL z = r) := by
          have h1 := HZ.out
          rw [List.drop_eq_nil_of_le (by rw [HL.out]; omega)] at h1
          exact h1
        clear CU RW HL
        have ca0 := HS.out.1.2.1.cell (j := 0) (u := .int .i64 st) rfl
        have ca1 := HS.out.1.2.1.cell (j := 1) (u := .int .i64 it) rfl
        have ca2 := HS.out.1.2.1.cell (j := 2) (u := .slice a2 n2 c2) rfl
        have ca3 := HS.out.1.2.1.cell (j := 3) (u := .slice a3 n3 c3) rfl
        have ca4 := HS.out.1.2.1.cell (j := 4) (u := .slice a4 n4 c4) rfl
        have ca5 := HS.out.1.2.1.cell (j := 5) (u := .slice a5 n5 c5) rfl
        have cb0 := HS.out.1.2.2.cell (j := 0) (u := .int .i64 su) rfl
        have cb1 := HS.out.1.2.2.cell (j := 1) (u := .int .i64 iu) rfl
        have cb2 := HS.out.1.2.2.cell (j := 2) (u := .slice b2 m2 d2) rfl
        have cb3 := HS.out.1.2.2.cell (j := 3) (u := .slice b3 m3 d3) rfl
        have cb4 := HS.out.1.2.2.cell (j := 4) (u := .slice b4 m4 d4) rfl
        have cb5 := HS.out.1.2.2.cell (j := 5) (u := .slice b5 m5 d5) rfl
        go_wp2_with fail
        clear ca0 ca1 ca2 ca3 ca4 ca5 cb0 cb1 cb2 cb3 cb4 cb5
        refine (CC.out _ HS.out.1.1).mono ?_
        rintro e w8 ⟨ad, cc, rfl, hrow, hb⟩
        have B8 := Lib.hid (HS.out.1.below hb).1
        have RC := Lib.hid hrow
        clear hb hrow HS
        go_wp2_with fail
        refine (CH.out _ _ _ _ RC.out).mono ?_
        rintro e w9 ⟨rfl, hb⟩
        have B9 : Hid (Below w.heap.size w w9) := B8.out.trans (hb.mono B8.out.size)
        clear hb B8 RC
        go_wp2_with fail
        go_ret
        exact ⟨ret_bool (by rw [← HZ.out]), B9.out⟩

end Go.Proofs.YtdbgjgeglgipiaaGreat

/-
  The walk of the law FnExactWitnessOk: it returns true at every argument and writes nothing that was there. Conditions: none.
-/
namespace Go.Proofs.YtdbgjgeglgipiaaGreat
open Go.RowKit

set_option maxRecDepth 20000 in
set_option maxHeartbeats 6400000 in
theorem walk_FnExactWitnessOk (st_0 it_0 : Int) (a2_0 : Option Addr) (n2_0 c2_0 : Nat) (z2_0 : List Int) (a3_0 : Option Addr) (n3_0 c3_0 : Nat) (z3_0 : List Int) (a4_0 : Option Addr) (n4_0 c4_0 : Nat) (z4_0 : List Int) (a5_0 : Option Addr) (n5_0 c5_0 : Nat) (z5_0 : List St) (st_1 it_1 : Int) (a2_1 : Option Addr) (n2_1 c2_1 : Nat) (z2_1 : List Int) (a3_1 : Option Addr) (n3_1 c3_1 : Nat) (z3_1 : List Int) (a4_1 : Option Addr) (n4_1 c4_1 : Nat) (z4_1 : List Int) (a5_1 : Option Addr) (n5_1 c5_1 : Nat) (z5_1 : List St) (a_2 : Option Addr) (n_2 c_2 : Nat) (z_2 : List St) (w : World) (i2_0 : IsRow .i64 w a2_0 n2_0 c2_0 z2_0) (i3_0 : IsRow .i64 w a3_0 n3_0 c3_0 z3_0) (i4_0 : IsRow .i64 w a4_0 n4_0 c4_0 z4_0) (i5_0 : IsRowS w a5_0 n5_0 c5_0 z5_0) (i2_1 : IsRow .i64 w a2_1 n2_1 c2_1 z2_1) (i3_1 : IsRow .i64 w a3_1 n3_1 c3_1 z3_1) (i4_1 : IsRow .i64 w a4_1 n4_1 c4_1 z4_1) (i5_1 : IsRowS w a5_1 n5_1 c5_1 z5_1) (i_2 : IsRowS w a_2 n_2 c_2 z_2) :
    Calls Tryz.prog 3 #[.agg #[.int .i64 st_0, .int .i64 it_0, .slice a2_0 n2_0 c2_0, .slice a3_0 n3_0 c3_0, .slice a4_0 n4_0 c4_0, .slice a5_0 n5_0 c5_0], .agg #[.int .i64 st_1, .int .i64 it_1, .slice a2_1 n2_1 c2_1, .slice a3_1 n3_1 c3_1, .slice a4_1 n4_1 c4_1, .slice a5_1 n5_1 c5_1], .slice a_2 n_2 c_2] w fun e w' => e = .returned (.bool true) ∧ Below w.heap.size w w' := by
  obtain ⟨ins_0, hins_0⟩ : ∃ l, l = z2_0.take n2_0 := ⟨_, rfl⟩
  have r2_0 := i2_0.row
  rw [← hins_0] at r2_0
  have l2_0 := i2_0.len1
  have e2_0 := r2_0.1
  obtain ⟨outs_0, houts_0⟩ : ∃ l, l = z3_0.take n3_0 := ⟨_, rfl⟩
  have r3_0 := i3_0.row
  rw [← houts_0] at r3_0
  have l3_0 := i3_0.len1
  have e3_0 := r3_0.1
  obtain ⟨hids_0, hhids_0⟩ : ∃ l, l = z4_0.take n4_0 := ⟨_, rfl⟩
  have r4_0 := i4_0.row
  rw [← hhids_0] at r4_0
  have l4_0 := i4_0.len1
  have e4_0 := r4_0.1
  obtain ⟨steps_0, hsteps_0⟩ : ∃ l, l = z5_0.take n5_0 := ⟨_, rfl⟩
  have r5_0 := i5_0.row
  rw [← hsteps_0] at r5_0
  have l5_0 := i5_0.len1
  have e5_0 := r5_0.1
  have HA_0 : Hid (∀ W, Below w.heap.size w W → IaRow W ⟨st_0, it_0, ins_0, outs_0, hids_0, steps_0⟩ (.agg #[.int .i64 st_0, .int .i64 it_0, .slice a2_0 n2_0 c2_0, .slice a3_0 n3_0 c3_0, .slice a4_0 n4_0 c4_0, .slice a5_0 n5_0 c5_0])) := fun W hW => IaRow.below ⟨a2_0, n2_0, c2_0, a3_0, n3_0, c3_0, a4_0, n4_0, c4_0, a5_0, n5_0, c5_0, rfl, r2_0, r3_0, r4_0, r5_0⟩ hW
  have CZ_0 : Hid (∀ W (left : Int), 0 ≤ left → left ≤ 1048576 → Calls Tryz.prog 5 #[.agg #[.int .i64 st_0, .int .i64 it_0, .slice a2_0 n2_0 c2_0, .slice a3_0 n3_0 c3_0, .slice a4_0 n4_0 c4_0, .slice a5_0 n5_0 c5_0], .int .i64 left] W fun e w' => e = .returned (.int .i64 (roomOf left (n2_0 + n3_0 + n4_0 + n5_0))) ∧ Below W.heap.size W w') := fun W left h0 h1 => szIa_any st_0 it_0 a2_0 n2_0 c2_0 a3_0 n3_0 c3_0 a4_0 n4_0 c4_0 a5_0 n5_0 c5_0 left W h0 (by omega) l2_0 l3_0 l4_0 l5_0
  clear r2_0 i2_0 hins_0 l2_0 r3_0 i3_0 houts_0 l3_0 r4_0 i4_0 hhids_0 l4_0 r5_0 i5_0 hsteps_0 l5_0 z2_0 z3_0 z4_0 z5_0
  obtain ⟨ins_1, hins_1⟩ : ∃ l, l = z2_1.take n2_1 := ⟨_, rfl⟩
  have r2_1 := i2_1.row
  rw [← hins_1] at r2_1
  have l2_1 := i2_1.len1
  have e2_1 := r2_1.1
  obtain ⟨outs_1, houts_1⟩ : ∃ l, l = z3_1.take n3_1 := ⟨_, rfl⟩
  have r3_1 := i3_1.row
  rw [← houts_1] at r3_1
  have l3_1 := i3_1.len1
  have e3_1 := r3_1.1
  obtain ⟨hids_1, hhids_1⟩ : ∃ l, l = z4_1.take n4_1 := ⟨_, rfl⟩
  have r4_1 := i4_1.row
  rw [← hhids_1] at r4_1
  have l4_1 := i4_1.len1
  have e4_1 := r4_1.1
  obtain ⟨steps_1, hsteps_1⟩ : ∃ l, l = z5_1.take n5_1 := ⟨_, rfl⟩
  have r5_1 := i5_1.row
  rw [← hsteps_1] at r5_1
  have l5_1 := i5_1.len1
  have e5_1 := r5_1.1
  have HA_1 : Hid (∀ W, Below w.heap.size w W → IaRow W ⟨st_1, it_1, ins_1, outs_1, hids_1, steps_1⟩ (.agg #[.int .i64 st_1, .int .i64 it_1, .slice a2_1 n2_1 c2_1, .slice a3_1 n3_1 c3_1, .slice a4_1 n4_1 c4_1, .slice a5_1 n5_1 c5_1])) := fun W hW => IaRow.below ⟨a2_1, n2_1, c2_1, a3_1, n3_1, c3_1, a4_1, n4_1, c4_1, a5_1, n5_1, c5_1, rfl, r2_1, r3_1, r4_1, r5_1⟩ hW
  have CZ_1 : Hid (∀ W (left : Int), 0 ≤ left → left ≤ 1048576 → Calls Tryz.prog 5 #[.agg #[.int .i64 st_1, .int .i64 it_1, .slice a2_1 n2_1 c2_1, .slice a3_1 n3_1 c3_1, .slice a4_1 n4_1 c4_1, .slice a5_1 n5_1 c5_1], .int .i64 left] W fun e w' => e = .returned (.int .i64 (roomOf left (n2_1 + n3_1 + n4_1 + n5_1))) ∧ Below W.heap.size W w') := fun W left h0 h1 => szIa_any st_1 it_1 a2_1 n2_1 c2_1 a3_1 n3_1 c3_1 a4_1 n4_1 c4_1 a5_1 n5_1 c5_1 left W h0 (by omega) l2_1 l3_1 l4_1 l5_1
  clear r2_1 i2_1 hins_1 l2_1 r3_1 i3_1 houts_1 l3_1 r4_1 i4_1 hhids_1 l4_1 r5_1 i5_1 hsteps_1 l5_1 z2_1 z3_1 z4_1 z5_1
  obtain ⟨xs_2, hxs_2⟩ : ∃ l, l = z_2.take n_2 := ⟨_, rfl⟩
  have r_2 := i_2.row
  rw [← hxs_2] at r_2
  have l_2 := i_2.len1
  have e_2 := r_2.1
  have HA_2 : Hid (∀ W, Below w.heap.size w W → RowS W a_2 n_2 xs_2) := fun W hW => r_2.below hW
  have CZ_2 : Hid (∀ W (left : Int), 0 ≤ left → left ≤ 1048576 → Calls Tryz.prog 6 #[.slice a_2 n_2 c_2, .int .i64 left] W fun e w' => e = .returned (.int .i64 (roomOf left n_2)) ∧ W = w') := fun W left h0 h1 => (szStepS_any a_2 n_2 c_2 left W h0 (by omega) l_2).mono fun e w' h => ⟨h.1, h.2.symm⟩
  unfold maxLen at l_2
  clear r_2 i_2 hxs_2 z_2
  have hz0 : ((w.alloc (.cells #[.int .i64 st_0, .int .i64 it_0, .slice a2_0 n2_0 c2_0, .slice a3_0 n3_0 c3_0, .slice a4_0 n4_0 c4_0, .slice a5_0 n5_0 c5_0] 25)).alloc (.cells #[.int .i64 st_1, .int .i64 it_1, .slice a2_1 n2_1 c2_1, .slice a3_1 n3_1 c3_1, .slice a4_1 n4_1 c4_1, .slice a5_1 n5_1 c5_1] 25)).heap.size = w.heap.size + 2 := by simp
  have B0 : Hid (Below w.heap.size w ((w.alloc (.cells #[.int .i64 st_0, .int .i64 it_0, .slice a2_0 n2_0 c2_0, .slice a3_0 n3_0 c3_0, .slice a4_0 n4_0 c4_0, .slice a5_0 n5_0 c5_0] 25)).alloc (.cells #[.int .i64 st_1, .int .i64 it_1, .slice a2_1 n2_1 c2_1, .slice a3_1 n3_1 c3_1, .slice a4_1 n4_1 c4_1, .slice a5_1 n5_1 c5_1] 25))) := ((Below.refl _ _).alloc (by simp) _).alloc (by simp) _
  have P0_0 : Hid (VarIs ((w.alloc (.cells #[.int .i64 st_0, .int .i64 it_0, .slice a2_0 n2_0 c2_0, .slice a3_0 n3_0 c3_0, .slice a4_0 n4_0 c4_0, .slice a5_0 n5_0 c5_0] 25)).alloc (.cells #[.int .i64 st_1, .int .i64 it_1, .slice a2_1 n2_1 c2_1, .slice a3_1 n3_1 c3_1, .slice a4_1 n4_1 c4_1, .slice a5_1 n5_1 c5_1] 25)) (w.heap.size) #[.int .i64 st_0, .int .i64 it_0, .slice a2_0 n2_0 c2_0, .slice a3_0 n3_0 c3_0, .slice a4_0 n4_0 c4_0, .slice a5_0 n5_0 c5_0] 25) := (VarIs.new w #[.int .i64 st_0, .int .i64 it_0, .slice a2_0 n2_0 c2_0, .slice a3_0 n3_0 c3_0, .slice a4_0 n4_0 c4_0, .slice a5_0 n5_0 c5_0] 25 rfl).alloc _
  have P1_0 : Hid (VarIs ((w.alloc (.cells #[.int .i64 st_0, .int .i64 it_0, .slice a2_0 n2_0 c2_0, .slice a3_0 n3_0 c3_0, .slice a4_0 n4_0 c4_0, .slice a5_0 n5_0 c5_0] 25)).alloc (.cells #[.int .i64 st_1, .int .i64 it_1, .slice a2_1 n2_1 c2_1, .slice a3_1 n3_1 c3_1, .slice a4_1 n4_1 c4_1, .slice a5_1 n5_1 c5_1] 25)) (w.heap.size + 1) #[.int .i64 st_1, .int .i64 it_1, .slice a2_1 n2_1 c2_1, .slice a3_1 n3_1 c3_1, .slice a4_1 n4_1 c4_1, .slice a5_1 n5_1 c5_1] 25) := VarIs.new (w.alloc (.cells #[.int .i64 st_0, .int .i64 it_0, .slice a2_0 n2_0 c2_0, .slice a3_0 n3_0 c3_0, .slice a4_0 n4_0 c4_0, .slice a5_0 n5_0 c5_0] 25)) #[.int .i64 st_1, .int .i64 it_1, .slice a2_1 n2_1 c2_1, .slice a3_1 n3_1 c3_1, .slice a4_1 n4_1 c4_1, .slice a5_1 n5_1 c5_1] 25 (by simp)
  have hleft : (0 : Int) ≤ 1048576 ∧ (1048576 : Int) ≤ 1048576 := by omega
  by_cases fits_0 : n2_0 + n3_0 + n4_0 + n5_0 ≤ 1048576
  case neg =>
    have hr_0 : roomOf (1048576 : Int) (n2_0 + n3_0 + n4_0 + n5_0) = -1 := roomOf_neg (by omega)
    have m0 := P0_0.out.cell (j := 0) (u := .int .i64 st_0) rfl
    have m1 := P0_0.out.cell (j := 1) (u := .int .i64 it_0) rfl
    have m2 := P0_0.out.cell (j := 2) (u := .slice a2_0 n2_0 c2_0) rfl
    have m3 := P0_0.out.cell (j := 3) (u := .slice a3_0 n3_0 c3_0) rfl
    have m4 := P0_0.out.cell (j := 4) (u := .slice a4_0 n4_0 c4_0) rfl
    have m5 := P0_0.out.cell (j := 5) (u := .slice a5_0 n5_0 c5_0) rfl
    go_enter Tryz.func3, Tryz.ntmps3
    go_wp2_with fail
    clear m0 m1 m2 m3 m4 m5
    have CZc := CZ_0.out ((w.alloc (.cells #[.int .i64 st_0, .int .i64 it_0, .slice a2_0 n2_0 c2_0, .slice a3_0 n3_0 c3_0, .slice a4_0 n4_0 c4_0, .slice a5_0 n5_0 c5_0] 25)).alloc (.cells #[.int .i64 st_1, .int .i64 it_1, .slice a2_1 n2_1 c2_1, .slice a3_1 n3_1 c3_1, .slice a4_1 n4_1 c4_1, .slice a5_1 n5_1 c5_1] 25)) (1048576 : Int) (by omega) (by omega)
    rw [hr_0] at CZc
    refine (CZc).mono ?_
    rintro e w1 ⟨rfl, hb⟩
    have hzzw1 := hb.size
    have B1 : Hid (Below w.heap.size w w1) := B0.out.trans (hb.mono B0.out.size)
    have P0_1 : Hid (VarIs w1 (w.heap.size) #[.int .i64 st_0, .int .i64 it_0, .slice a2_0 n2_0 c2_0, .slice a3_0 n3_0 c3_0, .slice a4_0 n4_0 c4_0, .slice a5_0 n5_0 c5_0] 25) := P0_0.out.below hb
    have P1_1 : Hid (VarIs w1 (w.heap.size + 1) #[.int .i64 st_1, .int .i64 it_1, .slice a2_1 n2_1 c2_1, .slice a3_1 n3_1 c3_1, .slice a4_1 n4_1 c4_1, .slice a5_1 n5_1 c5_1] 25) := P1_0.out.below hb
    clear B0 P0_0 P1_0
    clear hb CZc
    go_wp2_with fail
    go_ret
    exact ⟨rfl, B1.out⟩
  have hr_0 : roomOf (1048576 : Int) (n2_0 + n3_0 + n4_0 + n5_0) = (1048576 : Int) - ((n2_0 + n3_0 + n4_0 + n5_0 : Nat) : Int) := roomOf_pos (by omega)
  obtain ⟨rm_0, hrm_0⟩ : ∃ m : Nat, (m : Int) = (1048576 : Int) - ((n2_0 + n3_0 + n4_0 + n5_0 : Nat) : Int) := ⟨1048576 - (n2_0 + n3_0 + n4_0 + n5_0), by omega⟩
  rw [← hrm_0] at hr_0
  have hrx_0 : (0 : Int) ≤ (rm_0 : Int) ∧ (rm_0 : Int) ≤ 1048576 := by omega
  clear hrm_0
  have m0 := P0_0.out.cell (j := 0) (u := .int .i64 st_0) rfl
  have m1 := P0_0.out.cell (j := 1) (u := .int .i64 it_0) rfl
  have m2 := P0_0.out.cell (j := 2) (u := .slice a2_0 n2_0 c2_0) rfl
  have m3 := P0_0.out.cell (j := 3) (u := .slice a3_0 n3_0 c3_0) rfl
  have m4 := P0_0.out.cell (j := 4) (u := .slice a4_0 n4_0 c4_0) rfl
  have m5 := P0_0.out.cell (j := 5) (u := .slice a5_0 n5_0 c5_0) rfl
  go_enter Tryz.func3, Tryz.ntmps3
  go_wp2_with fail
  clear m0 m1 m2 m3 m4 m5
  have CZc := CZ_0.out ((w.alloc (.cells #[.int .i64 st_0, .int .i64 it_0, .slice a2_0 n2_0 c2_0, .slice a3_0 n3_0 c3_0, .slice a4_0 n4_0 c4_0, .slice a5_0 n5_0 c5_0] 25)).alloc (.cells #[.int .i64 st_1, .int .i64 it_1, .slice a2_1 n2_1 c2_1, .slice a3_1 n3_1 c3_1, .slice a4_1 n4_1 c4_1, .slice a5_1 n5_1 c5_1] 25)) (1048576 : Int) (by omega) (by omega)
  rw [hr_0] at CZc
  refine (CZc).mono ?_
  rintro e w1 ⟨rfl, hb⟩
  have hzzw1 := hb.size
  have B1 : Hid (Below w.heap.size w w1) := B0.out.trans (hb.mono B0.out.size)
  have P0_1 : Hid (VarIs w1 (w.heap.size) #[.int .i64 st_0, .int .i64 it_0, .slice a2_0 n2_0 c2_0, .slice a3_0 n3_0 c3_0, .slice a4_0 n4_0 c4_0, .slice a5_0 n5_0 c5_0] 25) := P0_0.out.below hb
  have P1_1 : Hid (VarIs w1 (w.heap.size + 1) #[.int .i64 st_1, .int .i64 it_1, .slice a2_1 n2_1 c2_1, .slice a3_1 n3_1 c3_1, .slice a4_1 n4_1 c4_1, .slice a5_1 n5_1 c5_1] 25) := P1_0.out.below hb
  clear B0 P0_0 P1_0
  clear hb CZc
  clear hr_0
  have f2_0 : ins_0.length ≤ 1048576 := by omega
  have f3_0 : outs_0.length ≤ 1048576 := by omega
  have f4_0 : hids_0.length ≤ 1048576 := by omega
  have f5_0 : steps_0.length ≤ 1048576 := by omega
  by_cases fits_1 : n2_1 + n3_1 + n4_1 + n5_1 ≤ rm_0
  case neg =>
    have hr_1 : roomOf ((rm_0 : Nat) : Int) (n2_1 + n3_1 + n4_1 + n5_1) = -1 := roomOf_neg (by omega)
    have m0 := P1_1.out.cell (j := 0) (u := .int .i64 st_1) rfl
    have m1 := P1_1.out.cell (j := 1) (u := .int .i64 it_1) rfl
    have m2 := P1_1.out.cell (j := 2) (u := .slice a2_1 n2_1 c2_1) rfl
    have m3 := P1_1.out.cell (j := 3) (u := .slice a3_1 n3_1 c3_1) rfl
    have m4 := P1_1.out.cell (j := 4) (u := .slice a4_1 n4_1 c4_1) rfl
    have m5 := P1_1.out.cell (j := 5) (u := .slice a5_1 n5_1 c5_1) rfl
    go_wp2_with fail
    clear m0 m1 m2 m3 m4 m5
    have CZc := CZ_1.out w1 ((rm_0 : Nat) : Int) (by omega) (by omega)
    rw [hr_1] at CZc
    refine (CZc).mono ?_
    rintro e w2 ⟨rfl, hb⟩
    have hzzw2 := hb.size
    have B2 : Hid (Below w.heap.size w w2) := B1.out.trans (hb.mono B1.out.size)
    have P0_2 : Hid (VarIs w2 (w.heap.size) #[.int .i64 st_0, .int .i64 it_0, .slice a2_0 n2_0 c2_0, .slice a3_0 n3_0 c3_0, .slice a4_0 n4_0 c4_0, .slice a5_0 n5_0 c5_0] 25) := P0_1.out.below hb
    have P1_2 : Hid (VarIs w2 (w.heap.size + 1) #[.int .i64 st_1, .int .i64 it_1, .slice a2_1 n2_1 c2_1, .slice a3_1 n3_1 c3_1, .slice a4_1 n4_1 c4_1, .slice a5_1 n5_1 c5_1] 25) := P1_1.out.below hb
    clear B1 P0_1 P1_1
    clear hb CZc
    go_wp2_with fail
    go_ret
    exact ⟨rfl, B2.out⟩
  have hr_1 : roomOf ((rm_0 : Nat) : Int) (n2_1 + n3_1 + n4_1 + n5_1) = ((rm_0 : Nat) : Int) - ((n2_1 + n3_1 + n4_1 + n5_1 : Nat) : Int) := roomOf_pos (by omega)
  obtain ⟨rm_1, hrm_1⟩ : ∃ m : Nat, (m : Int) = ((rm_0 : Nat) : Int) - ((n2_1 + n3_1 + n4_1 + n5_1 : Nat) : Int) := ⟨rm_0 - (n2_1 + n3_1 + n4_1 + n5_1), by omega⟩
  rw [← hrm_1] at hr_1
  have hrx_1 : (0 : Int) ≤ (rm_1 : Int) ∧ (rm_1 : Int) ≤ 1048576 := by omega
  clear hrm_1
  have m0 := P1_1.out.cell (j := 0) (u := .int .i64 st_1) rfl
  have m1 := P1_1.out.cell (j := 1) (u := .int .i64 it_1) rfl
  have m2 := P1_1.out.cell (j := 2) (u := .slice a2_1 n2_1 c2_1) rfl
  have m3 := P1_1.out.cell (j := 3) (u := .slice a3_1 n3_1 c3_1) rfl
  have m4 := P1_1.out.cell (j := 4) (u := .slice a4_1 n4_1 c4_1) rfl
  have m5 := P1_1.out.cell (j := 5) (u := .slice a5_1 n5_1 c5_1) rfl
  go_wp2_with fail
  clear m0 m1 m2 m3 m4 m5
  have CZc := CZ_1.out w1 ((rm_0 : Nat) : Int) (by omega) (by omega)
  rw [hr_1] at CZc
  refine (CZc).mono ?_
  rintro e w2 ⟨rfl, hb⟩
  have hzzw2 := hb.size
  have B2 : Hid (Below w.heap.size w w2) := B1.out.trans (hb.mono B1.out.size)
  have P0_2 : Hid (VarIs w2 (w.heap.size) #[.int .i64 st_0, .int .i64 it_0, .slice a2_0 n2_0 c2_0, .slice a3_0 n3_0 c3_0, .slice a4_0 n4_0 c4_0, .slice a5_0 n5_0 c5_0] 25) := P0_1.out.below hb
  have P1_2 : Hid (VarIs w2 (w.heap.size + 1) #[.int .i64 st_1, .int .i64 it_1, .slice a2_1 n2_1 c2_1, .slice a3_1 n3_1 c3_1, .slice a4_1 n4_1 c4_1, .slice a5_1 n5_1 c5_1] 25) := P1_1.out.below hb
  clear B1 P0_1 P1_1
  clear hb CZc
  clear hr_1
  have f2_1 : ins_1.length ≤ 1048576 := by omega
  have f3_1 : outs_1.length ≤ 1048576 := by omega
  have f4_1 : hids_1.length ≤ 1048576 := by omega
  have f5_1 : steps_1.length ≤ 1048576 := by omega
  by_cases fits_2 : n_2 ≤ rm_1
  case neg =>
    have hr_2 : roomOf ((rm_1 : Nat) : Int) (n_2) = -1 := roomOf_neg (by omega)
    go_wp2_with fail
    have CZc := CZ_2.out w2 ((rm_1 : Nat) : Int) (by omega) (by omega)
    rw [hr_2] at CZc
    refine CZc.mono ?_
    rintro e wz ⟨rfl, rfl⟩
    clear CZc
    go_wp2_with fail
    go_ret
    exact ⟨rfl, B2.out⟩
  have hr_2 : roomOf ((rm_1 : Nat) : Int) (n_2) = ((rm_1 : Nat) : Int) - ((n_2 : Nat) : Int) := roomOf_pos (by omega)
  obtain ⟨rm_2, hrm_2⟩ : ∃ m : Nat, (m : Int) = ((rm_1 : Nat) : Int) - ((n_2 : Nat) : Int) := ⟨rm_1 - (n_2), by omega⟩
  rw [← hrm_2] at hr_2
  have hrx_2 : (0 : Int) ≤ (rm_2 : Int) ∧ (rm_2 : Int) ≤ 1048576 := by omega
  clear hrm_2
  go_wp2_with fail
  have CZc := CZ_2.out w2 ((rm_1 : Nat) : Int) (by omega) (by omega)
  rw [hr_2] at CZc
  refine CZc.mono ?_
  rintro e wz ⟨rfl, rfl⟩
  clear CZc
  clear hr_2
  clear CZ_0 CZ_1 CZ_2
  have CT_0 : Hid (∀ W, Below w.heap.size w W → Calls Tryz.prog 8 #[.agg #[.int .i64 st_0, .int .i64 it_0, .slice a2_0 n2_0 c2_0, .slice a3_0 n3_0 c3_0, .slice a4_0 n4_0 c4_0, .slice a5_0 n5_0 c5_0]] W fun e w' => ∃ v', e = .returned v' ∧ IaAt w' W.heap.size ⟨st_0, it_0, ins_0, outs_0, hids_0, steps_0⟩ v' ∧ Below W.heap.size W w') := fun W hW => toIa_any ⟨st_0, it_0, ins_0, outs_0, hids_0, steps_0⟩ _ W (HA_0.out W hW) (IaFits.small f2_0 f3_0 f4_0 f5_0)
  have CQ_0 : Hid (∀ W u v, IaRow W ⟨st_0, it_0, ins_0, outs_0, hids_0, steps_0⟩ u → IaRow W ⟨st_0, it_0, ins_0, outs_0, hids_0, steps_0⟩ v → Calls Tryz.prog 11 #[u, v] W fun e w' => e = .returned (.bool true) ∧ Below W.heap.size W w') := fun W u v hu hv => (eqIa_any ⟨st_0, it_0, ins_0, outs_0, hids_0, steps_0⟩ ⟨st_0, it_0, ins_0, outs_0, hids_0, steps_0⟩ _ _ W hu hv (IaFits.small f2_0 f3_0 f4_0 f5_0) (IaFits.small f2_0 f3_0 f4_0 f5_0)).mono fun e w' ⟨he, hb⟩ => ⟨by rw [he, sameB_refl], hb⟩
  have CT_1 : Hid (∀ W, Below w.heap.size w W → Calls Tryz.prog 8 #[.agg #[.int .i64 st_1, .int .i64 it_1, .slice a2_1 n2_1 c2_1, .slice a3_1 n3_1 c3_1, .slice a4_1 n4_1 c4_1, .slice a5_1 n5_1 c5_1]] W fun e w' => ∃ v', e = .returned v' ∧ IaAt w' W.heap.size ⟨st_1, it_1, ins_1, outs_1, hids_1, steps_1⟩ v' ∧ Below W.heap.size W w') := fun W hW => toIa_any ⟨st_1, it_1, ins_1, outs_1, hids_1, steps_1⟩ _ W (HA_1.out W hW) (IaFits.small f2_1 f3_1 f4_1 f5_1)
  have CQ_1 : Hid (∀ W u v, IaRow W ⟨st_1, it_1, ins_1, outs_1, hids_1, steps_1⟩ u → IaRow W ⟨st_1, it_1, ins_1, outs_1, hids_1, steps_1⟩ v → Calls Tryz.prog 11 #[u, v] W fun e w' => e = .returned (.bool true) ∧ Below W.heap.size W w') := fun W u v hu hv => (eqIa_any ⟨st_1, it_1, ins_1, outs_1, hids_1, steps_1⟩ ⟨st_1, it_1, ins_1, outs_1, hids_1, steps_1⟩ _ _ W hu hv (IaFits.small f2_1 f3_1 f4_1 f5_1) (IaFits.small f2_1 f3_1 f4_1 f5_1)).mono fun e w' ⟨he, hb⟩ => ⟨by rw [he, sameB_refl], hb⟩
  obtain ⟨q, hq⟩ : ∃ q, q = witB ⟨st_0, it_0, ins_0, outs_0, hids_0, steps_0⟩ ⟨st_1, it_1, ins_1, outs_1, hids_1, steps_1⟩ xs_2 := ⟨_, rfl⟩
  have CP : Hid (∀ W v_0 v_1 b_2 d_2, IaRow W ⟨st_0, it_0, ins_0, outs_0, hids_0, steps_0⟩ v_0 → IaRow W ⟨st_1, it_1, ins_1, outs_1, hids_1, steps_1⟩ v_1 → RowS W b_2 n_2 xs_2 → Calls Tryz.prog 7 #[v_0, v_1, .slice b_2 n_2 d_2] W fun e w' => e = .returned (.bool q) ∧ Below W.heap.size W w') := fun W v_0 v_1 b_2 d_2 hv_0 hv_1 hv_2 => by
    rw [hq]
    exact specWitnessOk_any ⟨st_0, it_0, ins_0, outs_0, hids_0, steps_0⟩ ⟨st_1, it_1, ins_1, outs_1, hids_1, steps_1⟩ v_0 v_1 b_2 n_2 d_2 xs_2 W hv_0 hv_1 ⟨f2_0, f3_0, f4_0, f5_0⟩ ⟨f2_1, f3_1, f4_1, f5_1⟩ hv_2 (by omega)
  have CI : Hid (∀ W v_0 v_1 b_2 d_2, IaRow W ⟨st_0, it_0, ins_0, outs_0, hids_0, steps_0⟩ v_0 → IaRow W ⟨st_1, it_1, ins_1, outs_1, hids_1, steps_1⟩ v_1 → RowS W b_2 n_2 xs_2 → Calls Tryz.prog 10 #[v_0, v_1, .slice b_2 n_2 d_2] W fun e w' => e = .returned (.bool q) ∧ Below W.heap.size W w') := fun W v_0 v_1 b_2 d_2 hv_0 hv_1 hv_2 => by
    rw [hq]
    exact implWitnessOk_any ⟨st_0, it_0, ins_0, outs_0, hids_0, steps_0⟩ ⟨st_1, it_1, ins_1, outs_1, hids_1, steps_1⟩ v_0 v_1 b_2 n_2 d_2 xs_2 W hv_0 hv_1 ⟨f2_0, f3_0, f4_0, f5_0⟩ ⟨f2_1, f3_1, f4_1, f5_1⟩ hv_2 (by omega)
  clear hq
  clear e2_0 e3_0 e4_0 e5_0 e2_1 e3_1 e4_1 e5_1 e_2
  go_wp2_with fail
  have SD : (Below w.heap.size w w2.drew) ∧ (VarIs w2.drew (w.heap.size) #[.int .i64 st_0, .int .i64 it_0, .slice a2_0 n2_0 c2_0, .slice a3_0 n3_0 c3_0, .slice a4_0 n4_0 c4_0, .slice a5_0 n5_0 c5_0] 25) ∧ (VarIs w2.drew (w.heap.size + 1) #[.int .i64 st_1, .int .i64 it_1, .slice a2_1 n2_1 c2_1, .slice a3_1 n3_1 c3_1, .slice a4_1 n4_1 c4_1, .slice a5_1 n5_1 c5_1] 25) := ⟨B2.out.drew, P0_2.out.drew, P1_2.out.drew⟩
  refine wp_region_tf (S := fun w' => (Below w.heap.size w w') ∧ (VarIs w' (w.heap.size) #[.int .i64 st_0, .int .i64 it_0, .slice a2_0 n2_0 c2_0, .slice a3_0 n3_0 c3_0, .slice a4_0 n4_0 c4_0, .slice a5_0 n5_0 c5_0] 25) ∧ (VarIs w' (w.heap.size + 1) #[.int .i64 st_1, .int .i64 it_1, .slice a2_1 n2_1 c2_1, .slice a3_1 n3_1 c3_1, .slice a4_1 n4_1 c4_1, .slice a5_1 n5_1 c5_1] 25)) 8 (by kernel_rfl) (by kernel_rfl) (by kernel_rfl) SD (fun hHeld => ?_)
  refine fast_yields 0 28 (.agg #[.int .i64 st_0, .int .i64 it_0, .slice a2_0 n2_0 c2_0, .slice a3_0 n3_0 c3_0, .slice a4_0 n4_0 c4_0, .slice a5_0 n5_0 c5_0]) (fuel := 7) rfl rfl (by kernel_rfl) (by kernel_rfl) (by kernel_rfl) (fun _ _ _ h => h) (yieldsIf_load_mid (by rfl) _ _ rfl (w.heap.size) 0 rfl #[.int .i64 st_0, .int .i64 it_0, .slice a2_0 n2_0 c2_0, .slice a3_0 n3_0 c3_0, .slice a4_0 n4_0 c4_0, .slice a5_0 n5_0 c5_0].toList _ (fun w hw => hw.2.1.range) Tryz.underlying25 rfl (by kernel_rfl)) hHeld (tf 1 8) (by kernel_rfl) (fun K hK => ?_)
  go_big_move
  refine hK.out _ ?_
  clear hK K
  refine fast_yields 2 30 (.agg #[.int .i64 st_1, .int .i64 it_1, .slice a2_1 n2_1 c2_1, .slice a3_1 n3_1 c3_1, .slice a4_1 n4_1 c4_1, .slice a5_1 n5_1 c5_1]) (fuel := 6) rfl rfl (by kernel_rfl) (by kernel_rfl) (by kernel_rfl) (fun _ _ _ h => h) (yieldsIf_load_mid (by rfl) _ _ rfl (w.heap.size + 1) 0 rfl #[.int .i64 st_1, .int .i64 it_1, .slice a2_1 n2_1 c2_1, .slice a3_1 n3_1 c3_1, .slice a4_1 n4_1 c4_1, .slice a5_1 n5_1 c5_1].toList _ (fun w hw => hw.2.2.range) Tryz.underlying25 rfl (by kernel_rfl)) hHeld (tf 5 8) (by kernel_rfl) (fun K hK => ?_)
  go_big_move
  refine hK.out _ ?_
  clear hK K
  refine fast_move 4 32 (.slice a_2 n_2 c_2) (.tmp 2) (fuel := 5) rfl rfl (by kernel_rfl) (by kernel_rfl) (by kernel_rfl) (fun _ _ _ h => h) (by kernel_rfl) (by kernel_rfl) (by first | exact Or.inl rfl | exact Or.inr rfl) hHeld (tf 21 8) (by kernel_rfl) (fun K hK => ?_)
  go_big_move
  refine hK.out _ ?_
  clear hK K
  refine wpAnyH_ready (rs := [1]) (fuel := 4) (by kernel_rfl) (by simp) ?_
  refine ready_want rfl (by kernel_rfl) (tf 23 8) (by kernel_rfl) (fun K hK => ?_) AllReadyH.nil
  simp only [List.getElem_toArray, List.getElem_cons_succ, List.getElem_cons_zero]
  go_big_op
  refine (CT_0.out _ hHeld.1).mono ?_
  rintro e w3 ⟨u_0, rfl, hat, hb⟩
  have k_0 := hat.row
  have hS : (Below w.heap.size w w3) ∧ (VarIs w3 (w.heap.size) #[.int .i64 st_0, .int .i64 it_0, .slice a2_0 n2_0 c2_0, .slice a3_0 n3_0 c3_0, .slice a4_0 n4_0 c4_0, .slice a5_0 n5_0 c5_0] 25) ∧ (VarIs w3 (w.heap.size + 1) #[.int .i64 st_1, .int .i64 it_1, .slice a2_1 n2_1 c2_1, .slice a3_1 n3_1 c3_1, .slice a4_1 n4_1 c4_1, .slice a5_1 n5_1 c5_1] 25) := ⟨hHeld.1.trans (hb.mono hHeld.1.size), hHeld.2.1.below hb, hHeld.2.2.below hb⟩
  clear hat hb
  refine hK.out _ _ hS (fun hHeld => ?_)
  clear hK K
  refine wpAnyH_ready (rs := [3]) (fuel := 3) (by kernel_rfl) (by simp) ?_
  refine ready_want rfl (by kernel_rfl) (tf 31 8) (by kernel_rfl) (fun K hK => ?_) AllReadyH.nil
  simp only [List.getElem_toArray, List.getElem_cons_succ, List.getElem_cons_zero]
  go_big_op
  refine (CT_1.out _ hHeld.1).mono ?_
  rintro e w4 ⟨u_1, rfl, hat, hb⟩
  have k_0x := k_0.below hb
  clear k_0
  have k_0 := k_0x
  clear k_0x
  have k_1 := hat.row
  have hS : (Below w.heap.size w w4) ∧ (VarIs w4 (w.heap.size) #[.int .i64 st_0, .int .i64 it_0, .slice a2_0 n2_0 c2_0, .slice a3_0 n3_0 c3_0, .slice a4_0 n4_0 c4_0, .slice a5_0 n5_0 c5_0] 25) ∧ (VarIs w4 (w.heap.size + 1) #[.int .i64 st_1, .int .i64 it_1, .slice a2_1 n2_1 c2_1, .slice a3_1 n3_1 c3_1, .slice a4_1 n4_1 c4_1, .slice a5_1 n5_1 c5_1] 25) := ⟨hHeld.1.trans (hb.mono hHeld.1.size), hHeld.2.1.below hb, hHeld.2.2.below hb⟩
  clear hat hb
  refine hK.out _ _ hS (fun hHeld => ?_)
  clear hK K
  refine wpAnyH_ready (rs := [5]) (fuel := 2) (by kernel_rfl) (by simp) ?_
  refine ready_want rfl (by kernel_rfl) (tf 63 8) (by kernel_rfl) (fun K hK => ?_) AllReadyH.nil
  simp only [List.getElem_toArray, List.getElem_cons_succ, List.getElem_cons_zero]
  go_big_op
  refine (toStepS_any a_2 n_2 c_2 xs_2 _ (HA_2.out _ hHeld.1) (by omega)).mono ?_
  rintro e w5 ⟨rfl, ho, hb⟩
  have k_0x := k_0.below hb
  clear k_0
  have k_0 := k_0x
  clear k_0x
  have k_1x := k_1.below hb
  clear k_1
  have k_1 := k_1x
  clear k_1x
  have k_2 := ho.row.2.2.2
  have hS : (Below w.heap.size w w5) ∧ (VarIs w5 (w.heap.size) #[.int .i64 st_0, .int .i64 it_0, .slice a2_0 n2_0 c2_0, .slice a3_0 n3_0 c3_0, .slice a4_0 n4_0 c4_0, .slice a5_0 n5_0 c5_0] 25) ∧ (VarIs w5 (w.heap.size + 1) #[.int .i64 st_1, .int .i64 it_1, .slice a2_1 n2_1 c2_1, .slice a3_1 n3_1 c3_1, .slice a4_1 n4_1 c4_1, .slice a5_1 n5_1 c5_1] 25) := ⟨hHeld.1.trans (hb.mono hHeld.1.size), hHeld.2.1.below hb, hHeld.2.2.below hb⟩
  clear ho hb
  refine hK.out _ _ hS (fun hHeld => ?_)
  clear hK K
  refine wpAnyH_ready (rs := [6]) (fuel := 1) (by kernel_rfl) (by simp) ?_
  refine ready_want rfl (by kernel_rfl) (tf 127 8) (by kernel_rfl) (fun K hK => ?_) AllReadyH.nil
  simp only [List.getElem_toArray, List.getElem_cons_succ, List.getElem_cons_zero]
  go_big_op
  refine (CP.out _ _ _ _ _ k_0 k_1 k_2).mono ?_
  rintro e w6 ⟨rfl, hb⟩
  have hS : (Below w.heap.size w w6) ∧ (VarIs w6 (w.heap.size) #[.int .i64 st_0, .int .i64 it_0, .slice a2_0 n2_0 c2_0, .slice a3_0 n3_0 c3_0, .slice a4_0 n4_0 c4_0, .slice a5_0 n5_0 c5_0] 25) ∧ (VarIs w6 (w.heap.size + 1) #[.int .i64 st_1, .int .i64 it_1, .slice a2_1 n2_1 c2_1, .slice a3_1 n3_1 c3_1, .slice a4_1 n4_1 c4_1, .slice a5_1 n5_1 c5_1] 25) := ⟨hHeld.1.trans (hb.mono hHeld.1.size), hHeld.2.1.below hb, hHeld.2.2.below hb⟩
  clear hb k_0 k_1 k_2
  refine hK.out _ _ hS (fun hHeld => ?_)
  clear hK K
  refine fast_move 7 8 (.bool q) (.tmp 34) (fuel := 0) rfl rfl (by kernel_rfl) (by kernel_rfl) (by kernel_rfl) (fun _ _ _ h => h) (by kernel_rfl) (by kernel_rfl) (by first | exact Or.inl rfl | exact Or.inr rfl) hHeld (tf 255 8) (by kernel_rfl) (fun K hK => ?_)
  go_big_move
  refine hK.out _ ?_
  clear hK K
  refine wpAnyH_done (by kernel_rfl) ?_ _
  have B3 : Hid (Below w.heap.size w w6) := hHeld.1
  have P0_3 : Hid (VarIs w6 (w.heap.size) #[.int .i64 st_0, .int .i64 it_0, .slice a2_0 n2_0 c2_0, .slice a3_0 n3_0 c3_0, .slice a4_0 n4_0 c4_0, .slice a5_0 n5_0 c5_0] 25) := hHeld.2.1
  have P1_3 : Hid (VarIs w6 (w.heap.size + 1) #[.int .i64 st_1, .int .i64 it_1, .slice a2_1 n2_1 c2_1, .slice a3_1 n3_1 c3_1, .slice a4_1 n4_1 c4_1, .slice a5_1 n5_1 c5_1] 25) := hHeld.2.2
  clear hHeld SD B2 P0_2 P1_2
  have m0 := P0_3.out.cell (j := 0) (u := .int .i64 st_0) rfl
  have m1 := P0_3.out.cell (j := 1) (u := .int .i64 it_0) rfl
  have m2 := P0_3.out.cell (j := 2) (u := .slice a2_0 n2_0 c2_0) rfl
  have m3 := P0_3.out.cell (j := 3) (u := .slice a3_0 n3_0 c3_0) rfl
  have m4 := P0_3.out.cell (j := 4) (u := .slice a4_0 n4_0 c4_0) rfl
  have m5 := P0_3.out.cell (j := 5) (u := .slice a5_0 n5_0 c5_0) rfl
  go_wp2_with fail
  clear m0 m1 m2 m3 m4 m5
  refine (CT_0.out _ B3.out).mono ?_
  rintro e w7 ⟨vx, rfl, hat, hb⟩
  have hzzw7 := hb.size
  have B4 : Hid (Below w.heap.size w w7) := B3.out.trans (hb.mono B3.out.size)
  have P0_4 : Hid (VarIs w7 (w.heap.size) #[.int .i64 st_0, .int .i64 it_0, .slice a2_0 n2_0 c2_0, .slice a3_0 n3_0 c3_0, .slice a4_0 n4_0 c4_0, .slice a5_0 n5_0 c5_0] 25) := P0_3.out.below hb
  have P1_4 : Hid (VarIs w7 (w.heap.size + 1) #[.int .i64 st_1, .int .i64 it_1, .slice a2_1 n2_1 c2_1, .slice a3_1 n3_1 c3_1, .slice a4_1 n4_1 c4_1, .slice a5_1 n5_1 c5_1] 25) := P1_3.out.below hb
  clear B3 P0_3 P1_3
  clear hb
  obtain ⟨g2_0, g3_0, g4_0, g5_0, rfl, gb_0, lt3_0, lt4_0, lt5_0, o2, o3, o4, o5⟩ := hat
  have hg_0 := (o5.lt g5_0 rfl).2

  have Y0_4 : Hid (IaAt w7 w6.heap.size ⟨st_0, it_0, ins_0, outs_0, hids_0, steps_0⟩ (.agg #[.int .i64 st_0, .int .i64 it_0, .slice (some ⟨g2_0, 0, none⟩) ins_0.length ins_0.length, .slice (some ⟨g3_0, 0, none⟩) outs_0.length outs_0.length, .slice (some ⟨g4_0, 0, none⟩) hids_0.length hids_0.length, .slice (some ⟨g5_0, 0, none⟩) steps_0.length steps_0.length])) := ⟨g2_0, g3_0, g4_0, g5_0, rfl, gb_0, lt3_0, lt4_0, lt5_0, o2, o3, o4, o5⟩
  clear o2 o3 o4 o5
  simp only
  have hb := (Below.refl w7.heap.size w7).alloc (Nat.le_refl _) (.cells #[.int .i64 st_0, .int .i64 it_0, .slice (some ⟨g2_0, 0, none⟩) ins_0.length ins_0.length, .slice (some ⟨g3_0, 0, none⟩) outs_0.length outs_0.length, .slice (some ⟨g4_0, 0, none⟩) hids_0.length hids_0.length, .slice (some ⟨g5_0, 0, none⟩) steps_0.length steps_0.length] 31)
  have hzb_0 : (w7.alloc (.cells #[.int .i64 st_0, .int .i64 it_0, .slice (some ⟨g2_0, 0, none⟩) ins_0.length ins_0.length, .slice (some ⟨g3_0, 0, none⟩) outs_0.length outs_0.length, .slice (some ⟨g4_0, 0, none⟩) hids_0.length hids_0.length, .slice (some ⟨g5_0, 0, none⟩) steps_0.length steps_0.length] 31)).heap.size = w7.heap.size + 1 := by simp
  have B5 : Hid (Below w.heap.size w (w7.alloc (.cells #[.int .i64 st_0, .int .i64 it_0, .slice (some ⟨g2_0, 0, none⟩) ins_0.length ins_0.length, .slice (some ⟨g3_0, 0, none⟩) outs_0.length outs_0.length, .slice (some ⟨g4_0, 0, none⟩) hids_0.length hids_0.length, .slice (some ⟨g5_0, 0, none⟩) steps_0.length steps_0.length] 31))) := B4.out.trans (hb.mono B4.out.size)
  have P0_5 : Hid (VarIs (w7.alloc (.cells #[.int .i64 st_0, .int .i64 it_0, .slice (some ⟨g2_0, 0, none⟩) ins_0.length ins_0.length, .slice (some ⟨g3_0, 0, none⟩) outs_0.length outs_0.length, .slice (some ⟨g4_0, 0, none⟩) hids_0.length hids_0.length, .slice (some ⟨g5_0, 0, none⟩) steps_0.length steps_0.length] 31)) (w.heap.size) #[.int .i64 st_0, .int .i64 it_0, .slice a2_0 n2_0 c2_0, .slice a3_0 n3_0 c3_0, .slice a4_0 n4_0 c4_0, .slice a5_0 n5_0 c5_0] 25) := P0_4.out.below hb
  have P1_5 : Hid (VarIs (w7.alloc (.cells #[.int .i64 st_0, .int .i64 it_0, .slice (some ⟨g2_0, 0, none⟩) ins_0.length ins_0.length, .slice (some ⟨g3_0, 0, none⟩) outs_0.length outs_0.length, .slice (some ⟨g4_0, 0, none⟩) hids_0.length hids_0.length, .slice (some ⟨g5_0, 0, none⟩) steps_0.length steps_0.length] 31)) (w.heap.size + 1) #[.int .i64 st_1, .int .i64 it_1, .slice a2_1 n2_1 c2_1, .slice a3_1 n3_1 c3_1, .slice a4_1 n4_1 c4_1, .slice a5_1 n5_1 c5_1] 25) := P1_4.out.below hb
  have Y0_5 : Hid (IaAt (w7.alloc (.cells #[.int .i64 st_0, .int .i64 it_0, .slice (some ⟨g2_0, 0, none⟩) ins_0.length ins_0.length, .slice (some ⟨g3_0, 0, none⟩) outs_0.length outs_0.length, .slice (some ⟨g4_0, 0, none⟩) hids_0.length hids_0.length, .slice (some ⟨g5_0, 0, none⟩) steps_0.length steps_0.length] 31)) w6.heap.size ⟨st_0, it_0, ins_0, outs_0, hids_0, steps_0⟩ (.agg #[.int .i64 st_0, .int .i64 it_0, .slice (some ⟨g2_0, 0, none⟩) ins_0.length ins_0.length, .slice (some ⟨g3_0, 0, none⟩) outs_0.length outs_0.length, .slice (some ⟨g4_0, 0, none⟩) hids_0.length hids_0.length, .slice (some ⟨g5_0, 0, none⟩) steps_0.length steps_0.length])) := Y0_4.out.below hb
  clear B4 P0_4 P1_4 Y0_4
  clear hb
  have X0_5 : Hid (VarIs (w7.alloc (.cells #[.int .i64 st_0, .int .i64 it_0, .slice (some ⟨g2_0, 0, none⟩) ins_0.length ins_0.length, .slice (some ⟨g3_0, 0, none⟩) outs_0.length outs_0.length, .slice (some ⟨g4_0, 0, none⟩) hids_0.length hids_0.length, .slice (some ⟨g5_0, 0, none⟩) steps_0.length steps_0.length] 31)) w7.heap.size #[.int .i64 st_0, .int .i64 it_0, .slice (some ⟨g2_0, 0, none⟩) ins_0.length ins_0.length, .slice (some ⟨g3_0, 0, none⟩) outs_0.length outs_0.length, .slice (some ⟨g4_0, 0, none⟩) hids_0.length hids_0.length, .slice (some ⟨g5_0, 0, none⟩) steps_0.length steps_0.length] 31) := VarIs.new w7 #[.int .i64 st_0, .int .i64 it_0, .slice (some ⟨g2_0, 0, none⟩) ins_0.length ins_0.length, .slice (some ⟨g3_0, 0, none⟩) outs_0.length outs_0.length, .slice (some ⟨g4_0, 0, none⟩) hids_0.length hids_0.length, .slice (some ⟨g5_0, 0, none⟩) steps_0.length steps_0.length] 31 rfl
  have m0 := P1_5.out.cell (j := 0) (u := .int .i64 st_1) rfl
  have m1 := P1_5.out.cell (j := 1) (u := .int .i64 it_1) rfl
  have m2 := P1_5.out.cell (j := 2) (u := .slice a2_1 n2_1 c2_1) rfl
  have m3 := P1_5.out.cell (j := 3) (u := .slice a3_1 n3_1 c3_1) rfl
  have m4 := P1_5.out.cell (j := 4) (u := .slice a4_1 n4_1 c4_1) rfl
  have m5 := P1_5.out.cell (j := 5) (u := .slice a5_1 n5_1 c5_1) rfl
  go_wp2_with fail
  clear m0 m1 m2 m3 m4 m5
  refine (CT_1.out _ B5.out).mono ?_
  rintro e w8 ⟨vx, rfl, hat, hb⟩
  have hzzw8 := hb.size
  have B6 : Hid (Below w.heap.size w w8) := B5.out.trans (hb.mono B5.out.size)
  have P0_6 : Hid (VarIs w8 (w.heap.size) #[.int .i64 st_0, .int .i64 it_0, .slice a2_0 n2_0 c2_0, .slice a3_0 n3_0 c3_0, .slice a4_0 n4_0 c4_0, .slice a5_0 n5_0 c5_0] 25) := P0_5.out.below hb
  have P1_6 : Hid (VarIs w8 (w.heap.size + 1) #[.int .i64 st_1, .int .i64 it_1, .slice a2_1 n2_1 c2_1, .slice a3_1 n3_1 c3_1, .slice a4_1 n4_1 c4_1, .slice a5_1 n5_1 c5_1] 25) := P1_5.out.below hb
  have Y0_6 : Hid (IaAt w8 w6.heap.size ⟨st_0, it_0, ins_0, outs_0, hids_0, steps_0⟩ (.agg #[.int .i64 st_0, .int .i64 it_0, .slice (some ⟨g2_0, 0, none⟩) ins_0.length ins_0.length, .slice (some ⟨g3_0, 0, none⟩) outs_0.length outs_0.length, .slice (some ⟨g4_0, 0, none⟩) hids_0.length hids_0.length, .slice (some ⟨g5_0, 0, none⟩) steps_0.length steps_0.length])) := Y0_5.out.below hb
  have X0_6 : Hid (VarIs w8 w7.heap.size #[.int .i64 st_0, .int .i64 it_0, .slice (some ⟨g2_0, 0, none⟩) ins_0.length ins_0.length, .slice (some ⟨g3_0, 0, none⟩) outs_0.length outs_0.length, .slice (some ⟨g4_0, 0, none⟩) hids_0.length hids_0.length, .slice (some ⟨g5_0, 0, none⟩) steps_0.length steps_0.length] 31) := X0_5.out.below hb
  clear B5 P0_5 P1_5 Y0_5 X0_5
  clear hb
  obtain ⟨g2_1, g3_1, g4_1, g5_1, rfl, gb_1, lt3_1, lt4_1, lt5_1, o2, o3, o4, o5⟩ := hat
  have hg_1 := (o5.lt g5_1 rfl).2

  have Y1_6 : Hid (IaAt w8 ((w7.alloc (.cells #[.int .i64 st_0, .int .i64 it_0, .slice (some ⟨g2_0, 0, none⟩) ins_0.length ins_0.length, .slice (some ⟨g3_0, 0, none⟩) outs_0.length outs_0.length, .slice (some ⟨g4_0, 0, none⟩) hids_0.length hids_0.length, .slice (some ⟨g5_0, 0, none⟩) steps_0.length steps_0.length] 31))).heap.size ⟨st_1, it_1, ins_1, outs_1, hids_1, steps_1⟩ (.agg #[.int .i64 st_1, .int .i64 it_1, .slice (some ⟨g2_1, 0, none⟩) ins_1.length ins_1.length, .slice (some ⟨g3_1, 0, none⟩) outs_1.length outs_1.length, .slice (some ⟨g4_1, 0, none⟩) hids_1.length hids_1.length, .slice (some ⟨g5_1, 0, none⟩) steps_1.length steps_1.length])) := ⟨g2_1, g3_1, g4_1, g5_1, rfl, gb_1, lt3_1, lt4_1, lt5_1, o2, o3, o4, o5⟩
  clear o2 o3 o4 o5
  simp only
  have hb := (Below.refl w8.heap.size w8).alloc (Nat.le_refl _) (.cells #[.int .i64 st_1, .int .i64 it_1, .slice (some ⟨g2_1, 0, none⟩) ins_1.length ins_1.length, .slice (some ⟨g3_1, 0, none⟩) outs_1.length outs_1.length, .slice (some ⟨g4_1, 0, none⟩) hids_1.length hids_1.length, .slice (some ⟨g5_1, 0, none⟩) steps_1.length steps_1.length] 31)
  have hzb_1 : (w8.alloc (.cells #[.int .i64 st_1, .int .i64 it_1, .slice (some ⟨g2_1, 0, none⟩) ins_1.length ins_1.length, .slice (some ⟨g3_1, 0, none⟩) outs_1.length outs_1.length, .slice (some ⟨g4_1, 0, none⟩) hids_1.length hids_1.length, .slice (some ⟨g5_1, 0, none⟩) steps_1.length steps_1.length] 31)).heap.size = w8.heap.size + 1 := by simp
  have B7 : Hid (Below w.heap.size w (w8.alloc (.cells #[.int .i64 st_1, .int .i64 it_1, .slice (some ⟨g2_1, 0, none⟩) ins_1.length ins_1.length, .slice (some ⟨g3_1, 0, none⟩) outs_1.length outs_1.length, .slice (some ⟨g4_1, 0, none⟩) hids_1.length hids_1.length, .slice (some ⟨g5_1, 0, none⟩) steps_1.length steps_1.length] 31))) := B6.out.trans (hb.mono B6.out.size)
  have P0_7 : Hid (VarIs (w8.alloc (.cells #[.int .i64 st_1, .int .i64 it_1, .slice (some ⟨g2_1, 0, none⟩) ins_1.length ins_1.length, .slice (some ⟨g3_1, 0, none⟩) outs_1.length outs_1.length, .slice (some ⟨g4_1, 0, none⟩) hids_1.length hids_1.length, .slice (some ⟨g5_1, 0, none⟩) steps_1.length steps_1.length] 31)) (w.heap.size) #[.int .i64 st_0, .int .i64 it_0, .slice a2_0 n2_0 c2_0, .slice a3_0 n3_0 c3_0, .slice a4_0 n4_0 c4_0, .slice a5_0 n5_0 c5_0] 25) := P0_6.out.below hb
  have P1_7 : Hid (VarIs (w8.alloc (.cells #[.int .i64 st_1, .int .i64 it_1, .slice (some ⟨g2_1, 0, none⟩) ins_1.length ins_1.length, .slice (some ⟨g3_1, 0, none⟩) outs_1.length outs_1.length, .slice (some ⟨g4_1, 0, none⟩) hids_1.length hids_1.length, .slice (some ⟨g5_1, 0, none⟩) steps_1.length steps_1.length] 31)) (w.heap.size + 1) #[.int .i64 st_1, .int .i64 it_1, .slice a2_1 n2_1 c2_1, .slice a3_1 n3_1 c3_1, .slice a4_1 n4_1 c4_1, .slice a5_1 n5_1 c5_1] 25) := P1_6.out.below hb
  have Y0_7 : Hid (IaAt (w8.alloc (.cells #[.int .i64 st_1, .int .i64 it_1, .slice (some ⟨g2_1, 0, none⟩) ins_1.length ins_1.length, .slice (some ⟨g3_1, 0, none⟩) outs_1.length outs_1.length, .slice (some ⟨g4_1, 0, none⟩) hids_1.length hids_1.length, .slice (some ⟨g5_1, 0, none⟩) steps_1.length steps_1.length] 31)) w6.heap.size ⟨st_0, it_0, ins_0, outs_0, hids_0, steps_0⟩ (.agg #[.int .i64 st_0, .int .i64 it_0, .slice (some ⟨g2_0, 0, none⟩) ins_0.length ins_0.length, .slice (some ⟨g3_0, 0, none⟩) outs_0.length outs_0.length, .slice (some ⟨g4_0, 0, none⟩) hids_0.length hids_0.length, .slice (some ⟨g5_0, 0, none⟩) steps_0.length steps_0.length])) := Y0_6.out.below hb
  have X0_7 : Hid (VarIs (w8.alloc (.cells #[.int .i64 st_1, .int .i64 it_1, .slice (some ⟨g2_1, 0, none⟩) ins_1.length ins_1.length, .slice (some ⟨g3_1, 0, none⟩) outs_1.length outs_1.length, .slice (some ⟨g4_1, 0, none⟩) hids_1.length hids_1.length, .slice (some ⟨g5_1, 0, none⟩) steps_1.length steps_1.length] 31)) w7.heap.size #[.int .i64 st_0, .int .i64 it_0, .slice (some ⟨g2_0, 0, none⟩) ins_0.length ins_0.length, .slice (some ⟨g3_0, 0, none⟩) outs_0.length outs_0.length, .slice (some ⟨g4_0, 0, none⟩) hids_0.length hids_0.length, .slice (some ⟨g5_0, 0, none⟩) steps_0.length steps_0.length] 31) := X0_6.out.below hb
  have Y1_7 : Hid (IaAt (w8.alloc (.cells #[.int .i64 st_1, .int .i64 it_1, .slice (some ⟨g2_1, 0, none⟩) ins_1.length ins_1.length, .slice (some ⟨g3_1, 0, none⟩) outs_1.length outs_1.length, .slice (some ⟨g4_1, 0, none⟩) hids_1.length hids_1.length, .slice (some ⟨g5_1, 0, none⟩) steps_1.length steps_1.length] 31)) ((w7.alloc (.cells #[.int .i64 st_0, .int .i64 it_0, .slice (some ⟨g2_0, 0, none⟩) ins_0.length ins_0.length, .slice (some ⟨g3_0, 0, none⟩) outs_0.length outs_0.length, .slice (some ⟨g4_0, 0, none⟩) hids_0.length hids_0.length, .slice (some ⟨g5_0, 0, none⟩) steps_0.length steps_0.length] 31))).heap.size ⟨st_1, it_1, ins_1, outs_1, hids_1, steps_1⟩ (.agg #[.int .i64 st_1, .int .i64 it_1, .slice (some ⟨g2_1, 0, none⟩) ins_1.length ins_1.length, .slice (some ⟨g3_1, 0, none⟩) outs_1.length outs_1.length, .slice (some ⟨g4_1, 0, none⟩) hids_1.length hids_1.length, .slice (some ⟨g5_1, 0, none⟩) steps_1.length steps_1.length])) := Y1_6.out.below hb
  clear B6 P0_6 P1_6 Y0_6 X0_6 Y1_6
  clear hb
  have X1_7 : Hid (VarIs (w8.alloc (.cells #[.int .i64 st_1, .int .i64 it_1, .slice (some ⟨g2_1, 0, none⟩) ins_1.length ins_1.length, .slice (some ⟨g3_1, 0, none⟩) outs_1.length outs_1.length, .slice (some ⟨g4_1, 0, none⟩) hids_1.length hids_1.length, .slice (some ⟨g5_1, 0, none⟩) steps_1.length steps_1.length] 31)) w8.heap.size #[.int .i64 st_1, .int .i64 it_1, .slice (some ⟨g2_1, 0, none⟩) ins_1.length ins_1.length, .slice (some ⟨g3_1, 0, none⟩) outs_1.length outs_1.length, .slice (some ⟨g4_1, 0, none⟩) hids_1.length hids_1.length, .slice (some ⟨g5_1, 0, none⟩) steps_1.length steps_1.length] 31) := VarIs.new w8 #[.int .i64 st_1, .int .i64 it_1, .slice (some ⟨g2_1, 0, none⟩) ins_1.length ins_1.length, .slice (some ⟨g3_1, 0, none⟩) outs_1.length outs_1.length, .slice (some ⟨g4_1, 0, none⟩) hids_1.length hids_1.length, .slice (some ⟨g5_1, 0, none⟩) steps_1.length steps_1.length] 31 rfl
  go_wp2_with fail
  have CF : Hid (Calls Tryz.prog 9 #[.slice a_2 n_2 c_2] (w8.alloc (.cells #[.int .i64 st_1, .int .i64 it_1, .slice (some ⟨g2_1, 0, none⟩) ins_1.length ins_1.length, .slice (some ⟨g3_1, 0, none⟩) outs_1.length outs_1.length, .slice (some ⟨g4_1, 0, none⟩) hids_1.length hids_1.length, .slice (some ⟨g5_1, 0, none⟩) steps_1.length steps_1.length] 31)) fun e w' => e = .returned (.slice (some ⟨w8.heap.size + 1, 0, none⟩) n_2 n_2) ∧ OwnsS 48 w' (w8.heap.size + 1) (.slice (some ⟨w8.heap.size + 1, 0, none⟩) n_2 n_2) n_2 xs_2 ∧ Below (w8.alloc (.cells #[.int .i64 st_1, .int .i64 it_1, .slice (some ⟨g2_1, 0, none⟩) ins_1.length ins_1.length, .slice (some ⟨g3_1, 0, none⟩) outs_1.length outs_1.length, .slice (some ⟨g4_1, 0, none⟩) hids_1.length hids_1.length, .slice (some ⟨g5_1, 0, none⟩) steps_1.length steps_1.length] 31)).heap.size (w8.alloc (.cells #[.int .i64 st_1, .int .i64 it_1, .slice (some ⟨g2_1, 0, none⟩) ins_1.length ins_1.length, .slice (some ⟨g3_1, 0, none⟩) outs_1.length outs_1.length, .slice (some ⟨g4_1, 0, none⟩) hids_1.length hids_1.length, .slice (some ⟨g5_1, 0, none⟩) steps_1.length steps_1.length] 31)) w') := by
    have h0 := toStepS_any a_2 n_2 c_2 xs_2 (w8.alloc (.cells #[.int .i64 st_1, .int .i64 it_1, .slice (some ⟨g2_1, 0, none⟩) ins_1.length ins_1.length, .slice (some ⟨g3_1, 0, none⟩) outs_1.length outs_1.length, .slice (some ⟨g4_1, 0, none⟩) hids_1.length hids_1.length, .slice (some ⟨g5_1, 0, none⟩) steps_1.length steps_1.length] 31)) (HA_2.out _ B7.out) (by omega)
    have hz0 : (w8.alloc (.cells #[.int .i64 st_1, .int .i64 it_1, .slice (some ⟨g2_1, 0, none⟩) ins_1.length ins_1.length, .slice (some ⟨g3_1, 0, none⟩) outs_1.length outs_1.length, .slice (some ⟨g4_1, 0, none⟩) hids_1.length hids_1.length, .slice (some ⟨g5_1, 0, none⟩) steps_1.length steps_1.length] 31)).heap.size = w8.heap.size + 1 := by simp
    unfold Hid
    rw [hz0] at h0 ⊢
    exact h0
  refine (CF.out).mono ?_
  rintro e w9 ⟨rfl, ho, hb⟩
  have hzzw9 := hb.size
  have B8 : Hid (Below w.heap.size w w9) := B7.out.trans (hb.mono B7.out.size)
  have P0_8 : Hid (VarIs w9 (w.heap.size) #[.int .i64 st_0, .int .i64 it_0, .slice a2_0 n2_0 c2_0, .slice a3_0 n3_0 c3_0, .slice a4_0 n4_0 c4_0, .slice a5_0 n5_0 c5_0] 25) := P0_7.out.below hb
  have P1_8 : Hid (VarIs w9 (w.heap.size + 1) #[.int .i64 st_1, .int .i64 it_1, .slice a2_1 n2_1 c2_1, .slice a3_1 n3_1 c3_1, .slice a4_1 n4_1 c4_1, .slice a5_1 n5_1 c5_1] 25) := P1_7.out.below hb
  have Y0_8 : Hid (IaAt w9 w6.heap.size ⟨st_0, it_0, ins_0, outs_0, hids_0, steps_0⟩ (.agg #[.int .i64 st_0, .int .i64 it_0, .slice (some ⟨g2_0, 0, none⟩) ins_0.length ins_0.length, .slice (some ⟨g3_0, 0, none⟩) outs_0.length outs_0.length, .slice (some ⟨g4_0, 0, none⟩) hids_0.length hids_0.length, .slice (some ⟨g5_0, 0, none⟩) steps_0.length steps_0.length])) := Y0_7.out.below hb
  have X0_8 : Hid (VarIs w9 w7.heap.size #[.int .i64 st_0, .int .i64 it_0, .slice (some ⟨g2_0, 0, none⟩) ins_0.length ins_0.length, .slice (some ⟨g3_0, 0, none⟩) outs_0.length outs_0.length, .slice (some ⟨g4_0, 0, none⟩) hids_0.length hids_0.length, .slice (some ⟨g5_0, 0, none⟩) steps_0.length steps_0.length] 31) := X0_7.out.below hb
  have Y1_8 : Hid (IaAt w9 ((w7.alloc (.cells #[.int .i64 st_0, .int .i64 it_0, .slice (some ⟨g2_0, 0, none⟩) ins_0.length ins_0.length, .slice (some ⟨g3_0, 0, none⟩) outs_0.length outs_0.length, .slice (some ⟨g4_0, 0, none⟩) hids_0.length hids_0.length, .slice (some ⟨g5_0, 0, none⟩) steps_0.length steps_0.length] 31))).heap.size ⟨st_1, it_1, ins_1, outs_1, hids_1, steps_1⟩ (.agg #[.int .i64 st_1, .int .i64 it_1, .slice (some ⟨g2_1, 0, none⟩) ins_1.length ins_1.length, .slice (some ⟨g3_1, 0, none⟩) outs_1.length outs_1.length, .slice (some ⟨g4_1, 0, none⟩) hids_1.length hids_1.length, .slice (some ⟨g5_1, 0, none⟩) steps_1.length steps_1.length])) := Y1_7.out.below hb
  have X1_8 : Hid (VarIs w9 w8.heap.size #[.int .i64 st_1, .int .i64 it_1, .slice (some ⟨g2_1, 0, none⟩) ins_1.length ins_1.length, .slice (some ⟨g3_1, 0, none⟩) outs_1.length outs_1.length, .slice (some ⟨g4_1, 0, none⟩) hids_1.length hids_1.length, .slice (some ⟨g5_1, 0, none⟩) steps_1.length steps_1.length] 31) := X1_7.out.below hb
  clear B7 P0_7 P1_7 Y0_7 X0_7 Y1_7 X1_7
  clear hb CF
  have hy_2 := (ho.lt _ rfl).2
  have Y2_8 : Hid (OwnsS 48 w9 (w8.heap.size + 1) (.slice (some ⟨w8.heap.size + 1, 0, none⟩) n_2 n_2) n_2 xs_2) := ho
  clear ho
  have x0c0 := X0_8.out.cell (j := 0) (u := .int .i64 st_0) rfl
  have x0c1 := X0_8.out.cell (j := 1) (u := .int .i64 it_0) rfl
  have x0c2 := X0_8.out.cell (j := 2) (u := .slice (some ⟨g2_0, 0, none⟩) ins_0.length ins_0.length) rfl
  have x0c3 := X0_8.out.cell (j := 3) (u := .slice (some ⟨g3_0, 0, none⟩) outs_0.length outs_0.length) rfl
  have x0c4 := X0_8.out.cell (j := 4) (u := .slice (some ⟨g4_0, 0, none⟩) hids_0.length hids_0.length) rfl
  have x0c5 := X0_8.out.cell (j := 5) (u := .slice (some ⟨g5_0, 0, none⟩) steps_0.length steps_0.length) rfl
  have x1c0 := X1_8.out.cell (j := 0) (u := .int .i64 st_1) rfl
  have x1c1 := X1_8.out.cell (j := 1) (u := .int .i64 it_1) rfl
  have x1c2 := X1_8.out.cell (j := 2) (u := .slice (some ⟨g2_1, 0, none⟩) ins_1.length ins_1.length) rfl
  have x1c3 := X1_8.out.cell (j := 3) (u := .slice (some ⟨g3_1, 0, none⟩) outs_1.length outs_1.length) rfl
  have x1c4 := X1_8.out.cell (j := 4) (u := .slice (some ⟨g4_1, 0, none⟩) hids_1.length hids_1.length) rfl
  have x1c5 := X1_8.out.cell (j := 5) (u := .slice (some ⟨g5_1, 0, none⟩) steps_1.length steps_1.length) rfl
  go_wp2_with fail
  clear  x0c0 x0c1 x0c2 x0c3 x0c4 x0c5 x1c0 x1c1 x1c2 x1c3 x1c4 x1c5
  refine (CI.out _ _ _ _ _ Y0_8.out.row Y1_8.out.row Y2_8.out.row.2.2.2).mono ?_
  rintro e w10 ⟨rfl, hb⟩
  have hzzw10 := hb.size
  have B9 : Hid (Below w.heap.size w w10) := B8.out.trans (hb.mono B8.out.size)
  have P0_9 : Hid (VarIs w10 (w.heap.size) #[.int .i64 st_0, .int .i64 it_0, .slice a2_0 n2_0 c2_0, .slice a3_0 n3_0 c3_0, .slice a4_0 n4_0 c4_0, .slice a5_0 n5_0 c5_0] 25) := P0_8.out.below hb
  have P1_9 : Hid (VarIs w10 (w.heap.size + 1) #[.int .i64 st_1, .int .i64 it_1, .slice a2_1 n2_1 c2_1, .slice a3_1 n3_1 c3_1, .slice a4_1 n4_1 c4_1, .slice a5_1 n5_1 c5_1] 25) := P1_8.out.below hb
  have Y0_9 : Hid (IaAt w10 w6.heap.size ⟨st_0, it_0, ins_0, outs_0, hids_0, steps_0⟩ (.agg #[.int .i64 st_0, .int .i64 it_0, .slice (some ⟨g2_0, 0, none⟩) ins_0.length ins_0.length, .slice (some ⟨g3_0, 0, none⟩) outs_0.length outs_0.length, .slice (some ⟨g4_0, 0, none⟩) hids_0.length hids_0.length, .slice (some ⟨g5_0, 0, none⟩) steps_0.length steps_0.length])) := Y0_8.out.below hb
  have X0_9 : Hid (VarIs w10 w7.heap.size #[.int .i64 st_0, .int .i64 it_0, .slice (some ⟨g2_0, 0, none⟩) ins_0.length ins_0.length, .slice (some ⟨g3_0, 0, none⟩) outs_0.length outs_0.length, .slice (some ⟨g4_0, 0, none⟩) hids_0.length hids_0.length, .slice (some ⟨g5_0, 0, none⟩) steps_0.length steps_0.length] 31) := X0_8.out.below hb
  have Y1_9 : Hid (IaAt w10 ((w7.alloc (.cells #[.int .i64 st_0, .int .i64 it_0, .slice (some ⟨g2_0, 0, none⟩) ins_0.length ins_0.length, .slice (some ⟨g3_0, 0, none⟩) outs_0.length outs_0.length, .slice (some ⟨g4_0, 0, none⟩) hids_0.length hids_0.length, .slice (some ⟨g5_0, 0, none⟩) steps_0.length steps_0.length] 31))).heap.size ⟨st_1, it_1, ins_1, outs_1, hids_1, steps_1⟩ (.agg #[.int .i64 st_1, .int .i64 it_1, .slice (some ⟨g2_1, 0, none⟩) ins_1.length ins_1.length, .slice (some ⟨g3_1, 0, none⟩) outs_1.length outs_1.length, .slice (some ⟨g4_1, 0, none⟩) hids_1.length hids_1.length, .slice (some ⟨g5_1, 0, none⟩) steps_1.length steps_1.length])) := Y1_8.out.below hb
  have X1_9 : Hid (VarIs w10 w8.heap.size #[.int .i64 st_1, .int .i64 it_1, .slice (some ⟨g2_1, 0, none⟩) ins_1.length ins_1.length, .slice (some ⟨g3_1, 0, none⟩) outs_1.length outs_1.length, .slice (some ⟨g4_1, 0, none⟩) hids_1.length hids_1.length, .slice (some ⟨g5_1, 0, none⟩) steps_1.length steps_1.length] 31) := X1_8.out.below hb
  have Y2_9 : Hid (OwnsS 48 w10 (w8.heap.size + 1) (.slice (some ⟨w8.heap.size + 1, 0, none⟩) n_2 n_2) n_2 xs_2) := Y2_8.out.below hb
  clear B8 P0_8 P1_8 Y0_8 X0_8 Y1_8 X1_8 Y2_8
  clear hb
  have hqn : (q != q) = false := by cases q <;> rfl
  go_wp2_with fail
  have SD : (Below w.heap.size w w10.drew) ∧ (VarIs w10.drew (w.heap.size) #[.int .i64 st_0, .int .i64 it_0, .slice a2_0 n2_0 c2_0, .slice a3_0 n3_0 c3_0, .slice a4_0 n4_0 c4_0, .slice a5_0 n5_0 c5_0] 25) ∧ (VarIs w10.drew (w.heap.size + 1) #[.int .i64 st_1, .int .i64 it_1, .slice a2_1 n2_1 c2_1, .slice a3_1 n3_1 c3_1, .slice a4_1 n4_1 c4_1, .slice a5_1 n5_1 c5_1] 25) ∧ (IaAt w10.drew w6.heap.size ⟨st_0, it_0, ins_0, outs_0, hids_0, steps_0⟩ (.agg #[.int .i64 st_0, .int .i64 it_0, .slice (some ⟨g2_0, 0, none⟩) ins_0.length ins_0.length, .slice (some ⟨g3_0, 0, none⟩) outs_0.length outs_0.length, .slice (some ⟨g4_0, 0, none⟩) hids_0.length hids_0.length, .slice (some ⟨g5_0, 0, none⟩) steps_0.length steps_0.length])) ∧ (VarIs w10.drew w7.heap.size #[.int .i64 st_0, .int .i64 it_0, .slice (some ⟨g2_0, 0, none⟩) ins_0.length ins_0.length, .slice (some ⟨g3_0, 0, none⟩) outs_0.length outs_0.length, .slice (some ⟨g4_0, 0, none⟩) hids_0.length hids_0.length, .slice (some ⟨g5_0, 0, none⟩) steps_0.length steps_0.length] 31) ∧ (IaAt w10.drew ((w7.alloc (.cells #[.int .i64 st_0, .int .i64 it_0, .slice (some ⟨g2_0, 0, none⟩) ins_0.length ins_0.length, .slice (some ⟨g3_0, 0, none⟩) outs_0.length outs_0.length, .slice (some ⟨g4_0, 0, none⟩) hids_0.length hids_0.length, .slice (some ⟨g5_0, 0, none⟩) steps_0.length steps_0.length] 31))).heap.size ⟨st_1, it_1, ins_1, outs_1, hids_1, steps_1⟩ (.agg #[.int .i64 st_1, .int .i64 it_1, .slice (some ⟨g2_1, 0, none⟩) ins_1.length ins_1.length, .slice (some ⟨g3_1, 0, none⟩) outs_1.length outs_1.length, .slice (some ⟨g4_1, 0, none⟩) hids_1.length hids_1.length, .slice (some ⟨g5_1, 0, none⟩) steps_1.length steps_1.length])) ∧ (VarIs w10.drew w8.heap.size #[.int .i64 st_1, .int .i64 it_1, .slice (some ⟨g2_1, 0, none⟩) ins_1.length ins_1.length, .slice (some ⟨g3_1, 0, none⟩) outs_1.length outs_1.length, .slice (some ⟨g4_1, 0, none⟩) hids_1.length hids_1.length, .slice (some ⟨g5_1, 0, none⟩) steps_1.length steps_1.length] 31) ∧ (OwnsS 48 w10.drew (w8.heap.size + 1) (.slice (some ⟨w8.heap.size + 1, 0, none⟩) n_2 n_2) n_2 xs_2) := ⟨B9.out.drew, P0_9.out.drew, P1_9.out.drew, Y0_9.out.drew, X0_9.out.drew, Y1_9.out.drew, X1_9.out.drew, Y2_9.out.drew⟩
  refine wp_region_tf (S := fun w' => (Below w.heap.size w w') ∧ (VarIs w' (w.heap.size) #[.int .i64 st_0, .int .i64 it_0, .slice a2_0 n2_0 c2_0, .slice a3_0 n3_0 c3_0, .slice a4_0 n4_0 c4_0, .slice a5_0 n5_0 c5_0] 25) ∧ (VarIs w' (w.heap.size + 1) #[.int .i64 st_1, .int .i64 it_1, .slice a2_1 n2_1 c2_1, .slice a3_1 n3_1 c3_1, .slice a4_1 n4_1 c4_1, .slice a5_1 n5_1 c5_1] 25) ∧ (IaAt w' w6.heap.size ⟨st_0, it_0, ins_0, outs_0, hids_0, steps_0⟩ (.agg #[.int .i64 st_0, .int .i64 it_0, .slice (some ⟨g2_0, 0, none⟩) ins_0.length ins_0.length, .slice (some ⟨g3_0, 0, none⟩) outs_0.length outs_0.length, .slice (some ⟨g4_0, 0, none⟩) hids_0.length hids_0.length, .slice (some ⟨g5_0, 0, none⟩) steps_0.length steps_0.length])) ∧ (VarIs w' w7.heap.size #[.int .i64 st_0, .int .i64 it_0, .slice (some ⟨g2_0, 0, none⟩) ins_0.length ins_0.length, .slice (some ⟨g3_0, 0, none⟩) outs_0.length outs_0.length, .slice (some ⟨g4_0, 0, none⟩) hids_0.length hids_0.length, .slice (some ⟨g5_0, 0, none⟩) steps_0.length steps_0.length] 31) ∧ (IaAt w' ((w7.alloc (.cells #[.int .i64 st_0, .int .i64 it_0, .slice (some ⟨g2_0, 0, none⟩) ins_0.length ins_0.length, .slice (some ⟨g3_0, 0, none⟩) outs_0.length outs_0.length, .slice (some ⟨g4_0, 0, none⟩) hids_0.length hids_0.length, .slice (some ⟨g5_0, 0, none⟩) steps_0.length steps_0.length] 31))).heap.size ⟨st_1, it_1, ins_1, outs_1, hids_1, steps_1⟩ (.agg #[.int .i64 st_1, .int .i64 it_1, .slice (some ⟨g2_1, 0, none⟩) ins_1.length ins_1.length, .slice (some ⟨g3_1, 0, none⟩) outs_1.length outs_1.length, .slice (some ⟨g4_1, 0, none⟩) hids_1.length hids_1.length, .slice (some ⟨g5_1, 0, none⟩) steps_1.length steps_1.length])) ∧ (VarIs w' w8.heap.size #[.int .i64 st_1, .int .i64 it_1, .slice (some ⟨g2_1, 0, none⟩) ins_1.length ins_1.length, .slice (some ⟨g3_1, 0, none⟩) outs_1.length outs_1.length, .slice (some ⟨g4_1, 0, none⟩) hids_1.length hids_1.length, .slice (some ⟨g5_1, 0, none⟩) steps_1.length steps_1.length] 31) ∧ (OwnsS 48 w' (w8.heap.size + 1) (.slice (some ⟨w8.heap.size + 1, 0, none⟩) n_2 n_2) n_2 xs_2)) 5 (by kernel_rfl) (by kernel_rfl) (by kernel_rfl) SD (fun hHeld => ?_)
  refine fast_yields 0 48 (.agg #[.int .i64 st_0, .int .i64 it_0, .slice (some ⟨g2_0, 0, none⟩) ins_0.length ins_0.length, .slice (some ⟨g3_0, 0, none⟩) outs_0.length outs_0.length, .slice (some ⟨g4_0, 0, none⟩) hids_0.length hids_0.length, .slice (some ⟨g5_0, 0, none⟩) steps_0.length steps_0.length]) (fuel := 4) rfl rfl (by kernel_rfl) (by kernel_rfl) (by kernel_rfl) (fun _ _ _ h => h) (yieldsIf_load_mid (by rfl) _ _ rfl (w7.heap.size) 0 rfl #[.int .i64 st_0, .int .i64 it_0, .slice (some ⟨g2_0, 0, none⟩) ins_0.length ins_0.length, .slice (some ⟨g3_0, 0, none⟩) outs_0.length outs_0.length, .slice (some ⟨g4_0, 0, none⟩) hids_0.length hids_0.length, .slice (some ⟨g5_0, 0, none⟩) steps_0.length steps_0.length].toList _ (fun w hw => hw.2.2.2.2.1.range) Tryz.underlying31 rfl (by kernel_rfl)) hHeld (tf 1 5) (by kernel_rfl) (fun K hK => ?_)
  go_big_move
  refine hK.out _ ?_
  clear hK K
  refine fast_yields 1 49 (.agg #[.int .i64 st_0, .int .i64 it_0, .slice a2_0 n2_0 c2_0, .slice a3_0 n3_0 c3_0, .slice a4_0 n4_0 c4_0, .slice a5_0 n5_0 c5_0]) (fuel := 3) rfl rfl (by kernel_rfl) (by kernel_rfl) (by kernel_rfl) (fun _ _ _ h => h) (yieldsIf_load_mid (by rfl) _ _ rfl (w.heap.size) 0 rfl #[.int .i64 st_0, .int .i64 it_0, .slice a2_0 n2_0 c2_0, .slice a3_0 n3_0 c3_0, .slice a4_0 n4_0 c4_0, .slice a5_0 n5_0 c5_0].toList _ (fun w hw => hw.2.1.range) Tryz.underlying25 rfl (by kernel_rfl)) hHeld (tf 3 5) (by kernel_rfl) (fun K hK => ?_)
  go_big_move
  refine hK.out _ ?_
  clear hK K
  refine wpAnyH_ready (rs := [2]) (fuel := 2) (by kernel_rfl) (by simp) ?_
  refine ready_want rfl (by kernel_rfl) (tf 7 5) (by kernel_rfl) (fun K hK => ?_) AllReadyH.nil
  simp only [List.getElem_toArray, List.getElem_cons_succ, List.getElem_cons_zero]
  go_big_op
  refine (CT_0.out _ hHeld.1).mono ?_
  rintro e w11 ⟨vq, rfl, hat, hb⟩
  have hzzw11 : w10.heap.size ≤ w11.heap.size := hb.size
  have kq := hat.row
  have hS : (Below w.heap.size w w11) ∧ (VarIs w11 (w.heap.size) #[.int .i64 st_0, .int .i64 it_0, .slice a2_0 n2_0 c2_0, .slice a3_0 n3_0 c3_0, .slice a4_0 n4_0 c4_0, .slice a5_0 n5_0 c5_0] 25) ∧ (VarIs w11 (w.heap.size + 1) #[.int .i64 st_1, .int .i64 it_1, .slice a2_1 n2_1 c2_1, .slice a3_1 n3_1 c3_1, .slice a4_1 n4_1 c4_1, .slice a5_1 n5_1 c5_1] 25) ∧ (IaAt w11 w6.heap.size ⟨st_0, it_0, ins_0, outs_0, hids_0, steps_0⟩ (.agg #[.int .i64 st_0, .int .i64 it_0, .slice (some ⟨g2_0, 0, none⟩) ins_0.length ins_0.length, .slice (some ⟨g3_0, 0, none⟩) outs_0.length outs_0.length, .slice (some ⟨g4_0, 0, none⟩) hids_0.length hids_0.length, .slice (some ⟨g5_0, 0, none⟩) steps_0.length steps_0.length])) ∧ (VarIs w11 w7.heap.size #[.int .i64 st_0, .int .i64 it_0, .slice (some ⟨g2_0, 0, none⟩) ins_0.length ins_0.length, .slice (some ⟨g3_0, 0, none⟩) outs_0.length outs_0.length, .slice (some ⟨g4_0, 0, none⟩) hids_0.length hids_0.length, .slice (some ⟨g5_0, 0, none⟩) steps_0.length steps_0.length] 31) ∧ (IaAt w11 ((w7.alloc (.cells #[.int .i64 st_0, .int .i64 it_0, .slice (some ⟨g2_0, 0, none⟩) ins_0.length ins_0.length, .slice (some ⟨g3_0, 0, none⟩) outs_0.length outs_0.length, .slice (some ⟨g4_0, 0, none⟩) hids_0.length hids_0.length, .slice (some ⟨g5_0, 0, none⟩) steps_0.length steps_0.length] 31))).heap.size ⟨st_1, it_1, ins_1, outs_1, hids_1, steps_1⟩ (.agg #[.int .i64 st_1, .int .i64 it_1, .slice (some ⟨g2_1, 0, none⟩) ins_1.length ins_1.length, .slice (some ⟨g3_1, 0, none⟩) outs_1.length outs_1.length, .slice (some ⟨g4_1, 0, none⟩) hids_1.length hids_1.length, .slice (some ⟨g5_1, 0, none⟩) steps_1.length steps_1.length])) ∧ (VarIs w11 w8.heap.size #[.int .i64 st_1, .int .i64 it_1, .slice (some ⟨g2_1, 0, none⟩) ins_1.length ins_1.length, .slice (some ⟨g3_1, 0, none⟩) outs_1.length outs_1.length, .slice (some ⟨g4_1, 0, none⟩) hids_1.length hids_1.length, .slice (some ⟨g5_1, 0, none⟩) steps_1.length steps_1.length] 31) ∧ (OwnsS 48 w11 (w8.heap.size + 1) (.slice (some ⟨w8.heap.size + 1, 0, none⟩) n_2 n_2) n_2 xs_2) := ⟨hHeld.1.trans (hb.mono hHeld.1.size), hHeld.2.1.below hb, hHeld.2.2.1.below hb, hHeld.2.2.2.1.below hb, hHeld.2.2.2.2.1.below hb, hHeld.2.2.2.2.2.1.below hb, hHeld.2.2.2.2.2.2.1.below hb, hHeld.2.2.2.2.2.2.2.below hb⟩
  clear hat hb
  refine hK.out _ _ hS (fun hHeld => ?_)
  clear hK K
  refine wpAnyH_ready (rs := [3]) (fuel := 1) (by kernel_rfl) (by simp) ?_
  refine ready_want rfl (by kernel_rfl) (tf 15 5) (by kernel_rfl) (fun K hK => ?_) AllReadyH.nil
  simp only [List.getElem_toArray, List.getElem_cons_succ, List.getElem_cons_zero]
  go_big_op
  refine (CQ_0.out _ _ _ hHeld.2.2.2.1.row kq).mono ?_
  rintro e w12 ⟨rfl, hb⟩
  have hzzw12 : w11.heap.size ≤ w12.heap.size := hb.size
  have hS : (Below w.heap.size w w12) ∧ (VarIs w12 (w.heap.size) #[.int .i64 st_0, .int .i64 it_0, .slice a2_0 n2_0 c2_0, .slice a3_0 n3_0 c3_0, .slice a4_0 n4_0 c4_0, .slice a5_0 n5_0 c5_0] 25) ∧ (VarIs w12 (w.heap.size + 1) #[.int .i64 st_1, .int .i64 it_1, .slice a2_1 n2_1 c2_1, .slice a3_1 n3_1 c3_1, .slice a4_1 n4_1 c4_1, .slice a5_1 n5_1 c5_1] 25) ∧ (IaAt w12 w6.heap.size ⟨st_0, it_0, ins_0, outs_0, hids_0, steps_0⟩ (.agg #[.int .i64 st_0, .int .i64 it_0, .slice (some ⟨g2_0, 0, none⟩) ins_0.length ins_0.length, .slice (some ⟨g3_0, 0, none⟩) outs_0.length outs_0.length, .slice (some ⟨g4_0, 0, none⟩) hids_0.length hids_0.length, .slice (some ⟨g5_0, 0, none⟩) steps_0.length steps_0.length])) ∧ (VarIs w12 w7.heap.size #[.int .i64 st_0, .int .i64 it_0, .slice (some ⟨g2_0, 0, none⟩) ins_0.length ins_0.length, .slice (some ⟨g3_0, 0, none⟩) outs_0.length outs_0.length, .slice (some ⟨g4_0, 0, none⟩) hids_0.length hids_0.length, .slice (some ⟨g5_0, 0, none⟩) steps_0.length steps_0.length] 31) ∧ (IaAt w12 ((w7.alloc (.cells #[.int .i64 st_0, .int .i64 it_0, .slice (some ⟨g2_0, 0, none⟩) ins_0.length ins_0.length, .slice (some ⟨g3_0, 0, none⟩) outs_0.length outs_0.length, .slice (some ⟨g4_0, 0, none⟩) hids_0.length hids_0.length, .slice (some ⟨g5_0, 0, none⟩) steps_0.length steps_0.length] 31))).heap.size ⟨st_1, it_1, ins_1, outs_1, hids_1, steps_1⟩ (.agg #[.int .i64 st_1, .int .i64 it_1, .slice (some ⟨g2_1, 0, none⟩) ins_1.length ins_1.length, .slice (some ⟨g3_1, 0, none⟩) outs_1.length outs_1.length, .slice (some ⟨g4_1, 0, none⟩) hids_1.length hids_1.length, .slice (some ⟨g5_1, 0, none⟩) steps_1.length steps_1.length])) ∧ (VarIs w12 w8.heap.size #[.int .i64 st_1, .int .i64 it_1, .slice (some ⟨g2_1, 0, none⟩) ins_1.length ins_1.length, .slice (some ⟨g3_1, 0, none⟩) outs_1.length outs_1.length, .slice (some ⟨g4_1, 0, none⟩) hids_1.length hids_1.length, .slice (some ⟨g5_1, 0, none⟩) steps_1.length steps_1.length] 31) ∧ (OwnsS 48 w12 (w8.heap.size + 1) (.slice (some ⟨w8.heap.size + 1, 0, none⟩) n_2 n_2) n_2 xs_2) := ⟨hHeld.1.trans (hb.mono hHeld.1.size), hHeld.2.1.below hb, hHeld.2.2.1.below hb, hHeld.2.2.2.1.below hb, hHeld.2.2.2.2.1.below hb, hHeld.2.2.2.2.2.1.below hb, hHeld.2.2.2.2.2.2.1.below hb, hHeld.2.2.2.2.2.2.2.below hb⟩
  clear hb kq
  refine hK.out _ _ hS (fun hHeld => ?_)
  clear hK K
  refine fast1 4 52 (.bool false) (.tmp 51) (.bool true) (fuel := 0) rfl rfl (by kernel_rfl) (by kernel_rfl) (by kernel_rfl) (fun _ _ _ h => h) (by kernel_rfl) (by kernel_rfl) (fun ρ hr0 _ w hSw => by simp [go_sem, hr0]) hHeld (tf 31 5) (by kernel_rfl) (fun K hK => ?_)
  go_big_move
  refine hK.out _ ?_
  clear hK K
  refine wpAnyH_done (by kernel_rfl) ?_ _
  have B10 : Hid (Below w.heap.size w w12) := hHeld.1
  have P0_10 : Hid (VarIs w12 (w.heap.size) #[.int .i64 st_0, .int .i64 it_0, .slice a2_0 n2_0 c2_0, .slice a3_0 n3_0 c3_0, .slice a4_0 n4_0 c4_0, .slice a5_0 n5_0 c5_0] 25) := hHeld.2.1
  have P1_10 : Hid (VarIs w12 (w.heap.size + 1) #[.int .i64 st_1, .int .i64 it_1, .slice a2_1 n2_1 c2_1, .slice a3_1 n3_1 c3_1, .slice a4_1 n4_1 c4_1, .slice a5_1 n5_1 c5_1] 25) := hHeld.2.2.1
  have Y0_10 : Hid (IaAt w12 w6.heap.size ⟨st_0, it_0, ins_0, outs_0, hids_0, steps_0⟩ (.agg #[.int .i64 st_0, .int .i64 it_0, .slice (some ⟨g2_0, 0, none⟩) ins_0.length ins_0.length, .slice (some ⟨g3_0, 0, none⟩) outs_0.length outs_0.length, .slice (some ⟨g4_0, 0, none⟩) hids_0.length hids_0.length, .slice (some ⟨g5_0, 0, none⟩) steps_0.length steps_0.length])) := hHeld.2.2.2.1
  have X0_10 : Hid (VarIs w12 w7.heap.size #[.int .i64 st_0, .int .i64 it_0, .slice (some ⟨g2_0, 0, none⟩) ins_0.length ins_0.length, .slice (some ⟨g3_0, 0, none⟩) outs_0.length outs_0.length, .slice (some ⟨g4_0, 0, none⟩) hids_0.length hids_0.length, .slice (some ⟨g5_0, 0, none⟩) steps_0.length steps_0.length] 31) := hHeld.2.2.2.2.1
  have Y1_10 : Hid (IaAt w12 ((w7.alloc (.cells #[.int .i64 st_0, .int .i64 it_0, .slice (some ⟨g2_0, 0, none⟩) ins_0.length ins_0.length, .slice (some ⟨g3_0, 0, none⟩) outs_0.length outs_0.length, .slice (some ⟨g4_0, 0, none⟩) hids_0.length hids_0.length, .slice (some ⟨g5_0, 0, none⟩) steps_0.length steps_0.length] 31))).heap.size ⟨st_1, it_1, ins_1, outs_1, hids_1, steps_1⟩ (.agg #[.int .i64 st_1, .int .i64 it_1, .slice (some ⟨g2_1, 0, none⟩) ins_1.length ins_1.length, .slice (some ⟨g3_1, 0, none⟩) outs_1.length outs_1.length, .slice (some ⟨g4_1, 0, none⟩) hids_1.length hids_1.length, .slice (some ⟨g5_1, 0, none⟩) steps_1.length steps_1.length])) := hHeld.2.2.2.2.2.1
  have X1_10 : Hid (VarIs w12 w8.heap.size #[.int .i64 st_1, .int .i64 it_1, .slice (some ⟨g2_1, 0, none⟩) ins_1.length ins_1.length, .slice (some ⟨g3_1, 0, none⟩) outs_1.length outs_1.length, .slice (some ⟨g4_1, 0, none⟩) hids_1.length hids_1.length, .slice (some ⟨g5_1, 0, none⟩) steps_1.length steps_1.length] 31) := hHeld.2.2.2.2.2.2.1
  have Y2_10 : Hid (OwnsS 48 w12 (w8.heap.size + 1) (.slice (some ⟨w8.heap.size + 1, 0, none⟩) n_2 n_2) n_2 xs_2) := hHeld.2.2.2.2.2.2.2
  clear hHeld SD B9 P0_9 P1_9 Y0_9 X0_9 Y1_9 X1_9 Y2_9
  go_wp2_with fail
  have SD : (Below w.heap.size w w12.drew) ∧ (VarIs w12.drew (w.heap.size) #[.int .i64 st_0, .int .i64 it_0, .slice a2_0 n2_0 c2_0, .slice a3_0 n3_0 c3_0, .slice a4_0 n4_0 c4_0, .slice a5_0 n5_0 c5_0] 25) ∧ (VarIs w12.drew (w.heap.size + 1) #[.int .i64 st_1, .int .i64 it_1, .slice a2_1 n2_1 c2_1, .slice a3_1 n3_1 c3_1, .slice a4_1 n4_1 c4_1, .slice a5_1 n5_1 c5_1] 25) ∧ (IaAt w12.drew w6.heap.size ⟨st_0, it_0, ins_0, outs_0, hids_0, steps_0⟩ (.agg #[.int .i64 st_0, .int .i64 it_0, .slice (some ⟨g2_0, 0, none⟩) ins_0.length ins_0.length, .slice (some ⟨g3_0, 0, none⟩) outs_0.length outs_0.length, .slice (some ⟨g4_0, 0, none⟩) hids_0.length hids_0.length, .slice (some ⟨g5_0, 0, none⟩) steps_0.length steps_0.length])) ∧ (VarIs w12.drew w7.heap.size #[.int .i64 st_0, .int .i64 it_0, .slice (some ⟨g2_0, 0, none⟩) ins_0.length ins_0.length, .slice (some ⟨g3_0, 0, none⟩) outs_0.length outs_0.length, .slice (some ⟨g4_0, 0, none⟩) hids_0.length hids_0.length, .slice (some ⟨g5_0, 0, none⟩) steps_0.length steps_0.length] 31) ∧ (IaAt w12.drew ((w7.alloc (.cells #[.int .i64 st_0, .int .i64 it_0, .slice (some ⟨g2_0, 0, none⟩) ins_0.length ins_0.length, .slice (some ⟨g3_0, 0, none⟩) outs_0.length outs_0.length, .slice (some ⟨g4_0, 0, none⟩) hids_0.length hids_0.length, .slice (some ⟨g5_0, 0, none⟩) steps_0.length steps_0.length] 31))).heap.size ⟨st_1, it_1, ins_1, outs_1, hids_1, steps_1⟩ (.agg #[.int .i64 st_1, .int .i64 it_1, .slice (some ⟨g2_1, 0, none⟩) ins_1.length ins_1.length, .slice (some ⟨g3_1, 0, none⟩) outs_1.length outs_1.length, .slice (some ⟨g4_1, 0, none⟩) hids_1.length hids_1.length, .slice (some ⟨g5_1, 0, none⟩) steps_1.length steps_1.length])) ∧ (VarIs w12.drew w8.heap.size #[.int .i64 st_1, .int .i64 it_1, .slice (some ⟨g2_1, 0, none⟩) ins_1.length ins_1.length, .slice (some ⟨g3_1, 0, none⟩) outs_1.length outs_1.length, .slice (some ⟨g4_1, 0, none⟩) hids_1.length hids_1.length, .slice (some ⟨g5_1, 0, none⟩) steps_1.length steps_1.length] 31) ∧ (OwnsS 48 w12.drew (w8.heap.size + 1) (.slice (some ⟨w8.heap.size + 1, 0, none⟩) n_2 n_2) n_2 xs_2) := ⟨B10.out.drew, P0_10.out.drew, P1_10.out.drew, Y0_10.out.drew, X0_10.out.drew, Y1_10.out.drew, X1_10.out.drew, Y2_10.out.drew⟩
  refine wp_region_tf (S := fun w' => (Below w.heap.size w w') ∧ (VarIs w' (w.heap.size) #[.int .i64 st_0, .int .i64 it_0, .slice a2_0 n2_0 c2_0, .slice a3_0 n3_0 c3_0, .slice a4_0 n4_0 c4_0, .slice a5_0 n5_0 c5_0] 25) ∧ (VarIs w' (w.heap.size + 1) #[.int .i64 st_1, .int .i64 it_1, .slice a2_1 n2_1 c2_1, .slice a3_1 n3_1 c3_1, .slice a4_1 n4_1 c4_1, .slice a5_1 n5_1 c5_1] 25) ∧ (IaAt w' w6.heap.size ⟨st_0, it_0, ins_0, outs_0, hids_0, steps_0⟩ (.agg #[.int .i64 st_0, .int .i64 it_0, .slice (some ⟨g2_0, 0, none⟩) ins_0.length ins_0.length, .slice (some ⟨g3_0, 0, none⟩) outs_0.length outs_0.length, .slice (some ⟨g4_0, 0, none⟩) hids_0.length hids_0.length, .slice (some ⟨g5_0, 0, none⟩) steps_0.length steps_0.length])) ∧ (VarIs w' w7.heap.size #[.int .i64 st_0, .int .i64 it_0, .slice (some ⟨g2_0, 0, none⟩) ins_0.length ins_0.length, .slice (some ⟨g3_0, 0, none⟩) outs_0.length outs_0.length, .slice (some ⟨g4_0, 0, none⟩) hids_0.length hids_0.length, .slice (some ⟨g5_0, 0, none⟩) steps_0.length steps_0.length] 31) ∧ (IaAt w' ((w7.alloc (.cells #[.int .i64 st_0, .int .i64 it_0, .slice (some ⟨g2_0, 0, none⟩) ins_0.length ins_0.length, .slice (some ⟨g3_0, 0, none⟩) outs_0.length outs_0.length, .slice (some ⟨g4_0, 0, none⟩) hids_0.length hids_0.length, .slice (some ⟨g5_0, 0, none⟩) steps_0.length steps_0.length] 31))).heap.size ⟨st_1, it_1, ins_1, outs_1, hids_1, steps_1⟩ (.agg #[.int .i64 st_1, .int .i64 it_1, .slice (some ⟨g2_1, 0, none⟩) ins_1.length ins_1.length, .slice (some ⟨g3_1, 0, none⟩) outs_1.length outs_1.length, .slice (some ⟨g4_1, 0, none⟩) hids_1.length hids_1.length, .slice (some ⟨g5_1, 0, none⟩) steps_1.length steps_1.length])) ∧ (VarIs w' w8.heap.size #[.int .i64 st_1, .int .i64 it_1, .slice (some ⟨g2_1, 0, none⟩) ins_1.length ins_1.length, .slice (some ⟨g3_1, 0, none⟩) outs_1.length outs_1.length, .slice (some ⟨g4_1, 0, none⟩) hids_1.length hids_1.length, .slice (some ⟨g5_1, 0, none⟩) steps_1.length steps_1.length] 31) ∧ (OwnsS 48 w' (w8.heap.size + 1) (.slice (some ⟨w8.heap.size + 1, 0, none⟩) n_2 n_2) n_2 xs_2)) 5 (by kernel_rfl) (by kernel_rfl) (by kernel_rfl) SD (fun hHeld => ?_)
  refine fast_yields 0 53 (.agg #[.int .i64 st_1, .int .i64 it_1, .slice (some ⟨g2_1, 0, none⟩) ins_1.length ins_1.length, .slice (some ⟨g3_1, 0, none⟩) outs_1.length outs_1.length, .slice (some ⟨g4_1, 0, none⟩) hids_1.length hids_1.length, .slice (some ⟨g5_1, 0, none⟩) steps_1.length steps_1.length]) (fuel := 4) rfl rfl (by kernel_rfl) (by kernel_rfl) (by kernel_rfl) (fun _ _ _ h => h) (yieldsIf_load_mid (by rfl) _ _ rfl (w8.heap.size) 0 rfl #[.int .i64 st_1, .int .i64 it_1, .slice (some ⟨g2_1, 0, none⟩) ins_1.length ins_1.length, .slice (some ⟨g3_1, 0, none⟩) outs_1.length outs_1.length, .slice (some ⟨g4_1, 0, none⟩) hids_1.length hids_1.length, .slice (some ⟨g5_1, 0, none⟩) steps_1.length steps_1.length].toList _ (fun w hw => hw.2.2.2.2.2.2.1.range) Tryz.underlying31 rfl (by kernel_rfl)) hHeld (tf 1 5) (by kernel_rfl) (fun K hK => ?_)
  go_big_move
  refine hK.out _ ?_
  clear hK K
  refine fast_yields 1 54 (.agg #[.int .i64 st_1, .int .i64 it_1, .slice a2_1 n2_1 c2_1, .slice a3_1 n3_1 c3_1, .slice a4_1 n4_1 c4_1, .slice a5_1 n5_1 c5_1]) (fuel := 3) rfl rfl (by kernel_rfl) (by kernel_rfl) (by kernel_rfl) (fun _ _ _ h => h) (yieldsIf_load_mid (by rfl) _ _ rfl (w.heap.size + 1) 0 rfl #[.int .i64 st_1, .int .i64 it_1, .slice a2_1 n2_1 c2_1, .slice a3_1 n3_1 c3_1, .slice a4_1 n4_1 c4_1, .slice a5_1 n5_1 c5_1].toList _ (fun w hw => hw.2.2.1.range) Tryz.underlying25 rfl (by kernel_rfl)) hHeld (tf 3 5) (by kernel_rfl) (fun K hK => ?_)
  go_big_move
  refine hK.out _ ?_
  clear hK K
  refine wpAnyH_ready (rs := [2]) (fuel := 2) (by kernel_rfl) (by simp) ?_
  refine ready_want rfl (by kernel_rfl) (tf 7 5) (by kernel_rfl) (fun K hK => ?_) AllReadyH.nil
  simp only [List.getElem_toArray, List.getElem_cons_succ, List.getElem_cons_zero]
  go_big_op
  refine (CT_1.out _ hHeld.1).mono ?_
  rintro e w13 ⟨vq, rfl, hat, hb⟩
  have hzzw13 : w12.heap.size ≤ w13.heap.size := hb.size
  have kq := hat.row
  have hS : (Below w.heap.size w w13) ∧ (VarIs w13 (w.heap.size) #[.int .i64 st_0, .int .i64 it_0, .slice a2_0 n2_0 c2_0, .slice a3_0 n3_0 c3_0, .slice a4_0 n4_0 c4_0, .slice a5_0 n5_0 c5_0] 25) ∧ (VarIs w13 (w.heap.size + 1) #[.int .i64 st_1, .int .i64 it_1, .slice a2_1 n2_1 c2_1, .slice a3_1 n3_1 c3_1, .slice a4_1 n4_1 c4_1, .slice a5_1 n5_1 c5_1] 25) ∧ (IaAt w13 w6.heap.size ⟨st_0, it_0, ins_0, outs_0, hids_0, steps_0⟩ (.agg #[.int .i64 st_0, .int .i64 it_0, .slice (some ⟨g2_0, 0, none⟩) ins_0.length ins_0.length, .slice (some ⟨g3_0, 0, none⟩) outs_0.length outs_0.length, .slice (some ⟨g4_0, 0, none⟩) hids_0.length hids_0.length, .slice (some ⟨g5_0, 0, none⟩) steps_0.length steps_0.length])) ∧ (VarIs w13 w7.heap.size #[.int .i64 st_0, .int .i64 it_0, .slice (some ⟨g2_0, 0, none⟩) ins_0.length ins_0.length, .slice (some ⟨g3_0, 0, none⟩) outs_0.length outs_0.length, .slice (some ⟨g4_0, 0, none⟩) hids_0.length hids_0.length, .slice (some ⟨g5_0, 0, none⟩) steps_0.length steps_0.length] 31) ∧ (IaAt w13 ((w7.alloc (.cells #[.int .i64 st_0, .int .i64 it_0, .slice (some ⟨g2_0, 0, none⟩) ins_0.length ins_0.length, .slice (some ⟨g3_0, 0, none⟩) outs_0.length outs_0.length, .slice (some ⟨g4_0, 0, none⟩) hids_0.length hids_0.length, .slice (some ⟨g5_0, 0, none⟩) steps_0.length steps_0.length] 31))).heap.size ⟨st_1, it_1, ins_1, outs_1, hids_1, steps_1⟩ (.agg #[.int .i64 st_1, .int .i64 it_1, .slice (some ⟨g2_1, 0, none⟩) ins_1.length ins_1.length, .slice (some ⟨g3_1, 0, none⟩) outs_1.length outs_1.length, .slice (some ⟨g4_1, 0, none⟩) hids_1.length hids_1.length, .slice (some ⟨g5_1, 0, none⟩) steps_1.length steps_1.length])) ∧ (VarIs w13 w8.heap.size #[.int .i64 st_1, .int .i64 it_1, .slice (some ⟨g2_1, 0, none⟩) ins_1.length ins_1.length, .slice (some ⟨g3_1, 0, none⟩) outs_1.length outs_1.length, .slice (some ⟨g4_1, 0, none⟩) hids_1.length hids_1.length, .slice (some ⟨g5_1, 0, none⟩) steps_1.length steps_1.length] 31) ∧ (OwnsS 48 w13 (w8.heap.size + 1) (.slice (some ⟨w8.heap.size + 1, 0, none⟩) n_2 n_2) n_2 xs_2) := ⟨hHeld.1.trans (hb.mono hHeld.1.size), hHeld.2.1.below hb, hHeld.2.2.1.below hb, hHeld.2.2.2.1.below hb, hHeld.2.2.2.2.1.below hb, hHeld.2.2.2.2.2.1.below hb, hHeld.2.2.2.2.2.2.1.below hb, hHeld.2.2.2.2.2.2.2.below hb⟩
  clear hat hb
  refine hK.out _ _ hS (fun hHeld => ?_)
  clear hK K
  refine wpAnyH_ready (rs := [3]) (fuel := 1) (by kernel_rfl) (by simp) ?_
  refine ready_want rfl (by kernel_rfl) (tf 15 5) (by kernel_rfl) (fun K hK => ?_) AllReadyH.nil
  simp only [List.getElem_toArray, List.getElem_cons_succ, List.getElem_cons_zero]
  go_big_op
  refine (CQ_1.out _ _ _ hHeld.2.2.2.2.2.1.row kq).mono ?_
  rintro e w14 ⟨rfl, hb⟩
  have hzzw14 : w13.heap.size ≤ w14.heap.size := hb.size
  have hS : (Below w.heap.size w w14) ∧ (VarIs w14 (w.heap.size) #[.int .i64 st_0, .int .i64 it_0, .slice a2_0 n2_0 c2_0, .slice a3_0 n3_0 c3_0, .slice a4_0 n4_0 c4_0, .slice a5_0 n5_0 c5_0] 25) ∧ (VarIs w14 (w.heap.size + 1) #[.int .i64 st_1, .int .i64 it_1, .slice a2_1 n2_1 c2_1, .slice a3_1 n3_1 c3_1, .slice a4_1 n4_1 c4_1, .slice a5_1 n5_1 c5_1] 25) ∧ (IaAt w14 w6.heap.size ⟨st_0, it_0, ins_0, outs_0, hids_0, steps_0⟩ (.agg #[.int .i64 st_0, .int .i64 it_0, .slice (some ⟨g2_0, 0, none⟩) ins_0.length ins_0.length, .slice (some ⟨g3_0, 0, none⟩) outs_0.length outs_0.length, .slice (some ⟨g4_0, 0, none⟩) hids_0.length hids_0.length, .slice (some ⟨g5_0, 0, none⟩) steps_0.length steps_0.length])) ∧ (VarIs w14 w7.heap.size #[.int .i64 st_0, .int .i64 it_0, .slice (some ⟨g2_0, 0, none⟩) ins_0.length ins_0.length, .slice (some ⟨g3_0, 0, none⟩) outs_0.length outs_0.length, .slice (some ⟨g4_0, 0, none⟩) hids_0.length hids_0.length, .slice (some ⟨g5_0, 0, none⟩) steps_0.length steps_0.length] 31) ∧ (IaAt w14 ((w7.alloc (.cells #[.int .i64 st_0, .int .i64 it_0, .slice (some ⟨g2_0, 0, none⟩) ins_0.length ins_0.length, .slice (some ⟨g3_0, 0, none⟩) outs_0.length outs_0.length, .slice (some ⟨g4_0, 0, none⟩) hids_0.length hids_0.length, .slice (some ⟨g5_0, 0, none⟩) steps_0.length steps_0.length] 31))).heap.size ⟨st_1, it_1, ins_1, outs_1, hids_1, steps_1⟩ (.agg #[.int .i64 st_1, .int .i64 it_1, .slice (some ⟨g2_1, 0, none⟩) ins_1.length ins_1.length, .slice (some ⟨g3_1, 0, none⟩) outs_1.length outs_1.length, .slice (some ⟨g4_1, 0, none⟩) hids_1.length hids_1.length, .slice (some ⟨g5_1, 0, none⟩) steps_1.length steps_1.length])) ∧ (VarIs w14 w8.heap.size #[.int .i64 st_1, .int .i64 it_1, .slice (some ⟨g2_1, 0, none⟩) ins_1.length ins_1.length, .slice (some ⟨g3_1, 0, none⟩) outs_1.length outs_1.length, .slice (some ⟨g4_1, 0, none⟩) hids_1.length hids_1.length, .slice (some ⟨g5_1, 0, none⟩) steps_1.length steps_1.length] 31) ∧ (OwnsS 48 w14 (w8.heap.size + 1) (.slice (some ⟨w8.heap.size + 1, 0, none⟩) n_2 n_2) n_2 xs_2) := ⟨hHeld.1.trans (hb.mono hHeld.1.size), hHeld.2.1.below hb, hHeld.2.2.1.below hb, hHeld.2.2.2.1.below hb, hHeld.2.2.2.2.1.below hb, hHeld.2.2.2.2.2.1.below hb, hHeld.2.2.2.2.2.2.1.below hb, hHeld.2.2.2.2.2.2.2.below hb⟩
  clear hb kq
  refine hK.out _ _ hS (fun hHeld => ?_)
  clear hK K
  refine fast1 4 57 (.bool false) (.tmp 56) (.bool true) (fuel := 0) rfl rfl (by kernel_rfl) (by kernel_rfl) (by kernel_rfl) (fun _ _ _ h => h) (by kernel_rfl) (by kernel_rfl) (fun ρ hr0 _ w hSw => by simp [go_sem, hr0]) hHeld (tf 31 5) (by kernel_rfl) (fun K hK => ?_)
  go_big_move
  refine hK.out _ ?_
  clear hK K
  refine wpAnyH_done (by kernel_rfl) ?_ _
  have B11 : Hid (Below w.heap.size w w14) := hHeld.1
  have P0_11 : Hid (VarIs w14 (w.heap.size) #[.int .i64 st_0, .int .i64 it_0, .slice a2_0 n2_0 c2_0, .slice a3_0 n3_0 c3_0, .slice a4_0 n4_0 c4_0, .slice a5_0 n5_0 c5_0] 25) := hHeld.2.1
  have P1_11 : Hid (VarIs w14 (w.heap.size + 1) #[.int .i64 st_1, .int .i64 it_1, .slice a2_1 n2_1 c2_1, .slice a3_1 n3_1 c3_1, .slice a4_1 n4_1 c4_1, .slice a5_1 n5_1 c5_1] 25) := hHeld.2.2.1
  have Y0_11 : Hid (IaAt w14 w6.heap.size ⟨st_0, it_0, ins_0, outs_0, hids_0, steps_0⟩ (.agg #[.int .i64 st_0, .int .i64 it_0, .slice (some ⟨g2_0, 0, none⟩) ins_0.length ins_0.length, .slice (some ⟨g3_0, 0, none⟩) outs_0.length outs_0.length, .slice (some ⟨g4_0, 0, none⟩) hids_0.length hids_0.length, .slice (some ⟨g5_0, 0, none⟩) steps_0.length steps_0.length])) := hHeld.2.2.2.1
  have X0_11 : Hid (VarIs w14 w7.heap.size #[.int .i64 st_0, .int .i64 it_0, .slice (some ⟨g2_0, 0, none⟩) ins_0.length ins_0.length, .slice (some ⟨g3_0, 0, none⟩) outs_0.length outs_0.length, .slice (some ⟨g4_0, 0, none⟩) hids_0.length hids_0.length, .slice (some ⟨g5_0, 0, none⟩) steps_0.length steps_0.length] 31) := hHeld.2.2.2.2.1
  have Y1_11 : Hid (IaAt w14 ((w7.alloc (.cells #[.int .i64 st_0, .int .i64 it_0, .slice (some ⟨g2_0, 0, none⟩) ins_0.length ins_0.length, .slice (some ⟨g3_0, 0, none⟩) outs_0.length outs_0.length, .slice (some ⟨g4_0, 0, none⟩) hids_0.length hids_0.length, .slice (some ⟨g5_0, 0, none⟩) steps_0.length steps_0.length] 31))).heap.size ⟨st_1, it_1, ins_1, outs_1, hids_1, steps_1⟩ (.agg #[.int .i64 st_1, .int .i64 it_1, .slice (some ⟨g2_1, 0, none⟩) ins_1.length ins_1.length, .slice (some ⟨g3_1, 0, none⟩) outs_1.length outs_1.length, .slice (some ⟨g4_1, 0, none⟩) hids_1.length hids_1.length, .slice (some ⟨g5_1, 0, none⟩) steps_1.length steps_1.length])) := hHeld.2.2.2.2.2.1
  have X1_11 : Hid (VarIs w14 w8.heap.size #[.int .i64 st_1, .int .i64 it_1, .slice (some ⟨g2_1, 0, none⟩) ins_1.length ins_1.length, .slice (some ⟨g3_1, 0, none⟩) outs_1.length outs_1.length, .slice (some ⟨g4_1, 0, none⟩) hids_1.length hids_1.length, .slice (some ⟨g5_1, 0, none⟩) steps_1.length steps_1.length] 31) := hHeld.2.2.2.2.2.2.1
  have Y2_11 : Hid (OwnsS 48 w14 (w8.heap.size + 1) (.slice (some ⟨w8.heap.size + 1, 0, none⟩) n_2 n_2) n_2 xs_2) := hHeld.2.2.2.2.2.2.2
  clear hHeld SD B10 P0_10 P1_10 Y0_10 X0_10 Y1_10 X1_10 Y2_10
  go_wp2_with fail
  refine (toStepS_any a_2 n_2 c_2 xs_2 _ (HA_2.out _ B11.out) (by omega)).mono ?_
  rintro e w15 ⟨rfl, ho, hb⟩
  have hzzw15 := hb.size
  have B12 : Hid (Below w.heap.size w w15) := B11.out.trans (hb.mono B11.out.size)
  have P0_12 : Hid (VarIs w15 (w.heap.size) #[.int .i64 st_0, .int .i64 it_0, .slice a2_0 n2_0 c2_0, .slice a3_0 n3_0 c3_0, .slice a4_0 n4_0 c4_0, .slice a5_0 n5_0 c5_0] 25) := P0_11.out.below hb
  have P1_12 : Hid (VarIs w15 (w.heap.size + 1) #[.int .i64 st_1, .int .i64 it_1, .slice a2_1 n2_1 c2_1, .slice a3_1 n3_1 c3_1, .slice a4_1 n4_1 c4_1, .slice a5_1 n5_1 c5_1] 25) := P1_11.out.below hb
  have Y0_12 : Hid (IaAt w15 w6.heap.size ⟨st_0, it_0, ins_0, outs_0, hids_0, steps_0⟩ (.agg #[.int .i64 st_0, .int .i64 it_0, .slice (some ⟨g2_0, 0, none⟩) ins_0.length ins_0.length, .slice (some ⟨g3_0, 0, none⟩) outs_0.length outs_0.length, .slice (some ⟨g4_0, 0, none⟩) hids_0.length hids_0.length, .slice (some ⟨g5_0, 0, none⟩) steps_0.length steps_0.length])) := Y0_11.out.below hb
  have X0_12 : Hid (VarIs w15 w7.heap.size #[.int .i64 st_0, .int .i64 it_0, .slice (some ⟨g2_0, 0, none⟩) ins_0.length ins_0.length, .slice (some ⟨g3_0, 0, none⟩) outs_0.length outs_0.length, .slice (some ⟨g4_0, 0, none⟩) hids_0.length hids_0.length, .slice (some ⟨g5_0, 0, none⟩) steps_0.length steps_0.length] 31) := X0_11.out.below hb
  have Y1_12 : Hid (IaAt w15 ((w7.alloc (.cells #[.int .i64 st_0, .int .i64 it_0, .slice (some ⟨g2_0, 0, none⟩) ins_0.length ins_0.length, .slice (some ⟨g3_0, 0, none⟩) outs_0.length outs_0.length, .slice (some ⟨g4_0, 0, none⟩) hids_0.length hids_0.length, .slice (some ⟨g5_0, 0, none⟩) steps_0.length steps_0.length] 31))).heap.size ⟨st_1, it_1, ins_1, outs_1, hids_1, steps_1⟩ (.agg #[.int .i64 st_1, .int .i64 it_1, .slice (some ⟨g2_1, 0, none⟩) ins_1.length ins_1.length, .slice (some ⟨g3_1, 0, none⟩) outs_1.length outs_1.length, .slice (some ⟨g4_1, 0, none⟩) hids_1.length hids_1.length, .slice (some ⟨g5_1, 0, none⟩) steps_1.length steps_1.length])) := Y1_11.out.below hb
  have X1_12 : Hid (VarIs w15 w8.heap.size #[.int .i64 st_1, .int .i64 it_1, .slice (some ⟨g2_1, 0, none⟩) ins_1.length ins_1.length, .slice (some ⟨g3_1, 0, none⟩) outs_1.length outs_1.length, .slice (some ⟨g4_1, 0, none⟩) hids_1.length hids_1.length, .slice (some ⟨g5_1, 0, none⟩) steps_1.length steps_1.length] 31) := X1_11.out.below hb
  have Y2_12 : Hid (OwnsS 48 w15 (w8.heap.size + 1) (.slice (some ⟨w8.heap.size + 1, 0, none⟩) n_2 n_2) n_2 xs_2) := Y2_11.out.below hb
  clear B11 P0_11 P1_11 Y0_11 X0_11 Y1_11 X1_11 Y2_11
  clear hb
  go_wp2_with fail
  refine (eqStepS_any _ _ _ _ _ _ xs_2 xs_2 _ Y2_12.out.row.2.2.2 ho.row.2.2.2 (by omega) (by omega)).mono ?_
  rintro e w16 ⟨rfl, hb⟩
  have hzzw16 := hb.size
  have B13 : Hid (Below w.heap.size w w16) := B12.out.trans (hb.mono B12.out.size)
  have P0_13 : Hid (VarIs w16 (w.heap.size) #[.int .i64 st_0, .int .i64 it_0, .slice a2_0 n2_0 c2_0, .slice a3_0 n3_0 c3_0, .slice a4_0 n4_0 c4_0, .slice a5_0 n5_0 c5_0] 25) := P0_12.out.below hb
  have P1_13 : Hid (VarIs w16 (w.heap.size + 1) #[.int .i64 st_1, .int .i64 it_1, .slice a2_1 n2_1 c2_1, .slice a3_1 n3_1 c3_1, .slice a4_1 n4_1 c4_1, .slice a5_1 n5_1 c5_1] 25) := P1_12.out.below hb
  have Y0_13 : Hid (IaAt w16 w6.heap.size ⟨st_0, it_0, ins_0, outs_0, hids_0, steps_0⟩ (.agg #[.int .i64 st_0, .int .i64 it_0, .slice (some ⟨g2_0, 0, none⟩) ins_0.length ins_0.length, .slice (some ⟨g3_0, 0, none⟩) outs_0.length outs_0.length, .slice (some ⟨g4_0, 0, none⟩) hids_0.length hids_0.length, .slice (some ⟨g5_0, 0, none⟩) steps_0.length steps_0.length])) := Y0_12.out.below hb
  have X0_13 : Hid (VarIs w16 w7.heap.size #[.int .i64 st_0, .int .i64 it_0, .slice (some ⟨g2_0, 0, none⟩) ins_0.length ins_0.length, .slice (some ⟨g3_0, 0, none⟩) outs_0.length outs_0.length, .slice (some ⟨g4_0, 0, none⟩) hids_0.length hids_0.length, .slice (some ⟨g5_0, 0, none⟩) steps_0.length steps_0.length] 31) := X0_12.out.below hb
  have Y1_13 : Hid (IaAt w16 ((w7.alloc (.cells #[.int .i64 st_0, .int .i64 it_0, .slice (some ⟨g2_0, 0, none⟩) ins_0.length ins_0.length, .slice (some ⟨g3_0, 0, none⟩) outs_0.length outs_0.length, .slice (some ⟨g4_0, 0, none⟩) hids_0.length hids_0.length, .slice (some ⟨g5_0, 0, none⟩) steps_0.length steps_0.length] 31))).heap.size ⟨st_1, it_1, ins_1, outs_1, hids_1, steps_1⟩ (.agg #[.int .i64 st_1, .int .i64 it_1, .slice (some ⟨g2_1, 0, none⟩) ins_1.length ins_1.length, .slice (some ⟨g3_1, 0, none⟩) outs_1.length outs_1.length, .slice (some ⟨g4_1, 0, none⟩) hids_1.length hids_1.length, .slice (some ⟨g5_1, 0, none⟩) steps_1.length steps_1.length])) := Y1_12.out.below hb
  have X1_13 : Hid (VarIs w16 w8.heap.size #[.int .i64 st_1, .int .i64 it_1, .slice (some ⟨g2_1, 0, none⟩) ins_1.length ins_1.length, .slice (some ⟨g3_1, 0, none⟩) outs_1.length outs_1.length, .slice (some ⟨g4_1, 0, none⟩) hids_1.length hids_1.length, .slice (some ⟨g5_1, 0, none⟩) steps_1.length steps_1.length] 31) := X1_12.out.below hb
  have Y2_13 : Hid (OwnsS 48 w16 (w8.heap.size + 1) (.slice (some ⟨w8.heap.size + 1, 0, none⟩) n_2 n_2) n_2 xs_2) := Y2_12.out.below hb
  clear B12 P0_12 P1_12 Y0_12 X0_12 Y1_12 X1_12 Y2_12
  clear hb ho
  go_wp2_with fail
  go_ret
  exact ⟨rfl, B13.out⟩

end Go.Proofs.YtdbgjgeglgipiaaGreat
