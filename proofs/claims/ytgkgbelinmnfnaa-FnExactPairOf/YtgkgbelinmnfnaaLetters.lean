/-
  Sets of actions as bits: what a mask says, and the contracts of combineLetters, takeApart, combineOthers, putTogether. Conditions: the slices read as lists of ints of at most 2^21 elements.
-/
import Derived.Test.YtgkgbelinmnfnaaRisen
namespace Go.Proofs.Ytgkgbelinmnfnaa
open Go.RowKit

/-- The 16 bits of 'M' are 'p'. -/
def Mask (M : Int) (p : Nat → Bool) : Prop := ∃ b : BitVec 16, M = (b.toNat : Int) ∧ ∀ i, i < 16 → b.getLsbD i = p i

theorem wrap_u16 (b : BitVec 16) : IntKind.u16.wrap (b.toNat : Int) = (b.toNat : Int) := by
  have := b.isLt
  unfold IntKind.wrap
  simp only [IntKind.signed, IntKind.bits, Bool.false_and, Bool.false_eq_true, if_false]
  omega

theorem wrap_pow : ∀ k, k < 16 → IntKind.u16.wrap ((2 : Int) ^ k) = ((BitVec.twoPow 16 k).toNat : Int) := by decide

theorem mask_zero : Mask 0 (fun _ => false) := ⟨0#16, rfl, fun i _ => by simp⟩

theorem bits_or (b c : BitVec 16) : bits .or .u16 (b.toNat : Int) (c.toNat : Int) = ((b ||| c).toNat : Int) := by
  show IntKind.u16.wrap ((BitVec.ofInt 16 (b.toNat : Int) ||| BitVec.ofInt 16 (c.toNat : Int)).toNat : Int) = _
  rw [BitVec.ofInt_natCast, BitVec.ofInt_natCast, BitVec.ofNat_toNat, BitVec.ofNat_toNat, wrap_u16]
  simp
theorem bits_and (b c : BitVec 16) : bits .and .u16 (b.toNat : Int) (c.toNat : Int) = ((b &&& c).toNat : Int) := by
  show IntKind.u16.wrap ((BitVec.ofInt 16 (b.toNat : Int) &&& BitVec.ofInt 16 (c.toNat : Int)).toNat : Int) = _
  rw [BitVec.ofInt_natCast, BitVec.ofInt_natCast, BitVec.ofNat_toNat, BitVec.ofNat_toNat, wrap_u16]
  simp
theorem bits_andNot (b c : BitVec 16) : bits .andNot .u16 (b.toNat : Int) (c.toNat : Int) = ((b &&& ~~~c).toNat : Int) := by
  show IntKind.u16.wrap ((BitVec.ofInt 16 (b.toNat : Int) &&& ~~~(BitVec.ofInt 16 (c.toNat : Int))).toNat : Int) = _
  rw [BitVec.ofInt_natCast, BitVec.ofInt_natCast, BitVec.ofNat_toNat, BitVec.ofNat_toNat, wrap_u16]
  simp

theorem Mask.or {M N : Int} {p q : Nat → Bool} (h : Mask M p) (k : Mask N q) : Mask (bits .or .u16 M N) (fun i => p i || q i) := by
  obtain ⟨b, rfl, hb⟩ := h
  obtain ⟨c, rfl, hc⟩ := k
  exact ⟨b ||| c, bits_or b c, fun i hi => by rw [BitVec.getLsbD_or, hb i hi, hc i hi]⟩
theorem Mask.and {M N : Int} {p q : Nat → Bool} (h : Mask M p) (k : Mask N q) : Mask (bits .and .u16 M N) (fun i => p i && q i) := by
  obtain ⟨b, rfl, hb⟩ := h
  obtain ⟨c, rfl, hc⟩ := k
  exact ⟨b &&& c, bits_and b c, fun i hi => by rw [BitVec.getLsbD_and, hb i hi, hc i hi]⟩
theorem Mask.andNot {M N : Int} {p q : Nat → Bool} (h : Mask M p) (k : Mask N q) : Mask (bits .andNot .u16 M N) (fun i => p i && !q i) := by
  obtain ⟨b, rfl, hb⟩ := h
  obtain ⟨c, rfl, hc⟩ := k
  exact ⟨b &&& ~~~c, bits_andNot b c, fun i hi => by rw [BitVec.getLsbD_and, BitVec.getLsbD_not, hb i hi, hc i hi]; simp [hi]⟩
theorem Mask.pow {k : Nat} (hk : k < 16) : Mask (IntKind.u16.wrap ((2 : Int) ^ k)) (fun i => decide (i = k)) := by
  refine ⟨BitVec.twoPow 16 k, wrap_pow k hk, fun i hi => ?_⟩
  rw [BitVec.getLsbD_twoPow]
  by_cases e : i = k
  · subst e; simp [hi]
  · have : ¬ k = i := fun h => e h.symm
    simp [e, this]
theorem Mask.congr {M : Int} {p q : Nat → Bool} (h : Mask M p) (e : ∀ i, i < 16 → p i = q i) : Mask M q := by
  obtain ⟨b, hM, hb⟩ := h
  exact ⟨b, hM, fun i hi => (hb i hi).trans (e i hi)⟩
theorem Mask.test {M : Int} {p : Nat → Bool} (h : Mask M p) {k : Nat} (hk : k < 16) : (bits .and .u16 M (IntKind.u16.wrap ((2 : Int) ^ k)) != 0) = p k := by
  obtain ⟨b, rfl, hb⟩ := h
  rw [wrap_pow k hk, bits_and, BitVec.and_twoPow]
  rw [← hb k hk]
  by_cases e : b.getLsbD k = true
  · rw [if_pos e, e]
    have : (BitVec.twoPow 16 k).toNat ≠ 0 := by
      rw [BitVec.toNat_twoPow_of_lt hk]
      exact Nat.ne_of_gt (Nat.two_pow_pos k)
    exact bne_iff_ne.2 (by omega)
  · rw [if_neg e]
    simp at e
    simp [e]

def comb (op : Nat) (x y : Bool) : Bool := if op = 0 then x || y else if op = 1 then x && y else x && !y

/-- A mask comes back. -/
def MaskRes (w : World) (p : Nat → Bool) (e : Ending) (w' : World) : Prop := ∃ M, e = .returned (.int .u16 M) ∧ Mask M p ∧ w' = w

theorem combineLetters_any (op : Nat) (hop : op ≤ 2) (M N : Int) (p q : Nat → Bool) (h : Mask M p) (k : Mask N q) (w : World) :
    Calls Try.prog 68 #[.int .i64 op, .int .u16 M, .int .u16 N] w (MaskRes w fun i => comb op (p i) (q i)) := by
  have H := Lib.hid h
  have K := Lib.hid k
  clear h k
  match op, hop with
  | 0, _ =>
    go_enter Try.func68, Try.ntmps68
    go_wp2
    go_ret
    exact ⟨_, rfl, H.out.or K.out, rfl⟩
  | 1, _ =>
    go_enter Try.func68, Try.ntmps68
    go_wp2
    go_ret
    exact ⟨_, rfl, H.out.and K.out, rfl⟩
  | 2, _ =>
    go_enter Try.func68, Try.ntmps68
    go_wp2
    go_ret
    exact ⟨_, rfl, H.out.andNot K.out, rfl⟩

/-- The actions of a list as bits; its other numbers. -/
def maskOf (xs : List Int) (i : Nat) : Bool := decide (i < 12) && hasB xs (i : Int)
def others (xs : List Int) : List Int := xs.filter fun x => !btw x 0 11

theorem maskOf_act {xs : List Int} {k j : Nat} (hk : k < xs.length) (hj : j < 12) (hx : (j : Int) = xs.getD k 0) (i : Nat) : (maskOf (xs.take k) i || decide (i = j)) = maskOf (xs.take (k + 1)) i := by
  unfold maskOf hasB
  rw [List.take_succ_eq_append_getElem hk, ← getD_eq xs k hk, ← hx]
  by_cases e : i = j
  · subst e; simp [hj]
  · have : ¬ ((i : Int) = (j : Int)) := by omega
    simp [e, this]

theorem maskOf_other {xs : List Int} {k : Nat} {x : Int} (hk : k < xs.length) (hx : x = xs.getD k 0) (hb : btw x 0 11 = false) (i : Nat) : maskOf (xs.take k) i = maskOf (xs.take (k + 1)) i := by
  unfold maskOf hasB
  rw [List.take_succ_eq_append_getElem hk, ← getD_eq xs k hk, ← hx]
  by_cases e : i < 12
  · have : ¬ ((i : Int) = x) := by
      intro h; subst h
      simp [btw] at hb; omega
    simp [this]
  · simp [e]

theorem others_act {xs : List Int} {k : Nat} {x : Int} (hk : k < xs.length) (hx : x = xs.getD k 0) (hb : btw x 0 11 = true) : others (xs.take (k + 1)) = others (xs.take k) := by
  unfold others
  rw [filter_step _ hk, ← hx, hb]; simp
theorem others_other {xs : List Int} {k : Nat} {x : Int} (hk : k < xs.length) (hx : x = xs.getD k 0) (hb : btw x 0 11 = false) : others (xs.take (k + 1)) = others (xs.take k) ++ [x] := by
  unfold others
  rw [filter_step _ hk, ← hx, hb]; simp

/-- What takeApart hands back. -/
def ApartRes (w : World) (xs : List Int) (e : Ending) (w' : World) : Prop :=
  ∃ M v, e = .returned (.tuple #[.int .u16 M, v]) ∧ Mask M (maskOf xs) ∧ Owns w' w.heap.size v (ris (others xs)).length (ris (others xs)) ∧ Below w.heap.size w w'

set_option maxRecDepth 20000 in
set_option maxHeartbeats 1600000 in
theorem takeApart_any (a : Option Addr) (n c : Nat) (xs : List Int) (w : World) (h : Row w a n xs) (hn : n ≤ 2097152) :
    Calls Try.prog 66 #[.slice a n c] w (ApartRes w xs) := by
  obtain ⟨i0, hi, hz0, hz1, hz2⟩ := info_parts info_int
  obtain ⟨hl, hc⟩ := h
  have HL := Lib.hid hl
  have HC := Lib.hid hc
  clear hl hc
  go_enter Try.func66, Try.ntmps66
  go_wp2
  go_loopw [4, 5, 10] (fun lt ot i wr => ∃ (k len : Nat) (M : Int) (v : Value) (O : List Int), k ≤ n ∧ i = .int .i64 k ∧ lt = .int .u16 M ∧ ot = v ∧ Owns wr w.heap.size v len O ∧ Hid (O = others (xs.take k)) ∧ Hid (Mask M (maskOf (xs.take k))) ∧ len ≤ k ∧ Below w.heap.size w wr)
    (fun _ _ i _ => n - (intOf i).toNat)
  case atStart => exact ⟨0, 0, 0, .slice none 0 0, [], Nat.zero_le _, rfl, rfl, rfl, World.ownsRow_nil _ _ _ _, rfl, mask_zero.congr (fun i _ => by simp [maskOf, hasB]), Nat.le_refl _, Below.refl _ _⟩
  case round =>
    obtain ⟨k, len, M, v, O, hk, rfl, rfl, rfl, hown, HO, HM, hlen, hnx⟩ := hrel
    by_cases hlt : k < n
    · obtain ⟨b, off, rfl, hb, hcell⟩ := HC.out (by omega)
      obtain ⟨x, hx⟩ : ∃ x, x = xs.getD k 0 := ⟨_, rfl⟩
      have g1 : wr.cell? ⟨b, off + k, none⟩ = some (.int .i64 x) := by rw [hx]; exact (hnx.cell (p := ⟨b, off + k, none⟩) hb).trans (hcell k hlt)
      have HX := Lib.hid hx
      have HK : Hid (k < xs.length) := by unfold Hid; rw [HL.out]; exact hlt
      clear hx hcell
      by_cases hbt : btw x 0 11 = true
      · have hx2 : 0 ≤ x ∧ x ≤ 11 := by simpa [btw] using hbt
        obtain ⟨j, rfl⟩ : ∃ j : Nat, x = (j : Int) := ⟨x.toNat, by omega⟩
        have hj : j < 12 := by omega
        clear hx2
        go_wp2_with fail
        refine (isAction_any _ _).mono ?_
        rintro e w' ⟨rfl, rfl⟩
        go_wp2_with fail
        go_roundw
        case rel => exact ⟨k + 1, len, _, _, O, by omega, by go_num, rfl, rfl, hown, by unfold Hid; rw [others_act HK.out HX.out hbt]; exact HO.out, (HM.out.or (Mask.pow (by omega))).congr (fun i _ => maskOf_act HK.out hj HX.out i), by omega, hnx⟩
        case measure => simp [intOf]; omega
      · have hbf : btw x 0 11 = false := by simpa using hbt
        clear hbt
        have T1 := hown.alloc (.cells #[.int .i64 x] 3)
        have S1 : Src (wr.alloc (.cells #[.int .i64 x] 3)) (some ⟨wr.heap.size, 0, none⟩) 1 1 [x] := src_one (by simp)
        go_wp2_with fail
        refine (isAction_any _ _).mono ?_
        rintro e w' ⟨rfl, rfl⟩
        go_wp2_with (at_builtin; refine wpList_app rfl (.tmp 20) (.tmp 22) rfl w.heap.size i0 Try.underlying22 hi hz0 hz1 hz2 _ _ _ rfl T1 _ 1 _ [x] rfl S1 (by omega) (by have := hnx.size; simp; omega) ?_)
        rintro v2 w2 ⟨hown2, hgrow2, _⟩
        have hb2 : Below w.heap.size w w2 := T1.grown (hnx.alloc hnx.size _) hgrow2 (Nat.le_refl _) (by have := hnx.size; simp; omega)
        clear T1 S1 hgrow2 hown
        go_wp2_with fail
        go_roundw
        case rel => exact ⟨k + 1, len + 1, M, v2, O ++ [x], by omega, by go_num, rfl, rfl, hown2, by unfold Hid; rw [others_other HK.out HX.out hbf, HO.out], HM.out.congr (fun i _ => maskOf_other HK.out HX.out hbf i), by omega, hb2⟩
        case measure => simp [intOf]; omega
    · have HO1 : Hid (O = others xs) := by
        have := HO.out
        rw [List.take_of_length_le (by rw [HL.out]; omega)] at this
        exact this
      have HM1 : Hid (Mask M (maskOf xs)) := by
        have := HM.out
        rw [List.take_of_length_le (by rw [HL.out]; omega)] at this
        exact this
      go_wp2_with fail
      refine (risen_any _ len w.heap.size O _ hown (by omega)).mono ?_
      rintro e w1 ⟨v1, rfl, hown1, hg1, _⟩
      have hb1 := hown.grown hnx hg1 (Nat.le_refl _) hnx.size
      clear hg1
      have H1 := Lib.hid hown1
      clear hown1
      go_wp2_with fail
      go_ret2
      have e := HO1.out
      subst e
      exact ⟨M, v1, rfl, HM1.out, H1.out, hb1⟩

end Go.Proofs.Ytgkgbelinmnfnaa
