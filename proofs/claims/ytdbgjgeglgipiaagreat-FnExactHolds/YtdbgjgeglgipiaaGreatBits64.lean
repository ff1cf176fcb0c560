/-
  Sets of states as bits of 64: what a mask says, and the contract of bitsOf. Conditions: the slice reads as a list of numbers in 0 .. 39 of at most 2^20 elements.
-/
import Derived.Test.YtdbgjgeglgipiaaGreatSpecHas
namespace Go.Proofs.YtdbgjgeglgipiaaGreat
open Go.RowKit

/-- The 64 bits of 'M' are 'p'. -/
def Bits (M : Int) (p : Nat → Bool) : Prop := ∃ b : BitVec 64, M = (b.toNat : Int) ∧ ∀ i, i < 64 → b.getLsbD i = p i

theorem wrap_u64 (b : BitVec 64) : IntKind.u64.wrap (b.toNat : Int) = (b.toNat : Int) := by
  have := b.isLt
  unfold IntKind.wrap
  simp only [IntKind.signed, IntKind.bits, Bool.false_and, Bool.false_eq_true, if_false]
  omega

theorem wrap_pow64 : ∀ k, k < 64 → IntKind.u64.wrap ((2 : Int) ^ k) = ((BitVec.twoPow 64 k).toNat : Int) := by decide

theorem bits64_zero : Bits 0 (fun _ => false) := ⟨0#64, rfl, fun i _ => by simp⟩

theorem bits64_or (b c : BitVec 64) : bits .or .u64 (b.toNat : Int) (c.toNat : Int) = ((b ||| c).toNat : Int) := by
  show IntKind.u64.wrap ((BitVec.ofInt 64 (b.toNat : Int) ||| BitVec.ofInt 64 (c.toNat : Int)).toNat : Int) = _
  rw [BitVec.ofInt_natCast, BitVec.ofInt_natCast, BitVec.ofNat_toNat, BitVec.ofNat_toNat, wrap_u64]
  simp
theorem bits64_and (b c : BitVec 64) : bits .and .u64 (b.toNat : Int) (c.toNat : Int) = ((b &&& c).toNat : Int) := by
  show IntKind.u64.wrap ((BitVec.ofInt 64 (b.toNat : Int) &&& BitVec.ofInt 64 (c.toNat : Int)).toNat : Int) = _
  rw [BitVec.ofInt_natCast, BitVec.ofInt_natCast, BitVec.ofNat_toNat, BitVec.ofNat_toNat, wrap_u64]
  simp
theorem bits64_andNot (b c : BitVec 64) : bits .andNot .u64 (b.toNat : Int) (c.toNat : Int) = ((b &&& ~~~c).toNat : Int) := by
  show IntKind.u64.wrap ((BitVec.ofInt 64 (b.toNat : Int) &&& ~~~(BitVec.ofInt 64 (c.toNat : Int))).toNat : Int) = _
  rw [BitVec.ofInt_natCast, BitVec.ofInt_natCast, BitVec.ofNat_toNat, BitVec.ofNat_toNat, wrap_u64]
  simp

theorem Bits.or {M N : Int} {p q : Nat → Bool} (h : Bits M p) (k : Bits N q) : Bits (bits .or .u64 M N) (fun i => p i || q i) := by
  obtain ⟨b, rfl, hb⟩ := h
  obtain ⟨c, rfl, hc⟩ := k
  exact ⟨b ||| c, bits64_or b c, fun i hi => by rw [BitVec.getLsbD_or, hb i hi, hc i hi]⟩
theorem Bits.and {M N : Int} {p q : Nat → Bool} (h : Bits M p) (k : Bits N q) : Bits (bits .and .u64 M N) (fun i => p i && q i) := by
  obtain ⟨b, rfl, hb⟩ := h
  obtain ⟨c, rfl, hc⟩ := k
  exact ⟨b &&& c, bits64_and b c, fun i hi => by rw [BitVec.getLsbD_and, hb i hi, hc i hi]⟩
theorem Bits.andNot {M N : Int} {p q : Nat → Bool} (h : Bits M p) (k : Bits N q) : Bits (bits .andNot .u64 M N) (fun i => p i && !q i) := by
  obtain ⟨b, rfl, hb⟩ := h
  obtain ⟨c, rfl, hc⟩ := k
  exact ⟨b &&& ~~~c, bits64_andNot b c, fun i hi => by rw [BitVec.getLsbD_and, BitVec.getLsbD_not, hb i hi, hc i hi]; simp [hi]⟩
theorem Bits.pow {k : Nat} (hk : k < 64) : Bits (IntKind.u64.wrap ((2 : Int) ^ k)) (fun i => decide (i = k)) := by
  refine ⟨BitVec.twoPow 64 k, wrap_pow64 k hk, fun i hi => ?_⟩
  rw [BitVec.getLsbD_twoPow]
  by_cases e : i = k
  · subst e; simp [hi]
  · have : ¬ k = i := fun h => e h.symm
    simp [e, this]
theorem Bits.congr {M : Int} {p q : Nat → Bool} (h : Bits M p) (e : ∀ i, i < 64 → p i = q i) : Bits M q := by
  obtain ⟨b, hM, hb⟩ := h
  exact ⟨b, hM, fun i hi => (hb i hi).trans (e i hi)⟩
theorem Bits.eq_zero {M : Int} {p : Nat → Bool} (h : Bits M p) : M = 0 ↔ ∀ i, i < 64 → p i = false := by
  obtain ⟨b, rfl, hb⟩ := h
  constructor
  · intro e i hi
    have : b = 0#64 := BitVec.eq_of_toNat_eq (by simpa using e)
    rw [← hb i hi, this]
    simp
  · intro e
    have : b = 0#64 := BitVec.eq_of_getLsbD_eq fun i hi => by rw [hb i hi, e i hi]; simp
    rw [this]
    rfl
theorem Bits.wrap {M : Int} {p : Nat → Bool} (h : Bits M p) : IntKind.u64.wrap M = M := by
  obtain ⟨b, rfl, _⟩ := h
  exact wrap_u64 b

theorem hasB_take_succ {xs : List Int} {k : Nat} (hk : k < xs.length) (y : Int) : hasB (xs.take (k + 1)) y = (hasB (xs.take k) y || decide (y = xs[k])) := by
  unfold hasB
  rw [List.take_succ_eq_append_getElem hk, Bool.eq_iff_iff]
  simp only [decide_eq_true_eq, Bool.or_eq_true, List.mem_append, List.mem_singleton]

set_option maxRecDepth 20000 in
set_option maxHeartbeats 1600000 in
theorem bitsOf_any (a : Option Addr) (n c : Nat) (xs : List Int) (w : World) (h : Row w a n xs) (hn : n ≤ 1048576) (hl : ∀ x ∈ xs, 0 ≤ x ∧ x < 40) :
    Calls Tryz.prog 97 #[.slice a n c] w fun e w' => ∃ M, e = .returned (.int .u64 M) ∧ Bits M (fun i => hasB xs (i : Int)) ∧ w' = w := by
  obtain ⟨hL, hC⟩ := h
  have HL := Lib.hid hL
  have HC := Lib.hid hC
  have HW := Lib.hid hl
  clear hL hC hl
  go_enter Tryz.func97, Tryz.ntmps97
  go_wp2_with fail
  go_loop [3, 8] (fun mv iv => ∃ (k : Nat) (M : Int), k ≤ n ∧ mv = .int .u64 M ∧ iv = .int .i64 (k : Int) ∧ Hid (Bits M (fun i => hasB (xs.take k) (i : Int)))) (fun _ iv => n - (intOf iv).toNat)
  case atStart => exact ⟨0, 0, Nat.zero_le _, rfl, rfl, bits64_zero⟩
  case round =>
    obtain ⟨k, M, hk, rfl, rfl, HM⟩ := hrel
    by_cases hlt : k < n
    · obtain ⟨b, off, rfl, hb, hcell⟩ := HC.out (by omega)
      have hkx : k < xs.length := by rw [HL.out]; exact hlt
      have hx := HW.out _ (List.getElem_mem hkx)
      obtain ⟨s, hs⟩ : ∃ s : Nat, xs[k] = (s : Int) := ⟨xs[k].toNat, by omega⟩
      have hs40 : s < 40 := by omega
      have g1 : w.cell? ⟨b, off + k, none⟩ = some (.int .i64 (s : Int)) := by
        rw [hcell k hlt, ← hs]
        simp [List.getD_eq_getElem?_getD, hkx]
      have s0 : (0 : Int) ≤ (s : Int) := by omega
      have s1 : (s : Int) < 64 := by omega
      have HP : Hid (Bits (bits .or .u64 M (IntKind.u64.wrap ((2 : Int) ^ s))) (fun i => hasB (xs.take (k + 1)) (i : Int))) := by
        refine (HM.out.or (Bits.pow (by omega : s < 64))).congr fun i _ => ?_
        rw [hasB_take_succ hkx, hs]
        congr 1
        simp only [decide_eq_decide]
        omega
      clear hcell hx hs HM hkx
      go_wp2_with fail
      go_round
      case rel => exact ⟨k + 1, _, by omega, rfl, by go_num, HP.out⟩
      case measure => simp [intOf]; omega
    · obtain rfl : n = k := by omega
      have HE : Hid (Bits M (fun i => hasB xs (i : Int))) := by
        have h1 := HM.out
        rw [List.take_of_length_le (by rw [HL.out]; omega)] at h1
        exact h1
      clear HM
      go_wp2_with fail
      go_ret
      exact ⟨_, rfl, HE.out, rfl⟩

end Go.Proofs.YtdbgjgeglgipiaaGreat
