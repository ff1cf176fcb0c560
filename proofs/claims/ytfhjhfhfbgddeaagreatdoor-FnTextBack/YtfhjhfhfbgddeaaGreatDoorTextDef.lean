/-
  Automata as texts: the lines of a text as lists of bytes, and the contract of the model's l03Nums. Conditions: as each statement says.
-/
import Derived.Test.YtfhjhfhfbgddeaaGreatDoorIaDef
import Derived.Test.YtfhjhfhfbgddeaaGreatDoorNumMath
namespace Go.Proofs.YtfhjhfhfbgddeaaGreatDoor
open Go.RowKit

/-- A text of these bytes. -/
def bs (l : List UInt8) : ByteArray := ⟨l.toArray⟩

theorem bs_app (x y : List UInt8) : bs x ++ bs y = bs (x ++ y) := by
  apply ByteArray.ext
  simp [bs]
theorem bs_size (x : List UInt8) : (bs x).size = x.length := by simp [bs, ByteArray.size]

/-- Numbers, a blank ahead of each. -/
def numsOf (l : List Int) : List UInt8 := l.flatMap fun n => 32 :: Lib.itoa n
def lineOf (word : List UInt8) (l : List Int) : List UInt8 := word ++ numsOf l ++ [10]
def wStates : List UInt8 := [115, 116, 97, 116, 101, 115]
def wIns : List UInt8 := [105, 110, 115]
def wOuts : List UInt8 := [111, 117, 116, 115]
def wHids : List UInt8 := [104, 105, 100, 115]
def wStep : List UInt8 := [115, 116, 101, 112]
def stepNums (x : St) : List Int := [x.1, x.2.1, x.2.2]
def stepLine (x : St) : List UInt8 := lineOf wStep (stepNums x)
def headOf (a : IaD) : List UInt8 := lineOf wStates [a.states, a.init] ++ lineOf wIns a.ins ++ lineOf wOuts a.outs ++ lineOf wHids a.hids
def iaLines (a : IaD) : List UInt8 := headOf a ++ a.steps.flatMap stepLine
def iaTextOf (a : IaD) : List UInt8 := if iaOkB a then iaLines a else []

/-- A number that may stand in a text. -/
def small (x : Int) : Prop := 0 ≤ x ∧ x ≤ 999999

theorem small.i64 {x : Int} (h : small x) : InI64 x := by unfold small at h; exact ⟨by omega, by omega⟩

theorem itoa_le {n : Int} (h : InI64 n) : (Lib.itoa n).length ≤ 21 := by
  unfold InI64 at h
  have hd : ∀ u : Nat, u ≤ 9223372036854775808 → (Lib.decDigits u).length ≤ 20 := fun u hu => digits_le 20 u (by omega) (by omega)
  unfold Lib.itoa
  split
  · have := hd n.natAbs (by omega)
    simp; omega
  · have := hd n.toNat (by omega)
    omega

theorem numsOf_nil : numsOf [] = [] := rfl
theorem numsOf_cons (x : Int) (l : List Int) : numsOf (x :: l) = 32 :: Lib.itoa x ++ numsOf l := rfl
theorem numsOf_append (l m : List Int) : numsOf (l ++ m) = numsOf l ++ numsOf m := by simp [numsOf]
theorem numsOf_len : ∀ (l : List Int), (∀ x ∈ l, InI64 x) → (numsOf l).length ≤ 22 * l.length
  | [], _ => by simp [numsOf]
  | x :: l, h => by
    have h1 := numsOf_len l (fun y hy => h y (List.mem_cons_of_mem _ hy))
    have h2 := itoa_le (h x (List.mem_cons_self ..))
    rw [numsOf_cons]
    simp only [List.length_append, List.length_cons]
    omega
theorem numsOf_take {xs : List Int} {k : Nat} (h : k < xs.length) : numsOf (xs.take (k + 1)) = numsOf (xs.take k) ++ 32 :: Lib.itoa (xs.getD k 0) := by
  rw [List.take_succ_eq_append_getElem h, numsOf_append, numsOf_cons, numsOf_nil, List.append_nil, getD_eq xs k h]

theorem inI64_take {xs : List Int} (h : ∀ x ∈ xs, InI64 x) (k : Nat) : ∀ x ∈ xs.take k, InI64 x := fun x hx => h x (List.mem_of_mem_take hx)
theorem inI64_at {xs : List Int} (h : ∀ x ∈ xs, InI64 x) {k : Nat} (hk : k < xs.length) : InI64 (xs.getD k 0) := by
  rw [getD_eq xs k hk]; exact h _ (List.getElem_mem hk)

theorem bs_step {xs : List Int} {k : Nat} (h : k < xs.length) : bs (numsOf (xs.take k)) ++ bs [32] ++ bs (Lib.itoa (xs.getD k 0)) = bs (numsOf (xs.take (k + 1))) := by
  rw [bs_app, bs_app, numsOf_take h, List.append_assoc]; rfl

set_option maxRecDepth 20000 in
set_option maxHeartbeats 1600000 in
theorem specNums_any (a : Option Addr) (n c : Nat) (xs : List Int) (w : World) (h : Row w a n xs) (hn : n ≤ 1048576) (hI : ∀ x ∈ xs, InI64 x) :
    Calls Tryz.prog 19 #[.slice a n c] w fun e w' => e = .returned (.string (bs (numsOf xs))) ∧ Below w.heap.size w w' := by
  have HR := Lib.hid h
  have HI := Lib.hid hI
  have hlen : xs.length = n := h.1
  clear h hI
  go_enter Tryz.func19, Tryz.ntmps19
  go_wp2_with fail
  go_loopw [3, 4] (fun s i wr => ∃ (k : Nat) (S : ByteArray), k ≤ n ∧ i = .int .i64 k ∧ s = .string S ∧ Hid (S = bs (numsOf (xs.take k))) ∧ S.size ≤ 22 * k ∧ Below w.heap.size w wr) (fun _ i _ => n - (intOf i).toNat)
  case atStart => exact ⟨0, ⟨#[]⟩, Nat.zero_le _, rfl, rfl, rfl, by simp [ByteArray.size], Below.refl _ _⟩
  case round =>
    obtain ⟨k, S, hk, rfl, rfl, HS, hsz, hb⟩ := hrel
    by_cases hlt : k < n
    · obtain ⟨b, off, rfl, hbl, hc⟩ := HR.out.2 (by omega)
      have hck := (hb.cell (p := ⟨b, off + k, none⟩) hbl).trans (hc k hlt)
      have HX := Lib.hid (inI64_at HI.out (k := k) (by omega))
      have HL := Lib.hid (itoa_le HX.out)
      have HST := Lib.hid (bs_step (xs := xs) (k := k) (by omega))
      have HSZ : Hid ((numsOf (xs.take (k + 1))).length ≤ 22 * (k + 1)) := by
        have := numsOf_len _ (inI64_take HI.out (k + 1))
        rw [List.length_take] at this
        unfold Hid; omega
      clear hc
      generalize xs.getD k 0 = x at hck HX HL HST
      go_wp2_with fail
      refine (specNumText_any x _ HX.out).mono ?_
      rintro e w1 ⟨rfl, hb1⟩
      have hb2 := hb.trans (hb1.mono hb.size)
      clear hb1 hb
      obtain ⟨T, hT⟩ : ∃ T : ByteArray, T = bs (Lib.itoa x) := ⟨_, rfl⟩
      have hTs : T.size ≤ 21 := by rw [hT, bs_size]; exact HL.out
      have HT : Hid (S ++ bs [32] ++ T = bs (numsOf (xs.take (k + 1)))) := by rw [Hid, hT, HS.out]; exact HST.out
      have hT2 : T = ⟨(Lib.itoa x).toArray⟩ := hT
      rw [← hT2]
      clear hT hT2
      have hno1 : ¬ 9223372036854775807 < S.size + 1 := by omega
      have hno2 : ¬ 9223372036854775807 < S.size + 1 + T.size := by omega
      go_wp2_with fail
      go_roundw
      case rel => exact ⟨k + 1, S ++ bs [32] ++ T, by omega, rfl, rfl, HT.out, by rw [HT.out, bs_size]; exact HSZ.out, hb2⟩
      case measure => simp [intOf]; omega
    · obtain rfl : k = n := by omega
      have HE : Hid (xs.take k = xs) := List.take_of_length_le (by omega)
      go_wp2_with fail
      go_ret
      exact ⟨by rw [HS.out, HE.out]; rfl, hb⟩

/-- A line of a step, or of the beginning, is short. -/
theorem lineOf_len (word : List UInt8) (l : List Int) (h : ∀ x ∈ l, InI64 x) : (lineOf word l).length ≤ word.length + 22 * l.length + 1 := by
  have := numsOf_len l h
  unfold lineOf
  simp only [List.length_append, List.length_cons, List.length_nil]
  omega

end Go.Proofs.YtfhjhfhfbgddeaaGreatDoor
