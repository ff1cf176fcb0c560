/-
  Contracts of the model's SetJoin, SetMeet, SetLess and SetIn over lists. Conditions: the slices read as lists of ints of at most 2^21 elements.
-/
import Derived.Test.YtogjbnimohakjaaPut
namespace Go.Proofs.Ytogjbnimohakjaa
open Go.RowKit

def putAll (L xs : List Int) : List Int := xs.foldl put L
def meetOf (xs ys : List Int) : List Int := putAll [] (xs.filter fun x => decide (x ∈ ys))
def lessOf (xs ys : List Int) : List Int := putAll [] (xs.filter fun x => !decide (x ∈ ys))
def joinOf (xs ys : List Int) : List Int := putAll (putAll [] xs) ys

theorem put_len (xs : List Int) (x : Int) : (put xs x).length ≤ xs.length + 1 := by
  simp only [put]
  have := congrArg List.length (List.takeWhile_append_dropWhile (p := fun y => decide (y < x)) (l := xs))
  split
  · omega
  · rw [List.length_append] at this
    simp only [List.length_append, List.length_cons]
    omega

theorem putAll_step {L xs : List Int} {k : Nat} (hk : k < xs.length) : putAll L (xs.take (k + 1)) = put (putAll L (xs.take k)) (xs.getD k 0) := by
  rw [List.take_succ_eq_append_getElem hk, getD_eq xs k hk]
  simp only [putAll, List.foldl_append, List.foldl_cons, List.foldl_nil]

theorem putAll_nil (L : List Int) : putAll L [] = L := rfl

theorem filter_step {xs : List Int} {k : Nat} (p : Int → Bool) (hk : k < xs.length) : (xs.take (k + 1)).filter p = (xs.take k).filter p ++ (if p (xs.getD k 0) then [xs.getD k 0] else []) := by
  rw [List.take_succ_eq_append_getElem hk, List.filter_append, getD_eq xs k hk]
  congr 1
  by_cases h : p xs[k] = true
  · simp [h]
  · simp [h]

theorem putAll_snoc (L xs : List Int) (x : Int) : putAll L (xs ++ [x]) = put (putAll L xs) x := by simp [putAll]

set_option maxRecDepth 20000 in
set_option maxHeartbeats 1600000 in
theorem specSetMeet_any (a a2 : Option Addr) (n c m c2 : Nat) (xs ys : List Int) (w : World) (h : Row w a n xs) (h2 : Row w a2 m ys) (hn : n ≤ 2097152) (hm : m ≤ 2097152) :
    Calls Try.prog 22 #[.slice a n c, .slice a2 m c2] w (OwnRes w w.heap.size (meetOf xs ys)) := by
  obtain ⟨hl, hc⟩ := h
  have HL := Lib.hid hl
  have HR2 := Lib.hid h2
  have HC := Lib.hid hc
  clear hl hc h2
  go_enter Try.func22, Try.ntmps22
  go_wp2
  go_loopw [5, 6] (fun out i wr => ∃ (k g c0 len : Nat) (L : List Int), k ≤ n ∧ i = .int .i64 k ∧ out = .slice (some ⟨g, 0, none⟩) len c0 ∧ Owns wr w.heap.size (.slice (some ⟨g, 0, none⟩) len c0) len L ∧ Hid (L = putAll [] ((xs.take k).filter (fun x => decide (x ∈ ys)))) ∧ len ≤ k ∧ Below w.heap.size w wr)
    (fun _ i _ => n - (intOf i).toNat)
  case atStart => exact ⟨0, w.heap.size, 0, 0, [], Nat.zero_le _, rfl, rfl, owns_lit w [] 0 rfl (by unfold maxLen; omega), rfl, Nat.le_refl _, (Below.refl _ w).alloc (Nat.le_refl _) _⟩
  case round =>
    obtain ⟨k, g, c0, len, L, hk, rfl, rfl, hown, HT, hlen, hnx⟩ := hrel
    by_cases hlt : k < n
    · obtain ⟨b, off, rfl, hb, hcell⟩ := HC.out (by omega)
      obtain ⟨x, hx⟩ : ∃ x, x = xs.getD k 0 := ⟨_, rfl⟩
      have g1 : wr.cell? ⟨b, off + k, none⟩ = some (.int .i64 x) := by rw [hx]; exact (hnx.cell (p := ⟨b, off + k, none⟩) hb).trans (hcell k hlt)
      have HX := Lib.hid hx
      clear hx hcell
      have HF : Hid ((xs.take (k + 1)).filter (fun x => decide (x ∈ ys)) = (xs.take k).filter (fun x => decide (x ∈ ys)) ++ (if (fun x => decide (x ∈ ys)) x then [x] else [])) := by
        unfold Hid; rw [HX.out]; exact filter_step _ (by rw [HL.out]; exact hlt)
      by_cases hh : hasB ys x = true
      · have HH : Hid ((fun x => decide (x ∈ ys)) x = true) := by unfold hasB at hh; unfold Hid; simp at hh; simp [hh]
        go_wp2_with fail
        refine (specSetHas_any _ _ _ _ ys _ (HR2.out.below hnx) (by omega)).mono ?_
        rintro e w' ⟨rfl, rfl⟩
        go_wp2_with fail
        refine (put_any g len c0 x L w.heap.size _ hown (by omega) hnx.size).mono ?_
        rintro e w' ⟨g', c', rfl, ho, hb'⟩
        have hpl := put_len L x
        have hll := hown.length
        have hpl2 : (put L x).length ≤ k + 1 := by omega
        clear hpl hll
        go_wp2_with fail
        go_roundw
        case rel => exact ⟨k + 1, g', c', (put L x).length, put L x, by omega, by go_num, rfl, ho, by unfold Hid; rw [HF.out, if_pos HH.out, putAll_snoc, ← HT.out], hpl2, hnx.trans (hb'.mono hnx.size)⟩
        case measure => simp [intOf]; omega
      · have hh2 : hasB ys x = false := by simpa using hh
        have HH : Hid (¬ (fun x => decide (x ∈ ys)) x = true) := by unfold hasB at hh2; unfold Hid; simp at hh2; simp [hh2]
        clear hh
        go_wp2_with fail
        refine (specSetHas_any _ _ _ _ ys _ (HR2.out.below hnx) (by omega)).mono ?_
        rintro e w' ⟨rfl, rfl⟩
        go_wp2_with fail
        go_roundw
        case rel => exact ⟨k + 1, g, c0, len, L, by omega, by go_num, rfl, hown, by unfold Hid; rw [HF.out, if_neg HH.out, List.append_nil]; exact HT.out, by omega, hnx⟩
        case measure => simp [intOf]; omega
    · have HT1 : Hid (L = meetOf xs ys) := by
        have := HT.out
        rw [List.take_of_length_le (by rw [HL.out]; omega)] at this
        exact this
      clear HT
      go_wp2_with fail
      go_ret
      have := HT1.out
      subst this
      have e := hown.length
      subst e
      exact ⟨g, c0, rfl, hown, hnx⟩

def inB (xs ys : List Int) : Bool := xs.all (hasB ys)

theorem in_yes {xs ys : List Int} {n k : Nat} (hl : xs.length = n) (hk : ¬ k < n) (h : ∀ j, j < k → hasB ys (xs.getD j 0) = true) : inB xs ys = true := by
  simp only [inB, List.all_eq_true]
  intro x hx
  obtain ⟨j, hj, rfl⟩ := List.getElem_of_mem hx
  have := h j (by omega)
  rwa [getD_eq xs j hj] at this

theorem in_no {xs ys : List Int} {x : Int} {k : Nat} (hk : k < xs.length) (hx : x = xs.getD k 0) (h : hasB ys x = false) : inB xs ys = false := by
  apply Bool.eq_false_iff.2
  intro e
  simp only [inB, List.all_eq_true] at e
  have := e xs[k] (List.getElem_mem hk)
  rw [← getD_eq xs k hk, ← hx, h] at this
  cases this

set_option maxRecDepth 20000 in
set_option maxHeartbeats 800000 in
theorem specSetIn_any (a a2 : Option Addr) (n c m c2 : Nat) (xs ys : List Int) (w : World) (h : Row w a n xs) (h2 : Row w a2 m ys) (hn : n ≤ 2097152) (hm : m ≤ 2097152) :
    Calls Try.prog 12 #[.slice a n c, .slice a2 m c2] w fun e w' => e = .returned (.bool (inB xs ys)) ∧ w' = w := by
  obtain ⟨hl, hc⟩ := h
  have HL := Lib.hid hl
  have HR2 := Lib.hid h2
  have HC := Lib.hid hc
  clear hl hc h2
  go_enter Try.func12, Try.ntmps12
  go_wp2
  go_loop [5] (fun i => ∃ k : Nat, k ≤ n ∧ i = .int .i64 k ∧ Hid (∀ j, j < k → hasB ys (xs.getD j 0) = true)) (fun i => n - (intOf i).toNat)
  case atStart => exact ⟨0, Nat.zero_le _, rfl, fun j hj => absurd hj (by omega)⟩
  case round =>
    obtain ⟨k, hk, rfl, HT⟩ := hrel
    by_cases hlt : k < n
    · obtain ⟨b, off, rfl, hb, hcell⟩ := HC.out (by omega)
      obtain ⟨x, hx⟩ : ∃ x, x = xs.getD k 0 := ⟨_, rfl⟩
      have g1 : w.cell? ⟨b, off + k, none⟩ = some (.int .i64 x) := by rw [hx]; exact hcell k hlt
      have HX := Lib.hid hx
      clear hx hcell
      by_cases hh : hasB ys x = true
      · go_wp2_with fail
        refine (specSetHas_any _ _ _ _ ys _ HR2.out (by omega)).mono ?_
        rintro e w' ⟨rfl, rfl⟩
        go_wp2_with fail
        go_round
        case rel =>
          refine ⟨k + 1, by omega, by go_num, ?_⟩
          intro j hj
          by_cases e : j = k
          · subst e; rw [← HX.out]; exact hh
          · exact HT.out j (by omega)
        case measure => simp [intOf]; omega
      · have hh2 : hasB ys x = false := by simpa using hh
        clear hh
        go_wp2_with fail
        refine (specSetHas_any _ _ _ _ ys _ HR2.out (by omega)).mono ?_
        rintro e w' ⟨rfl, rfl⟩
        go_wp2_with fail
        go_ret
        exact ⟨ret_bool (in_no (by rw [HL.out]; exact hlt) HX.out hh2).symm, rfl⟩
    · go_wp2_with fail
      go_ret
      exact ⟨ret_bool (in_yes HL.out hlt HT.out).symm, rfl⟩

end Go.Proofs.Ytogjbnimohakjaa
