/-
  The contracts of combineOthers, combine, SetJoin, SetMeet, SetLess and SetIn of the program: they answer as the model's do. Conditions: the slices read as lists of ints of at most 2^20 elements.
-/
import Derived.Test.YtgkgbelinmnfnaaOthers
namespace Go.Proofs.Ytgkgbelinmnfnaa
open Go.RowKit

/-- What combineOthers makes of two rising lists. -/
def combOthers (op : Nat) (A B : List Int) : List Int := if op = 0 then ris (A ++ B) else A.filter (fun x => comb op true (hasB B x))

set_option maxRecDepth 20000 in
set_option maxHeartbeats 1600000 in
theorem combineOthers_join (v v2 : Value) (n m base : Nat) (A B : List Int) (w : World) (h : Owns w base v n A) (h2 : Owns w base v2 m B) (hn : n ≤ 2097152) (hm : m ≤ 2097152) :
    Calls Try.prog 69 #[.int .i64 0, v, v2] w (RowRes w w.heap.size (combOthers 0 A B)) := by
  obtain ⟨a, c, rfl⟩ := h.form
  obtain ⟨a2, c2, rfl⟩ := h2.form
  have hb0 : Below w.heap.size w (w.alloc (.cells #[.slice a n c, .slice a2 m c2] 22)) := (Below.refl _ w).alloc (Nat.le_refl _) _
  have HS := Lib.hid (h.src.below hb0)
  have HS2 := Lib.hid (h2.src.below hb0)
  have hl := h.length
  have hl2 := h2.length
  have HL := Lib.hid hl
  have HL2 := Lib.hid hl2
  clear h h2 hl hl2
  go_enter Try.func69, Try.ntmps69
  go_wp2_with fail
  refine (concat_any w.heap.size a a2 n c m c2 A B _ (by simp) (by simp) (by simp) HS.out HS2.out hn hm).mono ?_
  rintro e w1 ⟨v1, rfl, hown1, hb1⟩
  have hb2 : Below w.heap.size w w1 := hb0.trans (hb1.mono (by simp))
  have hown2 : Owns w1 w.heap.size v1 (A ++ B).length (A ++ B) := hown1.mono (by simp)
  have hlen : (A ++ B).length ≤ 4194304 := by have := HL.out; have := HL2.out; simp; omega
  clear hown1 hb1 hb0
  go_wp2_with fail
  refine (risen_any _ _ w.heap.size (A ++ B) _ hown2 (by omega)).mono ?_
  rintro e w2 ⟨v3, rfl, hown3, hg3, _⟩
  have hb3 := hown2.grown hb2 hg3 (Nat.le_refl _) hb2.size
  have H3 := Lib.hid hown3
  clear hown3 hg3 hown2 hlen
  go_wp2_with fail
  go_ret
  exact ⟨_, rfl, H3.out, hb3⟩

theorem kept_step {A B : List Int} {op k : Nat} {x : Int} (hk : k < A.length) (hx : x = A.getD k 0) : (A.take (k + 1)).filter (fun x => comb op true (hasB B x)) = (A.take k).filter (fun x => comb op true (hasB B x)) ++ (if comb op true (hasB B x) then [x] else []) := by
  rw [filter_step _ hk, ← hx]

set_option maxRecDepth 20000 in
set_option maxHeartbeats 3200000 in
theorem combineOthers_meet (v v2 : Value) (n m base : Nat) (A B : List Int) (w : World) (h : Owns w base v n A) (h2 : Owns w base v2 m B) (hn : n ≤ 2097152) (hm : m ≤ 2097152) (hs : B.Pairwise (· < ·)) :
    Calls Try.prog 69 #[.int .i64 1, v, v2] w (RowRes w w.heap.size (combOthers 1 A B)) := by
  obtain ⟨i0, hi, hz0, hz1, hz2⟩ := info_parts info_int
  obtain ⟨a, c, rfl⟩ := h.form
  obtain ⟨a2, c2, rfl⟩ := h2.form
  have HR := Lib.hid h.row.2.2.2
  have HR2 := Lib.hid h2.row.2.2.2
  have HL := Lib.hid h.length
  have HS := Lib.hid hs
  clear h h2 hs
  go_enter Try.func69, Try.ntmps69
  go_wp2_with fail
  go_loopw [7, 21] (fun kept i wr => ∃ (k len : Nat) (v : Value) (K : List Int), k ≤ n ∧ i = .int .i64 k ∧ kept = v ∧ Owns wr w.heap.size v len K ∧ Hid (K = (A.take k).filter (fun x => comb 1 true (hasB B x))) ∧ len ≤ k ∧ Below w.heap.size w wr) (fun _ i _ => n - (intOf i).toNat)
  case atStart => exact ⟨0, 0, _, [], Nat.zero_le _, rfl, rfl, World.ownsRow_nil _ _ _ _, rfl, Nat.le_refl _, Below.refl _ _⟩
  case round =>
    obtain ⟨k, len, v, K, hk, rfl, rfl, hown, HK, hlen, hnx⟩ := hrel
    by_cases hlt : k < n
    · obtain ⟨b, off, rfl, hb, hcell⟩ := HR.out.2 (by omega)
      obtain ⟨x, hx⟩ : ∃ x, x = A.getD k 0 := ⟨_, rfl⟩
      have g1 : wr.cell? ⟨b, off + k, none⟩ = some (.int .i64 x) := by rw [hx]; exact (hnx.cell (p := ⟨b, off + k, none⟩) hb).trans (hcell k hlt)
      have HX := Lib.hid hx
      have HKA : Hid (k < A.length) := by unfold Hid; rw [HL.out]; exact hlt
      have HST := Lib.hid (kept_step (B := B) (op := 1) HKA.out HX.out)
      clear hx hcell
      go_wp2_with fail
      refine (search_any _ _ _ _ B _ (HR2.out.below hnx) (by omega) HS.out).mono ?_
      rintro e w1 ⟨rfl, hb1⟩
      have hnx1 : Below w.heap.size w w1 := hnx.trans (hb1.mono hnx.size)
      have hown1 := hown.below hb1
      generalize (List.countP (fun y => decide (y < x)) B : Nat) = cnt
      by_cases hc : comb 1 true (hasB B x) = true
      · have T1 := hown1.alloc (.cells #[.int .i64 x] 3)
        have S1 : Src (w1.alloc (.cells #[.int .i64 x] 3)) (some ⟨w1.heap.size, 0, none⟩) 1 1 [x] := src_one (by simp)
        have hh : hasB B x = true := by simpa [comb] using hc
        have HC := Lib.hid hc
        clear hc hown hb1 hnx
        rw [hh]
        go_wp2_with (at_builtin; refine wpList_app rfl (.tmp 35) (.tmp 37) rfl w.heap.size i0 Try.underlying22 hi hz0 hz1 hz2 _ _ _ rfl T1 _ 1 _ [x] rfl S1 (by omega) (by have := hnx1.size; simp; omega) ?_)
        rintro v2 w2 ⟨hown2, hgrow2, _⟩
        have hb2 : Below w.heap.size w w2 := T1.grown (hnx1.alloc hnx1.size _) hgrow2 (Nat.le_refl _) (by have := hnx1.size; simp; omega)
        clear T1 S1 hgrow2
        go_wp2_with fail
        go_roundw
        case rel => exact ⟨k + 1, len + 1, v2, K ++ [x], by omega, by go_num, rfl, hown2, by unfold Hid; rw [HST.out, if_pos HC.out, HK.out], by omega, hb2⟩
        case measure => simp [intOf]; omega
      · have hh : hasB B x = false := by simpa [comb] using hc
        have HC := Lib.hid hc
        clear hc hown hb1 hnx
        rw [hh]
        go_wp2_with fail
        go_roundw
        case rel => exact ⟨k + 1, len, _, K, by omega, by go_num, rfl, hown1, by unfold Hid; rw [HST.out, if_neg HC.out, List.append_nil]; exact HK.out, by omega, hnx1⟩
        case measure => simp [intOf]; omega
    · have HK1 : Hid (K = combOthers 1 A B) := by
        have := HK.out
        rw [List.take_of_length_le (by rw [HL.out]; omega)] at this
        unfold Hid combOthers
        rw [if_neg (by decide)]
        exact this
      have H1 := Lib.hid hown
      clear hown
      go_wp2_with fail
      go_ret
      have ho := H1.out
      rw [HK1.out] at ho
      have e := ho.length
      rw [← e] at ho
      exact ⟨_, rfl, ho, hnx⟩

set_option maxRecDepth 20000 in
set_option maxHeartbeats 3200000 in
theorem combineOthers_less (v v2 : Value) (n m base : Nat) (A B : List Int) (w : World) (h : Owns w base v n A) (h2 : Owns w base v2 m B) (hn : n ≤ 2097152) (hm : m ≤ 2097152) (hs : B.Pairwise (· < ·)) :
    Calls Try.prog 69 #[.int .i64 2, v, v2] w (RowRes w w.heap.size (combOthers 2 A B)) := by
  obtain ⟨i0, hi, hz0, hz1, hz2⟩ := info_parts info_int
  obtain ⟨a, c, rfl⟩ := h.form
  obtain ⟨a2, c2, rfl⟩ := h2.form
  have HR := Lib.hid h.row.2.2.2
  have HR2 := Lib.hid h2.row.2.2.2
  have HL := Lib.hid h.length
  have HS := Lib.hid hs
  clear h h2 hs
  go_enter Try.func69, Try.ntmps69
  go_wp2_with fail
  go_loopw [7, 21] (fun kept i wr => ∃ (k len : Nat) (v : Value) (K : List Int), k ≤ n ∧ i = .int .i64 k ∧ kept = v ∧ Owns wr w.heap.size v len K ∧ Hid (K = (A.take k).filter (fun x => comb 2 true (hasB B x))) ∧ len ≤ k ∧ Below w.heap.size w wr) (fun _ i _ => n - (intOf i).toNat)
  case atStart => exact ⟨0, 0, _, [], Nat.zero_le _, rfl, rfl, World.ownsRow_nil _ _ _ _, rfl, Nat.le_refl _, Below.refl _ _⟩
  case round =>
    obtain ⟨k, len, v, K, hk, rfl, rfl, hown, HK, hlen, hnx⟩ := hrel
    by_cases hlt : k < n
    · obtain ⟨b, off, rfl, hb, hcell⟩ := HR.out.2 (by omega)
      obtain ⟨x, hx⟩ : ∃ x, x = A.getD k 0 := ⟨_, rfl⟩
      have g1 : wr.cell? ⟨b, off + k, none⟩ = some (.int .i64 x) := by rw [hx]; exact (hnx.cell (p := ⟨b, off + k, none⟩) hb).trans (hcell k hlt)
      have HX := Lib.hid hx
      have HKA : Hid (k < A.length) := by unfold Hid; rw [HL.out]; exact hlt
      have HST := Lib.hid (kept_step (B := B) (op := 2) HKA.out HX.out)
      clear hx hcell
      go_wp2_with fail
      refine (search_any _ _ _ _ B _ (HR2.out.below hnx) (by omega) HS.out).mono ?_
      rintro e w1 ⟨rfl, hb1⟩
      have hnx1 : Below w.heap.size w w1 := hnx.trans (hb1.mono hnx.size)
      have hown1 := hown.below hb1
      generalize (List.countP (fun y => decide (y < x)) B : Nat) = cnt
      by_cases hc : comb 2 true (hasB B x) = true
      · have T1 := hown1.alloc (.cells #[.int .i64 x] 3)
        have S1 : Src (w1.alloc (.cells #[.int .i64 x] 3)) (some ⟨w1.heap.size, 0, none⟩) 1 1 [x] := src_one (by simp)
        have hh : hasB B x = false := by simpa [comb] using hc
        have HC := Lib.hid hc
        clear hc hown hb1 hnx
        rw [hh]
        go_wp2_with (at_builtin; refine wpList_app rfl (.tmp 35) (.tmp 37) rfl w.heap.size i0 Try.underlying22 hi hz0 hz1 hz2 _ _ _ rfl T1 _ 1 _ [x] rfl S1 (by omega) (by have := hnx1.size; simp; omega) ?_)
        rintro v2 w2 ⟨hown2, hgrow2, _⟩
        have hb2 : Below w.heap.size w w2 := T1.grown (hnx1.alloc hnx1.size _) hgrow2 (Nat.le_refl _) (by have := hnx1.size; simp; omega)
        clear T1 S1 hgrow2
        go_wp2_with fail
        go_roundw
        case rel => exact ⟨k + 1, len + 1, v2, K ++ [x], by omega, by go_num, rfl, hown2, by unfold Hid; rw [HST.out, if_pos HC.out, HK.out], by omega, hb2⟩
        case measure => simp [intOf]; omega
      · have hh : hasB B x = true := by simpa [comb] using hc
        have HC := Lib.hid hc
        clear hc hown hb1 hnx
        rw [hh]
        go_wp2_with fail
        go_roundw
        case rel => exact ⟨k + 1, len, _, K, by omega, by go_num, rfl, hown1, by unfold Hid; rw [HST.out, if_neg HC.out, List.append_nil]; exact HK.out, by omega, hnx1⟩
        case measure => simp [intOf]; omega
    · have HK1 : Hid (K = combOthers 2 A B) := by
        have := HK.out
        rw [List.take_of_length_le (by rw [HL.out]; omega)] at this
        unfold Hid combOthers
        rw [if_neg (by decide)]
        exact this
      have H1 := Lib.hid hown
      clear hown
      go_wp2_with fail
      go_ret
      have ho := H1.out
      rw [HK1.out] at ho
      have e := ho.length
      rw [← e] at ho
      exact ⟨_, rfl, ho, hnx⟩

end Go.Proofs.Ytgkgbelinmnfnaa
