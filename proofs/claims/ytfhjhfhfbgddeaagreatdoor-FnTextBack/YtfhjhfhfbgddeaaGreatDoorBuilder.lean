/-
  The contracts of strings.Builder's WriteString (and of what it calls first) at this translation, and of the program's lineText. Conditions: a builder of the call's own; texts within Go's limit.
-/
import Derived.Test.YtfhjhfhfbgddeaaGreatDoorTextDef
import Derived.Test.YtfhjhfhfbgddeaaGreatDoorNumRead
import Derived.Lib.FrozenHead
import Derived.Shelf.Strings.BuilderK
namespace Go.Proofs.YtfhjhfhfbgddeaaGreatDoor
open Go.RowKit

/-- A builder of the call's own that holds these cells. -/
abbrev Bld (B b : Nat) (l : List Value) (w : World) : Prop := Lib.IsBuilderF 40 5 B b l w

theorem sizeBld : (Tryz.prog.info? 40).map (·.size) = some 2 := by kernel_rfl

set_option maxRecDepth 20000 in
set_option maxHeartbeats 1600000 in
theorem copyCheck_fresh (b : Nat) (w : World) (h0 : w.cell? ⟨b, 0, none⟩ = some (.pointer none)) (hsh : w.shape? b = some (40, 2)) (hfz : w.frozen? ⟨b, 0, none⟩ = false) :
    Calls Tryz.prog 40 #[.pointer (some ⟨b, 0, none⟩)] w fun e w' => e = .returned (.tuple #[]) ∧ w' = w.setCell ⟨b, 0, none⟩ (.pointer (some ⟨b, 0, none⟩)) := by
  obtain ⟨j, hj, hjs⟩ := Option.map_eq_some_iff.1 sizeBld
  go_enter Tryz.func40, Tryz.ntmps40
  go_wp2
  rw [Lib.run_to_unsafe w ⟨b, 0, none⟩ Tryz.underlying38 Tryz.underlying77 hj (by rw [hjs]; decide) hsh (Nat.zero_lt_succ 1)]
  simp only [Result.andThen]
  rw [Oper.upon_value]
  go_wp2
  rw [run_callFunc_extern Tryz.func55 (by kernel_rfl) (by kernel_rfl) (by kernel_rfl) (e := Extern.AbiNoEscape.same) (by kernel_rfl)]
  rw [Lib.run_noEscape]
  simp only [Result.andThen]
  rw [Oper.upon_value]
  go_wp2
  rw [Lib.run_from_unsafe w ⟨b, 0, none⟩ Tryz.underlying77 Tryz.underlying38 hj hsh (by kernel_rfl)]
  simp only [Result.andThen]
  rw [Oper.upon_value]
  go_wp2
  go_end0
  exact ⟨rfl, rfl⟩

set_option maxRecDepth 20000 in
theorem copyCheck_used (b : Nat) (w : World) (h0 : w.cell? ⟨b, 0, none⟩ = some (.pointer (some ⟨b, 0, none⟩))) :
    Calls Tryz.prog 40 #[.pointer (some ⟨b, 0, none⟩)] w fun e w' => e = .returned (.tuple #[]) ∧ w' = w := by
  obtain ⟨j, hj, _⟩ := Option.map_eq_some_iff.1 sizeBld
  go_enter Tryz.func40, Tryz.ntmps40
  go_wp2
  rw [Lib.run_neq_ptr_same w _ Tryz.underlying38 hj]
  go_wp2
  go_end0
  exact ⟨rfl, rfl⟩

theorem copyCheck_any (B b : Nat) (l : List Value) (w : World) (h : Bld B b l w) :
    Calls Tryz.prog 40 #[.pointer (some ⟨b, 0, none⟩)] w fun e w' => e = .returned (.tuple #[]) ∧ Lib.BuilderAtF 40 5 B b (.pointer (some ⟨b, 0, none⟩)) l w' ∧ Below B w w' ∧ w.grownBy w' (some b) := by
  rcases h with h | h
  · refine (copyCheck_fresh b w h.cell0 h.shape h.frozen0).mono ?_
    rintro e w' ⟨rfl, rfl⟩
    exact ⟨rfl, h.used _, (Below.refl B w).setCell (p := ⟨b, 0, none⟩) h.1 _, ⟨rfl, rfl, rfl, by simp [World.setCell], fun k _ hk => Below.heap_setCell _ _ _ _ (fun e => hk (by simp [e]))⟩⟩
  · refine (copyCheck_used b w h.cell0).mono ?_
    rintro e w' ⟨rfl, rfl⟩
    exact ⟨rfl, h, Below.refl B _, ⟨rfl, rfl, rfl, Nat.le_refl _, fun _ _ _ => rfl⟩⟩

set_option maxRecDepth 20000 in
set_option maxHeartbeats 1600000 in
theorem writeString_any (B b : Nat) (l : List UInt8) (s : ByteArray) (w : World) (h : Bld B b (Lib.byteCells l) w) (hlen : l.length + s.size ≤ 1099511627776) (hBw : B ≤ w.heap.size) :
    Calls Tryz.prog 16 #[.pointer (some ⟨b, 0, none⟩), .string s] w fun e w' => e = .returned (.tuple #[.int .i64 s.size, .nilIface]) ∧ Bld B b (Lib.byteCells (l ++ s.data.toList)) w' ∧ Below B w w' := by
  obtain ⟨i0, hi, hz0, hz1, hz2⟩ := info_parts info_byte
  have hcl : (Lib.byteCells l).length = l.length := by simp [Lib.byteCells]
  have HC := Lib.hid (copyCheck_any B b (Lib.byteCells l) w h)
  clear h
  go_enter Tryz.func16, Tryz.ntmps16
  go_wp2_with fail
  refine HC.out.mono ?_
  rintro e w1 ⟨rfl, h1, hb1, hg1⟩
  obtain ⟨hB, v, hbk, hown, hne⟩ := h1
  have c0 : w1.cell? ⟨b, 0, none⟩ = some (.pointer (some ⟨b, 0, none⟩)) := by rw [Lib.cell_of_heap hbk]; rfl
  have c1 : w1.cell? ⟨b, 1, none⟩ = some v := by rw [Lib.cell_of_heap hbk]; rfl
  have hs1 := hb1.size
  have HO := Lib.hid hown
  have HNE := Lib.hid hne
  have HK := Lib.hid hbk
  have hBw1 : B ≤ w1.heap.size := Nat.le_trans hBw hs1
  clear hown hne hbk hg1
  go_wp2_with (at_builtin; refine Lib.wpList_append_own_stringF _ rfl _ _ 22 9 rfl B 5 i0 Tryz.underlying22 Tryz.underlying9 hi hz0 hz1 hz2 _ _ _ rfl HO.out s rfl (by unfold maxLen; omega) (by omega) hBw1 ?_)
  intro v' w2 hown' hgrow _
  have HO2 := Lib.hid hown'
  have hlt : b < w1.heap.size := (Array.getElem?_eq_some_iff.1 HK.out).1
  have hb2 : w2.heap[b]? = some (.cells #[.pointer (some ⟨b, 0, none⟩), v] 40 (0, 0)) := (hgrow.block b hlt (fun e => HNE.out e.symm)).trans HK.out
  have d0 : w2.cell? ⟨b, 0, none⟩ = some (.pointer (some ⟨b, 0, none⟩)) := by rw [Lib.cell_of_heap hb2]; rfl
  have d1 : w2.cell? ⟨b, 1, none⟩ = some v := by rw [Lib.cell_of_heap hb2]; rfl
  have f1 : w2.frozen? ⟨b, 1, none⟩ = false := Lib.frozen_of_heap hb2 1
  have HB2 := Lib.hid hb2
  have HBE : Hid (Below B w (w2.setCell ⟨b, 1, none⟩ v')) := (hb1.grown hgrow hBw1 (fun k hk => (HO.out.lt k hk).1)).setCell (p := ⟨b, 1, none⟩) hB _
  obtain ⟨ao, n', cap, rfl⟩ : ∃ ao n' cap, v' = .slice ao n' cap := by
    rcases hown'.2 with ⟨hv, _⟩ | ⟨g, cap, cur, fz, hv, _⟩
    · exact ⟨_, _, _, hv⟩
    · exact ⟨_, _, _, hv⟩
  clear hown' hgrow hb2 c0 c1 hb1
  go_wp2_with fail
  go_ret2
  refine ⟨rfl, Or.inr ?_, HBE.out⟩
  have e : Lib.byteCells (l ++ s.data.toList) = Lib.byteCells l ++ Lib.strCells s := by simp [Lib.byteCells, Lib.strCells]
  rw [e]
  exact Lib.BuilderAtF.put hB HB2.out (by have := HO2.out; rw [← hcl] at this; simpa [Lib.strCells_length] using this) (by decide)

/-- A builder that has just been laid. -/
theorem bld_new (w : World) : Bld w.heap.size w.heap.size (Lib.byteCells []) (w.alloc (.cells #[.pointer none, .slice none 0 0] 40)) :=
  Or.inl ⟨Nat.le_refl _, .slice none 0 0, heap_alloc_new w _, ⟨rfl, Or.inl ⟨rfl, rfl⟩⟩, by simp [Value.ownBlock]⟩

theorem Bld.below {B b : Nat} {l : List Value} {w w' : World} (h : Bld B b l w) (hb : Below w.heap.size w w') : Bld B b l w' := by
  have go : ∀ p, Lib.BuilderAtF 40 5 B b p l w → Lib.BuilderAtF 40 5 B b p l w' := by
    rintro p ⟨hB, v, hbk, hown, hne⟩
    refine ⟨hB, v, (hb.block b (Array.getElem?_eq_some_iff.1 hbk).1).trans hbk, ⟨hown.1, ?_⟩, hne⟩
    rcases hown.2 with h2 | ⟨g, cap, cur, fz, hv, hg, hh, r⟩
    · exact Or.inl h2
    · exact Or.inr ⟨g, cap, cur, fz, hv, hg, (hb.block g (Array.getElem?_eq_some_iff.1 hh).1).trans hh, r⟩
  exact h.elim (fun x => Or.inl (go _ x)) (fun x => Or.inr (go _ x))

theorem Bld.lt {B b : Nat} {l : List Value} {w : World} (h : Bld B b l w) : b < w.heap.size := h.elim (fun x => x.lt) (fun x => x.lt)

theorem line_step {xs : List Int} {k : Nat} (h : k < xs.length) (word : List UInt8) : bs (word ++ numsOf (xs.take k)) ++ (bs [32] ++ bs (Lib.itoa (xs.getD k 0))) = bs (word ++ numsOf (xs.take (k + 1))) := by
  rw [bs_app, bs_app, numsOf_take h, List.append_assoc]; rfl

set_option maxRecDepth 20000 in
set_option maxHeartbeats 1600000 in
theorem lineText_any (word : List UInt8) (W0 : ByteArray) (hW : W0 = bs word) (a : Option Addr) (n c : Nat) (xs : List Int) (w : World) (h : Row w a n xs) (hn : n ≤ 1048576) (hw : word.length ≤ 1000) (hI : ∀ x ∈ xs, InI64 x) (ht : Tab w) :
    Calls Tryz.prog 17 #[.string W0, .slice a n c] w fun e w' => e = .returned (.string (bs (lineOf word xs))) ∧ Below w.heap.size w w' := by
  have HR := Lib.hid h
  have HI := Lib.hid hI
  have HT0 := Lib.hid ht
  have hlen : xs.length = n := h.1
  have HW := Lib.hid hW
  have hws : W0.size ≤ 1000 := by rw [hW, bs_size]; exact hw
  clear h hI ht hW
  go_enter Tryz.func17, Tryz.ntmps17
  go_wp2_with fail
  go_loopw [5, 7, 11] (fun s x i wr => ∃ (k : Nat) (S : ByteArray), k ≤ n ∧ i = .int .i64 k ∧ s = .string S ∧ Hid (S = bs (word ++ numsOf (xs.take k))) ∧ S.size ≤ 1000 + 22 * k ∧ Below w.heap.size w wr) (fun _ _ i _ => n - (intOf i).toNat)
  case atStart => exact ⟨0, W0, Nat.zero_le _, rfl, rfl, by rw [Hid, HW.out]; simp [numsOf_nil], by omega, Below.refl _ _⟩
  case round =>
    obtain ⟨k, S, hk, rfl, rfl, HS, hsz, hb⟩ := hrel
    by_cases hlt : k < n
    · obtain ⟨b, off, rfl, hbl, hc⟩ := HR.out.2 (by omega)
      have hck := (hb.cell (p := ⟨b, off + k, none⟩) hbl).trans (hc k hlt)
      have HX := Lib.hid (inI64_at HI.out (k := k) (by omega))
      have HL := Lib.hid (itoa_le HX.out)
      have HST := Lib.hid (line_step (xs := xs) (k := k) (by omega) word)
      have HSZ : Hid ((word ++ numsOf (xs.take (k + 1))).length ≤ 1000 + 22 * (k + 1)) := by
        have := numsOf_len _ (inI64_take HI.out (k + 1))
        rw [List.length_take] at this
        unfold Hid; rw [List.length_append]; omega
      have HT1 := Lib.hid (HT0.out.below hb)
      clear hc
      generalize xs.getD k 0 = x at hck HX HL HST
      go_wp2_with fail
      refine (implNumText_any x _ HX.out HT1.out).mono ?_
      rintro e w1 ⟨rfl, hb1⟩
      have hb2 := hb.trans (hb1.mono hb.size)
      clear hb1 hb
      obtain ⟨T, hT⟩ : ∃ T : ByteArray, T = bs (Lib.itoa x) := ⟨_, rfl⟩
      have hTs : T.size ≤ 21 := by rw [hT, bs_size]; exact HL.out
      have HT : Hid (S ++ (bs [32] ++ T) = bs (word ++ numsOf (xs.take (k + 1)))) := by rw [Hid, hT, HS.out]; exact HST.out
      have hT2 : T = ⟨(Lib.itoa x).toArray⟩ := hT
      rw [← hT2]
      clear hT hT2
      have hno1 : ¬ 9223372036854775807 < 1 + T.size := by omega
      have hno2 : ¬ 9223372036854775807 < S.size + (1 + T.size) := by omega
      go_wp2_with fail
      go_roundw
      case rel => exact ⟨k + 1, S ++ (bs [32] ++ T), by omega, rfl, rfl, HT.out, by rw [HT.out, bs_size]; exact HSZ.out, hb2⟩
      case measure => simp [intOf]; omega
    · obtain rfl : k = n := by omega
      have HE : Hid (xs.take k = xs) := List.take_of_length_le (by omega)
      have hno : ¬ 9223372036854775807 < S.size + 1 := by omega
      have HF : Hid (S ++ bs [10] = bs (lineOf word xs)) := by rw [Hid, HS.out, HE.out, bs_app]; rfl
      go_wp2_with fail
      go_ret
      exact ⟨by rw [← HF.out]; rfl, hb⟩

end Go.Proofs.YtfhjhfhfbgddeaaGreatDoor
