/-
  Contracts of the program's readWords and wordAt. Conditions: texts of at most 2^20 bytes; the variables of strconv hold what the program's text lays in them; internal/bytealg.MaxLen holds a number.
-/
import Derived.Test.YtfhjhfhfbgddeaaGreatDoorSpecLine
import Derived.OwnWalk
namespace Go.Proofs.YtfhjhfhfbgddeaaGreatDoor
open Go.RowKit

/-- The library's own variable holds some number. -/
def Srch (w : World) : Prop := ∃ m : Int, w.cell? ⟨3, 0, none⟩ = some (.int .i64 m)

theorem Srch.below {w w' : World} (h : Srch w) (hb : Below w.heap.size w w') : Srch w' := by
  obtain ⟨m, hm⟩ := h
  have hlt : 3 < w.heap.size := by
    have := World.block_lt_of_cell? w _ hm
    simpa using this
  exact ⟨m, (hb.cell (p := ⟨3, 0, none⟩) hlt).trans hm⟩

/-- What the program's reading takes from outside. -/
structure Env (w : World) : Prop where
  tab : Tab w
  errs : Errs w
  srch : Srch w

theorem Env.below {w w' : World} (h : Env w) (hb : Below w.heap.size w w') : Env w' := ⟨h.tab.below hb, h.errs.below hb, h.srch.below hb⟩

theorem bs_back (s : ByteArray) : bs s.data.toList = s := by
  apply ByteArray.ext
  simp [bs]

theorem split_cells (c : UInt8) (line : List UInt8) : (Lib.splitB (bs [c]) 0 (Lib.countB (bs line) (bs [c])) (bs line)).map Value.string = textCells (parts c line) := by
  have h1 := Lib.splitB_data (bs [c]) 0 (Lib.countB (bs line) (bs [c])) (bs line)
  rw [bs_data, bs_data] at h1
  have h2 := (splitK_parts c line.length line (Nat.le_refl _) (Lib.countB (bs line) (bs [c])) (by unfold Lib.countB; rw [bs_data, bs_data]; exact Nat.le_refl _)).1
  rw [h2] at h1
  unfold textCells
  rw [← h1, List.map_map]
  refine List.map_congr_left (fun x _ => ?_)
  simp only [Function.comp]
  rw [bs_back]

theorem split_count (c : UInt8) (line : List UInt8) : Lib.countB (bs line) (bs [c]) + 1 = (parts c line).length := by
  unfold Lib.countB
  rw [bs_data, bs_data]
  exact (splitK_parts c line.length line (Nat.le_refl _) (Lib.count line [c]) (Nat.le_refl _)).2.symm

/-- strings.Split at one sign, in the words of 'parts'. -/
theorem split_any (c : UInt8) (line : List UInt8) (w : World) (hs : line.length ≤ 1048576) (hm : Srch w) :
    Calls Tryz.prog 84 #[.string (bs line), .string (bs [c])] w fun e w' => e = .returned (.slice (some ⟨w.heap.size, 0, none⟩) (parts c line).length (parts c line).length) ∧ RowT w' (some ⟨w.heap.size, 0, none⟩) (parts c line).length (parts c line) ∧ Below w.heap.size w w' := by
  obtain ⟨m, hm⟩ := hm
  refine (Tryz.strings_Split (bs line) (bs [c]) m w (by rw [bs_size]; omega) hm (by rw [bs_size]; exact Nat.le_refl _)).mono ?_
  rintro e w' ⟨rfl, rfl⟩
  rw [split_cells, split_count]
  refine ⟨rfl, ⟨rfl, fun _ => ⟨w.heap.size, 0, rfl, by simp, fun j l hl => ?_⟩⟩, (Below.refl _ _).alloc (Nat.le_refl _) _⟩
  rw [Nat.zero_add, cell_of_row _ w.heap.size j _ 9 (0, 0) (heap_alloc_new w _)]
  simp [textCells, hl]

/-- A word, numbers and whether they are numbers come back. -/
def WordsRes (w : World) (line : List UInt8) (e : Ending) (w' : World) : Prop :=
  ∃ (wd : ByteArray) (v : Value) (n : Nat) (xs : List Int) (ok : Bool), e = .returned (.tuple #[.string wd, v, .bool ok]) ∧ Owns w' w.heap.size v n xs ∧ Below w.heap.size w w' ∧
    ((ok = true ∧ wd = bs ((parts 32 line).headD []) ∧ numsIn (parts 32 line).tail = some xs) ∨ (ok = false ∧ numsIn (parts 32 line).tail = none))

set_option maxRecDepth 20000 in
set_option maxHeartbeats 1600000 in
theorem readWords_any (line : List UInt8) (w : World) (hs : line.length ≤ 1048576) (he : Env w) :
    Calls Tryz.prog 71 #[.string (bs line)] w (WordsRes w line) := by
  obtain ⟨i0, hi, hz0, hz1, hz2⟩ := info_parts info_int
  obtain ⟨S, hS⟩ : ∃ S, S = bs line := ⟨_, rfl⟩
  have CP : Hid (Calls Tryz.prog 84 #[.string S, .string ⟨#[32]⟩] w fun e w' => e = .returned (.slice (some ⟨w.heap.size, 0, none⟩) (parts 32 line).length (parts 32 line).length) ∧ RowT w' (some ⟨w.heap.size, 0, none⟩) (parts 32 line).length (parts 32 line) ∧ Below w.heap.size w w') := by
    rw [hS]
    exact split_any 32 line w hs he.srch
  have HE := Lib.hid he
  obtain ⟨h0, t0, hp⟩ : ∃ h t, parts 32 line = h :: t := by
    cases e : parts 32 line with
    | nil => exact absurd e (parts_ne _ _)
    | cons h t => exact ⟨h, t, rfl⟩
  have HLN : Hid (∀ l ∈ parts 32 line, l.length ≤ line.length) := fun l hl => parts_short hl
  have hcnt : (parts 32 line).length ≤ line.length + 1 := parts_len 32 line
  have hpos : (parts 32 line).length = t0.length + 1 := by rw [hp]; rfl
  rw [← hS]
  rw [hpos] at CP hcnt
  have HP := Lib.hid hp
  clear hS hp hpos he
  go_enter Tryz.func71, Tryz.ntmps71
  go_wp2_with fail
  refine CP.out.mono ?_
  rintro e w1 ⟨rfl, hO, hb1⟩
  have HR := Lib.hid hO
  obtain ⟨b, off, hab, hbl, hc⟩ := hO.2 (by omega)
  cases hab
  have HC := Lib.hid hc
  have HB1 := Lib.hid hb1
  clear hO hc hb1 CP
  have k0 : w1.cell? ⟨w.heap.size, 0, none⟩ = some (.string (bs h0)) := by
    have := HC.out 0 h0 (by rw [HP.out]; rfl)
    simpa using this
  obtain ⟨H0, hH⟩ : ∃ S, S = bs h0 := ⟨_, rfl⟩
  rw [← hH] at k0
  have HH : Hid (H0 = bs ((parts 32 line).headD [])) := by rw [Hid, hH, HP.out]; rfl
  have HTL : Hid ((parts 32 line).tail = t0) := by rw [Hid, HP.out]; rfl
  have HK0 := Lib.hid k0
  clear hH k0
  by_cases ht : t0.length = 0
  · have HT0 : Hid (t0 = []) := List.length_eq_zero_iff.1 ht
    have k0 := HK0.out
    go_wp2_with fail
    go_loopw [6, 16] (fun out i wr => out = .slice none 0 0 ∧ i = .int .i64 0 ∧ wr = w1) (fun _ _ _ => 0)
    case atStart => exact ⟨rfl, rfl, rfl⟩
    case round =>
      obtain ⟨rfl, rfl, rfl⟩ := hrel
      go_wp2_with fail
      go_ret3
      exact ⟨_, _, 0, [], true, rfl, World.ownsRow_nil _ _ _ _, HB1.out, Or.inl ⟨rfl, HH.out, by rw [HTL.out, HT0.out]; rfl⟩⟩
  · go_wp2_with fail
    go_loopw [6, 16] (fun out i wr => ∃ (k : Nat) (xs : List Int), k ≤ t0.length ∧ i = .int .i64 k ∧ Hid (Owns wr w1.heap.size out k xs) ∧ Hid (numsIn (t0.take k) = some xs) ∧ Below w1.heap.size w1 wr) (fun _ i _ => t0.length - (intOf i).toNat)
    case atStart => exact ⟨0, [], Nat.zero_le _, rfl, World.ownsRow_nil _ _ _ _, by simp [Hid, numsIn], Below.refl _ _⟩
    case round =>
      obtain ⟨k, xs, hk, rfl, HX, HNI, hb⟩ := hrel
      by_cases hlt : k < t0.length
      · obtain ⟨l, hl⟩ : ∃ l, l = t0[k] := ⟨_, rfl⟩
        have hlk : (parts 32 line)[1 + k]? = some l := by rw [HP.out, hl, Nat.add_comm]; simp [hlt]
        have kc : wr.cell? ⟨w.heap.size, 1 + k, none⟩ = some (.string (bs l)) := by
          rw [hb.cell (p := ⟨w.heap.size, 1 + k, none⟩) hbl]
          have := HC.out (1 + k) l hlk
          simpa using this
        have HLL : Hid (l.length ≤ 1048576) := Nat.le_trans (HLN.out l (List.mem_of_getElem? hlk)) hs
        have HL := Lib.hid hl
        have HBW : Hid (Below w.heap.size w wr) := HB1.out.trans (hb.mono HB1.out.size)
        have HEr := Lib.hid (HE.out.below HBW.out)
        clear hl hlk
        obtain ⟨T, hT⟩ : ∃ S, S = bs l := ⟨_, rfl⟩
        rw [← hT] at kc
        have CR : Hid (∀ W, Env W → Calls Tryz.prog 85 #[.string T] W (ReadRes W l)) := fun W hW => by
          have := implNumRead_any T W (by rw [hT, bs_size]; exact HLL.out) hW.tab hW.errs
          rw [hT, bs_data] at this
          rw [hT]
          exact this
        clear hT
        go_wp2_with fail
        refine (CR.out _ HEr.out).mono ?_
        rintro e w2 ⟨n, ok, rfl, hr, hb2⟩
        have HRD := Lib.hid (numOf_reads hr)
        have hb12 := hb.trans (hb2.mono hb.size)
        have HX2 := Lib.hid (HX.out.below hb2)
        clear hr hb2 kc
        cases ok with
        | true =>
          have HNX : Hid (numsIn (t0.take (k + 1)) = some (xs ++ [n])) := numsIn_more hlt HNI.out (by rw [← HL.out]; exact HRD.out)
          have hsz : w1.heap.size ≤ w2.heap.size := hb12.size
          go_wp2_with (at_builtin; refine wpList_app rfl (.tmp 27) (.tmp 29) rfl w1.heap.size i0 Tryz.underlying24 hi hz0 hz1 hz2 _ k xs rfl (HX2.out.alloc _) (some ⟨w2.heap.size, 0, none⟩) 1 1 [n] rfl (src_one (by simp)) (by omega) (by simp; omega) ?_)
          rintro v3 w3 ⟨hO3, hg3, hn3⟩
          have HO3 := Lib.hid hO3
          have hb3 := (HX2.out.alloc (.cells #[.int .i64 n] 3)).grown (hb12.alloc hb12.size _) hg3 (Nat.le_refl _) (by simp; omega)
          clear hO3 hg3 hn3
          go_wp2_with fail
          go_roundw
          case rel => exact ⟨k + 1, xs ++ [n], by omega, by go_num, HO3.out, HNX.out, hb3⟩
          case measure => simp [intOf]; omega
        | false =>
          have HNX : Hid (numsIn t0 = none) := numsIn_bad hlt HNI.out (by rw [← HL.out]; exact HRD.out)
          go_wp2_with fail
          go_ret3
          have hbw := HB1.out.trans (hb12.mono HB1.out.size)
          exact ⟨_, _, 0, [], false, rfl, World.ownsRow_nil _ _ _ _, hbw, Or.inr ⟨rfl, by rw [HTL.out]; exact HNX.out⟩⟩
      · obtain rfl : k = t0.length := by omega
        have HE2 : Hid (t0.take t0.length = t0) := List.take_of_length_le (by omega)
        have k0 : wr.cell? ⟨w.heap.size, 0, none⟩ = some (.string H0) := (hb.cell (p := ⟨w.heap.size, 0, none⟩) hbl).trans HK0.out
        go_wp2_with fail
        go_ret3
        have hbw := HB1.out.trans (hb.mono HB1.out.size)
        exact ⟨_, _, _, xs, true, rfl, HX.out.mono HB1.out.size, hbw, Or.inl ⟨rfl, HH.out, by rw [HTL.out, ← HNI.out, HE2.out]⟩⟩

theorem word_at (k : Nat) (w : World) : Calls Tryz.prog 72 #[.int .i64 ((k : Int) + 1)] w fun e w' => e = .returned (.string (bs (wordOf k))) ∧ w' = w := by
  rcases (show k = 0 ∨ k = 1 ∨ k = 2 ∨ k = 3 ∨ ¬ k < 4 by omega) with rfl | rfl | rfl | rfl | h
  · go_enter Tryz.func72, Tryz.ntmps72
    go_wp2
    go_ret
    exact ⟨rfl, rfl⟩
  · go_enter Tryz.func72, Tryz.ntmps72
    go_wp2
    go_ret
    exact ⟨rfl, rfl⟩
  · go_enter Tryz.func72, Tryz.ntmps72
    go_wp2
    go_ret
    exact ⟨rfl, rfl⟩
  · go_enter Tryz.func72, Tryz.ntmps72
    go_wp2
    go_ret
    exact ⟨rfl, rfl⟩
  · have e1 : (((k : Int) + 1) == 1) = false := by simp; omega
    have e2 : (((k : Int) + 1) == 2) = false := by simp; omega
    have e3 : (((k : Int) + 1) == 3) = false := by simp; omega
    have e4 : (((k : Int) + 1) == 4) = false := by simp; omega
    have HW : Hid (wordOf k = wStep) := by
      unfold Hid wordOf
      rw [if_neg (by omega), if_neg (by omega), if_neg (by omega), if_neg (by omega)]
    go_enter Tryz.func72, Tryz.ntmps72
    go_wp2_with fail
    go_ret
    exact ⟨by rw [HW.out]; rfl, rfl⟩

end Go.Proofs.YtfhjhfhfbgddeaaGreatDoor
