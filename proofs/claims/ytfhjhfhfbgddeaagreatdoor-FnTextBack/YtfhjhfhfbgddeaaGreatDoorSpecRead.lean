/-
  The contract of the model's IaRead. Conditions: a text of at most 2^20 bytes.
-/
import Derived.Test.YtfhjhfhfbgddeaaGreatDoorReadBox
import Derived.Test.YtfhjhfhfbgddeaaGreatDoorSpecLine
import Derived.Test.YtfhjhfhfbgddeaaGreatDoorSpecIaOk
import Derived.Test.YtfhjhfhfbgddeaaGreatDoorTextMath
import Derived.Test.YtfhjhfhfbgddeaaGreatDoorRegion
import Derived.Deep.AppendLies
namespace Go.Proofs.YtfhjhfhfbgddeaaGreatDoor
open Go.RowKit

/-- An automaton and a code come back. -/
def IaReadRes (w : World) (r : IaD × Int) (e : Ending) (w' : World) : Prop := ∃ v, e = .returned (.tuple #[v, .int .i64 r.2]) ∧ IaRow w' r.1 v ∧ Below w.heap.size w w'

theorem iaRow_none (w : World) : IaRow w noIa (.agg #[.int .i64 0, .int .i64 0, .slice none 0 0, .slice none 0 0, .slice none 0 0, .slice none 0 0]) :=
  ⟨none, 0, 0, none, 0, 0, none, 0, 0, none, 0, 0, rfl, ⟨rfl, fun h => absurd h (by omega)⟩, ⟨rfl, fun h => absurd h (by omega)⟩, ⟨rfl, fun h => absurd h (by omega)⟩, ⟨rfl, fun h => absurd h (by omega)⟩⟩

theorem iaRead_long {l : List UInt8} (h : 8000 < l.length) : iaReadOf l = (noIa, -1) := by unfold iaReadOf; rw [if_pos h]
theorem iaRead_wrong {l : List UInt8} {k : Nat} (h : ¬ 8000 < l.length) (hr : readOf 0 (parts 10 l) noIa = .error k) : iaReadOf l = (noIa, (k : Int)) := by unfold iaReadOf; rw [if_neg h, hr]
theorem iaRead_at {l : List UInt8} {k : Nat} (h : ¬ 8000 < l.length) (hr : readOf 0 (parts 10 l) noIa = .error (k + 1)) : iaReadOf l = (noIa, (k : Int) + 1) := by rw [iaRead_wrong h hr]; rfl
theorem text_empty {T : ByteArray} {l : List UInt8} (h : T = bs l) (he : l = []) : (T.toList == []) = true := by rw [h, bs_toList, he]; rfl
theorem text_not {T : ByteArray} {l : List UInt8} (h : T = bs l) (he : ¬ l = []) : (T.toList == []) = false := by rw [h, bs_toList, beq_eq_false_iff_ne]; exact he
theorem iaRead_not {l : List UInt8} {a : IaD} (h : ¬ 8000 < l.length) (hr : readOf 0 (parts 10 l) noIa = .ok a) (hok : iaOkB a = false) : iaReadOf l = (noIa, -1) := by unfold iaReadOf; rw [if_neg h, hr]; simp [hok]
theorem iaRead_ok {l : List UInt8} {a : IaD} (h : ¬ 8000 < l.length) (hr : readOf 0 (parts 10 l) noIa = .ok a) (hok : iaOkB a = true) : iaReadOf l = (a, 0) := by unfold iaReadOf; rw [if_neg h, hr]; simp [hok]

set_option maxRecDepth 20000 in
set_option maxHeartbeats 6400000 in
theorem specIaRead_any (s : ByteArray) (w : World) (hs : s.size ≤ 1048576) : Calls Tryz.prog 12 #[.string s] w (IaReadRes w (iaReadOf s.data.toList)) := by
  obtain ⟨L, hL⟩ : ∃ L, L = s.data.toList := ⟨_, rfl⟩
  have hll : L.length = s.size := by rw [hL]; simp
  rw [← hL]
  obtain ⟨R, hR⟩ : ∃ R, R = iaReadOf L := ⟨_, rfl⟩
  rw [← hR]
  have HR := Lib.hid hR
  have V0 : Hid (VarIs (w.alloc (.cells #[.int .i64 0, .int .i64 0, .slice none 0 0, .slice none 0 0, .slice none 0 0, .slice none 0 0] 27)) w.heap.size #[.int .i64 0, .int .i64 0, .slice none 0 0, .slice none 0 0, .slice none 0 0, .slice none 0 0] 27) := VarIs.new w _ _ rfl
  have B0 : Hid (Below w.heap.size w (w.alloc (.cells #[.int .i64 0, .int .i64 0, .slice none 0 0, .slice none 0 0, .slice none 0 0, .slice none 0 0] 27))) := (Below.refl _ _).alloc (Nat.le_refl _) _
  by_cases hlong : 8000 < s.size
  · have HRL : Hid (R = (noIa, -1)) := by rw [Hid, hR]; exact iaRead_long (by omega)
    have TH : Hid ((w.alloc (.cells #[.int .i64 0, .int .i64 0, .slice none 0 0, .slice none 0 0, .slice none 0 0, .slice none 0 0] 27)).there w.heap.size 0 6) := V0.out.there rfl
    clear hL hR
    go_enter Tryz.func12, Tryz.ntmps12
    have RG2 : Hid (((w.alloc (.cells #[.int .i64 0, .int .i64 0, .slice none 0 0, .slice none 0 0, .slice none 0 0, .slice none 0 0] 27)).setCells w.heap.size 0 [.int .i64 0, .int .i64 0, .slice none 0 0, .slice none 0 0, .slice none 0 0, .slice none 0 0]).rangeAt w.heap.size 0 [.int .i64 0, .int .i64 0, .slice none 0 0, .slice none 0 0, .slice none 0 0, .slice none 0 0]) := World.rangeAt_setCells_same (w.alloc (.cells #[.int .i64 0, .int .i64 0, .slice none 0 0, .slice none 0 0, .slice none 0 0, .slice none 0 0] 27)) w.heap.size 0 _ TH.out
    have HGS := Lib.hid (grown_setCells w.heap.size [.int .i64 0, .int .i64 0, .slice none 0 0, .slice none 0 0, .slice none 0 0, .slice none 0 0] 0 (w.alloc (.cells #[.int .i64 0, .int .i64 0, .slice none 0 0, .slice none 0 0, .slice none 0 0, .slice none 0 0] 27)))
    go_wp2_with (refine wpList_store_mid rfl _ _ _ rfl w.heap.size 0 #[.int .i64 0, .int .i64 0, .slice none 0 0, .slice none 0 0, .slice none 0 0, .slice none 0 0] rfl rfl TH.out (by kernel_rfl) (ia_one _ _ _ _ _ _ _ _ _ _ _ _ _ _) ?_)
    refine bodyPost_ret (v := .tuple #[.agg #[.int .i64 0, .int .i64 0, .slice none 0 0, .slice none 0 0, .slice none 0 0, .slice none 0 0], .int .i64 (-1)]) ?_ rfl ⟨.agg #[.int .i64 0, .int .i64 0, .slice none 0 0, .slice none 0 0, .slice none 0 0, .slice none 0 0], by rw [HRL.out], by rw [HRL.out]; exact iaRow_none _, (B0.out).grown HGS.out (B0.out).size (fun q hq => by cases hq; exact Nat.le_refl _)⟩
    have HC0 := RG2.out 0 _ rfl
    have HC1 := RG2.out 1 _ rfl
    have HC2 := RG2.out 2 _ rfl
    have HC3 := RG2.out 3 _ rfl
    have HC4 := RG2.out 4 _ rfl
    have HC5 := RG2.out 5 _ rfl
    simp only [Nat.zero_add] at HC0 HC1 HC2 HC3 HC4 HC5
    simp [results, Tryz.results12, go_sem, HC0, HC1, HC2, HC3, HC4, HC5]
  · have HNL : Hid (¬ 8000 < L.length) := by unfold Hid; omega
    have VA0 : Hid (VarIs ((w.alloc (.cells #[.int .i64 0, .int .i64 0, .slice none 0 0, .slice none 0 0, .slice none 0 0, .slice none 0 0] 27)).alloc (.cells #[.int .i64 0, .int .i64 0, .slice none 0 0, .slice none 0 0, .slice none 0 0, .slice none 0 0] 27)) (w.heap.size + 1) #[.int .i64 0, .int .i64 0, .slice none 0 0, .slice none 0 0, .slice none 0 0, .slice none 0 0] 27) := VarIs.new _ _ _ (by simp)
    have VB0 : Hid (VarIs ((w.alloc (.cells #[.int .i64 0, .int .i64 0, .slice none 0 0, .slice none 0 0, .slice none 0 0, .slice none 0 0] 27)).alloc (.cells #[.int .i64 0, .int .i64 0, .slice none 0 0, .slice none 0 0, .slice none 0 0, .slice none 0 0] 27)) w.heap.size #[.int .i64 0, .int .i64 0, .slice none 0 0, .slice none 0 0, .slice none 0 0, .slice none 0 0] 27) := V0.out.alloc _
    have B1 : Hid (Below w.heap.size w ((w.alloc (.cells #[.int .i64 0, .int .i64 0, .slice none 0 0, .slice none 0 0, .slice none 0 0, .slice none 0 0] 27)).alloc (.cells #[.int .i64 0, .int .i64 0, .slice none 0 0, .slice none 0 0, .slice none 0 0, .slice none 0 0] 27))) := B0.out.alloc B0.out.size _
    have CP : Hid (∀ W, Calls Tryz.prog 32 #[.string s, .int .u8 10] W (TextsRes W (parts 10 L))) := fun W => by
      have := specParts_any s 10 10 rfl W hs
      rw [← hL] at this
      exact this
    clear V0 B0 hL hR
    go_enter Tryz.func12, Tryz.ntmps12
    go_wp2_with fail
    refine (CP.out _).mono ?_
    rintro e w1 ⟨g, c, rfl, hO, hb1⟩
    have BW : Hid (Below w.heap.size w w1) := B1.out.trans (hb1.mono B1.out.size)
    have VA := Lib.hid (VA0.out.below hb1)
    have VB := Lib.hid (VB0.out.below hb1)
    have hgA : w.heap.size + 1 + 1 ≤ g := by have := (hO.lt g rfl).1; simpa using this
    have HRT := Lib.hid hO.row
    have hgl : g < w1.heap.size := (hO.lt g rfl).2
    have hn1 := parts_pos 10 L
    have hn2 := parts_len 10 L
    have HSH : Hid (∀ q ∈ parts 10 L, q.length ≤ 8000) := fun q hq => Nat.le_trans (parts_short hq) (by omega)
    clear hO hb1 VA0 VB0 B1 CP
    obtain ⟨ls, hls⟩ : ∃ ls, ls = parts 10 L := ⟨_, rfl⟩
    rw [← hls] at hn1 hn2 HSH HRT ⊢
    have HLS0 := Lib.hid hls
    clear hls
    obtain ⟨n, hn⟩ : ∃ n, n = ls.length := ⟨_, rfl⟩
    rw [← hn] at hn1 hn2 HRT ⊢
    have HN := Lib.hid hn
    clear hn
    have RB0 : Hid (ReadBox w1 (w.heap.size + 1) w1.heap.size noIa) := readBox_new VA.out VA.out.lt (Nat.le_refl _)
    have HAL : Hid (w.heap.size + 1 < w1.heap.size) := VA.out.lt
    have hn3 : n ≤ 8001 := by omega
    clear VA
    go_wp2_with fail
    go_loopw [6] (fun i wr => ∃ (k : Nat) (a : IaD), k < n ∧ i = .int .i64 k ∧ Hid (ReadBox wr (w.heap.size + 1) w1.heap.size a) ∧ Hid (Far w1 wr (w.heap.size + 1)) ∧ Hid (readOf 0 ls noIa = readOf k (ls.drop k) a) ∧ Hid (IaLess 8001 a ∧ a.steps.length ≤ k)) (fun i _ => n - (intOf i).toNat)
    case atStart => exact ⟨0, noIa, by omega, rfl, RB0, Far.refl _ _, rfl, ⟨by simp [noIa], by simp [noIa], by simp [noIa], by simp [noIa]⟩, by simp [noIa]⟩
    case round =>
      clear RB0
      obtain ⟨k, a, hk, rfl, HB, HF, HRO, HLS⟩ := hrel
      have hkl : k < ls.length := by have := HN.out; omega
      obtain ⟨l, hl⟩ : ∃ l, l = ls[k] := ⟨_, rfl⟩
      have hlk : ls[k]? = some l := by rw [hl, List.getElem?_eq_getElem hkl]
      obtain ⟨T, hT⟩ : ∃ T, T = bs l := ⟨_, rfl⟩
      have kc : wr.cell? ⟨g, k, none⟩ = some (.string T) := by
        obtain ⟨b, off, hab, _, hc⟩ := HRT.out.2 hn1
        cases hab
        have h1 := hc k l hlk
        rw [Nat.zero_add] at h1
        rw [hT]
        exact HF.out.cell h1 (by simp; omega)
      have HT := Lib.hid hT
      have HDR : Hid (ls.drop k = l :: ls.drop (k + 1)) := by rw [Hid, hl]; exact List.drop_eq_getElem_cons hkl
      have HSL : Hid (l.length ≤ 8000) := HSH.out l (List.mem_of_getElem? hlk)
      have VBr := Lib.hid (HF.out.varIs VB.out (by omega))
      have BWr : Hid (Below w.heap.size w wr) := HF.out.low BW.out BW.out.size (by omega)
      have TH : Hid (wr.there w.heap.size 0 6) := VBr.out.there rfl
      clear hl hlk hT
      by_cases hlast : k + 1 = n
      · have hq0 : (((k : Nat) : Int) == ((n : Nat) : Int) - 1) = true := by simp; omega
        have HDE : Hid (ls.drop (k + 1) = []) := List.drop_eq_nil_of_le (by have := HN.out; omega)
        by_cases he : l = []
        · have HE := Lib.hid he
          by_cases h4 : k < 4
          · have HRW : Hid (R = (noIa, (k : Int) + 1)) := by
              rw [Hid, HR.out]
              refine iaRead_at HNL.out ?_
              rw [← HLS0.out, HRO.out, HDR.out, HDE.out]
              exact readOf_last (fun h => by omega)
            have hq1 : (T.toList == []) = true := text_empty HT.out HE.out
            clear he
            have RG2 : Hid ((wr.setCells w.heap.size 0 [.int .i64 0, .int .i64 0, .slice none 0 0, .slice none 0 0, .slice none 0 0, .slice none 0 0]).rangeAt w.heap.size 0 [.int .i64 0, .int .i64 0, .slice none 0 0, .slice none 0 0, .slice none 0 0, .slice none 0 0]) := World.rangeAt_setCells_same wr w.heap.size 0 _ TH.out
            have HGS := Lib.hid (grown_setCells w.heap.size [.int .i64 0, .int .i64 0, .slice none 0 0, .slice none 0 0, .slice none 0 0, .slice none 0 0] 0 wr)
            go_wp2_with (refine wpList_store_mid rfl _ _ _ rfl w.heap.size 0 #[.int .i64 0, .int .i64 0, .slice none 0 0, .slice none 0 0, .slice none 0 0, .slice none 0 0] rfl rfl TH.out (by kernel_rfl) (ia_one _ _ _ _ _ _ _ _ _ _ _ _ _ _) ?_)
            refine bodyPost_ret (v := .tuple #[.agg #[.int .i64 0, .int .i64 0, .slice none 0 0, .slice none 0 0, .slice none 0 0, .slice none 0 0], .int .i64 ((k : Int) + 1)]) ?_ rfl ⟨.agg #[.int .i64 0, .int .i64 0, .slice none 0 0, .slice none 0 0, .slice none 0 0, .slice none 0 0], by rw [HRW.out], by rw [HRW.out]; exact iaRow_none _, (BWr.out).grown HGS.out (BWr.out).size (fun q hq => by cases hq; exact Nat.le_refl _)⟩
            have HC0 := RG2.out 0 _ rfl
            have HC1 := RG2.out 1 _ rfl
            have HC2 := RG2.out 2 _ rfl
            have HC3 := RG2.out 3 _ rfl
            have HC4 := RG2.out 4 _ rfl
            have HC5 := RG2.out 5 _ rfl
            simp only [Nat.zero_add] at HC0 HC1 HC2 HC3 HC4 HC5
            simp [results, Tryz.results12, go_sem, HC0, HC1, HC2, HC3, HC4, HC5]
          · have HRK : Hid (readOf 0 ls noIa = .ok a) := by
              rw [Hid, HRO.out, HDR.out, HDE.out]
              exact readOf_end ⟨HE.out, by omega⟩
            have hq1 : (T.toList == []) = true := text_empty HT.out HE.out
            obtain ⟨x2, x3, x4, x5, hbox⟩ := HB.out.box
            obtain ⟨b2, d2, rfl⟩ := hbox.o2.form
            obtain ⟨b3, d3, rfl⟩ := hbox.o3.form
            obtain ⟨b4, d4, rfl⟩ := hbox.o4.form
            obtain ⟨b5, d5, rfl⟩ := hbox.o5.form
            have HRW := Lib.hid hbox.own.row
            have m0 := hbox.var.cell (j := 0) rfl
            have m1 := hbox.var.cell (j := 1) rfl
            have m2 := hbox.var.cell (j := 2) rfl
            have m3 := hbox.var.cell (j := 3) rfl
            have m4 := hbox.var.cell (j := 4) rfl
            have m5 := hbox.var.cell (j := 5) rfl
            have HBX := Lib.hid hbox
            clear he hbox
            go_wp2_with fail
            clear m0 m1 m2 m3 m4 m5
            refine (specIaOk_any a _ _ HRW.out (Nat.le_trans HLS.out.1.1 (by decide)) (Nat.le_trans HLS.out.1.2.1 (by decide)) (Nat.le_trans HLS.out.1.2.2.1 (by decide)) (Nat.le_trans HLS.out.1.2.2.2 (by decide))).mono ?_
            obtain ⟨q, hq⟩ : ∃ q, q = iaOkB a := ⟨_, rfl⟩
            rw [← hq]
            rintro e w2 ⟨rfl, hb⟩
            have HQ := Lib.hid hq
            have BW2 : Hid (Below w.heap.size w w2) := BWr.out.trans (hb.mono BWr.out.size)
            have TH2 : Hid (w2.there w.heap.size 0 6) := (VBr.out.below hb).there rfl
            have hbox := HBX.out.below hb
            have HBX2 := Lib.hid hbox
            clear hb hq HBX HRW TH
            cases q with
            | false =>
              have HRW : Hid (R = (noIa, -1)) := by
                rw [Hid, HR.out]
                exact iaRead_not HNL.out (by rw [← HLS0.out]; exact HRK.out) HQ.out.symm
              clear hbox
              have RG2 : Hid ((w2.setCells w.heap.size 0 [.int .i64 0, .int .i64 0, .slice none 0 0, .slice none 0 0, .slice none 0 0, .slice none 0 0]).rangeAt w.heap.size 0 [.int .i64 0, .int .i64 0, .slice none 0 0, .slice none 0 0, .slice none 0 0, .slice none 0 0]) := World.rangeAt_setCells_same w2 w.heap.size 0 _ TH2.out
              have HGS := Lib.hid (grown_setCells w.heap.size [.int .i64 0, .int .i64 0, .slice none 0 0, .slice none 0 0, .slice none 0 0, .slice none 0 0] 0 w2)
              go_wp2_with (refine wpList_store_mid rfl _ _ _ rfl w.heap.size 0 #[.int .i64 0, .int .i64 0, .slice none 0 0, .slice none 0 0, .slice none 0 0, .slice none 0 0] rfl rfl TH2.out (by kernel_rfl) (ia_one _ _ _ _ _ _ _ _ _ _ _ _ _ _) ?_)
              refine bodyPost_ret (v := .tuple #[.agg #[.int .i64 0, .int .i64 0, .slice none 0 0, .slice none 0 0, .slice none 0 0, .slice none 0 0], .int .i64 (-1)]) ?_ rfl ⟨.agg #[.int .i64 0, .int .i64 0, .slice none 0 0, .slice none 0 0, .slice none 0 0, .slice none 0 0], by rw [HRW.out], by rw [HRW.out]; exact iaRow_none _, (BW2.out).grown HGS.out (BW2.out).size (fun q hq => by cases hq; exact Nat.le_refl _)⟩
              have HC0 := RG2.out 0 _ rfl
              have HC1 := RG2.out 1 _ rfl
              have HC2 := RG2.out 2 _ rfl
              have HC3 := RG2.out 3 _ rfl
              have HC4 := RG2.out 4 _ rfl
              have HC5 := RG2.out 5 _ rfl
              simp only [Nat.zero_add] at HC0 HC1 HC2 HC3 HC4 HC5
              simp [results, Tryz.results12, go_sem, HC0, HC1, HC2, HC3, HC4, HC5]
            | true =>
              have HRW : Hid (R = (a, 0)) := by
                rw [Hid, HR.out]
                exact iaRead_ok HNL.out (by rw [← HLS0.out]; exact HRK.out) HQ.out.symm
              have m0 := hbox.var.cell (j := 0) rfl
              have m1 := hbox.var.cell (j := 1) rfl
              have m2 := hbox.var.cell (j := 2) rfl
              have m3 := hbox.var.cell (j := 3) rfl
              have m4 := hbox.var.cell (j := 4) rfl
              have m5 := hbox.var.cell (j := 5) rfl
              have HRR : Hid (IaRow (w2.setCells w.heap.size 0 [.int .i64 a.states, .int .i64 a.init, .slice b2 a.ins.length d2, .slice b3 a.outs.length d3, .slice b4 a.hids.length d4, .slice b5 a.steps.length d5]) a (.agg #[.int .i64 a.states, .int .i64 a.init, .slice b2 a.ins.length d2, .slice b3 a.outs.length d3, .slice b4 a.hids.length d4, .slice b5 a.steps.length d5])) := by
                have hg := grown_setCells w.heap.size [.int .i64 a.states, .int .i64 a.init, .slice b2 a.ins.length d2, .slice b3 a.outs.length d3, .slice b4 a.hids.length d4, .slice b5 a.steps.length d5] 0 w2
                have hbs := HBX2.out
                have hlt : w.heap.size < w1.heap.size := by have := HAL.out; omega
                have hne : ∀ k, w1.heap.size ≤ k → some k ≠ some w.heap.size := fun k hk e => by have := Option.some.inj e; omega
                exact (Box.own ⟨hbs.lt, Nat.le_trans hbs.size hg.size, hbs.var.grown hg (fun e => by have := Option.some.inj e; omega), hbs.o2.keep hg (fun k hk => hne k (hbs.o2.lt k hk).1), hbs.o3.keep hg (fun k hk => hne k (hbs.o3.lt k hk).1), hbs.o4.keep hg (fun k hk => hne k (hbs.o4.lt k hk).1), hbs.o5.keep hg (fun k hk => hne k (hbs.o5.lt k hk).1), hbs.p2, hbs.p3, hbs.p4⟩).row
              clear hbox
              have RG2 : Hid ((w2.setCells w.heap.size 0 [.int .i64 a.states, .int .i64 a.init, .slice b2 a.ins.length d2, .slice b3 a.outs.length d3, .slice b4 a.hids.length d4, .slice b5 a.steps.length d5]).rangeAt w.heap.size 0 [.int .i64 a.states, .int .i64 a.init, .slice b2 a.ins.length d2, .slice b3 a.outs.length d3, .slice b4 a.hids.length d4, .slice b5 a.steps.length d5]) := World.rangeAt_setCells_same w2 w.heap.size 0 _ TH2.out
              have HGS := Lib.hid (grown_setCells w.heap.size [.int .i64 a.states, .int .i64 a.init, .slice b2 a.ins.length d2, .slice b3 a.outs.length d3, .slice b4 a.hids.length d4, .slice b5 a.steps.length d5] 0 w2)
              go_wp2_with (refine wpList_store_mid rfl _ _ _ rfl w.heap.size 0 #[.int .i64 a.states, .int .i64 a.init, .slice b2 a.ins.length d2, .slice b3 a.outs.length d3, .slice b4 a.hids.length d4, .slice b5 a.steps.length d5] rfl rfl TH2.out (by kernel_rfl) (ia_one _ _ _ _ _ _ _ _ _ _ _ _ _ _) ?_)
              refine bodyPost_ret (v := .tuple #[.agg #[.int .i64 a.states, .int .i64 a.init, .slice b2 a.ins.length d2, .slice b3 a.outs.length d3, .slice b4 a.hids.length d4, .slice b5 a.steps.length d5], .int .i64 (0)]) ?_ rfl ⟨.agg #[.int .i64 a.states, .int .i64 a.init, .slice b2 a.ins.length d2, .slice b3 a.outs.length d3, .slice b4 a.hids.length d4, .slice b5 a.steps.length d5], by rw [HRW.out], by rw [HRW.out]; exact HRR.out, (BW2.out).grown HGS.out (BW2.out).size (fun q hq => by cases hq; exact Nat.le_refl _)⟩
              have HC0 := RG2.out 0 _ rfl
              have HC1 := RG2.out 1 _ rfl
              have HC2 := RG2.out 2 _ rfl
              have HC3 := RG2.out 3 _ rfl
              have HC4 := RG2.out 4 _ rfl
              have HC5 := RG2.out 5 _ rfl
              simp only [Nat.zero_add] at HC0 HC1 HC2 HC3 HC4 HC5
              simp [results, Tryz.results12, go_sem, HC0, HC1, HC2, HC3, HC4, HC5]
        · have HRW : Hid (R = (noIa, (k : Int) + 1)) := by
            rw [Hid, HR.out]
            refine iaRead_at HNL.out ?_
            rw [← HLS0.out, HRO.out, HDR.out, HDE.out]
            exact readOf_last (fun h => he h.1)
          have hq1 : (T.toList == []) = false := text_not HT.out he
          clear he
          have RG2 : Hid ((wr.setCells w.heap.size 0 [.int .i64 0, .int .i64 0, .slice none 0 0, .slice none 0 0, .slice none 0 0, .slice none 0 0]).rangeAt w.heap.size 0 [.int .i64 0, .int .i64 0, .slice none 0 0, .slice none 0 0, .slice none 0 0, .slice none 0 0]) := World.rangeAt_setCells_same wr w.heap.size 0 _ TH.out
          have HGS := Lib.hid (grown_setCells w.heap.size [.int .i64 0, .int .i64 0, .slice none 0 0, .slice none 0 0, .slice none 0 0, .slice none 0 0] 0 wr)
          go_wp2_with (refine wpList_store_mid rfl _ _ _ rfl w.heap.size 0 #[.int .i64 0, .int .i64 0, .slice none 0 0, .slice none 0 0, .slice none 0 0, .slice none 0 0] rfl rfl TH.out (by kernel_rfl) (ia_one _ _ _ _ _ _ _ _ _ _ _ _ _ _) ?_)
          refine bodyPost_ret (v := .tuple #[.agg #[.int .i64 0, .int .i64 0, .slice none 0 0, .slice none 0 0, .slice none 0 0, .slice none 0 0], .int .i64 ((k : Int) + 1)]) ?_ rfl ⟨.agg #[.int .i64 0, .int .i64 0, .slice none 0 0, .slice none 0 0, .slice none 0 0, .slice none 0 0], by rw [HRW.out], by rw [HRW.out]; exact iaRow_none _, (BWr.out).grown HGS.out (BWr.out).size (fun q hq => by cases hq; exact Nat.le_refl _)⟩
          have HC0 := RG2.out 0 _ rfl
          have HC1 := RG2.out 1 _ rfl
          have HC2 := RG2.out 2 _ rfl
          have HC3 := RG2.out 3 _ rfl
          have HC4 := RG2.out 4 _ rfl
          have HC5 := RG2.out 5 _ rfl
          simp only [Nat.zero_add] at HC0 HC1 HC2 HC3 HC4 HC5
          simp [results, Tryz.results12, go_sem, HC0, HC1, HC2, HC3, HC4, HC5]
      · have hq0 : (((k : Nat) : Int) == ((n : Nat) : Int) - 1) = false := by simp; omega
        have HDX : Hid (ls.drop (k + 1) ≠ []) := fun e => by
          have h1 := congrArg List.length e
          rw [List.length_drop, List.length_nil] at h1
          have := HN.out
          omega
        have HWR : Hid (readLineOf k l a = none → R = (noIa, (k : Int) + 1)) := fun hw => by
          rw [HR.out]
          refine iaRead_at HNL.out ?_
          rw [← HLS0.out, HRO.out, HDR.out]
          exact readOf_wrong HDX.out hw
        have HGO : Hid (∀ a', readLineOf k l a = some a' → readOf 0 ls noIa = readOf (k + 1) (ls.drop (k + 1)) a') := fun a' hw => by
          rw [HRO.out, HDR.out]
          exact readOf_next HDX.out hw
        obtain ⟨Wd, hWd⟩ : ∃ W, W = bs (wordOf k) := ⟨_, rfl⟩
        have CL : Hid (∀ W, Calls Tryz.prog 33 #[.string T, .string Wd] W (LineRes W (lineAt (wordOf k) l))) := fun W => by
          rw [HT.out, hWd]
          exact specLine_any l (wordOf k) W (Nat.le_trans HSL.out (by decide))
        obtain ⟨x2, x3, x4, x5, hbox⟩ := HB.out.box
        obtain ⟨b2, d2, rfl⟩ := hbox.o2.form
        obtain ⟨b3, d3, rfl⟩ := hbox.o3.form
        obtain ⟨b4, d4, rfl⟩ := hbox.o4.form
        obtain ⟨b5, d5, rfl⟩ := hbox.o5.form
        have HBX := Lib.hid hbox
        clear hbox
        by_cases h4 : k < 4
        · have hkw : (wr.alloc (.cells #[.string ⟨#[115, 116, 97, 116, 101, 115]⟩, .string ⟨#[105, 110, 115]⟩, .string ⟨#[111, 117, 116, 115]⟩, .string ⟨#[104, 105, 100, 115]⟩] 9)).cell? ⟨wr.heap.size, k, none⟩ = some (.string Wd) := by
            rw [hWd, cell_of_row _ wr.heap.size k _ 9 (0, 0) (heap_alloc_new wr _)]
            rcases (show k = 0 ∨ k = 1 ∨ k = 2 ∨ k = 3 by omega) with h | h | h | h <;> (subst h; rfl)
          have hkc : (wr.alloc (.cells #[.string ⟨#[115, 116, 97, 116, 101, 115]⟩, .string ⟨#[105, 110, 115]⟩, .string ⟨#[111, 117, 116, 115]⟩, .string ⟨#[104, 105, 100, 115]⟩] 9)).cell? ⟨g, k, none⟩ = some (.string T) := by
            rw [World.cell?_alloc_lt _ _ ⟨g, k, none⟩ (Nat.lt_of_lt_of_le hgl HF.out.size)]
            exact kc
          have hba : Below wr.heap.size wr (wr.alloc (.cells #[.string ⟨#[115, 116, 97, 116, 101, 115]⟩, .string ⟨#[105, 110, 115]⟩, .string ⟨#[111, 117, 116, 115]⟩, .string ⟨#[104, 105, 100, 115]⟩] 9)) := (Below.refl _ _).alloc (Nat.le_refl _) _
          have HBA := Lib.hid (HBX.out.below hba)
          have HFA := Lib.hid (HF.out.below hba)
          have VBA := Lib.hid (VBr.out.below hba)
          have BWA : Hid (Below w.heap.size w (wr.alloc (.cells #[.string ⟨#[115, 116, 97, 116, 101, 115]⟩, .string ⟨#[105, 110, 115]⟩, .string ⟨#[111, 117, 116, 115]⟩, .string ⟨#[104, 105, 100, 115]⟩] 9))) := BWr.out.trans (hba.mono BWr.out.size)
          clear hba hWd
          go_wp2_with fail
          refine (CL.out _).mono ?_
          rintro e w2 ⟨v, m, xs, ok, rfl, hO, hb2, hres⟩
          obtain ⟨bv, dv, rfl⟩ := hO.form
          have hml : xs.length = m := hO.length
          have HO := Lib.hid hO
          have HB2 := Lib.hid hb2
          have HF2 := Lib.hid (HFA.out.below hb2)
          have TH2 : Hid (w2.there w.heap.size 0 6) := (VBA.out.below hb2).there rfl
          have BW2 : Hid (Below w.heap.size w w2) := BWA.out.trans (hb2.mono BWA.out.size)
          have HBX2 := Lib.hid (HBA.out.below hb2)
          have hmK : m ≤ 8001 ∨ ok = false := by
            rcases hres with ⟨_, h⟩ | ⟨h, _⟩
            · left; have := lineAt_len h; have := HSL.out; omega
            · right; exact h
          clear hO hb2 kc CL TH BWr VBr HB HF HBX
          cases ok with
          | false =>
            have HLN : Hid (lineAt (wordOf k) l = none) := by
              rcases hres with ⟨h, _⟩ | ⟨_, h⟩
              · cases h
              · exact h
            clear hres hmK
            have HRW : Hid (R = (noIa, (k : Int) + 1)) := HWR.out (readLine_none HLN.out)
            have RG2 : Hid ((w2.setCells w.heap.size 0 [.int .i64 0, .int .i64 0, .slice none 0 0, .slice none 0 0, .slice none 0 0, .slice none 0 0]).rangeAt w.heap.size 0 [.int .i64 0, .int .i64 0, .slice none 0 0, .slice none 0 0, .slice none 0 0, .slice none 0 0]) := World.rangeAt_setCells_same w2 w.heap.size 0 _ TH2.out
            have HGS := Lib.hid (grown_setCells w.heap.size [.int .i64 0, .int .i64 0, .slice none 0 0, .slice none 0 0, .slice none 0 0, .slice none 0 0] 0 w2)
            go_wp2_with (refine wpList_store_mid rfl _ _ _ rfl w.heap.size 0 #[.int .i64 0, .int .i64 0, .slice none 0 0, .slice none 0 0, .slice none 0 0, .slice none 0 0] rfl rfl TH2.out (by kernel_rfl) (ia_one _ _ _ _ _ _ _ _ _ _ _ _ _ _) ?_)
            refine bodyPost_ret (v := .tuple #[.agg #[.int .i64 0, .int .i64 0, .slice none 0 0, .slice none 0 0, .slice none 0 0, .slice none 0 0], .int .i64 ((k : Int) + 1)]) ?_ rfl ⟨.agg #[.int .i64 0, .int .i64 0, .slice none 0 0, .slice none 0 0, .slice none 0 0, .slice none 0 0], by rw [HRW.out], by rw [HRW.out]; exact iaRow_none _, (BW2.out).grown HGS.out (BW2.out).size (fun q hq => by cases hq; exact Nat.le_refl _)⟩
            have HC0 := RG2.out 0 _ rfl
            have HC1 := RG2.out 1 _ rfl
            have HC2 := RG2.out 2 _ rfl
            have HC3 := RG2.out 3 _ rfl
            have HC4 := RG2.out 4 _ rfl
            have HC5 := RG2.out 5 _ rfl
            simp only [Nat.zero_add] at HC0 HC1 HC2 HC3 HC4 HC5
            simp [results, Tryz.results12, go_sem, HC0, HC1, HC2, HC3, HC4, HC5]
          | true =>
            have HLN : Hid (lineAt (wordOf k) l = some xs) := by
              rcases hres with ⟨_, h⟩ | ⟨h, _⟩
              · exact h
              · cases h
            have hm8 : m ≤ 8001 := by
              rcases hmK with h | h
              · exact h
              · cases h
            clear hres hmK
            have HLE := HLS.out
            rcases (show k = 0 ∨ k = 1 ∨ k = 2 ∨ k = 3 by omega) with hk0 | hk0 | hk0 | hk0
            · have e0 : (((k : Nat) : Int) == 0) = true := by simp; omega
              have HK := Lib.hid hk0
              by_cases h2 : m = 2
              · have hnn : ¬ (Value.slice bv m dv) = .slice none 0 0 := fun e => by simp at e; omega
                obtain ⟨gv, cv, hsl⟩ := HO.out.head hnn
                simp only [Value.slice.injEq, true_and] at hsl
                obtain ⟨rfl, rfl⟩ := hsl
                obtain ⟨y0, hy0⟩ : ∃ y, y = xs.getD 0 0 := ⟨_, rfl⟩
                obtain ⟨y1, hy1⟩ : ∃ y, y = xs.getD 1 0 := ⟨_, rfl⟩
                have HPN : Hid (readLineOf k l a = some ⟨y0, y1, a.ins, a.outs, a.hids, a.steps⟩) := by rw [Hid, readLine_some HLN.out, HK.out, hy0, hy1]; exact putLine_0 a (by omega)
                have HNX := Lib.hid (HGO.out _ HPN.out)
                have HRB := Lib.hid (HBX2.out.two y0 y1)
                have HFN := Lib.hid ((HF2.out.set 0 (.int .i64 y0)).set 1 (.int .i64 y1))
                have HLN2 : Hid (IaLess 8001 ⟨y0, y1, a.ins, a.outs, a.hids, a.steps⟩ ∧ a.steps.length ≤ k + 1) := ⟨HLE.1, by have := HLE.2; omega⟩
                have hgv : w.heap.size + 1 < gv := by
                  have h1 := (HO.out.lt gv rfl).1
                  have h2 := HBA.out.size
                  have h3 := HAL.out
                  omega
                have c0 : w2.cell? ⟨gv, 0, none⟩ = some (.int .i64 y0) := by rw [hy0]; exact HO.out.cells.2 0 (by omega)
                have c1 : w2.cell? ⟨gv, 1, none⟩ = some (.int .i64 y1) := by rw [hy1]; exact HO.out.cells.2 1 (by omega)
                have c1' : (w2.setCell ⟨w.heap.size + 1, 0, none⟩ (.int .i64 y0)).cell? ⟨gv, 1, none⟩ = some (.int .i64 y1) := by
                  rw [World.cell?_setCell_other _ _ _ _ (by simp)]; exact c1
                have mc0 := HBX2.out.var.cell (j := 0) rfl
                have mf0 := HBX2.out.var.frozen 0
                have hv1 := HBX2.out.var.set 0 (.int .i64 y0)
                have mc1 := hv1.cell (j := 1) rfl
                have mf1 := hv1.frozen 1
                have hm2 : (((m : Nat) : Int) != 2) = false := by simp; omega
                have hmp : 0 < m := by omega
                have hmp1 : 1 < m := by omega
                clear hk0 HLE hy0 hy1 c1 hv1 hnn h2
                go_wp2_with fail
                go_roundw
                case rel => exact ⟨k + 1, _, by omega, by go_num, HRB, HFN, HNX, HLN2⟩
                case measure => simp [intOf]; omega
              · have e2 : (((m : Nat) : Int) != 2) = true := by simp; omega
                have HPN : Hid (readLineOf k l a = none) := by rw [Hid, readLine_some HLN.out, HK.out]; exact putLine_0no a (by omega)
                clear hk0 HLE
                have HRW : Hid (R = (noIa, (k : Int) + 1)) := HWR.out (HPN.out)
                have RG2 : Hid ((w2.setCells w.heap.size 0 [.int .i64 0, .int .i64 0, .slice none 0 0, .slice none 0 0, .slice none 0 0, .slice none 0 0]).rangeAt w.heap.size 0 [.int .i64 0, .int .i64 0, .slice none 0 0, .slice none 0 0, .slice none 0 0, .slice none 0 0]) := World.rangeAt_setCells_same w2 w.heap.size 0 _ TH2.out
                have HGS := Lib.hid (grown_setCells w.heap.size [.int .i64 0, .int .i64 0, .slice none 0 0, .slice none 0 0, .slice none 0 0, .slice none 0 0] 0 w2)
                go_wp2_with (refine wpList_store_mid rfl _ _ _ rfl w.heap.size 0 #[.int .i64 0, .int .i64 0, .slice none 0 0, .slice none 0 0, .slice none 0 0, .slice none 0 0] rfl rfl TH2.out (by kernel_rfl) (ia_one _ _ _ _ _ _ _ _ _ _ _ _ _ _) ?_)
                refine bodyPost_ret (v := .tuple #[.agg #[.int .i64 0, .int .i64 0, .slice none 0 0, .slice none 0 0, .slice none 0 0, .slice none 0 0], .int .i64 ((k : Int) + 1)]) ?_ rfl ⟨.agg #[.int .i64 0, .int .i64 0, .slice none 0 0, .slice none 0 0, .slice none 0 0, .slice none 0 0], by rw [HRW.out], by rw [HRW.out]; exact iaRow_none _, (BW2.out).grown HGS.out (BW2.out).size (fun q hq => by cases hq; exact Nat.le_refl _)⟩
                have HC0 := RG2.out 0 _ rfl
                have HC1 := RG2.out 1 _ rfl
                have HC2 := RG2.out 2 _ rfl
                have HC3 := RG2.out 3 _ rfl
                have HC4 := RG2.out 4 _ rfl
                have HC5 := RG2.out 5 _ rfl
                simp only [Nat.zero_add] at HC0 HC1 HC2 HC3 HC4 HC5
                simp [results, Tryz.results12, go_sem, HC0, HC1, HC2, HC3, HC4, HC5]
            · have e0 : (((k : Nat) : Int) == 0) = false := by simp; omega
              have e1 : (((k : Nat) : Int) == 1) = true := by simp; omega
              have HPN : Hid (readLineOf k l a = some ⟨a.states, a.init, xs, a.outs, a.hids, a.steps⟩) := by rw [Hid, readLine_some HLN.out, hk0]; exact putLine_1 xs a
              have HNX := Lib.hid (HGO.out _ HPN.out)
              have HRB := Lib.hid (HBA.out.ins HB2.out HO.out)
              have HFN := Lib.hid (HF2.out.set 2 (.slice bv m dv))
              have HLN2 : Hid (IaLess 8001 ⟨a.states, a.init, xs, a.outs, a.hids, a.steps⟩ ∧ a.steps.length ≤ k + 1) := ⟨⟨by simp only; omega, HLE.1.2.1, HLE.1.2.2.1, HLE.1.2.2.2⟩, by have := HLE.2; omega⟩
              have mc := HBX2.out.var.cell (j := 2) rfl
              have mf := HBX2.out.var.frozen 2
              clear hk0 HLE
              go_wp2_with fail
              go_roundw
              case rel => exact ⟨k + 1, _, by omega, by go_num, HRB, HFN, HNX, HLN2⟩
              case measure => simp [intOf]; omega
            · have e0 : (((k : Nat) : Int) == 0) = false := by simp; omega
              have e1 : (((k : Nat) : Int) == 1) = false := by simp; omega
              have e2 : (((k : Nat) : Int) == 2) = true := by simp; omega
              have HPN : Hid (readLineOf k l a = some ⟨a.states, a.init, a.ins, xs, a.hids, a.steps⟩) := by rw [Hid, readLine_some HLN.out, hk0]; exact putLine_2 xs a
              have HNX := Lib.hid (HGO.out _ HPN.out)
              have HRB := Lib.hid (HBA.out.outs HB2.out HO.out)
              have HFN := Lib.hid (HF2.out.set 3 (.slice bv m dv))
              have HLN2 : Hid (IaLess 8001 ⟨a.states, a.init, a.ins, xs, a.hids, a.steps⟩ ∧ a.steps.length ≤ k + 1) := ⟨⟨HLE.1.1, by simp only; omega, HLE.1.2.2.1, HLE.1.2.2.2⟩, by have := HLE.2; omega⟩
              have mc := HBX2.out.var.cell (j := 3) rfl
              have mf := HBX2.out.var.frozen 3
              clear hk0 HLE
              go_wp2_with fail
              go_roundw
              case rel => exact ⟨k + 1, _, by omega, by go_num, HRB, HFN, HNX, HLN2⟩
              case measure => simp [intOf]; omega
            · have e0 : (((k : Nat) : Int) == 0) = false := by simp; omega
              have e1 : (((k : Nat) : Int) == 1) = false := by simp; omega
              have e2 : (((k : Nat) : Int) == 2) = false := by simp; omega
              have e3 : (((k : Nat) : Int) == 3) = true := by simp; omega
              have HPN : Hid (readLineOf k l a = some ⟨a.states, a.init, a.ins, a.outs, xs, a.steps⟩) := by rw [Hid, readLine_some HLN.out, hk0]; exact putLine_3 xs a
              have HNX := Lib.hid (HGO.out _ HPN.out)
              have HRB := Lib.hid (HBA.out.hids HB2.out HO.out)
              have HFN := Lib.hid (HF2.out.set 4 (.slice bv m dv))
              have HLN2 : Hid (IaLess 8001 ⟨a.states, a.init, a.ins, a.outs, xs, a.steps⟩ ∧ a.steps.length ≤ k + 1) := ⟨⟨HLE.1.1, HLE.1.2.1, by simp only; omega, HLE.1.2.2.2⟩, by have := HLE.2; omega⟩
              have mc := HBX2.out.var.cell (j := 4) rfl
              have mf := HBX2.out.var.frozen 4
              clear hk0 HLE
              go_wp2_with fail
              go_roundw
              case rel => exact ⟨k + 1, _, by omega, by go_num, HRB, HFN, HNX, HLN2⟩
              case measure => simp [intOf]; omega
        · have hW4 : Wd = ⟨#[115, 116, 101, 112]⟩ := by
            rw [hWd]
            unfold wordOf
            rw [if_neg (by omega), if_neg (by omega), if_neg (by omega), if_neg (by omega)]
            rfl
          rw [hW4] at CL
          have HBA := HBX
          have HFA := HF
          have VBA := VBr
          have BWA := BWr
          clear hW4 hWd Wd
          go_wp2_with fail
          refine (CL.out _).mono ?_
          rintro e w2 ⟨v, m, xs, ok, rfl, hO, hb2, hres⟩
          obtain ⟨bv, dv, rfl⟩ := hO.form
          have hml : xs.length = m := hO.length
          have HO := Lib.hid hO
          have HB2 := Lib.hid hb2
          have HF2 := Lib.hid (HFA.out.below hb2)
          have TH2 : Hid (w2.there w.heap.size 0 6) := (VBA.out.below hb2).there rfl
          have BW2 : Hid (Below w.heap.size w w2) := BWA.out.trans (hb2.mono BWA.out.size)
          have HBX2 := Lib.hid (HBA.out.below hb2)
          have hmK : m ≤ 8001 ∨ ok = false := by
            rcases hres with ⟨_, h⟩ | ⟨h, _⟩
            · left; have := lineAt_len h; have := HSL.out; omega
            · right; exact h
          clear hO hb2 kc CL TH BWr VBr HB HF HBX
          have e0 : (((k : Nat) : Int) == 0) = false := by simp; omega
          cases ok with
          | false =>
            have HLN : Hid (lineAt (wordOf k) l = none) := by
              rcases hres with ⟨h, _⟩ | ⟨_, h⟩
              · cases h
              · exact h
            clear hres hmK
            have HRW : Hid (R = (noIa, (k : Int) + 1)) := HWR.out (readLine_none HLN.out)
            have RG2 : Hid ((w2.setCells w.heap.size 0 [.int .i64 0, .int .i64 0, .slice none 0 0, .slice none 0 0, .slice none 0 0, .slice none 0 0]).rangeAt w.heap.size 0 [.int .i64 0, .int .i64 0, .slice none 0 0, .slice none 0 0, .slice none 0 0, .slice none 0 0]) := World.rangeAt_setCells_same w2 w.heap.size 0 _ TH2.out
            have HGS := Lib.hid (grown_setCells w.heap.size [.int .i64 0, .int .i64 0, .slice none 0 0, .slice none 0 0, .slice none 0 0, .slice none 0 0] 0 w2)
            go_wp2_with (refine wpList_store_mid rfl _ _ _ rfl w.heap.size 0 #[.int .i64 0, .int .i64 0, .slice none 0 0, .slice none 0 0, .slice none 0 0, .slice none 0 0] rfl rfl TH2.out (by kernel_rfl) (ia_one _ _ _ _ _ _ _ _ _ _ _ _ _ _) ?_)
            refine bodyPost_ret (v := .tuple #[.agg #[.int .i64 0, .int .i64 0, .slice none 0 0, .slice none 0 0, .slice none 0 0, .slice none 0 0], .int .i64 ((k : Int) + 1)]) ?_ rfl ⟨.agg #[.int .i64 0, .int .i64 0, .slice none 0 0, .slice none 0 0, .slice none 0 0, .slice none 0 0], by rw [HRW.out], by rw [HRW.out]; exact iaRow_none _, (BW2.out).grown HGS.out (BW2.out).size (fun q hq => by cases hq; exact Nat.le_refl _)⟩
            have HC0 := RG2.out 0 _ rfl
            have HC1 := RG2.out 1 _ rfl
            have HC2 := RG2.out 2 _ rfl
            have HC3 := RG2.out 3 _ rfl
            have HC4 := RG2.out 4 _ rfl
            have HC5 := RG2.out 5 _ rfl
            simp only [Nat.zero_add] at HC0 HC1 HC2 HC3 HC4 HC5
            simp [results, Tryz.results12, go_sem, HC0, HC1, HC2, HC3, HC4, HC5]
          | true =>
            have HLN : Hid (lineAt (wordOf k) l = some xs) := by
              rcases hres with ⟨_, h⟩ | ⟨h, _⟩
              · exact h
              · cases h
            clear hres hmK
            by_cases h2 : m = 3
            · have hnn : ¬ (Value.slice bv m dv) = .slice none 0 0 := fun e => by simp at e; omega
              obtain ⟨gv, cv, hsl⟩ := HO.out.head hnn
              simp only [Value.slice.injEq, true_and] at hsl
              obtain ⟨rfl, rfl⟩ := hsl
              obtain ⟨y0, hy0⟩ : ∃ y, y = xs.getD 0 0 := ⟨_, rfl⟩
              obtain ⟨y1, hy1⟩ : ∃ y, y = xs.getD 1 0 := ⟨_, rfl⟩
              obtain ⟨y2, hy2⟩ : ∃ y, y = xs.getD 2 0 := ⟨_, rfl⟩
              have HPN : Hid (readLineOf k l a = some ⟨a.states, a.init, a.ins, a.outs, a.hids, a.steps ++ [(y0, y1, y2)]⟩) := by rw [Hid, readLine_some HLN.out, hy0, hy1, hy2]; exact putLine_4 a h4 (by omega)
              have HNX := Lib.hid (HGO.out _ HPN.out)
              have HLE := HLS.out
              have HLN2 : Hid (IaLess 8001 ⟨a.states, a.init, a.ins, a.outs, a.hids, a.steps ++ [(y0, y1, y2)]⟩ ∧ (a.steps ++ [(y0, y1, y2)]).length ≤ k + 1) := by
                have h1 := HLE.2
                exact ⟨⟨HLE.1.1, HLE.1.2.1, HLE.1.2.2.1, by simp; omega⟩, by simp; omega⟩
              have hsl : a.steps.length ≤ 8001 := HLE.1.2.2.2
              have c0 : w2.cell? ⟨gv, 0, none⟩ = some (.int .i64 y0) := by rw [hy0]; exact HO.out.cells.2 0 (by omega)
              have c1 : w2.cell? ⟨gv, 1, none⟩ = some (.int .i64 y1) := by rw [hy1]; exact HO.out.cells.2 1 (by omega)
              have c2 : w2.cell? ⟨gv, 2, none⟩ = some (.int .i64 y2) := by rw [hy2]; exact HO.out.cells.2 2 (by omega)
              have mc := HBX2.out.var.cell (j := 5) rfl
              have mf := HBX2.out.var.frozen 5
              obtain ⟨i1, hi1, hy10, hy11, hy12⟩ := info_parts (show (Tryz.prog.info? 47).map (fun i => (i.zero, i.size, i.bytes)) = some (some (.agg #[.int .i64 0, .int .i64 0, .int .i64 0]), 3, 24) by kernel_rfl)
              have hm2 : (((m : Nat) : Int) != 3) = false := by simp; omega
              have hmp : 0 < m := by omega
              have hmp1 : 1 < m := by omega
              have hmp2 : 2 < m := by omega
              have hmi1 : ¬ ((m : Nat) : Int) ≤ 1 := by omega
              have hmi2 : ¬ ((m : Nat) : Int) ≤ 2 := by omega
              have e1 : (((k : Nat) : Int) == 1) = false := by simp; omega
              have e2 : (((k : Nat) : Int) == 2) = false := by simp; omega
              have e3 : (((k : Nat) : Int) == 3) = false := by simp; omega
              have hgt : (3 : Int) < ((k : Nat) : Int) := by omega
              have S0 : w2.drew.cell? ⟨gv, 0, none⟩ = some (.int .i64 y0) ∧ w2.drew.cell? ⟨gv, 1, none⟩ = some (.int .i64 y1) ∧ w2.drew.cell? ⟨gv, 2, none⟩ = some (.int .i64 y2) := ⟨c0, c1, c2⟩
              have hbN : Below w2.heap.size w2 (w2.drew.alloc (.cells #[.int .i64 y0, .int .i64 y1, .int .i64 y2] 47)) := ((Below.refl _ w2).drew).alloc (Nat.le_refl _) _
              have HBN := Lib.hid (HBX2.out.below hbN)
              have HON := Lib.hid (HO.out.below hbN)
              have SN1 : (w2.drew.alloc (.cells #[.int .i64 y0, .int .i64 y1, .int .i64 y2] 47)).cell? ⟨gv, 0, none⟩ = some (.int .i64 y0) ∧ (w2.drew.alloc (.cells #[.int .i64 y0, .int .i64 y1, .int .i64 y2] 47)).cell? ⟨gv, 1, none⟩ = some (.int .i64 y1) ∧ (w2.drew.alloc (.cells #[.int .i64 y0, .int .i64 y1, .int .i64 y2] 47)).cell? ⟨gv, 2, none⟩ = some (.int .i64 y2) := ⟨(hbN.cell (p := ⟨gv, 0, none⟩) (HO.out.lt gv rfl).2).trans c0, (hbN.cell (p := ⟨gv, 1, none⟩) (HO.out.lt gv rfl).2).trans c1, (hbN.cell (p := ⟨gv, 2, none⟩) (HO.out.lt gv rfl).2).trans c2⟩
              have SN : Hid (∀ j u, (flat [(y0, y1, y2)])[j]? = some u → (w2.drew.alloc (.cells #[.int .i64 y0, .int .i64 y1, .int .i64 y2] 47)).cell? ((⟨w2.heap.size, 0, none⟩ : Addr).add j) = some u) := fun j u hu => by
                rw [add_lit, Nat.zero_add, cell_of_row _ w2.heap.size j _ 47 (0, 0) (heap_alloc_new w2.drew _)]
                simpa [flat, stCells] using hu
              have hbsz : Hid (w1.heap.size ≤ (w2.drew.alloc (.cells #[.int .i64 y0, .int .i64 y1, .int .i64 y2] 47)).heap.size) := HBN.out.size
              have HBL := Lib.hid hbN
              clear HLE hy0 hy1 hy2 hnn h2 hbN
              go_wp2_with fail
              clear mc mf c0 c1 c2
              refine wp_region_held_drew (S := fun w' => w'.cell? ⟨gv, 0, none⟩ = some (.int .i64 y0) ∧ w'.cell? ⟨gv, 1, none⟩ = some (.int .i64 y1) ∧ w'.cell? ⟨gv, 2, none⟩ = some (.int .i64 y2)) (by kernel_rfl) S0 (fun hHeld => ?_)
              change wpAnyH _ _ _ _ _ 16 (Array.replicate 16 false) _ _
              refine take_op 0 79 (.pointer (some ⟨w.heap.size + 1, 5, none⟩)) (fuel := 15) rfl rfl (by kernel_rfl) (by kernel_rfl) (by kernel_rfl) (fun _ _ _ h => h) (by rfl) (fun w hSw => by go_simp) hHeld ?_
              simp only [Act.put, List.setIfInBounds_toArray, List.set_cons_zero, List.set_cons_succ]
              refine take_op 2 81 (.slice (some ⟨gv, 0, none⟩) m dv) (fuel := 14) rfl rfl (by kernel_rfl) (by kernel_rfl) (by kernel_rfl) (fun _ _ _ h => h) (by rfl) (fun w hSw => by go_simp) hHeld ?_
              simp only [Act.put, List.setIfInBounds_toArray, List.set_cons_zero, List.set_cons_succ]
              refine take_op 3 82 (.pointer (some ⟨gv, 0, none⟩)) (fuel := 13) rfl rfl (by kernel_rfl) (by kernel_rfl) (by kernel_rfl) (fun _ _ _ h => h) (by rfl) (fun w hSw => by go_simp) hHeld ?_
              simp only [Act.put, List.setIfInBounds_toArray, List.set_cons_zero, List.set_cons_succ]
              refine take_op 4 83 (.int .i64 y0) (fuel := 12) rfl rfl (by kernel_rfl) (by kernel_rfl) (by kernel_rfl) (fun _ _ _ h => h) (by rfl) (fun w hSw => by go_simp) hHeld ?_
              simp only [Act.put, List.setIfInBounds_toArray, List.set_cons_zero, List.set_cons_succ]
              refine take_op 5 84 (.slice (some ⟨gv, 0, none⟩) m dv) (fuel := 11) rfl rfl (by kernel_rfl) (by kernel_rfl) (by kernel_rfl) (fun _ _ _ h => h) (by rfl) (fun w hSw => by go_simp) hHeld ?_
              simp only [Act.put, List.setIfInBounds_toArray, List.set_cons_zero, List.set_cons_succ]
              refine take_op 6 85 (.pointer (some ⟨gv, 1, none⟩)) (fuel := 10) rfl rfl (by kernel_rfl) (by kernel_rfl) (by kernel_rfl) (fun _ _ _ h => h) (by rfl) (fun w hSw => by go_simp) hHeld ?_
              simp only [Act.put, List.setIfInBounds_toArray, List.set_cons_zero, List.set_cons_succ]
              refine take_op 7 86 (.int .i64 y1) (fuel := 9) rfl rfl (by kernel_rfl) (by kernel_rfl) (by kernel_rfl) (fun _ _ _ h => h) (by rfl) (fun w hSw => by go_simp) hHeld ?_
              simp only [Act.put, List.setIfInBounds_toArray, List.set_cons_zero, List.set_cons_succ]
              refine take_op 8 87 (.slice (some ⟨gv, 0, none⟩) m dv) (fuel := 8) rfl rfl (by kernel_rfl) (by kernel_rfl) (by kernel_rfl) (fun _ _ _ h => h) (by rfl) (fun w hSw => by go_simp) hHeld ?_
              simp only [Act.put, List.setIfInBounds_toArray, List.set_cons_zero, List.set_cons_succ]
              refine take_op 9 88 (.pointer (some ⟨gv, 2, none⟩)) (fuel := 7) rfl rfl (by kernel_rfl) (by kernel_rfl) (by kernel_rfl) (fun _ _ _ h => h) (by rfl) (fun w hSw => by go_simp) hHeld ?_
              simp only [Act.put, List.setIfInBounds_toArray, List.set_cons_zero, List.set_cons_succ]
              refine take_op 10 89 (.int .i64 y2) (fuel := 6) rfl rfl (by kernel_rfl) (by kernel_rfl) (by kernel_rfl) (fun _ _ _ h => h) (by rfl) (fun w hSw => by go_simp) hHeld ?_
              simp only [Act.put, List.setIfInBounds_toArray, List.set_cons_zero, List.set_cons_succ]
              refine take_op 11 90 (.agg #[.int .i64 y0, .int .i64 y1, .int .i64 y2]) (fuel := 5) rfl rfl (by kernel_rfl) (by kernel_rfl) (by kernel_rfl) (fun _ _ _ h => h) (by rfl) (fun w hSw => by go_simp) hHeld ?_
              simp only [Act.put, List.setIfInBounds_toArray, List.set_cons_zero, List.set_cons_succ]
              have HSX : Hid (∀ w4 : World, (w2.drew.alloc (.cells #[.int .i64 y0, .int .i64 y1, .int .i64 y2] 47)).grownBy w4 (Value.ownBlock (.slice b5 a.steps.length d5)) → w4.cell? ⟨gv, 0, none⟩ = some (.int .i64 y0) ∧ w4.cell? ⟨gv, 1, none⟩ = some (.int .i64 y1) ∧ w4.cell? ⟨gv, 2, none⟩ = some (.int .i64 y2)) := fun w4 hg => by
                have hne : (Value.ownBlock (.slice b5 a.steps.length d5)) ≠ some gv := later_apartS HBA.out.o5 HO.out gv rfl
                exact ⟨hg.cell SN1.1 (fun e => hne e.symm), hg.cell SN1.2.1 (fun e => hne e.symm), hg.cell SN1.2.2 (fun e => hne e.symm)⟩
              refine wpAnyH_ready (rs := [1, 12]) (fuel := 4) (by kernel_rfl) (by simp) ?_
              refine AllReadyH.cons rfl (fun K hK => ?_) ?_
              · have rc : w2.drew.cell? ⟨w.heap.size + 1, 5, none⟩ = some (.slice b5 a.steps.length d5) := HBX2.out.var.cell rfl
                go_simp
                refine hK.out _ _ S0 (fun hHeld => ?_)
                clear hK K rc
                refine wpAnyH_ready (rs := [12]) (fuel := 3) (by kernel_rfl) (by simp) ?_
                refine AllReadyH.cons rfl (fun K hK => ?_) AllReadyH.nil
                go_simp
                refine hK.out _ _ SN1 (fun hHeld => ?_)
                clear hK K
                refine wpAnyH_ready (rs := [13]) (fuel := 2) (by kernel_rfl) (by simp) ?_
                refine AllReadyH.cons rfl (fun K hK => ?_) AllReadyH.nil
                refine step_append_lies _ rfl (.tmp 80) (.tmp 91) 25 rfl w1.heap.size 47 i1 (.agg #[.int .i64 0, .int .i64 0, .int .i64 0]) 3 24 Tryz.underlying25 hi1 hy10 hy11 hy12 rfl (by decide) _ a.steps.length (flat a.steps) rfl HBN.out.o5 ⟨w2.heap.size, 0, none⟩ 1 1 (flat [(y0, y1, y2)]) rfl rfl SN.out (flat_one _) (by decide) (by unfold maxLen; omega) (by omega) hbsz.out _ rfl ?_
                intro g5 cap5 w4 hown' hgrow hlies hlt'
                have HOS : Hid (OwnsS 47 w4 w1.heap.size (.slice (some ⟨g5, 0, none⟩) (a.steps.length + 1) cap5) (a.steps ++ [(y0, y1, y2)]).length (a.steps ++ [(y0, y1, y2)])) := by
                  unfold Hid OwnsS
                  rw [flat_append, List.length_append]
                  exact hown'
                have HRB := Lib.hid (HBN.out.steps hgrow HOS.out (by
                  rcases hlies with h | h
                  · exact Or.inl h.symm
                  · exact Or.inr (fun b hb => by
                      have hb' : some g5 = some b := hb
                      cases hb'
                      exact Nat.le_of_eq h.symm)))
                have HFN : Hid (Far w1 (w4.setCell ⟨w.heap.size + 1, 5, none⟩ (.slice (some ⟨g5, 0, none⟩) (a.steps.length + 1) cap5)) (w.heap.size + 1)) := (((HF2.out.below HBL.out).grown hgrow (fun q hq => Or.inr (HBN.out.o5.lt q hq).1))).set 5 _
                have HV4 : VarIs w4 (w.heap.size + 1) #[.int .i64 a.states, .int .i64 a.init, .slice b2 a.ins.length d2, .slice b3 a.outs.length d3, .slice b4 a.hids.length d4, .slice b5 a.steps.length d5] 27 := HBN.out.var.grown hgrow (fun e => by
                  have h1 := (HBN.out.o5.lt _ e.symm).1
                  have h2 := HAL.out
                  omega)
                have mc4 := HV4.cell (j := 5) rfl
                have mf4 := HV4.frozen 5
                have SW4 := HSX.out w4 hgrow
                have HSE : Hid ((w4.setCell ⟨w.heap.size + 1, 5, none⟩ (.slice (some ⟨g5, 0, none⟩) (a.steps.length + 1) cap5)).cell? ⟨gv, 0, none⟩ = some (.int .i64 y0) ∧ (w4.setCell ⟨w.heap.size + 1, 5, none⟩ (.slice (some ⟨g5, 0, none⟩) (a.steps.length + 1) cap5)).cell? ⟨gv, 1, none⟩ = some (.int .i64 y1) ∧ (w4.setCell ⟨w.heap.size + 1, 5, none⟩ (.slice (some ⟨g5, 0, none⟩) (a.steps.length + 1) cap5)).cell? ⟨gv, 2, none⟩ = some (.int .i64 y2)) := by
                  have hne : ∀ j, (⟨w.heap.size + 1, 5, none⟩ : Addr) ≠ ⟨gv, j, none⟩ := fun j e => by
                    have h1 := (HO.out.lt gv rfl).1
                    have h2 := HBA.out.size
                    have h3 := HAL.out
                    have h4 := congrArg Addr.block e
                    simp only at h4
                    omega
                  exact ⟨(World.cell?_setCell_other _ _ _ _ (hne 0)).trans SW4.1, (World.cell?_setCell_other _ _ _ _ (hne 1)).trans SW4.2.1, (World.cell?_setCell_other _ _ _ _ (hne 2)).trans SW4.2.2⟩
                clear hown' hgrow hlies hlt' HV4
                refine hK.out _ _ SW4 (fun hHeld => ?_)
                clear hK K
                simp only [Act.put, List.setIfInBounds_toArray]
                refine take_op 14 93 (.pointer (some ⟨w.heap.size + 1, 5, none⟩)) (fuel := 1) rfl rfl (by kernel_rfl) (by kernel_rfl) (by kernel_rfl) (fun _ _ _ h => h) (by rfl) (fun w hSw => by go_simp) hHeld ?_
                simp only [Act.put]
                refine wpAnyH_ready (rs := [15]) (fuel := 0) (by kernel_rfl) (by simp) ?_
                refine AllReadyH.cons rfl (fun K hK => ?_) AllReadyH.nil
                go_simp
                refine hK.out _ _ HSE.out (fun hHeld => ?_)
                clear hK K
                refine wpAnyH_done (by kernel_rfl) ?_ _
                clear hHeld mc4 mf4 SW4 HSE HOS HSX SN S0 SN1
                go_wp2_with fail
                go_roundw
                case rel => exact ⟨k + 1, _, by omega, by go_num, HRB, HFN, HNX, HLN2⟩
                case measure => simp [intOf]; omega
              · refine AllReadyH.cons rfl (fun K hK => ?_) AllReadyH.nil
                go_simp
                refine hK.out _ _ SN1 (fun hHeld => ?_)
                clear hK K
                have rc : ((w2.alloc (.cells #[.int .i64 y0, .int .i64 y1, .int .i64 y2] 47)).drew).cell? ⟨w.heap.size + 1, 5, none⟩ = some (.slice b5 a.steps.length d5) := HBN.out.var.cell rfl
                refine wpAnyH_ready (rs := [1]) (fuel := 3) (by kernel_rfl) (by simp) ?_
                refine AllReadyH.cons rfl (fun K hK => ?_) AllReadyH.nil
                go_simp
                refine hK.out _ _ SN1 (fun hHeld => ?_)
                clear hK K
                clear rc
                refine wpAnyH_ready (rs := [13]) (fuel := 2) (by kernel_rfl) (by simp) ?_
                refine AllReadyH.cons rfl (fun K hK => ?_) AllReadyH.nil
                refine step_append_lies _ rfl (.tmp 80) (.tmp 91) 25 rfl w1.heap.size 47 i1 (.agg #[.int .i64 0, .int .i64 0, .int .i64 0]) 3 24 Tryz.underlying25 hi1 hy10 hy11 hy12 rfl (by decide) _ a.steps.length (flat a.steps) rfl HBN.out.o5 ⟨w2.heap.size, 0, none⟩ 1 1 (flat [(y0, y1, y2)]) rfl rfl SN.out (flat_one _) (by decide) (by unfold maxLen; omega) (by omega) hbsz.out _ rfl ?_
                intro g5 cap5 w4 hown' hgrow hlies hlt'
                have HOS : Hid (OwnsS 47 w4 w1.heap.size (.slice (some ⟨g5, 0, none⟩) (a.steps.length + 1) cap5) (a.steps ++ [(y0, y1, y2)]).length (a.steps ++ [(y0, y1, y2)])) := by
                  unfold Hid OwnsS
                  rw [flat_append, List.length_append]
                  exact hown'
                have HRB := Lib.hid (HBN.out.steps hgrow HOS.out (by
                  rcases hlies with h | h
                  · exact Or.inl h.symm
                  · exact Or.inr (fun b hb => by
                      have hb' : some g5 = some b := hb
                      cases hb'
                      exact Nat.le_of_eq h.symm)))
                have HFN : Hid (Far w1 (w4.setCell ⟨w.heap.size + 1, 5, none⟩ (.slice (some ⟨g5, 0, none⟩) (a.steps.length + 1) cap5)) (w.heap.size + 1)) := (((HF2.out.below HBL.out).grown hgrow (fun q hq => Or.inr (HBN.out.o5.lt q hq).1))).set 5 _
                have HV4 : VarIs w4 (w.heap.size + 1) #[.int .i64 a.states, .int .i64 a.init, .slice b2 a.ins.length d2, .slice b3 a.outs.length d3, .slice b4 a.hids.length d4, .slice b5 a.steps.length d5] 27 := HBN.out.var.grown hgrow (fun e => by
                  have h1 := (HBN.out.o5.lt _ e.symm).1
                  have h2 := HAL.out
                  omega)
                have mc4 := HV4.cell (j := 5) rfl
                have mf4 := HV4.frozen 5
                have SW4 := HSX.out w4 hgrow
                have HSE : Hid ((w4.setCell ⟨w.heap.size + 1, 5, none⟩ (.slice (some ⟨g5, 0, none⟩) (a.steps.length + 1) cap5)).cell? ⟨gv, 0, none⟩ = some (.int .i64 y0) ∧ (w4.setCell ⟨w.heap.size + 1, 5, none⟩ (.slice (some ⟨g5, 0, none⟩) (a.steps.length + 1) cap5)).cell? ⟨gv, 1, none⟩ = some (.int .i64 y1) ∧ (w4.setCell ⟨w.heap.size + 1, 5, none⟩ (.slice (some ⟨g5, 0, none⟩) (a.steps.length + 1) cap5)).cell? ⟨gv, 2, none⟩ = some (.int .i64 y2)) := by
                  have hne : ∀ j, (⟨w.heap.size + 1, 5, none⟩ : Addr) ≠ ⟨gv, j, none⟩ := fun j e => by
                    have h1 := (HO.out.lt gv rfl).1
                    have h2 := HBA.out.size
                    have h3 := HAL.out
                    have h4 := congrArg Addr.block e
                    simp only at h4
                    omega
                  exact ⟨(World.cell?_setCell_other _ _ _ _ (hne 0)).trans SW4.1, (World.cell?_setCell_other _ _ _ _ (hne 1)).trans SW4.2.1, (World.cell?_setCell_other _ _ _ _ (hne 2)).trans SW4.2.2⟩
                clear hown' hgrow hlies hlt' HV4
                refine hK.out _ _ SW4 (fun hHeld => ?_)
                clear hK K
                simp only [Act.put, List.setIfInBounds_toArray]
                refine take_op 14 93 (.pointer (some ⟨w.heap.size + 1, 5, none⟩)) (fuel := 1) rfl rfl (by kernel_rfl) (by kernel_rfl) (by kernel_rfl) (fun _ _ _ h => h) (by rfl) (fun w hSw => by go_simp) hHeld ?_
                simp only [Act.put]
                refine wpAnyH_ready (rs := [15]) (fuel := 0) (by kernel_rfl) (by simp) ?_
                refine AllReadyH.cons rfl (fun K hK => ?_) AllReadyH.nil
                go_simp
                refine hK.out _ _ HSE.out (fun hHeld => ?_)
                clear hK K
                refine wpAnyH_done (by kernel_rfl) ?_ _
                clear hHeld mc4 mf4 SW4 HSE HOS HSX SN S0 SN1
                go_wp2_with fail
                go_roundw
                case rel => exact ⟨k + 1, _, by omega, by go_num, HRB, HFN, HNX, HLN2⟩
                case measure => simp [intOf]; omega
            · have e2 : (((m : Nat) : Int) != 3) = true := by simp; omega
              have HPN : Hid (readLineOf k l a = none) := by rw [Hid, readLine_some HLN.out]; exact putLine_4no a h4 (by omega)
              have hgt : (3 : Int) < ((k : Nat) : Int) := by omega
              have HRW : Hid (R = (noIa, (k : Int) + 1)) := HWR.out HPN.out
              have RG2 : Hid ((w2.setCells w.heap.size 0 [.int .i64 0, .int .i64 0, .slice none 0 0, .slice none 0 0, .slice none 0 0, .slice none 0 0]).rangeAt w.heap.size 0 [.int .i64 0, .int .i64 0, .slice none 0 0, .slice none 0 0, .slice none 0 0, .slice none 0 0]) := World.rangeAt_setCells_same w2 w.heap.size 0 _ TH2.out
              have HGS := Lib.hid (grown_setCells w.heap.size [.int .i64 0, .int .i64 0, .slice none 0 0, .slice none 0 0, .slice none 0 0, .slice none 0 0] 0 w2)
              go_wp2_with (refine wpList_store_mid rfl _ _ _ rfl w.heap.size 0 #[.int .i64 0, .int .i64 0, .slice none 0 0, .slice none 0 0, .slice none 0 0, .slice none 0 0] rfl rfl TH2.out (by kernel_rfl) (ia_one _ _ _ _ _ _ _ _ _ _ _ _ _ _) ?_)
              refine bodyPost_ret (v := .tuple #[.agg #[.int .i64 0, .int .i64 0, .slice none 0 0, .slice none 0 0, .slice none 0 0, .slice none 0 0], .int .i64 ((k : Int) + 1)]) ?_ rfl ⟨.agg #[.int .i64 0, .int .i64 0, .slice none 0 0, .slice none 0 0, .slice none 0 0, .slice none 0 0], by rw [HRW.out], by rw [HRW.out]; exact iaRow_none _, (BW2.out).grown HGS.out (BW2.out).size (fun q hq => by cases hq; exact Nat.le_refl _)⟩
              have HC0 := RG2.out 0 _ rfl
              have HC1 := RG2.out 1 _ rfl
              have HC2 := RG2.out 2 _ rfl
              have HC3 := RG2.out 3 _ rfl
              have HC4 := RG2.out 4 _ rfl
              have HC5 := RG2.out 5 _ rfl
              simp only [Nat.zero_add] at HC0 HC1 HC2 HC3 HC4 HC5
              simp [results, Tryz.results12, go_sem, HC0, HC1, HC2, HC3, HC4, HC5]

end Go.Proofs.YtfhjhfhfbgddeaaGreatDoor
