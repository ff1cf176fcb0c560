/-
  The contract of the program's readLines. Conditions: a text of at most 8000 bytes; the variables of strconv hold what the program's text lays in them; internal/bytealg.MaxLen holds a number.
-/
import Derived.Test.YtfhjhfhfbgddeaaGreatDoorImplPut
namespace Go.Proofs.YtfhjhfhfbgddeaaGreatDoor
open Go.RowKit

def textOf : Value → Nat
  | .string b => b.size
  | _ => 0

theorem below_drewN (w : World) (n B : Nat) : Below B w (w.drewN n) := ⟨rfl, rfl, rfl, Nat.le_refl _, fun _ _ => rfl⟩

/-- strings.Cut at a byte 10. -/
theorem cut_any (rest : List UInt8) (w : World) (hs : rest.length ≤ 1048576) (hm : Srch w) :
    Calls Tryz.prog 57 #[.string (bs rest), .string (bs [10])] w fun e w' => ((10 ∉ rest ∧ e = .returned (.tuple #[.string (bs rest), .string (bs []), .bool false])) ∨ ∃ p r, rest = p ++ 10 :: r ∧ 10 ∉ p ∧ e = .returned (.tuple #[.string (bs p), .string (bs r), .bool true])) ∧ Below w.heap.size w w' := by
  obtain ⟨m, hm⟩ := hm
  refine (Tryz.strings_Cut (bs rest) (bs [10]) m w (by rw [bs_size]; omega) hm).mono ?_
  rintro e w' ⟨rfl, n, rfl⟩
  refine ⟨?_, below_drewN w n _⟩
  rw [bs_data, bs_data]
  rcases first_cut 10 rest with h | ⟨p, r, rfl, h⟩
  · rw [cut_none h]
    exact Or.inl ⟨h, rfl⟩
  · rw [cut_cut r h]
    exact Or.inr ⟨p, r, rfl, h, rfl⟩

/-- What reading lines answers: an automaton in lists of the call's own, or the first line that is wrong or missing. -/
def LinesRes (w : World) (r : Except Nat IaD) (e : Ending) (w' : World) : Prop :=
  Below w.heap.size w w' ∧ ((∃ k, r = .error k ∧ k ≤ 1048576 ∧ e = .returned (.tuple #[.agg #[.int .i64 0, .int .i64 0, .slice none 0 0, .slice none 0 0, .slice none 0 0, .slice none 0 0], .iface 59 (.agg #[.int .i64 (k : Int)])])) ∨
    ∃ a v, r = .ok a ∧ e = .returned (.tuple #[v, .nilIface]) ∧ IaOwn w' w.heap.size a v ∧ IaLess 8001 a)

theorem IaLess.put {i : Nat} {l : List UInt8} {a a' : IaD} (h : IaLess 8001 a) (hs : a.steps.length ≤ i) (hi : i ≤ 8000) (hl : l.length ≤ 8000) (hr : readLineOf i l a = some a') : IaLess 8001 a' ∧ a'.steps.length ≤ i + 1 := by
  unfold readLineOf at hr
  split at hr
  · cases hr
  · rename_i n hn
    have hnl := lineAt_len hn
    obtain ⟨h1, h2, h3, h4⟩ := h
    unfold putLine at hr
    repeat' split at hr
    all_goals first
      | cases hr; done
      | (obtain rfl := Option.some.inj hr
         refine ⟨⟨?_, ?_, ?_, ?_⟩, ?_⟩ <;> simp <;> omega)

set_option maxRecDepth 20000 in
set_option maxHeartbeats 6400000 in
theorem readLines_any (L : List UInt8) (w : World) (hs : L.length ≤ 8000) (he : Env w) : Calls Tryz.prog 44 #[.string (bs L)] w (LinesRes w (readOf 0 (parts 10 L) noIa)) := by
  obtain ⟨R, hR⟩ : ∃ R, R = readOf 0 (parts 10 L) noIa := ⟨_, rfl⟩
  rw [← hR]
  have HR := Lib.hid hR
  have HE := Lib.hid he
  have VA : Hid (VarIs ((w.alloc (.cells #[.int .i64 0, .int .i64 0, .slice none 0 0, .slice none 0 0, .slice none 0 0, .slice none 0 0] 27)).alloc (.cells #[.int .i64 0, .int .i64 0, .slice none 0 0, .slice none 0 0, .slice none 0 0, .slice none 0 0] 27)) (w.heap.size + 1) #[.int .i64 0, .int .i64 0, .slice none 0 0, .slice none 0 0, .slice none 0 0, .slice none 0 0] 27) := VarIs.new _ _ _ (by simp)
  have VB : Hid (VarIs ((w.alloc (.cells #[.int .i64 0, .int .i64 0, .slice none 0 0, .slice none 0 0, .slice none 0 0, .slice none 0 0] 27)).alloc (.cells #[.int .i64 0, .int .i64 0, .slice none 0 0, .slice none 0 0, .slice none 0 0, .slice none 0 0] 27)) w.heap.size #[.int .i64 0, .int .i64 0, .slice none 0 0, .slice none 0 0, .slice none 0 0, .slice none 0 0] 27) := (VarIs.new w _ _ rfl).alloc _
  have BW : Hid (Below w.heap.size w ((w.alloc (.cells #[.int .i64 0, .int .i64 0, .slice none 0 0, .slice none 0 0, .slice none 0 0, .slice none 0 0] 27)).alloc (.cells #[.int .i64 0, .int .i64 0, .slice none 0 0, .slice none 0 0, .slice none 0 0, .slice none 0 0] 27))) := ((Below.refl _ w).alloc (Nat.le_refl _) _).alloc (by simp) _
  have HS1 : Hid (((w.alloc (.cells #[.int .i64 0, .int .i64 0, .slice none 0 0, .slice none 0 0, .slice none 0 0, .slice none 0 0] 27)).alloc (.cells #[.int .i64 0, .int .i64 0, .slice none 0 0, .slice none 0 0, .slice none 0 0, .slice none 0 0] 27)).heap.size = w.heap.size + 2) := by simp [Hid]
  have RB0 : Hid (RB ((w.alloc (.cells #[.int .i64 0, .int .i64 0, .slice none 0 0, .slice none 0 0, .slice none 0 0, .slice none 0 0] 27)).alloc (.cells #[.int .i64 0, .int .i64 0, .slice none 0 0, .slice none 0 0, .slice none 0 0, .slice none 0 0] 27)) ((w.alloc (.cells #[.int .i64 0, .int .i64 0, .slice none 0 0, .slice none 0 0, .slice none 0 0, .slice none 0 0] 27)).alloc (.cells #[.int .i64 0, .int .i64 0, .slice none 0 0, .slice none 0 0, .slice none 0 0, .slice none 0 0] 27)) (w.heap.size + 1) noIa) := ⟨readBox_new VA.out (by simp) (Nat.le_refl _), Far.refl _ _⟩
  obtain ⟨S0, hS0⟩ : ∃ S, S = bs L := ⟨_, rfl⟩
  rw [← hS0]
  have HS0 := Lib.hid hS0
  have hsz0 : S0.size ≤ 8000 := by rw [hS0, bs_size]; exact hs
  clear hR he hS0 VA
  obtain ⟨w1, hw1⟩ : ∃ w1, w1 = ((w.alloc (.cells #[.int .i64 0, .int .i64 0, .slice none 0 0, .slice none 0 0, .slice none 0 0, .slice none 0 0] 27)).alloc (.cells #[.int .i64 0, .int .i64 0, .slice none 0 0, .slice none 0 0, .slice none 0 0, .slice none 0 0] 27)) := ⟨_, rfl⟩
  rw [← hw1] at RB0 HS1 BW VB
  go_enter Tryz.func44, Tryz.ntmps44
  go_wp2_with fail
  rw [← hw1]
  clear hw1
  go_loopw [0, 5] (fun sv i wr => ∃ (k : Nat) (rest : List UInt8) (a : IaD) (S : ByteArray), sv = .string S ∧ Hid (S = bs rest) ∧ i = .int .i64 k ∧ k + rest.length ≤ 8000 ∧ Hid (RB w1 wr (w.heap.size + 1) a) ∧ Hid (R = readOf k (parts 10 rest) a) ∧ Hid (IaLess 8001 a ∧ a.steps.length ≤ k)) (fun sv _ _ => textOf sv)
  case atStart => exact ⟨0, L, noIa, S0, rfl, HS0, rfl, by omega, RB0, HR, ⟨by simp [noIa], by simp [noIa], by simp [noIa], by simp [noIa]⟩, by simp [noIa]⟩
  case round =>
    clear RB0
    obtain ⟨k, rest, a, S, rfl, HS, rfl, hk, HB, HRO, HLS⟩ := hrel
    have VBr := Lib.hid (HB.out.far.varIs VB.out (by omega))
    have BWr : Hid (Below w.heap.size w wr) := HB.out.far.low BW.out BW.out.size (by omega)
    have HEr := Lib.hid (HE.out.below BWr.out)
    have TH : Hid (wr.there w.heap.size 0 6) := VBr.out.there rfl
    by_cases hr0 : rest = []
    · have hq : (S.toList == []) = true := by rw [HS.out, hr0, bs_toList]; rfl
      have HRE : Hid (R = readOf k [[]] a) := by rw [Hid, HRO.out, hr0]; rfl
      clear hr0
      by_cases h4 : k < 4
      · have HRW : Hid (R = .error (k + 1)) := by rw [Hid, HRE.out]; exact readOf_last (by omega)
        have RG2 : Hid ((wr.setCells w.heap.size 0 [.int .i64 0, .int .i64 0, .slice none 0 0, .slice none 0 0, .slice none 0 0, .slice none 0 0]).rangeAt w.heap.size 0 [.int .i64 0, .int .i64 0, .slice none 0 0, .slice none 0 0, .slice none 0 0, .slice none 0 0]) := World.rangeAt_setCells_same wr w.heap.size 0 _ TH.out
        have HGS := Lib.hid (grown_setCells w.heap.size [.int .i64 0, .int .i64 0, .slice none 0 0, .slice none 0 0, .slice none 0 0, .slice none 0 0] 0 wr)
        go_wp2_with (refine wpList_store_mid rfl _ _ _ rfl w.heap.size 0 #[.int .i64 0, .int .i64 0, .slice none 0 0, .slice none 0 0, .slice none 0 0, .slice none 0 0] rfl rfl TH.out (by kernel_rfl) (ia_one _ _ _ _ _ _ _ _ _ _ _ _ _ _) ?_)
        refine bodyPost_ret (v := .tuple #[.agg #[.int .i64 0, .int .i64 0, .slice none 0 0, .slice none 0 0, .slice none 0 0, .slice none 0 0], .iface 59 (.agg #[.int .i64 ((k : Int) + 1)])]) ?_ rfl ((fun hbw => ⟨hbw, Or.inl ⟨k + 1, HRW.out, by omega, rfl⟩⟩) ((BWr.out).grown HGS.out (BWr.out).size (fun q hq => by cases hq; exact Nat.le_refl _)))
        have HC0 := RG2.out 0 _ rfl
        have HC1 := RG2.out 1 _ rfl
        have HC2 := RG2.out 2 _ rfl
        have HC3 := RG2.out 3 _ rfl
        have HC4 := RG2.out 4 _ rfl
        have HC5 := RG2.out 5 _ rfl
        simp only [Nat.zero_add] at HC0 HC1 HC2 HC3 HC4 HC5
        simp [results, Tryz.results44, go_sem, HC0, HC1, HC2, HC3, HC4, HC5]
      · have HRW : Hid (R = .ok a) := by rw [Hid, HRE.out]; exact readOf_end ⟨rfl, by omega⟩
        obtain ⟨x2, x3, x4, x5, hbox⟩ := HB.out.box.box
        obtain ⟨b2, d2, rfl⟩ := hbox.o2.form
        obtain ⟨b3, d3, rfl⟩ := hbox.o3.form
        obtain ⟨b4, d4, rfl⟩ := hbox.o4.form
        obtain ⟨b5, d5, rfl⟩ := hbox.o5.form
        have m0 := hbox.var.cell (j := 0) rfl
        have m1 := hbox.var.cell (j := 1) rfl
        have m2 := hbox.var.cell (j := 2) rfl
        have m3 := hbox.var.cell (j := 3) rfl
        have m4 := hbox.var.cell (j := 4) rfl
        have m5 := hbox.var.cell (j := 5) rfl
        have HRR : Hid (IaOwn (wr.setCells w.heap.size 0 [.int .i64 a.states, .int .i64 a.init, .slice b2 a.ins.length d2, .slice b3 a.outs.length d3, .slice b4 a.hids.length d4, .slice b5 a.steps.length d5]) w.heap.size a (.agg #[.int .i64 a.states, .int .i64 a.init, .slice b2 a.ins.length d2, .slice b3 a.outs.length d3, .slice b4 a.hids.length d4, .slice b5 a.steps.length d5])) := by
          have hg := grown_setCells w.heap.size [.int .i64 a.states, .int .i64 a.init, .slice b2 a.ins.length d2, .slice b3 a.outs.length d3, .slice b4 a.hids.length d4, .slice b5 a.steps.length d5] 0 wr
          have hlt : w.heap.size < w1.heap.size := by have := HS1.out; omega
          have hne : ∀ k, w1.heap.size ≤ k → some k ≠ some w.heap.size := fun k hk e => by have := Option.some.inj e; omega
          have ho : IaOwn (wr.setCells w.heap.size 0 [.int .i64 a.states, .int .i64 a.init, .slice b2 a.ins.length d2, .slice b3 a.outs.length d3, .slice b4 a.hids.length d4, .slice b5 a.steps.length d5]) w1.heap.size a (.agg #[.int .i64 a.states, .int .i64 a.init, .slice b2 a.ins.length d2, .slice b3 a.outs.length d3, .slice b4 a.hids.length d4, .slice b5 a.steps.length d5]) := Box.own ⟨hbox.lt, Nat.le_trans hbox.size hg.size, hbox.var.grown hg (fun e => by have := Option.some.inj e; omega), hbox.o2.keep hg (fun k hk => hne k (hbox.o2.lt k hk).1), hbox.o3.keep hg (fun k hk => hne k (hbox.o3.lt k hk).1), hbox.o4.keep hg (fun k hk => hne k (hbox.o4.lt k hk).1), hbox.o5.keep hg (fun k hk => hne k (hbox.o5.lt k hk).1), hbox.p2, hbox.p3, hbox.p4⟩
          exact ho.mono (Nat.le_of_lt hlt)
        clear hbox
        have RG2 : Hid ((wr.setCells w.heap.size 0 [.int .i64 a.states, .int .i64 a.init, .slice b2 a.ins.length d2, .slice b3 a.outs.length d3, .slice b4 a.hids.length d4, .slice b5 a.steps.length d5]).rangeAt w.heap.size 0 [.int .i64 a.states, .int .i64 a.init, .slice b2 a.ins.length d2, .slice b3 a.outs.length d3, .slice b4 a.hids.length d4, .slice b5 a.steps.length d5]) := World.rangeAt_setCells_same wr w.heap.size 0 _ TH.out
        have HGS := Lib.hid (grown_setCells w.heap.size [.int .i64 a.states, .int .i64 a.init, .slice b2 a.ins.length d2, .slice b3 a.outs.length d3, .slice b4 a.hids.length d4, .slice b5 a.steps.length d5] 0 wr)
        go_wp2_with (refine wpList_store_mid rfl _ _ _ rfl w.heap.size 0 #[.int .i64 a.states, .int .i64 a.init, .slice b2 a.ins.length d2, .slice b3 a.outs.length d3, .slice b4 a.hids.length d4, .slice b5 a.steps.length d5] rfl rfl TH.out (by kernel_rfl) (ia_one _ _ _ _ _ _ _ _ _ _ _ _ _ _) ?_)
        refine bodyPost_ret (v := .tuple #[.agg #[.int .i64 a.states, .int .i64 a.init, .slice b2 a.ins.length d2, .slice b3 a.outs.length d3, .slice b4 a.hids.length d4, .slice b5 a.steps.length d5], .nilIface]) ?_ rfl ((fun hbw => ⟨hbw, Or.inr ⟨a, _, HRW.out, rfl, HRR.out, HLS.out.1⟩⟩) ((BWr.out).grown HGS.out (BWr.out).size (fun q hq => by cases hq; exact Nat.le_refl _)))
        have HC0 := RG2.out 0 _ rfl
        have HC1 := RG2.out 1 _ rfl
        have HC2 := RG2.out 2 _ rfl
        have HC3 := RG2.out 3 _ rfl
        have HC4 := RG2.out 4 _ rfl
        have HC5 := RG2.out 5 _ rfl
        simp only [Nat.zero_add] at HC0 HC1 HC2 HC3 HC4 HC5
        simp [results, Tryz.results44, go_sem, HC0, HC1, HC2, HC3, HC4, HC5]
    · have hq : (S.toList == []) = false := by rw [HS.out, bs_toList, beq_eq_false_iff_ne]; exact hr0
      have CC : Hid (Calls Tryz.prog 57 #[.string S, .string ⟨#[10]⟩] wr fun e w' => ((10 ∉ rest ∧ e = .returned (.tuple #[.string (bs rest), .string (bs []), .bool false])) ∨ ∃ p r, rest = p ++ 10 :: r ∧ 10 ∉ p ∧ e = .returned (.tuple #[.string (bs p), .string (bs r), .bool true])) ∧ Below wr.heap.size wr w') := by
        rw [HS.out]
        exact cut_any rest wr (by omega) HEr.out.srch
      go_wp2_with fail
      refine CC.out.mono ?_
      rintro e w2 ⟨hcase, hb2⟩
      have HB2 := Lib.hid (HB.out.below hb2)
      have TH2 : Hid (w2.there w.heap.size 0 6) := (VBr.out.below hb2).there rfl
      have BW2 : Hid (Below w.heap.size w w2) := BWr.out.trans (hb2.mono BWr.out.size)
      have HE2 := Lib.hid (HEr.out.below hb2)
      clear hb2 CC hq TH
      rcases hcase with ⟨hno, rfl⟩ | ⟨p, r, hpr, hno, rfl⟩
      · have HRW : Hid (R = .error (k + 1)) := by
          rw [Hid, HRO.out, parts_none hno]
          exact readOf_last (fun h => hr0 h.1)
        clear hno hr0
        have RG2 : Hid ((w2.setCells w.heap.size 0 [.int .i64 0, .int .i64 0, .slice none 0 0, .slice none 0 0, .slice none 0 0, .slice none 0 0]).rangeAt w.heap.size 0 [.int .i64 0, .int .i64 0, .slice none 0 0, .slice none 0 0, .slice none 0 0, .slice none 0 0]) := World.rangeAt_setCells_same w2 w.heap.size 0 _ TH2.out
        have HGS := Lib.hid (grown_setCells w.heap.size [.int .i64 0, .int .i64 0, .slice none 0 0, .slice none 0 0, .slice none 0 0, .slice none 0 0] 0 w2)
        go_wp2_with (refine wpList_store_mid rfl _ _ _ rfl w.heap.size 0 #[.int .i64 0, .int .i64 0, .slice none 0 0, .slice none 0 0, .slice none 0 0, .slice none 0 0] rfl rfl TH2.out (by kernel_rfl) (ia_one _ _ _ _ _ _ _ _ _ _ _ _ _ _) ?_)
        refine bodyPost_ret (v := .tuple #[.agg #[.int .i64 0, .int .i64 0, .slice none 0 0, .slice none 0 0, .slice none 0 0, .slice none 0 0], .iface 59 (.agg #[.int .i64 ((k : Int) + 1)])]) ?_ rfl ((fun hbw => ⟨hbw, Or.inl ⟨k + 1, HRW.out, by omega, rfl⟩⟩) ((BW2.out).grown HGS.out (BW2.out).size (fun q hq => by cases hq; exact Nat.le_refl _)))
        have HC0 := RG2.out 0 _ rfl
        have HC1 := RG2.out 1 _ rfl
        have HC2 := RG2.out 2 _ rfl
        have HC3 := RG2.out 3 _ rfl
        have HC4 := RG2.out 4 _ rfl
        have HC5 := RG2.out 5 _ rfl
        simp only [Nat.zero_add] at HC0 HC1 HC2 HC3 HC4 HC5
        simp [results, Tryz.results44, go_sem, HC0, HC1, HC2, HC3, HC4, HC5]
      · have HRX : Hid (R = readOf k (p :: parts 10 r) a) := by rw [Hid, HRO.out, hpr, parts_cut r hno]
        have hlen : rest.length = p.length + (r.length + 1) := by rw [hpr]; simp
        have CL : Hid (Calls Tryz.prog 58 #[.pointer (some ⟨w.heap.size + 1, 0, none⟩), .int .i64 ((k : Int) + 1), .string (bs p)] w2 (PutRes w1 (w.heap.size + 1) (readLineOf k p a))) := readLine_any k p w1 w2 (w.heap.size + 1) a HB2.out HE2.out (by omega) (by omega) (Nat.le_trans HLS.out.2 (by omega))
        obtain ⟨Pp, hPp⟩ : ∃ P, P = bs p := ⟨_, rfl⟩
        obtain ⟨Rr, hRr⟩ : ∃ P, P = bs r := ⟨_, rfl⟩
        rw [← hPp] at CL ⊢
        rw [← hRr]
        have HPp := Lib.hid hPp
        have HRr := Lib.hid hRr
        have hszr : Rr.size < S.size := by rw [hRr, HS.out, bs_size, bs_size]; omega
        clear hPp hRr hno hr0 hpr
        go_wp2_with fail
        refine CL.out.mono ?_
        rintro e w3 ⟨b, a', rfl, hrb, hc⟩
        have HB3 := Lib.hid hrb
        have VB3 := Lib.hid (hrb.far.varIs VB.out (by omega))
        have BW3 : Hid (Below w.heap.size w w3) := hrb.far.low BW.out BW.out.size (by omega)
        have TH3 : Hid (w3.there w.heap.size 0 6) := VB3.out.there rfl
        clear hrb
        cases b with
        | false =>
          have HRW : Hid (R = .error (k + 1)) := by
            rw [Hid, HRX.out]
            refine readOf_wrong (parts_ne _ _) ?_
            rcases hc with ⟨h, _⟩ | ⟨_, h⟩
            · cases h
            · exact h
          clear hc
          have RG2 : Hid ((w3.setCells w.heap.size 0 [.int .i64 0, .int .i64 0, .slice none 0 0, .slice none 0 0, .slice none 0 0, .slice none 0 0]).rangeAt w.heap.size 0 [.int .i64 0, .int .i64 0, .slice none 0 0, .slice none 0 0, .slice none 0 0, .slice none 0 0]) := World.rangeAt_setCells_same w3 w.heap.size 0 _ TH3.out
          have HGS := Lib.hid (grown_setCells w.heap.size [.int .i64 0, .int .i64 0, .slice none 0 0, .slice none 0 0, .slice none 0 0, .slice none 0 0] 0 w3)
          go_wp2_with (refine wpList_store_mid rfl _ _ _ rfl w.heap.size 0 #[.int .i64 0, .int .i64 0, .slice none 0 0, .slice none 0 0, .slice none 0 0, .slice none 0 0] rfl rfl TH3.out (by kernel_rfl) (ia_one _ _ _ _ _ _ _ _ _ _ _ _ _ _) ?_)
          refine bodyPost_ret (v := .tuple #[.agg #[.int .i64 0, .int .i64 0, .slice none 0 0, .slice none 0 0, .slice none 0 0, .slice none 0 0], .iface 59 (.agg #[.int .i64 ((k : Int) + 1)])]) ?_ rfl ((fun hbw => ⟨hbw, Or.inl ⟨k + 1, HRW.out, by omega, rfl⟩⟩) ((BW3.out).grown HGS.out (BW3.out).size (fun q hq => by cases hq; exact Nat.le_refl _)))
          have HC0 := RG2.out 0 _ rfl
          have HC1 := RG2.out 1 _ rfl
          have HC2 := RG2.out 2 _ rfl
          have HC3 := RG2.out 3 _ rfl
          have HC4 := RG2.out 4 _ rfl
          have HC5 := RG2.out 5 _ rfl
          simp only [Nat.zero_add] at HC0 HC1 HC2 HC3 HC4 HC5
          simp [results, Tryz.results44, go_sem, HC0, HC1, HC2, HC3, HC4, HC5]
        | true =>
          have HRL : Hid (readLineOf k p a = some a') := by
            rcases hc with ⟨_, h⟩ | ⟨h, _⟩
            · exact h
            · cases h
          have HRN : Hid (R = readOf (k + 1) (parts 10 r) a') := by
            rw [Hid, HRX.out]
            exact readOf_next (parts_ne _ _) HRL.out
          have HLN := Lib.hid (HLS.out.1.put HLS.out.2 (by omega) (by omega) HRL.out)
          clear hc
          go_wp2_with fail
          go_roundw
          case rel => exact ⟨k + 1, r, a', Rr, rfl, HRr, by go_num, by omega, HB3, HRN, HLN⟩
          case measure => exact hszr

end Go.Proofs.YtfhjhfhfbgddeaaGreatDoor
