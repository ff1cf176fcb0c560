/-
  Contracts of the program's readIa and IaRead. Conditions: a text of at most 2^20 bytes; the listed variables hold what the program's text lays in them; internal/bytealg.MaxLen holds a number.
-/
import Derived.Test.YtfhjhfhfbgddeaaGreatDoorImplLines
import Derived.Test.YtfhjhfhfbgddeaaGreatDoorSpecRead
import Derived.Test.YtfhjhfhfbgddeaaGreatDoorImplStep
import Derived.Test.YtfhjhfhfbgddeaaGreatDoorErrorsAs2
import Derived.Test.YtfhjhfhfbgddeaaGreatDoorRegion
namespace Go.Proofs.YtfhjhfhfbgddeaaGreatDoor
open Go.RowKit

/-- A variable holds an error that errors.New made. -/
def Sent (g : Nat) (w : World) : Prop := ∃ q : Value, w.cell? ⟨g, 0, none⟩ = some (.iface 194 q)

theorem Sent.below {g : Nat} {w w' : World} (h : Sent g w) (hb : Below w.heap.size w w') : Sent g w' := by
  obtain ⟨q, hq⟩ := h
  have hlt : g < w.heap.size := by
    have := World.block_lt_of_cell? w _ hq
    simpa using this
  exact ⟨q, (hb.cell (p := ⟨g, 0, none⟩) hlt).trans hq⟩

theorem Handle.below {w w' : World} (h : Handle w) (hb : Below w.heap.size w w') : Handle w' := by
  have hlt : 2 < w.heap.size := by
    have := World.block_lt_of_cell? w _ h
    simpa using this
  exact (hb.cell (p := ⟨2, 0, none⟩) hlt).trans h

/-- All that reading takes from outside. -/
structure EnvR (w : World) : Prop where
  env : Env w
  handle : Handle w
  long : Sent 0 w
  wrong : Sent 1 w

theorem EnvR.below {w w' : World} (h : EnvR w) (hb : Below w.heap.size w w') : EnvR w' := ⟨h.env.below hb, h.handle.below hb, h.long.below hb, h.wrong.below hb⟩

/-- What readIa answers. -/
def ReadIaRes (w : World) (r : IaD × Int) (e : Ending) (w' : World) : Prop :=
  Below w.heap.size w w' ∧ ((∃ q, r = (noIa, -1) ∧ e = .returned (.tuple #[.agg #[.int .i64 0, .int .i64 0, .slice none 0 0, .slice none 0 0, .slice none 0 0, .slice none 0 0], .iface 194 q])) ∨
    (∃ k : Nat, r = (noIa, (k : Int)) ∧ k ≤ 1048576 ∧ e = .returned (.tuple #[.agg #[.int .i64 0, .int .i64 0, .slice none 0 0, .slice none 0 0, .slice none 0 0, .slice none 0 0], .iface 59 (.agg #[.int .i64 (k : Int)])])) ∨
    ∃ a v, r = (a, 0) ∧ e = .returned (.tuple #[v, .nilIface]) ∧ IaOwn w' w.heap.size a v ∧ IaLess 8001 a)

set_option maxRecDepth 20000 in
set_option maxHeartbeats 6400000 in
theorem readIa_any (L : List UInt8) (w : World) (hs : L.length ≤ 1048576) (he : EnvR w) : Calls Tryz.prog 26 #[.string (bs L)] w (ReadIaRes w (iaReadOf L)) := by
  obtain ⟨R, hR⟩ : ∃ R, R = iaReadOf L := ⟨_, rfl⟩
  rw [← hR]
  have HR := Lib.hid hR
  have HE := Lib.hid he
  have VB : Hid (VarIs (w.alloc (.cells #[.int .i64 0, .int .i64 0, .slice none 0 0, .slice none 0 0, .slice none 0 0, .slice none 0 0] 27)) w.heap.size #[.int .i64 0, .int .i64 0, .slice none 0 0, .slice none 0 0, .slice none 0 0, .slice none 0 0] 27) := VarIs.new w _ _ rfl
  have BW : Hid (Below w.heap.size w (w.alloc (.cells #[.int .i64 0, .int .i64 0, .slice none 0 0, .slice none 0 0, .slice none 0 0, .slice none 0 0] 27))) := (Below.refl _ w).alloc (Nat.le_refl _) _
  have TH : Hid ((w.alloc (.cells #[.int .i64 0, .int .i64 0, .slice none 0 0, .slice none 0 0, .slice none 0 0, .slice none 0 0] 27)).there w.heap.size 0 6) := VB.out.there rfl
  obtain ⟨S, hS⟩ : ∃ S, S = bs L := ⟨_, rfl⟩
  rw [← hS]
  have hsz : S.size = L.length := by rw [hS, bs_size]
  have HS := Lib.hid hS
  clear hR he hS
  by_cases hlong : 8000 < L.length
  · have HRL : Hid (R = (noIa, -1)) := by rw [Hid, HR.out]; exact iaRead_long hlong
    obtain ⟨q, hq⟩ := (HE.out.below BW.out).long
    go_enter Tryz.func26, Tryz.ntmps26
    have S0 : (w.alloc (.cells #[.int .i64 0, .int .i64 0, .slice none 0 0, .slice none 0 0, .slice none 0 0, .slice none 0 0] 27)).drew.cell? ⟨0, 0, none⟩ = some (.iface 194 q) := hq
    have HGL : Hid (0 < w.heap.size) := by
      obtain ⟨q', hq'⟩ := HE.out.long
      have h1 := World.block_lt_of_cell? w _ hq'
      show _ < _
      simpa using h1
    clear hq
    go_wp2_with fail
    refine wp_region_held_drew (S := fun w' => w'.cell? ⟨0, 0, none⟩ = some (.iface 194 q)) (by kernel_rfl) S0 (fun hHeld => ?_)
    change wpAnyH _ _ _ _ _ 4 (Array.replicate 4 false) _ _
    refine take_op 0 9 (.agg #[.int .i64 0, .int .i64 0, .slice none 0 0, .slice none 0 0, .slice none 0 0, .slice none 0 0]) (fuel := 3) rfl rfl (by kernel_rfl) (by kernel_rfl) (by kernel_rfl) (fun _ _ _ h => h) (by rfl) (fun w hSw => by go_simp) hHeld ?_
    simp only [Act.put, List.setIfInBounds_toArray, List.set_cons_zero, List.set_cons_succ]
    refine take_op 1 10 (.iface 194 q) (fuel := 2) rfl rfl (by kernel_rfl) (by kernel_rfl) (by kernel_rfl) (fun _ _ _ h => h) (by rfl) (fun w hSw => by go_simp) hHeld ?_
    simp only [Act.put, List.setIfInBounds_toArray, List.set_cons_zero, List.set_cons_succ]
    refine wpAnyH_ready (rs := [2]) (fuel := 1) (by kernel_rfl) (by simp) ?_
    refine AllReadyH.cons rfl (fun K hK => ?_) AllReadyH.nil
    rw [if_pos (by rfl)]
    refine wp_store_mid _ _ _ rfl w.heap.size 0 #[.int .i64 0, .int .i64 0, .slice none 0 0, .slice none 0 0, .slice none 0 0, .slice none 0 0] rfl rfl TH.out (by kernel_rfl) (ia_one _ _ _ _ _ _ _ _ _ _ _ _ _ _) ?_
    have HGS := Lib.hid (grown_setCells w.heap.size [.int .i64 0, .int .i64 0, .slice none 0 0, .slice none 0 0, .slice none 0 0, .slice none 0 0] 0 (w.alloc (.cells #[.int .i64 0, .int .i64 0, .slice none 0 0, .slice none 0 0, .slice none 0 0, .slice none 0 0] 27)).drew)
    have S1 : ((w.alloc (.cells #[.int .i64 0, .int .i64 0, .slice none 0 0, .slice none 0 0, .slice none 0 0, .slice none 0 0] 27)).drew.setCells w.heap.size 0 [.int .i64 0, .int .i64 0, .slice none 0 0, .slice none 0 0, .slice none 0 0, .slice none 0 0]).cell? ⟨0, 0, none⟩ = some (.iface 194 q) := HGS.out.cell S0 (fun e => by have h1 := Option.some.inj e; have h2 := HGL.out; simp only at h1; omega)
    have RG2 : Hid (((w.alloc (.cells #[.int .i64 0, .int .i64 0, .slice none 0 0, .slice none 0 0, .slice none 0 0, .slice none 0 0] 27)).drew.setCells w.heap.size 0 [.int .i64 0, .int .i64 0, .slice none 0 0, .slice none 0 0, .slice none 0 0, .slice none 0 0]).rangeAt w.heap.size 0 [.int .i64 0, .int .i64 0, .slice none 0 0, .slice none 0 0, .slice none 0 0, .slice none 0 0]) := World.rangeAt_setCells_same (w.alloc (.cells #[.int .i64 0, .int .i64 0, .slice none 0 0, .slice none 0 0, .slice none 0 0, .slice none 0 0] 27)).drew w.heap.size 0 _ TH.out
    simp only [Act.put]
    refine hK.out _ _ S1 (fun hHeld => ?_)
    clear hK K
    refine wpAnyH_ready (rs := [3]) (fuel := 0) (by kernel_rfl) (by simp) ?_
    refine AllReadyH.cons rfl (fun K hK => ?_) AllReadyH.nil
    go_simp
    refine hK.out _ _ S1 (fun hHeld => ?_)
    clear hK K
    refine wpAnyH_done (by kernel_rfl) ?_ _
    clear hHeld S1 S0
    go_wp2_with fail
    refine bodyPost_ret (v := .tuple #[.agg #[.int .i64 0, .int .i64 0, .slice none 0 0, .slice none 0 0, .slice none 0 0, .slice none 0 0], .iface 194 q]) ?_ rfl ((fun hbw => ⟨hbw, Or.inl ⟨q, HRL.out, rfl⟩⟩) (((BW.out).drew).grown HGS.out (BW.out).size (fun q hq => by cases hq; exact Nat.le_refl _)))
    have HC0 := RG2.out 0 _ rfl
    have HC1 := RG2.out 1 _ rfl
    have HC2 := RG2.out 2 _ rfl
    have HC3 := RG2.out 3 _ rfl
    have HC4 := RG2.out 4 _ rfl
    have HC5 := RG2.out 5 _ rfl
    simp only [Nat.zero_add] at HC0 HC1 HC2 HC3 HC4 HC5
    simp [results, Tryz.results26, go_sem, HC0, HC1, HC2, HC3, HC4, HC5]
  · have HNL : Hid (¬ 8000 < L.length) := hlong
    have CLn : Hid (Calls Tryz.prog 44 #[.string S] (w.alloc (.cells #[.int .i64 0, .int .i64 0, .slice none 0 0, .slice none 0 0, .slice none 0 0, .slice none 0 0] 27)) (LinesRes (w.alloc (.cells #[.int .i64 0, .int .i64 0, .slice none 0 0, .slice none 0 0, .slice none 0 0, .slice none 0 0] 27)) (readOf 0 (parts 10 L) noIa))) := by
      rw [HS.out]
      exact readLines_any L _ (by omega) (HE.out.below BW.out).env
    go_enter Tryz.func26, Tryz.ntmps26
    go_wp2_with fail
    refine CLn.out.mono ?_
    rintro e w2 ⟨hb2, hcase⟩
    have BW2 : Hid (Below w.heap.size w w2) := BW.out.trans (hb2.mono BW.out.size)
    have VB2 := Lib.hid (VB.out.below hb2)
    clear hb2 CLn TH
    rcases hcase with ⟨k, hrk, hk, rfl⟩ | ⟨a, v, hra, rfl, hown, hless⟩
    · have HRW : Hid (R = (noIa, (k : Int))) := by rw [Hid, HR.out]; exact iaRead_wrong HNL.out hrk
      have TH3 : Hid ((w2.alloc (.cells #[.int .i64 0, .int .i64 0, .slice none 0 0, .slice none 0 0, .slice none 0 0, .slice none 0 0] 27)).there w.heap.size 0 6) := (VB2.out.alloc _).there rfl
      have BW3 : Hid (Below w.heap.size w (w2.alloc (.cells #[.int .i64 0, .int .i64 0, .slice none 0 0, .slice none 0 0, .slice none 0 0, .slice none 0 0] 27))) := BW2.out.alloc BW2.out.size _
      clear hrk
      have RG2 : Hid (((w2.alloc (.cells #[.int .i64 0, .int .i64 0, .slice none 0 0, .slice none 0 0, .slice none 0 0, .slice none 0 0] 27)).setCells w.heap.size 0 [.int .i64 0, .int .i64 0, .slice none 0 0, .slice none 0 0, .slice none 0 0, .slice none 0 0]).rangeAt w.heap.size 0 [.int .i64 0, .int .i64 0, .slice none 0 0, .slice none 0 0, .slice none 0 0, .slice none 0 0]) := World.rangeAt_setCells_same (w2.alloc (.cells #[.int .i64 0, .int .i64 0, .slice none 0 0, .slice none 0 0, .slice none 0 0, .slice none 0 0] 27)) w.heap.size 0 _ TH3.out
      have HGS := Lib.hid (grown_setCells w.heap.size [.int .i64 0, .int .i64 0, .slice none 0 0, .slice none 0 0, .slice none 0 0, .slice none 0 0] 0 (w2.alloc (.cells #[.int .i64 0, .int .i64 0, .slice none 0 0, .slice none 0 0, .slice none 0 0, .slice none 0 0] 27)))
      go_wp2_with (refine wpList_store_mid rfl _ _ _ rfl w.heap.size 0 #[.int .i64 0, .int .i64 0, .slice none 0 0, .slice none 0 0, .slice none 0 0, .slice none 0 0] rfl rfl TH3.out (by kernel_rfl) (ia_one _ _ _ _ _ _ _ _ _ _ _ _ _ _) ?_)
      refine bodyPost_ret (v := .tuple #[.agg #[.int .i64 0, .int .i64 0, .slice none 0 0, .slice none 0 0, .slice none 0 0, .slice none 0 0], .iface 59 (.agg #[.int .i64 (k : Int)])]) ?_ rfl ((fun hbw => ⟨hbw, Or.inr (Or.inl ⟨k, HRW.out, hk, rfl⟩)⟩) ((BW3.out).grown HGS.out (BW3.out).size (fun q hq => by cases hq; exact Nat.le_refl _)))
      have HC0 := RG2.out 0 _ rfl
      have HC1 := RG2.out 1 _ rfl
      have HC2 := RG2.out 2 _ rfl
      have HC3 := RG2.out 3 _ rfl
      have HC4 := RG2.out 4 _ rfl
      have HC5 := RG2.out 5 _ rfl
      simp only [Nat.zero_add] at HC0 HC1 HC2 HC3 HC4 HC5
      simp [results, Tryz.results26, go_sem, HC0, HC1, HC2, HC3, HC4, HC5]
    · obtain ⟨x2, x3, x4, x5, rfl, o2, o3, o4, o5, p2, p3, p4⟩ := hown
      obtain ⟨b2, d2, rfl⟩ := o2.form
      obtain ⟨b3, d3, rfl⟩ := o3.form
      obtain ⟨b4, d4, rfl⟩ := o4.form
      obtain ⟨b5, d5, rfl⟩ := o5.form
      have HOW : Hid (IaOwn w2 (w.heap.size + 1) a (.agg #[.int .i64 a.states, .int .i64 a.init, .slice b2 a.ins.length d2, .slice b3 a.outs.length d3, .slice b4 a.hids.length d4, .slice b5 a.steps.length d5])) := by
        have e : (w.alloc (.cells #[.int .i64 0, .int .i64 0, .slice none 0 0, .slice none 0 0, .slice none 0 0, .slice none 0 0] 27)).heap.size = w.heap.size + 1 := by simp
        rw [e] at o2 o3 o4 o5
        exact ⟨_, _, _, _, rfl, o2, o3, o4, o5, p2, p3, p4⟩
      have HRA := Lib.hid hra
      clear o2 o3 o4 o5 p2 p3 p4 hra
      have hba : Below w2.heap.size w2 (w2.alloc (.cells #[.int .i64 a.states, .int .i64 a.init, .slice b2 a.ins.length d2, .slice b3 a.outs.length d3, .slice b4 a.hids.length d4, .slice b5 a.steps.length d5] 27)) := (Below.refl _ _).alloc (Nat.le_refl _) _
      have V3 : Hid (VarIs (w2.alloc (.cells #[.int .i64 a.states, .int .i64 a.init, .slice b2 a.ins.length d2, .slice b3 a.outs.length d3, .slice b4 a.hids.length d4, .slice b5 a.steps.length d5] 27)) w2.heap.size #[.int .i64 a.states, .int .i64 a.init, .slice b2 a.ins.length d2, .slice b3 a.outs.length d3, .slice b4 a.hids.length d4, .slice b5 a.steps.length d5] 27) := VarIs.new w2 _ _ rfl
      have HOW3 := Lib.hid (HOW.out.below hba)
      have VB3 := Lib.hid (VB2.out.below hba)
      have BW3 : Hid (Below w.heap.size w (w2.alloc (.cells #[.int .i64 a.states, .int .i64 a.init, .slice b2 a.ins.length d2, .slice b3 a.outs.length d3, .slice b4 a.hids.length d4, .slice b5 a.steps.length d5] 27))) := BW2.out.trans (hba.mono BW2.out.size)
      clear hba
      go_wp2_with fail
      refine (implIaOk_any a _ _ HOW3.out.row (Nat.le_trans hless.1 (by decide)) (Nat.le_trans hless.2.1 (by decide)) (Nat.le_trans hless.2.2.1 (by decide)) (Nat.le_trans hless.2.2.2 (by decide))).mono ?_
      obtain ⟨ok, hok⟩ : ∃ q, q = iaOkB a := ⟨_, rfl⟩
      rw [← hok]
      rintro e w4 ⟨rfl, hb4⟩
      have HOK := Lib.hid hok
      have V4 := Lib.hid (V3.out.below hb4)
      have VB4 := Lib.hid (VB3.out.below hb4)
      have HOW4 := Lib.hid (HOW3.out.below hb4)
      have BW4 : Hid (Below w.heap.size w w4) := BW3.out.trans (hb4.mono BW3.out.size)
      have TH4 : Hid (w4.there w.heap.size 0 6) := VB4.out.there rfl
      clear hb4 hok V3 VB3 HOW3 BW3
      cases ok with
      | false =>
        have HRL : Hid (R = (noIa, -1)) := by rw [Hid, HR.out]; exact iaRead_not HNL.out HRA.out HOK.out.symm
        obtain ⟨q, hq⟩ := (HE.out.below BW4.out).wrong
        have S0 : w4.drew.cell? ⟨1, 0, none⟩ = some (.iface 194 q) := hq
        have HGL : Hid (1 < w.heap.size) := by
          obtain ⟨q', hq'⟩ := HE.out.wrong
          have h1 := World.block_lt_of_cell? w _ hq'
          show _ < _
          simpa using h1
        clear hq
        go_wp2_with fail
        refine wp_region_held_drew (S := fun w' => w'.cell? ⟨1, 0, none⟩ = some (.iface 194 q)) (by kernel_rfl) S0 (fun hHeld => ?_)
        change wpAnyH _ _ _ _ _ 4 (Array.replicate 4 false) _ _
        refine take_op 0 23 (.agg #[.int .i64 0, .int .i64 0, .slice none 0 0, .slice none 0 0, .slice none 0 0, .slice none 0 0]) (fuel := 3) rfl rfl (by kernel_rfl) (by kernel_rfl) (by kernel_rfl) (fun _ _ _ h => h) (by rfl) (fun w hSw => by go_simp) hHeld ?_
        simp only [Act.put, List.setIfInBounds_toArray, List.set_cons_zero, List.set_cons_succ]
        refine take_op 1 24 (.iface 194 q) (fuel := 2) rfl rfl (by kernel_rfl) (by kernel_rfl) (by kernel_rfl) (fun _ _ _ h => h) (by rfl) (fun w hSw => by go_simp) hHeld ?_
        simp only [Act.put, List.setIfInBounds_toArray, List.set_cons_zero, List.set_cons_succ]
        refine wpAnyH_ready (rs := [2]) (fuel := 1) (by kernel_rfl) (by simp) ?_
        refine AllReadyH.cons rfl (fun K hK => ?_) AllReadyH.nil
        rw [if_pos (by rfl)]
        refine wp_store_mid _ _ _ rfl w.heap.size 0 #[.int .i64 0, .int .i64 0, .slice none 0 0, .slice none 0 0, .slice none 0 0, .slice none 0 0] rfl rfl TH4.out (by kernel_rfl) (ia_one _ _ _ _ _ _ _ _ _ _ _ _ _ _) ?_
        have HGS := Lib.hid (grown_setCells w.heap.size [.int .i64 0, .int .i64 0, .slice none 0 0, .slice none 0 0, .slice none 0 0, .slice none 0 0] 0 w4.drew)
        have S1 : (w4.drew.setCells w.heap.size 0 [.int .i64 0, .int .i64 0, .slice none 0 0, .slice none 0 0, .slice none 0 0, .slice none 0 0]).cell? ⟨1, 0, none⟩ = some (.iface 194 q) := HGS.out.cell S0 (fun e => by have h1 := Option.some.inj e; have h2 := HGL.out; simp only at h1; omega)
        have RG2 : Hid ((w4.drew.setCells w.heap.size 0 [.int .i64 0, .int .i64 0, .slice none 0 0, .slice none 0 0, .slice none 0 0, .slice none 0 0]).rangeAt w.heap.size 0 [.int .i64 0, .int .i64 0, .slice none 0 0, .slice none 0 0, .slice none 0 0, .slice none 0 0]) := World.rangeAt_setCells_same w4.drew w.heap.size 0 _ TH4.out
        simp only [Act.put]
        refine hK.out _ _ S1 (fun hHeld => ?_)
        clear hK K
        refine wpAnyH_ready (rs := [3]) (fuel := 0) (by kernel_rfl) (by simp) ?_
        refine AllReadyH.cons rfl (fun K hK => ?_) AllReadyH.nil
        go_simp
        refine hK.out _ _ S1 (fun hHeld => ?_)
        clear hK K
        refine wpAnyH_done (by kernel_rfl) ?_ _
        clear hHeld S1 S0
        go_wp2_with fail
        refine bodyPost_ret (v := .tuple #[.agg #[.int .i64 0, .int .i64 0, .slice none 0 0, .slice none 0 0, .slice none 0 0, .slice none 0 0], .iface 194 q]) ?_ rfl ((fun hbw => ⟨hbw, Or.inl ⟨q, HRL.out, rfl⟩⟩) (((BW4.out).drew).grown HGS.out (BW4.out).size (fun q hq => by cases hq; exact Nat.le_refl _)))
        have HC0 := RG2.out 0 _ rfl
        have HC1 := RG2.out 1 _ rfl
        have HC2 := RG2.out 2 _ rfl
        have HC3 := RG2.out 3 _ rfl
        have HC4 := RG2.out 4 _ rfl
        have HC5 := RG2.out 5 _ rfl
        simp only [Nat.zero_add] at HC0 HC1 HC2 HC3 HC4 HC5
        simp [results, Tryz.results26, go_sem, HC0, HC1, HC2, HC3, HC4, HC5]
      | true =>
        have HRW : Hid (R = (a, 0)) := by rw [Hid, HR.out]; exact iaRead_ok HNL.out HRA.out HOK.out.symm
        have m0 := V4.out.cell (j := 0) rfl
        have m1 := V4.out.cell (j := 1) rfl
        have m2 := V4.out.cell (j := 2) rfl
        have m3 := V4.out.cell (j := 3) rfl
        have m4 := V4.out.cell (j := 4) rfl
        have m5 := V4.out.cell (j := 5) rfl
        have HRR : Hid (IaOwn (w4.setCells w.heap.size 0 [.int .i64 a.states, .int .i64 a.init, .slice b2 a.ins.length d2, .slice b3 a.outs.length d3, .slice b4 a.hids.length d4, .slice b5 a.steps.length d5]) w.heap.size a (.agg #[.int .i64 a.states, .int .i64 a.init, .slice b2 a.ins.length d2, .slice b3 a.outs.length d3, .slice b4 a.hids.length d4, .slice b5 a.steps.length d5])) := by
          have hg := grown_setCells w.heap.size [.int .i64 a.states, .int .i64 a.init, .slice b2 a.ins.length d2, .slice b3 a.outs.length d3, .slice b4 a.hids.length d4, .slice b5 a.steps.length d5] 0 w4
          have hne : ∀ k, w.heap.size + 1 ≤ k → some k ≠ some w.heap.size := fun k hk e => by have := Option.some.inj e; omega
          obtain ⟨o2, o3, o4, o5, p2, p3, p4⟩ := iaOwn_parts HOW4.out
          have ho : IaOwn (w4.setCells w.heap.size 0 [.int .i64 a.states, .int .i64 a.init, .slice b2 a.ins.length d2, .slice b3 a.outs.length d3, .slice b4 a.hids.length d4, .slice b5 a.steps.length d5]) (w.heap.size + 1) a (.agg #[.int .i64 a.states, .int .i64 a.init, .slice b2 a.ins.length d2, .slice b3 a.outs.length d3, .slice b4 a.hids.length d4, .slice b5 a.steps.length d5]) := ⟨_, _, _, _, rfl, o2.keep hg (fun k hk => hne k (o2.lt k hk).1), o3.keep hg (fun k hk => hne k (o3.lt k hk).1), o4.keep hg (fun k hk => hne k (o4.lt k hk).1), o5.keep hg (fun k hk => hne k (o5.lt k hk).1), p2, p3, p4⟩
          exact ho.mono (Nat.le_succ _)
        have RG2 : Hid ((w4.setCells w.heap.size 0 [.int .i64 a.states, .int .i64 a.init, .slice b2 a.ins.length d2, .slice b3 a.outs.length d3, .slice b4 a.hids.length d4, .slice b5 a.steps.length d5]).rangeAt w.heap.size 0 [.int .i64 a.states, .int .i64 a.init, .slice b2 a.ins.length d2, .slice b3 a.outs.length d3, .slice b4 a.hids.length d4, .slice b5 a.steps.length d5]) := World.rangeAt_setCells_same w4 w.heap.size 0 _ TH4.out
        have HGS := Lib.hid (grown_setCells w.heap.size [.int .i64 a.states, .int .i64 a.init, .slice b2 a.ins.length d2, .slice b3 a.outs.length d3, .slice b4 a.hids.length d4, .slice b5 a.steps.length d5] 0 w4)
        go_wp2_with (refine wpList_store_mid rfl _ _ _ rfl w.heap.size 0 #[.int .i64 a.states, .int .i64 a.init, .slice b2 a.ins.length d2, .slice b3 a.outs.length d3, .slice b4 a.hids.length d4, .slice b5 a.steps.length d5] rfl rfl TH4.out (by kernel_rfl) (ia_one _ _ _ _ _ _ _ _ _ _ _ _ _ _) ?_)
        refine bodyPost_ret (v := .tuple #[.agg #[.int .i64 a.states, .int .i64 a.init, .slice b2 a.ins.length d2, .slice b3 a.outs.length d3, .slice b4 a.hids.length d4, .slice b5 a.steps.length d5], .nilIface]) ?_ rfl ((fun hbw => ⟨hbw, Or.inr (Or.inr ⟨a, _, HRW.out, rfl, HRR.out, hless⟩)⟩) ((BW4.out).grown HGS.out (BW4.out).size (fun q hq => by cases hq; exact Nat.le_refl _)))
        have HC0 := RG2.out 0 _ rfl
        have HC1 := RG2.out 1 _ rfl
        have HC2 := RG2.out 2 _ rfl
        have HC3 := RG2.out 3 _ rfl
        have HC4 := RG2.out 4 _ rfl
        have HC5 := RG2.out 5 _ rfl
        simp only [Nat.zero_add] at HC0 HC1 HC2 HC3 HC4 HC5
        simp [results, Tryz.results26, go_sem, HC0, HC1, HC2, HC3, HC4, HC5]


/-- An automaton in lists of the call's own, and a code, come back. -/
def IaOwnRes (w : World) (r : IaD × Int) (e : Ending) (w' : World) : Prop := ∃ v, e = .returned (.tuple #[v, .int .i64 r.2]) ∧ IaOwn w' w.heap.size r.1 v ∧ Below w.heap.size w w' ∧ IaLess 8001 r.1

theorem own_none (w : World) (base : Nat) : IaOwn w base noIa (.agg #[.int .i64 0, .int .i64 0, .slice none 0 0, .slice none 0 0, .slice none 0 0, .slice none 0 0]) :=
  ⟨_, _, _, _, rfl, World.ownsRow_nil _ _ _ _, World.ownsRow_nil _ _ _ _, World.ownsRow_nil _ _ _ _, World.ownsRow_nil _ _ _ _, (fun b h => by cases h), (fun b h => by cases h), fun b h => by cases h⟩

theorem less_none : IaLess 8001 noIa := ⟨by simp [noIa], by simp [noIa], by simp [noIa], by simp [noIa]⟩

set_option maxRecDepth 20000 in
set_option maxHeartbeats 6400000 in
theorem implIaRead_any (L : List UInt8) (w : World) (hs : L.length ≤ 1048576) (he : EnvR w) : Calls Tryz.prog 9 #[.string (bs L)] w (IaOwnRes w (iaReadOf L)) := by
  obtain ⟨R, hR⟩ : ∃ R, R = iaReadOf L := ⟨_, rfl⟩
  have HE := Lib.hid he
  have VB : Hid (VarIs (w.alloc (.cells #[.int .i64 0, .int .i64 0, .slice none 0 0, .slice none 0 0, .slice none 0 0, .slice none 0 0] 27)) w.heap.size #[.int .i64 0, .int .i64 0, .slice none 0 0, .slice none 0 0, .slice none 0 0, .slice none 0 0] 27) := VarIs.new w _ _ rfl
  have BW : Hid (Below w.heap.size w (w.alloc (.cells #[.int .i64 0, .int .i64 0, .slice none 0 0, .slice none 0 0, .slice none 0 0, .slice none 0 0] 27))) := (Below.refl _ w).alloc (Nat.le_refl _) _
  obtain ⟨S, hS⟩ : ∃ S, S = bs L := ⟨_, rfl⟩
  have CI : Hid (Calls Tryz.prog 26 #[.string S] (w.alloc (.cells #[.int .i64 0, .int .i64 0, .slice none 0 0, .slice none 0 0, .slice none 0 0, .slice none 0 0] 27)) (ReadIaRes (w.alloc (.cells #[.int .i64 0, .int .i64 0, .slice none 0 0, .slice none 0 0, .slice none 0 0, .slice none 0 0] 27)) R)) := by
    rw [hS, hR]
    exact readIa_any L _ hs (he.below BW.out)
  rw [← hR, ← hS]
  clear hR hS he
  go_enter Tryz.func9, Tryz.ntmps9
  go_wp2_with fail
  refine CI.out.mono ?_
  rintro e w2 ⟨hb2, hcase⟩
  have BW2 : Hid (Below w.heap.size w w2) := BW.out.trans (hb2.mono BW.out.size)
  have VB2 := Lib.hid (VB.out.below hb2)
  have HE2 := Lib.hid (HE.out.below BW2.out)
  have HLT : Hid (w.heap.size < w2.heap.size) := VB2.out.lt
  clear hb2 CI
  rcases hcase with ⟨q, hr, rfl⟩ | ⟨k, hr, hk, rfl⟩ | ⟨a, v, hr, rfl, hown, hless⟩
  · have HRW := Lib.hid hr
    have hbt : Below w2.heap.size w2 ((w2.alloc (.cells #[.int .i64 0, .int .i64 0, .slice none 0 0, .slice none 0 0, .slice none 0 0, .slice none 0 0] 27)).alloc (.cells #[.int .i64 0] 59)) := ((Below.refl _ w2).alloc (Nat.le_refl _) _).alloc (by simp) _
    have BW3 : Hid (Below w.heap.size w ((w2.alloc (.cells #[.int .i64 0, .int .i64 0, .slice none 0 0, .slice none 0 0, .slice none 0 0, .slice none 0 0] 27)).alloc (.cells #[.int .i64 0] 59))) := BW2.out.trans (hbt.mono BW2.out.size)
    have VB3 := Lib.hid (VB2.out.below hbt)
    have HE3 := Lib.hid (HE2.out.below hbt)
    clear hr hbt
    go_wp2_with fail
    refine (as_miss q (w2.heap.size + 1) _ HE3.out.handle).mono ?_
    rintro e w4 ⟨rfl, hb4⟩
    have TH4 : Hid (w4.there w.heap.size 0 6) := (VB3.out.below hb4).there rfl
    have BW4 : Hid (Below w.heap.size w w4) := BW3.out.trans (hb4.mono BW3.out.size)
    clear hb4
    have RG2 : Hid ((w4.setCells w.heap.size 0 [.int .i64 0, .int .i64 0, .slice none 0 0, .slice none 0 0, .slice none 0 0, .slice none 0 0]).rangeAt w.heap.size 0 [.int .i64 0, .int .i64 0, .slice none 0 0, .slice none 0 0, .slice none 0 0, .slice none 0 0]) := World.rangeAt_setCells_same w4 w.heap.size 0 _ TH4.out
    have HGS := Lib.hid (grown_setCells w.heap.size [.int .i64 0, .int .i64 0, .slice none 0 0, .slice none 0 0, .slice none 0 0, .slice none 0 0] 0 w4)
    go_wp2_with (refine wpList_store_mid rfl _ _ _ rfl w.heap.size 0 #[.int .i64 0, .int .i64 0, .slice none 0 0, .slice none 0 0, .slice none 0 0, .slice none 0 0] rfl rfl TH4.out (by kernel_rfl) (ia_one _ _ _ _ _ _ _ _ _ _ _ _ _ _) ?_)
    refine bodyPost_ret (v := .tuple #[.agg #[.int .i64 0, .int .i64 0, .slice none 0 0, .slice none 0 0, .slice none 0 0, .slice none 0 0], .int .i64 (-1)]) ?_ rfl ((fun hbw => ⟨.agg #[.int .i64 0, .int .i64 0, .slice none 0 0, .slice none 0 0, .slice none 0 0, .slice none 0 0], by rw [HRW.out], by rw [HRW.out]; exact own_none _ _, hbw, by rw [HRW.out]; exact less_none⟩) ((BW4.out).grown HGS.out (BW4.out).size (fun q hq => by cases hq; exact Nat.le_refl _)))
    have HC0 := RG2.out 0 _ rfl
    have HC1 := RG2.out 1 _ rfl
    have HC2 := RG2.out 2 _ rfl
    have HC3 := RG2.out 3 _ rfl
    have HC4 := RG2.out 4 _ rfl
    have HC5 := RG2.out 5 _ rfl
    simp only [Nat.zero_add] at HC0 HC1 HC2 HC3 HC4 HC5
    simp [results, Tryz.results9, go_sem, HC0, HC1, HC2, HC3, HC4, HC5]
  · have HRW := Lib.hid hr
    have hbt : Below w2.heap.size w2 ((w2.alloc (.cells #[.int .i64 0, .int .i64 0, .slice none 0 0, .slice none 0 0, .slice none 0 0, .slice none 0 0] 27)).alloc (.cells #[.int .i64 0] 59)) := ((Below.refl _ w2).alloc (Nat.le_refl _) _).alloc (by simp) _
    have BW3 : Hid (Below w.heap.size w ((w2.alloc (.cells #[.int .i64 0, .int .i64 0, .slice none 0 0, .slice none 0 0, .slice none 0 0, .slice none 0 0] 27)).alloc (.cells #[.int .i64 0] 59))) := BW2.out.trans (hbt.mono BW2.out.size)
    have VB3 := Lib.hid (VB2.out.below hbt)
    have HE3 := Lib.hid (HE2.out.below hbt)
    have VT : Hid (VarIs ((w2.alloc (.cells #[.int .i64 0, .int .i64 0, .slice none 0 0, .slice none 0 0, .slice none 0 0, .slice none 0 0] 27)).alloc (.cells #[.int .i64 0] 59)) (w2.heap.size + 1) #[.int .i64 0] 59) := VarIs.new _ _ _ (by simp)
    clear hr hbt
    go_wp2_with fail
    refine (as_hit (k : Int) (w2.heap.size + 1) (.int .i64 0) _ HE3.out.handle (VT.out.cell (j := 0) rfl) (VT.out.frozen 0)).mono ?_
    rintro e w4 ⟨rfl, hg4, hc4⟩
    have VB4 := Lib.hid (VB3.out.grown hg4 (fun e => by have h1 := Option.some.inj e; have h2 := HLT.out; omega))
    have TH4 : Hid (w4.there w.heap.size 0 6) := VB4.out.there rfl
    have BW4 : Hid (Below w.heap.size w w4) := BW3.out.grown hg4 BW3.out.size (fun q hq => by cases hq; have h2 := HLT.out; omega)
    have S0 : w4.drew.cell? ⟨w2.heap.size + 1, 0, none⟩ = some (.int .i64 (k : Int)) := hc4
    clear hg4 hc4
    go_wp2_with fail
    refine wp_region_held_drew (S := fun w' => w'.cell? ⟨w2.heap.size + 1, 0, none⟩ = some (.int .i64 (k : Int))) (by kernel_rfl) S0 (fun hHeld => ?_)
    change wpAnyH _ _ _ _ _ 5 (Array.replicate 5 false) _ _
    refine take_op 0 18 (.agg #[.int .i64 0, .int .i64 0, .slice none 0 0, .slice none 0 0, .slice none 0 0, .slice none 0 0]) (fuel := 4) rfl rfl (by kernel_rfl) (by kernel_rfl) (by kernel_rfl) (fun _ _ _ h => h) (by rfl) (fun w hSw => by go_simp) hHeld ?_
    simp only [Act.put, List.setIfInBounds_toArray, List.set_cons_zero, List.set_cons_succ]
    refine take_op 1 19 (.pointer (some ⟨w2.heap.size + 1, 0, none⟩)) (fuel := 3) rfl rfl (by kernel_rfl) (by kernel_rfl) (by kernel_rfl) (fun _ _ _ h => h) (by rfl) (fun w hSw => by go_simp) hHeld ?_
    simp only [Act.put, List.setIfInBounds_toArray, List.set_cons_zero, List.set_cons_succ]
    refine take_op 2 20 (.int .i64 (k : Int)) (fuel := 2) rfl rfl (by kernel_rfl) (by kernel_rfl) (by kernel_rfl) (fun _ _ _ h => h) (by rfl) (fun w hSw => by go_simp) hHeld ?_
    simp only [Act.put, List.setIfInBounds_toArray, List.set_cons_zero, List.set_cons_succ]
    refine wpAnyH_ready (rs := [3]) (fuel := 1) (by kernel_rfl) (by simp) ?_
    refine AllReadyH.cons rfl (fun K hK => ?_) AllReadyH.nil
    rw [if_pos (by rfl)]
    refine wp_store_mid _ _ _ rfl w.heap.size 0 #[.int .i64 0, .int .i64 0, .slice none 0 0, .slice none 0 0, .slice none 0 0, .slice none 0 0] rfl rfl TH4.out (by kernel_rfl) (ia_one _ _ _ _ _ _ _ _ _ _ _ _ _ _) ?_
    have HGS := Lib.hid (grown_setCells w.heap.size [.int .i64 0, .int .i64 0, .slice none 0 0, .slice none 0 0, .slice none 0 0, .slice none 0 0] 0 w4.drew)
    have S1 : (w4.drew.setCells w.heap.size 0 [.int .i64 0, .int .i64 0, .slice none 0 0, .slice none 0 0, .slice none 0 0, .slice none 0 0]).cell? ⟨w2.heap.size + 1, 0, none⟩ = some (.int .i64 (k : Int)) := HGS.out.cell S0 (fun e => by have h1 := Option.some.inj e; have h2 := HLT.out; simp only at h1; omega)
    have RG2 : Hid ((w4.drew.setCells w.heap.size 0 [.int .i64 0, .int .i64 0, .slice none 0 0, .slice none 0 0, .slice none 0 0, .slice none 0 0]).rangeAt w.heap.size 0 [.int .i64 0, .int .i64 0, .slice none 0 0, .slice none 0 0, .slice none 0 0, .slice none 0 0]) := World.rangeAt_setCells_same w4.drew w.heap.size 0 _ TH4.out
    simp only [Act.put]
    refine hK.out _ _ S1 (fun hHeld => ?_)
    clear hK K
    refine wpAnyH_ready (rs := [4]) (fuel := 0) (by kernel_rfl) (by simp) ?_
    refine AllReadyH.cons rfl (fun K hK => ?_) AllReadyH.nil
    go_simp
    refine hK.out _ _ S1 (fun hHeld => ?_)
    clear hK K
    refine wpAnyH_done (by kernel_rfl) ?_ _
    clear hHeld S1 S0
    go_wp2_with fail
    refine bodyPost_ret (v := .tuple #[.agg #[.int .i64 0, .int .i64 0, .slice none 0 0, .slice none 0 0, .slice none 0 0, .slice none 0 0], .int .i64 (k : Int)]) ?_ rfl ((fun hbw => ⟨.agg #[.int .i64 0, .int .i64 0, .slice none 0 0, .slice none 0 0, .slice none 0 0, .slice none 0 0], by rw [HRW.out], by rw [HRW.out]; exact own_none _ _, hbw, by rw [HRW.out]; exact less_none⟩) ((BW4.out.drew).grown HGS.out BW4.out.size (fun q hq => by cases hq; exact Nat.le_refl _)))
    have HC0 := RG2.out 0 _ rfl
    have HC1 := RG2.out 1 _ rfl
    have HC2 := RG2.out 2 _ rfl
    have HC3 := RG2.out 3 _ rfl
    have HC4 := RG2.out 4 _ rfl
    have HC5 := RG2.out 5 _ rfl
    simp only [Nat.zero_add] at HC0 HC1 HC2 HC3 HC4 HC5
    simp [results, Tryz.results9, go_sem, HC0, HC1, HC2, HC3, HC4, HC5]
  · obtain ⟨x2, x3, x4, x5, rfl, o2, o3, o4, o5, p2, p3, p4⟩ := hown
    obtain ⟨b2, d2, rfl⟩ := o2.form
    obtain ⟨b3, d3, rfl⟩ := o3.form
    obtain ⟨b4, d4, rfl⟩ := o4.form
    obtain ⟨b5, d5, rfl⟩ := o5.form
    have HOW : Hid (IaOwn w2 (w.heap.size + 1) a (.agg #[.int .i64 a.states, .int .i64 a.init, .slice b2 a.ins.length d2, .slice b3 a.outs.length d3, .slice b4 a.hids.length d4, .slice b5 a.steps.length d5])) := by
      have e : (w.alloc (.cells #[.int .i64 0, .int .i64 0, .slice none 0 0, .slice none 0 0, .slice none 0 0, .slice none 0 0] 27)).heap.size = w.heap.size + 1 := by simp
      rw [e] at o2 o3 o4 o5
      exact ⟨_, _, _, _, rfl, o2, o3, o4, o5, p2, p3, p4⟩
    have HRW := Lib.hid hr
    clear o2 o3 o4 o5 p2 p3 p4 hr
    have hba : Below w2.heap.size w2 (w2.alloc (.cells #[.int .i64 a.states, .int .i64 a.init, .slice b2 a.ins.length d2, .slice b3 a.outs.length d3, .slice b4 a.hids.length d4, .slice b5 a.steps.length d5] 27)) := (Below.refl _ _).alloc (Nat.le_refl _) _
    have HOW3 := Lib.hid (HOW.out.below hba)
    have TH3 : Hid ((w2.alloc (.cells #[.int .i64 a.states, .int .i64 a.init, .slice b2 a.ins.length d2, .slice b3 a.outs.length d3, .slice b4 a.hids.length d4, .slice b5 a.steps.length d5] 27)).there w.heap.size 0 6) := (VB2.out.below hba).there rfl
    have BW3 : Hid (Below w.heap.size w (w2.alloc (.cells #[.int .i64 a.states, .int .i64 a.init, .slice b2 a.ins.length d2, .slice b3 a.outs.length d3, .slice b4 a.hids.length d4, .slice b5 a.steps.length d5] 27))) := BW2.out.trans (hba.mono BW2.out.size)
    have HRR : Hid (IaOwn ((w2.alloc (.cells #[.int .i64 a.states, .int .i64 a.init, .slice b2 a.ins.length d2, .slice b3 a.outs.length d3, .slice b4 a.hids.length d4, .slice b5 a.steps.length d5] 27)).setCells w.heap.size 0 [.int .i64 a.states, .int .i64 a.init, .slice b2 a.ins.length d2, .slice b3 a.outs.length d3, .slice b4 a.hids.length d4, .slice b5 a.steps.length d5]) w.heap.size a (.agg #[.int .i64 a.states, .int .i64 a.init, .slice b2 a.ins.length d2, .slice b3 a.outs.length d3, .slice b4 a.hids.length d4, .slice b5 a.steps.length d5])) := by
      have hg := grown_setCells w.heap.size [.int .i64 a.states, .int .i64 a.init, .slice b2 a.ins.length d2, .slice b3 a.outs.length d3, .slice b4 a.hids.length d4, .slice b5 a.steps.length d5] 0 (w2.alloc (.cells #[.int .i64 a.states, .int .i64 a.init, .slice b2 a.ins.length d2, .slice b3 a.outs.length d3, .slice b4 a.hids.length d4, .slice b5 a.steps.length d5] 27))
      have hne : ∀ k, w.heap.size + 1 ≤ k → some k ≠ some w.heap.size := fun k hk e => by have := Option.some.inj e; omega
      obtain ⟨o2, o3, o4, o5, p2, p3, p4⟩ := iaOwn_parts HOW3.out
      have ho : IaOwn ((w2.alloc (.cells #[.int .i64 a.states, .int .i64 a.init, .slice b2 a.ins.length d2, .slice b3 a.outs.length d3, .slice b4 a.hids.length d4, .slice b5 a.steps.length d5] 27)).setCells w.heap.size 0 [.int .i64 a.states, .int .i64 a.init, .slice b2 a.ins.length d2, .slice b3 a.outs.length d3, .slice b4 a.hids.length d4, .slice b5 a.steps.length d5]) (w.heap.size + 1) a (.agg #[.int .i64 a.states, .int .i64 a.init, .slice b2 a.ins.length d2, .slice b3 a.outs.length d3, .slice b4 a.hids.length d4, .slice b5 a.steps.length d5]) := ⟨_, _, _, _, rfl, o2.keep hg (fun k hk => hne k (o2.lt k hk).1), o3.keep hg (fun k hk => hne k (o3.lt k hk).1), o4.keep hg (fun k hk => hne k (o4.lt k hk).1), o5.keep hg (fun k hk => hne k (o5.lt k hk).1), p2, p3, p4⟩
      exact ho.mono (Nat.le_succ _)
    clear hba
    have RG2 : Hid (((w2.alloc (.cells #[.int .i64 a.states, .int .i64 a.init, .slice b2 a.ins.length d2, .slice b3 a.outs.length d3, .slice b4 a.hids.length d4, .slice b5 a.steps.length d5] 27)).setCells w.heap.size 0 [.int .i64 a.states, .int .i64 a.init, .slice b2 a.ins.length d2, .slice b3 a.outs.length d3, .slice b4 a.hids.length d4, .slice b5 a.steps.length d5]).rangeAt w.heap.size 0 [.int .i64 a.states, .int .i64 a.init, .slice b2 a.ins.length d2, .slice b3 a.outs.length d3, .slice b4 a.hids.length d4, .slice b5 a.steps.length d5]) := World.rangeAt_setCells_same (w2.alloc (.cells #[.int .i64 a.states, .int .i64 a.init, .slice b2 a.ins.length d2, .slice b3 a.outs.length d3, .slice b4 a.hids.length d4, .slice b5 a.steps.length d5] 27)) w.heap.size 0 _ TH3.out
    have HGS := Lib.hid (grown_setCells w.heap.size [.int .i64 a.states, .int .i64 a.init, .slice b2 a.ins.length d2, .slice b3 a.outs.length d3, .slice b4 a.hids.length d4, .slice b5 a.steps.length d5] 0 (w2.alloc (.cells #[.int .i64 a.states, .int .i64 a.init, .slice b2 a.ins.length d2, .slice b3 a.outs.length d3, .slice b4 a.hids.length d4, .slice b5 a.steps.length d5] 27)))
    go_wp2_with (refine wpList_store_mid rfl _ _ _ rfl w.heap.size 0 #[.int .i64 a.states, .int .i64 a.init, .slice b2 a.ins.length d2, .slice b3 a.outs.length d3, .slice b4 a.hids.length d4, .slice b5 a.steps.length d5] rfl rfl TH3.out (by kernel_rfl) (ia_one _ _ _ _ _ _ _ _ _ _ _ _ _ _) ?_)
    refine bodyPost_ret (v := .tuple #[.agg #[.int .i64 a.states, .int .i64 a.init, .slice b2 a.ins.length d2, .slice b3 a.outs.length d3, .slice b4 a.hids.length d4, .slice b5 a.steps.length d5], .int .i64 0]) ?_ rfl ((fun hbw => ⟨.agg #[.int .i64 a.states, .int .i64 a.init, .slice b2 a.ins.length d2, .slice b3 a.outs.length d3, .slice b4 a.hids.length d4, .slice b5 a.steps.length d5], by rw [HRW.out], by rw [HRW.out]; exact HRR.out, hbw, by rw [HRW.out]; exact hless⟩) ((BW3.out).grown HGS.out (BW3.out).size (fun q hq => by cases hq; exact Nat.le_refl _)))
    have HC0 := RG2.out 0 _ rfl
    have HC1 := RG2.out 1 _ rfl
    have HC2 := RG2.out 2 _ rfl
    have HC3 := RG2.out 3 _ rfl
    have HC4 := RG2.out 4 _ rfl
    have HC5 := RG2.out 5 _ rfl
    simp only [Nat.zero_add] at HC0 HC1 HC2 HC3 HC4 HC5
    simp [results, Tryz.results9, go_sem, HC0, HC1, HC2, HC3, HC4, HC5]

end Go.Proofs.YtfhjhfhfbgddeaaGreatDoor
