/-
  The contract of the model's DrawIaText: some automaton, its lists in new memory. Conditions: the code is a slice of at most 2^20 bytes.
-/
import Derived.Test.YtfhjhfhfbgddeaaGreatDoorAnyIa
namespace Go.Proofs.YtfhjhfhfbgddeaaGreatDoor
open Go.RowKit

/-- Lists that are not too long. -/
def LensT (a : IaD) : Prop := a.ins.length ≤ 1000 ∧ a.outs.length ≤ 1000 ∧ a.hids.length ≤ 1000 ∧ a.steps.length ≤ 1000

/-- What DrawIaText leaves. -/
def TextDrawn (w : World) (e : Ending) (w' : World) : Prop :=
  ∃ (ia : IaD) (v : Value), e = .returned v ∧ IaMine w' w.heap.size ia v ∧ LensT ia ∧ Below w.heap.size w w'

theorem openedT (a : Option Addr) (n c : Nat) (w : World) (hn : n ≤ 1048576) (hcode : Code w w.heap.size a n) (o : Obj) :
    Calls Tryz.prog 14 #[.slice a n c] (w.alloc o) fun e w' => e = .returned (.pointer (some ⟨w.heap.size + 1, 0, none⟩)) ∧ Cur w' (w.heap.size + 1) 0 ∧ Below (w.heap.size + 1) (w.alloc o) w' := by
  have h1 : Code (w.alloc o) (w.alloc o).heap.size a n := (hcode.below ((Below.refl _ _).alloc (Nat.le_refl _) _)).mono (by simp)
  have := open_any a n c (w.alloc o) hn h1
  simpa using this

set_option maxRecDepth 20000 in
set_option maxHeartbeats 3200000 in
theorem drawIaText_any (a : Option Addr) (n c : Nat) (w : World) (hn : n ≤ 1048576) (hcode : Code w w.heap.size a n) :
    Calls Tryz.prog 5 #[.slice a n c] w (TextDrawn w) := by
  have CO := Lib.hid (openedT a n c w hn hcode (.cells #[.int .i64 0, .int .i64 0, .slice none 0 0, .slice none 0 0, .slice none 0 0, .slice none 0 0] 27))
  have BZ : Hid (Below w.heap.size w (w.alloc (.cells #[.int .i64 0, .int .i64 0, .slice none 0 0, .slice none 0 0, .slice none 0 0, .slice none 0 0] 27))) := (Below.refl _ _).alloc (Nat.le_refl _) _
  have VZ := Lib.hid (VarIs.new w #[.int .i64 0, .int .i64 0, .slice none 0 0, .slice none 0 0, .slice none 0 0, .slice none 0 0] 27 rfl)
  clear hcode
  go_enter Tryz.func5, Tryz.ntmps5
  go_wp2_with fail
  refine CO.out.mono ?_
  rintro e w1 ⟨rfl, hcur, hb⟩
  have B1 : Hid (Below w.heap.size w w1) := BZ.out.trans (hb.mono (by omega))
  have V1 := VZ.out.below (by have := hb; simpa using this)
  have CU1 := Lib.hid hcur
  have hP1 := hcur.lt
  clear hcur hb CO BZ VZ
  go_wp2_with fail
  refine (anyIa_any (w.heap.size + 1) 0 _ CU1.out (by omega)).mono ?_
  rintro e w2 ⟨ia, v, rfl, hm, hl, hcur, hg⟩
  have B2 : Hid (Below w.heap.size w w2) := B1.out.grown hg B1.out.size (fun q hq => by have := Option.some.inj hq; omega)
  have R4 := Lib.hid (V1.grown hg (fun e => by have := Option.some.inj e; omega))
  have hs2 := hg.size
  clear hcur hg V1 B1 CU1
  obtain ⟨st, it, ins, outs, hids, steps⟩ := ia
  obtain ⟨x2, x3, x4, x5, rfl, o2, o3, o4, o5⟩ := hm
  simp only at o2 o3 o4 o5 hl
  obtain ⟨n2, hn2⟩ : ∃ n, n = ins.length := ⟨_, rfl⟩
  obtain ⟨n3, hn3⟩ : ∃ n, n = outs.length := ⟨_, rfl⟩
  obtain ⟨n4, hn4⟩ : ∃ n, n = hids.length := ⟨_, rfl⟩
  obtain ⟨n5, hn5⟩ : ∃ n, n = steps.length := ⟨_, rfl⟩
  rw [← hn2] at o2
  rw [← hn3] at o3
  rw [← hn4] at o4
  rw [← hn5] at o5
  obtain ⟨b2, d2, rfl⟩ := o2.form
  obtain ⟨b3, d3, rfl⟩ := o3.form
  obtain ⟨b4, d4, rfl⟩ := o4.form
  obtain ⟨b5, d5, rfl⟩ := o5.form
  have M4 : Hid (IaMine w2 w1.heap.size ⟨st, it, ins, outs, hids, steps⟩ (.agg #[.int .i64 st, .int .i64 it, .slice b2 n2 d2, .slice b3 n3 d3, .slice b4 n4 d4, .slice b5 n5 d5])) := ⟨_, _, _, _, rfl, by rw [← hn2]; exact o2, by rw [← hn3]; exact o3, by rw [← hn4]; exact o4, by rw [← hn5]; exact o5⟩
  have HLN : Hid (LensT ⟨st, it, ins, outs, hids, steps⟩) := hl
  clear o2 o3 o4 o5 hn2 hn3 hn4 hn5 hl
  have TH : Hid (w2.there w.heap.size 0 6) := R4.out.there rfl
  have HGS := Lib.hid (grown_setCells w.heap.size [.int .i64 st, .int .i64 it, .slice b2 n2 d2, .slice b3 n3 d3, .slice b4 n4 d4, .slice b5 n5 d5] 0 w2)
  have HF := Lib.hid (World.rangeAt_setCells_same w2 w.heap.size 0 [.int .i64 st, .int .i64 it, .slice b2 n2 d2, .slice b3 n3 d3, .slice b4 n4 d4, .slice b5 n5 d5] TH.out)
  go_wp2_with (refine wpList_store_mid rfl _ _ _ rfl w.heap.size 0 #[.int .i64 st, .int .i64 it, .slice b2 n2 d2, .slice b3 n3 d3, .slice b4 n4 d4, .slice b5 n5 d5] rfl rfl TH.out (by kernel_rfl) (six_one _ _ _ _ _ _ _ _ _ _ _ _ _ _) ?_)
  refine bodyPost_ret (v := .agg #[.int .i64 st, .int .i64 it, .slice b2 n2 d2, .slice b3 n3 d3, .slice b4 n4 d4, .slice b5 n5 d5]) ?_ rfl ⟨⟨st, it, ins, outs, hids, steps⟩, _, rfl, (M4.out.keep HGS.out (by omega)).mono (by omega), HLN.out, B2.out.grown HGS.out B2.out.size (fun q hq => by have := Option.some.inj hq; omega)⟩
  have HC0 := HF.out 0 _ rfl
  have HC1 := HF.out 1 _ rfl
  have HC2 := HF.out 2 _ rfl
  have HC3 := HF.out 3 _ rfl
  have HC4 := HF.out 4 _ rfl
  have HC5 := HF.out 5 _ rfl
  simp only [Nat.zero_add] at HC0 HC1 HC2 HC3 HC4 HC5
  clear HF HGS
  simp [results, Tryz.results5, go_sem, HC0, HC1, HC2, HC3, HC4, HC5]

end Go.Proofs.YtfhjhfhfbgddeaaGreatDoor
