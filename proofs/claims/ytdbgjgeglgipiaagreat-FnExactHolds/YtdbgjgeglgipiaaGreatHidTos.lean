/-
  The contract of the program's hiddenTosOf: forty rows of numbers, at each place where what is hidden goes from it. Conditions: at most 400 steps, each from a state below 40.
-/
import Derived.Test.YtdbgjgeglgipiaaGreatRowsOf
import Derived.Test.YtdbgjgeglgipiaaGreatHidMath
import Derived.Test.YtdbgjgeglgipiaaGreatSetHas
namespace Go.Proofs.YtdbgjgeglgipiaaGreat
open Go.RowKit

/-- Forty rows of numbers: at each place where what is hidden goes from it. -/
def HidAt (w : World) (base : Nat) (C : Array Value) (hids : List Int) (ss : List St) : Prop :=
  C.size = 40 ∧ (∀ s : Nat, s < 40 → ∃ a c, C[s]? = some (.slice a (hidR hids ss s).length c) ∧ Owns w base (.slice a (hidR hids ss s).length c) (hidR hids ss s).length (hidR hids ss s)) ∧
  ∀ (s t : Nat) (v u : Value) (b : Nat), s ≠ t → C[s]? = some v → C[t]? = some u → v.ownBlock = some b → u.ownBlock ≠ some b

theorem HidAt.below {w w' : World} {base : Nat} {C : Array Value} {hids : List Int} {ss : List St} (h : HidAt w base C hids ss) (hb : Below w.heap.size w w') : HidAt w' base C hids ss :=
  ⟨h.1, fun s hs => by obtain ⟨a, c, e, o⟩ := h.2.1 s hs; exact ⟨a, c, e, o.below hb⟩, h.2.2⟩

theorem HidAt.alloc {w : World} {base : Nat} {C : Array Value} {hids : List Int} {ss : List St} (h : HidAt w base C hids ss) (o : Obj) : HidAt (w.alloc o) base C hids ss :=
  h.below ((Below.refl _ _).alloc (Nat.le_refl _) _)

theorem HidAt.drew {w : World} {base : Nat} {C : Array Value} {hids : List Int} {ss : List St} (h : HidAt w base C hids ss) : HidAt w.drew base C hids ss := h.below (Below.refl _ _).drew

theorem HidAt.one {w : World} {base : Nat} {C : Array Value} {hids : List Int} {ss : List St} (h : HidAt w base C hids ss) : ∀ u ∈ C, u.oneCell' = true := by
  intro u hu
  obtain ⟨s, hs, rfl⟩ := Array.mem_iff_getElem.1 hu
  obtain ⟨a, c, e, _⟩ := h.2.1 s (by rw [← h.1]; exact hs)
  rw [Array.getElem?_eq_getElem hs] at e
  rw [Option.some.inj e]
  rfl

theorem HidAt.grown {w w' : World} {base r : Nat} {C : Array Value} {hids : List Int} {ss : List St} (h : HidAt w base C hids ss) (hg : w.grownBy w' (some r)) (hr : r < base) : HidAt w' base C hids ss :=
  ⟨h.1, fun s hs => by
    obtain ⟨a, c, e, o⟩ := h.2.1 s hs
    exact ⟨a, c, e, o.keep hg (fun k hk he => by have := (o.lt k hk).1; cases he; omega)⟩, h.2.2⟩

theorem HidAt.mono {w : World} {base base' : Nat} {C : Array Value} {hids : List Int} {ss : List St} (h : HidAt w base' C hids ss) (hb : base ≤ base') : HidAt w base C hids ss :=
  ⟨h.1, fun s hs => by obtain ⟨a, c, e, o⟩ := h.2.1 s hs; exact ⟨a, c, e, o.mono hb⟩, h.2.2⟩

theorem HidAt.start (w : World) (base : Nat) (C : Array Value) (hids : List Int) (hC : C = Array.replicate 40 (.slice none 0 0)) : HidAt w base C hids [] := by
  subst hC
  refine ⟨by simp, fun s hs => ⟨none, 0, ?_, World.ownsRow_nil _ _ _ _⟩, fun s t v u b _ hv _ hb => ?_⟩
  · rw [Array.getElem?_replicate, if_pos hs]; rfl
  · rw [Array.getElem?_replicate] at hv
    split at hv
    · cases hv; cases hb
    · cases hv

/-- A number is put to its row: the row lies where it lay, or in a new block. -/
theorem HidAt.put {w w' : World} {base R g cap H : Nat} {C : Array Value} {hids : List Int} {ss : List St} {x : St} {s : Nat} {a : Option Addr} {c : Nat} (h : HidAt w base C hids ss) (hs : s < 40) (hx : x.1 = (s : Int)) (hy : hasB hids x.2.1 = true)
    (hC : C[s]? = some (.slice a (hidR hids ss s).length c)) (hg : w.grownBy w' (Value.slice a (hidR hids ss s).length c).ownBlock) (hown : Owns w' base (.slice (some ⟨g, 0, none⟩) ((hidR hids ss s).length + 1) cap) ((hidR hids ss s).length + 1) (hidR hids ss s ++ [x.2.2]))
    (hl : (Value.slice a (hidR hids ss s).length c).ownBlock = some g ∨ g = H) (hH : w.heap.size = H) (hR : R < base) :
    HidAt (w'.setCell ⟨R, s, none⟩ (.slice (some ⟨g, 0, none⟩) ((hidR hids ss s).length + 1) cap)) base (C.setIfInBounds s (.slice (some ⟨g, 0, none⟩) ((hidR hids ss s).length + 1) cap)) hids (ss ++ [x]) := by
  obtain ⟨h1, h2, h3⟩ := h
  have set_keep : ∀ {v : Value} {n : Nat} {rr : List Int}, Owns w' base v n rr → Owns (w'.setCell ⟨R, s, none⟩ (.slice (some ⟨g, 0, none⟩) ((hidR hids ss s).length + 1) cap)) base v n rr := fun {v n rr} ho =>
    ho.keep (r := some R) ⟨rfl, rfl, rfl, by simp, fun k _ hk => heap_setCell_other w' ⟨R, s, none⟩ k _ (fun e => hk (by simp [e]))⟩ (fun k hk e => by
      have := (ho.lt k hk).1
      cases e
      omega)
  have old_lt : ∀ (t : Nat) (u : Value) (b : Nat), C[t]? = some u → u.ownBlock = some b → b < H := fun t u b hu hb => by
    have ht : t < 40 := by rw [← h1]; exact (Array.getElem?_eq_some_iff.1 hu).1
    obtain ⟨a', c', e, o⟩ := h2 t ht
    rw [hu] at e
    cases e
    rw [← hH]
    exact (o.lt b hb).2
  refine ⟨by simp [h1], fun t ht => ?_, fun i j v u b hij hv hu hb => ?_⟩
  · by_cases e : t = s
    · subst e
      refine ⟨some ⟨g, 0, none⟩, cap, ?_, ?_⟩
      · rw [hidR_snoc_same hids ss x t hy hx, Array.getElem?_setIfInBounds, if_pos rfl, if_pos (by omega)]
        simp
      · rw [hidR_snoc_same hids ss x t hy hx]
        have := set_keep hown
        simpa using this
    · have hne : ¬ x.1 = (t : Int) := by omega
      obtain ⟨a', c', e', o'⟩ := h2 t ht
      refine ⟨a', c', ?_, ?_⟩
      · rw [hidR_snoc_other hids ss x t hne, Array.getElem?_setIfInBounds, if_neg (by omega)]
        exact e'
      · rw [hidR_snoc_other hids ss x t hne]
        refine set_keep (o'.keep hg (fun k hk he => ?_))
        exact h3 t s _ _ k e e' hC hk he.symm
  · rw [Array.getElem?_setIfInBounds] at hv hu
    by_cases ei : s = i
    · rw [if_pos ei] at hv
      rw [if_neg (by omega)] at hu
      split at hv
      · cases hv
        have hbg : g = b := by simpa [Value.ownBlock] using hb
        subst hbg
        intro hub
        rcases hl with hl | hl
        · exact h3 s j _ _ g (by omega) hC hu hl hub
        · have := old_lt j u g hu hub
          omega
      · cases hv
    · rw [if_neg ei] at hv
      by_cases ej : s = j
      · rw [if_pos ej] at hu
        split at hu
        · cases hu
          intro hub
          have hbg : g = b := by simpa [Value.ownBlock] using hub
          subst hbg
          rcases hl with hl | hl
          · exact h3 s i _ _ g (by omega) hC hv hl hb
          · have := old_lt i v g hv hb
            omega
        · cases hu
      · rw [if_neg ej] at hu
        exact h3 i j v u b hij hv hu hb

theorem HidAt.skip {w : World} {base : Nat} {C : Array Value} {hids : List Int} {ss : List St} {x : St} (h : HidAt w base C hids ss) (hx : hasB hids x.2.1 = false) : HidAt w base C hids (ss ++ [x]) := by
  refine ⟨h.1, fun s hs => ?_, h.2.2⟩
  rw [hidR_snoc_no hids ss x s hx]
  exact h.2.1 s hs

set_option maxRecDepth 20000 in
set_option maxHeartbeats 6400000 in
theorem hiddenTosOf_any (st it : Int) (v2 v3 : Value) (a4 : Option Addr) (n4 c4 : Nat) (hids : List Int) (a5 : Option Addr) (n5 c5 : Nat) (steps : List St) (w : World) (r4 : Row w a4 n4 hids) (hn4 : n4 ≤ 1048576) (r5 : RowS w a5 n5 steps) (hn : n5 ≤ 400) (hgood : ∀ x ∈ steps, 0 ≤ x.1 ∧ x.1 < 40) :
    Calls Tryz.prog 124 #[.agg #[.int .i64 st, .int .i64 it, v2, v3, .slice a4 n4 c4, .slice a5 n5 c5]] w fun e w' => ∃ C, e = .returned (.agg C) ∧ HidAt w' w.heap.size C hids steps ∧ Below w.heap.size w w' := by
  have HL5 := Lib.hid r5.1
  have HC5 := Lib.hid r5.2
  have HGD := Lib.hid hgood
  have R4 := Lib.hid r4
  clear r5 r4 hgood
  obtain ⟨i0, hi0, hz0, hz1, hz2⟩ := info_parts info_int
  have V0 : Hid (VarIs (((w.alloc (.cells #[.int .i64 st, .int .i64 it, v2, v3, .slice a4 n4 c4, .slice a5 n5 c5] 31)).alloc (.cells #[.slice none 0 0, .slice none 0 0, .slice none 0 0, .slice none 0 0, .slice none 0 0, .slice none 0 0, .slice none 0 0, .slice none 0 0, .slice none 0 0, .slice none 0 0, .slice none 0 0, .slice none 0 0, .slice none 0 0, .slice none 0 0, .slice none 0 0, .slice none 0 0, .slice none 0 0, .slice none 0 0, .slice none 0 0, .slice none 0 0, .slice none 0 0, .slice none 0 0, .slice none 0 0, .slice none 0 0, .slice none 0 0, .slice none 0 0, .slice none 0 0, .slice none 0 0, .slice none 0 0, .slice none 0 0, .slice none 0 0, .slice none 0 0, .slice none 0 0, .slice none 0 0, .slice none 0 0, .slice none 0 0, .slice none 0 0, .slice none 0 0, .slice none 0 0, .slice none 0 0] 143)).alloc (.cells #[.slice none 0 0, .slice none 0 0, .slice none 0 0, .slice none 0 0, .slice none 0 0, .slice none 0 0, .slice none 0 0, .slice none 0 0, .slice none 0 0, .slice none 0 0, .slice none 0 0, .slice none 0 0, .slice none 0 0, .slice none 0 0, .slice none 0 0, .slice none 0 0, .slice none 0 0, .slice none 0 0, .slice none 0 0, .slice none 0 0, .slice none 0 0, .slice none 0 0, .slice none 0 0, .slice none 0 0, .slice none 0 0, .slice none 0 0, .slice none 0 0, .slice none 0 0, .slice none 0 0, .slice none 0 0, .slice none 0 0, .slice none 0 0, .slice none 0 0, .slice none 0 0, .slice none 0 0, .slice none 0 0, .slice none 0 0, .slice none 0 0, .slice none 0 0, .slice none 0 0] 143)) w.heap.size #[.int .i64 st, .int .i64 it, v2, v3, .slice a4 n4 c4, .slice a5 n5 c5] 31) := ((VarIs.new w _ _ rfl).alloc _).alloc _
  have V1 : Hid (VarIs (((w.alloc (.cells #[.int .i64 st, .int .i64 it, v2, v3, .slice a4 n4 c4, .slice a5 n5 c5] 31)).alloc (.cells #[.slice none 0 0, .slice none 0 0, .slice none 0 0, .slice none 0 0, .slice none 0 0, .slice none 0 0, .slice none 0 0, .slice none 0 0, .slice none 0 0, .slice none 0 0, .slice none 0 0, .slice none 0 0, .slice none 0 0, .slice none 0 0, .slice none 0 0, .slice none 0 0, .slice none 0 0, .slice none 0 0, .slice none 0 0, .slice none 0 0, .slice none 0 0, .slice none 0 0, .slice none 0 0, .slice none 0 0, .slice none 0 0, .slice none 0 0, .slice none 0 0, .slice none 0 0, .slice none 0 0, .slice none 0 0, .slice none 0 0, .slice none 0 0, .slice none 0 0, .slice none 0 0, .slice none 0 0, .slice none 0 0, .slice none 0 0, .slice none 0 0, .slice none 0 0, .slice none 0 0] 143)).alloc (.cells #[.slice none 0 0, .slice none 0 0, .slice none 0 0, .slice none 0 0, .slice none 0 0, .slice none 0 0, .slice none 0 0, .slice none 0 0, .slice none 0 0, .slice none 0 0, .slice none 0 0, .slice none 0 0, .slice none 0 0, .slice none 0 0, .slice none 0 0, .slice none 0 0, .slice none 0 0, .slice none 0 0, .slice none 0 0, .slice none 0 0, .slice none 0 0, .slice none 0 0, .slice none 0 0, .slice none 0 0, .slice none 0 0, .slice none 0 0, .slice none 0 0, .slice none 0 0, .slice none 0 0, .slice none 0 0, .slice none 0 0, .slice none 0 0, .slice none 0 0, .slice none 0 0, .slice none 0 0, .slice none 0 0, .slice none 0 0, .slice none 0 0, .slice none 0 0, .slice none 0 0] 143)) (w.heap.size + 1) #[.slice none 0 0, .slice none 0 0, .slice none 0 0, .slice none 0 0, .slice none 0 0, .slice none 0 0, .slice none 0 0, .slice none 0 0, .slice none 0 0, .slice none 0 0, .slice none 0 0, .slice none 0 0, .slice none 0 0, .slice none 0 0, .slice none 0 0, .slice none 0 0, .slice none 0 0, .slice none 0 0, .slice none 0 0, .slice none 0 0, .slice none 0 0, .slice none 0 0, .slice none 0 0, .slice none 0 0, .slice none 0 0, .slice none 0 0, .slice none 0 0, .slice none 0 0, .slice none 0 0, .slice none 0 0, .slice none 0 0, .slice none 0 0, .slice none 0 0, .slice none 0 0, .slice none 0 0, .slice none 0 0, .slice none 0 0, .slice none 0 0, .slice none 0 0, .slice none 0 0] 143) := (VarIs.new _ _ _ (by simp)).alloc _
  have V2 : Hid (VarIs (((w.alloc (.cells #[.int .i64 st, .int .i64 it, v2, v3, .slice a4 n4 c4, .slice a5 n5 c5] 31)).alloc (.cells #[.slice none 0 0, .slice none 0 0, .slice none 0 0, .slice none 0 0, .slice none 0 0, .slice none 0 0, .slice none 0 0, .slice none 0 0, .slice none 0 0, .slice none 0 0, .slice none 0 0, .slice none 0 0, .slice none 0 0, .slice none 0 0, .slice none 0 0, .slice none 0 0, .slice none 0 0, .slice none 0 0, .slice none 0 0, .slice none 0 0, .slice none 0 0, .slice none 0 0, .slice none 0 0, .slice none 0 0, .slice none 0 0, .slice none 0 0, .slice none 0 0, .slice none 0 0, .slice none 0 0, .slice none 0 0, .slice none 0 0, .slice none 0 0, .slice none 0 0, .slice none 0 0, .slice none 0 0, .slice none 0 0, .slice none 0 0, .slice none 0 0, .slice none 0 0, .slice none 0 0] 143)).alloc (.cells #[.slice none 0 0, .slice none 0 0, .slice none 0 0, .slice none 0 0, .slice none 0 0, .slice none 0 0, .slice none 0 0, .slice none 0 0, .slice none 0 0, .slice none 0 0, .slice none 0 0, .slice none 0 0, .slice none 0 0, .slice none 0 0, .slice none 0 0, .slice none 0 0, .slice none 0 0, .slice none 0 0, .slice none 0 0, .slice none 0 0, .slice none 0 0, .slice none 0 0, .slice none 0 0, .slice none 0 0, .slice none 0 0, .slice none 0 0, .slice none 0 0, .slice none 0 0, .slice none 0 0, .slice none 0 0, .slice none 0 0, .slice none 0 0, .slice none 0 0, .slice none 0 0, .slice none 0 0, .slice none 0 0, .slice none 0 0, .slice none 0 0, .slice none 0 0, .slice none 0 0] 143)) (w.heap.size + 1 + 1) #[.slice none 0 0, .slice none 0 0, .slice none 0 0, .slice none 0 0, .slice none 0 0, .slice none 0 0, .slice none 0 0, .slice none 0 0, .slice none 0 0, .slice none 0 0, .slice none 0 0, .slice none 0 0, .slice none 0 0, .slice none 0 0, .slice none 0 0, .slice none 0 0, .slice none 0 0, .slice none 0 0, .slice none 0 0, .slice none 0 0, .slice none 0 0, .slice none 0 0, .slice none 0 0, .slice none 0 0, .slice none 0 0, .slice none 0 0, .slice none 0 0, .slice none 0 0, .slice none 0 0, .slice none 0 0, .slice none 0 0, .slice none 0 0, .slice none 0 0, .slice none 0 0, .slice none 0 0, .slice none 0 0, .slice none 0 0, .slice none 0 0, .slice none 0 0, .slice none 0 0] 143) := VarIs.new _ _ _ (by simp)
  have B0 : Hid (∀ o o' o'', Below w.heap.size w (((w.alloc o).alloc o').alloc o'')) := fun o o' o'' => (((Below.refl _ _).alloc (Nat.le_refl _) _).alloc (by simp) _).alloc (by simp; omega) _
  go_enter Tryz.func124, Tryz.ntmps124
  go_wp2_with fail
  go_loopw [9] (fun i wr => ∃ (k : Nat) (C : Array Value), k ≤ n5 ∧ i = .int .i64 k ∧ Hid (Below w.heap.size w wr) ∧ Hid (VarIs wr w.heap.size #[.int .i64 st, .int .i64 it, v2, v3, .slice a4 n4 c4, .slice a5 n5 c5] 31) ∧ Hid (VarIs wr (w.heap.size + 1) #[.slice none 0 0, .slice none 0 0, .slice none 0 0, .slice none 0 0, .slice none 0 0, .slice none 0 0, .slice none 0 0, .slice none 0 0, .slice none 0 0, .slice none 0 0, .slice none 0 0, .slice none 0 0, .slice none 0 0, .slice none 0 0, .slice none 0 0, .slice none 0 0, .slice none 0 0, .slice none 0 0, .slice none 0 0, .slice none 0 0, .slice none 0 0, .slice none 0 0, .slice none 0 0, .slice none 0 0, .slice none 0 0, .slice none 0 0, .slice none 0 0, .slice none 0 0, .slice none 0 0, .slice none 0 0, .slice none 0 0, .slice none 0 0, .slice none 0 0, .slice none 0 0, .slice none 0 0, .slice none 0 0, .slice none 0 0, .slice none 0 0, .slice none 0 0, .slice none 0 0] 143) ∧ Hid (VarIs wr (w.heap.size + 1 + 1) C 143) ∧ Hid (HidAt wr (w.heap.size + 3) C hids (steps.take k))) (fun i _ => n5 - (intOf i).toNat)
  case atStart => exact ⟨0, _, Nat.zero_le _, rfl, B0.out _ _ _, V0.out, V1.out, V2.out, by unfold Hid; rw [List.take_zero]; exact HidAt.start _ _ _ _ rfl⟩
  case round =>
    obtain ⟨k, C, hk, rfl, HB, HVA, HVB, HVR, HRW⟩ := hrel
    clear V0 V1 V2 B0
    by_cases hlt : k < n5
    · obtain ⟨b, off, rfl, hb, hcell⟩ := HC5.out (by omega)
      have hkx : k < steps.length := by rw [HL5.out]; exact hlt
      obtain ⟨⟨f, y, z⟩, hs⟩ : ∃ t, t = steps[k] := ⟨_, rfl⟩
      have hf := HGD.out steps[k] (List.getElem_mem hkx)
      rw [← hs] at hf
      simp only at hf
      obtain ⟨s, rfl⟩ : ∃ s : Nat, f = (s : Int) := ⟨f.toNat, by omega⟩
      have hs40 : s < 40 := by omega
      have hs40' : (s : Int) < 40 := by omega
      obtain ⟨d0, d1, d2⟩ := hcell k steps[k] (List.getElem?_eq_getElem hkx)
      rw [← hs] at d0 d1 d2
      have g0 := (HB.out.cell (p := ⟨b, off + k * 3, none⟩) hb).trans d0
      have g1 := (HB.out.cell (p := ⟨b, off + k * 3 + 1, none⟩) hb).trans d1
      have g2 := (HB.out.cell (p := ⟨b, off + k * 3 + 2, none⟩) hb).trans d2
      simp only at g0 g1 g2
      have HS := Lib.hid hs
      have kb := HVA.out.cell (j := 5) rfl
      have kh : (wr.alloc (.cells #[.int .i64 (s : Int), .int .i64 y, .int .i64 z] 48)).cell? ⟨w.heap.size, 4, none⟩ = some (.slice a4 n4 c4) := (HVA.out.alloc _).cell (j := 4) rfl
      obtain ⟨q, hq⟩ : ∃ q, q = hasB hids y := ⟨_, rfl⟩
      have HQ := Lib.hid hq
      have CH : Hid (Calls Tryz.prog 26 #[.slice a4 n4 c4, .int .i64 y] (wr.alloc (.cells #[.int .i64 (s : Int), .int .i64 y, .int .i64 z] 48)) fun e w' => e = .returned (.bool q) ∧ (wr.alloc (.cells #[.int .i64 (s : Int), .int .i64 y, .int .i64 z] 48)) = w') := by
        unfold Hid
        rw [hq]
        exact (implSetHas_any a4 n4 c4 y hids _ (R4.out.below (HB.out.alloc HB.out.size _)) (by omega)).mono fun _ _ h => ⟨h.1, h.2.symm⟩
      clear hq
      cases q with
      | false =>
        have HP : Hid (HidAt (wr.alloc (.cells #[.int .i64 (s : Int), .int .i64 y, .int .i64 z] 48)) (w.heap.size + 3) C hids (steps.take (k + 1))) := by
          unfold Hid
          rw [List.take_succ_eq_append_getElem hkx, ← HS.out]
          exact (HRW.out.alloc _).skip HQ.out.symm
        have BB := Lib.hid (HB.out.alloc HB.out.size (.cells #[.int .i64 (s : Int), .int .i64 y, .int .i64 z] 48))
        have VA2 := Lib.hid (HVA.out.alloc (.cells #[.int .i64 (s : Int), .int .i64 y, .int .i64 z] 48))
        have VB2 := Lib.hid (HVB.out.alloc (.cells #[.int .i64 (s : Int), .int .i64 y, .int .i64 z] 48))
        have VR2 := Lib.hid (HVR.out.alloc (.cells #[.int .i64 (s : Int), .int .i64 y, .int .i64 z] 48))
        clear d0 d1 d2 hs hcell hf HRW
        go_wp2_with fail
        refine CH.out.mono ?_
        rintro e w' ⟨rfl, rfl⟩
        clear g0 g1 g2 kb kh
        go_wp2_with fail
        go_roundw
        case rel => exact ⟨k + 1, _, by omega, by go_num, BB.out, VA2.out, VB2.out, VR2.out, HP.out⟩
        case measure => simp [intOf]; omega
      | true =>
        obtain ⟨ar, cr, hCs, hor⟩ := HRW.out.2.1 s hs40
        obtain ⟨row, hrow⟩ : ∃ r, r = hidR hids (steps.take k) (s : Int) := ⟨_, rfl⟩
        obtain ⟨m, hm⟩ : ∃ m, m = row.length := ⟨_, rfl⟩
        have hmk : m ≤ k := by
          rw [hm, hrow]
          exact Nat.le_trans (hidR_len _ _ _) (by simp; omega)
        rw [← hrow, ← hm] at hCs hor
        have CS := Lib.hid hCs
        have hrs : w.heap.size + 3 ≤ wr.heap.size := by
          have := HVR.out.lt
          omega
        have OR : Hid ((((wr.alloc (.cells #[.int .i64 (s : Int), .int .i64 y, .int .i64 z] 48)).alloc (.cells #[.int .i64 z] 3)).drew).ownsRow (w.heap.size + 3) 3 1 (.slice ar m cr) m (row.map (Value.int .i64))) := (((hor.alloc (.cells #[.int .i64 (s : Int), .int .i64 y, .int .i64 z] 48)).alloc (.cells #[.int .i64 z] 3)).below (Below.refl _ _).drew)
        have HH : Hid ((((wr.alloc (.cells #[.int .i64 (s : Int), .int .i64 y, .int .i64 z] 48)).alloc (.cells #[.int .i64 z] 3)).drew).heap.size = wr.heap.size + 1 + 1) := by
          unfold Hid
          simp
        have hbs : Hid (w.heap.size + 3 ≤ (((wr.alloc (.cells #[.int .i64 (s : Int), .int .i64 y, .int .i64 z] 48)).alloc (.cells #[.int .i64 z] 3)).drew).heap.size) := by
          rw [HH.out]
          unfold Hid
          omega
        have SN : Hid (∀ j u, ([z].map (Value.int .i64))[j]? = some u → (((wr.alloc (.cells #[.int .i64 (s : Int), .int .i64 y, .int .i64 z] 48)).alloc (.cells #[.int .i64 z] 3)).drew).cell? ((⟨wr.heap.size + 1, 0, none⟩ : Addr).add j) = some u) := fun j u hu => by
          have hv : VarIs (((wr.alloc (.cells #[.int .i64 (s : Int), .int .i64 y, .int .i64 z] 48)).alloc (.cells #[.int .i64 z] 3)).drew) (wr.heap.size + 1) #[.int .i64 z] 3 := (VarIs.new (wr.alloc (.cells #[.int .i64 (s : Int), .int .i64 y, .int .i64 z] 48)) #[.int .i64 z] 3 (by simp)).drew
          rw [add_lit, Nat.zero_add]
          exact hv.cell (by simpa using hu)
        have XN : Hid (VarIs (((wr.alloc (.cells #[.int .i64 (s : Int), .int .i64 y, .int .i64 z] 48)).alloc (.cells #[.int .i64 z] 3)).drew) wr.heap.size #[.int .i64 (s : Int), .int .i64 y, .int .i64 z] 48) := ((VarIs.new wr #[.int .i64 (s : Int), .int .i64 y, .int .i64 z] 48 rfl).alloc _).drew
        have rlt : ∀ q, (Value.slice ar m cr).ownBlock = some q → w.heap.size + 3 ≤ q ∧ q < wr.heap.size := fun q hq => hor.lt q hq
        have XK : Hid (∀ w', World.grownBy (((wr.alloc (.cells #[.int .i64 (s : Int), .int .i64 y, .int .i64 z] 48)).alloc (.cells #[.int .i64 z] 3)).drew) w' (Value.slice ar m cr).ownBlock → VarIs w' wr.heap.size #[.int .i64 (s : Int), .int .i64 y, .int .i64 z] 48 ∧ w'.cell? ⟨wr.heap.size, 0, none⟩ = some (.int .i64 (s : Int)) ∧ w'.cell? ⟨wr.heap.size, 1, none⟩ = some (.int .i64 y) ∧ w'.cell? ⟨wr.heap.size, 2, none⟩ = some (.int .i64 z)) := fun w' hg => by
          have := XN.out.grown hg (fun e => by have := (rlt _ e.symm).2; omega)
          exact ⟨this, this.cell rfl, this.cell rfl, this.cell rfl⟩
        have VK : Hid (∀ w', World.grownBy (((wr.alloc (.cells #[.int .i64 (s : Int), .int .i64 y, .int .i64 z] 48)).alloc (.cells #[.int .i64 z] 3)).drew) w' (Value.slice ar m cr).ownBlock → VarIs w' (w.heap.size + 1 + 1) C 143) := fun w' hg => (((HVR.out.alloc _).alloc _).drew).grown hg (fun e => by have := (rlt _ e.symm).1; omega)
        have AK : Hid (∀ w', World.grownBy (((wr.alloc (.cells #[.int .i64 (s : Int), .int .i64 y, .int .i64 z] 48)).alloc (.cells #[.int .i64 z] 3)).drew) w' (Value.slice ar m cr).ownBlock → VarIs w' w.heap.size #[.int .i64 st, .int .i64 it, v2, v3, .slice a4 n4 c4, .slice (some ⟨b, off, none⟩) n5 c5] 31) := fun w' hg => (((HVA.out.alloc _).alloc _).drew).grown hg (fun e => by have := (rlt _ e.symm).1; omega)
        have BK : Hid (∀ w', World.grownBy (((wr.alloc (.cells #[.int .i64 (s : Int), .int .i64 y, .int .i64 z] 48)).alloc (.cells #[.int .i64 z] 3)).drew) w' (Value.slice ar m cr).ownBlock → VarIs w' (w.heap.size + 1) #[.slice none 0 0, .slice none 0 0, .slice none 0 0, .slice none 0 0, .slice none 0 0, .slice none 0 0, .slice none 0 0, .slice none 0 0, .slice none 0 0, .slice none 0 0, .slice none 0 0, .slice none 0 0, .slice none 0 0, .slice none 0 0, .slice none 0 0, .slice none 0 0, .slice none 0 0, .slice none 0 0, .slice none 0 0, .slice none 0 0, .slice none 0 0, .slice none 0 0, .slice none 0 0, .slice none 0 0, .slice none 0 0, .slice none 0 0, .slice none 0 0, .slice none 0 0, .slice none 0 0, .slice none 0 0, .slice none 0 0, .slice none 0 0, .slice none 0 0, .slice none 0 0, .slice none 0 0, .slice none 0 0, .slice none 0 0, .slice none 0 0, .slice none 0 0, .slice none 0 0] 143) := fun w' hg => (((HVB.out.alloc _).alloc _).drew).grown hg (fun e => by have := (rlt _ e.symm).1; omega)
        have BELOW : Hid (∀ w', World.grownBy (((wr.alloc (.cells #[.int .i64 (s : Int), .int .i64 y, .int .i64 z] 48)).alloc (.cells #[.int .i64 z] 3)).drew) w' (Value.slice ar m cr).ownBlock → Below w.heap.size w w') := fun w' hg => Below.grown (((HB.out.alloc HB.out.size _).alloc (by simp; omega) _).drew) hg (by rw [HH.out]; omega) (fun q hq => by have := (rlt q hq).1; omega)
        have PUT : Hid (∀ g cap w', World.grownBy (((wr.alloc (.cells #[.int .i64 (s : Int), .int .i64 y, .int .i64 z] 48)).alloc (.cells #[.int .i64 z] 3)).drew) w' (Value.slice ar m cr).ownBlock → w'.ownsRow (w.heap.size + 3) 3 1 (.slice (some ⟨g, 0, none⟩) (m + 1) cap) (m + 1) (row.map (Value.int .i64) ++ [z].map (Value.int .i64)) → ((Value.slice ar m cr).ownBlock = some g ∨ g = wr.heap.size + 1 + 1) →
            HidAt (w'.setCell ⟨(w.heap.size + 1 + 1), s, none⟩ (.slice (some ⟨g, 0, none⟩) (m + 1) cap)) (w.heap.size + 3) (C.setIfInBounds s (.slice (some ⟨g, 0, none⟩) (m + 1) cap)) hids (steps.take (k + 1))) := fun g cap w' hg ho hl => by
          have h0 := ((HRW.out.alloc (.cells #[.int .i64 (s : Int), .int .i64 y, .int .i64 z] 48)).alloc (.cells #[.int .i64 z] 3)).drew
          rw [List.take_succ_eq_append_getElem hkx, ← HS.out]
          rw [← List.map_append] at ho
          rw [hm, hrow] at hg ho hl ⊢
          rw [hm, hrow] at hCs
          exact h0.put hs40 rfl HQ.out.symm hCs hg ho hl HH.out (by omega)
        have X0 := (VarIs.new wr #[.int .i64 (s : Int), .int .i64 y, .int .i64 z] 48 rfl).drew
        have S0 : VarIs (wr.alloc (.cells #[.int .i64 (s : Int), .int .i64 y, .int .i64 z] 48)).drew wr.heap.size #[.int .i64 (s : Int), .int .i64 y, .int .i64 z] 48 ∧ (wr.alloc (.cells #[.int .i64 (s : Int), .int .i64 y, .int .i64 z] 48)).drew.cell? ⟨wr.heap.size, 0, none⟩ = some (.int .i64 (s : Int)) ∧ (wr.alloc (.cells #[.int .i64 (s : Int), .int .i64 y, .int .i64 z] 48)).drew.cell? ⟨wr.heap.size, 1, none⟩ = some (.int .i64 y) ∧ (wr.alloc (.cells #[.int .i64 (s : Int), .int .i64 y, .int .i64 z] 48)).drew.cell? ⟨wr.heap.size, 2, none⟩ = some (.int .i64 z) := ⟨X0, X0.cell rfl, X0.cell rfl, X0.cell rfl⟩
        have SW : Hid (VarIs ((wr.alloc (.cells #[.int .i64 (s : Int), .int .i64 y, .int .i64 z] 48)).alloc (.cells #[.int .i64 z] 3)).drew wr.heap.size #[.int .i64 (s : Int), .int .i64 y, .int .i64 z] 48 ∧ ((wr.alloc (.cells #[.int .i64 (s : Int), .int .i64 y, .int .i64 z] 48)).alloc (.cells #[.int .i64 z] 3)).drew.cell? ⟨wr.heap.size, 0, none⟩ = some (.int .i64 (s : Int)) ∧ ((wr.alloc (.cells #[.int .i64 (s : Int), .int .i64 y, .int .i64 z] 48)).alloc (.cells #[.int .i64 z] 3)).drew.cell? ⟨wr.heap.size, 1, none⟩ = some (.int .i64 y) ∧ ((wr.alloc (.cells #[.int .i64 (s : Int), .int .i64 y, .int .i64 z] 48)).alloc (.cells #[.int .i64 z] 3)).drew.cell? ⟨wr.heap.size, 2, none⟩ = some (.int .i64 z)) := ⟨XN.out, XN.out.cell rfl, XN.out.cell rfl, XN.out.cell rfl⟩
        clear d0 d1 d2 hs hcell hCs hor hrow hm hf X0 XN HRW
        go_wp2_with fail
        refine CH.out.mono ?_
        rintro e w' ⟨rfl, rfl⟩
        clear g0 g1 g2 kb kh
        go_wp2_with fail
        refine wp_region_held_drew (S := fun w' => VarIs w' wr.heap.size #[.int .i64 (s : Int), .int .i64 y, .int .i64 z] 48 ∧ w'.cell? ⟨wr.heap.size, 0, none⟩ = some (.int .i64 (s : Int)) ∧ w'.cell? ⟨wr.heap.size, 1, none⟩ = some (.int .i64 y) ∧ w'.cell? ⟨wr.heap.size, 2, none⟩ = some (.int .i64 z)) (by kernel_rfl) S0 (fun hHeld => ?_)
        change wpAnyH _ _ _ _ _ 12 (Array.replicate 12 false) _ _
        refine take_op 0 18 (.pointer (some ⟨wr.heap.size, 0, none⟩)) (fuel := 11) rfl rfl (by kernel_rfl) (by kernel_rfl) (by kernel_rfl) (fun _ _ _ h => h) (by rfl) (fun w hSw => by go_simp) hHeld ?_
        simp only [Act.put, List.setIfInBounds_toArray, List.set_cons_zero, List.set_cons_succ]
        refine take_op 1 19 (.int .i64 (s : Int)) (fuel := 10) rfl rfl (by kernel_rfl) (by kernel_rfl) (by kernel_rfl) (fun _ _ _ h => h) (by rfl) (fun w hSw => by go_simp) hHeld ?_
        simp only [Act.put, List.setIfInBounds_toArray, List.set_cons_zero, List.set_cons_succ]
        refine take_op 2 20 (.pointer (some ⟨wr.heap.size, 0, none⟩)) (fuel := 9) rfl rfl (by kernel_rfl) (by kernel_rfl) (by kernel_rfl) (fun _ _ _ h => h) (by rfl) (fun w hSw => by go_simp) hHeld ?_
        simp only [Act.put, List.setIfInBounds_toArray, List.set_cons_zero, List.set_cons_succ]
        refine take_op 3 21 (.int .i64 (s : Int)) (fuel := 8) rfl rfl (by kernel_rfl) (by kernel_rfl) (by kernel_rfl) (fun _ _ _ h => h) (by rfl) (fun w hSw => by go_simp) hHeld ?_
        simp only [Act.put, List.setIfInBounds_toArray, List.set_cons_zero, List.set_cons_succ]
        refine take_op 4 22 (.pointer (some ⟨(w.heap.size + 1 + 1), s, none⟩)) (fuel := 7) rfl rfl (by kernel_rfl) (by kernel_rfl) (by kernel_rfl) (fun _ _ _ h => h) (by rfl) (fun w hSw => by go_simp) hHeld ?_
        simp only [Act.put, List.setIfInBounds_toArray, List.set_cons_zero, List.set_cons_succ]
        refine take_op 6 24 (.pointer (some ⟨wr.heap.size, 2, none⟩)) (fuel := 6) rfl rfl (by kernel_rfl) (by kernel_rfl) (by kernel_rfl) (fun _ _ _ h => h) (by rfl) (fun w hSw => by go_simp) hHeld ?_
        simp only [Act.put, List.setIfInBounds_toArray, List.set_cons_zero, List.set_cons_succ]
        refine take_op 7 25 (.int .i64 z) (fuel := 5) rfl rfl (by kernel_rfl) (by kernel_rfl) (by kernel_rfl) (fun _ _ _ h => h) (by rfl) (fun w hSw => by go_simp) hHeld ?_
        simp only [Act.put, List.setIfInBounds_toArray, List.set_cons_zero, List.set_cons_succ]

        refine wpAnyH_ready (rs := [5, 8]) (fuel := 4) (by kernel_rfl) (by simp) ?_
        refine AllReadyH.cons rfl (fun K hK => ?_) ?_
        · have rc2 : ((wr.alloc (.cells #[.int .i64 (s : Int), .int .i64 y, .int .i64 z] 48)).drew).cell? ⟨(w.heap.size + 1 + 1), s, none⟩ = some (.slice ar m cr) := (((HVR.out.alloc _).drew).cell CS.out)
          go_simp
          refine hK.out _ _ S0 (fun hHeld => ?_)
          clear hK K rc2
          refine wpAnyH_ready (rs := [8]) (fuel := 3) (by kernel_rfl) (by simp) ?_
          refine AllReadyH.cons rfl (fun K hK => ?_) AllReadyH.nil
          go_simp
          refine hK.out _ _ SW.out (fun hHeld => ?_)
          clear hK K S0
          refine wpAnyH_ready (rs := [9]) (fuel := 2) (by kernel_rfl) (by simp) ?_
          refine AllReadyH.cons rfl (fun K hK => ?_) AllReadyH.nil
          refine step_append_lies _ rfl (.tmp 23) (.tmp 26) 22 rfl (w.heap.size + 3) 3 i0 (.int .i64 0) 1 8 Tryz.underlying22 hi0 hz0 hz1 hz2 rfl (by decide) (.slice ar m cr) m (row.map (Value.int .i64)) rfl OR.out ⟨wr.heap.size + 1, 0, none⟩ 1 1 ([z].map (Value.int .i64)) rfl rfl SN.out (ints_oneCell _ _) (by decide) (by unfold maxLen; omega) (by omega) hbs.out (wr.heap.size + 1 + 1) HH.out ?_
          intro g cap w' hown' hgrow hlies hlt'
          have HS1 : VarIs w' wr.heap.size #[.int .i64 (s : Int), .int .i64 y, .int .i64 z] 48 ∧ w'.cell? ⟨wr.heap.size, 0, none⟩ = some (.int .i64 (s : Int)) ∧ w'.cell? ⟨wr.heap.size, 1, none⟩ = some (.int .i64 y) ∧ w'.cell? ⟨wr.heap.size, 2, none⟩ = some (.int .i64 z) := XK.out w' hgrow
          have HO1 := Lib.hid hown'
          have HG1 := Lib.hid hgrow
          have HL1 := Lib.hid hlies
          clear hown' hgrow hlies hlt'
          refine hK.out _ _ HS1 (fun hHeld => ?_)
          clear hK K HS1
          simp only [Act.put, List.setIfInBounds_toArray]
          have VR1 := Lib.hid (VK.out w' HG1.out)
          have kcell := VR1.out.cell (j := s) CS.out
          have kfro := VR1.out.frozen s
          refine take_op 10 28 (.pointer (some ⟨(w.heap.size + 1 + 1), s, none⟩)) (fuel := 1) rfl rfl (by kernel_rfl) (by kernel_rfl) (by kernel_rfl) (fun _ _ _ h => h) (by rfl) (fun w hSw => by go_simp) hHeld ?_
          simp only [Act.put]
          refine wpAnyH_ready (rs := [11]) (fuel := 0) (by kernel_rfl) (by simp) ?_
          refine AllReadyH.cons rfl (fun K hK => ?_) AllReadyH.nil
          go_simp
          have HX2 : VarIs (w'.setCell ⟨(w.heap.size + 1 + 1), s, none⟩ (.slice (some ⟨g, 0, none⟩) (m + 1) cap)) wr.heap.size #[.int .i64 (s : Int), .int .i64 y, .int .i64 z] 48 := hHeld.1.other (by omega) _
          refine hK.out _ _ ⟨HX2, HX2.cell rfl, HX2.cell rfl, HX2.cell rfl⟩ (fun hHeld2 => ?_)
          clear hK K HX2
          refine wpAnyH_done (by kernel_rfl) ?_ _
          have HP := Lib.hid (PUT.out g cap w' HG1.out HO1.out HL1.out)
          have VR2 := Lib.hid (VR1.out.set s (.slice (some ⟨g, 0, none⟩) (m + 1) cap))
          have VA2 := Lib.hid ((AK.out w' HG1.out).other (g := (w.heap.size + 1 + 1)) (j := s) (by omega) (.slice (some ⟨g, 0, none⟩) (m + 1) cap))
          have VB2 := Lib.hid ((BK.out w' HG1.out).other (g := (w.heap.size + 1 + 1)) (j := s) (by omega) (.slice (some ⟨g, 0, none⟩) (m + 1) cap))
          have BB := Lib.hid (below_setCell (g := (w.heap.size + 1 + 1)) (j := s) (BELOW.out w' HG1.out) (by omega) (.slice (some ⟨g, 0, none⟩) (m + 1) cap))
          clear hHeld hHeld2 kcell kfro VR1 HO1 HG1 HL1
          go_wp2_with fail
          go_roundw
          case rel => exact ⟨k + 1, _, by omega, by go_num, BB.out, VA2.out, VB2.out, VR2.out, HP.out⟩
          case measure => simp [intOf]; omega
        · refine AllReadyH.cons rfl (fun K hK => ?_) AllReadyH.nil
          go_simp
          refine hK.out _ _ SW.out (fun hHeld => ?_)
          clear hK K S0
          have rc2 : (((wr.alloc (.cells #[.int .i64 (s : Int), .int .i64 y, .int .i64 z] 48)).alloc (.cells #[.int .i64 z] 3)).drew).cell? ⟨(w.heap.size + 1 + 1), s, none⟩ = some (.slice ar m cr) := ((((HVR.out.alloc _).alloc _).drew).cell CS.out)
          refine wpAnyH_ready (rs := [5]) (fuel := 3) (by kernel_rfl) (by simp) ?_
          refine AllReadyH.cons rfl (fun K hK => ?_) AllReadyH.nil
          go_simp
          refine hK.out _ _ SW.out (fun hHeld => ?_)
          clear hK K rc2
          refine wpAnyH_ready (rs := [9]) (fuel := 2) (by kernel_rfl) (by simp) ?_
          refine AllReadyH.cons rfl (fun K hK => ?_) AllReadyH.nil
          refine step_append_lies _ rfl (.tmp 23) (.tmp 26) 22 rfl (w.heap.size + 3) 3 i0 (.int .i64 0) 1 8 Tryz.underlying22 hi0 hz0 hz1 hz2 rfl (by decide) (.slice ar m cr) m (row.map (Value.int .i64)) rfl OR.out ⟨wr.heap.size + 1, 0, none⟩ 1 1 ([z].map (Value.int .i64)) rfl rfl SN.out (ints_oneCell _ _) (by decide) (by unfold maxLen; omega) (by omega) hbs.out (wr.heap.size + 1 + 1) HH.out ?_
          intro g cap w' hown' hgrow hlies hlt'
          have HS1 : VarIs w' wr.heap.size #[.int .i64 (s : Int), .int .i64 y, .int .i64 z] 48 ∧ w'.cell? ⟨wr.heap.size, 0, none⟩ = some (.int .i64 (s : Int)) ∧ w'.cell? ⟨wr.heap.size, 1, none⟩ = some (.int .i64 y) ∧ w'.cell? ⟨wr.heap.size, 2, none⟩ = some (.int .i64 z) := XK.out w' hgrow
          have HO1 := Lib.hid hown'
          have HG1 := Lib.hid hgrow
          have HL1 := Lib.hid hlies
          clear hown' hgrow hlies hlt'
          refine hK.out _ _ HS1 (fun hHeld => ?_)
          clear hK K HS1
          simp only [Act.put, List.setIfInBounds_toArray]
          have VR1 := Lib.hid (VK.out w' HG1.out)
          have kcell := VR1.out.cell (j := s) CS.out
          have kfro := VR1.out.frozen s
          refine take_op 10 28 (.pointer (some ⟨(w.heap.size + 1 + 1), s, none⟩)) (fuel := 1) rfl rfl (by kernel_rfl) (by kernel_rfl) (by kernel_rfl) (fun _ _ _ h => h) (by rfl) (fun w hSw => by go_simp) hHeld ?_
          simp only [Act.put]
          refine wpAnyH_ready (rs := [11]) (fuel := 0) (by kernel_rfl) (by simp) ?_
          refine AllReadyH.cons rfl (fun K hK => ?_) AllReadyH.nil
          go_simp
          have HX2 : VarIs (w'.setCell ⟨(w.heap.size + 1 + 1), s, none⟩ (.slice (some ⟨g, 0, none⟩) (m + 1) cap)) wr.heap.size #[.int .i64 (s : Int), .int .i64 y, .int .i64 z] 48 := hHeld.1.other (by omega) _
          refine hK.out _ _ ⟨HX2, HX2.cell rfl, HX2.cell rfl, HX2.cell rfl⟩ (fun hHeld2 => ?_)
          clear hK K HX2
          refine wpAnyH_done (by kernel_rfl) ?_ _
          have HP := Lib.hid (PUT.out g cap w' HG1.out HO1.out HL1.out)
          have VR2 := Lib.hid (VR1.out.set s (.slice (some ⟨g, 0, none⟩) (m + 1) cap))
          have VA2 := Lib.hid ((AK.out w' HG1.out).other (g := (w.heap.size + 1 + 1)) (j := s) (by omega) (.slice (some ⟨g, 0, none⟩) (m + 1) cap))
          have VB2 := Lib.hid ((BK.out w' HG1.out).other (g := (w.heap.size + 1 + 1)) (j := s) (by omega) (.slice (some ⟨g, 0, none⟩) (m + 1) cap))
          have BB := Lib.hid (below_setCell (g := (w.heap.size + 1 + 1)) (j := s) (BELOW.out w' HG1.out) (by omega) (.slice (some ⟨g, 0, none⟩) (m + 1) cap))
          clear hHeld hHeld2 kcell kfro VR1 HO1 HG1 HL1
          go_wp2_with fail
          go_roundw
          case rel => exact ⟨k + 1, _, by omega, by go_num, BB.out, VA2.out, VB2.out, VR2.out, HP.out⟩
          case measure => simp [intOf]; omega
    · have HE : Hid (HidAt wr (w.heap.size + 3) C hids steps) := by
        have := HRW.out
        rw [List.take_of_length_le (by rw [HL5.out]; omega)] at this
        exact this
      have hCl : C.toList.length = 40 := by simpa using HE.out.1
      have HCL := Lib.hid hCl
      have RG := Lib.hid HVR.out.range
      have TH : Hid (wr.there (w.heap.size + 1) 0 C.toList.toArray.size) := HVB.out.there (by simp [HE.out.1])
      have ON : Hid (C.toList.toArray.all (·.oneCell') = true) := all_oneCell_toArray (fun u hu => HE.out.one u (by simpa using hu))
      clear hCl HRW
      go_wp2_with (first | refine wpList_load_mid rfl _ _ rfl (w.heap.size + 1 + 1) 0 rfl C.toList _ RG.out Tryz.underlying143 rfl (by rw [HCL.out]; kernel_rfl) ?_ | refine wpList_store_mid rfl _ _ _ rfl (w.heap.size + 1) 0 C.toList.toArray rfl rfl TH.out (by rw [List.size_toArray, HCL.out]; kernel_rfl) ON.out ?_)
      have RG2 : Hid ((wr.setCells (w.heap.size + 1) 0 C.toList).rangeAt (w.heap.size + 1) 0 C.toList) := World.rangeAt_setCells_same wr (w.heap.size + 1) 0 C.toList (by simpa using TH.out)
      have HGS := Lib.hid (grown_setCells (w.heap.size + 1) C.toList 0 wr)
      refine bodyPost_ret (v := .agg C) ?_ rfl ⟨C, rfl, (HE.out.grown HGS.out (by omega)).mono (by omega), HB.out.grown HGS.out HB.out.size (fun q hq => by cases hq; omega)⟩
      have HLD := run_loadVar_mid (P := Tryz.prog) _ (w.heap.size + 1) 0 143 C.toList _ RG2.out Tryz.underlying143 rfl (by rw [HCL.out]; kernel_rfl)
      simp [results, Tryz.results124, asAddr, HLD]

end Go.Proofs.YtdbgjgeglgipiaaGreat
