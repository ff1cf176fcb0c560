/-
  The contract of the model's draw of an automaton (ia): some automaton, its lists in new memory. Conditions: those of the cursor.
-/
import Derived.Test.YtfhjhfhfbgddeaaGreatDoorDraw
import Derived.Test.YtfhjhfhfbgddeaaGreatDoorIaLaw
import Derived.Deep.AppendLies
namespace Go.Proofs.YtfhjhfhfbgddeaaGreatDoor
open Go.RowKit

/-- Three rows of the call's own, no two in one block. -/
structure Three (W : World) (lo : Nat) (v2 v3 v4 : Value) (n2 n3 n4 : Nat) (I O H : List Int) : Prop where
  o2 : Owns W lo v2 n2 I
  o3 : Owns W lo v3 n3 O
  o4 : Owns W lo v4 n4 H
  p2 : ∀ b, v2.ownBlock = some b → v3.ownBlock ≠ some b ∧ v4.ownBlock ≠ some b
  p3 : ∀ b, v3.ownBlock = some b → v4.ownBlock ≠ some b
  l2 : NearL I
  l3 : NearL O
  l4 : NearL H

section
variable {W W' : World} {lo : Nat} {v2 v3 v4 : Value} {n2 n3 n4 : Nat} {I O H : List Int}

theorem Three.rot (h : Three W lo v2 v3 v4 n2 n3 n4 I O H) : Three W lo v3 v4 v2 n3 n4 n2 O H I :=
  ⟨h.o3, h.o4, h.o2, fun b hb => ⟨h.p3 b hb, fun e => (h.p2 b e).1 hb⟩, fun b hb e => (h.p2 b e).2 hb, h.l3, h.l4, h.l2⟩

theorem Three.below (h : Three W lo v2 v3 v4 n2 n3 n4 I O H) (hb : Below W.heap.size W W') : Three W' lo v2 v3 v4 n2 n3 n4 I O H :=
  ⟨h.o2.below hb, h.o3.below hb, h.o4.below hb, h.p2, h.p3, h.l2, h.l3, h.l4⟩

theorem Three.keep (h : Three W lo v2 v3 v4 n2 n3 n4 I O H) {q : Nat} (hg : W.grownBy W' (some q)) (hq : q < lo) : Three W' lo v2 v3 v4 n2 n3 n4 I O H :=
  ⟨h.o2.keep hg (fun k hk e => by have h1 := (h.o2.lt k hk).1; have h2 := Option.some.inj e; omega), h.o3.keep hg (fun k hk e => by have h1 := (h.o3.lt k hk).1; have h2 := Option.some.inj e; omega), h.o4.keep hg (fun k hk e => by have h1 := (h.o4.lt k hk).1; have h2 := Option.some.inj e; omega), h.p2, h.p3, h.l2, h.l3, h.l4⟩

/-- The first one is appended to: it lies where it lay, or in a new block. -/
theorem Three.app (h : Three W lo v2 v3 v4 n2 n3 n4 I O H) {g cap m : Nat} {X : List Int} (hg : W.grownBy W' v2.ownBlock) (ho : Owns W' lo (.slice (some ⟨g, 0, none⟩) m cap) m (I ++ X)) (hX : NearL X) (hl : v2.ownBlock = some g ∨ g = W.heap.size) :
    Three W' lo (.slice (some ⟨g, 0, none⟩) m cap) v3 v4 m n3 n4 (I ++ X) O H := by
  have e : (Value.slice (some ⟨g, 0, none⟩) m cap).ownBlock = some g := rfl
  refine ⟨ho, h.o3.keep hg (fun k hk e => (h.p2 k e.symm).1 hk), h.o4.keep hg (fun k hk e => (h.p2 k e.symm).2 hk), fun b hb => ?_, h.p3, ?_, h.l3, h.l4⟩
  · rw [e] at hb
    obtain rfl := Option.some.inj hb
    rcases hl with hl | hl
    · exact h.p2 g hl
    · refine ⟨fun e3 => ?_, fun e4 => ?_⟩
      · have := (h.o3.lt g e3).2; omega
      · have := (h.o4.lt g e4).2; omega
  · intro x hx
    rcases List.mem_append.1 hx with hx | hx
    · exact h.l2 x hx
    · exact hX x hx

end

/-- A number is appended to a row of the call's own; it is told where the row then lies. -/
theorem wpList_one {P : Program} {w : World} {ops : Array Oper} {rest : List Oper} {o : Oper} {a : Act} {Q : Exit → Act → World → Prop} (hgd : o.guard = none) (s x : Operand)
    (ho : o.op = .call { callee := .builtin .append, args := #[s, x], argTypes := #[ 24, 24 ] })
    (base : Nat) (i : TypeInfo) (ht : P.underlying 24 = some (.slice 3)) (hi : P.info? 3 = some i) (hz : i.zero = some (.int .i64 0)) (hsize : i.size = 1) (hby : i.bytes = 8)
    (v : Value) (n : Nat) (xs : List Int) (hs : a.eval s = v) (hown : Owns w base v n xs) (b : Nat) (y : Int) (hx : a.eval x = .slice (some ⟨b, 0, none⟩) 1 1) (hc : w.cell? ⟨b, 0, none⟩ = some (.int .i64 y))
    (hbig : n + 1 ≤ 8796093022208) (hbase : base ≤ w.heap.size)
    (h : ∀ g cap w', Owns w' base (.slice (some ⟨g, 0, none⟩) (n + 1) cap) (n + 1) (xs ++ [y]) → w.grownBy w' v.ownBlock → (v.ownBlock = some g ∨ g = w.heap.size) → wpList P ops Q rest (a.put o.dst (.slice (some ⟨g, 0, none⟩) (n + 1) cap)) w') : wpList P ops Q (o :: rest) a w := by
  refine wpList_append_lies w hgd s x 24 ho base 3 i (.int .i64 0) 1 8 ht hi hz hsize hby rfl (by decide) v n _ hs hown ⟨b, 0, none⟩ 1 1 [.int .i64 y] hx rfl (fun j u hu => ?_) (fun u hu => ?_) (by decide) (by unfold maxLen; omega) (by omega) hbase w.heap.size rfl ?_
  · rw [add_lit]
    obtain ⟨hj, rfl⟩ := List.getElem?_eq_some_iff.1 hu
    obtain rfl : j = 0 := by simpa using hj
    exact hc
  · obtain rfl := List.mem_singleton.1 hu
    rfl
  · intro g cap w' h1 h2 h3 _
    exact h g cap w' (by unfold Owns; rw [List.map_append]; exact h1) h2 h3

/-- Lists that are not too long, of numbers that are not too great. -/
def IaNear (a : IaD) : Prop := a.ins.length ≤ 400 ∧ a.outs.length ≤ 400 ∧ a.hids.length ≤ 400 ∧ a.steps.length ≤ 400

/-- What a draw of an automaton leaves. -/
def IaDrawn (w : World) (P t : Nat) (e : Ending) (w' : World) : Prop :=
  ∃ a v, e = .returned v ∧ IaOwn w' w.heap.size a v ∧ IaNear a ∧ NearL a.ins ∧ NearL a.outs ∧ NearL a.hids ∧ (∀ s ∈ a.steps, Near s) ∧ Cur w' P t ∧ w.grownBy w' (some P)

theorem near_one {x : Int} (h : -1099511627776 ≤ x ∧ x ≤ 1099511627776) : NearL [x] := fun y hy => by obtain rfl := List.mem_singleton.1 hy; exact h

theorem grownBy_own2 {w w1 w2 : World} {P : Nat} {r : Option Nat} (h : w.grownBy w1 (some P)) (k : w1.grownBy w2 r) (hr : ∀ i, r = some i → w.heap.size ≤ i) : w.grownBy w2 (some P) :=
  ⟨k.os.trans h.os, k.tape.trans h.tape, k.output.trans h.output, Nat.le_trans h.size k.size, fun i hi hne => (k.block i (Nat.lt_of_lt_of_le hi h.size) (fun e => by have := hr i e.symm; omega)).trans (h.block i hi hne)⟩

set_option maxRecDepth 20000 in
set_option maxHeartbeats 6400000 in
theorem ia_any (P t : Nat) (w : World) (h : Cur w P t) (ht : t ≤ 100000) :
    Calls Tryz.prog 37 #[.pointer (some ⟨P, 0, none⟩)] w (IaDrawn w P (t + 320)) := by
  obtain ⟨i0, hi, hz0, hz1, hz2⟩ := info_parts info_int
  have hP := h.lt
  have H0 := Lib.hid h
  clear h
  have BZ : Hid (Below w.heap.size w ((((w.alloc (.cells #[.int .i64 0, .int .i64 0, .slice none 0 0, .slice none 0 0, .slice none 0 0, .slice none 0 0] 27)).alloc (.cells #[] 3)).alloc (.cells #[] 3)).alloc (.cells #[] 3))) := ((((Below.refl _ _).alloc (Nat.le_refl _) _).alloc (by simp) _).alloc (by simp; omega) _).alloc (by simp; omega) _
  have HR0 : Hid (VarIs ((((w.alloc (.cells #[.int .i64 0, .int .i64 0, .slice none 0 0, .slice none 0 0, .slice none 0 0, .slice none 0 0] 27)).alloc (.cells #[] 3)).alloc (.cells #[] 3)).alloc (.cells #[] 3)) w.heap.size #[.int .i64 0, .int .i64 0, .slice none 0 0, .slice none 0 0, .slice none 0 0, .slice none 0 0] 27) := (((VarIs.new w #[.int .i64 0, .int .i64 0, .slice none 0 0, .slice none 0 0, .slice none 0 0, .slice none 0 0] 27 rfl).alloc _).alloc _).alloc _
  have HT0 : Hid (Three ((((w.alloc (.cells #[.int .i64 0, .int .i64 0, .slice none 0 0, .slice none 0 0, .slice none 0 0, .slice none 0 0] 27)).alloc (.cells #[] 3)).alloc (.cells #[] 3)).alloc (.cells #[] 3)) (w.heap.size + 1) (.slice (some ⟨w.heap.size + 1, 0, none⟩) 0 0) (.slice (some ⟨w.heap.size + 1 + 1, 0, none⟩) 0 0) (.slice (some ⟨w.heap.size + 1 + 1 + 1, 0, none⟩) 0 0) 0 0 0 [] [] []) := by
    have a1 : Owns ((w.alloc (.cells #[.int .i64 0, .int .i64 0, .slice none 0 0, .slice none 0 0, .slice none 0 0, .slice none 0 0] 27)).alloc (.cells #[] 3)) (w.heap.size + 1) (.slice (some ⟨w.heap.size + 1, 0, none⟩) 0 0) 0 [] := by
      have := owns_lit (w.alloc (.cells #[.int .i64 0, .int .i64 0, .slice none 0 0, .slice none 0 0, .slice none 0 0, .slice none 0 0] 27)) [] 0 rfl (by unfold maxLen; omega)
      simpa using this
    have a2 : Owns (((w.alloc (.cells #[.int .i64 0, .int .i64 0, .slice none 0 0, .slice none 0 0, .slice none 0 0, .slice none 0 0] 27)).alloc (.cells #[] 3)).alloc (.cells #[] 3)) (w.heap.size + 1 + 1) (.slice (some ⟨w.heap.size + 1 + 1, 0, none⟩) 0 0) 0 [] := by
      have := owns_lit ((w.alloc (.cells #[.int .i64 0, .int .i64 0, .slice none 0 0, .slice none 0 0, .slice none 0 0, .slice none 0 0] 27)).alloc (.cells #[] 3)) [] 0 rfl (by unfold maxLen; omega)
      simpa using this
    have a3 : Owns ((((w.alloc (.cells #[.int .i64 0, .int .i64 0, .slice none 0 0, .slice none 0 0, .slice none 0 0, .slice none 0 0] 27)).alloc (.cells #[] 3)).alloc (.cells #[] 3)).alloc (.cells #[] 3)) (w.heap.size + 1 + 1 + 1) (.slice (some ⟨w.heap.size + 1 + 1 + 1, 0, none⟩) 0 0) 0 [] := by
      have := owns_lit (((w.alloc (.cells #[.int .i64 0, .int .i64 0, .slice none 0 0, .slice none 0 0, .slice none 0 0, .slice none 0 0] 27)).alloc (.cells #[] 3)).alloc (.cells #[] 3)) [] 0 rfl (by unfold maxLen; omega)
      simpa using this
    refine ⟨((a1.alloc _).alloc _), (a2.alloc _).mono (by omega), a3.mono (by omega), fun b hb => ?_, fun b hb => ?_, fun x hx => by simp at hx, fun x hx => by simp at hx, fun x hx => by simp at hx⟩
    · have e1 : w.heap.size + 1 = b := by simpa [Value.ownBlock] using hb
      subst e1
      constructor
      · intro h; have h1 := Option.some.inj h; simp only at h1; omega
      · intro h; have h1 := Option.some.inj h; simp only at h1; omega
    · have e1 : w.heap.size + 1 + 1 = b := by simpa [Value.ownBlock] using hb
      subst e1
      intro h
      have h1 := Option.some.inj h
      simp only at h1
      omega
  go_enter Tryz.func37, Tryz.ntmps37
  go_wp2_with fail
  go_loopw [3, 4, 5, 6] (fun v3 v4 v5 xv wr => ∃ (x g2 c2 n2 g3 c3 n3 g4 c4 n4 : Nat) (I O H : List Int), x ≤ 6 ∧ v3 = .slice (some ⟨g2, 0, none⟩) n2 c2 ∧ v4 = .slice (some ⟨g3, 0, none⟩) n3 c3 ∧ v5 = .slice (some ⟨g4, 0, none⟩) n4 c4 ∧ xv = .int .i64 (x : Int) ∧ n2 + n3 + n4 ≤ x ∧ Hid (Three wr (w.heap.size + 1) (.slice (some ⟨g2, 0, none⟩) n2 c2) (.slice (some ⟨g3, 0, none⟩) n3 c3) (.slice (some ⟨g4, 0, none⟩) n4 c4) n2 n3 n4 I O H) ∧ Hid (VarIs wr w.heap.size #[.int .i64 0, .int .i64 0, .slice none 0 0, .slice none 0 0, .slice none 0 0, .slice none 0 0] 27) ∧ Hid (Cur wr P (t + x)) ∧ Hid (w.grownBy wr (some P))) (fun _ _ _ xv _ => 6 - (intOf xv).toNat)
  case atStart => exact ⟨0, _, 0, 0, _, 0, 0, _, 0, 0, [], [], [], by omega, rfl, rfl, rfl, rfl, by omega, HT0.out, HR0.out, H0.out.below BZ.out, grown_of_below BZ.out _⟩
  case round =>
    obtain ⟨x, g2, c2, n2, g3, c3, n3, g4, c4, n4, I, O, H, hx, rfl, rfl, rfl, rfl, hnn, HT, HR, HC, HG⟩ := hrel
    clear HT0 HR0 BZ H0
    have hgs := HG.out.size
    have hRl := HR.out.lt
    by_cases hlt : x < 6
    · go_wp2_with fail
      refine (pick_any P (t + x) 4 _ HC.out (by omega) (by omega) (by omega)).mono ?_
      rintro e w1 ⟨r, rfl, hr0, hr1, hcur1, hg1⟩
      have HG1 := Lib.hid (grownBy_trans HG.out hg1)
      have HT1 := Lib.hid (HT.out.keep hg1 (by omega))
      have HR1 := Lib.hid (HR.out.grown hg1 (fun e => by have := Option.some.inj e; omega))
      have HC1 := Lib.hid hcur1
      have hs1 := hg1.size
      clear hg1 hcur1 HT HR HC HG
      by_cases h0 : r = 0
      · subst h0
        have T1 := HT1.out.below ((Below.refl _ w1).alloc (Nat.le_refl _) (.cells #[.int .i64 (x : Int)] 3))
        have T2 := T1
        have hs9 : (w.heap.size + 1) ≤ (w1.alloc (.cells #[.int .i64 (x : Int)] 3)).heap.size := by simp; omega
        have cx : (w1.alloc (.cells #[.int .i64 (x : Int)] 3)).cell? ⟨w1.heap.size, 0, none⟩ = some (.int .i64 (x : Int)) := by simp
        have R1 := HR1.out.alloc (.cells #[.int .i64 (x : Int)] 3)
        go_wp2_with (at_builtin; refine wpList_one rfl (.tmp 18) (.tmp 20) rfl (w.heap.size + 1) i0 Tryz.underlying24 hi hz0 hz1 hz2 _ _ _ rfl T2.o2 w1.heap.size (x : Int) rfl cx (by omega) hs9 ?_)
        rintro g9 c9 w9 hown9 hgrow9 hlies
        have T3 := (T2.app hgrow9 hown9 (near_one (by omega)) (by simpa using hlies))
        have blk : ∀ q, (Value.slice (some ⟨g2, 0, none⟩) n2 c2).ownBlock = some q → (w.heap.size + 1) ≤ q := fun q hq => (T2.o2.lt q hq).1
        have HT9 := Lib.hid T3
        have HR9 := Lib.hid (R1.grown hgrow9 (fun e => by have := blk _ e.symm; omega))
        have HC9 := Lib.hid ((HC1.out.below ((Below.refl _ w1).alloc (Nat.le_refl _) (.cells #[.int .i64 (x : Int)] 3))).keep (B := (w.heap.size + 1)) hgrow9 (by omega) blk)
        have HG9 := Lib.hid (grownBy_own2 HG1.out (grownBy_trans (World.grownBy_alloc w1 (.cells #[.int .i64 (x : Int)] 3) _) hgrow9) (fun q hq => by have := blk q hq; omega))
        clear T1 T2 T3 blk hgrow9 hown9 hlies cx R1
        go_wp2_with fail
        go_roundw
        case rel => exact ⟨x + 1, g9, c9, n2 + 1, g3, c3, n3, g4, c4, n4, I ++ [(x : Int)], O, H, by omega, rfl, rfl, rfl, by go_num, by omega, HT9.out, HR9.out, HC9.out, HG9.out⟩
        case measure => simp [intOf]; omega

      · by_cases h1 : r = 1
        · subst h1
          have T1 := HT1.out.below ((Below.refl _ w1).alloc (Nat.le_refl _) (.cells #[.int .i64 (x : Int)] 3))
          have T2 := T1.rot
          have hs9 : (w.heap.size + 1) ≤ (w1.alloc (.cells #[.int .i64 (x : Int)] 3)).heap.size := by simp; omega
          have cx : (w1.alloc (.cells #[.int .i64 (x : Int)] 3)).cell? ⟨w1.heap.size, 0, none⟩ = some (.int .i64 (x : Int)) := by simp
          have R1 := HR1.out.alloc (.cells #[.int .i64 (x : Int)] 3)
          go_wp2_with (at_builtin; refine wpList_one rfl (.tmp 24) (.tmp 26) rfl (w.heap.size + 1) i0 Tryz.underlying24 hi hz0 hz1 hz2 _ _ _ rfl T2.o2 w1.heap.size (x : Int) rfl cx (by omega) hs9 ?_)
          rintro g9 c9 w9 hown9 hgrow9 hlies
          have T3 := (T2.app hgrow9 hown9 (near_one (by omega)) (by simpa using hlies)).rot.rot
          have blk : ∀ q, (Value.slice (some ⟨g3, 0, none⟩) n3 c3).ownBlock = some q → (w.heap.size + 1) ≤ q := fun q hq => (T2.o2.lt q hq).1
          have HT9 := Lib.hid T3
          have HR9 := Lib.hid (R1.grown hgrow9 (fun e => by have := blk _ e.symm; omega))
          have HC9 := Lib.hid ((HC1.out.below ((Below.refl _ w1).alloc (Nat.le_refl _) (.cells #[.int .i64 (x : Int)] 3))).keep (B := (w.heap.size + 1)) hgrow9 (by omega) blk)
          have HG9 := Lib.hid (grownBy_own2 HG1.out (grownBy_trans (World.grownBy_alloc w1 (.cells #[.int .i64 (x : Int)] 3) _) hgrow9) (fun q hq => by have := blk q hq; omega))
          clear T1 T2 T3 blk hgrow9 hown9 hlies cx R1
          go_wp2_with fail
          go_roundw
          case rel => exact ⟨x + 1, g2, c2, n2, g9, c9, n3 + 1, g4, c4, n4, I, O ++ [(x : Int)], H, by omega, rfl, rfl, rfl, by go_num, by omega, HT9.out, HR9.out, HC9.out, HG9.out⟩
          case measure => simp [intOf]; omega

        · by_cases h2 : r = 2
          · subst h2
            have T1 := HT1.out.below ((Below.refl _ w1).alloc (Nat.le_refl _) (.cells #[.int .i64 (x : Int)] 3))
            have T2 := T1.rot.rot
            have hs9 : (w.heap.size + 1) ≤ (w1.alloc (.cells #[.int .i64 (x : Int)] 3)).heap.size := by simp; omega
            have cx : (w1.alloc (.cells #[.int .i64 (x : Int)] 3)).cell? ⟨w1.heap.size, 0, none⟩ = some (.int .i64 (x : Int)) := by simp
            have R1 := HR1.out.alloc (.cells #[.int .i64 (x : Int)] 3)
            go_wp2_with (at_builtin; refine wpList_one rfl (.tmp 30) (.tmp 32) rfl (w.heap.size + 1) i0 Tryz.underlying24 hi hz0 hz1 hz2 _ _ _ rfl T2.o2 w1.heap.size (x : Int) rfl cx (by omega) hs9 ?_)
            rintro g9 c9 w9 hown9 hgrow9 hlies
            have T3 := (T2.app hgrow9 hown9 (near_one (by omega)) (by simpa using hlies)).rot
            have blk : ∀ q, (Value.slice (some ⟨g4, 0, none⟩) n4 c4).ownBlock = some q → (w.heap.size + 1) ≤ q := fun q hq => (T2.o2.lt q hq).1
            have HT9 := Lib.hid T3
            have HR9 := Lib.hid (R1.grown hgrow9 (fun e => by have := blk _ e.symm; omega))
            have HC9 := Lib.hid ((HC1.out.below ((Below.refl _ w1).alloc (Nat.le_refl _) (.cells #[.int .i64 (x : Int)] 3))).keep (B := (w.heap.size + 1)) hgrow9 (by omega) blk)
            have HG9 := Lib.hid (grownBy_own2 HG1.out (grownBy_trans (World.grownBy_alloc w1 (.cells #[.int .i64 (x : Int)] 3) _) hgrow9) (fun q hq => by have := blk q hq; omega))
            clear T1 T2 T3 blk hgrow9 hown9 hlies cx R1
            go_wp2_with fail
            go_roundw
            case rel => exact ⟨x + 1, g2, c2, n2, g3, c3, n3, g9, c9, n4 + 1, I, O, H ++ [(x : Int)], by omega, rfl, rfl, rfl, by go_num, by omega, HT9.out, HR9.out, HC9.out, HG9.out⟩
            case measure => simp [intOf]; omega

          · have e0 : (r == 0) = false := by simpa using h0
            have e1 : (r == 1) = false := by simpa using h1
            have e2 : (r == 2) = false := by simpa using h2
            clear h0 h1 h2
            go_wp2_with fail
            go_roundw
            case rel => exact ⟨x + 1, g2, c2, n2, g3, c3, n3, g4, c4, n4, I, O, H, by omega, rfl, rfl, rfl, by go_num, by omega, HT1.out, HR1.out, HC1.out, HG1.out⟩
            case measure => simp [intOf]; omega
    · go_wp2_with fail
      refine (over_any P (t + x) (w.heap.size + 1) _ n2 c2 I _ n3 c3 O _ n4 c4 H 5 _ HC.out (by omega) (by omega) (by omega) HT.out.o2 HT.out.o3 HT.out.o4 (by omega) (by omega) (by omega) HT.out.l2 HT.out.l3 HT.out.l4 (by omega) (by omega)).mono ?_
      rintro e w2 ⟨st, x5, n5, ss, rfl, ho5, hn5, hns, hst1, hst2, hcur, hg⟩
      obtain ⟨a5, c5, rfl⟩ := ho5.form
      have HT2 := Lib.hid (HT.out.keep hg (by omega))
      have HR2 := Lib.hid (HR.out.grown hg (fun e => by have := Option.some.inj e; omega))
      have HG2 := Lib.hid (grownBy_trans HG.out hg)
      have HC2 := Lib.hid hcur
      have HO5 := Lib.hid ho5
      have HNS := Lib.hid hns
      have LT2 : Hid (∀ b, w.heap.size + 1 ≤ b → b < wr.heap.size → (Value.slice a5 n5 c5).ownBlock ≠ some b) := fun b _ hb e => by have := (ho5.lt b e).1; omega
      have B2 : Hid (∀ b, (Value.slice (some ⟨g2, 0, none⟩) n2 c2).ownBlock = some b → b < wr.heap.size) := fun b hb => (HT.out.o2.lt b hb).2
      have B3 : Hid (∀ b, (Value.slice (some ⟨g3, 0, none⟩) n3 c3).ownBlock = some b → b < wr.heap.size) := fun b hb => (HT.out.o3.lt b hb).2
      have B4 : Hid (∀ b, (Value.slice (some ⟨g4, 0, none⟩) n4 c4).ownBlock = some b → b < wr.heap.size) := fun b hb => (HT.out.o4.lt b hb).2
      clear hg hcur ho5 hns HT HR HG HC
      have THR : Hid (w2.there w.heap.size 0 6) := HR2.out.there rfl
      go_wp2_with (refine wpList_store_mid rfl _ _ _ rfl w.heap.size 0 #[.int .i64 st, .int .i64 0, .slice (some ⟨g2, 0, none⟩) n2 c2, .slice (some ⟨g3, 0, none⟩) n3 c3, .slice (some ⟨g4, 0, none⟩) n4 c4, .slice a5 n5 c5] rfl rfl THR.out (by kernel_rfl) (six_one _ _ _ _ _ _ _ _ _ _ _ _ _ _) ?_)
      have HF := World.rangeAt_setCells_same w2 w.heap.size 0 [.int .i64 st, .int .i64 0, .slice (some ⟨g2, 0, none⟩) n2 c2, .slice (some ⟨g3, 0, none⟩) n3 c3, .slice (some ⟨g4, 0, none⟩) n4 c4, .slice a5 n5 c5] THR.out
      have HGS := grown_setCells w.heap.size [.int .i64 st, .int .i64 0, .slice (some ⟨g2, 0, none⟩) n2 c2, .slice (some ⟨g3, 0, none⟩) n3 c3, .slice (some ⟨g4, 0, none⟩) n4 c4, .slice a5 n5 c5] 0 w2
      have HT3 := HT2.out.keep HGS (by omega)
      have lI := HT3.o2.length
      have lO := HT3.o3.length
      have lH := HT3.o4.length
      have lS := HO5.out.length
      have O5' := HO5.out.keep HGS (fun q hq e => by have h1 := (HO5.out.lt q hq).1; have h2 := Option.some.inj e; omega)
      refine bodyPost_ret (v := .agg #[.int .i64 st, .int .i64 0, .slice (some ⟨g2, 0, none⟩) n2 c2, .slice (some ⟨g3, 0, none⟩) n3 c3, .slice (some ⟨g4, 0, none⟩) n4 c4, .slice a5 n5 c5]) ?_ rfl ⟨⟨st, 0, I, O, H, ss⟩, _, rfl, ⟨_, _, _, _, rfl, by simp only; rw [lI]; exact HT3.o2.mono (by omega), by simp only; rw [lO]; exact HT3.o3.mono (by omega), by simp only; rw [lH]; exact HT3.o4.mono (by omega), by simp only; rw [lS]; exact O5'.mono (by omega), fun b hb => ⟨(HT3.p2 b hb).1, (HT3.p2 b hb).2, LT2.out b (HT3.o2.lt b hb).1 (B2.out b hb)⟩, fun b hb => ⟨HT3.p3 b hb, LT2.out b (HT3.o3.lt b hb).1 (B3.out b hb)⟩, fun b hb => LT2.out b (HT3.o4.lt b hb).1 (B4.out b hb)⟩, ⟨by simp only; omega, by simp only; omega, by simp only; omega, by simp only; omega⟩, HT3.l2, HT3.l3, HT3.l4, HNS.out, (HC2.out.keep (B := P + 1) HGS (by omega) (fun q hq => by have h1 := Option.some.inj hq; omega)).mono (by omega), grown_past HG2.out HGS (Nat.le_refl _)⟩
      have HC0 := HF 0 _ rfl
      have HC1 := HF 1 _ rfl
      have HC2' := HF 2 _ rfl
      have HC3 := HF 3 _ rfl
      have HC4 := HF 4 _ rfl
      have HC5 := HF 5 _ rfl
      simp only [Nat.zero_add] at HC0 HC1 HC2' HC3 HC4 HC5
      clear HF HGS HT3 O5'
      simp [results, Tryz.results37, go_sem, HC0, HC1, HC2', HC3, HC4, HC5]

end Go.Proofs.YtfhjhfhfbgddeaaGreatDoor
