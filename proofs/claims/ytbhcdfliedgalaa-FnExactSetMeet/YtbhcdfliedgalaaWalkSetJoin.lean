/-
  The walk of the law FnExactSetJoin: it returns true at every two slices of ints and writes nothing that was there. Conditions: none.
-/
import Derived.Test.YtbhcdfliedgalaaMark
import Derived.Test.YtbhcdfliedgalaaWalkSetIn
namespace Go.Proofs.Ytbhcdfliedgalaa
open Go.RowKit

theorem set_len (op : Nat) (xs ys : List Int) : (setOf op xs ys).length ≤ xs.length + ys.length + 12 := by
  rw [← setOf_eq]
  unfold together
  have h1 := setOf_len op (ris (others xs)) (ris (others ys))
  have h2 := others_len xs
  have h3 := others_len ys
  have h4 : (acts (fun i => comb op (maskOf xs i) (maskOf ys i)) 12).length ≤ 12 := by
    unfold acts; rw [List.length_map]; exact Nat.le_trans (List.length_filter_le _ _) (by simp)
  simp only [List.length_append, List.length_take, List.length_drop]
  omega

set_option maxHeartbeats 3200000 in
theorem walk_FnExactSetJoin (a0 : Option Addr) (len0 cap0 : Nat) (z0 : List Int) (a1 : Option Addr) (len1 cap1 : Nat) (z1 : List Int) (w : World) (w0 : IsRow .i64 w a0 len0 cap0 z0) (w1 : IsRow .i64 w a1 len1 cap1 z1) :
    Calls Try.prog 5 #[.slice a0 len0 cap0, .slice a1 len1 cap1] w fun e w' => e = .returned (.bool true) ∧ Below w.heap.size w w' := by
  have hr := w0.row
  have hl := w0.len
  have hr1 := w1.row
  have hl1 := w1.len
  generalize z0.take len0 = xs at hr
  generalize z1.take len1 = ys at hr1
  clear w0 w1
  by_cases hbig : 1048576 < len0
  · go_enter Try.func5, Try.ntmps5
    go_wp2
    go_ret
    exact ⟨rfl, Below.refl _ _⟩
  by_cases hbig1 : 1048576 < len1
  · go_enter Try.func5, Try.ntmps5
    go_wp2
    go_ret
    exact ⟨rfl, Below.refl _ _⟩
  have hS : (joinOf xs ys).length ≤ 2097164 := by
    have := set_len 0 xs ys
    rw [hr.1, hr1.1] at this
    have e : setOf 0 xs ys = joinOf xs ys := rfl
    rw [e] at this
    omega
  have HX := Lib.hid hr
  have HY := Lib.hid hr1
  clear hr hr1
  generalize hSe : joinOf xs ys = S at hS
  have HSE := Lib.hid hSe
  clear hSe
  obtain ⟨s, hs⟩ : ∃ s, s = S.length := ⟨_, rfl⟩
  have HSL := Lib.hid hs
  rw [← hs] at hS
  clear hs
  go_enter Try.func5, Try.ntmps5
  go_wp2_with fail
  refine (toIntS_any _ _ _ xs _ HX.out (by omega)).mono ?_
  rintro e w1 ⟨rfl, ho1, b1⟩
  go_wp2_with fail
  refine (toIntS_any _ _ _ ys _ (HY.out.below b1) (by omega)).mono ?_
  rintro e w2 ⟨rfl, ho2, hb2⟩
  have b2 := b1.trans (hb2.mono b1.size)
  have R1 := Lib.hid (ho1.below hb2).row.2.2.2
  have R2 := Lib.hid ho2.row.2.2.2
  clear ho1 ho2 hb2 b1
  go_wp2_with fail
  refine (specSetJoin_any _ _ _ _ _ _ xs ys _ R1.out R2.out (by omega) (by omega)).mono ?_
  rintro e w3 ⟨g, c, rfl, hoW, hb3⟩
  have b3 := b2.trans (hb3.mono b2.size)
  rw [HSE.out, ← HSL.out] at hoW ⊢
  have hgW := hoW.cells.1
  have hgw : w.heap.size ≤ g := Nat.le_trans b2.size (hoW.lt g rfl).1
  have OW := Lib.hid hoW
  clear hoW hb3 b2 R1 R2
  go_wp2_with fail
  refine (toIntS_any _ _ _ xs _ (HX.out.below b3) (by omega)).mono ?_
  rintro e w4 ⟨rfl, ho4, hb4⟩
  have b4 := b3.trans (hb4.mono b3.size)
  have OW4 := Lib.hid (OW.out.below hb4)
  have s4 := (ho4.lt w3.heap.size rfl).2
  have s3 := b3.size
  clear OW b3
  have hb4s := hb4.size
  clear hb4
  go_wp2_with fail
  refine (toIntS_any _ _ _ ys _ (HY.out.below b4) (by omega)).mono ?_
  rintro e w5 ⟨rfl, ho5, hb5⟩
  have b5 := b4.trans (hb5.mono b4.size)
  have OW5 := Lib.hid (OW4.out.below hb5)
  have OX5 := Lib.hid (ho4.below hb5)
  have OY5 := Lib.hid ho5
  have s5 := (ho5.lt w4.heap.size rfl).2
  clear ho4 ho5 OW4 b4 hb5
  go_wp2_with fail
  refine (implSetJoin_any _ _ _ _ _ _ xs ys _ OX5.out.row.2.2.2 OY5.out.row.2.2.2 (by omega) (by omega)).mono ?_
  rintro e w6 ⟨v, rfl, hoG, hb6⟩
  have b6 := b5.trans (hb6.mono b5.size)
  rw [HSE.out, ← HSL.out] at hoG
  obtain ⟨ag, cg, rfl⟩ := hoG.form
  have OW6 := Lib.hid (OW5.out.below hb6)
  have OX6 := Lib.hid (OX5.out.below hb6)
  have OY6 := Lib.hid (OY5.out.below hb6)
  have OG6 := Lib.hid hoG
  have s6 := hb6.size
  clear hoG hb6 b5 OW5 OX5 OY5
  go_wp2_with fail
  refine (eqIntS_any _ _ _ _ _ _ S S _ OG6.out.row.2.2.2 OW6.out.row.2.2.2 (by omega) (by omega)).mono ?_
  rintro e w7 ⟨rfl, hb7⟩
  have b7 := b6.trans (hb7.mono b6.size)
  have OW7 := Lib.hid (OW6.out.below hb7)
  have OX7 := Lib.hid (OX6.out.below hb7)
  have OY7 := Lib.hid (OY6.out.below hb7)
  have OG7 := Lib.hid (OG6.out.below hb7)
  clear hb7 b6 OW6 OX6 OY6 OG6
  go_wp2_with fail
  refine (toIntS_any _ _ _ xs _ (HX.out.below b7) (by omega)).mono ?_
  rintro e w8 ⟨rfl, ho8, hb8⟩
  have b8 := b7.trans (hb8.mono b7.size)
  have OW8 := Lib.hid (OW7.out.below hb8)
  have OX8 := Lib.hid (OX7.out.below hb8)
  have OY8 := Lib.hid (OY7.out.below hb8)
  have OG8 := Lib.hid (OG7.out.below hb8)
  have R8 := Lib.hid ho8.row.2.2.2
  clear hb8 b7 OW7 OX7 OY7 OG7 ho8
  go_wp2_with fail
  refine (eqIntS_any _ _ _ _ _ _ xs xs _ OX8.out.row.2.2.2 R8.out (by omega) (by omega)).mono ?_
  rintro e w9 ⟨rfl, hb9⟩
  have b9 := b8.trans (hb9.mono b8.size)
  have OW9 := Lib.hid (OW8.out.below hb9)
  have OX9 := Lib.hid (OX8.out.below hb9)
  have OY9 := Lib.hid (OY8.out.below hb9)
  have OG9 := Lib.hid (OG8.out.below hb9)
  clear hb9 b8 OW8 OX8 OY8 OG8 R8
  go_wp2_with fail
  refine (toIntS_any _ _ _ ys _ (HY.out.below b9) (by omega)).mono ?_
  rintro e w10 ⟨rfl, ho10, hb10⟩
  have b10 := b9.trans (hb10.mono b9.size)
  have OW10 := Lib.hid (OW9.out.below hb10)
  have OX10 := Lib.hid (OX9.out.below hb10)
  have OY10 := Lib.hid (OY9.out.below hb10)
  have OG10 := Lib.hid (OG9.out.below hb10)
  have R10 := Lib.hid ho10.row.2.2.2
  clear hb10 b9 OW9 OX9 OY9 OG9 ho10
  go_wp2_with fail
  refine (eqIntS_any _ _ _ _ _ _ ys ys _ OY10.out.row.2.2.2 R10.out (by omega) (by omega)).mono ?_
  rintro e w11 ⟨rfl, hb11⟩
  have b11 := b10.trans (hb11.mono b10.size)
  have OW11 := Lib.hid (OW10.out.below hb11)
  have OX11 := Lib.hid (OX10.out.below hb11)
  have OY11 := Lib.hid (OY10.out.below hb11)
  have OG11 := Lib.hid (OG10.out.below hb11)
  clear hb11 b10 OW10 OX10 OY10 OG10 R10
  go_wp2_with fail
  refine (mark_any _ len0 _ 1 xs _ OX11.out (by omega) (by omega) (by omega)).mono ?_
  rintro e w12 ⟨rfl, _, hg12⟩
  have b12 := OX11.out.grown b11 hg12 s3 b11.size
  have OW12 := Lib.hid (OW11.out.keep hg12 (fun k hk h => by cases hk; simp [Value.ownBlock] at h; omega))
  have OY12 := Lib.hid (OY11.out.keep hg12 (fun k hk h => by cases hk; simp [Value.ownBlock] at h; omega))
  have OG12 := Lib.hid (OG11.out.keep hg12 (fun k hk h => by have := (OG11.out.lt k hk).1; simp [Value.ownBlock] at h; omega))
  clear hg12 b11 OW11 OX11 OY11 OG11
  go_wp2_with fail
  refine (mark_any _ len1 _ (1 + (len0 : Int)) ys _ OY12.out (by omega) (by omega) (by omega)).mono ?_
  rintro e w13 ⟨rfl, _, hg13⟩
  have b13 := OY12.out.grown b12 hg13 (by omega) b12.size
  have OW13 := Lib.hid (OW12.out.keep hg13 (fun k hk h => by cases hk; simp [Value.ownBlock] at h; omega))
  have OG13 := Lib.hid (OG12.out.keep hg13 (fun k hk h => by have := (OG12.out.lt k hk).1; simp [Value.ownBlock] at h; omega))
  clear hg13 b12 OW12 OY12 OG12
  go_wp2_with fail
  refine (eqIntS_any _ _ _ _ _ _ S S _ OG13.out.row.2.2.2 OW13.out.row.2.2.2 (by omega) (by omega)).mono ?_
  rintro e w14 ⟨rfl, hb14⟩
  have b14 := b13.trans (hb14.mono b13.size)
  have OW14 := Lib.hid (OW13.out.below hb14)
  have OG14 := Lib.hid (OG13.out.below hb14)
  clear hb14 b13 OW13 OG13
  go_wp2_with fail
  refine (mark_any _ s _ 1 S _ OG14.out (by omega) (by omega) (by omega)).mono ?_
  rintro e w15 ⟨rfl, ho15, hg15⟩
  have b15 := OG14.out.grown b14 hg15 (by omega) b14.size
  have OW15 := Lib.hid (OW14.out.keep hg15 (fun k hk h => by cases hk; have := (OG14.out.lt g h.symm).1; omega))
  have OG15 := Lib.hid ho15
  clear hg15 b14 OW14 OG14 ho15
  go_wp2_with fail
  refine (held_any _ s _ 1 _ OG15.out.row.2.2.2 (by omega) (by omega) (by omega)).mono ?_
  rintro e w16 ⟨rfl, rfl⟩
  go_wp2_with fail
  refine (toIntS_any _ _ _ xs _ (HX.out.below b15) (by omega)).mono ?_
  rintro e w17 ⟨rfl, ho17, hb17⟩
  have b17 := b15.trans (hb17.mono b15.size)
  have OW17 := Lib.hid (OW15.out.below hb17)
  have OG17 := Lib.hid (OG15.out.below hb17)
  clear hb17 b15 OW15 OG15
  go_wp2_with fail
  refine (toIntS_any _ _ _ ys _ (HY.out.below b17) (by omega)).mono ?_
  rintro e w18 ⟨rfl, ho18, hb18⟩
  have b18 := b17.trans (hb18.mono b17.size)
  have OW18 := Lib.hid (OW17.out.below hb18)
  have OG18 := Lib.hid (OG17.out.below hb18)
  have R17 := Lib.hid (ho17.below hb18).row.2.2.2
  have R18 := Lib.hid ho18.row.2.2.2
  clear hb18 b17 OW17 OG17 ho17 ho18
  go_wp2_with fail
  refine (implSetJoin_any _ _ _ _ _ _ xs ys _ R17.out R18.out (by omega) (by omega)).mono ?_
  rintro e w19 ⟨v, rfl, hoH, hb19⟩
  have b19 := b18.trans (hb19.mono b18.size)
  rw [HSE.out, ← HSL.out] at hoH
  obtain ⟨ah, ch, rfl⟩ := hoH.form
  have OW19 := Lib.hid (OW18.out.below hb19)
  have OG19 := Lib.hid (OG18.out.below hb19)
  have OH19 := Lib.hid hoH
  clear hb19 b18 OW18 OG18 R17 R18 hoH
  go_wp2_with fail
  refine (eqIntS_any _ _ _ _ _ _ S S _ OH19.out.row.2.2.2 OW19.out.row.2.2.2 (by omega) (by omega)).mono ?_
  rintro e w20 ⟨rfl, hb20⟩
  have b20 := b19.trans (hb20.mono b19.size)
  have OG20 := Lib.hid (OG19.out.below hb20)
  clear hb20 b19 OW19 OG19 OH19
  go_wp2_with fail
  refine (held_any _ s _ 1 _ OG20.out.row.2.2.2 (by omega) (by omega) (by omega)).mono ?_
  rintro e w21 ⟨rfl, rfl⟩
  go_wp2_with fail
  go_ret
  exact ⟨rfl, b20⟩

end Go.Proofs.Ytbhcdfliedgalaa
