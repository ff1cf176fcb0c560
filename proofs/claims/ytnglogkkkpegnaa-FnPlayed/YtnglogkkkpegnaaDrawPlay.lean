/-
  The contract of the model's DrawPlay: some automaton, its lists in new memory, and some picks. Conditions: the code is a slice of at most 2^20 bytes.
-/
import Derived.Test.YtnglogkkkpegnaaDrawState
namespace Go.Proofs.Ytnglogkkkpegnaa
open Go.RowKit

/-- What DrawPlay leaves. -/
def PlayDrawn (w : World) (e : Ending) (w' : World) : Prop :=
  ∃ (ia : IaD) (v : Value) (ta : Option Addr) (tn tc : Nat) (tr : List Int), e = .returned (.tuple #[v, .slice ta tn tc]) ∧ IaMine w' w.heap.size ia v ∧ (ia.ins.length ≤ 1000 ∧ ia.outs.length ≤ 1000 ∧ ia.hids.length ≤ 1000 ∧ ia.steps.length ≤ 1000) ∧ Row w' ta tn tr ∧ tn ≤ 100 ∧ Below w.heap.size w w'

theorem openedP (a : Option Addr) (n c : Nat) (w : World) (hn : n ≤ 1048576) (hcode : Code w w.heap.size a n) (o : Obj) :
    Calls Try.prog 32 #[.slice a n c] (w.alloc o) fun e w' => e = .returned (.pointer (some ⟨w.heap.size + 1, 0, none⟩)) ∧ Cur w' (w.heap.size + 1) 0 ∧ Below (w.heap.size + 1) (w.alloc o) w' := by
  have h1 : Code (w.alloc o) (w.alloc o).heap.size a n := (hcode.below ((Below.refl _ _).alloc (Nat.le_refl _) _)).mono (by simp)
  have := open_any a n c (w.alloc o) hn h1
  simpa using this

/-- An automaton in a box of its own, its lists between 'base' and the box, while other blocks change. -/
def DrS (w W : World) (X base : Nat) (ia : IaD) (st it : Int) (y2 y3 y4 y5 : Value) : Prop :=
  Below w.heap.size w W ∧ VarIs W w.heap.size #[.int .i64 0, .int .i64 0, .slice none 0 0, .slice none 0 0, .slice none 0 0, .slice none 0 0] 27 ∧ VarIs W X #[.int .i64 st, .int .i64 it, y2, y3, y4, y5] 27 ∧ IaMine W base ia (.agg #[.int .i64 st, .int .i64 it, y2, y3, y4, y5])

theorem DrS.below {w W W' : World} {X base : Nat} {ia : IaD} {st it : Int} {y2 y3 y4 y5 : Value} (h : DrS w W X base ia st it y2 y3 y4 y5) (hb : Below W.heap.size W W') : DrS w W' X base ia st it y2 y3 y4 y5 :=
  ⟨h.1.trans (hb.mono h.1.size), h.2.1.below hb, h.2.2.1.below hb, h.2.2.2.below hb⟩

theorem DrS.grown {w W W' : World} {X base : Nat} {ia : IaD} {st it : Int} {y2 y3 y4 y5 : Value} {r : Option Nat} (h : DrS w W X base ia st it y2 y3 y4 y5) (hg : W.grownBy W' r) (hX : base ≤ X ∧ w.heap.size < base) (hN : ∀ b, (y2.ownBlock = some b ∨ y3.ownBlock = some b ∨ y4.ownBlock = some b ∨ y5.ownBlock = some b) → b < X)
    (hr : ∀ q, r = some q → w.heap.size < q ∧ (q < base ∨ X < q)) : DrS w W' X base ia st it y2 y3 y4 y5 := by
  obtain ⟨hb, hz, hx, z2, z3, z4, z5, e, o2, o3, o4, o5⟩ := h
  simp only [Value.agg.injEq, Array.mk.injEq, List.cons.injEq, Value.int.injEq, true_and, and_true] at e
  obtain ⟨rfl, rfl, rfl, rfl, rfl, rfl⟩ := e
  refine ⟨hb.grown hg hb.size (fun q hq => Nat.le_of_lt (hr q hq).1), hz.grown hg (fun e => by have := (hr _ e.symm).1; omega), hx.grown hg (fun e => by have := (hr _ e.symm).2; omega), _, _, _, _, rfl, o2.keep hg (fun k hk e => ?_), o3.keep hg (fun k hk e => ?_), o4.keep hg (fun k hk e => ?_), o5.keep hg (fun k hk e => ?_)⟩
  · have h1 := (o2.lt k hk).1
    have h2 := hN k (Or.inl hk)
    have h3 := hr k e.symm
    omega
  · have h1 := (o3.lt k hk).1
    have h2 := hN k (Or.inr (Or.inl hk))
    have h3 := hr k e.symm
    omega
  · have h1 := (o4.lt k hk).1
    have h2 := hN k (Or.inr (Or.inr (Or.inl hk)))
    have h3 := hr k e.symm
    omega
  · have h1 := (o5.lt k hk).1
    have h2 := hN k (Or.inr (Or.inr (Or.inr hk)))
    have h3 := hr k e.symm
    omega

theorem src_two {w w' : World} {x y : Int} {r : Int} {P : Nat} (hr0 : 0 ≤ r) (hr1 : r < 2) (hg : (w.alloc (.cells #[.int .i64 x, .int .i64 y] 3)).grownBy w' (some P)) (hP : P < w.heap.size) : ∃ z, w'.cell? ⟨w.heap.size, r.toNat, none⟩ = some (.int .i64 z) := by
  have hv := (VarIs.new w #[.int .i64 x, .int .i64 y] 3 rfl).grown hg (fun e => by have := Option.some.inj e; omega)
  rcases (show r = 0 ∨ r = 1 by omega) with rfl | rfl
  · exact ⟨x, hv.cell rfl⟩
  · exact ⟨y, hv.cell rfl⟩

set_option maxRecDepth 20000 in
set_option maxHeartbeats 3200000 in
theorem drawPlay_any (a : Option Addr) (n c : Nat) (w : World) (hn : n ≤ 1048576) (hcode : Code w w.heap.size a n) :
    Calls Try.prog 7 #[.slice a n c] w (PlayDrawn w) := by
  obtain ⟨i0, hi, hz0, hz1, hz2⟩ := info_parts info_int
  have CO := Lib.hid (openedP a n c w hn hcode (.cells #[.int .i64 0, .int .i64 0, .slice none 0 0, .slice none 0 0, .slice none 0 0, .slice none 0 0] 27))
  have BZ : Hid (Below w.heap.size w (w.alloc (.cells #[.int .i64 0, .int .i64 0, .slice none 0 0, .slice none 0 0, .slice none 0 0, .slice none 0 0] 27))) := (Below.refl _ _).alloc (Nat.le_refl _) _
  have VZ := Lib.hid (VarIs.new w #[.int .i64 0, .int .i64 0, .slice none 0 0, .slice none 0 0, .slice none 0 0, .slice none 0 0] 27 rfl)
  clear hcode
  go_enter Try.func7, Try.ntmps7
  go_wp2_with fail
  refine CO.out.mono ?_
  rintro e w1 ⟨rfl, hcur, hb⟩
  have B1 : Hid (Below w.heap.size w w1) := BZ.out.trans (hb.mono (by omega))
  have V1 := VZ.out.below (by have := hb; simpa using this)
  have CU1 := Lib.hid hcur
  have hP1 := hcur.lt
  clear hcur hb CO BZ VZ
  go_wp2_with fail
  refine (anyIa_any (w.heap.size + 1) 0 _ CU1.out (by omega)).mono ?_
  rintro e w2 ⟨ia, v, rfl, hm, hl, hcur, hg⟩
  have B2 : Hid (Below w.heap.size w w2) := B1.out.grown hg B1.out.size (fun q hq => by have := Option.some.inj hq; omega)
  have V2 := V1.grown hg (fun e => by have := Option.some.inj e; omega)
  have CU2 := Lib.hid hcur
  have hs2 := hg.size
  clear hcur hg V1 B1 CU1
  obtain ⟨st, it, ins, outs, hids, steps⟩ := ia
  obtain ⟨x2, x3, x4, x5, rfl, o2, o3, o4, o5⟩ := hm
  simp only at o2 o3 o4 o5 hl
  obtain ⟨n2, hn2⟩ : ∃ n, n = ins.length := ⟨_, rfl⟩
  rw [← hn2] at o2
  obtain ⟨b2, d2, rfl⟩ := o2.form
  obtain ⟨n3, hn3⟩ : ∃ n, n = outs.length := ⟨_, rfl⟩
  rw [← hn3] at o3
  obtain ⟨b3, d3, rfl⟩ := o3.form
  obtain ⟨n4, hn4⟩ : ∃ n, n = hids.length := ⟨_, rfl⟩
  rw [← hn4] at o4
  obtain ⟨b4, d4, rfl⟩ := o4.form
  obtain ⟨n5, hn5⟩ : ∃ n, n = steps.length := ⟨_, rfl⟩
  rw [← hn5] at o5
  obtain ⟨b5, d5, rfl⟩ := o5.form
  have HM : Hid (IaMine w2 w1.heap.size ⟨st, it, ins, outs, hids, steps⟩ (.agg #[.int .i64 st, .int .i64 it, .slice b2 n2 d2, .slice b3 n3 d3, .slice b4 n4 d4, .slice b5 n5 d5])) := ⟨_, _, _, _, rfl, by rw [← hn2]; exact o2, by rw [← hn3]; exact o3, by rw [← hn4]; exact o4, by rw [← hn5]; exact o5⟩
  have HLN := Lib.hid hl
  have HUP : Hid (∀ b, ((.slice b2 n2 d2 : Value).ownBlock = some b ∨ (.slice b3 n3 d3 : Value).ownBlock = some b ∨ (.slice b4 n4 d4 : Value).ownBlock = some b ∨ (.slice b5 n5 d5 : Value).ownBlock = some b) → b < w2.heap.size) := fun b hb => by
    rcases hb with hb | hb | hb | hb
    · exact (o2.lt b hb).2
    · exact (o3.lt b hb).2
    · exact (o4.lt b hb).2
    · exact (o5.lt b hb).2
  clear o2 o3 o4 o5 hn2 hn3 hn4 hn5 hl
  have S3 : Hid (DrS w ((w2.alloc (.cells #[.int .i64 st, .int .i64 it, .slice b2 n2 d2, .slice b3 n3 d3, .slice b4 n4 d4, .slice b5 n5 d5] 27)).alloc (.cells #[] 3)) w2.heap.size w1.heap.size ⟨st, it, ins, outs, hids, steps⟩ st it (.slice b2 n2 d2) (.slice b3 n3 d3) (.slice b4 n4 d4) (.slice b5 n5 d5)) := ⟨(B2.out.alloc B2.out.size _).alloc (by simp; have := B2.out.size; omega) _, (V2.alloc _).alloc _, (VarIs.new w2 #[.int .i64 st, .int .i64 it, .slice b2 n2 d2, .slice b3 n3 d3, .slice b4 n4 d4, .slice b5 n5 d5] 27 rfl).alloc _, (HM.out.below ((Below.refl _ w2).alloc (Nat.le_refl _) _)).below ((Below.refl _ _).alloc (Nat.le_refl _) _)⟩
  have CU3 : Hid (Cur ((w2.alloc (.cells #[.int .i64 st, .int .i64 it, .slice b2 n2 d2, .slice b3 n3 d3, .slice b4 n4 d4, .slice b5 n5 d5] 27)).alloc (.cells #[] 3)) (w.heap.size + 1) 340) := (CU2.out.below ((Below.refl _ w2).alloc (Nat.le_refl _) _)).below ((Below.refl _ _).alloc (Nat.le_refl _) _)
  have O3 : Hid (Owns ((w2.alloc (.cells #[.int .i64 st, .int .i64 it, .slice b2 n2 d2, .slice b3 n3 d3, .slice b4 n4 d4, .slice b5 n5 d5] 27)).alloc (.cells #[] 3)) (w2.heap.size + 1) (.slice (some ⟨w2.heap.size + 1, 0, none⟩) 0 0) 0 []) := by
    have := owns_lit (w2.alloc (.cells #[.int .i64 st, .int .i64 it, .slice b2 n2 d2, .slice b3 n3 d3, .slice b4 n4 d4, .slice b5 n5 d5] 27)) [] 0 rfl (by unfold maxLen; omega)
    simpa [Hid] using this
  clear V2 B2 CU2 HM
  have HXB : Hid (w1.heap.size ≤ w2.heap.size ∧ w.heap.size < w1.heap.size) := ⟨hs2, by omega⟩
  have hP2 : w.heap.size + 1 < w1.heap.size := hP1
  go_wp2_with fail
  refine (size_any (w.heap.size + 1) 340 8 _ CU3.out (by omega) (by omega) (by omega)).mono ?_
  rintro e w4 ⟨r, rfl, hr0, hr1, hcur, hg⟩
  obtain ⟨k0, rfl⟩ : ∃ k : Nat, r = (k : Int) := ⟨r.toNat, by omega⟩
  have S4 := Lib.hid (S3.out.grown hg HXB.out HUP.out (fun q hq => by have := Option.some.inj hq; omega))
  have CU4 := Lib.hid hcur
  have O4 := Lib.hid (O3.out.keep hg (fun k hk e => by have h1 := (O3.out.lt k hk).1; have h2 := Option.some.inj e; omega))
  have hs4 := hg.size
  simp only [World.size_alloc] at hs4
  clear hcur hg S3 CU3 O3
  go_wp2_with fail
  go_loopw [6, 7] (fun ov kv wr => ∃ (k len : Nat) (v0 : Value) (T : List Int), v0 = ov ∧ kv = .int .i64 (k : Int) ∧ k + len ≤ 9 ∧ Hid (Owns wr (w2.heap.size + 1) v0 len T) ∧ Hid (Cur wr (w.heap.size + 1) (341 + 4 * len)) ∧ Hid (DrS w wr w2.heap.size w1.heap.size ⟨st, it, ins, outs, hids, steps⟩ st it (.slice b2 n2 d2) (.slice b3 n3 d3) (.slice b4 n4 d4) (.slice b5 n5 d5)) ∧ w2.heap.size + 1 ≤ wr.heap.size) (fun _ kv _ => (intOf kv).toNat)
  case atStart => exact ⟨k0, 0, _, [], rfl, rfl, by omega, O4.out, CU4.out, S4.out, by omega⟩
  case round =>
    obtain ⟨k, len, v0, T, rfl, rfl, hkl, HO, HC, HS, hsz⟩ := hrel
    clear O4 CU4 S4
    by_cases hk : 0 < k
    · have hd : decide ((k : Int) > 0) = true := by simp; omega
      go_wp2_with fail
      refine (pick_any (w.heap.size + 1) (341 + 4 * len) 9 _ HC.out (by omega) (by omega) (by omega)).mono ?_
      rintro e w5 ⟨p1, rfl, _, _, hcur, hg⟩
      have O5 := Lib.hid (HO.out.keep hg (fun k hk e => by have h1 := (HO.out.lt k hk).1; have h2 := Option.some.inj e; omega))
      have S5 := Lib.hid (HS.out.grown hg HXB.out HUP.out (fun q hq => by have := Option.some.inj hq; omega))
      have CU5 := Lib.hid hcur
      have hs5 := hg.size
      clear hcur hg HO HC HS
      go_wp2_with fail
      refine (raw_any (w.heap.size + 1) (341 + 4 * len + 1) _ CU5.out (by omega)).mono ?_
      rintro e w6 ⟨p2, rfl, _, hcur, hg⟩
      have O6 := Lib.hid (O5.out.keep hg (fun k hk e => by have h1 := (O5.out.lt k hk).1; have h2 := Option.some.inj e; omega))
      have S6 := Lib.hid (S5.out.grown hg HXB.out HUP.out (fun q hq => by have := Option.some.inj hq; omega))
      have CU6 := Lib.hid (hcur.below ((Below.refl _ w6).alloc (Nat.le_refl _) (.cells #[.int .i64 p1, .int .i64 p2] 3)))
      have hs6 := hg.size
      have O7 := Lib.hid (O6.out.alloc (.cells #[.int .i64 p1, .int .i64 p2] 3))
      have S7 := Lib.hid (S6.out.below ((Below.refl _ w6).alloc (Nat.le_refl _) (.cells #[.int .i64 p1, .int .i64 p2] 3)))
      clear hcur hg O5 S5 CU5 O6 S6
      go_wp2_with fail
      refine (pick_any (w.heap.size + 1) (341 + 4 * len + 1 + 2) 2 _ CU6.out (by omega) (by omega) (by omega)).mono ?_
      rintro e w8 ⟨p3, rfl, q0, q1, hcur, hg⟩
      have O8 := Lib.hid (O7.out.keep hg (fun k hk e => by have h1 := (O7.out.lt k hk).1; have h2 := Option.some.inj e; omega))
      have S8 := Lib.hid (S7.out.grown hg HXB.out HUP.out (fun q hq => by have := Option.some.inj hq; omega))
      have CU8 := Lib.hid hcur
      obtain ⟨z, hz⟩ := src_two q0 q1 hg (by omega)
      have hs8 := hg.size
      simp only [World.size_alloc] at hs8
      clear hcur hg O7 S7 CU6
      have T1 := O8.out.alloc (.cells #[.int .i64 z] 3)
      have SP : Src (w8.alloc (.cells #[.int .i64 z] 3)) (some ⟨w8.heap.size, 0, none⟩) 1 1 [z] := src_one (by simp)
      have S9 := Lib.hid (S8.out.below ((Below.refl _ w8).alloc (Nat.le_refl _) (.cells #[.int .i64 z] 3)))
      have CU9 := Lib.hid (CU8.out.below ((Below.refl _ w8).alloc (Nat.le_refl _) (.cells #[.int .i64 z] 3)))
      go_wp2_with (at_builtin; refine wpList_app rfl (.tmp 19) (.tmp 29) rfl (w2.heap.size + 1) i0 Try.underlying24 hi hz0 hz1 hz2 _ len _ rfl T1 _ 1 _ [z] rfl SP (by omega) (by simp; omega) ?_)
      rintro vz w9 ⟨hown, hgrow, _⟩
      have hr : ∀ q, v0.ownBlock = some q → w2.heap.size + 1 ≤ q := fun q hq => (T1.lt q hq).1
      have S10 := Lib.hid (S9.out.grown hgrow HXB.out HUP.out (fun q hq => by have := hr q hq; omega))
      have CU10 := Lib.hid (CU9.out.keep hgrow (B := w2.heap.size + 1) (by omega) hr)
      have hs10 := hgrow.size
      simp only [World.size_alloc] at hs10
      have O10 := Lib.hid hown
      clear hown hgrow T1 SP S9 CU9 O8 S8 CU8 hr hz
      go_wp2_with fail
      go_roundw
      case rel => exact ⟨k - 1, len + 1, vz, T ++ [z], rfl, by go_num, by omega, O10.out, by have h1 := CU10.out; exact h1.mono (by omega), S10.out, by omega⟩
      case measure => simp [intOf]; omega
    · have hd : decide ((k : Int) > 0) = false := by simp; omega
      obtain ⟨av, cv, rfl⟩ := HO.out.form
      have TH : Hid (wr.there w.heap.size 0 6) := HS.out.2.1.there rfl
      have HR : Hid (wr.rangeAt w2.heap.size 0 #[.int .i64 st, .int .i64 it, .slice b2 n2 d2, .slice b3 n3 d3, .slice b4 n4 d4, .slice b5 n5 d5].toList) := HS.out.2.2.1.range
      have HGS := Lib.hid (grown_setCells w.heap.size [.int .i64 st, .int .i64 it, .slice b2 n2 d2, .slice b3 n3 d3, .slice b4 n4 d4, .slice b5 n5 d5] 0 wr)
      have HF := Lib.hid (World.rangeAt_setCells_same wr w.heap.size 0 [.int .i64 st, .int .i64 it, .slice b2 n2 d2, .slice b3 n3 d3, .slice b4 n4 d4, .slice b5 n5 d5] TH.out)
      have ON : (#[.int .i64 st, .int .i64 it, .slice b2 n2 d2, .slice b3 n3 d3, .slice b4 n4 d4, .slice b5 n5 d5] : Array Value).all (·.oneCell') = true := six_one _ _ _ _ _ _ _ _ _ _ _ _ _ _
      have HFIN : Hid (IaMine (wr.setCells w.heap.size 0 [.int .i64 st, .int .i64 it, .slice b2 n2 d2, .slice b3 n3 d3, .slice b4 n4 d4, .slice b5 n5 d5]) w1.heap.size ⟨st, it, ins, outs, hids, steps⟩ (.agg #[.int .i64 st, .int .i64 it, .slice b2 n2 d2, .slice b3 n3 d3, .slice b4 n4 d4, .slice b5 n5 d5]) ∧ Below w.heap.size w (wr.setCells w.heap.size 0 [.int .i64 st, .int .i64 it, .slice b2 n2 d2, .slice b3 n3 d3, .slice b4 n4 d4, .slice b5 n5 d5]) ∧ Row (wr.setCells w.heap.size 0 [.int .i64 st, .int .i64 it, .slice b2 n2 d2, .slice b3 n3 d3, .slice b4 n4 d4, .slice b5 n5 d5]) av len T) :=
        ⟨HS.out.2.2.2.keep HGS.out (by omega), HS.out.1.grown HGS.out HS.out.1.size (fun q hq => by have := Option.some.inj hq; omega), (HO.out.keep HGS.out (fun k hk e => by have h1 := (HO.out.lt k hk).1; have h2 := Option.some.inj e; omega)).row.2.2.2⟩
      clear HO HC HS
      go_wp2_with (first | refine wpList_load_mid rfl _ _ rfl w2.heap.size 0 rfl #[.int .i64 st, .int .i64 it, .slice b2 n2 d2, .slice b3 n3 d3, .slice b4 n4 d4, .slice b5 n5 d5].toList _ HR.out Try.underlying27 rfl (by kernel_rfl) ?_ | refine wpList_store_mid rfl _ _ _ rfl w.heap.size 0 #[.int .i64 st, .int .i64 it, .slice b2 n2 d2, .slice b3 n3 d3, .slice b4 n4 d4, .slice b5 n5 d5] rfl rfl TH.out (by kernel_rfl) ON ?_)
      refine bodyPost_ret (v := .tuple #[.agg #[.int .i64 st, .int .i64 it, .slice b2 n2 d2, .slice b3 n3 d3, .slice b4 n4 d4, .slice b5 n5 d5], .slice av len cv]) ?_ rfl ⟨⟨st, it, ins, outs, hids, steps⟩, _, av, len, cv, T, rfl, HFIN.out.1.mono (by omega), HLN.out, HFIN.out.2.2, by omega, HFIN.out.2.1⟩
      have HC0 := HF.out 0 _ rfl
      have HC1 := HF.out 1 _ rfl
      have HC2 := HF.out 2 _ rfl
      have HC3 := HF.out 3 _ rfl
      have HC4 := HF.out 4 _ rfl
      have HC5 := HF.out 5 _ rfl
      simp only [Nat.zero_add] at HC0 HC1 HC2 HC3 HC4 HC5
      simp [results, Try.results7, go_sem, HC0, HC1, HC2, HC3, HC4, HC5]

end Go.Proofs.Ytnglogkkkpegnaa
