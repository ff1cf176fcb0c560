import Derived.Test.YtdbgjgeglgipiaaGreatImplStep
import Derived.Test.YtdbgjgeglgipiaaGreatRowsOf
import Derived.Test.YtdbgjgeglgipiaaGreatIaRise
import Derived.Test.YtdbgjgeglgipiaaGreatSpecIaOk
import Derived.Deep.RegionHeld3
import Derived.Test.YtdbgjgeglgipiaaGreatBase
import Derived.ArgAppend
import Derived.Test.YtdbgjgeglgipiaaGreatClashMath
import Derived.Test.YtdbgjgeglgipiaaGreatShared
/-
  The contract of the program's rowOf: the steps from a state, in their order. Conditions: the automaton's lists have at most 2^20 elements.
-/
namespace Go.Proofs.YtdbgjgeglgipiaaGreat
open Go.RowKit

end Go.Proofs.YtdbgjgeglgipiaaGreat

/-
  Contracts of the program's tosOfRow, actsOfRow and After. Conditions: the lists have at most 2^20 elements.
-/
namespace Go.Proofs.YtdbgjgeglgipiaaGreat
open Go.RowKit

theorem compact_nil : Lib.compact ([] : List Int) = [] := by simp [Lib.compact, Lib.compactUpTo]

set_option maxRecDepth 20000 in
set_option maxHeartbeats 3200000 in
theorem actsOfRow_any (ad : Option Addr) (m cr : Nat) (row : List St) (sa : Option Addr) (sn sc : Nat) (set : List Int) (w1 : World) (hr : RowS w1 ad m row) (hml : m ≤ 1048576) (hset : Row w1 sa sn set) (hsn : sn ≤ 1048576) :
    Calls Tryz.prog 102 #[.slice ad m cr, .slice sa sn sc] w1 (RowRes w1 w1.heap.size (Lib.compact (actsR row set))) := by
  obtain ⟨i0, hi, hz0, hz1, hz2⟩ := info_parts info_int
  obtain ⟨L, hL⟩ : ∃ L, L = Lib.compact (actsR row set) := ⟨_, rfl⟩
  rw [← hL]
  have HL := Lib.hid hL
  have HR := Lib.hid hr
  have HSET := Lib.hid hset
  clear hL hr hset
  go_enter Tryz.func102, Tryz.ntmps102
  go_wp2_with fail
  go_loopw [5, 10] (fun v i wr => ∃ (k len : Nat) (v0 : Value) (T : List Int), k ≤ m ∧ i = .int .i64 k ∧ v = v0 ∧ Hid (Owns wr w1.heap.size v0 len T) ∧ Hid (T = actsR (row.take k) set) ∧ len ≤ k ∧ Below w1.heap.size w1 wr) (fun _ i _ => m - (intOf i).toNat)
  case atStart => exact ⟨0, 0, _, [], Nat.zero_le _, rfl, rfl, World.ownsRow_nil _ _ _ _, rfl, Nat.le_refl _, Below.refl _ _⟩
  case round =>
    obtain ⟨k, len, v0, T, hk, rfl, rfl, HO, HT, hlen, hnx⟩ := hrel
    by_cases hlt : k < m
    · obtain ⟨b, off, rfl, hb, hcell⟩ := HR.out.2 (by omega)
      have hkx : k < row.length := by rw [HR.out.1]; exact hlt
      obtain ⟨⟨x, y, z⟩, hs⟩ : ∃ t, t = row[k] := ⟨_, rfl⟩
      obtain ⟨d0, d1, d2⟩ := hcell k row[k] (List.getElem?_eq_getElem hkx)
      rw [← hs] at d0 d1 d2
      have g0 := (hnx.cell (p := ⟨b, off + k * 3, none⟩) hb).trans d0
      have g1 := (hnx.cell (p := ⟨b, off + k * 3 + 1, none⟩) hb).trans d1
      have g2 := (hnx.cell (p := ⟨b, off + k * 3 + 2, none⟩) hb).trans d2
      simp only at g0 g1 g2
      have HXV := Lib.hid (VarIs.new wr #[.int .i64 x, .int .i64 y, .int .i64 z] 48 rfl)
      have BX := Lib.hid (hnx.alloc hnx.size (.cells #[.int .i64 x, .int .i64 y, .int .i64 z] 48))
      have HST : Hid (actsR (row.take (k + 1)) set = actsR (row.take k) set ++ if hasB set y then [y] else []) := by
        unfold Hid actsR
        rw [List.take_succ_eq_append_getElem hkx, ← hs, List.filter_append, List.map_append]
        by_cases h : hasB set y = true <;> simp [h]
      clear d0 d1 d2 hs hcell
      obtain ⟨q, hq⟩ : ∃ q, q = hasB set y := ⟨_, rfl⟩
      rw [← hq] at HST
      have HH : Hid (∀ W, Below w1.heap.size w1 W → Calls Tryz.prog 26 #[.slice sa sn sc, .int .i64 y] W fun e w' => e = .returned (.bool q) ∧ W = w') := fun W hW => by rw [hq]; exact (implSetHas_any sa sn sc y set W (HSET.out.below hW) (by omega)).mono fun _ _ h => ⟨h.1, h.2.symm⟩
      clear hq
      have kx := HXV.out.cell (j := 1) rfl
      cases q with
      | true =>
        have HST2 : Hid (T ++ [y] = actsR (row.take (k + 1)) set) := by
          have := HST.out
          unfold Hid
          rw [HT.out]
          simpa using this.symm
        have T1 := (HO.out.alloc (.cells #[.int .i64 x, .int .i64 y, .int .i64 z] 48)).alloc (.cells #[.int .i64 y] 3)
        have S1 : Src ((wr.alloc (.cells #[.int .i64 x, .int .i64 y, .int .i64 z] 48)).alloc (.cells #[.int .i64 y] 3)) (some ⟨wr.heap.size + 1, 0, none⟩) 1 1 [y] := src_one (by simp)
        have b1 := hnx.size
        go_wp2_with fail
        refine (HH.out _ BX.out).mono ?_
        rintro e w2 ⟨rfl, rfl⟩
        go_wp2_with (at_builtin; refine wpList_app rfl (.tmp 18) (.tmp 21) rfl w1.heap.size i0 Tryz.underlying22 hi hz0 hz1 hz2 _ _ _ rfl T1 _ 1 _ [y] rfl S1 (by omega) (by simp; omega) ?_)
        rintro v2 w2 ⟨hown2, hgrow2, _⟩
        have hb2 : Below w1.heap.size w1 w2 := T1.grown (BX.out.alloc BX.out.size _) hgrow2 (Nat.le_refl _) (by simp; omega)
        have HO2 := Lib.hid hown2
        clear T1 S1 hgrow2 hown2 HO g0 g1 g2
        go_wp2_with fail
        go_roundw
        case rel => exact ⟨k + 1, len + 1, v2, T ++ [y], by omega, by go_num, rfl, HO2.out, HST2.out, by omega, hb2⟩
        case measure => simp [intOf]; omega
      | false =>
        have HST2 : Hid (T = actsR (row.take (k + 1)) set) := by
          have := HST.out
          unfold Hid
          rw [HT.out]
          simpa using this.symm
        have HO2 := Lib.hid (HO.out.alloc (.cells #[.int .i64 x, .int .i64 y, .int .i64 z] 48))
        go_wp2_with fail
        refine (HH.out _ BX.out).mono ?_
        rintro e w2 ⟨rfl, rfl⟩
        go_wp2_with fail
        go_roundw
        case rel => exact ⟨k + 1, len, _, T, by omega, by go_num, rfl, HO2.out, HST2.out, by omega, BX.out⟩
        case measure => simp [intOf]; omega
    · have HE : Hid (T = actsR row set) := by
        have := HT.out
        rw [List.take_of_length_le (by rw [HR.out.1]; omega)] at this
        exact this
      by_cases h0 : len = 0
      · subst h0
        obtain rfl : T = [] := List.length_eq_zero_iff.1 HO.out.length
        obtain ⟨av, cv, rfl⟩ := HO.out.form
        go_wp2_with fail
        refine (Tryz.slices_Compact_int_empty _ _ _).mono ?_
        rintro e w2 ⟨rfl, rfl⟩
        go_wp2_with fail
        go_ret
        obtain rfl : L = [] := by rw [HL.out, ← HE.out, compact_nil]
        exact ⟨_, rfl, HO.out, hnx⟩
      · have hv : ∀ u : Value, Owns wr w1.heap.size u len T → ¬ u = .slice none 0 0 := by
          rintro u hu rfl
          rcases hu.2 with ⟨_, e⟩ | ⟨_, _, _, e, _⟩
          · exact h0 e
          · cases e
        obtain ⟨g, c, rfl⟩ := HO.out.head (hv _ HO.out)
        clear hv
        go_wp2_with fail
        refine (compact_at g len c w1.heap.size T _ HO.out (by omega)).mono ?_
        rintro e w2 ⟨m2, hm2, rfl, ho2, hg2⟩
        have HO2 := Lib.hid ho2
        have HM2 := Lib.hid hm2
        have B2 : Hid (Below w1.heap.size w1 w2) := hnx.grown hg2 hnx.size (fun q hq => by cases hq; exact (HO.out.lt g rfl).1)
        clear ho2 hm2 hg2
        go_wp2_with fail
        go_ret
        obtain rfl : L = Lib.compact T := by rw [HL.out, ← HE.out]
        have e := HM2.out
        subst e
        exact ⟨_, rfl, HO2.out, B2.out⟩

end Go.Proofs.YtdbgjgeglgipiaaGreat

/-
  Contracts of Taken, Said, Done and After: the model's, and the program's first three. Conditions: the automaton's lists have at most 2^20 elements.
-/
namespace Go.Proofs.YtdbgjgeglgipiaaGreat
open Go.RowKit

theorem ofL_len (ss : List St) (s : Int) (set : List Int) : (ofL ss s set).length ≤ ss.length := by
  unfold ofL
  refine Nat.le_trans (putAll_len _ _) ?_
  rw [List.length_nil, Nat.zero_add, List.length_map]
  exact List.length_filter_le _ _

end Go.Proofs.YtdbgjgeglgipiaaGreat

/-
  A row of ints that begins as an empty literal and is appended to: its memory lies behind a given mark as soon as it holds something. Conditions: as each statement says; nothing here speaks of the program.
-/
namespace Go.Proofs.YtdbgjgeglgipiaaGreat
open Go.RowKit

/-- A row that the call owns: it lies behind the mark B, or is still the empty literal with no room. -/
def OutB (w : World) (B base : Nat) (v : Value) (n : Nat) (xs : List Int) : Prop :=
  Owns w base v n xs ∧ (Owns w B v n xs ∨ (n = 0 ∧ xs = [] ∧ ∃ g, v = .slice (some ⟨g, 0, none⟩) 0 0))

theorem OutB.below {w w' : World} {B base n : Nat} {v : Value} {xs : List Int} (h : OutB w B base v n xs) (hb : Below w.heap.size w w') : OutB w' B base v n xs :=
  ⟨h.1.below hb, h.2.imp (fun k => k.below hb) id⟩

theorem OutB.alloc {w : World} {B base n : Nat} {v : Value} {xs : List Int} (h : OutB w B base v n xs) (o : Obj) : OutB (w.alloc o) B base v n xs :=
  ⟨h.1.alloc o, h.2.imp (fun k => k.alloc o) id⟩

theorem OutB.start {w : World} {B base : Nat} {g : Nat} (h : Owns w base (.slice (some ⟨g, 0, none⟩) 0 0) 0 []) : OutB w B base (.slice (some ⟨g, 0, none⟩) 0 0) 0 [] :=
  ⟨h, .inr ⟨rfl, rfl, g, rfl⟩⟩

/-- Between two worlds nothing ahead of the mark was written. -/
def Behind (w w' : World) (B : Nat) : Prop := ∃ r, w.grownBy w' r ∧ ∀ k, r = some k → B ≤ k

theorem wpList_appO {P : Program} {w : World} {ops : Array Oper} {rest : List Oper} {o : Oper} {a : Act} {Q : Exit → Act → World → Prop} (hgd : o.guard = none) (s x : Operand)
    (ho : o.op = .call { callee := .builtin .append, args := #[s, x], argTypes := #[ 22, 22 ] })
    (B base : Nat) (i : TypeInfo) (ht : P.underlying 22 = some (.slice 3)) (hi : P.info? 3 = some i) (hz : i.zero = some (.int .i64 0)) (hsize : i.size = 1) (hby : i.bytes = 8)
    (v : Value) (n : Nat) (xs : List Int) (hs : a.eval s = v) (hout : OutB w B base v n xs) (ad : Addr) (m c : Nat) (ys : List Int) (hx : a.eval x = .slice (some ad) m c) (hsrc : Src w (some ad) m c ys)
    (hbig : n + m ≤ 8796093022208) (hm : 0 < m) (hB : B ≤ w.heap.size) (hbB : base ≤ B)
    (h : ∀ g' c' w', OutB w' B base (.slice (some ⟨g', 0, none⟩) (n + m) c') (n + m) (xs ++ ys) → Behind w w' B → wpList P ops Q rest (a.put o.dst (.slice (some ⟨g', 0, none⟩) (n + m) c')) w') : wpList P ops Q (o :: rest) a w := by
  have key : ∀ v' w', Owns w' B v' (n + m) (xs ++ ys) → Behind w w' B → wpList P ops Q rest (a.put o.dst v') w' := by
    intro v' w' h1 h2
    obtain ⟨g', c', rfl⟩ := h1.head (fun e => by
      have hl := h1.length
      rcases h1.2 with ⟨_, h0⟩ | ⟨g, cap, cur, hv, _⟩
      · omega
      · rw [e] at hv; cases hv)
    exact h g' c' w' ⟨h1.mono hbB, .inl h1⟩ h2
  rcases hout.2 with h1 | ⟨rfl, rfl, g, rfl⟩
  · refine wpList_app hgd s x ho B i ht hi hz hsize hby v n xs hs h1 (some ad) m c ys hx hsrc hbig hB ?_
    rintro v' w' ⟨k1, k2, _⟩
    exact key v' w' k1 ⟨_, k2, fun k hk => (h1.lt k hk).1⟩
  · obtain ⟨hl, _, hc⟩ := hsrc
    refine wpList_append_grows w hgd s x 22 ho 3 i (.int .i64 0) 1 8 ht hi hz hsize hby rfl (by decide) (some ⟨g, 0, none⟩) 0 0 [] hs (fun e => by cases e) (by simp) (fun b _ j u hu => by simp at hu)
      ad m c (ys.map (Value.int .i64)) hx (by simpa using hl) (hc ad rfl) (ints_oneCell _ _) (by omega) (by unfold maxLen; omega) (by omega) ?_
    intro v' w' h1 h2
    have h3 : Owns w' w.heap.size v' (0 + m) ([] ++ ys) := by simpa [Owns] using h1
    exact key v' w' (h3.mono hB) ⟨none, h2, fun k hk => by cases hk⟩

end Go.Proofs.YtdbgjgeglgipiaaGreat

/-
  The contract of the model's Clashes. Conditions: the lists have at most 2^20 elements.
-/
namespace Go.Proofs.YtdbgjgeglgipiaaGreat
open Go.RowKit

theorem rowP_no {S : Int → Int → Bool} {p j : Nat} (h : S p j = false) : rowP S p (j + 1) = rowP S p j := by
  show rowP S p j ++ _ = _
  rw [h]
  simp

theorem rowP_yes {S : Int → Int → Bool} {p j : Nat} (h : S p j = true) : rowP S p (j + 1) = rowP S p j ++ [((p : Int), (j : Int))] := by
  show rowP S p j ++ _ = _
  rw [h]
  simp

set_option maxRecDepth 20000 in
set_option maxHeartbeats 6400000 in
theorem specClashes_any (a b : IaD) (v u : Value) (w : World) (h : IaRow w a v) (k : IaRow w b u) (fa : Small a) (fb : Small b) :
    Calls Tryz.prog 21 #[v, u] w (OwnRes w w.heap.size (clashesOf a b)) := by
  have CSH0 : Hid (∀ W, Below w.heap.size w W → Calls Tryz.prog 41 #[v, u] W (OwnRes W W.heap.size (sharedOf a b))) := fun W hW => specShared_any a b v u W (h.below hW) (k.below hW) fa fb
  have CF : Hid (∀ W, Below w.heap.size w W → Calls Tryz.prog 40 #[v, u] W fun e w' => e = .returned (.bool (fitB a b)) ∧ Below W.heap.size W w') := fun W hW => specFit_any a b v u W (h.below hW) (k.below hW) fa fb
  obtain ⟨q, hq⟩ : ∃ q, q = fitB a b := ⟨_, rfl⟩
  obtain ⟨sh, hsh⟩ : ∃ l, l = sharedOf a b := ⟨_, rfl⟩
  obtain ⟨R, hR⟩ : ∃ l, l = clashesOf a b := ⟨_, rfl⟩
  have HOK : Hid (q = true → iaOkB a = true ∧ iaOkB b = true ∧ a.states * b.states ≤ 40) := fun e => fitB_ok (by rw [← hq]; exact e)
  have HSH : Hid (q = true → sh = shOf a b) := fun e => by rw [hsh]; unfold sharedOf; rw [← hq, e]; rfl
  have HSL : Hid (sh.length ≤ 2097152) := by
    have h1 := sh_len a b
    obtain ⟨h2, h3, _⟩ := fa
    unfold Hid
    rw [hsh]
    unfold sharedOf
    split
    · omega
    · simp
  have HR : Hid (R = if q then (allP (clashB a b) b.states.toNat a.states.toNat).map (stOf b.states) else []) := by unfold Hid; rw [hR, hq]; rfl
  rw [← hR]
  rw [← hsh] at CSH0
  rw [← hq] at CF
  clear hq hsh hR
  obtain ⟨a2, n2, c2, a3, n3, c3, a4, n4, c4, a5, n5, c5, rfl, r2, r3, r4, r5⟩ := h
  obtain ⟨b2, m2, d2, b3, m3, d3, b4, m4, d4, b5, m5, d5, rfl, q2, q3, q4, q5⟩ := k
  obtain ⟨st, it, ins, outs, hids, steps⟩ := a
  obtain ⟨su, iu, jns, juts, jids, jteps⟩ := b
  obtain ⟨f2, f3, f4, f5⟩ := fa
  obtain ⟨g2, g3, g4, g5⟩ := fb
  simp only at r2 r3 r4 r5 q2 q3 q4 q5 f2 f3 f4 f5 g2 g3 g4 g5
  have HA : Hid (∀ W, Below w.heap.size w W → IaRow W ⟨st, it, ins, outs, hids, steps⟩ (.agg #[.int .i64 st, .int .i64 it, .slice a2 n2 c2, .slice a3 n3 c3, .slice a4 n4 c4, .slice a5 n5 c5])) := fun W hW => IaRow.below ⟨a2, n2, c2, a3, n3, c3, a4, n4, c4, a5, n5, c5, rfl, r2, r3, r4, r5⟩ hW
  have HB : Hid (∀ W, Below w.heap.size w W → IaRow W ⟨su, iu, jns, juts, jids, jteps⟩ (.agg #[.int .i64 su, .int .i64 iu, .slice b2 m2 d2, .slice b3 m3 d3, .slice b4 m4 d4, .slice b5 m5 d5])) := fun W hW => IaRow.below ⟨b2, m2, d2, b3, m3, d3, b4, m4, d4, b5, m5, d5, rfl, q2, q3, q4, q5⟩ hW
  have S0 := Lib.hid (Box2.start w (iaC st it a2 n2 c2 a3 n3 c3 a4 n4 c4 a5 n5 c5) (iaC su iu b2 m2 d2 b3 m3 d3 b4 m4 d4 b5 m5 d5) 31)
  have e2 := r2.1
  have e3 := r3.1
  have e4 := r4.1
  have k2 := q2.1
  have k3 := q3.1
  have k4 := q4.1
  rw [e2] at f2
  rw [e3] at f3
  rw [e4] at f4
  rw [k2] at g2
  rw [k3] at g3
  rw [k4] at g4
  have R2 := Lib.hid r2
  have R3 := Lib.hid r3
  have R4 := Lib.hid r4
  have R5 := Lib.hid r5
  have Q2 := Lib.hid q2
  have Q3 := Lib.hid q3
  have Q4 := Lib.hid q4
  have Q5 := Lib.hid q5
  clear r2 r3 r4 r5 q2 q3 q4 q5
  clear HA HB
  simp only at HOK HSH HSL HR
  obtain ⟨C, hC⟩ : ∃ C, C = clashB ⟨st, it, ins, outs, hids, steps⟩ ⟨su, iu, jns, juts, jids, jteps⟩ := ⟨_, rfl⟩
  have HC : Hid (q = true → ∀ p q, C p q = (tellB sh (ofL steps p outs) (ofL jteps q jns) || tellB sh (ofL jteps q juts) (ofL steps p ins))) := fun e p q => by rw [hC, HSH.out e]; rfl
  rw [← hC] at HR
  clear hC HSH
  obtain ⟨nA, hnA⟩ : ∃ n : Nat, n = st.toNat := ⟨_, rfl⟩
  obtain ⟨nB, hnB⟩ : ∃ n : Nat, n = su.toNat := ⟨_, rfl⟩
  rw [← hnA, ← hnB] at HR
  have HNA := Lib.hid hnA
  have HNB := Lib.hid hnB
  clear hnA hnB
  obtain ⟨ns, hns⟩ : ∃ n, n = sh.length := ⟨_, rfl⟩
  have CSH : Hid (∀ W, Below w.heap.size w W → Calls Tryz.prog 41 #[.agg #[.int .i64 st, .int .i64 it, .slice a2 n2 c2, .slice a3 n3 c3, .slice a4 n4 c4, .slice a5 n5 c5], .agg #[.int .i64 su, .int .i64 iu, .slice b2 m2 d2, .slice b3 m3 d3, .slice b4 m4 d4, .slice b5 m5 d5]] W fun e w' => ∃ g c, e = .returned (.slice (some ⟨g, 0, none⟩) ns c) ∧ Owns w' W.heap.size (.slice (some ⟨g, 0, none⟩) ns c) ns sh ∧ Below W.heap.size W w') := by rw [hns]; exact CSH0
  have hns2 : ns ≤ 2097152 := by rw [hns]; exact HSL.out
  clear hns CSH0 HSL
  obtain ⟨i0, hi, hz0, hz1, hz2⟩ := info_parts info_int
  have S1 := Lib.hid (S0.out.alloc (.cells #[] 3))
  have O1 : Hid (Owns (((w.alloc (.cells #[.int .i64 st, .int .i64 it, .slice a2 n2 c2, .slice a3 n3 c3, .slice a4 n4 c4, .slice a5 n5 c5] 31)).alloc (.cells #[.int .i64 su, .int .i64 iu, .slice b2 m2 d2, .slice b3 m3 d3, .slice b4 m4 d4, .slice b5 m5 d5] 31)).alloc (.cells #[] 3)) w.heap.size (.slice (some ⟨w.heap.size + 2, 0, none⟩) 0 0) 0 []) := by
    have := (owns_lit ((w.alloc (.cells #[.int .i64 st, .int .i64 it, .slice a2 n2 c2, .slice a3 n3 c3, .slice a4 n4 c4, .slice a5 n5 c5] 31)).alloc (.cells #[.int .i64 su, .int .i64 iu, .slice b2 m2 d2, .slice b3 m3 d3, .slice b4 m4 d4, .slice b5 m5 d5] 31)) [] 0 rfl (by unfold maxLen; omega)).mono (base := w.heap.size) (by simp; omega)
    simpa [Hid] using this
  clear S0
  have ca0 := S1.out.2.1.cell (j := 0) (u := .int .i64 st) rfl
  have ca1 := S1.out.2.1.cell (j := 1) (u := .int .i64 it) rfl
  have ca2 := S1.out.2.1.cell (j := 2) (u := .slice a2 n2 c2) rfl
  have ca3 := S1.out.2.1.cell (j := 3) (u := .slice a3 n3 c3) rfl
  have ca4 := S1.out.2.1.cell (j := 4) (u := .slice a4 n4 c4) rfl
  have ca5 := S1.out.2.1.cell (j := 5) (u := .slice a5 n5 c5) rfl
  have cb0 := S1.out.2.2.cell (j := 0) (u := .int .i64 su) rfl
  have cb1 := S1.out.2.2.cell (j := 1) (u := .int .i64 iu) rfl
  have cb2 := S1.out.2.2.cell (j := 2) (u := .slice b2 m2 d2) rfl
  have cb3 := S1.out.2.2.cell (j := 3) (u := .slice b3 m3 d3) rfl
  have cb4 := S1.out.2.2.cell (j := 4) (u := .slice b4 m4 d4) rfl
  have cb5 := S1.out.2.2.cell (j := 5) (u := .slice b5 m5 d5) rfl

  go_enter Tryz.func21, Tryz.ntmps21
  go_wp2_with fail
  clear ca0 cb0 ca1 cb1 ca2 cb2 ca3 cb3 ca4 cb4 ca5 cb5
  refine (CSH.out _ S1.out.1).mono ?_
  rintro e w1 ⟨gs, cs, rfl, ho, hb⟩
  have S2 := Lib.hid (S1.out.below hb)
  have O2 : Hid (OutB w1 w1.heap.size w.heap.size (.slice (some ⟨w.heap.size + 2, 0, none⟩) 0 0) 0 []) := OutB.start (O1.out.below hb)
  have PSH := Lib.hid ho.row.2.2.2
  have hs2 := S2.out.1.size
  clear ho hb S1 O1 CSH
  go_wp2_with fail
  go_loopw [5, 7] (fun out pv wr => ∃ (k go co len : Nat) (O : List Int), k ≤ nA ∧ out = .slice (some ⟨go, 0, none⟩) len co ∧ pv = .int .i64 (k : Int) ∧ Hid (OutB wr w1.heap.size w.heap.size (.slice (some ⟨go, 0, none⟩) len co) len O) ∧ Hid (O = (allP C nB k).map (stOf su)) ∧ Hid (Below w1.heap.size w1 wr) ∧ Hid (0 < k → q = true)) (fun _ pv _ => nA - (intOf pv).toNat)
  case atStart => exact ⟨0, _, 0, 0, [], Nat.zero_le _, rfl, rfl, O2.out, rfl, Below.refl _ _, fun h => absurd h (by omega)⟩
  case round =>
    obtain ⟨k, go, co, len, O, hk, rfl, rfl, HO, HT, HB, HQ⟩ := hrel
    clear O2
    by_cases hlt : (k : Int) < st
    · have ca0 := (S2.out.below HB.out).2.1.cell (j := 0) (u := .int .i64 st) rfl
      have ca1 := (S2.out.below HB.out).2.1.cell (j := 1) (u := .int .i64 it) rfl
      have ca2 := (S2.out.below HB.out).2.1.cell (j := 2) (u := .slice a2 n2 c2) rfl
      have ca3 := (S2.out.below HB.out).2.1.cell (j := 3) (u := .slice a3 n3 c3) rfl
      have ca4 := (S2.out.below HB.out).2.1.cell (j := 4) (u := .slice a4 n4 c4) rfl
      have ca5 := (S2.out.below HB.out).2.1.cell (j := 5) (u := .slice a5 n5 c5) rfl
      have cb0 := (S2.out.below HB.out).2.2.cell (j := 0) (u := .int .i64 su) rfl
      have cb1 := (S2.out.below HB.out).2.2.cell (j := 1) (u := .int .i64 iu) rfl
      have cb2 := (S2.out.below HB.out).2.2.cell (j := 2) (u := .slice b2 m2 d2) rfl
      have cb3 := (S2.out.below HB.out).2.2.cell (j := 3) (u := .slice b3 m3 d3) rfl
      have cb4 := (S2.out.below HB.out).2.2.cell (j := 4) (u := .slice b4 m4 d4) rfl
      have cb5 := (S2.out.below HB.out).2.2.cell (j := 5) (u := .slice b5 m5 d5) rfl
      go_wp2_with fail
      clear ca0 cb0 ca1 cb1 ca2 cb2 ca3 cb3 ca4 cb4 ca5 cb5
      refine (CF.out _ (S2.out.below HB.out).1).mono ?_
      rintro e wa ⟨rfl, hba⟩
      have BA := Lib.hid (HB.out.trans (hba.mono HB.out.size))
      have OA := Lib.hid (HO.out.below hba)
      clear hba HB HO
      cases q with
      | false =>
        obtain rfl : R = [] := HR.out
        have hk0 : k = 0 := by
          apply Classical.byContradiction
          intro hne
          have := HQ.out (by omega)
          cases this
        have HO0 : Hid (O = []) := by rw [HT.out, hk0]; rfl
        go_wp2_with fail
        go_ret
        have e := OA.out.1.length
        rw [HO0.out] at e
        obtain rfl : len = 0 := by simpa using e.symm
        have := OA.out.1
        rw [HO0.out] at this
        exact ⟨_, _, rfl, this, S2.out.1.trans (BA.out.mono hs2)⟩
      | true =>
        have hsA := iaOk_states (HOK.out (by simp)).1
        have hsB := iaOk_states (HOK.out (by simp)).2.1
        have lA := iaOk_len (HOK.out (by simp)).1
        have lB := iaOk_len (HOK.out (by simp)).2.1
        simp only at hsA hsB lA lB
        have hkn : k < nA := by have h1 := HNA.out; omega
        have hA40 : nA ≤ 40 := by have h1 := HNA.out; omega
        have hB40 : nB ≤ 40 := by have h1 := HNB.out; omega
        obtain ⟨P1, hP1⟩ : ∃ l, l = ofL steps (k : Int) outs := ⟨_, rfl⟩
        obtain ⟨P4, hP4⟩ : ∃ l, l = ofL steps (k : Int) ins := ⟨_, rfl⟩
        obtain ⟨l1, hl1⟩ : ∃ n, n = P1.length := ⟨_, rfl⟩
        obtain ⟨l4, hl4⟩ : ∃ n, n = P4.length := ⟨_, rfl⟩
        have hl1b : l1 ≤ 400 := by rw [hl1, hP1]; exact Nat.le_trans (ofL_len _ _ _) lA
        have hl4b : l4 ≤ 400 := by rw [hl4, hP4]; exact Nat.le_trans (ofL_len _ _ _) lA
        have C1 : Hid (∀ W, Below w.heap.size w W → Calls Tryz.prog 47 #[.agg #[.int .i64 st, .int .i64 it, .slice a2 n2 c2, .slice a3 n3 c3, .slice a4 n4 c4, .slice a5 n5 c5], .int .i64 (k : Int), .slice a3 n3 c3] W fun e w' => ∃ g c, e = .returned (.slice (some ⟨g, 0, none⟩) l1 c) ∧ Owns w' W.heap.size (.slice (some ⟨g, 0, none⟩) l1 c) l1 P1 ∧ Below W.heap.size W w') := fun W hW => by
          rw [hl1, hP1]
          exact of_any st it k _ _ _ a5 n5 c5 steps a3 n3 c3 outs W (R5.out.below hW) (by have h1 := R5.out.1; omega) (R3.out.below hW) (by omega)
        have C4 : Hid (∀ W, Below w.heap.size w W → Calls Tryz.prog 47 #[.agg #[.int .i64 st, .int .i64 it, .slice a2 n2 c2, .slice a3 n3 c3, .slice a4 n4 c4, .slice a5 n5 c5], .int .i64 (k : Int), .slice a2 n2 c2] W fun e w' => ∃ g c, e = .returned (.slice (some ⟨g, 0, none⟩) l4 c) ∧ Owns w' W.heap.size (.slice (some ⟨g, 0, none⟩) l4 c) l4 P4 ∧ Below W.heap.size W w') := fun W hW => by
          rw [hl4, hP4]
          exact of_any st it k _ _ _ a5 n5 c5 steps a2 n2 c2 ins W (R5.out.below hW) (by have h1 := R5.out.1; omega) (R2.out.below hW) (by omega)
        have HP1 := Lib.hid hP1
        have HP4 := Lib.hid hP4
        obtain ⟨M1, hM1⟩ : ∃ l, l = meetOf P1 sh := ⟨_, rfl⟩
        obtain ⟨lm1, hlm1⟩ : ∃ n, n = M1.length := ⟨_, rfl⟩
        have hlm1b : lm1 ≤ 400 := by rw [hlm1, hM1]; have := meet_len P1 sh; omega
        have HM1 := Lib.hid hM1
        have HLM1 := Lib.hid hlm1
        clear hl1 hl4 hP1 hP4 hM1 hlm1
        go_wp2_with fail
        go_loopw [5, 8] (fun out qv wr2 => ∃ (j go co len : Nat) (O : List Int), j ≤ nB ∧ out = .slice (some ⟨go, 0, none⟩) len co ∧ qv = .int .i64 (j : Int) ∧ Hid (OutB wr2 w1.heap.size w.heap.size (.slice (some ⟨go, 0, none⟩) len co) len O) ∧ Hid (O = (allP C nB k ++ rowP C k j).map (stOf su)) ∧ Hid (Below w1.heap.size w1 wr2)) (fun _ qv _ => nB - (intOf qv).toNat)
        case atStart => exact ⟨0, go, co, len, O, Nat.zero_le _, rfl, rfl, OA.out, by unfold Hid; rw [HT.out]; simp [rowP], BA.out⟩
        case round =>
          clear HT OA BA
          obtain ⟨j, go, co, len, O, hj, rfl, rfl, HO, HT, HB⟩ := hrel
          by_cases hltj : (j : Int) < su
          · have hjn : j < nB := by have h1 := HNB.out; omega
            obtain ⟨P2, hP2⟩ : ∃ l, l = ofL jteps (j : Int) juts := ⟨_, rfl⟩
            obtain ⟨P3, hP3⟩ : ∃ l, l = ofL jteps (j : Int) jns := ⟨_, rfl⟩
            obtain ⟨l2, hl2⟩ : ∃ n, n = P2.length := ⟨_, rfl⟩
            obtain ⟨l3, hl3⟩ : ∃ n, n = P3.length := ⟨_, rfl⟩
            have hl2b : l2 ≤ 400 := by rw [hl2, hP2]; exact Nat.le_trans (ofL_len _ _ _) lB
            have hl3b : l3 ≤ 400 := by rw [hl3, hP3]; exact Nat.le_trans (ofL_len _ _ _) lB
            have C2 : Hid (∀ W, Below w.heap.size w W → Calls Tryz.prog 47 #[.agg #[.int .i64 su, .int .i64 iu, .slice b2 m2 d2, .slice b3 m3 d3, .slice b4 m4 d4, .slice b5 m5 d5], .int .i64 (j : Int), .slice b3 m3 d3] W fun e w' => ∃ g c, e = .returned (.slice (some ⟨g, 0, none⟩) l2 c) ∧ Owns w' W.heap.size (.slice (some ⟨g, 0, none⟩) l2 c) l2 P2 ∧ Below W.heap.size W w') := fun W hW => by
              rw [hl2, hP2]
              exact of_any su iu j _ _ _ b5 m5 d5 jteps b3 m3 d3 juts W (Q5.out.below hW) (by have h1 := Q5.out.1; omega) (Q3.out.below hW) (by omega)
            have C3 : Hid (∀ W, Below w.heap.size w W → Calls Tryz.prog 47 #[.agg #[.int .i64 su, .int .i64 iu, .slice b2 m2 d2, .slice b3 m3 d3, .slice b4 m4 d4, .slice b5 m5 d5], .int .i64 (j : Int), .slice b2 m2 d2] W fun e w' => ∃ g c, e = .returned (.slice (some ⟨g, 0, none⟩) l3 c) ∧ Owns w' W.heap.size (.slice (some ⟨g, 0, none⟩) l3 c) l3 P3 ∧ Below W.heap.size W w') := fun W hW => by
              rw [hl3, hP3]
              exact of_any su iu j _ _ _ b5 m5 d5 jteps b2 m2 d2 jns W (Q5.out.below hW) (by have h1 := Q5.out.1; omega) (Q2.out.below hW) (by omega)
            obtain ⟨M2, hM2⟩ : ∃ l, l = meetOf P2 sh := ⟨_, rfl⟩
            obtain ⟨lm2, hlm2⟩ : ∃ n, n = M2.length := ⟨_, rfl⟩
            have hlm2b : lm2 ≤ 400 := by rw [hlm2, hM2]; have := meet_len P2 sh; omega
            obtain ⟨x1, hx1⟩ : ∃ x, x = inB M1 P3 := ⟨_, rfl⟩
            obtain ⟨x2, hx2⟩ : ∃ x, x = inB M2 P4 := ⟨_, rfl⟩
            have HCC : Hid (C k j = (!x1 || !x2)) := by
              unfold Hid
              rw [HC.out (by simp), hx1, hx2, HM1.out, hM2, tell_in, tell_in, HP1.out, HP4.out, hP2, hP3]
            have CM1 : Hid (∀ W g c gt ct, Row W (some g) l1 P1 → Row W (some gt) ns sh → Calls Tryz.prog 46 #[.slice (some g) l1 c, .slice (some gt) ns ct] W fun e w' => ∃ g c, e = .returned (.slice (some ⟨g, 0, none⟩) lm1 c) ∧ Owns w' W.heap.size (.slice (some ⟨g, 0, none⟩) lm1 c) lm1 M1 ∧ Below W.heap.size W w') := fun W g c gt ct h1 h2 => by
              rw [HLM1.out, HM1.out]
              exact specSetMeet_any (some g) (some gt) l1 c ns ct P1 sh W h1 h2 (by omega) (by omega)
            have CM2 : Hid (∀ W g c gt ct, Row W (some g) l2 P2 → Row W (some gt) ns sh → Calls Tryz.prog 46 #[.slice (some g) l2 c, .slice (some gt) ns ct] W fun e w' => ∃ g c, e = .returned (.slice (some ⟨g, 0, none⟩) lm2 c) ∧ Owns w' W.heap.size (.slice (some ⟨g, 0, none⟩) lm2 c) lm2 M2 ∧ Below W.heap.size W w') := fun W g c gt ct h1 h2 => by
              rw [hlm2, hM2]
              exact specSetMeet_any (some g) (some gt) l2 c ns ct P2 sh W h1 h2 (by omega) (by omega)
            have CI1 : Hid (∀ W g c gt ct, Row W (some g) lm1 M1 → Row W (some gt) l3 P3 → Calls Tryz.prog 48 #[.slice (some g) lm1 c, .slice (some gt) l3 ct] W fun e w' => e = .returned (.bool x1) ∧ W = w') := fun W g c gt ct h1 h2 => by
              rw [hx1]
              exact (specSetIn_any (some g) (some gt) lm1 c l3 ct M1 P3 W h1 h2 (by omega) (by omega)).mono fun e w' h => ⟨h.1, h.2.symm⟩
            have CI2 : Hid (∀ W g c gt ct, Row W (some g) lm2 M2 → Row W (some gt) l4 P4 → Calls Tryz.prog 48 #[.slice (some g) lm2 c, .slice (some gt) l4 ct] W fun e w' => e = .returned (.bool x2) ∧ W = w') := fun W g c gt ct h1 h2 => by
              rw [hx2]
              exact (specSetIn_any (some g) (some gt) lm2 c l4 ct M2 P4 W h1 h2 (by omega) (by omega)).mono fun e w' h => ⟨h.1, h.2.symm⟩
            have hkb : (k + 1) * nB ≤ 1600 := Nat.le_trans (Nat.mul_le_mul (show k + 1 ≤ 40 by omega) hB40) (by omega)
            have hlen : len ≤ 1600 := by
              have h1 := HT.out
              have h2 := allP_len C nB k
              have h3 := rowP_len C k j
              have h4 := HO.out.1.length
              rw [h1, List.length_map, List.length_append] at h4
              rw [Nat.succ_mul] at hkb
              omega
            have hmul : 0 ≤ (k : Int) * su ∧ (k : Int) * su ≤ 1600 := by
              have h1 : ((k : Int)) * su ≤ 40 * 40 := Int.mul_le_mul (by omega) (by omega) (by omega) (by omega)
              have h2 : 0 ≤ (k : Int) * su := Int.mul_nonneg (by omega) (by omega)
              omega
            clear hP2 hP3 hl2 hl3 hM2 hlm2 hx1 hx2
            have ca0 := (S2.out.below HB.out).2.1.cell (j := 0) (u := .int .i64 st) rfl
            have ca1 := (S2.out.below HB.out).2.1.cell (j := 1) (u := .int .i64 it) rfl
            have ca2 := (S2.out.below HB.out).2.1.cell (j := 2) (u := .slice a2 n2 c2) rfl
            have ca3 := (S2.out.below HB.out).2.1.cell (j := 3) (u := .slice a3 n3 c3) rfl
            have ca4 := (S2.out.below HB.out).2.1.cell (j := 4) (u := .slice a4 n4 c4) rfl
            have ca5 := (S2.out.below HB.out).2.1.cell (j := 5) (u := .slice a5 n5 c5) rfl
            have cb0 := (S2.out.below HB.out).2.2.cell (j := 0) (u := .int .i64 su) rfl
            have cb1 := (S2.out.below HB.out).2.2.cell (j := 1) (u := .int .i64 iu) rfl
            have cb2 := (S2.out.below HB.out).2.2.cell (j := 2) (u := .slice b2 m2 d2) rfl
            have cb3 := (S2.out.below HB.out).2.2.cell (j := 3) (u := .slice b3 m3 d3) rfl
            have cb4 := (S2.out.below HB.out).2.2.cell (j := 4) (u := .slice b4 m4 d4) rfl
            have cb5 := (S2.out.below HB.out).2.2.cell (j := 5) (u := .slice b5 m5 d5) rfl
            go_wp2_with fail
            clear ca0 cb0 ca1 cb1 ca2 cb2 ca3 cb3 ca4 cb4 ca5 cb5
            refine (C1.out _ (S2.out.below HB.out).1).mono ?_
            rintro e w11 ⟨g1, k1, rfl, ho, hb⟩
            have B11 := Lib.hid (HB.out.trans (hb.mono HB.out.size))
            have O11 := Lib.hid (HO.out.below hb)
            have A11 := Lib.hid ho.row.2.2.2
            clear hb ho HB HO 
            go_wp2_with fail
            refine (CM1.out _ _ _ _ _ A11.out (PSH.out.below B11.out)).mono ?_
            rintro e w12 ⟨g2, k2x, rfl, ho, hb⟩
            have B12 := Lib.hid (B11.out.trans (hb.mono B11.out.size))
            have O12 := Lib.hid (O11.out.below hb)
            have A12 := Lib.hid (A11.out.below hb)
            have D12 := Lib.hid ho.row.2.2.2
            clear hb ho B11 O11 A11
            have ca0 := (S2.out.below B12.out).2.1.cell (j := 0) (u := .int .i64 st) rfl
            have ca1 := (S2.out.below B12.out).2.1.cell (j := 1) (u := .int .i64 it) rfl
            have ca2 := (S2.out.below B12.out).2.1.cell (j := 2) (u := .slice a2 n2 c2) rfl
            have ca3 := (S2.out.below B12.out).2.1.cell (j := 3) (u := .slice a3 n3 c3) rfl
            have ca4 := (S2.out.below B12.out).2.1.cell (j := 4) (u := .slice a4 n4 c4) rfl
            have ca5 := (S2.out.below B12.out).2.1.cell (j := 5) (u := .slice a5 n5 c5) rfl
            have cb0 := (S2.out.below B12.out).2.2.cell (j := 0) (u := .int .i64 su) rfl
            have cb1 := (S2.out.below B12.out).2.2.cell (j := 1) (u := .int .i64 iu) rfl
            have cb2 := (S2.out.below B12.out).2.2.cell (j := 2) (u := .slice b2 m2 d2) rfl
            have cb3 := (S2.out.below B12.out).2.2.cell (j := 3) (u := .slice b3 m3 d3) rfl
            have cb4 := (S2.out.below B12.out).2.2.cell (j := 4) (u := .slice b4 m4 d4) rfl
            have cb5 := (S2.out.below B12.out).2.2.cell (j := 5) (u := .slice b5 m5 d5) rfl
            go_wp2_with fail
            clear ca0 cb0 ca1 cb1 ca2 cb2 ca3 cb3 ca4 cb4 ca5 cb5
            refine (C2.out _ (S2.out.below B12.out).1).mono ?_
            rintro e w13 ⟨g3, k3x, rfl, ho, hb⟩
            have B13 := Lib.hid (B12.out.trans (hb.mono B12.out.size))
            have O13 := Lib.hid (O12.out.below hb)
            have A13 := Lib.hid (A12.out.below hb)
            have D13 := Lib.hid (D12.out.below hb)
            have E13 := Lib.hid ho.row.2.2.2
            clear hb ho B12 O12 A12 D12
            go_wp2_with fail
            refine (CM2.out _ _ _ _ _ E13.out (PSH.out.below B13.out)).mono ?_
            rintro e w14 ⟨g4, k4x, rfl, ho, hb⟩
            have B14 := Lib.hid (B13.out.trans (hb.mono B13.out.size))
            have O14 := Lib.hid (O13.out.below hb)
            have A14 := Lib.hid (A13.out.below hb)
            have D14 := Lib.hid (D13.out.below hb)
            have E14 := Lib.hid (E13.out.below hb)
            have F14 := Lib.hid ho.row.2.2.2
            clear hb ho B13 O13 A13 D13 E13
            have ca0 := (S2.out.below B14.out).2.1.cell (j := 0) (u := .int .i64 st) rfl
            have ca1 := (S2.out.below B14.out).2.1.cell (j := 1) (u := .int .i64 it) rfl
            have ca2 := (S2.out.below B14.out).2.1.cell (j := 2) (u := .slice a2 n2 c2) rfl
            have ca3 := (S2.out.below B14.out).2.1.cell (j := 3) (u := .slice a3 n3 c3) rfl
            have ca4 := (S2.out.below B14.out).2.1.cell (j := 4) (u := .slice a4 n4 c4) rfl
            have ca5 := (S2.out.below B14.out).2.1.cell (j := 5) (u := .slice a5 n5 c5) rfl
            have cb0 := (S2.out.below B14.out).2.2.cell (j := 0) (u := .int .i64 su) rfl
            have cb1 := (S2.out.below B14.out).2.2.cell (j := 1) (u := .int .i64 iu) rfl
            have cb2 := (S2.out.below B14.out).2.2.cell (j := 2) (u := .slice b2 m2 d2) rfl
            have cb3 := (S2.out.below B14.out).2.2.cell (j := 3) (u := .slice b3 m3 d3) rfl
            have cb4 := (S2.out.below B14.out).2.2.cell (j := 4) (u := .slice b4 m4 d4) rfl
            have cb5 := (S2.out.below B14.out).2.2.cell (j := 5) (u := .slice b5 m5 d5) rfl
            go_wp2_with fail
            clear ca0 cb0 ca1 cb1 ca2 cb2 ca3 cb3 ca4 cb4 ca5 cb5
            refine (C3.out _ (S2.out.below B14.out).1).mono ?_
            rintro e w15 ⟨g5x, k5x, rfl, ho, hb⟩
            have B15 := Lib.hid (B14.out.trans (hb.mono B14.out.size))
            have O15 := Lib.hid (O14.out.below hb)
            have A15 := Lib.hid (A14.out.below hb)
            have D15 := Lib.hid (D14.out.below hb)
            have E15 := Lib.hid (E14.out.below hb)
            have F15 := Lib.hid (F14.out.below hb)
            have G15 := Lib.hid ho.row.2.2.2
            clear hb ho B14 O14 A14 D14 E14 F14
            go_wp2_with fail
            refine (CI1.out _ _ _ _ _ D15.out G15.out).mono ?_
            rintro e w16 ⟨rfl, rfl⟩
            cases x1 with
            | false =>
              have HCY : Hid (C k j = true) := by unfold Hid; rw [HCC.out]; rfl
              have HT2 : Hid (O ++ [(k : Int) * su + (j : Int)] = (allP C nB k ++ rowP C k (j + 1)).map (stOf su)) := by
                unfold Hid
                rw [rowP_yes HCY.out, HT.out, ← List.append_assoc, List.map_append (l₂ := [_])]
                rfl
              have T1 := O15.out.alloc (.cells #[.int .i64 ((k : Int) * su + (j : Int))] 3)
              have b1 := B15.out.size
              have BA : Hid (Below w1.heap.size w1 (w15.alloc (.cells #[.int .i64 ((k : Int) * su + (j : Int))] 3))) := B15.out.alloc b1 _
              have S1x : Src (w15.alloc (.cells #[.int .i64 ((k : Int) * su + (j : Int))] 3)) (some ⟨w15.heap.size, 0, none⟩) 1 1 [(k : Int) * su + (j : Int)] := src_one (by simp)
              have cb0 := (S2.out.below B15.out).2.2.cell (j := 0) (u := .int .i64 su) rfl
              clear A15 D15 E15 F15 G15
              go_wp2_with (at_builtin; refine wpList_appO rfl (.tmp 64) (.tmp 71) rfl w1.heap.size w.heap.size i0 Tryz.underlying22 hi hz0 hz1 hz2 _ len _ rfl T1 _ 1 _ [(k : Int) * su + (j : Int)] rfl S1x (by omega) (by omega) (by simp; omega) hs2 ?_)
              rintro go2 co2 w22 hown ⟨r, hgrow, hrr⟩
              have B22 := Lib.hid (BA.out.grown hgrow BA.out.size hrr)
              have O22 := Lib.hid hown
              clear hown hgrow hrr T1 S1x cb0 BA O15 B15
              go_wp2_with fail
              go_roundw
              case rel => exact ⟨j + 1, go2, co2, len + 1, _, by omega, rfl, by go_num, O22.out, HT2.out, B22.out⟩
              case measure => simp [intOf]; omega

            | true =>
              have ca0 := (S2.out.below B15.out).2.1.cell (j := 0) (u := .int .i64 st) rfl
              have ca1 := (S2.out.below B15.out).2.1.cell (j := 1) (u := .int .i64 it) rfl
              have ca2 := (S2.out.below B15.out).2.1.cell (j := 2) (u := .slice a2 n2 c2) rfl
              have ca3 := (S2.out.below B15.out).2.1.cell (j := 3) (u := .slice a3 n3 c3) rfl
              have ca4 := (S2.out.below B15.out).2.1.cell (j := 4) (u := .slice a4 n4 c4) rfl
              have ca5 := (S2.out.below B15.out).2.1.cell (j := 5) (u := .slice a5 n5 c5) rfl
              have cb0 := (S2.out.below B15.out).2.2.cell (j := 0) (u := .int .i64 su) rfl
              have cb1 := (S2.out.below B15.out).2.2.cell (j := 1) (u := .int .i64 iu) rfl
              have cb2 := (S2.out.below B15.out).2.2.cell (j := 2) (u := .slice b2 m2 d2) rfl
              have cb3 := (S2.out.below B15.out).2.2.cell (j := 3) (u := .slice b3 m3 d3) rfl
              have cb4 := (S2.out.below B15.out).2.2.cell (j := 4) (u := .slice b4 m4 d4) rfl
              have cb5 := (S2.out.below B15.out).2.2.cell (j := 5) (u := .slice b5 m5 d5) rfl
              go_wp2_with fail
              clear ca0 cb0 ca1 cb1 ca2 cb2 ca3 cb3 ca4 cb4 ca5 cb5
              refine (C4.out _ (S2.out.below B15.out).1).mono ?_
              rintro e w17 ⟨g6x, k6x, rfl, ho, hb⟩
              have B17 := Lib.hid (B15.out.trans (hb.mono B15.out.size))
              have O17 := Lib.hid (O15.out.below hb)
              have A17 := Lib.hid (A15.out.below hb)
              have D17 := Lib.hid (D15.out.below hb)
              have E17 := Lib.hid (E15.out.below hb)
              have F17 := Lib.hid (F15.out.below hb)
              have G17 := Lib.hid (G15.out.below hb)
              have K17 := Lib.hid ho.row.2.2.2
              clear hb ho B15 O15 A15 D15 E15 F15 G15
              go_wp2_with fail
              refine (CI2.out _ _ _ _ _ F17.out K17.out).mono ?_
              rintro e w18 ⟨rfl, rfl⟩
              cases x2 with
              | false =>
                have HCY : Hid (C k j = true) := by unfold Hid; rw [HCC.out]; rfl
                have HT2 : Hid (O ++ [(k : Int) * su + (j : Int)] = (allP C nB k ++ rowP C k (j + 1)).map (stOf su)) := by
                  unfold Hid
                  rw [rowP_yes HCY.out, HT.out, ← List.append_assoc, List.map_append (l₂ := [_])]
                  rfl
                have T1 := O17.out.alloc (.cells #[.int .i64 ((k : Int) * su + (j : Int))] 3)
                have b1 := B17.out.size
                have BA : Hid (Below w1.heap.size w1 (w17.alloc (.cells #[.int .i64 ((k : Int) * su + (j : Int))] 3))) := B17.out.alloc b1 _
                have S1x : Src (w17.alloc (.cells #[.int .i64 ((k : Int) * su + (j : Int))] 3)) (some ⟨w17.heap.size, 0, none⟩) 1 1 [(k : Int) * su + (j : Int)] := src_one (by simp)
                have cb0 := (S2.out.below B17.out).2.2.cell (j := 0) (u := .int .i64 su) rfl
                clear A17 D17 E17 F17 G17 K17
                go_wp2_with (at_builtin; refine wpList_appO rfl (.tmp 64) (.tmp 71) rfl w1.heap.size w.heap.size i0 Tryz.underlying22 hi hz0 hz1 hz2 _ len _ rfl T1 _ 1 _ [(k : Int) * su + (j : Int)] rfl S1x (by omega) (by omega) (by simp; omega) hs2 ?_)
                rintro go2 co2 w22 hown ⟨r, hgrow, hrr⟩
                have B22 := Lib.hid (BA.out.grown hgrow BA.out.size hrr)
                have O22 := Lib.hid hown
                clear hown hgrow hrr T1 S1x cb0 BA O17 B17
                go_wp2_with fail
                go_roundw
                case rel => exact ⟨j + 1, go2, co2, len + 1, _, by omega, rfl, by go_num, O22.out, HT2.out, B22.out⟩
                case measure => simp [intOf]; omega

              | true =>
                have HCY : Hid (C k j = false) := by unfold Hid; rw [HCC.out]; rfl
                have HT2 : Hid (O = (allP C nB k ++ rowP C k (j + 1)).map (stOf su)) := by
                  unfold Hid
                  rw [rowP_no HCY.out, HT.out]
                go_wp2_with fail
                go_roundw
                case rel => exact ⟨j + 1, go, co, len, O, by omega, rfl, by go_num, O17.out, HT2.out, B17.out⟩
                case measure => simp [intOf]; omega

          · obtain rfl : j = nB := by have h1 := HNB.out; omega
            have cb0 := (S2.out.below HB.out).2.2.cell (j := 0) (u := .int .i64 su) rfl
            go_wp2_with fail
            go_roundw
            case rel => exact ⟨k + 1, go, co, len, O, by omega, rfl, by go_num, HO.out, HT.out, HB.out, fun _ => by simp⟩
            case measure => simp [intOf]; omega
    · have HE : Hid (O = R) := by
        unfold Hid
        rw [HT.out, HR.out]
        cases q with
        | true =>
          have h1 := HNA.out
          have : k = nA := by omega
          rw [this]
          rfl
        | false =>
          have hk0 : k = 0 := by
            apply Classical.byContradiction
            intro hne
            have := HQ.out (by omega)
            cases this
          rw [hk0]
          rfl
      have ca0 := (S2.out.below HB.out).2.1.cell (j := 0) (u := .int .i64 st) rfl
      go_wp2_with fail
      go_ret
      have e := HO.out.1.length
      rw [← HE.out]
      subst e
      exact ⟨_, _, rfl, HO.out.1, S2.out.1.trans (HB.out.mono hs2)⟩

end Go.Proofs.YtdbgjgeglgipiaaGreat
