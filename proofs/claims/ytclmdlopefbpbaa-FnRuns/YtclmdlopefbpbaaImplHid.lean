/-
  Contracts of the program's functions of chapter 4 but Runs. Conditions: the automaton's lists have at most 2^20 elements.
-/
import Derived.Test.YtclmdlopefbpbaaComeTo
import Derived.Test.YtclmdlopefbpbaaSpecHid
import Derived.Test.YtclmdlopefbpbaaOf
namespace Go.Proofs.Ytclmdlopefbpbaa
open Go.RowKit

/-- Rows of steps in a slice of slices. -/
def RowRows (w : World) (ad : Option Addr) (n : Nat) (RR : List (List St)) : Prop :=
  RR.length = n ∧ (0 < n → ∃ b off, ad = some ⟨b, off, none⟩ ∧ b < w.heap.size ∧ ∀ j r, RR[j]? = some r → ∃ a c, w.cell? ⟨b, off + j, none⟩ = some (.slice a r.length c) ∧ RowS w a r.length r)

theorem RowRows.below {w w' : World} {ad : Option Addr} {n : Nat} {RR : List (List St)} (h : RowRows w ad n RR) (hb : Below w.heap.size w w') : RowRows w' ad n RR := by
  refine ⟨h.1, fun hn => ?_⟩
  obtain ⟨b, off, e, hlt, hc⟩ := h.2 hn
  refine ⟨b, off, e, Nat.lt_of_lt_of_le hlt hb.size, fun j r hr => ?_⟩
  obtain ⟨a, c, h1, h2⟩ := hc j r hr
  exact ⟨a, c, (hb.cell (p := ⟨b, off + j, none⟩) hlt).trans h1, h2.below hb⟩

theorem own_src {w : World} {base n c : Nat} {a : Option Addr} {xs : List Int} (h : Owns w base (.slice a n c) n xs) : Src w a n c xs := by
  refine row_src h.row.2.2.2 (fun e => ?_)
  subst e
  rcases h.2 with ⟨e, _⟩ | ⟨_, _, _, e, _⟩
  · cases e; rfl
  · cases e

/-- An append of one slice of steps onto a row of them of the call's own. -/
theorem wpList_appR {P : Program} {w : World} {ops : Array Oper} {rest : List Oper} {o : Oper} {a : Act} {Q : Exit → Act → World → Prop} (hgd : o.guard = none) (s x : Operand)
    (ho : o.op = .call { callee := .builtin .append, args := #[s, x], argTypes := #[ 60, 60 ] })
    (base : Nat) (i : TypeInfo) (ht : P.underlying 60 = some (.slice 25)) (hi : P.info? 25 = some i) (hz : i.zero = some (.slice none 0 0)) (hsize : i.size = 1) (hby : i.bytes = 24)
    (v : Value) (n : Nat) (xs : List Value) (hs : a.eval s = v) (hown : w.ownsRow base 25 1 v n xs) (b : Nat) (u : Value) (hx : a.eval x = .slice (some ⟨b, 0, none⟩) 1 1) (hc : w.cell? ⟨b, 0, none⟩ = some u) (hone : u.oneCell' = true)
    (hbig : n + 1 ≤ 1048577) (hbase : base ≤ w.heap.size)
    (h : ∀ v' w', w'.ownsRow base 25 1 v' (n + 1) (xs ++ [u]) → w.grownBy w' v.ownBlock → wpList P ops Q rest (a.put o.dst v') w') : wpList P ops Q (o :: rest) a w := by
  refine wpList_append_own w hgd s x 60 ho base 25 i (.slice none 0 0) 1 24 ht hi hz hsize hby rfl (by decide) v n _ hs hown ⟨b, 0, none⟩ 1 1 [u] hx rfl (fun j u' hu => ?_) (fun u' hu => ?_) (by unfold maxLen; omega) (by omega) hbase ?_
  · rw [add_lit]
    obtain ⟨hj, rfl⟩ := List.getElem?_eq_some_iff.1 hu
    obtain rfl : j = 0 := by simpa using hj
    exact hc
  · obtain rfl := List.mem_singleton.1 hu
    exact hone
  · intro v' w' h1 h2 _
    exact h v' w' h1 h2

set_option maxRecDepth 20000 in
set_option maxHeartbeats 3200000 in
theorem rowsAt_any (base : Nat) (C : Array Value) (steps : List St) (sa : Option Addr) (sn sc : Nat) (L : List Int) (w : World) (hC : RowsAt w base C steps) (rs : Row w sa sn L) (hsn : sn ≤ 1048576) (hlow : ∀ x ∈ L, 0 ≤ x ∧ x < 40) :
    Calls Try.prog 68 #[.agg C, .slice sa sn sc] w fun e w' => ∃ ad c, e = .returned (.slice ad sn c) ∧ RowRows w' ad sn (L.map (rowL steps)) ∧ Below w.heap.size w w' := by
  obtain ⟨i0, hi0, hz0, hz1, hz2⟩ := info_parts (show (Try.prog.info? 25).map (fun i => (i.zero, i.size, i.bytes)) = some (some (.slice none 0 0), 1, 24) by kernel_rfl)
  have HC := Lib.hid hC
  have HR := Lib.hid rs
  have HLW := Lib.hid hlow
  clear hC rs hlow
  have V0 := Lib.hid (VarIs.new w C 69 rfl)
  have B0 : Hid (Below w.heap.size w (w.alloc (.cells C 69))) := (Below.refl _ _).alloc (Nat.le_refl _) _
  go_enter Try.func68, Try.ntmps68
  go_wp2_with fail
  go_loopw [5, 10] (fun v i wr => ∃ (k : Nat) (v0 : Value) (T : List Value), k ≤ sn ∧ i = .int .i64 k ∧ v0 = v ∧ Hid (wr.ownsRow (w.heap.size + 1) 25 1 v0 k T) ∧ Hid (∀ j, j < k → ∃ a c, T[j]? = some (.slice a (rowL steps (L.getD j 0)).length c) ∧ RowS w a (rowL steps (L.getD j 0)).length (rowL steps (L.getD j 0))) ∧ Below w.heap.size w wr ∧ Hid (VarIs wr w.heap.size C 69)) (fun _ i _ => sn - (intOf i).toNat)
  case atStart => exact ⟨0, _, [], Nat.zero_le _, rfl, rfl, World.ownsRow_nil _ _ _ _, fun j hj => absurd hj (by omega), B0.out, V0.out⟩
  case round =>
    obtain ⟨k, v0, T, hk, rfl, rfl, HO, HT, hnx, HV⟩ := hrel
    clear V0 B0
    by_cases hlt : k < sn
    · obtain ⟨b, off, rfl, hb, hcell⟩ := HR.out.2 (by omega)
      have hkx : k < L.length := by rw [HR.out.1]; exact hlt
      obtain ⟨s, hs⟩ : ∃ s, s = L[k] := ⟨_, rfl⟩
      have hsl := HLW.out s (by rw [hs]; exact List.getElem_mem hkx)
      obtain ⟨j, rfl⟩ : ∃ j : Nat, s = (j : Int) := ⟨s.toNat, by omega⟩
      have hj : j < 40 := by omega
      have hj' : (j : Int) < 40 := by omega
      have g0 : wr.cell? ⟨b, off + k, none⟩ = some (.int .i64 (j : Int)) := by
        rw [hnx.cell (p := ⟨b, off + k, none⟩) hb, hcell k hlt, getD_eq L k hkx, hs]
      obtain ⟨ar, cr, hCs, hor⟩ := HC.out.2.1 j hj
      obtain ⟨row, hrow⟩ : ∃ r, r = rowL steps (j : Int) := ⟨_, rfl⟩
      obtain ⟨m, hm⟩ : ∃ m, m = row.length := ⟨_, rfl⟩
      rw [← hrow, ← hm] at hCs hor
      have gC := HV.out.cell (j := j) hCs
      have hTl : T.length = k := by
        have := HO.out.1
        simpa using this
      have HT2 : Hid (∀ i, i < k + 1 → ∃ a c, (T ++ [.slice ar m cr])[i]? = some (.slice a (rowL steps (L.getD i 0)).length c) ∧ RowS w a (rowL steps (L.getD i 0)).length (rowL steps (L.getD i 0))) := fun i hi => by
        by_cases e : i = k
        · subst e
          refine ⟨ar, cr, ?_, ?_⟩
          · rw [List.getElem?_append_right (by omega), hTl, getD_eq L i hkx, ← hs, ← hrow, ← hm]
            simp
          · rw [getD_eq L i hkx, ← hs, ← hrow, ← hm]
            exact hor.row.2.2.2
        · rw [List.getElem?_append_left (by omega)]
          exact HT.out i (by omega)
      have T1 := HO.out.alloc (.cells #[.slice ar m cr] 25)
      have b1 := HV.out.lt
      clear hs hsl hcell hCs hor hrow hm
      go_wp2_with (at_builtin; refine wpList_appR rfl (.tmp 14) (.tmp 18) rfl (w.heap.size + 1) i0 Try.underlying60 hi0 hz0 hz1 hz2 _ _ _ rfl T1 _ (.slice ar m cr) rfl (by simp) rfl (by omega) (by simp; omega) ?_)
      rintro v2 w2 hown2 hgrow2
      have hb2 : Below w.heap.size w w2 := (hnx.alloc hnx.size _).grown hgrow2 (by simp; omega) (fun q hq => by have := (World.ownsRow.lt T1 q hq).1; omega)
      have HV2 := Lib.hid ((HV.out.alloc (.cells #[.slice ar m cr] 25)).grown hgrow2 (fun e => by have := (World.ownsRow.lt T1 _ e.symm).1; omega))
      have HO2 := Lib.hid hown2
      clear T1 hgrow2 hown2 HO g0 gC
      go_wp2_with fail
      go_roundw
      case rel => exact ⟨k + 1, v2, T ++ [Value.slice ar m cr], by omega, by go_num, rfl, HO2.out, HT2.out, hb2, HV2.out⟩
      case measure => simp [intOf]; omega
    · obtain rfl : k = sn := by omega
      have hf : ∃ a c, v0 = .slice a k c := by
        rcases HO.out.2 with ⟨rfl, rfl⟩ | ⟨g, cap, cur, rfl, _⟩
        · exact ⟨_, _, rfl⟩
        · exact ⟨_, _, rfl⟩
      obtain ⟨av, cv, rfl⟩ := hf
      go_wp2_with fail
      go_ret
      refine ⟨_, _, rfl, ⟨by simp [HR.out.1], fun h0 => ?_⟩, hnx⟩
      rcases HO.out.2 with ⟨_, e⟩ | ⟨g, cap, cur, hv, hbg, hh, r⟩
      · omega
      · simp only [Value.slice.injEq] at hv
        obtain ⟨rfl, _, rfl⟩ := hv
        have hglt : g < wr.heap.size := by
          by_cases hlt : g < wr.heap.size
          · exact hlt
          · rw [Array.getElem?_eq_none (by omega)] at hh; cases hh
        refine ⟨g, 0, rfl, hglt, fun j r hr => ?_⟩
        rw [List.getElem?_map] at hr
        obtain ⟨x, hx, rfl⟩ := Option.map_eq_some_iff.1 hr
        have hjl := (List.getElem?_eq_some_iff.1 hx).1
        rw [HR.out.1] at hjl
        obtain ⟨a, c, h1, h2⟩ := HT.out j hjl
        have ex : L.getD j 0 = x := by simp [hx]
        rw [ex] at h1 h2
        refine ⟨a, c, ?_, h2.below hnx⟩
        have hTl : T.length = k := by
          have := HO.out.1
          simpa using this
        have := World.ownsRow.cellAt (h := HO.out) j (by omega)
        rw [Nat.zero_add, this, h1]

set_option maxRecDepth 20000 in
set_option maxHeartbeats 3200000 in
theorem tosOfRows_any (ad : Option Addr) (n c : Nat) (RR : List (List St)) (act : Int) (w : World) (hr : RowRows w ad n RR) (hn : n ≤ 1048576) (hrow : ∀ r ∈ RR, r.length ≤ 400) :
    Calls Try.prog 67 #[.slice ad n c, .int .i64 act] w (RowRes w w.heap.size (ris (RR.flatMap fun r => afterR r act))) := by
  obtain ⟨i0, hi, hz0, hz1, hz2⟩ := info_parts info_int
  have HR := Lib.hid hr
  have HRL := Lib.hid hrow
  clear hr hrow
  obtain ⟨X, hX⟩ : ∃ X, X = RR.flatMap fun r => afterR r act := ⟨_, rfl⟩
  rw [← hX]
  have HX := Lib.hid hX
  clear hX
  go_enter Try.func67, Try.ntmps67
  go_wp2_with fail
  go_loopw [5, 10] (fun v i wr => ∃ (k len : Nat) (v0 : Value) (T : List Int), k ≤ n ∧ i = .int .i64 k ∧ v0 = v ∧ Hid (Owns wr w.heap.size v0 len T) ∧ Hid (T = (RR.take k).flatMap fun r => afterR r act) ∧ len ≤ 400 * k ∧ Below w.heap.size w wr) (fun _ i _ => n - (intOf i).toNat)
  case atStart => exact ⟨0, 0, _, [], Nat.zero_le _, rfl, rfl, World.ownsRow_nil _ _ _ _, rfl, by omega, Below.refl _ _⟩
  case round =>
    obtain ⟨k, len, v0, T, hk, rfl, rfl, HO, HT, hlen, hnx⟩ := hrel
    by_cases hlt : k < n
    · obtain ⟨b, off, rfl, hb, hcell⟩ := HR.out.2 (by omega)
      have hkx : k < RR.length := by rw [HR.out.1]; exact hlt
      obtain ⟨row, hrow⟩ : ∃ r, r = RR[k] := ⟨_, rfl⟩
      have hrl := HRL.out row (by rw [hrow]; exact List.getElem_mem hkx)
      obtain ⟨ar, cr, d0, hrs⟩ := hcell k row (by rw [List.getElem?_eq_getElem hkx, hrow])
      obtain ⟨m, hm⟩ : ∃ m, m = row.length := ⟨_, rfl⟩
      rw [← hm] at hrl d0 hrs
      have g0 : wr.cell? ⟨b, off + k, none⟩ = some (.slice ar m cr) := (hnx.cell (p := ⟨b, off + k, none⟩) hb).trans d0
      obtain ⟨A, hA⟩ : ∃ A, A = afterR row act := ⟨_, rfl⟩
      have hAl : A.length ≤ 400 := by
        rw [hA]
        unfold afterR
        rw [List.length_map]
        have := List.length_filter_le (fun x : St => decide (x.2.1 = act)) row
        omega
      have HST : Hid (T ++ A = (RR.take (k + 1)).flatMap fun r => afterR r act) := by
        unfold Hid
        rw [List.take_succ_eq_append_getElem hkx, List.flatMap_append, ← HT.out, ← hrow, hA]
        simp
      have CT : Hid (Calls Try.prog 78 #[.slice ar m cr, .int .i64 act] wr (RowRes wr wr.heap.size A)) := by
        unfold Hid
        rw [hA]
        exact tosOfRow_any ar m cr row act wr (hrs.below hnx) (by omega)
      clear hrow d0 hrs hm hcell hA
      go_wp2_with fail
      refine CT.out.mono ?_
      rintro e w2 ⟨v2, rfl, ho2, hb2⟩
      obtain ⟨a2, c2, rfl⟩ := ho2.form
      have S1 := own_src ho2
      have T1 := HO.out.below hb2
      have b1 := hnx.size
      have b2 := hb2.size
      have B2 := Lib.hid (hnx.trans (hb2.mono b1))
      obtain ⟨m2, hm2⟩ : ∃ m2, m2 = A.length := ⟨_, rfl⟩
      rw [← hm2] at S1 hAl ⊢
      clear ho2 hb2 hm2
      go_wp2_with (at_builtin; refine wpList_app rfl (.tmp 14) (.tmp 17) rfl w.heap.size i0 Try.underlying24 hi hz0 hz1 hz2 _ _ _ rfl T1 _ m2 _ A rfl S1 (by omega) (by omega) ?_)
      rintro v3 w3 ⟨hown3, hgrow3, _⟩
      have hb3 : Below w.heap.size w w3 := T1.grown B2.out hgrow3 (Nat.le_refl _) (by omega)
      have HO3 := Lib.hid hown3
      clear T1 S1 hgrow3 hown3 HO g0
      go_wp2_with fail
      go_roundw
      case rel => exact ⟨k + 1, len + m2, v3, T ++ A, by omega, by go_num, rfl, HO3.out, HST.out, by omega, hb3⟩
      case measure => simp [intOf]; omega
    · have HE : Hid (T = X) := by
        have := HT.out
        rw [List.take_of_length_le (by rw [HR.out.1]; omega)] at this
        rw [HX.out]
        exact this
      go_wp2_with fail
      refine (risen_any v0 len w.heap.size T _ HO.out (by omega)).mono ?_
      rintro e w2 ⟨v2, rfl, ho2, hg2, _⟩
      have HO2 := Lib.hid ho2
      have B2 : Hid (Below w.heap.size w w2) := hnx.grown hg2 hnx.size (fun q hq => (HO.out.lt q hq).1)
      clear ho2 hg2
      go_wp2_with fail
      go_ret
      rw [← HE.out]
      exact ⟨_, rfl, HO2.out, B2.out⟩

set_option maxRecDepth 20000 in
set_option maxHeartbeats 3200000 in
theorem implClosure_any (a : IaD) (v : Value) (s : Int) (w : World) (h : IaRow w a v) (f2 : a.ins.length ≤ 1048576) (f3 : a.outs.length ≤ 1048576) (f4 : a.hids.length ≤ 1048576) (f5 : a.steps.length ≤ 1048576) :
    Calls Try.prog 16 #[v, .int .i64 s] w (RowRes w w.heap.size (if iaOkB a && stateB a s then closeOf a s else [])) := by
  have CO : Hid (∀ W, Below w.heap.size w W → Calls Try.prog 50 #[v] W fun e w' => e = .returned (.bool (iaOkB a)) ∧ Below W.heap.size W w') := fun W hW => implIaOk_any a v W (h.below hW) f2 f3 f4 f5
  obtain ⟨q, hq⟩ : ∃ q, q = iaOkB a := ⟨_, rfl⟩
  obtain ⟨q2, hq2⟩ : ∃ q, q = stateB a s := ⟨_, rfl⟩
  rw [← hq] at CO ⊢
  rw [← hq2]
  obtain ⟨L, hL⟩ : ∃ L, L = if q && q2 then closeOf a s else [] := ⟨_, rfl⟩
  rw [← hL]
  have HL := Lib.hid hL
  have HQ := Lib.hid hq
  have HQ2 := Lib.hid hq2
  clear hL hq hq2
  obtain ⟨a2, n2, c2, a3, n3, c3, a4, n4, c4, a5, n5, c5, rfl, r2, r3, r4, r5⟩ := h
  obtain ⟨st, it, ins, outs, hids, steps⟩ := a
  simp only at r2 r3 r4 r5 f2 f3 f4 f5
  have hn4 : n4 ≤ 1048576 := by have := r4.1; omega
  have R4 := Lib.hid r4
  have R5 := Lib.hid r5
  clear r2 r3 r4 r5 f2 f3 f4 f5
  have CS : Hid (∀ W v2 v3 v4 v5, Calls Try.prog 51 #[.agg #[.int .i64 st, .int .i64 it, v2, v3, v4, v5], .int .i64 s] W fun e w' => e = .returned (.bool q2) ∧ Below W.heap.size W w') := fun W v2 v3 v4 v5 => by rw [HQ2.out]; exact isState_any st it s v2 v3 v4 v5 W
  have V0 := Lib.hid (VarIs.new w #[.int .i64 st, .int .i64 it, .slice a2 n2 c2, .slice a3 n3 c3, .slice a4 n4 c4, .slice a5 n5 c5] 27 rfl)
  have B0 : Hid (∀ o, Below w.heap.size w (w.alloc o)) := fun o => (Below.refl _ _).alloc (Nat.le_refl _) _
  go_enter Try.func16, Try.ntmps16
  go_wp2_with fail
  refine (CO.out _ (B0.out _)).mono ?_
  rintro e w1 ⟨rfl, hb⟩
  have B1 : Hid (Below w.heap.size w w1) := (B0.out _).trans (hb.mono (B0.out _).size)
  have V1 := Lib.hid (V0.out.below hb)
  clear hb V0
  cases q with
  | false =>
    go_wp2_with fail
    go_ret
    obtain rfl : L = [] := HL.out
    exact ⟨_, rfl, World.ownsRow_nil _ _ _ _, B1.out⟩
  | true =>
    have m0 := V1.out.cell (j := 0) rfl
    have m1 := V1.out.cell (j := 1) rfl
    have m2 := V1.out.cell (j := 2) rfl
    have m3 := V1.out.cell (j := 3) rfl
    have m4 := V1.out.cell (j := 4) rfl
    have m5 := V1.out.cell (j := 5) rfl
    go_wp2_with fail
    clear m0 m1 m2 m3 m4 m5
    refine (CS.out _ _ _ _ _).mono ?_
    rintro e w2 ⟨rfl, hb⟩
    have B2 : Hid (Below w.heap.size w w2) := B1.out.trans (hb.mono B1.out.size)
    have V2 := Lib.hid (V1.out.below hb)
    clear hb V1
    cases q2 with
    | false =>
      go_wp2_with fail
      go_ret
      obtain rfl : L = [] := HL.out
      exact ⟨_, rfl, World.ownsRow_nil _ _ _ _, B2.out⟩
    | true =>
      have HLEN := Lib.hid (iaOk_len HQ.out.symm)
      have HLOW := Lib.hid (iaOk_low HQ.out.symm)
      have m0 := V2.out.cell (j := 0) rfl
      have m1 := V2.out.cell (j := 1) rfl
      have m2 := V2.out.cell (j := 2) rfl
      have m3 := V2.out.cell (j := 3) rfl
      have m4 := V2.out.cell (j := 4) rfl
      have m5 := V2.out.cell (j := 5) rfl
      go_wp2_with fail
      clear m0 m1 m2 m3 m4 m5
      refine (hiddenTosOf_any st it _ _ a4 n4 c4 hids a5 n5 c5 steps _ (R4.out.below B2.out) hn4 (R5.out.below B2.out) (by have h1 := HLEN.out; have h2 := R5.out.1; rw [← h2]; exact h1) HLOW.out).mono ?_
      rintro e w3 ⟨C, rfl, hC, hb⟩
      have B3 : Hid (Below w.heap.size w w3) := B2.out.trans (hb.mono B2.out.size)
      have HC := Lib.hid (hC.alloc (.cells #[.int .i64 s] 3))
      have RF : Hid (Row (w3.alloc (.cells #[.int .i64 s] 3)) (some ⟨w3.heap.size, 0, none⟩) 1 [s]) := row_one w3 s _ rfl
      have B4 : Hid (Below w.heap.size w (w3.alloc (.cells #[.int .i64 s] 3))) := B3.out.alloc B3.out.size _
      clear hb hC V2
      go_wp2_with fail
      refine (unseenFrom_any ⟨st, it, ins, outs, hids, steps⟩ HQ.out.symm _ 1 1 [s] _ C _ (fun x hx => by obtain rfl := List.mem_singleton.1 hx; exact HQ2.out.symm) RF.out (by omega) HC.out).mono ?_
      rintro e w4 ⟨v4, rfl, ho, hb⟩
      have HO := Lib.hid ho
      have B5 : Hid (Below w.heap.size w w4) := B4.out.trans (hb.mono B4.out.size)
      clear ho hb
      go_wp2_with fail
      go_ret
      obtain rfl : L = closeOf ⟨st, it, ins, outs, hids, steps⟩ s := HL.out
      exact ⟨_, rfl, HO.out.mono B4.out.size, B5.out⟩

/-- The states that one may be in unseen; none of what is not right. -/
def closeIf (a : IaD) (s : Int) : List Int := if iaOkB a && stateB a s then closeOf a s else []

theorem closeIf_ok {a : IaD} {s : Int} (h : closeIf a s ≠ []) : iaOkB a = true ∧ stateB a s = true := by
  unfold closeIf at h
  split at h
  · rename_i hc
    rw [Bool.and_eq_true] at hc
    exact hc
  · exact absurd rfl h

theorem closeIf_low {a : IaD} {s : Int} : ∀ x ∈ closeIf a s, 0 ≤ x ∧ x < 40 := by
  intro x hx
  obtain ⟨h1, h2⟩ := closeIf_ok (List.ne_nil_of_mem hx)
  have hx' : x ∈ closeOf a s := by
    unfold closeIf at hx
    rw [h1, h2] at hx
    exact hx
  have h3 := close_states h1 h2 x hx'
  have h4 := iaOk_states h1
  simp only [stateB, btw, Bool.and_eq_true, decide_eq_true_eq] at h3
  omega

theorem closeIf_len (a : IaD) (s : Int) : (closeIf a s).length ≤ 40 := by
  unfold closeIf
  split
  · rename_i hc
    rw [Bool.and_eq_true] at hc
    exact close_low hc.1 hc.2
  · simp

set_option maxRecDepth 20000 in
set_option maxHeartbeats 3200000 in
theorem rowsUnseen_any (a : IaD) (v : Value) (s : Int) (w : World) (h : IaRow w a v) (f2 : a.ins.length ≤ 1048576) (f3 : a.outs.length ≤ 1048576) (f4 : a.hids.length ≤ 1048576) (f5 : a.steps.length ≤ 1048576) :
    Calls Try.prog 57 #[v, .int .i64 s] w fun e w' => ∃ ad c, e = .returned (.slice ad (closeIf a s).length c) ∧ RowRows w' ad (closeIf a s).length ((closeIf a s).map (rowL a.steps)) ∧ Below w.heap.size w w' := by
  have CC0 : Hid (∀ W, Below w.heap.size w W → Calls Try.prog 16 #[v, .int .i64 s] W (RowRes W W.heap.size (closeIf a s))) := fun W hW => implClosure_any a v s W (h.below hW) f2 f3 f4 f5
  obtain ⟨L, hL⟩ : ∃ L, L = closeIf a s := ⟨_, rfl⟩
  obtain ⟨n, hn⟩ : ∃ n, n = L.length := ⟨_, rfl⟩
  have hn40 : n ≤ 40 := by rw [hn, hL]; exact closeIf_len a s
  have HLOW : Hid (∀ x ∈ L, 0 ≤ x ∧ x < 40) := by rw [hL]; exact closeIf_low
  have HOK : Hid (0 < n → iaOkB a = true) := fun h0 => by
    refine (closeIf_ok (s := s) (fun e => ?_)).1
    rw [← hL] at e
    rw [hn, e] at h0
    simp at h0
  have CC : Hid (∀ W, Below w.heap.size w W → Calls Try.prog 16 #[v, .int .i64 s] W fun e w' => ∃ ad c, e = .returned (.slice ad n c) ∧ Owns w' W.heap.size (.slice ad n c) n L ∧ Below W.heap.size W w') := fun W hW => by
    rw [hn, hL]
    refine (CC0.out W hW).mono ?_
    rintro e w' ⟨v', rfl, ho, hb⟩
    obtain ⟨ad, c, rfl⟩ := ho.form
    exact ⟨ad, c, rfl, ho, hb⟩
  rw [← hL, ← hn]
  have HN := Lib.hid hn
  clear hL hn CC0
  obtain ⟨a2, n2, c2, a3, n3, c3, a4, n4, c4, a5, n5, c5, rfl, r2, r3, r4, r5⟩ := h
  obtain ⟨st, it, ins, outs, hids, steps⟩ := a
  simp only at r2 r3 r4 r5 f2 f3 f4 f5
  have R5 := Lib.hid r5
  clear r2 r3 r4 r5 f2 f3 f4 f5
  have V0 := Lib.hid (VarIs.new w #[.int .i64 st, .int .i64 it, .slice a2 n2 c2, .slice a3 n3 c3, .slice a4 n4 c4, .slice a5 n5 c5] 27 rfl)
  have B0 : Hid (∀ o, Below w.heap.size w (w.alloc o)) := fun o => (Below.refl _ _).alloc (Nat.le_refl _) _
  go_enter Try.func57, Try.ntmps57
  go_wp2_with fail
  refine (CC.out _ (B0.out _)).mono ?_
  rintro e w1 ⟨ad, c, rfl, ho, hb⟩
  have B1 : Hid (Below w.heap.size w w1) := (B0.out _).trans (hb.mono (B0.out _).size)
  have V1 := Lib.hid (V0.out.below hb)
  have HO := Lib.hid ho
  clear hb ho V0
  by_cases h0 : n = 0
  · subst h0
    obtain rfl : L = [] := List.length_eq_zero_iff.1 HN.out.symm
    go_wp2_with fail
    go_ret
    exact ⟨_, _, rfl, ⟨rfl, fun h => absurd h (by omega)⟩, B1.out⟩
  · have hd : ((n : Int) == 0) = false := by simp; omega
    have HLEN := Lib.hid (iaOk_len (HOK.out (by omega)))
    have HLW2 := Lib.hid (iaOk_low (HOK.out (by omega)))
    have m0 := V1.out.cell (j := 0) rfl
    have m1 := V1.out.cell (j := 1) rfl
    have m2 := V1.out.cell (j := 2) rfl
    have m3 := V1.out.cell (j := 3) rfl
    have m4 := V1.out.cell (j := 4) rfl
    have m5 := V1.out.cell (j := 5) rfl
    go_wp2_with fail
    clear m0 m1 m2 m3 m4 m5
    refine (rowsOf_any st it _ _ _ a5 n5 c5 steps _ (R5.out.below B1.out) (by have h1 := HLEN.out; have h2 := R5.out.1; rw [← h2]; exact h1) HLW2.out).mono ?_
    rintro e w2 ⟨C, rfl, hC, hb⟩
    have B2 : Hid (Below w.heap.size w w2) := B1.out.trans (hb.mono B1.out.size)
    have HC := Lib.hid hC
    have HO2 := Lib.hid (HO.out.below hb)
    clear hb hC V1
    go_wp2_with fail
    refine (rowsAt_any _ C steps ad n c L _ HC.out HO2.out.row.2.2.2 (by omega) HLOW.out).mono ?_
    rintro e w3 ⟨ad3, c3, rfl, hr, hb⟩
    have B3 : Hid (Below w.heap.size w w3) := B2.out.trans (hb.mono B2.out.size)
    have HR := Lib.hid hr
    clear hb hr
    go_wp2_with fail
    go_ret
    exact ⟨_, _, rfl, HR.out, B3.out⟩

theorem tos_map (ss : List St) (act : Int) (C : List Int) : (C.map (rowL ss)).flatMap (fun r => afterR r act) = tosP ss act C := by
  unfold tosP
  rw [List.flatMap_map]

theorem far_if (a : IaD) (s act : Int) : ris (tosP a.steps act (closeIf a s)) = if iaOkB a && stateB a s then farOf a s act else [] := by
  unfold closeIf
  split
  · exact far_eq a s act
  · exact ris_nil

theorem rows_short {a : IaD} {C : List Int} (h : C ≠ [] → iaOkB a = true) : ∀ r ∈ C.map (rowL a.steps), r.length ≤ 400 := by
  intro r hr
  obtain ⟨x, hx, rfl⟩ := List.mem_map.1 hr
  have h1 := rowL_len a.steps x
  have h2 := iaOk_len (h (List.ne_nil_of_mem hx))
  omega

set_option maxRecDepth 20000 in
set_option maxHeartbeats 3200000 in
theorem implFarAfter_any (a : IaD) (v : Value) (s act : Int) (w : World) (h : IaRow w a v) (f2 : a.ins.length ≤ 1048576) (f3 : a.outs.length ≤ 1048576) (f4 : a.hids.length ≤ 1048576) (f5 : a.steps.length ≤ 1048576) :
    Calls Try.prog 45 #[v, .int .i64 s, .int .i64 act] w (RowRes w w.heap.size (if iaOkB a && stateB a s then farOf a s act else [])) := by
  rw [← far_if, ← tos_map]
  have CR : Hid (∀ W, Below w.heap.size w W → Calls Try.prog 57 #[v, .int .i64 s] W fun e w' => ∃ ad c, e = .returned (.slice ad (closeIf a s).length c) ∧ RowRows w' ad (closeIf a s).length ((closeIf a s).map (rowL a.steps)) ∧ Below W.heap.size W w') := fun W hW => rowsUnseen_any a v s W (h.below hW) f2 f3 f4 f5
  have hsh := rows_short (a := a) (C := closeIf a s) (fun hne => (closeIf_ok hne).1)
  have hn40 := closeIf_len a s
  obtain ⟨RR, hRR⟩ : ∃ RR, RR = (closeIf a s).map (rowL a.steps) := ⟨_, rfl⟩
  obtain ⟨n, hn⟩ : ∃ n, n = (closeIf a s).length := ⟨_, rfl⟩
  rw [← hRR] at CR hsh ⊢
  rw [← hn] at CR hn40
  have HSH := Lib.hid hsh
  clear hRR hn hsh
  obtain ⟨a2, n2, c2, a3, n3, c3, a4, n4, c4, a5, n5, c5, rfl, r2, r3, r4, r5⟩ := h
  obtain ⟨st, it, ins, outs, hids, steps⟩ := a
  clear r2 r3 r4 r5 f2 f3 f4 f5
  have B0 : Hid (∀ o, Below w.heap.size w (w.alloc o)) := fun o => (Below.refl _ _).alloc (Nat.le_refl _) _
  go_enter Try.func45, Try.ntmps45
  go_wp2_with fail
  refine (CR.out _ (B0.out _)).mono ?_
  rintro e w1 ⟨ad, c, rfl, hr, hb⟩
  have B1 : Hid (Below w.heap.size w w1) := (B0.out _).trans (hb.mono (B0.out _).size)
  have HR := Lib.hid hr
  clear hb hr
  go_wp2_with fail
  refine (tosOfRows_any ad n c RR act _ HR.out (by omega) HSH.out).mono ?_
  rintro e w2 ⟨v2, rfl, ho, hb⟩
  have HO := Lib.hid ho
  have B2 : Hid (Below w.heap.size w w2) := B1.out.trans (hb.mono B1.out.size)
  clear ho hb
  go_wp2_with fail
  go_ret
  exact ⟨_, rfl, HO.out.mono B1.out.size, B2.out⟩

theorem sure_if (a : IaD) (s : Int) : sureP (fun x => ofL a.steps x a.ins) (closeIf a s) = if iaOkB a && stateB a s then sureOf a s else [] := by
  unfold closeIf
  split
  · exact sureP_eq
  · rfl

theorem say_if (a : IaD) (s : Int) : (closeIf a s).foldl (fun o x => joinOf o (ofL a.steps x a.outs)) [] = if iaOkB a && stateB a s then sayOf a s else [] := by
  unfold closeIf
  split
  · rfl
  · rfl

theorem sureP_len (ss : List St) (ins : List Int) : ∀ (L : List Int), (sureP (fun x => ofL ss x ins) L).length ≤ ins.length
  | [] => by simp [sureP]
  | x :: r => by
    refine rises_len (foldMeet_rises (L := r) (ofL_rises ss x ins)) (fun y hy => ?_)
    exact (mem_ofL.1 (mem_foldMeet.1 hy).1).1

set_option maxRecDepth 20000 in
set_option maxHeartbeats 3200000 in
theorem implSureTaken_any (a : IaD) (v : Value) (s : Int) (w : World) (h : IaRow w a v) (f2 : a.ins.length ≤ 1048576) (f3 : a.outs.length ≤ 1048576) (f4 : a.hids.length ≤ 1048576) (f5 : a.steps.length ≤ 1048576) :
    Calls Try.prog 19 #[v, .int .i64 s] w (RowRes w w.heap.size (if iaOkB a && stateB a s then sureOf a s else [])) := by
  have CR : Hid (∀ W, Below w.heap.size w W → Calls Try.prog 57 #[v, .int .i64 s] W fun e w' => ∃ ad c, e = .returned (.slice ad (closeIf a s).length c) ∧ RowRows w' ad (closeIf a s).length ((closeIf a s).map (rowL a.steps)) ∧ Below W.heap.size W w') := fun W hW => rowsUnseen_any a v s W (h.below hW) f2 f3 f4 f5
  have hn40 := closeIf_len a s
  rw [← sure_if]
  have HOK : Hid (closeIf a s ≠ [] → iaOkB a = true) := fun hne => (closeIf_ok hne).1
  obtain ⟨C, hC⟩ : ∃ C, C = closeIf a s := ⟨_, rfl⟩
  obtain ⟨n, hn⟩ : ∃ n, n = C.length := ⟨_, rfl⟩
  rw [← hC] at CR HOK hn40 ⊢
  rw [← hn] at CR hn40
  have HN := Lib.hid hn
  clear hC hn
  obtain ⟨a2, n2, c2, a3, n3, c3, a4, n4, c4, a5, n5, c5, rfl, r2, r3, r4, r5⟩ := h
  obtain ⟨st, it, ins, outs, hids, steps⟩ := a
  simp only at r2 r3 r4 r5 f2 f3 f4 f5 CR HOK ⊢
  have hsn : n2 ≤ 1048576 := by have := r2.1; omega
  have E1 := Lib.hid r2.1
  have RX := Lib.hid r2
  clear r2 r3 r4 r5 f2 f3 f4 f5
  obtain ⟨L, hL⟩ : ∃ L, L = sureP (fun x => ofL steps x ins) C := ⟨_, rfl⟩
  rw [← hL]
  have HL := Lib.hid hL
  clear hL
  have V0 := Lib.hid (VarIs.new w #[.int .i64 st, .int .i64 it, .slice a2 n2 c2, .slice a3 n3 c3, .slice a4 n4 c4, .slice a5 n5 c5] 27 rfl)
  have B0 : Hid (∀ o, Below w.heap.size w (w.alloc o)) := fun o => (Below.refl _ _).alloc (Nat.le_refl _) _
  go_enter Try.func19, Try.ntmps19
  go_wp2_with fail
  refine (CR.out _ (B0.out _)).mono ?_
  rintro e w1 ⟨ad, c, rfl, hr, hb⟩
  have B1 : Hid (Below w.heap.size w w1) := (B0.out _).trans (hb.mono (B0.out _).size)
  have V1 := Lib.hid (V0.out.below hb)
  have HR := Lib.hid hr
  clear hb hr V0 CR
  go_wp2_with fail
  go_loopw [5, 13] (fun v i wr => ∃ (k len : Nat) (v0 : Value) (T : List Int), k ≤ n ∧ i = .int .i64 k ∧ v0 = v ∧ Hid (Owns wr w.heap.size v0 len T) ∧ Hid (T = sureP (fun x => ofL steps x ins) (C.take (k))) ∧ Below w1.heap.size w1 wr) (fun _ i _ => n - (intOf i).toNat)
  case atStart => exact ⟨0, 0, _, [], Nat.zero_le _, rfl, rfl, World.ownsRow_nil _ _ _ _, rfl, Below.refl _ _⟩
  case round =>
    obtain ⟨k, len, v0, T, hk, rfl, rfl, HO, HT, hnx⟩ := hrel
    have hlen : len ≤ 1048576 := by
      have h1 := sureP_len steps ins (C.take k)
      rw [← HT.out, HO.out.length, E1.out] at h1
      omega
    by_cases hlt : k < n
    · obtain ⟨b, off, rfl, hb, hcell⟩ := HR.out.2 (by omega)
      have hkx : k < C.length := by rw [← HN.out]; exact hlt
      have hok := HOK.out (fun e => by rw [e] at hkx; simp at hkx)
      obtain ⟨x, hx⟩ : ∃ x, x = C[k] := ⟨_, rfl⟩
      obtain ⟨row, hrow⟩ : ∃ r, r = rowL steps x := ⟨_, rfl⟩
      obtain ⟨ar, cr, d0, hrs⟩ := hcell k row (by rw [List.getElem?_map, List.getElem?_eq_getElem hkx, ← hx, hrow]; rfl)
      obtain ⟨m, hm⟩ : ∃ m, m = row.length := ⟨_, rfl⟩
      rw [← hm] at d0 hrs
      have hml : m ≤ 400 := by
        have h1 := rowL_len steps x
        have h2 := iaOk_len hok
        rw [hm, hrow]
        exact Nat.le_trans h1 h2
      have g0 : wr.cell? ⟨b, off + k, none⟩ = some (.slice ar m cr) := (hnx.cell (p := ⟨b, off + k, none⟩) hb).trans d0
      obtain ⟨A, hA⟩ : ∃ A, A = Lib.compact (actsR row ins) := ⟨_, rfl⟩
      have HAE : Hid (Lib.compact (actsR row ins) = ofL steps x ins) := by
        unfold Hid
        rw [hrow]
        exact actsR_eq hok x ins
      have hAl : A.length ≤ 400 := by
        have h1 := ofN_len steps x ins
        have h2 := iaOk_len hok
        rw [hA, HAE.out]
        exact Nat.le_trans h1 h2
      have CA : Hid (∀ W, Below w1.heap.size w1 W → Calls Try.prog 58 #[.slice ar m cr, .slice a2 n2 c2] W (RowRes W W.heap.size A)) := fun W hW => by
        rw [hA]
        exact actsOfRow_any ar m cr row a2 n2 c2 ins W (hrs.below hW) (by omega) (RX.out.below (B1.out.trans (hW.mono B1.out.size))) hsn
      have kx := (V1.out.below hnx).cell (j := 2) rfl
      by_cases hk0 : k = 0
      · have hd0 : ((k : Int) == 0) = true := by simp [hk0]
        have HST : Hid (A = sureP (fun x => ofL steps x ins) (C.take (k + 1))) := by
          unfold Hid
          rw [List.take_succ_eq_append_getElem hkx, ← hx, hk0, List.take_zero, List.nil_append, sureP_one, hA, HAE.out]
        clear hrow d0 hm hcell hA hrs hx hk0
        go_wp2_with fail
        refine (CA.out _ hnx).mono ?_
        rintro e w2 ⟨v2, rfl, ho2, hb2⟩
        have HO2 := Lib.hid (ho2.mono (base := w.heap.size) (Nat.le_trans B1.out.size hnx.size))
        have B2 := Lib.hid (hnx.trans (hb2.mono hnx.size))
        clear ho2 hb2 g0 kx
        go_wp2_with fail
        go_roundw
        case rel => exact ⟨k + 1, A.length, v2, A, by omega, by go_num, rfl, HO2.out, HST.out, B2.out⟩
        case measure => simp [intOf]; omega
      · have hd0 : ((k : Int) == 0) = false := by simp; omega
        have HST : Hid (meetOf T A = sureP (fun x => ofL steps x ins) (C.take (k + 1))) := by
          unfold Hid
          rw [List.take_succ_eq_append_getElem hkx, ← hx, sureP_snoc _ _ _ (fun e => by
            rcases List.take_eq_nil_iff.1 e with h | h
            · exact hk0 h
            · rw [h] at hkx; simp at hkx), ← HT.out, hA, HAE.out]
        clear hrow d0 hm hcell hA hrs hx hk0
        go_wp2_with fail
        refine (CA.out _ hnx).mono ?_
        rintro e w2 ⟨v2, rfl, ho2, hb2⟩
        obtain ⟨av, cv, rfl⟩ := HO.out.form
        obtain ⟨ax, cx, rfl⟩ := ho2.form
        have HA2 := Lib.hid ho2.row.2.2.2
        have HO2 := Lib.hid (HO.out.below hb2).row.2.2.2
        have B2 := Lib.hid (hnx.trans (hb2.mono hnx.size))
        clear ho2 hb2 g0 kx
        go_wp2_with fail
        refine (implSetMeet_any _ _ _ _ _ _ T A _ HO2.out HA2.out (by omega) (by omega)).mono ?_
        rintro e w3 ⟨v3, rfl, ho3, hb3⟩
        have HO3 := Lib.hid (ho3.mono (base := w.heap.size) (Nat.le_trans B1.out.size B2.out.size))
        have B3 := Lib.hid (B2.out.trans (hb3.mono B2.out.size))
        clear ho3 hb3
        go_wp2_with fail
        go_roundw
        case rel => exact ⟨k + 1, (meetOf T A).length, v3, meetOf T A, by omega, by go_num, rfl, HO3.out, HST.out, B3.out⟩
        case measure => simp [intOf]; omega
    · have HE : Hid (T = L) := by
        have := HT.out
        rw [List.take_of_length_le (by rw [← HN.out]; omega)] at this
        rw [HL.out]
        exact this
      obtain ⟨av, cv, rfl⟩ := HO.out.form
      go_wp2_with fail
      go_ret
      have e := HO.out.length
      rw [← HE.out]
      subst e
      exact ⟨_, rfl, HO.out, B1.out.trans (hnx.mono B1.out.size)⟩

set_option maxRecDepth 20000 in
set_option maxHeartbeats 3200000 in
theorem implMaySay_any (a : IaD) (v : Value) (s : Int) (w : World) (h : IaRow w a v) (f2 : a.ins.length ≤ 1048576) (f3 : a.outs.length ≤ 1048576) (f4 : a.hids.length ≤ 1048576) (f5 : a.steps.length ≤ 1048576) :
    Calls Try.prog 20 #[v, .int .i64 s] w (RowRes w w.heap.size (if iaOkB a && stateB a s then sayOf a s else [])) := by
  have CR : Hid (∀ W, Below w.heap.size w W → Calls Try.prog 57 #[v, .int .i64 s] W fun e w' => ∃ ad c, e = .returned (.slice ad (closeIf a s).length c) ∧ RowRows w' ad (closeIf a s).length ((closeIf a s).map (rowL a.steps)) ∧ Below W.heap.size W w') := fun W hW => rowsUnseen_any a v s W (h.below hW) f2 f3 f4 f5
  have hn40 := closeIf_len a s
  rw [← say_if]
  have HOK : Hid (closeIf a s ≠ [] → iaOkB a = true) := fun hne => (closeIf_ok hne).1
  obtain ⟨C, hC⟩ : ∃ C, C = closeIf a s := ⟨_, rfl⟩
  obtain ⟨n, hn⟩ : ∃ n, n = C.length := ⟨_, rfl⟩
  rw [← hC] at CR HOK hn40 ⊢
  rw [← hn] at CR hn40
  have HN := Lib.hid hn
  clear hC hn
  obtain ⟨a2, n2, c2, a3, n3, c3, a4, n4, c4, a5, n5, c5, rfl, r2, r3, r4, r5⟩ := h
  obtain ⟨st, it, ins, outs, hids, steps⟩ := a
  simp only at r2 r3 r4 r5 f2 f3 f4 f5 CR HOK ⊢
  have hsn : n3 ≤ 1048576 := by have := r3.1; omega
  have E1 := Lib.hid r3.1
  have RX := Lib.hid r3
  clear r2 r3 r4 r5 f2 f3 f4 f5
  obtain ⟨L, hL⟩ : ∃ L, L = C.foldl (fun o x => joinOf o (ofL steps x outs)) [] := ⟨_, rfl⟩
  rw [← hL]
  have HL := Lib.hid hL
  clear hL
  have V0 := Lib.hid (VarIs.new w #[.int .i64 st, .int .i64 it, .slice a2 n2 c2, .slice a3 n3 c3, .slice a4 n4 c4, .slice a5 n5 c5] 27 rfl)
  have B0 : Hid (∀ o, Below w.heap.size w (w.alloc o)) := fun o => (Below.refl _ _).alloc (Nat.le_refl _) _
  go_enter Try.func20, Try.ntmps20
  go_wp2_with fail
  refine (CR.out _ (B0.out _)).mono ?_
  rintro e w1 ⟨ad, c, rfl, hr, hb⟩
  have B1 : Hid (Below w.heap.size w w1) := (B0.out _).trans (hb.mono (B0.out _).size)
  have V1 := Lib.hid (V0.out.below hb)
  have HR := Lib.hid hr
  clear hb hr V0 CR
  go_wp2_with fail
  go_loopw [5, 12] (fun v i wr => ∃ (k len : Nat) (v0 : Value) (T : List Int), k ≤ n ∧ i = .int .i64 k ∧ v0 = v ∧ Hid (Owns wr w.heap.size v0 len T) ∧ Hid (T = (C.take (k)).foldl (fun o x => joinOf o (ofL steps x outs)) []) ∧ Below w1.heap.size w1 wr) (fun _ i _ => n - (intOf i).toNat)
  case atStart => exact ⟨0, 0, _, [], Nat.zero_le _, rfl, rfl, World.ownsRow_nil _ _ _ _, rfl, Below.refl _ _⟩
  case round =>
    obtain ⟨k, len, v0, T, hk, rfl, rfl, HO, HT, hnx⟩ := hrel
    have hlen : len ≤ 1048576 := by
      have h1 := sayN_len steps outs (C.take k)
      rw [← HT.out, HO.out.length, E1.out] at h1
      omega
    by_cases hlt : k < n
    · obtain ⟨b, off, rfl, hb, hcell⟩ := HR.out.2 (by omega)
      have hkx : k < C.length := by rw [← HN.out]; exact hlt
      have hok := HOK.out (fun e => by rw [e] at hkx; simp at hkx)
      obtain ⟨x, hx⟩ : ∃ x, x = C[k] := ⟨_, rfl⟩
      obtain ⟨row, hrow⟩ : ∃ r, r = rowL steps x := ⟨_, rfl⟩
      obtain ⟨ar, cr, d0, hrs⟩ := hcell k row (by rw [List.getElem?_map, List.getElem?_eq_getElem hkx, ← hx, hrow]; rfl)
      obtain ⟨m, hm⟩ : ∃ m, m = row.length := ⟨_, rfl⟩
      rw [← hm] at d0 hrs
      have hml : m ≤ 400 := by
        have h1 := rowL_len steps x
        have h2 := iaOk_len hok
        rw [hm, hrow]
        exact Nat.le_trans h1 h2
      have g0 : wr.cell? ⟨b, off + k, none⟩ = some (.slice ar m cr) := (hnx.cell (p := ⟨b, off + k, none⟩) hb).trans d0
      obtain ⟨A, hA⟩ : ∃ A, A = Lib.compact (actsR row outs) := ⟨_, rfl⟩
      have HAE : Hid (Lib.compact (actsR row outs) = ofL steps x outs) := by
        unfold Hid
        rw [hrow]
        exact actsR_eq hok x outs
      have hAl : A.length ≤ 400 := by
        have h1 := ofN_len steps x outs
        have h2 := iaOk_len hok
        rw [hA, HAE.out]
        exact Nat.le_trans h1 h2
      have CA : Hid (∀ W, Below w1.heap.size w1 W → Calls Try.prog 58 #[.slice ar m cr, .slice a3 n3 c3] W (RowRes W W.heap.size A)) := fun W hW => by
        rw [hA]
        exact actsOfRow_any ar m cr row a3 n3 c3 outs W (hrs.below hW) (by omega) (RX.out.below (B1.out.trans (hW.mono B1.out.size))) hsn
      have kx := (V1.out.below hnx).cell (j := 3) rfl
      have HST : Hid (joinOf T A = (C.take (k + 1)).foldl (fun o x => joinOf o (ofL steps x outs)) []) := by
        unfold Hid
        rw [List.take_succ_eq_append_getElem hkx, ← hx, List.foldl_append, ← HT.out, hA, HAE.out]
        rfl
      clear hrow d0 hm hcell hA hrs hx
      obtain ⟨av, cv, rfl⟩ := HO.out.form
      go_wp2_with fail
      refine (CA.out _ hnx).mono ?_
      rintro e w2 ⟨v2, rfl, ho2, hb2⟩
      obtain ⟨ax, cx, rfl⟩ := ho2.form
      have HA2 := Lib.hid ho2.row.2.2.2
      have HO2 := Lib.hid (HO.out.below hb2).row.2.2.2
      have B2 := Lib.hid (hnx.trans (hb2.mono hnx.size))
      clear ho2 hb2 g0 kx
      go_wp2_with fail
      refine (implSetJoin_any _ _ _ _ _ _ T A _ HO2.out HA2.out (by omega) (by omega)).mono ?_
      rintro e w3 ⟨v3, rfl, ho3, hb3⟩
      have HO3 := Lib.hid (ho3.mono (base := w.heap.size) (Nat.le_trans B1.out.size B2.out.size))
      have B3 := Lib.hid (B2.out.trans (hb3.mono B2.out.size))
      clear ho3 hb3
      go_wp2_with fail
      go_roundw
      case rel => exact ⟨k + 1, (joinOf T A).length, v3, joinOf T A, by omega, by go_num, rfl, HO3.out, HST.out, B3.out⟩
      case measure => simp [intOf]; omega
    · have HE : Hid (T = L) := by
        have := HT.out
        rw [List.take_of_length_le (by rw [← HN.out]; omega)] at this
        rw [HL.out]
        exact this
      obtain ⟨av, cv, rfl⟩ := HO.out.form
      go_wp2_with fail
      go_ret
      have e := HO.out.length
      rw [← HE.out]
      subst e
      exact ⟨_, rfl, HO.out, B1.out.trans (hnx.mono B1.out.size)⟩

end Go.Proofs.Ytclmdlopefbpbaa
