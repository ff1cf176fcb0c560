/-
  Contracts of the program's functions of chapter 4 but Runs. Conditions: the automaton's lists have at most 2^20 elements.
-/
import Derived.Test.YtdbgjgeglgipiaaGreatComeTo
import Derived.Test.YtdbgjgeglgipiaaGreatSpecHid
import Derived.Test.YtdbgjgeglgipiaaGreatRowOf
namespace Go.Proofs.YtdbgjgeglgipiaaGreat
open Go.RowKit

/-- Rows of steps in a slice of slices. -/
def RowRows (w : World) (ad : Option Addr) (n : Nat) (RR : List (List St)) : Prop :=
  RR.length = n ∧ (0 < n → ∃ b off, ad = some ⟨b, off, none⟩ ∧ b < w.heap.size ∧ ∀ j r, RR[j]? = some r → ∃ a c, w.cell? ⟨b, off + j, none⟩ = some (.slice a r.length c) ∧ RowS w a r.length r)

theorem RowRows.below {w w' : World} {ad : Option Addr} {n : Nat} {RR : List (List St)} (h : RowRows w ad n RR) (hb : Below w.heap.size w w') : RowRows w' ad n RR := by
  refine ⟨h.1, fun hn => ?_⟩
  obtain ⟨b, off, e, hlt, hc⟩ := h.2 hn
  refine ⟨b, off, e, Nat.lt_of_lt_of_le hlt hb.size, fun j r hr => ?_⟩
  obtain ⟨a, c, h1, h2⟩ := hc j r hr
  exact ⟨a, c, (hb.cell (p := ⟨b, off + j, none⟩) hlt).trans h1, h2.below hb⟩

theorem own_src {w : World} {base n c : Nat} {a : Option Addr} {xs : List Int} (h : Owns w base (.slice a n c) n xs) : Src w a n c xs := by
  refine row_src h.row.2.2.2 (fun e => ?_)
  subst e
  rcases h.2 with ⟨e, _⟩ | ⟨_, _, _, e, _⟩
  · cases e; rfl
  · cases e

/-- An append of one slice of steps onto a row of them of the call's own. -/
theorem wpList_appR {P : Program} {w : World} {ops : Array Oper} {rest : List Oper} {o : Oper} {a : Act} {Q : Exit → Act → World → Prop} (hgd : o.guard = none) (s x : Operand)
    (ho : o.op = .call { callee := .builtin .append, args := #[s, x], argTypes := #[ 94, 94 ] })
    (base : Nat) (i : TypeInfo) (ht : P.underlying 94 = some (.slice 29)) (hi : P.info? 29 = some i) (hz : i.zero = some (.slice none 0 0)) (hsize : i.size = 1) (hby : i.bytes = 24)
    (v : Value) (n : Nat) (xs : List Value) (hs : a.eval s = v) (hown : w.ownsRow base 29 1 v n xs) (b : Nat) (u : Value) (hx : a.eval x = .slice (some ⟨b, 0, none⟩) 1 1) (hc : w.cell? ⟨b, 0, none⟩ = some u) (hone : u.oneCell' = true)
    (hbig : n + 1 ≤ 1048577) (hbase : base ≤ w.heap.size)
    (h : ∀ v' w', w'.ownsRow base 29 1 v' (n + 1) (xs ++ [u]) → w.grownBy w' v.ownBlock → wpList P ops Q rest (a.put o.dst v') w') : wpList P ops Q (o :: rest) a w := by
  refine wpList_append_own w hgd s x 94 ho base 29 i (.slice none 0 0) 1 24 ht hi hz hsize hby rfl (by decide) v n _ hs hown ⟨b, 0, none⟩ 1 1 [u] hx rfl (fun j u' hu => ?_) (fun u' hu => ?_) (by unfold maxLen; omega) (by omega) hbase ?_
  · rw [add_lit]
    obtain ⟨hj, rfl⟩ := List.getElem?_eq_some_iff.1 hu
    obtain rfl : j = 0 := by simpa using hj
    exact hc
  · obtain rfl := List.mem_singleton.1 hu
    exact hone
  · intro v' w' h1 h2 _
    exact h v' w' h1 h2

set_option maxRecDepth 20000 in
set_option maxHeartbeats 3200000 in
theorem rowsAt_any (base : Nat) (C : Array Value) (steps : List St) (sa : Option Addr) (sn sc : Nat) (L : List Int) (w : World) (hC : RowsAt w base C steps) (rs : Row w sa sn L) (hsn : sn ≤ 1048576) (hlow : ∀ x ∈ L, 0 ≤ x ∧ x < 40) :
    Calls Tryz.prog 99 #[.agg C, .slice sa sn sc] w fun e w' => ∃ ad c, e = .returned (.slice ad sn c) ∧ RowRows w' ad sn (L.map (rowL steps)) ∧ Below w.heap.size w w' := by
  obtain ⟨i0, hi0, hz0, hz1, hz2⟩ := info_parts (show (Tryz.prog.info? 29).map (fun i => (i.zero, i.size, i.bytes)) = some (some (.slice none 0 0), 1, 24) by kernel_rfl)
  have HC := Lib.hid hC
  have HR := Lib.hid rs
  have HLW := Lib.hid hlow
  clear hC rs hlow
  have V0 := Lib.hid (VarIs.new w C 115 rfl)
  have B0 : Hid (Below w.heap.size w (w.alloc (.cells C 115))) := (Below.refl _ _).alloc (Nat.le_refl _) _
  go_enter Tryz.func99, Tryz.ntmps99
  go_wp2_with fail
  go_loopw [5, 10] (fun v i wr => ∃ (k : Nat) (v0 : Value) (T : List Value), k ≤ sn ∧ i = .int .i64 k ∧ v0 = v ∧ Hid (wr.ownsRow (w.heap.size + 1) 29 1 v0 k T) ∧ Hid (∀ j, j < k → ∃ a c, T[j]? = some (.slice a (rowL steps (L.getD j 0)).length c) ∧ RowS w a (rowL steps (L.getD j 0)).length (rowL steps (L.getD j 0))) ∧ Below w.heap.size w wr ∧ Hid (VarIs wr w.heap.size C 115)) (fun _ i _ => sn - (intOf i).toNat)
  case atStart => exact ⟨0, _, [], Nat.zero_le _, rfl, rfl, World.ownsRow_nil _ _ _ _, fun j hj => absurd hj (by omega), B0.out, V0.out⟩
  case round =>
    obtain ⟨k, v0, T, hk, rfl, rfl, HO, HT, hnx, HV⟩ := hrel
    clear V0 B0
    by_cases hlt : k < sn
    · obtain ⟨b, off, rfl, hb, hcell⟩ := HR.out.2 (by omega)
      have hkx : k < L.length := by rw [HR.out.1]; exact hlt
      obtain ⟨s, hs⟩ : ∃ s, s = L[k] := ⟨_, rfl⟩
      have hsl := HLW.out s (by rw [hs]; exact List.getElem_mem hkx)
      obtain ⟨j, rfl⟩ : ∃ j : Nat, s = (j : Int) := ⟨s.toNat, by omega⟩
      have hj : j < 40 := by omega
      have hj' : (j : Int) < 40 := by omega
      have g0 : wr.cell? ⟨b, off + k, none⟩ = some (.int .i64 (j : Int)) := by
        rw [hnx.cell (p := ⟨b, off + k, none⟩) hb, hcell k hlt, getD_eq L k hkx, hs]
      obtain ⟨ar, cr, hCs, hor⟩ := HC.out.2.1 j hj
      obtain ⟨row, hrow⟩ : ∃ r, r = rowL steps (j : Int) := ⟨_, rfl⟩
      obtain ⟨m, hm⟩ : ∃ m, m = row.length := ⟨_, rfl⟩
      rw [← hrow, ← hm] at hCs hor
      have gC := HV.out.cell (j := j) hCs
      have hTl : T.length = k := by
        have := HO.out.1
        simpa using this
      have HT2 : Hid (∀ i, i < k + 1 → ∃ a c, (T ++ [.slice ar m cr])[i]? = some (.slice a (rowL steps (L.getD i 0)).length c) ∧ RowS w a (rowL steps (L.getD i 0)).length (rowL steps (L.getD i 0))) := fun i hi => by
        by_cases e : i = k
        · subst e
          refine ⟨ar, cr, ?_, ?_⟩
          · rw [List.getElem?_append_right (by omega), hTl, getD_eq L i hkx, ← hs, ← hrow, ← hm]
            simp
          · rw [getD_eq L i hkx, ← hs, ← hrow, ← hm]
            exact hor.row.2.2.2
        · rw [List.getElem?_append_left (by omega)]
          exact HT.out i (by omega)
      have T1 := HO.out.alloc (.cells #[.slice ar m cr] 29)
      have b1 := HV.out.lt
      clear hs hsl hcell hCs hor hrow hm
      go_wp2_with (at_builtin; refine wpList_appR rfl (.tmp 14) (.tmp 18) rfl (w.heap.size + 1) i0 Tryz.underlying94 hi0 hz0 hz1 hz2 _ _ _ rfl T1 _ (.slice ar m cr) rfl (by simp) rfl (by omega) (by simp; omega) ?_)
      rintro v2 w2 hown2 hgrow2
      have hb2 : Below w.heap.size w w2 := (hnx.alloc hnx.size _).grown hgrow2 (by simp; omega) (fun q hq => by have := (World.ownsRow.lt T1 q hq).1; omega)
      have HV2 := Lib.hid ((HV.out.alloc (.cells #[.slice ar m cr] 29)).grown hgrow2 (fun e => by have := (World.ownsRow.lt T1 _ e.symm).1; omega))
      have HO2 := Lib.hid hown2
      clear T1 hgrow2 hown2 HO g0 gC
      go_wp2_with fail
      go_roundw
      case rel => exact ⟨k + 1, v2, T ++ [Value.slice ar m cr], by omega, by go_num, rfl, HO2.out, HT2.out, hb2, HV2.out⟩
      case measure => simp [intOf]; omega
    · obtain rfl : k = sn := by omega
      have hf : ∃ a c, v0 = .slice a k c := by
        rcases HO.out.2 with ⟨rfl, rfl⟩ | ⟨g, cap, cur, rfl, _⟩
        · exact ⟨_, _, rfl⟩
        · exact ⟨_, _, rfl⟩
      obtain ⟨av, cv, rfl⟩ := hf
      go_wp2_with fail
      go_ret
      refine ⟨_, _, rfl, ⟨by simp [HR.out.1], fun h0 => ?_⟩, hnx⟩
      rcases HO.out.2 with ⟨_, e⟩ | ⟨g, cap, cur, hv, hbg, hh, r⟩
      · omega
      · simp only [Value.slice.injEq] at hv
        obtain ⟨rfl, _, rfl⟩ := hv
        have hglt : g < wr.heap.size := by
          by_cases hlt : g < wr.heap.size
          · exact hlt
          · rw [Array.getElem?_eq_none (by omega)] at hh; cases hh
        refine ⟨g, 0, rfl, hglt, fun j r hr => ?_⟩
        rw [List.getElem?_map] at hr
        obtain ⟨x, hx, rfl⟩ := Option.map_eq_some_iff.1 hr
        have hjl := (List.getElem?_eq_some_iff.1 hx).1
        rw [HR.out.1] at hjl
        obtain ⟨a, c, h1, h2⟩ := HT.out j hjl
        have ex : L.getD j 0 = x := by simp [hx]
        rw [ex] at h1 h2
        refine ⟨a, c, ?_, h2.below hnx⟩
        have hTl : T.length = k := by
          have := HO.out.1
          simpa using this
        have := World.ownsRow.cellAt (h := HO.out) j (by omega)
        rw [Nat.zero_add, this, h1]

set_option maxRecDepth 20000 in
set_option maxHeartbeats 3200000 in
theorem tosOfRows_any (ad : Option Addr) (n c : Nat) (RR : List (List St)) (act : Int) (w : World) (hr : RowRows w ad n RR) (hn : n ≤ 1048576) (hrow : ∀ r ∈ RR, r.length ≤ 400) :
    Calls Tryz.prog 76 #[.slice ad n c, .int .i64 act] w (RowRes w w.heap.size (ris (RR.flatMap fun r => afterR r act))) := by
  obtain ⟨i0, hi, hz0, hz1, hz2⟩ := info_parts info_int
  have HR := Lib.hid hr
  have HRL := Lib.hid hrow
  clear hr hrow
  obtain ⟨X, hX⟩ : ∃ X, X = RR.flatMap fun r => afterR r act := ⟨_, rfl⟩
  rw [← hX]
  have HX := Lib.hid hX
  clear hX
  go_enter Tryz.func76, Tryz.ntmps76
  go_wp2_with fail
  go_loopw [5, 10] (fun v i wr => ∃ (k len : Nat) (v0 : Value) (T : List Int), k ≤ n ∧ i = .int .i64 k ∧ v0 = v ∧ Hid (Owns wr w.heap.size v0 len T) ∧ Hid (T = (RR.take k).flatMap fun r => afterR r act) ∧ len ≤ 400 * k ∧ Below w.heap.size w wr) (fun _ i _ => n - (intOf i).toNat)
  case atStart => exact ⟨0, 0, _, [], Nat.zero_le _, rfl, rfl, World.ownsRow_nil _ _ _ _, rfl, by omega, Below.refl _ _⟩
  case round =>
    obtain ⟨k, len, v0, T, hk, rfl, rfl, HO, HT, hlen, hnx⟩ := hrel
    by_cases hlt : k < n
    · obtain ⟨b, off, rfl, hb, hcell⟩ := HR.out.2 (by omega)
      have hkx : k < RR.length := by rw [HR.out.1]; exact hlt
      obtain ⟨row, hrow⟩ : ∃ r, r = RR[k] := ⟨_, rfl⟩
      have hrl := HRL.out row (by rw [hrow]; exact List.getElem_mem hkx)
      obtain ⟨ar, cr, d0, hrs⟩ := hcell k row (by rw [List.getElem?_eq_getElem hkx, hrow])
      obtain ⟨m, hm⟩ : ∃ m, m = row.length := ⟨_, rfl⟩
      rw [← hm] at hrl d0 hrs
      have g0 : wr.cell? ⟨b, off + k, none⟩ = some (.slice ar m cr) := (hnx.cell (p := ⟨b, off + k, none⟩) hb).trans d0
      obtain ⟨A, hA⟩ : ∃ A, A = afterR row act := ⟨_, rfl⟩
      have hAl : A.length ≤ 400 := by
        rw [hA]
        unfold afterR
        rw [List.length_map]
        have := List.length_filter_le (fun x : St => decide (x.2.1 = act)) row
        omega
      have HST : Hid (T ++ A = (RR.take (k + 1)).flatMap fun r => afterR r act) := by
        unfold Hid
        rw [List.take_succ_eq_append_getElem hkx, List.flatMap_append, ← HT.out, ← hrow, hA]
        simp
      have CT : Hid (Calls Tryz.prog 103 #[.slice ar m cr, .int .i64 act] wr (RowRes wr wr.heap.size A)) := by
        unfold Hid
        rw [hA]
        exact tosOfRow_any ar m cr row act wr (hrs.below hnx) (by omega)
      clear hrow d0 hrs hm hcell hA
      go_wp2_with fail
      refine CT.out.mono ?_
      rintro e w2 ⟨v2, rfl, ho2, hb2⟩
      obtain ⟨a2, c2, rfl⟩ := ho2.form
      have S1 := own_src ho2
      have T1 := HO.out.below hb2
      have b1 := hnx.size
      have b2 := hb2.size
      have B2 := Lib.hid (hnx.trans (hb2.mono b1))
      obtain ⟨m2, hm2⟩ : ∃ m2, m2 = A.length := ⟨_, rfl⟩
      rw [← hm2] at S1 hAl ⊢
      clear ho2 hb2 hm2
      go_wp2_with (at_builtin; refine wpList_app rfl (.tmp 14) (.tmp 17) rfl w.heap.size i0 Tryz.underlying22 hi hz0 hz1 hz2 _ _ _ rfl T1 _ m2 _ A rfl S1 (by omega) (by omega) ?_)
      rintro v3 w3 ⟨hown3, hgrow3, _⟩
      have hb3 : Below w.heap.size w w3 := T1.grown B2.out hgrow3 (Nat.le_refl _) (by omega)
      have HO3 := Lib.hid hown3
      clear T1 S1 hgrow3 hown3 HO g0
      go_wp2_with fail
      go_roundw
      case rel => exact ⟨k + 1, len + m2, v3, T ++ A, by omega, by go_num, rfl, HO3.out, HST.out, by omega, hb3⟩
      case measure => simp [intOf]; omega
    · have HE : Hid (T = X) := by
        have := HT.out
        rw [List.take_of_length_le (by rw [HR.out.1]; omega)] at this
        rw [HX.out]
        exact this
      go_wp2_with fail
      refine (risen_any v0 len w.heap.size T _ HO.out (by omega)).mono ?_
      rintro e w2 ⟨v2, rfl, ho2, hg2, _⟩
      have HO2 := Lib.hid ho2
      have B2 : Hid (Below w.heap.size w w2) := hnx.grown hg2 hnx.size (fun q hq => (HO.out.lt q hq).1)
      clear ho2 hg2
      go_wp2_with fail
      go_ret
      rw [← HE.out]
      exact ⟨_, rfl, HO2.out, B2.out⟩

/-- The states that one may be in unseen; none of what is not right. -/
def closeIf (a : IaD) (s : Int) : List Int := if iaOkB a && stateB a s then closeOf a s else []

theorem closeIf_ok {a : IaD} {s : Int} (h : closeIf a s ≠ []) : iaOkB a = true ∧ stateB a s = true := by
  unfold closeIf at h
  split at h
  · rename_i hc
    rw [Bool.and_eq_true] at hc
    exact hc
  · exact absurd rfl h

theorem closeIf_low {a : IaD} {s : Int} : ∀ x ∈ closeIf a s, 0 ≤ x ∧ x < 40 := by
  intro x hx
  obtain ⟨h1, h2⟩ := closeIf_ok (List.ne_nil_of_mem hx)
  have hx' : x ∈ closeOf a s := by
    unfold closeIf at hx
    rw [h1, h2] at hx
    exact hx
  have h3 := close_states h1 h2 x hx'
  have h4 := iaOk_states h1
  simp only [stateB, btw, Bool.and_eq_true, decide_eq_true_eq] at h3
  omega

theorem closeIf_len (a : IaD) (s : Int) : (closeIf a s).length ≤ 40 := by
  unfold closeIf
  split
  · rename_i hc
    rw [Bool.and_eq_true] at hc
    exact close_low hc.1 hc.2
  · simp

theorem tos_map (ss : List St) (act : Int) (C : List Int) : (C.map (rowL ss)).flatMap (fun r => afterR r act) = tosP ss act C := by
  unfold tosP
  rw [List.flatMap_map]

theorem far_if (a : IaD) (s act : Int) : ris (tosP a.steps act (closeIf a s)) = if iaOkB a && stateB a s then farOf a s act else [] := by
  unfold closeIf
  split
  · exact far_eq a s act
  · exact ris_nil

theorem rows_short {a : IaD} {C : List Int} (h : C ≠ [] → iaOkB a = true) : ∀ r ∈ C.map (rowL a.steps), r.length ≤ 400 := by
  intro r hr
  obtain ⟨x, hx, rfl⟩ := List.mem_map.1 hr
  have h1 := rowL_len a.steps x
  have h2 := iaOk_len (h (List.ne_nil_of_mem hx))
  omega

theorem sure_if (a : IaD) (s : Int) : sureP (fun x => ofL a.steps x a.ins) (closeIf a s) = if iaOkB a && stateB a s then sureOf a s else [] := by
  unfold closeIf
  split
  · exact sureP_eq
  · rfl

theorem say_if (a : IaD) (s : Int) : (closeIf a s).foldl (fun o x => joinOf o (ofL a.steps x a.outs)) [] = if iaOkB a && stateB a s then sayOf a s else [] := by
  unfold closeIf
  split
  · rfl
  · rfl

theorem sureP_len (ss : List St) (ins : List Int) : ∀ (L : List Int), (sureP (fun x => ofL ss x ins) L).length ≤ ins.length
  | [] => by simp [sureP]
  | x :: r => by
    refine rises_len (foldMeet_rises (L := r) (ofL_rises ss x ins)) (fun y hy => ?_)
    exact (mem_ofL.1 (mem_foldMeet.1 hy).1).1

end Go.Proofs.YtdbgjgeglgipiaaGreat
