/-
  Contracts of the program's addNew, comeTo and unseenFrom: what may be come to unseen. Conditions: the automaton is right, and the numbers to begin with are states of it.
-/
import Derived.Test.YtdbgjgeglgipiaaGreatHidTos
namespace Go.Proofs.YtdbgjgeglgipiaaGreat
open Go.RowKit

theorem contains_any (a : Option Addr) (n c : Nat) (x : Int) (xs : List Int) (w : World) (h : Row w a n xs) (hn : n ≤ 1099511627776) :
    Calls Tryz.prog 60 #[.slice a n c, .int .i64 x] w fun e w' => e = .returned (.bool (hasB xs x)) ∧ w = w' := by
  obtain ⟨hl, hc⟩ := h
  by_cases h0 : 0 < n
  · obtain ⟨b, off, rfl, hb, hcell⟩ := hc h0
    refine (Tryz.slices_Contains_int b off n c xs x _ (by omega) (by omega) (fun j (hj : j < xs.length) => hcell j (by omega))).mono ?_
    rintro e w' ⟨rfl, rfl⟩
    exact ⟨ret_bool (by rw [List.take_of_length_le (by omega)]; simp [hasB]), rfl⟩
  · obtain rfl : n = 0 := by omega
    obtain rfl : xs = [] := List.length_eq_zero_iff.1 hl
    refine (Tryz.slices_Contains_int_empty a c x _).mono ?_
    rintro e w' ⟨rfl, rfl⟩
    exact ⟨rfl, rfl⟩

theorem addL_len : ∀ (L F : List Int), (addL F L).length ≤ F.length + L.length
  | [], F => by simp [addL]
  | z :: r, F => by
    have h1 : addL F (z :: r) = addL (addOne F z) r := rfl
    have h2 := addL_len r (addOne F z)
    have h3 : (addOne F z).length ≤ F.length + 1 := by
      unfold addOne
      split <;> simp
    rw [h1, List.length_cons]
    omega

set_option maxRecDepth 20000 in
set_option maxHeartbeats 3200000 in
theorem addNew_any (v : Value) (n base : Nat) (F : List Int) (la : Option Addr) (ln lc : Nat) (L : List Int) (w : World) (h : Owns w base v n F) (hn : n ≤ 1048576) (hl : Row w la ln L) (hln : ln ≤ 1048576) (hlow : ∀ b off, la = some ⟨b, off, none⟩ → 0 < ln → b < base) (hbase : base ≤ w.heap.size) :
    Calls Tryz.prog 143 #[v, .slice la ln lc] w fun e w' => ∃ v', e = .returned v' ∧ Owns w' base v' (addL F L).length (addL F L) ∧ Below base w w' := by
  obtain ⟨i0, hi, hz0, hz1, hz2⟩ := info_parts info_int
  have HF0 := Lib.hid h
  have HLR := Lib.hid hl
  have HLW := Lib.hid hlow
  have HFL := Lib.hid h.length
  clear h hl hlow
  obtain ⟨R, hR⟩ : ∃ R, R = addL F L := ⟨_, rfl⟩
  rw [← hR]
  have HR := Lib.hid hR
  clear hR
  go_enter Tryz.func143, Tryz.ntmps143
  go_wp2_with fail
  go_loopw [0, 9] (fun fd i wr => ∃ (k len : Nat) (v0 : Value) (T : List Int), k ≤ ln ∧ i = .int .i64 k ∧ v0 = fd ∧ Hid (Owns wr base v0 len T) ∧ Hid (T = addL F (L.take k)) ∧ len ≤ n + k ∧ Below base w wr) (fun _ i _ => ln - (intOf i).toNat)
  case atStart => exact ⟨0, n, _, F, Nat.zero_le _, rfl, rfl, HF0.out, rfl, by omega, Below.refl _ _⟩
  case round =>
    obtain ⟨k, len, v0, T, hk, rfl, rfl, HO, HT, hlen, hnx⟩ := hrel
    by_cases hlt : k < ln
    · obtain ⟨b, off, rfl, hb, hcell⟩ := HLR.out.2 (by omega)
      have hbb := HLW.out b off rfl (by omega)
      have hkx : k < L.length := by rw [HLR.out.1]; exact hlt
      obtain ⟨x, hx⟩ : ∃ x, x = L[k] := ⟨_, rfl⟩
      have g0 : wr.cell? ⟨b, off + k, none⟩ = some (.int .i64 x) := by
        rw [hnx.cell (p := ⟨b, off + k, none⟩) hbb, hcell k hlt, getD_eq L k hkx, hx]
      obtain ⟨q, hq⟩ : ∃ q, q = hasB T x := ⟨_, rfl⟩
      have HST : Hid (addL F (L.take (k + 1)) = if q then T else T ++ [x]) := by
        unfold Hid
        rw [List.take_succ_eq_append_getElem hkx, ← hx, addL_snoc, ← HT.out, hq]
        rfl
      obtain ⟨av, cv, rfl⟩ := HO.out.form
      have CH : Hid (Calls Tryz.prog 60 #[.slice av len cv, .int .i64 x] wr fun e w' => e = .returned (.bool q) ∧ wr = w') := by
        unfold Hid
        rw [hq]
        exact contains_any av len cv x T wr HO.out.row.2.2.2 (by omega)
      clear hq hx hcell
      cases q with
      | true =>
        have HST2 : Hid (T = addL F (L.take (k + 1))) := HST.out.symm
        go_wp2_with fail
        refine CH.out.mono ?_
        rintro e w' ⟨rfl, rfl⟩
        go_wp2_with fail
        go_roundw
        case rel => exact ⟨k + 1, len, _, T, by omega, by go_num, rfl, HO.out, HST2.out, by omega, hnx⟩
        case measure => simp [intOf]; omega
      | false =>
        have HST2 : Hid (T ++ [x] = addL F (L.take (k + 1))) := HST.out.symm
        have T1 := HO.out.alloc (.cells #[.int .i64 x] 3)
        have S1 : Src (wr.alloc (.cells #[.int .i64 x] 3)) (some ⟨wr.heap.size, 0, none⟩) 1 1 [x] := src_one (by simp)
        have b1 := hnx.size
        go_wp2_with fail
        refine CH.out.mono ?_
        rintro e w' ⟨rfl, rfl⟩
        go_wp2_with (at_builtin; refine wpList_app rfl (.tmp 17) (.tmp 19) rfl base i0 Tryz.underlying22 hi hz0 hz1 hz2 _ _ _ rfl T1 _ 1 _ [x] rfl S1 (by omega) (by simp; omega) ?_)
        rintro v2 w2 ⟨hown2, hgrow2, _⟩
        have hb2 : Below base w w2 := T1.grown (hnx.alloc (by omega) _) hgrow2 (Nat.le_refl _) (by simp; omega)
        have HO2 := Lib.hid hown2
        clear T1 S1 hgrow2 hown2 HO g0
        go_wp2_with fail
        go_roundw
        case rel => exact ⟨k + 1, len + 1, v2, T ++ [x], by omega, by go_num, rfl, HO2.out, HST2.out, by omega, hb2⟩
        case measure => simp [intOf]; omega
    · have HE : Hid (T = R) := by
        have := HT.out
        rw [List.take_of_length_le (by rw [HLR.out.1]; omega)] at this
        rw [HR.out]
        exact this
      go_wp2_with fail
      go_ret
      have e := HO.out.length
      rw [← HE.out]
      subst e
      exact ⟨_, rfl, HO.out, hnx⟩

theorem hiddenAt_any (s bx : Nat) (C : Array Value) (ar : Option Addr) (m cr : Nat) (w : World) (hs : s < 40) (hv : VarIs w bx C 143) (hu : C[s]? = some (.slice ar m cr)) :
    Calls Tryz.prog 137 #[.int .i64 (s : Int), .pointer (some ⟨bx, 0, none⟩)] w fun e w' => e = .returned (.slice ar m cr) ∧ w = w' := by
  have g0 := hv.cell hu
  have hs' : (s : Int) < 40 := by omega
  clear hv hu
  go_enter Tryz.func137, Tryz.ntmps137
  go_wp2_with fail
  go_ret
  exact ⟨rfl, rfl⟩

set_option maxRecDepth 20000 in
set_option maxHeartbeats 3200000 in
theorem comeTo_any (a : IaD) (ok : iaOkB a = true) (fa : Option Addr) (fn fc : Nat) (L : List Int) (bx base : Nat) (C : Array Value) (w : World) (hL : ∀ x ∈ L, stateB a x = true) (rf : Row w fa fn L) (hfn : fn ≤ 1048576) (hv : VarIs w bx C 143) (hC : HidAt w base C a.hids a.steps) :
    Calls Tryz.prog 136 #[.slice fa fn fc, .func (.func 137) #[] #[.pointer (some ⟨bx, 0, none⟩)]] w fun e w' => ∃ v n F, e = .returned v ∧ Owns w' w.heap.size v n F ∧ n ≤ 40 ∧ FoundH a L F F.length ∧ Below w.heap.size w w' := by
  have HRF := Lib.hid rf
  have HV := Lib.hid hv
  have HC := Lib.hid hC
  have HL := Lib.hid hL
  have HOK := Lib.hid ok
  clear rf hv hC hL ok
  go_enter Tryz.func136, Tryz.ntmps136
  go_wp2_with fail
  refine (addNew_any (.slice none 0 0) 0 w.heap.size [] fa fn fc L _ (World.ownsRow_nil _ _ _ _) (by omega) HRF.out hfn (fun b off e h0 => by
    obtain ⟨b', off', e', hb', _⟩ := HRF.out.2 h0
    rw [e'] at e
    cases e
    exact hb') (Nat.le_refl _)).mono ?_
  rintro e w1 ⟨v1, rfl, ho, hb⟩
  have HO1 := Lib.hid ho
  clear ho
  go_wp2_with fail
  go_loopw [5, 6] (fun fd i wr => ∃ (k len : Nat) (v0 : Value) (F : List Int), i = .int .i64 k ∧ v0 = fd ∧ k ≤ len ∧ Hid (Owns wr w.heap.size v0 len F) ∧ Hid (FoundH a L F k) ∧ Below w.heap.size w wr) (fun _ i _ => 40 - (intOf i).toNat)
  case atStart => exact ⟨0, _, _, addL [] L, rfl, rfl, Nat.zero_le _, HO1.out, FoundH.start a L, hb⟩
  case round =>
    obtain ⟨k, len, v0, F, rfl, rfl, hk, HO, HF, hnx⟩ := hrel
    clear HO1 hb
    have hl40 : len ≤ 40 := by
      have := HF.out.len HOK.out HL.out
      rw [HO.out.length] at this
      exact this
    by_cases hlt : k < len
    · have hne : ¬ v0 = .slice none 0 0 := by
        rintro rfl
        rcases HO.out.2 with ⟨_, e⟩ | ⟨_, _, _, e, _⟩
        · omega
        · cases e
      obtain ⟨g, c, rfl⟩ := HO.out.head hne
      clear hne
      have hkF : k < F.length := by rw [HO.out.length]; exact hlt
      obtain ⟨s, hs⟩ : ∃ s, s = F[k] := ⟨_, rfl⟩
      have hsl := HF.out.low HOK.out HL.out s (by rw [hs]; exact List.getElem_mem hkF)
      obtain ⟨j, rfl⟩ : ∃ j : Nat, s = (j : Int) := ⟨s.toNat, by omega⟩
      have hj : j < 40 := by omega
      have gF : wr.cell? ⟨g, k, none⟩ = some (.int .i64 (j : Int)) := by
        rw [HO.out.cells.2 k hlt, getD_eq F k hkF, hs]
      have HFK : Hid (FoundH a L (addL F (hidR a.hids a.steps (j : Int))) (k + 1)) := HF.out.next (by rw [List.getElem?_eq_getElem hkF, ← hs])
      obtain ⟨ar, cr, hCs, hor⟩ := HC.out.2.1 j hj
      obtain ⟨row, hrow⟩ : ∃ r, r = hidR a.hids a.steps (j : Int) := ⟨_, rfl⟩
      obtain ⟨m, hm⟩ : ∃ m, m = row.length := ⟨_, rfl⟩
      rw [← hrow, ← hm] at hCs hor
      rw [← hrow] at HFK
      have hm4 : m ≤ 400 := by
        have h1 := hidR_len a.hids a.steps (j : Int)
        have h2 := iaOk_len HOK.out
        rw [hm, hrow]
        omega
      have CF : Hid (Calls Tryz.prog 137 #[.int .i64 (j : Int), .pointer (some ⟨bx, 0, none⟩)] wr fun e w' => e = .returned (.slice ar m cr) ∧ wr = w') := hiddenAt_any j bx C ar m cr wr hj (HV.out.below hnx) hCs
      have HRO := Lib.hid (hor.row.2.2.2.below hnx)
      have HLO : Hid (∀ b off, ar = some ⟨b, off, none⟩ → 0 < m → b < w.heap.size) := fun b off e _ => by subst e; exact (hor.lt b rfl).2
      obtain ⟨F2, hF2⟩ : ∃ F2, F2 = addL F row := ⟨_, rfl⟩
      have CN : Hid (Calls Tryz.prog 143 #[.slice (some ⟨g, 0, none⟩) len c, .slice ar m cr] wr fun e w' => ∃ v', e = .returned v' ∧ Owns w' w.heap.size v' F2.length F2 ∧ Below w.heap.size wr w') := by
        unfold Hid
        rw [hF2]
        exact addNew_any _ len w.heap.size F ar m cr row wr HO.out (by omega) HRO.out (by omega) HLO.out hnx.size
      have hkl : k + 1 ≤ F2.length := by
        obtain ⟨E, hE⟩ := addL_more row F
        rw [hF2, hE, List.length_append]
        omega
      rw [← hF2] at HFK
      clear hs hsl hCs hor hrow hm hF2
      go_wp2_with fail
      refine CF.out.mono ?_
      rintro e w' ⟨rfl, rfl⟩
      go_wp2_with fail
      refine CN.out.mono ?_
      rintro e w2 ⟨v2, rfl, ho, hb2⟩
      have HO2 := Lib.hid ho
      have HB2 := Lib.hid (hnx.trans hb2)
      clear ho hb2 gF
      go_wp2_with fail
      go_roundw
      case rel => exact ⟨k + 1, F2.length, v2, F2, by go_num, rfl, hkl, HO2.out, HFK.out, HB2.out⟩
      case measure => simp [intOf]; omega
    · have HE : Hid (FoundH a L F F.length) := by
        have h1 : k = F.length := by rw [HO.out.length]; omega
        have h2 := HF.out
        rw [h1] at h2
        exact h2
      obtain ⟨av, cv, rfl⟩ := HO.out.form
      go_wp2_with fail
      go_ret
      exact ⟨_, _, F, rfl, HO.out, hl40, HE.out, hnx⟩

set_option maxRecDepth 20000 in
set_option maxHeartbeats 3200000 in
theorem unseenFrom_any (a : IaD) (ok : iaOkB a = true) (fa : Option Addr) (fn fc : Nat) (L : List Int) (base : Nat) (C : Array Value) (w : World) (hL : ∀ x ∈ L, stateB a x = true) (rf : Row w fa fn L) (hfn : fn ≤ 1048576) (hC : HidAt w base C a.hids a.steps) :
    Calls Tryz.prog 125 #[.agg C, .slice fa fn fc] w (RowRes w w.heap.size (alongOf a.hids a.steps L)) := by
  obtain ⟨R, hR⟩ : ∃ R, R = alongOf a.hids a.steps L := ⟨_, rfl⟩
  rw [← hR]
  have HR := Lib.hid hR
  clear hR
  have B0 : Hid (Below w.heap.size w (w.alloc (.cells C 143))) := (Below.refl _ _).alloc (Nat.le_refl _) _
  have CM : Hid (Calls Tryz.prog 136 #[.slice fa fn fc, .func (.func 137) #[] #[.pointer (some ⟨w.heap.size, 0, none⟩)]] (w.alloc (.cells C 143)) fun e w' => ∃ v n F, e = .returned v ∧ Owns w' (w.heap.size + 1) v n F ∧ n ≤ 40 ∧ FoundH a L F F.length ∧ Below (w.heap.size + 1) (w.alloc (.cells C 143)) w') := by
    have := comeTo_any a ok fa fn fc L w.heap.size base C (w.alloc (.cells C 143)) hL (rf.below B0.out) hfn (VarIs.new w C _ rfl) (hC.alloc _)
    simpa [Hid] using this
  have hmf : ∀ (fn : Fn) (first cap : Array Value) (w : World), (Instr.makeFunc fn first cap).run Tryz.prog w = .ok (.func fn first cap) w := fun _ _ _ _ => rfl
  clear hL rf hC ok
  go_enter Tryz.func125, Tryz.ntmps125
  go_wp2_with fail
  refine CM.out.mono ?_
  rintro e w1 ⟨v1, n1, F, rfl, ho, hn, hf, hb⟩
  have HO := Lib.hid ho
  have HE : Hid (ris F = R) := by rw [HR.out]; exact hf.done
  have B1 : Hid (Below w.heap.size w w1) := B0.out.trans (hb.mono (by omega))
  clear ho hf hb
  go_wp2_with fail
  refine (risen_any v1 n1 (w.heap.size + 1) F _ HO.out (by omega)).mono ?_
  rintro e w2 ⟨v2, rfl, ho2, hg2, _⟩
  have HO2 := Lib.hid ho2
  have B2 : Hid (Below w.heap.size w w2) := B1.out.grown hg2 B1.out.size (fun q hq => by have := (HO.out.lt q hq).1; omega)
  clear ho2 hg2
  go_wp2_with fail
  go_ret
  rw [← HE.out]
  exact ⟨_, rfl, HO2.out.mono (by omega), B2.out⟩

end Go.Proofs.YtdbgjgeglgipiaaGreat
