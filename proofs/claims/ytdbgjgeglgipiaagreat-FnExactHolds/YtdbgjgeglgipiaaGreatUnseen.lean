/-
  Contracts of the program's rowsUnseen, actsOfAll, actsOfSome, SureTaken, MaySay, FarAfter, MixTaken, MixSaid. Conditions: the automaton's lists have at most 2^20 elements.
-/
import Derived.Test.YtdbgjgeglgipiaaGreatImplRuns
import Derived.Test.YtdbgjgeglgipiaaGreatMixMath
namespace Go.Proofs.YtdbgjgeglgipiaaGreat
open Go.RowKit

theorem runIf_one (a : IaD) (s : Int) : runIf a [s] = closeIf a s := by simp [runIf, closeIf, closeOf]

theorem row_none (w : World) : Row w none 0 [] := ⟨rfl, fun h => absurd h (by omega)⟩

set_option maxRecDepth 20000 in
set_option maxHeartbeats 3200000 in
theorem rowsUnseen_any (a : IaD) (v : Value) (fa : Option Addr) (fn fc : Nat) (from_ : List Int) (w : World) (h : IaRow w a v) (f2 : a.ins.length ≤ 1048576) (f3 : a.outs.length ≤ 1048576) (f4 : a.hids.length ≤ 1048576) (f5 : a.steps.length ≤ 1048576) (rf : Row w fa fn from_) (hfn : fn ≤ 1048576) :
    Calls Tryz.prog 72 #[v, .slice fa fn fc] w fun e w' => ∃ ad c, e = .returned (.slice ad (runIf a from_).length c) ∧ RowRows w' ad (runIf a from_).length ((runIf a from_).map (rowL a.steps)) ∧ Below w.heap.size w w' := by
  have CC0 : Hid (∀ W, Below w.heap.size w W → Calls Tryz.prog 98 #[v, .slice fa fn fc, .slice none 0 0] W (RowRes W W.heap.size (runIf a from_))) := fun W hW => implRuns_any a v fa fn fc from_ none 0 0 [] W (h.below hW) f2 f3 f4 f5 (rf.below hW) hfn (row_none W) (by omega)
  obtain ⟨L, hL⟩ : ∃ L, L = runIf a from_ := ⟨_, rfl⟩
  obtain ⟨n, hn⟩ : ∃ n, n = L.length := ⟨_, rfl⟩
  have hn40 : n ≤ 40 := by rw [hn, hL]; exact runIf_len a from_
  have HLOW : Hid (∀ x ∈ L, 0 ≤ x ∧ x < 40) := by rw [hL]; exact runIf_low
  have HOK : Hid (0 < n → iaOkB a = true) := fun h0 => by
    refine (runIf_ok (L := from_) (fun e => ?_)).1
    rw [← hL] at e
    rw [hn, e] at h0
    simp at h0
  have CC : Hid (∀ W, Below w.heap.size w W → Calls Tryz.prog 98 #[v, .slice fa fn fc, .slice none 0 0] W fun e w' => ∃ ad c, e = .returned (.slice ad n c) ∧ Owns w' W.heap.size (.slice ad n c) n L ∧ Below W.heap.size W w') := fun W hW => by
    rw [hn, hL]
    refine (CC0.out W hW).mono ?_
    rintro e w' ⟨v', rfl, ho, hb⟩
    obtain ⟨ad, c, rfl⟩ := ho.form
    exact ⟨ad, c, rfl, ho, hb⟩
  rw [← hL, ← hn]
  have HN := Lib.hid hn
  clear hL hn CC0 rf
  obtain ⟨a2, n2, c2, a3, n3, c3, a4, n4, c4, a5, n5, c5, rfl, r2, r3, r4, r5⟩ := h
  obtain ⟨st, it, ins, outs, hids, steps⟩ := a
  simp only at r2 r3 r4 r5 f2 f3 f4 f5
  have R5 := Lib.hid r5
  clear r2 r3 r4 r5 f2 f3 f4 f5
  have V0 := Lib.hid (VarIs.new w #[.int .i64 st, .int .i64 it, .slice a2 n2 c2, .slice a3 n3 c3, .slice a4 n4 c4, .slice a5 n5 c5] 31 rfl)
  have B0 : Hid (∀ o, Below w.heap.size w (w.alloc o)) := fun o => (Below.refl _ _).alloc (Nat.le_refl _) _
  go_enter Tryz.func72, Tryz.ntmps72
  go_wp2_with fail
  refine (CC.out _ (B0.out _)).mono ?_
  rintro e w1 ⟨ad, c, rfl, ho, hb⟩
  have B1 : Hid (Below w.heap.size w w1) := (B0.out _).trans (hb.mono (B0.out _).size)
  have V1 := Lib.hid (V0.out.below hb)
  have HO := Lib.hid ho
  clear hb ho V0
  by_cases h0 : n = 0
  · subst h0
    obtain rfl : L = [] := List.length_eq_zero_iff.1 HN.out.symm
    go_wp2_with fail
    go_ret
    exact ⟨_, _, rfl, ⟨rfl, fun h => absurd h (by omega)⟩, B1.out⟩
  · have hd : ((n : Int) == 0) = false := by simp; omega
    have HLEN := Lib.hid (iaOk_len (HOK.out (by omega)))
    have HLW2 := Lib.hid (iaOk_low (HOK.out (by omega)))
    have m0 := V1.out.cell (j := 0) rfl
    have m1 := V1.out.cell (j := 1) rfl
    have m2 := V1.out.cell (j := 2) rfl
    have m3 := V1.out.cell (j := 3) rfl
    have m4 := V1.out.cell (j := 4) rfl
    have m5 := V1.out.cell (j := 5) rfl
    go_wp2_with fail
    clear m0 m1 m2 m3 m4 m5
    refine (rowsOf_any st it _ _ _ a5 n5 c5 steps _ (R5.out.below B1.out) (by have h1 := HLEN.out; have h2 := R5.out.1; rw [← h2]; exact h1) HLW2.out).mono ?_
    rintro e w2 ⟨C, rfl, hC, hb⟩
    have B2 : Hid (Below w.heap.size w w2) := B1.out.trans (hb.mono B1.out.size)
    have HC := Lib.hid hC
    have HO2 := Lib.hid (HO.out.below hb)
    clear hb hC V1
    go_wp2_with fail
    refine (rowsAt_any _ C steps ad n c L _ HC.out HO2.out.row.2.2.2 (by omega) HLOW.out).mono ?_
    rintro e w3 ⟨ad3, c3, rfl, hr, hb⟩
    have B3 : Hid (Below w.heap.size w w3) := B2.out.trans (hb.mono B2.out.size)
    have HR := Lib.hid hr
    clear hb hr
    go_wp2_with fail
    go_ret
    exact ⟨_, _, rfl, HR.out, B3.out⟩

set_option maxRecDepth 20000 in
set_option maxHeartbeats 3200000 in
theorem actsOfAll_any (a : IaD) (ad : Option Addr) (n c : Nat) (C : List Int) (sa : Option Addr) (sn sc : Nat) (set : List Int) (w : World) (hr : RowRows w ad n (C.map (rowL a.steps))) (hn40 : n ≤ 40) (hok : C ≠ [] → iaOkB a = true) (rset : Row w sa sn set) (hsn : sn ≤ 1048576) :
    Calls Tryz.prog 74 #[.slice ad n c, .slice sa sn sc] w (RowRes w w.heap.size (sureP (fun x => ofL a.steps x set) C)) := by
  obtain ⟨st, it, ins, outs, hids, steps⟩ := a
  simp only at hr ⊢
  have HR := Lib.hid hr
  have HOK := Lib.hid hok
  have HN : Hid (n = C.length) := by have := hr.1; rw [List.length_map] at this; exact this.symm
  have RX := Lib.hid rset
  have E1 := Lib.hid rset.1
  clear hr hok rset
  obtain ⟨L, hL⟩ : ∃ L, L = sureP (fun x => ofL steps x set) C := ⟨_, rfl⟩
  rw [← hL]
  have HL := Lib.hid hL
  clear hL
  go_enter Tryz.func74, Tryz.ntmps74
  go_wp2_with fail
  go_loopw [5, 10] (fun v i wr => ∃ (k len : Nat) (v0 : Value) (T : List Int), k ≤ n ∧ i = .int .i64 k ∧ v0 = v ∧ Hid (Owns wr w.heap.size v0 len T) ∧ Hid (T = sureP (fun x => ofL steps x set) (C.take k)) ∧ Below w.heap.size w wr) (fun _ i _ => n - (intOf i).toNat)
  case atStart => exact ⟨0, 0, _, [], Nat.zero_le _, rfl, rfl, World.ownsRow_nil _ _ _ _, rfl, Below.refl _ _⟩
  case round =>
    obtain ⟨k, len, v0, T, hk, rfl, rfl, HO, HT, hnx⟩ := hrel
    have hlen : len ≤ 1048576 := by
      have h1 := sureP_len steps set (C.take k)
      rw [← HT.out, HO.out.length, E1.out] at h1
      omega
    by_cases hlt : k < n
    · obtain ⟨b, off, rfl, hb, hcell⟩ := HR.out.2 (by omega)
      have hkx : k < C.length := by rw [← HN.out]; exact hlt
      have hok := HOK.out (fun e => by rw [e] at hkx; simp at hkx)
      obtain ⟨x, hx⟩ : ∃ x, x = C[k] := ⟨_, rfl⟩
      obtain ⟨row, hrow⟩ : ∃ r, r = rowL steps x := ⟨_, rfl⟩
      obtain ⟨ar, cr, d0, hrs⟩ := hcell k row (by rw [List.getElem?_map, List.getElem?_eq_getElem hkx, ← hx, hrow]; rfl)
      obtain ⟨m, hm⟩ : ∃ m, m = row.length := ⟨_, rfl⟩
      rw [← hm] at d0 hrs
      have hml : m ≤ 400 := by
        have h1 := rowL_len steps x
        have h2 := iaOk_len hok
        rw [hm, hrow]
        exact Nat.le_trans h1 h2
      have g0 : wr.cell? ⟨b, off + k, none⟩ = some (.slice ar m cr) := (hnx.cell (p := ⟨b, off + k, none⟩) hb).trans d0
      obtain ⟨A, hA⟩ : ∃ A, A = Lib.compact (actsR row set) := ⟨_, rfl⟩
      have HAE : Hid (Lib.compact (actsR row set) = ofL steps x set) := by
        unfold Hid
        rw [hrow]
        exact actsR_eq hok x set
      have hAl : A.length ≤ 400 := by
        have h1 := ofN_len steps x set
        have h2 := iaOk_len hok
        rw [hA, HAE.out]
        exact Nat.le_trans h1 h2
      have CA : Hid (∀ W, Below w.heap.size w W → Calls Tryz.prog 102 #[.slice ar m cr, .slice sa sn sc] W (RowRes W W.heap.size A)) := fun W hW => by
        rw [hA]
        exact actsOfRow_any ar m cr row sa sn sc set W (hrs.below hW) (by omega) (RX.out.below hW) hsn
      by_cases hk0 : k = 0
      · have hd0 : ((k : Int) == 0) = true := by simp [hk0]
        have HST : Hid (A = sureP (fun x => ofL steps x set) (C.take (k + 1))) := by
          unfold Hid
          rw [List.take_succ_eq_append_getElem hkx, ← hx, hk0, List.take_zero, List.nil_append, sureP_one, hA, HAE.out]
        clear hrow d0 hm hcell hA hrs hx hk0
        go_wp2_with fail
        refine (CA.out _ hnx).mono ?_
        rintro e w2 ⟨v2, rfl, ho2, hb2⟩
        have HO2 := Lib.hid (ho2.mono (base := w.heap.size) hnx.size)
        have B2 := Lib.hid (hnx.trans (hb2.mono hnx.size))
        clear ho2 hb2 g0
        go_wp2_with fail
        go_roundw
        case rel => exact ⟨k + 1, A.length, v2, A, by omega, by go_num, rfl, HO2.out, HST.out, B2.out⟩
        case measure => simp [intOf]; omega
      · have hd0 : ((k : Int) == 0) = false := by simp; omega
        have HST : Hid (meetOf T A = sureP (fun x => ofL steps x set) (C.take (k + 1))) := by
          unfold Hid
          rw [List.take_succ_eq_append_getElem hkx, ← hx, sureP_snoc _ _ _ (fun e => by
            rcases List.take_eq_nil_iff.1 e with h | h
            · exact hk0 h
            · rw [h] at hkx; simp at hkx), ← HT.out, hA, HAE.out]
        clear hrow d0 hm hcell hA hrs hx hk0
        obtain ⟨av, cv, rfl⟩ := HO.out.form
        go_wp2_with fail
        refine (CA.out _ hnx).mono ?_
        rintro e w2 ⟨v2, rfl, ho2, hb2⟩
        obtain ⟨ax, cx, rfl⟩ := ho2.form
        have HA2 := Lib.hid ho2.row.2.2.2
        have HO2 := Lib.hid (HO.out.below hb2).row.2.2.2
        have B2 := Lib.hid (hnx.trans (hb2.mono hnx.size))
        clear ho2 hb2 g0
        go_wp2_with fail
        refine (implSetMeet_any _ _ _ _ _ _ T A _ HO2.out HA2.out (by omega) (by omega)).mono ?_
        rintro e w3 ⟨v3, rfl, ho3, hb3⟩
        have HO3 := Lib.hid (ho3.mono (base := w.heap.size) B2.out.size)
        have B3 := Lib.hid (B2.out.trans (hb3.mono B2.out.size))
        clear ho3 hb3
        go_wp2_with fail
        go_roundw
        case rel => exact ⟨k + 1, (meetOf T A).length, v3, meetOf T A, by omega, by go_num, rfl, HO3.out, HST.out, B3.out⟩
        case measure => simp [intOf]; omega
    · have HE : Hid (T = L) := by
        have := HT.out
        rw [List.take_of_length_le (by rw [← HN.out]; omega)] at this
        rw [HL.out]
        exact this
      obtain ⟨av, cv, rfl⟩ := HO.out.form
      go_wp2_with fail
      go_ret
      have e := HO.out.length
      rw [← HE.out]
      subst e
      exact ⟨_, rfl, HO.out, hnx⟩

set_option maxRecDepth 20000 in
set_option maxHeartbeats 3200000 in
theorem actsOfSome_any (a : IaD) (ad : Option Addr) (n c : Nat) (C : List Int) (sa : Option Addr) (sn sc : Nat) (set : List Int) (w : World) (hr : RowRows w ad n (C.map (rowL a.steps))) (hn40 : n ≤ 40) (hok : C ≠ [] → iaOkB a = true) (rset : Row w sa sn set) (hsn : sn ≤ 1048576) :
    Calls Tryz.prog 75 #[.slice ad n c, .slice sa sn sc] w (RowRes w w.heap.size ((C).foldl (fun o x => joinOf o (ofL a.steps x set)) [])) := by
  obtain ⟨st, it, ins, outs, hids, steps⟩ := a
  simp only at hr ⊢
  have HR := Lib.hid hr
  have HOK := Lib.hid hok
  have HN : Hid (n = C.length) := by have := hr.1; rw [List.length_map] at this; exact this.symm
  have RX := Lib.hid rset
  have E1 := Lib.hid rset.1
  clear hr hok rset
  obtain ⟨L, hL⟩ : ∃ L, L = (C).foldl (fun o x => joinOf o (ofL steps x set)) [] := ⟨_, rfl⟩
  rw [← hL]
  have HL := Lib.hid hL
  clear hL
  go_enter Tryz.func75, Tryz.ntmps75
  go_wp2_with fail
  go_loopw [5, 10] (fun v i wr => ∃ (k len : Nat) (v0 : Value) (T : List Int), k ≤ n ∧ i = .int .i64 k ∧ v0 = v ∧ Hid (Owns wr w.heap.size v0 len T) ∧ Hid (T = ((C.take k)).foldl (fun o x => joinOf o (ofL steps x set)) []) ∧ Below w.heap.size w wr) (fun _ i _ => n - (intOf i).toNat)
  case atStart => exact ⟨0, 0, _, [], Nat.zero_le _, rfl, rfl, World.ownsRow_nil _ _ _ _, rfl, Below.refl _ _⟩
  case round =>
    obtain ⟨k, len, v0, T, hk, rfl, rfl, HO, HT, hnx⟩ := hrel
    have hlen : len ≤ 1048576 := by
      have h1 := sayN_len steps set (C.take k)
      rw [← HT.out, HO.out.length, E1.out] at h1
      omega
    by_cases hlt : k < n
    · obtain ⟨b, off, rfl, hb, hcell⟩ := HR.out.2 (by omega)
      have hkx : k < C.length := by rw [← HN.out]; exact hlt
      have hok := HOK.out (fun e => by rw [e] at hkx; simp at hkx)
      obtain ⟨x, hx⟩ : ∃ x, x = C[k] := ⟨_, rfl⟩
      obtain ⟨row, hrow⟩ : ∃ r, r = rowL steps x := ⟨_, rfl⟩
      obtain ⟨ar, cr, d0, hrs⟩ := hcell k row (by rw [List.getElem?_map, List.getElem?_eq_getElem hkx, ← hx, hrow]; rfl)
      obtain ⟨m, hm⟩ : ∃ m, m = row.length := ⟨_, rfl⟩
      rw [← hm] at d0 hrs
      have hml : m ≤ 400 := by
        have h1 := rowL_len steps x
        have h2 := iaOk_len hok
        rw [hm, hrow]
        exact Nat.le_trans h1 h2
      have g0 : wr.cell? ⟨b, off + k, none⟩ = some (.slice ar m cr) := (hnx.cell (p := ⟨b, off + k, none⟩) hb).trans d0
      obtain ⟨A, hA⟩ : ∃ A, A = Lib.compact (actsR row set) := ⟨_, rfl⟩
      have HAE : Hid (Lib.compact (actsR row set) = ofL steps x set) := by
        unfold Hid
        rw [hrow]
        exact actsR_eq hok x set
      have hAl : A.length ≤ 400 := by
        have h1 := ofN_len steps x set
        have h2 := iaOk_len hok
        rw [hA, HAE.out]
        exact Nat.le_trans h1 h2
      have CA : Hid (∀ W, Below w.heap.size w W → Calls Tryz.prog 102 #[.slice ar m cr, .slice sa sn sc] W (RowRes W W.heap.size A)) := fun W hW => by
        rw [hA]
        exact actsOfRow_any ar m cr row sa sn sc set W (hrs.below hW) (by omega) (RX.out.below hW) hsn
      have HST : Hid (joinOf T A = ((C.take (k + 1))).foldl (fun o x => joinOf o (ofL steps x set)) []) := by
        unfold Hid
        rw [List.take_succ_eq_append_getElem hkx, ← hx, List.foldl_append, ← HT.out, hA, HAE.out]
        rfl
      clear hrow d0 hm hcell hA hrs hx
      obtain ⟨av, cv, rfl⟩ := HO.out.form
      go_wp2_with fail
      refine (CA.out _ hnx).mono ?_
      rintro e w2 ⟨v2, rfl, ho2, hb2⟩
      obtain ⟨ax, cx, rfl⟩ := ho2.form
      have HA2 := Lib.hid ho2.row.2.2.2
      have HO2 := Lib.hid (HO.out.below hb2).row.2.2.2
      have B2 := Lib.hid (hnx.trans (hb2.mono hnx.size))
      clear ho2 hb2 g0
      go_wp2_with fail
      refine (implSetJoin_any _ _ _ _ _ _ T A _ HO2.out HA2.out (by omega) (by omega)).mono ?_
      rintro e w3 ⟨v3, rfl, ho3, hb3⟩
      have HO3 := Lib.hid (ho3.mono (base := w.heap.size) B2.out.size)
      have B3 := Lib.hid (B2.out.trans (hb3.mono B2.out.size))
      clear ho3 hb3
      go_wp2_with fail
      go_roundw
      case rel => exact ⟨k + 1, (joinOf T A).length, v3, joinOf T A, by omega, by go_num, rfl, HO3.out, HST.out, B3.out⟩
      case measure => simp [intOf]; omega
    · have HE : Hid (T = L) := by
        have := HT.out
        rw [List.take_of_length_le (by rw [← HN.out]; omega)] at this
        rw [HL.out]
        exact this
      obtain ⟨av, cv, rfl⟩ := HO.out.form
      go_wp2_with fail
      go_ret
      have e := HO.out.length
      rw [← HE.out]
      subst e
      exact ⟨_, rfl, HO.out, hnx⟩

theorem far_if1 (a : IaD) (s act : Int) : ris (((runIf a [s]).map (rowL a.steps)).flatMap fun r => afterR r act) = if iaOkB a && stateB a s then farOf a s act else [] := by
  rw [runIf_one, tos_map, far_if]

theorem sure_if1 (a : IaD) (s : Int) : sureP (fun x => ofL a.steps x a.ins) (runIf a [s]) = if iaOkB a && stateB a s then sureOf a s else [] := by
  rw [runIf_one, sure_if]

theorem say_if1 (a : IaD) (s : Int) : (runIf a [s]).foldl (fun o x => joinOf o (ofL a.steps x a.outs)) [] = if iaOkB a && stateB a s then sayOf a s else [] := by
  rw [runIf_one, say_if]

end Go.Proofs.YtdbgjgeglgipiaaGreat
