import Derived.Test.YtnglogkkkpegnaaGreatPairMap
import Derived.Test.YtnglogkkkpegnaaGreatFast
import Derived.Test.YtnglogkkkpegnaaGreatPairRows
import Derived.Test.YtnglogkkkpegnaaGreatClashList
import Derived.Test.YtnglogkkkpegnaaGreatTwo
import Derived.Test.YtnglogkkkpegnaaGreatProdDef
import Derived.Test.YtnglogkkkpegnaaGreatClashing
import Derived.Test.YtnglogkkkpegnaaGreatBase
import Derived.ArgAppend
import Derived.Test.YtnglogkkkpegnaaGreatJoin2
import Derived.Maps.AppendAt
import Derived.Test.YtnglogkkkpegnaaGreatProdSteps
import Derived.Test.YtnglogkkkpegnaaGreatIaOwn
import Derived.Test.YtnglogkkkpegnaaGreatClashMath
import Derived.Test.YtnglogkkkpegnaaGreatShared
import Derived.Test.YtnglogkkkpegnaaGreatRowOf
import Derived.Test.YtnglogkkkpegnaaGreatIaMath
import Derived.Test.YtnglogkkkpegnaaGreatIaLaw
import Derived.Test.YtnglogkkkpegnaaGreatSpecIaOk
import Derived.Test.YtnglogkkkpegnaaGreatReachMath
import Derived.Test.YtnglogkkkpegnaaGreatSpecHas
/-
  Contracts of the library's Index and Contains over a row of pairs. Conditions: at most 2^40 pairs.
-/
namespace Go.Proofs.YtnglogkkkpegnaaGreat
open Go.RowKit

set_option maxRecDepth 20000 in
set_option maxHeartbeats 3200000 in
theorem indexP_any (a : Option Addr) (n c : Nat) (x0 x1 : Int) (xs : List Pr) (w : World) (h : RowP w a n xs) (hn : n ≤ 1099511627776) :
    Calls Tryz.prog 204 #[.slice a n c, .agg #[.int .i64 x0, .int .i64 x1]] w fun e w' => ∃ i : Int, e = .returned (.int .i64 i) ∧ (0 ≤ i ↔ (x0, x1) ∈ xs) ∧ Below w.heap.size w w' := by
  have HL := Lib.hid h.1
  have HR := Lib.hid h.2
  clear h
  have b0 : Hid (Below w.heap.size w (w.alloc (.cells #[.int .i64 x0, .int .i64 x1] 84))) := (Below.refl _ _).alloc (Nat.le_refl _) _
  have v0 : Hid (VarIs (w.alloc (.cells #[.int .i64 x0, .int .i64 x1] 84)) w.heap.size #[.int .i64 x0, .int .i64 x1] 84) := VarIs.new w _ _ rfl
  go_enter Tryz.func204, Tryz.ntmps204
  go_wp2_with fail
  go_loopw [8] (fun i wr => ∃ k : Nat, k ≤ n ∧ i = .int .i64 k ∧ Hid (¬ (x0, x1) ∈ xs.take k) ∧ Hid (Below w.heap.size w wr ∧ VarIs wr w.heap.size #[.int .i64 x0, .int .i64 x1] 84)) (fun i _ => n - (intOf i).toNat)
  case atStart => exact ⟨0, Nat.zero_le _, rfl, by unfold Hid; simp, ⟨b0.out, v0.out⟩⟩
  case round =>
    obtain ⟨k, hk, rfl, HT, HS⟩ := hrel
    clear b0 v0
    by_cases hlt : k < n
    · obtain ⟨b, off, rfl, hb, hcell⟩ := HR.out (by omega)
      have hkx : k < xs.length := by rw [HL.out]; exact hlt
      obtain ⟨⟨y0, y1⟩, hy⟩ : ∃ y, y = xs[k] := ⟨_, rfl⟩
      obtain ⟨c0, c1⟩ := hcell k xs[k] (List.getElem?_eq_getElem hkx)
      rw [← hy] at c0 c1
      simp only at c0 c1
      have HRG : Hid (∀ W, Below w.heap.size w W → W.rangeAt b (off + k * 2) [.int .i64 y0, .int .i64 y1]) := fun W hW j v hv => by
        match j, hv with
        | 0, hv =>
          simp at hv
          subst hv
          exact (hW.cell (p := ⟨b, off + k * 2, none⟩) hb).trans c0
        | 1, hv =>
          simp at hv
          subst hv
          exact (hW.cell (p := ⟨b, off + k * 2 + 1, none⟩) hb).trans c1
        | j + 2, hv => simp at hv
      have HY := Lib.hid hy
      clear hcell c0 c1 hy
      by_cases he : x0 = y0 ∧ x1 = y1
      · have HIN : Hid ((x0, x1) ∈ xs) := by
          unfold Hid
          rw [he.1, he.2, HY.out]
          exact List.getElem_mem hkx
        obtain ⟨rfl, rfl⟩ := he
        go_wp2_with fail
        have SD : Below w.heap.size w wr.drew ∧ VarIs wr.drew w.heap.size #[.int .i64 x0, .int .i64 x1] 84 := ⟨HS.out.1.drew, HS.out.2⟩
        refine wp_region_tf (S := fun w' => Below w.heap.size w w' ∧ VarIs w' w.heap.size #[.int .i64 x0, .int .i64 x1] 84) 6 (by kernel_rfl) (by kernel_rfl) (by kernel_rfl) SD (fun hHeld => ?_)
        refine fast_yields 0 11 (.agg #[.int .i64 x0, .int .i64 x1]) (fuel := 5) rfl rfl (by kernel_rfl) (by kernel_rfl) (by kernel_rfl) (fun _ _ _ h => h) (yieldsIf_load_mid (by rfl) _ _ rfl (w.heap.size) 0 rfl #[.int .i64 x0, .int .i64 x1].toList _ (fun w hw => hw.2.range) Tryz.underlying84 rfl (by kernel_rfl)) hHeld (tf 1 6) (by kernel_rfl) (fun K hK => ?_)
        go_big_move
        refine hK.out _ ?_
        clear hK K
        refine fast_move 1 12 (.slice (some ⟨b, off, none⟩) n c) (.tmp 0) (fuel := 4) rfl rfl (by kernel_rfl) (by kernel_rfl) (by kernel_rfl) (fun _ _ _ h => h) (by kernel_rfl) (by kernel_rfl) (by first | exact Or.inl rfl | exact Or.inr rfl) hHeld (tf 3 6) (by kernel_rfl) (fun K hK => ?_)
        go_big_move
        refine hK.out _ ?_
        clear hK K
        refine fast_move 2 13 (.int .i64 (k : Int)) (.tmp 5) (fuel := 3) rfl rfl (by kernel_rfl) (by kernel_rfl) (by kernel_rfl) (fun _ _ _ h => h) (by kernel_rfl) (by kernel_rfl) (by first | exact Or.inl rfl | exact Or.inr rfl) hHeld (tf 7 6) (by kernel_rfl) (fun K hK => ?_)
        go_big_move
        refine hK.out _ ?_
        clear hK K
        refine fast2 3 14 (.pointer (some ⟨b, off + k * 2, none⟩)) (.tmp 12) (.slice (some ⟨b, off, none⟩) n c) (.tmp 13) (.int .i64 (k : Int)) (fuel := 2) rfl rfl (by kernel_rfl) (by kernel_rfl) (by kernel_rfl) (fun _ _ _ h => h) (by kernel_rfl) (by kernel_rfl) (by kernel_rfl) (fun ρ hr0 hr1 _ w hSw => by have h1 : (0 : Int) ≤ (k : Int) := (by omega); have h2 : (k : Int) < (n : Int) := (by omega); simp [go_sem, hr0, hr1, h1, h2]) hHeld (tf 15 6) (by kernel_rfl) (fun K hK => ?_)
        go_big_move
        refine hK.out _ ?_
        clear hK K
        refine fast_yields 4 15 (.agg #[.int .i64 x0, .int .i64 x1]) (fuel := 1) rfl rfl (by kernel_rfl) (by kernel_rfl) (by kernel_rfl) (fun _ _ _ h => h) (yieldsIf_load_mid (by rfl) _ _ rfl (b) (off + k * 2) rfl [.int .i64 x0, .int .i64 x1] _ (fun w hw => HRG.out w hw.1) Tryz.underlying84 rfl (by kernel_rfl)) hHeld (tf 31 6) (by kernel_rfl) (fun K hK => ?_)
        go_big_move
        refine hK.out _ ?_
        clear hK K
        refine fast2 5 16 (.bool true) (.tmp 11) (.agg #[.int .i64 x0, .int .i64 x1]) (.tmp 15) (.agg #[.int .i64 x0, .int .i64 x1]) (fuel := 0) rfl rfl (by kernel_rfl) (by kernel_rfl) (by kernel_rfl) (fun _ _ _ h => h) (by kernel_rfl) (by kernel_rfl) (by kernel_rfl) (fun ρ hr0 hr1 _ w hSw => by simp [go_sem, hr0, hr1]) hHeld (tf 63 6) (by kernel_rfl) (fun K hK => ?_)
        go_big_move
        refine hK.out _ ?_
        clear hK K
        refine wpAnyH_done (by kernel_rfl) ?_ _
        go_wp2_with fail
        go_ret
        exact ⟨_, rfl, ⟨fun _ => HIN.out, fun _ => by omega⟩, hHeld.1⟩
      · have HEQ : Hid (x0 = y0 → ¬ x1 = y1) := fun e1 e2 => he ⟨e1, e2⟩
        have HT2 : Hid (¬ (x0, x1) ∈ xs.take (k + 1)) := by
          unfold Hid
          rw [List.take_succ_eq_append_getElem hkx, ← HY.out]
          simp only [List.mem_append, List.mem_singleton, Prod.mk.injEq, not_or]
          exact ⟨HT.out, he⟩
        clear he
        go_wp2_with fail
        have SD : Below w.heap.size w wr.drew ∧ VarIs wr.drew w.heap.size #[.int .i64 x0, .int .i64 x1] 84 := ⟨HS.out.1.drew, HS.out.2⟩
        refine wp_region_tf (S := fun w' => Below w.heap.size w w' ∧ VarIs w' w.heap.size #[.int .i64 x0, .int .i64 x1] 84) 6 (by kernel_rfl) (by kernel_rfl) (by kernel_rfl) SD (fun hHeld => ?_)
        refine fast_yields 0 11 (.agg #[.int .i64 x0, .int .i64 x1]) (fuel := 5) rfl rfl (by kernel_rfl) (by kernel_rfl) (by kernel_rfl) (fun _ _ _ h => h) (yieldsIf_load_mid (by rfl) _ _ rfl (w.heap.size) 0 rfl #[.int .i64 x0, .int .i64 x1].toList _ (fun w hw => hw.2.range) Tryz.underlying84 rfl (by kernel_rfl)) hHeld (tf 1 6) (by kernel_rfl) (fun K hK => ?_)
        go_big_move
        refine hK.out _ ?_
        clear hK K
        refine fast_move 1 12 (.slice (some ⟨b, off, none⟩) n c) (.tmp 0) (fuel := 4) rfl rfl (by kernel_rfl) (by kernel_rfl) (by kernel_rfl) (fun _ _ _ h => h) (by kernel_rfl) (by kernel_rfl) (by first | exact Or.inl rfl | exact Or.inr rfl) hHeld (tf 3 6) (by kernel_rfl) (fun K hK => ?_)
        go_big_move
        refine hK.out _ ?_
        clear hK K
        refine fast_move 2 13 (.int .i64 (k : Int)) (.tmp 5) (fuel := 3) rfl rfl (by kernel_rfl) (by kernel_rfl) (by kernel_rfl) (fun _ _ _ h => h) (by kernel_rfl) (by kernel_rfl) (by first | exact Or.inl rfl | exact Or.inr rfl) hHeld (tf 7 6) (by kernel_rfl) (fun K hK => ?_)
        go_big_move
        refine hK.out _ ?_
        clear hK K
        refine fast2 3 14 (.pointer (some ⟨b, off + k * 2, none⟩)) (.tmp 12) (.slice (some ⟨b, off, none⟩) n c) (.tmp 13) (.int .i64 (k : Int)) (fuel := 2) rfl rfl (by kernel_rfl) (by kernel_rfl) (by kernel_rfl) (fun _ _ _ h => h) (by kernel_rfl) (by kernel_rfl) (by kernel_rfl) (fun ρ hr0 hr1 _ w hSw => by have h1 : (0 : Int) ≤ (k : Int) := (by omega); have h2 : (k : Int) < (n : Int) := (by omega); simp [go_sem, hr0, hr1, h1, h2]) hHeld (tf 15 6) (by kernel_rfl) (fun K hK => ?_)
        go_big_move
        refine hK.out _ ?_
        clear hK K
        refine fast_yields 4 15 (.agg #[.int .i64 y0, .int .i64 y1]) (fuel := 1) rfl rfl (by kernel_rfl) (by kernel_rfl) (by kernel_rfl) (fun _ _ _ h => h) (yieldsIf_load_mid (by rfl) _ _ rfl (b) (off + k * 2) rfl [.int .i64 y0, .int .i64 y1] _ (fun w hw => HRG.out w hw.1) Tryz.underlying84 rfl (by kernel_rfl)) hHeld (tf 31 6) (by kernel_rfl) (fun K hK => ?_)
        go_big_move
        refine hK.out _ ?_
        clear hK K
        refine fast2 5 16 (.bool false) (.tmp 11) (.agg #[.int .i64 x0, .int .i64 x1]) (.tmp 15) (.agg #[.int .i64 y0, .int .i64 y1]) (fuel := 0) rfl rfl (by kernel_rfl) (by kernel_rfl) (by kernel_rfl) (fun _ _ _ h => h) (by kernel_rfl) (by kernel_rfl) (by kernel_rfl) (fun ρ hr0 hr1 _ w hSw => by simp [go_sem, hr0, hr1]; intro e1 e2; exact absurd e2 (HEQ.out e1)) hHeld (tf 63 6) (by kernel_rfl) (fun K hK => ?_)
        go_big_move
        refine hK.out _ ?_
        clear hK K
        refine wpAnyH_done (by kernel_rfl) ?_ _
        have HS2 := Lib.hid hHeld
        clear hHeld SD HS HT
        go_wp2_with fail
        go_roundw
        case rel => exact ⟨k + 1, by omega, by go_num, HT2.out, HS2.out⟩
        case measure => simp [intOf]; omega
    · have HN : Hid (¬ (x0, x1) ∈ xs) := by
        have := HT.out
        rw [List.take_of_length_le (by rw [HL.out]; omega)] at this
        exact this
      go_wp2_with fail
      go_ret
      exact ⟨-1, rfl, ⟨fun h => by omega, fun h => (HN.out h).elim⟩, HS.out.1⟩

set_option maxRecDepth 20000 in
set_option maxHeartbeats 3200000 in
theorem containsP_any (a : Option Addr) (n c : Nat) (x0 x1 : Int) (xs : List Pr) (w : World) (h : RowP w a n xs) (hn : n ≤ 1099511627776) :
    Calls Tryz.prog 194 #[.slice a n c, .agg #[.int .i64 x0, .int .i64 x1]] w fun e w' => e = .returned (.bool (decide ((x0, x1) ∈ xs))) ∧ Below w.heap.size w w' := by
  have HX := Lib.hid h
  clear h
  have b0 : Hid (Below w.heap.size w (w.alloc (.cells #[.int .i64 x0, .int .i64 x1] 84))) := (Below.refl _ _).alloc (Nat.le_refl _) _
  have v0 : Hid (VarIs (w.alloc (.cells #[.int .i64 x0, .int .i64 x1] 84)) w.heap.size #[.int .i64 x0, .int .i64 x1] 84) := VarIs.new w _ _ rfl
  obtain ⟨q, hq⟩ : ∃ q, q = decide ((x0, x1) ∈ xs) := ⟨_, rfl⟩
  rw [← hq]
  have HQ := Lib.hid hq
  clear hq
  have c0 := v0.out.cell (j := 0) rfl
  have c1 := v0.out.cell (j := 1) rfl
  go_enter Tryz.func194, Tryz.ntmps194
  go_wp2_with fail
  clear c0 c1
  refine (indexP_any a n c x0 x1 xs _ (HX.out.below b0.out) hn).mono ?_
  rintro e w1 ⟨i, rfl, hi, hb⟩
  have HB : Hid (Below w.heap.size w w1) := b0.out.trans (hb.mono b0.out.size)
  have HI : Hid (decide (0 ≤ i) = q) := by
    unfold Hid
    rw [HQ.out, decide_eq_decide]
    exact hi
  clear hi hb b0 v0 HX
  go_wp2_with fail
  go_ret
  exact ⟨ret_bool (by rw [← HI.out]), HB.out⟩

end Go.Proofs.YtnglogkkkpegnaaGreat

/-
  Contracts of the program's addNew and comeTo at pairs, and of the look-up that badPairs hands on: which pairs may be come to. Conditions: as each statement says.
-/
namespace Go.Proofs.YtnglogkkkpegnaaGreat
open Go.RowKit

/-- 'x' may be come to from one of 'L' by what 'nx' leads to. -/
inductive ComeP (nx : Pr → List Pr) (L : List Pr) : Pr → Prop
  | start (x : Pr) (h : x ∈ L) : ComeP nx L x
  | step (x y : Pr) (h : ComeP nx L x) (hy : y ∈ nx x) : ComeP nx L y

def addOneP (F : List Pr) (x : Pr) : List Pr := if decide (x ∈ F) then F else F ++ [x]
def addLP (F L : List Pr) : List Pr := L.foldl addOneP F

theorem addLP_snoc (F L : List Pr) (x : Pr) : addLP F (L ++ [x]) = addOneP (addLP F L) x := by simp [addLP]

theorem addOneP_nodup {F : List Pr} {x : Pr} (h : F.Nodup) : (addOneP F x).Nodup := by
  unfold addOneP
  split
  · exact h
  · rename_i hx
    have hx' : ¬ x ∈ F := by simpa using hx
    refine List.nodup_append.2 ⟨h, by simp, fun a ha b hb e => ?_⟩
    simp only [List.mem_singleton] at hb
    subst hb
    subst e
    exact hx' ha

theorem mem_addOneP {F : List Pr} {x y : Pr} : y ∈ addOneP F x ↔ y ∈ F ∨ y = x := by
  unfold addOneP
  split
  · rename_i hx
    have hx' : x ∈ F := by simpa using hx
    exact ⟨.inl, fun h => by
      rcases h with h | rfl
      · exact h
      · exact hx'⟩
  · simp

theorem addLP_nodup : ∀ {L F : List Pr}, F.Nodup → (addLP F L).Nodup
  | [], _, h => h
  | _ :: r, _, h => addLP_nodup (L := r) (addOneP_nodup h)

theorem mem_addLP {y : Pr} : ∀ {L F : List Pr}, y ∈ addLP F L ↔ y ∈ F ∨ y ∈ L
  | [], F => by simp [addLP]
  | z :: r, F => by
    show y ∈ addLP (addOneP F z) r ↔ _
    rw [mem_addLP, mem_addOneP, List.mem_cons, or_assoc]

theorem addLP_more : ∀ (L F : List Pr), ∃ E, addLP F L = F ++ E
  | [], F => ⟨[], by simp [addLP]⟩
  | z :: r, F => by
    obtain ⟨E, hE⟩ := addLP_more r (addOneP F z)
    have h1 : addLP F (z :: r) = addLP (addOneP F z) r := rfl
    rw [h1, hE]
    unfold addOneP
    split
    · exact ⟨E, rfl⟩
    · exact ⟨z :: E, by simp⟩

/-- All that is found may be come to, nothing comes twice, and from the first 'k' places all is found. -/
def FoundP (nx : Pr → List Pr) (L F : List Pr) (k : Nat) : Prop :=
  F.Nodup ∧ (∀ x ∈ L, x ∈ F) ∧ (∀ y ∈ F, ComeP nx L y) ∧ ∀ j, j < k → ∀ s, F[j]? = some s → ∀ x ∈ nx s, x ∈ F

theorem FoundP.start (nx : Pr → List Pr) (L : List Pr) : FoundP nx L (addLP [] L) 0 :=
  ⟨addLP_nodup List.nodup_nil, fun x hx => mem_addLP.2 (Or.inr hx), fun y hy => .start y (by simpa using mem_addLP.1 hy), fun j hj => absurd hj (by omega)⟩

theorem FoundP.next {nx : Pr → List Pr} {L F : List Pr} {k : Nat} {s : Pr} (h : FoundP nx L F k) (hs : F[k]? = some s) : FoundP nx L (addLP F (nx s)) (k + 1) := by
  obtain ⟨h1, h2, h3, h4⟩ := h
  have hsm : s ∈ F := List.mem_of_getElem? hs
  refine ⟨addLP_nodup h1, fun x hx => mem_addLP.2 (Or.inl (h2 x hx)), fun y hy => ?_, fun j hj s' hs' x hx => ?_⟩
  · rcases mem_addLP.1 hy with hy | hy
    · exact h3 y hy
    · exact .step s y (h3 s hsm) hy
  · obtain ⟨E, hE⟩ := addLP_more (nx s) F
    have hlt : k < F.length := (List.getElem?_eq_some_iff.1 hs).1
    rw [hE, List.getElem?_append_left (by omega)] at hs'
    by_cases e : j = k
    · subst e
      rw [hs] at hs'
      cases hs'
      exact mem_addLP.2 (Or.inr hx)
    · exact mem_addLP.2 (Or.inl (h4 j (by omega) s' hs' x hx))

theorem FoundP.done {nx : Pr → List Pr} {L F : List Pr} (h : FoundP nx L F F.length) (x : Pr) : x ∈ F ↔ ComeP nx L x := by
  obtain ⟨h1, h2, h3, h4⟩ := h
  refine ⟨h3 x, fun hx => ?_⟩
  induction hx with
  | start x hx => exact h2 x hx
  | step x y _ hy ih =>
    obtain ⟨j, hj, e⟩ := List.getElem_of_mem ih
    exact h4 j hj x (by rw [List.getElem?_eq_getElem hj, e]) y hy

set_option maxRecDepth 20000 in
set_option maxHeartbeats 3200000 in
theorem addNewP_any (v : Value) (n base : Nat) (F : List Pr) (la : Option Addr) (ln lc : Nat) (L : List Pr) (w : World) (h : OwnsP w base v n F) (hn : n ≤ 1048576) (hl : RowP w la ln L) (hln : ln ≤ 1048576) (hlow : ∀ b off, la = some ⟨b, off, none⟩ → 0 < ln → b < base) (hbase : base ≤ w.heap.size) :
    Calls Tryz.prog 170 #[v, .slice la ln lc] w fun e w' => ∃ v', e = .returned v' ∧ OwnsP w' base v' (addLP F L).length (addLP F L) ∧ Below base w w' := by
  have HF0 := Lib.hid h
  have HLR := Lib.hid hl
  have HLW := Lib.hid hlow
  clear h hl hlow
  obtain ⟨R, hR⟩ : ∃ R, R = addLP F L := ⟨_, rfl⟩
  rw [← hR]
  have HR := Lib.hid hR
  clear hR
  go_enter Tryz.func170, Tryz.ntmps170
  go_wp2_with fail
  go_loopw [0, 9] (fun fd i wr => ∃ (k len : Nat) (v0 : Value) (T : List Pr), k ≤ ln ∧ i = .int .i64 k ∧ v0 = fd ∧ Hid (OwnsP wr base v0 len T) ∧ Hid (T = addLP F (L.take k)) ∧ len ≤ n + k ∧ Hid (Below base w wr)) (fun _ i _ => ln - (intOf i).toNat)
  case atStart => exact ⟨0, n, _, F, Nat.zero_le _, rfl, rfl, HF0.out, rfl, by omega, Below.refl _ _⟩
  case round =>
    obtain ⟨k, len, v0, T, hk, rfl, rfl, HO, HT, hlen, HB⟩ := hrel
    by_cases hlt : k < ln
    · obtain ⟨b, off, rfl, hb, hcell⟩ := HLR.out.2 (by omega)
      have hbb := HLW.out b off rfl (by omega)
      have hkx : k < L.length := by rw [HLR.out.1]; exact hlt
      obtain ⟨⟨x0, x1⟩, hx⟩ : ∃ x, x = L[k] := ⟨_, rfl⟩
      obtain ⟨c0, c1⟩ := hcell k L[k] (List.getElem?_eq_getElem hkx)
      rw [← hx] at c0 c1
      have g0 := (HB.out.cell (p := ⟨b, off + k * 2, none⟩) hbb).trans c0
      have g1 := (HB.out.cell (p := ⟨b, off + k * 2 + 1, none⟩) hbb).trans c1
      simp only at g0 g1
      obtain ⟨q, hq⟩ : ∃ q, q = decide ((x0, x1) ∈ T) := ⟨_, rfl⟩
      have HST : Hid (addLP F (L.take (k + 1)) = if q then T else T ++ [(x0, x1)]) := by
        unfold Hid
        rw [List.take_succ_eq_append_getElem hkx, ← hx, addLP_snoc, ← HT.out, hq]
        rfl
      obtain ⟨av, cv, rfl⟩ := HO.out.form
      have hbw := HB.out.size
      have bx : Hid (Below wr.heap.size wr (wr.alloc (.cells #[.int .i64 x0, .int .i64 x1] 84))) := (Below.refl _ _).alloc (Nat.le_refl _) _
      have CH : Hid (Calls Tryz.prog 194 #[.slice av len cv, .agg #[.int .i64 x0, .int .i64 x1]] (wr.alloc (.cells #[.int .i64 x0, .int .i64 x1] 84)) fun e w' => e = .returned (.bool q) ∧ Below (wr.alloc (.cells #[.int .i64 x0, .int .i64 x1] 84)).heap.size (wr.alloc (.cells #[.int .i64 x0, .int .i64 x1] 84)) w') := by
        unfold Hid
        rw [hq]
        exact containsP_any av len cv x0 x1 T _ (HO.out.row.2.2.2.below bx.out) (by omega)
      have X1 : Hid (VarIs (wr.alloc (.cells #[.int .i64 x0, .int .i64 x1] 84)) wr.heap.size #[.int .i64 x0, .int .i64 x1] 84) := VarIs.new wr _ _ rfl
      have B1 : Hid (Below base w (wr.alloc (.cells #[.int .i64 x0, .int .i64 x1] 84))) := HB.out.alloc (by omega) _
      have O1 := Lib.hid (HO.out.below bx.out)
      have i1 : (0 : Int) ≤ (k : Int) := by omega
      have i2 : (k : Int) < (ln : Int) := by omega
      have x0c := X1.out.cell (j := 0) (u := .int .i64 x0) rfl
      have x1c := X1.out.cell (j := 1) (u := .int .i64 x1) rfl
      clear hq hx hcell c0 c1 HO HB bx HT
      go_wp2_with fail
      clear g0 g1 x0c x1c
      refine CH.out.mono ?_
      rintro e w1 ⟨rfl, hb1⟩
      have hs1 := hb1.size
      simp at hs1
      have X2 := Lib.hid (X1.out.below hb1)
      have B2 := Lib.hid (B1.out.trans (hb1.mono (by simp; omega)))
      have O2 := Lib.hid (O1.out.below hb1)
      clear hb1 X1 B1 O1 CH
      cases q with
      | true =>
        have HST2 : Hid (T = addLP F (L.take (k + 1))) := HST.out.symm
        go_wp2_with fail
        go_roundw
        case rel => exact ⟨k + 1, len, _, T, by omega, by go_num, rfl, O2.out, HST2.out, by omega, B2.out⟩
        case measure => simp [intOf]; omega
      | false =>
        have HST2 : Hid (T ++ [(x0, x1)] = addLP F (L.take (k + 1))) := HST.out.symm
        have T1 := O2.out.alloc (.cells #[.int .i64 x0, .int .i64 x1] 84)
        have BT : Hid (Below base w (w1.alloc (.cells #[.int .i64 x0, .int .i64 x1] 84))) := B2.out.alloc (Nat.le_trans hbase B2.out.size) _
        have hbz := B2.out.size
        have SP : SrcP (w1.alloc (.cells #[.int .i64 x0, .int .i64 x1] 84)) ⟨w1.heap.size, 0, none⟩ (x0, x1) := srcP_new
        have x0c := X2.out.cell (j := 0) (u := .int .i64 x0) rfl
        have x1c := X2.out.cell (j := 1) (u := .int .i64 x1) rfl
        go_wp2_with (at_builtin; refine wpList_appP rfl (.tmp 17) (.tmp 19) rfl base _ len _ rfl T1 _ 1 (x0, x1) rfl SP (by omega) (by simp; omega) ?_)
        intro v2 w2 hown hgrow
        have B3 : Hid (Below base w w2) := BT.out.grown hgrow (Nat.le_trans hbase BT.out.size) (fun q hq => (T1.lt q hq).1)
        have O3 := Lib.hid hown
        clear hown hgrow T1 SP x0c x1c BT
        go_wp2_with fail
        go_roundw
        case rel => exact ⟨k + 1, len + 1, v2, T ++ [(x0, x1)], by omega, by go_num, rfl, O3.out, HST2.out, by omega, B3.out⟩
        case measure => simp [intOf]; omega
    · have HE : Hid (T = R) := by
        have := HT.out
        rw [List.take_of_length_le (by rw [HLR.out.1]; omega)] at this
        rw [HR.out]
        exact this
      go_wp2_with fail
      go_ret
      have e := HO.out.length
      rw [← HE.out]
      subst e
      exact ⟨_, rfl, HO.out, HB.out⟩

/-- Pairs of small numbers, none twice. -/
theorem nodup_lowP {F : List Pr} (hn : F.Nodup) (hl : ∀ y ∈ F, (0 ≤ y.1 ∧ y.1 < 40) ∧ (0 ≤ y.2 ∧ y.2 < 40)) : F.length ≤ 1600 := by
  have h1 : (F.map fun y => y.1 * 40 + y.2).Nodup := by
    rw [List.nodup_iff_pairwise_ne, List.pairwise_map]
    refine (List.Pairwise.and_mem.1 (List.nodup_iff_pairwise_ne.1 hn)).imp ?_
    intro x y ⟨hx, hy, hne⟩ e
    obtain ⟨a1, a2⟩ := hl x hx
    obtain ⟨b1, b2⟩ := hl y hy
    exact hne (Prod.ext (by omega) (by omega))
  have h2 := h1.length_le_of_subset (l₂ := (List.range 1600).map fun i : Nat => (i : Int)) (fun z hz => by
    obtain ⟨y, hy, rfl⟩ := List.mem_map.1 hz
    obtain ⟨a1, a2⟩ := hl y hy
    exact List.mem_map.2 ⟨(y.1 * 40 + y.2).toNat, List.mem_range.2 (by omega), by omega⟩)
  simpa using h2

set_option maxRecDepth 20000 in
set_option maxHeartbeats 1600000 in
theorem beforeAtB_any (p q : Int) (bx M n base : Nat) (B : Int → Int → List Pr) (w0 w : World) (hw : Below w0.heap.size w0 w) (hv : VarIs w0 bx #[.map (some M)] 139) (hq : MapQ w0 M n base B) (wp : (Lit.int .i64 p).wf = true) (wq : (Lit.int .i64 q).wf = true) :
    Calls Tryz.prog 124 #[.agg #[.int .i64 p, .int .i64 q], .pointer (some ⟨bx, 0, none⟩)] w fun e w' => ∃ v, e = .returned v ∧ OwnsP w' base v (B p q).length (B p q) ∧ Below w.heap.size w w' ∧ ∀ k, v.ownBlock = some k → k < w0.heap.size := by
  have bb : Below w.heap.size w (w.alloc (.cells #[.int .i64 p, .int .i64 q] 84)) := (Below.refl _ _).alloc (Nat.le_refl _) _
  have hz : ∀ k, k < w0.heap.size → k < w.heap.size := fun k h => Nat.lt_of_lt_of_le h hw.size
  obtain ⟨v, hlk, ho, hlo⟩ := (hq.lookAt hw bb) Tryz.underlying139 wp wq
  have g0 := ((hv.below hw).below bb).cell (j := 0) (u := .map (some M)) rfl
  have X1 := VarIs.new w #[.int .i64 p, .int .i64 q] 84 rfl
  have x0 := X1.cell (j := 0) (u := .int .i64 p) rfl
  have x1 := X1.cell (j := 1) (u := .int .i64 q) rfl
  have HO := Lib.hid ho
  have HLO := Lib.hid hlo
  have BB := Lib.hid bb
  clear hv hq wp wq X1 ho bb hlo hz hw
  go_enter Tryz.func124, Tryz.ntmps124
  go_wp2_with fail
  go_ret
  exact ⟨_, rfl, HO.out, BB.out, HLO.out⟩

set_option maxRecDepth 20000 in
set_option maxHeartbeats 3200000 in
theorem comeToP_any (fa : Option Addr) (fn fc : Nat) (L : List Pr) (bx M n base : Nat) (B : Int → Int → List Pr) (w : World) (rf : RowP w fa fn L) (hfn : fn ≤ 1048576) (hv : VarIs w bx #[.map (some M)] 139) (hq : MapQ w M n base B)
    (low : ∀ y, ComeP (fun x => B x.1 x.2) L y → (0 ≤ y.1 ∧ y.1 < 40) ∧ (0 ≤ y.2 ∧ y.2 < 40)) (hB : ∀ p q, (B p q).length ≤ 1000000) :
    Calls Tryz.prog 122 #[.slice fa fn fc, .func (.func 124) #[] #[.pointer (some ⟨bx, 0, none⟩)]] w fun e w' => ∃ v n F, e = .returned v ∧ OwnsP w' w.heap.size v n F ∧ n ≤ 1600 ∧ FoundP (fun x => B x.1 x.2) L F F.length ∧ Below w.heap.size w w' := by
  have HRF := Lib.hid rf
  have HV := Lib.hid hv
  have HQ := Lib.hid hq
  have HLOW := Lib.hid low
  have HBL := Lib.hid hB
  clear rf hv hq low hB
  obtain ⟨nx, hnx⟩ : ∃ f : Pr → List Pr, f = fun x => B x.1 x.2 := ⟨_, rfl⟩
  have HNX : Hid (∀ p q, nx (p, q) = B p q) := fun p q => by rw [hnx]
  rw [← hnx] at HLOW ⊢
  clear hnx
  go_enter Tryz.func122, Tryz.ntmps122
  go_wp2_with fail
  refine (addNewP_any (.slice none 0 0) 0 w.heap.size [] fa fn fc L _ (World.ownsRow_nil _ _ _ _) (by omega) HRF.out hfn (fun b off e h0 => by
    obtain ⟨b', off', e', hb', _⟩ := HRF.out.2 h0
    rw [e'] at e
    cases e
    exact hb') (Nat.le_refl _)).mono ?_
  rintro e w1 ⟨v1, rfl, ho, hb⟩
  have HO1 := Lib.hid ho
  have HB1 := Lib.hid hb
  clear ho hb
  go_wp2_with fail
  go_loopw [5, 6] (fun fd i wr => ∃ (k len : Nat) (v0 : Value) (F : List Pr), i = .int .i64 k ∧ v0 = fd ∧ k ≤ len ∧ Hid (OwnsP wr w.heap.size v0 len F) ∧ Hid (FoundP nx L F k) ∧ Hid (Below w.heap.size w wr)) (fun _ i _ => 1600 - (intOf i).toNat)
  case atStart => exact ⟨0, _, _, addLP [] L, rfl, rfl, Nat.zero_le _, HO1.out, FoundP.start nx L, HB1.out⟩
  case round =>
    obtain ⟨k, len, v0, F, rfl, rfl, hk, HO, HF, HN⟩ := hrel
    clear HO1 HB1
    have hl40 : len ≤ 1600 := by
      have := nodup_lowP HF.out.1 (fun y hy => HLOW.out y (HF.out.2.2.1 y hy))
      rw [HO.out.length] at this
      exact this
    by_cases hlt : k < len
    · obtain ⟨av, cv, rfl⟩ := HO.out.form
      obtain ⟨g, rfl⟩ : ∃ g, av = some ⟨g, 0, none⟩ := by
        rcases HO.out.2 with ⟨e, h0⟩ | ⟨g, cap, cur, e, _⟩
        · omega
        · simp only [Value.slice.injEq] at e
          exact ⟨g, e.1⟩
      have hkF : k < F.length := by rw [HO.out.length]; exact hlt
      obtain ⟨⟨x0, x1⟩, hx⟩ : ∃ x, x = F[k] := ⟨_, rfl⟩
      obtain ⟨l0, l1⟩ := HLOW.out (x0, x1) (by rw [hx]; exact HF.out.2.2.1 _ (List.getElem_mem hkF))
      simp only at l0 l1
      obtain ⟨c0, c1⟩ := HO.out.cells.2 k F[k] (List.getElem?_eq_getElem hkF)
      rw [← hx] at c0 c1
      simp only at c0 c1
      have HFK : Hid (FoundP nx L (addLP F (nx (x0, x1))) (k + 1)) := HF.out.next (by rw [List.getElem?_eq_getElem hkF, ← hx])
      obtain ⟨row, hrow⟩ : ∃ r, r = nx (x0, x1) := ⟨_, rfl⟩
      have hrB : row = B x0 x1 := by rw [hrow, HNX.out]
      have hrl : row.length ≤ 1000000 := by rw [hrB]; exact HBL.out x0 x1
      rw [← hrow] at HFK
      have CF : Hid (Calls Tryz.prog 124 #[.agg #[.int .i64 x0, .int .i64 x1], .pointer (some ⟨bx, 0, none⟩)] wr fun e w' => ∃ v, e = .returned v ∧ OwnsP w' base v row.length row ∧ Below wr.heap.size wr w' ∧ ∀ k, v.ownBlock = some k → k < w.heap.size) := by
        unfold Hid
        rw [hrB]
        exact beforeAtB_any x0 x1 bx M n base B w wr HN.out HV.out HQ.out (wf_low (by omega) (by omega)) (wf_low (by omega) (by omega))
      obtain ⟨F2, hF2⟩ : ∃ F2, F2 = addLP F row := ⟨_, rfl⟩
      have CN : Hid (∀ W v, OwnsP W w.heap.size (.slice (some ⟨g, 0, none⟩) len cv) len F → OwnsP W base v row.length row → (∀ k, v.ownBlock = some k → k < w.heap.size) → w.heap.size ≤ W.heap.size → Calls Tryz.prog 170 #[.slice (some ⟨g, 0, none⟩) len cv, v] W fun e w' => ∃ v', e = .returned v' ∧ OwnsP w' w.heap.size v' F2.length F2 ∧ Below w.heap.size W w') := fun W v h1 h2 h3 h4 => by
        obtain ⟨ar, cr, rfl⟩ := h2.form
        rw [hF2]
        exact addNewP_any _ len w.heap.size F ar row.length cr row W h1 (by omega) h2.row.2.2.2 (by omega) (fun b off e _ => h3 b (by subst e; rfl)) h4
      have hkl : k + 1 ≤ F2.length := by
        obtain ⟨E, hE⟩ := addLP_more row F
        rw [hF2, hE, List.length_append]
        omega
      rw [← hF2] at HFK
      have i1 : (0 : Int) ≤ (k : Int) := by omega
      have i2 : (k : Int) < (len : Int) := by omega
      clear hx hrow hrB hF2 l0 l1
      go_wp2_with fail
      clear c0 c1
      refine CF.out.mono ?_
      rintro e w2 ⟨vr, rfl, hor, hb2, hlo⟩
      have HN2 := Lib.hid (HN.out.trans (hb2.mono HN.out.size))
      have HO2 := Lib.hid (HO.out.below hb2)
      have HOR := Lib.hid hor
      have HLO := Lib.hid hlo
      clear hor hb2 hlo
      go_wp2_with fail
      refine (CN.out _ _ HO2.out HOR.out HLO.out HN2.out.size).mono ?_
      rintro e w3 ⟨v3, rfl, ho, hb3⟩
      have HO3 := Lib.hid ho
      have HN3 := Lib.hid (HN2.out.trans hb3)
      clear ho hb3 HN HO HN2 HO2 HOR HLO CF CN
      go_wp2_with fail
      go_roundw
      case rel => exact ⟨k + 1, F2.length, v3, F2, by go_num, rfl, hkl, HO3.out, HFK.out, HN3.out⟩
      case measure => simp [intOf]; omega
    · have HE : Hid (FoundP nx L F F.length) := by
        have h1 : k = F.length := by rw [HO.out.length]; omega
        have h2 := HF.out
        rw [h1] at h2
        exact h2
      obtain ⟨av, cv, rfl⟩ := HO.out.form
      go_wp2_with fail
      go_ret
      exact ⟨_, _, F, rfl, HO.out, hl40, HE.out, HN.out⟩

end Go.Proofs.YtnglogkkkpegnaaGreat

/-
  Contracts of PairOf, of the program and of the model, and of the laws' eqPair. Conditions: none.
-/
namespace Go.Proofs.YtnglogkkkpegnaaGreat
open Go.RowKit

/-- The pair of a state, as the machine's numbers have it. -/
def pairOf (st s : Int) : Int × Int := if s < 0 ∨ st < 1 then (0, 0) else (wrap64 (s.tdiv st), s % st)

set_option maxRecDepth 20000 in
set_option maxHeartbeats 1600000 in
theorem implPairOf_any (st it : Int) (v2 v3 v4 v5 : Value) (s : Int) (w : World) :
    Calls Tryz.prog 121 #[.agg #[.int .i64 st, .int .i64 it, v2, v3, v4, v5], .int .i64 s] w fun e w' => e = .returned (.agg #[.int .i64 (pairOf st s).1, .int .i64 (pairOf st s).2]) ∧ Below w.heap.size w w' := by
  have B0 : Hid (∀ o p, Below w.heap.size w ((w.alloc o).alloc p)) := fun o p => ((Below.refl _ _).alloc (Nat.le_refl _) _).alloc (by simp) _
  by_cases h0 : s < 0
  · have e : pairOf st s = (0, 0) := if_pos (Or.inl h0)
    by_cases h1 : st < 1
    · rw [e]
      go_enter Tryz.func121, Tryz.ntmps121
      go_wp2_with fail
      refine bodyPost_ret (v := .agg #[.int .i64 0, .int .i64 0]) ?_ rfl ⟨rfl, ?_⟩
      · simp [results, Tryz.results121, go_sem]
      · first | exact B0.out _ _ | exact (B0.out _ _).drew
    · rw [e]
      go_enter Tryz.func121, Tryz.ntmps121
      go_wp2_with fail
      refine bodyPost_ret (v := .agg #[.int .i64 0, .int .i64 0]) ?_ rfl ⟨rfl, ?_⟩
      · simp [results, Tryz.results121, go_sem]
      · first | exact B0.out _ _ | exact (B0.out _ _).drew
  · by_cases h1 : st < 1
    · have e : pairOf st s = (0, 0) := if_pos (Or.inr h1)
      rw [e]
      go_enter Tryz.func121, Tryz.ntmps121
      go_wp2_with fail
      refine bodyPost_ret (v := .agg #[.int .i64 0, .int .i64 0]) ?_ rfl ⟨rfl, ?_⟩
      · simp [results, Tryz.results121, go_sem]
      · first | exact B0.out _ _ | exact (B0.out _ _).drew
    · have e : pairOf st s = (wrap64 (s.tdiv st), s % st) := if_neg (by omega)
      have hne : ¬ st = 0 := by omega
      rw [e]
      go_enter Tryz.func121, Tryz.ntmps121
      go_wp2_with fail
      go_region
      go_wp2_with fail
      refine bodyPost_ret (v := .agg #[.int .i64 (wrap64 (s.tdiv st)), .int .i64 (s % st)]) ?_ rfl ⟨rfl, ?_⟩
      · simp [results, Tryz.results121, go_sem]
      · first | exact B0.out _ _ | exact (B0.out _ _).drew

end Go.Proofs.YtnglogkkkpegnaaGreat

/-
  The product of two that fit is right, where it has no more steps than it may. No conditions beyond these; nothing here speaks of the program.
-/
namespace Go.Proofs.YtnglogkkkpegnaaGreat
open Go.RowKit

theorem setOk_of {xs : List Int} (hr : xs.Pairwise (· < ·)) (hl : ∀ x ∈ xs, 0 ≤ x ∧ x ≤ 11) : setOkB xs = true := by
  refine setOk_all (n := xs.length) (k := xs.length) rfl (Nat.lt_irrefl _) (fun j hj => ?_)
  have hm : xs.getD j 0 ∈ xs := by
    rw [List.getD_eq_getElem?_getD, List.getElem?_eq_getElem hj]
    exact List.getElem_mem hj
  have hb : btw (xs.getD j 0) 0 11 = true := by
    have := hl _ hm
    simp [btw]
    exact this
  by_cases h0 : 0 < j
  · refine good_yes (x := xs.getD j 0) (y := xs.getD (j - 1) 0) rfl rfl hb ?_
    have h1 : j - 1 < xs.length := by omega
    rw [List.getD_eq_getElem?_getD, List.getElem?_eq_getElem h1, List.getD_eq_getElem?_getD, List.getElem?_eq_getElem hj]
    exact List.pairwise_iff_getElem.1 hr (j - 1) j h1 hj (by omega)
  · exact good_zero (x := xs.getD j 0) rfl hb h0

theorem apart_of {a : IaD} (h1 : ∀ x, x ∈ a.ins → x ∈ a.outs → False) (h2 : ∀ x, x ∈ a.ins → x ∈ a.hids → False) (h3 : ∀ x, x ∈ a.outs → x ∈ a.hids → False) : apartB a = true := by
  have nil : ∀ xs ys : List Int, (∀ x, x ∈ xs → x ∈ ys → False) → (meetOf xs ys).length = 0 := by
    intro xs ys h
    rw [List.length_eq_zero_iff]
    apply List.eq_nil_iff_forall_not_mem.2
    intro x hx
    have := mem_meetOf.1 hx
    exact h x this.1 this.2
  unfold apartB
  rw [decide_eq_true_eq, nil _ _ h1, nil _ _ h2, nil _ _ h3]

theorem iaOk_apart {a : IaD} (h : iaOkB a = true) : (∀ x, x ∈ a.ins → x ∈ a.outs → False) ∧ (∀ x, x ∈ a.ins → x ∈ a.hids → False) ∧ (∀ x, x ∈ a.outs → x ∈ a.hids → False) := by
  simp only [iaOkB, apartB, Bool.and_eq_true, decide_eq_true_eq] at h
  have hz := h.1.2
  have nil : ∀ xs ys : List Int, (meetOf xs ys).length = 0 → ∀ x, x ∈ xs → x ∈ ys → False := by
    intro xs ys e x h1 h2
    have hm := mem_meetOf.2 ⟨h1, h2⟩
    rw [List.length_eq_zero_iff.1 e] at hm
    cases hm
  exact ⟨nil _ _ (by omega), nil _ _ (by omega), nil _ _ (by omega)⟩

/-- Two steps from one state with one input are one step. -/
theorem stepsB_one (a : IaD) : ∀ (ss : List St), stepsB a ss = true → ss.Pairwise (fun y x => y.1 = x.1 → y.2.1 = x.2.1 → x.2.1 ∈ a.ins → False)
  | [], _ => List.Pairwise.nil
  | [x], _ => by simp
  | y :: x :: r, h => by
    have hr := stepsB_rise a _ h
    simp only [stepsB, Bool.and_eq_true] at h
    have ih := stepsB_one a (x :: r) h.2
    have hn := h.1.2
    simp only [nextB, Bool.and_eq_true, Bool.not_eq_true', Bool.and_eq_false_iff, decide_eq_true_eq, decide_eq_false_iff_not, hasB] at hn
    have key : y.1 = x.1 → y.2.1 = x.2.1 → x.2.1 ∈ a.ins → False := by
      intro e1 e2 hm
      rcases hn.2 with (k | k) | k
      · exact k e1
      · exact k e2
      · exact k hm
    refine List.pairwise_cons.2 ⟨fun z hz => ?_, ih⟩
    rcases List.mem_cons.1 hz with rfl | hz
    · exact key
    · intro e1 e2 hm
      have h1 := (List.pairwise_cons.1 hr).1 x (by simp)
      have h2 := (List.pairwise_cons.1 (List.pairwise_cons.1 hr).2).1 z hz
      simp only [Ahead] at h1 h2
      have q1 : y.1 = x.1 := by omega
      have q2 : y.2.1 = x.2.1 := by omega
      exact key q1 q2 (by rw [← q2, e2]; exact hm)

theorem iaOk_one {a : IaD} (h : iaOkB a = true) {x y : St} (hx : x ∈ a.steps) (hy : y ∈ a.steps) (e1 : x.1 = y.1) (e2 : x.2.1 = y.2.1) (hm : x.2.1 ∈ a.ins) : x = y := by
  have hp := stepsB_one a _ (iaOk_steps h)
  obtain ⟨i, hi, rfl⟩ := List.getElem_of_mem hx
  obtain ⟨j, hj, rfl⟩ := List.getElem_of_mem hy
  rcases Nat.lt_trichotomy i j with k | k | k
  · exact (List.pairwise_iff_getElem.1 hp i j hi hj k e1 e2 (by rw [← e2]; exact hm)).elim
  · subst k
    rfl
  · exact (List.pairwise_iff_getElem.1 hp j i hj hi k e1.symm e2.symm hm).elim

/-- Steps that rise, are good, and of which no two have one beginning and one input, are right. -/
theorem stepsB_of (a : IaD) : ∀ (ss : List St), ss.Pairwise Ahead → (∀ x ∈ ss, goodStepB a x = true) → ss.Pairwise (fun y x => y.1 = x.1 → y.2.1 = x.2.1 → x.2.1 ∈ a.ins → False) → stepsB a ss = true
  | [], _, _, _ => rfl
  | [x], _, hg, _ => by simpa [stepsB] using hg x (by simp)
  | y :: x :: r, hr, hg, ho => by
    have ih := stepsB_of a (x :: r) (List.pairwise_cons.1 hr).2 (fun z hz => hg z (List.mem_cons_of_mem _ hz)) (List.pairwise_cons.1 ho).2
    have h1 := (List.pairwise_cons.1 hr).1 x (by simp)
    have h2 := (List.pairwise_cons.1 ho).1 x (by simp)
    have hn : nextB a y x = true := by
      simp only [nextB, Bool.and_eq_true, Bool.not_eq_true', Bool.and_eq_false_iff, decide_eq_true_eq, decide_eq_false_iff_not, hasB]
      refine ⟨(ahead_cmp y x).2 h1, ?_⟩
      by_cases e1 : y.1 = x.1
      · by_cases e2 : y.2.1 = x.2.1
        · exact .inr (fun hm => h2 e1 e2 hm)
        · exact .inl (.inr e2)
      · exact .inl (.inl e1)
    simp only [stepsB, Bool.and_eq_true]
    exact ⟨⟨hg y (by simp), hn⟩, ih⟩

/-- What two that fit have in common. -/
theorem fit_apart {a b : IaD} (h : fitB a b = true) : (∀ x, x ∈ a.ins → x ∈ b.ins → False) ∧ (∀ x, x ∈ a.outs → x ∈ b.outs → False) ∧ (∀ x, x ∈ a.hids → x ∈ actsOf b → False) ∧ (∀ x, x ∈ b.hids → x ∈ actsOf a → False) := by
  have hab := h
  unfold fitB at hab
  simp only [Bool.and_eq_true, decide_eq_true_eq] at hab
  obtain ⟨⟨_, hf⟩, _⟩ := hab
  unfold fitActs at hf
  simp only [Bool.and_eq_true, decide_eq_true_eq, List.length_eq_zero_iff] at hf
  obtain ⟨⟨⟨f1, f2⟩, f3⟩, f4⟩ := hf
  have nil : ∀ xs ys : List Int, meetOf xs ys = [] → ∀ x, x ∈ xs → x ∈ ys → False := by
    intro xs ys e x h1 h2
    have hm := mem_meetOf.2 ⟨h1, h2⟩
    rw [e] at hm
    cases hm
  exact ⟨nil _ _ f1, nil _ _ f2, nil _ _ f3, nil _ _ f4⟩

theorem mem_shOf {a b : IaD} {x : Int} : x ∈ shOf a b ↔ (x ∈ a.ins ∧ x ∈ b.outs) ∨ (x ∈ a.outs ∧ x ∈ b.ins) := by
  unfold shOf
  rw [mem_joinOf, mem_meetOf, mem_meetOf]

theorem pair_low {su p q n : Int} (hp : 0 ≤ p ∧ p ≤ n - 1) (hq : 0 ≤ q ∧ q ≤ su - 1) : 0 ≤ p * su + q ∧ p * su + q ≤ n * su - 1 := by
  have h0 : 0 ≤ p * su := Int.mul_nonneg hp.1 (by omega)
  have h1 : (p + 1) * su ≤ n * su := Int.mul_le_mul_of_nonneg_right (by omega) (by omega)
  rw [Int.add_mul, Int.one_mul] at h1
  omega

set_option maxHeartbeats 1600000 in
theorem prod_ok {a b : IaD} (hp : prodB a b = true) : iaOkB (productOf a b) = true := by
  unfold prodB at hp
  rw [Bool.and_eq_true, decide_eq_true_eq] at hp
  obtain ⟨hf, hlen⟩ := hp
  obtain ⟨ha, hb, hm⟩ := fitB_ok hf
  obtain ⟨p1, p2, p3, p4⟩ := fit_apart hf
  obtain ⟨a1, a2, a3⟩ := iaOk_apart ha
  obtain ⟨b1, b2, b3⟩ := iaOk_apart hb
  have sA := iaOk_states ha
  have sB := iaOk_states hb
  have iA := iaOk_init ha
  have iB := iaOk_init hb
  have eA := iaOk_ends ha
  have eB := iaOk_ends hb
  obtain ⟨oA1, oA2, oA3⟩ := iaOk_sets ha
  obtain ⟨oB1, oB2, oB3⟩ := iaOk_sets hb
  have mlow := mul_low sA sB
  simp only [iaOkB, setsB, Bool.and_eq_true, decide_eq_true_eq]
  have memI : ∀ x, x ∈ (productOf a b).ins ↔ (x ∈ a.ins ∨ x ∈ b.ins) ∧ ¬ x ∈ shOf a b := fun x => by
    show x ∈ lessOf (joinOf a.ins b.ins) (shOf a b) ↔ _
    rw [mem_lessOf, mem_joinOf]
  have memO : ∀ x, x ∈ (productOf a b).outs ↔ (x ∈ a.outs ∨ x ∈ b.outs) ∧ ¬ x ∈ shOf a b := fun x => by
    show x ∈ lessOf (joinOf a.outs b.outs) (shOf a b) ↔ _
    rw [mem_lessOf, mem_joinOf]
  have memH : ∀ x, x ∈ (productOf a b).hids ↔ (x ∈ a.hids ∨ x ∈ b.hids) ∨ x ∈ shOf a b := fun x => by
    show x ∈ joinOf (joinOf a.hids b.hids) (shOf a b) ↔ _
    rw [mem_joinOf, mem_joinOf]
  -- every step of both
  have stepA : ∀ x ∈ a.steps, hasB (shOf a b) x.2.1 = false → (x.2.1 ∈ (productOf a b).ins ∨ x.2.1 ∈ (productOf a b).outs ∨ x.2.1 ∈ (productOf a b).hids) := fun x hx hs => by
    have hn : ¬ x.2.1 ∈ shOf a b := by simpa [hasB] using hs
    rw [memI, memO, memH]
    rcases (eA x hx).2.2 with k | k | k
    · exact .inl ⟨.inl k, hn⟩
    · exact .inr (.inl ⟨.inl k, hn⟩)
    · exact .inr (.inr (.inl (.inl k)))
  have stepB : ∀ x ∈ b.steps, hasB (shOf a b) x.2.1 = false → (x.2.1 ∈ (productOf a b).ins ∨ x.2.1 ∈ (productOf a b).outs ∨ x.2.1 ∈ (productOf a b).hids) := fun x hx hs => by
    have hn : ¬ x.2.1 ∈ shOf a b := by simpa [hasB] using hs
    rw [memI, memO, memH]
    rcases (eB x hx).2.2 with k | k | k
    · exact .inl ⟨.inr k, hn⟩
    · exact .inr (.inl ⟨.inr k, hn⟩)
    · exact .inr (.inr (.inl (.inr k)))
  have good : ∀ u ∈ prodL a b, goodStepB (productOf a b) u = true := fun u hu => by
    have mk : ∀ p q p' q' : Int, (0 ≤ p ∧ p ≤ a.states - 1) → (0 ≤ q ∧ q ≤ b.states - 1) → (0 ≤ p' ∧ p' ≤ a.states - 1) → (0 ≤ q' ∧ q' ≤ b.states - 1) → ∀ x : Int, (x ∈ (productOf a b).ins ∨ x ∈ (productOf a b).outs ∨ x ∈ (productOf a b).hids) → goodStepB (productOf a b) (p * b.states + q, x, p' * b.states + q') = true := by
      intro p q p' q' h1 h2 h3 h4 x hx
      have k1 := pair_low h1 h2
      have k2 := pair_low h3 h4
      have e : (productOf a b).states = a.states * b.states := rfl
      simp only [goodStepB, stateB, btw, Bool.and_eq_true, Bool.or_eq_true, decide_eq_true_eq, hasB, e]
      exact ⟨⟨k1, k2⟩, by rcases hx with k | k | k <;> simp [k]⟩
    unfold prodL at hu
    rw [List.mem_append, List.mem_append] at hu
    rcases hu with (hu | hu) | hu
    · obtain ⟨x, hx, hs, hu⟩ := mem_aloneA.1 hu
      obtain ⟨q, hq, rfl⟩ := mem_besideA.1 hu
      exact mk _ _ _ _ (eA x hx).1 (by omega) (eA x hx).2.1 (by omega) _ (stepA x hx hs)
    · obtain ⟨y, hy, hs, hu⟩ := mem_aloneB.1 hu
      obtain ⟨p, hp, rfl⟩ := mem_besideB.1 hu
      exact mk _ _ _ _ (by omega) (eB y hy).1 (by omega) (eB y hy).2.1 _ (stepB y hy hs)
    · obtain ⟨x, hx, hs, hu⟩ := mem_togetherL.1 hu
      obtain ⟨y, hy, e, rfl⟩ := mem_besideT.1 hu
      exact mk _ _ _ _ (eA x hx).1 (eB y hy).1 (eA x hx).2.1 (eB y hy).2.1 _ (.inr (.inr ((memH _).2 (.inr (by simpa [hasB] using hs)))))
  have one : (prodSteps a b).Pairwise (fun y x => y.1 = x.1 → y.2.1 = x.2.1 → x.2.1 ∈ (productOf a b).ins → False) := by
    refine (List.Pairwise.and_mem.1 (prodSteps_ahead hf)).imp ?_
    intro u v ⟨hu, hv, huv⟩ e1 e2 hI
    rw [mem_prodSteps] at hu hv
    rw [memI] at hI
    obtain ⟨hI, hns⟩ := hI
    have hne : u ≠ v := huv.ne
    have onlyA : ∀ z : Int, z ∈ a.ins → ¬ z ∈ shOf a b → ∀ y ∈ b.steps, y.2.1 = z → False := by
      intro z h1 h2 y hy ez
      rw [mem_shOf] at h2
      rcases (eB y hy).2.2 with k | k | k <;> rw [ez] at k
      · exact p1 _ h1 k
      · exact h2 (.inl ⟨h1, k⟩)
      · exact p4 _ k (mem_actsOf.2 (.inl h1))
    have onlyB : ∀ z : Int, z ∈ b.ins → ¬ z ∈ shOf a b → ∀ y ∈ a.steps, y.2.1 = z → False := by
      intro z h1 h2 y hy ez
      rw [mem_shOf] at h2
      rcases (eA y hy).2.2 with k | k | k <;> rw [ez] at k
      · exact p1 _ k h1
      · exact h2 (.inr ⟨k, h1⟩)
      · exact p3 _ k (mem_actsOf.2 (.inl h1))
    have noT : ∀ w ∈ prodL a b, w.2.1 = v.2.1 → (∃ x ∈ a.steps, ∃ q : Nat, q < b.states.toNat ∧ w = (x.1 * b.states + (q : Int), x.2.1, x.2.2 * b.states + (q : Int))) ∨ (∃ y ∈ b.steps, ∃ p : Nat, p < a.states.toNat ∧ w = ((p : Int) * b.states + y.1, y.2.1, (p : Int) * b.states + y.2.2)) := by
      intro w hw ew
      unfold prodL at hw
      rw [List.mem_append, List.mem_append] at hw
      rcases hw with (hw | hw) | hw
      · obtain ⟨x, hx, hs, hw⟩ := mem_aloneA.1 hw
        obtain ⟨q, hq, rfl⟩ := mem_besideA.1 hw
        exact .inl ⟨x, hx, q, hq, rfl⟩
      · obtain ⟨y, hy, hs, hw⟩ := mem_aloneB.1 hw
        obtain ⟨p, hp, rfl⟩ := mem_besideB.1 hw
        exact .inr ⟨y, hy, p, hp, rfl⟩
      · obtain ⟨x, hx, hs, hw⟩ := mem_togetherL.1 hw
        obtain ⟨y, hy, e, rfl⟩ := mem_besideT.1 hw
        exact absurd (by rw [← ew]; simpa [hasB] using hs) hns
    rcases noT u hu e2 with ⟨x, hx, q, hq, rfl⟩ | ⟨y, hy, p, hp, rfl⟩ <;> rcases noT v hv rfl with ⟨x', hx', q', hq', rfl⟩ | ⟨y', hy', p', hp', rfl⟩
    · simp only at e1 e2 hI hns
      rcases hI with hI | hI
      · obtain ⟨d1, d2⟩ := divmod e1 (by omega) (by omega)
        have := iaOk_one ha hx hx' d1 e2 (by rw [e2]; exact hI)
        subst this
        exact hne (by rw [d2])
      · exact onlyB _ hI hns x' hx' rfl
    · simp only at e1 e2 hI hns
      rcases hI with hI | hI
      · exact onlyA _ hI hns y' hy' rfl
      · exact onlyB _ hI hns x hx e2
    · simp only at e1 e2 hI hns
      rcases hI with hI | hI
      · exact onlyA _ hI hns y hy e2
      · exact onlyB _ hI hns x' hx' rfl
    · simp only at e1 e2 hI hns
      rcases hI with hI | hI
      · exact onlyA _ hI hns y' hy' rfl
      · have q1 := (eB y hy).1
        have q2 := (eB y' hy').1
        obtain ⟨d1, d2⟩ := divmod e1 (by omega) (by omega)
        have := iaOk_one hb hy hy' d2 e2 (by rw [e2]; exact hI)
        subst this
        exact hne (by rw [d1])
  have low : ∀ x, (x ∈ a.ins ∨ x ∈ a.outs ∨ x ∈ a.hids ∨ x ∈ b.ins ∨ x ∈ b.outs ∨ x ∈ b.hids) → 0 ≤ x ∧ x ≤ 11 := by
    intro x h
    rcases h with h | h | h | h | h | h
    · exact setOk_low oA1 x h
    · exact setOk_low oA2 x h
    · exact setOk_low oA3 x h
    · exact setOk_low oB1 x h
    · exact setOk_low oB2 x h
    · exact setOk_low oB3 x h
  have lowS : ∀ x, x ∈ shOf a b → 0 ≤ x ∧ x ≤ 11 := by
    intro x h
    rw [mem_shOf] at h
    rcases h with h | h
    · exact low x (.inl h.1)
    · exact low x (.inr (.inl h.1))
  refine ⟨⟨⟨⟨?_, ?_⟩, ⟨⟨⟨?_, ?_⟩, ?_⟩, ?_⟩⟩, ?_⟩, ?_⟩
  · show btw (a.states * b.states) 1 40 = true
    simp [btw]
    omega
  · have := pair_low iA iB
    show stateB (productOf a b) (a.init * b.states + b.init) = true
    have e : (productOf a b).states = a.states * b.states := rfl
    simp [stateB, btw, e]
    omega
  · refine setOk_of (putAll_rises List.Pairwise.nil) (fun x hx => ?_)
    rcases ((memI x).1 hx).1 with k | k
    · exact low x (.inl k)
    · exact low x (.inr (.inr (.inr (.inl k))))
  · refine setOk_of (putAll_rises List.Pairwise.nil) (fun x hx => ?_)
    rcases ((memO x).1 hx).1 with k | k
    · exact low x (.inr (.inl k))
    · exact low x (.inr (.inr (.inr (.inr (.inl k)))))
  · refine setOk_of (putAll_rises (putAll_rises List.Pairwise.nil)) (fun x hx => ?_)
    rcases (memH x).1 hx with (k | k) | k
    · exact low x (.inr (.inr (.inl k)))
    · exact low x (.inr (.inr (.inr (.inr (.inr k)))))
    · exact lowS x k
  · show (prodSteps a b).length ≤ 400
    unfold prodSteps
    rw [sortS_len]
    exact hlen
  · refine apart_of (fun x h1 h2 => ?_) (fun x h1 h2 => ?_) (fun x h1 h2 => ?_)
    · rw [memI] at h1
      rw [memO] at h2
      have hn := h1.2
      rw [mem_shOf] at hn
      rcases h1.1 with k | k <;> rcases h2.1 with m | m
      · exact a1 x k m
      · exact hn (.inl ⟨k, m⟩)
      · exact hn (.inr ⟨m, k⟩)
      · exact b1 x k m
    · rw [memI] at h1
      rw [memH] at h2
      rcases h2 with (m | m) | m
      · rcases h1.1 with k | k
        · exact a2 x k m
        · exact p3 x m (mem_actsOf.2 (.inl k))
      · rcases h1.1 with k | k
        · exact p4 x m (mem_actsOf.2 (.inl k))
        · exact b2 x k m
      · exact h1.2 m
    · rw [memO] at h1
      rw [memH] at h2
      rcases h2 with (m | m) | m
      · rcases h1.1 with k | k
        · exact a3 x k m
        · exact p3 x m (mem_actsOf.2 (.inr (.inl k)))
      · rcases h1.1 with k | k
        · exact p4 x m (mem_actsOf.2 (.inr (.inl k)))
        · exact b3 x k m
      · exact h1.2 m
  · exact stepsB_of _ _ (prodSteps_ahead hf) (fun x hx => good x (mem_prodSteps.1 hx)) one

/-- A product has no more than an automaton may. -/
theorem prod_small {a b : IaD} (_ : Small a) (_ : Small b) : (prodIa a b).ins.length ≤ 1048576 ∧ (prodIa a b).outs.length ≤ 1048576 ∧ (prodIa a b).hids.length ≤ 1048576 ∧ (prodIa a b).steps.length ≤ 1048576 := by
  unfold prodIa
  by_cases h : prodB a b = true
  · rw [if_pos h]
    have ok := prod_ok h
    obtain ⟨o1, o2, o3⟩ := iaOk_sets ok
    have l1 : (productOf a b).ins.length ≤ 12 := rise_low12 (putAll_rises List.Pairwise.nil) (setOk_low o1)
    have l2 : (productOf a b).outs.length ≤ 12 := rise_low12 (putAll_rises List.Pairwise.nil) (setOk_low o2)
    have l3 : (productOf a b).hids.length ≤ 12 := rise_low12 (putAll_rises (putAll_rises List.Pairwise.nil)) (setOk_low o3)
    have l4 := iaOk_len ok
    exact ⟨by omega, by omega, by omega, by omega⟩
  · rw [if_neg h]
    simp [noIa]

end Go.Proofs.YtnglogkkkpegnaaGreat

/-
  What may come to a clash unasked: pairs and states say the same. Conditions: the steps' ends are states. Nothing here speaks of the program.
-/
namespace Go.Proofs.YtnglogkkkpegnaaGreat
open Go.RowKit

/-- The steps that no environment can keep both from, turned round. -/
def backS (ins : List Int) (ss : List St) : List St := (ss.filter fun x => !hasB ins x.2.1).map fun x => (x.2.2, 0, x.1)

/-- The states from which a clash may be come to unasked. -/
def badOf (a b : IaD) : List Int := if prodB a b then alongOf [0] (backS (productOf a b).ins (productOf a b).steps) (clashesOf a b) else []

/-- One way through the steps, backwards. -/
def backPass (ins : List Int) (ss : List St) (out : List Int) : List Int := ss.foldl (fun o x => if !hasB ins x.2.1 && hasB o x.2.2 then put o x.1 else o) out

theorem backPass_eq (ins : List Int) : ∀ (ss : List St) (out : List Int), backPass ins ss out = passOf [0] (backS ins ss) out
  | [], _ => rfl
  | x :: r, out => by
    have ih := backPass_eq ins r
    have h1 : backPass ins (x :: r) out = backPass ins r (if !hasB ins x.2.1 && hasB out x.2.2 then put out x.1 else out) := rfl
    rw [h1, ih]
    unfold backS
    by_cases h : hasB ins x.2.1 = true
    · rw [List.filter_cons_of_neg (by simp [h])]
      simp [h]
    · rw [List.filter_cons_of_pos (by simp [h]), List.map_cons, passOf_cons]
      have h0 : hasB [0] (0 : Int) = true := by simp [hasB]
      simp only [h0, Bool.true_and]
      have h2 : hasB ins x.2.1 = false := by simpa using h
      rw [h2]
      rfl

theorem backPass_snoc (ins : List Int) (ss : List St) (x : St) (out : List Int) : backPass ins (ss ++ [x]) out = (if !hasB ins x.2.1 && hasB (backPass ins ss out) x.2.2 then put (backPass ins ss out) x.1 else backPass ins ss out) := by simp [backPass]

theorem pairOf_st {su s : Int} (h : 1 ≤ su ∧ su ≤ 40) (hs : 0 ≤ s ∧ s ≤ 1600) : pairOf su s = (s / su, s % su) := by
  unfold pairOf
  rw [if_neg (by omega), Int.tdiv_eq_ediv_of_nonneg hs.1]
  have h1 : 0 ≤ s / su := Int.ediv_nonneg hs.1 (by omega)
  have h2 : s / su ≤ s := Int.ediv_le_self su hs.1
  rw [Go.IntWalk.wrap64_in _ (by omega)]

theorem stOf_pairOf {su s : Int} (h : 1 ≤ su ∧ su ≤ 40) (hs : 0 ≤ s ∧ s ≤ 1600) : stOf su (pairOf su s) = s := by
  rw [pairOf_st h hs]
  unfold stOf
  have := Int.mul_ediv_add_emod s su
  rw [Int.mul_comm] at this
  exact this

theorem pairOf_stOf {su p q : Int} (h : 1 ≤ su ∧ su ≤ 40) (hp : 0 ≤ p ∧ p ≤ 39) (hq : 0 ≤ q ∧ q < su) : pairOf su (stOf su (p, q)) = (p, q) := by
  unfold stOf
  simp only
  have h1 : 0 ≤ p * su ∧ p * su ≤ 39 * 40 := ⟨Int.mul_nonneg hp.1 (by omega), Int.mul_le_mul hp.2 h.2 (by omega) (by omega)⟩
  rw [pairOf_st h (by omega)]
  have e1 : (p * su + q) / su = p := by
    rw [Int.add_comm, Int.add_mul_ediv_right _ _ (by omega), Int.ediv_eq_zero_of_lt hq.1 hq.2]
    omega
  have e2 : (p * su + q) % su = q := by
    rw [Int.add_comm, Int.add_mul_emod_self_right, Int.emod_eq_of_lt hq.1 hq.2]
  rw [e1, e2]

/-- What leads to a pair: the beginnings of the steps to it that no environment can keep both from. -/
def backB (su : Int) (ins : List Int) (ss : List St) (p q : Int) : List Pr := (ss.filter fun x => !hasB ins x.2.1 && decide (pairOf su x.2.2 = (p, q))).map fun x => pairOf su x.1

theorem backB_nil (su : Int) (ins : List Int) : backB su ins [] = fun _ _ => [] := rfl

theorem backB_skip {su : Int} {ins : List Int} {ss : List St} {x : St} (h : hasB ins x.2.1 = true) : backB su ins (ss ++ [x]) = backB su ins ss := by
  funext p q
  unfold backB
  rw [List.filter_append]
  simp [h]

theorem backB_put {su : Int} {ins : List Int} {ss : List St} {x : St} (h : hasB ins x.2.1 = false) : backB su ins (ss ++ [x]) = addP (backB su ins ss) (pairOf su x.2.2).1 (pairOf su x.2.2).2 (pairOf su x.1) := by
  funext p q
  unfold addP backB
  rw [List.filter_append, List.map_append]
  by_cases e : p = (pairOf su x.2.2).1 ∧ q = (pairOf su x.2.2).2
  · rw [if_pos e]
    obtain ⟨rfl, rfl⟩ := e
    simp [h]
  · rw [if_neg e]
    have : ¬ pairOf su x.2.2 = (p, q) := fun e' => e (by rw [e']; exact ⟨rfl, rfl⟩)
    simp [h, this]

theorem backB_len (su : Int) (ins : List Int) (ss : List St) (p q : Int) : (backB su ins ss p q).length ≤ ss.length := by
  unfold backB
  rw [List.length_map]
  exact List.length_filter_le _ _

/-- Pairs and states say the same of what may be come to. -/
theorem come_pairs {su n : Int} (hsu : 1 ≤ su ∧ su ≤ 40) (hn : 1 ≤ n ∧ n ≤ 40) {ins : List Int} {ss : List St} (hss : ∀ x ∈ ss, (0 ≤ x.1 ∧ x.1 ≤ n * su - 1) ∧ (0 ≤ x.2.2 ∧ x.2.2 ≤ n * su - 1)) {L : List Pr} (hL : ∀ y ∈ L, (0 ≤ y.1 ∧ y.1 < n) ∧ (0 ≤ y.2 ∧ y.2 < su)) :
    (∀ y, ComeP (fun x => backB su ins ss x.1 x.2) L y → ((0 ≤ y.1 ∧ y.1 < n) ∧ (0 ≤ y.2 ∧ y.2 < su)) ∧ Come [0] (backS ins ss) (L.map (stOf su)) (stOf su y)) ∧
    ∀ z, Come [0] (backS ins ss) (L.map (stOf su)) z → (0 ≤ z ∧ z ≤ n * su - 1) ∧ ComeP (fun x => backB su ins ss x.1 x.2) L (pairOf su z) := by
  have hm : n * su ≤ 1600 := (mul_low hn hsu).2
  have low : ∀ s, 0 ≤ s ∧ s ≤ n * su - 1 → (0 ≤ (pairOf su s).1 ∧ (pairOf su s).1 < n) ∧ (0 ≤ (pairOf su s).2 ∧ (pairOf su s).2 < su) := fun s hs => by
    rw [pairOf_st hsu (by omega)]
    exact ⟨⟨Int.ediv_nonneg hs.1 (by omega), Int.ediv_lt_of_lt_mul (by omega) (by omega)⟩, Int.emod_nonneg _ (by omega), Int.emod_lt_of_pos _ (by omega)⟩
  refine ⟨fun y h => ?_, fun z h => ?_⟩
  · induction h with
    | start y hy => exact ⟨hL y hy, .start _ (List.mem_map.2 ⟨y, hy, rfl⟩)⟩
    | step x y _ hy ih =>
      unfold backB at hy
      obtain ⟨s, hs, rfl⟩ := List.mem_map.1 hy
      obtain ⟨hs, hc⟩ := List.mem_filter.1 hs
      simp only [Bool.and_eq_true, Bool.not_eq_true', decide_eq_true_eq] at hc
      obtain ⟨e1, e2⟩ := hss s hs
      refine ⟨low _ e1, ?_⟩
      rw [stOf_pairOf hsu (by omega)]
      have hb : ((s.2.2, 0, s.1) : St) ∈ backS ins ss := List.mem_map.2 ⟨s, List.mem_filter.2 ⟨hs, by simp [hc.1]⟩, rfl⟩
      refine Come.step (s.2.2, 0, s.1) hb (by simp [hasB]) ?_
      have h3 := ih.2
      have e3 : x = pairOf su s.2.2 := by rw [hc.2]
      rw [e3, stOf_pairOf hsu (by omega)] at h3
      exact h3
  · induction h with
    | start z hz =>
      obtain ⟨y, hy, rfl⟩ := List.mem_map.1 hz
      obtain ⟨h1, h2⟩ := hL y hy
      have h3 := pair_low (su := su) (n := n) (p := y.1) (q := y.2) (by omega) (by omega)
      refine ⟨h3, ?_⟩
      have e : pairOf su (stOf su y) = y := pairOf_stOf (p := y.1) (q := y.2) hsu (by omega) h2
      rw [e]
      exact .start y hy
    | step s hs _ _ ih =>
      obtain ⟨t, ht, rfl⟩ := List.mem_map.1 hs
      obtain ⟨ht, hc⟩ := List.mem_filter.1 ht
      simp only [Bool.not_eq_true'] at hc
      obtain ⟨e1, e2⟩ := hss t ht
      refine ⟨e1, .step _ _ ih.2 ?_⟩
      unfold backB
      exact List.mem_map.2 ⟨t, List.mem_filter.2 ⟨ht, by simp [hc]⟩, rfl⟩

end Go.Proofs.YtnglogkkkpegnaaGreat

/-
  The contract of the program's Clashes. Conditions: the lists have at most 2^20 elements.
-/
namespace Go.Proofs.YtnglogkkkpegnaaGreat
open Go.RowKit

theorem allP_done (C : Int → Int → Bool) (m k : Nat) : allP (doneS C m k 0) m k = allP C m k :=
  allP_congr (fun p q hp hq => by
    unfold doneS
    rw [decide_eq_true (p := (0 ≤ (p : Int) ∧ (p : Int) < (k : Int) ∧ 0 ≤ (q : Int) ∧ (q : Int) < (m : Int))) (by omega)]
    simp)

end Go.Proofs.YtnglogkkkpegnaaGreat

/-
  A row of ints that begins as an empty literal and is appended to: its memory lies behind a given mark as soon as it holds something. Conditions: as each statement says; nothing here speaks of the program.
-/
namespace Go.Proofs.YtnglogkkkpegnaaGreat
open Go.RowKit

/-- A row that the call owns: it lies behind the mark B, or is still the empty literal with no room. -/
def OutB (w : World) (B base : Nat) (v : Value) (n : Nat) (xs : List Int) : Prop :=
  Owns w base v n xs ∧ (Owns w B v n xs ∨ (n = 0 ∧ xs = [] ∧ ∃ g, v = .slice (some ⟨g, 0, none⟩) 0 0))

theorem OutB.below {w w' : World} {B base n : Nat} {v : Value} {xs : List Int} (h : OutB w B base v n xs) (hb : Below w.heap.size w w') : OutB w' B base v n xs :=
  ⟨h.1.below hb, h.2.imp (fun k => k.below hb) id⟩

theorem OutB.alloc {w : World} {B base n : Nat} {v : Value} {xs : List Int} (h : OutB w B base v n xs) (o : Obj) : OutB (w.alloc o) B base v n xs :=
  ⟨h.1.alloc o, h.2.imp (fun k => k.alloc o) id⟩

theorem OutB.start {w : World} {B base : Nat} {g : Nat} (h : Owns w base (.slice (some ⟨g, 0, none⟩) 0 0) 0 []) : OutB w B base (.slice (some ⟨g, 0, none⟩) 0 0) 0 [] :=
  ⟨h, .inr ⟨rfl, rfl, g, rfl⟩⟩

/-- Between two worlds nothing ahead of the mark was written. -/
def Behind (w w' : World) (B : Nat) : Prop := ∃ r, w.grownBy w' r ∧ ∀ k, r = some k → B ≤ k

theorem wpList_appO {P : Program} {w : World} {ops : Array Oper} {rest : List Oper} {o : Oper} {a : Act} {Q : Exit → Act → World → Prop} (hgd : o.guard = none) (s x : Operand)
    (ho : o.op = .call { callee := .builtin .append, args := #[s, x], argTypes := #[ 24, 24 ] })
    (B base : Nat) (i : TypeInfo) (ht : P.underlying 24 = some (.slice 3)) (hi : P.info? 3 = some i) (hz : i.zero = some (.int .i64 0)) (hsize : i.size = 1) (hby : i.bytes = 8)
    (v : Value) (n : Nat) (xs : List Int) (hs : a.eval s = v) (hout : OutB w B base v n xs) (ad : Addr) (m c : Nat) (ys : List Int) (hx : a.eval x = .slice (some ad) m c) (hsrc : Src w (some ad) m c ys)
    (hbig : n + m ≤ 8796093022208) (hm : 0 < m) (hB : B ≤ w.heap.size) (hbB : base ≤ B)
    (h : ∀ g' c' w', OutB w' B base (.slice (some ⟨g', 0, none⟩) (n + m) c') (n + m) (xs ++ ys) → Behind w w' B → wpList P ops Q rest (a.put o.dst (.slice (some ⟨g', 0, none⟩) (n + m) c')) w') : wpList P ops Q (o :: rest) a w := by
  have key : ∀ v' w', Owns w' B v' (n + m) (xs ++ ys) → Behind w w' B → wpList P ops Q rest (a.put o.dst v') w' := by
    intro v' w' h1 h2
    obtain ⟨g', c', rfl⟩ := h1.head (fun e => by
      have hl := h1.length
      rcases h1.2 with ⟨_, h0⟩ | ⟨g, cap, cur, hv, _⟩
      · omega
      · rw [e] at hv; cases hv)
    exact h g' c' w' ⟨h1.mono hbB, .inl h1⟩ h2
  rcases hout.2 with h1 | ⟨rfl, rfl, g, rfl⟩
  · refine wpList_app hgd s x ho B i ht hi hz hsize hby v n xs hs h1 (some ad) m c ys hx hsrc hbig hB ?_
    rintro v' w' ⟨k1, k2, _⟩
    exact key v' w' k1 ⟨_, k2, fun k hk => (h1.lt k hk).1⟩
  · obtain ⟨hl, _, hc⟩ := hsrc
    refine wpList_append_grows w hgd s x 24 ho 3 i (.int .i64 0) 1 8 ht hi hz hsize hby rfl (by decide) (some ⟨g, 0, none⟩) 0 0 [] hs (fun e => by cases e) (by simp) (fun b _ j u hu => by simp at hu)
      ad m c (ys.map (Value.int .i64)) hx (by simpa using hl) (hc ad rfl) (ints_oneCell _ _) (by omega) (by unfold maxLen; omega) (by omega) ?_
    intro v' w' h1 h2
    have h3 : Owns w' w.heap.size v' (0 + m) ([] ++ ys) := by simpa [Owns] using h1
    exact key v' w' (h3.mono hB) ⟨none, h2, fun k hk => by cases hk⟩

end Go.Proofs.YtnglogkkkpegnaaGreat

/-
  The pairs from which a clash may be come to, told as states, are what the model finds. Conditions: the product is there. Nothing here speaks of the program.
-/
namespace Go.Proofs.YtnglogkkkpegnaaGreat
open Go.RowKit

theorem rowP_rises {S : Int → Int → Bool} {p : Nat} {su : Int} : ∀ j : Nat, ((rowP S p j).map (stOf su)).Pairwise (· < ·)
  | 0 => List.Pairwise.nil
  | j + 1 => by
    unfold rowP
    split
    · rw [List.map_append, List.pairwise_append]
      refine ⟨rowP_rises j, by simp, fun x hx y hy => ?_⟩
      obtain ⟨a, ha, rfl⟩ := List.mem_map.1 hx
      simp only [List.map_cons, List.map_nil, List.mem_singleton] at hy
      subst hy
      have h1 := rowP_mem.1 ha
      unfold stOf
      rw [h1.1]
      simp only
      omega
    · rw [List.append_nil]
      exact rowP_rises j

theorem allP_rises {S : Int → Int → Bool} {su : Int} {m : Nat} (hm : (m : Int) = su) : ∀ k : Nat, ((allP S m k).map (stOf su)).Pairwise (· < ·)
  | 0 => List.Pairwise.nil
  | k + 1 => by
    unfold allP
    rw [List.map_append, List.pairwise_append]
    refine ⟨allP_rises hm k, rowP_rises m, fun x hx y hy => ?_⟩
    obtain ⟨a, ha, rfl⟩ := List.mem_map.1 hx
    obtain ⟨b, hb, rfl⟩ := List.mem_map.1 hy
    have h1 := stOf_low hm ha
    have h2 := rowP_mem.1 hb
    have h3 : stOf su b = (k : Int) * m + b.2 := by unfold stOf; rw [h2.1, hm]
    rw [h3]
    omega

/-- The pairs from which a clash may be come to. -/
def BadF (a b : IaD) (F : List Pr) : Prop := ∀ x, x ∈ F ↔ ComeP (fun x => backB b.states (productOf a b).ins (productOf a b).steps x.1 x.2) (allP (clashB a b) b.states.toNat a.states.toNat) x

theorem prod_ends {a b : IaD} (hp : prodB a b = true) : ∀ x ∈ (productOf a b).steps, (0 ≤ x.1 ∧ x.1 ≤ a.states * b.states - 1) ∧ (0 ≤ x.2.2 ∧ x.2.2 ≤ a.states * b.states - 1) := fun x hx => by
  have h1 := iaOk_ends (prod_ok hp) x hx
  exact ⟨h1.1, h1.2.1⟩

theorem prod_fit {a b : IaD} (hp : prodB a b = true) : fitB a b = true := by
  unfold prodB at hp
  rw [Bool.and_eq_true] at hp
  exact hp.1

theorem badF_come {a b : IaD} (hp : prodB a b = true) {F : List Pr} (hF : BadF a b F) :
    (∀ y ∈ F, ((0 ≤ y.1 ∧ y.1 < a.states) ∧ (0 ≤ y.2 ∧ y.2 < b.states)) ∧ stOf b.states y ∈ badOf a b) ∧ ∀ z ∈ badOf a b, (0 ≤ z ∧ z ≤ a.states * b.states - 1) ∧ pairOf b.states z ∈ F := by
  have hf := prod_fit hp
  obtain ⟨oka, okb, _⟩ := fitB_ok hf
  have sA := iaOk_states oka
  have sB := iaOk_states okb
  have hcl : clashesOf a b = (allP (clashB a b) b.states.toNat a.states.toNat).map (stOf b.states) := if_pos hf
  have hbad : badOf a b = alongOf [0] (backS (productOf a b).ins (productOf a b).steps) (clashesOf a b) := if_pos hp
  have hL : ∀ y ∈ allP (clashB a b) b.states.toNat a.states.toNat, (0 ≤ y.1 ∧ y.1 < a.states) ∧ (0 ≤ y.2 ∧ y.2 < b.states) := fun y hy => by
    have h1 := allP_mem.1 hy
    omega
  obtain ⟨c1, c2⟩ := come_pairs sB sA (prod_ends hp) hL
  rw [hbad, hcl]
  refine ⟨fun y hy => ?_, fun z hz => ?_⟩
  · obtain ⟨h1, h2⟩ := c1 y ((hF y).1 hy)
    exact ⟨h1, ((alongOf_mem _ _ _).2 _).2 h2⟩
  · obtain ⟨h1, h2⟩ := c2 z (((alongOf_mem _ _ _).2 _).1 hz)
    exact ⟨h1, (hF _).2 h2⟩

theorem badF_eq {a b : IaD} (hp : prodB a b = true) {F : List Pr} (hF : BadF a b F) : (allP (fun p q => decide ((p, q) ∈ F)) b.states.toNat a.states.toNat).map (stOf b.states) = badOf a b := by
  have hf := prod_fit hp
  obtain ⟨oka, okb, _⟩ := fitB_ok hf
  have sA := iaOk_states oka
  have sB := iaOk_states okb
  obtain ⟨c1, c2⟩ := badF_come hp hF
  have hbad : badOf a b = alongOf [0] (backS (productOf a b).ins (productOf a b).steps) (clashesOf a b) := if_pos hp
  refine rise_eq (allP_rises (by omega) _) (by rw [hbad]; exact (alongOf_mem _ _ _).1) (fun z => ?_)
  rw [List.mem_map]
  refine ⟨fun ⟨y, hy, e⟩ => ?_, fun hz => ?_⟩
  · have h1 := (allP_mem.1 hy).2.2.2.2
    rw [← e]
    exact (c1 y (by simpa using h1)).2
  · obtain ⟨h1, h2⟩ := c2 z hz
    obtain ⟨h3, _⟩ := c1 _ h2
    have hm := (mul_low sA sB).2
    exact ⟨pairOf b.states z, allP_mem.2 ⟨h3.1.1, by omega, h3.2.1, by omega, by simpa using h2⟩, stOf_pairOf sB (by omega)⟩

theorem badF_has {a b : IaD} (hp : prodB a b = true) {F : List Pr} (hF : BadF a b F) {p q : Int} (h0 : 0 ≤ p ∧ p < a.states) (h1 : 0 ≤ q ∧ q < b.states) : decide ((p, q) ∈ F) = hasB (badOf a b) (stOf b.states (p, q)) := by
  have hf := prod_fit hp
  obtain ⟨oka, okb, _⟩ := fitB_ok hf
  have sA := iaOk_states oka
  have sB := iaOk_states okb
  obtain ⟨c1, c2⟩ := badF_come hp hF
  have e := pairOf_stOf (p := p) sB (by omega) h1
  rw [Bool.eq_iff_iff, decide_eq_true_eq, hasB_mem]
  refine ⟨fun h => (c1 _ h).2, fun h => ?_⟩
  have h2 := (c2 _ h).2
  rw [e] at h2
  exact h2

/-- Two may go together. -/
def compB (a b : IaD) : Bool := prodB a b && !hasB (badOf a b) (productOf a b).init

end Go.Proofs.YtnglogkkkpegnaaGreat

/-
  The program's badPairs. Conditions: both are right, the product's steps go between its states, there are at most 400.
-/
namespace Go.Proofs.YtnglogkkkpegnaaGreat
open Go.RowKit

theorem low_pairOf {su n s : Int} (hsu : 1 ≤ su ∧ su ≤ 40) (hn : n ≤ 40) (h0 : 0 ≤ s) (h1 : s ≤ n * su - 1) : (0 ≤ (pairOf su s).1 ∧ (pairOf su s).1 < n) ∧ (0 ≤ (pairOf su s).2 ∧ (pairOf su s).2 < su) := by
  have hb : n * su ≤ 40 * 40 := by
    by_cases hn0 : 0 ≤ n
    · exact Int.mul_le_mul hn hsu.2 (by omega) (by omega)
    · have := Int.mul_neg_of_neg_of_pos (a := n) (b := su) (by omega) (by omega)
      omega
  rw [pairOf_st hsu (by omega)]
  exact ⟨⟨Int.ediv_nonneg h0 (by omega), Int.ediv_lt_of_lt_mul (by omega) (by omega)⟩, Int.emod_nonneg _ (by omega), Int.emod_lt_of_pos _ (by omega)⟩

theorem wp_append_at {P : Program} {op : Oper} {a : Act} {w w' : World} {K : Act → World → Prop} {Q : Exit → Act → World → Prop} (s x : Operand) (t : TypeId) (ho : op.op = .call { callee := .builtin .append, args := #[s, x], argTypes := #[t, t] }) (ty : TypeId) (hty : op.type = ty) (vs vx v' : Value) (hs : a.eval s = vs) (hx : a.eval x = vx)
    (hrun : Sem.run P (Builtin.append_ #[t, t] ty #[vs, vx]) w = .ok v' w') (h : K (a.put op.dst v') w') : op.wp P a w K Q := by
  unfold Oper.wp execOp
  simp only [ho, hty, resolve, invoke, builtin, Sem.run_bind, Sem.run_pure, Result.andThen_ok, List.map_toArray, List.map_cons, List.map_nil, hs, hx, hrun]
  exact h

/-- The three arguments' boxes, and all that lay there. -/
def BadS (w W : World) (A B C : Array Value) : Prop := Below w.heap.size w W ∧ VarIs W w.heap.size A 27 ∧ VarIs W (w.heap.size + 1) B 27 ∧ VarIs W (w.heap.size + 2) C 27

theorem BadS.below {w W W' : World} {A B C : Array Value} (h : BadS w W A B C) (hb : Below W.heap.size W W') : BadS w W' A B C := ⟨h.1.trans (hb.mono h.1.size), h.2.1.below hb, h.2.2.1.below hb, h.2.2.2.below hb⟩
theorem BadS.drew {w W : World} {A B C : Array Value} (h : BadS w W A B C) : BadS w W.drew A B C := ⟨h.1.drew, h.2.1, h.2.2.1, h.2.2.2⟩
theorem BadS.moved {w W W' : World} {A B C : Array Value} {r : Option Nat} (h : BadS w W A B C) (hg : W.grownBy W' r) (hr : ∀ q, r = some q → w.heap.size + 3 ≤ q) : BadS w W' A B C :=
  ⟨h.1.grown hg h.1.size (fun q hq => by have := hr q hq; omega), h.2.1.grown hg (fun e => by have := hr _ e.symm; omega), h.2.2.1.grown hg (fun e => by have := hr _ e.symm; omega), h.2.2.2.grown hg (fun e => by have := hr _ e.symm; omega)⟩

set_option maxRecDepth 20000 in
set_option maxHeartbeats 6400000 in
theorem badPairs_any (a b P : IaD) (v u pv : Value) (w : World) (h : IaRow w a v) (k : IaRow w b u) (hp : IaRow w P pv) (fa : Small a) (fb : Small b) (oka : iaOkB a = true) (okb : iaOkB b = true) (hends : ∀ x ∈ P.steps, (0 ≤ x.1 ∧ x.1 ≤ a.states * b.states - 1) ∧ (0 ≤ x.2.2 ∧ x.2.2 ≤ a.states * b.states - 1)) (hlen : P.steps.length ≤ 400) (hpi : P.ins.length ≤ 1048576) :
    Calls Tryz.prog 69 #[v, u, pv] w fun e w' => ∃ (M n : Nat) (F : List Pr), e = .returned (.map (some M)) ∧ MapB w' M n (fun p q => decide ((p, q) ∈ F)) ∧ w.heap.size ≤ M ∧ n ≤ 1600 ∧ (∀ x, x ∈ F ↔ ComeP (fun x => backB b.states P.ins P.steps x.1 x.2) (allP (clashB a b) b.states.toNat a.states.toNat) x) ∧ Below w.heap.size w w' := by
  have CC : Hid (∀ W, Below w.heap.size w W → Calls Tryz.prog 120 #[v, u] W fun e w' => ∃ M n, e = .returned (.map (some M)) ∧ MapB w' M n (doneS (clashB a b) b.states.toNat a.states.toNat 0) ∧ W.heap.size ≤ M ∧ n ≤ 1600 ∧ Below W.heap.size W w') := fun W hW => clashingPairs_any a b v u W (h.below hW) (k.below hW) fa fb oka okb
  have sA := iaOk_states oka
  have sB := iaOk_states okb
  obtain ⟨a2, n2, c2, a3, n3, c3, a4, n4, c4, a5, n5, c5, rfl, r2, r3, r4, r5⟩ := h
  obtain ⟨b2, m2, d2, b3, m3, d3, b4, m4, d4, b5, m5, d5, rfl, q2, q3, q4, q5⟩ := k
  obtain ⟨p2, o2, e2, p3, o3, e3, p4, o4, e4, p5, o5, e5, rfl, s2, s3, s4, s5⟩ := hp
  obtain ⟨st, it, ins, outs, hids, steps⟩ := a
  obtain ⟨su, iu, jns, juts, jids, jteps⟩ := b
  obtain ⟨pst, pit, pins, pouts, phids, psteps⟩ := P
  simp only at s2 s5 hends hlen hpi sA sB CC
  have R2 := Lib.hid s2
  have R5 := Lib.hid s5
  have hl5 := s5.1
  have HE := Lib.hid hends
  clear r2 r3 r4 r5 q2 q3 q4 q5 s2 s3 s4 s5 fa fb oka okb hends
  have S0 : Hid (BadS w (((w.alloc (.cells #[.int .i64 st, .int .i64 it, .slice a2 n2 c2, .slice a3 n3 c3, .slice a4 n4 c4, .slice a5 n5 c5] 27)).alloc (.cells #[.int .i64 su, .int .i64 iu, .slice b2 m2 d2, .slice b3 m3 d3, .slice b4 m4 d4, .slice b5 m5 d5] 27)).alloc (.cells #[.int .i64 pst, .int .i64 pit, .slice p2 o2 e2, .slice p3 o3 e3, .slice p4 o4 e4, .slice p5 o5 e5] 27)) (iaC st it a2 n2 c2 a3 n3 c3 a4 n4 c4 a5 n5 c5) (iaC su iu b2 m2 d2 b3 m3 d3 b4 m4 d4 b5 m5 d5) (iaC pst pit p2 o2 e2 p3 o3 e3 p4 o4 e4 p5 o5 e5)) := by
    have h0 := Box2.start w (iaC st it a2 n2 c2 a3 n3 c3 a4 n4 c4 a5 n5 c5) (iaC su iu b2 m2 d2 b3 m3 d3 b4 m4 d4 b5 m5 d5) 27
    exact ⟨h0.1.alloc h0.1.size _, h0.2.1.alloc _, h0.2.2.alloc _, VarIs.new _ #[.int .i64 pst, .int .i64 pit, .slice p2 o2 e2, .slice p3 o3 e3, .slice p4 o4 e4, .slice p5 o5 e5] 27 (by simp)⟩
  have ca0 := S0.out.2.1.cell (j := 0) (u := .int .i64 st) rfl
  have ca1 := S0.out.2.1.cell (j := 1) (u := .int .i64 it) rfl
  have ca2 := S0.out.2.1.cell (j := 2) (u := .slice a2 n2 c2) rfl
  have ca3 := S0.out.2.1.cell (j := 3) (u := .slice a3 n3 c3) rfl
  have ca4 := S0.out.2.1.cell (j := 4) (u := .slice a4 n4 c4) rfl
  have ca5 := S0.out.2.1.cell (j := 5) (u := .slice a5 n5 c5) rfl
  have cb0 := S0.out.2.2.1.cell (j := 0) (u := .int .i64 su) rfl
  have cb1 := S0.out.2.2.1.cell (j := 1) (u := .int .i64 iu) rfl
  have cb2 := S0.out.2.2.1.cell (j := 2) (u := .slice b2 m2 d2) rfl
  have cb3 := S0.out.2.2.1.cell (j := 3) (u := .slice b3 m3 d3) rfl
  have cb4 := S0.out.2.2.1.cell (j := 4) (u := .slice b4 m4 d4) rfl
  have cb5 := S0.out.2.2.1.cell (j := 5) (u := .slice b5 m5 d5) rfl
  go_enter Tryz.func69, Tryz.ntmps69
  go_wp2_with fail
  clear ca0 ca1 ca2 ca3 ca4 ca5 cb0 cb1 cb2 cb3 cb4 cb5
  refine (CC.out _ S0.out.1).mono ?_
  rintro e w1 ⟨MC, nC, rfl, hmc, hMC, hnC, hb⟩
  have S1 := Lib.hid (S0.out.below hb)
  have HMC := Lib.hid hmc
  have HMS : Hid (w.heap.size + 3 ≤ w1.heap.size) := by
    have h1 := hb.size
    simp at h1
    unfold Hid
    omega
  clear hb hmc S0 CC
  have bx : Hid (Below w1.heap.size w1 ((w1.alloc (.map #[] 0)).alloc (.cells #[.map (some w1.heap.size)] 139))) := ((Below.refl _ _).alloc (Nat.le_refl _) _).alloc (by simp) _
  have HM0 : Hid (MapQ ((w1.alloc (.map #[] 0)).alloc (.cells #[.map (some w1.heap.size)] 139)) w1.heap.size 0 w1.heap.size (backB su pins [])) := by
    rw [backB_nil]
    exact (MapQ.made w1 w1.heap.size).below ((Below.refl _ _).alloc (Nat.le_refl _) _)
  have V3 : Hid (VarIs ((w1.alloc (.map #[] 0)).alloc (.cells #[.map (some w1.heap.size)] 139)) (w1.heap.size + 1) #[.map (some w1.heap.size)] 139) := VarIs.new _ #[.map (some w1.heap.size)] 139 (by simp)
  have cp5 := (S1.out.below bx.out).2.2.2.cell (j := 5) (u := .slice p5 o5 e5) rfl
  have hmk : (Instr.makeMap 139 none).run Tryz.prog w1 = .ok (.map (some w1.heap.size)) (w1.alloc (.map #[] 0)) := rfl
  go_wp2_with fail
  clear cp5 hmk
  go_loopw [22] (fun iv wr => ∃ k n : Nat, k ≤ o5 ∧ iv = .int .i64 (k : Int) ∧ Hid (MapQ wr w1.heap.size n w1.heap.size (backB su pins (psteps.take k))) ∧ n ≤ k ∧ Hid (Below w1.heap.size w1 wr) ∧ Hid (VarIs wr (w1.heap.size + 1) #[.map (some w1.heap.size)] 139)) (fun iv _ => o5 - (intOf iv).toNat)
  case atStart => exact ⟨0, 0, Nat.zero_le _, rfl, by unfold Hid; simpa using HM0.out, Nat.le_refl _, bx.out, V3.out⟩
  case round =>
    obtain ⟨k, n, hk, rfl, HMQ, hn, HB, HV⟩ := hrel
    clear HM0 V3 bx
    by_cases hlt : k < o5
    · obtain ⟨b, off, rfl, hbx, hcell⟩ := R5.out.2 (by omega)
      have hkx : k < psteps.length := by omega
      obtain ⟨⟨xf, xa, xt⟩, hs⟩ : ∃ t, t = psteps[k] := ⟨_, rfl⟩
      obtain ⟨c0, c1, c2x⟩ := hcell k psteps[k] (List.getElem?_eq_getElem hkx)
      obtain ⟨hf, ht⟩ := HE.out psteps[k] (List.getElem_mem hkx)
      rw [← hs] at c0 c1 c2x hf ht
      simp only at c0 c1 c2x hf ht
      have hww : Below w.heap.size w wr := S1.out.1.trans (HB.out.mono S1.out.1.size)
      have g0 := (hww.cell (p := ⟨b, off + k * 3, none⟩) hbx).trans c0
      have g1 := (hww.cell (p := ⟨b, off + k * 3 + 1, none⟩) hbx).trans c1
      have g2 := (hww.cell (p := ⟨b, off + k * 3 + 2, none⟩) hbx).trans c2x
      (try simp only at g0 g1 g2)
      have hsz : w1.heap.size + 1 < wr.heap.size := HV.out.lt
      have HLT : Hid (w1.heap.size < wr.heap.size) := by unfold Hid; omega
      have X1 : Hid (VarIs (wr.alloc (.cells #[.int .i64 xf, .int .i64 xa, .int .i64 xt] 77)) wr.heap.size #[.int .i64 xf, .int .i64 xa, .int .i64 xt] 77) := VarIs.new wr _ _ rfl
      have bX : Hid (Below wr.heap.size wr (wr.alloc (.cells #[.int .i64 xf, .int .i64 xa, .int .i64 xt] 77))) := (Below.refl _ _).alloc (Nat.le_refl _) _
      have SX := Lib.hid ((S1.out.below HB.out).below bX.out)
      obtain ⟨q, hq⟩ : ∃ q, q = hasB pins xa := ⟨_, rfl⟩
      have CH : Hid (∀ W, Below w.heap.size w W → Calls Tryz.prog 53 #[.slice p2 o2 e2, .int .i64 xa] W fun e w' => e = .returned (.bool q) ∧ W = w') := fun W hW => by
        rw [hq]
        exact (implSetHas_any p2 o2 e2 xa pins W (R2.out.below hW) (by have := R2.out.1; omega)).mono fun e w' h => ⟨h.1, h.2.symm⟩
      have HQ := Lib.hid hq
      have HS := Lib.hid hs
      have x0 := X1.out.cell (j := 0) (u := .int .i64 xf) rfl
      have x1 := X1.out.cell (j := 1) (u := .int .i64 xa) rfl
      have x2 := X1.out.cell (j := 2) (u := .int .i64 xt) rfl
      have cp2 := SX.out.2.2.2.cell (j := 2) (u := .slice p2 o2 e2) rfl
      clear c0 c1 c2x hcell hq hs hww
      go_wp2_with fail
      clear g0 g1 g2
      refine (CH.out _ SX.out.1).mono ?_
      rintro e wq ⟨rfl, rfl⟩
      cases q with
      | true =>
        have HN : Hid (backB su pins (psteps.take (k + 1)) = backB su pins (psteps.take k)) := by
          unfold Hid
          rw [List.take_succ_eq_append_getElem hkx, backB_skip (by rw [← HS.out]; exact HQ.out.symm)]
        go_wp2_with fail
        go_roundw
        case rel => exact ⟨k + 1, n, by omega, by go_num, by unfold Hid; rw [HN.out]; exact HMQ.out.below bX.out, by omega, HB.out.trans (bX.out.mono HB.out.size), HV.out.below bX.out⟩
        case measure => simp [intOf]; omega
      | false =>
        obtain ⟨⟨t0, t1⟩, ht01⟩ : ∃ t, t = pairOf su xt := ⟨_, rfl⟩
        obtain ⟨⟨f0, f1⟩, hf01⟩ : ∃ t, t = pairOf su xf := ⟨_, rfl⟩
        have hm := (mul_low sA sB).2
        have hlow := low_pairOf sB (s := xt) (n := st) (by omega) ht.1 ht.2
        rw [← ht01] at hlow
        simp only at hlow
        have WT0 : Hid ((Lit.int .i64 t0).wf = true) := wf_low (by omega) (by omega)
        have WT1 : Hid ((Lit.int .i64 t1).wf = true) := wf_low (by omega) (by omega)
        have CPT : Hid (∀ W, Calls Tryz.prog 121 #[.agg #[.int .i64 su, .int .i64 iu, .slice b2 m2 d2, .slice b3 m3 d3, .slice b4 m4 d4, .slice b5 m5 d5], .int .i64 xt] W fun e w' => e = .returned (.agg #[.int .i64 t0, .int .i64 t1]) ∧ Below W.heap.size W w') := fun W => by
          have h0 := implPairOf_any su iu (.slice b2 m2 d2) (.slice b3 m3 d3) (.slice b4 m4 d4) (.slice b5 m5 d5) xt W
          rw [← ht01] at h0
          exact h0
        have CPO : Hid (∀ W, Calls Tryz.prog 121 #[.agg #[.int .i64 su, .int .i64 iu, .slice b2 m2 d2, .slice b3 m3 d3, .slice b4 m4 d4, .slice b5 m5 d5], .int .i64 xf] W fun e w' => e = .returned (.agg #[.int .i64 f0, .int .i64 f1]) ∧ Below W.heap.size W w') := fun W => by
          have h0 := implPairOf_any su iu (.slice b2 m2 d2) (.slice b3 m3 d3) (.slice b4 m4 d4) (.slice b5 m5 d5) xf W
          rw [← hf01] at h0
          exact h0
        obtain ⟨BB, hBB⟩ : ∃ B, B = backB su pins (psteps.take k) := ⟨_, rfl⟩
        have HN : Hid (backB su pins (psteps.take (k + 1)) = addP BB t0 t1 (f0, f1)) := by
          unfold Hid
          rw [List.take_succ_eq_append_getElem hkx, backB_put (by rw [← HS.out]; exact HQ.out.symm), ← HS.out, hBB]
          simp only
          rw [← ht01, ← hf01]
        have HBL : Hid ((BB t0 t1).length ≤ 400) := by
          rw [hBB]
          have h1 := backB_len su pins (psteps.take k) t0 t1
          have h2 : (psteps.take k).length ≤ psteps.length := by rw [List.length_take]; omega
          unfold Hid
          omega
        rw [← hBB] at HMQ
        clear hBB ht01 hf01 hf ht hlow hm
        have cb0 := SX.out.2.2.1.cell (j := 0) (u := .int .i64 su) rfl
        have cb1 := SX.out.2.2.1.cell (j := 1) (u := .int .i64 iu) rfl
        have cb2 := SX.out.2.2.1.cell (j := 2) (u := .slice b2 m2 d2) rfl
        have cb3 := SX.out.2.2.1.cell (j := 3) (u := .slice b3 m3 d3) rfl
        have cb4 := SX.out.2.2.1.cell (j := 4) (u := .slice b4 m4 d4) rfl
        have cb5 := SX.out.2.2.1.cell (j := 5) (u := .slice b5 m5 d5) rfl
        go_wp2_with fail
        clear cb0 cb1 cb2 cb3 cb4 cb5 x0 x1 x2 cp2
        refine (CPT.out _).mono ?_
        rintro e wt ⟨rfl, hb⟩
        have bt : Hid (Below wt.heap.size wt (wt.alloc (.cells #[.int .i64 t0, .int .i64 t1] 84))) := (Below.refl _ _).alloc (Nat.le_refl _) _
        have BXT : Hid (Below wr.heap.size wr wt) := bX.out.trans (hb.mono bX.out.size)
        have BRT : Hid (Below wr.heap.size wr (wt.alloc (.cells #[.int .i64 t0, .int .i64 t1] 84)).drew) := (BXT.out.trans (bt.out.mono BXT.out.size)).drew
        have HWT : Hid (wr.heap.size < wt.heap.size) := by
          have h1 := hb.size
          simp at h1
          unfold Hid
          omega
        have S8 : BadS w (wt.alloc (.cells #[.int .i64 t0, .int .i64 t1] 84)).drew (iaC st it a2 n2 c2 a3 n3 c3 a4 n4 c4 a5 n5 c5) (iaC su iu b2 m2 d2 b3 m3 d3 b4 m4 d4 b5 m5 d5) (iaC pst pit p2 o2 e2 p3 o3 e3 p4 o4 e4 (some ⟨b, off, none⟩) o5 e5) ∧ VarIs (wt.alloc (.cells #[.int .i64 t0, .int .i64 t1] 84)).drew (w1.heap.size + 1) #[.map (some w1.heap.size)] 139 ∧ VarIs (wt.alloc (.cells #[.int .i64 t0, .int .i64 t1] 84)).drew wr.heap.size #[.int .i64 xf, .int .i64 xa, .int .i64 xt] 77 ∧ VarIs (wt.alloc (.cells #[.int .i64 t0, .int .i64 t1] 84)).drew wt.heap.size #[.int .i64 t0, .int .i64 t1] 84 ∧ Below w1.heap.size w1 (wt.alloc (.cells #[.int .i64 t0, .int .i64 t1] 84)).drew := ⟨(((SX.out.below hb).below bt.out)).drew, (((HV.out.below bX.out).below hb).below bt.out).drew, ((X1.out.below hb).below bt.out).drew, (VarIs.new wt #[.int .i64 t0, .int .i64 t1] 84 rfl).drew, (HB.out.trans (BRT.out.mono HB.out.size))⟩
        have SD := S8
        clear hb bt BXT S8 SX X1 CPT CH HV bX
        go_wp2_with fail
        refine wp_region_tf (S := fun w' => BadS w w' (iaC st it a2 n2 c2 a3 n3 c3 a4 n4 c4 a5 n5 c5) (iaC su iu b2 m2 d2 b3 m3 d3 b4 m4 d4 b5 m5 d5) (iaC pst pit p2 o2 e2 p3 o3 e3 p4 o4 e4 (some ⟨b, off, none⟩) o5 e5) ∧ VarIs w' (w1.heap.size + 1) #[.map (some w1.heap.size)] 139 ∧ VarIs w' wr.heap.size #[.int .i64 xf, .int .i64 xa, .int .i64 xt] 77 ∧ VarIs w' wt.heap.size #[.int .i64 t0, .int .i64 t1] 84 ∧ Below w1.heap.size w1 w') 12 (by kernel_rfl) (by kernel_rfl) (by kernel_rfl) SD (fun hHeld => ?_)
        refine fast1 0 36 (.map (some w1.heap.size)) (.tmp 8) (.pointer (some ⟨w1.heap.size + 1, 0, none⟩)) (fuel := 11) rfl rfl (by kernel_rfl) (by kernel_rfl) (by kernel_rfl) (fun _ _ _ h => h) (by kernel_rfl) (by kernel_rfl) (fun ρ hr0 _ w hSw => by have m := hSw.2.1.cell (j := 0) (u := .map (some w1.heap.size)) rfl; simp [go_sem, hr0, m]) hHeld (tf 1 12) (by kernel_rfl) (fun K hK => ?_)
        go_big_move
        refine hK.out _ ?_
        clear hK K
        refine fast_yields 1 37 (.agg #[.int .i64 t0, .int .i64 t1]) (fuel := 10) rfl rfl (by kernel_rfl) (by kernel_rfl) (by kernel_rfl) (fun _ _ _ h => h) (yieldsIf_load_mid (by rfl) _ _ rfl (wt.heap.size) 0 rfl #[.int .i64 t0, .int .i64 t1].toList _ (fun w hw => hw.2.2.2.1.range) Tryz.underlying84 rfl (by kernel_rfl)) hHeld (tf 3 12) (by kernel_rfl) (fun K hK => ?_)
        go_big_move
        refine hK.out _ ?_
        clear hK K
        refine fast_yields 2 39 (.agg #[.int .i64 su, .int .i64 iu, .slice b2 m2 d2, .slice b3 m3 d3, .slice b4 m4 d4, .slice b5 m5 d5]) (fuel := 9) rfl rfl (by kernel_rfl) (by kernel_rfl) (by kernel_rfl) (fun _ _ _ h => h) (yieldsIf_load_mid (by rfl) _ _ rfl (w.heap.size + 1) 0 rfl (iaC su iu b2 m2 d2 b3 m3 d3 b4 m4 d4 b5 m5 d5).toList _ (fun w hw => hw.1.2.2.1.range) Tryz.underlying27 rfl (by kernel_rfl)) hHeld (tf 7 12) (by kernel_rfl) (fun K hK => ?_)
        go_big_move
        refine hK.out _ ?_
        clear hK K
        refine fast1 3 40 (.pointer (some ⟨wr.heap.size, 0, none⟩)) (.tmp 10) (.pointer (some ⟨wr.heap.size, 0, none⟩)) (fuel := 8) rfl rfl (by kernel_rfl) (by kernel_rfl) (by kernel_rfl) (fun _ _ _ h => h) (by kernel_rfl) (by kernel_rfl) (fun ρ hr0 _ w hSw => by simp [go_sem, hr0]) hHeld (tf 15 12) (by kernel_rfl) (fun K hK => ?_)
        go_big_move
        refine hK.out _ ?_
        clear hK K
        refine fast1 4 41 (.int .i64 xf) (.tmp 40) (.pointer (some ⟨wr.heap.size, 0, none⟩)) (fuel := 7) rfl rfl (by kernel_rfl) (by kernel_rfl) (by kernel_rfl) (fun _ _ _ h => h) (by kernel_rfl) (by kernel_rfl) (fun ρ hr0 _ w hSw => by have m := hSw.2.2.1.cell (j := 0) (u := .int .i64 xf) rfl; simp [go_sem, hr0, m]) hHeld (tf 31 12) (by kernel_rfl) (fun K hK => ?_)
        go_big_move
        refine hK.out _ ?_
        clear hK K
        refine wpAnyH_ready (rs := [5]) (fuel := 6) (by kernel_rfl) (by simp) ?_
        refine ready_want rfl (by kernel_rfl) (tf 63 12) (by kernel_rfl) (fun K hK => ?_) AllReadyH.nil
        simp only [List.getElem_toArray, List.getElem_cons_succ, List.getElem_cons_zero]
        go_big_op
        refine (CPO.out _).mono ?_
        rintro e w5 ⟨rfl, hb⟩
        have hS5 : BadS w w5 (iaC st it a2 n2 c2 a3 n3 c3 a4 n4 c4 a5 n5 c5) (iaC su iu b2 m2 d2 b3 m3 d3 b4 m4 d4 b5 m5 d5) (iaC pst pit p2 o2 e2 p3 o3 e3 p4 o4 e4 (some ⟨b, off, none⟩) o5 e5) ∧ VarIs w5 (w1.heap.size + 1) #[.map (some w1.heap.size)] 139 ∧ VarIs w5 wr.heap.size #[.int .i64 xf, .int .i64 xa, .int .i64 xt] 77 ∧ VarIs w5 wt.heap.size #[.int .i64 t0, .int .i64 t1] 84 ∧ Below w1.heap.size w1 w5 := ⟨hHeld.1.below hb, hHeld.2.1.below hb, hHeld.2.2.1.below hb, hHeld.2.2.2.1.below hb, hHeld.2.2.2.2.trans (hb.mono hHeld.2.2.2.2.size)⟩
        have BR5 := Lib.hid (BRT.out.trans (hb.mono BRT.out.size))
        clear hb
        refine hK.out _ _ hS5 (fun hHeld => ?_)
        clear hK K
        refine wpAnyH_ready (rs := [6]) (fuel := 5) (by kernel_rfl) (by simp) ?_
        refine ready_want rfl (by kernel_rfl) (tf 127 12) (by kernel_rfl) (fun K hK => ?_) AllReadyH.nil
        simp only [List.getElem_toArray, List.getElem_cons_succ, List.getElem_cons_zero]
        go_big_op
        have bx6 : Below w5.heap.size w5 (w5.alloc (.cells #[.int .i64 f0, .int .i64 f1] 84)) := (Below.refl _ _).alloc (Nat.le_refl _) _
        refine hK.out _ _ ⟨hHeld.1.below bx6, hHeld.2.1.below bx6, hHeld.2.2.1.below bx6, hHeld.2.2.2.1.below bx6, hHeld.2.2.2.2.trans (bx6.mono hHeld.2.2.2.2.size)⟩ (fun hHeld => ?_)
        clear hK K
        obtain ⟨v0, bn, w7, hrun0, ho0, hv0, hg7, hback⟩ := HMQ.out.entryAt (w := (w5.alloc (.cells #[.int .i64 f0, .int .i64 f1] 84))) (t := 139) Tryz.underlying139 (BR5.out.trans (bx6.mono BR5.out.size)) (by unfold maxLen; omega) WT0.out WT1.out
        have V0L := Lib.hid hv0
        have hrun : (Instr.mapEntry 139 (.map (some w1.heap.size)) (.agg #[.int .i64 t0, .int .i64 t1])).run Tryz.prog (w5.alloc (.cells #[.int .i64 f0, .int .i64 f1] 84)) = .ok (.tuple #[v0, .int .i64 (bn : Int)]) w7 := hrun0
        have O7 := Lib.hid ho0
        have HBK := Lib.hid hback
        have SR7 : Hid (SrcP w7 ⟨w5.heap.size, 0, none⟩ (f0, f1)) := fun j u hu => hg7.cell (srcP_new (w := w5) (t := 84) (p := f0) (q := f1) j u hu) (fun e => by rw [add_lit] at e; have h1 : w5.heap.size = w1.heap.size := Option.some.inj e; have h2 := HLT.out; have h3 := BR5.out.size; omega)
        have hS7 : BadS w w7 (iaC st it a2 n2 c2 a3 n3 c3 a4 n4 c4 a5 n5 c5) (iaC su iu b2 m2 d2 b3 m3 d3 b4 m4 d4 b5 m5 d5) (iaC pst pit p2 o2 e2 p3 o3 e3 p4 o4 e4 (some ⟨b, off, none⟩) o5 e5) ∧ VarIs w7 (w1.heap.size + 1) #[.map (some w1.heap.size)] 139 ∧ VarIs w7 wr.heap.size #[.int .i64 xf, .int .i64 xa, .int .i64 xt] 77 ∧ VarIs w7 wt.heap.size #[.int .i64 t0, .int .i64 t1] 84 ∧ Below w1.heap.size w1 w7 := ⟨hHeld.1.moved hg7 (fun q hq => by have h1 := Option.some.inj hq; have h2 := HMS.out; omega), hHeld.2.1.grown hg7 (fun e => by have h1 := Option.some.inj e; have h2 := HLT.out; have h3 := HWT.out; have h4 := HMS.out; omega), hHeld.2.2.1.grown hg7 (fun e => by have h1 := Option.some.inj e; have h2 := HLT.out; have h3 := HWT.out; have h4 := HMS.out; omega), hHeld.2.2.2.1.grown hg7 (fun e => by have h1 := Option.some.inj e; have h2 := HLT.out; have h3 := HWT.out; have h4 := HMS.out; omega), hHeld.2.2.2.2.grown hg7 hHeld.2.2.2.2.size (fun q hq => by have h1 := Option.some.inj hq; omega)⟩
        clear ho0 hback bx6 hrun0 hg7 hv0
        refine wpAnyH_ready (rs := [7]) (fuel := 4) (by kernel_rfl) (by simp) ?_
        refine ready_want rfl (by kernel_rfl) (tf 255 12) (by kernel_rfl) (fun K hK => ?_) AllReadyH.nil
        simp only [List.getElem_toArray, List.getElem_cons_succ, List.getElem_cons_zero]
        go_big_op
        refine hK.out _ _ hS7 (fun hHeld => ?_)
        clear hK K hS7 hrun
        obtain ⟨i0, hi, hz, hsize, hby⟩ := info_parts info_pair
        obtain ⟨v1, w9, hap, hown9, hg9, _, hat⟩ := run_append_own_at (P := Tryz.prog) w7 w1.heap.size 52 52 84 i0 (.agg #[.int .i64 0, .int .i64 0]) 2 16 Tryz.underlying52 hi hz hsize hby rfl (by decide) v0 _ _ O7.out ⟨w5.heap.size, 0, none⟩ 1 1 (flatP [(f0, f1)]) rfl (by intro j u hu; exact SR7.out j u (by simpa [flatP] using hu)) (flatP_one _) (by unfold maxLen; have := HBL.out; omega) (by have := HBL.out; omega) (by have h1 := hHeld.2.1.lt; omega)
        have O9 : Hid (OwnsP w9 w1.heap.size v1 ((BB t0 t1).length + 1) (BB t0 t1 ++ [(f0, f1)])) := by
          unfold Hid OwnsP
          rw [flatP_append]
          exact hown9
        obtain ⟨w10, hst0, MQ10, hg10⟩ := HBK.out w9 v1 (f0, f1) hg9 O9.out hat
        have hst : (Instr.entryStore 139 (.map (some w1.heap.size)) (.int .i64 (bn : Int)) v1).run Tryz.prog w9 = .ok () w10 := hst0
        have HMQ10 := Lib.hid MQ10
        have hS9 : BadS w w9 (iaC st it a2 n2 c2 a3 n3 c3 a4 n4 c4 a5 n5 c5) (iaC su iu b2 m2 d2 b3 m3 d3 b4 m4 d4 b5 m5 d5) (iaC pst pit p2 o2 e2 p3 o3 e3 p4 o4 e4 (some ⟨b, off, none⟩) o5 e5) ∧ VarIs w9 (w1.heap.size + 1) #[.map (some w1.heap.size)] 139 ∧ VarIs w9 wr.heap.size #[.int .i64 xf, .int .i64 xa, .int .i64 xt] 77 ∧ VarIs w9 wt.heap.size #[.int .i64 t0, .int .i64 t1] 84 ∧ Below w1.heap.size w1 w9 := ⟨hHeld.1.moved hg9 (fun q hq => by have h1 := (O7.out.lt q hq).1; have h2 := HMS.out; omega), hHeld.2.1.grown hg9 (fun e => own_var O7.out hHeld.2.1 (by decide) e.symm), hHeld.2.2.1.grown hg9 (fun e => own_var O7.out hHeld.2.2.1 (by decide) e.symm), hHeld.2.2.2.1.grown hg9 (fun e => by have h1 := V0L.out _ e.symm; have h2 := HWT.out; omega), hHeld.2.2.2.2.grown hg9 hHeld.2.2.2.2.size (fun q hq => (O7.out.lt q hq).1)⟩
        have hS10 : BadS w w10 (iaC st it a2 n2 c2 a3 n3 c3 a4 n4 c4 a5 n5 c5) (iaC su iu b2 m2 d2 b3 m3 d3 b4 m4 d4 b5 m5 d5) (iaC pst pit p2 o2 e2 p3 o3 e3 p4 o4 e4 (some ⟨b, off, none⟩) o5 e5) ∧ VarIs w10 (w1.heap.size + 1) #[.map (some w1.heap.size)] 139 ∧ VarIs w10 wr.heap.size #[.int .i64 xf, .int .i64 xa, .int .i64 xt] 77 ∧ VarIs w10 wt.heap.size #[.int .i64 t0, .int .i64 t1] 84 ∧ Below w1.heap.size w1 w10 := ⟨hS9.1.moved hg10 (fun q hq => by have h1 := Option.some.inj hq; have h2 := HMS.out; omega), hS9.2.1.grown hg10 (fun e => by have h1 := Option.some.inj e; have h2 := HLT.out; have h3 := HWT.out; have h4 := HMS.out; omega), hS9.2.2.1.grown hg10 (fun e => by have h1 := Option.some.inj e; have h2 := HLT.out; have h3 := HWT.out; have h4 := HMS.out; omega), hS9.2.2.2.1.grown hg10 (fun e => by have h1 := Option.some.inj e; have h2 := HLT.out; have h3 := HWT.out; have h4 := HMS.out; omega), hS9.2.2.2.2.grown hg10 hS9.2.2.2.2.size (fun q hq => by have h1 := Option.some.inj hq; omega)⟩
        clear hst0 MQ10 hown9 hat HBK SR7 hi hz hsize hby
        refine fast1 8 38 (v0) (.tmp 44) (.tuple #[v0, .int .i64 (bn : Int)]) (fuel := 3) rfl rfl (by kernel_rfl) (by kernel_rfl) (by kernel_rfl) (fun _ _ _ h => h) (by kernel_rfl) (by kernel_rfl) (fun ρ hr0 _ w hSw => by simp [go_sem, hr0]) hHeld (tf 511 12) (by kernel_rfl) (fun K hK => ?_)
        go_big_move
        refine hK.out _ ?_
        clear hK K
        refine fast1 10 46 (.int .i64 (bn : Int)) (.tmp 44) (.tuple #[v0, .int .i64 (bn : Int)]) (fuel := 2) rfl rfl (by kernel_rfl) (by kernel_rfl) (by kernel_rfl) (fun _ _ _ h => h) (by kernel_rfl) (by kernel_rfl) (fun ρ hr0 _ w hSw => by simp [go_sem, hr0]) hHeld (tf 1535 12) (by kernel_rfl) (fun K hK => ?_)
        go_big_move
        refine hK.out _ ?_
        clear hK K
        refine wpAnyH_ready (rs := [9]) (fuel := 1) (by kernel_rfl) (by simp) ?_
        refine ready_want rfl (by kernel_rfl) (tf 2047 12) (by kernel_rfl) (fun K hK => ?_) AllReadyH.nil
        simp only [List.getElem_toArray, List.getElem_cons_succ, List.getElem_cons_zero]
        refine wp_append_at _ _ _ rfl _ rfl _ _ _ (by kernel_rfl) (by kernel_rfl) hap ?_
        simp only [Act.put, List.setIfInBounds_toArray, List.set_cons_zero, List.set_cons_succ]
        refine hK.out _ _ hS9 (fun hHeld => ?_)
        clear hK K hap
        refine wpAnyH_ready (rs := [11]) (fuel := 0) (by kernel_rfl) (by simp) ?_
        refine ready_want rfl (by kernel_rfl) (tf 4095 12) (by kernel_rfl) (fun K hK => ?_) AllReadyH.nil
        simp only [List.getElem_toArray, List.getElem_cons_succ, List.getElem_cons_zero]
        go_big_op
        refine hK.out _ _ hS10 (fun hHeld => ?_)
        clear hK K hst
        refine wpAnyH_done (by kernel_rfl) ?_ _
        have SE := Lib.hid hHeld
        clear hHeld SD CPO
        go_wp2_with fail
        go_roundw
        case rel => exact ⟨k + 1, n + 1, by omega, by go_num, by rw [HN.out]; exact HMQ10.out, by omega, SE.out.2.2.2.2, SE.out.2.1⟩
        case measure => simp [intOf]; omega
    · have HALL : Hid (MapQ wr w1.heap.size n w1.heap.size (backB su pins psteps)) := by
        have h1 := HMQ.out
        rw [List.take_of_length_le (by omega)] at h1
        exact h1
      clear HMQ
      have S2 := Lib.hid (S1.out.below HB.out)
      have HMC2 := Lib.hid (HMC.out.below HB.out)
      have bm : Hid (Below wr.heap.size wr (wr.alloc (.map #[] 0))) := (Below.refl _ _).alloc (Nat.le_refl _) _
      have S3 := Lib.hid (S2.out.below bm.out)
      have HMC3 := Lib.hid (HMC2.out.below bm.out)
      have HV3 := Lib.hid (HV.out.below bm.out)
      have HA3 := Lib.hid (HALL.out.below bm.out)
      have HB3 : Hid (MapB (wr.alloc (.map #[] 0)) wr.heap.size 0 (fun _ _ => false)) := MapB.made wr
      have hmk2 : (Instr.makeMap 87 none).run Tryz.prog wr = .ok (.map (some wr.heap.size)) (wr.alloc (.map #[] 0)) := rfl
      have hMr : w1.heap.size < wr.heap.size := by have := HV.out.lt; omega
      have hzm : (wr.alloc (.map #[] 0)).heap.size = wr.heap.size + 1 := by simp
      have ca0 := S3.out.2.1.cell (j := 0) (u := .int .i64 st) rfl
      have ca1 := S3.out.2.1.cell (j := 1) (u := .int .i64 it) rfl
      have ca2 := S3.out.2.1.cell (j := 2) (u := .slice a2 n2 c2) rfl
      have ca3 := S3.out.2.1.cell (j := 3) (u := .slice a3 n3 c3) rfl
      have ca4 := S3.out.2.1.cell (j := 4) (u := .slice a4 n4 c4) rfl
      have ca5 := S3.out.2.1.cell (j := 5) (u := .slice a5 n5 c5) rfl
      have cb0 := S3.out.2.2.1.cell (j := 0) (u := .int .i64 su) rfl
      have cb1 := S3.out.2.2.1.cell (j := 1) (u := .int .i64 iu) rfl
      have cb2 := S3.out.2.2.1.cell (j := 2) (u := .slice b2 m2 d2) rfl
      have cb3 := S3.out.2.2.1.cell (j := 3) (u := .slice b3 m3 d3) rfl
      have cb4 := S3.out.2.2.1.cell (j := 4) (u := .slice b4 m4 d4) rfl
      have cb5 := S3.out.2.2.1.cell (j := 5) (u := .slice b5 m5 d5) rfl
      have L0E : Hid (allP (doneS (clashB ⟨st, it, ins, outs, hids, steps⟩ ⟨su, iu, jns, juts, jids, jteps⟩) su.toNat st.toNat 0) su.toNat st.toNat = allP (clashB ⟨st, it, ins, outs, hids, steps⟩ ⟨su, iu, jns, juts, jids, jteps⟩) su.toNat st.toNat) := allP_done _ _ _
      obtain ⟨L0, hL0⟩ : ∃ L, L = allP (clashB ⟨st, it, ins, outs, hids, steps⟩ ⟨su, iu, jns, juts, jids, jteps⟩) su.toNat st.toNat := ⟨_, rfl⟩
      have HL0 : Hid (∀ y ∈ L0, (0 ≤ y.1 ∧ y.1 < st) ∧ (0 ≤ y.2 ∧ y.2 < su)) := fun y hy => by
        rw [hL0] at hy
        have h1 := allP_mem.1 hy
        omega
      obtain ⟨n0, hn0⟩ : ∃ n, n = L0.length := ⟨_, rfl⟩
      have hn0b : n0 ≤ 1048576 := by
        rw [hn0, hL0]
        have h1 := allP_len (clashB ⟨st, it, ins, outs, hids, steps⟩ ⟨su, iu, jns, juts, jids, jteps⟩) su.toNat st.toNat
        have h2 : st.toNat * su.toNat ≤ 40 * 40 := Nat.mul_le_mul (by omega) (by omega)
        omega
      have CPI : Hid (Calls Tryz.prog 123 #[.agg #[.int .i64 st, .int .i64 it, .slice a2 n2 c2, .slice a3 n3 c3, .slice a4 n4 c4, .slice a5 n5 c5], .agg #[.int .i64 su, .int .i64 iu, .slice b2 m2 d2, .slice b3 m3 d3, .slice b4 m4 d4, .slice b5 m5 d5], .map (some MC)] (wr.alloc (.map #[] 0)) fun e w' => ∃ ad c, e = .returned (.slice ad n0 c) ∧ RowP w' ad n0 L0 ∧ Below (wr.alloc (.map #[] 0)).heap.size (wr.alloc (.map #[] 0)) w') := by
        unfold Hid
        rw [hn0, hL0, ← L0E.out]
        refine (pairsInOrder_any st it _ _ _ _ su iu _ _ _ _ MC nC _ _ HMC3.out (by omega) (by omega)).mono ?_
        rintro e w' ⟨v', rfl, ho, hb⟩
        obtain ⟨ad, c, rfl⟩ := ho.form
        exact ⟨ad, c, rfl, ho.row.2.2.2, hb⟩
      have HCOME : Hid (∀ y, ComeP (fun x => backB su pins psteps x.1 x.2) L0 y → (0 ≤ y.1 ∧ y.1 < 40) ∧ (0 ≤ y.2 ∧ y.2 < 40)) := fun y hy => by
        have h1 := ((come_pairs sB sA HE.out HL0.out).1 y hy).1
        omega
      have HL0E := Lib.hid hL0
      clear L0E hn0 hL0
      go_wp2_with fail
      clear ca0 ca1 ca2 ca3 ca4 ca5 cb0 cb1 cb2 cb3 cb4 cb5 hmk2
      refine CPI.out.mono ?_
      rintro e w6 ⟨ad, cc, rfl, hrow, hb⟩
      have S6 := Lib.hid (S3.out.below hb)
      have HV6 := Lib.hid (HV3.out.below hb)
      have HA6 := Lib.hid (HA3.out.below hb)
      have HB6 := Lib.hid (HB3.out.below hb)
      have RW := Lib.hid hrow
      have hz6 := hb.size
      clear hb hrow S3 HV3 HA3 HB3 CPI HMC3
      go_wp2_with fail
      refine (comeToP_any ad n0 cc L0 (w1.heap.size + 1) w1.heap.size n w1.heap.size (backB su pins psteps) _ RW.out hn0b HV6.out HA6.out HCOME.out (fun p q => by have := backB_len su pins psteps p q; omega)).mono ?_
      rintro e w8 ⟨v8, nF, F, rfl, ho, hnF, hF, hb⟩
      have S8 := Lib.hid (S6.out.below hb)
      have HB8 := Lib.hid (HB6.out.below hb)
      have HF := Lib.hid hF
      have HO := Lib.hid ho
      have hz8 := hb.size
      clear hb ho hF S6 HV6 HA6 HB6 RW
      obtain ⟨av, cv, rfl⟩ := HO.out.form
      have HNE : Hid (∀ j, (Value.slice av nF cv).ownBlock = some j → some j ≠ some wr.heap.size) := fun j hj e => by
        have h1 := (HO.out.lt j hj).1
        have h2 := Option.some.inj e
        omega
      obtain ⟨MB, hMB⟩ : ∃ m, m = wr.heap.size := ⟨_, rfl⟩
      rw [← hMB] at HB8 HNE
      have HMBL : Hid (w.heap.size ≤ MB) := by rw [hMB]; have h1 := HMS.out; unfold Hid; omega
      have HLOW : Hid (∀ y ∈ F, (0 ≤ y.1 ∧ y.1 < 40) ∧ (0 ≤ y.2 ∧ y.2 < 40)) := fun y hy => HCOME.out y (HF.out.2.2.1 y hy)
      go_wp2_with fail
      rw [← hMB]
      clear hMB
      go_loopw [56] (fun iv wr => ∃ j m : Nat, j ≤ nF ∧ iv = .int .i64 (j : Int) ∧ Hid (MapB wr MB m (fun p q => decide ((p, q) ∈ F.take j))) ∧ m ≤ j ∧ Hid (w8.grownBy wr (some MB))) (fun iv _ => nF - (intOf iv).toNat)
      case atStart => exact ⟨0, 0, Nat.zero_le _, rfl, by unfold Hid; simpa using HB8.out, Nat.le_refl _, by exact ⟨rfl, rfl, rfl, Nat.le_refl _, fun _ _ _ => rfl⟩⟩
      case round =>
        clear HB8
        obtain ⟨j, m, hj, rfl, HM, hm, HG⟩ := hrel
        by_cases hlt : j < nF
        · have HOW := Lib.hid (HO.out.keep HG.out HNE.out)
          obtain ⟨gF, oF, rfl, _, hcell⟩ := HOW.out.row.2.2.2.2 (by omega)
          have hjx : j < F.length := by have := HOW.out.length; omega
          obtain ⟨⟨x0, x1⟩, hx⟩ : ∃ x, x = F[j] := ⟨_, rfl⟩
          obtain ⟨c0, c1⟩ := hcell j F[j] (List.getElem?_eq_getElem hjx)
          have hlow := HLOW.out F[j] (List.getElem_mem hjx)
          rw [← hx] at c0 c1 hlow
          simp only at c0 c1 hlow
          have wf0 := wf_low (x := x0) (by omega) (by omega)
          have wf1 := wf_low (x := x1) (by omega) (by omega)
          have HP : Hid (putP (fun p q => decide ((p, q) ∈ F.take j)) x0 x1 = fun p q => decide ((p, q) ∈ F.take (j + 1))) := by
            funext p q
            unfold putP
            rw [List.take_succ_eq_append_getElem hjx, ← hx]
            by_cases e : p = x0 ∧ q = x1
            · obtain ⟨rfl, rfl⟩ := e
              simp
            · rw [if_neg e]
              simp [Prod.ext_iff, e]
          have HM1 := Lib.hid (HM.out.alloc (.cells #[.int .i64 x0, .int .i64 x1] 84))
          have HG1 := Lib.hid (grownBy_trans HG.out (World.grownBy_alloc wr (.cells #[.int .i64 x0, .int .i64 x1] 84) (some MB)))
          clear hx hcell hlow HM HG HOW
          go_wp2_with (at_mapUpdate; refine wpList_putP rfl _ _ _ rfl MB m (fun p q => decide ((p, q) ∈ F.take j)) rfl HM1.out (by unfold maxLen; omega) x0 x1 rfl rfl wf0 wf1 ?_)
          intro w9 hm9 hg9
          have HM9 : Hid (MapB w9 MB (m + 1) (fun p q => decide ((p, q) ∈ F.take (j + 1)))) := by rw [← HP.out]; exact hm9
          have HG9 := Lib.hid (grownBy_trans HG1.out hg9)
          clear hm9 hg9 HM1 HG1 c0 c1 wf0 wf1
          go_wp2_with fail
          go_roundw
          case rel => exact ⟨j + 1, m + 1, by omega, by go_num, HM9.out, by omega, HG9.out⟩
          case measure => simp [intOf]; omega
        · have HE : Hid (MapB wr MB m (fun p q => decide ((p, q) ∈ F))) := by
            have h1 := HM.out
            rw [List.take_of_length_le (by have := HO.out.length; omega)] at h1
            exact h1
          go_wp2_with fail
          go_ret
          exact ⟨MB, m, F, rfl, HE.out, HMBL.out, by omega, fun x => by rw [← HL0E.out]; exact HF.out.done x, S8.out.1.grown HG.out S8.out.1.size (fun q hq => by have h1 := Option.some.inj hq; have h2 := HMBL.out; omega)⟩

end Go.Proofs.YtnglogkkkpegnaaGreat

/-
  The contract of the program's Product. Conditions: the lists have at most 2^20 elements.
-/
namespace Go.Proofs.YtnglogkkkpegnaaGreat
open Go.RowKit

theorem own_ne2 {W : World} {base base' size size' n n' : Nat} {e e' : TypeId} {v v' : Value} {xs xs' : List Value} (h : W.ownsRow base e size v n xs) (h' : W.ownsRow base' e' size' v' n' xs') (he : e ≠ e') : ∀ k, v.ownBlock = some k → v'.ownBlock ≠ some k := by
  intro k hk hk'
  rcases h.2 with ⟨rfl, _⟩ | ⟨g, cap, cur, rfl, _, hh, _⟩
  · cases hk
  rcases h'.2 with ⟨rfl, _⟩ | ⟨g', cap', cur', rfl, _, hh', _⟩
  · cases hk'
  have e1 : g = k := by simpa [Value.ownBlock] using hk
  have e2 : g' = k := by simpa [Value.ownBlock] using hk'
  rw [e1] at hh
  rw [e2, hh] at hh'
  simp only [Option.some.injEq, Obj.cells.injEq] at hh'
  exact he hh'.2.1

theorem own_none (w : World) (base : Nat) : IaOwn w base noIa (.agg #[.int .i64 0, .int .i64 0, .slice none 0 0, .slice none 0 0, .slice none 0 0, .slice none 0 0]) :=
  ⟨_, _, _, _, rfl, World.ownsRow_nil _ _ _ _, World.ownsRow_nil _ _ _ _, World.ownsRow_nil _ _ _ _, World.ownsRow_nil _ _ _ _, (fun b h => by cases h), (fun b h => by cases h), fun b h => by cases h⟩

set_option maxRecDepth 20000 in
set_option maxHeartbeats 6400000 in
theorem implProduct_any (a b : IaD) (v u : Value) (w : World) (h : IaRow w a v) (k : IaRow w b u) (fa : Small a) (fb : Small b) :
    Calls Tryz.prog 16 #[v, u] w fun e w' => ∃ v', e = .returned (.tuple #[v', .bool (prodB a b)]) ∧ IaOwn w' w.heap.size (prodIa a b) v' ∧ Below w.heap.size w w' := by
  have CF : Hid (∀ W, Below w.heap.size w W → Calls Tryz.prog 59 #[v, u] W fun e w' => e = .returned (.bool (fitB a b)) ∧ Below W.heap.size W w') := fun W hW => implFit_any a b v u W (h.below hW) (k.below hW) fa fb
  have CSH : Hid (∀ W, Below w.heap.size w W → Calls Tryz.prog 60 #[v, u] W (RowRes W W.heap.size (shOf a b))) := fun W hW => sharedActs_any a b v u W (h.below hW) (k.below hW) fa fb
  have CA0 : Hid (iaOkB a = true → iaOkB b = true → ∀ W sa sn sc, Below w.heap.size w W → Row W sa sn (shOf a b) → sn ≤ 1048576 → Calls Tryz.prog 62 #[v, u, .slice sa sn sc] W fun e w' => ∃ v', e = .returned v' ∧ OwnsS 77 w' W.heap.size v' (aloneA (shOf a b) b.states b.states.toNat a.steps ++ aloneB (shOf a b) b.states a.states.toNat b.steps).length (aloneA (shOf a b) b.states b.states.toNat a.steps ++ aloneB (shOf a b) b.states a.states.toNat b.steps) ∧ Below W.heap.size W w') := fun h1 h2 W sa sn sc hW hr hn => stepsApart_any a b v u W (h.below hW) (k.below hW) fa fb h1 h2 sa sn sc _ hr hn
  have CT0 : Hid (iaOkB a = true → iaOkB b = true → ∀ W sa sn sc, Below w.heap.size w W → Row W sa sn (shOf a b) → sn ≤ 1048576 → Calls Tryz.prog 63 #[v, u, .slice sa sn sc] W fun e w' => ∃ v', e = .returned v' ∧ OwnsS 77 w' W.heap.size v' (togetherL (shOf a b) b.states a.steps b.steps).length (togetherL (shOf a b) b.states a.steps b.steps) ∧ Below W.heap.size W w') := fun h1 h2 W sa sn sc hW hr hn => stepsTogether_any a b v u W (h.below hW) (k.below hW) fa fb h1 h2 sa sn sc _ hr hn
  obtain ⟨q, hq⟩ : ∃ q, q = fitB a b := ⟨_, rfl⟩
  have HOK : Hid (q = true → iaOkB a = true ∧ iaOkB b = true ∧ a.states * b.states ≤ 40) := fun e => fitB_ok (by rw [← hq]; exact e)
  have HSL : Hid (q = true → (shOf a b).length ≤ 12) := fun e => sh_low (fitB_ok (by rw [← hq]; exact e)).1
  obtain ⟨LA1, hLA1⟩ : ∃ l, l = aloneA (shOf a b) b.states b.states.toNat a.steps ++ aloneB (shOf a b) b.states a.states.toNat b.steps := ⟨_, rfl⟩
  obtain ⟨LT1, hLT1⟩ : ∃ l, l = togetherL (shOf a b) b.states a.steps b.steps := ⟨_, rfl⟩
  obtain ⟨ok, hok⟩ : ∃ r, r = prodB a b := ⟨_, rfl⟩
  obtain ⟨I, hI⟩ : ∃ I, I = prodIa a b := ⟨_, rfl⟩
  have HI : Hid (I = if ok then ⟨a.states * b.states, stOf b.states (a.init, b.init), lessOf (joinOf a.ins b.ins) (shOf a b), lessOf (joinOf a.outs b.outs) (shOf a b), joinOf (joinOf a.hids b.hids) (shOf a b), sortS (LA1 ++ LT1)⟩ else noIa) := by unfold Hid; rw [hI, hok, hLA1, hLT1]; rfl
  have HB_ : Hid (ok = (q && decide ((LA1 ++ LT1).length ≤ 400))) := by unfold Hid; rw [hok, hq, hLA1, hLT1]; rfl
  have HNL : Hid (q = true → LA1.length ≤ 32000 ∧ LT1.length ≤ 160000) := fun e => by
    obtain ⟨h1, h2, _⟩ := HOK.out e
    have s1 := iaOk_states h1
    have s2 := iaOk_states h2
    have l1 := iaOk_len h1
    have l2 := iaOk_len h2
    have m1 := aloneA_len (shOf a b) b.states b.states.toNat a.steps
    have m2 := aloneB_len (shOf a b) b.states a.states.toNat b.steps
    have m3 := togetherL_len (shOf a b) b.states b.steps a.steps
    have p1 : a.steps.length * b.states.toNat ≤ 400 * 40 := Nat.mul_le_mul l1 (by omega)
    have p2 : b.steps.length * a.states.toNat ≤ 400 * 40 := Nat.mul_le_mul l2 (by omega)
    have p3 : a.steps.length * b.steps.length ≤ 400 * 400 := Nat.mul_le_mul l1 l2
    rw [hLA1, hLT1, List.length_append]
    omega
  rw [← hok, ← hI]
  rw [← hq] at CF
  rw [← hLA1] at CA0
  rw [← hLT1] at CT0
  clear hq hok hI hLA1 hLT1
  obtain ⟨a2, n2, c2, a3, n3, c3, a4, n4, c4, a5, n5, c5, rfl, r2, r3, r4, r5⟩ := h
  obtain ⟨b2, m2, d2, b3, m3, d3, b4, m4, d4, b5, m5, d5, rfl, q2, q3, q4, q5⟩ := k
  obtain ⟨st, it, ins, outs, hids, steps⟩ := a
  obtain ⟨su, iu, jns, juts, jids, jteps⟩ := b
  obtain ⟨f2, f3, f4, f5⟩ := fa
  obtain ⟨g2, g3, g4, g5⟩ := fb
  simp only at r2 r3 r4 r5 q2 q3 q4 q5 f2 f3 f4 f5 g2 g3 g4 g5
  have HA : Hid (∀ W, Below w.heap.size w W → IaRow W ⟨st, it, ins, outs, hids, steps⟩ (.agg #[.int .i64 st, .int .i64 it, .slice a2 n2 c2, .slice a3 n3 c3, .slice a4 n4 c4, .slice a5 n5 c5])) := fun W hW => IaRow.below ⟨a2, n2, c2, a3, n3, c3, a4, n4, c4, a5, n5, c5, rfl, r2, r3, r4, r5⟩ hW
  have HB : Hid (∀ W, Below w.heap.size w W → IaRow W ⟨su, iu, jns, juts, jids, jteps⟩ (.agg #[.int .i64 su, .int .i64 iu, .slice b2 m2 d2, .slice b3 m3 d3, .slice b4 m4 d4, .slice b5 m5 d5])) := fun W hW => IaRow.below ⟨b2, m2, d2, b3, m3, d3, b4, m4, d4, b5, m5, d5, rfl, q2, q3, q4, q5⟩ hW
  have S0 := Lib.hid (Box2.start w (iaC st it a2 n2 c2 a3 n3 c3 a4 n4 c4 a5 n5 c5) (iaC su iu b2 m2 d2 b3 m3 d3 b4 m4 d4 b5 m5 d5) 27)
  have e2 := r2.1
  have e3 := r3.1
  have e4 := r4.1
  have k2 := q2.1
  have k3 := q3.1
  have k4 := q4.1
  rw [e2] at f2
  rw [e3] at f3
  rw [e4] at f4
  rw [k2] at g2
  rw [k3] at g3
  rw [k4] at g4
  have R2 := Lib.hid r2
  have R3 := Lib.hid r3
  have R4 := Lib.hid r4
  have R5 := Lib.hid r5
  have Q2 := Lib.hid q2
  have Q3 := Lib.hid q3
  have Q4 := Lib.hid q4
  have Q5 := Lib.hid q5
  clear r2 r3 r4 r5 q2 q3 q4 q5
  clear HA HB R5 Q5
  simp only at HOK HSL HI CA0 CT0 CSH
  obtain ⟨sh, hsh⟩ : ∃ l, l = shOf ⟨st, it, ins, outs, hids, steps⟩ ⟨su, iu, jns, juts, jids, jteps⟩ := ⟨_, rfl⟩
  rw [← hsh] at CSH HSL HI CA0 CT0
  clear hsh
  have S0x := S0.out.alloc (.cells #[.int .i64 0, .int .i64 0, .slice none 0 0, .slice none 0 0, .slice none 0 0, .slice none 0 0] 27)
  have S0 := Lib.hid S0x
  have TZ : Hid (VarIs (((w.alloc (.cells #[.int .i64 st, .int .i64 it, .slice a2 n2 c2, .slice a3 n3 c3, .slice a4 n4 c4, .slice a5 n5 c5] 27)).alloc (.cells #[.int .i64 su, .int .i64 iu, .slice b2 m2 d2, .slice b3 m3 d3, .slice b4 m4 d4, .slice b5 m5 d5] 27)).alloc (.cells #[.int .i64 0, .int .i64 0, .slice none 0 0, .slice none 0 0, .slice none 0 0, .slice none 0 0] 27)) (w.heap.size + 2) #[.int .i64 0, .int .i64 0, .slice none 0 0, .slice none 0 0, .slice none 0 0, .slice none 0 0] 27) := VarIs.new ((w.alloc (.cells #[.int .i64 st, .int .i64 it, .slice a2 n2 c2, .slice a3 n3 c3, .slice a4 n4 c4, .slice a5 n5 c5] 27)).alloc (.cells #[.int .i64 su, .int .i64 iu, .slice b2 m2 d2, .slice b3 m3 d3, .slice b4 m4 d4, .slice b5 m5 d5] 27)) #[.int .i64 0, .int .i64 0, .slice none 0 0, .slice none 0 0, .slice none 0 0, .slice none 0 0] 27 (by simp)
  clear S0x
  have ca0 := S0.out.2.1.cell (j := 0) (u := .int .i64 st) rfl
  have ca1 := S0.out.2.1.cell (j := 1) (u := .int .i64 it) rfl
  have ca2 := S0.out.2.1.cell (j := 2) (u := .slice a2 n2 c2) rfl
  have ca3 := S0.out.2.1.cell (j := 3) (u := .slice a3 n3 c3) rfl
  have ca4 := S0.out.2.1.cell (j := 4) (u := .slice a4 n4 c4) rfl
  have ca5 := S0.out.2.1.cell (j := 5) (u := .slice a5 n5 c5) rfl
  have cb0 := S0.out.2.2.cell (j := 0) (u := .int .i64 su) rfl
  have cb1 := S0.out.2.2.cell (j := 1) (u := .int .i64 iu) rfl
  have cb2 := S0.out.2.2.cell (j := 2) (u := .slice b2 m2 d2) rfl
  have cb3 := S0.out.2.2.cell (j := 3) (u := .slice b3 m3 d3) rfl
  have cb4 := S0.out.2.2.cell (j := 4) (u := .slice b4 m4 d4) rfl
  have cb5 := S0.out.2.2.cell (j := 5) (u := .slice b5 m5 d5) rfl
  go_enter Tryz.func16, Tryz.ntmps16
  go_wp2_with fail
  clear ca0 ca1 ca2 ca3 ca4 ca5 cb0 cb1 cb2 cb3 cb4 cb5
  refine (CF.out _ S0.out.1).mono ?_
  rintro e w1 ⟨rfl, hb⟩
  have S1 := Lib.hid (S0.out.below hb)
  have T1 := Lib.hid (TZ.out.below hb)
  clear hb S0 TZ CF
  cases q with
  | false =>
    have HOF : ok = false := by rw [HB_.out]; rfl
    subst HOF
    have THX : Hid (w1.there (w.heap.size + 2) 0 6) := T1.out.there rfl
    have RGX : Hid ((w1.setCells (w.heap.size + 2) 0 [.int .i64 0, .int .i64 0, .slice none 0 0, .slice none 0 0, .slice none 0 0, .slice none 0 0]).rangeAt (w.heap.size + 2) 0 [.int .i64 0, .int .i64 0, .slice none 0 0, .slice none 0 0, .slice none 0 0, .slice none 0 0]) := World.rangeAt_setCells_same w1 (w.heap.size + 2) 0 [.int .i64 0, .int .i64 0, .slice none 0 0, .slice none 0 0, .slice none 0 0, .slice none 0 0] (by simpa using THX.out)
    have GX := Lib.hid (grown_setCells (w.heap.size + 2) [.int .i64 0, .int .i64 0, .slice none 0 0, .slice none 0 0, .slice none 0 0, .slice none 0 0] 0 w1)
    have BX : Hid (Below w.heap.size w (w1.setCells (w.heap.size + 2) 0 [.int .i64 0, .int .i64 0, .slice none 0 0, .slice none 0 0, .slice none 0 0, .slice none 0 0])) := S1.out.1.grown GX.out S1.out.1.size (fun q hq => by have h1 := Option.some.inj hq; omega)
    have HIN : Hid (I = noIa) := HI.out
    go_wp2_with (refine wpList_store_mid rfl _ _ _ rfl (w.heap.size + 2) 0 #[.int .i64 0, .int .i64 0, .slice none 0 0, .slice none 0 0, .slice none 0 0, .slice none 0 0] rfl rfl THX.out (by kernel_rfl) (ia_one _ _ _ _ _ _ _ _ _ _ _ _ _ _) ?_)
    refine bodyPost_ret (v := .tuple #[.agg #[.int .i64 0, .int .i64 0, .slice none 0 0, .slice none 0 0, .slice none 0 0, .slice none 0 0], .bool false]) ?_ rfl ⟨.agg #[.int .i64 0, .int .i64 0, .slice none 0 0, .slice none 0 0, .slice none 0 0, .slice none 0 0], rfl, by rw [HIN.out]; exact own_none _ _, BX.out⟩
    have HC0 := RGX.out 0 _ rfl
    have HC1 := RGX.out 1 _ rfl
    have HC2 := RGX.out 2 _ rfl
    have HC3 := RGX.out 3 _ rfl
    have HC4 := RGX.out 4 _ rfl
    have HC5 := RGX.out 5 _ rfl
    simp only [Nat.zero_add] at HC0 HC1 HC2 HC3 HC4 HC5
    simp [results, Tryz.results16, go_sem, HC0, HC1, HC2, HC3, HC4, HC5]
  | true =>
    have hok := HOK.out (by simp)
    have hsl := HSL.out (by simp)
    have hnl := HNL.out (by simp)
    have hsA := iaOk_states hok.1
    have hsB := iaOk_states hok.2.1
    have hiA := iaOk_init hok.1
    have hiB := iaOk_init hok.2.1
    simp only at hsA hsB hiA hiB
    have HMUL : 0 ≤ st * su ∧ st * su ≤ 1600 := mul_low40 (by omega) (by omega)
    have CA1 := Lib.hid (CA0.out hok.1 hok.2.1)
    have CT1 := Lib.hid (CT0.out hok.1 hok.2.1)
    clear CA0 CT0 HOK HSL HNL hok
    have ca0 := S1.out.2.1.cell (j := 0) (u := .int .i64 st) rfl
    have ca1 := S1.out.2.1.cell (j := 1) (u := .int .i64 it) rfl
    have ca2 := S1.out.2.1.cell (j := 2) (u := .slice a2 n2 c2) rfl
    have ca3 := S1.out.2.1.cell (j := 3) (u := .slice a3 n3 c3) rfl
    have ca4 := S1.out.2.1.cell (j := 4) (u := .slice a4 n4 c4) rfl
    have ca5 := S1.out.2.1.cell (j := 5) (u := .slice a5 n5 c5) rfl
    have cb0 := S1.out.2.2.cell (j := 0) (u := .int .i64 su) rfl
    have cb1 := S1.out.2.2.cell (j := 1) (u := .int .i64 iu) rfl
    have cb2 := S1.out.2.2.cell (j := 2) (u := .slice b2 m2 d2) rfl
    have cb3 := S1.out.2.2.cell (j := 3) (u := .slice b3 m3 d3) rfl
    have cb4 := S1.out.2.2.cell (j := 4) (u := .slice b4 m4 d4) rfl
    have cb5 := S1.out.2.2.cell (j := 5) (u := .slice b5 m5 d5) rfl
    go_wp2_with fail
    clear ca0 ca1 ca2 ca3 ca4 ca5 cb0 cb1 cb2 cb3 cb4 cb5
    refine (CSH.out _ S1.out.1).mono ?_
    rintro e w2 ⟨vsh, rfl, ho, hb⟩
    obtain ⟨sn, hsn⟩ : ∃ n, n = sh.length := ⟨_, rfl⟩
    rw [← hsn] at ho hsl
    obtain ⟨sa, sc, rfl⟩ := ho.form
    have S2 := Lib.hid (S1.out.below hb)
    have T2 := Lib.hid (T1.out.below hb)
    have P2 := Lib.hid (ho.mono (base := w.heap.size) S1.out.1.size)
    clear hb ho hsn S1 T1 CSH
    have CA : Hid (∀ W, Box2 w W w.heap.size (w.heap.size + 1) 27 (iaC st it a2 n2 c2 a3 n3 c3 a4 n4 c4 a5 n5 c5) (iaC su iu b2 m2 d2 b3 m3 d3 b4 m4 d4 b5 m5 d5) → Row W sa sn sh → Calls Tryz.prog 62 #[.agg #[.int .i64 st, .int .i64 it, .slice a2 n2 c2, .slice a3 n3 c3, .slice a4 n4 c4, .slice a5 n5 c5], .agg #[.int .i64 su, .int .i64 iu, .slice b2 m2 d2, .slice b3 m3 d3, .slice b4 m4 d4, .slice b5 m5 d5], .slice sa sn sc] W fun e w' => ∃ ad n cc, e = .returned (.slice ad n cc) ∧ (OwnsS 77 w' W.heap.size (.slice ad n cc) LA1.length LA1) ∧ Below W.heap.size W w') := fun W hW hr => (CA1.out W sa sn sc hW.1 hr (by omega)).mono fun e w' h => by
      obtain ⟨v', he, ho, hb⟩ := h
      obtain ⟨ad, cc, rfl⟩ := ho.form
      exact ⟨ad, _, cc, he, ho, hb⟩
    have CT : Hid (∀ W, Box2 w W w.heap.size (w.heap.size + 1) 27 (iaC st it a2 n2 c2 a3 n3 c3 a4 n4 c4 a5 n5 c5) (iaC su iu b2 m2 d2 b3 m3 d3 b4 m4 d4 b5 m5 d5) → Row W sa sn sh → Calls Tryz.prog 63 #[.agg #[.int .i64 st, .int .i64 it, .slice a2 n2 c2, .slice a3 n3 c3, .slice a4 n4 c4, .slice a5 n5 c5], .agg #[.int .i64 su, .int .i64 iu, .slice b2 m2 d2, .slice b3 m3 d3, .slice b4 m4 d4, .slice b5 m5 d5], .slice sa sn sc] W fun e w' => ∃ ad n cc, e = .returned (.slice ad n cc) ∧ (OwnsS 77 w' W.heap.size (.slice ad n cc) LT1.length LT1) ∧ Below W.heap.size W w') := fun W hW hr => (CT1.out W sa sn sc hW.1 hr (by omega)).mono fun e w' h => by
      obtain ⟨v', he, ho, hb⟩ := h
      obtain ⟨ad, cc, rfl⟩ := ho.form
      exact ⟨ad, _, cc, he, ho, hb⟩
    have CCC : Hid (∀ W a1 l1 c1 a2 l2 c2 , OwnsS 77 W w.heap.size (.slice a1 l1 c1) LA1.length LA1 → OwnsS 77 W w.heap.size (.slice a2 l2 c2) LT1.length LT1 → Calls Tryz.prog 61 #[.slice (some ⟨W.heap.size, 0, none⟩) 2 2] (W.alloc (.cells #[.slice a1 l1 c1, .slice a2 l2 c2] 25)) fun e w' => ∃ v, e = .returned v ∧ OwnsS 77 w' (W.alloc (.cells #[.slice a1 l1 c1, .slice a2 l2 c2] 25)).heap.size v (LA1 ++ LT1).length (LA1 ++ LT1) ∧ Below (W.alloc (.cells #[.slice a1 l1 c1, .slice a2 l2 c2] 25)).heap.size (W.alloc (.cells #[.slice a1 l1 c1, .slice a2 l2 c2] 25)) w') := fun W a1 l1 c1 a2 l2 c2 h1 h2 => by
      obtain rfl := h1.row.1
      obtain rfl := h2.row.1
      have X := VarIs.new W #[.slice a1 LA1.length c1, .slice a2 LT1.length c2] 25 rfl
      exact concatS_any W.heap.size a1 a2 LA1.length c1 LT1.length c2 LA1 LT1 _ X.lt (X.cell (j := 0) rfl) (X.cell (j := 1) rfl) (h1.alloc _).src (h2.alloc _).src (by omega) (by omega)
    clear CA1 CT1
    go_wp2_with fail
    have SD := S2.out.drew
    have TD : Hid (VarIs w2.drew (w.heap.size + 2) #[.int .i64 0, .int .i64 0, .slice none 0 0, .slice none 0 0, .slice none 0 0, .slice none 0 0] 27) := T2.out
    have PD : Hid (Owns w2.drew w.heap.size (.slice sa sn sc) sn sh) := P2.out
    clear S2 T2 P2
    refine wp_region_held_drew (S := fun w' => Box2 w w' w.heap.size (w.heap.size + 1) 27 (iaC st it a2 n2 c2 a3 n3 c3 a4 n4 c4 a5 n5 c5) (iaC su iu b2 m2 d2 b3 m3 d3 b4 m4 d4 b5 m5 d5)) (by kernel_rfl) SD (fun hHeld => ?_)
    change wpAnyH _ _ _ _ _ 11 (Array.replicate 11 false) _ _
    refine take_yields 0 16 (.agg #[.int .i64 st, .int .i64 it, .slice a2 n2 c2, .slice a3 n3 c3, .slice a4 n4 c4, .slice a5 n5 c5]) (fuel := 10) rfl rfl (by kernel_rfl) (by kernel_rfl) (by kernel_rfl) (fun _ _ _ h => h) (yieldsIf_load_mid (by rfl) _ _ rfl (w.heap.size) 0 rfl (iaC st it a2 n2 c2 a3 n3 c3 a4 n4 c4 a5 n5 c5).toList _ (fun w hw => hw.2.1.range) Tryz.underlying27 rfl (by kernel_rfl)) hHeld ?_
    simp only [Act.put, List.setIfInBounds_toArray, List.set_cons_zero, List.set_cons_succ]
    refine take_yields 1 17 (.agg #[.int .i64 su, .int .i64 iu, .slice b2 m2 d2, .slice b3 m3 d3, .slice b4 m4 d4, .slice b5 m5 d5]) (fuel := 9) rfl rfl (by kernel_rfl) (by kernel_rfl) (by kernel_rfl) (fun _ _ _ h => h) (yieldsIf_load_mid (by rfl) _ _ rfl (w.heap.size + 1) 0 rfl (iaC su iu b2 m2 d2 b3 m3 d3 b4 m4 d4 b5 m5 d5).toList _ (fun w hw => hw.2.2.range) Tryz.underlying27 rfl (by kernel_rfl)) hHeld ?_
    simp only [Act.put, List.setIfInBounds_toArray, List.set_cons_zero, List.set_cons_succ]
    refine take_op 2 18 (.slice sa sn sc) (fuel := 8) rfl rfl (by kernel_rfl) (by kernel_rfl) (by kernel_rfl) (fun _ _ _ h => h) (by rfl) (fun w hSw => by go_simp) hHeld ?_
    simp only [Act.put, List.setIfInBounds_toArray, List.set_cons_zero, List.set_cons_succ]
    refine take_yields 4 20 (.agg #[.int .i64 st, .int .i64 it, .slice a2 n2 c2, .slice a3 n3 c3, .slice a4 n4 c4, .slice a5 n5 c5]) (fuel := 7) rfl rfl (by kernel_rfl) (by kernel_rfl) (by kernel_rfl) (fun _ _ _ h => h) (yieldsIf_load_mid (by rfl) _ _ rfl (w.heap.size) 0 rfl (iaC st it a2 n2 c2 a3 n3 c3 a4 n4 c4 a5 n5 c5).toList _ (fun w hw => hw.2.1.range) Tryz.underlying27 rfl (by kernel_rfl)) hHeld ?_
    simp only [Act.put, List.setIfInBounds_toArray, List.set_cons_zero, List.set_cons_succ]
    refine take_yields 5 21 (.agg #[.int .i64 su, .int .i64 iu, .slice b2 m2 d2, .slice b3 m3 d3, .slice b4 m4 d4, .slice b5 m5 d5]) (fuel := 6) rfl rfl (by kernel_rfl) (by kernel_rfl) (by kernel_rfl) (fun _ _ _ h => h) (yieldsIf_load_mid (by rfl) _ _ rfl (w.heap.size + 1) 0 rfl (iaC su iu b2 m2 d2 b3 m3 d3 b4 m4 d4 b5 m5 d5).toList _ (fun w hw => hw.2.2.range) Tryz.underlying27 rfl (by kernel_rfl)) hHeld ?_
    simp only [Act.put, List.setIfInBounds_toArray, List.set_cons_zero, List.set_cons_succ]
    refine take_op 6 22 (.slice sa sn sc) (fuel := 5) rfl rfl (by kernel_rfl) (by kernel_rfl) (by kernel_rfl) (fun _ _ _ h => h) (by rfl) (fun w hSw => by go_simp) hHeld ?_
    simp only [Act.put, List.setIfInBounds_toArray, List.set_cons_zero, List.set_cons_succ]
    refine wpAnyH_ready (rs := [3]) (fuel := 4) (by kernel_rfl) (by simp) ?_
    refine AllReadyH.cons rfl (fun K hK => ?_) AllReadyH.nil
    go_simp
    refine (CA.out _ hHeld PD.out.row.2.2.2).mono ?_
    rintro e w3 ⟨a3v, l3, c3v, rfl, ho, hb⟩
    have T3 := Lib.hid (TD.out.below hb)
    have O3 := Lib.hid (ho.mono (base := w.heap.size) hHeld.1.size)
    have P3 := Lib.hid (PD.out.below hb)
    have hS3 := hHeld.below hb
    clear hb ho
    go_wp2_with fail
    refine hK.out _ _ hS3 (fun hHeld => ?_)
    clear hK K
    refine wpAnyH_ready (rs := [7]) (fuel := 3) (by kernel_rfl) (by simp) ?_
    refine AllReadyH.cons rfl (fun K hK => ?_) AllReadyH.nil
    go_simp
    refine (CT.out _ hHeld P3.out.row.2.2.2).mono ?_
    rintro e w4 ⟨a4v, l4, c4v, rfl, ho, hb⟩
    have T4 := Lib.hid (T3.out.below hb)
    have O4 := Lib.hid (O3.out.below hb)
    have Q4x := Lib.hid (ho.mono (base := w.heap.size) hHeld.1.size)
    have P4 := Lib.hid (P3.out.below hb)
    have hS4 := hHeld.below hb
    clear hb ho O3 T3 P3
    have CC := Lib.hid (CCC.out w4 a3v l3 c3v a4v l4 c4v O4.out Q4x.out)
    go_wp2_with fail
    refine hK.out _ _ hS4 (fun hHeld => ?_)
    clear hK K
    refine wpAnyH_ready (rs := [8]) (fuel := 2) (by kernel_rfl) (by simp) ?_
    refine AllReadyH.cons rfl (fun K hK => ?_) AllReadyH.nil
    go_simp
    refine hK.out _ _ (hHeld.alloc _) (fun hHeld => ?_)
    clear hK K
    try simp only [Act.put, List.setIfInBounds_toArray, List.set_cons_zero, List.set_cons_succ]
    refine wpAnyH_ready (rs := [9]) (fuel := 1) (by kernel_rfl) (by simp) ?_
    refine AllReadyH.cons rfl (fun K hK => ?_) AllReadyH.nil
    go_simp
    refine (CC.out).mono ?_
    rintro e w5 ⟨v5, rfl, ho, hb⟩
    have T5 := Lib.hid ((T4.out.alloc (.cells #[.slice a3v l3 c3v, .slice a4v l4 c4v] 25)).below hb)
    have O5 := Lib.hid (ho.mono (base := w.heap.size + 3) (by have h1 := T4.out.lt; simp; omega))
    have P5 := Lib.hid ((P4.out.alloc (.cells #[.slice a3v l3 c3v, .slice a4v l4 c4v] 25)).below hb)
    have hS5 := hHeld.below hb
    clear hb ho O4 Q4x T4 P4
    go_wp2_with fail
    refine hK.out _ _ hS5 (fun hHeld => ?_)
    clear hK K
    refine take_op 10 7 (v5) (fuel := 0) rfl rfl (by kernel_rfl) (by kernel_rfl) (by kernel_rfl) (fun _ _ _ h => h) (by rfl) (fun w hSw => by go_simp) hHeld ?_
    simp only [Act.put, List.setIfInBounds_toArray, List.set_cons_zero, List.set_cons_succ]
    refine wpAnyH_done (by kernel_rfl) ?_ _
    obtain ⟨LL, hLL⟩ : ∃ l, l = LA1 ++ LT1 := ⟨_, rfl⟩
    rw [← hLL] at O5 HI HB_
    obtain ⟨l5, hl5⟩ : ∃ n, n = LL.length := ⟨_, rfl⟩
    rw [← hl5] at O5 HB_
    have hl5b : l5 ≤ 192000 := by rw [hl5, hLL, List.length_append]; omega
    obtain ⟨a5v, c5v, rfl⟩ := O5.out.form
    have SE := Lib.hid hHeld
    clear hHeld hLL hl5 CA CT CCC CC
    by_cases hlen : l5 ≤ 400
    · have hd : decide ((l5 : Int) > 400) = false := by simp; omega
      have HOT : ok = true := by rw [HB_.out]; simp [hlen]
      subst HOT
      have HIT : Hid (I = ⟨st * su, stOf su (it, iu), lessOf (joinOf ins jns) sh, lessOf (joinOf outs juts) sh, joinOf (joinOf hids jids) sh, sortS LL⟩) := HI.out
      go_wp2_with fail
      refine (sortFunc_any _ l5 LL (w.heap.size + 3) _ O5.out (by omega)).mono ?_
      rintro e w6 ⟨rfl, ho, hg⟩
      have hrow := fun q hq => (O5.out.lt q hq).1
      have S6 : Hid (Box2 w w6 w.heap.size (w.heap.size + 1) 27 (iaC st it a2 n2 c2 a3 n3 c3 a4 n4 c4 a5 n5 c5) (iaC su iu b2 m2 d2 b3 m3 d3 b4 m4 d4 b5 m5 d5)) := ⟨SE.out.1.grown hg SE.out.1.size (fun q hq => by have := hrow q hq; omega), SE.out.2.1.grown hg (fun e => by have := hrow _ e.symm; omega), SE.out.2.2.grown hg (fun e => by have := hrow _ e.symm; omega)⟩
      have T6 := Lib.hid (T5.out.grown hg (fun e => by have := hrow _ e.symm; omega))
      have O6 := Lib.hid ho
      have P6 : Hid (Owns w6 w.heap.size (.slice sa sn sc) sn sh) := P5.out.keep hg (fun k hk he => own_ne2 P5.out O5.out (by decide) k hk he.symm)
      have bO := Lib.hid ho.lt
      obtain ⟨ini, hini⟩ : ∃ x, x = stOf su (it, iu) := ⟨_, rfl⟩
      rw [← hini] at HIT
      have CST : Hid (∀ W, Calls Tryz.prog 66 #[.agg #[.int .i64 su, .int .i64 iu, .slice b2 m2 d2, .slice b3 m3 d3, .slice b4 m4 d4, .slice b5 m5 d5], .agg #[.int .i64 it, .int .i64 iu]] W fun e w' => e = .returned (.int .i64 ini) ∧ Below W.heap.size W w') := fun W => by
        rw [hini]
        exact stateOf_any su iu (.slice b2 m2 d2) (.slice b3 m3 d3) (.slice b4 m4 d4) (.slice b5 m5 d5) it iu W (by omega) (by omega) (by omega)
      have CJ1 : Hid (∀ W, Box2 w W w.heap.size (w.heap.size + 1) 27 (iaC st it a2 n2 c2 a3 n3 c3 a4 n4 c4 a5 n5 c5) (iaC su iu b2 m2 d2 b3 m3 d3 b4 m4 d4 b5 m5 d5) → Calls Tryz.prog 68 #[.slice a2 n2 c2, .slice b2 m2 d2] W fun e w' => ∃ ad n cc, e = .returned (.slice ad n cc) ∧ (n ≤ 2097152 ∧ Row w' ad n (joinOf ins jns)) ∧ Below W.heap.size W w') := fun W hW =>
        (implSetJoin_any a2 b2 n2 c2 m2 d2 ins jns W (R2.out.below hW.1) (Q2.out.below hW.1) (by omega) (by omega)).mono fun e w' h => by
          obtain ⟨v, he, ho, hb⟩ := h
          obtain ⟨ad, cc, rfl⟩ := ho.form
          exact ⟨ad, _, cc, he, ⟨by have := join_len ins jns; omega, ho.row.2.2.2⟩, hb⟩
      have CJ2 : Hid (∀ W, Box2 w W w.heap.size (w.heap.size + 1) 27 (iaC st it a2 n2 c2 a3 n3 c3 a4 n4 c4 a5 n5 c5) (iaC su iu b2 m2 d2 b3 m3 d3 b4 m4 d4 b5 m5 d5) → Calls Tryz.prog 68 #[.slice a3 n3 c3, .slice b3 m3 d3] W fun e w' => ∃ ad n cc, e = .returned (.slice ad n cc) ∧ (n ≤ 2097152 ∧ Row w' ad n (joinOf outs juts)) ∧ Below W.heap.size W w') := fun W hW =>
        (implSetJoin_any a3 b3 n3 c3 m3 d3 outs juts W (R3.out.below hW.1) (Q3.out.below hW.1) (by omega) (by omega)).mono fun e w' h => by
          obtain ⟨v, he, ho, hb⟩ := h
          obtain ⟨ad, cc, rfl⟩ := ho.form
          exact ⟨ad, _, cc, he, ⟨by have := join_len outs juts; omega, ho.row.2.2.2⟩, hb⟩
      have CJ3 : Hid (∀ W, Box2 w W w.heap.size (w.heap.size + 1) 27 (iaC st it a2 n2 c2 a3 n3 c3 a4 n4 c4 a5 n5 c5) (iaC su iu b2 m2 d2 b3 m3 d3 b4 m4 d4 b5 m5 d5) → Calls Tryz.prog 68 #[.slice a4 n4 c4, .slice b4 m4 d4] W fun e w' => ∃ ad n cc, e = .returned (.slice ad n cc) ∧ (n ≤ 2097152 ∧ Row w' ad n (joinOf hids jids)) ∧ Below W.heap.size W w') := fun W hW =>
        (implSetJoin_any a4 b4 n4 c4 m4 d4 hids jids W (R4.out.below hW.1) (Q4.out.below hW.1) (by omega) (by omega)).mono fun e w' h => by
          obtain ⟨v, he, ho, hb⟩ := h
          obtain ⟨ad, cc, rfl⟩ := ho.form
          exact ⟨ad, _, cc, he, ⟨by have := join_len hids jids; omega, ho.row.2.2.2⟩, hb⟩
      have CL1 : Hid (∀ W ad n cc, (n ≤ 2097152 ∧ Row W ad n (joinOf ins jns)) → Row W sa sn sh → Calls Tryz.prog 67 #[.slice ad n cc, .slice sa sn sc] W fun e w' => ∃ xa xn xc, e = .returned (.slice xa xn xc) ∧ Owns w' W.heap.size (.slice xa xn xc) (lessOf (joinOf ins jns) sh).length (lessOf (joinOf ins jns) sh) ∧ Below W.heap.size W w') := fun W ad n cc h1 h2 => (implSetLess_any ad sa n cc sn sc (joinOf ins jns) sh W h1.2 h2 (by omega) (by omega)).mono fun e w' h => by
          obtain ⟨v, he, ho, hb⟩ := h
          obtain ⟨xa, xc, rfl⟩ := ho.form
          exact ⟨xa, _, xc, he, ho, hb⟩
      have CL2 : Hid (∀ W ad n cc, (n ≤ 2097152 ∧ Row W ad n (joinOf outs juts)) → Row W sa sn sh → Calls Tryz.prog 67 #[.slice ad n cc, .slice sa sn sc] W fun e w' => ∃ xa xn xc, e = .returned (.slice xa xn xc) ∧ Owns w' W.heap.size (.slice xa xn xc) (lessOf (joinOf outs juts) sh).length (lessOf (joinOf outs juts) sh) ∧ Below W.heap.size W w') := fun W ad n cc h1 h2 => (implSetLess_any ad sa n cc sn sc (joinOf outs juts) sh W h1.2 h2 (by omega) (by omega)).mono fun e w' h => by
          obtain ⟨v, he, ho, hb⟩ := h
          obtain ⟨xa, xc, rfl⟩ := ho.form
          exact ⟨xa, _, xc, he, ho, hb⟩
      have CL3 : Hid (∀ W ad n cc, (n ≤ 2097152 ∧ Row W ad n (joinOf hids jids)) → Row W sa sn sh → Calls Tryz.prog 68 #[.slice ad n cc, .slice sa sn sc] W fun e w' => ∃ xa xn xc, e = .returned (.slice xa xn xc) ∧ Owns w' W.heap.size (.slice xa xn xc) (joinOf (joinOf hids jids) sh).length (joinOf (joinOf hids jids) sh) ∧ Below W.heap.size W w') := fun W ad n cc h1 h2 => (implSetJoin_any ad sa n cc sn sc (joinOf hids jids) sh W h1.2 h2 (by omega) (by omega)).mono fun e w' h => by
          obtain ⟨v, he, ho, hb⟩ := h
          obtain ⟨xa, xc, rfl⟩ := ho.form
          exact ⟨xa, _, xc, he, ho, hb⟩
      have T8 := Lib.hid T6.out.drew
      have P8 : Hid (Owns w6.drew w.heap.size (.slice sa sn sc) sn sh) := P6.out
      have O8 : Hid (OwnsS 77 w6.drew (w.heap.size + 3) (.slice a5v l5 c5v) l5 (sortS LL)) := O6.out
      have SD8 := S6.out.drew
      clear ho hg hrow SE T5 O5 P5 S6 T6 O6 P6 hini
      go_wp2_with fail
      refine wp_region_held_drew (S := fun w' => Box2 w w' w.heap.size (w.heap.size + 1) 27 (iaC st it a2 n2 c2 a3 n3 c3 a4 n4 c4 a5 n5 c5) (iaC su iu b2 m2 d2 b3 m3 d3 b4 m4 d4 b5 m5 d5)) (by kernel_rfl) SD8 (fun hHeld => ?_)
      change wpAnyH _ _ _ _ _ 37 (Array.replicate 37 false) _ _
      refine take_op 0 32 (.pointer (some ⟨w.heap.size, 0, none⟩)) (fuel := 36) rfl rfl (by kernel_rfl) (by kernel_rfl) (by kernel_rfl) (fun _ _ _ h => h) (by rfl) (fun w hSw => by go_simp) hHeld ?_
      simp only [Act.put, List.setIfInBounds_toArray, List.set_cons_zero, List.set_cons_succ]
      refine take_op 1 33 (.int .i64 st) (fuel := 35) rfl rfl (by kernel_rfl) (by kernel_rfl) (by kernel_rfl) (fun _ _ _ h => h) (by rfl) (fun w hSw => by have m := hSw.2.1.cell (j := 0) (u := .int .i64 st) rfl; go_simp) hHeld ?_
      simp only [Act.put, List.setIfInBounds_toArray, List.set_cons_zero, List.set_cons_succ]
      refine take_op 2 34 (.pointer (some ⟨w.heap.size + 1, 0, none⟩)) (fuel := 34) rfl rfl (by kernel_rfl) (by kernel_rfl) (by kernel_rfl) (fun _ _ _ h => h) (by rfl) (fun w hSw => by go_simp) hHeld ?_
      simp only [Act.put, List.setIfInBounds_toArray, List.set_cons_zero, List.set_cons_succ]
      refine take_op 3 35 (.int .i64 su) (fuel := 33) rfl rfl (by kernel_rfl) (by kernel_rfl) (by kernel_rfl) (fun _ _ _ h => h) (by rfl) (fun w hSw => by have m := hSw.2.2.cell (j := 0) (u := .int .i64 su) rfl; go_simp) hHeld ?_
      simp only [Act.put, List.setIfInBounds_toArray, List.set_cons_zero, List.set_cons_succ]
      refine take_op 4 36 (.int .i64 (st * su)) (fuel := 32) rfl rfl (by kernel_rfl) (by kernel_rfl) (by kernel_rfl) (fun _ _ _ h => h) (by rfl) (fun w hSw => by go_simp; exact Go.IntWalk.i64_in _ (by have h1 := HMUL; omega)) hHeld ?_
      simp only [Act.put, List.setIfInBounds_toArray, List.set_cons_zero, List.set_cons_succ]
      refine take_yields 5 37 (.agg #[.int .i64 su, .int .i64 iu, .slice b2 m2 d2, .slice b3 m3 d3, .slice b4 m4 d4, .slice b5 m5 d5]) (fuel := 31) rfl rfl (by kernel_rfl) (by kernel_rfl) (by kernel_rfl) (fun _ _ _ h => h) (yieldsIf_load_mid (by rfl) _ _ rfl (w.heap.size + 1) 0 rfl (iaC su iu b2 m2 d2 b3 m3 d3 b4 m4 d4 b5 m5 d5).toList _ (fun w hw => hw.2.2.range) Tryz.underlying27 rfl (by kernel_rfl)) hHeld ?_
      simp only [Act.put, List.setIfInBounds_toArray, List.set_cons_zero, List.set_cons_succ]
      refine take_op 6 38 (.pointer (some ⟨w.heap.size, 1, none⟩)) (fuel := 30) rfl rfl (by kernel_rfl) (by kernel_rfl) (by kernel_rfl) (fun _ _ _ h => h) (by rfl) (fun w hSw => by go_simp) hHeld ?_
      simp only [Act.put, List.setIfInBounds_toArray, List.set_cons_zero, List.set_cons_succ]
      refine take_op 7 39 (.int .i64 it) (fuel := 29) rfl rfl (by kernel_rfl) (by kernel_rfl) (by kernel_rfl) (fun _ _ _ h => h) (by rfl) (fun w hSw => by have m := hSw.2.1.cell (j := 1) (u := .int .i64 it) rfl; go_simp) hHeld ?_
      simp only [Act.put, List.setIfInBounds_toArray, List.set_cons_zero, List.set_cons_succ]
      refine take_op 8 40 (.pointer (some ⟨w.heap.size + 1, 1, none⟩)) (fuel := 28) rfl rfl (by kernel_rfl) (by kernel_rfl) (by kernel_rfl) (fun _ _ _ h => h) (by rfl) (fun w hSw => by go_simp) hHeld ?_
      simp only [Act.put, List.setIfInBounds_toArray, List.set_cons_zero, List.set_cons_succ]
      refine take_op 9 41 (.int .i64 iu) (fuel := 27) rfl rfl (by kernel_rfl) (by kernel_rfl) (by kernel_rfl) (fun _ _ _ h => h) (by rfl) (fun w hSw => by have m := hSw.2.2.cell (j := 1) (u := .int .i64 iu) rfl; go_simp) hHeld ?_
      simp only [Act.put, List.setIfInBounds_toArray, List.set_cons_zero, List.set_cons_succ]
      refine take_op 10 42 (.agg #[.int .i64 it, .int .i64 iu]) (fuel := 26) rfl rfl (by kernel_rfl) (by kernel_rfl) (by kernel_rfl) (fun _ _ _ h => h) (by rfl) (fun w hSw => by go_simp) hHeld ?_
      simp only [Act.put, List.setIfInBounds_toArray, List.set_cons_zero, List.set_cons_succ]
      refine take_op 12 44 (.pointer (some ⟨w.heap.size, 2, none⟩)) (fuel := 25) rfl rfl (by kernel_rfl) (by kernel_rfl) (by kernel_rfl) (fun _ _ _ h => h) (by rfl) (fun w hSw => by go_simp) hHeld ?_
      simp only [Act.put, List.setIfInBounds_toArray, List.set_cons_zero, List.set_cons_succ]
      refine take_op 13 45 (.slice a2 n2 c2) (fuel := 24) rfl rfl (by kernel_rfl) (by kernel_rfl) (by kernel_rfl) (fun _ _ _ h => h) (by rfl) (fun w hSw => by have m := hSw.2.1.cell (j := 2) (u := .slice a2 n2 c2) rfl; go_simp) hHeld ?_
      simp only [Act.put, List.setIfInBounds_toArray, List.set_cons_zero, List.set_cons_succ]
      refine take_op 14 46 (.pointer (some ⟨w.heap.size + 1, 2, none⟩)) (fuel := 23) rfl rfl (by kernel_rfl) (by kernel_rfl) (by kernel_rfl) (fun _ _ _ h => h) (by rfl) (fun w hSw => by go_simp) hHeld ?_
      simp only [Act.put, List.setIfInBounds_toArray, List.set_cons_zero, List.set_cons_succ]
      refine take_op 15 47 (.slice b2 m2 d2) (fuel := 22) rfl rfl (by kernel_rfl) (by kernel_rfl) (by kernel_rfl) (fun _ _ _ h => h) (by rfl) (fun w hSw => by have m := hSw.2.2.cell (j := 2) (u := .slice b2 m2 d2) rfl; go_simp) hHeld ?_
      simp only [Act.put, List.setIfInBounds_toArray, List.set_cons_zero, List.set_cons_succ]
      refine take_op 17 49 (.slice sa sn sc) (fuel := 21) rfl rfl (by kernel_rfl) (by kernel_rfl) (by kernel_rfl) (fun _ _ _ h => h) (by rfl) (fun w hSw => by go_simp) hHeld ?_
      simp only [Act.put, List.setIfInBounds_toArray, List.set_cons_zero, List.set_cons_succ]
      refine take_op 19 51 (.pointer (some ⟨w.heap.size, 3, none⟩)) (fuel := 20) rfl rfl (by kernel_rfl) (by kernel_rfl) (by kernel_rfl) (fun _ _ _ h => h) (by rfl) (fun w hSw => by go_simp) hHeld ?_
      simp only [Act.put, List.setIfInBounds_toArray, List.set_cons_zero, List.set_cons_succ]
      refine take_op 20 52 (.slice a3 n3 c3) (fuel := 19) rfl rfl (by kernel_rfl) (by kernel_rfl) (by kernel_rfl) (fun _ _ _ h => h) (by rfl) (fun w hSw => by have m := hSw.2.1.cell (j := 3) (u := .slice a3 n3 c3) rfl; go_simp) hHeld ?_
      simp only [Act.put, List.setIfInBounds_toArray, List.set_cons_zero, List.set_cons_succ]
      refine take_op 21 53 (.pointer (some ⟨w.heap.size + 1, 3, none⟩)) (fuel := 18) rfl rfl (by kernel_rfl) (by kernel_rfl) (by kernel_rfl) (fun _ _ _ h => h) (by rfl) (fun w hSw => by go_simp) hHeld ?_
      simp only [Act.put, List.setIfInBounds_toArray, List.set_cons_zero, List.set_cons_succ]
      refine take_op 22 54 (.slice b3 m3 d3) (fuel := 17) rfl rfl (by kernel_rfl) (by kernel_rfl) (by kernel_rfl) (fun _ _ _ h => h) (by rfl) (fun w hSw => by have m := hSw.2.2.cell (j := 3) (u := .slice b3 m3 d3) rfl; go_simp) hHeld ?_
      simp only [Act.put, List.setIfInBounds_toArray, List.set_cons_zero, List.set_cons_succ]
      refine take_op 24 56 (.slice sa sn sc) (fuel := 16) rfl rfl (by kernel_rfl) (by kernel_rfl) (by kernel_rfl) (fun _ _ _ h => h) (by rfl) (fun w hSw => by go_simp) hHeld ?_
      simp only [Act.put, List.setIfInBounds_toArray, List.set_cons_zero, List.set_cons_succ]
      refine take_op 26 58 (.pointer (some ⟨w.heap.size, 4, none⟩)) (fuel := 15) rfl rfl (by kernel_rfl) (by kernel_rfl) (by kernel_rfl) (fun _ _ _ h => h) (by rfl) (fun w hSw => by go_simp) hHeld ?_
      simp only [Act.put, List.setIfInBounds_toArray, List.set_cons_zero, List.set_cons_succ]
      refine take_op 27 59 (.slice a4 n4 c4) (fuel := 14) rfl rfl (by kernel_rfl) (by kernel_rfl) (by kernel_rfl) (fun _ _ _ h => h) (by rfl) (fun w hSw => by have m := hSw.2.1.cell (j := 4) (u := .slice a4 n4 c4) rfl; go_simp) hHeld ?_
      simp only [Act.put, List.setIfInBounds_toArray, List.set_cons_zero, List.set_cons_succ]
      refine take_op 28 60 (.pointer (some ⟨w.heap.size + 1, 4, none⟩)) (fuel := 13) rfl rfl (by kernel_rfl) (by kernel_rfl) (by kernel_rfl) (fun _ _ _ h => h) (by rfl) (fun w hSw => by go_simp) hHeld ?_
      simp only [Act.put, List.setIfInBounds_toArray, List.set_cons_zero, List.set_cons_succ]
      refine take_op 29 61 (.slice b4 m4 d4) (fuel := 12) rfl rfl (by kernel_rfl) (by kernel_rfl) (by kernel_rfl) (fun _ _ _ h => h) (by rfl) (fun w hSw => by have m := hSw.2.2.cell (j := 4) (u := .slice b4 m4 d4) rfl; go_simp) hHeld ?_
      simp only [Act.put, List.setIfInBounds_toArray, List.set_cons_zero, List.set_cons_succ]
      refine take_op 31 63 (.slice sa sn sc) (fuel := 11) rfl rfl (by kernel_rfl) (by kernel_rfl) (by kernel_rfl) (fun _ _ _ h => h) (by rfl) (fun w hSw => by go_simp) hHeld ?_
      simp only [Act.put, List.setIfInBounds_toArray, List.set_cons_zero, List.set_cons_succ]
      refine take_op 33 65 (.slice a5v l5 c5v) (fuel := 10) rfl rfl (by kernel_rfl) (by kernel_rfl) (by kernel_rfl) (fun _ _ _ h => h) (by rfl) (fun w hSw => by go_simp) hHeld ?_
      simp only [Act.put, List.setIfInBounds_toArray, List.set_cons_zero, List.set_cons_succ]
      refine wpAnyH_ready (rs := [11]) (fuel := 9) (by kernel_rfl) (by simp) ?_
      refine AllReadyH.cons rfl (fun K hK => ?_) AllReadyH.nil
      go_simp
      refine (CST.out _).mono ?_
      rintro e w9 ⟨rfl, hb⟩
      have hz9 : w6.heap.size ≤ w9.heap.size := hb.size
      have T9 := Lib.hid (T8.out.below hb)
      have P9 := Lib.hid (P8.out.below hb)
      have O9 := Lib.hid (O8.out.below hb)
      have hS9 := hHeld.below hb
      clear hb  T8 P8 O8
      go_wp2_with fail
      refine hK.out _ _ hS9 (fun hHeld => ?_)
      clear hK K
      refine wpAnyH_ready (rs := [16]) (fuel := 8) (by kernel_rfl) (by simp) ?_
      refine AllReadyH.cons rfl (fun K hK => ?_) AllReadyH.nil
      go_simp
      refine (CJ1.out _ hHeld).mono ?_
      rintro e w10 ⟨j1a, j1n, j1c, rfl, ho, hb⟩
      have hz10 := hb.size
      have T10 := Lib.hid (T9.out.below hb)
      have P10 := Lib.hid (P9.out.below hb)
      have O10 := Lib.hid (O9.out.below hb)
      have hlow := T10.out.lt
      have J10 := Lib.hid ho
      have hS10 := hHeld.below hb
      clear hb ho T9 P9 O9
      go_wp2_with fail
      refine hK.out _ _ hS10 (fun hHeld => ?_)
      clear hK K
      refine wpAnyH_ready (rs := [18]) (fuel := 7) (by kernel_rfl) (by simp) ?_
      refine AllReadyH.cons rfl (fun K hK => ?_) AllReadyH.nil
      go_simp
      refine (CL1.out _ _ _ _ J10.out P10.out.row.2.2.2).mono ?_
      rintro e w11 ⟨x2a, x2n, x2c, rfl, ho, hb⟩
      have hz11 := hb.size
      have T11 := Lib.hid (T10.out.below hb)
      have P11 := Lib.hid (P10.out.below hb)
      have O11 := Lib.hid (O10.out.below hb)
      have X211 := Lib.hid ho
      have bdX2 := Lib.hid ho.lt
      have hS11 := hHeld.below hb
      clear hb ho T10 P10 O10
      go_wp2_with fail
      refine hK.out _ _ hS11 (fun hHeld => ?_)
      clear hK K
      refine wpAnyH_ready (rs := [23]) (fuel := 6) (by kernel_rfl) (by simp) ?_
      refine AllReadyH.cons rfl (fun K hK => ?_) AllReadyH.nil
      go_simp
      refine (CJ2.out _ hHeld).mono ?_
      rintro e w12 ⟨j2a, j2n, j2c, rfl, ho, hb⟩
      have hz12 := hb.size
      have T12 := Lib.hid (T11.out.below hb)
      have P12 := Lib.hid (P11.out.below hb)
      have O12 := Lib.hid (O11.out.below hb)
      have X212 := Lib.hid (X211.out.below hb)
      have J12 := Lib.hid ho
      have hS12 := hHeld.below hb
      clear hb ho T11 P11 O11 X211
      go_wp2_with fail
      refine hK.out _ _ hS12 (fun hHeld => ?_)
      clear hK K
      refine wpAnyH_ready (rs := [25]) (fuel := 5) (by kernel_rfl) (by simp) ?_
      refine AllReadyH.cons rfl (fun K hK => ?_) AllReadyH.nil
      go_simp
      refine (CL2.out _ _ _ _ J12.out P12.out.row.2.2.2).mono ?_
      rintro e w13 ⟨x3a, x3n, x3c, rfl, ho, hb⟩
      have hz13 := hb.size
      have T13 := Lib.hid (T12.out.below hb)
      have P13 := Lib.hid (P12.out.below hb)
      have O13 := Lib.hid (O12.out.below hb)
      have X213 := Lib.hid (X212.out.below hb)
      have X313 := Lib.hid ho
      have bdX3 := Lib.hid ho.lt
      have hS13 := hHeld.below hb
      clear hb ho T12 P12 O12 X212
      go_wp2_with fail
      refine hK.out _ _ hS13 (fun hHeld => ?_)
      clear hK K
      refine wpAnyH_ready (rs := [30]) (fuel := 4) (by kernel_rfl) (by simp) ?_
      refine AllReadyH.cons rfl (fun K hK => ?_) AllReadyH.nil
      go_simp
      refine (CJ3.out _ hHeld).mono ?_
      rintro e w14 ⟨j3a, j3n, j3c, rfl, ho, hb⟩
      have hz14 := hb.size
      have T14 := Lib.hid (T13.out.below hb)
      have P14 := Lib.hid (P13.out.below hb)
      have O14 := Lib.hid (O13.out.below hb)
      have X214 := Lib.hid (X213.out.below hb)
      have X314 := Lib.hid (X313.out.below hb)
      have J14 := Lib.hid ho
      have hS14 := hHeld.below hb
      clear hb ho T13 P13 O13 X213 X313
      go_wp2_with fail
      refine hK.out _ _ hS14 (fun hHeld => ?_)
      clear hK K
      refine wpAnyH_ready (rs := [32]) (fuel := 3) (by kernel_rfl) (by simp) ?_
      refine AllReadyH.cons rfl (fun K hK => ?_) AllReadyH.nil
      go_simp
      refine (CL3.out _ _ _ _ J14.out P14.out.row.2.2.2).mono ?_
      rintro e w15 ⟨x4a, x4n, x4c, rfl, ho, hb⟩
      have hz15 := hb.size
      have T15 := Lib.hid (T14.out.below hb)
      have P15 := Lib.hid (P14.out.below hb)
      have O15 := Lib.hid (O14.out.below hb)
      have X215 := Lib.hid (X214.out.below hb)
      have X315 := Lib.hid (X314.out.below hb)
      have X415 := Lib.hid ho
      have bdX4 := Lib.hid ho.lt
      have hS15 := hHeld.below hb
      clear hb ho T14 P14 O14 X214 X314
      have hone : (#[.int .i64 (st * su), .int .i64 ini, .slice x2a x2n x2c, .slice x3a x3n x3c, .slice x4a x4n x4c, .slice a5v l5 c5v] : Array Value).all (·.oneCell') = true := by
        exact ia_one _ _ _ _ _ _ _ _ _ _ _ _ _ _
      have t9 : Hid (w15.there (w.heap.size + 2) 0 6) := T15.out.there rfl
      have g9 := Lib.hid (grown_setCells (w.heap.size + 2) [.int .i64 (st * su), .int .i64 ini, .slice x2a x2n x2c, .slice x3a x3n x3c, .slice x4a x4n x4c, .slice a5v l5 c5v] 0 w15)
      have rg9 : Hid ((w15.setCells (w.heap.size + 2) 0 [.int .i64 (st * su), .int .i64 ini, .slice x2a x2n x2c, .slice x3a x3n x3c, .slice x4a x4n x4c, .slice a5v l5 c5v]).rangeAt (w.heap.size + 2) 0 [.int .i64 (st * su), .int .i64 ini, .slice x2a x2n x2c, .slice x3a x3n x3c, .slice x4a x4n x4c, .slice a5v l5 c5v]) := World.rangeAt_setCells_same w15 (w.heap.size + 2) 0 [.int .i64 (st * su), .int .i64 ini, .slice x2a x2n x2c, .slice x3a x3n x3c, .slice x4a x4n x4c, .slice a5v l5 c5v] (by simpa using t9.out)
      go_wp2_with fail
      refine hK.out _ _ hS15 (fun hHeld => ?_)
      clear hK K
      refine take_op 34 66 (.agg #[.int .i64 (st * su), .int .i64 ini, .slice x2a x2n x2c, .slice x3a x3n x3c, .slice x4a x4n x4c, .slice a5v l5 c5v]) (fuel := 2) rfl rfl (by kernel_rfl) (by kernel_rfl) (by kernel_rfl) (fun _ _ _ h => h) (by rfl) (fun w hSw => by go_simp) hHeld ?_
      simp only [Act.put, List.setIfInBounds_toArray, List.set_cons_zero, List.set_cons_succ]
      refine wpAnyH_ready (rs := [35]) (fuel := 1) (by kernel_rfl) (by simp) ?_
      refine AllReadyH.cons rfl (fun K hK => ?_) AllReadyH.nil
      rw [if_pos (by rfl)]
      refine wp_store_mid _ _ _ rfl (w.heap.size + 2) 0 #[.int .i64 (st * su), .int .i64 ini, .slice x2a x2n x2c, .slice x3a x3n x3c, .slice x4a x4n x4c, .slice a5v l5 c5v] rfl rfl t9.out (by kernel_rfl) hone ?_
      refine hK.out _ _ ⟨hHeld.1.grown g9.out hHeld.1.size (fun q hq => by have h1 := Option.some.inj hq; omega), hHeld.2.1.grown g9.out (fun e => by have h1 := Option.some.inj e; omega), hHeld.2.2.grown g9.out (fun e => by have h1 := Option.some.inj e; omega)⟩ (fun hHeld => ?_)
      clear hK K
      refine take_op 36 5 (.bool true) (fuel := 0) rfl rfl (by kernel_rfl) (by kernel_rfl) (by kernel_rfl) (fun _ _ _ h => h) (by rfl) (fun w hSw => by go_simp) hHeld ?_
      simp only [Act.put, List.setIfInBounds_toArray]
      refine wpAnyH_done (by kernel_rfl) ?_ _
      have rg := rg9.out
      have HC0 := rg 0 _ rfl
      have HC1 := rg 1 _ rfl
      have HC2 := rg 2 _ rfl
      have HC3 := rg 3 _ rfl
      have HC4 := rg 4 _ rfl
      have HC5 := rg 5 _ rfl
      simp only [Nat.zero_add] at HC0 HC1 HC2 HC3 HC4 HC5
      have y2 := X215.out.keep g9.out (fun k hk e => by have h1 := (bdX2.out k hk).1; have h2 := Option.some.inj e; have h3 := hlow; omega)
      have y3 := X315.out.keep g9.out (fun k hk e => by have h1 := (bdX3.out k hk).1; have h2 := Option.some.inj e; have h3 := hlow; omega)
      have y4 := X415.out.keep g9.out (fun k hk e => by have h1 := (bdX4.out k hk).1; have h2 := Option.some.inj e; have h3 := hlow; omega)
      have y5 := O15.out.keep g9.out (fun k hk e => by have h1 := (bO.out k hk).1; have h2 := Option.some.inj e; omega)
      go_wp2_with fail
      refine bodyPost_ret (v := .tuple #[.agg #[.int .i64 (st * su), .int .i64 ini, .slice x2a x2n x2c, .slice x3a x3n x3c, .slice x4a x4n x4c, .slice a5v l5 c5v], .bool true]) ?_ rfl ⟨.agg #[.int .i64 (st * su), .int .i64 ini, .slice x2a x2n x2c, .slice x3a x3n x3c, .slice x4a x4n x4c, .slice a5v l5 c5v], rfl, ?_, hHeld.1⟩
      · simp [results, Tryz.results16, go_sem, HC0, HC1, HC2, HC3, HC4, HC5]
      · rw [HIT.out]
        refine ⟨_, _, _, _, rfl, y2.mono (by omega), y3.mono (by omega), y4.mono (by omega), ?_, ?_, ?_, ?_⟩
        · have e := y5.length
          rw [e]
          exact y5.mono (by omega)
        · intro b hb
          have h2 := bdX2.out b hb
          exact ⟨fun h => by have := bdX3.out b h; omega, fun h => by have := bdX4.out b h; omega, fun h => by have := bO.out b h; omega⟩
        · intro b hb
          have h2 := bdX3.out b hb
          exact ⟨fun h => by have := bdX4.out b h; omega, fun h => by have := bO.out b h; omega⟩
        · intro b hb h
          have h2 := bdX4.out b hb
          have := bO.out b h
          omega
    · have hd : decide ((l5 : Int) > 400) = true := by simp; omega
      have HOF : ok = false := by rw [HB_.out]; simp [hlen]
      subst HOF
      have THX : Hid (w5.there (w.heap.size + 2) 0 6) := T5.out.there rfl
      have RGX : Hid ((w5.setCells (w.heap.size + 2) 0 [.int .i64 0, .int .i64 0, .slice none 0 0, .slice none 0 0, .slice none 0 0, .slice none 0 0]).rangeAt (w.heap.size + 2) 0 [.int .i64 0, .int .i64 0, .slice none 0 0, .slice none 0 0, .slice none 0 0, .slice none 0 0]) := World.rangeAt_setCells_same w5 (w.heap.size + 2) 0 [.int .i64 0, .int .i64 0, .slice none 0 0, .slice none 0 0, .slice none 0 0, .slice none 0 0] (by simpa using THX.out)
      have GX := Lib.hid (grown_setCells (w.heap.size + 2) [.int .i64 0, .int .i64 0, .slice none 0 0, .slice none 0 0, .slice none 0 0, .slice none 0 0] 0 w5)
      have BX : Hid (Below w.heap.size w (w5.setCells (w.heap.size + 2) 0 [.int .i64 0, .int .i64 0, .slice none 0 0, .slice none 0 0, .slice none 0 0, .slice none 0 0])) := SE.out.1.grown GX.out SE.out.1.size (fun q hq => by have h1 := Option.some.inj hq; omega)
      have HIN : Hid (I = noIa) := HI.out
      go_wp2_with (refine wpList_store_mid rfl _ _ _ rfl (w.heap.size + 2) 0 #[.int .i64 0, .int .i64 0, .slice none 0 0, .slice none 0 0, .slice none 0 0, .slice none 0 0] rfl rfl THX.out (by kernel_rfl) (ia_one _ _ _ _ _ _ _ _ _ _ _ _ _ _) ?_)
      refine bodyPost_ret (v := .tuple #[.agg #[.int .i64 0, .int .i64 0, .slice none 0 0, .slice none 0 0, .slice none 0 0, .slice none 0 0], .bool false]) ?_ rfl ⟨.agg #[.int .i64 0, .int .i64 0, .slice none 0 0, .slice none 0 0, .slice none 0 0, .slice none 0 0], rfl, by rw [HIN.out]; exact own_none _ _, BX.out⟩
      have HC0 := RGX.out 0 _ rfl
      have HC1 := RGX.out 1 _ rfl
      have HC2 := RGX.out 2 _ rfl
      have HC3 := RGX.out 3 _ rfl
      have HC4 := RGX.out 4 _ rfl
      have HC5 := RGX.out 5 _ rfl
      simp only [Nat.zero_add] at HC0 HC1 HC2 HC3 HC4 HC5
      simp [results, Tryz.results16, go_sem, HC0, HC1, HC2, HC3, HC4, HC5]

end Go.Proofs.YtnglogkkkpegnaaGreat

/-
  The contract of the model's Clashes. Conditions: the lists have at most 2^20 elements.
-/
namespace Go.Proofs.YtnglogkkkpegnaaGreat
open Go.RowKit

theorem rowP_no {S : Int → Int → Bool} {p j : Nat} (h : S p j = false) : rowP S p (j + 1) = rowP S p j := by
  show rowP S p j ++ _ = _
  rw [h]
  simp

theorem rowP_yes {S : Int → Int → Bool} {p j : Nat} (h : S p j = true) : rowP S p (j + 1) = rowP S p j ++ [((p : Int), (j : Int))] := by
  show rowP S p j ++ _ = _
  rw [h]
  simp

set_option maxRecDepth 20000 in
set_option maxHeartbeats 6400000 in
theorem specClashes_any (a b : IaD) (v u : Value) (w : World) (h : IaRow w a v) (k : IaRow w b u) (fa : Small a) (fb : Small b) :
    Calls Tryz.prog 56 #[v, u] w (OwnRes w w.heap.size (clashesOf a b)) := by
  have CSH0 : Hid (∀ W, Below w.heap.size w W → Calls Tryz.prog 102 #[v, u] W (OwnRes W W.heap.size (sharedOf a b))) := fun W hW => specShared_any a b v u W (h.below hW) (k.below hW) fa fb
  have CF : Hid (∀ W, Below w.heap.size w W → Calls Tryz.prog 101 #[v, u] W fun e w' => e = .returned (.bool (fitB a b)) ∧ Below W.heap.size W w') := fun W hW => specFit_any a b v u W (h.below hW) (k.below hW) fa fb
  obtain ⟨q, hq⟩ : ∃ q, q = fitB a b := ⟨_, rfl⟩
  obtain ⟨sh, hsh⟩ : ∃ l, l = sharedOf a b := ⟨_, rfl⟩
  obtain ⟨R, hR⟩ : ∃ l, l = clashesOf a b := ⟨_, rfl⟩
  have HOK : Hid (q = true → iaOkB a = true ∧ iaOkB b = true ∧ a.states * b.states ≤ 40) := fun e => fitB_ok (by rw [← hq]; exact e)
  have HSH : Hid (q = true → sh = shOf a b) := fun e => by rw [hsh]; unfold sharedOf; rw [← hq, e]; rfl
  have HSL : Hid (sh.length ≤ 2097152) := by
    have h1 := sh_len a b
    obtain ⟨h2, h3, _⟩ := fa
    unfold Hid
    rw [hsh]
    unfold sharedOf
    split
    · omega
    · simp
  have HR : Hid (R = if q then (allP (clashB a b) b.states.toNat a.states.toNat).map (stOf b.states) else []) := by unfold Hid; rw [hR, hq]; rfl
  rw [← hR]
  rw [← hsh] at CSH0
  rw [← hq] at CF
  clear hq hsh hR
  obtain ⟨a2, n2, c2, a3, n3, c3, a4, n4, c4, a5, n5, c5, rfl, r2, r3, r4, r5⟩ := h
  obtain ⟨b2, m2, d2, b3, m3, d3, b4, m4, d4, b5, m5, d5, rfl, q2, q3, q4, q5⟩ := k
  obtain ⟨st, it, ins, outs, hids, steps⟩ := a
  obtain ⟨su, iu, jns, juts, jids, jteps⟩ := b
  obtain ⟨f2, f3, f4, f5⟩ := fa
  obtain ⟨g2, g3, g4, g5⟩ := fb
  simp only at r2 r3 r4 r5 q2 q3 q4 q5 f2 f3 f4 f5 g2 g3 g4 g5
  have HA : Hid (∀ W, Below w.heap.size w W → IaRow W ⟨st, it, ins, outs, hids, steps⟩ (.agg #[.int .i64 st, .int .i64 it, .slice a2 n2 c2, .slice a3 n3 c3, .slice a4 n4 c4, .slice a5 n5 c5])) := fun W hW => IaRow.below ⟨a2, n2, c2, a3, n3, c3, a4, n4, c4, a5, n5, c5, rfl, r2, r3, r4, r5⟩ hW
  have HB : Hid (∀ W, Below w.heap.size w W → IaRow W ⟨su, iu, jns, juts, jids, jteps⟩ (.agg #[.int .i64 su, .int .i64 iu, .slice b2 m2 d2, .slice b3 m3 d3, .slice b4 m4 d4, .slice b5 m5 d5])) := fun W hW => IaRow.below ⟨b2, m2, d2, b3, m3, d3, b4, m4, d4, b5, m5, d5, rfl, q2, q3, q4, q5⟩ hW
  have S0 := Lib.hid (Box2.start w (iaC st it a2 n2 c2 a3 n3 c3 a4 n4 c4 a5 n5 c5) (iaC su iu b2 m2 d2 b3 m3 d3 b4 m4 d4 b5 m5 d5) 27)
  have e2 := r2.1
  have e3 := r3.1
  have e4 := r4.1
  have k2 := q2.1
  have k3 := q3.1
  have k4 := q4.1
  rw [e2] at f2
  rw [e3] at f3
  rw [e4] at f4
  rw [k2] at g2
  rw [k3] at g3
  rw [k4] at g4
  have R2 := Lib.hid r2
  have R3 := Lib.hid r3
  have R4 := Lib.hid r4
  have R5 := Lib.hid r5
  have Q2 := Lib.hid q2
  have Q3 := Lib.hid q3
  have Q4 := Lib.hid q4
  have Q5 := Lib.hid q5
  clear r2 r3 r4 r5 q2 q3 q4 q5
  clear HA HB
  simp only at HOK HSH HSL HR
  obtain ⟨C, hC⟩ : ∃ C, C = clashB ⟨st, it, ins, outs, hids, steps⟩ ⟨su, iu, jns, juts, jids, jteps⟩ := ⟨_, rfl⟩
  have HC : Hid (q = true → ∀ p q, C p q = (tellB sh (ofL steps p outs) (ofL jteps q jns) || tellB sh (ofL jteps q juts) (ofL steps p ins))) := fun e p q => by rw [hC, HSH.out e]; rfl
  rw [← hC] at HR
  clear hC HSH
  obtain ⟨nA, hnA⟩ : ∃ n : Nat, n = st.toNat := ⟨_, rfl⟩
  obtain ⟨nB, hnB⟩ : ∃ n : Nat, n = su.toNat := ⟨_, rfl⟩
  rw [← hnA, ← hnB] at HR
  have HNA := Lib.hid hnA
  have HNB := Lib.hid hnB
  clear hnA hnB
  obtain ⟨ns, hns⟩ : ∃ n, n = sh.length := ⟨_, rfl⟩
  have CSH : Hid (∀ W, Below w.heap.size w W → Calls Tryz.prog 102 #[.agg #[.int .i64 st, .int .i64 it, .slice a2 n2 c2, .slice a3 n3 c3, .slice a4 n4 c4, .slice a5 n5 c5], .agg #[.int .i64 su, .int .i64 iu, .slice b2 m2 d2, .slice b3 m3 d3, .slice b4 m4 d4, .slice b5 m5 d5]] W fun e w' => ∃ g c, e = .returned (.slice (some ⟨g, 0, none⟩) ns c) ∧ Owns w' W.heap.size (.slice (some ⟨g, 0, none⟩) ns c) ns sh ∧ Below W.heap.size W w') := by rw [hns]; exact CSH0
  have hns2 : ns ≤ 2097152 := by rw [hns]; exact HSL.out
  clear hns CSH0 HSL
  obtain ⟨i0, hi, hz0, hz1, hz2⟩ := info_parts info_int
  have S1 := Lib.hid (S0.out.alloc (.cells #[] 3))
  have O1 : Hid (Owns (((w.alloc (.cells #[.int .i64 st, .int .i64 it, .slice a2 n2 c2, .slice a3 n3 c3, .slice a4 n4 c4, .slice a5 n5 c5] 27)).alloc (.cells #[.int .i64 su, .int .i64 iu, .slice b2 m2 d2, .slice b3 m3 d3, .slice b4 m4 d4, .slice b5 m5 d5] 27)).alloc (.cells #[] 3)) w.heap.size (.slice (some ⟨w.heap.size + 2, 0, none⟩) 0 0) 0 []) := by
    have := (owns_lit ((w.alloc (.cells #[.int .i64 st, .int .i64 it, .slice a2 n2 c2, .slice a3 n3 c3, .slice a4 n4 c4, .slice a5 n5 c5] 27)).alloc (.cells #[.int .i64 su, .int .i64 iu, .slice b2 m2 d2, .slice b3 m3 d3, .slice b4 m4 d4, .slice b5 m5 d5] 27)) [] 0 rfl (by unfold maxLen; omega)).mono (base := w.heap.size) (by simp; omega)
    simpa [Hid] using this
  clear S0
  have ca0 := S1.out.2.1.cell (j := 0) (u := .int .i64 st) rfl
  have ca1 := S1.out.2.1.cell (j := 1) (u := .int .i64 it) rfl
  have ca2 := S1.out.2.1.cell (j := 2) (u := .slice a2 n2 c2) rfl
  have ca3 := S1.out.2.1.cell (j := 3) (u := .slice a3 n3 c3) rfl
  have ca4 := S1.out.2.1.cell (j := 4) (u := .slice a4 n4 c4) rfl
  have ca5 := S1.out.2.1.cell (j := 5) (u := .slice a5 n5 c5) rfl
  have cb0 := S1.out.2.2.cell (j := 0) (u := .int .i64 su) rfl
  have cb1 := S1.out.2.2.cell (j := 1) (u := .int .i64 iu) rfl
  have cb2 := S1.out.2.2.cell (j := 2) (u := .slice b2 m2 d2) rfl
  have cb3 := S1.out.2.2.cell (j := 3) (u := .slice b3 m3 d3) rfl
  have cb4 := S1.out.2.2.cell (j := 4) (u := .slice b4 m4 d4) rfl
  have cb5 := S1.out.2.2.cell (j := 5) (u := .slice b5 m5 d5) rfl

  go_enter Tryz.func56, Tryz.ntmps56
  go_wp2_with fail
  clear ca0 cb0 ca1 cb1 ca2 cb2 ca3 cb3 ca4 cb4 ca5 cb5
  refine (CSH.out _ S1.out.1).mono ?_
  rintro e w1 ⟨gs, cs, rfl, ho, hb⟩
  have S2 := Lib.hid (S1.out.below hb)
  have O2 : Hid (OutB w1 w1.heap.size w.heap.size (.slice (some ⟨w.heap.size + 2, 0, none⟩) 0 0) 0 []) := OutB.start (O1.out.below hb)
  have PSH := Lib.hid ho.row.2.2.2
  have hs2 := S2.out.1.size
  clear ho hb S1 O1 CSH
  go_wp2_with fail
  go_loopw [5, 7] (fun out pv wr => ∃ (k go co len : Nat) (O : List Int), k ≤ nA ∧ out = .slice (some ⟨go, 0, none⟩) len co ∧ pv = .int .i64 (k : Int) ∧ Hid (OutB wr w1.heap.size w.heap.size (.slice (some ⟨go, 0, none⟩) len co) len O) ∧ Hid (O = (allP C nB k).map (stOf su)) ∧ Hid (Below w1.heap.size w1 wr) ∧ Hid (0 < k → q = true)) (fun _ pv _ => nA - (intOf pv).toNat)
  case atStart => exact ⟨0, _, 0, 0, [], Nat.zero_le _, rfl, rfl, O2.out, rfl, Below.refl _ _, fun h => absurd h (by omega)⟩
  case round =>
    obtain ⟨k, go, co, len, O, hk, rfl, rfl, HO, HT, HB, HQ⟩ := hrel
    clear O2
    by_cases hlt : (k : Int) < st
    · have ca0 := (S2.out.below HB.out).2.1.cell (j := 0) (u := .int .i64 st) rfl
      have ca1 := (S2.out.below HB.out).2.1.cell (j := 1) (u := .int .i64 it) rfl
      have ca2 := (S2.out.below HB.out).2.1.cell (j := 2) (u := .slice a2 n2 c2) rfl
      have ca3 := (S2.out.below HB.out).2.1.cell (j := 3) (u := .slice a3 n3 c3) rfl
      have ca4 := (S2.out.below HB.out).2.1.cell (j := 4) (u := .slice a4 n4 c4) rfl
      have ca5 := (S2.out.below HB.out).2.1.cell (j := 5) (u := .slice a5 n5 c5) rfl
      have cb0 := (S2.out.below HB.out).2.2.cell (j := 0) (u := .int .i64 su) rfl
      have cb1 := (S2.out.below HB.out).2.2.cell (j := 1) (u := .int .i64 iu) rfl
      have cb2 := (S2.out.below HB.out).2.2.cell (j := 2) (u := .slice b2 m2 d2) rfl
      have cb3 := (S2.out.below HB.out).2.2.cell (j := 3) (u := .slice b3 m3 d3) rfl
      have cb4 := (S2.out.below HB.out).2.2.cell (j := 4) (u := .slice b4 m4 d4) rfl
      have cb5 := (S2.out.below HB.out).2.2.cell (j := 5) (u := .slice b5 m5 d5) rfl
      go_wp2_with fail
      clear ca0 cb0 ca1 cb1 ca2 cb2 ca3 cb3 ca4 cb4 ca5 cb5
      refine (CF.out _ (S2.out.below HB.out).1).mono ?_
      rintro e wa ⟨rfl, hba⟩
      have BA := Lib.hid (HB.out.trans (hba.mono HB.out.size))
      have OA := Lib.hid (HO.out.below hba)
      clear hba HB HO
      cases q with
      | false =>
        obtain rfl : R = [] := HR.out
        have hk0 : k = 0 := by
          apply Classical.byContradiction
          intro hne
          have := HQ.out (by omega)
          cases this
        have HO0 : Hid (O = []) := by rw [HT.out, hk0]; rfl
        go_wp2_with fail
        go_ret
        have e := OA.out.1.length
        rw [HO0.out] at e
        obtain rfl : len = 0 := by simpa using e.symm
        have := OA.out.1
        rw [HO0.out] at this
        exact ⟨_, _, rfl, this, S2.out.1.trans (BA.out.mono hs2)⟩
      | true =>
        have hsA := iaOk_states (HOK.out (by simp)).1
        have hsB := iaOk_states (HOK.out (by simp)).2.1
        have lA := iaOk_len (HOK.out (by simp)).1
        have lB := iaOk_len (HOK.out (by simp)).2.1
        simp only at hsA hsB lA lB
        have hkn : k < nA := by have h1 := HNA.out; omega
        have hA40 : nA ≤ 40 := by have h1 := HNA.out; omega
        have hB40 : nB ≤ 40 := by have h1 := HNB.out; omega
        obtain ⟨P1, hP1⟩ : ∃ l, l = ofL steps (k : Int) outs := ⟨_, rfl⟩
        obtain ⟨P4, hP4⟩ : ∃ l, l = ofL steps (k : Int) ins := ⟨_, rfl⟩
        obtain ⟨l1, hl1⟩ : ∃ n, n = P1.length := ⟨_, rfl⟩
        obtain ⟨l4, hl4⟩ : ∃ n, n = P4.length := ⟨_, rfl⟩
        have hl1b : l1 ≤ 400 := by rw [hl1, hP1]; exact Nat.le_trans (ofL_len _ _ _) lA
        have hl4b : l4 ≤ 400 := by rw [hl4, hP4]; exact Nat.le_trans (ofL_len _ _ _) lA
        have C1 : Hid (∀ W, Below w.heap.size w W → Calls Tryz.prog 108 #[.agg #[.int .i64 st, .int .i64 it, .slice a2 n2 c2, .slice a3 n3 c3, .slice a4 n4 c4, .slice a5 n5 c5], .int .i64 (k : Int), .slice a3 n3 c3] W fun e w' => ∃ g c, e = .returned (.slice (some ⟨g, 0, none⟩) l1 c) ∧ Owns w' W.heap.size (.slice (some ⟨g, 0, none⟩) l1 c) l1 P1 ∧ Below W.heap.size W w') := fun W hW => by
          rw [hl1, hP1]
          exact of_any st it k _ _ _ a5 n5 c5 steps a3 n3 c3 outs W (R5.out.below hW) (by have h1 := R5.out.1; omega) (R3.out.below hW) (by omega)
        have C4 : Hid (∀ W, Below w.heap.size w W → Calls Tryz.prog 108 #[.agg #[.int .i64 st, .int .i64 it, .slice a2 n2 c2, .slice a3 n3 c3, .slice a4 n4 c4, .slice a5 n5 c5], .int .i64 (k : Int), .slice a2 n2 c2] W fun e w' => ∃ g c, e = .returned (.slice (some ⟨g, 0, none⟩) l4 c) ∧ Owns w' W.heap.size (.slice (some ⟨g, 0, none⟩) l4 c) l4 P4 ∧ Below W.heap.size W w') := fun W hW => by
          rw [hl4, hP4]
          exact of_any st it k _ _ _ a5 n5 c5 steps a2 n2 c2 ins W (R5.out.below hW) (by have h1 := R5.out.1; omega) (R2.out.below hW) (by omega)
        have HP1 := Lib.hid hP1
        have HP4 := Lib.hid hP4
        obtain ⟨M1, hM1⟩ : ∃ l, l = meetOf P1 sh := ⟨_, rfl⟩
        obtain ⟨lm1, hlm1⟩ : ∃ n, n = M1.length := ⟨_, rfl⟩
        have hlm1b : lm1 ≤ 400 := by rw [hlm1, hM1]; have := meet_len P1 sh; omega
        have HM1 := Lib.hid hM1
        have HLM1 := Lib.hid hlm1
        clear hl1 hl4 hP1 hP4 hM1 hlm1
        go_wp2_with fail
        go_loopw [5, 8] (fun out qv wr2 => ∃ (j go co len : Nat) (O : List Int), j ≤ nB ∧ out = .slice (some ⟨go, 0, none⟩) len co ∧ qv = .int .i64 (j : Int) ∧ Hid (OutB wr2 w1.heap.size w.heap.size (.slice (some ⟨go, 0, none⟩) len co) len O) ∧ Hid (O = (allP C nB k ++ rowP C k j).map (stOf su)) ∧ Hid (Below w1.heap.size w1 wr2)) (fun _ qv _ => nB - (intOf qv).toNat)
        case atStart => exact ⟨0, go, co, len, O, Nat.zero_le _, rfl, rfl, OA.out, by unfold Hid; rw [HT.out]; simp [rowP], BA.out⟩
        case round =>
          clear HT OA BA
          obtain ⟨j, go, co, len, O, hj, rfl, rfl, HO, HT, HB⟩ := hrel
          by_cases hltj : (j : Int) < su
          · have hjn : j < nB := by have h1 := HNB.out; omega
            obtain ⟨P2, hP2⟩ : ∃ l, l = ofL jteps (j : Int) juts := ⟨_, rfl⟩
            obtain ⟨P3, hP3⟩ : ∃ l, l = ofL jteps (j : Int) jns := ⟨_, rfl⟩
            obtain ⟨l2, hl2⟩ : ∃ n, n = P2.length := ⟨_, rfl⟩
            obtain ⟨l3, hl3⟩ : ∃ n, n = P3.length := ⟨_, rfl⟩
            have hl2b : l2 ≤ 400 := by rw [hl2, hP2]; exact Nat.le_trans (ofL_len _ _ _) lB
            have hl3b : l3 ≤ 400 := by rw [hl3, hP3]; exact Nat.le_trans (ofL_len _ _ _) lB
            have C2 : Hid (∀ W, Below w.heap.size w W → Calls Tryz.prog 108 #[.agg #[.int .i64 su, .int .i64 iu, .slice b2 m2 d2, .slice b3 m3 d3, .slice b4 m4 d4, .slice b5 m5 d5], .int .i64 (j : Int), .slice b3 m3 d3] W fun e w' => ∃ g c, e = .returned (.slice (some ⟨g, 0, none⟩) l2 c) ∧ Owns w' W.heap.size (.slice (some ⟨g, 0, none⟩) l2 c) l2 P2 ∧ Below W.heap.size W w') := fun W hW => by
              rw [hl2, hP2]
              exact of_any su iu j _ _ _ b5 m5 d5 jteps b3 m3 d3 juts W (Q5.out.below hW) (by have h1 := Q5.out.1; omega) (Q3.out.below hW) (by omega)
            have C3 : Hid (∀ W, Below w.heap.size w W → Calls Tryz.prog 108 #[.agg #[.int .i64 su, .int .i64 iu, .slice b2 m2 d2, .slice b3 m3 d3, .slice b4 m4 d4, .slice b5 m5 d5], .int .i64 (j : Int), .slice b2 m2 d2] W fun e w' => ∃ g c, e = .returned (.slice (some ⟨g, 0, none⟩) l3 c) ∧ Owns w' W.heap.size (.slice (some ⟨g, 0, none⟩) l3 c) l3 P3 ∧ Below W.heap.size W w') := fun W hW => by
              rw [hl3, hP3]
              exact of_any su iu j _ _ _ b5 m5 d5 jteps b2 m2 d2 jns W (Q5.out.below hW) (by have h1 := Q5.out.1; omega) (Q2.out.below hW) (by omega)
            obtain ⟨M2, hM2⟩ : ∃ l, l = meetOf P2 sh := ⟨_, rfl⟩
            obtain ⟨lm2, hlm2⟩ : ∃ n, n = M2.length := ⟨_, rfl⟩
            have hlm2b : lm2 ≤ 400 := by rw [hlm2, hM2]; have := meet_len P2 sh; omega
            obtain ⟨x1, hx1⟩ : ∃ x, x = inB M1 P3 := ⟨_, rfl⟩
            obtain ⟨x2, hx2⟩ : ∃ x, x = inB M2 P4 := ⟨_, rfl⟩
            have HCC : Hid (C k j = (!x1 || !x2)) := by
              unfold Hid
              rw [HC.out (by simp), hx1, hx2, HM1.out, hM2, tell_in, tell_in, HP1.out, HP4.out, hP2, hP3]
            have CM1 : Hid (∀ W g c gt ct, Row W (some g) l1 P1 → Row W (some gt) ns sh → Calls Tryz.prog 107 #[.slice (some g) l1 c, .slice (some gt) ns ct] W fun e w' => ∃ g c, e = .returned (.slice (some ⟨g, 0, none⟩) lm1 c) ∧ Owns w' W.heap.size (.slice (some ⟨g, 0, none⟩) lm1 c) lm1 M1 ∧ Below W.heap.size W w') := fun W g c gt ct h1 h2 => by
              rw [HLM1.out, HM1.out]
              exact specSetMeet_any (some g) (some gt) l1 c ns ct P1 sh W h1 h2 (by omega) (by omega)
            have CM2 : Hid (∀ W g c gt ct, Row W (some g) l2 P2 → Row W (some gt) ns sh → Calls Tryz.prog 107 #[.slice (some g) l2 c, .slice (some gt) ns ct] W fun e w' => ∃ g c, e = .returned (.slice (some ⟨g, 0, none⟩) lm2 c) ∧ Owns w' W.heap.size (.slice (some ⟨g, 0, none⟩) lm2 c) lm2 M2 ∧ Below W.heap.size W w') := fun W g c gt ct h1 h2 => by
              rw [hlm2, hM2]
              exact specSetMeet_any (some g) (some gt) l2 c ns ct P2 sh W h1 h2 (by omega) (by omega)
            have CI1 : Hid (∀ W g c gt ct, Row W (some g) lm1 M1 → Row W (some gt) l3 P3 → Calls Tryz.prog 109 #[.slice (some g) lm1 c, .slice (some gt) l3 ct] W fun e w' => e = .returned (.bool x1) ∧ W = w') := fun W g c gt ct h1 h2 => by
              rw [hx1]
              exact (specSetIn_any (some g) (some gt) lm1 c l3 ct M1 P3 W h1 h2 (by omega) (by omega)).mono fun e w' h => ⟨h.1, h.2.symm⟩
            have CI2 : Hid (∀ W g c gt ct, Row W (some g) lm2 M2 → Row W (some gt) l4 P4 → Calls Tryz.prog 109 #[.slice (some g) lm2 c, .slice (some gt) l4 ct] W fun e w' => e = .returned (.bool x2) ∧ W = w') := fun W g c gt ct h1 h2 => by
              rw [hx2]
              exact (specSetIn_any (some g) (some gt) lm2 c l4 ct M2 P4 W h1 h2 (by omega) (by omega)).mono fun e w' h => ⟨h.1, h.2.symm⟩
            have hkb : (k + 1) * nB ≤ 1600 := Nat.le_trans (Nat.mul_le_mul (show k + 1 ≤ 40 by omega) hB40) (by omega)
            have hlen : len ≤ 1600 := by
              have h1 := HT.out
              have h2 := allP_len C nB k
              have h3 := rowP_len C k j
              have h4 := HO.out.1.length
              rw [h1, List.length_map, List.length_append] at h4
              rw [Nat.succ_mul] at hkb
              omega
            have hmul : 0 ≤ (k : Int) * su ∧ (k : Int) * su ≤ 1600 := by
              have h1 : ((k : Int)) * su ≤ 40 * 40 := Int.mul_le_mul (by omega) (by omega) (by omega) (by omega)
              have h2 : 0 ≤ (k : Int) * su := Int.mul_nonneg (by omega) (by omega)
              omega
            clear hP2 hP3 hl2 hl3 hM2 hlm2 hx1 hx2
            have ca0 := (S2.out.below HB.out).2.1.cell (j := 0) (u := .int .i64 st) rfl
            have ca1 := (S2.out.below HB.out).2.1.cell (j := 1) (u := .int .i64 it) rfl
            have ca2 := (S2.out.below HB.out).2.1.cell (j := 2) (u := .slice a2 n2 c2) rfl
            have ca3 := (S2.out.below HB.out).2.1.cell (j := 3) (u := .slice a3 n3 c3) rfl
            have ca4 := (S2.out.below HB.out).2.1.cell (j := 4) (u := .slice a4 n4 c4) rfl
            have ca5 := (S2.out.below HB.out).2.1.cell (j := 5) (u := .slice a5 n5 c5) rfl
            have cb0 := (S2.out.below HB.out).2.2.cell (j := 0) (u := .int .i64 su) rfl
            have cb1 := (S2.out.below HB.out).2.2.cell (j := 1) (u := .int .i64 iu) rfl
            have cb2 := (S2.out.below HB.out).2.2.cell (j := 2) (u := .slice b2 m2 d2) rfl
            have cb3 := (S2.out.below HB.out).2.2.cell (j := 3) (u := .slice b3 m3 d3) rfl
            have cb4 := (S2.out.below HB.out).2.2.cell (j := 4) (u := .slice b4 m4 d4) rfl
            have cb5 := (S2.out.below HB.out).2.2.cell (j := 5) (u := .slice b5 m5 d5) rfl
            go_wp2_with fail
            clear ca0 cb0 ca1 cb1 ca2 cb2 ca3 cb3 ca4 cb4 ca5 cb5
            refine (C1.out _ (S2.out.below HB.out).1).mono ?_
            rintro e w11 ⟨g1, k1, rfl, ho, hb⟩
            have B11 := Lib.hid (HB.out.trans (hb.mono HB.out.size))
            have O11 := Lib.hid (HO.out.below hb)
            have A11 := Lib.hid ho.row.2.2.2
            clear hb ho HB HO 
            go_wp2_with fail
            refine (CM1.out _ _ _ _ _ A11.out (PSH.out.below B11.out)).mono ?_
            rintro e w12 ⟨g2, k2x, rfl, ho, hb⟩
            have B12 := Lib.hid (B11.out.trans (hb.mono B11.out.size))
            have O12 := Lib.hid (O11.out.below hb)
            have A12 := Lib.hid (A11.out.below hb)
            have D12 := Lib.hid ho.row.2.2.2
            clear hb ho B11 O11 A11
            have ca0 := (S2.out.below B12.out).2.1.cell (j := 0) (u := .int .i64 st) rfl
            have ca1 := (S2.out.below B12.out).2.1.cell (j := 1) (u := .int .i64 it) rfl
            have ca2 := (S2.out.below B12.out).2.1.cell (j := 2) (u := .slice a2 n2 c2) rfl
            have ca3 := (S2.out.below B12.out).2.1.cell (j := 3) (u := .slice a3 n3 c3) rfl
            have ca4 := (S2.out.below B12.out).2.1.cell (j := 4) (u := .slice a4 n4 c4) rfl
            have ca5 := (S2.out.below B12.out).2.1.cell (j := 5) (u := .slice a5 n5 c5) rfl
            have cb0 := (S2.out.below B12.out).2.2.cell (j := 0) (u := .int .i64 su) rfl
            have cb1 := (S2.out.below B12.out).2.2.cell (j := 1) (u := .int .i64 iu) rfl
            have cb2 := (S2.out.below B12.out).2.2.cell (j := 2) (u := .slice b2 m2 d2) rfl
            have cb3 := (S2.out.below B12.out).2.2.cell (j := 3) (u := .slice b3 m3 d3) rfl
            have cb4 := (S2.out.below B12.out).2.2.cell (j := 4) (u := .slice b4 m4 d4) rfl
            have cb5 := (S2.out.below B12.out).2.2.cell (j := 5) (u := .slice b5 m5 d5) rfl
            go_wp2_with fail
            clear ca0 cb0 ca1 cb1 ca2 cb2 ca3 cb3 ca4 cb4 ca5 cb5
            refine (C2.out _ (S2.out.below B12.out).1).mono ?_
            rintro e w13 ⟨g3, k3x, rfl, ho, hb⟩
            have B13 := Lib.hid (B12.out.trans (hb.mono B12.out.size))
            have O13 := Lib.hid (O12.out.below hb)
            have A13 := Lib.hid (A12.out.below hb)
            have D13 := Lib.hid (D12.out.below hb)
            have E13 := Lib.hid ho.row.2.2.2
            clear hb ho B12 O12 A12 D12
            go_wp2_with fail
            refine (CM2.out _ _ _ _ _ E13.out (PSH.out.below B13.out)).mono ?_
            rintro e w14 ⟨g4, k4x, rfl, ho, hb⟩
            have B14 := Lib.hid (B13.out.trans (hb.mono B13.out.size))
            have O14 := Lib.hid (O13.out.below hb)
            have A14 := Lib.hid (A13.out.below hb)
            have D14 := Lib.hid (D13.out.below hb)
            have E14 := Lib.hid (E13.out.below hb)
            have F14 := Lib.hid ho.row.2.2.2
            clear hb ho B13 O13 A13 D13 E13
            have ca0 := (S2.out.below B14.out).2.1.cell (j := 0) (u := .int .i64 st) rfl
            have ca1 := (S2.out.below B14.out).2.1.cell (j := 1) (u := .int .i64 it) rfl
            have ca2 := (S2.out.below B14.out).2.1.cell (j := 2) (u := .slice a2 n2 c2) rfl
            have ca3 := (S2.out.below B14.out).2.1.cell (j := 3) (u := .slice a3 n3 c3) rfl
            have ca4 := (S2.out.below B14.out).2.1.cell (j := 4) (u := .slice a4 n4 c4) rfl
            have ca5 := (S2.out.below B14.out).2.1.cell (j := 5) (u := .slice a5 n5 c5) rfl
            have cb0 := (S2.out.below B14.out).2.2.cell (j := 0) (u := .int .i64 su) rfl
            have cb1 := (S2.out.below B14.out).2.2.cell (j := 1) (u := .int .i64 iu) rfl
            have cb2 := (S2.out.below B14.out).2.2.cell (j := 2) (u := .slice b2 m2 d2) rfl
            have cb3 := (S2.out.below B14.out).2.2.cell (j := 3) (u := .slice b3 m3 d3) rfl
            have cb4 := (S2.out.below B14.out).2.2.cell (j := 4) (u := .slice b4 m4 d4) rfl
            have cb5 := (S2.out.below B14.out).2.2.cell (j := 5) (u := .slice b5 m5 d5) rfl
            go_wp2_with fail
            clear ca0 cb0 ca1 cb1 ca2 cb2 ca3 cb3 ca4 cb4 ca5 cb5
            refine (C3.out _ (S2.out.below B14.out).1).mono ?_
            rintro e w15 ⟨g5x, k5x, rfl, ho, hb⟩
            have B15 := Lib.hid (B14.out.trans (hb.mono B14.out.size))
            have O15 := Lib.hid (O14.out.below hb)
            have A15 := Lib.hid (A14.out.below hb)
            have D15 := Lib.hid (D14.out.below hb)
            have E15 := Lib.hid (E14.out.below hb)
            have F15 := Lib.hid (F14.out.below hb)
            have G15 := Lib.hid ho.row.2.2.2
            clear hb ho B14 O14 A14 D14 E14 F14
            go_wp2_with fail
            refine (CI1.out _ _ _ _ _ D15.out G15.out).mono ?_
            rintro e w16 ⟨rfl, rfl⟩
            cases x1 with
            | false =>
              have HCY : Hid (C k j = true) := by unfold Hid; rw [HCC.out]; rfl
              have HT2 : Hid (O ++ [(k : Int) * su + (j : Int)] = (allP C nB k ++ rowP C k (j + 1)).map (stOf su)) := by
                unfold Hid
                rw [rowP_yes HCY.out, HT.out, ← List.append_assoc, List.map_append (l₂ := [_])]
                rfl
              have T1 := O15.out.alloc (.cells #[.int .i64 ((k : Int) * su + (j : Int))] 3)
              have b1 := B15.out.size
              have BA : Hid (Below w1.heap.size w1 (w15.alloc (.cells #[.int .i64 ((k : Int) * su + (j : Int))] 3))) := B15.out.alloc b1 _
              have S1x : Src (w15.alloc (.cells #[.int .i64 ((k : Int) * su + (j : Int))] 3)) (some ⟨w15.heap.size, 0, none⟩) 1 1 [(k : Int) * su + (j : Int)] := src_one (by simp)
              have cb0 := (S2.out.below B15.out).2.2.cell (j := 0) (u := .int .i64 su) rfl
              clear A15 D15 E15 F15 G15
              go_wp2_with (at_builtin; refine wpList_appO rfl (.tmp 64) (.tmp 71) rfl w1.heap.size w.heap.size i0 Tryz.underlying24 hi hz0 hz1 hz2 _ len _ rfl T1 _ 1 _ [(k : Int) * su + (j : Int)] rfl S1x (by omega) (by omega) (by simp; omega) hs2 ?_)
              rintro go2 co2 w22 hown ⟨r, hgrow, hrr⟩
              have B22 := Lib.hid (BA.out.grown hgrow BA.out.size hrr)
              have O22 := Lib.hid hown
              clear hown hgrow hrr T1 S1x cb0 BA O15 B15
              go_wp2_with fail
              go_roundw
              case rel => exact ⟨j + 1, go2, co2, len + 1, _, by omega, rfl, by go_num, O22.out, HT2.out, B22.out⟩
              case measure => simp [intOf]; omega

            | true =>
              have ca0 := (S2.out.below B15.out).2.1.cell (j := 0) (u := .int .i64 st) rfl
              have ca1 := (S2.out.below B15.out).2.1.cell (j := 1) (u := .int .i64 it) rfl
              have ca2 := (S2.out.below B15.out).2.1.cell (j := 2) (u := .slice a2 n2 c2) rfl
              have ca3 := (S2.out.below B15.out).2.1.cell (j := 3) (u := .slice a3 n3 c3) rfl
              have ca4 := (S2.out.below B15.out).2.1.cell (j := 4) (u := .slice a4 n4 c4) rfl
              have ca5 := (S2.out.below B15.out).2.1.cell (j := 5) (u := .slice a5 n5 c5) rfl
              have cb0 := (S2.out.below B15.out).2.2.cell (j := 0) (u := .int .i64 su) rfl
              have cb1 := (S2.out.below B15.out).2.2.cell (j := 1) (u := .int .i64 iu) rfl
              have cb2 := (S2.out.below B15.out).2.2.cell (j := 2) (u := .slice b2 m2 d2) rfl
              have cb3 := (S2.out.below B15.out).2.2.cell (j := 3) (u := .slice b3 m3 d3) rfl
              have cb4 := (S2.out.below B15.out).2.2.cell (j := 4) (u := .slice b4 m4 d4) rfl
              have cb5 := (S2.out.below B15.out).2.2.cell (j := 5) (u := .slice b5 m5 d5) rfl
              go_wp2_with fail
              clear ca0 cb0 ca1 cb1 ca2 cb2 ca3 cb3 ca4 cb4 ca5 cb5
              refine (C4.out _ (S2.out.below B15.out).1).mono ?_
              rintro e w17 ⟨g6x, k6x, rfl, ho, hb⟩
              have B17 := Lib.hid (B15.out.trans (hb.mono B15.out.size))
              have O17 := Lib.hid (O15.out.below hb)
              have A17 := Lib.hid (A15.out.below hb)
              have D17 := Lib.hid (D15.out.below hb)
              have E17 := Lib.hid (E15.out.below hb)
              have F17 := Lib.hid (F15.out.below hb)
              have G17 := Lib.hid (G15.out.below hb)
              have K17 := Lib.hid ho.row.2.2.2
              clear hb ho B15 O15 A15 D15 E15 F15 G15
              go_wp2_with fail
              refine (CI2.out _ _ _ _ _ F17.out K17.out).mono ?_
              rintro e w18 ⟨rfl, rfl⟩
              cases x2 with
              | false =>
                have HCY : Hid (C k j = true) := by unfold Hid; rw [HCC.out]; rfl
                have HT2 : Hid (O ++ [(k : Int) * su + (j : Int)] = (allP C nB k ++ rowP C k (j + 1)).map (stOf su)) := by
                  unfold Hid
                  rw [rowP_yes HCY.out, HT.out, ← List.append_assoc, List.map_append (l₂ := [_])]
                  rfl
                have T1 := O17.out.alloc (.cells #[.int .i64 ((k : Int) * su + (j : Int))] 3)
                have b1 := B17.out.size
                have BA : Hid (Below w1.heap.size w1 (w17.alloc (.cells #[.int .i64 ((k : Int) * su + (j : Int))] 3))) := B17.out.alloc b1 _
                have S1x : Src (w17.alloc (.cells #[.int .i64 ((k : Int) * su + (j : Int))] 3)) (some ⟨w17.heap.size, 0, none⟩) 1 1 [(k : Int) * su + (j : Int)] := src_one (by simp)
                have cb0 := (S2.out.below B17.out).2.2.cell (j := 0) (u := .int .i64 su) rfl
                clear A17 D17 E17 F17 G17 K17
                go_wp2_with (at_builtin; refine wpList_appO rfl (.tmp 64) (.tmp 71) rfl w1.heap.size w.heap.size i0 Tryz.underlying24 hi hz0 hz1 hz2 _ len _ rfl T1 _ 1 _ [(k : Int) * su + (j : Int)] rfl S1x (by omega) (by omega) (by simp; omega) hs2 ?_)
                rintro go2 co2 w22 hown ⟨r, hgrow, hrr⟩
                have B22 := Lib.hid (BA.out.grown hgrow BA.out.size hrr)
                have O22 := Lib.hid hown
                clear hown hgrow hrr T1 S1x cb0 BA O17 B17
                go_wp2_with fail
                go_roundw
                case rel => exact ⟨j + 1, go2, co2, len + 1, _, by omega, rfl, by go_num, O22.out, HT2.out, B22.out⟩
                case measure => simp [intOf]; omega

              | true =>
                have HCY : Hid (C k j = false) := by unfold Hid; rw [HCC.out]; rfl
                have HT2 : Hid (O = (allP C nB k ++ rowP C k (j + 1)).map (stOf su)) := by
                  unfold Hid
                  rw [rowP_no HCY.out, HT.out]
                go_wp2_with fail
                go_roundw
                case rel => exact ⟨j + 1, go, co, len, O, by omega, rfl, by go_num, O17.out, HT2.out, B17.out⟩
                case measure => simp [intOf]; omega

          · obtain rfl : j = nB := by have h1 := HNB.out; omega
            have cb0 := (S2.out.below HB.out).2.2.cell (j := 0) (u := .int .i64 su) rfl
            go_wp2_with fail
            go_roundw
            case rel => exact ⟨k + 1, go, co, len, O, by omega, rfl, by go_num, HO.out, HT.out, HB.out, fun _ => by simp⟩
            case measure => simp [intOf]; omega
    · have HE : Hid (O = R) := by
        unfold Hid
        rw [HT.out, HR.out]
        cases q with
        | true =>
          have h1 := HNA.out
          have : k = nA := by omega
          rw [this]
          rfl
        | false =>
          have hk0 : k = 0 := by
            apply Classical.byContradiction
            intro hne
            have := HQ.out (by omega)
            cases this
          rw [hk0]
          rfl
      have ca0 := (S2.out.below HB.out).2.1.cell (j := 0) (u := .int .i64 st) rfl
      go_wp2_with fail
      go_ret
      have e := HO.out.1.length
      rw [← HE.out]
      subst e
      exact ⟨_, _, rfl, HO.out.1, S2.out.1.trans (HB.out.mono hs2)⟩

end Go.Proofs.YtnglogkkkpegnaaGreat

/-
  The contract of the model's l02Along: what may be come to. Conditions: at most 2^20 steps, and numbers in the lists.
-/
namespace Go.Proofs.YtnglogkkkpegnaaGreat
open Go.RowKit

/-- How long a slice is. -/
def lenOf : Value → Nat
  | .slice _ n _ => n
  | _ => 0

end Go.Proofs.YtnglogkkkpegnaaGreat

/-
  Contracts of Bad and Compatible, of the program and of the model. Conditions: lists of at most 2^20 elements.
-/
namespace Go.Proofs.YtnglogkkkpegnaaGreat
open Go.RowKit

/-- Both arguments' boxes and the product's box. -/
def ProS (w W : World) (A B C : Array Value) (p : Nat) (t : IaD) : Prop :=
  Box2 w W w.heap.size (w.heap.size + 1) 27 A B ∧ VarIs W p C 27 ∧ IaHigh W w.heap.size t (.agg C)

theorem ProS.below {w W W' : World} {A B C : Array Value} {p : Nat} {t : IaD} (h : ProS w W A B C p t) (hb : Below W.heap.size W W') : ProS w W' A B C p t := ⟨h.1.below hb, h.2.1.below hb, h.2.2.below hb⟩

theorem ProS.drew {w W : World} {A B C : Array Value} {p : Nat} {t : IaD} (h : ProS w W A B C p t) : ProS w W.drew A B C p t := ⟨h.1.drew, h.2.1, h.2.2.below (Below.refl _ _).drew⟩

theorem IaRow.parts {W : World} {st it : Int} {a2 : Option Addr} {n2 c2 : Nat} {a3 : Option Addr} {n3 c3 : Nat} {a4 : Option Addr} {n4 c4 : Nat} {a5 : Option Addr} {n5 c5 : Nat} {ins outs hids : List Int} {steps : List St} (h : IaRow W ⟨st, it, ins, outs, hids, steps⟩ (.agg #[.int .i64 st, .int .i64 it, .slice a2 n2 c2, .slice a3 n3 c3, .slice a4 n4 c4, .slice a5 n5 c5])) : Row W a2 n2 ins ∧ Row W a3 n3 outs ∧ Row W a4 n4 hids ∧ RowS W a5 n5 steps := by
  obtain ⟨b2, m2, d2, b3, m3, d3, b4, m4, d4, b5, m5, d5, e, h2, h3, h4, h5⟩ := h
  simp only [Value.agg.injEq, Array.mk.injEq, List.cons.injEq, Value.slice.injEq, and_true, true_and] at e
  obtain ⟨⟨rfl, rfl, rfl⟩, ⟨rfl, rfl, rfl⟩, ⟨rfl, rfl, rfl⟩, rfl, rfl, rfl⟩ := e
  exact ⟨h2, h3, h4, h5⟩

theorem clashesOf_len {a b : IaD} : (clashesOf a b).length ≤ 1600 := by
  unfold clashesOf
  split
  · rename_i hf
    obtain ⟨oka, okb, _⟩ := fitB_ok hf
    have sA := iaOk_states oka
    have sB := iaOk_states okb
    rw [List.length_map]
    have h1 := allP_len (clashB a b) b.states.toNat a.states.toNat
    have h2 : a.states.toNat * b.states.toNat ≤ 40 * 40 := Nat.mul_le_mul (by omega) (by omega)
    omega
  · simp

theorem clashes_rise (a b : IaD) : (clashesOf a b).Pairwise (· < ·) := by
  unfold clashesOf
  split
  · rename_i hf
    obtain ⟨oka, okb, _⟩ := fitB_ok hf
    have sB := iaOk_states okb
    exact allP_rises (by omega) _
  · exact List.Pairwise.nil

theorem badOf_len (a b : IaD) : (badOf a b).length ≤ 2000 := by
  unfold badOf
  split
  · rename_i hp
    have h := alongOf_mem [0] (backS (productOf a b).ins (productOf a b).steps) (clashesOf a b)
    have h1 := come_bound h.1 (fun y hy => (h.2 y).1 hy)
    have h2 : (backS (productOf a b).ins (productOf a b).steps).length ≤ (productOf a b).steps.length := by
      unfold backS
      rw [List.length_map]
      exact List.length_filter_le _ _
    have h3 := iaOk_len (prod_ok hp)
    have h4 := clashesOf_len (a := a) (b := b)
    omega
  · simp

theorem bad_len4 {a b : IaD} (_ : Small a) (_ : Small b) : (badOf a b).length ≤ 4194304 := Nat.le_trans (badOf_len a b) (by omega)

set_option maxRecDepth 20000 in
set_option maxHeartbeats 6400000 in
theorem implBad_any (a b : IaD) (v u : Value) (w : World) (h : IaRow w a v) (k : IaRow w b u) (fa : Small a) (fb : Small b) :
    Calls Tryz.prog 24 #[v, u] w (RowRes w w.heap.size (badOf a b)) := by
  obtain ⟨q, hq⟩ : ∃ q, q = prodB a b := ⟨_, rfl⟩
  obtain ⟨⟨tst, tit, tins, touts, thids, tsteps⟩, hT⟩ : ∃ t, t = prodIa a b := ⟨_, rfl⟩
  obtain ⟨x2, x3, x4, x5⟩ := prod_small fa fb
  rw [← hT] at x2 x3 x4 x5
  simp only at x2 x3 x4 x5
  have CPr : Hid (∀ W, Below w.heap.size w W → Calls Tryz.prog 16 #[v, u] W fun e w' => ∃ (xa2 : Option Addr) (xc2 : Nat) (xa3 : Option Addr) (xc3 : Nat) (xa4 : Option Addr) (xc4 : Nat) (xa5 : Option Addr) (xc5 : Nat), e = .returned (.tuple #[.agg #[.int .i64 tst, .int .i64 tit, .slice xa2 tins.length xc2, .slice xa3 touts.length xc3, .slice xa4 thids.length xc4, .slice xa5 tsteps.length xc5], .bool q]) ∧ IaHigh w' W.heap.size ⟨tst, tit, tins, touts, thids, tsteps⟩ (.agg #[.int .i64 tst, .int .i64 tit, .slice xa2 tins.length xc2, .slice xa3 touts.length xc3, .slice xa4 thids.length xc4, .slice xa5 tsteps.length xc5]) ∧ Below W.heap.size W w') := fun W hW => by
    rw [hq, hT]
    refine (implProduct_any a b v u W (h.below hW) (k.below hW) fa fb).mono fun e w' ⟨v', he, ho, hb⟩ => ?_
    rw [← hT] at ho ⊢
    have ho := ho.high
    obtain ⟨_, _, _, _, _, _, _, _, rfl, _⟩ := ho.rowOf
    exact ⟨_, _, _, _, _, _, _, _, he, ho, hb⟩
  have HT : Hid (q = true → ⟨tst, tit, tins, touts, thids, tsteps⟩ = productOf a b) := fun e => by
    rw [hT]
    unfold prodIa
    rw [if_pos (by rw [← hq]; exact e)]
  have HQ := Lib.hid hq
  obtain ⟨L, hL⟩ : ∃ l, l = badOf a b := ⟨_, rfl⟩
  rw [← hL]
  have HL := Lib.hid hL
  clear hL
  clear hq hT
  obtain ⟨a2, n2, c2, a3, n3, c3, a4, n4, c4, a5, n5, c5, rfl, r2, r3, r4, r5⟩ := h
  obtain ⟨b2, m2, d2, b3, m3, d3, b4, m4, d4, b5, m5, d5, rfl, q2, q3, q4, q5⟩ := k
  obtain ⟨st, it, ins, outs, hids, steps⟩ := a
  obtain ⟨su, iu, jns, juts, jids, jteps⟩ := b
  obtain ⟨f2, f3, f4, f5⟩ := fa
  obtain ⟨g2, g3, g4, g5⟩ := fb
  simp only at r2 r3 r4 r5 q2 q3 q4 q5 f2 f3 f4 f5 g2 g3 g4 g5
  have HA : Hid (∀ W, Below w.heap.size w W → IaRow W ⟨st, it, ins, outs, hids, steps⟩ (.agg #[.int .i64 st, .int .i64 it, .slice a2 n2 c2, .slice a3 n3 c3, .slice a4 n4 c4, .slice a5 n5 c5])) := fun W hW => IaRow.below ⟨a2, n2, c2, a3, n3, c3, a4, n4, c4, a5, n5, c5, rfl, r2, r3, r4, r5⟩ hW
  have HB : Hid (∀ W, Below w.heap.size w W → IaRow W ⟨su, iu, jns, juts, jids, jteps⟩ (.agg #[.int .i64 su, .int .i64 iu, .slice b2 m2 d2, .slice b3 m3 d3, .slice b4 m4 d4, .slice b5 m5 d5])) := fun W hW => IaRow.below ⟨b2, m2, d2, b3, m3, d3, b4, m4, d4, b5, m5, d5, rfl, q2, q3, q4, q5⟩ hW
  have S0 := Lib.hid (Box2.start w (iaC st it a2 n2 c2 a3 n3 c3 a4 n4 c4 a5 n5 c5) (iaC su iu b2 m2 d2 b3 m3 d3 b4 m4 d4 b5 m5 d5) 27)
  have FSA : Hid (Small ⟨st, it, ins, outs, hids, steps⟩) := ⟨f2, f3, f4, f5⟩
  have FSB : Hid (Small ⟨su, iu, jns, juts, jids, jteps⟩) := ⟨g2, g3, g4, g5⟩
  clear r2 r3 r4 r5 q2 q3 q4 q5 f2 f3 f4 f5 g2 g3 g4 g5
  have ca0 := S0.out.2.1.cell (j := 0) (u := .int .i64 st) rfl
  have ca1 := S0.out.2.1.cell (j := 1) (u := .int .i64 it) rfl
  have ca2 := S0.out.2.1.cell (j := 2) (u := .slice a2 n2 c2) rfl
  have ca3 := S0.out.2.1.cell (j := 3) (u := .slice a3 n3 c3) rfl
  have ca4 := S0.out.2.1.cell (j := 4) (u := .slice a4 n4 c4) rfl
  have ca5 := S0.out.2.1.cell (j := 5) (u := .slice a5 n5 c5) rfl
  have cb0 := S0.out.2.2.cell (j := 0) (u := .int .i64 su) rfl
  have cb1 := S0.out.2.2.cell (j := 1) (u := .int .i64 iu) rfl
  have cb2 := S0.out.2.2.cell (j := 2) (u := .slice b2 m2 d2) rfl
  have cb3 := S0.out.2.2.cell (j := 3) (u := .slice b3 m3 d3) rfl
  have cb4 := S0.out.2.2.cell (j := 4) (u := .slice b4 m4 d4) rfl
  have cb5 := S0.out.2.2.cell (j := 5) (u := .slice b5 m5 d5) rfl
  go_enter Tryz.func24, Tryz.ntmps24
  go_wp2_with fail
  clear ca0 ca1 ca2 ca3 ca4 ca5 cb0 cb1 cb2 cb3 cb4 cb5
  refine (CPr.out _ S0.out.1).mono ?_
  rintro e w4 ⟨xa2, xc2, xa3, xc3, xa4, xc4, xa5, xc5, rfl, hT4, hb⟩
  have bx := (Below.refl w4.heap.size w4).alloc (Nat.le_refl _) (.cells #[.int .i64 tst, .int .i64 tit, .slice xa2 tins.length xc2, .slice xa3 touts.length xc3, .slice xa4 thids.length xc4, .slice xa5 tsteps.length xc5] 27)
  have S4 := S0.out.below hb
  have S5 : Hid (ProS w (w4.alloc (.cells #[.int .i64 tst, .int .i64 tit, .slice xa2 tins.length xc2, .slice xa3 touts.length xc3, .slice xa4 thids.length xc4, .slice xa5 tsteps.length xc5] 27)) (iaC st it a2 n2 c2 a3 n3 c3 a4 n4 c4 a5 n5 c5) (iaC su iu b2 m2 d2 b3 m3 d3 b4 m4 d4 b5 m5 d5) (iaC tst tit xa2 tins.length xc2 xa3 touts.length xc3 xa4 thids.length xc4 xa5 tsteps.length xc5) w4.heap.size ⟨tst, tit, tins, touts, thids, tsteps⟩) := ⟨S4.below bx, VarIs.new w4 #[.int .i64 tst, .int .i64 tit, .slice xa2 tins.length xc2, .slice xa3 touts.length xc3, .slice xa4 thids.length xc4, .slice xa5 tsteps.length xc5] 27 rfl, (hT4.mono S0.out.1.size).below bx⟩
  clear hb hT4 bx S4 S0 CPr
  have CB : Hid (q = true → ∀ W, ProS w W (iaC st it a2 n2 c2 a3 n3 c3 a4 n4 c4 a5 n5 c5) (iaC su iu b2 m2 d2 b3 m3 d3 b4 m4 d4 b5 m5 d5) (iaC tst tit xa2 tins.length xc2 xa3 touts.length xc3 xa4 thids.length xc4 xa5 tsteps.length xc5) w4.heap.size ⟨tst, tit, tins, touts, thids, tsteps⟩ → Calls Tryz.prog 69 #[.agg #[.int .i64 st, .int .i64 it, .slice a2 n2 c2, .slice a3 n3 c3, .slice a4 n4 c4, .slice a5 n5 c5], .agg #[.int .i64 su, .int .i64 iu, .slice b2 m2 d2, .slice b3 m3 d3, .slice b4 m4 d4, .slice b5 m5 d5], .agg #[.int .i64 tst, .int .i64 tit, .slice xa2 tins.length xc2, .slice xa3 touts.length xc3, .slice xa4 thids.length xc4, .slice xa5 tsteps.length xc5]] W fun e w' => ∃ M n F, e = .returned (.map (some M)) ∧ MapB w' M n (fun p q => decide ((p, q) ∈ F)) ∧ BadF ⟨st, it, ins, outs, hids, steps⟩ ⟨su, iu, jns, juts, jids, jteps⟩ F ∧ Below W.heap.size W w') := fun e W hW => by
    have hp : prodB ⟨st, it, ins, outs, hids, steps⟩ ⟨su, iu, jns, juts, jids, jteps⟩ = true := by rw [← HQ.out]; exact e
    have ht := HT.out e
    obtain ⟨oka, okb, _⟩ := fitB_ok (prod_fit hp)
    have hen := prod_ends hp
    have hln := iaOk_len (prod_ok hp)
    rw [← ht] at hen hln
    refine (badPairs_any ⟨st, it, ins, outs, hids, steps⟩ ⟨su, iu, jns, juts, jids, jteps⟩ ⟨tst, tit, tins, touts, thids, tsteps⟩ _ _ _ W (HA.out W hW.1.1) (HB.out W hW.1.1) hW.2.2.rowIa FSA.out FSB.out oka okb hen hln x2).mono ?_
    rintro e w' ⟨M, n, F, rfl, hm, _, _, hF, hb⟩
    refine ⟨M, n, F, rfl, hm, ?_, hb⟩
    unfold BadF
    rw [← ht]
    exact hF
  have CIO : Hid (q = true → ∀ W M n F, MapB W M n (fun p q => decide ((p, q) ∈ F)) → BadF ⟨st, it, ins, outs, hids, steps⟩ ⟨su, iu, jns, juts, jids, jteps⟩ F → Calls Tryz.prog 77 #[.agg #[.int .i64 st, .int .i64 it, .slice a2 n2 c2, .slice a3 n3 c3, .slice a4 n4 c4, .slice a5 n5 c5], .agg #[.int .i64 su, .int .i64 iu, .slice b2 m2 d2, .slice b3 m3 d3, .slice b4 m4 d4, .slice b5 m5 d5], .map (some M)] W fun e w' => ∃ v, e = .returned v ∧ Owns w' W.heap.size v L.length L ∧ Below W.heap.size W w') := fun e W M n F hm hF => by
    have hp : prodB ⟨st, it, ins, outs, hids, steps⟩ ⟨su, iu, jns, juts, jids, jteps⟩ = true := by rw [← HQ.out]; exact e
    obtain ⟨oka, okb, _⟩ := fitB_ok (prod_fit hp)
    have sA := iaOk_states oka
    have sB := iaOk_states okb
    have he := badF_eq hp hF
    simp only at sA sB he
    rw [HL.out, ← he]
    exact inOrder_any st it _ _ _ _ su iu _ _ _ _ M n _ W hm (by omega) (by omega)
  have SD := S5.out.drew
  cases q with
  | false =>
    have HL0 : Hid (L = []) := by
      rw [HL.out]
      unfold badOf
      rw [← HQ.out]
      rfl
    go_wp2_with fail
    go_ret
    rw [HL0.out]
    exact ⟨_, rfl, World.ownsRow_nil _ _ _ _, S5.out.1.1⟩
  | true =>
    have hs5 := S5.out.1.1.size
    clear S5
    go_wp2_with fail
    refine wp_region_tf (S := fun w' => ProS w w' (iaC st it a2 n2 c2 a3 n3 c3 a4 n4 c4 a5 n5 c5) (iaC su iu b2 m2 d2 b3 m3 d3 b4 m4 d4 b5 m5 d5) (iaC tst tit xa2 tins.length xc2 xa3 touts.length xc3 xa4 thids.length xc4 xa5 tsteps.length xc5) w4.heap.size ⟨tst, tit, tins, touts, thids, tsteps⟩) 8 (by kernel_rfl) (by kernel_rfl) (by kernel_rfl) SD (fun hHeld => ?_)
    refine fast_yields 0 15 (.agg #[.int .i64 st, .int .i64 it, .slice a2 n2 c2, .slice a3 n3 c3, .slice a4 n4 c4, .slice a5 n5 c5]) (fuel := 7) rfl rfl (by kernel_rfl) (by kernel_rfl) (by kernel_rfl) (fun _ _ _ h => h) (yieldsIf_load_mid (by rfl) _ _ rfl (w.heap.size) 0 rfl (iaC st it a2 n2 c2 a3 n3 c3 a4 n4 c4 a5 n5 c5).toList _ (fun w hw => hw.1.2.1.range) Tryz.underlying27 rfl (by kernel_rfl)) hHeld (tf 1 8) (by kernel_rfl) (fun K hK => ?_)
    go_big_move
    refine hK.out _ ?_
    clear hK K
    refine fast_yields 1 16 (.agg #[.int .i64 su, .int .i64 iu, .slice b2 m2 d2, .slice b3 m3 d3, .slice b4 m4 d4, .slice b5 m5 d5]) (fuel := 6) rfl rfl (by kernel_rfl) (by kernel_rfl) (by kernel_rfl) (fun _ _ _ h => h) (yieldsIf_load_mid (by rfl) _ _ rfl (w.heap.size + 1) 0 rfl (iaC su iu b2 m2 d2 b3 m3 d3 b4 m4 d4 b5 m5 d5).toList _ (fun w hw => hw.1.2.2.range) Tryz.underlying27 rfl (by kernel_rfl)) hHeld (tf 3 8) (by kernel_rfl) (fun K hK => ?_)
    go_big_move
    refine hK.out _ ?_
    clear hK K
    refine fast_yields 2 17 (.agg #[.int .i64 st, .int .i64 it, .slice a2 n2 c2, .slice a3 n3 c3, .slice a4 n4 c4, .slice a5 n5 c5]) (fuel := 5) rfl rfl (by kernel_rfl) (by kernel_rfl) (by kernel_rfl) (fun _ _ _ h => h) (yieldsIf_load_mid (by rfl) _ _ rfl (w.heap.size) 0 rfl (iaC st it a2 n2 c2 a3 n3 c3 a4 n4 c4 a5 n5 c5).toList _ (fun w hw => hw.1.2.1.range) Tryz.underlying27 rfl (by kernel_rfl)) hHeld (tf 7 8) (by kernel_rfl) (fun K hK => ?_)
    go_big_move
    refine hK.out _ ?_
    clear hK K
    refine fast_yields 3 18 (.agg #[.int .i64 su, .int .i64 iu, .slice b2 m2 d2, .slice b3 m3 d3, .slice b4 m4 d4, .slice b5 m5 d5]) (fuel := 4) rfl rfl (by kernel_rfl) (by kernel_rfl) (by kernel_rfl) (fun _ _ _ h => h) (yieldsIf_load_mid (by rfl) _ _ rfl (w.heap.size + 1) 0 rfl (iaC su iu b2 m2 d2 b3 m3 d3 b4 m4 d4 b5 m5 d5).toList _ (fun w hw => hw.1.2.2.range) Tryz.underlying27 rfl (by kernel_rfl)) hHeld (tf 15 8) (by kernel_rfl) (fun K hK => ?_)
    go_big_move
    refine hK.out _ ?_
    clear hK K
    refine fast_yields 4 19 (.agg #[.int .i64 tst, .int .i64 tit, .slice xa2 tins.length xc2, .slice xa3 touts.length xc3, .slice xa4 thids.length xc4, .slice xa5 tsteps.length xc5]) (fuel := 3) rfl rfl (by kernel_rfl) (by kernel_rfl) (by kernel_rfl) (fun _ _ _ h => h) (yieldsIf_load_mid (by rfl) _ _ rfl (w4.heap.size) 0 rfl (iaC tst tit xa2 tins.length xc2 xa3 touts.length xc3 xa4 thids.length xc4 xa5 tsteps.length xc5).toList _ (fun w hw => hw.2.1.range) Tryz.underlying27 rfl (by kernel_rfl)) hHeld (tf 31 8) (by kernel_rfl) (fun K hK => ?_)
    go_big_move
    refine hK.out _ ?_
    clear hK K
    refine wpAnyH_ready (rs := [5]) (fuel := 2) (by kernel_rfl) (by simp) ?_
    refine ready_want rfl (by kernel_rfl) (tf 63 8) (by kernel_rfl) (fun K hK => ?_) AllReadyH.nil
    simp only [List.getElem_toArray, List.getElem_cons_succ, List.getElem_cons_zero]
    go_big_op
    refine (CB.out (by simp) _ hHeld).mono ?_
    rintro e w6 ⟨M, n, F, rfl, hm, hF, hb⟩
    have hS6 : ProS w w6 (iaC st it a2 n2 c2 a3 n3 c3 a4 n4 c4 a5 n5 c5) (iaC su iu b2 m2 d2 b3 m3 d3 b4 m4 d4 b5 m5 d5) (iaC tst tit xa2 tins.length xc2 xa3 touts.length xc3 xa4 thids.length xc4 xa5 tsteps.length xc5) w4.heap.size ⟨tst, tit, tins, touts, thids, tsteps⟩ := hHeld.below hb
    clear hb
    refine hK.out _ _ hS6 (fun hHeld => ?_)
    clear hK K
    refine wpAnyH_ready (rs := [6]) (fuel := 1) (by kernel_rfl) (by simp) ?_
    refine ready_want rfl (by kernel_rfl) (tf 127 8) (by kernel_rfl) (fun K hK => ?_) AllReadyH.nil
    simp only [List.getElem_toArray, List.getElem_cons_succ, List.getElem_cons_zero]
    go_big_op
    refine (CIO.out (by simp) _ M n F hm hF).mono ?_
    rintro e w7 ⟨vr, rfl, ho, hb⟩
    have ho := ho.mono hHeld.1.1.size
    have hS7 : ProS w w7 (iaC st it a2 n2 c2 a3 n3 c3 a4 n4 c4 a5 n5 c5) (iaC su iu b2 m2 d2 b3 m3 d3 b4 m4 d4 b5 m5 d5) (iaC tst tit xa2 tins.length xc2 xa3 touts.length xc3 xa4 thids.length xc4 xa5 tsteps.length xc5) w4.heap.size ⟨tst, tit, tins, touts, thids, tsteps⟩ := hHeld.below hb
    clear hb hm hF
    refine hK.out _ _ hS7 (fun hHeld => ?_)
    clear hK K
    refine fast_move 7 4 (vr) (.tmp 21) (fuel := 0) rfl rfl (by kernel_rfl) (by kernel_rfl) (by kernel_rfl) (fun _ _ _ h => h) (by kernel_rfl) (by kernel_rfl) (by first | exact Or.inl rfl | exact Or.inr rfl) hHeld (tf 255 8) (by kernel_rfl) (fun K hK => ?_)
    go_big_move
    refine hK.out _ ?_
    clear hK K
    refine wpAnyH_done (by kernel_rfl) ?_ _
    have SE := Lib.hid hHeld
    have HO := Lib.hid ho
    clear hHeld SD ho
    go_wp2_with fail
    go_ret
    exact ⟨_, rfl, HO.out, SE.out.1.1⟩

set_option maxRecDepth 20000 in
set_option maxHeartbeats 6400000 in
theorem implCompatible_any (a b : IaD) (v u : Value) (w : World) (h : IaRow w a v) (k : IaRow w b u) (fa : Small a) (fb : Small b) :
    Calls Tryz.prog 17 #[v, u] w fun e w' => e = .returned (.bool (compB a b)) ∧ Below w.heap.size w w' := by
  obtain ⟨q, hq⟩ : ∃ q, q = prodB a b := ⟨_, rfl⟩
  obtain ⟨⟨tst, tit, tins, touts, thids, tsteps⟩, hT⟩ : ∃ t, t = prodIa a b := ⟨_, rfl⟩
  obtain ⟨x2, x3, x4, x5⟩ := prod_small fa fb
  rw [← hT] at x2 x3 x4 x5
  simp only at x2 x3 x4 x5
  have CPr : Hid (∀ W, Below w.heap.size w W → Calls Tryz.prog 16 #[v, u] W fun e w' => ∃ (xa2 : Option Addr) (xc2 : Nat) (xa3 : Option Addr) (xc3 : Nat) (xa4 : Option Addr) (xc4 : Nat) (xa5 : Option Addr) (xc5 : Nat), e = .returned (.tuple #[.agg #[.int .i64 tst, .int .i64 tit, .slice xa2 tins.length xc2, .slice xa3 touts.length xc3, .slice xa4 thids.length xc4, .slice xa5 tsteps.length xc5], .bool q]) ∧ IaHigh w' W.heap.size ⟨tst, tit, tins, touts, thids, tsteps⟩ (.agg #[.int .i64 tst, .int .i64 tit, .slice xa2 tins.length xc2, .slice xa3 touts.length xc3, .slice xa4 thids.length xc4, .slice xa5 tsteps.length xc5]) ∧ Below W.heap.size W w') := fun W hW => by
    rw [hq, hT]
    refine (implProduct_any a b v u W (h.below hW) (k.below hW) fa fb).mono fun e w' ⟨v', he, ho, hb⟩ => ?_
    rw [← hT] at ho ⊢
    have ho := ho.high
    obtain ⟨_, _, _, _, _, _, _, _, rfl, _⟩ := ho.rowOf
    exact ⟨_, _, _, _, _, _, _, _, he, ho, hb⟩
  have HT : Hid (q = true → ⟨tst, tit, tins, touts, thids, tsteps⟩ = productOf a b) := fun e => by
    rw [hT]
    unfold prodIa
    rw [if_pos (by rw [← hq]; exact e)]
  have HQ := Lib.hid hq
  obtain ⟨r, hr⟩ : ∃ r, r = compB a b := ⟨_, rfl⟩
  rw [← hr]
  have HR : Hid (r = (q && !hasB (badOf a b) (productOf a b).init)) := by
    unfold Hid
    rw [hr, hq]
    rfl
  clear hr
  clear hq hT
  obtain ⟨a2, n2, c2, a3, n3, c3, a4, n4, c4, a5, n5, c5, rfl, r2, r3, r4, r5⟩ := h
  obtain ⟨b2, m2, d2, b3, m3, d3, b4, m4, d4, b5, m5, d5, rfl, q2, q3, q4, q5⟩ := k
  obtain ⟨st, it, ins, outs, hids, steps⟩ := a
  obtain ⟨su, iu, jns, juts, jids, jteps⟩ := b
  obtain ⟨f2, f3, f4, f5⟩ := fa
  obtain ⟨g2, g3, g4, g5⟩ := fb
  simp only at r2 r3 r4 r5 q2 q3 q4 q5 f2 f3 f4 f5 g2 g3 g4 g5
  have HA : Hid (∀ W, Below w.heap.size w W → IaRow W ⟨st, it, ins, outs, hids, steps⟩ (.agg #[.int .i64 st, .int .i64 it, .slice a2 n2 c2, .slice a3 n3 c3, .slice a4 n4 c4, .slice a5 n5 c5])) := fun W hW => IaRow.below ⟨a2, n2, c2, a3, n3, c3, a4, n4, c4, a5, n5, c5, rfl, r2, r3, r4, r5⟩ hW
  have HB : Hid (∀ W, Below w.heap.size w W → IaRow W ⟨su, iu, jns, juts, jids, jteps⟩ (.agg #[.int .i64 su, .int .i64 iu, .slice b2 m2 d2, .slice b3 m3 d3, .slice b4 m4 d4, .slice b5 m5 d5])) := fun W hW => IaRow.below ⟨b2, m2, d2, b3, m3, d3, b4, m4, d4, b5, m5, d5, rfl, q2, q3, q4, q5⟩ hW
  have S0 := Lib.hid (Box2.start w (iaC st it a2 n2 c2 a3 n3 c3 a4 n4 c4 a5 n5 c5) (iaC su iu b2 m2 d2 b3 m3 d3 b4 m4 d4 b5 m5 d5) 27)
  have FSA : Hid (Small ⟨st, it, ins, outs, hids, steps⟩) := ⟨f2, f3, f4, f5⟩
  have FSB : Hid (Small ⟨su, iu, jns, juts, jids, jteps⟩) := ⟨g2, g3, g4, g5⟩
  clear r2 r3 r4 r5 q2 q3 q4 q5 f2 f3 f4 f5 g2 g3 g4 g5
  have ca0 := S0.out.2.1.cell (j := 0) (u := .int .i64 st) rfl
  have ca1 := S0.out.2.1.cell (j := 1) (u := .int .i64 it) rfl
  have ca2 := S0.out.2.1.cell (j := 2) (u := .slice a2 n2 c2) rfl
  have ca3 := S0.out.2.1.cell (j := 3) (u := .slice a3 n3 c3) rfl
  have ca4 := S0.out.2.1.cell (j := 4) (u := .slice a4 n4 c4) rfl
  have ca5 := S0.out.2.1.cell (j := 5) (u := .slice a5 n5 c5) rfl
  have cb0 := S0.out.2.2.cell (j := 0) (u := .int .i64 su) rfl
  have cb1 := S0.out.2.2.cell (j := 1) (u := .int .i64 iu) rfl
  have cb2 := S0.out.2.2.cell (j := 2) (u := .slice b2 m2 d2) rfl
  have cb3 := S0.out.2.2.cell (j := 3) (u := .slice b3 m3 d3) rfl
  have cb4 := S0.out.2.2.cell (j := 4) (u := .slice b4 m4 d4) rfl
  have cb5 := S0.out.2.2.cell (j := 5) (u := .slice b5 m5 d5) rfl
  go_enter Tryz.func17, Tryz.ntmps17
  go_wp2_with fail
  clear ca0 ca1 ca2 ca3 ca4 ca5 cb0 cb1 cb2 cb3 cb4 cb5
  refine (CPr.out _ S0.out.1).mono ?_
  rintro e w4 ⟨xa2, xc2, xa3, xc3, xa4, xc4, xa5, xc5, rfl, hT4, hb⟩
  have bx := (Below.refl w4.heap.size w4).alloc (Nat.le_refl _) (.cells #[.int .i64 tst, .int .i64 tit, .slice xa2 tins.length xc2, .slice xa3 touts.length xc3, .slice xa4 thids.length xc4, .slice xa5 tsteps.length xc5] 27)
  have S4 := S0.out.below hb
  have S5 : Hid (ProS w (w4.alloc (.cells #[.int .i64 tst, .int .i64 tit, .slice xa2 tins.length xc2, .slice xa3 touts.length xc3, .slice xa4 thids.length xc4, .slice xa5 tsteps.length xc5] 27)) (iaC st it a2 n2 c2 a3 n3 c3 a4 n4 c4 a5 n5 c5) (iaC su iu b2 m2 d2 b3 m3 d3 b4 m4 d4 b5 m5 d5) (iaC tst tit xa2 tins.length xc2 xa3 touts.length xc3 xa4 thids.length xc4 xa5 tsteps.length xc5) w4.heap.size ⟨tst, tit, tins, touts, thids, tsteps⟩) := ⟨S4.below bx, VarIs.new w4 #[.int .i64 tst, .int .i64 tit, .slice xa2 tins.length xc2, .slice xa3 touts.length xc3, .slice xa4 thids.length xc4, .slice xa5 tsteps.length xc5] 27 rfl, (hT4.mono S0.out.1.size).below bx⟩
  clear hb hT4 bx S4 S0 CPr
  have CB : Hid (q = true → ∀ W, ProS w W (iaC st it a2 n2 c2 a3 n3 c3 a4 n4 c4 a5 n5 c5) (iaC su iu b2 m2 d2 b3 m3 d3 b4 m4 d4 b5 m5 d5) (iaC tst tit xa2 tins.length xc2 xa3 touts.length xc3 xa4 thids.length xc4 xa5 tsteps.length xc5) w4.heap.size ⟨tst, tit, tins, touts, thids, tsteps⟩ → Calls Tryz.prog 69 #[.agg #[.int .i64 st, .int .i64 it, .slice a2 n2 c2, .slice a3 n3 c3, .slice a4 n4 c4, .slice a5 n5 c5], .agg #[.int .i64 su, .int .i64 iu, .slice b2 m2 d2, .slice b3 m3 d3, .slice b4 m4 d4, .slice b5 m5 d5], .agg #[.int .i64 tst, .int .i64 tit, .slice xa2 tins.length xc2, .slice xa3 touts.length xc3, .slice xa4 thids.length xc4, .slice xa5 tsteps.length xc5]] W fun e w' => ∃ M n F, e = .returned (.map (some M)) ∧ MapB w' M n (fun p q => decide ((p, q) ∈ F)) ∧ BadF ⟨st, it, ins, outs, hids, steps⟩ ⟨su, iu, jns, juts, jids, jteps⟩ F ∧ Below W.heap.size W w') := fun e W hW => by
    have hp : prodB ⟨st, it, ins, outs, hids, steps⟩ ⟨su, iu, jns, juts, jids, jteps⟩ = true := by rw [← HQ.out]; exact e
    have ht := HT.out e
    obtain ⟨oka, okb, _⟩ := fitB_ok (prod_fit hp)
    have hen := prod_ends hp
    have hln := iaOk_len (prod_ok hp)
    rw [← ht] at hen hln
    refine (badPairs_any ⟨st, it, ins, outs, hids, steps⟩ ⟨su, iu, jns, juts, jids, jteps⟩ ⟨tst, tit, tins, touts, thids, tsteps⟩ _ _ _ W (HA.out W hW.1.1) (HB.out W hW.1.1) hW.2.2.rowIa FSA.out FSB.out oka okb hen hln x2).mono ?_
    rintro e w' ⟨M, n, F, rfl, hm, _, _, hF, hb⟩
    refine ⟨M, n, F, rfl, hm, ?_, hb⟩
    unfold BadF
    rw [← ht]
    exact hF
  have SD := S5.out.drew
  cases q with
  | false =>
    clear S5
    go_wp2_with fail
    refine wp_region_tf (S := fun w' => ProS w w' (iaC st it a2 n2 c2 a3 n3 c3 a4 n4 c4 a5 n5 c5) (iaC su iu b2 m2 d2 b3 m3 d3 b4 m4 d4 b5 m5 d5) (iaC tst tit xa2 tins.length xc2 xa3 touts.length xc3 xa4 thids.length xc4 xa5 tsteps.length xc5) w4.heap.size ⟨tst, tit, tins, touts, thids, tsteps⟩) 15 (by kernel_rfl) (by kernel_rfl) (by kernel_rfl) SD (fun hHeld => ?_)
    refine fast_move 0 13 (.bool false) (.tmp 6) (fuel := 14) rfl rfl (by kernel_rfl) (by kernel_rfl) (by kernel_rfl) (fun _ _ _ h => h) (by kernel_rfl) (by kernel_rfl) (by first | exact Or.inl rfl | exact Or.inr rfl) hHeld (tf 1 15) (by kernel_rfl) (fun K hK => ?_)
    go_big_move
    refine hK.out _ ?_
    clear hK K
    refine fast_move 1 14 (.bool false) (.tmp 13) (fuel := 13) rfl rfl (by kernel_rfl) (by kernel_rfl) (by kernel_rfl) (fun _ _ _ h => h) (by kernel_rfl) (by kernel_rfl) (by first | exact Or.inl rfl | exact Or.inr rfl) hHeld (tf 3 15) (by kernel_rfl) (fun K hK => ?_)
    go_big_move
    refine hK.out _ ?_
    clear hK K
    refine fast_skip 2 15 (fuel := 12) rfl rfl (by kernel_rfl) (by kernel_rfl) (by kernel_rfl) (fun _ _ _ h => h) (by kernel_rfl) hHeld (tf 7 15) (by kernel_rfl) (fun K hK => ?_)
    go_big_move
    refine hK.out _ ?_
    clear hK K
    refine fast_skip 3 16 (fuel := 11) rfl rfl (by kernel_rfl) (by kernel_rfl) (by kernel_rfl) (fun _ _ _ h => h) (by kernel_rfl) hHeld (tf 15 15) (by kernel_rfl) (fun K hK => ?_)
    go_big_move
    refine hK.out _ ?_
    clear hK K
    refine fast_skip 4 17 (fuel := 10) rfl rfl (by kernel_rfl) (by kernel_rfl) (by kernel_rfl) (fun _ _ _ h => h) (by kernel_rfl) hHeld (tf 31 15) (by kernel_rfl) (fun K hK => ?_)
    go_big_move
    refine hK.out _ ?_
    clear hK K
    refine fast_skip 5 18 (fuel := 9) rfl rfl (by kernel_rfl) (by kernel_rfl) (by kernel_rfl) (fun _ _ _ h => h) (by kernel_rfl) hHeld (tf 63 15) (by kernel_rfl) (fun K hK => ?_)
    go_big_move
    refine hK.out _ ?_
    clear hK K
    refine fast_skip 6 19 (fuel := 8) rfl rfl (by kernel_rfl) (by kernel_rfl) (by kernel_rfl) (fun _ _ _ h => h) (by kernel_rfl) hHeld (tf 127 15) (by kernel_rfl) (fun K hK => ?_)
    go_big_move
    refine hK.out _ ?_
    clear hK K
    refine fast_skip 7 20 (fuel := 7) rfl rfl (by kernel_rfl) (by kernel_rfl) (by kernel_rfl) (fun _ _ _ h => h) (by kernel_rfl) hHeld (tf 255 15) (by kernel_rfl) (fun K hK => ?_)
    go_big_move
    refine hK.out _ ?_
    clear hK K
    refine fast_skip 8 21 (fuel := 6) rfl rfl (by kernel_rfl) (by kernel_rfl) (by kernel_rfl) (fun _ _ _ h => h) (by kernel_rfl) hHeld (tf 511 15) (by kernel_rfl) (fun K hK => ?_)
    go_big_move
    refine hK.out _ ?_
    clear hK K
    refine fast_skip 9 22 (fuel := 5) rfl rfl (by kernel_rfl) (by kernel_rfl) (by kernel_rfl) (fun _ _ _ h => h) (by kernel_rfl) hHeld (tf 1023 15) (by kernel_rfl) (fun K hK => ?_)
    go_big_move
    refine hK.out _ ?_
    clear hK K
    refine fast_skip 10 23 (fuel := 4) rfl rfl (by kernel_rfl) (by kernel_rfl) (by kernel_rfl) (fun _ _ _ h => h) (by kernel_rfl) hHeld (tf 2047 15) (by kernel_rfl) (fun K hK => ?_)
    go_big_move
    refine hK.out _ ?_
    clear hK K
    refine fast_skip 11 24 (fuel := 3) rfl rfl (by kernel_rfl) (by kernel_rfl) (by kernel_rfl) (fun _ _ _ h => h) (by kernel_rfl) hHeld (tf 4095 15) (by kernel_rfl) (fun K hK => ?_)
    go_big_move
    refine hK.out _ ?_
    clear hK K
    refine fast_skip 12 25 (fuel := 2) rfl rfl (by kernel_rfl) (by kernel_rfl) (by kernel_rfl) (fun _ _ _ h => h) (by kernel_rfl) hHeld (tf 8191 15) (by kernel_rfl) (fun K hK => ?_)
    go_big_move
    refine hK.out _ ?_
    clear hK K
    refine fast2 13 26 (.bool false) (.tmp 14) (.bool false) (.tmp 25) (undef) (fuel := 1) rfl rfl (by kernel_rfl) (by kernel_rfl) (by kernel_rfl) (fun _ _ _ h => h) (by kernel_rfl) (by kernel_rfl) (by kernel_rfl) (fun ρ hr0 hr1 hc w hSw => by simp [go_sem, hc, hr0, hr1]) hHeld (tf 16383 15) (by kernel_rfl) (fun K hK => ?_)
    go_big_move
    refine hK.out _ ?_
    clear hK K
    refine fast_move 14 4 (.bool false) (.tmp 26) (fuel := 0) rfl rfl (by kernel_rfl) (by kernel_rfl) (by kernel_rfl) (fun _ _ _ h => h) (by kernel_rfl) (by kernel_rfl) (by first | exact Or.inl rfl | exact Or.inr rfl) hHeld (tf 32767 15) (by kernel_rfl) (fun K hK => ?_)
    go_big_move
    refine hK.out _ ?_
    clear hK K
    refine wpAnyH_done (by kernel_rfl) ?_ _
    have SE := Lib.hid hHeld
    clear hHeld SD
    go_wp2_with fail
    go_ret
    exact ⟨ret_bool (by rw [HR.out]; rfl), SE.out.1.1⟩
  | true =>
    clear S5
    go_wp2_with fail
    refine wp_region_tf (S := fun w' => ProS w w' (iaC st it a2 n2 c2 a3 n3 c3 a4 n4 c4 a5 n5 c5) (iaC su iu b2 m2 d2 b3 m3 d3 b4 m4 d4 b5 m5 d5) (iaC tst tit xa2 tins.length xc2 xa3 touts.length xc3 xa4 thids.length xc4 xa5 tsteps.length xc5) w4.heap.size ⟨tst, tit, tins, touts, thids, tsteps⟩) 15 (by kernel_rfl) (by kernel_rfl) (by kernel_rfl) SD (fun hHeld => ?_)
    refine fast_move 0 13 (.bool true) (.tmp 6) (fuel := 14) rfl rfl (by kernel_rfl) (by kernel_rfl) (by kernel_rfl) (fun _ _ _ h => h) (by kernel_rfl) (by kernel_rfl) (by first | exact Or.inl rfl | exact Or.inr rfl) hHeld (tf 1 15) (by kernel_rfl) (fun K hK => ?_)
    go_big_move
    refine hK.out _ ?_
    clear hK K
    refine fast_move 1 14 (.bool true) (.tmp 13) (fuel := 13) rfl rfl (by kernel_rfl) (by kernel_rfl) (by kernel_rfl) (fun _ _ _ h => h) (by kernel_rfl) (by kernel_rfl) (by first | exact Or.inl rfl | exact Or.inr rfl) hHeld (tf 3 15) (by kernel_rfl) (fun K hK => ?_)
    go_big_move
    refine hK.out _ ?_
    clear hK K
    refine fast_yields 2 15 (.agg #[.int .i64 st, .int .i64 it, .slice a2 n2 c2, .slice a3 n3 c3, .slice a4 n4 c4, .slice a5 n5 c5]) (fuel := 12) rfl rfl (by kernel_rfl) (by kernel_rfl) (by kernel_rfl) (fun _ _ _ h => h) (yieldsIf_load_mid (by rfl) _ _ rfl (w.heap.size) 0 rfl (iaC st it a2 n2 c2 a3 n3 c3 a4 n4 c4 a5 n5 c5).toList _ (fun w hw => hw.1.2.1.range) Tryz.underlying27 rfl (by kernel_rfl)) hHeld (tf 7 15) (by kernel_rfl) (fun K hK => ?_)
    go_big_move
    refine hK.out _ ?_
    clear hK K
    refine fast_yields 3 16 (.agg #[.int .i64 su, .int .i64 iu, .slice b2 m2 d2, .slice b3 m3 d3, .slice b4 m4 d4, .slice b5 m5 d5]) (fuel := 11) rfl rfl (by kernel_rfl) (by kernel_rfl) (by kernel_rfl) (fun _ _ _ h => h) (yieldsIf_load_mid (by rfl) _ _ rfl (w.heap.size + 1) 0 rfl (iaC su iu b2 m2 d2 b3 m3 d3 b4 m4 d4 b5 m5 d5).toList _ (fun w hw => hw.1.2.2.range) Tryz.underlying27 rfl (by kernel_rfl)) hHeld (tf 15 15) (by kernel_rfl) (fun K hK => ?_)
    go_big_move
    refine hK.out _ ?_
    clear hK K
    refine fast_yields 4 17 (.agg #[.int .i64 tst, .int .i64 tit, .slice xa2 tins.length xc2, .slice xa3 touts.length xc3, .slice xa4 thids.length xc4, .slice xa5 tsteps.length xc5]) (fuel := 10) rfl rfl (by kernel_rfl) (by kernel_rfl) (by kernel_rfl) (fun _ _ _ h => h) (yieldsIf_load_mid (by rfl) _ _ rfl (w4.heap.size) 0 rfl (iaC tst tit xa2 tins.length xc2 xa3 touts.length xc3 xa4 thids.length xc4 xa5 tsteps.length xc5).toList _ (fun w hw => hw.2.1.range) Tryz.underlying27 rfl (by kernel_rfl)) hHeld (tf 31 15) (by kernel_rfl) (fun K hK => ?_)
    go_big_move
    refine hK.out _ ?_
    clear hK K
    refine fast1 6 19 (.pointer (some ⟨w.heap.size, 1, none⟩)) (.tmp 2) (.pointer (some ⟨w.heap.size, 0, none⟩)) (fuel := 9) rfl rfl (by kernel_rfl) (by kernel_rfl) (by kernel_rfl) (fun _ _ _ h => h) (by kernel_rfl) (by kernel_rfl) (fun ρ hr0 _ w hSw => by simp [go_sem, hr0]) hHeld (tf 95 15) (by kernel_rfl) (fun K hK => ?_)
    go_big_move
    refine hK.out _ ?_
    clear hK K
    refine fast1 7 20 (.int .i64 it) (.tmp 19) (.pointer (some ⟨w.heap.size, 1, none⟩)) (fuel := 8) rfl rfl (by kernel_rfl) (by kernel_rfl) (by kernel_rfl) (fun _ _ _ h => h) (by kernel_rfl) (by kernel_rfl) (fun ρ hr0 _ w hSw => by have m := hSw.1.2.1.cell (j := 1) (u := .int .i64 it) rfl; simp [go_sem, hr0, m]) hHeld (tf 223 15) (by kernel_rfl) (fun K hK => ?_)
    go_big_move
    refine hK.out _ ?_
    clear hK K
    refine fast1 8 21 (.pointer (some ⟨w.heap.size + 1, 1, none⟩)) (.tmp 3) (.pointer (some ⟨w.heap.size + 1, 0, none⟩)) (fuel := 7) rfl rfl (by kernel_rfl) (by kernel_rfl) (by kernel_rfl) (fun _ _ _ h => h) (by kernel_rfl) (by kernel_rfl) (fun ρ hr0 _ w hSw => by simp [go_sem, hr0]) hHeld (tf 479 15) (by kernel_rfl) (fun K hK => ?_)
    go_big_move
    refine hK.out _ ?_
    clear hK K
    refine fast1 9 22 (.int .i64 iu) (.tmp 21) (.pointer (some ⟨w.heap.size + 1, 1, none⟩)) (fuel := 6) rfl rfl (by kernel_rfl) (by kernel_rfl) (by kernel_rfl) (fun _ _ _ h => h) (by kernel_rfl) (by kernel_rfl) (fun ρ hr0 _ w hSw => by have m := hSw.1.2.2.cell (j := 1) (u := .int .i64 iu) rfl; simp [go_sem, hr0, m]) hHeld (tf 991 15) (by kernel_rfl) (fun K hK => ?_)
    go_big_move
    refine hK.out _ ?_
    clear hK K
    refine fast2 10 23 (.agg #[.int .i64 it, .int .i64 iu]) (.tmp 20) (.int .i64 it) (.tmp 22) (.int .i64 iu) (fuel := 5) rfl rfl (by kernel_rfl) (by kernel_rfl) (by kernel_rfl) (fun _ _ _ h => h) (by kernel_rfl) (by kernel_rfl) (by kernel_rfl) (fun ρ hr0 hr1 _ w hSw => by simp [go_sem, hr0, hr1]) hHeld (tf 2015 15) (by kernel_rfl) (fun K hK => ?_)
    go_big_move
    refine hK.out _ ?_
    clear hK K
    refine wpAnyH_ready (rs := [5]) (fuel := 4) (by kernel_rfl) (by simp) ?_
    refine ready_want rfl (by kernel_rfl) (tf 2047 15) (by kernel_rfl) (fun K hK => ?_) AllReadyH.nil
    simp only [List.getElem_toArray, List.getElem_cons_succ, List.getElem_cons_zero]
    go_big_op
    refine (CB.out (by simp) _ hHeld).mono ?_
    rintro e w6 ⟨M, n, F, rfl, hm, hF, hb⟩
    have hS6 : ProS w w6 (iaC st it a2 n2 c2 a3 n3 c3 a4 n4 c4 a5 n5 c5) (iaC su iu b2 m2 d2 b3 m3 d3 b4 m4 d4 b5 m5 d5) (iaC tst tit xa2 tins.length xc2 xa3 touts.length xc3 xa4 thids.length xc4 xa5 tsteps.length xc5) w4.heap.size ⟨tst, tit, tins, touts, thids, tsteps⟩ := hHeld.below hb
    clear hb
    have hp : prodB ⟨st, it, ins, outs, hids, steps⟩ ⟨su, iu, jns, juts, jids, jteps⟩ = true := HQ.out.symm
    obtain ⟨oka, okb, _⟩ := fitB_ok (prod_fit hp)
    have iA := iaOk_init oka
    have iB := iaOk_init okb
    have sA := iaOk_states oka
    have sB := iaOk_states okb
    have hz := badF_has hp hF (p := it) (q := iu) (by simp only at iA ⊢; omega) (by simp only at iB ⊢; omega)
    simp only at iA iB sA sB
    have hlk := hm.look (p := it) (q := iu) (wf_low (by omega) (by omega)) (wf_low (by omega) (by omega))
    obtain ⟨z, hzz⟩ : ∃ z, z = decide ((it, iu) ∈ F) := ⟨_, rfl⟩
    rw [← hzz] at hlk hz
    have HZ : Hid (r = !z) := by
      rw [HR.out, hz]
      rfl
    clear hp oka okb iA iB sA sB hz hzz hm hF
    cases z
    · refine hK.out _ _ hS6 (fun hHeld => ?_)
      clear hK K
      refine wpAnyH_ready (rs := [11]) (fuel := 3) (by kernel_rfl) (by simp) ?_
      refine ready_want rfl (by kernel_rfl) (tf 4095 15) (by kernel_rfl) (fun K hK => ?_) AllReadyH.nil
      simp only [List.getElem_toArray, List.getElem_cons_succ, List.getElem_cons_zero]
      go_big_op
      refine hK.out _ _ hHeld (fun hHeld => ?_)
      clear hK K
      refine fast1 12 25 (.bool true) (.tmp 24) (.bool false) (fuel := 2) rfl rfl (by kernel_rfl) (by kernel_rfl) (by kernel_rfl) (fun _ _ _ h => h) (by kernel_rfl) (by kernel_rfl) (fun ρ hr0 _ w hSw => by simp [go_sem, hr0]) hHeld (tf 8191 15) (by kernel_rfl) (fun K hK => ?_)
      go_big_move
      refine hK.out _ ?_
      clear hK K
      refine fast2 13 26 (.bool true) (.tmp 14) (.bool true) (.tmp 25) (.bool true) (fuel := 1) rfl rfl (by kernel_rfl) (by kernel_rfl) (by kernel_rfl) (fun _ _ _ h => h) (by kernel_rfl) (by kernel_rfl) (by kernel_rfl) (fun ρ hr0 hr1 hc w hSw => by simp [go_sem, hc, hr0, hr1]) hHeld (tf 16383 15) (by kernel_rfl) (fun K hK => ?_)
      go_big_move
      refine hK.out _ ?_
      clear hK K
      refine fast_move 14 4 (.bool true) (.tmp 26) (fuel := 0) rfl rfl (by kernel_rfl) (by kernel_rfl) (by kernel_rfl) (fun _ _ _ h => h) (by kernel_rfl) (by kernel_rfl) (by first | exact Or.inl rfl | exact Or.inr rfl) hHeld (tf 32767 15) (by kernel_rfl) (fun K hK => ?_)
      go_big_move
      refine hK.out _ ?_
      clear hK K
      refine wpAnyH_done (by kernel_rfl) ?_ _
      have SE := Lib.hid hHeld
      clear hHeld SD
      go_wp2_with fail
      go_ret
      exact ⟨ret_bool (by rw [HZ.out]; rfl), SE.out.1.1⟩
    · refine hK.out _ _ hS6 (fun hHeld => ?_)
      clear hK K
      refine wpAnyH_ready (rs := [11]) (fuel := 3) (by kernel_rfl) (by simp) ?_
      refine ready_want rfl (by kernel_rfl) (tf 4095 15) (by kernel_rfl) (fun K hK => ?_) AllReadyH.nil
      simp only [List.getElem_toArray, List.getElem_cons_succ, List.getElem_cons_zero]
      go_big_op
      refine hK.out _ _ hHeld (fun hHeld => ?_)
      clear hK K
      refine fast1 12 25 (.bool false) (.tmp 24) (.bool true) (fuel := 2) rfl rfl (by kernel_rfl) (by kernel_rfl) (by kernel_rfl) (fun _ _ _ h => h) (by kernel_rfl) (by kernel_rfl) (fun ρ hr0 _ w hSw => by simp [go_sem, hr0]) hHeld (tf 8191 15) (by kernel_rfl) (fun K hK => ?_)
      go_big_move
      refine hK.out _ ?_
      clear hK K
      refine fast2 13 26 (.bool false) (.tmp 14) (.bool true) (.tmp 25) (.bool false) (fuel := 1) rfl rfl (by kernel_rfl) (by kernel_rfl) (by kernel_rfl) (fun _ _ _ h => h) (by kernel_rfl) (by kernel_rfl) (by kernel_rfl) (fun ρ hr0 hr1 hc w hSw => by simp [go_sem, hc, hr0, hr1]) hHeld (tf 16383 15) (by kernel_rfl) (fun K hK => ?_)
      go_big_move
      refine hK.out _ ?_
      clear hK K
      refine fast_move 14 4 (.bool false) (.tmp 26) (fuel := 0) rfl rfl (by kernel_rfl) (by kernel_rfl) (by kernel_rfl) (fun _ _ _ h => h) (by kernel_rfl) (by kernel_rfl) (by first | exact Or.inl rfl | exact Or.inr rfl) hHeld (tf 32767 15) (by kernel_rfl) (fun K hK => ?_)
      go_big_move
      refine hK.out _ ?_
      clear hK K
      refine wpAnyH_done (by kernel_rfl) ?_ _
      have SE := Lib.hid hHeld
      clear hHeld SD
      go_wp2_with fail
      go_ret
      exact ⟨ret_bool (by rw [HZ.out]; rfl), SE.out.1.1⟩

set_option maxRecDepth 20000 in
set_option maxHeartbeats 6400000 in
theorem specBad_any (a b : IaD) (v u : Value) (w : World) (h : IaRow w a v) (k : IaRow w b u) (fa : Small a) (fb : Small b) :
    Calls Tryz.prog 22 #[v, u] w (OwnRes w w.heap.size (badOf a b)) := by
  obtain ⟨q, hq⟩ : ∃ q, q = prodB a b := ⟨_, rfl⟩
  obtain ⟨⟨tst, tit, tins, touts, thids, tsteps⟩, hT⟩ : ∃ t, t = prodIa a b := ⟨_, rfl⟩
  obtain ⟨x2, x3, x4, x5⟩ := prod_small fa fb
  rw [← hT] at x2 x3 x4 x5
  simp only at x2 x3 x4 x5
  have CPr : Hid (∀ W, Below w.heap.size w W → Calls Tryz.prog 55 #[v, u] W fun e w' => ∃ (xa2 : Option Addr) (xc2 : Nat) (xa3 : Option Addr) (xc3 : Nat) (xa4 : Option Addr) (xc4 : Nat) (xa5 : Option Addr) (xc5 : Nat), e = .returned (.tuple #[.agg #[.int .i64 tst, .int .i64 tit, .slice xa2 tins.length xc2, .slice xa3 touts.length xc3, .slice xa4 thids.length xc4, .slice xa5 tsteps.length xc5], .bool q]) ∧ IaHigh w' W.heap.size ⟨tst, tit, tins, touts, thids, tsteps⟩ (.agg #[.int .i64 tst, .int .i64 tit, .slice xa2 tins.length xc2, .slice xa3 touts.length xc3, .slice xa4 thids.length xc4, .slice xa5 tsteps.length xc5]) ∧ Below W.heap.size W w') := fun W hW => by
    rw [hq, hT]
    refine (specProduct_any a b v u W (h.below hW) (k.below hW) fa fb).mono fun e w' ⟨v', he, ho, hb⟩ => ?_
    rw [← hT] at ho ⊢
    obtain ⟨_, _, _, _, _, _, _, _, rfl, _⟩ := ho.rowOf
    exact ⟨_, _, _, _, _, _, _, _, he, ho, hb⟩
  have HT : Hid (q = true → ⟨tst, tit, tins, touts, thids, tsteps⟩ = productOf a b) := fun e => by
    rw [hT]
    unfold prodIa
    rw [if_pos (by rw [← hq]; exact e)]
  have HQ := Lib.hid hq
  obtain ⟨L, hL⟩ : ∃ l, l = badOf a b := ⟨_, rfl⟩
  rw [← hL]
  have HL := Lib.hid hL
  clear hL
  obtain ⟨CL, hCL⟩ : ∃ l, l = clashesOf a b := ⟨_, rfl⟩
  have hcl : CL.length ≤ 1600 := by rw [hCL]; exact clashesOf_len
  have HC0 : Hid (CL.Pairwise (· < ·)) := by rw [hCL]; exact clashes_rise a b
  have HCL := Lib.hid hCL
  clear hCL
  clear hq hT
  obtain ⟨a2, n2, c2, a3, n3, c3, a4, n4, c4, a5, n5, c5, rfl, r2, r3, r4, r5⟩ := h
  obtain ⟨b2, m2, d2, b3, m3, d3, b4, m4, d4, b5, m5, d5, rfl, q2, q3, q4, q5⟩ := k
  obtain ⟨st, it, ins, outs, hids, steps⟩ := a
  obtain ⟨su, iu, jns, juts, jids, jteps⟩ := b
  obtain ⟨f2, f3, f4, f5⟩ := fa
  obtain ⟨g2, g3, g4, g5⟩ := fb
  simp only at r2 r3 r4 r5 q2 q3 q4 q5 f2 f3 f4 f5 g2 g3 g4 g5
  have HA : Hid (∀ W, Below w.heap.size w W → IaRow W ⟨st, it, ins, outs, hids, steps⟩ (.agg #[.int .i64 st, .int .i64 it, .slice a2 n2 c2, .slice a3 n3 c3, .slice a4 n4 c4, .slice a5 n5 c5])) := fun W hW => IaRow.below ⟨a2, n2, c2, a3, n3, c3, a4, n4, c4, a5, n5, c5, rfl, r2, r3, r4, r5⟩ hW
  have HB : Hid (∀ W, Below w.heap.size w W → IaRow W ⟨su, iu, jns, juts, jids, jteps⟩ (.agg #[.int .i64 su, .int .i64 iu, .slice b2 m2 d2, .slice b3 m3 d3, .slice b4 m4 d4, .slice b5 m5 d5])) := fun W hW => IaRow.below ⟨b2, m2, d2, b3, m3, d3, b4, m4, d4, b5, m5, d5, rfl, q2, q3, q4, q5⟩ hW
  have S0 := Lib.hid (Box2.start w (iaC st it a2 n2 c2 a3 n3 c3 a4 n4 c4 a5 n5 c5) (iaC su iu b2 m2 d2 b3 m3 d3 b4 m4 d4 b5 m5 d5) 27)
  have FSA : Hid (Small ⟨st, it, ins, outs, hids, steps⟩) := ⟨f2, f3, f4, f5⟩
  have FSB : Hid (Small ⟨su, iu, jns, juts, jids, jteps⟩) := ⟨g2, g3, g4, g5⟩
  clear r2 r3 r4 r5 q2 q3 q4 q5 f2 f3 f4 f5 g2 g3 g4 g5
  have CC : Hid (∀ W, Below w.heap.size w W → Calls Tryz.prog 56 #[.agg #[.int .i64 st, .int .i64 it, .slice a2 n2 c2, .slice a3 n3 c3, .slice a4 n4 c4, .slice a5 n5 c5], .agg #[.int .i64 su, .int .i64 iu, .slice b2 m2 d2, .slice b3 m3 d3, .slice b4 m4 d4, .slice b5 m5 d5]] W (OwnRes W W.heap.size CL)) := fun W hW => by
    rw [HCL.out]
    exact specClashes_any ⟨st, it, ins, outs, hids, steps⟩ ⟨su, iu, jns, juts, jids, jteps⟩ _ _ W (HA.out W hW) (HB.out W hW) FSA.out FSB.out
  have ca0 := S0.out.2.1.cell (j := 0) (u := .int .i64 st) rfl
  have ca1 := S0.out.2.1.cell (j := 1) (u := .int .i64 it) rfl
  have ca2 := S0.out.2.1.cell (j := 2) (u := .slice a2 n2 c2) rfl
  have ca3 := S0.out.2.1.cell (j := 3) (u := .slice a3 n3 c3) rfl
  have ca4 := S0.out.2.1.cell (j := 4) (u := .slice a4 n4 c4) rfl
  have ca5 := S0.out.2.1.cell (j := 5) (u := .slice a5 n5 c5) rfl
  have cb0 := S0.out.2.2.cell (j := 0) (u := .int .i64 su) rfl
  have cb1 := S0.out.2.2.cell (j := 1) (u := .int .i64 iu) rfl
  have cb2 := S0.out.2.2.cell (j := 2) (u := .slice b2 m2 d2) rfl
  have cb3 := S0.out.2.2.cell (j := 3) (u := .slice b3 m3 d3) rfl
  have cb4 := S0.out.2.2.cell (j := 4) (u := .slice b4 m4 d4) rfl
  have cb5 := S0.out.2.2.cell (j := 5) (u := .slice b5 m5 d5) rfl
  go_enter Tryz.func22, Tryz.ntmps22
  go_wp2_with fail
  clear ca0 ca1 ca2 ca3 ca4 ca5 cb0 cb1 cb2 cb3 cb4 cb5
  refine (CPr.out _ S0.out.1).mono ?_
  rintro e w4 ⟨xa2, xc2, xa3, xc3, xa4, xc4, xa5, xc5, rfl, hT4, hb⟩
  have bx := (Below.refl w4.heap.size w4).alloc (Nat.le_refl _) (.cells #[.int .i64 tst, .int .i64 tit, .slice xa2 tins.length xc2, .slice xa3 touts.length xc3, .slice xa4 thids.length xc4, .slice xa5 tsteps.length xc5] 27)
  have S4 := S0.out.below hb
  have S5 : Hid (ProS w (w4.alloc (.cells #[.int .i64 tst, .int .i64 tit, .slice xa2 tins.length xc2, .slice xa3 touts.length xc3, .slice xa4 thids.length xc4, .slice xa5 tsteps.length xc5] 27)) (iaC st it a2 n2 c2 a3 n3 c3 a4 n4 c4 a5 n5 c5) (iaC su iu b2 m2 d2 b3 m3 d3 b4 m4 d4 b5 m5 d5) (iaC tst tit xa2 tins.length xc2 xa3 touts.length xc3 xa4 thids.length xc4 xa5 tsteps.length xc5) w4.heap.size ⟨tst, tit, tins, touts, thids, tsteps⟩) := ⟨S4.below bx, VarIs.new w4 #[.int .i64 tst, .int .i64 tit, .slice xa2 tins.length xc2, .slice xa3 touts.length xc3, .slice xa4 thids.length xc4, .slice xa5 tsteps.length xc5] 27 rfl, (hT4.mono S0.out.1.size).below bx⟩
  clear hb hT4 bx S4 S0 CPr
  cases q with
  | false =>
    have HL0 : Hid (L = []) := by
      rw [HL.out]
      unfold badOf
      rw [← HQ.out]
      rfl
    go_wp2_with fail
    go_ret
    rw [HL0.out]
    have ho : Owns ((w4.alloc (.cells #[.int .i64 tst, .int .i64 tit, .slice xa2 tins.length xc2, .slice xa3 touts.length xc3, .slice xa4 thids.length xc4, .slice xa5 tsteps.length xc5] 27)).alloc (.cells #[] 3)) w.heap.size (.slice (some ⟨w4.heap.size + 1, 0, none⟩) 0 0) 0 [] := by
      have h0 := (owns_lit (w4.alloc (.cells #[.int .i64 tst, .int .i64 tit, .slice xa2 tins.length xc2, .slice xa3 touts.length xc3, .slice xa4 thids.length xc4, .slice xa5 tsteps.length xc5] 27)) [] 0 rfl (by unfold maxLen; omega)).mono S5.out.1.1.size
      simpa using h0
    exact ⟨_, _, rfl, ho, S5.out.1.1.alloc S5.out.1.1.size _⟩
  | true =>
    have hp : prodB ⟨st, it, ins, outs, hids, steps⟩ ⟨su, iu, jns, juts, jids, jteps⟩ = true := HQ.out.symm
    have ht := HT.out rfl
    have hln := iaOk_len (prod_ok hp)
    rw [← ht] at hln
    simp only at hln
    have HLL : Hid (L = alongOf [0] (backS tins tsteps) CL) := by
      unfold Hid
      rw [HL.out, HCL.out]
      unfold badOf
      rw [if_pos hp, ← ht]
    clear HL HCL hp ht HT HQ
    obtain ⟨BS, hBS⟩ : ∃ l, l = backS tins tsteps := ⟨_, rfl⟩
    have hbsl : BS.length ≤ 400 := by
      rw [hBS]
      unfold backS
      rw [List.length_map]
      exact Nat.le_trans (List.length_filter_le _ _) hln
    rw [← hBS] at HLL
    have HBS := Lib.hid hBS
    clear hBS
    have hs5 := S5.out.1.1.size
    have ca0 := S5.out.1.2.1.cell (j := 0) (u := .int .i64 st) rfl
    have ca1 := S5.out.1.2.1.cell (j := 1) (u := .int .i64 it) rfl
    have ca2 := S5.out.1.2.1.cell (j := 2) (u := .slice a2 n2 c2) rfl
    have ca3 := S5.out.1.2.1.cell (j := 3) (u := .slice a3 n3 c3) rfl
    have ca4 := S5.out.1.2.1.cell (j := 4) (u := .slice a4 n4 c4) rfl
    have ca5 := S5.out.1.2.1.cell (j := 5) (u := .slice a5 n5 c5) rfl
    have cb0 := S5.out.1.2.2.cell (j := 0) (u := .int .i64 su) rfl
    have cb1 := S5.out.1.2.2.cell (j := 1) (u := .int .i64 iu) rfl
    have cb2 := S5.out.1.2.2.cell (j := 2) (u := .slice b2 m2 d2) rfl
    have cb3 := S5.out.1.2.2.cell (j := 3) (u := .slice b3 m3 d3) rfl
    have cb4 := S5.out.1.2.2.cell (j := 4) (u := .slice b4 m4 d4) rfl
    have cb5 := S5.out.1.2.2.cell (j := 5) (u := .slice b5 m5 d5) rfl
    go_wp2_with fail
    clear ca0 ca1 ca2 ca3 ca4 ca5 cb0 cb1 cb2 cb3 cb4 cb5
    refine (CC.out _ S5.out.1.1).mono ?_
    rintro e w6 ⟨g0, c0, rfl, ho, hb⟩
    have S6 := Lib.hid (S5.out.below hb)
    have O6 := Lib.hid (ho.mono hs5)
    clear ho hb S5 CC
    
    go_wp2_with fail
    go_loopw [7] (fun out wr => ∃ (g e0 len : Nat) (O : List Int), out = .slice (some ⟨g, 0, none⟩) len e0 ∧ Hid (Owns wr w.heap.size (.slice (some ⟨g, 0, none⟩) len e0) len O) ∧ len ≤ 2000 ∧ Hid (O.Pairwise (· < ·) ∧ (∀ x ∈ CL, x ∈ O) ∧ ∀ y ∈ O, Come [0] BS CL y) ∧ Hid (ProS w wr (iaC st it a2 n2 c2 a3 n3 c3 a4 n4 c4 a5 n5 c5) (iaC su iu b2 m2 d2 b3 m3 d3 b4 m4 d4 b5 m5 d5) (iaC tst tit xa2 tins.length xc2 xa3 touts.length xc3 xa4 thids.length xc4 xa5 tsteps.length xc5) w4.heap.size ⟨tst, tit, tins, touts, thids, tsteps⟩)) (fun out _ => 2000 - lenOf out)
    case atStart => exact ⟨g0, c0, CL.length, CL, rfl, O6.out, by omega, ⟨HC0.out, fun x hx => hx, fun y hy => .start y hy⟩, S6.out⟩
    case round =>
      clear O6 S6
      obtain ⟨g, e0, len, O, rfl, HO, hlen, HI, HS⟩ := hrel
      go_wp2_with fail
      go_loopw [7, 9] (fun out i wr => ∃ (k j2 e2 len2 : Nat) (O2 : List Int), k ≤ tsteps.length ∧ i = .int .i64 k ∧ out = .slice (some ⟨j2, 0, none⟩) len2 e2 ∧ Hid (Owns wr w.heap.size (.slice (some ⟨j2, 0, none⟩) len2 e2) len2 O2) ∧ Hid (O2 = backPass tins (tsteps.take k) O) ∧ Hid (ProS w wr (iaC st it a2 n2 c2 a3 n3 c3 a4 n4 c4 a5 n5 c5) (iaC su iu b2 m2 d2 b3 m3 d3 b4 m4 d4 b5 m5 d5) (iaC tst tit xa2 tins.length xc2 xa3 touts.length xc3 xa4 thids.length xc4 xa5 tsteps.length xc5) w4.heap.size ⟨tst, tit, tins, touts, thids, tsteps⟩)) (fun _ i _ => tsteps.length - (intOf i).toNat)
      case atStart => exact ⟨0, g, e0, len, O, Nat.zero_le _, rfl, rfl, HO.out, by simp [Hid, backPass], HS.out⟩
      case round =>
        obtain ⟨k, j2, e2, len2, O2, hk, rfl, rfl, HO2, HT, HS2⟩ := hrel
        have hlen2 : len2 ≤ 2000 := by
          have h0 : O2 = passOf [0] (backS tins (tsteps.take k)) O := by rw [HT.out, backPass_eq]
          have h1 := passOf_rises (set := [0]) (ss := backS tins (tsteps.take k)) HI.out.1
          have h2 := passOf_come (set := [0]) (ss := backS tins (tsteps.take k)) (ss' := BS) (L := CL) (fun s hs => by
            rw [HBS.out]
            unfold backS at hs ⊢
            obtain ⟨y, hy, rfl⟩ := List.mem_map.1 hs
            obtain ⟨h1, h2⟩ := List.mem_filter.1 hy
            exact List.mem_map.2 ⟨y, List.mem_filter.2 ⟨List.mem_of_mem_take h1, h2⟩, rfl⟩) HI.out.2.2
          have h3 := come_bound h1 h2
          rw [← h0, HO2.out.length] at h3
          omega
        have kb := HS2.out.2.1.cell (j := 5) (u := .slice xa5 tsteps.length xc5) rfl
        by_cases hlt : k < tsteps.length
        · have r5 := HS2.out.2.2.rowIa.parts.2.2.2
          obtain ⟨b, off, rfl, hbx, hcell⟩ := r5.2 (by omega)
          obtain ⟨⟨xf, xa, xt⟩, hs⟩ : ∃ t, t = tsteps[k] := ⟨_, rfl⟩
          obtain ⟨s0, s1, s2⟩ := hcell k tsteps[k] (List.getElem?_eq_getElem hlt)
          rw [← hs] at s0 s1 s2
          simp only at s0 s1 s2
          obtain ⟨q1, hq1⟩ : ∃ q, q = hasB tins xa := ⟨_, rfl⟩
          obtain ⟨q2, hq2⟩ : ∃ q, q = hasB O2 xt := ⟨_, rfl⟩
          have HP : Hid (backPass tins (tsteps.take (k + 1)) O = if !q1 && q2 then put O2 xf else O2) := by
            unfold Hid
            rw [List.take_succ_eq_append_getElem hlt, ← hs, backPass_snoc, ← HT.out, hq1, hq2]
          have bx : Hid (Below wr.heap.size wr (wr.alloc (.cells #[.int .i64 xf, .int .i64 xa, .int .i64 xt] 77))) := (Below.refl _ _).alloc (Nat.le_refl _) _
          have HS3 := Lib.hid (HS2.out.below bx.out)
          have HO3 := Lib.hid (HO2.out.below bx.out)
          have X1 := Lib.hid (VarIs.new wr #[.int .i64 xf, .int .i64 xa, .int .i64 xt] 77 rfl)
          have C1 : Hid (∀ W, ProS w W (iaC st it a2 n2 c2 a3 n3 c3 a4 n4 c4 a5 n5 c5) (iaC su iu b2 m2 d2 b3 m3 d3 b4 m4 d4 b5 m5 d5) (iaC tst tit xa2 tins.length xc2 xa3 touts.length xc3 xa4 thids.length xc4 (some ⟨b, off, none⟩) tsteps.length xc5) w4.heap.size ⟨tst, tit, tins, touts, thids, tsteps⟩ → Calls Tryz.prog 57 #[.slice xa2 tins.length xc2, .int .i64 xa] W fun e w' => e = .returned (.bool q1) ∧ W = w') := fun W hW => by
            rw [hq1]
            exact (specSetHas_any _ _ _ xa tins W hW.2.2.rowIa.parts.1 (by omega)).mono fun _ _ h => ⟨h.1, h.2.symm⟩
          have C2 : Hid (Calls Tryz.prog 57 #[.slice (some ⟨j2, 0, none⟩) len2 e2, .int .i64 xt] (wr.alloc (.cells #[.int .i64 xf, .int .i64 xa, .int .i64 xt] 77)) fun e w' => e = .returned (.bool q2) ∧ (wr.alloc (.cells #[.int .i64 xf, .int .i64 xa, .int .i64 xt] 77)) = w') := by
            unfold Hid
            rw [hq2]
            exact (specSetHas_any _ len2 e2 xt O2 _ HO3.out.row.2.2.2 (by omega)).mono fun _ _ h => ⟨h.1, h.2.symm⟩
          have y0 := X1.out.cell (j := 0) (u := .int .i64 xf) rfl
          have y1 := X1.out.cell (j := 1) (u := .int .i64 xa) rfl
          have y2 := X1.out.cell (j := 2) (u := .int .i64 xt) rfl
          have kb2 := HS3.out.2.1.cell (j := 2) (u := .slice xa2 tins.length xc2) rfl
          have hsz3 := HS3.out.1.1.size
          clear hq1 hq2 hs hcell HT r5 HO2 HS2
          go_wp2_with fail
          refine (C1.out _ HS3.out).mono ?_
          rintro e w3 ⟨rfl, rfl⟩
          clear s0 s1 s2 kb
          cases q1 with
          | true =>
            have HP2 : Hid (O2 = backPass tins (tsteps.take (k + 1)) O) := HP.out.symm
            go_wp2_with fail
            go_roundw
            case rel => exact ⟨k + 1, j2, e2, len2, O2, by omega, by go_num, rfl, HO3.out, HP2.out, HS3.out⟩
            case measure => simp [intOf]; omega
          | false =>
            cases q2 with
            | false =>
              have HP2 : Hid (O2 = backPass tins (tsteps.take (k + 1)) O) := HP.out.symm
              go_wp2_with fail
              refine C2.out.mono ?_
              rintro e w3 ⟨rfl, rfl⟩
              go_wp2_with fail
              go_roundw
              case rel => exact ⟨k + 1, j2, e2, len2, O2, by omega, by go_num, rfl, HO3.out, HP2.out, HS3.out⟩
              case measure => simp [intOf]; omega
            | true =>
              have HP2 : Hid (put O2 xf = backPass tins (tsteps.take (k + 1)) O) := HP.out.symm
              go_wp2_with fail
              refine C2.out.mono ?_
              rintro e w3 ⟨rfl, rfl⟩
              go_wp2_with fail
              refine (put_any j2 len2 e2 xf O2 w.heap.size _ HO3.out (by omega) hsz3).mono ?_
              rintro e w3 ⟨g3, e3, rfl, ho, hb3⟩
              have HO4 := Lib.hid ho
              have HS4 := Lib.hid (HS3.out.below hb3)
              clear ho hb3 y0 y1 y2 kb2
              go_wp2_with fail
              go_roundw
              case rel => exact ⟨k + 1, g3, e3, _, put O2 xf, by omega, by go_num, rfl, HO4.out, HP2.out, HS4.out⟩
              case measure => simp [intOf]; omega
        · have HE : Hid (O2 = passOf [0] BS O) := by
            have h1 := HT.out
            rw [List.take_of_length_le (by omega)] at h1
            rw [HBS.out, ← backPass_eq]
            exact h1
          have hge : len ≤ len2 := by
            have := passOf_len (set := [0]) (ss := BS) HI.out.1
            rw [← HE.out, HO2.out.length, HO.out.length] at this
            exact this
          have HI2 : Hid (O2.Pairwise (· < ·) ∧ (∀ x ∈ CL, x ∈ O2) ∧ ∀ y ∈ O2, Come [0] BS CL y) := by
            rw [HE.out]
            exact ⟨passOf_rises HI.out.1, fun x hx => mem_passOf (HI.out.2.1 x hx), passOf_come (fun _ h => h) HI.out.2.2⟩
          by_cases heq : len2 = len
          · have HR : Hid (O2 = L) := by
              have hl : (passOf [0] BS O).length = O.length := by rw [← HE.out, HO2.out.length, HO.out.length, heq]
              rw [HLL.out, HE.out, passOf_done HI.out.1 hl]
              exact along_eq HI.out.1 (pass_end HI.out.1 HI.out.2.1 HI.out.2.2 hl)
            have hd : ((len2 : Int) == (len : Int)) = true := by simp [heq]
            clear heq
            go_wp2_with fail
            go_ret
            have e := HO2.out.length
            rw [← HR.out]
            subst e
            exact ⟨_, _, rfl, HO2.out, HS2.out.1.1⟩
          · have hd : ((len2 : Int) == (len : Int)) = false := by simp; omega
            go_wp2_with fail
            go_roundw
            case rel => exact ⟨j2, e2, len2, O2, rfl, HO2.out, hlen2, HI2.out, HS2.out⟩
            case measure => simp [lenOf]; omega

set_option maxRecDepth 20000 in
set_option maxHeartbeats 6400000 in
theorem specCompatible_any (a b : IaD) (v u : Value) (w : World) (h : IaRow w a v) (k : IaRow w b u) (fa : Small a) (fb : Small b) :
    Calls Tryz.prog 30 #[v, u] w fun e w' => e = .returned (.bool (compB a b)) ∧ Below w.heap.size w w' := by
  obtain ⟨q, hq⟩ : ∃ q, q = prodB a b := ⟨_, rfl⟩
  obtain ⟨⟨tst, tit, tins, touts, thids, tsteps⟩, hT⟩ : ∃ t, t = prodIa a b := ⟨_, rfl⟩
  obtain ⟨x2, x3, x4, x5⟩ := prod_small fa fb
  rw [← hT] at x2 x3 x4 x5
  simp only at x2 x3 x4 x5
  have CPr : Hid (∀ W, Below w.heap.size w W → Calls Tryz.prog 55 #[v, u] W fun e w' => ∃ (xa2 : Option Addr) (xc2 : Nat) (xa3 : Option Addr) (xc3 : Nat) (xa4 : Option Addr) (xc4 : Nat) (xa5 : Option Addr) (xc5 : Nat), e = .returned (.tuple #[.agg #[.int .i64 tst, .int .i64 tit, .slice xa2 tins.length xc2, .slice xa3 touts.length xc3, .slice xa4 thids.length xc4, .slice xa5 tsteps.length xc5], .bool q]) ∧ IaHigh w' W.heap.size ⟨tst, tit, tins, touts, thids, tsteps⟩ (.agg #[.int .i64 tst, .int .i64 tit, .slice xa2 tins.length xc2, .slice xa3 touts.length xc3, .slice xa4 thids.length xc4, .slice xa5 tsteps.length xc5]) ∧ Below W.heap.size W w') := fun W hW => by
    rw [hq, hT]
    refine (specProduct_any a b v u W (h.below hW) (k.below hW) fa fb).mono fun e w' ⟨v', he, ho, hb⟩ => ?_
    rw [← hT] at ho ⊢
    obtain ⟨_, _, _, _, _, _, _, _, rfl, _⟩ := ho.rowOf
    exact ⟨_, _, _, _, _, _, _, _, he, ho, hb⟩
  have HT : Hid (q = true → ⟨tst, tit, tins, touts, thids, tsteps⟩ = productOf a b) := fun e => by
    rw [hT]
    unfold prodIa
    rw [if_pos (by rw [← hq]; exact e)]
  have HQ := Lib.hid hq
  obtain ⟨r, hr⟩ : ∃ r, r = compB a b := ⟨_, rfl⟩
  rw [← hr]
  have HR : Hid (r = (q && !hasB (badOf a b) (productOf a b).init)) := by
    unfold Hid
    rw [hr, hq]
    rfl
  clear hr
  obtain ⟨BL, hBL⟩ : ∃ l, l = badOf a b := ⟨_, rfl⟩
  have hbl : BL.length ≤ 2000 := by rw [hBL]; exact badOf_len a b
  rw [← hBL] at HR
  have HBL := Lib.hid hBL
  clear hBL
  clear hq hT
  obtain ⟨a2, n2, c2, a3, n3, c3, a4, n4, c4, a5, n5, c5, rfl, r2, r3, r4, r5⟩ := h
  obtain ⟨b2, m2, d2, b3, m3, d3, b4, m4, d4, b5, m5, d5, rfl, q2, q3, q4, q5⟩ := k
  obtain ⟨st, it, ins, outs, hids, steps⟩ := a
  obtain ⟨su, iu, jns, juts, jids, jteps⟩ := b
  obtain ⟨f2, f3, f4, f5⟩ := fa
  obtain ⟨g2, g3, g4, g5⟩ := fb
  simp only at r2 r3 r4 r5 q2 q3 q4 q5 f2 f3 f4 f5 g2 g3 g4 g5
  have HA : Hid (∀ W, Below w.heap.size w W → IaRow W ⟨st, it, ins, outs, hids, steps⟩ (.agg #[.int .i64 st, .int .i64 it, .slice a2 n2 c2, .slice a3 n3 c3, .slice a4 n4 c4, .slice a5 n5 c5])) := fun W hW => IaRow.below ⟨a2, n2, c2, a3, n3, c3, a4, n4, c4, a5, n5, c5, rfl, r2, r3, r4, r5⟩ hW
  have HB : Hid (∀ W, Below w.heap.size w W → IaRow W ⟨su, iu, jns, juts, jids, jteps⟩ (.agg #[.int .i64 su, .int .i64 iu, .slice b2 m2 d2, .slice b3 m3 d3, .slice b4 m4 d4, .slice b5 m5 d5])) := fun W hW => IaRow.below ⟨b2, m2, d2, b3, m3, d3, b4, m4, d4, b5, m5, d5, rfl, q2, q3, q4, q5⟩ hW
  have S0 := Lib.hid (Box2.start w (iaC st it a2 n2 c2 a3 n3 c3 a4 n4 c4 a5 n5 c5) (iaC su iu b2 m2 d2 b3 m3 d3 b4 m4 d4 b5 m5 d5) 27)
  have FSA : Hid (Small ⟨st, it, ins, outs, hids, steps⟩) := ⟨f2, f3, f4, f5⟩
  have FSB : Hid (Small ⟨su, iu, jns, juts, jids, jteps⟩) := ⟨g2, g3, g4, g5⟩
  clear r2 r3 r4 r5 q2 q3 q4 q5 f2 f3 f4 f5 g2 g3 g4 g5
  have CBD0 : Hid (∀ W, Below w.heap.size w W → Calls Tryz.prog 22 #[.agg #[.int .i64 st, .int .i64 it, .slice a2 n2 c2, .slice a3 n3 c3, .slice a4 n4 c4, .slice a5 n5 c5], .agg #[.int .i64 su, .int .i64 iu, .slice b2 m2 d2, .slice b3 m3 d3, .slice b4 m4 d4, .slice b5 m5 d5]] W fun e w' => ∃ ad cc, e = .returned (.slice ad BL.length cc) ∧ Row w' ad BL.length BL ∧ Below W.heap.size W w') := fun W hW => by
    rw [HBL.out]
    refine (specBad_any ⟨st, it, ins, outs, hids, steps⟩ ⟨su, iu, jns, juts, jids, jteps⟩ _ _ W (HA.out W hW) (HB.out W hW) FSA.out FSB.out).mono ?_
    rintro e w' ⟨g, cc, rfl, ho, hb⟩
    exact ⟨_, cc, rfl, ho.row.2.2.2, hb⟩
  obtain ⟨z, hz⟩ : ∃ z, z = hasB BL tit := ⟨_, rfl⟩
  have CSH : Hid (∀ W ad cc, Row W ad BL.length BL → Calls Tryz.prog 57 #[.slice ad BL.length cc, .int .i64 tit] W fun e w' => e = .returned (.bool z) ∧ W = w') := fun W ad cc hr => by
    rw [hz]
    exact (specSetHas_any _ _ _ tit BL W hr (by omega)).mono fun _ _ h => ⟨h.1, h.2.symm⟩
  have HZ : Hid (r = (q && !z)) := by
    unfold Hid
    rw [HR.out, hz]
    cases q with
    | false => rfl
    | true =>
      have h0 := HT.out rfl
      rw [← h0]
  clear HR hz HBL HQ HT HA HB FSA FSB
  have ca0 := S0.out.2.1.cell (j := 0) (u := .int .i64 st) rfl
  have ca1 := S0.out.2.1.cell (j := 1) (u := .int .i64 it) rfl
  have ca2 := S0.out.2.1.cell (j := 2) (u := .slice a2 n2 c2) rfl
  have ca3 := S0.out.2.1.cell (j := 3) (u := .slice a3 n3 c3) rfl
  have ca4 := S0.out.2.1.cell (j := 4) (u := .slice a4 n4 c4) rfl
  have ca5 := S0.out.2.1.cell (j := 5) (u := .slice a5 n5 c5) rfl
  have cb0 := S0.out.2.2.cell (j := 0) (u := .int .i64 su) rfl
  have cb1 := S0.out.2.2.cell (j := 1) (u := .int .i64 iu) rfl
  have cb2 := S0.out.2.2.cell (j := 2) (u := .slice b2 m2 d2) rfl
  have cb3 := S0.out.2.2.cell (j := 3) (u := .slice b3 m3 d3) rfl
  have cb4 := S0.out.2.2.cell (j := 4) (u := .slice b4 m4 d4) rfl
  have cb5 := S0.out.2.2.cell (j := 5) (u := .slice b5 m5 d5) rfl
  go_enter Tryz.func30, Tryz.ntmps30
  go_wp2_with fail
  clear ca0 ca1 ca2 ca3 ca4 ca5 cb0 cb1 cb2 cb3 cb4 cb5
  refine (CPr.out _ S0.out.1).mono ?_
  rintro e w4 ⟨xa2, xc2, xa3, xc3, xa4, xc4, xa5, xc5, rfl, hT4, hb⟩
  have bx := (Below.refl w4.heap.size w4).alloc (Nat.le_refl _) (.cells #[.int .i64 tst, .int .i64 tit, .slice xa2 tins.length xc2, .slice xa3 touts.length xc3, .slice xa4 thids.length xc4, .slice xa5 tsteps.length xc5] 27)
  have S4 := S0.out.below hb
  have S5 : Hid (ProS w (w4.alloc (.cells #[.int .i64 tst, .int .i64 tit, .slice xa2 tins.length xc2, .slice xa3 touts.length xc3, .slice xa4 thids.length xc4, .slice xa5 tsteps.length xc5] 27)) (iaC st it a2 n2 c2 a3 n3 c3 a4 n4 c4 a5 n5 c5) (iaC su iu b2 m2 d2 b3 m3 d3 b4 m4 d4 b5 m5 d5) (iaC tst tit xa2 tins.length xc2 xa3 touts.length xc3 xa4 thids.length xc4 xa5 tsteps.length xc5) w4.heap.size ⟨tst, tit, tins, touts, thids, tsteps⟩) := ⟨S4.below bx, VarIs.new w4 #[.int .i64 tst, .int .i64 tit, .slice xa2 tins.length xc2, .slice xa3 touts.length xc3, .slice xa4 thids.length xc4, .slice xa5 tsteps.length xc5] 27 rfl, (hT4.mono S0.out.1.size).below bx⟩
  clear hb hT4 bx S4 S0 CPr
  have CBD : Hid (∀ W, ProS w W (iaC st it a2 n2 c2 a3 n3 c3 a4 n4 c4 a5 n5 c5) (iaC su iu b2 m2 d2 b3 m3 d3 b4 m4 d4 b5 m5 d5) (iaC tst tit xa2 tins.length xc2 xa3 touts.length xc3 xa4 thids.length xc4 xa5 tsteps.length xc5) w4.heap.size ⟨tst, tit, tins, touts, thids, tsteps⟩ → Calls Tryz.prog 22 #[.agg #[.int .i64 st, .int .i64 it, .slice a2 n2 c2, .slice a3 n3 c3, .slice a4 n4 c4, .slice a5 n5 c5], .agg #[.int .i64 su, .int .i64 iu, .slice b2 m2 d2, .slice b3 m3 d3, .slice b4 m4 d4, .slice b5 m5 d5]] W fun e w' => ∃ ad cc, e = .returned (.slice ad BL.length cc) ∧ Row w' ad BL.length BL ∧ Below W.heap.size W w') := fun W hW => CBD0.out W hW.1.1
  clear CBD0
  have SD := S5.out.drew
  clear S5
  cases q with
  | false =>
    go_wp2_with fail
    refine wp_region_tf (S := fun w' => ProS w w' (iaC st it a2 n2 c2 a3 n3 c3 a4 n4 c4 a5 n5 c5) (iaC su iu b2 m2 d2 b3 m3 d3 b4 m4 d4 b5 m5 d5) (iaC tst tit xa2 tins.length xc2 xa3 touts.length xc3 xa4 thids.length xc4 xa5 tsteps.length xc5) w4.heap.size ⟨tst, tit, tins, touts, thids, tsteps⟩) 11 (by kernel_rfl) (by kernel_rfl) (by kernel_rfl) SD (fun hHeld => ?_)
    refine fast_move 0 13 (.bool false) (.tmp 6) (fuel := 10) rfl rfl (by kernel_rfl) (by kernel_rfl) (by kernel_rfl) (fun _ _ _ h => h) (by kernel_rfl) (by kernel_rfl) (by first | exact Or.inl rfl | exact Or.inr rfl) hHeld (tf 1 11) (by kernel_rfl) (fun K hK => ?_)
    go_big_move
    refine hK.out _ ?_
    clear hK K
    refine fast_move 1 14 (.bool false) (.tmp 13) (fuel := 9) rfl rfl (by kernel_rfl) (by kernel_rfl) (by kernel_rfl) (fun _ _ _ h => h) (by kernel_rfl) (by kernel_rfl) (by first | exact Or.inl rfl | exact Or.inr rfl) hHeld (tf 3 11) (by kernel_rfl) (fun K hK => ?_)
    go_big_move
    refine hK.out _ ?_
    clear hK K
    refine fast_skip 2 15 (fuel := 8) rfl rfl (by kernel_rfl) (by kernel_rfl) (by kernel_rfl) (fun _ _ _ h => h) (by kernel_rfl) hHeld (tf 7 11) (by kernel_rfl) (fun K hK => ?_)
    go_big_move
    refine hK.out _ ?_
    clear hK K
    refine fast_skip 3 16 (fuel := 7) rfl rfl (by kernel_rfl) (by kernel_rfl) (by kernel_rfl) (fun _ _ _ h => h) (by kernel_rfl) hHeld (tf 15 11) (by kernel_rfl) (fun K hK => ?_)
    go_big_move
    refine hK.out _ ?_
    clear hK K
    refine fast_skip 4 17 (fuel := 6) rfl rfl (by kernel_rfl) (by kernel_rfl) (by kernel_rfl) (fun _ _ _ h => h) (by kernel_rfl) hHeld (tf 31 11) (by kernel_rfl) (fun K hK => ?_)
    go_big_move
    refine hK.out _ ?_
    clear hK K
    refine fast_skip 5 18 (fuel := 5) rfl rfl (by kernel_rfl) (by kernel_rfl) (by kernel_rfl) (fun _ _ _ h => h) (by kernel_rfl) hHeld (tf 63 11) (by kernel_rfl) (fun K hK => ?_)
    go_big_move
    refine hK.out _ ?_
    clear hK K
    refine fast_skip 6 19 (fuel := 4) rfl rfl (by kernel_rfl) (by kernel_rfl) (by kernel_rfl) (fun _ _ _ h => h) (by kernel_rfl) hHeld (tf 127 11) (by kernel_rfl) (fun K hK => ?_)
    go_big_move
    refine hK.out _ ?_
    clear hK K
    refine fast_skip 7 20 (fuel := 3) rfl rfl (by kernel_rfl) (by kernel_rfl) (by kernel_rfl) (fun _ _ _ h => h) (by kernel_rfl) hHeld (tf 255 11) (by kernel_rfl) (fun K hK => ?_)
    go_big_move
    refine hK.out _ ?_
    clear hK K
    refine fast_skip 8 21 (fuel := 2) rfl rfl (by kernel_rfl) (by kernel_rfl) (by kernel_rfl) (fun _ _ _ h => h) (by kernel_rfl) hHeld (tf 511 11) (by kernel_rfl) (fun K hK => ?_)
    go_big_move
    refine hK.out _ ?_
    clear hK K
    refine fast2 9 22 (.bool false) (.tmp 14) (.bool false) (.tmp 21) (undef) (fuel := 1) rfl rfl (by kernel_rfl) (by kernel_rfl) (by kernel_rfl) (fun _ _ _ h => h) (by kernel_rfl) (by kernel_rfl) (by kernel_rfl) (fun ρ hr0 hr1 hc w hSw => by simp [go_sem, hc, hr0, hr1]) hHeld (tf 1023 11) (by kernel_rfl) (fun K hK => ?_)
    go_big_move
    refine hK.out _ ?_
    clear hK K
    refine fast_move 10 4 (.bool false) (.tmp 22) (fuel := 0) rfl rfl (by kernel_rfl) (by kernel_rfl) (by kernel_rfl) (fun _ _ _ h => h) (by kernel_rfl) (by kernel_rfl) (by first | exact Or.inl rfl | exact Or.inr rfl) hHeld (tf 2047 11) (by kernel_rfl) (fun K hK => ?_)
    go_big_move
    refine hK.out _ ?_
    clear hK K
    refine wpAnyH_done (by kernel_rfl) ?_ _
    have SE := Lib.hid hHeld
    clear hHeld SD
    go_wp2_with fail
    go_ret
    exact ⟨ret_bool (by rw [HZ.out]; rfl), SE.out.1.1⟩
  | true =>
    cases z with
    | false =>
      go_wp2_with fail
      refine wp_region_tf (S := fun w' => ProS w w' (iaC st it a2 n2 c2 a3 n3 c3 a4 n4 c4 a5 n5 c5) (iaC su iu b2 m2 d2 b3 m3 d3 b4 m4 d4 b5 m5 d5) (iaC tst tit xa2 tins.length xc2 xa3 touts.length xc3 xa4 thids.length xc4 xa5 tsteps.length xc5) w4.heap.size ⟨tst, tit, tins, touts, thids, tsteps⟩) 11 (by kernel_rfl) (by kernel_rfl) (by kernel_rfl) SD (fun hHeld => ?_)
      refine fast_move 0 13 (.bool true) (.tmp 6) (fuel := 10) rfl rfl (by kernel_rfl) (by kernel_rfl) (by kernel_rfl) (fun _ _ _ h => h) (by kernel_rfl) (by kernel_rfl) (by first | exact Or.inl rfl | exact Or.inr rfl) hHeld (tf 1 11) (by kernel_rfl) (fun K hK => ?_)
      go_big_move
      refine hK.out _ ?_
      clear hK K
      refine fast_move 1 14 (.bool true) (.tmp 13) (fuel := 9) rfl rfl (by kernel_rfl) (by kernel_rfl) (by kernel_rfl) (fun _ _ _ h => h) (by kernel_rfl) (by kernel_rfl) (by first | exact Or.inl rfl | exact Or.inr rfl) hHeld (tf 3 11) (by kernel_rfl) (fun K hK => ?_)
      go_big_move
      refine hK.out _ ?_
      clear hK K
      refine fast_yields 2 15 (.agg #[.int .i64 st, .int .i64 it, .slice a2 n2 c2, .slice a3 n3 c3, .slice a4 n4 c4, .slice a5 n5 c5]) (fuel := 8) rfl rfl (by kernel_rfl) (by kernel_rfl) (by kernel_rfl) (fun _ _ _ h => h) (yieldsIf_load_mid (by rfl) _ _ rfl (w.heap.size) 0 rfl (iaC st it a2 n2 c2 a3 n3 c3 a4 n4 c4 a5 n5 c5).toList _ (fun w hw => hw.1.2.1.range) Tryz.underlying27 rfl (by kernel_rfl)) hHeld (tf 7 11) (by kernel_rfl) (fun K hK => ?_)
      go_big_move
      refine hK.out _ ?_
      clear hK K
      refine fast_yields 3 16 (.agg #[.int .i64 su, .int .i64 iu, .slice b2 m2 d2, .slice b3 m3 d3, .slice b4 m4 d4, .slice b5 m5 d5]) (fuel := 7) rfl rfl (by kernel_rfl) (by kernel_rfl) (by kernel_rfl) (fun _ _ _ h => h) (yieldsIf_load_mid (by rfl) _ _ rfl (w.heap.size + 1) 0 rfl (iaC su iu b2 m2 d2 b3 m3 d3 b4 m4 d4 b5 m5 d5).toList _ (fun w hw => hw.1.2.2.range) Tryz.underlying27 rfl (by kernel_rfl)) hHeld (tf 15 11) (by kernel_rfl) (fun K hK => ?_)
      go_big_move
      refine hK.out _ ?_
      clear hK K
      refine fast1 5 18 (.pointer (some ⟨w4.heap.size, 1, none⟩)) (.tmp 5) (.pointer (some ⟨w4.heap.size, 0, none⟩)) (fuel := 6) rfl rfl (by kernel_rfl) (by kernel_rfl) (by kernel_rfl) (fun _ _ _ h => h) (by kernel_rfl) (by kernel_rfl) (fun ρ hr0 _ w hSw => by simp [go_sem, hr0]) hHeld (tf 47 11) (by kernel_rfl) (fun K hK => ?_)
      go_big_move
      refine hK.out _ ?_
      clear hK K
      refine fast1 6 19 (.int .i64 tit) (.tmp 18) (.pointer (some ⟨w4.heap.size, 1, none⟩)) (fuel := 5) rfl rfl (by kernel_rfl) (by kernel_rfl) (by kernel_rfl) (fun _ _ _ h => h) (by kernel_rfl) (by kernel_rfl) (fun ρ hr0 _ w hSw => by have m := hSw.2.1.cell (j := 1) (u := .int .i64 tit) rfl; simp [go_sem, hr0, m]) hHeld (tf 111 11) (by kernel_rfl) (fun K hK => ?_)
      go_big_move
      refine hK.out _ ?_
      clear hK K
      refine wpAnyH_ready (rs := [4]) (fuel := 4) (by kernel_rfl) (by simp) ?_
      refine ready_want rfl (by kernel_rfl) (tf 127 11) (by kernel_rfl) (fun K hK => ?_) AllReadyH.nil
      simp only [List.getElem_toArray, List.getElem_cons_succ, List.getElem_cons_zero]
      go_big_op
      refine (CBD.out _ hHeld).mono ?_
      rintro e w6 ⟨ad, cc, rfl, hrw, hb⟩
      have hS6 : ProS w w6 (iaC st it a2 n2 c2 a3 n3 c3 a4 n4 c4 a5 n5 c5) (iaC su iu b2 m2 d2 b3 m3 d3 b4 m4 d4 b5 m5 d5) (iaC tst tit xa2 tins.length xc2 xa3 touts.length xc3 xa4 thids.length xc4 xa5 tsteps.length xc5) w4.heap.size ⟨tst, tit, tins, touts, thids, tsteps⟩ := hHeld.below hb
      have HRW := Lib.hid hrw
      clear hb hrw
      refine hK.out _ _ hS6 (fun hHeld => ?_)
      clear hK K
      refine wpAnyH_ready (rs := [7]) (fuel := 3) (by kernel_rfl) (by simp) ?_
      refine ready_want rfl (by kernel_rfl) (tf 255 11) (by kernel_rfl) (fun K hK => ?_) AllReadyH.nil
      simp only [List.getElem_toArray, List.getElem_cons_succ, List.getElem_cons_zero]
      go_big_op
      refine (CSH.out _ _ _ HRW.out).mono ?_
      rintro e wz ⟨rfl, rfl⟩
      refine hK.out _ _ hHeld (fun hHeld => ?_)
      clear hK K
      refine fast1 8 21 (.bool true) (.tmp 20) (.bool false) (fuel := 2) rfl rfl (by kernel_rfl) (by kernel_rfl) (by kernel_rfl) (fun _ _ _ h => h) (by kernel_rfl) (by kernel_rfl) (fun ρ hr0 _ w hSw => by simp [go_sem, hr0]) hHeld (tf 511 11) (by kernel_rfl) (fun K hK => ?_)
      go_big_move
      refine hK.out _ ?_
      clear hK K
      refine fast2 9 22 (.bool true) (.tmp 14) (.bool true) (.tmp 21) (.bool true) (fuel := 1) rfl rfl (by kernel_rfl) (by kernel_rfl) (by kernel_rfl) (fun _ _ _ h => h) (by kernel_rfl) (by kernel_rfl) (by kernel_rfl) (fun ρ hr0 hr1 hc w hSw => by simp [go_sem, hc, hr0, hr1]) hHeld (tf 1023 11) (by kernel_rfl) (fun K hK => ?_)
      go_big_move
      refine hK.out _ ?_
      clear hK K
      refine fast_move 10 4 (.bool true) (.tmp 22) (fuel := 0) rfl rfl (by kernel_rfl) (by kernel_rfl) (by kernel_rfl) (fun _ _ _ h => h) (by kernel_rfl) (by kernel_rfl) (by first | exact Or.inl rfl | exact Or.inr rfl) hHeld (tf 2047 11) (by kernel_rfl) (fun K hK => ?_)
      go_big_move
      refine hK.out _ ?_
      clear hK K
      refine wpAnyH_done (by kernel_rfl) ?_ _
      have SE := Lib.hid hHeld
      clear hHeld SD
      go_wp2_with fail
      go_ret
      exact ⟨ret_bool (by rw [HZ.out]; rfl), SE.out.1.1⟩
    | true =>
      go_wp2_with fail
      refine wp_region_tf (S := fun w' => ProS w w' (iaC st it a2 n2 c2 a3 n3 c3 a4 n4 c4 a5 n5 c5) (iaC su iu b2 m2 d2 b3 m3 d3 b4 m4 d4 b5 m5 d5) (iaC tst tit xa2 tins.length xc2 xa3 touts.length xc3 xa4 thids.length xc4 xa5 tsteps.length xc5) w4.heap.size ⟨tst, tit, tins, touts, thids, tsteps⟩) 11 (by kernel_rfl) (by kernel_rfl) (by kernel_rfl) SD (fun hHeld => ?_)
      refine fast_move 0 13 (.bool true) (.tmp 6) (fuel := 10) rfl rfl (by kernel_rfl) (by kernel_rfl) (by kernel_rfl) (fun _ _ _ h => h) (by kernel_rfl) (by kernel_rfl) (by first | exact Or.inl rfl | exact Or.inr rfl) hHeld (tf 1 11) (by kernel_rfl) (fun K hK => ?_)
      go_big_move
      refine hK.out _ ?_
      clear hK K
      refine fast_move 1 14 (.bool true) (.tmp 13) (fuel := 9) rfl rfl (by kernel_rfl) (by kernel_rfl) (by kernel_rfl) (fun _ _ _ h => h) (by kernel_rfl) (by kernel_rfl) (by first | exact Or.inl rfl | exact Or.inr rfl) hHeld (tf 3 11) (by kernel_rfl) (fun K hK => ?_)
      go_big_move
      refine hK.out _ ?_
      clear hK K
      refine fast_yields 2 15 (.agg #[.int .i64 st, .int .i64 it, .slice a2 n2 c2, .slice a3 n3 c3, .slice a4 n4 c4, .slice a5 n5 c5]) (fuel := 8) rfl rfl (by kernel_rfl) (by kernel_rfl) (by kernel_rfl) (fun _ _ _ h => h) (yieldsIf_load_mid (by rfl) _ _ rfl (w.heap.size) 0 rfl (iaC st it a2 n2 c2 a3 n3 c3 a4 n4 c4 a5 n5 c5).toList _ (fun w hw => hw.1.2.1.range) Tryz.underlying27 rfl (by kernel_rfl)) hHeld (tf 7 11) (by kernel_rfl) (fun K hK => ?_)
      go_big_move
      refine hK.out _ ?_
      clear hK K
      refine fast_yields 3 16 (.agg #[.int .i64 su, .int .i64 iu, .slice b2 m2 d2, .slice b3 m3 d3, .slice b4 m4 d4, .slice b5 m5 d5]) (fuel := 7) rfl rfl (by kernel_rfl) (by kernel_rfl) (by kernel_rfl) (fun _ _ _ h => h) (yieldsIf_load_mid (by rfl) _ _ rfl (w.heap.size + 1) 0 rfl (iaC su iu b2 m2 d2 b3 m3 d3 b4 m4 d4 b5 m5 d5).toList _ (fun w hw => hw.1.2.2.range) Tryz.underlying27 rfl (by kernel_rfl)) hHeld (tf 15 11) (by kernel_rfl) (fun K hK => ?_)
      go_big_move
      refine hK.out _ ?_
      clear hK K
      refine fast1 5 18 (.pointer (some ⟨w4.heap.size, 1, none⟩)) (.tmp 5) (.pointer (some ⟨w4.heap.size, 0, none⟩)) (fuel := 6) rfl rfl (by kernel_rfl) (by kernel_rfl) (by kernel_rfl) (fun _ _ _ h => h) (by kernel_rfl) (by kernel_rfl) (fun ρ hr0 _ w hSw => by simp [go_sem, hr0]) hHeld (tf 47 11) (by kernel_rfl) (fun K hK => ?_)
      go_big_move
      refine hK.out _ ?_
      clear hK K
      refine fast1 6 19 (.int .i64 tit) (.tmp 18) (.pointer (some ⟨w4.heap.size, 1, none⟩)) (fuel := 5) rfl rfl (by kernel_rfl) (by kernel_rfl) (by kernel_rfl) (fun _ _ _ h => h) (by kernel_rfl) (by kernel_rfl) (fun ρ hr0 _ w hSw => by have m := hSw.2.1.cell (j := 1) (u := .int .i64 tit) rfl; simp [go_sem, hr0, m]) hHeld (tf 111 11) (by kernel_rfl) (fun K hK => ?_)
      go_big_move
      refine hK.out _ ?_
      clear hK K
      refine wpAnyH_ready (rs := [4]) (fuel := 4) (by kernel_rfl) (by simp) ?_
      refine ready_want rfl (by kernel_rfl) (tf 127 11) (by kernel_rfl) (fun K hK => ?_) AllReadyH.nil
      simp only [List.getElem_toArray, List.getElem_cons_succ, List.getElem_cons_zero]
      go_big_op
      refine (CBD.out _ hHeld).mono ?_
      rintro e w6 ⟨ad, cc, rfl, hrw, hb⟩
      have hS6 : ProS w w6 (iaC st it a2 n2 c2 a3 n3 c3 a4 n4 c4 a5 n5 c5) (iaC su iu b2 m2 d2 b3 m3 d3 b4 m4 d4 b5 m5 d5) (iaC tst tit xa2 tins.length xc2 xa3 touts.length xc3 xa4 thids.length xc4 xa5 tsteps.length xc5) w4.heap.size ⟨tst, tit, tins, touts, thids, tsteps⟩ := hHeld.below hb
      have HRW := Lib.hid hrw
      clear hb hrw
      refine hK.out _ _ hS6 (fun hHeld => ?_)
      clear hK K
      refine wpAnyH_ready (rs := [7]) (fuel := 3) (by kernel_rfl) (by simp) ?_
      refine ready_want rfl (by kernel_rfl) (tf 255 11) (by kernel_rfl) (fun K hK => ?_) AllReadyH.nil
      simp only [List.getElem_toArray, List.getElem_cons_succ, List.getElem_cons_zero]
      go_big_op
      refine (CSH.out _ _ _ HRW.out).mono ?_
      rintro e wz ⟨rfl, rfl⟩
      refine hK.out _ _ hHeld (fun hHeld => ?_)
      clear hK K
      refine fast1 8 21 (.bool false) (.tmp 20) (.bool true) (fuel := 2) rfl rfl (by kernel_rfl) (by kernel_rfl) (by kernel_rfl) (fun _ _ _ h => h) (by kernel_rfl) (by kernel_rfl) (fun ρ hr0 _ w hSw => by simp [go_sem, hr0]) hHeld (tf 511 11) (by kernel_rfl) (fun K hK => ?_)
      go_big_move
      refine hK.out _ ?_
      clear hK K
      refine fast2 9 22 (.bool false) (.tmp 14) (.bool true) (.tmp 21) (.bool false) (fuel := 1) rfl rfl (by kernel_rfl) (by kernel_rfl) (by kernel_rfl) (fun _ _ _ h => h) (by kernel_rfl) (by kernel_rfl) (by kernel_rfl) (fun ρ hr0 hr1 hc w hSw => by simp [go_sem, hc, hr0, hr1]) hHeld (tf 1023 11) (by kernel_rfl) (fun K hK => ?_)
      go_big_move
      refine hK.out _ ?_
      clear hK K
      refine fast_move 10 4 (.bool false) (.tmp 22) (fuel := 0) rfl rfl (by kernel_rfl) (by kernel_rfl) (by kernel_rfl) (fun _ _ _ h => h) (by kernel_rfl) (by kernel_rfl) (by first | exact Or.inl rfl | exact Or.inr rfl) hHeld (tf 2047 11) (by kernel_rfl) (fun K hK => ?_)
      go_big_move
      refine hK.out _ ?_
      clear hK K
      refine wpAnyH_done (by kernel_rfl) ?_ _
      have SE := Lib.hid hHeld
      clear hHeld SD
      go_wp2_with fail
      go_ret
      exact ⟨ret_bool (by rw [HZ.out]; rfl), SE.out.1.1⟩

end Go.Proofs.YtnglogkkkpegnaaGreat
