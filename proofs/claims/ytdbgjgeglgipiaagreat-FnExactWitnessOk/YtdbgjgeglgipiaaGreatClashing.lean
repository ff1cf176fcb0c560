/-
  The contract of the program's clashingPairs: the map of the pairs that clash. Conditions: both automata are right, and their lists have at most 2^20 elements.
-/
import Derived.Test.YtdbgjgeglgipiaaGreatClash
import Derived.Test.YtdbgjgeglgipiaaGreatPairMap
import Derived.Test.YtdbgjgeglgipiaaGreatShared
namespace Go.Proofs.YtdbgjgeglgipiaaGreat
open Go.RowKit

/-- Forty empty rows. -/
def zRows40 : Array Value := #[.slice none 0 0, .slice none 0 0, .slice none 0 0, .slice none 0 0, .slice none 0 0, .slice none 0 0, .slice none 0 0, .slice none 0 0, .slice none 0 0, .slice none 0 0, .slice none 0 0, .slice none 0 0, .slice none 0 0, .slice none 0 0, .slice none 0 0, .slice none 0 0, .slice none 0 0, .slice none 0 0, .slice none 0 0, .slice none 0 0, .slice none 0 0, .slice none 0 0, .slice none 0 0, .slice none 0 0, .slice none 0 0, .slice none 0 0, .slice none 0 0, .slice none 0 0, .slice none 0 0, .slice none 0 0, .slice none 0 0, .slice none 0 0, .slice none 0 0, .slice none 0 0, .slice none 0 0, .slice none 0 0, .slice none 0 0, .slice none 0 0, .slice none 0 0, .slice none 0 0]

theorem doneS_yes (C : Int → Int → Bool) (m k j : Nat) (h : C k j = true) : putP (doneS C m k j) k j = doneS C m k (j + 1) := by
  funext p q
  unfold putP
  by_cases e : p = k ∧ q = j
  · rw [if_pos e]
    obtain ⟨rfl, rfl⟩ := e
    unfold doneS
    rw [h, decide_eq_true (p := ((k : Int) = k ∧ 0 ≤ (j : Int) ∧ (j : Int) < ((j + 1 : Nat) : Int))) (by omega)]
    simp
  · rw [if_neg e]
    unfold doneS
    congr 1
    rw [Bool.eq_iff_iff]
    simp only [Bool.or_eq_true, decide_eq_true_eq]
    omega

theorem wf_low {x : Int} (h0 : 0 ≤ x) (h1 : x ≤ 1600) : (Lit.int .i64 x).wf = true := WalkArith.wf_i64 (by omega)

set_option maxRecDepth 20000 in
set_option maxHeartbeats 6400000 in
theorem clashingPairs_any (a b : IaD) (v u : Value) (w : World) (h : IaRow w a v) (k : IaRow w b u) (fa : Small a) (fb : Small b) (oka : iaOkB a = true) (okb : iaOkB b = true) :
    Calls Tryz.prog 62 #[v, u] w fun e w' => ∃ M n, e = .returned (.map (some M)) ∧ MapB w' M n (doneS (clashB a b) b.states.toNat a.states.toNat 0) ∧ w.heap.size ≤ M ∧ n ≤ 1600 ∧ Below w.heap.size w w' := by
  have CSH : Hid (∀ W, Below w.heap.size w W → Calls Tryz.prog 50 #[v, u] W (RowRes W W.heap.size (shOf a b))) := fun W hW => sharedActs_any a b v u W (h.below hW) (k.below hW) fa fb
  have CCL : Hid (∀ W sa sn sc sh ra rn rc rowA rb rm rd rowB, Below w.heap.size w W → Row W sa sn sh → sn ≤ 1048576 → RowS W ra rn rowA → rn ≤ 400 → RowS W rb rm rowB → rm ≤ 400 → Calls Tryz.prog 92 #[v, u, .slice sa sn sc, .slice ra rn rc, .slice rb rm rd] W fun e w' => e = .returned (.bool (tellB sh (Lib.compact (actsR rowA a.outs)) (Lib.compact (actsR rowB b.ins)) || tellB sh (Lib.compact (actsR rowB b.outs)) (Lib.compact (actsR rowA a.ins)))) ∧ Below W.heap.size W w') := fun W sa sn sc sh ra rn rc rowA rb rm rd rowB hW h1 h2 h3 h4 h5 h6 => clash_any a b v u W (h.below hW) (k.below hW) fa fb sa sn sc sh h1 h2 ra rn rc rowA h3 h4 rb rm rd rowB h5 h6
  have sA := iaOk_states oka
  have sB := iaOk_states okb
  have HEA : Hid (∀ s set, Lib.compact (actsR (rowL a.steps s) set) = ofL a.steps s set) := fun s set => actsR_eq oka s set
  have HEB : Hid (∀ s set, Lib.compact (actsR (rowL b.steps s) set) = ofL b.steps s set) := fun s set => actsR_eq okb s set
  have lA := iaOk_len oka
  have lB := iaOk_len okb
  have HLA := Lib.hid (iaOk_low oka)
  have HLB := Lib.hid (iaOk_low okb)
  have lsh : (shOf a b).length ≤ 2097152 := by have h1 := sh_len a b; obtain ⟨h2, h3, _⟩ := fa; omega
  have lsh2 : (shOf a b).length ≤ 1048576 := Nat.le_trans (sh_low oka) (by omega)
  clear oka okb
  obtain ⟨a2, n2, c2, a3, n3, c3, a4, n4, c4, a5, n5, c5, rfl, r2, r3, r4, r5⟩ := h
  obtain ⟨b2, m2, d2, b3, m3, d3, b4, m4, d4, b5, m5, d5, rfl, q2, q3, q4, q5⟩ := k
  obtain ⟨st, it, ins, outs, hids, steps⟩ := a
  obtain ⟨su, iu, jns, juts, jids, jteps⟩ := b
  obtain ⟨f2, f3, f4, f5⟩ := fa
  obtain ⟨g2, g3, g4, g5⟩ := fb
  simp only at r2 r3 r4 r5 q2 q3 q4 q5 f2 f3 f4 f5 g2 g3 g4 g5
  have HA : Hid (∀ W, Below w.heap.size w W → IaRow W ⟨st, it, ins, outs, hids, steps⟩ (.agg #[.int .i64 st, .int .i64 it, .slice a2 n2 c2, .slice a3 n3 c3, .slice a4 n4 c4, .slice a5 n5 c5])) := fun W hW => IaRow.below ⟨a2, n2, c2, a3, n3, c3, a4, n4, c4, a5, n5, c5, rfl, r2, r3, r4, r5⟩ hW
  have HB : Hid (∀ W, Below w.heap.size w W → IaRow W ⟨su, iu, jns, juts, jids, jteps⟩ (.agg #[.int .i64 su, .int .i64 iu, .slice b2 m2 d2, .slice b3 m3 d3, .slice b4 m4 d4, .slice b5 m5 d5])) := fun W hW => IaRow.below ⟨b2, m2, d2, b3, m3, d3, b4, m4, d4, b5, m5, d5, rfl, q2, q3, q4, q5⟩ hW
  have S0 := Lib.hid (Box2.start w (iaC st it a2 n2 c2 a3 n3 c3 a4 n4 c4 a5 n5 c5) (iaC su iu b2 m2 d2 b3 m3 d3 b4 m4 d4 b5 m5 d5) 31)
  have e2 := r2.1
  have e3 := r3.1
  have e4 := r4.1
  have k2 := q2.1
  have k3 := q3.1
  have k4 := q4.1
  rw [e2] at f2
  rw [e3] at f3
  rw [e4] at f4
  rw [k2] at g2
  rw [k3] at g3
  rw [k4] at g4
  have R2 := Lib.hid r2
  have R3 := Lib.hid r3
  have R4 := Lib.hid r4
  have R5 := Lib.hid r5
  have Q2 := Lib.hid q2
  have Q3 := Lib.hid q3
  have Q4 := Lib.hid q4
  have Q5 := Lib.hid q5
  clear r2 r3 r4 r5 q2 q3 q4 q5
  obtain ⟨C, hC⟩ : ∃ C, C = clashB ⟨st, it, ins, outs, hids, steps⟩ ⟨su, iu, jns, juts, jids, jteps⟩ := ⟨_, rfl⟩
  rw [← hC]
  have HCC := Lib.hid hC
  clear hC HA HB
  simp only at sA sB lA lB HEA HEB HLA HLB CCL CSH lsh lsh2 ⊢
  obtain ⟨nA, hnA⟩ : ∃ n : Nat, st = (n : Int) := ⟨st.toNat, by omega⟩
  obtain ⟨nB, hnB⟩ : ∃ n : Nat, su = (n : Int) := ⟨su.toNat, by omega⟩
  have e1 : st.toNat = nA := by omega
  have e2' : su.toNat = nB := by omega
  rw [e1, e2']
  clear e1 e2'
  have hA40 : nA ≤ 40 := by omega
  have hB40 : nB ≤ 40 := by omega
  have HNA := Lib.hid hnA
  have HNB := Lib.hid hnB
  clear hnA hnB
  obtain ⟨L, hL⟩ : ∃ L, L = shOf ⟨st, it, ins, outs, hids, steps⟩ ⟨su, iu, jns, juts, jids, jteps⟩ := ⟨_, rfl⟩
  rw [← hL] at CSH lsh lsh2
  have HL := Lib.hid hL
  clear hL
  obtain ⟨sn, hsn⟩ : ∃ n, n = L.length := ⟨_, rfl⟩
  have CSX : Hid (∀ W, Below w.heap.size w W → Calls Tryz.prog 50 #[.agg #[.int .i64 st, .int .i64 it, .slice a2 n2 c2, .slice a3 n3 c3, .slice a4 n4 c4, .slice a5 n5 c5], .agg #[.int .i64 su, .int .i64 iu, .slice b2 m2 d2, .slice b3 m3 d3, .slice b4 m4 d4, .slice b5 m5 d5]] W fun e w' => ∃ ad cc, e = .returned (.slice ad sn cc) ∧ Owns w' w.heap.size (.slice ad sn cc) sn L ∧ Below W.heap.size W w') := fun W hW =>
    (CSH.out W hW).mono fun e w' h => by
      obtain ⟨v, he, ho, hb⟩ := h
      rw [← hsn] at ho
      obtain ⟨ad, cc, rfl⟩ := ho.form
      exact ⟨ad, cc, he, ho.mono hW.size, hb⟩
  rw [← hsn] at lsh lsh2
  clear hsn CSH
  have CRA : Hid (∀ W, Box2 w W w.heap.size (w.heap.size + 1) 31 (iaC st it a2 n2 c2 a3 n3 c3 a4 n4 c4 a5 n5 c5) (iaC su iu b2 m2 d2 b3 m3 d3 b4 m4 d4 b5 m5 d5) → Calls Tryz.prog 91 #[.agg #[.int .i64 st, .int .i64 it, .slice a2 n2 c2, .slice a3 n3 c3, .slice a4 n4 c4, .slice a5 n5 c5]] W fun e w' => ∃ C, e = .returned (.agg C) ∧ RowsAt w' w.heap.size C steps ∧ Below W.heap.size W w') := fun W hW =>
    (rowsOf_any st it _ _ _ a5 n5 c5 steps W (R5.out.below hW.1) (by have h1 := R5.out.1; omega) HLA.out).mono fun e w' h => by
      obtain ⟨C, he, hC, hb⟩ := h
      exact ⟨C, he, hC.mono hW.1.size, hb⟩
  have CRB : Hid (∀ W, Box2 w W w.heap.size (w.heap.size + 1) 31 (iaC st it a2 n2 c2 a3 n3 c3 a4 n4 c4 a5 n5 c5) (iaC su iu b2 m2 d2 b3 m3 d3 b4 m4 d4 b5 m5 d5) → Calls Tryz.prog 91 #[.agg #[.int .i64 su, .int .i64 iu, .slice b2 m2 d2, .slice b3 m3 d3, .slice b4 m4 d4, .slice b5 m5 d5]] W fun e w' => ∃ C, e = .returned (.agg C) ∧ RowsAt w' w.heap.size C jteps ∧ Below W.heap.size W w') := fun W hW =>
    (rowsOf_any su iu _ _ _ b5 m5 d5 jteps W (Q5.out.below hW.1) (by have h1 := Q5.out.1; omega) HLB.out).mono fun e w' h => by
      obtain ⟨C, he, hC, hb⟩ := h
      exact ⟨C, he, hC.mono hW.1.size, hb⟩
  clear R2 R3 R4 R5 Q2 Q3 Q4 Q5 HLA HLB
  have hmm := @run_makeMap Tryz.prog
  have ca0 := S0.out.2.1.cell (j := 0) (u := .int .i64 st) rfl
  have ca1 := S0.out.2.1.cell (j := 1) (u := .int .i64 it) rfl
  have ca2 := S0.out.2.1.cell (j := 2) (u := .slice a2 n2 c2) rfl
  have ca3 := S0.out.2.1.cell (j := 3) (u := .slice a3 n3 c3) rfl
  have ca4 := S0.out.2.1.cell (j := 4) (u := .slice a4 n4 c4) rfl
  have ca5 := S0.out.2.1.cell (j := 5) (u := .slice a5 n5 c5) rfl
  have cb0 := S0.out.2.2.cell (j := 0) (u := .int .i64 su) rfl
  have cb1 := S0.out.2.2.cell (j := 1) (u := .int .i64 iu) rfl
  have cb2 := S0.out.2.2.cell (j := 2) (u := .slice b2 m2 d2) rfl
  have cb3 := S0.out.2.2.cell (j := 3) (u := .slice b3 m3 d3) rfl
  have cb4 := S0.out.2.2.cell (j := 4) (u := .slice b4 m4 d4) rfl
  have cb5 := S0.out.2.2.cell (j := 5) (u := .slice b5 m5 d5) rfl
  go_enter Tryz.func62, Tryz.ntmps62
  go_wp2_with fail
  clear ca0 ca1 ca2 ca3 ca4 ca5 cb0 cb1 cb2 cb3 cb4 cb5
  refine (CSX.out _ S0.out.1).mono ?_
  rintro e w1 ⟨sa, sc, rfl, ho, hb⟩
  have S1 := Lib.hid (S0.out.below hb)
  have HS := Lib.hid ho
  clear hb S0 ho
  go_wp2_with fail
  have SD := S1.out.drew
  have HSD : Hid (Owns w1.drew w.heap.size (.slice sa sn sc) sn L) := HS.out
  clear S1
  refine wp_region_held_drew (S := fun w' => Box2 w w' w.heap.size (w.heap.size + 1) 31 (iaC st it a2 n2 c2 a3 n3 c3 a4 n4 c4 a5 n5 c5) (iaC su iu b2 m2 d2 b3 m3 d3 b4 m4 d4 b5 m5 d5)) (by kernel_rfl) SD (fun hHeld => ?_)
  change wpAnyH _ _ _ _ _ 8 (Array.replicate 8 false) _ _
  refine take_yields 0 14 (.agg #[.int .i64 st, .int .i64 it, .slice a2 n2 c2, .slice a3 n3 c3, .slice a4 n4 c4, .slice a5 n5 c5]) (fuel := 7) rfl rfl (by kernel_rfl) (by kernel_rfl) (by kernel_rfl) (fun _ _ _ h => h) (yieldsIf_load_mid (by rfl) _ _ rfl (w.heap.size) 0 rfl (iaC st it a2 n2 c2 a3 n3 c3 a4 n4 c4 a5 n5 c5).toList _ (fun w hw => hw.2.1.range) Tryz.underlying31 rfl (by kernel_rfl)) hHeld ?_
  simp only [Act.put, List.setIfInBounds_toArray, List.set_cons_zero, List.set_cons_succ]
  refine take_yields 2 16 (.agg #[.int .i64 su, .int .i64 iu, .slice b2 m2 d2, .slice b3 m3 d3, .slice b4 m4 d4, .slice b5 m5 d5]) (fuel := 6) rfl rfl (by kernel_rfl) (by kernel_rfl) (by kernel_rfl) (fun _ _ _ h => h) (yieldsIf_load_mid (by rfl) _ _ rfl (w.heap.size + 1) 0 rfl (iaC su iu b2 m2 d2 b3 m3 d3 b4 m4 d4 b5 m5 d5).toList _ (fun w hw => hw.2.2.range) Tryz.underlying31 rfl (by kernel_rfl)) hHeld ?_
  simp only [Act.put, List.setIfInBounds_toArray, List.set_cons_zero, List.set_cons_succ]
  refine join_gen (ι := Nat × Nat × Array Value × Array Value) (fun i => ⟨#[.agg #[.int .i64 st, .int .i64 it, .slice a2 n2 c2, .slice a3 n3 c3, .slice a4 n4 c4, .slice a5 n5 c5], .agg #[.int .i64 su, .int .i64 iu, .slice b2 m2 d2, .slice b3 m3 d3, .slice b4 m4 d4, .slice b5 m5 d5], .pointer (some ⟨w.heap.size, 0, none⟩), .pointer (some ⟨w.heap.size + 1, 0, none⟩), .map none, .slice sa sn sc, .pointer (some ⟨i.1, 0, none⟩), .pointer (some ⟨i.2.1, 0, none⟩), undef, undef, undef, .agg #[.int .i64 st, .int .i64 it, .slice a2 n2 c2, .slice a3 n3 c3, .slice a4 n4 c4, .slice a5 n5 c5], .agg #[.int .i64 su, .int .i64 iu, .slice b2 m2 d2, .slice b3 m3 d3, .slice b4 m4 d4, .slice b5 m5 d5], .slice sa sn sc, .agg #[.int .i64 st, .int .i64 it, .slice a2 n2 c2, .slice a3 n3 c3, .slice a4 n4 c4, .slice a5 n5 c5], .agg i.2.2.1, .agg #[.int .i64 su, .int .i64 iu, .slice b2 m2 d2, .slice b3 m3 d3, .slice b4 m4 d4, .slice b5 m5 d5], .agg i.2.2.2, undef, undef, undef, undef, undef, undef, undef, undef, undef, undef, undef, undef, undef, undef, undef, undef, undef, undef, undef, undef, undef, undef, undef, undef, undef, undef, undef, undef], []⟩) (fun i we => Box2 w we w.heap.size (w.heap.size + 1) 31 (iaC st it a2 n2 c2 a3 n3 c3 a4 n4 c4 a5 n5 c5) (iaC su iu b2 m2 d2 b3 m3 d3 b4 m4 d4 b5 m5 d5) ∧ i.1 < we.heap.size ∧ we.rangeAt i.1 0 i.2.2.1.toList ∧ i.2.1 < we.heap.size ∧ we.rangeAt i.2.1 0 i.2.2.2.toList ∧ RowsAt we w.heap.size i.2.2.1 steps ∧ RowsAt we w.heap.size i.2.2.2 jteps ∧ Owns we w.heap.size (.slice sa sn sc) sn L) ?_ (fun REST => ?_)
  · rintro ⟨b6, b7, CA, CB⟩ we ⟨hS, hlt6, hrg6, hlt7, hrg7, hr6, hr7, hsh⟩
    simp only at hS hlt6 hrg6 hlt7 hrg7 hr6 hr7 hsh ⊢
    clear hHeld SD CRA CRB CSX HS HSD
    have SE := Lib.hid hS
    have RG6 := Lib.hid hrg6
    have RG7 := Lib.hid hrg7
    have R6 := Lib.hid hr6
    have R7 := Lib.hid hr7
    have RS := Lib.hid hsh.row.2.2.2
    have c0 := (SE.out.alloc (.map #[] 0)).2.1.cell (j := 0) (u := .int .i64 st) rfl
    clear hS hrg6 hrg7 hr6 hr7 hsh
    have HM0 : Hid (MapB (we.alloc (.map #[] 0)) we.heap.size 0 (doneS C nB 0 0)) := by unfold Hid; rw [doneS_start]; exact MapB.made we
    have BA : Hid (Below we.heap.size we (we.alloc (.map #[] 0))) := (Below.refl _ _).alloc (Nat.le_refl _) _
    go_wp2_with fail
    clear c0
    go_loopw [21] (fun iv wr => ∃ k n : Nat, k ≤ nA ∧ iv = .int .i64 (k : Int) ∧ Hid (MapB wr we.heap.size n (doneS C nB k 0)) ∧ n ≤ k * nB ∧ Hid (Below we.heap.size we wr)) (fun iv _ => nA - (intOf iv).toNat)
    case atStart => exact ⟨0, 0, Nat.zero_le _, rfl, HM0.out, by omega, BA.out⟩
    case round =>
      obtain ⟨k, n, hk, rfl, HM, hn, HB⟩ := hrel
      clear HM0 BA
      by_cases hlt : (k : Int) < st
      · have hkn : k < nA := by have h1 := HNA.out; omega
        have c0 := (SE.out.below HB.out).2.2.cell (j := 0) (u := .int .i64 su) rfl
        go_wp2_with fail
        clear c0
        go_loopw [26] (fun jv wr => ∃ j nt : Nat, j ≤ nB ∧ jv = .int .i64 (j : Int) ∧ Hid (MapB wr we.heap.size nt (doneS C nB k j)) ∧ nt ≤ k * nB + j ∧ Hid (Below we.heap.size we wr)) (fun jv _ => nB - (intOf jv).toNat)
        case atStart => exact ⟨0, n, Nat.zero_le _, rfl, HM.out, by omega, HB.out⟩
        case round =>
          obtain ⟨j, nt, hj, rfl, HM2, hnt, HB2⟩ := hrel
          by_cases hltj : (j : Int) < su
          · have hk40 : (k : Int) < 40 := by omega
            have hj40 : (j : Int) < 40 := by omega
            have hjn : j < nB := by have h1 := HNB.out; omega
            have hcap : nt ≤ 1600 := by
              have a1 : (k + 1) * nB ≤ 40 * 40 := Nat.mul_le_mul (by omega) (by omega)
              rw [Nat.succ_mul] at a1
              omega
            obtain ⟨ra, rc, hCA, hoA⟩ := R6.out.2.1 k (by omega)
            obtain ⟨rb, rd, hCB, hoB⟩ := R7.out.2.1 j (by omega)
            obtain ⟨rn, hrn⟩ : ∃ n, n = (rowL steps (k : Int)).length := ⟨_, rfl⟩
            obtain ⟨rm, hrm⟩ : ∃ n, n = (rowL jteps (j : Int)).length := ⟨_, rfl⟩
            rw [← hrn] at hCA hoA
            rw [← hrm] at hCB hoB
            have h6 : we.cell? ⟨b6, k, none⟩ = some (.slice ra rn rc) := by
              have := RG6.out k (.slice ra rn rc) (by simpa using hCA)
              rwa [Nat.zero_add] at this
            have h7 : we.cell? ⟨b7, j, none⟩ = some (.slice rb rm rd) := by
              have := RG7.out j (.slice rb rm rd) (by simpa using hCB)
              rwa [Nat.zero_add] at this
            have hrn4 : rn ≤ 400 := by have h1 := rowL_len steps (k : Int); omega
            have hrm4 : rm ≤ 400 := by have h1 := rowL_len jteps (j : Int); omega
            obtain ⟨q, hq⟩ : ∃ q, q = C k j := ⟨_, rfl⟩
            have CC : Hid (∀ W, Box2 w W w.heap.size (w.heap.size + 1) 31 (iaC st it a2 n2 c2 a3 n3 c3 a4 n4 c4 a5 n5 c5) (iaC su iu b2 m2 d2 b3 m3 d3 b4 m4 d4 b5 m5 d5) → Below we.heap.size we W → Calls Tryz.prog 92 #[.agg #[.int .i64 st, .int .i64 it, .slice a2 n2 c2, .slice a3 n3 c3, .slice a4 n4 c4, .slice a5 n5 c5], .agg #[.int .i64 su, .int .i64 iu, .slice b2 m2 d2, .slice b3 m3 d3, .slice b4 m4 d4, .slice b5 m5 d5], .slice sa sn sc, .slice ra rn rc, .slice rb rm rd] W fun e w' => e = .returned (.bool q) ∧ Below W.heap.size W w') := fun W hW hWe => by
              have := CCL.out W sa sn sc L ra rn rc (rowL steps (k : Int)) rb rm rd (rowL jteps (j : Int)) hW.1 (RS.out.below hWe) (by omega) (hoA.row.2.2.2.below hWe) hrn4 (hoB.row.2.2.2.below hWe) hrm4
              rw [HEA.out, HEA.out, HEB.out, HEB.out, HL.out] at this
              rw [hq, HCC.out]
              exact this
            have SD2 : Box2 w wr.drew w.heap.size (w.heap.size + 1) 31 (iaC st it a2 n2 c2 a3 n3 c3 a4 n4 c4 a5 n5 c5) (iaC su iu b2 m2 d2 b3 m3 d3 b4 m4 d4 b5 m5 d5) ∧ wr.drew.cell? ⟨b6, k, none⟩ = some (.slice ra rn rc) ∧ wr.drew.cell? ⟨b7, j, none⟩ = some (.slice rb rm rd) := ⟨(SE.out.below HB2.out).drew, (HB2.out.cell (p := ⟨b6, k, none⟩) hlt6).trans h6, (HB2.out.cell (p := ⟨b7, j, none⟩) hlt7).trans h7⟩
            have HQ := Lib.hid hq
            clear hq hCA hoA hCB hoB hrn hrm h6 h7
            have HB3 : Hid (Below we.heap.size we wr.drew) := HB2.out.drew
            go_wp2_with fail
            refine wp_region_held_drew (S := fun w' => Box2 w w' w.heap.size (w.heap.size + 1) 31 (iaC st it a2 n2 c2 a3 n3 c3 a4 n4 c4 a5 n5 c5) (iaC su iu b2 m2 d2 b3 m3 d3 b4 m4 d4 b5 m5 d5) ∧ w'.cell? ⟨b6, k, none⟩ = some (.slice ra rn rc) ∧ w'.cell? ⟨b7, j, none⟩ = some (.slice rb rm rd)) (by kernel_rfl) SD2 (fun hHeld => ?_)
            change wpAnyH _ _ _ _ _ 10 (Array.replicate 10 false) _ _
            refine take_yields 0 29 (.agg #[.int .i64 st, .int .i64 it, .slice a2 n2 c2, .slice a3 n3 c3, .slice a4 n4 c4, .slice a5 n5 c5]) (fuel := 9) rfl rfl (by kernel_rfl) (by kernel_rfl) (by kernel_rfl) (fun _ _ _ h => h) (yieldsIf_load_mid (by rfl) _ _ rfl (w.heap.size) 0 rfl (iaC st it a2 n2 c2 a3 n3 c3 a4 n4 c4 a5 n5 c5).toList _ (fun w hw => hw.1.2.1.range) Tryz.underlying31 rfl (by kernel_rfl)) hHeld ?_
            simp only [Act.put, List.setIfInBounds_toArray, List.set_cons_zero, List.set_cons_succ]
            refine take_yields 1 30 (.agg #[.int .i64 su, .int .i64 iu, .slice b2 m2 d2, .slice b3 m3 d3, .slice b4 m4 d4, .slice b5 m5 d5]) (fuel := 8) rfl rfl (by kernel_rfl) (by kernel_rfl) (by kernel_rfl) (fun _ _ _ h => h) (yieldsIf_load_mid (by rfl) _ _ rfl (w.heap.size + 1) 0 rfl (iaC su iu b2 m2 d2 b3 m3 d3 b4 m4 d4 b5 m5 d5).toList _ (fun w hw => hw.1.2.2.range) Tryz.underlying31 rfl (by kernel_rfl)) hHeld ?_
            simp only [Act.put, List.setIfInBounds_toArray, List.set_cons_zero, List.set_cons_succ]
            refine take_op 2 31 (.slice sa sn sc) (fuel := 7) rfl rfl (by kernel_rfl) (by kernel_rfl) (by kernel_rfl) (fun _ _ _ h => h) (by rfl) (fun w hSw => by go_simp) hHeld ?_
            simp only [Act.put, List.setIfInBounds_toArray, List.set_cons_zero, List.set_cons_succ]
            refine take_op 3 32 (.int .i64 (k : Int)) (fuel := 6) rfl rfl (by kernel_rfl) (by kernel_rfl) (by kernel_rfl) (fun _ _ _ h => h) (by rfl) (fun w hSw => by go_simp) hHeld ?_
            simp only [Act.put, List.setIfInBounds_toArray, List.set_cons_zero, List.set_cons_succ]
            refine take_op 4 33 (.pointer (some ⟨b6, k, none⟩)) (fuel := 5) rfl rfl (by kernel_rfl) (by kernel_rfl) (by kernel_rfl) (fun _ _ _ h => h) (by rfl) (fun w hSw => by have h1 : (k : Int) < 40 := hk40; go_simp) hHeld ?_
            simp only [Act.put, List.setIfInBounds_toArray, List.set_cons_zero, List.set_cons_succ]
            refine take_op 5 34 (.slice ra rn rc) (fuel := 4) rfl rfl (by kernel_rfl) (by kernel_rfl) (by kernel_rfl) (fun _ _ _ h => h) (by rfl) (fun w hSw => by have m := hSw.2.1; go_simp) hHeld ?_
            simp only [Act.put, List.setIfInBounds_toArray, List.set_cons_zero, List.set_cons_succ]
            refine take_op 6 35 (.int .i64 (j : Int)) (fuel := 3) rfl rfl (by kernel_rfl) (by kernel_rfl) (by kernel_rfl) (fun _ _ _ h => h) (by rfl) (fun w hSw => by go_simp) hHeld ?_
            simp only [Act.put, List.setIfInBounds_toArray, List.set_cons_zero, List.set_cons_succ]
            refine take_op 7 36 (.pointer (some ⟨b7, j, none⟩)) (fuel := 2) rfl rfl (by kernel_rfl) (by kernel_rfl) (by kernel_rfl) (fun _ _ _ h => h) (by rfl) (fun w hSw => by have h1 : (j : Int) < 40 := hj40; go_simp) hHeld ?_
            simp only [Act.put, List.setIfInBounds_toArray, List.set_cons_zero, List.set_cons_succ]
            refine take_op 8 37 (.slice rb rm rd) (fuel := 1) rfl rfl (by kernel_rfl) (by kernel_rfl) (by kernel_rfl) (fun _ _ _ h => h) (by rfl) (fun w hSw => by have m := hSw.2.2; go_simp) hHeld ?_
            simp only [Act.put, List.setIfInBounds_toArray, List.set_cons_zero, List.set_cons_succ]
            refine wpAnyH_ready (rs := [9]) (fuel := 0) (by kernel_rfl) (by simp) ?_
            refine AllReadyH.cons rfl (fun K hK => ?_) AllReadyH.nil
            go_simp
            refine (CC.out _ hHeld.1 HB3.out).mono ?_
            rintro e w5 ⟨rfl, hb⟩
            have hS5 := hHeld.1.below hb
            have BB5 := Lib.hid hb
            have HB5 : Hid (Below we.heap.size we w5) := HB3.out.trans (hb.mono HB3.out.size)
            clear hb
            go_wp2_with fail
            refine hK.out _ _ ⟨hS5, (BB5.out.cell (p := ⟨b6, k, none⟩) (Nat.lt_of_lt_of_le hlt6 HB3.out.size)).trans hHeld.2.1, (BB5.out.cell (p := ⟨b7, j, none⟩) (Nat.lt_of_lt_of_le hlt7 HB3.out.size)).trans hHeld.2.2⟩ (fun hHeld => ?_)
            clear hK K
            refine wpAnyH_done (by kernel_rfl) ?_ _
            cases q with
            | false =>
              have HM5 : Hid (MapB w5 we.heap.size nt (doneS C nB k (j + 1))) := by have := HM2.out.drew.below BB5.out; rw [doneS_no C nB k j HQ.out.symm] at this; exact this
              go_wp2_with fail
              go_roundw
              case rel => exact ⟨j + 1, nt, by omega, by go_num, HM5.out, by omega, HB5.out⟩
              case measure => simp [intOf]; omega
            | true =>
              have HM5 : MapB w5 we.heap.size nt (doneS C nB k j) := HM2.out.drew.below BB5.out
              have HM6 := Lib.hid HM5
              have wfk := wf_low (x := (k : Int)) (by omega) (by omega)
              have wfj := wf_low (x := (j : Int)) (by omega) (by omega)
              clear HM5
              go_wp2_with (at_mapUpdate; refine wpList_putP rfl _ _ _ rfl we.heap.size nt (doneS C nB k j) rfl HM6.out (by unfold maxLen; omega) (k : Int) (j : Int) rfl rfl wfk wfj ?_)
              intro w6 hm6 hg6
              have HM7 : Hid (MapB w6 we.heap.size (nt + 1) (doneS C nB k (j + 1))) := by rw [doneS_yes C nB k j HQ.out.symm] at hm6; exact hm6
              have HB6 : Hid (Below we.heap.size we w6) := HB5.out.grown hg6 HB5.out.size (fun q hq => by have h1 := Option.some.inj hq; omega)
              clear hm6 hg6
              go_wp2_with fail
              go_roundw
              case rel => exact ⟨j + 1, nt + 1, by omega, by go_num, HM7.out, by omega, HB6.out⟩
              case measure => simp [intOf]; omega
          · obtain rfl : j = nB := by have h1 := HNB.out; omega
            have HM3 : Hid (MapB wr we.heap.size nt (doneS C j (k + 1) 0)) := by have := HM2.out; rw [doneS_row] at this; exact this
            go_wp2_with fail
            go_roundw
            case rel => exact ⟨k + 1, nt, by omega, by go_num, HM3.out, by rw [Nat.succ_mul]; omega, HB2.out⟩
            case measure => simp [intOf]; omega
      · obtain rfl : k = nA := by have h1 := HNA.out; omega
        have hcap : n ≤ 1600 := by
          have a1 : k * nB ≤ 40 * 40 := Nat.mul_le_mul (by omega) (by omega)
          omega
        go_wp2_with fail
        go_ret
        exact ⟨_, rfl, n, HM.out, SE.out.1.size, hcap, SE.out.1.trans (HB.out.mono SE.out.1.size)⟩
  refine wpAnyH_ready (rs := [1, 4, 5]) (fuel := 5) (by kernel_rfl) (by simp) ?_
  refine AllReadyH.cons rfl (fun K hK => ?_) ?_
  · go_simp
    refine (CRA.out _ hHeld).mono ?_
    rintro e wp1 ⟨CAx1, rfl, hC, hb⟩
    have s1 : Hid (Owns wp1 w.heap.size (.slice sa sn sc) sn L) := HSD.out.below (hb)
    have rCA1 : Hid (RowsAt wp1 w.heap.size CAx1 steps) := hC
    have hS1 := hHeld.below hb
    clear hb hC
    go_wp2_with fail
    refine hK.out _ _ hS1 (fun hHeld => ?_)
    clear hK K hS1
    refine wpAnyH_ready (rs := [3, 4, 5]) (fuel := 4) (by kernel_rfl) (by simp) ?_
    refine AllReadyH.cons rfl (fun K hK => ?_) ?_
    · go_simp
      refine (CRB.out _ hHeld).mono ?_
      rintro e wp2 ⟨CBx2, rfl, hC, hb⟩
      have s2 : Hid (Owns wp2 w.heap.size (.slice sa sn sc) sn L) := s1.out.below (hb)
      have rCA2 : Hid (RowsAt wp2 w.heap.size CAx1 steps) := rCA1.out.below (hb)
      have rCB2 : Hid (RowsAt wp2 w.heap.size CBx2 jteps) := hC
      have hS2 := hHeld.below hb
      clear hb hC
      go_wp2_with fail
      refine hK.out _ _ hS2 (fun hHeld => ?_)
      clear hK K hS2
      refine wpAnyH_ready (rs := [4, 5]) (fuel := 3) (by kernel_rfl) (by simp) ?_
      refine AllReadyH.cons rfl (fun K hK => ?_) ?_
      · have s3 : Hid (Owns (wp2.alloc (.cells zRows40 115)) w.heap.size (.slice sa sn sc) sn L) := s2.out.below ((Below.refl _ wp2).alloc (Nat.le_refl _) (.cells zRows40 115))
        have rCA3 : Hid (RowsAt (wp2.alloc (.cells zRows40 115)) w.heap.size CAx1 steps) := rCA2.out.below ((Below.refl _ wp2).alloc (Nat.le_refl _) (.cells zRows40 115))
        have rCB3 : Hid (RowsAt (wp2.alloc (.cells zRows40 115)) w.heap.size CBx2 jteps) := rCB2.out.below ((Below.refl _ wp2).alloc (Nat.le_refl _) (.cells zRows40 115))
        have BL6 : Hid (w.heap.size + 1 < wp2.heap.size) := by have h1 := hHeld.2.2.lt; (try simp at h1); unfold Hid; omega
        have vn3 : Hid (VarIs (wp2.alloc (.cells zRows40 115)) (wp2.heap.size) zRows40 115) := VarIs.new wp2 zRows40 115 (by simp)
        go_simp
        refine hK.out _ _ (hHeld.below ((Below.refl _ wp2).alloc (Nat.le_refl _) (.cells zRows40 115))) (fun hHeld => ?_)
        clear hK K
        try simp only [Act.put, List.setIfInBounds_toArray, List.set_cons_zero, List.set_cons_succ]
        refine wpAnyH_ready (rs := [5]) (fuel := 2) (by kernel_rfl) (by simp) ?_
        refine AllReadyH.cons rfl (fun K hK => ?_) AllReadyH.nil
        have s4 : Hid (Owns ((wp2.alloc (.cells zRows40 115)).alloc (.cells zRows40 115)) w.heap.size (.slice sa sn sc) sn L) := s3.out.below ((Below.refl _ (wp2.alloc (.cells zRows40 115))).alloc (Nat.le_refl _) (.cells zRows40 115))
        have rCA4 : Hid (RowsAt ((wp2.alloc (.cells zRows40 115)).alloc (.cells zRows40 115)) w.heap.size CAx1 steps) := rCA3.out.below ((Below.refl _ (wp2.alloc (.cells zRows40 115))).alloc (Nat.le_refl _) (.cells zRows40 115))
        have rCB4 : Hid (RowsAt ((wp2.alloc (.cells zRows40 115)).alloc (.cells zRows40 115)) w.heap.size CBx2 jteps) := rCB3.out.below ((Below.refl _ (wp2.alloc (.cells zRows40 115))).alloc (Nat.le_refl _) (.cells zRows40 115))
        have v64 : Hid (VarIs ((wp2.alloc (.cells zRows40 115)).alloc (.cells zRows40 115)) (wp2.heap.size) zRows40 115) := vn3.out.below ((Below.refl _ (wp2.alloc (.cells zRows40 115))).alloc (Nat.le_refl _) (.cells zRows40 115))
        have NE : Hid (wp2.heap.size ≠ wp2.heap.size + 1) := by have h1 := vn3.out.lt; (try simp at h1); unfold Hid; omega
        have BL7 : Hid (w.heap.size + 1 < wp2.heap.size + 1) := by have h1 := hHeld.2.2.lt; (try simp at h1); unfold Hid; omega
        have vn4 : Hid (VarIs ((wp2.alloc (.cells zRows40 115)).alloc (.cells zRows40 115)) (wp2.heap.size + 1) zRows40 115) := VarIs.new (wp2.alloc (.cells zRows40 115)) zRows40 115 (by simp)
        go_simp
        refine hK.out _ _ (hHeld.below ((Below.refl _ (wp2.alloc (.cells zRows40 115))).alloc (Nat.le_refl _) (.cells zRows40 115))) (fun hHeld => ?_)
        clear hK K
        try simp only [Act.put, List.setIfInBounds_toArray, List.set_cons_zero, List.set_cons_succ]
        have ne67 : (wp2.heap.size) ≠ (wp2.heap.size + 1) := by have h1 := NE.out; exact fun e => h1 (by first | exact e | exact e.symm)
        have HLR : Hid (CAx1.toList.length = 40) := by have := rCA4.out.1; simpa [Hid] using this
        have HLH : Hid (CBx2.toList.length = 40) := by have := rCB4.out.1; simpa [Hid] using this
        have t6 : Hid (((wp2.alloc (.cells zRows40 115)).alloc (.cells zRows40 115)).there (wp2.heap.size) 0 CAx1.toList.toArray.size) := v64.out.there (by rw [List.size_toArray, HLR.out]; rfl)
        have g6 := Lib.hid (grown_setCells (wp2.heap.size) CAx1.toList 0 ((wp2.alloc (.cells zRows40 115)).alloc (.cells zRows40 115)))
        have on6 : Hid (CAx1.toList.toArray.all (·.oneCell') = true) := all_oneCell_toArray (fun u hu => rCA4.out.one u (by simpa using hu))
        have on7 : Hid (CBx2.toList.toArray.all (·.oneCell') = true) := all_oneCell_toArray (fun u hu => rCB4.out.one u (by simpa using hu))
        have v7' := Lib.hid (vn4.out.grown g6.out (fun e => ne67 (Option.some.inj e).symm))
        have t7 : Hid ((((wp2.alloc (.cells zRows40 115)).alloc (.cells zRows40 115)).setCells (wp2.heap.size) 0 CAx1.toList).there (wp2.heap.size + 1) 0 CBx2.toList.toArray.size) := v7'.out.there (by rw [List.size_toArray, HLH.out]; rfl)
        have g7 := Lib.hid (grown_setCells (wp2.heap.size + 1) CBx2.toList 0 (((wp2.alloc (.cells zRows40 115)).alloc (.cells zRows40 115)).setCells (wp2.heap.size) 0 CAx1.toList))
        have rg6 : Hid ((((wp2.alloc (.cells zRows40 115)).alloc (.cells zRows40 115)).setCells (wp2.heap.size) 0 CAx1.toList).rangeAt (wp2.heap.size) 0 CAx1.toList) := World.rangeAt_setCells_same ((wp2.alloc (.cells zRows40 115)).alloc (.cells zRows40 115)) (wp2.heap.size) 0 CAx1.toList (by simpa using t6.out)
        have rg7 : Hid (((((wp2.alloc (.cells zRows40 115)).alloc (.cells zRows40 115)).setCells (wp2.heap.size) 0 CAx1.toList).setCells (wp2.heap.size + 1) 0 CBx2.toList).rangeAt (wp2.heap.size + 1) 0 CBx2.toList) := World.rangeAt_setCells_same (((wp2.alloc (.cells zRows40 115)).alloc (.cells zRows40 115)).setCells (wp2.heap.size) 0 CAx1.toList) (wp2.heap.size + 1) 0 CBx2.toList (by simpa using t7.out)
        have rg6' : Hid (((((wp2.alloc (.cells zRows40 115)).alloc (.cells zRows40 115)).setCells (wp2.heap.size) 0 CAx1.toList).setCells (wp2.heap.size + 1) 0 CBx2.toList).rangeAt (wp2.heap.size) 0 CAx1.toList) := range_grown rg6.out g7.out ne67
        have hS6 : Hid (Box2 w (((wp2.alloc (.cells zRows40 115)).alloc (.cells zRows40 115)).setCells (wp2.heap.size) 0 CAx1.toList) w.heap.size (w.heap.size + 1) 31 (iaC st it a2 n2 c2 a3 n3 c3 a4 n4 c4 a5 n5 c5) (iaC su iu b2 m2 d2 b3 m3 d3 b4 m4 d4 b5 m5 d5)) := ⟨hHeld.1.grown g6.out hHeld.1.size (fun q hq => by have h1 := Option.some.inj hq; have h2 := BL6.out; omega), hHeld.2.1.grown g6.out (fun e => by have h1 := Option.some.inj e; have h2 := BL6.out; omega), hHeld.2.2.grown g6.out (fun e => by have h1 := Option.some.inj e; have h2 := BL6.out; omega)⟩
        have hS7 : Hid (Box2 w ((((wp2.alloc (.cells zRows40 115)).alloc (.cells zRows40 115)).setCells (wp2.heap.size) 0 CAx1.toList).setCells (wp2.heap.size + 1) 0 CBx2.toList) w.heap.size (w.heap.size + 1) 31 (iaC st it a2 n2 c2 a3 n3 c3 a4 n4 c4 a5 n5 c5) (iaC su iu b2 m2 d2 b3 m3 d3 b4 m4 d4 b5 m5 d5)) := ⟨hS6.out.1.grown g7.out hS6.out.1.size (fun q hq => by have h1 := Option.some.inj hq; have h2 := BL7.out; omega), hS6.out.2.1.grown g7.out (fun e => by have h1 := Option.some.inj e; have h2 := BL7.out; omega), hS6.out.2.2.grown g7.out (fun e => by have h1 := Option.some.inj e; have h2 := BL7.out; omega)⟩
        have r6 := Lib.hid ((rCA4.out.keepVar v64.out (by decide) g6.out).keepVar v7'.out (by decide) g7.out)
        have r7 := Lib.hid ((rCB4.out.keepVar v64.out (by decide) g6.out).keepVar v7'.out (by decide) g7.out)
        have s7 := Lib.hid ((s4.out.keepVar v64.out (by decide) g6.out).keepVar v7'.out (by decide) g7.out)
        have lt6 : (wp2.heap.size) < ((((wp2.alloc (.cells zRows40 115)).alloc (.cells zRows40 115)).setCells (wp2.heap.size) 0 CAx1.toList).setCells (wp2.heap.size + 1) 0 CBx2.toList).heap.size := Nat.lt_of_lt_of_le (Nat.lt_of_lt_of_le v64.out.lt g6.out.size) g7.out.size
        have lt7 : (wp2.heap.size + 1) < ((((wp2.alloc (.cells zRows40 115)).alloc (.cells zRows40 115)).setCells (wp2.heap.size) 0 CAx1.toList).setCells (wp2.heap.size + 1) 0 CBx2.toList).heap.size := Nat.lt_of_lt_of_le v7'.out.lt g7.out.size
        refine wpAnyH_ready (rs := [6]) (fuel := 1) (by kernel_rfl) (by simp) ?_
        refine AllReadyH.cons rfl (fun K hK => ?_) AllReadyH.nil
        rw [if_pos (by rfl)]
        refine wp_store_mid _ _ _ rfl (wp2.heap.size) 0 CAx1.toList.toArray rfl rfl t6.out (by rw [List.size_toArray, HLR.out]; kernel_rfl) on6.out ?_
        refine hK.out _ _ hS6.out (fun hHeld => ?_)
        clear hK K
        refine wpAnyH_ready (rs := [7]) (fuel := 0) (by kernel_rfl) (by simp) ?_
        refine AllReadyH.cons rfl (fun K hK => ?_) AllReadyH.nil
        rw [if_pos (by rfl)]
        refine wp_store_mid _ _ _ rfl (wp2.heap.size + 1) 0 CBx2.toList.toArray rfl rfl t7.out (by rw [List.size_toArray, HLH.out]; kernel_rfl) on7.out ?_
        refine hK.out _ _ hS7.out (fun hHeld => ?_)
        clear hK K
        refine wpAnyH_done (by kernel_rfl) ?_ _
        exact REST.out ((wp2.heap.size), (wp2.heap.size + 1), CAx1, CBx2) _ ⟨hS7.out, lt6, rg6'.out, lt7, rg7.out, r6.out, r7.out, s7.out⟩
      refine AllReadyH.cons rfl (fun K hK => ?_) AllReadyH.nil
      have s5 : Hid (Owns (wp2.alloc (.cells zRows40 115)) w.heap.size (.slice sa sn sc) sn L) := s2.out.below ((Below.refl _ wp2).alloc (Nat.le_refl _) (.cells zRows40 115))
      have rCA5 : Hid (RowsAt (wp2.alloc (.cells zRows40 115)) w.heap.size CAx1 steps) := rCA2.out.below ((Below.refl _ wp2).alloc (Nat.le_refl _) (.cells zRows40 115))
      have rCB5 : Hid (RowsAt (wp2.alloc (.cells zRows40 115)) w.heap.size CBx2 jteps) := rCB2.out.below ((Below.refl _ wp2).alloc (Nat.le_refl _) (.cells zRows40 115))
      have BL7 : Hid (w.heap.size + 1 < wp2.heap.size) := by have h1 := hHeld.2.2.lt; (try simp at h1); unfold Hid; omega
      have vn5 : Hid (VarIs (wp2.alloc (.cells zRows40 115)) (wp2.heap.size) zRows40 115) := VarIs.new wp2 zRows40 115 (by simp)
      go_simp
      refine hK.out _ _ (hHeld.below ((Below.refl _ wp2).alloc (Nat.le_refl _) (.cells zRows40 115))) (fun hHeld => ?_)
      clear hK K
      try simp only [Act.put, List.setIfInBounds_toArray, List.set_cons_zero, List.set_cons_succ]
      refine wpAnyH_ready (rs := [4]) (fuel := 2) (by kernel_rfl) (by simp) ?_
      refine AllReadyH.cons rfl (fun K hK => ?_) AllReadyH.nil
      have s6 : Hid (Owns ((wp2.alloc (.cells zRows40 115)).alloc (.cells zRows40 115)) w.heap.size (.slice sa sn sc) sn L) := s5.out.below ((Below.refl _ (wp2.alloc (.cells zRows40 115))).alloc (Nat.le_refl _) (.cells zRows40 115))
      have rCA6 : Hid (RowsAt ((wp2.alloc (.cells zRows40 115)).alloc (.cells zRows40 115)) w.heap.size CAx1 steps) := rCA5.out.below ((Below.refl _ (wp2.alloc (.cells zRows40 115))).alloc (Nat.le_refl _) (.cells zRows40 115))
      have rCB6 : Hid (RowsAt ((wp2.alloc (.cells zRows40 115)).alloc (.cells zRows40 115)) w.heap.size CBx2 jteps) := rCB5.out.below ((Below.refl _ (wp2.alloc (.cells zRows40 115))).alloc (Nat.le_refl _) (.cells zRows40 115))
      have v76 : Hid (VarIs ((wp2.alloc (.cells zRows40 115)).alloc (.cells zRows40 115)) (wp2.heap.size) zRows40 115) := vn5.out.below ((Below.refl _ (wp2.alloc (.cells zRows40 115))).alloc (Nat.le_refl _) (.cells zRows40 115))
      have NE : Hid (wp2.heap.size ≠ wp2.heap.size + 1) := by have h1 := vn5.out.lt; (try simp at h1); unfold Hid; omega
      have BL6 : Hid (w.heap.size + 1 < wp2.heap.size + 1) := by have h1 := hHeld.2.2.lt; (try simp at h1); unfold Hid; omega
      have vn6 : Hid (VarIs ((wp2.alloc (.cells zRows40 115)).alloc (.cells zRows40 115)) (wp2.heap.size + 1) zRows40 115) := VarIs.new (wp2.alloc (.cells zRows40 115)) zRows40 115 (by simp)
      go_simp
      refine hK.out _ _ (hHeld.below ((Below.refl _ (wp2.alloc (.cells zRows40 115))).alloc (Nat.le_refl _) (.cells zRows40 115))) (fun hHeld => ?_)
      clear hK K
      try simp only [Act.put, List.setIfInBounds_toArray, List.set_cons_zero, List.set_cons_succ]
      have ne67 : (wp2.heap.size + 1) ≠ (wp2.heap.size) := by have h1 := NE.out; exact fun e => h1 (by first | exact e | exact e.symm)
      have HLR : Hid (CAx1.toList.length = 40) := by have := rCA6.out.1; simpa [Hid] using this
      have HLH : Hid (CBx2.toList.length = 40) := by have := rCB6.out.1; simpa [Hid] using this
      have t6 : Hid (((wp2.alloc (.cells zRows40 115)).alloc (.cells zRows40 115)).there (wp2.heap.size + 1) 0 CAx1.toList.toArray.size) := vn6.out.there (by rw [List.size_toArray, HLR.out]; rfl)
      have g6 := Lib.hid (grown_setCells (wp2.heap.size + 1) CAx1.toList 0 ((wp2.alloc (.cells zRows40 115)).alloc (.cells zRows40 115)))
      have on6 : Hid (CAx1.toList.toArray.all (·.oneCell') = true) := all_oneCell_toArray (fun u hu => rCA6.out.one u (by simpa using hu))
      have on7 : Hid (CBx2.toList.toArray.all (·.oneCell') = true) := all_oneCell_toArray (fun u hu => rCB6.out.one u (by simpa using hu))
      have v7' := Lib.hid (v76.out.grown g6.out (fun e => ne67 (Option.some.inj e).symm))
      have t7 : Hid ((((wp2.alloc (.cells zRows40 115)).alloc (.cells zRows40 115)).setCells (wp2.heap.size + 1) 0 CAx1.toList).there (wp2.heap.size) 0 CBx2.toList.toArray.size) := v7'.out.there (by rw [List.size_toArray, HLH.out]; rfl)
      have g7 := Lib.hid (grown_setCells (wp2.heap.size) CBx2.toList 0 (((wp2.alloc (.cells zRows40 115)).alloc (.cells zRows40 115)).setCells (wp2.heap.size + 1) 0 CAx1.toList))
      have rg6 : Hid ((((wp2.alloc (.cells zRows40 115)).alloc (.cells zRows40 115)).setCells (wp2.heap.size + 1) 0 CAx1.toList).rangeAt (wp2.heap.size + 1) 0 CAx1.toList) := World.rangeAt_setCells_same ((wp2.alloc (.cells zRows40 115)).alloc (.cells zRows40 115)) (wp2.heap.size + 1) 0 CAx1.toList (by simpa using t6.out)
      have rg7 : Hid (((((wp2.alloc (.cells zRows40 115)).alloc (.cells zRows40 115)).setCells (wp2.heap.size + 1) 0 CAx1.toList).setCells (wp2.heap.size) 0 CBx2.toList).rangeAt (wp2.heap.size) 0 CBx2.toList) := World.rangeAt_setCells_same (((wp2.alloc (.cells zRows40 115)).alloc (.cells zRows40 115)).setCells (wp2.heap.size + 1) 0 CAx1.toList) (wp2.heap.size) 0 CBx2.toList (by simpa using t7.out)
      have rg6' : Hid (((((wp2.alloc (.cells zRows40 115)).alloc (.cells zRows40 115)).setCells (wp2.heap.size + 1) 0 CAx1.toList).setCells (wp2.heap.size) 0 CBx2.toList).rangeAt (wp2.heap.size + 1) 0 CAx1.toList) := range_grown rg6.out g7.out ne67
      have hS6 : Hid (Box2 w (((wp2.alloc (.cells zRows40 115)).alloc (.cells zRows40 115)).setCells (wp2.heap.size + 1) 0 CAx1.toList) w.heap.size (w.heap.size + 1) 31 (iaC st it a2 n2 c2 a3 n3 c3 a4 n4 c4 a5 n5 c5) (iaC su iu b2 m2 d2 b3 m3 d3 b4 m4 d4 b5 m5 d5)) := ⟨hHeld.1.grown g6.out hHeld.1.size (fun q hq => by have h1 := Option.some.inj hq; have h2 := BL6.out; omega), hHeld.2.1.grown g6.out (fun e => by have h1 := Option.some.inj e; have h2 := BL6.out; omega), hHeld.2.2.grown g6.out (fun e => by have h1 := Option.some.inj e; have h2 := BL6.out; omega)⟩
      have hS7 : Hid (Box2 w ((((wp2.alloc (.cells zRows40 115)).alloc (.cells zRows40 115)).setCells (wp2.heap.size + 1) 0 CAx1.toList).setCells (wp2.heap.size) 0 CBx2.toList) w.heap.size (w.heap.size + 1) 31 (iaC st it a2 n2 c2 a3 n3 c3 a4 n4 c4 a5 n5 c5) (iaC su iu b2 m2 d2 b3 m3 d3 b4 m4 d4 b5 m5 d5)) := ⟨hS6.out.1.grown g7.out hS6.out.1.size (fun q hq => by have h1 := Option.some.inj hq; have h2 := BL7.out; omega), hS6.out.2.1.grown g7.out (fun e => by have h1 := Option.some.inj e; have h2 := BL7.out; omega), hS6.out.2.2.grown g7.out (fun e => by have h1 := Option.some.inj e; have h2 := BL7.out; omega)⟩
      have r6 := Lib.hid ((rCA6.out.keepVar vn6.out (by decide) g6.out).keepVar v7'.out (by decide) g7.out)
      have r7 := Lib.hid ((rCB6.out.keepVar vn6.out (by decide) g6.out).keepVar v7'.out (by decide) g7.out)
      have s7 := Lib.hid ((s6.out.keepVar vn6.out (by decide) g6.out).keepVar v7'.out (by decide) g7.out)
      have lt6 : (wp2.heap.size + 1) < ((((wp2.alloc (.cells zRows40 115)).alloc (.cells zRows40 115)).setCells (wp2.heap.size + 1) 0 CAx1.toList).setCells (wp2.heap.size) 0 CBx2.toList).heap.size := Nat.lt_of_lt_of_le (Nat.lt_of_lt_of_le vn6.out.lt g6.out.size) g7.out.size
      have lt7 : (wp2.heap.size) < ((((wp2.alloc (.cells zRows40 115)).alloc (.cells zRows40 115)).setCells (wp2.heap.size + 1) 0 CAx1.toList).setCells (wp2.heap.size) 0 CBx2.toList).heap.size := Nat.lt_of_lt_of_le v7'.out.lt g7.out.size
      refine wpAnyH_ready (rs := [6]) (fuel := 1) (by kernel_rfl) (by simp) ?_
      refine AllReadyH.cons rfl (fun K hK => ?_) AllReadyH.nil
      rw [if_pos (by rfl)]
      refine wp_store_mid _ _ _ rfl (wp2.heap.size + 1) 0 CAx1.toList.toArray rfl rfl t6.out (by rw [List.size_toArray, HLR.out]; kernel_rfl) on6.out ?_
      refine hK.out _ _ hS6.out (fun hHeld => ?_)
      clear hK K
      refine wpAnyH_ready (rs := [7]) (fuel := 0) (by kernel_rfl) (by simp) ?_
      refine AllReadyH.cons rfl (fun K hK => ?_) AllReadyH.nil
      rw [if_pos (by rfl)]
      refine wp_store_mid _ _ _ rfl (wp2.heap.size) 0 CBx2.toList.toArray rfl rfl t7.out (by rw [List.size_toArray, HLH.out]; kernel_rfl) on7.out ?_
      refine hK.out _ _ hS7.out (fun hHeld => ?_)
      clear hK K
      refine wpAnyH_done (by kernel_rfl) ?_ _
      exact REST.out ((wp2.heap.size + 1), (wp2.heap.size), CAx1, CBx2) _ ⟨hS7.out, lt6, rg6'.out, lt7, rg7.out, r6.out, r7.out, s7.out⟩
    refine AllReadyH.cons rfl (fun K hK => ?_) ?_
    · have s7 : Hid (Owns (wp1.alloc (.cells zRows40 115)) w.heap.size (.slice sa sn sc) sn L) := s1.out.below ((Below.refl _ wp1).alloc (Nat.le_refl _) (.cells zRows40 115))
      have rCA7 : Hid (RowsAt (wp1.alloc (.cells zRows40 115)) w.heap.size CAx1 steps) := rCA1.out.below ((Below.refl _ wp1).alloc (Nat.le_refl _) (.cells zRows40 115))
      have BL6 : Hid (w.heap.size + 1 < wp1.heap.size) := by have h1 := hHeld.2.2.lt; (try simp at h1); unfold Hid; omega
      have vn7 : Hid (VarIs (wp1.alloc (.cells zRows40 115)) (wp1.heap.size) zRows40 115) := VarIs.new wp1 zRows40 115 (by simp)
      go_simp
      refine hK.out _ _ (hHeld.below ((Below.refl _ wp1).alloc (Nat.le_refl _) (.cells zRows40 115))) (fun hHeld => ?_)
      clear hK K
      try simp only [Act.put, List.setIfInBounds_toArray, List.set_cons_zero, List.set_cons_succ]
      refine wpAnyH_ready (rs := [3, 5]) (fuel := 3) (by kernel_rfl) (by simp) ?_
      refine AllReadyH.cons rfl (fun K hK => ?_) ?_
      · go_simp
        refine (CRB.out _ hHeld).mono ?_
        rintro e wp8 ⟨CBx8, rfl, hC, hb⟩
        have s8 : Hid (Owns wp8 w.heap.size (.slice sa sn sc) sn L) := s7.out.below (hb)
        have rCA8 : Hid (RowsAt wp8 w.heap.size CAx1 steps) := rCA7.out.below (hb)
        have v68 : Hid (VarIs wp8 (wp1.heap.size) zRows40 115) := vn7.out.below (hb)
        have rCB8 : Hid (RowsAt wp8 w.heap.size CBx8 jteps) := hC
        have hS8 := hHeld.below hb
        clear hb hC
        go_wp2_with fail
        refine hK.out _ _ hS8 (fun hHeld => ?_)
        clear hK K hS8
        refine wpAnyH_ready (rs := [5]) (fuel := 2) (by kernel_rfl) (by simp) ?_
        refine AllReadyH.cons rfl (fun K hK => ?_) AllReadyH.nil
        have s9 : Hid (Owns (wp8.alloc (.cells zRows40 115)) w.heap.size (.slice sa sn sc) sn L) := s8.out.below ((Below.refl _ wp8).alloc (Nat.le_refl _) (.cells zRows40 115))
        have rCA9 : Hid (RowsAt (wp8.alloc (.cells zRows40 115)) w.heap.size CAx1 steps) := rCA8.out.below ((Below.refl _ wp8).alloc (Nat.le_refl _) (.cells zRows40 115))
        have v69 : Hid (VarIs (wp8.alloc (.cells zRows40 115)) (wp1.heap.size) zRows40 115) := v68.out.below ((Below.refl _ wp8).alloc (Nat.le_refl _) (.cells zRows40 115))
        have rCB9 : Hid (RowsAt (wp8.alloc (.cells zRows40 115)) w.heap.size CBx8 jteps) := rCB8.out.below ((Below.refl _ wp8).alloc (Nat.le_refl _) (.cells zRows40 115))
        have NE : Hid (wp1.heap.size ≠ wp8.heap.size) := by have h1 := v68.out.lt; (try simp at h1); unfold Hid; omega
        have BL7 : Hid (w.heap.size + 1 < wp8.heap.size) := by have h1 := hHeld.2.2.lt; (try simp at h1); unfold Hid; omega
        have vn9 : Hid (VarIs (wp8.alloc (.cells zRows40 115)) (wp8.heap.size) zRows40 115) := VarIs.new wp8 zRows40 115 (by simp)
        go_simp
        refine hK.out _ _ (hHeld.below ((Below.refl _ wp8).alloc (Nat.le_refl _) (.cells zRows40 115))) (fun hHeld => ?_)
        clear hK K
        try simp only [Act.put, List.setIfInBounds_toArray, List.set_cons_zero, List.set_cons_succ]
        have ne67 : (wp1.heap.size) ≠ (wp8.heap.size) := by have h1 := NE.out; exact fun e => h1 (by first | exact e | exact e.symm)
        have HLR : Hid (CAx1.toList.length = 40) := by have := rCA9.out.1; simpa [Hid] using this
        have HLH : Hid (CBx8.toList.length = 40) := by have := rCB9.out.1; simpa [Hid] using this
        have t6 : Hid ((wp8.alloc (.cells zRows40 115)).there (wp1.heap.size) 0 CAx1.toList.toArray.size) := v69.out.there (by rw [List.size_toArray, HLR.out]; rfl)
        have g6 := Lib.hid (grown_setCells (wp1.heap.size) CAx1.toList 0 (wp8.alloc (.cells zRows40 115)))
        have on6 : Hid (CAx1.toList.toArray.all (·.oneCell') = true) := all_oneCell_toArray (fun u hu => rCA9.out.one u (by simpa using hu))
        have on7 : Hid (CBx8.toList.toArray.all (·.oneCell') = true) := all_oneCell_toArray (fun u hu => rCB9.out.one u (by simpa using hu))
        have v7' := Lib.hid (vn9.out.grown g6.out (fun e => ne67 (Option.some.inj e).symm))
        have t7 : Hid (((wp8.alloc (.cells zRows40 115)).setCells (wp1.heap.size) 0 CAx1.toList).there (wp8.heap.size) 0 CBx8.toList.toArray.size) := v7'.out.there (by rw [List.size_toArray, HLH.out]; rfl)
        have g7 := Lib.hid (grown_setCells (wp8.heap.size) CBx8.toList 0 ((wp8.alloc (.cells zRows40 115)).setCells (wp1.heap.size) 0 CAx1.toList))
        have rg6 : Hid (((wp8.alloc (.cells zRows40 115)).setCells (wp1.heap.size) 0 CAx1.toList).rangeAt (wp1.heap.size) 0 CAx1.toList) := World.rangeAt_setCells_same (wp8.alloc (.cells zRows40 115)) (wp1.heap.size) 0 CAx1.toList (by simpa using t6.out)
        have rg7 : Hid ((((wp8.alloc (.cells zRows40 115)).setCells (wp1.heap.size) 0 CAx1.toList).setCells (wp8.heap.size) 0 CBx8.toList).rangeAt (wp8.heap.size) 0 CBx8.toList) := World.rangeAt_setCells_same ((wp8.alloc (.cells zRows40 115)).setCells (wp1.heap.size) 0 CAx1.toList) (wp8.heap.size) 0 CBx8.toList (by simpa using t7.out)
        have rg6' : Hid ((((wp8.alloc (.cells zRows40 115)).setCells (wp1.heap.size) 0 CAx1.toList).setCells (wp8.heap.size) 0 CBx8.toList).rangeAt (wp1.heap.size) 0 CAx1.toList) := range_grown rg6.out g7.out ne67
        have hS6 : Hid (Box2 w ((wp8.alloc (.cells zRows40 115)).setCells (wp1.heap.size) 0 CAx1.toList) w.heap.size (w.heap.size + 1) 31 (iaC st it a2 n2 c2 a3 n3 c3 a4 n4 c4 a5 n5 c5) (iaC su iu b2 m2 d2 b3 m3 d3 b4 m4 d4 b5 m5 d5)) := ⟨hHeld.1.grown g6.out hHeld.1.size (fun q hq => by have h1 := Option.some.inj hq; have h2 := BL6.out; omega), hHeld.2.1.grown g6.out (fun e => by have h1 := Option.some.inj e; have h2 := BL6.out; omega), hHeld.2.2.grown g6.out (fun e => by have h1 := Option.some.inj e; have h2 := BL6.out; omega)⟩
        have hS7 : Hid (Box2 w (((wp8.alloc (.cells zRows40 115)).setCells (wp1.heap.size) 0 CAx1.toList).setCells (wp8.heap.size) 0 CBx8.toList) w.heap.size (w.heap.size + 1) 31 (iaC st it a2 n2 c2 a3 n3 c3 a4 n4 c4 a5 n5 c5) (iaC su iu b2 m2 d2 b3 m3 d3 b4 m4 d4 b5 m5 d5)) := ⟨hS6.out.1.grown g7.out hS6.out.1.size (fun q hq => by have h1 := Option.some.inj hq; have h2 := BL7.out; omega), hS6.out.2.1.grown g7.out (fun e => by have h1 := Option.some.inj e; have h2 := BL7.out; omega), hS6.out.2.2.grown g7.out (fun e => by have h1 := Option.some.inj e; have h2 := BL7.out; omega)⟩
        have r6 := Lib.hid ((rCA9.out.keepVar v69.out (by decide) g6.out).keepVar v7'.out (by decide) g7.out)
        have r7 := Lib.hid ((rCB9.out.keepVar v69.out (by decide) g6.out).keepVar v7'.out (by decide) g7.out)
        have s7 := Lib.hid ((s9.out.keepVar v69.out (by decide) g6.out).keepVar v7'.out (by decide) g7.out)
        have lt6 : (wp1.heap.size) < (((wp8.alloc (.cells zRows40 115)).setCells (wp1.heap.size) 0 CAx1.toList).setCells (wp8.heap.size) 0 CBx8.toList).heap.size := Nat.lt_of_lt_of_le (Nat.lt_of_lt_of_le v69.out.lt g6.out.size) g7.out.size
        have lt7 : (wp8.heap.size) < (((wp8.alloc (.cells zRows40 115)).setCells (wp1.heap.size) 0 CAx1.toList).setCells (wp8.heap.size) 0 CBx8.toList).heap.size := Nat.lt_of_lt_of_le v7'.out.lt g7.out.size
        refine wpAnyH_ready (rs := [6]) (fuel := 1) (by kernel_rfl) (by simp) ?_
        refine AllReadyH.cons rfl (fun K hK => ?_) AllReadyH.nil
        rw [if_pos (by rfl)]
        refine wp_store_mid _ _ _ rfl (wp1.heap.size) 0 CAx1.toList.toArray rfl rfl t6.out (by rw [List.size_toArray, HLR.out]; kernel_rfl) on6.out ?_
        refine hK.out _ _ hS6.out (fun hHeld => ?_)
        clear hK K
        refine wpAnyH_ready (rs := [7]) (fuel := 0) (by kernel_rfl) (by simp) ?_
        refine AllReadyH.cons rfl (fun K hK => ?_) AllReadyH.nil
        rw [if_pos (by rfl)]
        refine wp_store_mid _ _ _ rfl (wp8.heap.size) 0 CBx8.toList.toArray rfl rfl t7.out (by rw [List.size_toArray, HLH.out]; kernel_rfl) on7.out ?_
        refine hK.out _ _ hS7.out (fun hHeld => ?_)
        clear hK K
        refine wpAnyH_done (by kernel_rfl) ?_ _
        exact REST.out ((wp1.heap.size), (wp8.heap.size), CAx1, CBx8) _ ⟨hS7.out, lt6, rg6'.out, lt7, rg7.out, r6.out, r7.out, s7.out⟩
      refine AllReadyH.cons rfl (fun K hK => ?_) AllReadyH.nil
      have s10 : Hid (Owns ((wp1.alloc (.cells zRows40 115)).alloc (.cells zRows40 115)) w.heap.size (.slice sa sn sc) sn L) := s7.out.below ((Below.refl _ (wp1.alloc (.cells zRows40 115))).alloc (Nat.le_refl _) (.cells zRows40 115))
      have rCA10 : Hid (RowsAt ((wp1.alloc (.cells zRows40 115)).alloc (.cells zRows40 115)) w.heap.size CAx1 steps) := rCA7.out.below ((Below.refl _ (wp1.alloc (.cells zRows40 115))).alloc (Nat.le_refl _) (.cells zRows40 115))
      have v610 : Hid (VarIs ((wp1.alloc (.cells zRows40 115)).alloc (.cells zRows40 115)) (wp1.heap.size) zRows40 115) := vn7.out.below ((Below.refl _ (wp1.alloc (.cells zRows40 115))).alloc (Nat.le_refl _) (.cells zRows40 115))
      have NE : Hid (wp1.heap.size ≠ wp1.heap.size + 1) := by have h1 := vn7.out.lt; (try simp at h1); unfold Hid; omega
      have BL7 : Hid (w.heap.size + 1 < wp1.heap.size + 1) := by have h1 := hHeld.2.2.lt; (try simp at h1); unfold Hid; omega
      have vn10 : Hid (VarIs ((wp1.alloc (.cells zRows40 115)).alloc (.cells zRows40 115)) (wp1.heap.size + 1) zRows40 115) := VarIs.new (wp1.alloc (.cells zRows40 115)) zRows40 115 (by simp)
      go_simp
      refine hK.out _ _ (hHeld.below ((Below.refl _ (wp1.alloc (.cells zRows40 115))).alloc (Nat.le_refl _) (.cells zRows40 115))) (fun hHeld => ?_)
      clear hK K
      try simp only [Act.put, List.setIfInBounds_toArray, List.set_cons_zero, List.set_cons_succ]
      refine wpAnyH_ready (rs := [3]) (fuel := 2) (by kernel_rfl) (by simp) ?_
      refine AllReadyH.cons rfl (fun K hK => ?_) AllReadyH.nil
      go_simp
      refine (CRB.out _ hHeld).mono ?_
      rintro e wp11 ⟨CBx11, rfl, hC, hb⟩
      have s11 : Hid (Owns wp11 w.heap.size (.slice sa sn sc) sn L) := s10.out.below (hb)
      have rCA11 : Hid (RowsAt wp11 w.heap.size CAx1 steps) := rCA10.out.below (hb)
      have v611 : Hid (VarIs wp11 (wp1.heap.size) zRows40 115) := v610.out.below (hb)
      have v711 : Hid (VarIs wp11 (wp1.heap.size + 1) zRows40 115) := vn10.out.below (hb)
      have rCB11 : Hid (RowsAt wp11 w.heap.size CBx11 jteps) := hC
      have hS11 := hHeld.below hb
      clear hb hC
      go_wp2_with fail
      refine hK.out _ _ hS11 (fun hHeld => ?_)
      clear hK K hS11
      have ne67 : (wp1.heap.size) ≠ (wp1.heap.size + 1) := by have h1 := NE.out; exact fun e => h1 (by first | exact e | exact e.symm)
      have HLR : Hid (CAx1.toList.length = 40) := by have := rCA11.out.1; simpa [Hid] using this
      have HLH : Hid (CBx11.toList.length = 40) := by have := rCB11.out.1; simpa [Hid] using this
      have t6 : Hid (wp11.there (wp1.heap.size) 0 CAx1.toList.toArray.size) := v611.out.there (by rw [List.size_toArray, HLR.out]; rfl)
      have g6 := Lib.hid (grown_setCells (wp1.heap.size) CAx1.toList 0 wp11)
      have on6 : Hid (CAx1.toList.toArray.all (·.oneCell') = true) := all_oneCell_toArray (fun u hu => rCA11.out.one u (by simpa using hu))
      have on7 : Hid (CBx11.toList.toArray.all (·.oneCell') = true) := all_oneCell_toArray (fun u hu => rCB11.out.one u (by simpa using hu))
      have v7' := Lib.hid (v711.out.grown g6.out (fun e => ne67 (Option.some.inj e).symm))
      have t7 : Hid ((wp11.setCells (wp1.heap.size) 0 CAx1.toList).there (wp1.heap.size + 1) 0 CBx11.toList.toArray.size) := v7'.out.there (by rw [List.size_toArray, HLH.out]; rfl)
      have g7 := Lib.hid (grown_setCells (wp1.heap.size + 1) CBx11.toList 0 (wp11.setCells (wp1.heap.size) 0 CAx1.toList))
      have rg6 : Hid ((wp11.setCells (wp1.heap.size) 0 CAx1.toList).rangeAt (wp1.heap.size) 0 CAx1.toList) := World.rangeAt_setCells_same wp11 (wp1.heap.size) 0 CAx1.toList (by simpa using t6.out)
      have rg7 : Hid (((wp11.setCells (wp1.heap.size) 0 CAx1.toList).setCells (wp1.heap.size + 1) 0 CBx11.toList).rangeAt (wp1.heap.size + 1) 0 CBx11.toList) := World.rangeAt_setCells_same (wp11.setCells (wp1.heap.size) 0 CAx1.toList) (wp1.heap.size + 1) 0 CBx11.toList (by simpa using t7.out)
      have rg6' : Hid (((wp11.setCells (wp1.heap.size) 0 CAx1.toList).setCells (wp1.heap.size + 1) 0 CBx11.toList).rangeAt (wp1.heap.size) 0 CAx1.toList) := range_grown rg6.out g7.out ne67
      have hS6 : Hid (Box2 w (wp11.setCells (wp1.heap.size) 0 CAx1.toList) w.heap.size (w.heap.size + 1) 31 (iaC st it a2 n2 c2 a3 n3 c3 a4 n4 c4 a5 n5 c5) (iaC su iu b2 m2 d2 b3 m3 d3 b4 m4 d4 b5 m5 d5)) := ⟨hHeld.1.grown g6.out hHeld.1.size (fun q hq => by have h1 := Option.some.inj hq; have h2 := BL6.out; omega), hHeld.2.1.grown g6.out (fun e => by have h1 := Option.some.inj e; have h2 := BL6.out; omega), hHeld.2.2.grown g6.out (fun e => by have h1 := Option.some.inj e; have h2 := BL6.out; omega)⟩
      have hS7 : Hid (Box2 w ((wp11.setCells (wp1.heap.size) 0 CAx1.toList).setCells (wp1.heap.size + 1) 0 CBx11.toList) w.heap.size (w.heap.size + 1) 31 (iaC st it a2 n2 c2 a3 n3 c3 a4 n4 c4 a5 n5 c5) (iaC su iu b2 m2 d2 b3 m3 d3 b4 m4 d4 b5 m5 d5)) := ⟨hS6.out.1.grown g7.out hS6.out.1.size (fun q hq => by have h1 := Option.some.inj hq; have h2 := BL7.out; omega), hS6.out.2.1.grown g7.out (fun e => by have h1 := Option.some.inj e; have h2 := BL7.out; omega), hS6.out.2.2.grown g7.out (fun e => by have h1 := Option.some.inj e; have h2 := BL7.out; omega)⟩
      have r6 := Lib.hid ((rCA11.out.keepVar v611.out (by decide) g6.out).keepVar v7'.out (by decide) g7.out)
      have r7 := Lib.hid ((rCB11.out.keepVar v611.out (by decide) g6.out).keepVar v7'.out (by decide) g7.out)
      have s7 := Lib.hid ((s11.out.keepVar v611.out (by decide) g6.out).keepVar v7'.out (by decide) g7.out)
      have lt6 : (wp1.heap.size) < ((wp11.setCells (wp1.heap.size) 0 CAx1.toList).setCells (wp1.heap.size + 1) 0 CBx11.toList).heap.size := Nat.lt_of_lt_of_le (Nat.lt_of_lt_of_le v611.out.lt g6.out.size) g7.out.size
      have lt7 : (wp1.heap.size + 1) < ((wp11.setCells (wp1.heap.size) 0 CAx1.toList).setCells (wp1.heap.size + 1) 0 CBx11.toList).heap.size := Nat.lt_of_lt_of_le v7'.out.lt g7.out.size
      refine wpAnyH_ready (rs := [6]) (fuel := 1) (by kernel_rfl) (by simp) ?_
      refine AllReadyH.cons rfl (fun K hK => ?_) AllReadyH.nil
      rw [if_pos (by rfl)]
      refine wp_store_mid _ _ _ rfl (wp1.heap.size) 0 CAx1.toList.toArray rfl rfl t6.out (by rw [List.size_toArray, HLR.out]; kernel_rfl) on6.out ?_
      refine hK.out _ _ hS6.out (fun hHeld => ?_)
      clear hK K
      refine wpAnyH_ready (rs := [7]) (fuel := 0) (by kernel_rfl) (by simp) ?_
      refine AllReadyH.cons rfl (fun K hK => ?_) AllReadyH.nil
      rw [if_pos (by rfl)]
      refine wp_store_mid _ _ _ rfl (wp1.heap.size + 1) 0 CBx11.toList.toArray rfl rfl t7.out (by rw [List.size_toArray, HLH.out]; kernel_rfl) on7.out ?_
      refine hK.out _ _ hS7.out (fun hHeld => ?_)
      clear hK K
      refine wpAnyH_done (by kernel_rfl) ?_ _
      exact REST.out ((wp1.heap.size), (wp1.heap.size + 1), CAx1, CBx11) _ ⟨hS7.out, lt6, rg6'.out, lt7, rg7.out, r6.out, r7.out, s7.out⟩
    refine AllReadyH.cons rfl (fun K hK => ?_) AllReadyH.nil
    have s12 : Hid (Owns (wp1.alloc (.cells zRows40 115)) w.heap.size (.slice sa sn sc) sn L) := s1.out.below ((Below.refl _ wp1).alloc (Nat.le_refl _) (.cells zRows40 115))
    have rCA12 : Hid (RowsAt (wp1.alloc (.cells zRows40 115)) w.heap.size CAx1 steps) := rCA1.out.below ((Below.refl _ wp1).alloc (Nat.le_refl _) (.cells zRows40 115))
    have BL7 : Hid (w.heap.size + 1 < wp1.heap.size) := by have h1 := hHeld.2.2.lt; (try simp at h1); unfold Hid; omega
    have vn12 : Hid (VarIs (wp1.alloc (.cells zRows40 115)) (wp1.heap.size) zRows40 115) := VarIs.new wp1 zRows40 115 (by simp)
    go_simp
    refine hK.out _ _ (hHeld.below ((Below.refl _ wp1).alloc (Nat.le_refl _) (.cells zRows40 115))) (fun hHeld => ?_)
    clear hK K
    try simp only [Act.put, List.setIfInBounds_toArray, List.set_cons_zero, List.set_cons_succ]
    refine wpAnyH_ready (rs := [3, 4]) (fuel := 3) (by kernel_rfl) (by simp) ?_
    refine AllReadyH.cons rfl (fun K hK => ?_) ?_
    · go_simp
      refine (CRB.out _ hHeld).mono ?_
      rintro e wp13 ⟨CBx13, rfl, hC, hb⟩
      have s13 : Hid (Owns wp13 w.heap.size (.slice sa sn sc) sn L) := s12.out.below (hb)
      have rCA13 : Hid (RowsAt wp13 w.heap.size CAx1 steps) := rCA12.out.below (hb)
      have v713 : Hid (VarIs wp13 (wp1.heap.size) zRows40 115) := vn12.out.below (hb)
      have rCB13 : Hid (RowsAt wp13 w.heap.size CBx13 jteps) := hC
      have hS13 := hHeld.below hb
      clear hb hC
      go_wp2_with fail
      refine hK.out _ _ hS13 (fun hHeld => ?_)
      clear hK K hS13
      refine wpAnyH_ready (rs := [4]) (fuel := 2) (by kernel_rfl) (by simp) ?_
      refine AllReadyH.cons rfl (fun K hK => ?_) AllReadyH.nil
      have s14 : Hid (Owns (wp13.alloc (.cells zRows40 115)) w.heap.size (.slice sa sn sc) sn L) := s13.out.below ((Below.refl _ wp13).alloc (Nat.le_refl _) (.cells zRows40 115))
      have rCA14 : Hid (RowsAt (wp13.alloc (.cells zRows40 115)) w.heap.size CAx1 steps) := rCA13.out.below ((Below.refl _ wp13).alloc (Nat.le_refl _) (.cells zRows40 115))
      have v714 : Hid (VarIs (wp13.alloc (.cells zRows40 115)) (wp1.heap.size) zRows40 115) := v713.out.below ((Below.refl _ wp13).alloc (Nat.le_refl _) (.cells zRows40 115))
      have rCB14 : Hid (RowsAt (wp13.alloc (.cells zRows40 115)) w.heap.size CBx13 jteps) := rCB13.out.below ((Below.refl _ wp13).alloc (Nat.le_refl _) (.cells zRows40 115))
      have NE : Hid (wp1.heap.size ≠ wp13.heap.size) := by have h1 := v713.out.lt; (try simp at h1); unfold Hid; omega
      have BL6 : Hid (w.heap.size + 1 < wp13.heap.size) := by have h1 := hHeld.2.2.lt; (try simp at h1); unfold Hid; omega
      have vn14 : Hid (VarIs (wp13.alloc (.cells zRows40 115)) (wp13.heap.size) zRows40 115) := VarIs.new wp13 zRows40 115 (by simp)
      go_simp
      refine hK.out _ _ (hHeld.below ((Below.refl _ wp13).alloc (Nat.le_refl _) (.cells zRows40 115))) (fun hHeld => ?_)
      clear hK K
      try simp only [Act.put, List.setIfInBounds_toArray, List.set_cons_zero, List.set_cons_succ]
      have ne67 : (wp13.heap.size) ≠ (wp1.heap.size) := by have h1 := NE.out; exact fun e => h1 (by first | exact e | exact e.symm)
      have HLR : Hid (CAx1.toList.length = 40) := by have := rCA14.out.1; simpa [Hid] using this
      have HLH : Hid (CBx13.toList.length = 40) := by have := rCB14.out.1; simpa [Hid] using this
      have t6 : Hid ((wp13.alloc (.cells zRows40 115)).there (wp13.heap.size) 0 CAx1.toList.toArray.size) := vn14.out.there (by rw [List.size_toArray, HLR.out]; rfl)
      have g6 := Lib.hid (grown_setCells (wp13.heap.size) CAx1.toList 0 (wp13.alloc (.cells zRows40 115)))
      have on6 : Hid (CAx1.toList.toArray.all (·.oneCell') = true) := all_oneCell_toArray (fun u hu => rCA14.out.one u (by simpa using hu))
      have on7 : Hid (CBx13.toList.toArray.all (·.oneCell') = true) := all_oneCell_toArray (fun u hu => rCB14.out.one u (by simpa using hu))
      have v7' := Lib.hid (v714.out.grown g6.out (fun e => ne67 (Option.some.inj e).symm))
      have t7 : Hid (((wp13.alloc (.cells zRows40 115)).setCells (wp13.heap.size) 0 CAx1.toList).there (wp1.heap.size) 0 CBx13.toList.toArray.size) := v7'.out.there (by rw [List.size_toArray, HLH.out]; rfl)
      have g7 := Lib.hid (grown_setCells (wp1.heap.size) CBx13.toList 0 ((wp13.alloc (.cells zRows40 115)).setCells (wp13.heap.size) 0 CAx1.toList))
      have rg6 : Hid (((wp13.alloc (.cells zRows40 115)).setCells (wp13.heap.size) 0 CAx1.toList).rangeAt (wp13.heap.size) 0 CAx1.toList) := World.rangeAt_setCells_same (wp13.alloc (.cells zRows40 115)) (wp13.heap.size) 0 CAx1.toList (by simpa using t6.out)
      have rg7 : Hid ((((wp13.alloc (.cells zRows40 115)).setCells (wp13.heap.size) 0 CAx1.toList).setCells (wp1.heap.size) 0 CBx13.toList).rangeAt (wp1.heap.size) 0 CBx13.toList) := World.rangeAt_setCells_same ((wp13.alloc (.cells zRows40 115)).setCells (wp13.heap.size) 0 CAx1.toList) (wp1.heap.size) 0 CBx13.toList (by simpa using t7.out)
      have rg6' : Hid ((((wp13.alloc (.cells zRows40 115)).setCells (wp13.heap.size) 0 CAx1.toList).setCells (wp1.heap.size) 0 CBx13.toList).rangeAt (wp13.heap.size) 0 CAx1.toList) := range_grown rg6.out g7.out ne67
      have hS6 : Hid (Box2 w ((wp13.alloc (.cells zRows40 115)).setCells (wp13.heap.size) 0 CAx1.toList) w.heap.size (w.heap.size + 1) 31 (iaC st it a2 n2 c2 a3 n3 c3 a4 n4 c4 a5 n5 c5) (iaC su iu b2 m2 d2 b3 m3 d3 b4 m4 d4 b5 m5 d5)) := ⟨hHeld.1.grown g6.out hHeld.1.size (fun q hq => by have h1 := Option.some.inj hq; have h2 := BL6.out; omega), hHeld.2.1.grown g6.out (fun e => by have h1 := Option.some.inj e; have h2 := BL6.out; omega), hHeld.2.2.grown g6.out (fun e => by have h1 := Option.some.inj e; have h2 := BL6.out; omega)⟩
      have hS7 : Hid (Box2 w (((wp13.alloc (.cells zRows40 115)).setCells (wp13.heap.size) 0 CAx1.toList).setCells (wp1.heap.size) 0 CBx13.toList) w.heap.size (w.heap.size + 1) 31 (iaC st it a2 n2 c2 a3 n3 c3 a4 n4 c4 a5 n5 c5) (iaC su iu b2 m2 d2 b3 m3 d3 b4 m4 d4 b5 m5 d5)) := ⟨hS6.out.1.grown g7.out hS6.out.1.size (fun q hq => by have h1 := Option.some.inj hq; have h2 := BL7.out; omega), hS6.out.2.1.grown g7.out (fun e => by have h1 := Option.some.inj e; have h2 := BL7.out; omega), hS6.out.2.2.grown g7.out (fun e => by have h1 := Option.some.inj e; have h2 := BL7.out; omega)⟩
      have r6 := Lib.hid ((rCA14.out.keepVar vn14.out (by decide) g6.out).keepVar v7'.out (by decide) g7.out)
      have r7 := Lib.hid ((rCB14.out.keepVar vn14.out (by decide) g6.out).keepVar v7'.out (by decide) g7.out)
      have s7 := Lib.hid ((s14.out.keepVar vn14.out (by decide) g6.out).keepVar v7'.out (by decide) g7.out)
      have lt6 : (wp13.heap.size) < (((wp13.alloc (.cells zRows40 115)).setCells (wp13.heap.size) 0 CAx1.toList).setCells (wp1.heap.size) 0 CBx13.toList).heap.size := Nat.lt_of_lt_of_le (Nat.lt_of_lt_of_le vn14.out.lt g6.out.size) g7.out.size
      have lt7 : (wp1.heap.size) < (((wp13.alloc (.cells zRows40 115)).setCells (wp13.heap.size) 0 CAx1.toList).setCells (wp1.heap.size) 0 CBx13.toList).heap.size := Nat.lt_of_lt_of_le v7'.out.lt g7.out.size
      refine wpAnyH_ready (rs := [6]) (fuel := 1) (by kernel_rfl) (by simp) ?_
      refine AllReadyH.cons rfl (fun K hK => ?_) AllReadyH.nil
      rw [if_pos (by rfl)]
      refine wp_store_mid _ _ _ rfl (wp13.heap.size) 0 CAx1.toList.toArray rfl rfl t6.out (by rw [List.size_toArray, HLR.out]; kernel_rfl) on6.out ?_
      refine hK.out _ _ hS6.out (fun hHeld => ?_)
      clear hK K
      refine wpAnyH_ready (rs := [7]) (fuel := 0) (by kernel_rfl) (by simp) ?_
      refine AllReadyH.cons rfl (fun K hK => ?_) AllReadyH.nil
      rw [if_pos (by rfl)]
      refine wp_store_mid _ _ _ rfl (wp1.heap.size) 0 CBx13.toList.toArray rfl rfl t7.out (by rw [List.size_toArray, HLH.out]; kernel_rfl) on7.out ?_
      refine hK.out _ _ hS7.out (fun hHeld => ?_)
      clear hK K
      refine wpAnyH_done (by kernel_rfl) ?_ _
      exact REST.out ((wp13.heap.size), (wp1.heap.size), CAx1, CBx13) _ ⟨hS7.out, lt6, rg6'.out, lt7, rg7.out, r6.out, r7.out, s7.out⟩
    refine AllReadyH.cons rfl (fun K hK => ?_) AllReadyH.nil
    have s15 : Hid (Owns ((wp1.alloc (.cells zRows40 115)).alloc (.cells zRows40 115)) w.heap.size (.slice sa sn sc) sn L) := s12.out.below ((Below.refl _ (wp1.alloc (.cells zRows40 115))).alloc (Nat.le_refl _) (.cells zRows40 115))
    have rCA15 : Hid (RowsAt ((wp1.alloc (.cells zRows40 115)).alloc (.cells zRows40 115)) w.heap.size CAx1 steps) := rCA12.out.below ((Below.refl _ (wp1.alloc (.cells zRows40 115))).alloc (Nat.le_refl _) (.cells zRows40 115))
    have v715 : Hid (VarIs ((wp1.alloc (.cells zRows40 115)).alloc (.cells zRows40 115)) (wp1.heap.size) zRows40 115) := vn12.out.below ((Below.refl _ (wp1.alloc (.cells zRows40 115))).alloc (Nat.le_refl _) (.cells zRows40 115))
    have NE : Hid (wp1.heap.size ≠ wp1.heap.size + 1) := by have h1 := vn12.out.lt; (try simp at h1); unfold Hid; omega
    have BL6 : Hid (w.heap.size + 1 < wp1.heap.size + 1) := by have h1 := hHeld.2.2.lt; (try simp at h1); unfold Hid; omega
    have vn15 : Hid (VarIs ((wp1.alloc (.cells zRows40 115)).alloc (.cells zRows40 115)) (wp1.heap.size + 1) zRows40 115) := VarIs.new (wp1.alloc (.cells zRows40 115)) zRows40 115 (by simp)
    go_simp
    refine hK.out _ _ (hHeld.below ((Below.refl _ (wp1.alloc (.cells zRows40 115))).alloc (Nat.le_refl _) (.cells zRows40 115))) (fun hHeld => ?_)
    clear hK K
    try simp only [Act.put, List.setIfInBounds_toArray, List.set_cons_zero, List.set_cons_succ]
    refine wpAnyH_ready (rs := [3]) (fuel := 2) (by kernel_rfl) (by simp) ?_
    refine AllReadyH.cons rfl (fun K hK => ?_) AllReadyH.nil
    go_simp
    refine (CRB.out _ hHeld).mono ?_
    rintro e wp16 ⟨CBx16, rfl, hC, hb⟩
    have s16 : Hid (Owns wp16 w.heap.size (.slice sa sn sc) sn L) := s15.out.below (hb)
    have rCA16 : Hid (RowsAt wp16 w.heap.size CAx1 steps) := rCA15.out.below (hb)
    have v716 : Hid (VarIs wp16 (wp1.heap.size) zRows40 115) := v715.out.below (hb)
    have v616 : Hid (VarIs wp16 (wp1.heap.size + 1) zRows40 115) := vn15.out.below (hb)
    have rCB16 : Hid (RowsAt wp16 w.heap.size CBx16 jteps) := hC
    have hS16 := hHeld.below hb
    clear hb hC
    go_wp2_with fail
    refine hK.out _ _ hS16 (fun hHeld => ?_)
    clear hK K hS16
    have ne67 : (wp1.heap.size + 1) ≠ (wp1.heap.size) := by have h1 := NE.out; exact fun e => h1 (by first | exact e | exact e.symm)
    have HLR : Hid (CAx1.toList.length = 40) := by have := rCA16.out.1; simpa [Hid] using this
    have HLH : Hid (CBx16.toList.length = 40) := by have := rCB16.out.1; simpa [Hid] using this
    have t6 : Hid (wp16.there (wp1.heap.size + 1) 0 CAx1.toList.toArray.size) := v616.out.there (by rw [List.size_toArray, HLR.out]; rfl)
    have g6 := Lib.hid (grown_setCells (wp1.heap.size + 1) CAx1.toList 0 wp16)
    have on6 : Hid (CAx1.toList.toArray.all (·.oneCell') = true) := all_oneCell_toArray (fun u hu => rCA16.out.one u (by simpa using hu))
    have on7 : Hid (CBx16.toList.toArray.all (·.oneCell') = true) := all_oneCell_toArray (fun u hu => rCB16.out.one u (by simpa using hu))
    have v7' := Lib.hid (v716.out.grown g6.out (fun e => ne67 (Option.some.inj e).symm))
    have t7 : Hid ((wp16.setCells (wp1.heap.size + 1) 0 CAx1.toList).there (wp1.heap.size) 0 CBx16.toList.toArray.size) := v7'.out.there (by rw [List.size_toArray, HLH.out]; rfl)
    have g7 := Lib.hid (grown_setCells (wp1.heap.size) CBx16.toList 0 (wp16.setCells (wp1.heap.size + 1) 0 CAx1.toList))
    have rg6 : Hid ((wp16.setCells (wp1.heap.size + 1) 0 CAx1.toList).rangeAt (wp1.heap.size + 1) 0 CAx1.toList) := World.rangeAt_setCells_same wp16 (wp1.heap.size + 1) 0 CAx1.toList (by simpa using t6.out)
    have rg7 : Hid (((wp16.setCells (wp1.heap.size + 1) 0 CAx1.toList).setCells (wp1.heap.size) 0 CBx16.toList).rangeAt (wp1.heap.size) 0 CBx16.toList) := World.rangeAt_setCells_same (wp16.setCells (wp1.heap.size + 1) 0 CAx1.toList) (wp1.heap.size) 0 CBx16.toList (by simpa using t7.out)
    have rg6' : Hid (((wp16.setCells (wp1.heap.size + 1) 0 CAx1.toList).setCells (wp1.heap.size) 0 CBx16.toList).rangeAt (wp1.heap.size + 1) 0 CAx1.toList) := range_grown rg6.out g7.out ne67
    have hS6 : Hid (Box2 w (wp16.setCells (wp1.heap.size + 1) 0 CAx1.toList) w.heap.size (w.heap.size + 1) 31 (iaC st it a2 n2 c2 a3 n3 c3 a4 n4 c4 a5 n5 c5) (iaC su iu b2 m2 d2 b3 m3 d3 b4 m4 d4 b5 m5 d5)) := ⟨hHeld.1.grown g6.out hHeld.1.size (fun q hq => by have h1 := Option.some.inj hq; have h2 := BL6.out; omega), hHeld.2.1.grown g6.out (fun e => by have h1 := Option.some.inj e; have h2 := BL6.out; omega), hHeld.2.2.grown g6.out (fun e => by have h1 := Option.some.inj e; have h2 := BL6.out; omega)⟩
    have hS7 : Hid (Box2 w ((wp16.setCells (wp1.heap.size + 1) 0 CAx1.toList).setCells (wp1.heap.size) 0 CBx16.toList) w.heap.size (w.heap.size + 1) 31 (iaC st it a2 n2 c2 a3 n3 c3 a4 n4 c4 a5 n5 c5) (iaC su iu b2 m2 d2 b3 m3 d3 b4 m4 d4 b5 m5 d5)) := ⟨hS6.out.1.grown g7.out hS6.out.1.size (fun q hq => by have h1 := Option.some.inj hq; have h2 := BL7.out; omega), hS6.out.2.1.grown g7.out (fun e => by have h1 := Option.some.inj e; have h2 := BL7.out; omega), hS6.out.2.2.grown g7.out (fun e => by have h1 := Option.some.inj e; have h2 := BL7.out; omega)⟩
    have r6 := Lib.hid ((rCA16.out.keepVar v616.out (by decide) g6.out).keepVar v7'.out (by decide) g7.out)
    have r7 := Lib.hid ((rCB16.out.keepVar v616.out (by decide) g6.out).keepVar v7'.out (by decide) g7.out)
    have s7 := Lib.hid ((s16.out.keepVar v616.out (by decide) g6.out).keepVar v7'.out (by decide) g7.out)
    have lt6 : (wp1.heap.size + 1) < ((wp16.setCells (wp1.heap.size + 1) 0 CAx1.toList).setCells (wp1.heap.size) 0 CBx16.toList).heap.size := Nat.lt_of_lt_of_le (Nat.lt_of_lt_of_le v616.out.lt g6.out.size) g7.out.size
    have lt7 : (wp1.heap.size) < ((wp16.setCells (wp1.heap.size + 1) 0 CAx1.toList).setCells (wp1.heap.size) 0 CBx16.toList).heap.size := Nat.lt_of_lt_of_le v7'.out.lt g7.out.size
    refine wpAnyH_ready (rs := [6]) (fuel := 1) (by kernel_rfl) (by simp) ?_
    refine AllReadyH.cons rfl (fun K hK => ?_) AllReadyH.nil
    rw [if_pos (by rfl)]
    refine wp_store_mid _ _ _ rfl (wp1.heap.size + 1) 0 CAx1.toList.toArray rfl rfl t6.out (by rw [List.size_toArray, HLR.out]; kernel_rfl) on6.out ?_
    refine hK.out _ _ hS6.out (fun hHeld => ?_)
    clear hK K
    refine wpAnyH_ready (rs := [7]) (fuel := 0) (by kernel_rfl) (by simp) ?_
    refine AllReadyH.cons rfl (fun K hK => ?_) AllReadyH.nil
    rw [if_pos (by rfl)]
    refine wp_store_mid _ _ _ rfl (wp1.heap.size) 0 CBx16.toList.toArray rfl rfl t7.out (by rw [List.size_toArray, HLH.out]; kernel_rfl) on7.out ?_
    refine hK.out _ _ hS7.out (fun hHeld => ?_)
    clear hK K
    refine wpAnyH_done (by kernel_rfl) ?_ _
    exact REST.out ((wp1.heap.size + 1), (wp1.heap.size), CAx1, CBx16) _ ⟨hS7.out, lt6, rg6'.out, lt7, rg7.out, r6.out, r7.out, s7.out⟩
  refine AllReadyH.cons rfl (fun K hK => ?_) ?_
  · have s17 : Hid (Owns (w1.drew.alloc (.cells zRows40 115)) w.heap.size (.slice sa sn sc) sn L) := HSD.out.below ((Below.refl _ w1.drew).alloc (Nat.le_refl _) (.cells zRows40 115))
    have BL6 : Hid (w.heap.size + 1 < w1.heap.size) := by have h1 := hHeld.2.2.lt; (try simp at h1); unfold Hid; omega
    have vn17 : Hid (VarIs (w1.drew.alloc (.cells zRows40 115)) (w1.heap.size) zRows40 115) := VarIs.new w1.drew zRows40 115 (by simp)
    go_simp
    refine hK.out _ _ (hHeld.below ((Below.refl _ w1.drew).alloc (Nat.le_refl _) (.cells zRows40 115))) (fun hHeld => ?_)
    clear hK K
    try simp only [Act.put, List.setIfInBounds_toArray, List.set_cons_zero, List.set_cons_succ]
    refine wpAnyH_ready (rs := [1, 5]) (fuel := 4) (by kernel_rfl) (by simp) ?_
    refine AllReadyH.cons rfl (fun K hK => ?_) ?_
    · go_simp
      refine (CRA.out _ hHeld).mono ?_
      rintro e wp18 ⟨CAx18, rfl, hC, hb⟩
      have s18 : Hid (Owns wp18 w.heap.size (.slice sa sn sc) sn L) := s17.out.below (hb)
      have v618 : Hid (VarIs wp18 (w1.heap.size) zRows40 115) := vn17.out.below (hb)
      have rCA18 : Hid (RowsAt wp18 w.heap.size CAx18 steps) := hC
      have hS18 := hHeld.below hb
      clear hb hC
      go_wp2_with fail
      refine hK.out _ _ hS18 (fun hHeld => ?_)
      clear hK K hS18
      refine wpAnyH_ready (rs := [3, 5]) (fuel := 3) (by kernel_rfl) (by simp) ?_
      refine AllReadyH.cons rfl (fun K hK => ?_) ?_
      · go_simp
        refine (CRB.out _ hHeld).mono ?_
        rintro e wp19 ⟨CBx19, rfl, hC, hb⟩
        have s19 : Hid (Owns wp19 w.heap.size (.slice sa sn sc) sn L) := s18.out.below (hb)
        have v619 : Hid (VarIs wp19 (w1.heap.size) zRows40 115) := v618.out.below (hb)
        have rCA19 : Hid (RowsAt wp19 w.heap.size CAx18 steps) := rCA18.out.below (hb)
        have rCB19 : Hid (RowsAt wp19 w.heap.size CBx19 jteps) := hC
        have hS19 := hHeld.below hb
        clear hb hC
        go_wp2_with fail
        refine hK.out _ _ hS19 (fun hHeld => ?_)
        clear hK K hS19
        refine wpAnyH_ready (rs := [5]) (fuel := 2) (by kernel_rfl) (by simp) ?_
        refine AllReadyH.cons rfl (fun K hK => ?_) AllReadyH.nil
        have s20 : Hid (Owns (wp19.alloc (.cells zRows40 115)) w.heap.size (.slice sa sn sc) sn L) := s19.out.below ((Below.refl _ wp19).alloc (Nat.le_refl _) (.cells zRows40 115))
        have v620 : Hid (VarIs (wp19.alloc (.cells zRows40 115)) (w1.heap.size) zRows40 115) := v619.out.below ((Below.refl _ wp19).alloc (Nat.le_refl _) (.cells zRows40 115))
        have rCA20 : Hid (RowsAt (wp19.alloc (.cells zRows40 115)) w.heap.size CAx18 steps) := rCA19.out.below ((Below.refl _ wp19).alloc (Nat.le_refl _) (.cells zRows40 115))
        have rCB20 : Hid (RowsAt (wp19.alloc (.cells zRows40 115)) w.heap.size CBx19 jteps) := rCB19.out.below ((Below.refl _ wp19).alloc (Nat.le_refl _) (.cells zRows40 115))
        have NE : Hid (w1.heap.size ≠ wp19.heap.size) := by have h1 := v619.out.lt; (try simp at h1); unfold Hid; omega
        have BL7 : Hid (w.heap.size + 1 < wp19.heap.size) := by have h1 := hHeld.2.2.lt; (try simp at h1); unfold Hid; omega
        have vn20 : Hid (VarIs (wp19.alloc (.cells zRows40 115)) (wp19.heap.size) zRows40 115) := VarIs.new wp19 zRows40 115 (by simp)
        go_simp
        refine hK.out _ _ (hHeld.below ((Below.refl _ wp19).alloc (Nat.le_refl _) (.cells zRows40 115))) (fun hHeld => ?_)
        clear hK K
        try simp only [Act.put, List.setIfInBounds_toArray, List.set_cons_zero, List.set_cons_succ]
        have ne67 : (w1.heap.size) ≠ (wp19.heap.size) := by have h1 := NE.out; exact fun e => h1 (by first | exact e | exact e.symm)
        have HLR : Hid (CAx18.toList.length = 40) := by have := rCA20.out.1; simpa [Hid] using this
        have HLH : Hid (CBx19.toList.length = 40) := by have := rCB20.out.1; simpa [Hid] using this
        have t6 : Hid ((wp19.alloc (.cells zRows40 115)).there (w1.heap.size) 0 CAx18.toList.toArray.size) := v620.out.there (by rw [List.size_toArray, HLR.out]; rfl)
        have g6 := Lib.hid (grown_setCells (w1.heap.size) CAx18.toList 0 (wp19.alloc (.cells zRows40 115)))
        have on6 : Hid (CAx18.toList.toArray.all (·.oneCell') = true) := all_oneCell_toArray (fun u hu => rCA20.out.one u (by simpa using hu))
        have on7 : Hid (CBx19.toList.toArray.all (·.oneCell') = true) := all_oneCell_toArray (fun u hu => rCB20.out.one u (by simpa using hu))
        have v7' := Lib.hid (vn20.out.grown g6.out (fun e => ne67 (Option.some.inj e).symm))
        have t7 : Hid (((wp19.alloc (.cells zRows40 115)).setCells (w1.heap.size) 0 CAx18.toList).there (wp19.heap.size) 0 CBx19.toList.toArray.size) := v7'.out.there (by rw [List.size_toArray, HLH.out]; rfl)
        have g7 := Lib.hid (grown_setCells (wp19.heap.size) CBx19.toList 0 ((wp19.alloc (.cells zRows40 115)).setCells (w1.heap.size) 0 CAx18.toList))
        have rg6 : Hid (((wp19.alloc (.cells zRows40 115)).setCells (w1.heap.size) 0 CAx18.toList).rangeAt (w1.heap.size) 0 CAx18.toList) := World.rangeAt_setCells_same (wp19.alloc (.cells zRows40 115)) (w1.heap.size) 0 CAx18.toList (by simpa using t6.out)
        have rg7 : Hid ((((wp19.alloc (.cells zRows40 115)).setCells (w1.heap.size) 0 CAx18.toList).setCells (wp19.heap.size) 0 CBx19.toList).rangeAt (wp19.heap.size) 0 CBx19.toList) := World.rangeAt_setCells_same ((wp19.alloc (.cells zRows40 115)).setCells (w1.heap.size) 0 CAx18.toList) (wp19.heap.size) 0 CBx19.toList (by simpa using t7.out)
        have rg6' : Hid ((((wp19.alloc (.cells zRows40 115)).setCells (w1.heap.size) 0 CAx18.toList).setCells (wp19.heap.size) 0 CBx19.toList).rangeAt (w1.heap.size) 0 CAx18.toList) := range_grown rg6.out g7.out ne67
        have hS6 : Hid (Box2 w ((wp19.alloc (.cells zRows40 115)).setCells (w1.heap.size) 0 CAx18.toList) w.heap.size (w.heap.size + 1) 31 (iaC st it a2 n2 c2 a3 n3 c3 a4 n4 c4 a5 n5 c5) (iaC su iu b2 m2 d2 b3 m3 d3 b4 m4 d4 b5 m5 d5)) := ⟨hHeld.1.grown g6.out hHeld.1.size (fun q hq => by have h1 := Option.some.inj hq; have h2 := BL6.out; omega), hHeld.2.1.grown g6.out (fun e => by have h1 := Option.some.inj e; have h2 := BL6.out; omega), hHeld.2.2.grown g6.out (fun e => by have h1 := Option.some.inj e; have h2 := BL6.out; omega)⟩
        have hS7 : Hid (Box2 w (((wp19.alloc (.cells zRows40 115)).setCells (w1.heap.size) 0 CAx18.toList).setCells (wp19.heap.size) 0 CBx19.toList) w.heap.size (w.heap.size + 1) 31 (iaC st it a2 n2 c2 a3 n3 c3 a4 n4 c4 a5 n5 c5) (iaC su iu b2 m2 d2 b3 m3 d3 b4 m4 d4 b5 m5 d5)) := ⟨hS6.out.1.grown g7.out hS6.out.1.size (fun q hq => by have h1 := Option.some.inj hq; have h2 := BL7.out; omega), hS6.out.2.1.grown g7.out (fun e => by have h1 := Option.some.inj e; have h2 := BL7.out; omega), hS6.out.2.2.grown g7.out (fun e => by have h1 := Option.some.inj e; have h2 := BL7.out; omega)⟩
        have r6 := Lib.hid ((rCA20.out.keepVar v620.out (by decide) g6.out).keepVar v7'.out (by decide) g7.out)
        have r7 := Lib.hid ((rCB20.out.keepVar v620.out (by decide) g6.out).keepVar v7'.out (by decide) g7.out)
        have s7 := Lib.hid ((s20.out.keepVar v620.out (by decide) g6.out).keepVar v7'.out (by decide) g7.out)
        have lt6 : (w1.heap.size) < (((wp19.alloc (.cells zRows40 115)).setCells (w1.heap.size) 0 CAx18.toList).setCells (wp19.heap.size) 0 CBx19.toList).heap.size := Nat.lt_of_lt_of_le (Nat.lt_of_lt_of_le v620.out.lt g6.out.size) g7.out.size
        have lt7 : (wp19.heap.size) < (((wp19.alloc (.cells zRows40 115)).setCells (w1.heap.size) 0 CAx18.toList).setCells (wp19.heap.size) 0 CBx19.toList).heap.size := Nat.lt_of_lt_of_le v7'.out.lt g7.out.size
        refine wpAnyH_ready (rs := [6]) (fuel := 1) (by kernel_rfl) (by simp) ?_
        refine AllReadyH.cons rfl (fun K hK => ?_) AllReadyH.nil
        rw [if_pos (by rfl)]
        refine wp_store_mid _ _ _ rfl (w1.heap.size) 0 CAx18.toList.toArray rfl rfl t6.out (by rw [List.size_toArray, HLR.out]; kernel_rfl) on6.out ?_
        refine hK.out _ _ hS6.out (fun hHeld => ?_)
        clear hK K
        refine wpAnyH_ready (rs := [7]) (fuel := 0) (by kernel_rfl) (by simp) ?_
        refine AllReadyH.cons rfl (fun K hK => ?_) AllReadyH.nil
        rw [if_pos (by rfl)]
        refine wp_store_mid _ _ _ rfl (wp19.heap.size) 0 CBx19.toList.toArray rfl rfl t7.out (by rw [List.size_toArray, HLH.out]; kernel_rfl) on7.out ?_
        refine hK.out _ _ hS7.out (fun hHeld => ?_)
        clear hK K
        refine wpAnyH_done (by kernel_rfl) ?_ _
        exact REST.out ((w1.heap.size), (wp19.heap.size), CAx18, CBx19) _ ⟨hS7.out, lt6, rg6'.out, lt7, rg7.out, r6.out, r7.out, s7.out⟩
      refine AllReadyH.cons rfl (fun K hK => ?_) AllReadyH.nil
      have s21 : Hid (Owns (wp18.alloc (.cells zRows40 115)) w.heap.size (.slice sa sn sc) sn L) := s18.out.below ((Below.refl _ wp18).alloc (Nat.le_refl _) (.cells zRows40 115))
      have v621 : Hid (VarIs (wp18.alloc (.cells zRows40 115)) (w1.heap.size) zRows40 115) := v618.out.below ((Below.refl _ wp18).alloc (Nat.le_refl _) (.cells zRows40 115))
      have rCA21 : Hid (RowsAt (wp18.alloc (.cells zRows40 115)) w.heap.size CAx18 steps) := rCA18.out.below ((Below.refl _ wp18).alloc (Nat.le_refl _) (.cells zRows40 115))
      have NE : Hid (w1.heap.size ≠ wp18.heap.size) := by have h1 := v618.out.lt; (try simp at h1); unfold Hid; omega
      have BL7 : Hid (w.heap.size + 1 < wp18.heap.size) := by have h1 := hHeld.2.2.lt; (try simp at h1); unfold Hid; omega
      have vn21 : Hid (VarIs (wp18.alloc (.cells zRows40 115)) (wp18.heap.size) zRows40 115) := VarIs.new wp18 zRows40 115 (by simp)
      go_simp
      refine hK.out _ _ (hHeld.below ((Below.refl _ wp18).alloc (Nat.le_refl _) (.cells zRows40 115))) (fun hHeld => ?_)
      clear hK K
      try simp only [Act.put, List.setIfInBounds_toArray, List.set_cons_zero, List.set_cons_succ]
      refine wpAnyH_ready (rs := [3]) (fuel := 2) (by kernel_rfl) (by simp) ?_
      refine AllReadyH.cons rfl (fun K hK => ?_) AllReadyH.nil
      go_simp
      refine (CRB.out _ hHeld).mono ?_
      rintro e wp22 ⟨CBx22, rfl, hC, hb⟩
      have s22 : Hid (Owns wp22 w.heap.size (.slice sa sn sc) sn L) := s21.out.below (hb)
      have v622 : Hid (VarIs wp22 (w1.heap.size) zRows40 115) := v621.out.below (hb)
      have rCA22 : Hid (RowsAt wp22 w.heap.size CAx18 steps) := rCA21.out.below (hb)
      have v722 : Hid (VarIs wp22 (wp18.heap.size) zRows40 115) := vn21.out.below (hb)
      have rCB22 : Hid (RowsAt wp22 w.heap.size CBx22 jteps) := hC
      have hS22 := hHeld.below hb
      clear hb hC
      go_wp2_with fail
      refine hK.out _ _ hS22 (fun hHeld => ?_)
      clear hK K hS22
      have ne67 : (w1.heap.size) ≠ (wp18.heap.size) := by have h1 := NE.out; exact fun e => h1 (by first | exact e | exact e.symm)
      have HLR : Hid (CAx18.toList.length = 40) := by have := rCA22.out.1; simpa [Hid] using this
      have HLH : Hid (CBx22.toList.length = 40) := by have := rCB22.out.1; simpa [Hid] using this
      have t6 : Hid (wp22.there (w1.heap.size) 0 CAx18.toList.toArray.size) := v622.out.there (by rw [List.size_toArray, HLR.out]; rfl)
      have g6 := Lib.hid (grown_setCells (w1.heap.size) CAx18.toList 0 wp22)
      have on6 : Hid (CAx18.toList.toArray.all (·.oneCell') = true) := all_oneCell_toArray (fun u hu => rCA22.out.one u (by simpa using hu))
      have on7 : Hid (CBx22.toList.toArray.all (·.oneCell') = true) := all_oneCell_toArray (fun u hu => rCB22.out.one u (by simpa using hu))
      have v7' := Lib.hid (v722.out.grown g6.out (fun e => ne67 (Option.some.inj e).symm))
      have t7 : Hid ((wp22.setCells (w1.heap.size) 0 CAx18.toList).there (wp18.heap.size) 0 CBx22.toList.toArray.size) := v7'.out.there (by rw [List.size_toArray, HLH.out]; rfl)
      have g7 := Lib.hid (grown_setCells (wp18.heap.size) CBx22.toList 0 (wp22.setCells (w1.heap.size) 0 CAx18.toList))
      have rg6 : Hid ((wp22.setCells (w1.heap.size) 0 CAx18.toList).rangeAt (w1.heap.size) 0 CAx18.toList) := World.rangeAt_setCells_same wp22 (w1.heap.size) 0 CAx18.toList (by simpa using t6.out)
      have rg7 : Hid (((wp22.setCells (w1.heap.size) 0 CAx18.toList).setCells (wp18.heap.size) 0 CBx22.toList).rangeAt (wp18.heap.size) 0 CBx22.toList) := World.rangeAt_setCells_same (wp22.setCells (w1.heap.size) 0 CAx18.toList) (wp18.heap.size) 0 CBx22.toList (by simpa using t7.out)
      have rg6' : Hid (((wp22.setCells (w1.heap.size) 0 CAx18.toList).setCells (wp18.heap.size) 0 CBx22.toList).rangeAt (w1.heap.size) 0 CAx18.toList) := range_grown rg6.out g7.out ne67
      have hS6 : Hid (Box2 w (wp22.setCells (w1.heap.size) 0 CAx18.toList) w.heap.size (w.heap.size + 1) 31 (iaC st it a2 n2 c2 a3 n3 c3 a4 n4 c4 a5 n5 c5) (iaC su iu b2 m2 d2 b3 m3 d3 b4 m4 d4 b5 m5 d5)) := ⟨hHeld.1.grown g6.out hHeld.1.size (fun q hq => by have h1 := Option.some.inj hq; have h2 := BL6.out; omega), hHeld.2.1.grown g6.out (fun e => by have h1 := Option.some.inj e; have h2 := BL6.out; omega), hHeld.2.2.grown g6.out (fun e => by have h1 := Option.some.inj e; have h2 := BL6.out; omega)⟩
      have hS7 : Hid (Box2 w ((wp22.setCells (w1.heap.size) 0 CAx18.toList).setCells (wp18.heap.size) 0 CBx22.toList) w.heap.size (w.heap.size + 1) 31 (iaC st it a2 n2 c2 a3 n3 c3 a4 n4 c4 a5 n5 c5) (iaC su iu b2 m2 d2 b3 m3 d3 b4 m4 d4 b5 m5 d5)) := ⟨hS6.out.1.grown g7.out hS6.out.1.size (fun q hq => by have h1 := Option.some.inj hq; have h2 := BL7.out; omega), hS6.out.2.1.grown g7.out (fun e => by have h1 := Option.some.inj e; have h2 := BL7.out; omega), hS6.out.2.2.grown g7.out (fun e => by have h1 := Option.some.inj e; have h2 := BL7.out; omega)⟩
      have r6 := Lib.hid ((rCA22.out.keepVar v622.out (by decide) g6.out).keepVar v7'.out (by decide) g7.out)
      have r7 := Lib.hid ((rCB22.out.keepVar v622.out (by decide) g6.out).keepVar v7'.out (by decide) g7.out)
      have s7 := Lib.hid ((s22.out.keepVar v622.out (by decide) g6.out).keepVar v7'.out (by decide) g7.out)
      have lt6 : (w1.heap.size) < ((wp22.setCells (w1.heap.size) 0 CAx18.toList).setCells (wp18.heap.size) 0 CBx22.toList).heap.size := Nat.lt_of_lt_of_le (Nat.lt_of_lt_of_le v622.out.lt g6.out.size) g7.out.size
      have lt7 : (wp18.heap.size) < ((wp22.setCells (w1.heap.size) 0 CAx18.toList).setCells (wp18.heap.size) 0 CBx22.toList).heap.size := Nat.lt_of_lt_of_le v7'.out.lt g7.out.size
      refine wpAnyH_ready (rs := [6]) (fuel := 1) (by kernel_rfl) (by simp) ?_
      refine AllReadyH.cons rfl (fun K hK => ?_) AllReadyH.nil
      rw [if_pos (by rfl)]
      refine wp_store_mid _ _ _ rfl (w1.heap.size) 0 CAx18.toList.toArray rfl rfl t6.out (by rw [List.size_toArray, HLR.out]; kernel_rfl) on6.out ?_
      refine hK.out _ _ hS6.out (fun hHeld => ?_)
      clear hK K
      refine wpAnyH_ready (rs := [7]) (fuel := 0) (by kernel_rfl) (by simp) ?_
      refine AllReadyH.cons rfl (fun K hK => ?_) AllReadyH.nil
      rw [if_pos (by rfl)]
      refine wp_store_mid _ _ _ rfl (wp18.heap.size) 0 CBx22.toList.toArray rfl rfl t7.out (by rw [List.size_toArray, HLH.out]; kernel_rfl) on7.out ?_
      refine hK.out _ _ hS7.out (fun hHeld => ?_)
      clear hK K
      refine wpAnyH_done (by kernel_rfl) ?_ _
      exact REST.out ((w1.heap.size), (wp18.heap.size), CAx18, CBx22) _ ⟨hS7.out, lt6, rg6'.out, lt7, rg7.out, r6.out, r7.out, s7.out⟩
    refine AllReadyH.cons rfl (fun K hK => ?_) AllReadyH.nil
    have s23 : Hid (Owns ((w1.drew.alloc (.cells zRows40 115)).alloc (.cells zRows40 115)) w.heap.size (.slice sa sn sc) sn L) := s17.out.below ((Below.refl _ (w1.drew.alloc (.cells zRows40 115))).alloc (Nat.le_refl _) (.cells zRows40 115))
    have v623 : Hid (VarIs ((w1.drew.alloc (.cells zRows40 115)).alloc (.cells zRows40 115)) (w1.heap.size) zRows40 115) := vn17.out.below ((Below.refl _ (w1.drew.alloc (.cells zRows40 115))).alloc (Nat.le_refl _) (.cells zRows40 115))
    have NE : Hid (w1.heap.size ≠ w1.heap.size + 1) := by have h1 := vn17.out.lt; (try simp at h1); unfold Hid; omega
    have BL7 : Hid (w.heap.size + 1 < w1.heap.size + 1) := by have h1 := hHeld.2.2.lt; (try simp at h1); unfold Hid; omega
    have vn23 : Hid (VarIs ((w1.drew.alloc (.cells zRows40 115)).alloc (.cells zRows40 115)) (w1.heap.size + 1) zRows40 115) := VarIs.new (w1.drew.alloc (.cells zRows40 115)) zRows40 115 (by simp)
    go_simp
    refine hK.out _ _ (hHeld.below ((Below.refl _ (w1.drew.alloc (.cells zRows40 115))).alloc (Nat.le_refl _) (.cells zRows40 115))) (fun hHeld => ?_)
    clear hK K
    try simp only [Act.put, List.setIfInBounds_toArray, List.set_cons_zero, List.set_cons_succ]
    refine wpAnyH_ready (rs := [1]) (fuel := 3) (by kernel_rfl) (by simp) ?_
    refine AllReadyH.cons rfl (fun K hK => ?_) AllReadyH.nil
    go_simp
    refine (CRA.out _ hHeld).mono ?_
    rintro e wp24 ⟨CAx24, rfl, hC, hb⟩
    have s24 : Hid (Owns wp24 w.heap.size (.slice sa sn sc) sn L) := s23.out.below (hb)
    have v624 : Hid (VarIs wp24 (w1.heap.size) zRows40 115) := v623.out.below (hb)
    have v724 : Hid (VarIs wp24 (w1.heap.size + 1) zRows40 115) := vn23.out.below (hb)
    have rCA24 : Hid (RowsAt wp24 w.heap.size CAx24 steps) := hC
    have hS24 := hHeld.below hb
    clear hb hC
    go_wp2_with fail
    refine hK.out _ _ hS24 (fun hHeld => ?_)
    clear hK K hS24
    refine wpAnyH_ready (rs := [3]) (fuel := 2) (by kernel_rfl) (by simp) ?_
    refine AllReadyH.cons rfl (fun K hK => ?_) AllReadyH.nil
    go_simp
    refine (CRB.out _ hHeld).mono ?_
    rintro e wp25 ⟨CBx25, rfl, hC, hb⟩
    have s25 : Hid (Owns wp25 w.heap.size (.slice sa sn sc) sn L) := s24.out.below (hb)
    have v625 : Hid (VarIs wp25 (w1.heap.size) zRows40 115) := v624.out.below (hb)
    have v725 : Hid (VarIs wp25 (w1.heap.size + 1) zRows40 115) := v724.out.below (hb)
    have rCA25 : Hid (RowsAt wp25 w.heap.size CAx24 steps) := rCA24.out.below (hb)
    have rCB25 : Hid (RowsAt wp25 w.heap.size CBx25 jteps) := hC
    have hS25 := hHeld.below hb
    clear hb hC
    go_wp2_with fail
    refine hK.out _ _ hS25 (fun hHeld => ?_)
    clear hK K hS25
    have ne67 : (w1.heap.size) ≠ (w1.heap.size + 1) := by have h1 := NE.out; exact fun e => h1 (by first | exact e | exact e.symm)
    have HLR : Hid (CAx24.toList.length = 40) := by have := rCA25.out.1; simpa [Hid] using this
    have HLH : Hid (CBx25.toList.length = 40) := by have := rCB25.out.1; simpa [Hid] using this
    have t6 : Hid (wp25.there (w1.heap.size) 0 CAx24.toList.toArray.size) := v625.out.there (by rw [List.size_toArray, HLR.out]; rfl)
    have g6 := Lib.hid (grown_setCells (w1.heap.size) CAx24.toList 0 wp25)
    have on6 : Hid (CAx24.toList.toArray.all (·.oneCell') = true) := all_oneCell_toArray (fun u hu => rCA25.out.one u (by simpa using hu))
    have on7 : Hid (CBx25.toList.toArray.all (·.oneCell') = true) := all_oneCell_toArray (fun u hu => rCB25.out.one u (by simpa using hu))
    have v7' := Lib.hid (v725.out.grown g6.out (fun e => ne67 (Option.some.inj e).symm))
    have t7 : Hid ((wp25.setCells (w1.heap.size) 0 CAx24.toList).there (w1.heap.size + 1) 0 CBx25.toList.toArray.size) := v7'.out.there (by rw [List.size_toArray, HLH.out]; rfl)
    have g7 := Lib.hid (grown_setCells (w1.heap.size + 1) CBx25.toList 0 (wp25.setCells (w1.heap.size) 0 CAx24.toList))
    have rg6 : Hid ((wp25.setCells (w1.heap.size) 0 CAx24.toList).rangeAt (w1.heap.size) 0 CAx24.toList) := World.rangeAt_setCells_same wp25 (w1.heap.size) 0 CAx24.toList (by simpa using t6.out)
    have rg7 : Hid (((wp25.setCells (w1.heap.size) 0 CAx24.toList).setCells (w1.heap.size + 1) 0 CBx25.toList).rangeAt (w1.heap.size + 1) 0 CBx25.toList) := World.rangeAt_setCells_same (wp25.setCells (w1.heap.size) 0 CAx24.toList) (w1.heap.size + 1) 0 CBx25.toList (by simpa using t7.out)
    have rg6' : Hid (((wp25.setCells (w1.heap.size) 0 CAx24.toList).setCells (w1.heap.size + 1) 0 CBx25.toList).rangeAt (w1.heap.size) 0 CAx24.toList) := range_grown rg6.out g7.out ne67
    have hS6 : Hid (Box2 w (wp25.setCells (w1.heap.size) 0 CAx24.toList) w.heap.size (w.heap.size + 1) 31 (iaC st it a2 n2 c2 a3 n3 c3 a4 n4 c4 a5 n5 c5) (iaC su iu b2 m2 d2 b3 m3 d3 b4 m4 d4 b5 m5 d5)) := ⟨hHeld.1.grown g6.out hHeld.1.size (fun q hq => by have h1 := Option.some.inj hq; have h2 := BL6.out; omega), hHeld.2.1.grown g6.out (fun e => by have h1 := Option.some.inj e; have h2 := BL6.out; omega), hHeld.2.2.grown g6.out (fun e => by have h1 := Option.some.inj e; have h2 := BL6.out; omega)⟩
    have hS7 : Hid (Box2 w ((wp25.setCells (w1.heap.size) 0 CAx24.toList).setCells (w1.heap.size + 1) 0 CBx25.toList) w.heap.size (w.heap.size + 1) 31 (iaC st it a2 n2 c2 a3 n3 c3 a4 n4 c4 a5 n5 c5) (iaC su iu b2 m2 d2 b3 m3 d3 b4 m4 d4 b5 m5 d5)) := ⟨hS6.out.1.grown g7.out hS6.out.1.size (fun q hq => by have h1 := Option.some.inj hq; have h2 := BL7.out; omega), hS6.out.2.1.grown g7.out (fun e => by have h1 := Option.some.inj e; have h2 := BL7.out; omega), hS6.out.2.2.grown g7.out (fun e => by have h1 := Option.some.inj e; have h2 := BL7.out; omega)⟩
    have r6 := Lib.hid ((rCA25.out.keepVar v625.out (by decide) g6.out).keepVar v7'.out (by decide) g7.out)
    have r7 := Lib.hid ((rCB25.out.keepVar v625.out (by decide) g6.out).keepVar v7'.out (by decide) g7.out)
    have s7 := Lib.hid ((s25.out.keepVar v625.out (by decide) g6.out).keepVar v7'.out (by decide) g7.out)
    have lt6 : (w1.heap.size) < ((wp25.setCells (w1.heap.size) 0 CAx24.toList).setCells (w1.heap.size + 1) 0 CBx25.toList).heap.size := Nat.lt_of_lt_of_le (Nat.lt_of_lt_of_le v625.out.lt g6.out.size) g7.out.size
    have lt7 : (w1.heap.size + 1) < ((wp25.setCells (w1.heap.size) 0 CAx24.toList).setCells (w1.heap.size + 1) 0 CBx25.toList).heap.size := Nat.lt_of_lt_of_le v7'.out.lt g7.out.size
    refine wpAnyH_ready (rs := [6]) (fuel := 1) (by kernel_rfl) (by simp) ?_
    refine AllReadyH.cons rfl (fun K hK => ?_) AllReadyH.nil
    rw [if_pos (by rfl)]
    refine wp_store_mid _ _ _ rfl (w1.heap.size) 0 CAx24.toList.toArray rfl rfl t6.out (by rw [List.size_toArray, HLR.out]; kernel_rfl) on6.out ?_
    refine hK.out _ _ hS6.out (fun hHeld => ?_)
    clear hK K
    refine wpAnyH_ready (rs := [7]) (fuel := 0) (by kernel_rfl) (by simp) ?_
    refine AllReadyH.cons rfl (fun K hK => ?_) AllReadyH.nil
    rw [if_pos (by rfl)]
    refine wp_store_mid _ _ _ rfl (w1.heap.size + 1) 0 CBx25.toList.toArray rfl rfl t7.out (by rw [List.size_toArray, HLH.out]; kernel_rfl) on7.out ?_
    refine hK.out _ _ hS7.out (fun hHeld => ?_)
    clear hK K
    refine wpAnyH_done (by kernel_rfl) ?_ _
    exact REST.out ((w1.heap.size), (w1.heap.size + 1), CAx24, CBx25) _ ⟨hS7.out, lt6, rg6'.out, lt7, rg7.out, r6.out, r7.out, s7.out⟩
  refine AllReadyH.cons rfl (fun K hK => ?_) AllReadyH.nil
  have s26 : Hid (Owns (w1.drew.alloc (.cells zRows40 115)) w.heap.size (.slice sa sn sc) sn L) := HSD.out.below ((Below.refl _ w1.drew).alloc (Nat.le_refl _) (.cells zRows40 115))
  have BL7 : Hid (w.heap.size + 1 < w1.heap.size) := by have h1 := hHeld.2.2.lt; (try simp at h1); unfold Hid; omega
  have vn26 : Hid (VarIs (w1.drew.alloc (.cells zRows40 115)) (w1.heap.size) zRows40 115) := VarIs.new w1.drew zRows40 115 (by simp)
  go_simp
  refine hK.out _ _ (hHeld.below ((Below.refl _ w1.drew).alloc (Nat.le_refl _) (.cells zRows40 115))) (fun hHeld => ?_)
  clear hK K
  try simp only [Act.put, List.setIfInBounds_toArray, List.set_cons_zero, List.set_cons_succ]
  refine wpAnyH_ready (rs := [1, 4]) (fuel := 4) (by kernel_rfl) (by simp) ?_
  refine AllReadyH.cons rfl (fun K hK => ?_) ?_
  · go_simp
    refine (CRA.out _ hHeld).mono ?_
    rintro e wp27 ⟨CAx27, rfl, hC, hb⟩
    have s27 : Hid (Owns wp27 w.heap.size (.slice sa sn sc) sn L) := s26.out.below (hb)
    have v727 : Hid (VarIs wp27 (w1.heap.size) zRows40 115) := vn26.out.below (hb)
    have rCA27 : Hid (RowsAt wp27 w.heap.size CAx27 steps) := hC
    have hS27 := hHeld.below hb
    clear hb hC
    go_wp2_with fail
    refine hK.out _ _ hS27 (fun hHeld => ?_)
    clear hK K hS27
    refine wpAnyH_ready (rs := [3, 4]) (fuel := 3) (by kernel_rfl) (by simp) ?_
    refine AllReadyH.cons rfl (fun K hK => ?_) ?_
    · go_simp
      refine (CRB.out _ hHeld).mono ?_
      rintro e wp28 ⟨CBx28, rfl, hC, hb⟩
      have s28 : Hid (Owns wp28 w.heap.size (.slice sa sn sc) sn L) := s27.out.below (hb)
      have v728 : Hid (VarIs wp28 (w1.heap.size) zRows40 115) := v727.out.below (hb)
      have rCA28 : Hid (RowsAt wp28 w.heap.size CAx27 steps) := rCA27.out.below (hb)
      have rCB28 : Hid (RowsAt wp28 w.heap.size CBx28 jteps) := hC
      have hS28 := hHeld.below hb
      clear hb hC
      go_wp2_with fail
      refine hK.out _ _ hS28 (fun hHeld => ?_)
      clear hK K hS28
      refine wpAnyH_ready (rs := [4]) (fuel := 2) (by kernel_rfl) (by simp) ?_
      refine AllReadyH.cons rfl (fun K hK => ?_) AllReadyH.nil
      have s29 : Hid (Owns (wp28.alloc (.cells zRows40 115)) w.heap.size (.slice sa sn sc) sn L) := s28.out.below ((Below.refl _ wp28).alloc (Nat.le_refl _) (.cells zRows40 115))
      have v729 : Hid (VarIs (wp28.alloc (.cells zRows40 115)) (w1.heap.size) zRows40 115) := v728.out.below ((Below.refl _ wp28).alloc (Nat.le_refl _) (.cells zRows40 115))
      have rCA29 : Hid (RowsAt (wp28.alloc (.cells zRows40 115)) w.heap.size CAx27 steps) := rCA28.out.below ((Below.refl _ wp28).alloc (Nat.le_refl _) (.cells zRows40 115))
      have rCB29 : Hid (RowsAt (wp28.alloc (.cells zRows40 115)) w.heap.size CBx28 jteps) := rCB28.out.below ((Below.refl _ wp28).alloc (Nat.le_refl _) (.cells zRows40 115))
      have NE : Hid (w1.heap.size ≠ wp28.heap.size) := by have h1 := v728.out.lt; (try simp at h1); unfold Hid; omega
      have BL6 : Hid (w.heap.size + 1 < wp28.heap.size) := by have h1 := hHeld.2.2.lt; (try simp at h1); unfold Hid; omega
      have vn29 : Hid (VarIs (wp28.alloc (.cells zRows40 115)) (wp28.heap.size) zRows40 115) := VarIs.new wp28 zRows40 115 (by simp)
      go_simp
      refine hK.out _ _ (hHeld.below ((Below.refl _ wp28).alloc (Nat.le_refl _) (.cells zRows40 115))) (fun hHeld => ?_)
      clear hK K
      try simp only [Act.put, List.setIfInBounds_toArray, List.set_cons_zero, List.set_cons_succ]
      have ne67 : (wp28.heap.size) ≠ (w1.heap.size) := by have h1 := NE.out; exact fun e => h1 (by first | exact e | exact e.symm)
      have HLR : Hid (CAx27.toList.length = 40) := by have := rCA29.out.1; simpa [Hid] using this
      have HLH : Hid (CBx28.toList.length = 40) := by have := rCB29.out.1; simpa [Hid] using this
      have t6 : Hid ((wp28.alloc (.cells zRows40 115)).there (wp28.heap.size) 0 CAx27.toList.toArray.size) := vn29.out.there (by rw [List.size_toArray, HLR.out]; rfl)
      have g6 := Lib.hid (grown_setCells (wp28.heap.size) CAx27.toList 0 (wp28.alloc (.cells zRows40 115)))
      have on6 : Hid (CAx27.toList.toArray.all (·.oneCell') = true) := all_oneCell_toArray (fun u hu => rCA29.out.one u (by simpa using hu))
      have on7 : Hid (CBx28.toList.toArray.all (·.oneCell') = true) := all_oneCell_toArray (fun u hu => rCB29.out.one u (by simpa using hu))
      have v7' := Lib.hid (v729.out.grown g6.out (fun e => ne67 (Option.some.inj e).symm))
      have t7 : Hid (((wp28.alloc (.cells zRows40 115)).setCells (wp28.heap.size) 0 CAx27.toList).there (w1.heap.size) 0 CBx28.toList.toArray.size) := v7'.out.there (by rw [List.size_toArray, HLH.out]; rfl)
      have g7 := Lib.hid (grown_setCells (w1.heap.size) CBx28.toList 0 ((wp28.alloc (.cells zRows40 115)).setCells (wp28.heap.size) 0 CAx27.toList))
      have rg6 : Hid (((wp28.alloc (.cells zRows40 115)).setCells (wp28.heap.size) 0 CAx27.toList).rangeAt (wp28.heap.size) 0 CAx27.toList) := World.rangeAt_setCells_same (wp28.alloc (.cells zRows40 115)) (wp28.heap.size) 0 CAx27.toList (by simpa using t6.out)
      have rg7 : Hid ((((wp28.alloc (.cells zRows40 115)).setCells (wp28.heap.size) 0 CAx27.toList).setCells (w1.heap.size) 0 CBx28.toList).rangeAt (w1.heap.size) 0 CBx28.toList) := World.rangeAt_setCells_same ((wp28.alloc (.cells zRows40 115)).setCells (wp28.heap.size) 0 CAx27.toList) (w1.heap.size) 0 CBx28.toList (by simpa using t7.out)
      have rg6' : Hid ((((wp28.alloc (.cells zRows40 115)).setCells (wp28.heap.size) 0 CAx27.toList).setCells (w1.heap.size) 0 CBx28.toList).rangeAt (wp28.heap.size) 0 CAx27.toList) := range_grown rg6.out g7.out ne67
      have hS6 : Hid (Box2 w ((wp28.alloc (.cells zRows40 115)).setCells (wp28.heap.size) 0 CAx27.toList) w.heap.size (w.heap.size + 1) 31 (iaC st it a2 n2 c2 a3 n3 c3 a4 n4 c4 a5 n5 c5) (iaC su iu b2 m2 d2 b3 m3 d3 b4 m4 d4 b5 m5 d5)) := ⟨hHeld.1.grown g6.out hHeld.1.size (fun q hq => by have h1 := Option.some.inj hq; have h2 := BL6.out; omega), hHeld.2.1.grown g6.out (fun e => by have h1 := Option.some.inj e; have h2 := BL6.out; omega), hHeld.2.2.grown g6.out (fun e => by have h1 := Option.some.inj e; have h2 := BL6.out; omega)⟩
      have hS7 : Hid (Box2 w (((wp28.alloc (.cells zRows40 115)).setCells (wp28.heap.size) 0 CAx27.toList).setCells (w1.heap.size) 0 CBx28.toList) w.heap.size (w.heap.size + 1) 31 (iaC st it a2 n2 c2 a3 n3 c3 a4 n4 c4 a5 n5 c5) (iaC su iu b2 m2 d2 b3 m3 d3 b4 m4 d4 b5 m5 d5)) := ⟨hS6.out.1.grown g7.out hS6.out.1.size (fun q hq => by have h1 := Option.some.inj hq; have h2 := BL7.out; omega), hS6.out.2.1.grown g7.out (fun e => by have h1 := Option.some.inj e; have h2 := BL7.out; omega), hS6.out.2.2.grown g7.out (fun e => by have h1 := Option.some.inj e; have h2 := BL7.out; omega)⟩
      have r6 := Lib.hid ((rCA29.out.keepVar vn29.out (by decide) g6.out).keepVar v7'.out (by decide) g7.out)
      have r7 := Lib.hid ((rCB29.out.keepVar vn29.out (by decide) g6.out).keepVar v7'.out (by decide) g7.out)
      have s7 := Lib.hid ((s29.out.keepVar vn29.out (by decide) g6.out).keepVar v7'.out (by decide) g7.out)
      have lt6 : (wp28.heap.size) < (((wp28.alloc (.cells zRows40 115)).setCells (wp28.heap.size) 0 CAx27.toList).setCells (w1.heap.size) 0 CBx28.toList).heap.size := Nat.lt_of_lt_of_le (Nat.lt_of_lt_of_le vn29.out.lt g6.out.size) g7.out.size
      have lt7 : (w1.heap.size) < (((wp28.alloc (.cells zRows40 115)).setCells (wp28.heap.size) 0 CAx27.toList).setCells (w1.heap.size) 0 CBx28.toList).heap.size := Nat.lt_of_lt_of_le v7'.out.lt g7.out.size
      refine wpAnyH_ready (rs := [6]) (fuel := 1) (by kernel_rfl) (by simp) ?_
      refine AllReadyH.cons rfl (fun K hK => ?_) AllReadyH.nil
      rw [if_pos (by rfl)]
      refine wp_store_mid _ _ _ rfl (wp28.heap.size) 0 CAx27.toList.toArray rfl rfl t6.out (by rw [List.size_toArray, HLR.out]; kernel_rfl) on6.out ?_
      refine hK.out _ _ hS6.out (fun hHeld => ?_)
      clear hK K
      refine wpAnyH_ready (rs := [7]) (fuel := 0) (by kernel_rfl) (by simp) ?_
      refine AllReadyH.cons rfl (fun K hK => ?_) AllReadyH.nil
      rw [if_pos (by rfl)]
      refine wp_store_mid _ _ _ rfl (w1.heap.size) 0 CBx28.toList.toArray rfl rfl t7.out (by rw [List.size_toArray, HLH.out]; kernel_rfl) on7.out ?_
      refine hK.out _ _ hS7.out (fun hHeld => ?_)
      clear hK K
      refine wpAnyH_done (by kernel_rfl) ?_ _
      exact REST.out ((wp28.heap.size), (w1.heap.size), CAx27, CBx28) _ ⟨hS7.out, lt6, rg6'.out, lt7, rg7.out, r6.out, r7.out, s7.out⟩
    refine AllReadyH.cons rfl (fun K hK => ?_) AllReadyH.nil
    have s30 : Hid (Owns (wp27.alloc (.cells zRows40 115)) w.heap.size (.slice sa sn sc) sn L) := s27.out.below ((Below.refl _ wp27).alloc (Nat.le_refl _) (.cells zRows40 115))
    have v730 : Hid (VarIs (wp27.alloc (.cells zRows40 115)) (w1.heap.size) zRows40 115) := v727.out.below ((Below.refl _ wp27).alloc (Nat.le_refl _) (.cells zRows40 115))
    have rCA30 : Hid (RowsAt (wp27.alloc (.cells zRows40 115)) w.heap.size CAx27 steps) := rCA27.out.below ((Below.refl _ wp27).alloc (Nat.le_refl _) (.cells zRows40 115))
    have NE : Hid (w1.heap.size ≠ wp27.heap.size) := by have h1 := v727.out.lt; (try simp at h1); unfold Hid; omega
    have BL6 : Hid (w.heap.size + 1 < wp27.heap.size) := by have h1 := hHeld.2.2.lt; (try simp at h1); unfold Hid; omega
    have vn30 : Hid (VarIs (wp27.alloc (.cells zRows40 115)) (wp27.heap.size) zRows40 115) := VarIs.new wp27 zRows40 115 (by simp)
    go_simp
    refine hK.out _ _ (hHeld.below ((Below.refl _ wp27).alloc (Nat.le_refl _) (.cells zRows40 115))) (fun hHeld => ?_)
    clear hK K
    try simp only [Act.put, List.setIfInBounds_toArray, List.set_cons_zero, List.set_cons_succ]
    refine wpAnyH_ready (rs := [3]) (fuel := 2) (by kernel_rfl) (by simp) ?_
    refine AllReadyH.cons rfl (fun K hK => ?_) AllReadyH.nil
    go_simp
    refine (CRB.out _ hHeld).mono ?_
    rintro e wp31 ⟨CBx31, rfl, hC, hb⟩
    have s31 : Hid (Owns wp31 w.heap.size (.slice sa sn sc) sn L) := s30.out.below (hb)
    have v731 : Hid (VarIs wp31 (w1.heap.size) zRows40 115) := v730.out.below (hb)
    have rCA31 : Hid (RowsAt wp31 w.heap.size CAx27 steps) := rCA30.out.below (hb)
    have v631 : Hid (VarIs wp31 (wp27.heap.size) zRows40 115) := vn30.out.below (hb)
    have rCB31 : Hid (RowsAt wp31 w.heap.size CBx31 jteps) := hC
    have hS31 := hHeld.below hb
    clear hb hC
    go_wp2_with fail
    refine hK.out _ _ hS31 (fun hHeld => ?_)
    clear hK K hS31
    have ne67 : (wp27.heap.size) ≠ (w1.heap.size) := by have h1 := NE.out; exact fun e => h1 (by first | exact e | exact e.symm)
    have HLR : Hid (CAx27.toList.length = 40) := by have := rCA31.out.1; simpa [Hid] using this
    have HLH : Hid (CBx31.toList.length = 40) := by have := rCB31.out.1; simpa [Hid] using this
    have t6 : Hid (wp31.there (wp27.heap.size) 0 CAx27.toList.toArray.size) := v631.out.there (by rw [List.size_toArray, HLR.out]; rfl)
    have g6 := Lib.hid (grown_setCells (wp27.heap.size) CAx27.toList 0 wp31)
    have on6 : Hid (CAx27.toList.toArray.all (·.oneCell') = true) := all_oneCell_toArray (fun u hu => rCA31.out.one u (by simpa using hu))
    have on7 : Hid (CBx31.toList.toArray.all (·.oneCell') = true) := all_oneCell_toArray (fun u hu => rCB31.out.one u (by simpa using hu))
    have v7' := Lib.hid (v731.out.grown g6.out (fun e => ne67 (Option.some.inj e).symm))
    have t7 : Hid ((wp31.setCells (wp27.heap.size) 0 CAx27.toList).there (w1.heap.size) 0 CBx31.toList.toArray.size) := v7'.out.there (by rw [List.size_toArray, HLH.out]; rfl)
    have g7 := Lib.hid (grown_setCells (w1.heap.size) CBx31.toList 0 (wp31.setCells (wp27.heap.size) 0 CAx27.toList))
    have rg6 : Hid ((wp31.setCells (wp27.heap.size) 0 CAx27.toList).rangeAt (wp27.heap.size) 0 CAx27.toList) := World.rangeAt_setCells_same wp31 (wp27.heap.size) 0 CAx27.toList (by simpa using t6.out)
    have rg7 : Hid (((wp31.setCells (wp27.heap.size) 0 CAx27.toList).setCells (w1.heap.size) 0 CBx31.toList).rangeAt (w1.heap.size) 0 CBx31.toList) := World.rangeAt_setCells_same (wp31.setCells (wp27.heap.size) 0 CAx27.toList) (w1.heap.size) 0 CBx31.toList (by simpa using t7.out)
    have rg6' : Hid (((wp31.setCells (wp27.heap.size) 0 CAx27.toList).setCells (w1.heap.size) 0 CBx31.toList).rangeAt (wp27.heap.size) 0 CAx27.toList) := range_grown rg6.out g7.out ne67
    have hS6 : Hid (Box2 w (wp31.setCells (wp27.heap.size) 0 CAx27.toList) w.heap.size (w.heap.size + 1) 31 (iaC st it a2 n2 c2 a3 n3 c3 a4 n4 c4 a5 n5 c5) (iaC su iu b2 m2 d2 b3 m3 d3 b4 m4 d4 b5 m5 d5)) := ⟨hHeld.1.grown g6.out hHeld.1.size (fun q hq => by have h1 := Option.some.inj hq; have h2 := BL6.out; omega), hHeld.2.1.grown g6.out (fun e => by have h1 := Option.some.inj e; have h2 := BL6.out; omega), hHeld.2.2.grown g6.out (fun e => by have h1 := Option.some.inj e; have h2 := BL6.out; omega)⟩
    have hS7 : Hid (Box2 w ((wp31.setCells (wp27.heap.size) 0 CAx27.toList).setCells (w1.heap.size) 0 CBx31.toList) w.heap.size (w.heap.size + 1) 31 (iaC st it a2 n2 c2 a3 n3 c3 a4 n4 c4 a5 n5 c5) (iaC su iu b2 m2 d2 b3 m3 d3 b4 m4 d4 b5 m5 d5)) := ⟨hS6.out.1.grown g7.out hS6.out.1.size (fun q hq => by have h1 := Option.some.inj hq; have h2 := BL7.out; omega), hS6.out.2.1.grown g7.out (fun e => by have h1 := Option.some.inj e; have h2 := BL7.out; omega), hS6.out.2.2.grown g7.out (fun e => by have h1 := Option.some.inj e; have h2 := BL7.out; omega)⟩
    have r6 := Lib.hid ((rCA31.out.keepVar v631.out (by decide) g6.out).keepVar v7'.out (by decide) g7.out)
    have r7 := Lib.hid ((rCB31.out.keepVar v631.out (by decide) g6.out).keepVar v7'.out (by decide) g7.out)
    have s7 := Lib.hid ((s31.out.keepVar v631.out (by decide) g6.out).keepVar v7'.out (by decide) g7.out)
    have lt6 : (wp27.heap.size) < ((wp31.setCells (wp27.heap.size) 0 CAx27.toList).setCells (w1.heap.size) 0 CBx31.toList).heap.size := Nat.lt_of_lt_of_le (Nat.lt_of_lt_of_le v631.out.lt g6.out.size) g7.out.size
    have lt7 : (w1.heap.size) < ((wp31.setCells (wp27.heap.size) 0 CAx27.toList).setCells (w1.heap.size) 0 CBx31.toList).heap.size := Nat.lt_of_lt_of_le v7'.out.lt g7.out.size
    refine wpAnyH_ready (rs := [6]) (fuel := 1) (by kernel_rfl) (by simp) ?_
    refine AllReadyH.cons rfl (fun K hK => ?_) AllReadyH.nil
    rw [if_pos (by rfl)]
    refine wp_store_mid _ _ _ rfl (wp27.heap.size) 0 CAx27.toList.toArray rfl rfl t6.out (by rw [List.size_toArray, HLR.out]; kernel_rfl) on6.out ?_
    refine hK.out _ _ hS6.out (fun hHeld => ?_)
    clear hK K
    refine wpAnyH_ready (rs := [7]) (fuel := 0) (by kernel_rfl) (by simp) ?_
    refine AllReadyH.cons rfl (fun K hK => ?_) AllReadyH.nil
    rw [if_pos (by rfl)]
    refine wp_store_mid _ _ _ rfl (w1.heap.size) 0 CBx31.toList.toArray rfl rfl t7.out (by rw [List.size_toArray, HLH.out]; kernel_rfl) on7.out ?_
    refine hK.out _ _ hS7.out (fun hHeld => ?_)
    clear hK K
    refine wpAnyH_done (by kernel_rfl) ?_ _
    exact REST.out ((wp27.heap.size), (w1.heap.size), CAx27, CBx31) _ ⟨hS7.out, lt6, rg6'.out, lt7, rg7.out, r6.out, r7.out, s7.out⟩
  refine AllReadyH.cons rfl (fun K hK => ?_) AllReadyH.nil
  have s32 : Hid (Owns ((w1.drew.alloc (.cells zRows40 115)).alloc (.cells zRows40 115)) w.heap.size (.slice sa sn sc) sn L) := s26.out.below ((Below.refl _ (w1.drew.alloc (.cells zRows40 115))).alloc (Nat.le_refl _) (.cells zRows40 115))
  have v732 : Hid (VarIs ((w1.drew.alloc (.cells zRows40 115)).alloc (.cells zRows40 115)) (w1.heap.size) zRows40 115) := vn26.out.below ((Below.refl _ (w1.drew.alloc (.cells zRows40 115))).alloc (Nat.le_refl _) (.cells zRows40 115))
  have NE : Hid (w1.heap.size ≠ w1.heap.size + 1) := by have h1 := vn26.out.lt; (try simp at h1); unfold Hid; omega
  have BL6 : Hid (w.heap.size + 1 < w1.heap.size + 1) := by have h1 := hHeld.2.2.lt; (try simp at h1); unfold Hid; omega
  have vn32 : Hid (VarIs ((w1.drew.alloc (.cells zRows40 115)).alloc (.cells zRows40 115)) (w1.heap.size + 1) zRows40 115) := VarIs.new (w1.drew.alloc (.cells zRows40 115)) zRows40 115 (by simp)
  go_simp
  refine hK.out _ _ (hHeld.below ((Below.refl _ (w1.drew.alloc (.cells zRows40 115))).alloc (Nat.le_refl _) (.cells zRows40 115))) (fun hHeld => ?_)
  clear hK K
  try simp only [Act.put, List.setIfInBounds_toArray, List.set_cons_zero, List.set_cons_succ]
  refine wpAnyH_ready (rs := [1]) (fuel := 3) (by kernel_rfl) (by simp) ?_
  refine AllReadyH.cons rfl (fun K hK => ?_) AllReadyH.nil
  go_simp
  refine (CRA.out _ hHeld).mono ?_
  rintro e wp33 ⟨CAx33, rfl, hC, hb⟩
  have s33 : Hid (Owns wp33 w.heap.size (.slice sa sn sc) sn L) := s32.out.below (hb)
  have v733 : Hid (VarIs wp33 (w1.heap.size) zRows40 115) := v732.out.below (hb)
  have v633 : Hid (VarIs wp33 (w1.heap.size + 1) zRows40 115) := vn32.out.below (hb)
  have rCA33 : Hid (RowsAt wp33 w.heap.size CAx33 steps) := hC
  have hS33 := hHeld.below hb
  clear hb hC
  go_wp2_with fail
  refine hK.out _ _ hS33 (fun hHeld => ?_)
  clear hK K hS33
  refine wpAnyH_ready (rs := [3]) (fuel := 2) (by kernel_rfl) (by simp) ?_
  refine AllReadyH.cons rfl (fun K hK => ?_) AllReadyH.nil
  go_simp
  refine (CRB.out _ hHeld).mono ?_
  rintro e wp34 ⟨CBx34, rfl, hC, hb⟩
  have s34 : Hid (Owns wp34 w.heap.size (.slice sa sn sc) sn L) := s33.out.below (hb)
  have v734 : Hid (VarIs wp34 (w1.heap.size) zRows40 115) := v733.out.below (hb)
  have v634 : Hid (VarIs wp34 (w1.heap.size + 1) zRows40 115) := v633.out.below (hb)
  have rCA34 : Hid (RowsAt wp34 w.heap.size CAx33 steps) := rCA33.out.below (hb)
  have rCB34 : Hid (RowsAt wp34 w.heap.size CBx34 jteps) := hC
  have hS34 := hHeld.below hb
  clear hb hC
  go_wp2_with fail
  refine hK.out _ _ hS34 (fun hHeld => ?_)
  clear hK K hS34
  have ne67 : (w1.heap.size + 1) ≠ (w1.heap.size) := by have h1 := NE.out; exact fun e => h1 (by first | exact e | exact e.symm)
  have HLR : Hid (CAx33.toList.length = 40) := by have := rCA34.out.1; simpa [Hid] using this
  have HLH : Hid (CBx34.toList.length = 40) := by have := rCB34.out.1; simpa [Hid] using this
  have t6 : Hid (wp34.there (w1.heap.size + 1) 0 CAx33.toList.toArray.size) := v634.out.there (by rw [List.size_toArray, HLR.out]; rfl)
  have g6 := Lib.hid (grown_setCells (w1.heap.size + 1) CAx33.toList 0 wp34)
  have on6 : Hid (CAx33.toList.toArray.all (·.oneCell') = true) := all_oneCell_toArray (fun u hu => rCA34.out.one u (by simpa using hu))
  have on7 : Hid (CBx34.toList.toArray.all (·.oneCell') = true) := all_oneCell_toArray (fun u hu => rCB34.out.one u (by simpa using hu))
  have v7' := Lib.hid (v734.out.grown g6.out (fun e => ne67 (Option.some.inj e).symm))
  have t7 : Hid ((wp34.setCells (w1.heap.size + 1) 0 CAx33.toList).there (w1.heap.size) 0 CBx34.toList.toArray.size) := v7'.out.there (by rw [List.size_toArray, HLH.out]; rfl)
  have g7 := Lib.hid (grown_setCells (w1.heap.size) CBx34.toList 0 (wp34.setCells (w1.heap.size + 1) 0 CAx33.toList))
  have rg6 : Hid ((wp34.setCells (w1.heap.size + 1) 0 CAx33.toList).rangeAt (w1.heap.size + 1) 0 CAx33.toList) := World.rangeAt_setCells_same wp34 (w1.heap.size + 1) 0 CAx33.toList (by simpa using t6.out)
  have rg7 : Hid (((wp34.setCells (w1.heap.size + 1) 0 CAx33.toList).setCells (w1.heap.size) 0 CBx34.toList).rangeAt (w1.heap.size) 0 CBx34.toList) := World.rangeAt_setCells_same (wp34.setCells (w1.heap.size + 1) 0 CAx33.toList) (w1.heap.size) 0 CBx34.toList (by simpa using t7.out)
  have rg6' : Hid (((wp34.setCells (w1.heap.size + 1) 0 CAx33.toList).setCells (w1.heap.size) 0 CBx34.toList).rangeAt (w1.heap.size + 1) 0 CAx33.toList) := range_grown rg6.out g7.out ne67
  have hS6 : Hid (Box2 w (wp34.setCells (w1.heap.size + 1) 0 CAx33.toList) w.heap.size (w.heap.size + 1) 31 (iaC st it a2 n2 c2 a3 n3 c3 a4 n4 c4 a5 n5 c5) (iaC su iu b2 m2 d2 b3 m3 d3 b4 m4 d4 b5 m5 d5)) := ⟨hHeld.1.grown g6.out hHeld.1.size (fun q hq => by have h1 := Option.some.inj hq; have h2 := BL6.out; omega), hHeld.2.1.grown g6.out (fun e => by have h1 := Option.some.inj e; have h2 := BL6.out; omega), hHeld.2.2.grown g6.out (fun e => by have h1 := Option.some.inj e; have h2 := BL6.out; omega)⟩
  have hS7 : Hid (Box2 w ((wp34.setCells (w1.heap.size + 1) 0 CAx33.toList).setCells (w1.heap.size) 0 CBx34.toList) w.heap.size (w.heap.size + 1) 31 (iaC st it a2 n2 c2 a3 n3 c3 a4 n4 c4 a5 n5 c5) (iaC su iu b2 m2 d2 b3 m3 d3 b4 m4 d4 b5 m5 d5)) := ⟨hS6.out.1.grown g7.out hS6.out.1.size (fun q hq => by have h1 := Option.some.inj hq; have h2 := BL7.out; omega), hS6.out.2.1.grown g7.out (fun e => by have h1 := Option.some.inj e; have h2 := BL7.out; omega), hS6.out.2.2.grown g7.out (fun e => by have h1 := Option.some.inj e; have h2 := BL7.out; omega)⟩
  have r6 := Lib.hid ((rCA34.out.keepVar v634.out (by decide) g6.out).keepVar v7'.out (by decide) g7.out)
  have r7 := Lib.hid ((rCB34.out.keepVar v634.out (by decide) g6.out).keepVar v7'.out (by decide) g7.out)
  have s7 := Lib.hid ((s34.out.keepVar v634.out (by decide) g6.out).keepVar v7'.out (by decide) g7.out)
  have lt6 : (w1.heap.size + 1) < ((wp34.setCells (w1.heap.size + 1) 0 CAx33.toList).setCells (w1.heap.size) 0 CBx34.toList).heap.size := Nat.lt_of_lt_of_le (Nat.lt_of_lt_of_le v634.out.lt g6.out.size) g7.out.size
  have lt7 : (w1.heap.size) < ((wp34.setCells (w1.heap.size + 1) 0 CAx33.toList).setCells (w1.heap.size) 0 CBx34.toList).heap.size := Nat.lt_of_lt_of_le v7'.out.lt g7.out.size
  refine wpAnyH_ready (rs := [6]) (fuel := 1) (by kernel_rfl) (by simp) ?_
  refine AllReadyH.cons rfl (fun K hK => ?_) AllReadyH.nil
  rw [if_pos (by rfl)]
  refine wp_store_mid _ _ _ rfl (w1.heap.size + 1) 0 CAx33.toList.toArray rfl rfl t6.out (by rw [List.size_toArray, HLR.out]; kernel_rfl) on6.out ?_
  refine hK.out _ _ hS6.out (fun hHeld => ?_)
  clear hK K
  refine wpAnyH_ready (rs := [7]) (fuel := 0) (by kernel_rfl) (by simp) ?_
  refine AllReadyH.cons rfl (fun K hK => ?_) AllReadyH.nil
  rw [if_pos (by rfl)]
  refine wp_store_mid _ _ _ rfl (w1.heap.size) 0 CBx34.toList.toArray rfl rfl t7.out (by rw [List.size_toArray, HLH.out]; kernel_rfl) on7.out ?_
  refine hK.out _ _ hS7.out (fun hHeld => ?_)
  clear hK K
  refine wpAnyH_done (by kernel_rfl) ?_ _
  exact REST.out ((w1.heap.size + 1), (w1.heap.size), CAx33, CBx34) _ ⟨hS7.out, lt6, rg6'.out, lt7, rg7.out, r6.out, r7.out, s7.out⟩

end Go.Proofs.YtdbgjgeglgipiaaGreat
