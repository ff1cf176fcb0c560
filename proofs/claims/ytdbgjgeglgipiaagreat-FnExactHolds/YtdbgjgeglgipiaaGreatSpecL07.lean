/-
  The contract of the model's l07Holds. Conditions: both automata are right and their lists have at most 2^20 elements; at most 2^20 pairs.
-/
import Derived.Test.YtdbgjgeglgipiaaGreatHoldMath
import Derived.Test.YtdbgjgeglgipiaaGreatLenHid
import Derived.Test.YtdbgjgeglgipiaaGreatSpecHid
import Derived.Test.YtdbgjgeglgipiaaGreatFast
namespace Go.Proofs.YtdbgjgeglgipiaaGreat
open Go.RowKit

theorem Row.at {w : World} {b off n : Nat} {xs : List Int} (h : Row w (some ⟨b, off, none⟩) n xs) {j : Nat} (hj : j < n) {x : Int} (hx : xs[j]? = some x) : w.cell? ⟨b, off + j, none⟩ = some (.int .i64 x) := by
  obtain ⟨b', off', e, _, hc⟩ := h.2 (by omega)
  simp only [Option.some.injEq, Addr.mk.injEq, and_true] at e
  obtain ⟨rfl, rfl⟩ := e
  rw [hc j hj, List.getD_eq_getElem?_getD, hx]
  rfl

/-- Both boxes, the actions and the pairs stand, and all that lay there. -/
def L07S (w W : World) (A B : Array Value) (aj : Option Addr) (mj : Nat) (J : List Int) (ra : Option Addr) (rn : Nat) (L : List (Int × Int)) : Prop :=
  Box2 w W w.heap.size (w.heap.size + 1) 31 A B ∧ Row W aj mj J ∧ RowQ W ra rn L
theorem L07S.below {w W W' : World} {A B : Array Value} {aj : Option Addr} {mj : Nat} {J : List Int} {ra : Option Addr} {rn : Nat} {L : List (Int × Int)} (h : L07S w W A B aj mj J ra rn L) (hb : Below W.heap.size W W') : L07S w W' A B aj mj J ra rn L := ⟨h.1.below hb, h.2.1.below hb, h.2.2.below hb⟩
theorem L07S.drew {w W : World} {A B : Array Value} {aj : Option Addr} {mj : Nat} {J : List Int} {ra : Option Addr} {rn : Nat} {L : List (Int × Int)} (h : L07S w W A B aj mj J ra rn L) : L07S w W.drew A B aj mj J ra rn L := h.below (Below.refl _ _).drew

/-- Besides, where both come to with one action. -/
def L07T (w W : World) (A B : Array Value) (aj : Option Addr) (mj : Nat) (J : List Int) (ra : Option Addr) (rn : Nat) (L : List (Int × Int)) (aa : Option Addr) (na : Nat) (LA : List Int) (ab : Option Addr) (nb : Nat) (LB : List Int) : Prop :=
  L07S w W A B aj mj J ra rn L ∧ Row W aa na LA ∧ Row W ab nb LB
theorem L07T.below {w W W' : World} {A B : Array Value} {aj : Option Addr} {mj : Nat} {J : List Int} {ra : Option Addr} {rn : Nat} {L : List (Int × Int)} {aa : Option Addr} {na : Nat} {LA : List Int} {ab : Option Addr} {nb : Nat} {LB : List Int} (h : L07T w W A B aj mj J ra rn L aa na LA ab nb LB) (hb : Below W.heap.size W W') : L07T w W' A B aj mj J ra rn L aa na LA ab nb LB := ⟨h.1.below hb, h.2.1.below hb, h.2.2.below hb⟩
theorem L07T.drew {w W : World} {A B : Array Value} {aj : Option Addr} {mj : Nat} {J : List Int} {ra : Option Addr} {rn : Nat} {L : List (Int × Int)} {aa : Option Addr} {na : Nat} {LA : List Int} {ab : Option Addr} {nb : Nat} {LB : List Int} (h : L07T w W A B aj mj J ra rn L aa na LA ab nb LB) : L07T w W.drew A B aj mj J ra rn L aa na LA ab nb LB := h.below (Below.refl _ _).drew

theorem all_drop {α : Type} {xs : List α} {k : Nat} (p : α → Bool) (hk : k < xs.length) : (xs.drop k).all p = (p xs[k] && (xs.drop (k + 1)).all p) := by
  rw [List.drop_eq_getElem_cons hk]
  rfl
theorem any_take {xs : List Int} {k : Nat} (p : Int → Bool) (hk : k < xs.length) : (xs.take (k + 1)).any p = ((xs.take k).any p || p xs[k]) := by
  rw [List.take_succ_eq_append_getElem hk, List.any_append]
  simp only [List.any_cons, List.any_nil, Bool.or_false]

theorem sure_len12 {a : IaD} (h : iaOkB a = true) (s : Int) : (sureOf a s).length ≤ 12 := rise_low12 (by rw [← sureP_eq]; exact sureP_rises _) (sure_low h s)
theorem say_len12 {a : IaD} (h : iaOkB a = true) (s : Int) : (sayOf a s).length ≤ 12 := rise_low12 (foldJoin_rises List.Pairwise.nil) (say_low h s)

set_option maxRecDepth 20000 in
set_option maxHeartbeats 12800000 in
theorem l07Holds_any (a b : IaD) (va vb : Value) (v u : Int) (ra : Option Addr) (rn rc : Nat) (L : List (Int × Int)) (w : World) (h : IaRow w a va) (k : IaRow w b vb) (fa : Small a) (fb : Small b) (ca : InsC va) (cb : InsC vb) (hq : iaOkB a = true) (hp : iaOkB b = true) (hr : RowQ w ra rn L) (hrn : rn ≤ 1048576) :
    Calls Tryz.prog 32 #[va, vb, .int .i64 v, .int .i64 u, .slice ra rn rc] w fun e w' => e = .returned (.bool (holdsL a b v u L)) ∧ Below w.heap.size w w' := by
  obtain ⟨SU, hSU⟩ : ∃ l, l = sureOf b u := ⟨_, rfl⟩
  obtain ⟨SA, hSA⟩ : ∃ l, l = sayOf a v := ⟨_, rfl⟩
  obtain ⟨SV, hSV⟩ : ∃ l, l = sureOf a v := ⟨_, rfl⟩
  obtain ⟨SB, hSB⟩ : ∃ l, l = sayOf b u := ⟨_, rfl⟩
  obtain ⟨J, hJ⟩ : ∃ l, l = joinOf SU SA := ⟨_, rfl⟩
  have l1 : SU.length ≤ 12 := by rw [hSU]; exact sure_len12 hp u
  have l2 : SA.length ≤ 12 := by rw [hSA]; exact say_len12 hq v
  have l3 : SV.length ≤ 12 := by rw [hSV]; exact sure_len12 hq v
  have l4 : SB.length ≤ 12 := by rw [hSB]; exact say_len12 hp u
  have l5 : J.length ≤ 24 := by have := join_len SU SA; rw [hJ]; omega
  have HFA : Hid (∀ act, (farOf a v act).length ≤ 40) := fun act => far_low hq v act
  have HFB : Hid (∀ act, (farOf b u act).length ≤ 40) := fun act => far_low hp u act
  obtain ⟨AL, hAL⟩ : ∃ f : Int → Bool, f = fun act => (farOf a v act).all fun x => (farOf b u act).any fun y => inRel L x y := ⟨_, rfl⟩
  obtain ⟨q1, hq1⟩ : ∃ q, q = inB SU SV := ⟨_, rfl⟩
  obtain ⟨q2, hq2⟩ : ∃ q, q = inB SA SB := ⟨_, rfl⟩
  obtain ⟨r, hr0⟩ : ∃ r, r = holdsL a b v u L := ⟨_, rfl⟩
  rw [← hr0]
  have HR : Hid (r = (q1 && q2 && J.all AL)) := by
    unfold Hid
    rw [hr0, hq1, hq2, hJ, hAL, hSU, hSA, hSV, hSB]
    rfl
  have HAL : Hid (∀ act, AL act = (farOf a v act).all fun x => (farOf b u act).any fun y => inRel L x y) := fun act => by rw [hAL]
  have CSU : Hid (∀ W, Below w.heap.size w W → Calls Tryz.prog 65 #[vb, .int .i64 u] W fun e w' => ∃ g c, e = .returned (.slice g SU.length c) ∧ Row w' g SU.length SU ∧ Below W.heap.size W w') := fun W hW => by
    rw [hSU]
    exact (l04Sure_any b vb u W (k.below hW) fb.1 fb.2.1 fb.2.2.1 fb.2.2.2 cb).mono fun e w' ⟨g, c, he, ho, hb⟩ => ⟨_, c, he, ho.row.2.2.2, hb⟩
  have CSV : Hid (∀ W, Below w.heap.size w W → Calls Tryz.prog 65 #[va, .int .i64 v] W fun e w' => ∃ g c, e = .returned (.slice g SV.length c) ∧ Row w' g SV.length SV ∧ Below W.heap.size W w') := fun W hW => by
    rw [hSV]
    exact (l04Sure_any a va v W (h.below hW) fa.1 fa.2.1 fa.2.2.1 fa.2.2.2 ca).mono fun e w' ⟨g, c, he, ho, hb⟩ => ⟨_, c, he, ho.row.2.2.2, hb⟩
  have CSA : Hid (∀ W, Below w.heap.size w W → Calls Tryz.prog 66 #[va, .int .i64 v] W fun e w' => ∃ g c, e = .returned (.slice g SA.length c) ∧ Row w' g SA.length SA ∧ Below W.heap.size W w') := fun W hW => by
    rw [hSA]
    exact (l04Say_any a va v W (h.below hW) fa.1 fa.2.1 fa.2.2.1 fa.2.2.2).mono fun e w' ⟨g, c, he, ho, hb⟩ => ⟨_, c, he, ho.row.2.2.2, hb⟩
  have CSB : Hid (∀ W, Below w.heap.size w W → Calls Tryz.prog 66 #[vb, .int .i64 u] W fun e w' => ∃ g c, e = .returned (.slice g SB.length c) ∧ Row w' g SB.length SB ∧ Below W.heap.size W w') := fun W hW => by
    rw [hSB]
    exact (l04Say_any b vb u W (k.below hW) fb.1 fb.2.1 fb.2.2.1 fb.2.2.2).mono fun e w' ⟨g, c, he, ho, hb⟩ => ⟨_, c, he, ho.row.2.2.2, hb⟩
  have CFQ0 : Hid (∀ W act, Below w.heap.size w W → Calls Tryz.prog 67 #[va, .int .i64 v, .int .i64 act] W fun e w' => ∃ g c, e = .returned (.slice g (farOf a v act).length c) ∧ Row w' g (farOf a v act).length (farOf a v act) ∧ Below W.heap.size W w') := fun W act hW =>
    (l04After_any a va v act W (h.below hW) fa.1 fa.2.1 fa.2.2.1 fa.2.2.2).mono fun e w' ⟨g, c, he, ho, hb⟩ => ⟨_, c, he, ho.row.2.2.2, hb⟩
  have CFP0 : Hid (∀ W act, Below w.heap.size w W → Calls Tryz.prog 67 #[vb, .int .i64 u, .int .i64 act] W fun e w' => ∃ g c, e = .returned (.slice g (farOf b u act).length c) ∧ Row w' g (farOf b u act).length (farOf b u act) ∧ Below W.heap.size W w') := fun W act hW =>
    (l04After_any b vb u act W (k.below hW) fb.1 fb.2.1 fb.2.2.1 fb.2.2.2).mono fun e w' ⟨g, c, he, ho, hb⟩ => ⟨_, c, he, ho.row.2.2.2, hb⟩
  have CI1 : Hid (∀ W g1 c1 g2 c2, Row W g1 SU.length SU → Row W g2 SV.length SV → Calls Tryz.prog 48 #[.slice g1 SU.length c1, .slice g2 SV.length c2] W fun e w' => e = .returned (.bool q1) ∧ w' = W) := fun W g1 c1 g2 c2 h1 h2 => by
    rw [hq1]
    exact specSetIn_any g1 g2 SU.length c1 SV.length c2 SU SV W h1 h2 (by omega) (by omega)
  have CI2 : Hid (∀ W g1 c1 g2 c2, Row W g1 SA.length SA → Row W g2 SB.length SB → Calls Tryz.prog 48 #[.slice g1 SA.length c1, .slice g2 SB.length c2] W fun e w' => e = .returned (.bool q2) ∧ w' = W) := fun W g1 c1 g2 c2 h1 h2 => by
    rw [hq2]
    exact specSetIn_any g1 g2 SA.length c1 SB.length c2 SA SB W h1 h2 (by omega) (by omega)
  have CJ : Hid (∀ W g1 c1 g2 c2, Row W g1 SU.length SU → Row W g2 SA.length SA → Calls Tryz.prog 43 #[.slice g1 SU.length c1, .slice g2 SA.length c2] W fun e w' => ∃ g c, e = .returned (.slice g J.length c) ∧ Row w' g J.length J ∧ Below W.heap.size W w') := fun W g1 c1 g2 c2 h1 h2 => by
    rw [hJ]
    exact (specSetJoin_any g1 g2 SU.length c1 SA.length c2 SU SA W h1 h2 (by omega) (by omega)).mono fun e w' ⟨g, c, he, ho, hb⟩ => ⟨_, c, he, ho.row.2.2.2, hb⟩
  have CIN0 : Hid (∀ W x y, RowQ W ra rn L → Calls Tryz.prog 68 #[.slice ra rn rc, .int .i64 x, .int .i64 y] W fun e w' => e = .returned (.bool (inRel L x y)) ∧ w' = W) := fun W x y h => l07In_any ra rn rc L x y W h hrn
  have HQ := Lib.hid hr
  clear hSU hSA hSV hSB hJ hAL hq1 hq2 hr0 hr hq hp ca cb
  obtain ⟨a2, n2, c2, a3, n3, c3, a4, n4, c4, a5, n5, c5, rfl, _⟩ := h
  obtain ⟨b2, m2, d2, b3, m3, d3, b4, m4, d4, b5, m5, d5, rfl, _⟩ := k
  obtain ⟨st, it, ins, outs, hids, steps⟩ := a
  obtain ⟨su, iu, jns, juts, jids, jteps⟩ := b
  clear fa fb
  have S0 := Lib.hid (Box2.start w (iaC st it a2 n2 c2 a3 n3 c3 a4 n4 c4 a5 n5 c5) (iaC su iu b2 m2 d2 b3 m3 d3 b4 m4 d4 b5 m5 d5) 31)
  go_enter Tryz.func32, Tryz.ntmps32
  go_wp2_with fail
  have SD : Box2 w ((w.alloc (.cells (iaC st it a2 n2 c2 a3 n3 c3 a4 n4 c4 a5 n5 c5) 31)).alloc (.cells (iaC su iu b2 m2 d2 b3 m3 d3 b4 m4 d4 b5 m5 d5) 31)).drew w.heap.size (w.heap.size + 1) 31 (iaC st it a2 n2 c2 a3 n3 c3 a4 n4 c4 a5 n5 c5) (iaC su iu b2 m2 d2 b3 m3 d3 b4 m4 d4 b5 m5 d5) := S0.out.drew
  clear S0
  refine wp_region_tf (S := fun w' => Box2 w w' w.heap.size (w.heap.size + 1) 31 (iaC st it a2 n2 c2 a3 n3 c3 a4 n4 c4 a5 n5 c5) (iaC su iu b2 m2 d2 b3 m3 d3 b4 m4 d4 b5 m5 d5)) 8 (by kernel_rfl) (by kernel_rfl) (by kernel_rfl) SD (fun hHeld => ?_)
  refine fast_yields 0 20 (.agg #[.int .i64 su, .int .i64 iu, .slice b2 m2 d2, .slice b3 m3 d3, .slice b4 m4 d4, .slice b5 m5 d5]) (fuel := 7) rfl rfl (by kernel_rfl) (by kernel_rfl) (by kernel_rfl) (fun _ _ _ h => h) (yieldsIf_load_mid (by rfl) _ _ rfl (w.heap.size + 1) 0 rfl (iaC su iu b2 m2 d2 b3 m3 d3 b4 m4 d4 b5 m5 d5).toList _ (fun w hw => hw.2.2.range) Tryz.underlying31 rfl (by kernel_rfl)) hHeld (tf 1 8) (by kernel_rfl) (fun K hK => ?_)
  go_big_move
  refine hK.out _ ?_
  clear hK K
  refine fast_move 1 21 (.int .i64 u) (.tmp 3) (fuel := 6) rfl rfl (by kernel_rfl) (by kernel_rfl) (by kernel_rfl) (fun _ _ _ h => h) (by kernel_rfl) (by kernel_rfl) (by first | exact Or.inl rfl | exact Or.inr rfl) hHeld (tf 3 8) (by kernel_rfl) (fun K hK => ?_)
  go_big_move
  refine hK.out _ ?_
  clear hK K
  refine fast_yields 3 23 (.agg #[.int .i64 st, .int .i64 it, .slice a2 n2 c2, .slice a3 n3 c3, .slice a4 n4 c4, .slice a5 n5 c5]) (fuel := 5) rfl rfl (by kernel_rfl) (by kernel_rfl) (by kernel_rfl) (fun _ _ _ h => h) (yieldsIf_load_mid (by rfl) _ _ rfl (w.heap.size) 0 rfl (iaC st it a2 n2 c2 a3 n3 c3 a4 n4 c4 a5 n5 c5).toList _ (fun w hw => hw.2.1.range) Tryz.underlying31 rfl (by kernel_rfl)) hHeld (tf 11 8) (by kernel_rfl) (fun K hK => ?_)
  go_big_move
  refine hK.out _ ?_
  clear hK K
  refine fast_move 4 24 (.int .i64 v) (.tmp 2) (fuel := 4) rfl rfl (by kernel_rfl) (by kernel_rfl) (by kernel_rfl) (fun _ _ _ h => h) (by kernel_rfl) (by kernel_rfl) (by first | exact Or.inl rfl | exact Or.inr rfl) hHeld (tf 27 8) (by kernel_rfl) (fun K hK => ?_)
  go_big_move
  refine hK.out _ ?_
  clear hK K
  refine wpAnyH_ready (rs := [2]) (fuel := 3) (by kernel_rfl) (by simp) ?_
  refine ready_want rfl (by kernel_rfl) (tf 31 8) (by kernel_rfl) (fun K hK => ?_) AllReadyH.nil
  simp only [List.getElem_toArray, List.getElem_cons_succ, List.getElem_cons_zero]
  go_big_op
  refine (CSU.out _ hHeld.1).mono ?_
  rintro e w3 ⟨g1, c1, rfl, ho1, hb⟩
  have rs := ho1
  have hS : Box2 w w3 w.heap.size (w.heap.size + 1) 31 (iaC st it a2 n2 c2 a3 n3 c3 a4 n4 c4 a5 n5 c5) (iaC su iu b2 m2 d2 b3 m3 d3 b4 m4 d4 b5 m5 d5) := hHeld.below hb
  clear hb ho1
  refine hK.out _ _ hS (fun hHeld => ?_)
  clear hK K
  refine wpAnyH_ready (rs := [5]) (fuel := 2) (by kernel_rfl) (by simp) ?_
  refine ready_want rfl (by kernel_rfl) (tf 63 8) (by kernel_rfl) (fun K hK => ?_) AllReadyH.nil
  simp only [List.getElem_toArray, List.getElem_cons_succ, List.getElem_cons_zero]
  go_big_op
  refine (CSA.out _ hHeld.1).mono ?_
  rintro e w4 ⟨g2, c2x, rfl, ho2, hb⟩
  have ra1 := ho2
  have rs1 := rs.below hb
  have hS : Box2 w w4 w.heap.size (w.heap.size + 1) 31 (iaC st it a2 n2 c2 a3 n3 c3 a4 n4 c4 a5 n5 c5) (iaC su iu b2 m2 d2 b3 m3 d3 b4 m4 d4 b5 m5 d5) := hHeld.below hb
  clear hb ho2 rs
  refine hK.out _ _ hS (fun hHeld => ?_)
  clear hK K
  refine fast_move 6 11 (.slice g1 SU.length c1) (.tmp 22) (fuel := 1) rfl rfl (by kernel_rfl) (by kernel_rfl) (by kernel_rfl) (fun _ _ _ h => h) (by kernel_rfl) (by kernel_rfl) (by first | exact Or.inl rfl | exact Or.inr rfl) hHeld (tf 127 8) (by kernel_rfl) (fun K hK => ?_)
  go_big_move
  refine hK.out _ ?_
  clear hK K
  refine fast_move 7 12 (.slice g2 SA.length c2x) (.tmp 25) (fuel := 0) rfl rfl (by kernel_rfl) (by kernel_rfl) (by kernel_rfl) (fun _ _ _ h => h) (by kernel_rfl) (by kernel_rfl) (by first | exact Or.inl rfl | exact Or.inr rfl) hHeld (tf 255 8) (by kernel_rfl) (fun K hK => ?_)
  go_big_move
  refine hK.out _ ?_
  clear hK K
  refine wpAnyH_done (by kernel_rfl) ?_ _
  have HS1 := Lib.hid hHeld
  have RS := Lib.hid rs1
  have RA := Lib.hid ra1
  clear hHeld SD rs1 ra1 CSU CSA
  have xa0 := HS1.out.2.1.cell (j := 0) (u := .int .i64 st) rfl
  have xa1 := HS1.out.2.1.cell (j := 1) (u := .int .i64 it) rfl
  have xa2 := HS1.out.2.1.cell (j := 2) (u := .slice a2 n2 c2) rfl
  have xa3 := HS1.out.2.1.cell (j := 3) (u := .slice a3 n3 c3) rfl
  have xa4 := HS1.out.2.1.cell (j := 4) (u := .slice a4 n4 c4) rfl
  have xa5 := HS1.out.2.1.cell (j := 5) (u := .slice a5 n5 c5) rfl
  go_wp2_with fail
  clear xa0 xa1 xa2 xa3 xa4 xa5
  refine (CSV.out _ HS1.out.1).mono ?_
  rintro e w5 ⟨g3, c3x, rfl, hrow, hb⟩
  have HS2 := Lib.hid (HS1.out.below hb)
  have RS2 := Lib.hid (RS.out.below hb)
  have RA2 := Lib.hid (RA.out.below hb)
  have RV2 := Lib.hid hrow
  clear hb hrow HS1 RS RA CSV
  go_wp2_with fail
  refine (CI1.out _ _ _ _ _ RS2.out RV2.out).mono ?_
  rintro e w6 ⟨rfl, rfl⟩
  clear RV2 CI1
  cases q1 with
  | false =>
    have hr1 : r = false := by rw [HR.out]; rfl
    clear HR
    subst hr1
    go_wp2_with fail
    go_ret
    exact ⟨rfl, HS2.out.1⟩
  | true =>
    have xb0 := HS2.out.2.2.cell (j := 0) (u := .int .i64 su) rfl
    have xb1 := HS2.out.2.2.cell (j := 1) (u := .int .i64 iu) rfl
    have xb2 := HS2.out.2.2.cell (j := 2) (u := .slice b2 m2 d2) rfl
    have xb3 := HS2.out.2.2.cell (j := 3) (u := .slice b3 m3 d3) rfl
    have xb4 := HS2.out.2.2.cell (j := 4) (u := .slice b4 m4 d4) rfl
    have xb5 := HS2.out.2.2.cell (j := 5) (u := .slice b5 m5 d5) rfl
    go_wp2_with fail
    clear xb0 xb1 xb2 xb3 xb4 xb5
    refine (CSB.out _ HS2.out.1).mono ?_
    rintro e w7 ⟨g4, c4x, rfl, hrow, hb⟩
    have HS3 := Lib.hid (HS2.out.below hb)
    have RS3 := Lib.hid (RS2.out.below hb)
    have RA3 := Lib.hid (RA2.out.below hb)
    have RB3 := Lib.hid hrow
    clear hb hrow HS2 RS2 RA2 CSB
    go_wp2_with fail
    refine (CI2.out _ _ _ _ _ RA3.out RB3.out).mono ?_
    rintro e w8 ⟨rfl, rfl⟩
    clear RB3 CI2
    cases q2 with
    | false =>
      have hr1 : r = false := by rw [HR.out]; rfl
      clear HR
      subst hr1
      go_wp2_with fail
      go_ret
      exact ⟨rfl, HS3.out.1⟩
    | true =>
      have HR2 : Hid ((J.drop 0).all AL = r) := by rw [HR.out]; rfl
      clear HR
      go_wp2_with fail
      refine (CJ.out _ _ _ _ _ RS3.out RA3.out).mono ?_
      rintro e w9 ⟨aj, cj, rfl, hrow, hb⟩
      obtain ⟨mj, hmj⟩ : ∃ n, n = J.length := ⟨_, rfl⟩
      rw [← hmj] at hrow l5 ⊢
      have HMJ := Lib.hid hmj
      have HS4 : Hid (L07S w w9 (iaC st it a2 n2 c2 a3 n3 c3 a4 n4 c4 a5 n5 c5) (iaC su iu b2 m2 d2 b3 m3 d3 b4 m4 d4 b5 m5 d5) aj mj J ra rn L) := ⟨HS3.out.below hb, hrow, HQ.out.below (HS3.out.below hb).1⟩
      clear hb hrow HS3 RS3 RA3 CJ hmj HQ l1 l2 l3 l4
      go_wp2_with fail
      go_loopw [14] (fun iv wr => ∃ k : Nat, k ≤ mj ∧ iv = .int .i64 (k : Int) ∧ Hid ((J.drop k).all AL = r) ∧ Hid (L07S w wr (iaC st it a2 n2 c2 a3 n3 c3 a4 n4 c4 a5 n5 c5) (iaC su iu b2 m2 d2 b3 m3 d3 b4 m4 d4 b5 m5 d5) aj mj J ra rn L)) (fun iv _ => mj - (intOf iv).toNat)
      case atStart => exact ⟨0, Nat.zero_le _, rfl, HR2.out, HS4.out⟩
      case round =>
        clear HS4 HR2
        obtain ⟨k, hk, rfl, HK, HS⟩ := hrel
        by_cases hlt : k < mj
        · obtain ⟨bj, oj, rfl, _, _⟩ := HS.out.2.1.2 (by omega)
          have hkx : k < J.length := by rw [← HMJ.out]; exact hlt
          obtain ⟨act, hactE⟩ : ∃ x, x = J[k] := ⟨_, rfl⟩
          have hact : J[k]? = some act := by rw [hactE]; exact List.getElem?_eq_getElem hkx
          have HK2 : Hid (r = (AL act && (J.drop (k + 1)).all AL)) := by
            rw [hactE, ← HK.out]
            exact all_drop AL hkx
          obtain ⟨LA, hLA⟩ : ∃ l, l = farOf ⟨st, it, ins, outs, hids, steps⟩ v act := ⟨_, rfl⟩
          obtain ⟨LB, hLB⟩ : ∃ l, l = farOf ⟨su, iu, jns, juts, jids, jteps⟩ u act := ⟨_, rfl⟩
          have lA : LA.length ≤ 40 := by rw [hLA]; exact HFA.out act
          have lB : LB.length ≤ 40 := by rw [hLB]; exact HFB.out act
          have HALa : Hid (AL act = LA.all fun x => LB.any fun y => inRel L x y) := by
            rw [hLA, hLB]
            exact HAL.out act
          have CFQ : Hid (∀ W (z : Int), Below w.heap.size w W → Calls Tryz.prog 67 #[.agg #[.int .i64 st, .int .i64 it, .slice a2 n2 c2, .slice a3 n3 c3, .slice a4 n4 c4, .slice a5 n5 c5], .int .i64 v, .int .i64 act] W fun e w' => ∃ g c, e = .returned (.slice g LA.length c) ∧ Row w' g LA.length LA ∧ Below W.heap.size W w') := fun W _ hW => by
            rw [hLA]
            exact CFQ0.out W act hW
          have CFP : Hid (∀ W (z : Int), Below w.heap.size w W → Calls Tryz.prog 67 #[.agg #[.int .i64 su, .int .i64 iu, .slice b2 m2 d2, .slice b3 m3 d3, .slice b4 m4 d4, .slice b5 m5 d5], .int .i64 u, .int .i64 act] W fun e w' => ∃ g c, e = .returned (.slice g LB.length c) ∧ Row w' g LB.length LB ∧ Below W.heap.size W w') := fun W _ hW => by
            rw [hLB]
            exact CFP0.out W act hW
          have i1 : (0 : Int) ≤ (k : Int) := by omega
          have i2 : (k : Int) < (mj : Int) := by omega
          have i2n : k < mj := hlt
          clear hactE hkx HK hLA hLB
          go_wp2_with fail
          have SD : L07S w wr.drew (iaC st it a2 n2 c2 a3 n3 c3 a4 n4 c4 a5 n5 c5) (iaC su iu b2 m2 d2 b3 m3 d3 b4 m4 d4 b5 m5 d5) (some ⟨bj, oj, none⟩) mj J ra rn L := HS.out.drew
          clear HS
          refine wp_region_tf (S := fun w' => L07S w w' (iaC st it a2 n2 c2 a3 n3 c3 a4 n4 c4 a5 n5 c5) (iaC su iu b2 m2 d2 b3 m3 d3 b4 m4 d4 b5 m5 d5) (some ⟨bj, oj, none⟩) mj J ra rn L) 16 (by kernel_rfl) (by kernel_rfl) (by kernel_rfl) SD (fun hHeld => ?_)
          refine fast_yields 0 49 (.agg #[.int .i64 st, .int .i64 it, .slice a2 n2 c2, .slice a3 n3 c3, .slice a4 n4 c4, .slice a5 n5 c5]) (fuel := 15) rfl rfl (by kernel_rfl) (by kernel_rfl) (by kernel_rfl) (fun _ _ _ h => h) (yieldsIf_load_mid (by rfl) _ _ rfl (w.heap.size) 0 rfl (iaC st it a2 n2 c2 a3 n3 c3 a4 n4 c4 a5 n5 c5).toList _ (fun w hw => hw.1.2.1.range) Tryz.underlying31 rfl (by kernel_rfl)) hHeld (tf 1 16) (by kernel_rfl) (fun K hK => ?_)
          go_big_move
          refine hK.out _ ?_
          clear hK K
          refine fast_move 1 50 (.int .i64 v) (.tmp 2) (fuel := 14) rfl rfl (by kernel_rfl) (by kernel_rfl) (by kernel_rfl) (fun _ _ _ h => h) (by kernel_rfl) (by kernel_rfl) (by first | exact Or.inl rfl | exact Or.inr rfl) hHeld (tf 3 16) (by kernel_rfl) (fun K hK => ?_)
          go_big_move
          refine hK.out _ ?_
          clear hK K
          refine fast_move 2 51 (.slice (some ⟨bj, oj, none⟩) mj cj) (.tmp 13) (fuel := 13) rfl rfl (by kernel_rfl) (by kernel_rfl) (by kernel_rfl) (fun _ _ _ h => h) (by kernel_rfl) (by kernel_rfl) (by first | exact Or.inl rfl | exact Or.inr rfl) hHeld (tf 7 16) (by kernel_rfl) (fun K hK => ?_)
          go_big_move
          refine hK.out _ ?_
          clear hK K
          refine fast_move 3 52 (.int .i64 (k : Int)) (.tmp 14) (fuel := 12) rfl rfl (by kernel_rfl) (by kernel_rfl) (by kernel_rfl) (fun _ _ _ h => h) (by kernel_rfl) (by kernel_rfl) (by first | exact Or.inl rfl | exact Or.inr rfl) hHeld (tf 15 16) (by kernel_rfl) (fun K hK => ?_)
          go_big_move
          refine hK.out _ ?_
          clear hK K
          refine fast2 4 53 (.pointer (some ⟨bj, oj + k, none⟩)) (.tmp 51) (.slice (some ⟨bj, oj, none⟩) mj cj) (.tmp 52) (.int .i64 (k : Int)) (fuel := 11) rfl rfl (by kernel_rfl) (by kernel_rfl) (by kernel_rfl) (fun _ _ _ h => h) (by kernel_rfl) (by kernel_rfl) (by kernel_rfl) (fun ρ hr0 hr1 _ w hSw => by have h1 := i1; have h2 := i2; simp [go_sem, hr0, hr1, h1, h2]) hHeld (tf 31 16) (by kernel_rfl) (fun K hK => ?_)
          go_big_move
          refine hK.out _ ?_
          clear hK K
          refine fast1 5 54 (.int .i64 act) (.tmp 53) (.pointer (some ⟨bj, oj + k, none⟩)) (fuel := 10) rfl rfl (by kernel_rfl) (by kernel_rfl) (by kernel_rfl) (fun _ _ _ h => h) (by kernel_rfl) (by kernel_rfl) (fun ρ hr0 _ w hSw => by have m := (hSw.2.1.at i2n hact); simp [go_sem, hr0, m]) hHeld (tf 63 16) (by kernel_rfl) (fun K hK => ?_)
          go_big_move
          refine hK.out _ ?_
          clear hK K
          refine fast_yields 7 56 (.agg #[.int .i64 su, .int .i64 iu, .slice b2 m2 d2, .slice b3 m3 d3, .slice b4 m4 d4, .slice b5 m5 d5]) (fuel := 9) rfl rfl (by kernel_rfl) (by kernel_rfl) (by kernel_rfl) (fun _ _ _ h => h) (yieldsIf_load_mid (by rfl) _ _ rfl (w.heap.size + 1) 0 rfl (iaC su iu b2 m2 d2 b3 m3 d3 b4 m4 d4 b5 m5 d5).toList _ (fun w hw => hw.1.2.2.range) Tryz.underlying31 rfl (by kernel_rfl)) hHeld (tf 191 16) (by kernel_rfl) (fun K hK => ?_)
          go_big_move
          refine hK.out _ ?_
          clear hK K
          refine fast_move 8 57 (.int .i64 u) (.tmp 3) (fuel := 8) rfl rfl (by kernel_rfl) (by kernel_rfl) (by kernel_rfl) (fun _ _ _ h => h) (by kernel_rfl) (by kernel_rfl) (by first | exact Or.inl rfl | exact Or.inr rfl) hHeld (tf 447 16) (by kernel_rfl) (fun K hK => ?_)
          go_big_move
          refine hK.out _ ?_
          clear hK K
          refine fast_move 9 58 (.slice (some ⟨bj, oj, none⟩) mj cj) (.tmp 13) (fuel := 7) rfl rfl (by kernel_rfl) (by kernel_rfl) (by kernel_rfl) (fun _ _ _ h => h) (by kernel_rfl) (by kernel_rfl) (by first | exact Or.inl rfl | exact Or.inr rfl) hHeld (tf 959 16) (by kernel_rfl) (fun K hK => ?_)
          go_big_move
          refine hK.out _ ?_
          clear hK K
          refine fast_move 10 59 (.int .i64 (k : Int)) (.tmp 14) (fuel := 6) rfl rfl (by kernel_rfl) (by kernel_rfl) (by kernel_rfl) (fun _ _ _ h => h) (by kernel_rfl) (by kernel_rfl) (by first | exact Or.inl rfl | exact Or.inr rfl) hHeld (tf 1983 16) (by kernel_rfl) (fun K hK => ?_)
          go_big_move
          refine hK.out _ ?_
          clear hK K
          refine fast2 11 60 (.pointer (some ⟨bj, oj + k, none⟩)) (.tmp 58) (.slice (some ⟨bj, oj, none⟩) mj cj) (.tmp 59) (.int .i64 (k : Int)) (fuel := 5) rfl rfl (by kernel_rfl) (by kernel_rfl) (by kernel_rfl) (fun _ _ _ h => h) (by kernel_rfl) (by kernel_rfl) (by kernel_rfl) (fun ρ hr0 hr1 _ w hSw => by have h1 := i1; have h2 := i2; simp [go_sem, hr0, hr1, h1, h2]) hHeld (tf 4031 16) (by kernel_rfl) (fun K hK => ?_)
          go_big_move
          refine hK.out _ ?_
          clear hK K
          refine fast1 12 61 (.int .i64 act) (.tmp 60) (.pointer (some ⟨bj, oj + k, none⟩)) (fuel := 4) rfl rfl (by kernel_rfl) (by kernel_rfl) (by kernel_rfl) (fun _ _ _ h => h) (by kernel_rfl) (by kernel_rfl) (fun ρ hr0 _ w hSw => by have m := (hSw.2.1.at i2n hact); simp [go_sem, hr0, m]) hHeld (tf 8127 16) (by kernel_rfl) (fun K hK => ?_)
          go_big_move
          refine hK.out _ ?_
          clear hK K
          refine wpAnyH_ready (rs := [6]) (fuel := 3) (by kernel_rfl) (by simp) ?_
          refine ready_want rfl (by kernel_rfl) (tf 8191 16) (by kernel_rfl) (fun K hK => ?_) AllReadyH.nil
          simp only [List.getElem_toArray, List.getElem_cons_succ, List.getElem_cons_zero]
          go_big_op
          refine (CFQ.out _ act hHeld.1.1).mono ?_
          rintro e w6 ⟨aa, ca, rfl, hoa, hb⟩
          have rA := hoa
          have hS : L07S w w6 (iaC st it a2 n2 c2 a3 n3 c3 a4 n4 c4 a5 n5 c5) (iaC su iu b2 m2 d2 b3 m3 d3 b4 m4 d4 b5 m5 d5) (some ⟨bj, oj, none⟩) mj J ra rn L := hHeld.below hb
          clear hb hoa
          refine hK.out _ _ hS (fun hHeld => ?_)
          clear hK K
          refine wpAnyH_ready (rs := [13]) (fuel := 2) (by kernel_rfl) (by simp) ?_
          refine ready_want rfl (by kernel_rfl) (tf 16383 16) (by kernel_rfl) (fun K hK => ?_) AllReadyH.nil
          simp only [List.getElem_toArray, List.getElem_cons_succ, List.getElem_cons_zero]
          go_big_op
          refine (CFP.out _ act hHeld.1.1).mono ?_
          rintro e w7 ⟨ab, cb, rfl, hob, hb⟩
          have rB := hob
          have rA1 := rA.below hb
          have hS : L07S w w7 (iaC st it a2 n2 c2 a3 n3 c3 a4 n4 c4 a5 n5 c5) (iaC su iu b2 m2 d2 b3 m3 d3 b4 m4 d4 b5 m5 d5) (some ⟨bj, oj, none⟩) mj J ra rn L := hHeld.below hb
          clear hb hob rA
          refine hK.out _ _ hS (fun hHeld => ?_)
          clear hK K
          refine fast_move 14 15 (.slice aa LA.length ca) (.tmp 55) (fuel := 1) rfl rfl (by kernel_rfl) (by kernel_rfl) (by kernel_rfl) (fun _ _ _ h => h) (by kernel_rfl) (by kernel_rfl) (by first | exact Or.inl rfl | exact Or.inr rfl) hHeld (tf 32767 16) (by kernel_rfl) (fun K hK => ?_)
          go_big_move
          refine hK.out _ ?_
          clear hK K
          refine fast_move 15 16 (.slice ab LB.length cb) (.tmp 62) (fuel := 0) rfl rfl (by kernel_rfl) (by kernel_rfl) (by kernel_rfl) (fun _ _ _ h => h) (by kernel_rfl) (by kernel_rfl) (by first | exact Or.inl rfl | exact Or.inr rfl) hHeld (tf 65535 16) (by kernel_rfl) (fun K hK => ?_)
          go_big_move
          refine hK.out _ ?_
          clear hK K
          refine wpAnyH_done (by kernel_rfl) ?_ _
          obtain ⟨na, hna⟩ : ∃ n, n = LA.length := ⟨_, rfl⟩
          obtain ⟨nb, hnb⟩ : ∃ n, n = LB.length := ⟨_, rfl⟩
          rw [← hna] at rA1 lA ⊢
          rw [← hnb] at rB lB ⊢
          have HNA := Lib.hid hna
          have HNB := Lib.hid hnb
          have HT0 : Hid (L07T w w7 (iaC st it a2 n2 c2 a3 n3 c3 a4 n4 c4 a5 n5 c5) (iaC su iu b2 m2 d2 b3 m3 d3 b4 m4 d4 b5 m5 d5) (some ⟨bj, oj, none⟩) mj J ra rn L aa na LA ab nb LB) := ⟨hHeld, rA1, rB⟩
          clear hHeld SD rA1 rB hna hnb CFQ CFP hact
          go_wp2_with fail
          go_loopw [17] (fun iv wr => ∃ i : Nat, i ≤ na ∧ iv = .int .i64 (i : Int) ∧ Hid ((LA.drop i).all (fun x => LB.any fun y => inRel L x y) = AL act) ∧ Hid (L07T w wr (iaC st it a2 n2 c2 a3 n3 c3 a4 n4 c4 a5 n5 c5) (iaC su iu b2 m2 d2 b3 m3 d3 b4 m4 d4 b5 m5 d5) (some ⟨bj, oj, none⟩) mj J ra rn L aa na LA ab nb LB)) (fun iv _ => na - (intOf iv).toNat)
          case atStart => exact ⟨0, Nat.zero_le _, rfl, by rw [HALa.out]; rfl, HT0.out⟩
          case round =>
            clear HT0 HALa
            obtain ⟨i, hi, rfl, HI, HS⟩ := hrel
            by_cases hin : i < na
            · obtain ⟨ba, oa, rfl, _, _⟩ := HS.out.2.1.2 (by omega)
              have hix : i < LA.length := by rw [← HNA.out]; exact hin
              obtain ⟨x, hxE⟩ : ∃ x, x = LA[i] := ⟨_, rfl⟩
              have hx : LA[i]? = some x := by rw [hxE]; exact List.getElem?_eq_getElem hix
              have HI2 : Hid (AL act = ((LB.any fun y => inRel L x y) && (LA.drop (i + 1)).all (fun x => LB.any fun y => inRel L x y))) := by
                rw [hxE, ← HI.out]
                exact all_drop (fun x => LB.any fun y => inRel L x y) hix
              have j1 : (0 : Int) ≤ (i : Int) := by omega
              have j2 : (i : Int) < (na : Int) := by omega
              clear hxE hix HI
              go_wp2_with fail
              go_loopw [18, 19] (fun fv mv wr => ∃ m : Nat, m ≤ nb ∧ mv = .int .i64 (m : Int) ∧ fv = .bool ((LB.take m).any fun y => inRel L x y) ∧ Hid (L07T w wr (iaC st it a2 n2 c2 a3 n3 c3 a4 n4 c4 a5 n5 c5) (iaC su iu b2 m2 d2 b3 m3 d3 b4 m4 d4 b5 m5 d5) (some ⟨bj, oj, none⟩) mj J ra rn L (some ⟨ba, oa, none⟩) na LA ab nb LB)) (fun _ mv _ => nb - (intOf mv).toNat)
              case atStart => exact ⟨0, Nat.zero_le _, rfl, rfl, HS.out⟩
              case round =>
                clear HS
                obtain ⟨m, hm, rfl, rfl, HS⟩ := hrel
                by_cases hmn : m < nb
                · obtain ⟨bb, ob, rfl, _, _⟩ := HS.out.2.2.2 (by omega)
                  have hmx : m < LB.length := by rw [← HNB.out]; exact hmn
                  obtain ⟨y, hyE⟩ : ∃ x, x = LB[m] := ⟨_, rfl⟩
                  have hy : LB[m]? = some y := by rw [hyE]; exact List.getElem?_eq_getElem hmx
                  have HM := Lib.hid (any_take (fun y => inRel L x y) hmx)
                  rw [← hyE] at HM
                  obtain ⟨f, hf⟩ : ∃ f, f = (LB.take m).any fun y => inRel L x y := ⟨_, rfl⟩
                  rw [← hf] at HM ⊢
                  obtain ⟨p, hp⟩ : ∃ p, p = inRel L x y := ⟨_, rfl⟩
                  have CIN : Hid (∀ W, RowQ W ra rn L → Calls Tryz.prog 68 #[.slice ra rn rc, .int .i64 x, .int .i64 y] W fun e w' => e = .returned (.bool p) ∧ w' = W) := fun W h => by
                    rw [hp]
                    exact CIN0.out W x y h
                  have HM2 : Hid (((LB.take (m + 1)).any fun y => inRel L x y) = (f || p)) := by rw [hp]; exact HM.out
                  have mm1 : (0 : Int) ≤ (m : Int) := by omega
                  have mm2 : (m : Int) < (nb : Int) := by omega
                  have SD : L07T w wr.drew (iaC st it a2 n2 c2 a3 n3 c3 a4 n4 c4 a5 n5 c5) (iaC su iu b2 m2 d2 b3 m3 d3 b4 m4 d4 b5 m5 d5) (some ⟨bj, oj, none⟩) mj J ra rn L (some ⟨ba, oa, none⟩) na LA (some ⟨bb, ob, none⟩) nb LB := HS.out.drew
                  clear hyE hmx HM hf hp HS
                  go_wp2_with fail
                  cases f with
                  | true =>
                    refine wp_region_tf (S := fun w' => L07T w w' (iaC st it a2 n2 c2 a3 n3 c3 a4 n4 c4 a5 n5 c5) (iaC su iu b2 m2 d2 b3 m3 d3 b4 m4 d4 b5 m5 d5) (some ⟨bj, oj, none⟩) mj J ra rn L (some ⟨ba, oa, none⟩) na LA (some ⟨bb, ob, none⟩) nb LB) 14 (by kernel_rfl) (by kernel_rfl) (by kernel_rfl) SD (fun hHeld => ?_)
                    refine fast_move 0 75 (.bool true) (.tmp 18) (fuel := 13) rfl rfl (by kernel_rfl) (by kernel_rfl) (by kernel_rfl) (fun _ _ _ h => h) (by kernel_rfl) (by kernel_rfl) (by first | exact Or.inl rfl | exact Or.inr rfl) hHeld (tf 1 14) (by kernel_rfl) (fun K hK => ?_)
                    go_big_move
                    refine hK.out _ ?_
                    clear hK K
                    refine fast_move 1 76 (.bool true) (.tmp 75) (fuel := 12) rfl rfl (by kernel_rfl) (by kernel_rfl) (by kernel_rfl) (fun _ _ _ h => h) (by kernel_rfl) (by kernel_rfl) (by first | exact Or.inl rfl | exact Or.inr rfl) hHeld (tf 3 14) (by kernel_rfl) (fun K hK => ?_)
                    go_big_move
                    refine hK.out _ ?_
                    clear hK K
                    refine fast_skip 2 77 (fuel := 11) rfl rfl (by kernel_rfl) (by kernel_rfl) (by kernel_rfl) (fun _ _ _ h => h) (by kernel_rfl) hHeld (tf 7 14) (by kernel_rfl) (fun K hK => ?_)
                    go_big_move
                    refine hK.out _ ?_
                    clear hK K
                    refine fast_skip 3 78 (fuel := 10) rfl rfl (by kernel_rfl) (by kernel_rfl) (by kernel_rfl) (fun _ _ _ h => h) (by kernel_rfl) hHeld (tf 15 14) (by kernel_rfl) (fun K hK => ?_)
                    go_big_move
                    refine hK.out _ ?_
                    clear hK K
                    refine fast_skip 4 79 (fuel := 9) rfl rfl (by kernel_rfl) (by kernel_rfl) (by kernel_rfl) (fun _ _ _ h => h) (by kernel_rfl) hHeld (tf 31 14) (by kernel_rfl) (fun K hK => ?_)
                    go_big_move
                    refine hK.out _ ?_
                    clear hK K
                    refine fast_skip 5 80 (fuel := 8) rfl rfl (by kernel_rfl) (by kernel_rfl) (by kernel_rfl) (fun _ _ _ h => h) (by kernel_rfl) hHeld (tf 63 14) (by kernel_rfl) (fun K hK => ?_)
                    go_big_move
                    refine hK.out _ ?_
                    clear hK K
                    refine fast_skip 6 81 (fuel := 7) rfl rfl (by kernel_rfl) (by kernel_rfl) (by kernel_rfl) (fun _ _ _ h => h) (by kernel_rfl) hHeld (tf 127 14) (by kernel_rfl) (fun K hK => ?_)
                    go_big_move
                    refine hK.out _ ?_
                    clear hK K
                    refine fast_skip 7 82 (fuel := 6) rfl rfl (by kernel_rfl) (by kernel_rfl) (by kernel_rfl) (fun _ _ _ h => h) (by kernel_rfl) hHeld (tf 255 14) (by kernel_rfl) (fun K hK => ?_)
                    go_big_move
                    refine hK.out _ ?_
                    clear hK K
                    refine fast_skip 8 83 (fuel := 5) rfl rfl (by kernel_rfl) (by kernel_rfl) (by kernel_rfl) (fun _ _ _ h => h) (by kernel_rfl) hHeld (tf 511 14) (by kernel_rfl) (fun K hK => ?_)
                    go_big_move
                    refine hK.out _ ?_
                    clear hK K
                    refine fast_skip 9 84 (fuel := 4) rfl rfl (by kernel_rfl) (by kernel_rfl) (by kernel_rfl) (fun _ _ _ h => h) (by kernel_rfl) hHeld (tf 1023 14) (by kernel_rfl) (fun K hK => ?_)
                    go_big_move
                    refine hK.out _ ?_
                    clear hK K
                    refine fast_skip 10 85 (fuel := 3) rfl rfl (by kernel_rfl) (by kernel_rfl) (by kernel_rfl) (fun _ _ _ h => h) (by kernel_rfl) hHeld (tf 2047 14) (by kernel_rfl) (fun K hK => ?_)
                    go_big_move
                    refine hK.out _ ?_
                    clear hK K
                    refine fast_skip 11 86 (fuel := 2) rfl rfl (by kernel_rfl) (by kernel_rfl) (by kernel_rfl) (fun _ _ _ h => h) (by kernel_rfl) hHeld (tf 4095 14) (by kernel_rfl) (fun K hK => ?_)
                    go_big_move
                    refine hK.out _ ?_
                    clear hK K
                    refine fast2 12 87 (.bool true) (.tmp 76) (.bool true) (.tmp 86) (undef) (fuel := 1) rfl rfl (by kernel_rfl) (by kernel_rfl) (by kernel_rfl) (fun _ _ _ h => h) (by kernel_rfl) (by kernel_rfl) (by kernel_rfl) (fun ρ hr0 hr1 hc w hSw => by simp [go_sem, hc, hr0, hr1]) hHeld (tf 8191 14) (by kernel_rfl) (fun K hK => ?_)
                    go_big_move
                    refine hK.out _ ?_
                    clear hK K
                    refine fast_move 13 18 (.bool true) (.tmp 87) (fuel := 0) rfl rfl (by kernel_rfl) (by kernel_rfl) (by kernel_rfl) (fun _ _ _ h => h) (by kernel_rfl) (by kernel_rfl) (by first | exact Or.inl rfl | exact Or.inr rfl) hHeld (tf 16383 14) (by kernel_rfl) (fun K hK => ?_)
                    go_big_move
                    refine hK.out _ ?_
                    clear hK K
                    refine wpAnyH_done (by kernel_rfl) ?_ _
                    have HS2 := Lib.hid hHeld
                    have HM3 : Hid (((LB.take (m + 1)).any fun y => inRel L x y) = true) := by rw [HM2.out]; rfl
                    clear hHeld SD HM2 CIN
                    go_wp2_with fail
                    go_roundw
                    case rel => exact ⟨m + 1, by omega, by go_num, by rw [HM3.out], HS2.out⟩
                    case measure => simp [intOf]; omega
                  | false =>
                    cases p with
                    | true =>
                      refine wp_region_tf (S := fun w' => L07T w w' (iaC st it a2 n2 c2 a3 n3 c3 a4 n4 c4 a5 n5 c5) (iaC su iu b2 m2 d2 b3 m3 d3 b4 m4 d4 b5 m5 d5) (some ⟨bj, oj, none⟩) mj J ra rn L (some ⟨ba, oa, none⟩) na LA (some ⟨bb, ob, none⟩) nb LB) 14 (by kernel_rfl) (by kernel_rfl) (by kernel_rfl) SD (fun hHeld => ?_)
                      refine fast_move 0 75 (.bool false) (.tmp 18) (fuel := 13) rfl rfl (by kernel_rfl) (by kernel_rfl) (by kernel_rfl) (fun _ _ _ h => h) (by kernel_rfl) (by kernel_rfl) (by first | exact Or.inl rfl | exact Or.inr rfl) hHeld (tf 1 14) (by kernel_rfl) (fun K hK => ?_)
                      go_big_move
                      refine hK.out _ ?_
                      clear hK K
                      refine fast_move 1 76 (.bool false) (.tmp 75) (fuel := 12) rfl rfl (by kernel_rfl) (by kernel_rfl) (by kernel_rfl) (fun _ _ _ h => h) (by kernel_rfl) (by kernel_rfl) (by first | exact Or.inl rfl | exact Or.inr rfl) hHeld (tf 3 14) (by kernel_rfl) (fun K hK => ?_)
                      go_big_move
                      refine hK.out _ ?_
                      clear hK K
                      refine fast_move 2 77 (.slice ra rn rc) (.tmp 4) (fuel := 11) rfl rfl (by kernel_rfl) (by kernel_rfl) (by kernel_rfl) (fun _ _ _ h => h) (by kernel_rfl) (by kernel_rfl) (by first | exact Or.inl rfl | exact Or.inr rfl) hHeld (tf 7 14) (by kernel_rfl) (fun K hK => ?_)
                      go_big_move
                      refine hK.out _ ?_
                      clear hK K
                      refine fast_move 3 78 (.slice (some ⟨ba, oa, none⟩) na ca) (.tmp 15) (fuel := 10) rfl rfl (by kernel_rfl) (by kernel_rfl) (by kernel_rfl) (fun _ _ _ h => h) (by kernel_rfl) (by kernel_rfl) (by first | exact Or.inl rfl | exact Or.inr rfl) hHeld (tf 15 14) (by kernel_rfl) (fun K hK => ?_)
                      go_big_move
                      refine hK.out _ ?_
                      clear hK K
                      refine fast_move 4 79 (.int .i64 (i : Int)) (.tmp 17) (fuel := 9) rfl rfl (by kernel_rfl) (by kernel_rfl) (by kernel_rfl) (fun _ _ _ h => h) (by kernel_rfl) (by kernel_rfl) (by first | exact Or.inl rfl | exact Or.inr rfl) hHeld (tf 31 14) (by kernel_rfl) (fun K hK => ?_)
                      go_big_move
                      refine hK.out _ ?_
                      clear hK K
                      refine fast2 5 80 (.pointer (some ⟨ba, oa + i, none⟩)) (.tmp 78) (.slice (some ⟨ba, oa, none⟩) na ca) (.tmp 79) (.int .i64 (i : Int)) (fuel := 8) rfl rfl (by kernel_rfl) (by kernel_rfl) (by kernel_rfl) (fun _ _ _ h => h) (by kernel_rfl) (by kernel_rfl) (by kernel_rfl) (fun ρ hr0 hr1 _ w hSw => by have h1 := j1; have h2 := j2; simp [go_sem, hr0, hr1, h1, h2]) hHeld (tf 63 14) (by kernel_rfl) (fun K hK => ?_)
                      go_big_move
                      refine hK.out _ ?_
                      clear hK K
                      refine fast1 6 81 (.int .i64 x) (.tmp 80) (.pointer (some ⟨ba, oa + i, none⟩)) (fuel := 7) rfl rfl (by kernel_rfl) (by kernel_rfl) (by kernel_rfl) (fun _ _ _ h => h) (by kernel_rfl) (by kernel_rfl) (fun ρ hr0 _ w hSw => by have m := (hSw.2.1.at hin hx); simp [go_sem, hr0, m]) hHeld (tf 127 14) (by kernel_rfl) (fun K hK => ?_)
                      go_big_move
                      refine hK.out _ ?_
                      clear hK K
                      refine fast_move 7 82 (.slice (some ⟨bb, ob, none⟩) nb cb) (.tmp 16) (fuel := 6) rfl rfl (by kernel_rfl) (by kernel_rfl) (by kernel_rfl) (fun _ _ _ h => h) (by kernel_rfl) (by kernel_rfl) (by first | exact Or.inl rfl | exact Or.inr rfl) hHeld (tf 255 14) (by kernel_rfl) (fun K hK => ?_)
                      go_big_move
                      refine hK.out _ ?_
                      clear hK K
                      refine fast_move 8 83 (.int .i64 (m : Int)) (.tmp 19) (fuel := 5) rfl rfl (by kernel_rfl) (by kernel_rfl) (by kernel_rfl) (fun _ _ _ h => h) (by kernel_rfl) (by kernel_rfl) (by first | exact Or.inl rfl | exact Or.inr rfl) hHeld (tf 511 14) (by kernel_rfl) (fun K hK => ?_)
                      go_big_move
                      refine hK.out _ ?_
                      clear hK K
                      refine fast2 9 84 (.pointer (some ⟨bb, ob + m, none⟩)) (.tmp 82) (.slice (some ⟨bb, ob, none⟩) nb cb) (.tmp 83) (.int .i64 (m : Int)) (fuel := 4) rfl rfl (by kernel_rfl) (by kernel_rfl) (by kernel_rfl) (fun _ _ _ h => h) (by kernel_rfl) (by kernel_rfl) (by kernel_rfl) (fun ρ hr0 hr1 _ w hSw => by have h1 := mm1; have h2 := mm2; simp [go_sem, hr0, hr1, h1, h2]) hHeld (tf 1023 14) (by kernel_rfl) (fun K hK => ?_)
                      go_big_move
                      refine hK.out _ ?_
                      clear hK K
                      refine fast1 10 85 (.int .i64 y) (.tmp 84) (.pointer (some ⟨bb, ob + m, none⟩)) (fuel := 3) rfl rfl (by kernel_rfl) (by kernel_rfl) (by kernel_rfl) (fun _ _ _ h => h) (by kernel_rfl) (by kernel_rfl) (fun ρ hr0 _ w hSw => by have m := (hSw.2.2.at hmn hy); simp [go_sem, hr0, m]) hHeld (tf 2047 14) (by kernel_rfl) (fun K hK => ?_)
                      go_big_move
                      refine hK.out _ ?_
                      clear hK K
                      refine wpAnyH_ready (rs := [11]) (fuel := 2) (by kernel_rfl) (by simp) ?_
                      refine ready_want rfl (by kernel_rfl) (tf 4095 14) (by kernel_rfl) (fun K hK => ?_) AllReadyH.nil
                      simp only [List.getElem_toArray, List.getElem_cons_succ, List.getElem_cons_zero]
                      go_big_op
                      refine (CIN.out _ hHeld.1.2.2).mono ?_
                      rintro e w8 ⟨rfl, rfl⟩
                      have hS := hHeld
                      refine hK.out _ _ hS (fun hHeld => ?_)
                      clear hK K
                      refine fast2 12 87 (.bool true) (.tmp 76) (.bool false) (.tmp 86) (.bool true) (fuel := 1) rfl rfl (by kernel_rfl) (by kernel_rfl) (by kernel_rfl) (fun _ _ _ h => h) (by kernel_rfl) (by kernel_rfl) (by kernel_rfl) (fun ρ hr0 hr1 hc w hSw => by simp [go_sem, hc, hr0, hr1]) hHeld (tf 8191 14) (by kernel_rfl) (fun K hK => ?_)
                      go_big_move
                      refine hK.out _ ?_
                      clear hK K
                      refine fast_move 13 18 (.bool true) (.tmp 87) (fuel := 0) rfl rfl (by kernel_rfl) (by kernel_rfl) (by kernel_rfl) (fun _ _ _ h => h) (by kernel_rfl) (by kernel_rfl) (by first | exact Or.inl rfl | exact Or.inr rfl) hHeld (tf 16383 14) (by kernel_rfl) (fun K hK => ?_)
                      go_big_move
                      refine hK.out _ ?_
                      clear hK K
                      refine wpAnyH_done (by kernel_rfl) ?_ _
                      have HS2 := Lib.hid hHeld
                      have HM3 : Hid (((LB.take (m + 1)).any fun y => inRel L x y) = true) := by rw [HM2.out]; rfl
                      clear hHeld SD HM2 CIN
                      go_wp2_with fail
                      go_roundw
                      case rel => exact ⟨m + 1, by omega, by go_num, by rw [HM3.out], HS2.out⟩
                      case measure => simp [intOf]; omega
                    | false =>
                      refine wp_region_tf (S := fun w' => L07T w w' (iaC st it a2 n2 c2 a3 n3 c3 a4 n4 c4 a5 n5 c5) (iaC su iu b2 m2 d2 b3 m3 d3 b4 m4 d4 b5 m5 d5) (some ⟨bj, oj, none⟩) mj J ra rn L (some ⟨ba, oa, none⟩) na LA (some ⟨bb, ob, none⟩) nb LB) 14 (by kernel_rfl) (by kernel_rfl) (by kernel_rfl) SD (fun hHeld => ?_)
                      refine fast_move 0 75 (.bool false) (.tmp 18) (fuel := 13) rfl rfl (by kernel_rfl) (by kernel_rfl) (by kernel_rfl) (fun _ _ _ h => h) (by kernel_rfl) (by kernel_rfl) (by first | exact Or.inl rfl | exact Or.inr rfl) hHeld (tf 1 14) (by kernel_rfl) (fun K hK => ?_)
                      go_big_move
                      refine hK.out _ ?_
                      clear hK K
                      refine fast_move 1 76 (.bool false) (.tmp 75) (fuel := 12) rfl rfl (by kernel_rfl) (by kernel_rfl) (by kernel_rfl) (fun _ _ _ h => h) (by kernel_rfl) (by kernel_rfl) (by first | exact Or.inl rfl | exact Or.inr rfl) hHeld (tf 3 14) (by kernel_rfl) (fun K hK => ?_)
                      go_big_move
                      refine hK.out _ ?_
                      clear hK K
                      refine fast_move 2 77 (.slice ra rn rc) (.tmp 4) (fuel := 11) rfl rfl (by kernel_rfl) (by kernel_rfl) (by kernel_rfl) (fun _ _ _ h => h) (by kernel_rfl) (by kernel_rfl) (by first | exact Or.inl rfl | exact Or.inr rfl) hHeld (tf 7 14) (by kernel_rfl) (fun K hK => ?_)
                      go_big_move
                      refine hK.out _ ?_
                      clear hK K
                      refine fast_move 3 78 (.slice (some ⟨ba, oa, none⟩) na ca) (.tmp 15) (fuel := 10) rfl rfl (by kernel_rfl) (by kernel_rfl) (by kernel_rfl) (fun _ _ _ h => h) (by kernel_rfl) (by kernel_rfl) (by first | exact Or.inl rfl | exact Or.inr rfl) hHeld (tf 15 14) (by kernel_rfl) (fun K hK => ?_)
                      go_big_move
                      refine hK.out _ ?_
                      clear hK K
                      refine fast_move 4 79 (.int .i64 (i : Int)) (.tmp 17) (fuel := 9) rfl rfl (by kernel_rfl) (by kernel_rfl) (by kernel_rfl) (fun _ _ _ h => h) (by kernel_rfl) (by kernel_rfl) (by first | exact Or.inl rfl | exact Or.inr rfl) hHeld (tf 31 14) (by kernel_rfl) (fun K hK => ?_)
                      go_big_move
                      refine hK.out _ ?_
                      clear hK K
                      refine fast2 5 80 (.pointer (some ⟨ba, oa + i, none⟩)) (.tmp 78) (.slice (some ⟨ba, oa, none⟩) na ca) (.tmp 79) (.int .i64 (i : Int)) (fuel := 8) rfl rfl (by kernel_rfl) (by kernel_rfl) (by kernel_rfl) (fun _ _ _ h => h) (by kernel_rfl) (by kernel_rfl) (by kernel_rfl) (fun ρ hr0 hr1 _ w hSw => by have h1 := j1; have h2 := j2; simp [go_sem, hr0, hr1, h1, h2]) hHeld (tf 63 14) (by kernel_rfl) (fun K hK => ?_)
                      go_big_move
                      refine hK.out _ ?_
                      clear hK K
                      refine fast1 6 81 (.int .i64 x) (.tmp 80) (.pointer (some ⟨ba, oa + i, none⟩)) (fuel := 7) rfl rfl (by kernel_rfl) (by kernel_rfl) (by kernel_rfl) (fun _ _ _ h => h) (by kernel_rfl) (by kernel_rfl) (fun ρ hr0 _ w hSw => by have m := (hSw.2.1.at hin hx); simp [go_sem, hr0, m]) hHeld (tf 127 14) (by kernel_rfl) (fun K hK => ?_)
                      go_big_move
                      refine hK.out _ ?_
                      clear hK K
                      refine fast_move 7 82 (.slice (some ⟨bb, ob, none⟩) nb cb) (.tmp 16) (fuel := 6) rfl rfl (by kernel_rfl) (by kernel_rfl) (by kernel_rfl) (fun _ _ _ h => h) (by kernel_rfl) (by kernel_rfl) (by first | exact Or.inl rfl | exact Or.inr rfl) hHeld (tf 255 14) (by kernel_rfl) (fun K hK => ?_)
                      go_big_move
                      refine hK.out _ ?_
                      clear hK K
                      refine fast_move 8 83 (.int .i64 (m : Int)) (.tmp 19) (fuel := 5) rfl rfl (by kernel_rfl) (by kernel_rfl) (by kernel_rfl) (fun _ _ _ h => h) (by kernel_rfl) (by kernel_rfl) (by first | exact Or.inl rfl | exact Or.inr rfl) hHeld (tf 511 14) (by kernel_rfl) (fun K hK => ?_)
                      go_big_move
                      refine hK.out _ ?_
                      clear hK K
                      refine fast2 9 84 (.pointer (some ⟨bb, ob + m, none⟩)) (.tmp 82) (.slice (some ⟨bb, ob, none⟩) nb cb) (.tmp 83) (.int .i64 (m : Int)) (fuel := 4) rfl rfl (by kernel_rfl) (by kernel_rfl) (by kernel_rfl) (fun _ _ _ h => h) (by kernel_rfl) (by kernel_rfl) (by kernel_rfl) (fun ρ hr0 hr1 _ w hSw => by have h1 := mm1; have h2 := mm2; simp [go_sem, hr0, hr1, h1, h2]) hHeld (tf 1023 14) (by kernel_rfl) (fun K hK => ?_)
                      go_big_move
                      refine hK.out _ ?_
                      clear hK K
                      refine fast1 10 85 (.int .i64 y) (.tmp 84) (.pointer (some ⟨bb, ob + m, none⟩)) (fuel := 3) rfl rfl (by kernel_rfl) (by kernel_rfl) (by kernel_rfl) (fun _ _ _ h => h) (by kernel_rfl) (by kernel_rfl) (fun ρ hr0 _ w hSw => by have m := (hSw.2.2.at hmn hy); simp [go_sem, hr0, m]) hHeld (tf 2047 14) (by kernel_rfl) (fun K hK => ?_)
                      go_big_move
                      refine hK.out _ ?_
                      clear hK K
                      refine wpAnyH_ready (rs := [11]) (fuel := 2) (by kernel_rfl) (by simp) ?_
                      refine ready_want rfl (by kernel_rfl) (tf 4095 14) (by kernel_rfl) (fun K hK => ?_) AllReadyH.nil
                      simp only [List.getElem_toArray, List.getElem_cons_succ, List.getElem_cons_zero]
                      go_big_op
                      refine (CIN.out _ hHeld.1.2.2).mono ?_
                      rintro e w8 ⟨rfl, rfl⟩
                      have hS := hHeld
                      refine hK.out _ _ hS (fun hHeld => ?_)
                      clear hK K
                      refine fast2 12 87 (.bool false) (.tmp 76) (.bool false) (.tmp 86) (.bool false) (fuel := 1) rfl rfl (by kernel_rfl) (by kernel_rfl) (by kernel_rfl) (fun _ _ _ h => h) (by kernel_rfl) (by kernel_rfl) (by kernel_rfl) (fun ρ hr0 hr1 hc w hSw => by simp [go_sem, hc, hr0, hr1]) hHeld (tf 8191 14) (by kernel_rfl) (fun K hK => ?_)
                      go_big_move
                      refine hK.out _ ?_
                      clear hK K
                      refine fast_move 13 18 (.bool false) (.tmp 87) (fuel := 0) rfl rfl (by kernel_rfl) (by kernel_rfl) (by kernel_rfl) (fun _ _ _ h => h) (by kernel_rfl) (by kernel_rfl) (by first | exact Or.inl rfl | exact Or.inr rfl) hHeld (tf 16383 14) (by kernel_rfl) (fun K hK => ?_)
                      go_big_move
                      refine hK.out _ ?_
                      clear hK K
                      refine wpAnyH_done (by kernel_rfl) ?_ _
                      have HS2 := Lib.hid hHeld
                      have HM3 : Hid (((LB.take (m + 1)).any fun y => inRel L x y) = false) := by rw [HM2.out]; rfl
                      clear hHeld SD HM2 CIN
                      go_wp2_with fail
                      go_roundw
                      case rel => exact ⟨m + 1, by omega, by go_num, by rw [HM3.out], HS2.out⟩
                      case measure => simp [intOf]; omega
                · obtain rfl : nb = m := by omega
                  have hall : (LB.take nb).any (fun y => inRel L x y) = LB.any fun y => inRel L x y := by
                    rw [List.take_of_length_le (by rw [HNB.out]; exact Nat.le_refl _)]
                  rw [hall]
                  obtain ⟨f, hf⟩ : ∃ f, f = LB.any fun y => inRel L x y := ⟨_, rfl⟩
                  rw [← hf]
                  have HI3 : Hid (AL act = (f && (LA.drop (i + 1)).all (fun x => LB.any fun y => inRel L x y))) := by rw [hf]; exact HI2.out
                  clear HI2 hf hall
                  cases f with
                  | true =>
                    have HI4 : Hid ((LA.drop (i + 1)).all (fun x => LB.any fun y => inRel L x y) = AL act) := by rw [HI3.out]; rfl
                    clear HI3
                    go_wp2_with fail
                    go_roundw
                    case rel => exact ⟨i + 1, by omega, by go_num, HI4.out, HS.out⟩
                    case measure => simp [intOf]; omega
                  | false =>
                    have hr1 : r = false := by rw [HK2.out, HI3.out]; rfl
                    clear HI3 HK2
                    subst hr1
                    go_wp2_with fail
                    go_ret
                    exact ⟨rfl, HS.out.1.1.1⟩
            · obtain rfl : na = i := by omega
              have HK3 : Hid ((J.drop (k + 1)).all AL = r) := by
                have h1 := HI.out
                rw [List.drop_eq_nil_of_le (by rw [HNA.out]; exact Nat.le_refl _)] at h1
                rw [HK2.out, ← h1]
                rfl
              clear HK2 HI
              go_wp2_with fail
              go_roundw
              case rel => exact ⟨k + 1, by omega, by go_num, HK3.out, HS.out.1⟩
              case measure => simp [intOf]; omega
        · obtain rfl : mj = k := by omega
          have hr1 : r = true := by
            have h1 := HK.out
            rw [List.drop_eq_nil_of_le (by rw [HMJ.out]; exact Nat.le_refl _)] at h1
            exact h1.symm
          clear HK
          subst hr1
          go_wp2_with fail
          go_ret
          exact ⟨rfl, HS.out.1.1⟩

end Go.Proofs.YtdbgjgeglgipiaaGreat
