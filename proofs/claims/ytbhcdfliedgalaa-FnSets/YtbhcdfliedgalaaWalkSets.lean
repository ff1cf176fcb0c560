/-
  The walk of the law FnSets: it returns true at every two codes and writes nothing that was there. Conditions: none.
-/
import Derived.Test.YtbhcdfliedgalaaSetOut
namespace Go.Proofs.Ytbhcdfliedgalaa
open Go.RowKit

theorem Row.drewN {w : World} {a : Option Addr} {n : Nat} {xs : List Int} (h : Row w a n xs) (q : Nat) : Row (w.drewN q) a n xs := h

set_option maxHeartbeats 6400000 in
theorem walk_FnSets (a0 : Option Addr) (len0 cap0 : Nat) (z0 : List Int) (a1 : Option Addr) (len1 cap1 : Nat) (z1 : List Int) (w : World) (w0 : IsRow .u8 w a0 len0 cap0 z0) (w1 : IsRow .u8 w a1 len1 cap1 z1) :
    Calls Try.prog 3 #[.slice a0 len0 cap0, .slice a1 len1 cap1] w fun e w' => e = .returned (.bool true) ∧ Below w.heap.size w w' := by
  have hl := w0.lenAny
  have hl1 := w1.lenAny
  have HA := Lib.hid w0.code
  have HB := Lib.hid w1.code
  clear w0 w1
  by_cases hbig : 1048576 < len0
  · go_enter Try.func3, Try.ntmps3
    go_wp2_with fail
    refine (big_any _ _ _ _ hl).mono ?_
    rintro e w1 ⟨rfl, rfl⟩
    rw [decide_eq_true hbig]
    go_wp2_with fail
    go_ret
    exact ⟨rfl, Below.refl _ _⟩
  by_cases hbig1 : 1048576 < len1
  · go_enter Try.func3, Try.ntmps3
    go_wp2_with fail
    refine (big_any _ _ _ _ hl).mono ?_
    rintro e w1 ⟨rfl, rfl⟩
    rw [decide_eq_false hbig]
    go_wp2_with fail
    refine (big_any _ _ _ _ hl1).mono ?_
    rintro e w1 ⟨rfl, rfl⟩
    rw [decide_eq_true hbig1]
    go_wp2_with fail
    go_ret
    exact ⟨rfl, Below.refl _ _⟩
  go_enter Try.func3, Try.ntmps3
  go_wp2_with fail
  refine (big_any _ _ _ _ hl).mono ?_
  rintro e w1 ⟨rfl, rfl⟩
  rw [decide_eq_false hbig]
  go_wp2_with fail
  refine (big_any _ _ _ _ hl1).mono ?_
  rintro e w ⟨rfl, rfl⟩
  rw [decide_eq_false hbig1]
  go_wp2_with fail
  refine (drawJoin_any _ _ _ _ (by omega) HA.out).mono ?_
  rintro e wd1 ⟨va, vb, nA, nB, xs, ys, rfl, hoA, hoB, hnA, hnB, bd1⟩
  obtain ⟨aA, cA, rfl⟩ := hoA.form
  obtain ⟨aB, cB, rfl⟩ := hoB.form
  have OA0 := Lib.hid hoA
  have OB0 := Lib.hid hoB
  have HB1 := Lib.hid ((HB.out.below bd1).mono bd1.size)
  clear hoA hoB HB
  go_wp2_with fail
  refine (drawMeet_any _ _ _ _ (by omega) HB1.out).mono ?_
  rintro e wd2 ⟨vc, vd, nC, nD, zs, us, rfl, hoC, _, hnC, hnD, bd2⟩
  obtain ⟨aC, cC, rfl⟩ := hoC.form
  have OA1 := Lib.hid (OA0.out.below bd2)
  have OB1 := Lib.hid (OB0.out.below bd2)
  have OC1 := Lib.hid hoC
  have b0 := bd1.trans (bd2.mono bd1.size)
  clear hoC bd1 bd2 OA0 OB0 HB1
  go_wp2_with fail
  refine (implJoin_out _ _ _ _ _ _ xs ys _ OA1.out.row.2.2.2 OB1.out.row.2.2.2 (by omega) (by omega)).mono ?_
  rintro e w1 ⟨aJ, nJ, cJ, rfl, ho, hnJ, hb⟩
  have b2 := b0.trans (hb.mono b0.size)
  have O1 := Lib.hid (OA1.out.below hb)
  clear OA1
  have O2 := Lib.hid (OB1.out.below hb)
  clear OB1
  have O3 := Lib.hid (OC1.out.below hb)
  clear OC1
  have O4 := Lib.hid ho
  clear ho hb b0
  go_wp2_with fail
  refine (implMeet_out _ _ _ _ _ _ xs ys _ O1.out.row.2.2.2 O2.out.row.2.2.2 (by omega) (by omega)).mono ?_
  rintro e w3 ⟨aM, nM, cM, rfl, ho, hnM, hb⟩
  have b4 := b2.trans (hb.mono b2.size)
  have O5 := Lib.hid (O1.out.below hb)
  clear O1
  have O6 := Lib.hid (O2.out.below hb)
  clear O2
  have O7 := Lib.hid (O3.out.below hb)
  clear O3
  have O8 := Lib.hid (O4.out.below hb)
  clear O4
  have O9 := Lib.hid ho
  clear ho hb b2
  go_wp2_with fail
  refine (specJoin_out _ _ _ _ _ _ xs ys _ O5.out.row.2.2.2 O6.out.row.2.2.2 (by omega) (by omega)).mono ?_
  rintro e w5 ⟨aX1, nX1, cX1, rfl, ho, hnX1, hb⟩
  have b6 := b4.trans (hb.mono b4.size)
  have O10 := Lib.hid (O5.out.below hb)
  clear O5
  have O11 := Lib.hid (O6.out.below hb)
  clear O6
  have O12 := Lib.hid (O7.out.below hb)
  clear O7
  have O13 := Lib.hid (O8.out.below hb)
  clear O8
  have O14 := Lib.hid (O9.out.below hb)
  clear O9
  have O15 := Lib.hid ho
  clear ho hb b4
  go_wp2_with fail
  refine (same_yes _ _ _ _ _ _ (joinOf xs ys) (joinOf xs ys) _ O13.out.row.2.2.2 O15.out.row.2.2.2 (rfl) (by omega) (by omega)).mono ?_
  rintro e w7 ⟨rfl, hb⟩
  have b8 := b6.trans (hb.mono b6.size)
  have O16 := Lib.hid (O10.out.below hb)
  clear O10
  have O17 := Lib.hid (O11.out.below hb)
  clear O11
  have O18 := Lib.hid (O12.out.below hb)
  clear O12
  have O19 := Lib.hid (O13.out.below hb)
  clear O13
  have O20 := Lib.hid (O14.out.below hb)
  clear O14
  have O21 := Lib.hid (O15.out.below hb)
  clear O15
  clear hb b6
  clear O21
  go_wp2_with fail
  refine (specMeet_out _ _ _ _ _ _ xs ys _ O16.out.row.2.2.2 O17.out.row.2.2.2 (by omega) (by omega)).mono ?_
  rintro e w9 ⟨aX2, nX2, cX2, rfl, ho, hnX2, hb⟩
  have b10 := b8.trans (hb.mono b8.size)
  have O22 := Lib.hid (O16.out.below hb)
  clear O16
  have O23 := Lib.hid (O17.out.below hb)
  clear O17
  have O24 := Lib.hid (O18.out.below hb)
  clear O18
  have O25 := Lib.hid (O19.out.below hb)
  clear O19
  have O26 := Lib.hid (O20.out.below hb)
  clear O20
  have O27 := Lib.hid ho
  clear ho hb b8
  go_wp2_with fail
  refine (same_yes _ _ _ _ _ _ (meetOf xs ys) (meetOf xs ys) _ O26.out.row.2.2.2 O27.out.row.2.2.2 (rfl) (by omega) (by omega)).mono ?_
  rintro e w11 ⟨rfl, hb⟩
  have b12 := b10.trans (hb.mono b10.size)
  have O28 := Lib.hid (O22.out.below hb)
  clear O22
  have O29 := Lib.hid (O23.out.below hb)
  clear O23
  have O30 := Lib.hid (O24.out.below hb)
  clear O24
  have O31 := Lib.hid (O25.out.below hb)
  clear O25
  have O32 := Lib.hid (O26.out.below hb)
  clear O26
  have O33 := Lib.hid (O27.out.below hb)
  clear O27
  clear hb b10
  clear O33
  go_wp2_with fail
  refine (implJoin_out _ _ _ _ _ _ ys xs _ O29.out.row.2.2.2 O28.out.row.2.2.2 (by omega) (by omega)).mono ?_
  rintro e w13 ⟨aX3, nX3, cX3, rfl, ho, hnX3, hb⟩
  have b14 := b12.trans (hb.mono b12.size)
  have O34 := Lib.hid (O28.out.below hb)
  clear O28
  have O35 := Lib.hid (O29.out.below hb)
  clear O29
  have O36 := Lib.hid (O30.out.below hb)
  clear O30
  have O37 := Lib.hid (O31.out.below hb)
  clear O31
  have O38 := Lib.hid (O32.out.below hb)
  clear O32
  have O39 := Lib.hid ho
  clear ho hb b12
  go_wp2_with fail
  refine (same_yes _ _ _ _ _ _ (joinOf xs ys) (joinOf ys xs) _ O37.out.row.2.2.2 O39.out.row.2.2.2 (join_comm _ _) (by omega) (by omega)).mono ?_
  rintro e w15 ⟨rfl, hb⟩
  have b16 := b14.trans (hb.mono b14.size)
  have O40 := Lib.hid (O34.out.below hb)
  clear O34
  have O41 := Lib.hid (O35.out.below hb)
  clear O35
  have O42 := Lib.hid (O36.out.below hb)
  clear O36
  have O43 := Lib.hid (O37.out.below hb)
  clear O37
  have O44 := Lib.hid (O38.out.below hb)
  clear O38
  have O45 := Lib.hid (O39.out.below hb)
  clear O39
  clear hb b14
  clear O45
  go_wp2_with fail
  refine (implMeet_out _ _ _ _ _ _ ys xs _ O41.out.row.2.2.2 O40.out.row.2.2.2 (by omega) (by omega)).mono ?_
  rintro e w17 ⟨aX4, nX4, cX4, rfl, ho, hnX4, hb⟩
  have b18 := b16.trans (hb.mono b16.size)
  have O46 := Lib.hid (O40.out.below hb)
  clear O40
  have O47 := Lib.hid (O41.out.below hb)
  clear O41
  have O48 := Lib.hid (O42.out.below hb)
  clear O42
  have O49 := Lib.hid (O43.out.below hb)
  clear O43
  have O50 := Lib.hid (O44.out.below hb)
  clear O44
  have O51 := Lib.hid ho
  clear ho hb b16
  go_wp2_with fail
  refine (same_yes _ _ _ _ _ _ (meetOf xs ys) (meetOf ys xs) _ O50.out.row.2.2.2 O51.out.row.2.2.2 (meet_comm _ _) (by omega) (by omega)).mono ?_
  rintro e w19 ⟨rfl, hb⟩
  have b20 := b18.trans (hb.mono b18.size)
  have O52 := Lib.hid (O46.out.below hb)
  clear O46
  have O53 := Lib.hid (O47.out.below hb)
  clear O47
  have O54 := Lib.hid (O48.out.below hb)
  clear O48
  have O55 := Lib.hid (O49.out.below hb)
  clear O49
  have O56 := Lib.hid (O50.out.below hb)
  clear O50
  have O57 := Lib.hid (O51.out.below hb)
  clear O51
  clear hb b18
  clear O57
  go_wp2_with fail
  refine (implLess_out _ _ _ _ _ _ xs ys _ O52.out.row.2.2.2 O53.out.row.2.2.2 (by omega) (by omega)).mono ?_
  rintro e w21 ⟨aX5, nX5, cX5, rfl, ho, hnX5, hb⟩
  have b22 := b20.trans (hb.mono b20.size)
  have O58 := Lib.hid (O52.out.below hb)
  clear O52
  have O59 := Lib.hid (O53.out.below hb)
  clear O53
  have O60 := Lib.hid (O54.out.below hb)
  clear O54
  have O61 := Lib.hid (O55.out.below hb)
  clear O55
  have O62 := Lib.hid (O56.out.below hb)
  clear O56
  have O63 := Lib.hid ho
  clear ho hb b20
  go_wp2_with fail
  refine (implJoin_out _ _ _ _ _ _ (lessOf xs ys) (meetOf xs ys) _ O63.out.row.2.2.2 O62.out.row.2.2.2 (by omega) (by omega)).mono ?_
  rintro e w23 ⟨aX6, nX6, cX6, rfl, ho, hnX6, hb⟩
  have b24 := b22.trans (hb.mono b22.size)
  have O64 := Lib.hid (O58.out.below hb)
  clear O58
  have O65 := Lib.hid (O59.out.below hb)
  clear O59
  have O66 := Lib.hid (O60.out.below hb)
  clear O60
  have O67 := Lib.hid (O61.out.below hb)
  clear O61
  have O68 := Lib.hid (O62.out.below hb)
  clear O62
  have O69 := Lib.hid (O63.out.below hb)
  clear O63
  have O70 := Lib.hid ho
  clear ho hb b22
  go_wp2_with fail
  refine (implJoin_out _ _ _ _ _ _ xs [] _ O64.out.row.2.2.2 (Row.nil _) (by omega) (by omega)).mono ?_
  rintro e w25 ⟨aX7, nX7, cX7, rfl, ho, hnX7, hb⟩
  have b26 := b24.trans (hb.mono b24.size)
  have O71 := Lib.hid (O64.out.below hb)
  clear O64
  have O72 := Lib.hid (O65.out.below hb)
  clear O65
  have O73 := Lib.hid (O66.out.below hb)
  clear O66
  have O74 := Lib.hid (O67.out.below hb)
  clear O67
  have O75 := Lib.hid (O68.out.below hb)
  clear O68
  have O76 := Lib.hid (O69.out.below hb)
  clear O69
  have O77 := Lib.hid (O70.out.below hb)
  clear O70
  have O78 := Lib.hid ho
  clear ho hb b24
  go_wp2_with fail
  refine (same_yes _ _ _ _ _ _ (joinOf (lessOf xs ys) (meetOf xs ys)) (joinOf xs []) _ O77.out.row.2.2.2 O78.out.row.2.2.2 (less_meet _ _) (by omega) (by omega)).mono ?_
  rintro e w27 ⟨rfl, hb⟩
  have b28 := b26.trans (hb.mono b26.size)
  have O79 := Lib.hid (O71.out.below hb)
  clear O71
  have O80 := Lib.hid (O72.out.below hb)
  clear O72
  have O81 := Lib.hid (O73.out.below hb)
  clear O73
  have O82 := Lib.hid (O74.out.below hb)
  clear O74
  have O83 := Lib.hid (O75.out.below hb)
  clear O75
  have O84 := Lib.hid (O76.out.below hb)
  clear O76
  have O85 := Lib.hid (O77.out.below hb)
  clear O77
  have O86 := Lib.hid (O78.out.below hb)
  clear O78
  clear hb b26
  clear O84
  clear O85
  clear O86
  go_wp2_with fail
  refine (implLess_out _ _ _ _ _ _ xs ys _ O79.out.row.2.2.2 O80.out.row.2.2.2 (by omega) (by omega)).mono ?_
  rintro e w29 ⟨aX8, nX8, cX8, rfl, ho, hnX8, hb⟩
  have b30 := b28.trans (hb.mono b28.size)
  have O87 := Lib.hid (O79.out.below hb)
  clear O79
  have O88 := Lib.hid (O80.out.below hb)
  clear O80
  have O89 := Lib.hid (O81.out.below hb)
  clear O81
  have O90 := Lib.hid (O82.out.below hb)
  clear O82
  have O91 := Lib.hid (O83.out.below hb)
  clear O83
  have O92 := Lib.hid ho
  clear ho hb b28
  go_wp2_with fail
  refine (implJoin_out _ _ _ _ _ _ (lessOf xs ys) ys _ O92.out.row.2.2.2 O88.out.row.2.2.2 (by omega) (by omega)).mono ?_
  rintro e w31 ⟨aX9, nX9, cX9, rfl, ho, hnX9, hb⟩
  have b32 := b30.trans (hb.mono b30.size)
  have O93 := Lib.hid (O87.out.below hb)
  clear O87
  have O94 := Lib.hid (O88.out.below hb)
  clear O88
  have O95 := Lib.hid (O89.out.below hb)
  clear O89
  have O96 := Lib.hid (O90.out.below hb)
  clear O90
  have O97 := Lib.hid (O91.out.below hb)
  clear O91
  have O98 := Lib.hid (O92.out.below hb)
  clear O92
  have O99 := Lib.hid ho
  clear ho hb b30
  go_wp2_with fail
  refine (same_yes _ _ _ _ _ _ (joinOf (lessOf xs ys) ys) (joinOf xs ys) _ O99.out.row.2.2.2 O96.out.row.2.2.2 (less_join _ _) (by omega) (by omega)).mono ?_
  rintro e w33 ⟨rfl, hb⟩
  have b34 := b32.trans (hb.mono b32.size)
  have O100 := Lib.hid (O93.out.below hb)
  clear O93
  have O101 := Lib.hid (O94.out.below hb)
  clear O94
  have O102 := Lib.hid (O95.out.below hb)
  clear O95
  have O103 := Lib.hid (O96.out.below hb)
  clear O96
  have O104 := Lib.hid (O97.out.below hb)
  clear O97
  have O105 := Lib.hid (O98.out.below hb)
  clear O98
  have O106 := Lib.hid (O99.out.below hb)
  clear O99
  clear hb b32
  clear O105
  clear O106
  go_wp2_with fail
  refine (in_yes2 _ _ _ _ _ _ (meetOf xs ys) xs _ O104.out.row.2.2.2 O100.out.row.2.2.2 (meet_in _ _) (by omega) (by omega)).mono ?_
  rintro e w35 ⟨rfl, hb⟩
  have b36 := b34.trans (hb.mono b34.size)
  have O107 := Lib.hid (O100.out.below hb)
  clear O100
  have O108 := Lib.hid (O101.out.below hb)
  clear O101
  have O109 := Lib.hid (O102.out.below hb)
  clear O102
  have O110 := Lib.hid (O103.out.below hb)
  clear O103
  have O111 := Lib.hid (O104.out.below hb)
  clear O104
  clear hb b34
  go_wp2_with fail
  refine (in_yes2 _ _ _ _ _ _ xs (joinOf xs ys) _ O107.out.row.2.2.2 O110.out.row.2.2.2 (in_join _ _) (by omega) (by omega)).mono ?_
  rintro e w37 ⟨rfl, hb⟩
  have b38 := b36.trans (hb.mono b36.size)
  have O112 := Lib.hid (O107.out.below hb)
  clear O107
  have O113 := Lib.hid (O108.out.below hb)
  clear O108
  have O114 := Lib.hid (O109.out.below hb)
  clear O109
  have O115 := Lib.hid (O110.out.below hb)
  clear O110
  have O116 := Lib.hid (O111.out.below hb)
  clear O111
  clear hb b36
  go_wp2_with fail
  have HJA := Lib.hid O112.out.row.2.2.2
  have HJB := Lib.hid O113.out.row.2.2.2
  have HJJ := Lib.hid O115.out.row.2.2.2
  have HJL := Lib.hid O115.out.length
  generalize hwl : w37 = wl at O112 O113 O114 O115 O116 b38 HJA HJB HJJ ⊢
  clear hwl
  go_loopw [11] (fun i wr => ∃ k : Nat, k ≤ nJ ∧ i = .int .i64 k ∧ Below wl.heap.size wl wr) (fun i _ => nJ - (intOf i).toNat)
  case atStart => exact ⟨0, Nat.zero_le _, rfl, Below.refl _ _⟩
  case round =>
    obtain ⟨k, hk, rfl, hnx⟩ := hrel
    by_cases hlt : k < nJ
    · obtain ⟨b, off, rfl, hb, hcell⟩ := HJJ.out.2 (by omega)
      obtain ⟨x, hx⟩ : ∃ x, x = (joinOf xs ys).getD k 0 := ⟨_, rfl⟩
      have g1 : wr.cell? ⟨b, off + k, none⟩ = some (.int .i64 x) := by rw [hx]; exact (hnx.cell (p := ⟨b, off + k, none⟩) hb).trans (hcell k hlt)
      have hxJ : x ∈ joinOf xs ys := by rw [hx, getD_eq _ k (by rw [HJL.out]; exact hlt)]; exact List.getElem_mem _
      have tJ : hasB (joinOf xs ys) x = true := has_yes hxJ
      have hor := mem_joinOf.1 hxJ
      have QJ : Hid (∀ q, Calls Try.prog 20 #[.slice (some ⟨b, off, none⟩) nJ cJ, .int .i64 x] (wr.drewN q) fun e w' => e = .returned (.bool (hasB (joinOf xs ys) x)) ∧ w' = wr.drewN q) := fun q => implSetHas_any _ _ _ _ _ _ ((HJJ.out.below hnx).drewN q) (by omega)
      have QA : Hid (∀ q, Calls Try.prog 20 #[.slice aA nA cA, .int .i64 x] (wr.drewN q) fun e w' => e = .returned (.bool (hasB xs x)) ∧ w' = wr.drewN q) := fun q => implSetHas_any _ _ _ _ _ _ ((HJA.out.below hnx).drewN q) (by omega)
      have QB : Hid (∀ q, Calls Try.prog 20 #[.slice aB nB cB, .int .i64 x] (wr.drewN q) fun e w' => e = .returned (.bool (hasB ys x)) ∧ w' = wr.drewN q) := fun q => implSetHas_any _ _ _ _ _ _ ((HJB.out.below hnx).drewN q) (by omega)
      clear hx hcell hxJ
      by_cases hA : x ∈ xs
      · have tA : hasB xs x = true := has_yes hA
        clear hA hor
        go_wp2_with fail
        go_quiet ((first | (go_at_call 20; with_reducible exact Calls.quiet_of_same (QJ.out _)) | (go_at_call 20; with_reducible exact Calls.quiet_of_same (QA.out _)) | (go_at_call 20; with_reducible exact Calls.quiet_of_same (QB.out _))))
        go_wp2_with fail
        go_roundw
        case rel => exact ⟨k + 1, by omega, by go_num, below_drewN hnx _⟩
        case measure => simp [intOf]; omega
      · have tA : hasB xs x = false := has_no hA
        have tB : hasB ys x = true := has_yes (by rcases hor with h | h; exact absurd h hA; exact h)
        clear hA hor
        go_wp2_with fail
        go_quiet ((first | (go_at_call 20; with_reducible exact Calls.quiet_of_same (QJ.out _)) | (go_at_call 20; with_reducible exact Calls.quiet_of_same (QA.out _)) | (go_at_call 20; with_reducible exact Calls.quiet_of_same (QB.out _))))
        go_wp2_with fail
        go_roundw
        case rel => exact ⟨k + 1, by omega, by go_num, below_drewN hnx _⟩
        case measure => simp [intOf]; omega
    · have P1 := Lib.hid (O112.out.below hnx)
      have P2 := Lib.hid (O113.out.below hnx)
      have P3 := Lib.hid (O114.out.below hnx)
      have P4 := Lib.hid (O115.out.below hnx)
      have P5 := Lib.hid (O116.out.below hnx)
      have c0 := b38.trans (hnx.mono b38.size)
      clear O112 O113 O114 O115 O116 b38 hnx HJA HJB HJJ
      go_wp2_with fail
      refine (implJoin_out _ _ _ _ _ _ (joinOf xs ys) zs _ P4.out.row.2.2.2 P3.out.row.2.2.2 (by omega) (by omega)).mono ?_
      rintro e w101 ⟨aY1, nY1, cY1, rfl, ho, hnY1, hb⟩
      have b102 := c0.trans (hb.mono c0.size)
      have O101 := Lib.hid (P1.out.below hb)
      clear P1
      have O102 := Lib.hid (P2.out.below hb)
      clear P2
      have O103 := Lib.hid (P3.out.below hb)
      clear P3
      have O104 := Lib.hid (P4.out.below hb)
      clear P4
      have O105 := Lib.hid (P5.out.below hb)
      clear P5
      have O106 := Lib.hid ho
      clear ho hb c0
      go_wp2_with fail
      refine (implJoin_out _ _ _ _ _ _ ys zs _ O102.out.row.2.2.2 O103.out.row.2.2.2 (by omega) (by omega)).mono ?_
      rintro e w103 ⟨aY2, nY2, cY2, rfl, ho, hnY2, hb⟩
      have b104 := b102.trans (hb.mono b102.size)
      have O107 := Lib.hid (O101.out.below hb)
      clear O101
      have O108 := Lib.hid (O102.out.below hb)
      clear O102
      have O109 := Lib.hid (O103.out.below hb)
      clear O103
      have O110 := Lib.hid (O104.out.below hb)
      clear O104
      have O111 := Lib.hid (O105.out.below hb)
      clear O105
      have O112 := Lib.hid (O106.out.below hb)
      clear O106
      have O113 := Lib.hid ho
      clear ho hb b102
      go_wp2_with fail
      refine (implJoin_out _ _ _ _ _ _ xs (joinOf ys zs) _ O107.out.row.2.2.2 O113.out.row.2.2.2 (by omega) (by omega)).mono ?_
      rintro e w105 ⟨aY3, nY3, cY3, rfl, ho, hnY3, hb⟩
      have b106 := b104.trans (hb.mono b104.size)
      have O114 := Lib.hid (O107.out.below hb)
      clear O107
      have O115 := Lib.hid (O108.out.below hb)
      clear O108
      have O116 := Lib.hid (O109.out.below hb)
      clear O109
      have O117 := Lib.hid (O110.out.below hb)
      clear O110
      have O118 := Lib.hid (O111.out.below hb)
      clear O111
      have O119 := Lib.hid (O112.out.below hb)
      clear O112
      have O120 := Lib.hid (O113.out.below hb)
      clear O113
      have O121 := Lib.hid ho
      clear ho hb b104
      go_wp2_with fail
      refine (same_yes _ _ _ _ _ _ (joinOf (joinOf xs ys) zs) (joinOf xs (joinOf ys zs)) _ O119.out.row.2.2.2 O121.out.row.2.2.2 (join_assoc _ _ _) (by omega) (by omega)).mono ?_
      rintro e w107 ⟨rfl, hb⟩
      have b108 := b106.trans (hb.mono b106.size)
      have O122 := Lib.hid (O114.out.below hb)
      clear O114
      have O123 := Lib.hid (O115.out.below hb)
      clear O115
      have O124 := Lib.hid (O116.out.below hb)
      clear O116
      have O125 := Lib.hid (O117.out.below hb)
      clear O117
      have O126 := Lib.hid (O118.out.below hb)
      clear O118
      have O127 := Lib.hid (O119.out.below hb)
      clear O119
      have O128 := Lib.hid (O120.out.below hb)
      clear O120
      have O129 := Lib.hid (O121.out.below hb)
      clear O121
      clear hb b106
      clear O127
      clear O128
      clear O129
      go_wp2_with fail
      refine (implMeet_out _ _ _ _ _ _ (meetOf xs ys) zs _ O126.out.row.2.2.2 O124.out.row.2.2.2 (by omega) (by omega)).mono ?_
      rintro e w109 ⟨aY4, nY4, cY4, rfl, ho, hnY4, hb⟩
      have b110 := b108.trans (hb.mono b108.size)
      have O130 := Lib.hid (O122.out.below hb)
      clear O122
      have O131 := Lib.hid (O123.out.below hb)
      clear O123
      have O132 := Lib.hid (O124.out.below hb)
      clear O124
      have O133 := Lib.hid (O125.out.below hb)
      clear O125
      have O134 := Lib.hid (O126.out.below hb)
      clear O126
      have O135 := Lib.hid ho
      clear ho hb b108
      go_wp2_with fail
      refine (implMeet_out _ _ _ _ _ _ ys zs _ O131.out.row.2.2.2 O132.out.row.2.2.2 (by omega) (by omega)).mono ?_
      rintro e w111 ⟨aY5, nY5, cY5, rfl, ho, hnY5, hb⟩
      have b112 := b110.trans (hb.mono b110.size)
      have O136 := Lib.hid (O130.out.below hb)
      clear O130
      have O137 := Lib.hid (O131.out.below hb)
      clear O131
      have O138 := Lib.hid (O132.out.below hb)
      clear O132
      have O139 := Lib.hid (O133.out.below hb)
      clear O133
      have O140 := Lib.hid (O134.out.below hb)
      clear O134
      have O141 := Lib.hid (O135.out.below hb)
      clear O135
      have O142 := Lib.hid ho
      clear ho hb b110
      go_wp2_with fail
      refine (implMeet_out _ _ _ _ _ _ xs (meetOf ys zs) _ O136.out.row.2.2.2 O142.out.row.2.2.2 (by omega) (by omega)).mono ?_
      rintro e w113 ⟨aY6, nY6, cY6, rfl, ho, hnY6, hb⟩
      have b114 := b112.trans (hb.mono b112.size)
      have O143 := Lib.hid (O136.out.below hb)
      clear O136
      have O144 := Lib.hid (O137.out.below hb)
      clear O137
      have O145 := Lib.hid (O138.out.below hb)
      clear O138
      have O146 := Lib.hid (O139.out.below hb)
      clear O139
      have O147 := Lib.hid (O140.out.below hb)
      clear O140
      have O148 := Lib.hid (O141.out.below hb)
      clear O141
      have O149 := Lib.hid (O142.out.below hb)
      clear O142
      have O150 := Lib.hid ho
      clear ho hb b112
      go_wp2_with fail
      refine (same_yes _ _ _ _ _ _ (meetOf (meetOf xs ys) zs) (meetOf xs (meetOf ys zs)) _ O148.out.row.2.2.2 O150.out.row.2.2.2 (meet_assoc _ _ _) (by omega) (by omega)).mono ?_
      rintro e w115 ⟨rfl, hb⟩
      have b116 := b114.trans (hb.mono b114.size)
      have O151 := Lib.hid (O143.out.below hb)
      clear O143
      have O152 := Lib.hid (O144.out.below hb)
      clear O144
      have O153 := Lib.hid (O145.out.below hb)
      clear O145
      have O154 := Lib.hid (O146.out.below hb)
      clear O146
      have O155 := Lib.hid (O147.out.below hb)
      clear O147
      have O156 := Lib.hid (O148.out.below hb)
      clear O148
      have O157 := Lib.hid (O149.out.below hb)
      clear O149
      have O158 := Lib.hid (O150.out.below hb)
      clear O150
      clear hb b114
      go_wp2_with fail
      go_ret
      exact ⟨rfl, b116⟩

end Go.Proofs.Ytbhcdfliedgalaa
