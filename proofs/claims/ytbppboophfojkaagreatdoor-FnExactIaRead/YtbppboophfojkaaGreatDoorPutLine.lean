/-
  What a line says, place by place. Conditions: none; nothing here speaks of the program.
-/
import Derived.Test.YtbppboophfojkaaGreatDoorTextMath
namespace Go.Proofs.YtbppboophfojkaaGreatDoor

theorem readLine_none {i : Nat} {l : List UInt8} {a : IaD} (h : lineAt (wordOf i) l = none) : readLineOf i l a = none := by unfold readLineOf; rw [h]
theorem readLine_some {i : Nat} {l : List UInt8} {a : IaD} {n : List Int} (h : lineAt (wordOf i) l = some n) : readLineOf i l a = putLine i n a := by unfold readLineOf; rw [h]
theorem putLine_0 {n : List Int} (a : IaD) (h : n.length = 2) : putLine 0 n a = some ⟨n.getD 0 0, n.getD 1 0, a.ins, a.outs, a.hids, a.steps⟩ := by unfold putLine; rw [if_pos rfl, if_pos h]
theorem putLine_0no {n : List Int} (a : IaD) (h : ¬ n.length = 2) : putLine 0 n a = none := by unfold putLine; rw [if_pos rfl, if_neg h]
theorem putLine_1 (n : List Int) (a : IaD) : putLine 1 n a = some ⟨a.states, a.init, n, a.outs, a.hids, a.steps⟩ := rfl
theorem putLine_2 (n : List Int) (a : IaD) : putLine 2 n a = some ⟨a.states, a.init, a.ins, n, a.hids, a.steps⟩ := rfl
theorem putLine_3 (n : List Int) (a : IaD) : putLine 3 n a = some ⟨a.states, a.init, a.ins, a.outs, n, a.steps⟩ := rfl
theorem putLine_4 {i : Nat} {n : List Int} (a : IaD) (hi : ¬ i < 4) (h : n.length = 3) : putLine i n a = some ⟨a.states, a.init, a.ins, a.outs, a.hids, a.steps ++ [(n.getD 0 0, n.getD 1 0, n.getD 2 0)]⟩ := by
  unfold putLine
  rw [if_neg (by omega), if_neg (by omega), if_neg (by omega), if_neg (by omega), if_pos h]
theorem putLine_4no {i : Nat} {n : List Int} (a : IaD) (hi : ¬ i < 4) (h : ¬ n.length = 3) : putLine i n a = none := by
  unfold putLine
  rw [if_neg (by omega), if_neg (by omega), if_neg (by omega), if_neg (by omega), if_neg h]

end Go.Proofs.YtbppboophfojkaaGreatDoor
