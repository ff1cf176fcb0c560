/-
  How long the answers of chapter 4 are at most. Conditions: none; nothing here speaks of the program.
-/
import Derived.Test.YtdbgjgeglgipiaaGreatImplHid
namespace Go.Proofs.YtdbgjgeglgipiaaGreat
open Go.RowKit

theorem closeIf_len4 (a : IaD) (s : Int) : (if iaOkB a && stateB a s then closeOf a s else []).length ≤ 4194304 := by
  have := closeIf_len a s
  unfold closeIf at this
  omega

theorem sureIf_len4 (a : IaD) (s : Int) (f2 : a.ins.length ≤ 1048576) : (if iaOkB a && stateB a s then sureOf a s else []).length ≤ 4194304 := by
  have := sure_len a s
  split
  · omega
  · simp

theorem sayIf_len4 (a : IaD) (s : Int) (f3 : a.outs.length ≤ 1048576) : (if iaOkB a && stateB a s then sayOf a s else []).length ≤ 4194304 := by
  have := say_len a s
  split
  · omega
  · simp

theorem farIf_len4 (a : IaD) (s act : Int) (f5 : a.steps.length ≤ 1048576) : (if iaOkB a && stateB a s then farOf a s act else []).length ≤ 4194304 := by
  have := far_len a s act
  split
  · omega
  · simp

theorem insC_at {w : World} {base : Nat} {a : IaD} {v : Value} (h : IaAt w base a v) : InsC v := by
  obtain ⟨g2, g3, g4, g5, rfl, _⟩ := h
  intro x0 x1 n c x3 x4 x5 e
  simp at e

end Go.Proofs.YtdbgjgeglgipiaaGreat
