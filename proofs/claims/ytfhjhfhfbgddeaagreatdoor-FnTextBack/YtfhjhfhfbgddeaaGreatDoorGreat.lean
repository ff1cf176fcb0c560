/-
  What the rows' list of variables and the world's shape give the program's reading, a world that meets the list, and the frame of a row's proof in which the world's shape is kept. Conditions: the variables read as the given rows list them.
-/
import Derived.Test.YtfhjhfhfbgddeaaGreatDoorLaid
import Derived.Test.YtfhjhfhfbgddeaaGreatDoorImplRead
import Derived.Handed
import Derived.HandedShaped
import Derived.OpenVars
import Derived.Lay
import Derived.LaidHandle
import Derived.Shelf.Vars
namespace Go.Proofs.YtfhjhfhfbgddeaaGreatDoor
open Go.RowKit

theorem gTL : Tryz.prog.globalNamed "loop.example/g00645/impl.errTooLong" = some 0 := by kernel_rfl
theorem gTLType : (Tryz.prog.globals[ 0 ]?).map (·.type) = some 42 := by kernel_rfl
theorem gNO : Tryz.prog.globalNamed "loop.example/g00645/impl.errNotOk" = some 1 := by kernel_rfl
theorem gNOType : (Tryz.prog.globals[ 1 ]?).map (·.type) = some 42 := by kernel_rfl
theorem gET : Tryz.prog.globalNamed "errors.errorType" = some 2 := by kernel_rfl
theorem rtIs : (Tryz.prog.cutTypes.find? (·.1 == "internal/reflectlite.rtype")).map (·.2) = some 101 := by kernel_rfl
theorem oneRow : ((List.range Tryz.prog.types.size).filter fun t => Tryz.prog.rowNamed t [101, 114, 114, 111, 114]) = [ 42 ] := by kernel_rfl

theorem sents_of {W : World} {l : List (String × DataW Unit)} (h : laidMetH Tryz.prog l W) (hs : l.filter (fun x => x.1 == "loop.example/g00645/impl.errTooLong") = [("loop.example/g00645/impl.errTooLong", Rows.laid_loop_example_g00645_impl_errTooLong)])
    (hr : l.filter (fun x => x.1 == "loop.example/g00645/impl.errNotOk") = [("loop.example/g00645/impl.errNotOk", Rows.laid_loop_example_g00645_impl_errNotOk)]) : Sent 0 W ∧ Sent 1 W := by
  have h1 := laidMetH.filter (fun x => x.1 == "loop.example/g00645/impl.errTooLong") h
  rw [hs, MakeChecks.laidMetH_plain _ _ _ (by kernel_rfl)] at h1
  have h2 := laidMetH.filter (fun x => x.1 == "loop.example/g00645/impl.errNotOk") h
  rw [hr, MakeChecks.laidMetH_plain _ _ _ (by kernel_rfl)] at h2
  obtain ⟨a0, s0, hv0, -, -, -⟩ := laid_sentinel h1 gTL gTLType Tryz.underlying42 rowErr Tryz.underlying194 Tryz.underlying196 rfl rfl Tryz.underlying9 cellsErr cellsStr
  obtain ⟨a1, s1, hv1, -, -, -⟩ := laid_sentinel h2 gNO gNOType Tryz.underlying42 rowErr Tryz.underlying194 Tryz.underlying196 rfl rfl Tryz.underlying9 cellsErr cellsStr
  exact ⟨⟨_, by simpa using World.var?_cell gTL hv0 0⟩, ⟨_, by simpa using World.var?_cell gNO hv1 0⟩⟩

theorem handle_of {W : World} {l : List (String × DataW Unit)} (h : laidMetH Tryz.prog l W) (hs : (l.filter fun x => x.2.handleName?.isSome) = [("errors.errorType", Rows.laid_errors_errorType)]) : Handle W := by
  unfold laidMetH at h
  rw [hs] at h
  obtain ⟨name, u, ty, e1, e2, e3, e4, e5⟩ := h.2 _ (List.mem_singleton.2 rfl)
  have en : name = [101, 114, 114, 111, 114] := (Option.some.inj e1).symm
  subst en
  obtain rfl := Option.some.inj (rtIs.symm.trans e2)
  have hm : ty ∈ (List.range Tryz.prog.types.size).filter fun t => Tryz.prog.rowNamed t [101, 114, 114, 111, 114] := List.mem_filter.2 ⟨List.mem_range.2 e3, e4⟩
  rw [oneRow] at hm
  obtain rfl := List.mem_singleton.1 hm
  have hh : typeHandle Tryz.prog 42 = .pointer (some ⟨11, 42, none⟩) := by kernel_rfl
  rw [hh] at e5
  have := World.var?_cell gET e5 0
  simpa [Handle] using this

theorem srch_of {W : World} (h : W.ShapedOpen Tryz.prog) : Srch W :=
  cell_of_shapedOpen_int (k := .i64) (t := 3) (zero := #[.int .i64 0]) h (of_decide_eq_true (by kernel_rfl)) (by kernel_rfl) rfl (by kernel_rfl) (by kernel_rfl) Tryz.underlying3

/-- The frame of a row's proof, with what the list says and with the world's shape. -/
theorem handed_of {H : Type} {enc : TypeId × Value → H} {a : Assume} {C : Checked} {os : Os} {f : FuncId} {fn : Func} {s : ChangeSpec} {conds : List PathCond} {apart fresh handsOn again : Bool} {X : World → Array Value → Prop}
    (hX : ∀ (w w' : World) (args : Array Value), w.heap = w'.heap → X w args → X w' args)
    (own : ownKnob C.prog.godebug = none) (started : os.Started) (noInit : C.prog.inits.idxOf? f = none) (hfn : C.prog.funcs[f]? = some fn)
    (witness : ∃ (w : World) (tape : Tape) (i : Input), w.os = os ∧ (w.forCall tape i).Shaped C.prog ∧ i.vars = [] ∧ Input.okWide C.prog (w.forCall tape i) .any w.heap.size f i ∧
      ((s.pre enc C.prog fn conds apart (w.forCall tape i).memory i.args ∧ X (w.forCall tape i).memory i.args) ∧ sizedMet enc C.prog fn (OpenSpec.ofChange s) apart (w.forCall tape i).memory i.args) ∧ a.holds C.prog (lone (Frame.enter C.prog f i.args .normal) [] (w.forCall tape i)))
    (contract : ∀ (W : World) (base : Nat) (args : Array Value) (ds gs : List (DataW H)) (before : List MemPlace),
      (∀ (j : Nat) t v, fn.params[j]? = some t → args[j]? = some v → Value.okWide C.prog W .any base t v) →
      DataW.Whole enc C.prog fn.params.toList s.vars apart W args.toList ds gs before → X W args → W.ShapedOpen C.prog →
      Calls C.prog f args W fun e W' => ∃ v, e = .returned v ∧ s.post enc C.prog fn apart fresh handsOn again W args v W') :
    ReturnsInHanded a C os f .any (fun w args => (s.pre enc C.prog fn conds apart w args ∧ X w args) ∧ sizedMet enc C.prog fn (OpenSpec.ofChange s) apart w args) (s.post enc C.prog fn apart fresh handsOn again) := by
  refine returnsInHanded_of_calls own started noInit witness ?_
  intro w tape i _ hsh _ hok hpre _
  obtain ⟨_, _, _, fn', hfn', _, _, _, _, hval⟩ := hok
  obtain rfl : fn' = fn := Option.some.inj (hfn'.symm.trans hfn)
  obtain ⟨⟨⟨ds, gs, before, hw, _⟩, hx⟩, _⟩ := hpre
  refine (contract (w.forCall tape i) w.heap.size i.args ds gs before hval (DataW.Whole.of_heap (w' := w.forCall tape i) (by rfl) hw) (hX _ _ _ (by rfl) hx) hsh).mono fun e W' ⟨v, he, hp⟩ => ?_
  subst he
  exact ChangeSpec.post_blind hp

/-- The settled world, with errors.errorType's handle in its place. -/
noncomputable def handWorld (os : Os) : World :=
  { World.holding Tryz.prog os ⟨#[], #[], []⟩ with heap := (World.holding Tryz.prog os ⟨#[], #[], []⟩).heap.modify 2 fun
      | .cells _ t frozen => .cells #[.iface 101 (.agg #[.pointer (some ⟨11, 42, none⟩)])] t frozen
      | o => o }

/-- The listed variables that hold plain data, and no handle. -/
def plainLaid (l : List (String × DataW Unit)) : List (String × DataW Unit) := l.filter fun x => x.2.handleName?.isNone

noncomputable def greatWorld (os : Os) (l : List (String × DataW Unit)) : World := (handWorld os).layVars Tryz.prog (plainLaid l)

theorem greatWorld_os (os : Os) (l : List (String × DataW Unit)) : (greatWorld os l).os = os := World.layVars_os _ _ _

theorem plain_met {os : Os} {l : List (String × DataW Unit)} (args : Array Value) (hf : (handWorld os).layFits Tryz.prog (plainLaid l) [] = true) (hi : (handWorld os).layIfaces Tryz.prog (plainLaid l) (greatWorld os l) = true) :
    laidMet Tryz.prog (plainLaid l) ((greatWorld os l).forCall (fun _ _ => 0) ⟨#[], args, []⟩).memory := by
  have e1 : ((plainLaid l).filter fun x => ((plainLaid l).map (·.1)).contains x.1) = plainLaid l := List.filter_eq_self.2 fun x hx => List.contains_iff_mem.2 (List.mem_map.2 ⟨x, hx, rfl⟩)
  have e2 : ((plainLaid l).filter fun x => !((plainLaid l).map (·.1)).contains x.1) = [] := List.filter_eq_nil_iff.2 fun x hx => by rw [List.contains_iff_mem.2 (List.mem_map.2 ⟨x, hx, rfl⟩)]; simp
  have h : laidMet Tryz.prog (plainLaid l) (greatWorld os l) := laidMet_layVars (w0 := handWorld os) ((plainLaid l).map (·.1)) [] (by rw [e1]; rfl) (by rw [e1]; exact hf) (by rw [e1]; exact hi) (by rw [e2]; exact LaidIn.none)
  exact h.of_heap (by simp [World.memory, World.forCall, Input.heap])

end Go.Proofs.YtfhjhfhfbgddeaaGreatDoor
