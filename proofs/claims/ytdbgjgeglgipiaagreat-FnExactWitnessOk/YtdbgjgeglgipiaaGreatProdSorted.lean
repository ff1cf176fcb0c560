/-
  slices.SortFunc by compareSteps at a row of steps of the call's own: the row holds the steps sorted; the steps of a product, sorted. Conditions: as each statement says.
-/
import Derived.Test.YtdbgjgeglgipiaaGreatProdSort
namespace Go.Proofs.YtdbgjgeglgipiaaGreat
open Go.RowKit Go.Sort Go.Proofs Go.Shelf

/-- A block of cells whose first ones are vs holds vs. -/
theorem holdsV {w : World} {g : Nat} {cur : Array Value} {e : TypeId} {vs : List Value} (hb : w.heap[g]? = some (.cells cur e (0, 0))) (ht : cur.toList.take vs.length = vs) : Holds id w g 0 vs.toArray := fun j hj => by
  have hl : j < vs.length := by simpa using hj
  have hc : cur[j]? = some vs[j] := by rw [← Array.getElem?_toList, ← List.getElem?_take_of_lt hl, ht, List.getElem?_eq_getElem hl]
  constructor
  · simp [World.cell?, hb, hc, hl]
  · simp [World.frozen?, hb]

/-- What a sort writes: block g alone, and new memory. -/
theorem sorted_heap (w : World) (g n : Nat) (os : Array Obj) (d : Array Value) (k : Nat) (hk : k < w.heap.size) :
    (grow (putRow id (Sort.ahead w n) g 0 d) os).heap[k]? = if g = k then (w.heap[k]?).map (onCells (putCells id 0 d)) else w.heap[k]? := by
  rw [heap_grow_old _ _ (by simpa using hk)]
  by_cases e : g = k <;> simp [putRow, mapBlock, Sort.ahead, Array.getElem?_modify, e]

theorem heap_sortedV {w : World} {g n : Nat} {os : Array Obj} {cur : Array Value} {e : TypeId} {fr : Nat × Nat} (d : Array Value) (hb : w.heap[g]? = some (.cells cur e fr)) :
    (grow (putRow id (Sort.ahead w n) g 0 d) os).heap[g]? = some (.cells (putCells id 0 d cur) e fr) := by
  rw [sorted_heap w g n os d g (Array.getElem?_eq_some_iff.1 hb).1, if_pos rfl, hb]
  rfl

theorem grownBy_sortedV {w : World} {g n : Nat} {os : Array Obj} (d : Array Value) : w.grownBy (grow (putRow id (Sort.ahead w n) g 0 d) os) (some g) where
  os := rfl
  tape := rfl
  output := rfl
  size := by simp
  block k hk hne := by rw [sorted_heap w g n os d k hk, if_neg (fun e => hne (by rw [e]))]

theorem take_putCellsV (cur : Array Value) (vs : List Value) (h : vs.length ≤ cur.size) : (putCells id 0 vs.toArray cur).toList.take vs.length = vs := by
  refine List.ext_getElem (by simp [putCells]; omega) (fun j h1 h2 => ?_)
  simp [putCells, h2]

theorem flatK_flat (ss : List St) : flatK stCells 3 ss.toArray = (flat ss).toArray := by
  refine ext_get! (by simp [flat_length]) (fun t ht => ?_)
  have ht' : t < ss.length * 3 := by simpa using ht
  rw [get_flatK _ _ _ _ (by simpa using ht')]
  have hj : t / 3 < ss.length := by omega
  obtain ⟨f0, f1, f2⟩ := flat_at ss (t / 3) ss[t / 3] (List.getElem?_eq_getElem hj)
  have e1 : ss.toArray[t / 3]! = ss[t / 3] := by simp [hj]
  have e2 : (flat ss).toArray[t]! = ((flat ss)[t]?).getD default := by simp [List.getElem!_eq_getElem?_getD]
  rw [e1, e2]
  have h3 : t % 3 = 0 ∨ t % 3 = 1 ∨ t % 3 = 2 := by omega
  rcases h3 with h3 | h3 | h3
  · rw [show t / 3 * 3 = t by omega] at f0
    rw [h3, f0]; rfl
  · rw [show t / 3 * 3 + 1 = t by omega] at f1
    rw [h3, f1]; rfl
  · rw [show t / 3 * 3 + 2 = t by omega] at f2
    rw [h3, f2]; rfl

/-- Steps sorted. -/
def sortS (ss : List St) : List St := ss.mergeSort fun x y => !(ltOf cmpSt) y x

theorem sortS_len (ss : List St) : (sortS ss).length = ss.length := List.length_mergeSort ss

theorem mem_sortS {ss : List St} {u : St} : u ∈ sortS ss ↔ u ∈ ss := List.mem_mergeSort

theorem sortS_ahead {ss : List St} (h : ss.Pairwise (· ≠ ·)) : (sortS ss).Pairwise Ahead := by
  have h1 : (sortS ss).Pairwise fun x y => (!(ltOf cmpSt) y x) = true := by
    refine List.pairwise_mergeSort (le := fun x y => !(ltOf cmpSt) y x) ?_ ?_ ss
    · intro x y z k1 k2
      simp only [Bool.not_eq_true'] at k1 k2 ⊢
      exact swoSt.ntrans z y x k2 k1
    · intro x y
      simp only [Bool.or_eq_true, Bool.not_eq_true']
      cases k : ltOf cmpSt y x with
      | false => exact .inl rfl
      | true =>
        refine .inr ?_
        cases k2 : ltOf cmpSt x y with
        | false => rfl
        | true => have := swoSt.trans x y x k2 k; rw [swoSt.irrefl] at this; cases this
  have h2 : (sortS ss).Pairwise (· ≠ ·) := (List.Perm.pairwise_iff (fun {x y} (h : x ≠ y) => h.symm) (List.mergeSort_perm ss _)).2 h
  refine (h1.and h2).imp ?_
  rintro x y ⟨k1, k2⟩
  simp only [Bool.not_eq_true', ltSt_no] at k1
  apply Classical.byContradiction
  intro k3
  exact k2 (ahead_total k3 k1)

set_option maxRecDepth 20000 in
set_option maxHeartbeats 1600000 in
theorem sortFunc_any (v : Value) (n : Nat) (ss : List St) (base : Nat) (w : World) (h : OwnsS 48 w base v n ss) (hn : n ≤ 1000000) :
    Calls Tryz.prog 54 #[v, .func (.func 55) #[] #[] ] w fun e w' => e = .returned (.tuple #[]) ∧ OwnsS 48 w' base v n (sortS ss) ∧ w.grownBy w' v.ownBlock := by
  have hl := h.length
  rcases h.2 with ⟨rfl, rfl⟩ | ⟨g, cap, cur, rfl, hbase, hb, h1, h2, h3, h4⟩
  · have hcon := AnyF.slices_SortFunc_none Tryz.laysSortFunc none 0 (.func (.func 55) #[] #[]) w
    change Calls Tryz.prog 54 _ _ _ at hcon
    refine hcon.mono ?_
    rintro e w' ⟨rfl, rfl⟩
    obtain rfl : ss = [] := List.length_eq_zero_iff.1 hl
    have e0 : sortS [] = [] := List.length_eq_zero_iff.1 (sortS_len [])
    rw [e0]
    exact ⟨rfl, h, World.grownBy.refl _ _⟩
  · have eg : ∀ args w, (callFunc 55 args).run Tryz.prog w = .ok (.enter 55 args) w := enters_of Tryz.func55 (by kernel_rfl) rfl
    have hH : HoldsK stCells 3 w g 0 ss.toArray := by
      unfold HoldsK
      rw [flatK_flat]
      exact holdsV hb (by rw [flat_length, hl]; exact h4)
    have hg : g < w.heap.size := (Array.getElem?_eq_some_iff.1 hb).1
    have hcmp : CmpLays Tryz.prog 55 #[] stCells 3 cmpSt g 0 ss.toArray.size w := fun _ _ _ _ x y => cmpSteps_any x y _
    have hcon := AnyQ.slices_SortFunc_total Tryz.laysSortFunc 3 Tryz.isAgg48 Tryz.sizeOf48 stCells (fun _ => rfl) (fun x v hv => by simp [stCells] at hv; rcases hv with rfl | rfl | rfl <;> rfl) cmpSt swoSt 55 #[] g 0 cap ss.toArray w eg hcmp hH hg (by simp; omega) (fun x y k1 k2 => by
      rw [ltSt_no] at k1 k2
      exact ahead_total k1 k2)
    change Calls Tryz.prog 54 _ _ _ at hcon
    have e0 : ss.toArray.size = n := by simp [hl]
    rw [e0] at hcon
    refine hcon.mono ?_
    rintro e w' ⟨rfl, q, os, rfl⟩
    have e1 : ss.toArray.toList.mergeSort (fun x y => !(ltOf cmpSt) y x) = sortS ss := rfl
    rw [e1]
    unfold sortWorldK putRowK
    rw [flatK_flat]
    refine ⟨rfl, ⟨by rw [flat_length, sortS_len, hl], .inr ⟨g, cap, _, rfl, hbase, heap_sortedV _ hb, h1, h2, by simp [putCells, h3], ?_⟩⟩, grownBy_sortedV _⟩
    have e2 : (flat (sortS ss)).length = n * 3 := by rw [flat_length, sortS_len, hl]
    rw [← e2]
    exact take_putCellsV cur _ (by rw [e2, h3]; exact Nat.mul_le_mul_right 3 h1)

/-- The steps of the product. -/
def prodSteps (a b : IaD) : List St := sortS (prodL a b)

theorem prodSteps_ahead {a b : IaD} (h : fitB a b = true) : (prodSteps a b).Pairwise Ahead := sortS_ahead (prodL_nodup h)

theorem mem_prodSteps {a b : IaD} {u : St} : u ∈ prodSteps a b ↔ u ∈ prodL a b := mem_sortS

end Go.Proofs.YtdbgjgeglgipiaaGreat
