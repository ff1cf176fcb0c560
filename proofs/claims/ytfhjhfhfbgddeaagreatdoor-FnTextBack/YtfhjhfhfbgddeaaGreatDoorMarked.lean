/-
  Rows of bytes that '[]byte(s)' makes: the run-time's mark lies behind the row's last cell. A text is appended to one, in place or into a new row. Conditions: as each statement says; nothing here speaks of the program.
-/
import Derived.Test.YtfhjhfhfbgddeaaGreatDoorTextDef
import Derived.Lib.AppendStr
import Derived.Lib.FrozenHead
namespace Go.Proofs.YtfhjhfhfbgddeaaGreatDoor
open Go.RowKit

/-- A row of bytes of the call's own; a mark may lie behind its last cell. -/
def OwnsM (w : World) (base : Nat) (v : Value) (n : Nat) (l : List UInt8) : Prop :=
  l.length = n ∧ ∃ (g cap : Nat) (cur : Array Value) (lo hi : Nat), v = .slice (some ⟨g, 0, none⟩) n cap ∧ base ≤ g ∧ w.heap[g]? = some (.cells cur 5 (lo, hi)) ∧ (hi = 0 ∨ cap ≤ lo) ∧ n ≤ cap ∧ cap ≤ maxLen ∧ cur.size = cap ∧ cur.toList.take n = Lib.byteCells l

theorem OwnsM.lt {w : World} {base : Nat} {v : Value} {n : Nat} {l : List UInt8} (h : OwnsM w base v n l) : ∀ k, v.ownBlock = some k → base ≤ k ∧ k < w.heap.size := by
  obtain ⟨_, g, cap, cur, lo, hi, rfl, hb, hg, _⟩ := h
  intro k hk
  simp [Value.ownBlock] at hk
  subst hk
  exact ⟨hb, (Array.getElem?_eq_some_iff.1 hg).1⟩

theorem OwnsM.form {w : World} {base : Nat} {v : Value} {n : Nat} {l : List UInt8} (h : OwnsM w base v n l) : ∃ g cap, v = .slice (some ⟨g, 0, none⟩) n cap := by
  obtain ⟨_, g, cap, _, _, _, rfl, _⟩ := h
  exact ⟨g, cap, rfl⟩

theorem OwnsM.below {w w' : World} {base : Nat} {v : Value} {n : Nat} {l : List UInt8} (h : OwnsM w base v n l) (hb : Below w.heap.size w w') : OwnsM w' base v n l := by
  obtain ⟨hl, g, cap, cur, lo, hi, e, hbg, hg, r⟩ := h
  exact ⟨hl, g, cap, cur, lo, hi, e, hbg, (hb.block g (Array.getElem?_eq_some_iff.1 hg).1).trans hg, r⟩

theorem OwnsM.mono {w : World} {base base' : Nat} {v : Value} {n : Nat} {l : List UInt8} (h : OwnsM w base' v n l) (hb : base ≤ base') : OwnsM w base v n l := by
  obtain ⟨hl, g, cap, cur, lo, hi, e, hbg, r⟩ := h
  exact ⟨hl, g, cap, cur, lo, hi, e, Nat.le_trans hb hbg, r⟩

theorem OwnsM.grown {B : Nat} {a w w' : World} {base : Nat} {v : Value} {n : Nat} {l : List UInt8} (h : OwnsM w base v n l) (hb : Below B a w) (hg : w.grownBy w' v.ownBlock) (hB : B ≤ base) (hs : B ≤ w.heap.size) : Below B a w' :=
  hb.grown hg hs (fun k hk => Nat.le_trans hB (h.lt k hk).1)

theorem OwnsM.cells {w : World} {base g n c : Nat} {l : List UInt8} (h : OwnsM w base (.slice (some ⟨g, 0, none⟩) n c) n l) : ∀ j u, (Lib.byteCells l)[j]? = some u → w.cell? ((⟨g, 0, none⟩ : Addr).add j) = some u := by
  obtain ⟨hl, g', cap, cur, lo, hi, e, _, hg, _, _, _, _, ht⟩ := h
  intro j u hu
  cases e
  rw [add_lit, Nat.zero_add, cell_of_row w g j cur _ _ hg]
  rw [← ht, List.getElem?_take] at hu
  split at hu
  · simpa using hu
  · cases hu

/-- 'string(b)' of such a row. -/
theorem OwnsM.text {P : Program} {w : World} {base g n c : Nat} {l : List UInt8} (h : OwnsM w base (.slice (some ⟨g, 0, none⟩) n c) n l) (hs : P.underlying 22 = some (.slice 5)) (he : P.underlying 5 = some (.int .u8)) (hd : P.underlying 9 = some .string) :
    (convert 22 9 (.slice (some ⟨g, 0, none⟩) n c)).run P w = .ok (.string (bs l)) w := by
  have hl := h.1
  subst hl
  refine run_convert_bytes_back w 22 9 5 ⟨g, 0, none⟩ c l hs he hd (fun j hj => ?_)
  refine h.cells j _ ?_
  simp [Lib.byteCells, hj]

/-- What '[]byte(s)' leaves. -/
theorem ownsM_of_text {P : Program} (w : World) (l : List UInt8) (hl : l.length ≤ 140737488355328) (hs : P.underlying 22 = some (.slice 5)) (he : P.underlying 5 = some (.int .u8)) (hd : P.underlying 9 = some .string) :
    ∃ v w', (convert 9 22 (.string (bs l))).run P w = .ok v w' ∧ OwnsM w' w.heap.size v l.length l ∧ Below w.heap.size w w' := by
  have hsz := bs_size l
  have hge := grownCap_ge w (bs l).size 0 5
  have hle := grownCap_le_maxLen w (bs l).size 0 5 (by rw [hsz]; unfold maxLen; omega)
  refine ⟨_, _, run_bytes_of_string w 9 22 5 (bs l) hd hs he, ⟨rfl, w.heap.size, _, _, _, _, by rw [hsz], Nat.le_refl _, heap_alloc_new w.drew _, Or.inr ?_, ?_, hle, ?_, ?_⟩, ?_⟩
  · simp [bytesRow]
    omega
  · omega
  · simp only [bytesRow, Array.size_append, Array.size_map, Array.size_replicate]
    have : (bs l).data.size = (bs l).size := rfl
    omega
  · simp only [bytesRow, Array.toList_append, Array.toList_map]
    rw [List.take_left' (by simp [bs])]
    simp [bs, Lib.byteCells]
  · exact ((Below.refl _ w).drew).alloc (Nat.le_refl _) _

theorem store_clear (P : Program) (g o : Nat) (t : TypeId) (lo hi : Nat) : ∀ (vs : List Value) (i : Nat) (cur : Array Value) (w : World), w.heap[g]? = some (.cells cur t (lo, hi)) → (hi = 0 ∨ o + i + vs.length ≤ lo) → o + i + vs.length ≤ cur.size → (∀ v ∈ vs, v.oneCell' = true) →
    (storeCells ⟨g, o, none⟩ vs i).run P w = .ok () (w.setRow g (cur.toList.take (o + i) ++ vs ++ cur.toList.drop (o + i + vs.length)).toArray) := by
  intro vs
  induction vs with
  | nil =>
    intro i cur w hg _ _ _
    simp only [storeCells, List.append_nil, List.length_nil, Nat.add_zero, List.take_append_drop, Array.toArray_toList]
    rw [setRow_self w g cur t _ hg]
    rfl
  | cons v r ih =>
    intro i cur w hg hfz hl h1
    simp only [List.length_cons] at hfz hl
    have hi' : o + i < cur.size := by omega
    have hfro : w.frozen? ⟨g, o + i, none⟩ = false := by
      simp only [World.frozen?, hg, Bool.and_eq_false_iff, decide_eq_false_iff_not]
      omega
    have hst : (store ((⟨g, o, none⟩ : Addr).add i) v).run P w = .ok () (w.setRow g (cur.setIfInBounds (o + i) v)) := by
      rw [add_lit, run_store P w _ v _ (h1 v (by simp))]
      have hcell : w.cell? ⟨g, o + i, none⟩ = some cur[o + i] := by simp [World.cell?, hg, hi']
      rw [hcell]
      simp [hfro, setCell_eq_setRow w g (o + i) cur t _ v hg]
    have k := ih (i + 1) (cur.setIfInBounds (o + i) v) (w.setRow g (cur.setIfInBounds (o + i) v)) (setRow_heap w g cur _ t _ hg) (by omega) (by simp; omega) (fun x hx => h1 x (by simp [hx]))
    simp only [storeCells, Sem.run_bind, hst, Result.andThen_ok, k, setRow_setRow]
    congr 3
    have e := list_seg_step cur.toList (o + i) v r (by simp; omega)
    simpa [Array.toList_setIfInBounds, Nat.add_assoc] using e

theorem strCells_bs (l : List UInt8) : Lib.strCells (bs l) = Lib.byteCells l := by simp [Lib.strCells, bs, Lib.byteCells]
theorem byteCells_app (x y : List UInt8) : Lib.byteCells (x ++ y) = Lib.byteCells x ++ Lib.byteCells y := by simp [Lib.byteCells]
theorem byteCells_len (x : List UInt8) : (Lib.byteCells x).length = x.length := by simp [Lib.byteCells]

/-- What an append of a text leaves. -/
def AppResM (w w' : World) (base : Nat) (v v' : Value) (n m : Nat) (xs ys : List UInt8) : Prop :=
  OwnsM w' base v' (n + m) (xs ++ ys) ∧ w.grownBy w' v.ownBlock

theorem run_app_text {P : Program} (w : World) (base : Nat) (ty : TypeId) (i : TypeInfo) (ht : P.underlying 22 = some (.slice 5)) (hu : P.underlying 9 = some .string) (hi : P.info? 5 = some i) (hz : i.zero = some (.int .u8 0)) (hsize : i.size = 1) (hby : i.bytes = 1)
    (v : Value) (n m : Nat) (xs ys : List UInt8) (hm : ys.length = m) (hown : OwnsM w base v n xs) (hbytes : n + m ≤ 140737488355328) (hbase : base ≤ w.heap.size) :
    ∃ v' w', (Builtin.append_ #[ 22, 9 ] ty #[v, .string (bs ys)]).run P w = .ok v' w' ∧ AppResM w w' base v v' n m xs ys := by
  obtain ⟨hl, g, cap, cur, lo, hi2, rfl, hbg, hg, hfz, hnc, hcm, hcs, htake⟩ := id hown
  have hsz : (bs ys).size = m := by rw [bs_size, hm]
  have hcl : (Lib.strCells (bs ys)).length = m := by rw [strCells_bs, byteCells_len, hm]
  have hlen : (xs ++ ys).length = n + m := by rw [List.length_append, hl, hm]
  by_cases hroom : n + m ≤ cap
  · have hf := Lib.run_firstCells_string (P := P) w 1 (bs ys)
    have hst := store_clear P g n 5 lo hi2 (Lib.strCells (bs ys)) 0 cur w hg (by omega) (by omega) (Lib.strCells_oneCell (bs ys))
    simp only [Nat.add_zero, hcl] at hst
    refine ⟨.slice (some ⟨g, 0, none⟩) (n + m) cap, w.setRow g (cur.toList.take n ++ Lib.strCells (bs ys) ++ cur.toList.drop (n + m)).toArray, ?_, ⟨hlen, g, cap, _, lo, hi2, rfl, hbg, setRow_heap w g cur _ _ _ hg, hfz, hroom, hcm, ?_, ?_⟩, ⟨rfl, rfl, rfl, by simp, fun k _ hk => setRow_other w g k _ (fun e => hk (by simp [Value.ownBlock, e]))⟩⟩
    · have hroom' : n + (bs ys).size ≤ cap := by omega
      rw [← hsz] at hst ⊢
      simp [Builtin.append_, run_underlying ht, run_underlying hu, sizeOf, typeInfo, hi, hsize, Builtin.lenOf, hroom', hf, add_lit, hst]
    · simp only [List.size_toArray, List.length_append, List.length_take, List.length_drop, Array.length_toList, hcl]
      omega
    · rw [htake, strCells_bs]
      rw [← byteCells_app]
      have : n + m = (Lib.byteCells (xs ++ ys)).length := by rw [byteCells_len, hlen]
      simp only [this]
      exact List.take_left
  · have holds := hown.cells
    have hr := Lib.run_append_grow_string (P := P) w 22 9 ty 5 i (.int .u8 0) ht hu hi hz ⟨g, 0, none⟩ n cap (Lib.byteCells xs) (by rw [hsize, byteCells_len]; omega) holds (bs ys) (by omega) (by omega) (by rw [hby]; exact growslice_fits (by omega) (by omega))
    have hge := grownCap_ge w (n + (bs ys).size) cap 5
    have hle := grownCap_le_maxLen w (n + (bs ys).size) cap 5 (by rw [hsz]; unfold maxLen; omega)
    refine ⟨_, _, hr, ⟨hlen, w.heap.size, _, _, 0, 0, by rw [hsz], hbase, heap_alloc_new w.drew _, Or.inl rfl, by omega, hle, ?_, ?_⟩, ⟨rfl, rfl, rfl, by simp, fun k hk _ => heap_alloc_old w.drew _ hk⟩⟩
    · have hz1 : (Value.int IntKind.u8 0).cells.size = 1 := rfl
      simp only [Array.size_append, List.size_toArray, size_zeroCells, hz1, byteCells_len, hcl]
      omega
    · simp only [Array.toList_append, List.append_assoc]
      rw [← List.append_assoc, strCells_bs, ← byteCells_app]
      have : n + m = (Lib.byteCells (xs ++ ys)).length := by rw [byteCells_len, hlen]
      rw [this]
      exact List.take_left

theorem wpList_appM {P : Program} {w : World} {ops : Array Oper} {rest : List Oper} {o : Oper} {a : Act} {Q : Exit → Act → World → Prop} (hgd : o.guard = none) (s x : Operand)
    (ho : o.op = .call { callee := .builtin .append, args := #[s, x], argTypes := #[ 22, 9 ] })
    (base : Nat) (i : TypeInfo) (ht : P.underlying 22 = some (.slice 5)) (hu : P.underlying 9 = some .string) (hi : P.info? 5 = some i) (hz : i.zero = some (.int .u8 0)) (hsize : i.size = 1) (hby : i.bytes = 1)
    (v : Value) (n m : Nat) (xs ys : List UInt8) (hm : ys.length = m) (hs : a.eval s = v) (hown : OwnsM w base v n xs) (hx : a.eval x = .string (bs ys))
    (hbytes : n + m ≤ 140737488355328) (hbase : base ≤ w.heap.size)
    (h : ∀ v' w', AppResM w w' base v v' n m xs ys → wpList P ops Q rest (a.put o.dst v') w') : wpList P ops Q (o :: rest) a w := by
  refine wpList_plain hgd fun K hK => ?_
  obtain ⟨v', w', hr, h2⟩ := run_app_text (P := P) w base o.type i ht hu hi hz hsize hby v n m xs ys hm hown hbytes hbase
  unfold Oper.wp execOp
  simp only [ho, resolve, invoke, builtin, Sem.run_bind, Sem.run_pure, Result.andThen_ok, List.map_toArray, List.map_cons, List.map_nil, hs, hx, hr]
  exact hK _ _ (h v' w' h2)

/-- The same at a step of a region that draws its order. -/
theorem step_appM {P : Program} {w : World} {ops : Array Oper} {o : Oper} {a : Act} {K : Act → World → Prop} {Q : Exit → Act → World → Prop} {E : Prop} (hgd : o.guard = none) (s x : Operand)
    (ho : o.op = .call { callee := .builtin .append, args := #[s, x], argTypes := #[ 22, 9 ] })
    (base : Nat) (i : TypeInfo) (ht : P.underlying 22 = some (.slice 5)) (hu : P.underlying 9 = some .string) (hi : P.info? 5 = some i) (hz : i.zero = some (.int .u8 0)) (hsize : i.size = 1) (hby : i.bytes = 1)
    (v : Value) (n m : Nat) (xs ys : List UInt8) (X : ByteArray) (hX : X = bs ys) (hm : ys.length = m) (hs : a.eval s = v) (hown : OwnsM w base v n xs) (hx : a.eval x = .string X)
    (hbytes : n + m ≤ 140737488355328) (hbase : base ≤ w.heap.size)
    (h : ∀ v' w', AppResM w w' base v v' n m xs ys → K (a.put o.dst v') w') : if Region.wanted o (yielded ops a.tmps) = true then Oper.wp P o a w K Q else E := by
  have hw : Region.wanted o (yielded ops a.tmps) = true := by simp [Region.wanted, hgd]
  rw [if_pos hw]
  subst hX
  obtain ⟨v', w', hr, h2⟩ := run_app_text (P := P) w base o.type i ht hu hi hz hsize hby v n m xs ys hm hown hbytes hbase
  unfold Oper.wp execOp
  simp only [ho, resolve, invoke, builtin, Sem.run_bind, Sem.run_pure, Result.andThen_ok, List.map_toArray, List.map_cons, List.map_nil, hs, hx, hr]
  exact h v' w' h2

end Go.Proofs.YtfhjhfhfbgddeaaGreatDoor
