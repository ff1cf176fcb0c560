/-
  A map from pairs to rows of pairs, each row the call's own, no two in one block: made, looked up, an entry appended to. Conditions: as each statement says.
-/
import Derived.Test.YtnglogkkkpegnaaGreatPairMap
import Derived.WideKeyEntry
namespace Go.Proofs.YtnglogkkkpegnaaGreat
open Go.RowKit

theorem law_struct {P : Program} {k : TypeId} {fs : Array Field} (hl : laidOutB P = true) (hrow : k < P.types.size) (hk : P.keyTypeAt 3 k = true) (h : P.underlying k = some (.struct fs)) : WideMaps.KeyLaw P k :=
  deep_law_laid hl (m := 3) (by omega) hrow hk (by simp only [h])
theorem pairKL : WideMaps.KeyLaw Tryz.prog 84 := law_struct pairLaid pairRow pairAt Tryz.underlying84

/-- What an entry's mapEntry gives is what a look-up gives. -/
theorem entry_val {H : Type} {P : Program} {w w1 : World} {t k e : TypeId} {R : Value → Option (DataW H × List MemPlace)} {b : Nat} {es : Array MapEntry} {clock : Nat} (K : WideMaps.KeyLaw P k) (ht : P.underlying t = some (.map k e)) {z : Value} (hz : (zeroValue e).run P w = .ok z w)
    (hb : w.heap[b]? = some (.map es clock)) (F : WideElems.Fit P k R es clock) {key : Value} {kl : Lit} (hkey : keyOf P k key = some kl) {v0 i : Value} (hrun : (Instr.mapEntry t (.map (some b)) key).run P w = .ok (.tuple #[v0, i]) w1) :
    (Instr.lookup t (.map (some b)) key false).run P w = .ok v0 w := by
  rcases K.find w hkey es.toList F.keys with ⟨h1, h2⟩ | ⟨j, e0, h1, h2, h3⟩
  · simp [Instr.mapEntry, run_underlying ht, MapKept.run_getObj_map hb, K.check w false hkey, h1, hz, MapKept.run_setObj_map _ hb, Result.andThen] at hrun
    obtain ⟨⟨rfl, _⟩, _⟩ := hrun
    simp [Instr.lookup, run_underlying ht, MapKept.run_getObj_map hb, K.check w _ hkey, h1, hz, Result.andThen]
  · have hj : es[j]? = some e0 := by simpa using h2
    simp [Instr.mapEntry, run_underlying ht, MapKept.run_getObj_map hb, K.check w false hkey, h1, hj, h3, K.stays w hkey, MapKept.run_setObj_map _ hb, Result.andThen] at hrun
    obtain ⟨⟨rfl, _⟩, _⟩ := hrun
    simp [Instr.lookup, run_underlying ht, MapKept.run_getObj_map hb, K.check w _ hkey, h1, Result.andThen]

/-- A slice's header as a datum. -/
def hdr : Value → Option (DataW Unit × List MemPlace)
  | .slice none 0 0 => some (.nil, [])
  | .slice (some ⟨g, 0, none⟩) n c => some (.agg [.lit (.int .i64 (g : Int)), .lit (.int .i64 (n : Int)), .lit (.int .i64 (c : Int))], [])
  | _ => none

theorem hdr_none : hdr (.slice none 0 0) = some (.nil, []) := rfl
theorem hdr_some (g n c : Nat) : hdr (.slice (some ⟨g, 0, none⟩) n c) = some (.agg [.lit (.int .i64 (g : Int)), .lit (.int .i64 (n : Int)), .lit (.int .i64 (c : Int))], []) := rfl

theorem hdr_form {v : Value} {z : DataW Unit × List MemPlace} (h : hdr v = some z) : (v = .slice none 0 0 ∧ z = (.nil, [])) ∨ ∃ g n c : Nat, v = .slice (some ⟨g, 0, none⟩) n c ∧ z = (.agg [.lit (.int .i64 (g : Int)), .lit (.int .i64 (n : Int)), .lit (.int .i64 (c : Int))], []) := by
  unfold hdr at h
  split at h
  · exact .inl ⟨rfl, (Option.some.inj h).symm⟩
  · exact .inr ⟨_, _, _, rfl, (Option.some.inj h).symm⟩
  · cases h

theorem hdr_inj {v v' : Value} {d : DataW Unit} {ps ps' : List MemPlace} (h : hdr v = some (d, ps)) (h' : hdr v' = some (d, ps')) : v = v' := by
  rcases hdr_form h with ⟨rfl, e⟩ | ⟨g, n, c, rfl, e⟩ <;> rcases hdr_form h' with ⟨rfl, e'⟩ | ⟨g', n', c', rfl, e'⟩
  · rfl
  · simp only [Prod.mk.injEq] at e e'
    rw [e.1] at e'
    cases e'.1
  · simp only [Prod.mk.injEq] at e e'
    rw [e.1] at e'
    cases e'.1
  · simp only [Prod.mk.injEq] at e e'
    rw [e.1] at e'
    have h1 := e'.1
    simp only [DataW.agg.injEq, List.cons.injEq, DataW.lit.injEq, Lit.int.injEq, true_and, and_true] at h1
    obtain ⟨a1, a2, a3⟩ := h1
    obtain rfl : g = g' := by omega
    obtain rfl : n = n' := by omega
    obtain rfl : c = c' := by omega
    rfl

theorem OwnsP.hdr {w : World} {base n : Nat} {v : Value} {ss : List Pr} (h : OwnsP w base v n ss) : ∃ d, Go.Proofs.YtnglogkkkpegnaaGreat.hdr v = some (d, []) := by
  rcases h.2 with ⟨rfl, rfl⟩ | ⟨g, cap, cur, rfl, _⟩
  · exact ⟨_, rfl⟩
  · exact ⟨_, rfl⟩

/-- A row of one's own is no map. -/
theorem own_notmap {w : World} {base size n b : Nat} {e : TypeId} {v : Value} {xs : List Value} {es : Array MapEntry} {clock : Nat} (h : w.ownsRow base e size v n xs) (hb : w.heap[b]? = some (.map es clock)) : v.ownBlock ≠ some b := by
  intro e'
  rcases h.2 with ⟨rfl, _⟩ | ⟨g, cap, cur, rfl, _, hh, _⟩
  · cases e'
  · have e1 : g = b := by simpa [Value.ownBlock] using e'
    subst e1
    rw [hb] at hh
    cases hh

/-- Block b is a map of pairs of at most n entries: B says which pairs each one's row holds; the rows lie at 'base' or above, no two in one block. -/
def MapQ (w : World) (b n base : Nat) (B : Int → Int → List Pr) : Prop :=
  ∃ (D : DataW Unit) (V : Int → Int → Value), w.ownsMap Tryz.prog 84 hdr b n D ∧
    (∀ p q : Int, (Lit.int .i64 p).wf = true → (Lit.int .i64 q).wf = true → ∃ ps, hdr (V p q) = some (D.atKey (prKey p q) .nil, ps)) ∧
    (∀ p q : Int, OwnsP w base (V p q) (B p q).length (B p q)) ∧
    ∀ p q p' q' : Int, ¬ (p' = p ∧ q' = q) → (V p' q').ownBlock = none ∨ (V p' q').ownBlock ≠ (V p q).ownBlock

theorem MapQ.made (w : World) (base : Nat) : MapQ (w.alloc (.map #[] 0)) w.heap.size 0 base (fun _ _ => []) :=
  ⟨.map [], fun _ _ => .slice none 0 0, World.ownsMap_made _ _ _ _, fun _ _ _ _ => ⟨[], rfl⟩, fun _ _ => World.ownsRow_nil _ _ _ _, fun _ _ _ _ _ => .inl rfl⟩

theorem MapQ.lt {w : World} {b n base : Nat} {B : Int → Int → List Pr} (h : MapQ w b n base B) : b < w.heap.size := by
  obtain ⟨D, V, h, _⟩ := h
  exact h.lt

theorem MapQ.below {w w' : World} {b n base : Nat} {B : Int → Int → List Pr} (h : MapQ w b n base B) (hb : Below w.heap.size w w') : MapQ w' b n base B := by
  obtain ⟨D, V, h, hv, ho, ha⟩ := h
  have hlt := h.lt
  obtain ⟨es, clock, h1, h2⟩ := h
  exact ⟨D, V, ⟨es, clock, (hb.block b hlt).trans h1, h2⟩, hv, fun p q => (ho p q).below hb, ha⟩

theorem MapQ.mono {w : World} {b n m base : Nat} {B : Int → Int → List Pr} (h : MapQ w b n base B) (hm : n ≤ m) : MapQ w b m base B := by
  obtain ⟨D, V, h, hv, ho, ha⟩ := h
  exact ⟨D, V, h.mono hm, hv, ho, ha⟩

theorem pairRowsZero (w : World) : (zeroValue 52).run Tryz.prog w = .ok (.slice none 0 0) w := by kernel_rfl

theorem MapQ.look {w : World} {b n base : Nat} {B : Int → Int → List Pr} {t : TypeId} (ht : Tryz.prog.underlying t = some (.map 84 52)) (h : MapQ w b n base B) {p q : Int} (wp : (Lit.int .i64 p).wf = true) (wq : (Lit.int .i64 q).wf = true) :
    ∃ v, (Instr.lookup t (.map (some b)) (.agg #[.int .i64 p, .int .i64 q]) false).run Tryz.prog w = .ok v w ∧ OwnsP w base v (B p q).length (B p q) := by
  obtain ⟨D, V, h, hv, ho, _⟩ := h
  obtain ⟨v, ps, hrun, hR⟩ := h.lookup pairLaw ht (pairRowsZero w) hdr_none (pairKeyOf wp wq)
  obtain ⟨ps', hV⟩ := hv p q wp wq
  obtain rfl := hdr_inj hR hV
  exact ⟨_, hrun, ho p q⟩

/-- Looked up later on: the row lies where it lay. -/
theorem MapQ.lookAt {w0 w1 w : World} {b n base : Nat} {B : Int → Int → List Pr} {t : TypeId} (h : MapQ w0 b n base B) (h1 : Below w0.heap.size w0 w1) (h2 : Below w1.heap.size w1 w) (ht : Tryz.prog.underlying t = some (.map 84 52)) {p q : Int} (wp : (Lit.int .i64 p).wf = true) (wq : (Lit.int .i64 q).wf = true) :
    ∃ v, (Instr.lookup t (.map (some b)) (.agg #[.int .i64 p, .int .i64 q]) false).run Tryz.prog w = .ok v w ∧ OwnsP w base v (B p q).length (B p q) ∧ ∀ k, v.ownBlock = some k → k < w0.heap.size := by
  obtain ⟨D, V, h, hv, ho, _⟩ := h
  have hlt := h.lt
  have hw : w.ownsMap Tryz.prog 84 hdr b n D := by
    obtain ⟨es, clock, e1, e2⟩ := h
    exact ⟨es, clock, (h2.block b (Nat.lt_of_lt_of_le hlt h1.size)).trans ((h1.block b hlt).trans e1), e2⟩
  obtain ⟨v, ps, hrun, hR⟩ := hw.lookup pairLaw ht (pairRowsZero w) hdr_none (pairKeyOf wp wq)
  obtain ⟨ps', hV⟩ := hv p q wp wq
  obtain rfl := hdr_inj hR hV
  exact ⟨_, hrun, ((ho p q).below h1).below h2, fun k hk => ((ho p q).lt k hk).2⟩

/-- A pair is put behind one's row. -/
def addP (B : Int → Int → List Pr) (p q : Int) (x : Pr) : Int → Int → List Pr := fun p' q' => if p' = p ∧ q' = q then B p q ++ [x] else B p' q'

theorem entryV {w : World} {b n base : Nat} {B : Int → Int → List Pr} {t : TypeId} (ht : Tryz.prog.underlying t = some (.map 84 52)) (D : DataW Unit) (V : Int → Int → Value) (hm : w.ownsMap Tryz.prog 84 hdr b n D) (hv : ∀ p q : Int, (Lit.int .i64 p).wf = true → (Lit.int .i64 q).wf = true → ∃ ps, hdr (V p q) = some (D.atKey (prKey p q) .nil, ps)) (ho : ∀ p q : Int, OwnsP w base (V p q) (B p q).length (B p q)) (ha : ∀ p q p' q' : Int, ¬ (p' = p ∧ q' = q) → (V p' q').ownBlock = none ∨ (V p' q').ownBlock ≠ (V p q).ownBlock) (lim : Nat) (hL : ∀ p q k, (V p q).ownBlock = some k → k < lim) (hn : n < maxLen) {p q : Int} (wp : (Lit.int .i64 p).wf = true) (wq : (Lit.int .i64 q).wf = true) :
    ∃ (v0 : Value) (st : Nat) (w1 : World), (Instr.mapEntry t (.map (some b)) (.agg #[.int .i64 p, .int .i64 q])).run Tryz.prog w = .ok (.tuple #[v0, goInt st]) w1 ∧ OwnsP w1 base v0 (B p q).length (B p q) ∧ (∀ k, v0.ownBlock = some k → k < lim) ∧ w.grownBy w1 (some b) ∧
      ∀ (w2 : World) (v' : Value) (x : Pr), w1.grownBy w2 v0.ownBlock → OwnsP w2 base v' ((B p q).length + 1) (B p q ++ [x]) → (v'.ownBlock = v0.ownBlock ∨ v'.ownBlock = some w1.heap.size) →
        ∃ w3, (Instr.entryStore t (.map (some b)) (goInt st) v').run Tryz.prog w2 = .ok () w3 ∧ MapQ w3 b (n + 1) base (addP B p q x) ∧ w2.grownBy w3 (some b) := by
  have hmm := hm
  obtain ⟨es, clock, hb, F, hs, hD⟩ := hm
  have hblt := hmm.lt
  obtain ⟨v0, st, es1, clock1, hrun, _, hback⟩ := WideElems.entry_then_store pairKL ht (z := .slice none 0 0) pairRowsZero hb F (pairKeyOf wp wq)
  have hl1 := entry_val pairKL ht (pairRowsZero w) hb F (pairKeyOf wp wq) hrun
  obtain ⟨v, ps, hl2, hR⟩ := hmm.lookup pairLaw ht (pairRowsZero w) hdr_none (pairKeyOf wp wq)
  obtain ⟨ps', hV⟩ := hv p q wp wq
  have e1 : v = V p q := hdr_inj hR hV
  rw [hl2] at hl1
  have e2 : v = v0 := by simpa using hl1
  rw [e1] at e2
  subst e2
  have g1 : w.grownBy (ChangeMaps.setBlock w b (.map es1 clock1)) (some b) := World.mapTurned.grown ⟨es, clock, es1, clock1, hb, rfl⟩
  have hne : ∀ p' q' : Int, ∀ k, (V p' q').ownBlock = some k → some k ≠ some b := fun p' q' k hk e => own_notmap (ho p' q') hb (by rw [hk, e])
  have o1 : ∀ p' q' : Int, OwnsP (ChangeMaps.setBlock w b (.map es1 clock1)) base (V p' q') (B p' q').length (B p' q') := fun p' q' => (ho p' q').keep g1 (hne p' q')
  have hb1 : (ChangeMaps.setBlock w b (.map es1 clock1)).heap[b]? = some (.map es1 clock1) := ChangeMaps.heap_setBlock_same hb _
  refine ⟨V p q, st, _, hrun, o1 p q, hL p q, g1, fun w2 v' x hg ho' hat => ?_⟩
  have hb2 : w2.heap[b]? = some (.map es1 clock1) := (hg.block b (Nat.lt_of_lt_of_le hblt g1.size) (fun e => hne p q b e.symm rfl)).trans hb1
  obtain ⟨es', clock', hst, hup⟩ := hback w2 v' hb2
  obtain ⟨d, hd⟩ := ho'.hdr
  obtain ⟨w', hup', hown, _⟩ := hmm.store pairLaw ht hn (pairKeyOf wp wq) hd
  rw [hup] at hup'
  obtain rfl : ChangeMaps.setBlock w b (.map es' clock') = w' := by simpa using hup'
  obtain ⟨es2, clock2, hbb, F2, hs2, hD2⟩ := hown
  rw [ChangeMaps.heap_setBlock_same hb] at hbb
  simp only [Option.some.injEq, Obj.map.injEq] at hbb
  obtain ⟨rfl, rfl⟩ := hbb
  have g3 : w2.grownBy (ChangeMaps.setBlock w2 b (.map es' clock')) (some b) := World.mapTurned.grown ⟨es1, clock1, es', clock', hb2, rfl⟩
  have o2 : ∀ p' q' : Int, ¬ (p' = p ∧ q' = q) → OwnsP w2 base (V p' q') (B p' q').length (B p' q') := fun p' q' hpq => (o1 p' q').keep hg (fun k hk e => by
    rcases ha p q p' q' hpq with h1 | h1
    · rw [h1] at hk
      cases hk
    · exact h1 (hk.trans e))
  refine ⟨_, hst, ⟨D.put (prKey p q) d, fun p' q' => if p' = p ∧ q' = q then v' else V p' q', ⟨es', clock', ChangeMaps.heap_setBlock_same hb2 _, F2, hs2, hD2⟩, fun p' q' wp' wq' => ?_, fun p' q' => ?_, fun p1 q1 p2 q2 hpq => ?_⟩, g3⟩
  · by_cases e : p' = p ∧ q' = q
    · obtain ⟨rfl, rfl⟩ := e
      simp only [and_self, if_true]
      rw [Maps.atKey_put_same hmm.isMap (pairLaw.key (pairKeyOf wp wq))]
      exact ⟨_, hd⟩
    · simp only [if_neg e]
      rw [Maps.atKey_put_other (fun he => e (prKey_inj wp' wq' wp wq he))]
      exact hv p' q' wp' wq'
  · unfold addP
    by_cases e : p' = p ∧ q' = q
    · simp only [if_pos e, List.length_append, List.length_singleton]
      exact ho'.keep g3 (fun k hk e' => own_notmap ho' hb2 (by rw [hk, e']))
    · simp only [if_neg e]
      exact (o2 p' q' e).keep g3 (fun k hk e' => own_notmap (o2 p' q' e) hb2 (by rw [hk, e']))
  · have fresh : ∀ p' q' : Int, (V p' q').ownBlock ≠ some (ChangeMaps.setBlock w b (.map es1 clock1)).heap.size := fun p' q' e => by
      have := ((o1 p' q').lt _ e).2
      omega
    by_cases c1 : p1 = p ∧ q1 = q <;> by_cases c2 : p2 = p ∧ q2 = q
    · exact absurd ⟨c2.1.trans c1.1.symm, c2.2.trans c1.2.symm⟩ hpq
    · simp only [if_pos c1, if_neg c2]
      rcases hat with h1 | h1
      · rw [h1]
        exact ha p q p2 q2 c2
      · rw [h1]
        exact .inr (fresh p2 q2)
    · simp only [if_neg c1, if_pos c2]
      rcases hat with h1 | h1
      · rw [h1]
        rcases ha p q p1 q1 c1 with h2 | h2
        · by_cases h3 : (V p q).ownBlock = none
          · exact .inl h3
          · rw [h2]
            exact .inr h3
        · exact .inr (fun e => h2 e.symm)
      · rw [h1]
        exact .inr (fun e => fresh p1 q1 e.symm)
    · simp only [if_neg c1, if_neg c2]
      exact ha p1 q1 p2 q2 hpq

/-- 'm[k] = append(m[k], x)' of such a map: the row that is there, and what a longer one in its place leaves; the row lies where it lay. -/
theorem MapQ.entryAt {w0 w : World} {b n base : Nat} {B : Int → Int → List Pr} {t : TypeId} (ht : Tryz.prog.underlying t = some (.map 84 52)) (h : MapQ w0 b n base B) (hw : Below w0.heap.size w0 w) (hn : n < maxLen) {p q : Int} (wp : (Lit.int .i64 p).wf = true) (wq : (Lit.int .i64 q).wf = true) :
    ∃ (v0 : Value) (st : Nat) (w1 : World), (Instr.mapEntry t (.map (some b)) (.agg #[.int .i64 p, .int .i64 q])).run Tryz.prog w = .ok (.tuple #[v0, goInt st]) w1 ∧ OwnsP w1 base v0 (B p q).length (B p q) ∧ (∀ k, v0.ownBlock = some k → k < w0.heap.size) ∧ w.grownBy w1 (some b) ∧
      ∀ (w2 : World) (v' : Value) (x : Pr), w1.grownBy w2 v0.ownBlock → OwnsP w2 base v' ((B p q).length + 1) (B p q ++ [x]) → (v'.ownBlock = v0.ownBlock ∨ v'.ownBlock = some w1.heap.size) →
        ∃ w3, (Instr.entryStore t (.map (some b)) (goInt st) v').run Tryz.prog w2 = .ok () w3 ∧ MapQ w3 b (n + 1) base (addP B p q x) ∧ w2.grownBy w3 (some b) := by
  obtain ⟨D, V, h, hv, ho, ha⟩ := h
  have hlt := h.lt
  have hm : w.ownsMap Tryz.prog 84 hdr b n D := by
    obtain ⟨es, clock, e1, e2⟩ := h
    exact ⟨es, clock, (hw.block b hlt).trans e1, e2⟩
  exact entryV ht D V hm hv (fun p q => (ho p q).below hw) ha w0.heap.size (fun p q k hk => ((ho p q).lt k hk).2) hn wp wq

end Go.Proofs.YtnglogkkkpegnaaGreat
