/-
  A row of ints that begins as an empty literal and is appended to: its memory lies behind a given mark as soon as it holds something. Conditions: as each statement says; nothing here speaks of the program.
-/
import Derived.Test.YtogjbnimohakjabGreatBase
import Derived.ArgAppend
namespace Go.Proofs.YtogjbnimohakjabGreat
open Go.RowKit

/-- A row that the call owns: it lies behind the mark B, or is still the empty literal with no room. -/
def OutB (w : World) (B base : Nat) (v : Value) (n : Nat) (xs : List Int) : Prop :=
  Owns w base v n xs ∧ (Owns w B v n xs ∨ (n = 0 ∧ xs = [] ∧ ∃ g, v = .slice (some ⟨g, 0, none⟩) 0 0))

theorem OutB.below {w w' : World} {B base n : Nat} {v : Value} {xs : List Int} (h : OutB w B base v n xs) (hb : Below w.heap.size w w') : OutB w' B base v n xs :=
  ⟨h.1.below hb, h.2.imp (fun k => k.below hb) id⟩

theorem OutB.alloc {w : World} {B base n : Nat} {v : Value} {xs : List Int} (h : OutB w B base v n xs) (o : Obj) : OutB (w.alloc o) B base v n xs :=
  ⟨h.1.alloc o, h.2.imp (fun k => k.alloc o) id⟩

theorem OutB.start {w : World} {B base : Nat} {g : Nat} (h : Owns w base (.slice (some ⟨g, 0, none⟩) 0 0) 0 []) : OutB w B base (.slice (some ⟨g, 0, none⟩) 0 0) 0 [] :=
  ⟨h, .inr ⟨rfl, rfl, g, rfl⟩⟩

/-- Between two worlds nothing ahead of the mark was written. -/
def Behind (w w' : World) (B : Nat) : Prop := ∃ r, w.grownBy w' r ∧ ∀ k, r = some k → B ≤ k

theorem wpList_appO {P : Program} {w : World} {ops : Array Oper} {rest : List Oper} {o : Oper} {a : Act} {Q : Exit → Act → World → Prop} (hgd : o.guard = none) (s x : Operand)
    (ho : o.op = .call { callee := .builtin .append, args := #[s, x], argTypes := #[ 22, 22 ] })
    (B base : Nat) (i : TypeInfo) (ht : P.underlying 22 = some (.slice 3)) (hi : P.info? 3 = some i) (hz : i.zero = some (.int .i64 0)) (hsize : i.size = 1) (hby : i.bytes = 8)
    (v : Value) (n : Nat) (xs : List Int) (hs : a.eval s = v) (hout : OutB w B base v n xs) (ad : Addr) (m c : Nat) (ys : List Int) (hx : a.eval x = .slice (some ad) m c) (hsrc : Src w (some ad) m c ys)
    (hbig : n + m ≤ 8796093022208) (hm : 0 < m) (hB : B ≤ w.heap.size) (hbB : base ≤ B)
    (h : ∀ g' c' w', OutB w' B base (.slice (some ⟨g', 0, none⟩) (n + m) c') (n + m) (xs ++ ys) → Behind w w' B → wpList P ops Q rest (a.put o.dst (.slice (some ⟨g', 0, none⟩) (n + m) c')) w') : wpList P ops Q (o :: rest) a w := by
  have key : ∀ v' w', Owns w' B v' (n + m) (xs ++ ys) → Behind w w' B → wpList P ops Q rest (a.put o.dst v') w' := by
    intro v' w' h1 h2
    obtain ⟨g', c', rfl⟩ := h1.head (fun e => by
      have hl := h1.length
      rcases h1.2 with ⟨_, h0⟩ | ⟨g, cap, cur, hv, _⟩
      · omega
      · rw [e] at hv; cases hv)
    exact h g' c' w' ⟨h1.mono hbB, .inl h1⟩ h2
  rcases hout.2 with h1 | ⟨rfl, rfl, g, rfl⟩
  · refine wpList_app hgd s x ho B i ht hi hz hsize hby v n xs hs h1 (some ad) m c ys hx hsrc hbig hB ?_
    rintro v' w' ⟨k1, k2, _⟩
    exact key v' w' k1 ⟨_, k2, fun k hk => (h1.lt k hk).1⟩
  · obtain ⟨hl, _, hc⟩ := hsrc
    refine wpList_append_grows w hgd s x 22 ho 3 i (.int .i64 0) 1 8 ht hi hz hsize hby rfl (by decide) (some ⟨g, 0, none⟩) 0 0 [] hs (fun e => by cases e) (by simp) (fun b _ j u hu => by simp at hu)
      ad m c (ys.map (Value.int .i64)) hx (by simpa using hl) (hc ad rfl) (ints_oneCell _ _) (by omega) (by unfold maxLen; omega) (by omega) ?_
    intro v' w' h1 h2
    have h3 : Owns w' w.heap.size v' (0 + m) ([] ++ ys) := by simpa [Owns] using h1
    exact key v' w' (h3.mono hB) ⟨none, h2, fun k hk => by cases hk⟩

end Go.Proofs.YtogjbnimohakjabGreat
