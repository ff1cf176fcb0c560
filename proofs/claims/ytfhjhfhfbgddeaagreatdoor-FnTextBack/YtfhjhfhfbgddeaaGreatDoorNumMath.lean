/-
  The mathematics of numbers as texts: the digits of a number in 0 .. 999999 are read back, and nothing else is. Conditions: none; plain lists of bytes.
-/
import Derived.Test.YtfhjhfhfbgddeaaGreatDoorNumText
import Derived.Lib.AtoiAll
namespace Go.Proofs.YtfhjhfhfbgddeaaGreatDoor

def isDigit (c : UInt8) : Prop := 48 ≤ c.toNat ∧ c.toNat ≤ 57
/-- The number that digits spell behind 'a'. -/
def valFrom (a : Nat) (l : List UInt8) : Nat := l.foldl (fun a c => 10 * a + (c.toNat - 48)) a

theorem valFrom_append (a : Nat) (l m : List UInt8) : valFrom a (l ++ m) = valFrom (valFrom a l) m := by simp [valFrom]
theorem ofNat_digit {k : Nat} (h : k < 10) : (UInt8.ofNat (48 + k)).toNat = 48 + k := by
  simp only [UInt8.toNat_ofNat']; omega

theorem val_digits : ∀ u : Nat, valFrom 0 (Lib.decDigits u) = u := by
  intro u
  induction u using Nat.strongRecOn with
  | _ u ih =>
    rw [Lib.decDigits]
    split
    · rename_i h
      show 10 * 0 + ((UInt8.ofNat (48 + u)).toNat - 48) = u
      rw [ofNat_digit h]; omega
    · rename_i h
      rw [valFrom_append, ih (u / 10) (by omega)]
      show 10 * (u / 10) + ((UInt8.ofNat (48 + u % 10)).toNat - 48) = u
      rw [ofNat_digit (Nat.mod_lt _ (by omega))]; omega

theorem all_digits : ∀ u : Nat, ∀ c ∈ Lib.decDigits u, isDigit c := by
  intro u
  induction u using Nat.strongRecOn with
  | _ u ih =>
    rw [Lib.decDigits]
    split
    · rename_i h
      intro c hc
      obtain rfl := List.mem_singleton.1 hc
      unfold isDigit; rw [ofNat_digit h]; omega
    · rename_i h
      intro c hc
      rcases List.mem_append.1 hc with hc | hc
      · exact ih (u / 10) (by omega) c hc
      · obtain rfl := List.mem_singleton.1 hc
        have := Nat.mod_lt u (show 0 < 10 by omega)
        unfold isDigit; rw [ofNat_digit this]; omega

theorem digits_le : ∀ (k u : Nat), 1 ≤ k → u < 10 ^ k → (Lib.decDigits u).length ≤ k := by
  intro k
  induction k with
  | zero => intro u h; omega
  | succ k ih =>
    intro u _ hu
    rw [Lib.decDigits]
    split
    · simp
    · rename_i h
      have hk : 1 ≤ k := by
        cases k with
        | zero => simp at hu; omega
        | succ k => omega
      have := ih (u / 10) hk (by rw [Nat.pow_succ] at hu; omega)
      simp; omega
theorem digits_pos (u : Nat) : 1 ≤ (Lib.decDigits u).length := by
  rw [Lib.decDigits_length]; exact Lib.nDigits_pos u

theorem val_lt : ∀ (l : List UInt8) (a : Nat), (∀ c ∈ l, isDigit c) → valFrom a l < (a + 1) * 10 ^ l.length := by
  intro l
  induction l with
  | nil => intro a _; simp [valFrom]
  | cons c l ih =>
    intro a h
    have h1 := ih (10 * a + (c.toNat - 48)) (fun d hd => h d (List.mem_cons_of_mem _ hd))
    have h2 := h c (List.mem_cons_self ..)
    unfold isDigit at h2
    show valFrom (10 * a + (c.toNat - 48)) l < _
    refine Nat.lt_of_lt_of_le h1 ?_
    rw [List.length_cons, Nat.pow_succ, Nat.mul_comm (10 ^ l.length) 10, ← Nat.mul_assoc]
    exact Nat.mul_le_mul_right _ (by omega)

theorem parse_digits : ∀ (l : List UInt8) (a : Nat), (∀ c ∈ l, isDigit c) → (a + 1) * 10 ^ l.length ≤ 1000000000000 → Lib.parseUint10 a l = .ok (valFrom a l) := by
  intro l
  induction l with
  | nil => intro a _ _; rfl
  | cons c l ih =>
    intro a h hb
    have h2 := h c (List.mem_cons_self ..)
    unfold isDigit at h2
    have hp : 1 ≤ 10 ^ l.length := Nat.one_le_pow _ _ (by omega)
    rw [List.length_cons, Nat.pow_succ, Nat.mul_comm (10 ^ l.length) 10, ← Nat.mul_assoc] at hb
    have hb2 : (a + 1) * 10 ≤ 1000000000000 := Nat.le_trans (Nat.le_mul_of_pos_right _ hp) hb
    rw [Lib.parseUint10, if_pos h2, if_neg (by omega), if_neg (by omega), Nat.mul_comm a 10]
    refine ih _ (fun d hd => h d (List.mem_cons_of_mem _ hd)) (Nat.le_trans (Nat.mul_le_mul_right _ (by omega)) hb)

theorem atoi_digits {u : Nat} (h : u ≤ 999999) : Lib.atoiAll (Lib.decDigits u) = .ok (u : Int) := by
  have hd := all_digits u
  have hl := digits_le 6 u (by omega) (by omega)
  have hp := digits_pos u
  have hv := val_digits u
  generalize Lib.decDigits u = l at *
  cases l with
  | nil => simp at hp
  | cons c r =>
    have h2 := hd c (List.mem_cons_self ..)
    unfold isDigit at h2
    have hne : ¬ c.toNat = 43 := by omega
    have hne2 : ¬ c.toNat = 45 := by omega
    have hpow : (10 : Nat) ^ (c :: r).length ≤ 10 ^ 6 := Nat.pow_le_pow_right (by omega) hl
    have hpar : Lib.parseMag (c :: r) = .ok u := by
      unfold Lib.parseMag
      rw [if_neg (by simp), parse_digits _ 0 hd (by omega), hv]
    unfold Lib.atoiAll
    simp only [hne, hne2, or_self, not_false_eq_true, true_and, false_and, if_false]
    rw [hpar]
    show (if 9223372036854775808 ≤ u then Lib.NumEnd.range else Lib.NumEnd.ok (u : Int)) = _
    rw [if_neg (by omega)]

theorem itoa_nat (u : Nat) : Lib.itoa (u : Int) = Lib.decDigits u := by
  unfold Lib.itoa; rw [if_neg (by omega)]; rfl

theorem atoi_itoa {v : Int} (h0 : 0 ≤ v) (h1 : v ≤ 999999) : Lib.atoiAll (Lib.itoa v) = .ok v := by
  obtain ⟨u, rfl⟩ : ∃ u : Nat, v = (u : Int) := ⟨v.toNat, by omega⟩
  rw [itoa_nat]; exact atoi_digits (by omega)

/-- What a text is read as. -/
def ReadsAs (l : List UInt8) (n : Int) (b : Bool) : Prop :=
  (b = true ∧ 0 ≤ n ∧ n ≤ 999999 ∧ Lib.itoa n = l) ∨ (b = false ∧ n = 0 ∧ ∀ v : Int, 0 ≤ v → v ≤ 999999 → ¬ Lib.itoa v = l)

theorem reads_one {l : List UInt8} {n m : Int} {b c : Bool} (h : ReadsAs l n b) (k : ReadsAs l m c) : n = m ∧ b = c := by
  rcases h with ⟨rfl, h1, h2, h3⟩ | ⟨rfl, rfl, h1⟩
  · rcases k with ⟨rfl, k1, k2, k3⟩ | ⟨rfl, rfl, k1⟩
    · have e := atoi_itoa h1 h2
      rw [h3, ← k3, atoi_itoa k1 k2] at e
      injection e with e
      exact ⟨e.symm, rfl⟩
    · exact absurd h3 (k1 n h1 h2)
  · rcases k with ⟨rfl, k1, k2, k3⟩ | ⟨rfl, rfl, k1⟩
    · exact absurd k3 (h1 m k1 k2)
    · exact ⟨rfl, rfl⟩

/-- The program's way: strconv.Atoi, then the tests. -/
theorem reads_ok {l : List UInt8} {v : Int} (h0 : 0 ≤ v) (h1 : v ≤ 999999) (h2 : Lib.itoa v = l) : ReadsAs l v true := Or.inl ⟨rfl, h0, h1, h2⟩
theorem reads_bad {l : List UInt8} {v : Int} (h : Lib.atoiAll l = .ok v) (h0 : ¬ (0 ≤ v ∧ v ≤ 999999 ∧ Lib.itoa v = l)) : ReadsAs l 0 false := by
  refine Or.inr ⟨rfl, rfl, fun u hu1 hu2 he => h0 ?_⟩
  have := atoi_itoa hu1 hu2
  rw [he, h] at this
  injection this with e
  subst e
  exact ⟨hu1, hu2, he⟩
theorem reads_err {l : List UInt8} (h : ∀ v, ¬ Lib.atoiAll l = .ok v) : ReadsAs l 0 false := by
  refine Or.inr ⟨rfl, rfl, fun u hu1 hu2 he => h u ?_⟩
  rw [← he]; exact atoi_itoa hu1 hu2

/-- The model's way: its length, its digits, its value. -/
theorem reads_len {l : List UInt8} (h : ¬ (1 ≤ l.length ∧ l.length ≤ 6)) : ReadsAs l 0 false := by
  refine Or.inr ⟨rfl, rfl, fun u hu1 hu2 he => h ?_⟩
  obtain ⟨k, rfl⟩ : ∃ k : Nat, u = (k : Int) := ⟨u.toNat, by omega⟩
  rw [← he, itoa_nat]
  exact ⟨digits_pos k, digits_le 6 k (by omega) (by omega)⟩
theorem reads_nodigit {l : List UInt8} {c : UInt8} (hc : c ∈ l) (h : ¬ isDigit c) : ReadsAs l 0 false := by
  refine Or.inr ⟨rfl, rfl, fun u hu1 hu2 he => h ?_⟩
  obtain ⟨k, rfl⟩ : ∃ k : Nat, u = (k : Int) := ⟨u.toNat, by omega⟩
  rw [itoa_nat] at he
  exact all_digits k c (by rw [he]; exact hc)
theorem reads_val {l : List UInt8} (hd : ∀ c ∈ l, isDigit c) (hl : l.length ≤ 6) (h : Lib.itoa (valFrom 0 l : Int) = l) : ReadsAs l (valFrom 0 l : Int) true := by
  have := val_lt l 0 hd
  have hp : (10 : Nat) ^ l.length ≤ 10 ^ 6 := Nat.pow_le_pow_right (by omega) hl
  exact Or.inl ⟨rfl, by omega, by omega, h⟩
theorem reads_noval {l : List UInt8} (h : ¬ Lib.itoa (valFrom 0 l : Int) = l) : ReadsAs l 0 false := by
  refine Or.inr ⟨rfl, rfl, fun u hu1 hu2 he => h ?_⟩
  obtain ⟨k, rfl⟩ : ∃ k : Nat, u = (k : Int) := ⟨u.toNat, by omega⟩
  rw [itoa_nat] at he
  rw [← he, val_digits, itoa_nat]

end Go.Proofs.YtfhjhfhfbgddeaaGreatDoor
