/-
  Rows of texts, and the contracts of the model's l03Parts and l03Line. Conditions: texts of at most 2^20 bytes.
-/
import Derived.Test.YtfhjhfhfbgddeaaGreatDoorTextMath
import Derived.Test.YtfhjhfhfbgddeaaGreatDoorNumRead
import Derived.Test.YtfhjhfhfbgddeaaGreatDoorBtw
namespace Go.Proofs.YtfhjhfhfbgddeaaGreatDoor
open Go.RowKit

theorem info_str : (Tryz.prog.info? 9).map (fun i => (i.zero, i.size, i.bytes)) = some (some (.string ⟨#[]⟩), 1, 16) := by kernel_rfl

/-- Texts as cells. -/
def textCells (ls : List (List UInt8)) : List Value := ls.map fun l => Value.string (bs l)

theorem textCells_len (ls : List (List UInt8)) : (textCells ls).length = ls.length := by simp [textCells]
theorem textCells_app (ls ms : List (List UInt8)) : textCells (ls ++ ms) = textCells ls ++ textCells ms := by simp [textCells]
theorem textCells_one (ls : List (List UInt8)) : ∀ u ∈ textCells ls, u.oneCell' = true := by
  intro u hu
  obtain ⟨b, _, rfl⟩ := List.mem_map.1 hu
  rfl

/-- The slice at 'a' of 'n' texts reads as 'ls'. -/
def RowT (w : World) (a : Option Addr) (n : Nat) (ls : List (List UInt8)) : Prop :=
  ls.length = n ∧ (0 < n → ∃ b off, a = some ⟨b, off, none⟩ ∧ b < w.heap.size ∧ ∀ j l, ls[j]? = some l → w.cell? ⟨b, off + j, none⟩ = some (.string (bs l)))

theorem RowT.below {w w' : World} {a : Option Addr} {n : Nat} {ls : List (List UInt8)} (h : RowT w a n ls) (hb : Below w.heap.size w w') : RowT w' a n ls := by
  refine ⟨h.1, fun hn => ?_⟩
  obtain ⟨b, off, e, hlt, hc⟩ := h.2 hn
  exact ⟨b, off, e, Nat.lt_of_lt_of_le hlt hb.size, fun j l hl => (hb.cell (p := ⟨b, off + j, none⟩) hlt).trans (hc j l hl)⟩

/-- An owned row of texts. -/
def OwnsT (w : World) (base : Nat) (v : Value) (n : Nat) (ls : List (List UInt8)) : Prop := w.ownsRow base 9 1 v n (textCells ls)

theorem OwnsT.length {w : World} {base : Nat} {v : Value} {n : Nat} {ls : List (List UInt8)} (h : OwnsT w base v n ls) : ls.length = n := by
  have := h.1; rw [textCells_len] at this; omega
theorem OwnsT.lt {w : World} {base : Nat} {v : Value} {n : Nat} {ls : List (List UInt8)} (h : OwnsT w base v n ls) : ∀ k, v.ownBlock = some k → base ≤ k ∧ k < w.heap.size := World.ownsRow.lt h
theorem OwnsT.alloc {w : World} {base : Nat} {v : Value} {n : Nat} {ls : List (List UInt8)} (h : OwnsT w base v n ls) (o : Obj) : OwnsT (w.alloc o) base v n ls := World.ownsRow.alloc h o
theorem OwnsT.head {w : World} {base : Nat} {v : Value} {n : Nat} {ls : List (List UInt8)} (h : OwnsT w base v n ls) (hv : ¬ v = .slice none 0 0) : ∃ g c, v = .slice (some ⟨g, 0, none⟩) n c := by
  rcases h.2 with ⟨h2, _⟩ | ⟨g, cap, cur, h2, _⟩
  · exact absurd h2 hv
  · exact ⟨g, cap, h2⟩
theorem OwnsT.mono {w : World} {base base' : Nat} {v : Value} {n : Nat} {ls : List (List UInt8)} (h : OwnsT w base' v n ls) (hb : base ≤ base') : OwnsT w base v n ls := by
  obtain ⟨h1, h2⟩ := h
  refine ⟨h1, ?_⟩
  rcases h2 with h2 | ⟨g, cap, cur, hv, hg, r⟩
  · exact Or.inl h2
  · exact Or.inr ⟨g, cap, cur, hv, Nat.le_trans hb hg, r⟩
theorem OwnsT.grown {B : Nat} {a w w' : World} {base : Nat} {v : Value} {n : Nat} {ls : List (List UInt8)} (h : OwnsT w base v n ls) (hb : Below B a w) (hg : w.grownBy w' v.ownBlock) (hB : B ≤ base) (hs : B ≤ w.heap.size) : Below B a w' :=
  hb.grown hg hs (fun k hk => Nat.le_trans hB (h.lt k hk).1)
theorem OwnsT.row {w : World} {base g n c : Nat} {ls : List (List UInt8)} (h : OwnsT w base (.slice (some ⟨g, 0, none⟩) n c) n ls) : RowT w (some ⟨g, 0, none⟩) n ls := by
  refine ⟨h.length, fun _ => ⟨g, 0, rfl, (h.lt g rfl).2, fun j l hl => ?_⟩⟩
  have hc := World.ownsRow.cells h (g := g) rfl j (.string (bs l)) (by simp [textCells, hl])
  rw [add_lit] at hc
  exact hc

/-- What an append of one text leaves. -/
def AppResT (w w' : World) (base : Nat) (v v' : Value) (n : Nat) (ls : List (List UInt8)) (l : List UInt8) : Prop :=
  OwnsT w' base v' (n + 1) (ls ++ [l]) ∧ w.grownBy w' v.ownBlock ∧ ¬ v' = .slice none 0 0

theorem wpList_appT {P : Program} {w : World} {ops : Array Oper} {rest : List Oper} {o : Oper} {a : Act} {Q : Exit → Act → World → Prop} (hgd : o.guard = none) (s x : Operand)
    (ho : o.op = .call { callee := .builtin .append, args := #[s, x], argTypes := #[ 66, 66 ] })
    (base : Nat) (i : TypeInfo) (ht : P.underlying 66 = some (.slice 9)) (hi : P.info? 9 = some i) (hz : i.zero = some (.string ⟨#[]⟩)) (hsize : i.size = 1) (hby : i.bytes = 16)
    (v : Value) (n : Nat) (ls : List (List UInt8)) (hs : a.eval s = v) (hown : OwnsT w base v n ls) (g : Nat) (l : List UInt8) (hx : a.eval x = .slice (some ⟨g, 0, none⟩) 1 1) (hc : w.cell? ⟨g, 0, none⟩ = some (.string (bs l)))
    (hbig : n + 1 ≤ 1099511627776) (hbase : base ≤ w.heap.size)
    (h : ∀ v' w', AppResT w w' base v v' n ls l → wpList P ops Q rest (a.put o.dst v') w') : wpList P ops Q (o :: rest) a w := by
  refine wpList_append_own w hgd s x 66 ho base 9 i (.string ⟨#[]⟩) 1 16 ht hi hz hsize hby rfl (by decide) v n _ hs hown ⟨g, 0, none⟩ 1 1 (textCells [l]) hx (by simp [textCells]) ?_ (textCells_one _) (by unfold maxLen; omega) (by omega) hbase ?_
  · intro j u hu
    match j, hu with
    | 0, hu => simp [textCells] at hu; subst hu; rw [add_lit]; exact hc
    | j + 1, hu => simp [textCells] at hu
  · intro v' w' h1 h2 h3
    exact h v' w' ⟨by unfold OwnsT; rw [textCells_app]; exact h1, h2, fun e => by have := (h3.1 e).2; omega⟩

theorem ownsT_nil (w : World) : OwnsT (w.alloc (.cells #[] 9)) w.heap.size (.slice (some ⟨w.heap.size, 0, none⟩) 0 0) 0 [] := by
  have := World.ownsRow_lit (base := w.heap.size) (e := 9) (size := 1) w #[] 0 (Nat.le_refl _) (by unfold maxLen; omega) rfl
  simpa [OwnsT, textCells] using this

/-- How far l03Parts is. -/
def PartsAt (c : UInt8) (L : List UInt8) (k from_ : Nat) (done : List (List UInt8)) : Prop :=
  (k ≤ L.length ∧ from_ ≤ k ∧ c ∉ (L.drop from_).take (k - from_) ∧ parts c L = done ++ parts c (L.drop from_)) ∨ (k = L.length + 1 ∧ done = parts c L)

theorem partsAt_start (c : UInt8) (L : List UInt8) : PartsAt c L 0 0 [] := Or.inl ⟨Nat.zero_le _, Nat.le_refl _, by simp, by simp⟩

theorem partsAt_on {c : UInt8} {L : List UInt8} {k f : Nat} {done : List (List UInt8)} (h : PartsAt c L k f done) (hk : k < L.length) (hx : L[k] ≠ c) : PartsAt c L (k + 1) f done := by
  rcases h with ⟨h1, h2, h3, h4⟩ | ⟨h1, _⟩
  · refine Or.inl ⟨by omega, by omega, ?_, h4⟩
    have e : (L.drop f).take (k + 1 - f) = (L.drop f).take (k - f) ++ [L[k]] := by
      have hlt : k - f < (L.drop f).length := by rw [List.length_drop]; omega
      have e1 : k + 1 - f = k - f + 1 := by omega
      rw [e1, List.take_succ_eq_append_getElem hlt]
      congr 2
      rw [List.getElem_drop]
      congr 1
      omega
    rw [e]
    intro hm
    rcases List.mem_append.1 hm with hm | hm
    · exact h3 hm
    · exact hx (List.mem_singleton.1 hm).symm
  · omega

theorem partsAt_sign {c : UInt8} {L : List UInt8} {k f : Nat} {done : List (List UInt8)} (h : PartsAt c L k f done) (hk : k < L.length) (hx : L[k] = c) : PartsAt c L (k + 1) (k + 1) (done ++ [(L.drop f).take (k - f)]) := by
  rcases h with ⟨h1, h2, h3, h4⟩ | ⟨h1, _⟩
  · refine Or.inl ⟨by omega, Nat.le_refl _, by simp, ?_⟩
    have e : L.drop f = (L.drop f).take (k - f) ++ c :: L.drop (k + 1) := by
      have e1 : (L.drop f).drop (k - f) = L.drop k := by rw [List.drop_drop]; congr 1; omega
      rw [← hx, ← List.drop_eq_getElem_cons hk, ← e1, List.take_append_drop]
    rw [h4]
    conv => lhs; rw [e]
    rw [parts_cut _ h3, List.append_assoc]
    rfl
  · omega

theorem partsAt_end {c : UInt8} {L : List UInt8} {f : Nat} {done : List (List UInt8)} (h : PartsAt c L L.length f done) (g : Nat) : PartsAt c L (L.length + 1) g (done ++ [(L.drop f).take (L.length - f)]) := by
  rcases h with ⟨h1, h2, h3, h4⟩ | ⟨h1, _⟩
  · have e : (L.drop f).take (L.length - f) = L.drop f := List.take_of_length_le (by rw [List.length_drop]; omega)
    rw [e] at h3 ⊢
    exact Or.inr ⟨rfl, by rw [h4, parts_none h3]⟩
  · omega

theorem partsAt_done {c : UInt8} {L : List UInt8} {k f : Nat} {done : List (List UInt8)} (h : PartsAt c L k f done) (hk : ¬ k ≤ L.length) : done = parts c L := by
  rcases h with ⟨h1, _⟩ | ⟨_, h2⟩
  · omega
  · exact h2

theorem partsAt_from {c : UInt8} {L : List UInt8} {k f : Nat} {done : List (List UInt8)} (h : PartsAt c L k f done) (hk : k ≤ L.length) : f ≤ k := by
  rcases h with ⟨_, h2, _⟩ | ⟨h1, _⟩ <;> omega

theorem extract_bs (s : ByteArray) (f k : Nat) : s.extract f k = bs ((s.data.toList.drop f).take (k - f)) := by
  apply ByteArray.ext
  rw [ByteArray.data_extract]
  apply Array.ext'
  rw [Array.toList_extract]
  simp [bs]

/-- A row of texts of the call's own comes back. -/
def TextsRes (w : World) (ls : List (List UInt8)) (e : Ending) (w' : World) : Prop :=
  ∃ g c, e = .returned (.slice (some ⟨g, 0, none⟩) ls.length c) ∧ OwnsT w' w.heap.size (.slice (some ⟨g, 0, none⟩) ls.length c) ls.length ls ∧ Below w.heap.size w w'

theorem byte_at (s : ByteArray) (k : Nat) (h : k < s.size) : s.data.toList[k]'(by simpa using h) = s[k] := rfl

set_option maxRecDepth 20000 in
set_option maxHeartbeats 1600000 in
theorem specParts_any (s : ByteArray) (c : UInt8) (x : Int) (hx : x = (c.toNat : Int)) (w : World) (hs : s.size ≤ 1048576) :
    Calls Tryz.prog 32 #[.string s, .int .u8 x] w (TextsRes w (parts c s.data.toList)) := by
  obtain ⟨i0, hi, hz0, hz1, hz2⟩ := info_parts info_str
  have hl : s.data.toList.length = s.size := by simp
  have HL := Lib.hid hl
  have HX := Lib.hid hx
  clear hl hx
  go_enter Tryz.func32, Tryz.ntmps32
  go_wp2_with fail
  go_loopw [5, 6, 7] (fun out fr i wr => ∃ (k f len cc g : Nat) (done : List (List UInt8)), k ≤ s.size + 1 ∧ f ≤ k ∧ len ≤ k ∧ i = .int .i64 k ∧ fr = .int .i64 f ∧ out = .slice (some ⟨g, 0, none⟩) len cc ∧ Hid (OwnsT wr w.heap.size (.slice (some ⟨g, 0, none⟩) len cc) len done) ∧ Hid (PartsAt c s.data.toList k f done) ∧ Below w.heap.size w wr) (fun _ _ i _ => s.size + 1 - (intOf i).toNat)
  case atStart => exact ⟨0, 0, 0, 0, w.heap.size, [], by omega, by omega, by omega, rfl, rfl, rfl, ownsT_nil w, partsAt_start c _, (Below.refl _ w).alloc (Nat.le_refl _) _⟩
  case round =>
    obtain ⟨k, f, len, cc, g, done, hk, hfk, hlen, rfl, rfl, rfl, HO, HP, hb⟩ := hrel
    by_cases hle : k ≤ s.size
    · by_cases hlt : k < s.size
      · by_cases hc : s[k] = c
        · have hck : (((s[k].toNat : Nat) : Int) == x) = true := by rw [HX.out, hc]; simp
          have hkn : (((k : Nat) : Int) == ((s.size : Nat) : Int)) = false := by simp; omega
          have HPN : Hid (PartsAt c s.data.toList (k + 1) (k + 1) (done ++ [(s.data.toList.drop f).take (k - f)])) := partsAt_sign HP.out (by simpa using hlt) (by rw [byte_at s k hlt]; exact hc)
          clear hc
          have HE := Lib.hid (extract_bs s f k)
          have HC : Hid (∀ (o : Obj), o = .cells #[.string (s.extract f k)] 9 → (wr.alloc o).cell? ⟨wr.heap.size, 0, none⟩ = some (.string (bs ((s.data.toList.drop f).take (k - f))))) := by
            intro o ho
            subst ho
            rw [HE.out]
            simp
          go_wp2_with (at_builtin; refine wpList_appT rfl (.tmp 26) (.tmp 31) rfl w.heap.size i0 Tryz.underlying66 hi hz0 hz1 hz2 _ len done rfl (HO.out.alloc _) wr.heap.size ((s.data.toList.drop f).take (k - f)) rfl (HC.out _ rfl) (by omega) (by have := hb.size; simp; omega) ?_)
          rintro v2 w2 ⟨hO, hg, hn⟩
          obtain ⟨g2, c2, rfl⟩ := hO.head hn
          have HO2 := Lib.hid hO
          have hb2 := (HO.out.alloc (.cells #[.string (s.extract f k)] 9)).grown (hb.alloc hb.size _) hg (Nat.le_refl _) (by have := hb.size; simp; omega)
          clear hO hg hn HC
          go_wp2_with fail
          go_roundw
          case rel => exact ⟨k + 1, k + 1, len + 1, c2, g2, done ++ [(s.data.toList.drop f).take (k - f)], by omega, by omega, by omega, by go_num, by go_num, rfl, HO2.out, HPN.out, hb2⟩
          case measure => simp [intOf]; omega
        · have hck : (((s[k].toNat : Nat) : Int) == x) = false := by
            rw [HX.out, beq_eq_false_iff_ne]
            intro e
            exact hc (UInt8.toNat_inj.1 (by omega))
          have hkn : (((k : Nat) : Int) == ((s.size : Nat) : Int)) = false := by simp; omega
          have HPN : Hid (PartsAt c s.data.toList (k + 1) f done) := partsAt_on HP.out (by simpa using hlt) (by rw [byte_at s k hlt]; exact hc)
          clear hc
          go_wp2_with fail
          go_roundw
          case rel => exact ⟨k + 1, f, len, cc, g, done, by omega, by omega, by omega, by go_num, rfl, rfl, HO.out, HPN.out, hb⟩
          case measure => simp [intOf]; omega
      · obtain rfl : k = s.size := by omega
        have HPN : Hid (PartsAt c s.data.toList (s.size + 1) (s.size + 1) (done ++ [(s.data.toList.drop f).take (s.size - f)])) := by
          have h1 : PartsAt c s.data.toList s.data.toList.length f done := by rw [HL.out]; exact HP.out
          have h2 := partsAt_end h1 (s.size + 1)
          rw [HL.out] at h2
          exact h2
        have HE := Lib.hid (extract_bs s f s.size)
        have HC : Hid (∀ (o : Obj), o = .cells #[.string (s.extract f s.size)] 9 → (wr.alloc o).cell? ⟨wr.heap.size, 0, none⟩ = some (.string (bs ((s.data.toList.drop f).take (s.size - f))))) := by
          intro o ho
          subst ho
          rw [HE.out]
          simp
        go_wp2_with (at_builtin; refine wpList_appT rfl (.tmp 26) (.tmp 31) rfl w.heap.size i0 Tryz.underlying66 hi hz0 hz1 hz2 _ len done rfl (HO.out.alloc _) wr.heap.size ((s.data.toList.drop f).take (s.size - f)) rfl (HC.out _ rfl) (by omega) (by have := hb.size; simp; omega) ?_)
        rintro v2 w2 ⟨hO, hg, hn⟩
        obtain ⟨g2, c2, rfl⟩ := hO.head hn
        have HO2 := Lib.hid hO
        have hb2 := (HO.out.alloc (.cells #[.string (s.extract f s.size)] 9)).grown (hb.alloc hb.size _) hg (Nat.le_refl _) (by have := hb.size; simp; omega)
        clear hO hg hn HC
        go_wp2_with fail
        go_roundw
        case rel => exact ⟨s.size + 1, s.size + 1, len + 1, c2, g2, done ++ [(s.data.toList.drop f).take (s.size - f)], by omega, by omega, by omega, by go_num, by go_num, rfl, HO2.out, HPN.out, hb2⟩
        case measure => simp [intOf]
    · have HD : Hid (done = parts c s.data.toList) := partsAt_done HP.out (by rw [HL.out]; exact hle)
      go_wp2_with fail
      go_ret
      have hlen2 := HO.out.length
      rw [HD.out] at hlen2
      have hO := HO.out
      rw [HD.out, ← hlen2] at hO
      exact ⟨g, cc, by rw [hlen2]; rfl, hO, hb⟩

/-- The numbers of a line come back, in a row of the call's own; or none, and false. -/
def LineRes (w : World) (r : Option (List Int)) (e : Ending) (w' : World) : Prop :=
  ∃ (v : Value) (n : Nat) (xs : List Int) (ok : Bool), e = .returned (.tuple #[v, .bool ok]) ∧ Owns w' w.heap.size v n xs ∧ Below w.heap.size w w' ∧ ((ok = true ∧ r = some xs) ∨ (ok = false ∧ r = none))

theorem bs_inj {x y : List UInt8} (h : bs x = bs y) : x = y := by
  have := congrArg (fun b => b.data.toList) h
  simpa [bs] using this

theorem bs_data (l : List UInt8) : (bs l).data.toList = l := by simp [bs]

theorem bs_toList (l : List UInt8) : (bs l).toList = l := by rw [ByteArray.toList_eq]; exact bs_data l

theorem lineAt_other {word line h : List UInt8} {t : List (List UInt8)} (hp : parts 32 line = h :: t) (hne : ¬ h = word) : lineAt word line = none := by
  unfold lineAt
  rw [hp]
  simp [hne]

theorem lineAt_word {word line h : List UInt8} {t : List (List UInt8)} (hp : parts 32 line = h :: t) (he : h = word) : lineAt word line = numsIn t := by
  unfold lineAt
  rw [hp]
  simp [he]

theorem numsIn_more {t : List (List UInt8)} {k : Nat} {xs : List Int} {n : Int} (hk : k < t.length) (h : numsIn (t.take k) = some xs) (hn : numOf t[k] = some n) : numsIn (t.take (k + 1)) = some (xs ++ [n]) := by
  rw [List.take_succ_eq_append_getElem hk, numsIn_snoc, h, hn]

theorem numsIn_bad {t : List (List UInt8)} {k : Nat} {xs : List Int} (hk : k < t.length) (h : numsIn (t.take k) = some xs) (hn : numOf t[k] = none) : numsIn t = none := by
  refine numsIn_stop (k := k + 1) ?_
  rw [List.take_succ_eq_append_getElem hk, numsIn_snoc, h, hn]

set_option maxRecDepth 20000 in
set_option maxHeartbeats 1600000 in
theorem specLine_any (line word : List UInt8) (w : World) (hs : line.length ≤ 1048576) :
    Calls Tryz.prog 33 #[.string (bs line), .string (bs word)] w (LineRes w (lineAt word line)) := by
  obtain ⟨i0, hi, hz0, hz1, hz2⟩ := info_parts info_int
  obtain ⟨S, hS⟩ : ∃ S, S = bs line := ⟨_, rfl⟩
  obtain ⟨W0, hW⟩ : ∃ S, S = bs word := ⟨_, rfl⟩
  have CP : Hid (∀ W, Calls Tryz.prog 32 #[.string S, .int .u8 32] W (TextsRes W (parts 32 line))) := fun W => by
    have := specParts_any S 32 32 rfl W (by rw [hS, bs_size]; exact hs)
    rw [hS, bs_data] at this
    rw [hS]
    exact this
  obtain ⟨h0, t0, hp⟩ : ∃ h t, parts 32 line = h :: t := by
    cases e : parts 32 line with
    | nil => exact absurd e (parts_ne _ _)
    | cons h t => exact ⟨h, t, rfl⟩
  have HLN : Hid (∀ l ∈ parts 32 line, l.length ≤ line.length) := fun l hl => parts_short hl
  have hcnt : (parts 32 line).length ≤ line.length + 1 := parts_len 32 line
  have HP := Lib.hid hp
  rw [← hS, ← hW]
  have HW := Lib.hid hW
  have hpos : (parts 32 line).length = t0.length + 1 := by rw [hp]; rfl
  clear hS hW hp
  go_enter Tryz.func33, Tryz.ntmps33
  go_wp2_with fail
  refine (CP.out _).mono ?_
  rintro e w1 ⟨g, c, rfl, hO, hb1⟩
  rw [hpos]
  have HO := Lib.hid hO
  have HR := Lib.hid hO.row
  obtain ⟨b, off, hab, hbl, hc⟩ := hO.row.2 (by omega)
  cases hab
  have HC := Lib.hid hc
  have k0 : w1.cell? ⟨g, 0, none⟩ = some (.string (bs h0)) := by
    have := hc 0 h0 (by rw [HP.out]; rfl)
    simpa using this
  clear hO hc
  obtain ⟨H0, hH⟩ : ∃ S, S = bs h0 := ⟨_, rfl⟩
  rw [← hH] at k0
  have HH := Lib.hid hH
  clear hH
  by_cases he : h0 = word
  · have hq : (H0.toList == W0.toList) = true := by rw [HH.out, HW.out, he]; simp
    have HLA : Hid (lineAt word line = numsIn t0) := lineAt_word HP.out he
    clear he
    have HB1 := Lib.hid hb1
    have HN0 : Hid (Owns (w1.alloc (.cells #[] 3)) w1.heap.size (.slice (some ⟨w1.heap.size, 0, none⟩) 0 0) 0 []) := owns_lit w1 [] 0 rfl (by unfold maxLen; omega)
    go_wp2_with fail
    clear k0 hq
    go_loopw [7, 8] (fun out i wr => ∃ (k cc gg : Nat) (xs : List Int), k ≤ t0.length ∧ i = .int .i64 ((k : Int) + 1) ∧ out = .slice (some ⟨gg, 0, none⟩) k cc ∧ Hid (Owns wr w1.heap.size (.slice (some ⟨gg, 0, none⟩) k cc) k xs) ∧ Hid (numsIn (t0.take k) = some xs) ∧ Below w1.heap.size w1 wr) (fun _ i _ => t0.length + 1 - (intOf i).toNat)
    case atStart => exact ⟨0, 0, w1.heap.size, [], Nat.zero_le _, rfl, rfl, HN0, by simp [Hid, numsIn], (Below.refl _ w1).alloc (Nat.le_refl _) _⟩
    case round =>
      obtain ⟨k, cc, gg, xs, hk, rfl, rfl, HX, HNI, hb⟩ := hrel
      by_cases hlt : k < t0.length
      · obtain ⟨l, hl⟩ : ∃ l, l = t0[k] := ⟨_, rfl⟩
        have hlk : (parts 32 line)[k + 1]? = some l := by rw [HP.out, hl]; simp [hlt]
        have kc : wr.cell? ⟨g, k + 1, none⟩ = some (.string (bs l)) := by
          rw [hb.cell (p := ⟨g, k + 1, none⟩) hbl]
          have := HC.out (k + 1) l hlk
          simpa using this
        have HLL : Hid (l.length ≤ 1048576) := Nat.le_trans (HLN.out l (List.mem_of_getElem? hlk)) hs
        have HL := Lib.hid hl
        clear hl hlk
        obtain ⟨T, hT⟩ : ∃ S, S = bs l := ⟨_, rfl⟩
        rw [← hT] at kc
        have CR : Hid (∀ W, Calls Tryz.prog 49 #[.string T] W (ReadRes W l)) := fun W => by
          have := specNumRead_any T W (by rw [hT, bs_size]; exact HLL.out)
          rw [hT, bs_data] at this
          rw [hT]
          exact this
        clear hT
        go_wp2_with fail
        refine (CR.out _).mono ?_
        rintro e w2 ⟨n, ok, rfl, hr, hb2⟩
        have HRD := Lib.hid (numOf_reads hr)
        have hb12 := hb.trans (hb2.mono hb.size)
        have HX2 := Lib.hid (HX.out.below hb2)
        clear hr hb2 kc
        cases ok with
        | true =>
          have HNX : Hid (numsIn (t0.take (k + 1)) = some (xs ++ [n])) := numsIn_more hlt HNI.out (by rw [← HL.out]; exact HRD.out)
          have hsz : w1.heap.size ≤ w2.heap.size := hb12.size
          go_wp2_with (at_builtin; refine wpList_app rfl (.tmp 37) (.tmp 39) rfl w1.heap.size i0 Tryz.underlying24 hi hz0 hz1 hz2 _ k xs rfl (HX2.out.alloc _) (some ⟨w2.heap.size, 0, none⟩) 1 1 [n] rfl (src_one (by simp)) (by omega) (by simp; omega) ?_)
          rintro v3 w3 ⟨hO3, hg3, hn3⟩
          have hnn : ¬ v3 = .slice none 0 0 := fun e => by have := (hn3.1 e).1; simp at this
          obtain ⟨g3, c3, rfl⟩ := hO3.head hnn
          have HO3 := Lib.hid hO3
          have hb3 := (HX2.out.alloc (.cells #[.int .i64 n] 3)).grown (hb12.alloc hb12.size _) hg3 (Nat.le_refl _) (by simp; omega)
          clear hO3 hg3 hn3 hnn
          go_wp2_with fail
          go_roundw
          case rel => exact ⟨k + 1, c3, g3, xs ++ [n], by omega, by go_num, rfl, HO3.out, HNX.out, hb3⟩
          case measure => simp [intOf]; omega
        | false =>
          have HNX : Hid (numsIn t0 = none) := numsIn_bad hlt HNI.out (by rw [← HL.out]; exact HRD.out)
          go_wp2_with fail
          go_ret2
          have hbw := HB1.out.trans (hb12.mono HB1.out.size)
          exact ⟨_, 0, [], false, rfl, (owns_lit w2 [] 0 rfl (by unfold maxLen; omega)).mono hbw.size, hbw.alloc hbw.size _, Or.inr ⟨rfl, by rw [HLA.out]; exact HNX.out⟩⟩
      · obtain rfl : k = t0.length := by omega
        have HE : Hid (t0.take t0.length = t0) := List.take_of_length_le (by omega)
        go_wp2_with fail
        go_ret2
        have hbw := HB1.out.trans (hb.mono HB1.out.size)
        exact ⟨_, _, xs, true, rfl, HX.out.mono HB1.out.size, hbw, Or.inl ⟨rfl, by rw [HLA.out, ← HNI.out, HE.out]⟩⟩
  · have hq : (H0.toList == W0.toList) = false := by rw [HH.out, HW.out, bs_toList, bs_toList]; simpa using he
    have HLA : Hid (lineAt word line = none) := lineAt_other HP.out he
    clear he
    go_wp2_with fail
    go_ret2
    exact ⟨_, 0, [], false, rfl, (owns_lit w1 [] 0 rfl (by unfold maxLen; omega)).mono hb1.size, hb1.alloc hb1.size _, Or.inr ⟨rfl, HLA.out⟩⟩

end Go.Proofs.YtfhjhfhfbgddeaaGreatDoor
