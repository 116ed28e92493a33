/- Plain: numbers in digits got back; a value's text got back. No program. -/
import Derived.Test.YtfjfneliajmjbaaDoorRdP
import Derived.Test.YtfjfneliajmjbaaDoorVl
import Derived.Lib.ParseIntBCases
namespace Go.Proofs.YtfjfneliajmjbaaDoor.nump
open Go.RowKit ad vl
set_option linter.unusedVariables false
set_option linter.unusedSimpArgs false

/-- what digits spell behind a. -/
def spell (a : Nat) (l : List UInt8) : Nat := l.foldl (fun a c => 10 * a + (c.toNat - 48)) a
theorem spell_le : ∀ (l : List UInt8) (a : Nat), a ≤ spell a l
  | [], a => Nat.le_refl _
  | c :: r, a => by
    have := spell_le r (10 * a + (c.toNat - 48))
    show a ≤ spell (10 * a + (c.toNat - 48)) r
    omega
def digs (l : List UInt8) : Prop := ∀ c ∈ l, 48 ≤ c.toNat ∧ c.toNat ≤ 57
theorem digs_dec (n : Nat) : digs (Lib.decDigits n) := fun c hc => ard.dec_dig n c hc
theorem spell_app (a : Nat) (l m : List UInt8) : spell a (l ++ m) = spell (spell a l) m := by simp [spell]
theorem digit_of (x : Nat) (h : x < 10) : (UInt8.ofNat (48 + x)).toNat = 48 + x := by rw [UInt8.toNat_ofNat_of_lt' (by change _ < 256; omega)]
theorem spell_dec : ∀ n : Nat, spell 0 (Lib.decDigits n) = n := fun n => by
  induction n using Nat.strongRecOn with
  | ind n ih =>
    rw [Lib.decDigits]
    split
    · rename_i h
      simp only [spell, List.foldl]
      have := digit_of n h
      omega
    · rename_i h
      rw [spell_app, ih (n / 10) (by omega)]
      simp only [spell, List.foldl]
      have := digit_of (n % 10) (by omega)
      omega
theorem dec_ne (n : Nat) : Lib.decDigits n ≠ [] := by
  rw [Lib.decDigits]; split <;> simp
theorem dec_len : ∀ (k n : Nat), n < 10 ^ (k + 1) → (Lib.decDigits n).length ≤ k + 1 := fun k => by
  induction k with
  | zero => intro n h; rw [Lib.decDigits, dif_pos (by omega)]; simp
  | succ k ih =>
    intro n h
    rw [Lib.decDigits]
    split
    · simp
    · have : n / 10 < 10 ^ (k + 1) := by
        have e : 10 ^ (k + 1 + 1) = 10 * 10 ^ (k + 1) := by rw [Nat.pow_succ]; omega
        omega
      have := ih (n / 10) this
      simp; omega
theorem dec_head : ∀ (n : Nat), 0 < n → ∀ c r, Lib.decDigits n = c :: r → c.toNat ≠ 48 := fun n => by
  induction n using Nat.strongRecOn with
  | ind n ih =>
    intro h0 c r h
    rw [Lib.decDigits] at h
    split at h
    · rename_i hn
      simp only [List.cons.injEq] at h
      have := digit_of n hn
      rw [← h.1]; omega
    · rename_i hn
      cases hd : Lib.decDigits (n / 10) with
      | nil => exact absurd hd (dec_ne _)
      | cons c' r' =>
        rw [hd] at h
        simp only [List.cons_append, List.cons.injEq] at h
        rw [← h.1]
        exact ih (n / 10) (by omega) (by omega) c' r' hd
theorem parse_spell : ∀ (l : List UInt8) (a : Nat), digs l → spell a l ≤ 1000000000 → Lib.parseUintM (2 ^ 64 - 1) a l = .ok (spell a l)
  | [], a, _, _ => rfl
  | c :: r, a, hd, hl => by
    have hc := hd c (by simp)
    have e : spell a (c :: r) = spell (10 * a + (c.toNat - 48)) r := rfl
    have h1 := spell_le r (10 * a + (c.toNat - 48))
    rw [e] at hl ⊢
    rw [Lib.parseUintM, if_pos hc, if_neg (by omega), if_neg (by omega)]
    have e2 : a * 10 + (c.toNat - 48) = 10 * a + (c.toNat - 48) := by omega
    rw [e2]
    exact parse_spell r _ (fun x hx => hd x (by simp [hx])) hl
theorem parseU_dec (n : Nat) (h : n ≤ 1000000000) : Lib.parseUintB 64 (Lib.decDigits n) = .ok n := by
  unfold Lib.parseUintB
  rw [if_neg (dec_ne n), parse_spell _ 0 (digs_dec n) (by rw [spell_dec]; exact h), spell_dec]
theorem parseI_itoa (x : Int) (h0 : -1000000000 ≤ x) (h1 : x ≤ 1000000000) : Lib.parseIntB 64 (Lib.itoa x) = .ok x := by
  unfold Lib.itoa
  split
  · rename_i h
    unfold Lib.parseIntB
    have e45 : (45 : UInt8).toNat = 45 := rfl
    simp only [e45, or_true, if_true, parseU_dec x.natAbs (by omega)]
    have e2 : ¬ (2 : Nat) ^ (64 - 1) < x.natAbs := by
      have : (2 : Nat) ^ (64 - 1) = 9223372036854775808 := rfl
      omega
    have e3 : ((x.natAbs : Nat) : Int) = -x := by omega
    simp [e2, e3]
  · rename_i h
    have hp := parseU_dec x.toNat (by omega)
    cases hd : Lib.decDigits x.toNat with
    | nil => exact absurd hd (dec_ne _)
    | cons c r =>
      rw [hd] at hp
      have hc := ard.dec_dig x.toNat c (by rw [hd]; simp)
      have n43 : ¬ c.toNat = 43 := by omega
      have n45 : ¬ c.toNat = 45 := by omega
      unfold Lib.parseIntB
      simp only [n43, n45, or_self, if_false, hp]
      have e1 : ¬ (2 : Nat) ^ (64 - 1) ≤ x.toNat := by omega
      simp [e1]
      omega

theorem itoa_head (x : Int) : ∃ c r, Lib.itoa x = c :: r ∧ (c.toNat = 45 ∨ (48 ≤ c.toNat ∧ c.toNat ≤ 57)) := by
  unfold Lib.itoa
  split
  · exact ⟨45, _, rfl, .inl rfl⟩
  · cases hd : Lib.decDigits x.toNat with
    | nil => exact absurd hd (dec_ne _)
    | cons c r => exact ⟨c, r, rfl, .inr (ard.dec_dig x.toNat c (by rw [hd]; simp))⟩

/-- s is the text of v. -/
def HasV (s : ByteArray) (v : ValD) : Prop := valB v = true ∧ rawV v = s.data.toList
theorem has_parts {s : ByteArray} {v : ValD} (h : HasV s v) :
    (v.kind = 1 ∧ v.text = ByteArray.empty ∧ -1000000 ≤ v.n ∧ v.n ≤ 1000000 ∧ s.data.toList = Lib.itoa v.n) ∨ (v.kind = 2 ∧ v.n = 0 ∧ tOk v.text ∧ s.data.toList = 34 :: (v.text.data.toList ++ [34])) := by
  obtain ⟨h1, h2⟩ := h
  simp only [valB, Bool.or_eq_true, Bool.and_eq_true, beq_iff_eq, decide_eq_true_eq] at h1
  rcases h1 with ⟨⟨⟨k, a⟩, b⟩, c⟩ | ⟨⟨k, a⟩, b⟩
  · exact .inl ⟨k, empty_of_size c, a, b, by rw [← h2]; simp [rawV, k]⟩
  · exact .inr ⟨k, a, tB_iff.1 b, by rw [← h2]; simp [rawV, k]⟩
theorem has_ne {s : ByteArray} {v : ValD} (h : HasV s v) : s.data.toList ≠ [] := by
  rcases has_parts h with ⟨_, _, _, _, e⟩ | ⟨_, _, _, e⟩
  · obtain ⟨c, r, e2, _⟩ := itoa_head v.n
    rw [e, e2]; simp
  · rw [e]; simp
open Classical in
/-- what ValueRead tells. -/
noncomputable def ans (s : ByteArray) : ValD × Int := if 8000 < s.size then (⟨0, 0, ByteArray.empty⟩, 2) else if h : ∃ v, HasV s v then (h.choose, 0) else (⟨0, 0, ByteArray.empty⟩, 3)
theorem ans_long {s : ByteArray} (h : 8000 < s.size) : ans s = (⟨0, 0, ByteArray.empty⟩, 2) := by unfold ans; rw [if_pos h]
theorem ans_yes {s : ByteArray} {v : ValD} (hs : ¬ 8000 < s.size) (hu : ∀ u, HasV s u → v = u) (h : HasV s v) : ans s = (v, 0) := by
  unfold ans
  have hx : ∃ v, HasV s v := ⟨v, h⟩
  rw [if_neg hs, dif_pos hx]
  have := hu _ hx.choose_spec
  rw [← this]
theorem ans_no {s : ByteArray} (hs : ¬ 8000 < s.size) (h : ¬ ∃ v, HasV s v) : ans s = (⟨0, 0, ByteArray.empty⟩, 3) := by
  unfold ans; rw [if_neg hs, dif_neg h]
theorem has_iff {s : ByteArray} {v : ValD} (hne : s.data.toList ≠ []) : HasV s v ↔ valT v = s.data.toList := by
  unfold HasV valT
  constructor
  · rintro ⟨h1, h2⟩; rw [if_pos h1]; exact h2
  · intro h
    by_cases hv : valB v = true
    · rw [if_pos hv] at h; exact ⟨hv, h⟩
    · rw [if_neg hv] at h; exact absurd h.symm hne
theorem no_of {s : ByteArray} {v : ValD} (hu : ∀ u, HasV s u → v = u) (h : ¬ HasV s v) : ¬ ∃ u, HasV s u := fun ⟨u, hu'⟩ => h (by rw [hu u hu']; exact hu')

/-- a text that begins with a quote. -/
theorem quote_cut {s : ByteArray} (r : List UInt8) (hs : s.data.toList = 34 :: r) {v : ValD} (h : HasV s v) : v.kind = 2 ∧ v.n = 0 ∧ r = v.text.data.toList ++ [34] := by
  rcases has_parts h with ⟨_, _, _, _, e⟩ | ⟨k, n, _, e⟩
  · obtain ⟨c, r', e2, hc⟩ := itoa_head v.n
    rw [e, e2] at hs
    simp only [List.cons.injEq] at hs
    rw [hs.1] at hc
    rcases hc with hc | hc
    · exact absurd hc (by decide)
    · exact absurd hc.1 (by decide)
  · rw [e] at hs
    simp only [List.cons.injEq, true_and] at hs
    exact ⟨k, n, hs.symm⟩
theorem num_cut {s : ByteArray} (hs : ∀ r, s.data.toList ≠ 34 :: r) {v : ValD} (h : HasV s v) : v.kind = 1 ∧ v.text = ByteArray.empty ∧ -1000000 ≤ v.n ∧ v.n ≤ 1000000 ∧ s.data.toList = Lib.itoa v.n := by
  rcases has_parts h with h | ⟨_, _, _, e⟩
  · exact h
  · exact absurd e (hs _)
end Go.Proofs.YtfjfneliajmjbaaDoor.nump
