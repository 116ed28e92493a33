/- Plain: an address's text, cut where it may be cut. No program. -/
import Derived.Test.YtfjfneliajmjbaaDoorAd
import Derived.Lib.SplitLaws
import Derived.Lib.IndexLaws
import Derived.Lib.IndexBytes
namespace Go.Proofs.YtfjfneliajmjbaaDoor.ard
open Go.RowKit ad
set_option linter.unusedVariables false
set_option linter.unusedSimpArgs false

/-- split at a byte. -/
def splitL (b : UInt8) : List UInt8 → List (List UInt8)
  | [] => [[]]
  | c :: cs => if c = b then [] :: splitL b cs else match splitL b cs with
    | [] => [[c]]
    | w :: ws => (c :: w) :: ws
theorem splitL_none {b : UInt8} : ∀ {l : List UInt8}, b ∉ l → splitL b l = [l]
  | [], _ => rfl
  | c :: cs, h => by
    have h1 : c ≠ b := fun e => h (by simp [e])
    rw [splitL, if_neg h1, splitL_none (fun hm => h (by simp [hm]))]
theorem splitL_app {b : UInt8} {y : List UInt8} : ∀ {x : List UInt8}, b ∉ x → splitL b (x ++ b :: y) = x :: splitL b y
  | [], _ => by rw [List.nil_append, splitL, if_pos rfl]
  | c :: cs, h => by
    have h1 : c ≠ b := fun e => h (by simp [e])
    rw [List.cons_append, splitL, if_neg h1, splitL_app (fun hm => h (by simp [hm]))]

theorem word_no {s : ByteArray} (h : wordB s = true) {b : UInt8} (hb : b.toNat < 97) : b ∉ s.data.toList := by
  intro hm
  obtain ⟨k, hk, e⟩ := List.getElem_of_mem hm
  have := (wordB_iff.1 h).2.2 k (by simpa using hk)
  have e2 : s[k]'(by simpa using hk) = b := by rw [← e]; rfl
  rw [e2] at this
  omega
theorem dec_dig : ∀ (n : Nat), ∀ c ∈ Lib.decDigits n, 48 ≤ c.toNat ∧ c.toNat ≤ 57 := fun n => by
  induction n using Nat.strongRecOn with
  | ind n ih =>
    intro c hc
    have hd : ∀ x : Nat, x < 10 → 48 ≤ (UInt8.ofNat (48 + x)).toNat ∧ (UInt8.ofNat (48 + x)).toNat ≤ 57 := fun x hx => by
      rw [UInt8.toNat_ofNat_of_lt' (by change _ < 256; omega)]; omega
    rw [Lib.decDigits] at hc
    split at hc
    · rename_i h
      obtain rfl : c = UInt8.ofNat (48 + n) := by simpa using hc
      exact hd n h
    · rename_i h
      rw [List.mem_append] at hc
      rcases hc with hc | hc
      · exact ih (n / 10) (by omega) c hc
      · obtain rfl : c = UInt8.ofNat (48 + n % 10) := by simpa using hc
        exact hd _ (by omega)

theorem key_parts {d : AddrD} (h : addrB d = true) : pathB d.path = true ∧ wordB d.typ = true ∧ wordB d.nam = true ∧
    ((d.kind = 0 ∧ d.n = 0 ∧ d.key = ByteArray.empty) ∨ (d.kind = 1 ∧ 0 ≤ d.n ∧ d.n ≤ 99 ∧ d.key = ByteArray.empty) ∨ (d.kind = 2 ∧ d.n = 0 ∧ wordB d.key = true)) := by
  simp only [addrB, keyB, Bool.and_eq_true, Bool.or_eq_true, beq_iff_eq, decide_eq_true_eq] at h
  obtain ⟨⟨⟨h1, h2⟩, h3⟩, h4⟩ := h
  refine ⟨h1, h2, h3, ?_⟩
  rcases h4 with (⟨⟨a, b⟩, c⟩ | ⟨⟨⟨a, b⟩, c⟩, e⟩) | ⟨⟨a, b⟩, c⟩
  · exact .inl ⟨a, b, empty_of_size c⟩
  · exact .inr (.inl ⟨a, b, c, empty_of_size e⟩)
  · exact .inr (.inr ⟨a, b, c⟩)
theorem path_words {l : List ByteArray} (h : pathB l = true) : l.length ≤ 2 ∧ ∀ s ∈ l, wordB s = true := by
  simpa [pathB] using h

/-- what stands behind the path. -/
def tailT (d : AddrD) : List UInt8 := d.typ.data.toList ++ 46 :: (d.nam.data.toList ++ keyT d.kind d.n d.key)
theorem raw_eq (d : AddrD) : rawT d = pathT d.path ++ tailT d := by simp [rawT, tailT]
theorem keyT_no {d : AddrD} (h : addrB d = true) {b : UInt8} (hb : b.toNat < 48) : b ∉ keyT d.kind d.n d.key := by
  obtain ⟨_, _, _, h4⟩ := key_parts h
  unfold keyT
  intro hm
  rcases h4 with ⟨a, _, _⟩ | ⟨a, _, _, _⟩ | ⟨a, _, c⟩
  · simp [a] at hm
  · simp only [a, if_true, List.mem_append, List.mem_singleton] at hm
    rcases hm with (rfl | hm) | rfl
    · exact absurd hb (by decide)
    · have := dec_dig _ _ hm; omega
    · exact absurd hb (by decide)
  · simp only [a, (by decide : ¬ (2 : Int) = 1), if_false, if_true, List.mem_append, List.mem_singleton] at hm
    rcases hm with (rfl | hm) | rfl
    · exact absurd hb (by decide)
    · exact word_no c (by omega) hm
    · exact absurd hb (by decide)
theorem tail_no {d : AddrD} (h : addrB d = true) : (47 : UInt8) ∉ tailT d := by
  obtain ⟨_, h2, h3, _⟩ := key_parts h
  unfold tailT
  simp only [List.mem_append, List.mem_cons, not_or]
  exact ⟨word_no h2 (by decide), by decide, word_no h3 (by decide), keyT_no h (by decide)⟩
theorem split_path : ∀ {l : List ByteArray}, (∀ s ∈ l, wordB s = true) → ∀ {t : List UInt8}, (47 : UInt8) ∉ t → splitL 47 (pathT l ++ t) = l.map (·.data.toList) ++ [t]
  | [], _, t, ht => by simp [pathT, splitL_none ht]
  | x :: xs, h, t, ht => by
    have e : pathT (x :: xs) ++ t = x.data.toList ++ 47 :: (pathT xs ++ t) := by simp [pathT]
    rw [e, splitL_app (word_no (h x (by simp)) (by decide)), split_path (fun s hs => h s (by simp [hs])) ht]
    rfl
theorem split_raw {d : AddrD} (h : addrB d = true) : splitL 47 (rawT d) = d.path.map (·.data.toList) ++ [tailT d] := by
  rw [raw_eq]; exact split_path (path_words (key_parts h).1).2 (tail_no h)

theorem list_cut {b : UInt8} : ∀ {p p' q q' : List UInt8}, b ∉ p → b ∉ p' → p ++ b :: q = p' ++ b :: q' → p = p' ∧ q = q'
  | [], [], _, _, _, _, e => ⟨rfl, by simpa using e⟩
  | [], c :: cs, _, _, _, h, e => by simp at e; exact absurd e.1 (fun e => h (by simp [e]))
  | c :: cs, [], _, _, h, _, e => by simp at e; exact absurd e.1 (fun e => h (by simp [e]))
  | c :: cs, c' :: cs', q, q', h, h', e => by
    simp only [List.cons_append, List.cons.injEq] at e
    obtain ⟨rfl, e⟩ := e
    obtain ⟨rfl, rfl⟩ := list_cut (fun hm => h (by simp [hm])) (fun hm => h' (by simp [hm])) e
    exact ⟨rfl, rfl⟩

/-- Go's library: cut at a byte. -/
theorem index_hit1 {b : UInt8} {p q : List UInt8} (h : b ∉ p) : Lib.index (p ++ b :: q) [b] = p.length := by
  rw [Lib.index_one]
  induction p with
  | nil => simp [Lib.indexByte]
  | cons c cs ih =>
    have h1 : ¬ c = b := fun e => h (by simp [e])
    have := ih (fun hm => h (by simp [hm]))
    simp only [List.cons_append, Lib.indexByte]
    simp [h1, this]
theorem index_miss1 {b : UInt8} {p : List UInt8} (h : b ∉ p) : Lib.index p [b] = -1 := by
  rw [Lib.index_one]
  induction p with
  | nil => rfl
  | cons c cs ih =>
    have h1 : ¬ c = b := fun e => h (by simp [e])
    have := ih (fun hm => h (by simp [hm]))
    simp only [Lib.indexByte]
    simp [h1, this]
theorem cut_hit {b : UInt8} {p q : List UInt8} (h : b ∉ p) : Lib.cut (p ++ b :: q) [b] = (p, q, true) := by
  unfold Lib.cut
  rw [index_hit1 h, if_pos (by omega)]
  simp
theorem cut_miss {b : UInt8} {p : List UInt8} (h : b ∉ p) : Lib.cut p [b] = (p, [], false) := by
  unfold Lib.cut
  rw [index_miss1 h, if_neg (by omega)]
theorem splitK_hit {b : UInt8} {p q : List UInt8} (h : b ∉ p) : Lib.splitK [b] 0 (Lib.count (p ++ b :: q) [b]) (p ++ b :: q) = p :: Lib.splitK [b] 0 (Lib.count q [b]) q := by
  have hc := Lib.count_hit (s := p ++ b :: q) (sub := [b]) (by simp) (index_hit1 h)
  have e : (p ++ b :: q).drop (p.length + [b].length) = q := by simp
  rw [e] at hc
  rw [hc, Nat.add_comm, Lib.splitK, index_hit1 h]
  have hne : ¬ ((p.length : Int) == -1) = true := by simp
  rw [if_neg hne]
  simp
theorem splitK_miss {b : UInt8} {p : List UInt8} (h : b ∉ p) : Lib.splitK [b] 0 (Lib.count p [b]) p = [p] := by
  rw [Lib.count_miss (index_miss1 h)]; rfl
theorem first_of {b : UInt8} : ∀ {l : List UInt8}, b ∈ l → ∃ p q, l = p ++ b :: q ∧ b ∉ p
  | c :: cs, h => by
    by_cases e : c = b
    · exact ⟨[], cs, by simp [e], by simp⟩
    · obtain ⟨p, q, rfl, hp⟩ := first_of (l := cs) (by simpa [Ne.symm e, eq_comm, e] using h)
      exact ⟨c :: p, q, rfl, by simp [hp, Ne.symm e, eq_comm, e]⟩
theorem splitK_is (b : UInt8) : ∀ (k : Nat) (l : List UInt8), l.length ≤ k → Lib.splitK [b] 0 (Lib.count l [b]) l = splitL b l := fun k => by
  induction k with
  | zero =>
    intro l hl
    have e0 : l = [] := List.eq_nil_of_length_eq_zero (by omega)
    subst e0
    rfl
  | succ k ih =>
    intro l hl
    by_cases h : b ∈ l
    · obtain ⟨p, q, rfl, hp⟩ : ∃ p q, l = p ++ b :: q ∧ b ∉ p := by
        exact first_of h
      rw [splitK_hit hp, splitL_app hp, ih q (by simp at hl; omega)]
    · rw [splitK_miss h, splitL_none h]
end Go.Proofs.YtfjfneliajmjbaaDoor.ard
