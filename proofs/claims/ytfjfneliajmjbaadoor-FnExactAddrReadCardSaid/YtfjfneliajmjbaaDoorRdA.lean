/- An address got back from its text: what is told, and that both ways of cutting find it. -/
import Derived.Test.YtfjfneliajmjbaaDoorSSplit
import Derived.Test.YtfjfneliajmjbaaDoorSCut
import Derived.Test.YtfjfneliajmjbaaDoorSNum
import Derived.Test.YtfjfneliajmjbaaDoorNumP
namespace Go.Proofs.YtfjfneliajmjbaaDoor.rda
open ad mem ard nump
open Go.ChangeShapes Go.WideShapes Go.ChangeAt Go.RowKit Go.Lib
set_option linter.unusedVariables false
set_option maxRecDepth 8000
set_option linter.unusedSimpArgs false

/-- s is the text of d. -/
def HasA (s : ByteArray) (d : AddrD) : Prop := addrB d = true ∧ rawT d = s.data.toList
def noA : AddrD := ⟨[], ByteArray.empty, ByteArray.empty, 0, 0, ByteArray.empty⟩
theorem data_inj {x y : ByteArray} (h : x.data.toList = y.data.toList) : x = y := ByteArray.ext (Array.toList_inj.1 h)
theorem map_inj : ∀ (l1 l2 : List ByteArray), l1.map (fun p => p.data.toList) = l2.map (fun p => p.data.toList) → l1 = l2
  | [], [], _ => rfl
  | [], _ :: _, h => by simp at h
  | _ :: _, [], h => by simp at h
  | a :: l1, b :: l2, h => by
    rw [List.map_cons, List.map_cons] at h
    obtain ⟨h1, h2⟩ := List.cons.inj h
    rw [data_inj h1, map_inj l1 l2 h2]
theorem pieces_has {s : ByteArray} {l : List ByteArray} {d : AddrD} (hp : ssplit.Pieces s 47 l) (h : HasA s d) : ∃ x, l = d.path ++ [x] ∧ x.data.toList = tailT d := by
  unfold ssplit.Pieces at hp
  rw [← h.2, split_raw h.1] at hp
  obtain ⟨l1, l2, rfl, h1, h2⟩ := List.map_eq_append_iff.1 hp
  obtain ⟨x, l3, rfl, h3, h4⟩ := List.map_eq_cons_iff.1 h2
  have h5 : l3 = [] := List.map_eq_nil_iff.1 h4
  subst h5
  refine ⟨x, ?_, h3⟩
  congr 1
  exact map_inj l1 d.path h1
theorem splitL_ne (b : UInt8) : ∀ l, splitL b l ≠ []
  | [] => by simp [splitL]
  | c :: cs => by
    rw [splitL]
    split
    · simp
    · split <;> simp
theorem pieces_ne {s : ByteArray} {l : List ByteArray} (hp : ssplit.Pieces s 47 l) : l ≠ [] := by
  intro e
  subst e
  exact splitL_ne 47 s.data.toList hp.symm
theorem raw_ne (d : AddrD) : rawT d ≠ [] := by simp [rawT]
theorem has_neA {s : ByteArray} {d : AddrD} (h : HasA s d) : s.data.toList ≠ [] := by rw [← h.2]; exact raw_ne d

open Classical in
/-- what AddrRead tells. -/
noncomputable def ansA (s : ByteArray) : AddrD × Int := if 8000 < s.size then (noA, 2) else if h : ∃ d, HasA s d then (h.choose, 0) else (noA, 3)
theorem ansA_long {s : ByteArray} (h : 8000 < s.size) : ansA s = (noA, 2) := by unfold ansA; rw [if_pos h]
theorem ansA_yes {s : ByteArray} {d : AddrD} (hs : ¬ 8000 < s.size) (hu : ∀ u, HasA s u → d = u) (h : HasA s d) : ansA s = (d, 0) := by
  unfold ansA
  have hx : ∃ d, HasA s d := ⟨d, h⟩
  rw [if_neg hs, dif_pos hx]
  have := hu _ hx.choose_spec
  rw [← this]
theorem ansA_no {s : ByteArray} (hs : ¬ 8000 < s.size) (h : ¬ ∃ d, HasA s d) : ansA s = (noA, 3) := by
  unfold ansA; rw [if_neg hs, dif_neg h]
theorem hasA_iff {s : ByteArray} {d : AddrD} (hne : s.data.toList ≠ []) : HasA s d ↔ addrT d = s.data.toList := by
  unfold HasA addrT
  constructor
  · rintro ⟨h1, h2⟩; rw [if_pos h1]; exact h2
  · intro h
    by_cases hv : addrB d = true
    · rw [if_pos hv] at h; exact ⟨hv, h⟩
    · rw [if_neg hv] at h; exact absurd h.symm hne
theorem noA_of {s : ByteArray} {d : AddrD} (hu : ∀ u, HasA s u → d = u) (h : ¬ HasA s d) : ¬ ∃ u, HasA s u := fun ⟨u, hu'⟩ => h (by rw [hu u hu']; exact hu')

/-- the key's text, without its brackets. -/
def keyIn (d : AddrD) : List UInt8 := if d.kind = 1 then decT d.n else d.key.data.toList
theorem keyT_parts {d : AddrD} (h : addrB d = true) : (d.kind = 0 ∧ keyT d.kind d.n d.key = []) ∨ (d.kind ≠ 0 ∧ keyT d.kind d.n d.key = 91 :: (keyIn d ++ [93])) := by
  obtain ⟨_, _, _, h4⟩ := key_parts h
  rcases h4 with ⟨k, _, _⟩ | ⟨k, _, _, _⟩ | ⟨k, _, _⟩
  · exact .inl ⟨k, by simp [keyT, k]⟩
  · exact .inr ⟨by omega, by simp [keyT, keyIn, k]⟩
  · exact .inr ⟨by omega, by simp [keyT, keyIn, k]⟩
theorem words_no {d : AddrD} (h : addrB d = true) {b : UInt8} (hb : b.toNat < 97) : b ∉ d.typ.data.toList ∧ b ∉ d.nam.data.toList :=
  ⟨word_no (key_parts h).2.1 hb, word_no (key_parts h).2.2.1 hb⟩

/-- the model's cut, on lists. -/
theorem cutAt_list {s x y : ByteArray} {b : UInt8} (h : scut.CutAt s b.toNat x y) : (∃ p q, s.data.toList = p ++ b :: q ∧ b ∉ p ∧ x.data.toList = p ∧ y.data.toList = q) ∨ (b ∉ s.data.toList ∧ x = s ∧ y = ByteArray.empty) := by
  rcases h with ⟨k, hk, hn, he, rfl, rfl⟩ | ⟨hn, rfl, rfl⟩
  · refine .inl ⟨s.data.toList.take k, s.data.toList.drop (k + 1), ?_, ?_, ?_, ?_⟩
    · have hk' : k < s.data.toList.length := by simpa using hk
      have e : s.data.toList[k] = b := by
        have : s[k].toNat = b.toNat := by omega
        exact UInt8.toNat_inj.1 this
      rw [← e, ← List.drop_eq_getElem_cons hk', List.take_append_drop]
    · intro hm
      obtain ⟨i, hi, e⟩ := List.getElem_of_mem hm
      simp only [List.length_take] at hi
      rw [List.getElem_take] at e
      have := hn i (by omega) (by have : s.size = s.data.toList.length := rfl; omega)
      apply this
      have e2 : s[i]'(by have : s.size = s.data.toList.length := rfl; omega) = b := e
      rw [e2]
    · rw [Lib.extract_data]; simp
    · rw [Lib.extract_data, List.take_of_length_le (by simp)]
  · refine .inr ⟨?_, rfl, rfl⟩
    intro hm
    obtain ⟨i, hi, e⟩ := List.getElem_of_mem hm
    have := hn i (by simpa using hi) (by simpa using hi)
    apply this
    have e2 : x[i]'(by simpa using hi) = b := e
    rw [e2]
theorem cutAt_hit {s x y : ByteArray} {b : UInt8} {p q : List UInt8} (h : scut.CutAt s b.toNat x y) (hs : s.data.toList = p ++ b :: q) (hp : b ∉ p) : x.data.toList = p ∧ y.data.toList = q := by
  rcases cutAt_list h with ⟨p', q', e, hp', hx, hy⟩ | ⟨hn, _, _⟩
  · rw [hs] at e
    obtain ⟨rfl, rfl⟩ := list_cut hp hp' e
    exact ⟨hx, hy⟩
  · exact absurd (by rw [hs]; simp) hn
theorem cutAt_miss {s x y : ByteArray} {b : UInt8} (h : scut.CutAt s b.toNat x y) (hs : b ∉ s.data.toList) : x = s ∧ y = ByteArray.empty := by
  rcases cutAt_list h with ⟨p', q', e, _, _, _⟩ | ⟨_, h1, h2⟩
  · exact absurd (by rw [e]; simp) hs
  · exact ⟨h1, h2⟩

/-- what the model makes of what stands behind the '['. -/
noncomputable def keyS (y : ByteArray) : Int × Int × ByteArray :=
  if y.size = 0 then (0, 0, ByteArray.empty) else if 0 ≤ snum.numZ (y.extract 0 (y.size - 1)) then (1, snum.numZ (y.extract 0 (y.size - 1)), ByteArray.empty) else (2, 0, y.extract 0 (y.size - 1))
theorem numZ_decA {s : ByteArray} {n : Nat} (h : s.data.toList = decDigits n) (hn : n ≤ 1000000) : snum.numZ s = n := by
  have hsz : s.size = s.data.toList.length := rfl
  have hl : s.size ≤ 7 := by rw [hsz, h]; exact nump.dec_len 6 n (by omega)
  have h0 : 0 < s.size := by rw [hsz, h]; exact List.length_pos_iff.2 (nump.dec_ne n)
  have hd : snum.digTo s s.size := fun j hj hs => nump.digs_dec n s[j] (by rw [← h]; exact List.getElem_mem (l := s.data.toList) (by simpa using hs))
  rw [snum.numZ_yes (by omega) (by omega) (fun h1 => ?_) hd]
  · have e : snum.valTo s s.size = spell 0 s.data.toList := by
      unfold snum.valTo spell
      rw [List.take_of_length_le (by rw [hsz]; exact Nat.le_refl _)]
    rw [e, h, spell_dec]
  · cases hc : decDigits n with
    | nil => exact absurd hc (nump.dec_ne n)
    | cons c r =>
      have e0 : s[0] = c := by
        show s.data.toList[0]'(by simpa using h0) = c
        simp [h, hc]
      rw [e0]
      by_cases hn0 : n = 0
      · subst hn0
        have : s.size = 1 := by rw [hsz, h, Lib.decDigits]; rfl
        omega
      · exact nump.dec_head n (by omega) c r hc
theorem numZ_word {s : ByteArray} (h : wordB s = true) : snum.numZ s = -1 := by
  obtain ⟨h1, _, h3⟩ := wordB_iff.1 h
  have := h3 0 (by omega)
  exact snum.numZ_no (.inr (.inr (.inr ⟨0, by omega, .inr (by omega)⟩)))
theorem keyS_is {d : AddrD} (h : addrB d = true) {y : ByteArray} (hy : (d.kind = 0 ∧ y = ByteArray.empty) ∨ (d.kind ≠ 0 ∧ y.data.toList = keyIn d ++ [93])) : keyS y = (d.kind, d.n, d.key) := by
  obtain ⟨_, _, _, h4⟩ := key_parts h
  rcases hy with ⟨k, rfl⟩ | ⟨k, hy⟩
  · rcases h4 with ⟨_, n, e⟩ | ⟨k', _⟩ | ⟨k', _⟩
    · have e0 : ByteArray.empty.size = 0 := rfl; unfold keyS; rw [if_pos e0, k, n, e]
    · omega
    · omega
  · have hsz : y.size = (keyIn d).length + 1 := by
      have : y.size = y.data.toList.length := rfl
      rw [this, hy]; simp
    have hx : (y.extract 0 (y.size - 1)).data.toList = keyIn d := by
      rw [Lib.extract_data, hy, hsz]; simp
    unfold keyS
    rw [if_neg (by omega)]
    rcases h4 with ⟨k', _⟩ | ⟨k', n0, n1, e⟩ | ⟨k', n, hw⟩
    · omega
    · have hd : keyIn d = decDigits d.n.toNat := by simp [keyIn, k', decT]
      have hz := numZ_decA (hx.trans hd) (by omega)
      have hz2 : ((d.n.toNat : Nat) : Int) = d.n := by omega
      rw [hz, hz2, if_pos n0, k', e]
    · have hd : keyIn d = d.key.data.toList := by simp [keyIn, k']
      have hk : y.extract 0 (y.size - 1) = d.key := data_inj (hx.trans hd)
      rw [hk, numZ_word hw, if_neg (by omega), k', n]

/-- THE MODEL's WAY: what is cut out of the text of d is d. -/
theorem cutS_is {s : ByteArray} {pre : List ByteArray} {x0 x1 y1 x2 y2 : ByteArray} {d : AddrD} (hp : ssplit.Pieces s 47 (pre ++ [x0])) (h1 : scut.CutAt x0 91 x1 y1) (h2 : scut.CutAt x1 46 x2 y2) (h : HasA s d) :
    (⟨pre.take 4, x2, y2, (keyS y1).1, (keyS y1).2.1, (keyS y1).2.2⟩ : AddrD) = d := by
  obtain ⟨x, hl, hx⟩ := pieces_has hp h
  obtain ⟨rfl, e⟩ := List.append_inj' hl rfl
  have e : x0 = x := by simpa using e
  subst e
  have hb := h.1
  have hp2 := (path_words (key_parts hb).1).1
  have ht : d.path.take 4 = d.path := List.take_of_length_le (by omega)
  have n91 := words_no hb (b := 91) (by decide)
  have n46 := words_no hb (b := 46) (by decide)
  have h1' : scut.CutAt x0 (91 : UInt8).toNat x1 y1 := h1
  have h2' : scut.CutAt x1 (46 : UInt8).toNat x2 y2 := h2
  have hin : x1.data.toList = d.typ.data.toList ++ 46 :: d.nam.data.toList ∧ ((d.kind = 0 ∧ y1 = ByteArray.empty) ∨ (d.kind ≠ 0 ∧ y1.data.toList = keyIn d ++ [93])) := by
    rcases keyT_parts hb with ⟨k, hk⟩ | ⟨k, hk⟩
    · unfold tailT at hx
      rw [hk, List.append_nil] at hx
      obtain ⟨rfl, ey⟩ := cutAt_miss h1' (by rw [hx]; simp only [List.mem_append, List.mem_cons, not_or]; exact ⟨n91.1, by decide, n91.2⟩)
      exact ⟨hx, .inl ⟨k, ey⟩⟩
    · unfold tailT at hx
      rw [hk] at hx
      have e2 : d.typ.data.toList ++ 46 :: (d.nam.data.toList ++ 91 :: (keyIn d ++ [93])) = (d.typ.data.toList ++ 46 :: d.nam.data.toList) ++ 91 :: (keyIn d ++ [93]) := by simp
      rw [e2] at hx
      obtain ⟨e3, e4⟩ := cutAt_hit h1' hx (by simp only [List.mem_append, List.mem_cons, not_or]; exact ⟨n91.1, by decide, n91.2⟩)
      exact ⟨e3, .inr ⟨k, e4⟩⟩
  obtain ⟨hx1, hy1⟩ := hin
  obtain ⟨e5, e6⟩ := cutAt_hit h2' hx1 n46.1
  rw [keyS_is hb hy1, ht, data_inj e5, data_inj e6]
end Go.Proofs.YtfjfneliajmjbaaDoor.rda
