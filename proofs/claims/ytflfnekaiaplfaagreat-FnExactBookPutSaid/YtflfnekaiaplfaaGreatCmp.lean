/- Plain: how lists of texts begin alike, and which is ahead. -/
import Derived.Test.YtflfnekaiaplfaaGreatAd
import Derived.Lib.Strings
namespace Go.Proofs.YtflfnekaiaplfaaGreat.cm
open Go.RowKit
set_option linter.unusedVariables false

/-- how many items both lists begin with. -/
def pre : List ByteArray → List ByteArray → Nat
  | x :: xs, y :: ys => if x = y then pre xs ys + 1 else 0
  | _, _ => 0
theorem pre_yes {x y : ByteArray} {xs ys : List ByteArray} (h : x = y) : pre (x :: xs) (y :: ys) = pre xs ys + 1 := by rw [pre, if_pos h]
theorem pre_no {x y : ByteArray} {xs ys : List ByteArray} (h : x ≠ y) : pre (x :: xs) (y :: ys) = 0 := by rw [pre, if_neg h]
theorem pre_le_l : ∀ a b, pre a b ≤ a.length
  | [], _ => by simp [pre]
  | _ :: _, [] => by simp [pre]
  | x :: xs, y :: ys => by
    unfold pre; split
    · have := pre_le_l xs ys; simp; omega
    · simp
theorem pre_le_r : ∀ a b, pre a b ≤ b.length
  | [], _ => by simp [pre]
  | _ :: _, [] => by simp [pre]
  | x :: xs, y :: ys => by
    unfold pre; split
    · have := pre_le_r xs ys; simp; omega
    · simp
theorem pre_at : ∀ (a b : List ByteArray) (k : Nat) (h1 : k < a.length) (h2 : k < b.length), (∀ j (h1 : j < a.length) (h2 : j < b.length), j < k → a[j] = b[j]) → a[k] ≠ b[k] → pre a b = k
  | [], _, k, h1, _, _, _ => by simp at h1
  | _ :: _, [], k, _, h2, _, _ => by simp at h2
  | x :: xs, y :: ys, 0, _, _, _, hne => by
    exact pre_no hne
  | x :: xs, y :: ys, k + 1, h1, h2, hall, hne => by
    have e : x = y := hall 0 (by simp) (by simp) (by omega)
    rw [pre_yes e, pre_at xs ys k (by simpa using h1) (by simpa using h2) (fun j h1 h2 hj => hall (j + 1) (by simp; omega) (by simp; omega) (by omega)) hne]
theorem pre_all : ∀ (a b : List ByteArray), (∀ j (h1 : j < a.length) (h2 : j < b.length), a[j] = b[j]) → pre a b = min a.length b.length
  | [], _, _ => by simp [pre]
  | _ :: _, [], _ => by simp [pre]
  | x :: xs, y :: ys, hall => by
    have e : x = y := hall 0 (by simp) (by simp)
    rw [pre_yes e, pre_all xs ys (fun j h1 h2 => hall (j + 1) (by simp; omega) (by simp; omega))]
    simp
theorem pre_ne : ∀ (a b : List ByteArray) (h1 : pre a b < a.length) (h2 : pre a b < b.length), a[pre a b] ≠ b[pre a b]
  | [], _, h1, _ => by simp at h1
  | _ :: _, [], _, h2 => by simp at h2
  | x :: xs, y :: ys, h1, h2 => by
    by_cases e : x = y
    · have hp : pre (x :: xs) (y :: ys) = pre xs ys + 1 := pre_yes e
      simp only [hp] at h1 h2 ⊢
      simpa using pre_ne xs ys (by simpa using h1) (by simpa using h2)
    · have hp : pre (x :: xs) (y :: ys) = 0 := pre_no e
      simp only [hp]; simpa using e
theorem pre_full : ∀ (a b : List ByteArray), pre a b = a.length → a.length = b.length → a = b
  | [], [], _, _ => rfl
  | [], _ :: _, _, h => by simp at h
  | _ :: _, [], _, h => by simp at h
  | x :: xs, y :: ys, h, h' => by
    by_cases e : x = y
    · rw [pre_yes e] at h; subst e
      rw [pre_full xs ys (by simpa using h) (by simpa using h')]
    · rw [pre_no e] at h; simp at h
theorem pre_self : ∀ (a : List ByteArray), pre a a = a.length
  | [] => rfl
  | x :: xs => by rw [pre_yes rfl, pre_self xs]; rfl

/-- one text ahead of another, byte by byte. -/
def ltS (s t : ByteArray) : Prop := s.toList < t.toList
noncomputable def cmpS (s t : ByteArray) : Int := @ite _ (ltS s t) (Classical.propDecidable _) (-1) (@ite _ (ltS t s) (Classical.propDecidable _) 1 0)
def cmpI (a b : Int) : Int := if a < b then -1 else if b < a then 1 else 0
theorem cmpS_lt {s t : ByteArray} (h : ltS s t) : cmpS s t = -1 := by unfold cmpS; rw [if_pos h]
theorem cmpS_gt {s t : ByteArray} (h : ¬ ltS s t) (h' : ltS t s) : cmpS s t = 1 := by unfold cmpS; rw [if_neg h, if_pos h']
theorem cmpS_eq {s t : ByteArray} (h : ¬ ltS s t) (h' : ¬ ltS t s) : cmpS s t = 0 := by unfold cmpS; rw [if_neg h, if_neg h']
theorem lt_irr (s : ByteArray) : ¬ ltS s s := List.lt_irrefl _
theorem lt_asy {s t : ByteArray} (h : ltS s t) : ¬ ltS t s := fun h' => List.lt_irrefl _ (List.lt_trans h h')
theorem lt_tri {s t : ByteArray} (h : s ≠ t) (h' : ¬ ltS s t) : ltS t s := by
  unfold ltS at *
  by_cases h2 : t.toList < s.toList
  · exact h2
  · exfalso; apply h
    have e : s.toList = t.toList := List.le_antisymm (List.not_lt.1 h2) (List.not_lt.1 h')
    rw [Lib.toList_data, Lib.toList_data] at e
    exact ByteArray.ext (Array.toList_inj.1 e)
theorem cmpS_self (s : ByteArray) : cmpS s s = 0 := cmpS_eq (lt_irr s) (lt_irr s)
theorem cmpS_neg {s t : ByteArray} : cmpS s t < 0 ↔ ltS s t := by
  by_cases h : ltS s t
  · rw [cmpS_lt h]; simp [h]
  · by_cases h' : ltS t s
    · rw [cmpS_gt h h']; simp [h]
    · rw [cmpS_eq h h']; simp [h]
theorem cmpS_zero {s t : ByteArray} : cmpS s t = 0 ↔ s = t := by
  constructor
  · intro h
    by_cases e : s = t
    · exact e
    · by_cases h1 : ltS s t
      · rw [cmpS_lt h1] at h; omega
      · rw [cmpS_gt h1 (lt_tri e h1)] at h; omega
  · rintro rfl; exact cmpS_self _

/-- which path is ahead. -/
noncomputable def wordsI (a b : List ByteArray) : Int :=
  if h : pre a b < a.length ∧ pre a b < b.length then cmpS (a[pre a b]'h.1) (b[pre a b]'h.2) else cmpI a.length b.length
theorem words_at {a b : List ByteArray} {k : Nat} (hp : pre a b = k) (h1 : k < a.length) (h2 : k < b.length) : wordsI a b = cmpS a[k] b[k] := by
  subst hp; unfold wordsI; rw [dif_pos ⟨h1, h2⟩]
theorem words_end {a b : List ByteArray} (h : pre a b = a.length ∨ pre a b = b.length) : wordsI a b = cmpI a.length b.length := by
  unfold wordsI; rw [dif_neg (by omega)]
theorem words_min {a b : List ByteArray} (h : pre a b = min a.length b.length) : wordsI a b = cmpI a.length b.length := words_end (by omega)
theorem words_zero {a b : List ByteArray} : wordsI a b = 0 ↔ a = b := by
  constructor
  · intro h
    by_cases hl : pre a b < a.length ∧ pre a b < b.length
    · rw [words_at rfl hl.1 hl.2, cmpS_zero] at h
      exact absurd h (pre_ne a b hl.1 hl.2)
    · have h1 := pre_le_l a b
      have h2 := pre_le_r a b
      rw [words_end (by omega)] at h
      unfold cmpI at h
      have e : a.length = b.length := by
        split at h
        · omega
        · split at h <;> omega
      exact pre_full a b (by omega) e
  · rintro rfl
    rw [words_end (.inl (pre_self a))]; simp [cmpI]
theorem cmpI_zero {a b : Int} : cmpI a b = 0 ↔ a = b := by unfold cmpI; split; · omega
                                                           · split <;> omega
end Go.Proofs.YtflfnekaiaplfaaGreat.cm
