/- Texts of things, plainly. -/
import Derived.Test.YtnjpddbpnmgcpaaGreatDoorBoL
import Derived.Test.YtnjpddbpnmgcpaaGreatDoorExX
namespace Go.Proofs.YtnjpddbpnmgcpaaGreatDoor.cf
open ad mem vl ex un cm dig
open Go.ChangeShapes Go.WideShapes Go.ChangeAt Go.RowKit Go.Lib
set_option linter.unusedVariables false
set_option maxRecDepth 8000
set_option linter.unusedSimpArgs false

noncomputable def pairT (p : List DC) : List UInt8 := 32 :: ((namP p).data.toList ++ (61 :: rawV (bV (p.drop 1))))
noncomputable def needT (d : List DC) : List UInt8 := 32 :: 60 :: rawT (bA d)
noncomputable def thT (d : List DC) : List UInt8 := rawT (bA d) ++ ((bL (d.getD 6 z)).flatMap pairT ++ ((bL (d.getD 7 z)).flatMap needT ++ [10]))
noncomputable def bookT (xs : List (List DC)) : List UInt8 := if bookB xs then xs.flatMap thT else []
theorem flat_take {α : Type} (f : α → List UInt8) (l : List α) (k : Nat) (h : k < l.length) : (l.take (k + 1)).flatMap f = (l.take k).flatMap f ++ f l[k] := by
  rw [List.take_succ_eq_append_getElem h, List.flatMap_append]; simp
theorem flat_len {α : Type} (f : α → List UInt8) (N : Nat) : ∀ (l : List α), (∀ i (h : i < l.length), (f l[i]).length ≤ N) → (l.flatMap f).length ≤ l.length * N
  | [], _ => by simp
  | a :: l, h => by
    have h0 := h 0 (by simp)
    have h1 := flat_len f N l (fun i hi => by have := h (i + 1) (by simpa using hi); simpa using this)
    simp only [List.flatMap_cons, List.length_append, List.length_cons, Nat.add_mul]
    simp only [List.getElem_cons_zero] at h0
    omega
theorem flat_take_len {α : Type} (f : α → List UInt8) (N : Nat) (l : List α) (k : Nat) (h : ∀ i (h : i < l.length), (f l[i]).length ≤ N) : ((l.take k).flatMap f).length ≤ l.length * N := by
  have h1 := flat_len f N (l.take k) (fun i hi => by
    have hi' : i < l.length := by simp at hi; omega
    rw [List.getElem_take]; exact h i hi')
  have h2 : (l.take k).length ≤ l.length := by simp; omega
  have h3 := Nat.mul_le_mul_right N h2
  omega
theorem pair_parts {p : List DC} (h : pairB p = true) : wordB (namP p) = true ∧ valB (bV (p.drop 1)) = true := by
  unfold pairB at h
  simp only [Bool.and_eq_true] at h
  exact h
theorem pairT_len {p : List DC} (h : pairB p = true) : (pairT p).length ≤ 2000100 := by
  obtain ⟨h1, h2⟩ := pair_parts h
  have := txt.word_size h1
  have := rawV_len h2
  have e : (namP p).data.toList.length = (namP p).size := rfl
  simp only [pairT, List.length_cons, List.length_append, e]; omega
theorem need_right {a : AddrD} {d : List DC} (h : needB a d = true) : addrB (bA d) = true := by
  unfold needB at h
  simp only [Bool.and_eq_true] at h
  exact h.1
theorem needT_len {a : AddrD} {d : List DC} (h : needB a d = true) : (needT d).length ≤ 1100 := by
  have := rawT_len (need_right h)
  simp only [needT, List.length_cons]; omega
theorem th_parts {d : List DC} (h : thB d = true) : addrB (bA d) = true ∧ pairsOk (bL (d.getD 6 z)) ∧ needsOk (bA d) (bL (d.getD 7 z)) := by
  unfold thB at h
  simp only [Bool.and_eq_true] at h
  exact ⟨h.1.1, by have := h.1.2; unfold pairsB at this; simpa using this, by have := h.2; unfold needsB at this; simpa using this⟩
theorem thT_len {d : List DC} (h : thB d = true) : (thT d).length ≤ 9000000 := by
  obtain ⟨h1, h2, h3⟩ := th_parts h
  have a1 := rawT_len h1
  have a2 := flat_len pairT 2000100 (bL (d.getD 6 z)) (fun i hi => pairT_len (h2.2.1 i hi))
  have a3 := flat_len needT 1100 (bL (d.getD 7 z)) (fun i hi => needT_len (h3.2.1 i hi))
  have b2 := Nat.mul_le_mul_right 2000100 h2.1
  have b3 := Nat.mul_le_mul_right 1100 h3.1
  simp only [thT, List.length_append, List.length_cons, List.length_nil]; omega
theorem bookT_no {xs : List (List DC)} (h : bookB xs = false) : bookT xs = [] := by simp [bookT, h]
theorem bookT_yes {xs : List (List DC)} (h : bookB xs = true) : bookT xs = xs.flatMap thT := by simp [bookT, h]
theorem book_len {xs : List (List DC)} (h : bookB xs = true) (k : Nat) : ((xs.take k).flatMap thT).length ≤ 360000000 := by
  have h1 := bookB_iff.1 h
  have h2 := flat_take_len thT 9000000 xs k (fun i hi => thT_len (h1.2.1 i hi))
  have h3 := Nat.mul_le_mul_right 9000000 h1.1
  omega
end Go.Proofs.YtnjpddbpnmgcpaaGreatDoor.cf
