/- Plain: a book that rises is cut at an address. -/
import Derived.Test.YtflfnekaiaplfaaGreatCuB
import Derived.Test.YtflfnekaiaplfaaGreatBdS
import Derived.Test.YtflfnekaiaplfaaGreatRfP
namespace Go.Proofs.YtflfnekaiaplfaaGreat.cf
open ad mem vl ex un cm rf
open Go.ChangeShapes Go.WideShapes Go.ChangeAt Go.RowKit Go.Lib
set_option linter.unusedVariables false
theorem eqA_eq {d e : AddrD} : adl.eqA d e = true ↔ d = e := by
  cases d; cases e
  simp [adl.eqA, adl.eqL, and_assoc]
theorem cf_cmp (ds x : List DC) : cf ds x = cmpA (bA x) (bA ds) := rfl
theorem rise_lt {xs : List (List DC)} (hs : ∀ i (h : i + 1 < xs.length), aheadA (bA xs[i]) (bA xs[i + 1])) : ∀ (d i : Nat) (hj : i + d + 1 < xs.length), cmpA (bA (xs[i]'(by omega))) (bA xs[i + d + 1]) < 0
  | 0, i, hj => hs i hj
  | d + 1, i, hj => by
    have h1 := rise_lt hs d i (by omega)
    have h2 : cmpA (bA xs[i + d + 1]) (bA xs[i + (d + 1) + 1]) < 0 := hs (i + d + 1) hj
    exact tpA.lt_le h1 (by omega)
theorem rise_at {xs : List (List DC)} (hs : ∀ i (h : i + 1 < xs.length), aheadA (bA xs[i]) (bA xs[i + 1])) (i j : Nat) (hi : i < xs.length) (hj : j < xs.length) (h : i < j) : cmpA (bA xs[i]) (bA xs[j]) < 0 := by
  obtain ⟨d, rfl⟩ : ∃ d, j = i + d + 1 := ⟨j - i - 1, by omega⟩
  exact rise_lt hs d i hj
theorem rise_mono {xs : List (List DC)} {ds : List DC} (hs : ∀ i (h : i + 1 < xs.length), aheadA (bA xs[i]) (bA xs[i + 1])) : ∀ i j (hi : i < xs.length) (hj : j < xs.length), i ≤ j → cf ds xs[j] < 0 → cf ds xs[i] < 0 := fun i j hi hj hij h => by
  rcases Nat.eq_or_lt_of_le hij with rfl | hlt
  · exact h
  · rw [cf_cmp] at h ⊢
    exact tpA.lt_le (rise_at hs i j hi hj hlt) (by omega)
theorem eqA_cf {ds x : List DC} : adl.eqA (bA x) (bA ds) = true ↔ cf ds x = 0 := by rw [eqA_eq, cf_cmp, cmpA_zero]
theorem cut_no {xs : List (List DC)} {ds : List DC} {k : Nat} (hs : ∀ i (h : i + 1 < xs.length), aheadA (bA xs[i]) (bA xs[i + 1])) (h : Cut xs ds k false) : atI xs (bA ds) < 0 := by
  rw [atI_none fun j hj => ?_]
  · decide
  · rw [Bool.eq_false_iff]
    intro he
    have h0 := eqA_cf.1 he
    by_cases hk : j < k
    · have := h.low j hj hk; omega
    · by_cases e : j = k
      · subst e; exact h.no rfl hj h0
      · have hkl : k < xs.length := by omega
        have h1 := rise_at hs k j hkl hj (by omega)
        have h2 := h.high k hkl (Nat.le_refl _)
        have h3 : cf ds xs[k] < 0 := by rw [cf_cmp] at h0 ⊢; exact tpA.lt_le h1 (by omega)
        omega
theorem cut_yes {xs : List (List DC)} {ds : List DC} {k : Nat} (hs : ∀ i (h : i + 1 < xs.length), aheadA (bA xs[i]) (bA xs[i + 1])) (h : Cut xs ds k true) : ¬ atI xs (bA ds) < 0 ∧ dropX xs (bA ds) = xs.take k ++ xs.drop (k + 1) := by
  obtain ⟨hk, h0⟩ := h.yes rfl
  have hlow : ∀ j (hj : j < xs.length), j < k → adl.eqA (bA xs[j]) (bA ds) = false := fun j hj hjk => by
    rw [Bool.eq_false_iff]; intro he
    have := eqA_cf.1 he; have := h.low j hj hjk; omega
  refine ⟨?_, ?_⟩
  · rw [atI_some k hk (eqA_cf.2 h0) hlow]; omega
  · have e : xs = xs.take k ++ (xs[k] :: xs.drop (k + 1)) := by rw [← List.drop_eq_getElem_cons hk, List.take_append_drop]
    have e2 : dropX xs (bA ds) = dropX (xs.take k ++ (xs[k] :: xs.drop (k + 1))) (bA ds) := by rw [← e]
    rw [e2]
    unfold dropX
    rw [List.filter_append, List.filter_cons_of_neg (by rw [eqA_cf.2 h0]; decide)]
    congr 1
    · refine List.filter_eq_self.2 fun x hx => ?_
      obtain ⟨j, hj, rfl⟩ := List.getElem_of_mem hx
      rw [List.getElem_take]
      simp only [List.length_take] at hj
      rw [hlow j (by omega) (by omega)]; rfl
    · refine List.filter_eq_self.2 fun x hx => ?_
      obtain ⟨j, hj, rfl⟩ := List.getElem_of_mem hx
      rw [List.getElem_drop]
      simp only [List.length_drop] at hj
      have : adl.eqA (bA xs[k + 1 + j]) (bA ds) = false := by
        rw [Bool.eq_false_iff]; intro he
        have h1 := eqA_eq.1 he
        have h2 := eqA_eq.1 (eqA_cf.2 h0)
        have h3 := rise_at hs k (k + 1 + j) hk (by omega) (by omega)
        rw [h1, h2, cmpA_zero.2 rfl] at h3
        omega
      rw [this]; rfl
end Go.Proofs.YtflfnekaiaplfaaGreat.cf
