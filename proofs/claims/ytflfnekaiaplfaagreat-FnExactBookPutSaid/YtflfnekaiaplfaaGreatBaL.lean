/- BookAt of both sides; what the law wants besides. -/
import Derived.Test.YtflfnekaiaplfaaGreatBaS
namespace Go.Proofs.YtflfnekaiaplfaaGreat.cf
open ad mem vl ex un cm
open Go.ChangeShapes Go.WideShapes Go.ChangeAt Go.RowKit Go.Lib
set_option linter.unusedVariables false
set_option maxRecDepth 8000
set_option linter.unusedSimpArgs false
theorem nV_nCs : ∀ (ds : List DC), nV ds ≤ nCs ds
  | [] => by simp [nV, nCs]
  | .i x :: ds => by have := nV_nCs ds; simp only [nV, nCs, nC]; omega
  | .s x :: ds => by have := nV_nCs ds; simp only [nV, nCs, nC]; omega
  | .l xs :: ds => by have := nV_nCs ds; simp only [nV, nCs, nC]; omega
theorem nL_mem : ∀ {xs : List (List DC)} {d : List DC}, d ∈ xs → nCs d ≤ nL xs
  | x :: xs, d, h => by
    simp only [nL]
    rcases List.mem_cons.1 h with rfl | h
    · omega
    · have := nL_mem h; omega
theorem at_bound (xs : List (List DC)) (a : AddrD) : nV (bookAtX xs a) ≤ nL xs := by
  have hz : nV zT = 0 := by simp [zT, nV, nL]
  unfold bookAtX
  split
  · unfold atX
    cases h : xs.find? (fun d => adl.eqA (bA d) a) with
    | none => simp only []; omega
    | some d =>
      have h1 := nV_nCs d
      have h2 := nL_mem (List.mem_of_find?_eq_some h)
      simp only []; omega
  · omega
/-- eight stores into a new struct leave what lay below it. -/
theorem cells_far8 {g n : Nat} {w : World} {ks : List CK} {ds : List DC} {vs : List Value} (h : Cells (fun x => x ≠ g) n w ks ds vs) (v0 v1 v2 v3 v4 v5 v6 v7 : Value) :
    Cells Any n ((((((((w.setCell ⟨g, 0, none⟩ v0).setCell ⟨g, 1, none⟩ v1).setCell ⟨g, 2, none⟩ v2).setCell ⟨g, 3, none⟩ v3).setCell ⟨g, 4, none⟩ v4).setCell ⟨g, 5, none⟩ v5).setCell ⟨g, 6, none⟩ v6).setCell ⟨g, 7, none⟩ v7) ks ds vs :=
  Cells.monoB (Cells.agree h (agree8 _ _ _ _ _ _ _ _)) (fun _ _ _ => trivial)
end Go.Proofs.YtflfnekaiaplfaaGreat.cf
