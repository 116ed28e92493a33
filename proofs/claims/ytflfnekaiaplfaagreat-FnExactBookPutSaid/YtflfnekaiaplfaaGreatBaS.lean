/- BookAt of the model. -/
import Derived.Test.YtflfnekaiaplfaaGreatCtS
import Derived.Test.YtflfnekaiaplfaaGreatBaI
namespace Go.Proofs.YtflfnekaiaplfaaGreat.cf
open ad mem vl ex un cm
open Go.ChangeShapes Go.WideShapes Go.ChangeAt Go.RowKit Go.Lib
set_option linter.unusedVariables false
set_option maxRecDepth 8000
set_option linter.unusedSimpArgs false


theorem at_cases (xs : List (List DC)) (a : AddrD) : (∃ (k : Nat) (h : k < xs.length), atI xs a = k ∧ atX xs a = xs[k]) ∨ (atI xs a = -1 ∧ atX xs a = zT) := by
  cases hf : xs.findIdx? (fun ds => adl.eqA (bA ds) a) with
  | none =>
    refine .inr ⟨by unfold atI; rw [hf], atX_miss fun y hy => ?_⟩
    have := List.findIdx?_eq_none_iff.1 hf y hy
    simpa using this
  | some k =>
    obtain ⟨hk, h1, h2⟩ := List.findIdx?_eq_some_iff_getElem.1 hf
    refine .inl ⟨k, hk, by unfold atI; rw [hf], ?_⟩
    have : xs.find? (fun d => adl.eqA (bA d) a) = some xs[k] := List.find?_eq_some_iff_getElem.2 ⟨h1, k, hk, rfl, fun j hj => by have := h2 j hj; simpa using this⟩
    unfold atX; rw [this]
end Go.Proofs.YtflfnekaiaplfaaGreat.cf
