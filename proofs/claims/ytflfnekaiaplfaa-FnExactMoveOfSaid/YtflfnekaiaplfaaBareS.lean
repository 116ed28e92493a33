/- Bare of the model; two addresses of the call's own compared. -/
import Derived.Test.YtflfnekaiaplfaaBare
namespace Go.Proofs.Ytflfnekaiaplfaa.bare
open ad mem own
open Go.ChangeShapes Go.WideShapes Go.ChangeAt Go.RowKit Go.Lib
set_option linter.unusedVariables false
set_option linter.unusedSimpArgs false

theorem bare_sizes {d : AddrD} (h : ∀ k (h : k < d.path.length), d.path[k].size ≤ maxLen) : ∀ k (h : k < (bareD d).path.length), (bareD d).path[k].size ≤ maxLen := by
  cases hr : addrB d
  · rw [bare_no hr]; intro k hk; simp [zeroD] at hk
  · rw [bare_yes hr]; exact h
theorem bare_len {d : AddrD} {n : Nat} (h : d.path.length ≤ n) : (bareD d).path.length ≤ n := by
  cases hr : addrB d
  · rw [bare_no hr]; simp [zeroD]
  · rw [bare_yes hr]; exact h
end Go.Proofs.Ytflfnekaiaplfaa.bare
