/- eqTextOut of two answers that are the same tells yes. No condition. -/
import Derived.Test.YtifgnebjjkjgoaaRows
import Derived.Test.YtifgnebjjkjgoaaUnseal
import Derived.WalkKit
import Derived.Lib.Hide
import Derived.ProofKit
import Derived.Handy
namespace Go.Proofs.Ytifgnebjjkjgoaa.seal
open Go.ChangeShapes Go.WideShapes Go.ChangeAt Go.RowKit Go.Lib
set_option linter.unusedVariables false
set_option linter.unusedSimpArgs false

theorem told_form (s : ByteArray) : ∃ t a c, told s = textOut t a c := by
  unfold told
  split
  · exact ⟨_, _, _, rfl⟩
  · split
    · exact ⟨_, _, _, rfl⟩
    · split
      · exact ⟨_, _, _, rfl⟩
      · exact ⟨_, _, _, rfl⟩

set_option maxHeartbeats 1000000 in
theorem eq_any (t : ByteArray) (a c : Int) (w : World) :
    Calls Try.prog 28 #[textOut t a c, textOut t a c] w fun e w' => e = .returned (.bool true) ∧ Below w.heap.size w w' := by
  unfold textOut
  go_enter Try.func28, Try.ntmps28
  go_wp2
  all_goals go_ret
  all_goals exact ⟨rfl, by go_grown⟩
end Go.Proofs.Ytifgnebjjkjgoaa.seal
