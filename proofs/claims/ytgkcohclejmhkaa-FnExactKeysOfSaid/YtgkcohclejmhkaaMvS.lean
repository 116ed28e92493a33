/- MoveRight of the model. -/
import Derived.Test.YtgkcohclejmhkaaBr
import Derived.Test.YtgkcohclejmhkaaGd
import Derived.BigQuiet
import Derived.BigRegion
import Derived.Deep.QuietTactic
import Derived.Outline
namespace Go.Proofs.Ytgkcohclejmhkaa.cf
open ad mem vl ex un
open Go.ChangeShapes Go.WideShapes Go.ChangeAt Go.RowKit Go.Lib
set_option linter.unusedVariables false
set_option maxRecDepth 8000
set_option linter.unusedSimpArgs false

theorem home_iff (A : List ByteArray) (t n : ByteArray) (k i : Int) (y : ByteArray) : homeB ⟨A, t, n, k, i, y⟩ = (pathB A && decide (A.length ≠ 0) && decide (t.size = 0) && decide (n.size = 0) && k == 0 && i == 0 && decide (y.size = 0)) := rfl
end Go.Proofs.Ytgkcohclejmhkaa.cf
