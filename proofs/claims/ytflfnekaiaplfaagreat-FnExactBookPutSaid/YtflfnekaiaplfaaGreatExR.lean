/- ExprRight, of the program and of the model. -/
import Derived.Test.YtflfnekaiaplfaaGreatEx
import Derived.Test.YtflfnekaiaplfaaGreatVlI
import Derived.Test.YtflfnekaiaplfaaGreatCmpB
import Derived.Test.YtflfnekaiaplfaaGreatAdJ
import Derived.Outline
namespace Go.Proofs.YtflfnekaiaplfaaGreat.ex
open ad mem vl
open Go.ChangeShapes Go.WideShapes Go.ChangeAt Go.RowKit Go.Lib
set_option linter.unusedVariables false
set_option maxRecDepth 8000
set_option linter.unusedSimpArgs false

theorem len_empty {α : Type} (l : List α) : ((l.length : Int) == 0) = l.isEmpty := by cases l <;> simp <;> omega
end Go.Proofs.YtflfnekaiaplfaaGreat.ex
