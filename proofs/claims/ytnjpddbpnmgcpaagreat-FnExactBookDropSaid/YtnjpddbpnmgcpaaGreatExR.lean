/- ExprRight, of the program and of the model. -/
import Derived.Test.YtnjpddbpnmgcpaaGreatEx
import Derived.Test.YtnjpddbpnmgcpaaGreatVlI
import Derived.Test.YtnjpddbpnmgcpaaGreatCmpB
import Derived.Test.YtnjpddbpnmgcpaaGreatAdJ
import Derived.Outline
namespace Go.Proofs.YtnjpddbpnmgcpaaGreat.ex
open ad mem vl
open Go.ChangeShapes Go.WideShapes Go.ChangeAt Go.RowKit Go.Lib
set_option linter.unusedVariables false
set_option maxRecDepth 8000
set_option linter.unusedSimpArgs false

theorem len_empty {α : Type} (l : List α) : ((l.length : Int) == 0) = l.isEmpty := by cases l <;> simp <;> omega
end Go.Proofs.YtnjpddbpnmgcpaaGreat.ex
