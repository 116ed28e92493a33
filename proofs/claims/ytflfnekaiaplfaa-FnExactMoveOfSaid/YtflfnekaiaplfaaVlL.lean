/- The laws' own helpers on values: sized, copied in, compared. -/
import Derived.Test.YtflfnekaiaplfaaVlI
import Derived.Test.YtflfnekaiaplfaaAdL
namespace Go.Proofs.Ytflfnekaiaplfaa.vl
open ad mem adl
open Go.ChangeShapes Go.WideShapes Go.ChangeAt Go.RowKit Go.Lib
set_option linter.unusedVariables false
set_option linter.unusedSimpArgs false

-- [PLAIN
end Go.Proofs.Ytflfnekaiaplfaa.vl
