/- A value told, with nothing of what was there turned. -/
import Derived.Test.YtfjfneliajmjbaaDoorMem
namespace Go.Proofs.YtfjfneliajmjbaaDoor.vl
open Go.RowKit
def Told (w : World) (v : Value) (e : Ending) (w' : World) : Prop := e = .returned v ∧ Below w.heap.size w w'
end Go.Proofs.YtfjfneliajmjbaaDoor.vl
