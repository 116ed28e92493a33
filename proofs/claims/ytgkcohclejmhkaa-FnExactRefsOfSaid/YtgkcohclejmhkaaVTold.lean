/- A value told, with nothing of what was there turned. -/
import Derived.Test.YtgkcohclejmhkaaMem
namespace Go.Proofs.Ytgkcohclejmhkaa.vl
open Go.RowKit
def Told (w : World) (v : Value) (e : Ending) (w' : World) : Prop := e = .returned v ∧ Below w.heap.size w w'
end Go.Proofs.Ytgkcohclejmhkaa.vl
