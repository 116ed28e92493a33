/- ExprRight of the program. -/
import Derived.Test.YtnjpddbpnmgcpaaGreatDoorExRs
import Derived.Test.YtnjpddbpnmgcpaaGreatDoorVlI
namespace Go.Proofs.YtnjpddbpnmgcpaaGreatDoor.ex
open ad mem vl
open Go.ChangeShapes Go.WideShapes Go.ChangeAt Go.RowKit Go.Lib
set_option linter.unusedVariables false
set_option maxRecDepth 8000
set_option linter.unusedSimpArgs false

theorem mk_val (k : Int) (v : ValD) (a : AddrD) (p : ByteArray) (l : List ExprD) : (ExprD.mk k v a p l).val = v := rfl
theorem mk_addr (k : Int) (v : ValD) (a : AddrD) (p : ByteArray) (l : List ExprD) : (ExprD.mk k v a p l).addr = a := rfl
theorem mk_prop (k : Int) (v : ValD) (a : AddrD) (p : ByteArray) (l : List ExprD) : (ExprD.mk k v a p l).prop = p := rfl
theorem mk_args (k : Int) (v : ValD) (a : AddrD) (p : ByteArray) (l : List ExprD) : (ExprD.mk k v a p l).args = l := rfl
theorem eq_zero : adl.eqA zeroA zeroA = true := adl.eqA_refl _
end Go.Proofs.YtnjpddbpnmgcpaaGreatDoor.ex
