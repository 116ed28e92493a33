/- The laws' own helpers on expressions: sized, copied in, compared. -/
import Derived.Test.YtnjpddbpnmgcpaaGreatDoorEx
import Derived.Test.YtnjpddbpnmgcpaaGreatDoorVlL
import Derived.Deep.RegionHeld3
namespace Go.Proofs.YtnjpddbpnmgcpaaGreatDoor.ex
open ad mem vl
open Go.ChangeShapes Go.WideShapes Go.ChangeAt Go.RowKit Go.Lib
set_option linter.unusedVariables false
set_option maxRecDepth 8000
set_option linter.unusedSimpArgs false


-- [PLAIN
/-- a size told: what is left, or -1. -/
def Left1 (w : World) (a : Int) (n : Nat) (e : Ending) (w' : World) : Prop := ∃ x : Int, e = .returned (.int .i64 x) ∧ Hid (x = adl.leftI a n) ∧ -1 ≤ x ∧ x ≤ 1048576 ∧ Below w.heap.size w w'
theorem left1 {w : World} {a : Int} {n : Nat} {e : Ending} {w' : World} (h0 : 0 ≤ a) (h1 : a ≤ 1048576) (h : e = .returned (.int .i64 (adl.leftI a n)) ∧ Below w.heap.size w w') : Left1 w a n e w' :=
  ⟨_, h.1, Lib.hid rfl, by unfold adl.leftI; split <;> omega, by unfold adl.leftI; split <;> omega, h.2⟩
theorem left_is {a : Int} {n : Nat} (h0 : 0 ≤ a) (h1 : a ≤ 1048576) : -1 ≤ adl.leftI a n ∧ adl.leftI a n ≤ 1048576 := by unfold adl.leftI; split <;> omega

theorem cells_len (e : ExprD) (pa : Option Addr) (pc : Nat) (aa : Option Addr) (ac : Nat) : (cellsE e pa pc aa ac).length = 12 := rfl

end Go.Proofs.YtnjpddbpnmgcpaaGreatDoor.ex
