/- What the card of AddrRead gives the walk: the library's two errors; a number that the search reads. -/
import Derived.Test.YtfjfneliajmjbaaDoorErrL
import Derived.Test.YtfjfneliajmjbaaDoorArL
import Derived.Shelf.Vars
namespace Go.Proofs.YtfjfneliajmjbaaDoor.arl
open Go.ChangeShapes Go.WideShapes Go.ChangeAt Go.RowKit Go.Lib
set_option linter.unusedVariables false
set_option maxRecDepth 8000

def ints : DataW Unit → Array Value
  | .agg l => (l.map fun | .lit (.int k z) => Value.int k z | _ => Value.bool false).toArray
  | _ => #[]
def lay (cs : Array Value) : Obj → Obj
  | .cells _ t fr => .cells cs t fr
  | o => o
/-- the door's own run, and the great table that the translation bears no literal of. -/
noncomputable def start (os : Os) : World := { World.doorLaid Tryd.prog 20000 os with heap := (World.doorLaid Tryd.prog 20000 os).heap.modify 3 (lay (ints Go.Pinned.utf8First)) }
theorem mx_of {W : World} (h : W.ShapedOpen Tryd.prog) : ari.Mx W :=
  cell_of_shapedOpen_int (zero := #[.int .i64 0]) (t := 3) h (of_decide_eq_true (by kernel_rfl)) (by kernel_rfl) rfl (by kernel_rfl) (by kernel_rfl) Tryd.underlying3
theorem Met3_of {na nb nc nd n1 n2 : String} {da db dc dd d1 d2 : DataW Unit} {rest : List (String × DataW Unit)} {W : World} (hp : (((na, da) :: (nb, db) :: (nc, dc) :: (nd, dd) :: ("strconv.ErrRange", .iface n1 d1) :: ("strconv.ErrSyntax", .iface n2 d2) :: rest).all fun x => x.2.handleName?.isNone) = true)
    (h : laidMetH Tryd.prog ((na, da) :: (nb, db) :: (nc, dc) :: (nd, dd) :: ("strconv.ErrRange", .iface n1 d1) :: ("strconv.ErrSyntax", .iface n2 d2) :: rest) W) (hsh : W.ShapedOpen Tryd.prog) : Met3 W := by
  rw [MakeChecks.laidMetH_plain _ _ _ hp] at h
  obtain ⟨ps, ⟨_, _, _, _, _, _, _, _, _, _, ⟨_, _, _, _, _, _, _, _, _, _, ⟨_, _, _, _, _, _, _, _, _, _, ⟨_, _, _, _, _, _, _, _, _, _, hr, _⟩, _⟩, _⟩, _⟩, _⟩ := h
  exact ⟨laide.errs_at hr, mx_of hsh⟩
end Go.Proofs.YtfjfneliajmjbaaDoor.arl
