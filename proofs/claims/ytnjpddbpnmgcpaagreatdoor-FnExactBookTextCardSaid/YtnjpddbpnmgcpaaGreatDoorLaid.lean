/- What the cards' lists of the library's variables give the walks: the table of powers; the run of the program's own start that the witness uses. -/
import Derived.Test.YtnjpddbpnmgcpaaGreatDoorRows
import Derived.Test.YtnjpddbpnmgcpaaGreatDoorVlT
import Derived.MakeChecks
import Derived.LaidMore
import Derived.LaidHandle
namespace Go.Proofs.YtnjpddbpnmgcpaaGreatDoor.laid
open Go.ChangeShapes Go.WideShapes Go.ChangeAt Go.RowKit Go.Lib
set_option linter.unusedVariables false
set_option maxRecDepth 8000

/-- a start that lays the three tables. -/
def ints : DataW Unit → Array Value
  | .agg l => (l.map fun | .lit (.int k z) => Value.int k z | _ => Value.bool false).toArray
  | _ => #[]
def lay (cs : Array Value) : Obj → Obj
  | .cells _ t fr => .cells cs t fr
  | o => o
noncomputable def start (os : Os) : World :=
  { World.holding Tryz.prog os ⟨#[], #[], []⟩ with heap := (((World.holding Tryz.prog os ⟨#[], #[], []⟩).heap.modify 0 (lay (ints Rows.laid_internal_strconv_uint64pow10))).modify 2 (lay (ints Rows.laid_math_bits_deBruijn32tab))).modify 3 (lay (ints Rows.laid_math_bits_deBruijn64tab)) }
def Met (w : World) : Prop := vl.Tab w
theorem g0 : Tryz.prog.globalNamed "internal/strconv.uint64pow10" = some 0 := by kernel_rfl
theorem t0 : (Tryz.prog.globals[0]?).map (·.type) = some 172 := by kernel_rfl
theorem Met_of {na nb : String} {da db : DataW Unit} {rest : List (String × DataW Unit)} {W : World} (hp : (((na, da) :: (nb, db) :: ("internal/strconv.uint64pow10", Rows.laid_internal_strconv_uint64pow10) :: rest).all fun x => x.2.handleName?.isNone) = true)
    (h : laidMetH Tryz.prog ((na, da) :: (nb, db) :: ("internal/strconv.uint64pow10", Rows.laid_internal_strconv_uint64pow10) :: rest) W) : Met W := by
  rw [MakeChecks.laidMetH_plain _ _ _ hp] at h
  obtain ⟨ps, ⟨_, _, _, _, _, _, _, _, _, _, ⟨_, _, _, _, _, _, _, _, _, _, ⟨g, t, cs, fuel, p, q, hg, ht, hvar, hd, _, _⟩, _⟩, _⟩, _⟩ := h
  obtain rfl := Option.some.inj (g0.symm.trans hg)
  obtain rfl := Option.some.inj (t0.symm.trans ht)
  unfold Met vl.Tab Lib.TabIs
  rw [hvar, ← Lib.cells_of_tab (zs := Lib.pow10Tab) (k := .u64) Tryz.underlying172 Tryz.underlying157 (by kernel_rfl) (by kernel_rfl) hd]
end Go.Proofs.YtnjpddbpnmgcpaaGreatDoor.laid
