/- What the cards' lists of the library's variables give the walks: the table of powers; the run of the program's own start that the witness uses. -/
import Derived.Test.YtnhoknbofmpdbaaDoorRows
import Derived.Test.YtnhoknbofmpdbaaDoorVlT
import Derived.MakeChecks
import Derived.LaidMore
import Derived.LaidHandle
namespace Go.Proofs.YtnhoknbofmpdbaaDoor.laid
open Go.ChangeShapes Go.WideShapes Go.ChangeAt Go.RowKit Go.Lib
set_option linter.unusedVariables false
set_option maxRecDepth 8000

/-- a start that lays the three tables. -/
def ints : DataW Unit → Array Value
  | .agg l => (l.map fun | .lit (.int k z) => Value.int k z | _ => Value.bool false).toArray
  | _ => #[]
def lay (cs : Array Value) : Obj → Obj
  | .cells _ t fr => .cells cs t fr
  | o => o
noncomputable def start (os : Os) : World :=
  { World.holding Tryd.prog os ⟨#[], #[], []⟩ with heap := (((World.holding Tryd.prog os ⟨#[], #[], []⟩).heap.modify 0 (lay (ints Rows.laid_internal_strconv_uint64pow10))).modify 4 (lay (ints Rows.laid_math_bits_deBruijn32tab))).modify 5 (lay (ints Rows.laid_math_bits_deBruijn64tab)) }
def Met (w : World) : Prop := vl.Tab w
theorem g0 : Tryd.prog.globalNamed "internal/strconv.uint64pow10" = some 0 := by kernel_rfl
theorem t0 : (Tryd.prog.globals[0]?).map (·.type) = some 122 := by kernel_rfl
theorem Met_of {na nb : String} {da db : DataW Unit} {rest : List (String × DataW Unit)} {W : World} (hp : (((na, da) :: (nb, db) :: ("internal/strconv.uint64pow10", Rows.laid_internal_strconv_uint64pow10) :: rest).all fun x => x.2.handleName?.isNone) = true)
    (h : laidMetH Tryd.prog ((na, da) :: (nb, db) :: ("internal/strconv.uint64pow10", Rows.laid_internal_strconv_uint64pow10) :: rest) W) : Met W := by
  rw [MakeChecks.laidMetH_plain _ _ _ hp] at h
  obtain ⟨ps, ⟨_, _, _, _, _, _, _, _, _, _, ⟨_, _, _, _, _, _, _, _, _, _, ⟨g, t, cs, fuel, p, q, hg, ht, hvar, hd, _, _⟩, _⟩, _⟩, _⟩ := h
  obtain rfl := Option.some.inj (g0.symm.trans hg)
  obtain rfl := Option.some.inj (t0.symm.trans ht)
  unfold Met vl.Tab Lib.TabIs
  rw [hvar, ← Lib.cells_of_tab (zs := Lib.pow10Tab) (k := .u64) Tryd.underlying122 Tryd.underlying109 (by kernel_rfl) (by kernel_rfl) hd]
end Go.Proofs.YtnhoknbofmpdbaaDoor.laid
