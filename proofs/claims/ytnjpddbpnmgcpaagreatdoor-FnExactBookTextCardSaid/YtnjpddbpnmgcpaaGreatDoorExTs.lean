/- The laws' own helpers on expressions: lists of them copied in. -/
import Derived.Test.YtnjpddbpnmgcpaaGreatDoorExT
namespace Go.Proofs.YtnjpddbpnmgcpaaGreatDoor.ex
open ad mem vl
open Go.ChangeShapes Go.WideShapes Go.ChangeAt Go.RowKit Go.Lib
set_option linter.unusedVariables false
set_option maxRecDepth 8000
set_option linter.unusedSimpArgs false

theorem blk_cells {g : Nat} {T : TypeId} : ∀ (vs : List Value) (o : Nat) {w : World} {cs : Array Value}, Blk w g T cs → ∃ cs', Blk (w.setCells g o vs) g T cs' ∧ cs'.size = cs.size
  | [], _, _, cs, h => ⟨cs, h, rfl⟩
  | v :: vs, o, w, cs, h => by
    obtain ⟨cs', h1, h2⟩ := blk_cells vs (o + 1) (Blk.set_ h o v)
    exact ⟨cs', h1, by rw [h2]; simp⟩
theorem one_cells (e : ExprD) (pa : Option Addr) (pc : Nat) (aa : Option Addr) (ac : Nat) : (cellsE e pa pc aa ac).toArray.all (·.oneCell') = true := by simp [cellsE, Value.oneCell']
theorem below_cells {B : Nat} {a : World} {g : Nat} (hg : B ≤ g) : ∀ (vs : List Value) (o : Nat) {w : World}, Below B a w → Below B a (w.setCells g o vs)
  | [], _, _, h => h
  | v :: vs, o, w, h => below_cells hg vs (o + 1) (Below.setCell h (p := ⟨g, o, none⟩) hg v)
theorem blk_there {w : World} {g : Nat} {T : TypeId} {cs : Array Value} (h : Blk w g T cs) {o n : Nat} (hs : o + n ≤ cs.size) : w.there g o n := fun j hj => by
  refine ⟨?_, h.free _⟩
  rw [h.cell, Array.getElem?_eq_getElem (by omega)]; rfl
def NewC (w : World) (n : Nat) (e : ExprD) (en : Ending) (w' : World) : Prop := ∃ pa aa cs, Hid (cs = cellsE e pa e.addr.path.length aa e.args.length) ∧ en = .returned (.agg cs.toArray) ∧ In w.heap.size n w' pa aa e ∧ Below w.heap.size w w'
theorem newC {w : World} {n : Nat} {e : ExprD} {en : Ending} {w' : World} (h : NewE w n e en w') : NewC w n e en w' := by
  obtain ⟨pa, aa, h1, h2, h3⟩ := h
  exact ⟨pa, aa, _, Lib.hid rfl, h1, h2, h3⟩
end Go.Proofs.YtnjpddbpnmgcpaaGreatDoor.ex
