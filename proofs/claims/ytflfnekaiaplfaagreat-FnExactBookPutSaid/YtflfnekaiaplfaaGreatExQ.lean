/- The laws' own helpers on expressions: sized, copied in, compared. The laws' own helpers on expressions: copied in. The laws' own helpers on expressions: lists of them copied in. The laws' own helpers on expressions: compared. -/
import Derived.Test.YtflfnekaiaplfaaGreatEx
import Derived.Test.YtflfnekaiaplfaaGreatVlL
import Derived.Deep.RegionHeld3
namespace Go.Proofs.YtflfnekaiaplfaaGreat.ex
open ad mem vl
open Go.ChangeShapes Go.WideShapes Go.ChangeAt Go.RowKit Go.Lib
set_option linter.unusedVariables false
set_option maxRecDepth 8000
set_option linter.unusedSimpArgs false


-- [PLAIN
/-- a size told: what is left, or -1. -/
def Left1 (w : World) (a : Int) (n : Nat) (e : Ending) (w' : World) : Prop := ∃ x : Int, e = .returned (.int .i64 x) ∧ Hid (x = adl.leftI a n) ∧ -1 ≤ x ∧ x ≤ 1048576 ∧ Below w.heap.size w w'
theorem left1 {w : World} {a : Int} {n : Nat} {e : Ending} {w' : World} (h0 : 0 ≤ a) (h1 : a ≤ 1048576) (h : e = .returned (.int .i64 (adl.leftI a n)) ∧ Below w.heap.size w w') : Left1 w a n e w' :=
  ⟨_, h.1, Lib.hid rfl, by unfold adl.leftI; split <;> omega, by unfold adl.leftI; split <;> omega, h.2⟩
theorem left_is {a : Int} {n : Nat} (h0 : 0 ≤ a) (h1 : a ≤ 1048576) : -1 ≤ adl.leftI a n ∧ adl.leftI a n ≤ 1048576 := by unfold adl.leftI; split <;> omega

theorem cells_len (e : ExprD) (pa : Option Addr) (pc : Nat) (aa : Option Addr) (ac : Nat) : (cellsE e pa pc aa ac).length = 12 := rfl

end Go.Proofs.YtflfnekaiaplfaaGreat.ex
namespace Go.Proofs.YtflfnekaiaplfaaGreat.ex
open ad mem vl
open Go.ChangeShapes Go.WideShapes Go.ChangeAt Go.RowKit Go.Lib
set_option linter.unusedVariables false
set_option maxRecDepth 8000
set_option linter.unusedSimpArgs false


theorem Blk.set_ {w : World} {g : Nat} {T : TypeId} {cs : Array Value} (h : Blk w g T cs) (i : Nat) (u : Value) : Blk (w.setCell ⟨g, i, none⟩ u) g T (cs.setIfInBounds i u) := by
  unfold Blk at h ⊢
  simp [World.setCell, Array.getElem?_modify, h]

theorem blk_a3 {w : World} {g : Nat} {T : TypeId} {c0 c1 c2 c3 c4 c5 c6 c7 c8 c9 c10 c11 : Value} (h : Blk w g T #[c0, c1, c2, c3, c4, c5, c6, c7, c8, c9, c10, c11]) (a1 a2 a3 : Value) :
    Blk (((w.setCell ⟨g, 1, none⟩ a1).setCell ⟨g, 2, none⟩ a2).setCell ⟨g, 3, none⟩ a3) g T #[c0, a1, a2, a3, c4, c5, c6, c7, c8, c9, c10, c11] := by
  have := Blk.set_ (Blk.set_ (Blk.set_ h 1 a1) 2 a2) 3 a3
  simpa using this
theorem blk_a7 {w : World} {g : Nat} {T : TypeId} {c0 c1 c2 c3 c4 c5 c6 c7 c8 c9 c10 c11 : Value} (h : Blk w g T #[c0, c1, c2, c3, c4, c5, c6, c7, c8, c9, c10, c11]) (a4 a5 a6 a7 a8 a9 a10 : Value) :
    Blk (((((((w.setCell ⟨g, 4, none⟩ a4).setCell ⟨g, 5, none⟩ a5).setCell ⟨g, 6, none⟩ a6).setCell ⟨g, 7, none⟩ a7).setCell ⟨g, 8, none⟩ a8).setCell ⟨g, 9, none⟩ a9).setCell ⟨g, 10, none⟩ a10) g T #[c0, c1, c2, c3, a4, a5, a6, a7, a8, a9, a10, c11] := by
  have := Blk.set_ (Blk.set_ (Blk.set_ (Blk.set_ (Blk.set_ (Blk.set_ (Blk.set_ h 4 a4) 5 a5) 6 a6) 7 a7) 8 a8) 9 a9) 10 a10
  simpa using this
theorem far_a3 {w : World} {g g' : Nat} {T : TypeId} {cs : Array Value} (h : Blk w g T cs) (hg : g ≠ g') (a1 a2 a3 : Value) :
    Blk (((w.setCell ⟨g', 1, none⟩ a1).setCell ⟨g', 2, none⟩ a2).setCell ⟨g', 3, none⟩ a3) g T cs :=
  ((h.far (p := ⟨g', 1, none⟩) hg a1).far (p := ⟨g', 2, none⟩) hg a2).far (p := ⟨g', 3, none⟩) hg a3
theorem agree_a7 {lo : Nat} {w0 w : World} {g' : Nat} (h : Agree lo w0 w) (hg : g' < lo) (a4 a5 a6 a7 a8 a9 a10 : Value) :
    Agree lo w0 (((((((w.setCell ⟨g', 4, none⟩ a4).setCell ⟨g', 5, none⟩ a5).setCell ⟨g', 6, none⟩ a6).setCell ⟨g', 7, none⟩ a7).setCell ⟨g', 8, none⟩ a8).setCell ⟨g', 9, none⟩ a9).setCell ⟨g', 10, none⟩ a10) :=
  agree_set (agree_set (agree_set (agree_set (agree_set (agree_set (agree_set h (p := ⟨g', 4, none⟩) hg a4) (p := ⟨g', 5, none⟩) hg a5) (p := ⟨g', 6, none⟩) hg a6) (p := ⟨g', 7, none⟩) hg a7) (p := ⟨g', 8, none⟩) hg a8) (p := ⟨g', 9, none⟩) hg a9) (p := ⟨g', 10, none⟩) hg a10
theorem far_a7 {w : World} {g g' : Nat} {T : TypeId} {cs : Array Value} (h : Blk w g T cs) (hg : g ≠ g') (a4 a5 a6 a7 a8 a9 a10 : Value) :
    Blk (((((((w.setCell ⟨g', 4, none⟩ a4).setCell ⟨g', 5, none⟩ a5).setCell ⟨g', 6, none⟩ a6).setCell ⟨g', 7, none⟩ a7).setCell ⟨g', 8, none⟩ a8).setCell ⟨g', 9, none⟩ a9).setCell ⟨g', 10, none⟩ a10) g T cs :=
  ((((((h.far (p := ⟨g', 4, none⟩) hg a4).far (p := ⟨g', 5, none⟩) hg a5).far (p := ⟨g', 6, none⟩) hg a6).far (p := ⟨g', 7, none⟩) hg a7).far (p := ⟨g', 8, none⟩) hg a8).far (p := ⟨g', 9, none⟩) hg a9).far (p := ⟨g', 10, none⟩) hg a10

/-- the new expression of toExpr. -/
def NewE (w : World) (n : Nat) (e : ExprD) (en : Ending) (w' : World) : Prop := ∃ pa aa, en = .returned (.agg #[.int .i64 e.kind, .int .i64 e.val.kind, .int .i64 e.val.n, .string e.val.text, .slice pa e.addr.path.length e.addr.path.length, .string e.addr.typ, .string e.addr.nam, .int .i64 e.addr.kind, .int .i64 e.addr.n, .string e.addr.key, .string e.prop, .slice aa e.args.length e.args.length]) ∧ In w.heap.size n w' pa aa e ∧ Below w.heap.size w w'
def NewS (w : World) (n : Nat) (l : List ExprD) (en : Ending) (w' : World) : Prop := ∃ g, en = .returned (.slice (some ⟨g, 0, none⟩) l.length l.length) ∧ w.heap.size ≤ g ∧ Ar n w.heap.size w' (some ⟨g, 0, none⟩) l ∧ Below w.heap.size w w'
-- [PLAIN
end Go.Proofs.YtflfnekaiaplfaaGreat.ex
namespace Go.Proofs.YtflfnekaiaplfaaGreat.ex
open ad mem vl
open Go.ChangeShapes Go.WideShapes Go.ChangeAt Go.RowKit Go.Lib
set_option linter.unusedVariables false
set_option maxRecDepth 8000
set_option linter.unusedSimpArgs false

theorem blk_cells {g : Nat} {T : TypeId} : ∀ (vs : List Value) (o : Nat) {w : World} {cs : Array Value}, Blk w g T cs → ∃ cs', Blk (w.setCells g o vs) g T cs' ∧ cs'.size = cs.size
  | [], _, _, cs, h => ⟨cs, h, rfl⟩
  | v :: vs, o, w, cs, h => by
    obtain ⟨cs', h1, h2⟩ := blk_cells vs (o + 1) (Blk.set_ h o v)
    exact ⟨cs', h1, by rw [h2]; simp⟩
theorem one_cells (e : ExprD) (pa : Option Addr) (pc : Nat) (aa : Option Addr) (ac : Nat) : (cellsE e pa pc aa ac).toArray.all (·.oneCell') = true := by simp [cellsE, Value.oneCell']
theorem below_cells {B : Nat} {a : World} {g : Nat} (hg : B ≤ g) : ∀ (vs : List Value) (o : Nat) {w : World}, Below B a w → Below B a (w.setCells g o vs)
  | [], _, _, h => h
  | v :: vs, o, w, h => below_cells hg vs (o + 1) (Below.setCell h (p := ⟨g, o, none⟩) hg v)
theorem blk_there {w : World} {g : Nat} {T : TypeId} {cs : Array Value} (h : Blk w g T cs) {o n : Nat} (hs : o + n ≤ cs.size) : w.there g o n := fun j hj => by
  refine ⟨?_, h.free _⟩
  rw [h.cell, Array.getElem?_eq_getElem (by omega)]; rfl
def NewC (w : World) (n : Nat) (e : ExprD) (en : Ending) (w' : World) : Prop := ∃ pa aa cs, Hid (cs = cellsE e pa e.addr.path.length aa e.args.length) ∧ en = .returned (.agg cs.toArray) ∧ In w.heap.size n w' pa aa e ∧ Below w.heap.size w w'
theorem newC {w : World} {n : Nat} {e : ExprD} {en : Ending} {w' : World} (h : NewE w n e en w') : NewC w n e en w' := by
  obtain ⟨pa, aa, h1, h2, h3⟩ := h
  exact ⟨pa, aa, _, Lib.hid rfl, h1, h2, h3⟩
end Go.Proofs.YtflfnekaiaplfaaGreat.ex
namespace Go.Proofs.YtflfnekaiaplfaaGreat.ex
open ad mem vl
open Go.ChangeShapes Go.WideShapes Go.ChangeAt Go.RowKit Go.Lib
set_option linter.unusedVariables false
set_option maxRecDepth 8000
set_option linter.unusedSimpArgs false


theorem range12 {w : World} {b o : Nat} {e : ExprD} {pa aa : Option Addr} {pc ac : Nat} (h : w.rangeAt b o (cellsE e pa pc aa ac)) :
    w.cell? ⟨b, o, none⟩ = some (.int .i64 e.kind) ∧ w.cell? ⟨b, o + 1, none⟩ = some (.int .i64 e.val.kind) ∧ w.cell? ⟨b, o + 2, none⟩ = some (.int .i64 e.val.n) ∧ w.cell? ⟨b, o + 3, none⟩ = some (.string e.val.text) ∧ w.cell? ⟨b, o + 4, none⟩ = some (.slice pa e.addr.path.length pc) ∧ w.cell? ⟨b, o + 5, none⟩ = some (.string e.addr.typ) ∧ w.cell? ⟨b, o + 6, none⟩ = some (.string e.addr.nam) ∧ w.cell? ⟨b, o + 7, none⟩ = some (.int .i64 e.addr.kind) ∧ w.cell? ⟨b, o + 8, none⟩ = some (.int .i64 e.addr.n) ∧ w.cell? ⟨b, o + 9, none⟩ = some (.string e.addr.key) ∧ w.cell? ⟨b, o + 10, none⟩ = some (.string e.prop) ∧ w.cell? ⟨b, o + 11, none⟩ = some (.slice aa e.args.length ac) :=
  ⟨h 0 _ rfl, h 1 _ rfl, h 2 _ rfl, h 3 _ rfl, h 4 _ rfl, h 5 _ rfl, h 6 _ rfl, h 7 _ rfl, h 8 _ rfl, h 9 _ rfl, h 10 _ rfl, h 11 _ rfl⟩

end Go.Proofs.YtflfnekaiaplfaaGreat.ex
