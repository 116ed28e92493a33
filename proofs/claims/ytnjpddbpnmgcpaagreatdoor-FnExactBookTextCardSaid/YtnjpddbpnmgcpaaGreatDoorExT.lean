/- The laws' own helpers on expressions: copied in. -/
import Derived.Test.YtnjpddbpnmgcpaaGreatDoorExL
namespace Go.Proofs.YtnjpddbpnmgcpaaGreatDoor.ex
open ad mem vl
open Go.ChangeShapes Go.WideShapes Go.ChangeAt Go.RowKit Go.Lib
set_option linter.unusedVariables false
set_option maxRecDepth 8000
set_option linter.unusedSimpArgs false


theorem Blk.set_ {w : World} {g : Nat} {T : TypeId} {cs : Array Value} (h : Blk w g T cs) (i : Nat) (u : Value) : Blk (w.setCell ⟨g, i, none⟩ u) g T (cs.setIfInBounds i u) := by
  unfold Blk at h ⊢
  simp [World.setCell, Array.getElem?_modify, h]

theorem blk_a3 {w : World} {g : Nat} {T : TypeId} {c0 c1 c2 c3 c4 c5 c6 c7 c8 c9 c10 c11 : Value} (h : Blk w g T #[c0, c1, c2, c3, c4, c5, c6, c7, c8, c9, c10, c11]) (a1 a2 a3 : Value) :
    Blk (((w.setCell ⟨g, 1, none⟩ a1).setCell ⟨g, 2, none⟩ a2).setCell ⟨g, 3, none⟩ a3) g T #[c0, a1, a2, a3, c4, c5, c6, c7, c8, c9, c10, c11] := by
  have := Blk.set_ (Blk.set_ (Blk.set_ h 1 a1) 2 a2) 3 a3
  simpa using this
theorem blk_a7 {w : World} {g : Nat} {T : TypeId} {c0 c1 c2 c3 c4 c5 c6 c7 c8 c9 c10 c11 : Value} (h : Blk w g T #[c0, c1, c2, c3, c4, c5, c6, c7, c8, c9, c10, c11]) (a4 a5 a6 a7 a8 a9 a10 : Value) :
    Blk (((((((w.setCell ⟨g, 4, none⟩ a4).setCell ⟨g, 5, none⟩ a5).setCell ⟨g, 6, none⟩ a6).setCell ⟨g, 7, none⟩ a7).setCell ⟨g, 8, none⟩ a8).setCell ⟨g, 9, none⟩ a9).setCell ⟨g, 10, none⟩ a10) g T #[c0, c1, c2, c3, a4, a5, a6, a7, a8, a9, a10, c11] := by
  have := Blk.set_ (Blk.set_ (Blk.set_ (Blk.set_ (Blk.set_ (Blk.set_ (Blk.set_ h 4 a4) 5 a5) 6 a6) 7 a7) 8 a8) 9 a9) 10 a10
  simpa using this
theorem far_a3 {w : World} {g g' : Nat} {T : TypeId} {cs : Array Value} (h : Blk w g T cs) (hg : g ≠ g') (a1 a2 a3 : Value) :
    Blk (((w.setCell ⟨g', 1, none⟩ a1).setCell ⟨g', 2, none⟩ a2).setCell ⟨g', 3, none⟩ a3) g T cs :=
  ((h.far (p := ⟨g', 1, none⟩) hg a1).far (p := ⟨g', 2, none⟩) hg a2).far (p := ⟨g', 3, none⟩) hg a3
theorem agree_a7 {lo : Nat} {w0 w : World} {g' : Nat} (h : Agree lo w0 w) (hg : g' < lo) (a4 a5 a6 a7 a8 a9 a10 : Value) :
    Agree lo w0 (((((((w.setCell ⟨g', 4, none⟩ a4).setCell ⟨g', 5, none⟩ a5).setCell ⟨g', 6, none⟩ a6).setCell ⟨g', 7, none⟩ a7).setCell ⟨g', 8, none⟩ a8).setCell ⟨g', 9, none⟩ a9).setCell ⟨g', 10, none⟩ a10) :=
  agree_set (agree_set (agree_set (agree_set (agree_set (agree_set (agree_set h (p := ⟨g', 4, none⟩) hg a4) (p := ⟨g', 5, none⟩) hg a5) (p := ⟨g', 6, none⟩) hg a6) (p := ⟨g', 7, none⟩) hg a7) (p := ⟨g', 8, none⟩) hg a8) (p := ⟨g', 9, none⟩) hg a9) (p := ⟨g', 10, none⟩) hg a10
theorem far_a7 {w : World} {g g' : Nat} {T : TypeId} {cs : Array Value} (h : Blk w g T cs) (hg : g ≠ g') (a4 a5 a6 a7 a8 a9 a10 : Value) :
    Blk (((((((w.setCell ⟨g', 4, none⟩ a4).setCell ⟨g', 5, none⟩ a5).setCell ⟨g', 6, none⟩ a6).setCell ⟨g', 7, none⟩ a7).setCell ⟨g', 8, none⟩ a8).setCell ⟨g', 9, none⟩ a9).setCell ⟨g', 10, none⟩ a10) g T cs :=
  ((((((h.far (p := ⟨g', 4, none⟩) hg a4).far (p := ⟨g', 5, none⟩) hg a5).far (p := ⟨g', 6, none⟩) hg a6).far (p := ⟨g', 7, none⟩) hg a7).far (p := ⟨g', 8, none⟩) hg a8).far (p := ⟨g', 9, none⟩) hg a9).far (p := ⟨g', 10, none⟩) hg a10

/-- the new expression of toExpr. -/
def NewE (w : World) (n : Nat) (e : ExprD) (en : Ending) (w' : World) : Prop := ∃ pa aa, en = .returned (.agg #[.int .i64 e.kind, .int .i64 e.val.kind, .int .i64 e.val.n, .string e.val.text, .slice pa e.addr.path.length e.addr.path.length, .string e.addr.typ, .string e.addr.nam, .int .i64 e.addr.kind, .int .i64 e.addr.n, .string e.addr.key, .string e.prop, .slice aa e.args.length e.args.length]) ∧ In w.heap.size n w' pa aa e ∧ Below w.heap.size w w'
def NewS (w : World) (n : Nat) (l : List ExprD) (en : Ending) (w' : World) : Prop := ∃ g, en = .returned (.slice (some ⟨g, 0, none⟩) l.length l.length) ∧ w.heap.size ≤ g ∧ Ar n w.heap.size w' (some ⟨g, 0, none⟩) l ∧ Below w.heap.size w w'
-- [PLAIN
end Go.Proofs.YtnjpddbpnmgcpaaGreatDoor.ex
