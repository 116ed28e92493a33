/- Plain: facts that later worlds keep. -/
import Derived.Test.YtgkcohclejmhkaaUc
namespace Go.Proofs.Ytgkcohclejmhkaa.un
open mem
open Go.ChangeShapes Go.WideShapes Go.ChangeAt Go.RowKit Go.Lib
set_option linter.unusedVariables false
set_option linter.unusedSimpArgs false
/-- a fact that every later world keeps. -/
structure Gd (P : World → Prop) (w : World) : Prop where
  go : ∀ w', Below w.heap.size w w' → P w'
theorem Gd.now {P : World → Prop} {w : World} (h : Gd P w) : P w := h.go w (Below.refl _ _)
theorem Gd.below {P : World → Prop} {w w' : World} (h : Gd P w) (hb : Below w.heap.size w w') : Gd P w' := ⟨fun w'' hb' => h.go w'' (below_then hb hb' (Nat.le_refl _))⟩
theorem Gd.alloc {P : World → Prop} {w : World} (h : Gd P w) (o : Obj) : Gd P (w.alloc o) := h.below (below_a1 w o)
theorem Gd.drew {P : World → Prop} {w : World} (h : Gd P w) (k : Nat) : Gd P (w.drewN k) := h.below (below_d w k)
theorem Gd.ofC {B : Nat → Prop} {n : Nat} {w : World} {ks : List CK} {ds : List DC} {vs : List Value} (h : Cells B n w ks ds vs) : Gd (fun w => Cells B n w ks ds vs) w := ⟨fun w' hb => Cells.below h hb⟩
theorem Gd.of1 {B : Nat → Prop} {n : Nat} {w : World} {k : CK} {d : DC} {v : Value} (h : Cell B n w k d v) : Gd (fun w => Cell B n w k d v) w := ⟨fun w' hb => Cell.below h hb⟩
end Go.Proofs.Ytgkcohclejmhkaa.un
