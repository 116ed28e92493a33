/- Bare, of the program and of the model. -/
import Derived.Test.YtgkcohclejmhkaaBare
import Derived.Deep.RegionHeld3
namespace Go.Proofs.Ytgkcohclejmhkaa.bare
open ad mem own
open Go.ChangeShapes Go.WideShapes Go.ChangeAt Go.RowKit Go.Lib
set_option linter.unusedVariables false
set_option linter.unusedSimpArgs false

theorem own_new (W : World) (g base : Nat) (hg : W.heap.size = g) (hb : base ≤ g) : Own (W.alloc (.cells #[] 9)) base (.slice (some ⟨g, 0, none⟩) 0 0) [] := by
  subst hg
  exact ⟨rfl, .inr ⟨W.heap.size, 0, #[], rfl, hb, heap_alloc_new W _, Nat.le_refl _, Nat.zero_le _, rfl, rfl⟩⟩
theorem Blk.drewN {w : World} {g : Nat} {T : TypeId} {cs : Array Value} (h : Blk w g T cs) (n : Nat) : Blk (w.drewN n) g T cs := h

end Go.Proofs.Ytgkcohclejmhkaa.bare
