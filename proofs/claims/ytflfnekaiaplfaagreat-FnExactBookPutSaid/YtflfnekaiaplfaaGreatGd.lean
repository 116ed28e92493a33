/- Plain: facts that later worlds keep. Plain: a region that draws its order, that reads old memory and calls what makes new memory: one walk, in the text's order. -/
import Derived.Test.YtflfnekaiaplfaaGreatUc
import Derived.Deep.QuietTactic
import Derived.BigQuiet
namespace Go.Proofs.YtflfnekaiaplfaaGreat.un
open mem
open Go.ChangeShapes Go.WideShapes Go.ChangeAt Go.RowKit Go.Lib
set_option linter.unusedVariables false
set_option linter.unusedSimpArgs false
/-- a fact that every later world keeps. -/
structure Gd (P : World → Prop) (w : World) : Prop where
  go : ∀ w', Below w.heap.size w w' → P w'
theorem Gd.now {P : World → Prop} {w : World} (h : Gd P w) : P w := h.go w (Below.refl _ _)
theorem Gd.below {P : World → Prop} {w w' : World} (h : Gd P w) (hb : Below w.heap.size w w') : Gd P w' := ⟨fun w'' hb' => h.go w'' (below_then hb hb' (Nat.le_refl _))⟩
theorem Gd.alloc {P : World → Prop} {w : World} (h : Gd P w) (o : Obj) : Gd P (w.alloc o) := h.below (below_a1 w o)
theorem Gd.drew {P : World → Prop} {w : World} (h : Gd P w) (k : Nat) : Gd P (w.drewN k) := h.below (below_d w k)
theorem Gd.ofC {B : Nat → Prop} {n : Nat} {w : World} {ks : List CK} {ds : List DC} {vs : List Value} (h : Cells B n w ks ds vs) : Gd (fun w => Cells B n w ks ds vs) w := ⟨fun w' hb => Cells.below h hb⟩
theorem Gd.ofB {w : World} {g : Nat} {T : TypeId} {cs : Array Value} (h : Blk w g T cs) : Gd (fun w => Blk w g T cs) w := ⟨fun w' hb => h.step hb⟩
theorem Gd.of1 {B : Nat → Prop} {n : Nat} {w : World} {k : CK} {d : DC} {v : Value} (h : Cell B n w k d v) : Gd (fun w => Cell B n w k d v) w := ⟨fun w' hb => Cell.below h hb⟩
end Go.Proofs.YtflfnekaiaplfaaGreat.un
namespace Go.Proofs.YtflfnekaiaplfaaGreat.un
open mem
open Go.ChangeShapes Go.WideShapes Go.ChangeAt Go.RowKit Go.Lib
set_option linter.unusedVariables false
set_option linter.unusedSimpArgs false
/-- a world behind W: W's blocks are as they were. -/
structure Behind (W : World) where
  w : World
  below : Below W.heap.size W w
instance {W : World} : Nonempty (Behind W) := ⟨⟨W, Below.refl _ _⟩⟩
def later (W : World) (u : Behind W) : World := u.w
theorem later_below {W : World} (u : Behind W) : Below W.heap.size W (later W u) := u.below
theorem later_cell {W : World} {b o : Nat} {v : Value} (hp : b < W.heap.size) (h : W.cell? ⟨b, o, none⟩ = some v) : ∀ u, (later W u).cell? ⟨b, o, none⟩ = some v := fun u => by
  show u.w.cell? _ = _
  rw [u.below.cell (p := ⟨b, o, none⟩) hp]; exact h
theorem wp_region_later {P : Program} {id : Nat} {Q : Exit → Act → World → Prop} {a : Act} {W : World} {l : List Oper} (hm : P.follows .mixedOrders = true) (hB : Region.lexB .any l.toArray = true)
    (h : wpQuiet P l.toArray (fun w' => ∃ u, w' = later W u) (fun a' => ∀ w', (∃ u, w' = later W u) → Q .normal a' w') l a) : (Code.region id l.toArray true).wp P Q a W :=
  wp_region_quiet (C := fun w' => ∃ u, w' = later W u) hm hB ⟨⟨_, below_d W 1⟩, rfl⟩ (by simpa using h)
theorem later_call {P : Program} {f : FuncId} {args : Array Value} {W : World} {u : Behind W} {v : Value}
    (h : Calls P f args (later W u) fun e w' => e = .returned v ∧ Below (later W u).heap.size (later W u) w') : Calls P f args (later W u) fun e w'' => e = .returned v ∧ ∃ u', w'' = later W u' :=
  h.mono fun e w' ⟨he, hb⟩ => ⟨he, ⟨w', below_then (later_below u) hb (Nat.le_refl _)⟩, rfl⟩
theorem later_same {P : Program} {f : FuncId} {args : Array Value} {W : World} {u : Behind W} {v : Value}
    (h : Calls P f args (later W u) fun e w' => e = .returned v ∧ later W u = w') : Calls P f args (later W u) fun e w'' => e = .returned v ∧ ∃ u', w'' = later W u' :=
  h.mono fun e w' ⟨he, hb⟩ => ⟨he, u, hb.symm⟩
end Go.Proofs.YtflfnekaiaplfaaGreat.un
