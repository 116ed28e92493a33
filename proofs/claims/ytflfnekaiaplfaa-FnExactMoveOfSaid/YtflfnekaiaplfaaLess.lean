/- AddrLess, of the program and of the model. AddrLess of the model. -/
import Derived.Test.YtflfnekaiaplfaaCmpB
import Derived.Deep.RegionHeld3
namespace Go.Proofs.Ytflfnekaiaplfaa.cm
open ad mem
open Go.ChangeShapes Go.WideShapes Go.ChangeAt Go.RowKit Go.Lib
set_option linter.unusedVariables false
set_option linter.unusedSimpArgs false

/-- the first number that is not 0. -/
def orI : List Int → Int
  | [] => 0
  | x :: xs => if x = 0 then orI xs else x
theorem or_at : ∀ (l : List Int) (k : Nat) (h : k < l.length), (∀ j (h : j < l.length), j < k → l[j] = 0) → l[k] ≠ 0 → orI l = l[k]
  | [], k, h, _, _ => by simp at h
  | x :: xs, 0, _, _, hne => by rw [orI, if_neg (by simpa using hne)]; rfl
  | x :: xs, k + 1, h, hall, hne => by
    have e : x = 0 := hall 0 (by simp) (by omega)
    unfold orI; rw [if_pos e]
    exact or_at xs k (by simpa using h) (fun j h hj => hall (j + 1) (by simp; omega) (by omega)) hne
theorem or_all : ∀ (l : List Int), (∀ j (h : j < l.length), l[j] = 0) → orI l = 0
  | [], _ => rfl
  | x :: xs, hall => by
    have e : x = 0 := hall 0 (by simp)
    unfold orI; rw [if_pos e]
    exact or_all xs (fun j h => hall (j + 1) (by simp; omega))

/-- the six looks of one address ahead of another. -/
noncomputable def looks (d e : AddrD) : List Int := [wordsI d.path e.path, cmpS d.typ e.typ, cmpS d.nam e.nam, cmpI d.kind e.kind, cmpI d.n e.n, cmpS d.key e.key]
noncomputable def lessB (d e : AddrD) : Bool := addrB d && addrB e && decide (orI (looks d e) < 0)

theorem cell_new {W : World} {T : TypeId} {cs : Array Value} {g k : Nat} (h : g = W.heap.size) : (W.alloc (.cells cs T)).cell? ⟨g, k, none⟩ = cs[k]? := by
  subst h; exact (Blk.new W T cs).cell k

end Go.Proofs.Ytflfnekaiaplfaa.cm
namespace Go.Proofs.Ytflfnekaiaplfaa.cm
open ad mem
open Go.ChangeShapes Go.WideShapes Go.ChangeAt Go.RowKit Go.Lib
set_option linter.unusedVariables false
set_option linter.unusedSimpArgs false

theorem cmpI_neg {a b : Int} : cmpI a b < 0 ↔ a < b := by
  unfold cmpI; split
  · omega
  · split <;> omega
theorem bneI {a b : Int} : (a != b) = true ↔ a ≠ b := by simp

end Go.Proofs.Ytflfnekaiaplfaa.cm
