/- A right book, of both sides: the program's own name for it. -/
import Derived.Test.YtnjpddbpnmgcpaaGreatDoorBoI
import Derived.Test.YtnjpddbpnmgcpaaGreatDoorBoS
namespace Go.Proofs.YtnjpddbpnmgcpaaGreatDoor.cf
open ad mem vl ex un cm
open Go.ChangeShapes Go.WideShapes Go.ChangeAt Go.RowKit Go.Lib
set_option linter.unusedVariables false
set_option maxRecDepth 8000
set_option linter.unusedSimpArgs false
theorem bookRight_impl {B : Nat → Prop} {n c : Nat} {w : World} {xs : List (List DC)} {A : Option Addr} {r : Bool} (hr : bookB xs = r) (h : Cell B n w (.l 8) (.l xs) (.slice A xs.length c)) :
    Calls Tryz.prog 20 #[.slice A xs.length c] w (un.Told w (.bool r)) := by
  have H := Lib.hid (Gd.of1 h)
  clear h
  go_enter Tryz.func20, Tryz.ntmps20
  go_wp2_with fail
  refine (book_impl hr H.out.now).mono ?_
  rintro _ w1 ⟨rfl, hb⟩
  go_wp2
  go_ret
  exact ⟨rfl, hb⟩
end Go.Proofs.YtnjpddbpnmgcpaaGreatDoor.cf
