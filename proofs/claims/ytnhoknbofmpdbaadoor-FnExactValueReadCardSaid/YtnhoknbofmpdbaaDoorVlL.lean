/- The laws' own helpers on values: sized, copied in, compared. -/
import Derived.Test.YtnhoknbofmpdbaaDoorVlI
import Derived.Test.YtnhoknbofmpdbaaDoorAdL
namespace Go.Proofs.YtnhoknbofmpdbaaDoor.vl
open ad mem adl
open Go.ChangeShapes Go.WideShapes Go.ChangeAt Go.RowKit Go.Lib
set_option linter.unusedVariables false
set_option linter.unusedSimpArgs false

set_option maxHeartbeats 400000 in
theorem eq_val (v : ValD) (w : World) :
    Calls Tryd.prog 43 #[.agg #[.int .i64 v.kind, .int .i64 v.n, .string v.text], .agg #[.int .i64 v.kind, .int .i64 v.n, .string v.text]] w (Told w (.bool true)) := by
  go_enter Tryd.func43, Tryd.ntmps43
  go_wp2
  all_goals go_ret
  all_goals exact ⟨rfl, below_a2 _ _ _⟩
set_option maxHeartbeats 400000 in
theorem eq_out (v : ValD) (c : Int) (w : World) :
    Calls Tryd.prog 18 #[.agg #[.int .i64 v.kind, .int .i64 v.n, .string v.text, .int .i64 c], .agg #[.int .i64 v.kind, .int .i64 v.n, .string v.text, .int .i64 c]] w (Told w (.bool true)) := by
  go_enter Tryd.func18, Tryd.ntmps18
  go_wp2_with fail
  refine (eq_val v _).mono ?_
  rintro _ w1 ⟨rfl, hb⟩
  have E1 := Lib.hid (below_then (below_a2 _ _ _) hb (Nat.le_refl _))
  have q1 := (((Blk.new1 w _ _ _).step hb)).cell
  have q0 := ((((Blk.new w _ _).alloc _).step hb)).cell
  clear hb
  go_wp2
  go_ret
  exact ⟨rfl, E1.out⟩
end Go.Proofs.YtnhoknbofmpdbaaDoor.vl
