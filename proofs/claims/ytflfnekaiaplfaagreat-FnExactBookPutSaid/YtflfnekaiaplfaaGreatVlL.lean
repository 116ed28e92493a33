/- The laws' own helpers on values: sized, copied in, compared. -/
import Derived.Test.YtflfnekaiaplfaaGreatVlI
import Derived.Test.YtflfnekaiaplfaaGreatAdL
namespace Go.Proofs.YtflfnekaiaplfaaGreat.vl
open ad mem adl
open Go.ChangeShapes Go.WideShapes Go.ChangeAt Go.RowKit Go.Lib
set_option linter.unusedVariables false
set_option linter.unusedSimpArgs false

-- [PLAIN
set_option maxHeartbeats 400000 in
theorem sz_val (v : ValD) (a : Int) (w : World) (h0 : 0 ≤ a) (h1 : a ≤ 1048576) (hs : v.text.size ≤ maxLen) :
    Calls Tryz.prog 66 #[.agg #[.int .i64 v.kind, .int .i64 v.n, .string v.text], .int .i64 a] w (Told w (.int .i64 (leftI a v.text.size))) := by
  unfold maxLen at hs
  by_cases hn : a - (v.text.size : Int) < 0
  · go_enter Tryz.func66, Tryz.ntmps66
    go_wp2
    go_ret
    exact ⟨ret_i (by unfold leftI; rw [if_neg (by omega)]), below_a1 _ _⟩
  · go_enter Tryz.func66, Tryz.ntmps66
    go_wp2
    go_ret
    exact ⟨ret_i (by unfold leftI; rw [if_pos (by omega)]), below_a1 _ _⟩

set_option maxHeartbeats 400000 in
theorem to_val (v : ValD) (w : World) :
    Calls Tryz.prog 73 #[.agg #[.int .i64 v.kind, .int .i64 v.n, .string v.text]] w (Told w (.agg #[.int .i64 v.kind, .int .i64 v.n, .string v.text])) := by
  go_enter Tryz.func73, Tryz.ntmps73
  go_wp2
  refine bodyPost_ret (v := .agg #[.int .i64 v.kind, .int .i64 v.n, .string v.text]) (by simp [results, Tryz.results73, go_sem]) rfl ⟨rfl, ?_⟩
  repeat (refine Below.setCell ?_ (by simp <;> omega) _)
  first | exact below_a3 _ _ _ _ | exact below_a2 _ _ _
theorem sz_val_ok (v : ValD) (a : Int) (w : World) (h0 : 0 ≤ a) (h1 : a ≤ 1048576) (hs : v.text.size ≤ maxLen) (hc : (v.text.size : Int) ≤ a) :
    Calls Tryz.prog 66 #[.agg #[.int .i64 v.kind, .int .i64 v.n, .string v.text], .int .i64 a] w (Told w (.int .i64 (a - v.text.size))) := by
  have := sz_val v a w h0 h1 hs
  unfold leftI at this; rw [if_pos hc] at this; exact this
theorem sz_val_no (v : ValD) (a : Int) (w : World) (h0 : 0 ≤ a) (h1 : a ≤ 1048576) (hs : v.text.size ≤ maxLen) (hc : a < (v.text.size : Int)) :
    Calls Tryz.prog 66 #[.agg #[.int .i64 v.kind, .int .i64 v.n, .string v.text], .int .i64 a] w (Told w (.int .i64 (-1))) := by
  have := sz_val v a w h0 h1 hs
  unfold leftI at this; rw [if_neg (by omega)] at this; exact this
-- PLAIN]
set_option maxHeartbeats 400000 in
theorem eq_val (v : ValD) (w : World) :
    Calls Tryz.prog 97 #[.agg #[.int .i64 v.kind, .int .i64 v.n, .string v.text], .agg #[.int .i64 v.kind, .int .i64 v.n, .string v.text]] w (Told w (.bool true)) := by
  go_enter Tryz.func97, Tryz.ntmps97
  go_wp2
  all_goals go_ret
  all_goals exact ⟨rfl, below_a2 _ _ _⟩
end Go.Proofs.YtflfnekaiaplfaaGreat.vl
