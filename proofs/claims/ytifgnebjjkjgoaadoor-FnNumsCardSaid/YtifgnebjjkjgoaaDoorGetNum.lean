/- GetNum, the program's, at any text and place. Condition: the library's variable errorType holds its handle. -/
import Derived.Test.YtifgnebjjkjgoaaDoorRows
import Derived.Test.YtifgnebjjkjgoaaDoorReadAny
import Derived.WalkKit
import Derived.Lib.Hide
import Derived.ProofKit
import Derived.Handy
import Derived.WalkSmall
namespace Go.Proofs.YtifgnebjjkjgoaaDoor.rd
open Go.ChangeShapes Go.WideShapes Go.ChangeAt Go.RowKit
set_option linter.unusedVariables false
set_option linter.unusedSimpArgs false

def numOut (n at' code : Int) : Value := .agg #[.int .i64 n, .int .i64 at', .int .i64 code]

/-- a cell of the answer, told again in a later world. -/
theorem cells_later {w w2 : World} {t x y : Value} {T : TypeId} (hb : Below (w.alloc (.cells #[t, x, y] T)).heap.size (w.alloc (.cells #[t, x, y] T)) w2) :
    (w2.cell? ⟨w.heap.size, 0, none⟩ = some t ∧ w2.cell? ⟨w.heap.size, 1, none⟩ = some x ∧ w2.cell? ⟨w.heap.size, 2, none⟩ = some y) ∧
    (w2.frozen? ⟨w.heap.size, 0, none⟩ = false ∧ w2.frozen? ⟨w.heap.size, 1, none⟩ = false ∧ w2.frozen? ⟨w.heap.size, 2, none⟩ = false) ∧ w.heap.size < w2.heap.size := by
  have hrow : w2.heap[w.heap.size]? = some (.cells #[t, x, y] T (0, 0)) := by
    rw [hb.block _ (by simp)]; exact heap_alloc_new _ _
  refine ⟨⟨?_, ?_, ?_⟩, ⟨frozen_of_row _ _ _ _ _ hrow, frozen_of_row _ _ _ _ _ hrow, frozen_of_row _ _ _ _ _ hrow⟩, ?_⟩
  · rw [cell_of_row _ _ _ _ _ _ hrow]; rfl
  · rw [cell_of_row _ _ _ _ _ _ hrow]; rfl
  · rw [cell_of_row _ _ _ _ _ _ hrow]; rfl
  · have := hb.size; simp at this; omega

set_option maxHeartbeats 1000000 in
theorem get_impl (s : ByteArray) (i : Int) (w : World) (hi2 : i ≤ 9223372036854775807) (hL : as.Laid w) :
    Calls Tryd.prog 9 #[.string s, .int .i64 i] w fun e w' => e = .returned (numOut (numV (res s i)) (atV i (res s i)) (codeV (res s i))) ∧ Below w.heap.size w w' := by
  have hp := as.laid_pos hL
  have k := fun w => read_any s i w hi2
  generalize res s i = R at *
  have K := Lib.hid k
  clear k
  have hlw := as.laid_below hL ((Below.refl w.heap.size w).alloc (Nat.le_refl _) (.cells #[.int .i64 0, .int .i64 0, .int .i64 0] 26)) hp
  go_enter Tryd.func9, Tryd.ntmps9
  go_wp2_with fail
  refine (K.out _).mono ?_
  rintro e w2 ⟨rfl, hb⟩
  have hL2 := Lib.hid (as.laid_below hlw hb (by simp))
  go_wp2_with fail
  refine (code_any R _ hL2.out).mono ?_
  rintro e w3 ⟨rfl, hb3⟩
  have hb' := hb.trans (hb3.mono hb.size)
  clear hb3 hL2
  obtain ⟨⟨c0, c1, c2⟩, ⟨f0, f1, f2⟩, hn⟩ := cells_later hb'
  have hbw : Below w.heap.size w w3 := ((Below.refl w.heap.size w).alloc (Nat.le_refl _) _).trans (hb'.mono (by simp))
  clear hb hb'
  go_wp2
  refine bodyPost_ret (v := numOut (numV R) (atV i R) (codeV R)) ?_ rfl ⟨rfl, ?_⟩
  · simp [results, Tryd.results9, go_sem, c0, c1, c2]
    rfl
  · go_grown

set_option maxHeartbeats 1000000 in
theorem eq_num (a b c : Int) (w : World) :
    Calls Tryd.prog 15 #[numOut a b c, numOut a b c] w fun e w' => e = .returned (.bool true) ∧ Below w.heap.size w w' := by
  unfold numOut
  go_enter Tryd.func15, Tryd.ntmps15
  go_wp2
  all_goals go_ret
  all_goals exact ⟨rfl, by go_grown⟩
end Go.Proofs.YtifgnebjjkjgoaaDoor.rd
