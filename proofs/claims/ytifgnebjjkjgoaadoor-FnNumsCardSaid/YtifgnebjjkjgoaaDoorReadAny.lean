/- readNum at any text and place; codeOf of what it tells. Condition of codeOf: the library's variable errorType holds its handle. -/
import Derived.Test.YtifgnebjjkjgoaaDoorRows
import Derived.Test.YtifgnebjjkjgoaaDoorRead
import Derived.WalkKit
import Derived.Lib.Hide
import Derived.ProofKit
import Derived.BigQuiet
import Derived.Handy
import Derived.WalkSmall
import Derived.Deep.QuietTactic
namespace Go.Proofs.YtifgnebjjkjgoaaDoor.rd
open Go.ChangeShapes Go.WideShapes Go.ChangeAt Go.RowKit Go.Proofs.YtifgnebjjkjgoaaDoor.scp
set_option linter.unusedVariables false
set_option linter.unusedSimpArgs false

set_option maxHeartbeats 4000000 in
set_option maxRecDepth 100000 in
theorem read_wrong (s : ByteArray) (i : Int) (w : World) (h : 8000 < (s.size : Int) ∨ ((s.size : Int) ≤ 8000 ∧ i < 0)) :
    Calls Tryd.prog 22 #[.string s, .int .i64 i] w fun e w' => e = .returned (.tuple #[.int .i64 0, .int .i64 0, errV (res s i)]) ∧ Below w.heap.size w w' := by
  have hpass : ∀ (R : Except Int (Nat × Nat)) (l n : Nat) (a : Act) (w' : World) (Q : Exit → Act → World → Prop), True := fun _ _ _ _ _ _ => trivial
  clear hpass
  obtain ⟨c, hc⟩ : ∃ c, res s i = .error c := by
    rcases h with h | ⟨h, hi⟩
    · exact ⟨_, res_size (by omega)⟩
    · exact ⟨_, res_form (by omega) hi⟩
  have hc2 : (8000 < (s.size : Int) ∧ c = 2) ∨ ((s.size : Int) ≤ 8000 ∧ i < 0 ∧ c = 1) := by
    rcases h with h | ⟨h, hi⟩
    · rw [res_size (by omega)] at hc; cases hc; exact Or.inl ⟨h, rfl⟩
    · rw [res_form (by omega) hi] at hc; cases hc; exact Or.inr ⟨h, hi, rfl⟩
  have HC := Lib.hid hc
  clear hc h
  rcases hc2 with ⟨h, rfl⟩ | ⟨h, hi, rfl⟩
  all_goals
    go_enter Tryd.func22, Tryd.ntmps22
    go_wp2
    refine wp_scope_many (fun l n a w' => l = 0 ∧ J0 s w (res s i) n a w') ?_ ?_
    · rintro l n a w' ⟨rfl, code, j1, j7, j8, j9, j11, j12, j13, j14, j15, j16, j17, j18, j19, j20, j21, j22, j23, j24, j25, j26, j27, j28, j29, j30, j31, j32, j33, j34, j35, j36, j37, j38, j39, j40, j41, j42, j43, j44, j45, j46, j47, j48, j49, j50, j51, j52, j53, j54, j55, j56, j57, j58, j59, j60, j61, rfl, rfl, hd, rfl⟩
      refine ⟨_, rfl, ?_⟩
      have HD := Lib.hid hd
      clear hd
      go_wp2
      go_quiet (fail)
      go_wp2
      rw [jumpM_ret]
      go_ret3
      refine ⟨?_, ?_⟩
      · rw [HD.out]; rfl
      · exact below_drewN ((Below.refl _ _).alloc (Nat.le_refl _) _) _
    · intro H
      refine ⟨12, ?_⟩
      go_wp2
      go_step3
      exact ⟨0, by omega, rfl, _, _, _, _, _, _, _, _, _, _, _, _, _, _, _, _, _, _, _, _, _, _, _, _, _, _, _, _, _, _, _, _, _, _, _, _, _, _, _, _, _, _, _, _, _, _, _, _, _, _, _, _, _, _, _, _, rfl, rfl, HC.out, rfl⟩

theorem read_any (s : ByteArray) (i : Int) (w : World) (hi2 : i ≤ 9223372036854775807) :
    Calls Tryd.prog 22 #[.string s, .int .i64 i] w fun e w' => e = .returned (.tuple #[.int .i64 (numV (res s i)), .int .i64 (atV i (res s i)), errV (res s i)]) ∧ Below w.heap.size w w' := by
  by_cases h : 8000 < (s.size : Int) ∨ i < 0
  · have h' : 8000 < (s.size : Int) ∨ ((s.size : Int) ≤ 8000 ∧ i < 0) := by omega
    obtain ⟨c, hc⟩ : ∃ c, res s i = .error c := by
      rcases h' with h | ⟨h, hi⟩
      · exact ⟨_, res_size (by omega)⟩
      · exact ⟨_, res_form (by omega) hi⟩
    have := read_wrong s i w h'
    rw [hc] at this ⊢
    exact this
  · have h1 : (s.size : Int) ≤ 8000 := by omega
    have h2 : 0 ≤ i := by omega
    rw [res_dec (by omega) h2]
    exact read_dec s i w h1 h2 hi2 _ rfl

set_option maxHeartbeats 1000000 in
theorem code_nil (w : World) :
    Calls Tryd.prog 23 #[.nilIface] w fun e w' => e = .returned (.int .i64 0) ∧ Below w.heap.size w w' := by
  go_enter Tryd.func23, Tryd.ntmps23
  go_wp2_with fail
  refine (as.as_nil _ _).mono ?_
  rintro e w' ⟨rfl, rfl⟩
  go_wp2
  go_ret
  exact ⟨rfl, by go_grown⟩
set_option maxHeartbeats 1000000 in
theorem code_hit (c : Int) (w : World) (hL : as.Laid w) :
    Calls Tryd.prog 23 #[.iface 56 (.agg #[.int .i64 c])] w fun e w' => e = .returned (.int .i64 c) ∧ Below w.heap.size w w' := by
  go_enter Tryd.func23, Tryd.ntmps23
  go_wp2_with fail
  refine (as.as_hit c w hL).mono ?_
  rintro e w' ⟨rfl, x, y, z, u, rfl⟩
  have hc0 : (((((w.alloc (.cells #[.int .i64 c] 56)).alloc x).alloc y).alloc z).alloc u).cell? ⟨w.heap.size, 0, none⟩ = some (.int .i64 c) := by
    rw [World.cell?_alloc_past _ _ _ (by simp; omega), World.cell?_alloc_past _ _ _ (by simp; omega), World.cell?_alloc_past _ _ _ (by simp; omega), World.cell?_alloc_past _ _ _ (by simp), World.cell?_alloc_at _ _ _ _ rfl]; rfl
  go_wp2
  go_ret
  exact ⟨rfl, by go_grown⟩
theorem code_any (R : Except Int (Nat × Nat)) (w : World) (hL : as.Laid w) :
    Calls Tryd.prog 23 #[errV R] w fun e w' => e = .returned (.int .i64 (codeV R)) ∧ Below w.heap.size w w' := by
  cases R with
  | error c => exact code_hit c w hL
  | ok p => exact code_nil w
end Go.Proofs.YtifgnebjjkjgoaaDoor.rd
