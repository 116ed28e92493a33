/- The two forms of WordRight (the program's and the model's) tell the same of every text. No condition. -/
import Derived.Test.YtgkcohclejmhkaaRows
import Derived.Test.YtgkcohclejmhkaaAd
import Derived.WalkKit
import Derived.Lib.Hide
import Derived.ProofKit
namespace Go.Proofs.Ytgkcohclejmhkaa.wd
open ad
open Go.ChangeShapes Go.WideShapes Go.ChangeAt Go.RowKit
set_option linter.unusedVariables false
set_option linter.unusedSimpArgs false

theorem ret_bool {a b : Bool} (h : a = b) : Ending.returned (.bool a) = .returned (.bool b) := by rw [h]

set_option maxHeartbeats 400000 in
theorem impl_any (s : ByteArray) (w : World) (hs : s.size ≤ maxLen) :
    Calls Try.prog 95 #[.string s] w fun e w' => e = .returned (.bool (wordB s)) ∧ w = w' := by
  unfold maxLen at hs
  by_cases hz : s.size < 1 ∨ 8 < s.size
  · have HB := Lib.hid (wordB_size hz)
    have hz' : (s.size : Int) < 1 ∨ 1 ≤ (s.size : Int) ∧ 8 < (s.size : Int) := by omega
    clear hz
    rcases hz' with hz | ⟨hz, hz'⟩
    all_goals
      go_enter Try.func95, Try.ntmps95
      go_wp2
      go_ret
      exact ⟨ret_bool HB.out.symm, rfl⟩
  · have hz1 : 1 ≤ (s.size : Int) := by omega
    have hz2 : (s.size : Int) ≤ 8 := by omega
    clear hz
    go_enter Try.func95, Try.ntmps95
    go_wp2
    go_loop [3] (fun i => ∃ k : Nat, k ≤ s.size ∧ i = .int .i64 k ∧ ∀ j, j < k → okAt s j) (fun i => s.size - (intOf i).toNat)
    case atStart => exact ⟨0, Nat.zero_le _, rfl, fun j hj => absurd hj (by omega)⟩
    case round =>
      obtain ⟨k, hk, rfl, hok⟩ := hrel
      have HOK := Lib.hid hok
      clear hok
      by_cases hlt : k < s.size
      · rcases (by omega : (s[k].toNat : Int) < 97 ∨ (97 ≤ (s[k].toNat : Int) ∧ (s[k].toNat : Int) ≤ 122) ∨ (97 ≤ (s[k].toNat : Int) ∧ 122 < (s[k].toNat : Int))) with h | ⟨h, h'⟩ | ⟨h, h'⟩
        · go_wp2
          go_ret
          exact ⟨ret_bool (wordB_at hlt (.inl h)).symm, rfl⟩
        · go_wp2
          go_round
          case rel => exact ⟨k + 1, by omega, by go_num, fun j hj => by
            by_cases e : j = k
            · subst e; intro _; exact ⟨h, h'⟩
            · exact HOK.out j (by omega)⟩
          case measure => simp [intOf]; omega
        · go_wp2
          go_ret
          exact ⟨ret_bool (wordB_at hlt (.inr h')).symm, rfl⟩
      · go_wp2
        go_ret
        exact ⟨ret_bool (wordB_yes ⟨by omega, by omega, fun j h => HOK.out j (by omega) h⟩).symm, rfl⟩

set_option maxHeartbeats 400000 in
theorem spec_any (s : ByteArray) (w : World) (hs : s.size ≤ maxLen) :
    Calls Try.prog 88 #[.string s] w fun e w' => e = .returned (.bool (wordB s)) ∧ w = w' := by
  unfold maxLen at hs
  go_enter Try.func88, Try.ntmps88
  go_wp2
  go_loop [3] (fun i => ∃ k : Nat, k ≤ s.size ∧ i = .int .i64 k ∧ ∀ j, j < k → okAt s j) (fun i => s.size - (intOf i).toNat)
  case atStart => exact ⟨0, Nat.zero_le _, rfl, fun j hj => absurd hj (by omega)⟩
  case round =>
    obtain ⟨k, hk, rfl, hok⟩ := hrel
    have HOK := Lib.hid hok
    clear hok
    by_cases hlt : k < s.size
    · rcases (by omega : (s[k].toNat : Int) < 97 ∨ (97 ≤ (s[k].toNat : Int) ∧ (s[k].toNat : Int) ≤ 122) ∨ (97 ≤ (s[k].toNat : Int) ∧ 122 < (s[k].toNat : Int))) with h | ⟨h, h'⟩ | ⟨h, h'⟩
      · go_wp2
        go_ret
        exact ⟨ret_bool (wordB_at hlt (.inl h)).symm, rfl⟩
      · go_wp2
        go_round
        case rel => exact ⟨k + 1, by omega, by go_num, fun j hj => by
          by_cases e : j = k
          · subst e; intro _; exact ⟨h, h'⟩
          · exact HOK.out j (by omega)⟩
        case measure => simp [intOf]; omega
      · go_wp2
        go_ret
        exact ⟨ret_bool (wordB_at hlt (.inr h')).symm, rfl⟩
    · have hall : ∀ j, okAt s j := fun j h => HOK.out j (by omega) h
      have HA := Lib.hid hall
      clear hall
      rcases (by omega : (s.size : Int) < 1 ∨ (1 ≤ (s.size : Int) ∧ (s.size : Int) ≤ 8) ∨ (1 ≤ (s.size : Int) ∧ 8 < (s.size : Int))) with h | ⟨h, h'⟩ | ⟨h, h'⟩
      all_goals
        go_wp2
        go_ret
      · exact ⟨ret_bool (wordB_size (.inl (by omega))).symm, rfl⟩
      · exact ⟨ret_bool (by rw [wordB_yes ⟨by omega, by omega, HA.out⟩]), rfl⟩
      · exact ⟨ret_bool (by rw [wordB_size (.inr (by omega))]; simp; omega), rfl⟩
end Go.Proofs.Ytgkcohclejmhkaa.wd
