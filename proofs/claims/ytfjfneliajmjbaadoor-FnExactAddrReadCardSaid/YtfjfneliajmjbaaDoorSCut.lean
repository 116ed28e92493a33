/- The model's cut of a text at a byte. No condition. -/
import Derived.Test.YtfjfneliajmjbaaDoorRows
import Derived.Test.YtfjfneliajmjbaaDoorAd
import Derived.WalkKit
import Derived.Lib.Hide
import Derived.ProofKit
import Derived.WalkSpells
import Derived.Handy
import Derived.BigRegion
import Derived.Test.YtfjfneliajmjbaaDoorMem
namespace Go.Proofs.YtfjfneliajmjbaaDoor.scut
open ad
open Go.ChangeShapes Go.WideShapes Go.ChangeAt Go.RowKit
set_option linter.unusedVariables false
set_option linter.unusedSimpArgs false

/-- the first k bytes are none of b. -/
def None (s : ByteArray) (b k : Nat) : Prop := ∀ j, j < k → ∀ h : j < s.size, (s[j].toNat : Int) ≠ b
theorem none_step {s : ByteArray} {b k : Nat} (H : None s b k) (h : k < s.size) (hn : (s[k].toNat : Int) ≠ b) : None s b (k + 1) := fun j hj hs => by
  by_cases e : j = k
  · subst e; exact hn
  · exact H j (by omega) hs
/-- what is cut: at the first b, or nowhere. -/
def CutAt (s : ByteArray) (b : Nat) (x y : ByteArray) : Prop :=
  (∃ k, ∃ h : k < s.size, None s b k ∧ (s[k].toNat : Int) = b ∧ x = s.extract 0 k ∧ y = s.extract (k + 1) s.size) ∨ (None s b s.size ∧ x = s ∧ y = ByteArray.empty)

set_option maxHeartbeats 1000000 in
theorem spec_any (s : ByteArray) (b : Nat) (w : World) (hb : b < 256) (hs : s.size ≤ maxLen) :
    Calls Tryd.prog 10 #[.string s, .int .u8 b] w fun e w' => ∃ x y, CutAt s b x y ∧ e = .returned (.tuple #[.string x, .string y]) ∧ ∃ n, w' = w.drewN n := by
  unfold maxLen at hs
  go_enter Tryd.func10, Tryd.ntmps10
  go_wp2
  go_loop [6] (fun i => ∃ k : Nat, k ≤ s.size ∧ i = .int .i64 k ∧ None s b k) (fun i => s.size - (intOf i).toNat)
  case atStart => exact ⟨0, Nat.zero_le _, rfl, fun j hj => absurd hj (by omega)⟩
  case round =>
    obtain ⟨k, hk, rfl, hok⟩ := hrel
    have HOK := Lib.hid hok
    clear hok
    by_cases hlt : k < s.size
    · by_cases he : (s[k].toNat : Int) = b
      · have h1 : ∀ w : World, (Instr.slice 9 (.string s) none (some (.int .i64 k)) none).run Tryd.prog w = .ok (.string (s.extract 0 k)) w := fun w => by
          have := Go.run_slice_string_h (P := Tryd.prog) (w := w) (t := 9) (s := s) Tryd.underlying9 .i64 (k : Int) (by omega) (by omega)
          simpa using this
        have h2 : ∀ w : World, (Instr.slice 9 (.string s) (some (.int .i64 ((k : Int) + 1))) none none).run Tryd.prog w = .ok (.string (s.extract (k + 1) s.size)) w := fun w => by
          have := Go.run_slice_string_l (P := Tryd.prog) (w := w) (t := 9) (s := s) Tryd.underlying9 .i64 ((k : Int) + 1) (by omega) (by omega)
          have e : ((k : Int) + 1).toNat = k + 1 := by omega
          rw [this, e]
        have hwr : IntKind.i64.wrap ((k : Int) + 1) = (k : Int) + 1 := IntWalk.i64_in _ (by omega)
        go_wp2
        go_region
        clear h1 h2 hwr
        go_wp2
        go_ret2
        exact ⟨_, _, .inl ⟨k, hlt, HOK.out, he, rfl, rfl⟩, rfl, 1, rfl⟩
      · go_wp2
        go_round
        case rel => exact ⟨k + 1, by omega, by go_num, none_step HOK.out hlt he⟩
        case measure => simp [intOf]; omega
    · obtain rfl : k = s.size := by omega
      go_wp2
      go_ret2
      exact ⟨_, _, .inr ⟨HOK.out, rfl, rfl⟩, rfl, 0, rfl⟩
end Go.Proofs.YtfjfneliajmjbaaDoor.scut
