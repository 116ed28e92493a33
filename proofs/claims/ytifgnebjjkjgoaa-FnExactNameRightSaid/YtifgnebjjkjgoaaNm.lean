/- The two forms of NameRight (the program's and the model's) tell the same of every text. No condition. -/
import Derived.Test.YtifgnebjjkjgoaaRows
import Derived.WalkKit
import Derived.Lib.Hide
import Derived.ProofKit
namespace Go.Proofs.Ytifgnebjjkjgoaa.nm
open Go.ChangeShapes Go.WideShapes Go.ChangeAt Go.RowKit
set_option linter.unusedVariables false
set_option linter.unusedSimpArgs false

theorem ret_bool {a b : Bool} (h : a = b) : Ending.returned (.bool a) = .returned (.bool b) := by rw [h]

def nameB (c : Int) (first : Bool) : Bool :=
  (decide (97 ≤ c) && decide (c ≤ 122)) || (!first && ((decide (48 ≤ c) && decide (c ≤ 57)) || decide (c = 95)))

/-- what the program's and the model's loops ask of each place. -/
def okAt (s : ByteArray) (k : Nat) : Prop := ∀ h : k < s.size, nameB (s[k].toNat : Int) ((k : Int) == 0) = true

def nameRight (s : ByteArray) : Prop := 1 ≤ s.size ∧ s.size ≤ 20 ∧ ∀ k, okAt s k

noncomputable def nrB (s : ByteArray) : Bool := @decide (nameRight s) (Classical.propDecidable _)

theorem nrB_no {s : ByteArray} (h : ¬ nameRight s) : nrB s = false := by simp [nrB, h]
theorem nrB_yes {s : ByteArray} (h : nameRight s) : nrB s = true := by simp [nrB, h]
theorem nrB_size {s : ByteArray} (h : s.size < 1 ∨ 20 < s.size) : nrB s = false := nrB_no (fun hn => by have := hn.1; have := hn.2.1; omega)
theorem nrB_at {s : ByteArray} {k : Nat} (hk : k < s.size) (h : nameB (s[k].toNat : Int) ((k : Int) == 0) = false) : nrB s = false :=
  nrB_no (fun hn => by have := hn.2.2 k hk; simp [h] at this)

set_option maxHeartbeats 400000 in
theorem byte_any (c : Int) (first : Bool) (w : World) :
    Calls Try.prog 40 #[.int .u8 c, .bool first] w fun e w' => e = .returned (.bool (nameB c first)) ∧ w = w' := by
  unfold nameB
  by_cases h1 : 97 ≤ c <;> by_cases h2 : c ≤ 122 <;> by_cases h3 : 48 ≤ c <;> by_cases h4 : c ≤ 57 <;> by_cases h5 : c = 95 <;> cases first <;> (try (exfalso; omega))
  all_goals
    go_enter Try.func40, Try.ntmps40
    go_wp2
    go_ret
    exact ⟨ret_bool (by apply Bool.eq_iff_iff.2; first | (simp; done) | (simp; omega)), rfl⟩

set_option maxHeartbeats 400000 in
theorem impl_any (s : ByteArray) (w : World) (hs : s.size ≤ maxLen) :
    Calls Try.prog 25 #[.string s] w fun e w' => e = .returned (.bool (nrB s)) ∧ w = w' := by
  unfold maxLen at hs
  by_cases hz : s.size < 1 ∨ 20 < s.size
  · have HB := Lib.hid (nrB_size hz)
    have hz' : (s.size : Int) < 1 ∨ 1 ≤ (s.size : Int) ∧ 20 < (s.size : Int) := by omega
    clear hz
    rcases hz' with hz | ⟨hz, hz'⟩
    all_goals
      go_enter Try.func25, Try.ntmps25
      go_wp2
      go_ret
      exact ⟨ret_bool HB.out.symm, rfl⟩
  · have hz1 : 1 ≤ (s.size : Int) := by omega
    have hz2 : (s.size : Int) ≤ 20 := by omega
    clear hz
    go_enter Try.func25, Try.ntmps25
    go_wp2
    go_loop [3] (fun i => ∃ k : Nat, k ≤ s.size ∧ i = .int .i64 k ∧ ∀ j, j < k → okAt s j) (fun i => s.size - (intOf i).toNat)
    case atStart => exact ⟨0, Nat.zero_le _, rfl, fun j hj => absurd hj (by omega)⟩
    case round =>
      obtain ⟨k, hk, rfl, hok⟩ := hrel
      have HOK := Lib.hid hok
      clear hok
      by_cases hlt : k < s.size
      · go_wp2_with (go_at_call 40; refine (byte_any _ _ _).mono ?_; rintro e w' ⟨rfl, rfl⟩)
        · have hb : (!nameB (s[k].toNat : Int) ((k : Int) == 0)) = true := by assumption
          go_ret
          exact ⟨ret_bool (nrB_at hlt (by simpa using hb)).symm, rfl⟩
        · have hb : (!nameB (s[k].toNat : Int) ((k : Int) == 0)) = false := by assumption
          go_round
          case rel => exact ⟨k + 1, by omega, by go_num, fun j hj => by
            by_cases e : j = k
            · subst e; intro h; simpa using hb
            · exact HOK.out j (by omega)⟩
          case measure => simp [intOf]; omega
      · go_wp2
        go_ret
        exact ⟨ret_bool (nrB_yes ⟨by omega, by omega, fun j h => HOK.out j (by omega) h⟩).symm, rfl⟩

theorem byte_ways (c : Int) : (c < 48 ∧ (c != 95) = true) ∨ (48 ≤ c ∧ c ≤ 57) ∨ ((58 ≤ c ∧ c ≤ 96) ∧ (c != 95) = true) ∨ ((58 ≤ c ∧ c ≤ 96) ∧ (c != 95) = false) ∨ (97 ≤ c ∧ c ≤ 122) ∨ (123 ≤ c ∧ (c != 95) = true) := by
  simp only [bne_iff_ne, bne_eq_false_iff_eq, ne_eq]; omega
theorem place_ways (k : Nat) : (((k : Int) == 0) = true) ∨ (((k : Int) == 0) = false) := by cases ((k : Int) == 0) <;> simp
theorem no_of (c : Int) (z : Bool) (h : (c < 48 ∧ (c != 95) = true) ∨ ((58 ≤ c ∧ c ≤ 96) ∧ (c != 95) = true) ∨ (123 ≤ c ∧ (c != 95) = true) ∨ (z = true ∧ (c < 97 ∨ 122 < c))) : nameB c z = false := by
  simp only [bne_iff_ne, ne_eq] at h
  cases z <;> simp [nameB] at h ⊢ <;> omega
theorem yes_of (c : Int) (z : Bool) (h : (97 ≤ c ∧ c ≤ 122) ∨ z = false ∧ (48 ≤ c ∧ c ≤ 57 ∨ (c != 95) = false)) : nameB c z = true := by
  simp only [bne_eq_false_iff_eq] at h
  cases z <;> simp [nameB] at h ⊢ <;> omega

set_option maxHeartbeats 400000 in
theorem spec_any (s : ByteArray) (w : World) (hs : s.size ≤ maxLen) :
    Calls Try.prog 24 #[.string s] w fun e w' => e = .returned (.bool (nrB s)) ∧ w = w' := by
  unfold maxLen at hs
  by_cases hz : s.size < 1 ∨ 20 < s.size
  · have HB := Lib.hid (nrB_size hz)
    have hz' : (s.size : Int) < 1 ∨ 1 ≤ (s.size : Int) ∧ 20 < (s.size : Int) := by omega
    clear hz
    rcases hz' with hz | ⟨hz, hz'⟩
    all_goals
      go_enter Try.func24, Try.ntmps24
      go_wp2
      go_ret
      exact ⟨ret_bool HB.out.symm, rfl⟩
  · have hz1 : 1 ≤ (s.size : Int) := by omega
    have hz2 : (s.size : Int) ≤ 20 := by omega
    clear hz
    go_enter Try.func24, Try.ntmps24
    go_wp2
    go_loop [3] (fun i => ∃ k : Nat, k ≤ s.size ∧ i = .int .i64 k ∧ ∀ j, j < k → okAt s j) (fun i => s.size - (intOf i).toNat)
    case atStart => exact ⟨0, Nat.zero_le _, rfl, fun j hj => absurd hj (by omega)⟩
    case round =>
      obtain ⟨k, hk, rfl, hok⟩ := hrel
      have HOK := Lib.hid hok
      clear hok
      by_cases hlt : k < s.size
      · rcases byte_ways (s[k].toNat : Int) with ⟨h, h'⟩ | ⟨h, h'⟩ | ⟨⟨h, h'⟩, h''⟩ | ⟨⟨h, h'⟩, h''⟩ | ⟨h, h'⟩ | ⟨h, h'⟩ <;> rcases place_ways k with hz | hz
        all_goals go_wp2
        all_goals
          first
          | (exfalso; rename_i hh; simp at hh; omega)
          | (go_ret
             exact ⟨ret_bool (nrB_at hlt (no_of _ _ (by first | exact .inl ⟨h, h'⟩ | exact .inr (.inl ⟨⟨h, h'⟩, h''⟩) | exact .inr (.inr (.inl ⟨h, h'⟩)) | exact .inr (.inr (.inr ⟨hz, by omega⟩))))).symm, rfl⟩)
          | (go_round
             case rel => exact ⟨k + 1, by omega, by go_num, fun j hj => by
               by_cases e : j = k
               · subst e; intro _; exact yes_of _ _ (by first | exact .inl ⟨h, h'⟩ | exact .inr ⟨hz, .inl ⟨h, h'⟩⟩ | exact .inr ⟨hz, .inr h''⟩)
               · exact HOK.out j (by omega)⟩
             case measure => simp [intOf]; omega)
      · go_wp2
        go_ret
        exact ⟨ret_bool (nrB_yes ⟨by omega, by omega, fun j h => HOK.out j (by omega) h⟩).symm, rfl⟩
end Go.Proofs.Ytifgnebjjkjgoaa.nm
