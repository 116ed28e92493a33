/- GetNum, the model's, at any text and place. No condition. -/
import Derived.Test.YtifgnebjjkjgoaaDoorRows
import Derived.Test.YtifgnebjjkjgoaaDoorDec
import Derived.WalkKit
import Derived.Lib.Hide
import Derived.ProofKit
import Derived.Handy
import Derived.WalkSmall
namespace Go.Proofs.YtifgnebjjkjgoaaDoor.rd
open Go.ChangeShapes Go.WideShapes Go.ChangeAt Go.RowKit
set_option linter.unusedVariables false
set_option linter.unusedSimpArgs false
def numOutS (n at' code : Int) : Value := .agg #[.int .i64 n, .int .i64 at', .int .i64 code]

/-- what both loops add: seven bits more. -/
theorem add_val {u b k : Nat} (hu : u < 2 ^ (7 * k)) (hb : b < 256) (hk : k ≤ 9) (h9 : k = 9 → b ≤ 1) :
    IntKind.u64.wrap ((u : Int) + IntKind.u64.wrap ((b : Int) % 128 * 2 ^ (7 * k))) = ((u + b % 128 * 2 ^ (7 * k) : Nat) : Int) ∧ u + b % 128 * 2 ^ (7 * k) ≤ 18446744073709551615 := by
  have e2 : (b : Int) % 128 * 2 ^ (7 * k) = ((b % 128 * 2 ^ (7 * k) : Nat) : Int) := by rw [Int.natCast_mul, Int.natCast_pow]; rfl
  have hc : b % 128 * 2 ^ (7 * k) ≤ 9223372036854775808 ∧ u < 9223372036854775808 := by
    rcases Nat.lt_or_ge k 9 with h | h
    · have hp : 2 ^ (7 * k) ≤ 2 ^ 56 := Nat.pow_le_pow_right (by omega) (by omega)
      have h56 : 2 ^ 56 = 72057594037927936 := by decide
      have hm : b % 128 * 2 ^ (7 * k) ≤ 127 * 2 ^ (7 * k) := Nat.mul_le_mul_right _ (by omega)
      omega
    · obtain rfl : k = 9 := by omega
      have hm : b % 128 * 2 ^ (7 * 9) ≤ 1 * 2 ^ (7 * 9) := Nat.mul_le_mul_right _ (by have := h9 rfl; omega)
      have h63 : 2 ^ (7 * 9) = 9223372036854775808 := by decide
      omega
  rw [e2]
  generalize b % 128 * 2 ^ (7 * k) = m at *
  rw [IntWalk.u64_in (m : Int) (by omega), IntWalk.u64_in _ (by omega)]
  exact ⟨by omega, by omega⟩

theorem num_odd {U : Nat} (h : ((U : Int) % 2 == 1) = true) : numOf U = -((U : Int) / 2) - 1 := by
  have h2 : (U : Int) % 2 = 1 := by simpa using h
  unfold numOf; rw [if_pos (by omega)]; omega
theorem num_even {U : Nat} (h : ((U : Int) % 2 == 1) = false) : numOf U = (U : Int) / 2 := by
  have h2 : ¬ (U : Int) % 2 = 1 := by simpa using h
  unfold numOf; rw [if_neg (by omega)]; omega
theorem end_val (U k : Nat) (i : Int) : numOutS (numOf U) (i + (k : Int) + 1) 0 = numOutS (numV (.ok (U, k + 1))) (atV i (.ok (U, k + 1))) (codeV (.ok (U, k + 1))) := by
  simp only [numV, atV, codeV]; unfold numOutS
  rw [show i + ((k + 1 : Nat) : Int) = i + (k : Int) + 1 from by omega]

set_option maxHeartbeats 4000000 in
set_option maxRecDepth 100000 in
theorem get_spec (s : ByteArray) (i : Int) (w : World) (hs0 : (s.size : Int) ≤ 1048576) (hi1 : -9223372036854775808 ≤ i) (hi2 : i ≤ 9223372036854775807) :
    Calls Tryd.prog 14 #[.string s, .int .i64 i] w fun e w' => e = .returned (numOutS (numV (res s i)) (atV i (res s i)) (codeV (res s i))) ∧ Below w.heap.size w w' := by
  by_cases h : (8000 : Int) < s.size
  · have HV := Lib.hid (res_size (s := s) (i := i) (by omega))
    go_enter Tryd.func14, Tryd.ntmps14
    go_wp2
    exact bodyPost_ret (v := numOutS 0 0 2) (by simp [results, Tryd.results14, go_sem]; rfl) rfl ⟨by rw [HV.out]; rfl, by go_grown⟩
  have h' : (s.size : Int) ≤ 8000 := by omega
  clear h
  by_cases hi : i < 0
  · have HV := Lib.hid (res_form (s := s) (i := i) (by omega) hi)
    go_enter Tryd.func14, Tryd.ntmps14
    go_wp2
    exact bodyPost_ret (v := numOutS 0 0 1) (by simp [results, Tryd.results14, go_sem]; rfl) rfl ⟨by rw [HV.out]; rfl, by go_grown⟩
  have hi' : 0 ≤ i := by omega
  clear hi
  have hR := res_dec (s := s) (i := i) (by omega) hi'
  generalize res s i = R at *
  have HR := Lib.hid hR
  clear hR
  go_enter Tryd.func14, Tryd.ntmps14
  go_wp2
  go_loop [5, 6] (fun u j => ∃ (k U : Nat), k ≤ 9 ∧ j = .int .i64 k ∧ u = .int .u64 U ∧ U < 2 ^ (7 * k) ∧ dec k U (s.data.toList.drop (i.toNat + k)) = R) (fun _ j => 10 - (intOf j).toNat)
  case atStart => exact ⟨0, 0, by omega, rfl, rfl, by simp, HR.out.symm⟩
  case round =>
    obtain ⟨k, u, hk, rfl, rfl, hu, hd⟩ := hrel
    have HD := Lib.hid hd
    have HU := Lib.hid hu
    clear hd hu
    by_cases hlt : (s.size : Int) - (k : Int) ≤ i
    · have hV : R = .error 4 := by rw [← HD.out]; exact dec_short (by omega)
      have HV := Lib.hid hV
      clear hV
      go_wp2
      exact bodyPost_ret (v := numOutS 0 0 4) (by simp [results, Tryd.results14, go_sem]; rfl) rfl ⟨by rw [HV.out]; rfl, by go_grown⟩
    · have hlt' : i < (s.size : Int) - (k : Int) := by omega
      clear hlt
      have hp : i.toNat + k < s.size := by omega
      have e : (i + (k : Int)).toNat = i.toNat + k := by omega
      have hix : i + (k : Int) < (s.size : Int) := by omega
      have d10 : k = 9 → 1 < s[i.toNat + k].toNat → R = .error 3 := fun h9 h1 => by rw [← HD.out]; exact dec_ten hp h9 h1
      have dl : ¬ (k = 9 ∧ 1 < s[i.toNat + k].toNat) → s[i.toNat + k].toNat < 128 → R = (if s[i.toNat + k].toNat = 0 ∧ 0 < k then .error 3 else .ok (u + s[i.toNat + k].toNat * 2 ^ (7 * k), k + 1)) := fun h9 h1 => by
        by_cases h0 : s[i.toNat + k].toNat = 0 ∧ 0 < k
        · rw [if_pos h0, ← HD.out]; exact dec_nought hp h0.2 h0.1
        · rw [if_neg h0, ← HD.out]; exact dec_last hp h9 h1 h0
      have dm : ¬ (k = 9 ∧ 1 < s[i.toNat + k].toNat) → 128 ≤ s[i.toNat + k].toNat → dec (k + 1) (u + (s[i.toNat + k].toNat - 128) * 2 ^ (7 * k)) (s.data.toList.drop (i.toNat + (k + 1))) = R := fun h9 h1 => by
        rw [← HD.out, dec_more hp h9 h1]; rfl
      have hbl : s[i.toNat + k].toNat < 256 := (s[i.toNat + k]).toNat_lt
      obtain ⟨b, hb⟩ : ∃ b, s[i.toNat + k] = b := ⟨_, rfl⟩
      rw [hb] at d10 dl dm hbl
      have D10 := Lib.hid d10
      have DL := Lib.hid dl
      have DM := Lib.hid dm
      clear d10 dl dm
      have hwr : IntKind.u64.wrap (b.toNat : Int) = (b.toNat : Int) := IntWalk.u64_in _ (by omega)
      by_cases hA : k = 9 ∧ 1 < b.toNat
      · have HV := Lib.hid (D10.out hA.1 hA.2)
        have g1 : ((k : Int) == 9) = true := by simp [hA.1]
        have g2 : 1 < (b.toNat : Int) := by omega
        clear hA
        go_wp2
        exact bodyPost_ret (v := numOutS 0 0 3) (by simp [results, Tryd.results14, go_sem]; rfl) rfl ⟨by rw [HV.out]; rfl, by go_grown⟩
      have hA2 : ((k : Int) == 9) = false ∨ ((k : Int) == 9) = true ∧ ¬ 1 < (b.toNat : Int) := by
        by_cases h9 : k = 9
        · exact Or.inr ⟨by simp [h9], by omega⟩
        · exact Or.inl (by simp; omega)
      have hA3 : k = 9 → b.toNat ≤ 1 := by omega
      have HA3 := Lib.hid hA3
      clear hA3
      by_cases h128 : b.toNat < 128
      · have hd := DL.out hA h128
        clear hA
        have h128' : (b.toNat : Int) < 128 := by omega
        by_cases h0 : b.toNat = 0 ∧ 0 < k
        · rw [if_pos h0] at hd
          have HV := Lib.hid hd
          have g3 : ((b.toNat : Int) == 0) = true := by simp [h0.1]
          have g4 : (0 : Int) < (k : Int) := by omega
          clear hd h0
          rcases hA2 with g1 | ⟨g1, g2⟩
          all_goals
            go_wp2
            exact bodyPost_ret (v := numOutS 0 0 3) (by simp [results, Tryd.results14, go_sem]; rfl) rfl ⟨by rw [HV.out]; rfl, by go_grown⟩
        · rw [if_neg h0] at hd
          have HV := Lib.hid hd
          have hB : ((b.toNat : Int) == 0) = false ∨ ((b.toNat : Int) == 0) = true ∧ ¬ (0 : Int) < (k : Int) := by
            by_cases hz : b.toNat = 0
            · exact Or.inr ⟨by simp [hz], by omega⟩
            · exact Or.inl (by simp; omega)
          obtain ⟨hv, hle⟩ := add_val HU.out hbl hk HA3.out
          have hm : b.toNat % 128 = b.toNat := Nat.mod_eq_of_lt h128
          rw [hm] at hv hle
          clear hm
          obtain ⟨U, hU⟩ : ∃ U, u + b.toNat * 2 ^ (7 * k) = U := ⟨_, rfl⟩
          rw [hU] at hv hle
          have HU2 := Lib.hid hU
          clear hd h0 hU
          rcases hA2 with g1 | ⟨g1, g2⟩ <;> rcases hB with g3 | ⟨g3, g4⟩
          all_goals go_wp2
          all_goals
            first
            | (have hpar : ((U : Int) % 2 == 1) = true := by assumption
               have hv : numOf U = -((U : Int) / 2) - 1 := num_odd hpar
               refine bodyPost_ret (v := numOutS (numOf U) (i + (k : Int) + 1) 0) ?_ rfl ⟨?_, by go_grown⟩
               · rw [hv]
                 simp [results, Tryd.results14, go_sem]
                 rfl
               · rw [HV.out, HU2.out]; exact congrArg Ending.returned (end_val _ _ _))
            | (have hpar : ((U : Int) % 2 == 1) = false := by assumption
               have hv : numOf U = (U : Int) / 2 := num_even hpar
               refine bodyPost_ret (v := numOutS (numOf U) (i + (k : Int) + 1) 0) ?_ rfl ⟨?_, by go_grown⟩
               · rw [hv]
                 simp [results, Tryd.results14, go_sem]
                 rfl
               · rw [HV.out, HU2.out]; exact congrArg Ending.returned (end_val _ _ _))
      · have HN := Lib.hid (DM.out hA (by omega))
        have h128' : 128 ≤ (b.toNat : Int) := by omega
        clear hA
        obtain ⟨hv, hle⟩ := add_val HU.out hbl hk HA3.out
        have hm : b.toNat % 128 = b.toNat - 128 := by omega
        rw [hm] at hv hle
        clear hm
        have hnx := next_lt (b := b.toNat - 128) HU.out (by omega)
        obtain ⟨U, hU⟩ : ∃ U, u + (b.toNat - 128) * 2 ^ (7 * k) = U := ⟨_, rfl⟩
        rw [hU] at hv hle hnx
        have HN2 : Hid (dec (k + 1) U (s.data.toList.drop (i.toNat + (k + 1))) = R) := by rw [← hU]; exact HN
        have HX := Lib.hid hnx
        clear hU hnx HN
        rcases hA2 with g1 | ⟨g1, g2⟩
        · have hk9 : ¬ k = 9 := by intro h9; simp [h9] at g1
          go_wp2
          go_round
          case rel => exact ⟨k + 1, U, by omega, by go_num, rfl, HX.out, HN2.out⟩
          case measure => simp [intOf]; omega
        · exfalso; omega
end Go.Proofs.YtifgnebjjkjgoaaDoor.rd
