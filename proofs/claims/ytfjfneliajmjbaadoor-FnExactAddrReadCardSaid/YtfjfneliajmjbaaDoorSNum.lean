/- The model's reading of a number of at most nine digits. -/
import Derived.Test.YtfjfneliajmjbaaDoorMem
import Derived.WalkKit
import Derived.Lib.Hide
import Derived.ProofKit
import Derived.WalkSpells
import Derived.Handy
import Derived.BigRegion
namespace Go.Proofs.YtfjfneliajmjbaaDoor.snum
open ad mem
open Go.ChangeShapes Go.WideShapes Go.ChangeAt Go.RowKit
set_option linter.unusedVariables false
set_option maxRecDepth 8000
set_option linter.unusedSimpArgs false

/-- the value of the first k bytes. -/
def valTo (s : ByteArray) (k : Nat) : Nat := (s.data.toList.take k).foldl (fun a c => 10 * a + (c.toNat - 48)) 0
theorem valTo_succ (s : ByteArray) (k : Nat) (h : k < s.size) : valTo s (k + 1) = 10 * valTo s k + (s[k].toNat - 48) := by
  unfold valTo
  have h' : k < s.data.toList.length := h
  rw [List.take_succ_eq_append_getElem h', List.foldl_append]
  rfl
def digTo (s : ByteArray) (k : Nat) : Prop := ∀ j, j < k → ∀ h : j < s.size, 48 ≤ s[j].toNat ∧ s[j].toNat ≤ 57
theorem dig_step {s : ByteArray} {k : Nat} (H : digTo s k) (h : k < s.size) (h1 : 48 ≤ s[k].toNat) (h2 : s[k].toNat ≤ 57) : digTo s (k + 1) := fun j hj hs => by
  by_cases e : j = k
  · subst e; exact ⟨h1, h2⟩
  · exact H j (by omega) hs
theorem valTo_le {s : ByteArray} : ∀ {k : Nat}, k ≤ s.size → digTo s k → valTo s k < 10 ^ k
  | 0, _, _ => by simp [valTo]
  | k + 1, h, H => by
    have := valTo_le (s := s) (k := k) (by omega) (fun j hj hs => H j (by omega) hs)
    have hd := H k (by omega) (by omega)
    rw [valTo_succ s k (by omega), Nat.pow_succ]
    omega
open Classical in
/-- what is told of a text. -/
noncomputable def numZ (s : ByteArray) : Int := if 1 ≤ s.size ∧ s.size ≤ 9 ∧ (∀ h : 1 < s.size, s[0].toNat ≠ 48) ∧ digTo s s.size then valTo s s.size else -1
theorem numZ_no {s : ByteArray} (h : s.size < 1 ∨ 9 < s.size ∨ (∃ h : 1 < s.size, s[0].toNat = 48) ∨ ∃ k, ∃ h : k < s.size, s[k].toNat < 48 ∨ 57 < s[k].toNat) : numZ s = -1 := by
  unfold numZ
  rw [if_neg]
  rintro ⟨a, b, c, d⟩
  rcases h with h | h | ⟨h, e⟩ | ⟨k, h, e⟩
  · omega
  · omega
  · exact c h e
  · have := d k h h; omega
theorem numZ_yes {s : ByteArray} (h1 : 1 ≤ s.size) (h2 : s.size ≤ 9) (h3 : ∀ h : 1 < s.size, s[0].toNat ≠ 48) (h4 : digTo s s.size) : numZ s = valTo s s.size := by
  unfold numZ
  rw [if_pos ⟨h1, h2, h3, h4⟩]
theorem ret_z {a b : Int} (h : a = b) : Ending.returned (.int .i64 a) = .returned (.int .i64 b) := by rw [h]

set_option maxHeartbeats 1000000 in
theorem spec_loop (s : ByteArray) (w : World) (hs1 : 1 ≤ (s.size : Int)) (hs9 : (s.size : Int) ≤ 9) (h0 : ∀ h : 1 < s.size, s[0].toNat ≠ 48) :
    Calls Tryd.prog 11 #[.string s] w fun e w' => e = .returned (.int .i64 (numZ s)) ∧ ∃ n, w' = w.drewN n := by
  have H0 := Lib.hid h0
  clear h0
  have hp : 0 < s.size := by omega
  rcases (by omega : (s.size : Int) ≤ 1 ∨ 1 < (s.size : Int)) with hz | hz
  all_goals
    first
    | (have hn1 : ((s[0].toNat : Int) == 48) = false := by have := H0.out (by omega); simp; omega)
    | skip
    go_enter Tryd.func11, Tryd.ntmps11
    go_wp2
    go_loop [3, 4] (fun n i => ∃ k : Nat, k ≤ s.size ∧ n = .int .i64 (valTo s k) ∧ i = .int .i64 k ∧ digTo s k) (fun _ i => s.size - (intOf i).toNat)
    case atStart => exact ⟨0, Nat.zero_le _, by simp [valTo], rfl, fun j hj => absurd hj (by omega)⟩
    case round =>
      obtain ⟨k, hk, rfl, rfl, hok⟩ := hrel
      have hv := valTo_le (s := s) (k := k) (by omega) hok
      have hpow : 10 ^ k ≤ 10 ^ 9 := Nat.pow_le_pow_right (by omega) (by omega)
      have hv9 : (valTo s k : Int) < 1000000000 := by have : valTo s k < 10 ^ 9 := by omega
                                                      omega
      clear hv hpow
      have HOK := Lib.hid hok
      clear hok
      by_cases hlt : k < s.size
      · rcases (by omega : (s[k].toNat : Int) < 48 ∨ (48 ≤ (s[k].toNat : Int) ∧ (s[k].toNat : Int) ≤ 57) ∨ (48 ≤ (s[k].toNat : Int) ∧ 57 < (s[k].toNat : Int))) with h | ⟨h, h'⟩ | ⟨h, h'⟩
        · go_wp2
          go_ret
          exact ⟨ret_z (numZ_no (.inr (.inr (.inr ⟨k, hlt, .inl (by omega)⟩)))).symm, by first | exact ⟨_, rfl⟩ | exact ⟨0, rfl⟩⟩
        · have hx0 : (0 : Int) ≤ (valTo s k : Int) := by omega
          generalize hV : (valTo s k : Int) = V at *
          generalize hC : (s[k].toNat : Int) = C at *
          have w1 : IntKind.u8.wrap (C - 48) = C - 48 := IntWalk.u8_in _ (by omega)
          have w2 : IntKind.i64.wrap (C - 48) = C - 48 := IntWalk.i64_in _ (by omega)
          have w3 : IntKind.i64.wrap (10 * V) = 10 * V := IntWalk.i64_in _ (by omega)
          have w4 : IntKind.i64.wrap (10 * V + (C - 48)) = 10 * V + (C - 48) := IntWalk.i64_in _ (by omega)
          have HVV := Lib.hid hV
          clear hV
          go_wp2
          go_round
          case rel => exact ⟨k + 1, by omega, by (have e := HVV.out; have f := valTo_succ s k hlt; congr 1; omega), by go_num, dig_step HOK.out hlt (by omega) (by omega)⟩
          case measure => simp [intOf]; omega
        · go_wp2
          go_ret
          exact ⟨ret_z (numZ_no (.inr (.inr (.inr ⟨k, hlt, .inr (by omega)⟩)))).symm, by first | exact ⟨_, rfl⟩ | exact ⟨0, rfl⟩⟩
      · obtain rfl : k = s.size := by omega
        go_wp2
        go_ret
        exact ⟨ret_z (numZ_yes (by omega) (by omega) H0.out HOK.out).symm, by first | exact ⟨_, rfl⟩ | exact ⟨0, rfl⟩⟩
set_option maxHeartbeats 1000000 in
theorem spec_any (s : ByteArray) (w : World) (hs : s.size ≤ maxLen) :
    Calls Tryd.prog 11 #[.string s] w fun e w' => e = .returned (.int .i64 (numZ s)) ∧ ∃ n, w' = w.drewN n := by
  unfold maxLen at hs
  rcases (by omega : (s.size : Int) < 1 ∨ (1 ≤ (s.size : Int) ∧ 9 < (s.size : Int)) ∨ (1 ≤ (s.size : Int) ∧ (s.size : Int) ≤ 9)) with hz | ⟨hz, hz'⟩ | ⟨hz, hz'⟩
  · go_enter Tryd.func11, Tryd.ntmps11
    go_wp2
    go_ret
    exact ⟨ret_z (numZ_no (.inl (by omega))).symm, by first | exact ⟨_, rfl⟩ | exact ⟨0, rfl⟩⟩
  · go_enter Tryd.func11, Tryd.ntmps11
    go_wp2
    go_ret
    exact ⟨ret_z (numZ_no (.inr (.inl (by omega)))).symm, by first | exact ⟨_, rfl⟩ | exact ⟨0, rfl⟩⟩
  · have hp : 0 < s.size := by omega
    by_cases h0 : ∀ h : 1 < s.size, s[0].toNat ≠ 48
    · exact spec_loop s w hz hz' h0
    · have h1 : ∃ h : 1 < s.size, s[0].toNat = 48 := Classical.byContradiction fun c => h0 fun h e => c ⟨h, e⟩
      have HN := Lib.hid (numZ_no (.inr (.inr (.inl h1))))
      obtain ⟨hlt, he⟩ := h1
      have hn1 : ((s[0].toNat : Int) == 48) = true := by simp; omega
      have hlt' : 1 < (s.size : Int) := by omega
      clear h0 he hlt
      go_enter Tryd.func11, Tryd.ntmps11
      go_wp2
      go_ret
      exact ⟨ret_z HN.out.symm, by first | exact ⟨_, rfl⟩ | exact ⟨0, rfl⟩⟩
end Go.Proofs.YtfjfneliajmjbaaDoor.snum
