/- The two forms of WordRight (the program's and the model's) tell the same of every text. No condition. AddrRight, of the program and of the model. -/
import Derived.Test.YtflfnekaiaplfaaGreatRows
import Derived.Test.YtflfnekaiaplfaaGreatAd
import Derived.WalkKit
import Derived.Lib.Hide
import Derived.ProofKit
import Derived.Test.YtflfnekaiaplfaaGreatMem
import Derived.BigQuiet
import Derived.BigRegion
import Derived.Deep.QuietTactic
import Derived.Outline
namespace Go.Proofs.YtflfnekaiaplfaaGreat.wd
open ad
open Go.ChangeShapes Go.WideShapes Go.ChangeAt Go.RowKit
set_option linter.unusedVariables false
set_option linter.unusedSimpArgs false

theorem ret_bool {a b : Bool} (h : a = b) : Ending.returned (.bool a) = .returned (.bool b) := by rw [h]

set_option maxHeartbeats 400000 in
theorem impl_any (s : ByteArray) (w : World) (hs : s.size ≤ maxLen) :
    Calls Tryz.prog 80 #[.string s] w fun e w' => e = .returned (.bool (wordB s)) ∧ w = w' := by
  unfold maxLen at hs
  by_cases hz : s.size < 1 ∨ 8 < s.size
  · have HB := Lib.hid (wordB_size hz)
    have hz' : (s.size : Int) < 1 ∨ 1 ≤ (s.size : Int) ∧ 8 < (s.size : Int) := by omega
    clear hz
    rcases hz' with hz | ⟨hz, hz'⟩
    all_goals
      go_enter Tryz.func80, Tryz.ntmps80
      go_wp2
      go_ret
      exact ⟨ret_bool HB.out.symm, rfl⟩
  · have hz1 : 1 ≤ (s.size : Int) := by omega
    have hz2 : (s.size : Int) ≤ 8 := by omega
    clear hz
    go_enter Tryz.func80, Tryz.ntmps80
    go_wp2
    go_loop [3] (fun i => ∃ k : Nat, k ≤ s.size ∧ i = .int .i64 k ∧ ∀ j, j < k → okAt s j) (fun i => s.size - (intOf i).toNat)
    case atStart => exact ⟨0, Nat.zero_le _, rfl, fun j hj => absurd hj (by omega)⟩
    case round =>
      obtain ⟨k, hk, rfl, hok⟩ := hrel
      have HOK := Lib.hid hok
      clear hok
      by_cases hlt : k < s.size
      · rcases (by omega : (s[k].toNat : Int) < 97 ∨ (97 ≤ (s[k].toNat : Int) ∧ (s[k].toNat : Int) ≤ 122) ∨ (97 ≤ (s[k].toNat : Int) ∧ 122 < (s[k].toNat : Int))) with h | ⟨h, h'⟩ | ⟨h, h'⟩
        · go_wp2
          go_ret
          exact ⟨ret_bool (wordB_at hlt (.inl h)).symm, rfl⟩
        · go_wp2
          go_round
          case rel => exact ⟨k + 1, by omega, by go_num, fun j hj => by
            by_cases e : j = k
            · subst e; intro _; exact ⟨h, h'⟩
            · exact HOK.out j (by omega)⟩
          case measure => simp [intOf]; omega
        · go_wp2
          go_ret
          exact ⟨ret_bool (wordB_at hlt (.inr h')).symm, rfl⟩
      · go_wp2
        go_ret
        exact ⟨ret_bool (wordB_yes ⟨by omega, by omega, fun j h => HOK.out j (by omega) h⟩).symm, rfl⟩

set_option maxHeartbeats 400000 in
theorem spec_any (s : ByteArray) (w : World) (hs : s.size ≤ maxLen) :
    Calls Tryz.prog 69 #[.string s] w fun e w' => e = .returned (.bool (wordB s)) ∧ w = w' := by
  unfold maxLen at hs
  go_enter Tryz.func69, Tryz.ntmps69
  go_wp2
  go_loop [3] (fun i => ∃ k : Nat, k ≤ s.size ∧ i = .int .i64 k ∧ ∀ j, j < k → okAt s j) (fun i => s.size - (intOf i).toNat)
  case atStart => exact ⟨0, Nat.zero_le _, rfl, fun j hj => absurd hj (by omega)⟩
  case round =>
    obtain ⟨k, hk, rfl, hok⟩ := hrel
    have HOK := Lib.hid hok
    clear hok
    by_cases hlt : k < s.size
    · rcases (by omega : (s[k].toNat : Int) < 97 ∨ (97 ≤ (s[k].toNat : Int) ∧ (s[k].toNat : Int) ≤ 122) ∨ (97 ≤ (s[k].toNat : Int) ∧ 122 < (s[k].toNat : Int))) with h | ⟨h, h'⟩ | ⟨h, h'⟩
      · go_wp2
        go_ret
        exact ⟨ret_bool (wordB_at hlt (.inl h)).symm, rfl⟩
      · go_wp2
        go_round
        case rel => exact ⟨k + 1, by omega, by go_num, fun j hj => by
          by_cases e : j = k
          · subst e; intro _; exact ⟨h, h'⟩
          · exact HOK.out j (by omega)⟩
        case measure => simp [intOf]; omega
      · go_wp2
        go_ret
        exact ⟨ret_bool (wordB_at hlt (.inr h')).symm, rfl⟩
    · have hall : ∀ j, okAt s j := fun j h => HOK.out j (by omega) h
      have HA := Lib.hid hall
      clear hall
      rcases (by omega : (s.size : Int) < 1 ∨ (1 ≤ (s.size : Int) ∧ (s.size : Int) ≤ 8) ∨ (1 ≤ (s.size : Int) ∧ 8 < (s.size : Int))) with h | ⟨h, h'⟩ | ⟨h, h'⟩
      all_goals
        go_wp2
        go_ret
      · exact ⟨ret_bool (wordB_size (.inl (by omega))).symm, rfl⟩
      · exact ⟨ret_bool (by rw [wordB_yes ⟨by omega, by omega, HA.out⟩]), rfl⟩
      · exact ⟨ret_bool (by rw [wordB_size (.inr (by omega))]; simp; omega), rfl⟩
end Go.Proofs.YtflfnekaiaplfaaGreat.wd
namespace Go.Proofs.YtflfnekaiaplfaaGreat.adr
open ad mem
open Go.ChangeShapes Go.WideShapes Go.ChangeAt Go.RowKit Go.Lib
set_option linter.unusedVariables false
set_option linter.unusedSimpArgs false

set_option maxHeartbeats 1000000 in
theorem path_impl (A : Option Addr) (c : Nat) (l : List ByteArray) (w : World) (h : Strs w A l) (hl : l.length ≤ maxLen) :
    Calls Tryz.prog 79 #[.slice A l.length c] w fun e w' => e = .returned (.bool (pathB l)) ∧ w = w' := by
  unfold maxLen at hl
  have H := Lib.hid h
  clear h
  by_cases hz : (2 : Int) < l.length
  · have HB := Lib.hid (path_long (l := l) (by omega))
    go_enter Tryz.func79, Tryz.ntmps79
    go_wp2
    go_ret
    exact ⟨ret_bool HB.out.symm, rfl⟩
  · go_enter Tryz.func79, Tryz.ntmps79
    go_wp2
    go_loop [10] (fun i => ∃ k : Nat, k ≤ l.length ∧ i = .int .i64 k ∧ ∀ j (h : j < l.length), j < k → wordB l[j] = true) (fun i => l.length - (intOf i).toNat)
    case atStart => exact ⟨0, Nat.zero_le _, rfl, fun j _ hj => absurd hj (by omega)⟩
    case round =>
      obtain ⟨k, hk, rfl, hok⟩ := hrel
      have HOK := Lib.hid hok
      clear hok
      by_cases hlt : k < l.length
      · obtain ⟨b, o, rfl, hbg, hc, hsz⟩ := H.out k hlt
        go_wp2_with (go_at_call 80; refine (wd.impl_any _ _ hsz).mono ?_; rintro e w' ⟨rfl, rfl⟩)
        · have hb : (!wordB l[k]) = true := by assumption
          go_ret
          exact ⟨ret_bool (path_at hlt (by simpa using hb)).symm, rfl⟩
        · have hb : (!wordB l[k]) = false := by assumption
          go_round
          case rel => exact ⟨k + 1, by omega, by go_num, fun j h hj => by
            by_cases e : j = k
            · subst e; simpa using hb
            · exact HOK.out j h (by omega)⟩
          case measure => simp [intOf]; omega
      · go_wp2
        go_ret
        exact ⟨ret_bool (path_yes (by omega) (fun j h => HOK.out j h (by omega))).symm, rfl⟩

set_option maxHeartbeats 1000000 in
theorem path_spec (A : Option Addr) (c : Nat) (l : List ByteArray) (w : World) (h : Strs w A l) (hl : l.length ≤ maxLen) :
    Calls Tryz.prog 68 #[.slice A l.length c] w fun e w' => e = .returned (.bool (pathB l)) ∧ w = w' := by
  unfold maxLen at hl
  have H := Lib.hid h
  clear h
  go_enter Tryz.func68, Tryz.ntmps68
  go_wp2
  go_loop [3] (fun i => ∃ k : Nat, k ≤ l.length ∧ i = .int .i64 k ∧ ∀ j (h : j < l.length), j < k → wordB l[j] = true) (fun i => l.length - (intOf i).toNat)
  case atStart => exact ⟨0, Nat.zero_le _, rfl, fun j _ hj => absurd hj (by omega)⟩
  case round =>
    obtain ⟨k, hk, rfl, hok⟩ := hrel
    have HOK := Lib.hid hok
    clear hok
    by_cases hlt : k < l.length
    · obtain ⟨b, o, rfl, hbg, hc, hsz⟩ := H.out k hlt
      go_wp2_with (go_at_call 69; refine (wd.spec_any _ _ hsz).mono ?_; rintro e w' ⟨rfl, rfl⟩)
      · have hb : (!wordB l[k]) = true := by assumption
        go_ret
        exact ⟨ret_bool (path_at hlt (by simpa using hb)).symm, rfl⟩
      · have hb : (!wordB l[k]) = false := by assumption
        go_round
        case rel => exact ⟨k + 1, by omega, by go_num, fun j h hj => by
          by_cases e : j = k
          · subst e; simpa using hb
          · exact HOK.out j h (by omega)⟩
        case measure => simp [intOf]; omega
    · rcases (by omega : (2 : Int) < l.length ∨ (l.length : Int) ≤ 2) with hz | hz
      · go_wp2
        go_ret
        exact ⟨ret_bool (by rw [path_long (l := l) (by omega)]; simp; omega), rfl⟩
      · have hall : ∀ j (h : j < l.length), wordB l[j] = true := fun j h => HOK.out j h (by omega)
        have HA := Lib.hid hall
        clear hall
        go_wp2
        go_ret
        exact ⟨ret_bool (by rw [path_yes (by omega) HA.out]; try (simp; omega)), rfl⟩

def Told (w : World) (v : Value) (e : Ending) (w' : World) : Prop := e = .returned v ∧ Below w.heap.size w w'

theorem is_spec (n lo hi : Int) (w : World) : Calls Tryz.prog 70 #[.int .i64 n, .int .i64 lo, .int .i64 hi] w fun e w' => e = .returned (.bool (decide (lo ≤ n) && decide (n ≤ hi))) ∧ w = w' := by
  by_cases h1 : lo ≤ n <;> by_cases h2 : n ≤ hi
  all_goals
    go_enter Tryz.func70, Tryz.ntmps70
    go_wp2
    go_ret
    exact ⟨ret_bool (by first | (simp; done) | (simp; omega)), rfl⟩

set_option maxHeartbeats 2000000 in
theorem right_spec (A : Option Addr) (c : Nat) (d : AddrD) (w : World) (h : Strs w A d.path) (hl : d.path.length ≤ maxLen) (ht : d.typ.size ≤ maxLen) (hn : d.nam.size ≤ maxLen) (hk : d.key.size ≤ maxLen) :
    Calls Tryz.prog 45 #[.agg #[.slice A d.path.length c, .string d.typ, .string d.nam, .int .i64 d.kind, .int .i64 d.n, .string d.key]] w (Told w (.bool (addrB d))) := by
  have H := Lib.hid h
  have HL := Lib.hid hl
  clear h hl
  go_enter Tryz.func45, Tryz.ntmps45
  go_wp2_with (first
    | (go_at_call 68; refine (path_spec A c d.path _ (H.out.alloc _) HL.out).mono ?_; rintro _ _ ⟨rfl, rfl⟩)
    | (go_at_call 70; refine (is_spec _ _ _ _).mono ?_; rintro _ _ ⟨rfl, rfl⟩)
    | (go_at_call 69; refine (wd.spec_any _ _ (by assumption)).mono ?_; rintro _ _ ⟨rfl, rfl⟩))
  all_goals go_ret
  all_goals refine ⟨ret_bool ?_, below_a1 _ _⟩
  all_goals clear H HL
  all_goals (try simp only [tl_empty] at *)
  all_goals simp_all [addrB, keyB]
  all_goals omega
end Go.Proofs.YtflfnekaiaplfaaGreat.adr
