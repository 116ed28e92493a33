/- AddrRight, of the program and of the model. -/
import Derived.Test.YtgkcohclejmhkaaMem
import Derived.Test.YtgkcohclejmhkaaWd
import Derived.BigQuiet
import Derived.BigRegion
import Derived.Deep.QuietTactic
import Derived.Outline
namespace Go.Proofs.Ytgkcohclejmhkaa.adr
open ad mem
open Go.ChangeShapes Go.WideShapes Go.ChangeAt Go.RowKit Go.Lib
set_option linter.unusedVariables false
set_option linter.unusedSimpArgs false

set_option maxHeartbeats 1000000 in
theorem path_impl (A : Option Addr) (c : Nat) (l : List ByteArray) (w : World) (h : Strs w A l) (hl : l.length ≤ maxLen) :
    Calls Try.prog 94 #[.slice A l.length c] w fun e w' => e = .returned (.bool (pathB l)) ∧ w = w' := by
  unfold maxLen at hl
  have H := Lib.hid h
  clear h
  by_cases hz : (2 : Int) < l.length
  · have HB := Lib.hid (path_long (l := l) (by omega))
    go_enter Try.func94, Try.ntmps94
    go_wp2
    go_ret
    exact ⟨ret_bool HB.out.symm, rfl⟩
  · go_enter Try.func94, Try.ntmps94
    go_wp2
    go_loop [10] (fun i => ∃ k : Nat, k ≤ l.length ∧ i = .int .i64 k ∧ ∀ j (h : j < l.length), j < k → wordB l[j] = true) (fun i => l.length - (intOf i).toNat)
    case atStart => exact ⟨0, Nat.zero_le _, rfl, fun j _ hj => absurd hj (by omega)⟩
    case round =>
      obtain ⟨k, hk, rfl, hok⟩ := hrel
      have HOK := Lib.hid hok
      clear hok
      by_cases hlt : k < l.length
      · obtain ⟨b, o, rfl, hbg, hc, hsz⟩ := H.out k hlt
        go_wp2_with (go_at_call 95; refine (wd.impl_any _ _ hsz).mono ?_; rintro e w' ⟨rfl, rfl⟩)
        · have hb : (!wordB l[k]) = true := by assumption
          go_ret
          exact ⟨ret_bool (path_at hlt (by simpa using hb)).symm, rfl⟩
        · have hb : (!wordB l[k]) = false := by assumption
          go_round
          case rel => exact ⟨k + 1, by omega, by go_num, fun j h hj => by
            by_cases e : j = k
            · subst e; simpa using hb
            · exact HOK.out j h (by omega)⟩
          case measure => simp [intOf]; omega
      · go_wp2
        go_ret
        exact ⟨ret_bool (path_yes (by omega) (fun j h => HOK.out j h (by omega))).symm, rfl⟩

set_option maxHeartbeats 1000000 in
theorem path_spec (A : Option Addr) (c : Nat) (l : List ByteArray) (w : World) (h : Strs w A l) (hl : l.length ≤ maxLen) :
    Calls Try.prog 87 #[.slice A l.length c] w fun e w' => e = .returned (.bool (pathB l)) ∧ w = w' := by
  unfold maxLen at hl
  have H := Lib.hid h
  clear h
  go_enter Try.func87, Try.ntmps87
  go_wp2
  go_loop [3] (fun i => ∃ k : Nat, k ≤ l.length ∧ i = .int .i64 k ∧ ∀ j (h : j < l.length), j < k → wordB l[j] = true) (fun i => l.length - (intOf i).toNat)
  case atStart => exact ⟨0, Nat.zero_le _, rfl, fun j _ hj => absurd hj (by omega)⟩
  case round =>
    obtain ⟨k, hk, rfl, hok⟩ := hrel
    have HOK := Lib.hid hok
    clear hok
    by_cases hlt : k < l.length
    · obtain ⟨b, o, rfl, hbg, hc, hsz⟩ := H.out k hlt
      go_wp2_with (go_at_call 88; refine (wd.spec_any _ _ hsz).mono ?_; rintro e w' ⟨rfl, rfl⟩)
      · have hb : (!wordB l[k]) = true := by assumption
        go_ret
        exact ⟨ret_bool (path_at hlt (by simpa using hb)).symm, rfl⟩
      · have hb : (!wordB l[k]) = false := by assumption
        go_round
        case rel => exact ⟨k + 1, by omega, by go_num, fun j h hj => by
          by_cases e : j = k
          · subst e; simpa using hb
          · exact HOK.out j h (by omega)⟩
        case measure => simp [intOf]; omega
    · rcases (by omega : (2 : Int) < l.length ∨ (l.length : Int) ≤ 2) with hz | hz
      · go_wp2
        go_ret
        exact ⟨ret_bool (by rw [path_long (l := l) (by omega)]; simp; omega), rfl⟩
      · have hall : ∀ j (h : j < l.length), wordB l[j] = true := fun j h => HOK.out j h (by omega)
        have HA := Lib.hid hall
        clear hall
        go_wp2
        go_ret
        exact ⟨ret_bool (by rw [path_yes (by omega) HA.out]; try (simp; omega)), rfl⟩

def Told (w : World) (v : Value) (e : Ending) (w' : World) : Prop := e = .returned v ∧ Below w.heap.size w w'

theorem is_spec (n lo hi : Int) (w : World) : Calls Try.prog 89 #[.int .i64 n, .int .i64 lo, .int .i64 hi] w fun e w' => e = .returned (.bool (decide (lo ≤ n) && decide (n ≤ hi))) ∧ w = w' := by
  by_cases h1 : lo ≤ n <;> by_cases h2 : n ≤ hi
  all_goals
    go_enter Try.func89, Try.ntmps89
    go_wp2
    go_ret
    exact ⟨ret_bool (by first | (simp; done) | (simp; omega)), rfl⟩

set_option maxHeartbeats 2000000 in
theorem right_spec (A : Option Addr) (c : Nat) (d : AddrD) (w : World) (h : Strs w A d.path) (hl : d.path.length ≤ maxLen) (ht : d.typ.size ≤ maxLen) (hn : d.nam.size ≤ maxLen) (hk : d.key.size ≤ maxLen) :
    Calls Try.prog 52 #[.agg #[.slice A d.path.length c, .string d.typ, .string d.nam, .int .i64 d.kind, .int .i64 d.n, .string d.key]] w (Told w (.bool (addrB d))) := by
  have H := Lib.hid h
  have HL := Lib.hid hl
  clear h hl
  go_enter Try.func52, Try.ntmps52
  go_wp2_with (first
    | (go_at_call 87; refine (path_spec A c d.path _ (H.out.alloc _) HL.out).mono ?_; rintro _ _ ⟨rfl, rfl⟩)
    | (go_at_call 89; refine (is_spec _ _ _ _).mono ?_; rintro _ _ ⟨rfl, rfl⟩)
    | (go_at_call 88; refine (wd.spec_any _ _ (by assumption)).mono ?_; rintro _ _ ⟨rfl, rfl⟩))
  all_goals go_ret
  all_goals refine ⟨ret_bool ?_, below_a1 _ _⟩
  all_goals clear H HL
  all_goals (try simp only [tl_empty] at *)
  all_goals simp_all [addrB, keyB]
  all_goals omega
end Go.Proofs.Ytgkcohclejmhkaa.adr
