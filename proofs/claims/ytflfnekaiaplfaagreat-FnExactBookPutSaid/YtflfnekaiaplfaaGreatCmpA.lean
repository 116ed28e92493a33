/- Lists of texts compared, by the program and by the model. -/
import Derived.Test.YtflfnekaiaplfaaGreatMem
import Derived.Test.YtflfnekaiaplfaaGreatCmp
import Derived.BigQuiet
import Derived.BigRegion
import Derived.Deep.QuietTactic
import Derived.WalkLawsBesides
import Derived.Sort.Walk0
import Derived.Outline
namespace Go.Proofs.YtflfnekaiaplfaaGreat.cm
open ad mem
open Go.ChangeShapes Go.WideShapes Go.ChangeAt Go.RowKit Go.Lib
set_option linter.unusedVariables false
set_option linter.unusedSimpArgs false

theorem bless (s t : ByteArray) : Op.bytesLess s.toList t.toList = @decide (ltS s t) (Classical.propDecidable _) := by
  rw [bytesLess_eq]; unfold ltS; congr

def Quiet (w : World) (v : Value) (e : Ending) (w' : World) : Prop := e = .returned v ∧ ∃ n, w' = w.drewN n
theorem ret_i {a b : Int} (h : a = b) : Ending.returned (.int .i64 a) = .returned (.int .i64 b) := by rw [h]

set_option maxHeartbeats 1000000 in
theorem alike_any (A B : Option Addr) (c c' : Nat) (l m : List ByteArray) (w : World) (h : Strs w A l) (h' : Strs w B m) (hl : l.length ≤ maxLen) (hm : m.length ≤ maxLen) :
    Calls Tryz.prog 100 #[.slice A l.length c, .slice B m.length c'] w (Quiet w (.int .i64 (pre l m))) := by
  unfold maxLen at hl hm
  have H := Lib.hid h
  have H' := Lib.hid h'
  clear h h'
  obtain ⟨n, hn, hn1, hn2⟩ : ∃ n : Nat, min l.length m.length = n ∧ n ≤ l.length ∧ n ≤ m.length := ⟨_, rfl, by omega, by omega⟩
  have hnI : min (l.length : Int) (m.length : Int) = (n : Int) := by omega
  have HN := Lib.hid hn
  clear hn
  go_enter Tryz.func100, Tryz.ntmps100
  go_wp2
  go_loopw [13] (fun i wr => ∃ k q : Nat, k ≤ n ∧ i = .int .i64 k ∧ wr = w.drewN q ∧ ∀ j (h1 : j < l.length) (h2 : j < m.length), j < k → l[j] = m[j]) (fun i _ => n - (RowKit.intOf i).toNat)
  case atStart => exact ⟨0, 0, Nat.zero_le _, rfl, rfl, fun j _ _ hj => absurd hj (by omega)⟩
  case round =>
    obtain ⟨k, q, hk, rfl, rfl, hok⟩ := hrel
    have HOK := Lib.hid hok
    clear hok
    by_cases hlt : k < n
    · have hlt1 : k < l.length := by omega
      have hlt2 : k < m.length := by omega
      obtain ⟨b, o, rfl, hbg, hc, hsz⟩ := H.out k hlt1
      obtain ⟨b', o', rfl, hbg', hc', hsz'⟩ := H'.out k hlt2
      go_wp2
      go_quiet (fail)
      go_wp2
      · have hb : (!l[k].toList == m[k].toList) = true := by assumption
        go_ret
        exact ⟨ret_i (by rw [pre_at l m k hlt1 hlt2 HOK.out (tl_ne hb)]), q + nq, World.drewN_drewN _ _ _⟩
      · have hb : (!l[k].toList == m[k].toList) = false := by assumption
        go_roundw
        case rel => exact ⟨k + 1, _, by omega, by go_num, rfl, fun j h1 h2 hj => by
          by_cases e : j = k
          · subst e; exact tl_eq hb
          · exact HOK.out j h1 h2 (by omega)⟩
        case measure => simp [RowKit.intOf]; omega
    · obtain rfl : k = n := by omega
      go_wp2
      go_ret
      exact ⟨ret_i (by rw [pre_all l m (fun j h1 h2 => HOK.out j h1 h2 (by have := HN.out; omega)), HN.out]), _, rfl⟩

-- [PLAIN
theorem nan_s (s : ByteArray) (w : World) : Calls Tryz.prog 102 #[.string s] w fun e w' => e = .returned (.bool false) ∧ w = w' := by
  go_enter Tryz.func102, Tryz.ntmps102
  go_wp2
  go_ret
  exact ⟨ret_bool (by simp), rfl⟩
theorem nan_i (x : Int) (w : World) : Calls Tryz.prog 103 #[.int .i64 x] w fun e w' => e = .returned (.bool false) ∧ w = w' := by
  go_enter Tryz.func103, Tryz.ntmps103
  go_wp2
  go_ret
  exact ⟨ret_bool (by simp), rfl⟩
theorem nan_n (x : Int) (w : World) : Calls Tryz.prog 107 #[.int .i64 x] w fun e w' => e = .returned (.bool false) ∧ w = w' := by
  go_enter Tryz.func107, Tryz.ntmps107
  go_wp2
  go_ret
  exact ⟨ret_bool (by simp), rfl⟩

theorem cmp_i (x y : Int) (w : World) : Calls Tryz.prog 92 #[.int .i64 x, .int .i64 y] w fun e w' => e = .returned (.int .i64 (cmpI x y)) ∧ w = w' := by
  rcases (by omega : x < y ∨ (¬ x < y ∧ y < x) ∨ (¬ x < y ∧ ¬ y < x)) with h | ⟨h, h'⟩ | ⟨h, h'⟩
  all_goals
    go_enter Tryz.func92, Tryz.ntmps92
    go_wp2_with (go_at_call 103; refine (nan_i _ _).mono ?_; rintro e w' ⟨rfl, rfl⟩)
    go_ret
    exact ⟨ret_i (by simp [cmpI, h]; try omega), rfl⟩
theorem cmp_n (x y : Int) (w : World) : Calls Tryz.prog 101 #[.int .i64 x, .int .i64 y] w fun e w' => e = .returned (.int .i64 (cmpI x y)) ∧ w = w' := by
  rcases (by omega : x < y ∨ (¬ x < y ∧ y < x) ∨ (¬ x < y ∧ ¬ y < x)) with h | ⟨h, h'⟩ | ⟨h, h'⟩
  all_goals
    go_enter Tryz.func101, Tryz.ntmps101
    go_wp2_with (go_at_call 107; refine (nan_n _ _).mono ?_; rintro e w' ⟨rfl, rfl⟩)
    go_ret
    exact ⟨ret_i (by simp [cmpI, h]; try omega), rfl⟩
theorem cmp_s (s t : ByteArray) (w : World) : Calls Tryz.prog 91 #[.string s, .string t] w fun e w' => e = .returned (.int .i64 (cmpS s t)) ∧ w = w' := by
  go_enter Tryz.func91, Tryz.ntmps91
  go_wp2_with (go_at_call 102; refine (nan_s _ _).mono ?_; rintro e w' ⟨rfl, rfl⟩)
  · have h : Op.bytesLess s.toList t.toList = true := by assumption
    go_ret
    exact ⟨ret_i (by rw [bless] at h; rw [cmpS_lt (by simpa using h)]), rfl⟩
  · have h : Op.bytesLess s.toList t.toList = false := by assumption
    have h' : (!s.toList == t.toList) = true := by assumption
    go_ret
    exact ⟨ret_i (by rw [bless] at h; have h2 : ¬ ltS s t := by simpa using h
                     rw [cmpS_gt h2 (lt_tri (tl_ne h') h2)]), rfl⟩
  · have h' : (!s.toList == t.toList) = false := by assumption
    go_ret
    exact ⟨ret_i (by rw [tl_eq h', cmpS_self]), rfl⟩
-- PLAIN]
end Go.Proofs.YtflfnekaiaplfaaGreat.cm
