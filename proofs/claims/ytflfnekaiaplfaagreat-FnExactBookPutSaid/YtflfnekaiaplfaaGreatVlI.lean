/- Plain: values as data; what is right; their texts. No program. A value told, with nothing of what was there turned. Values: what is right, of the program and of the model. -/
import Derived.Test.YtflfnekaiaplfaaGreatAd
import Derived.WalkKit
import Derived.Lib.Hide
import Derived.Lib.Strings
import Derived.Lib.ItoaNum
import Derived.Test.YtflfnekaiaplfaaGreatMem
import Derived.Test.YtflfnekaiaplfaaGreatRows
import Derived.Test.YtflfnekaiaplfaaGreatAdR
import Derived.BigQuiet
import Derived.BigRegion
import Derived.Deep.QuietTactic
import Derived.Outline
namespace Go.Proofs.YtflfnekaiaplfaaGreat.vl
open Go.RowKit ad
set_option linter.unusedVariables false
set_option linter.unusedSimpArgs false

/-- the data of a value. -/
structure ValD where
  kind : Int
  n : Int
  text : ByteArray

/-- may a byte stand in a value's text? -/
def okC (x : Int) : Prop := (97 ≤ x ∧ x ≤ 122) ∨ (48 ≤ x ∧ x ≤ 57)
def okB (s : ByteArray) (k : Nat) : Prop := ∀ h : k < s.size, okC (s[k].toNat : Int)
def tOk (s : ByteArray) : Prop := s.size ≤ 8 ∧ ∀ k, okB s k
noncomputable def tB (s : ByteArray) : Bool := @decide (tOk s) (Classical.propDecidable _)
theorem tB_no {s : ByteArray} (h : ¬ tOk s) : tB s = false := by simp [tB, h]
theorem tB_yes {s : ByteArray} (h : tOk s) : tB s = true := by simp [tB, h]
theorem tB_iff {s : ByteArray} : tB s = true ↔ tOk s := by simp [tB]
theorem tB_size {s : ByteArray} (h : 8 < s.size) : tB s = false := tB_no (fun hn => by have := hn.1; omega)
theorem tB_at {s : ByteArray} {k : Nat} (hk : k < s.size) (h : ¬ okC (s[k].toNat : Int)) : tB s = false := tB_no (fun hn => h (hn.2 k hk))

noncomputable def valB (v : ValD) : Bool :=
  (v.kind == 1 && decide (-1000000 ≤ v.n) && decide (v.n ≤ 1000000) && v.text.size == 0) || (v.kind == 2 && v.n == 0 && tB v.text)
/-- the text of a right one. -/
def rawV (v : ValD) : List UInt8 := if v.kind = 1 then Lib.itoa v.n else 34 :: (v.text.data.toList ++ [34])
noncomputable def valT (v : ValD) : List UInt8 := if valB v then rawV v else []
end Go.Proofs.YtflfnekaiaplfaaGreat.vl
namespace Go.Proofs.YtflfnekaiaplfaaGreat.vl
open Go.RowKit
def Told (w : World) (v : Value) (e : Ending) (w' : World) : Prop := e = .returned v ∧ Below w.heap.size w w'
end Go.Proofs.YtflfnekaiaplfaaGreat.vl
namespace Go.Proofs.YtflfnekaiaplfaaGreat.vl
open ad mem
open Go.ChangeShapes Go.WideShapes Go.ChangeAt Go.RowKit Go.Lib
set_option linter.unusedVariables false
set_option linter.unusedSimpArgs false


theorem okC_parts {x : Int} : okC x ↔ (97 ≤ x ∧ x ≤ 122) ∨ (48 ≤ x ∧ x ≤ 57) := Iff.rfl

set_option maxHeartbeats 400000 in
theorem byte_yes (x : Int) (w : World) (h : okC x) :
    Calls Tryz.prog 109 #[.int .u8 x] w fun e w' => e = .returned (.bool true) ∧ w = w' := by
  rcases h with ⟨h, h'⟩ | ⟨h, h'⟩
  · go_enter Tryz.func109, Tryz.ntmps109
    go_wp2
    go_ret
    exact ⟨rfl, rfl⟩
  · have h2 : ¬ 97 ≤ x := by omega
    go_enter Tryz.func109, Tryz.ntmps109
    go_wp2
    go_ret
    exact ⟨rfl, rfl⟩
set_option maxHeartbeats 400000 in
theorem byte_no (x : Int) (w : World) (h : ¬ okC x) :
    Calls Tryz.prog 109 #[.int .u8 x] w fun e w' => e = .returned (.bool false) ∧ w = w' := by
  rcases (by rw [okC_parts] at h; omega : x < 48 ∨ (48 ≤ x ∧ 57 < x ∧ x < 97) ∨ 122 < x) with h | ⟨h, h', h''⟩ | h
  · have h2 : ¬ 97 ≤ x := by omega
    go_enter Tryz.func109, Tryz.ntmps109
    go_wp2
    go_ret
    first | exact ⟨rfl, rfl⟩ | exact ⟨ret_bool (by simp <;> omega), rfl⟩
  · go_enter Tryz.func109, Tryz.ntmps109
    go_wp2
    go_ret
    first | exact ⟨rfl, rfl⟩ | exact ⟨ret_bool (by simp <;> omega), rfl⟩
  · have h2 : 97 ≤ x := by omega
    have h3 : 48 ≤ x := by omega
    have h4 : 57 < x := by omega
    go_enter Tryz.func109, Tryz.ntmps109
    go_wp2
    go_ret
    first | exact ⟨rfl, rfl⟩ | exact ⟨ret_bool (by simp <;> omega), rfl⟩

set_option maxHeartbeats 400000 in
theorem text_impl (s : ByteArray) (w : World) (hs : s.size ≤ maxLen) :
    Calls Tryz.prog 106 #[.string s] w fun e w' => e = .returned (.bool (tB s)) ∧ w = w' := by
  unfold maxLen at hs
  by_cases hz : 8 < s.size
  · have HB := Lib.hid (tB_size hz)
    have hz' : 8 < (s.size : Int) := by omega
    clear hz
    go_enter Tryz.func106, Tryz.ntmps106
    go_wp2
    go_ret
    exact ⟨ret_bool HB.out.symm, rfl⟩
  · have hz1 : (s.size : Int) ≤ 8 := by omega
    clear hz
    go_enter Tryz.func106, Tryz.ntmps106
    go_wp2
    go_loop [3] (fun i => ∃ k : Nat, k ≤ s.size ∧ i = .int .i64 k ∧ ∀ j, j < k → okB s j) (fun i => s.size - (intOf i).toNat)
    case atStart => exact ⟨0, Nat.zero_le _, rfl, fun j hj => absurd hj (by omega)⟩
    case round =>
      obtain ⟨k, hk, rfl, hok⟩ := hrel
      have HOK := Lib.hid hok
      clear hok
      by_cases hlt : k < s.size
      · by_cases h : okC (s[k].toNat : Int)
        · have H := Lib.hid h
          clear h
          go_wp2_with (go_at_call 109; refine (byte_yes _ _ H.out).mono ?_; rintro e w' ⟨rfl, rfl⟩)
          go_round
          case rel => exact ⟨k + 1, by omega, by go_num, fun j hj => by
            by_cases e : j = k
            · subst e; intro _; exact H.out
            · exact HOK.out j (by omega)⟩
          case measure => simp [intOf]; omega
        · have H := Lib.hid h
          clear h
          go_wp2_with (go_at_call 109; refine (byte_no _ _ H.out).mono ?_; rintro e w' ⟨rfl, rfl⟩)
          go_ret
          exact ⟨ret_bool (tB_at hlt H.out).symm, rfl⟩
      · go_wp2
        go_ret
        exact ⟨ret_bool (tB_yes ⟨by omega, fun j h => HOK.out j (by omega) h⟩).symm, rfl⟩

set_option maxHeartbeats 1000000 in
theorem right_impl (v : ValD) (w : World) (hs : v.text.size ≤ maxLen) :
    Calls Tryz.prog 98 #[.agg #[.int .i64 v.kind, .int .i64 v.n, .string v.text]] w (Told w (.bool (valB v))) := by
  have HS := Lib.hid hs
  clear hs
  go_enter Tryz.func98, Tryz.ntmps98
  go_wp2_with (go_at_call 106; refine (text_impl _ _ HS.out).mono ?_; rintro e w' ⟨rfl, rfl⟩)
  all_goals go_ret
  all_goals refine ⟨ret_bool ?_, below_a1 _ _⟩
  all_goals clear HS
  all_goals (try simp only [tl_empty] at *)
  all_goals simp_all [valB]
  all_goals omega

set_option maxHeartbeats 1000000 in
theorem right_spec (v : ValD) (w : World) (hs : v.text.size ≤ maxLen) :
    Calls Tryz.prog 71 #[.agg #[.int .i64 v.kind, .int .i64 v.n, .string v.text]] w (Told w (.bool (valB v))) := by
  obtain ⟨kd, n, s⟩ := v
  simp only at hs ⊢
  unfold maxLen at hs
  by_cases h1 : kd = 1
  · subst h1
    go_enter Tryz.func71, Tryz.ntmps71
    go_wp2_with (go_at_call 70; refine (adr.is_spec _ _ _ _).mono ?_; rintro _ _ ⟨rfl, rfl⟩)
    all_goals go_ret
    all_goals refine ⟨ret_bool ?_, below_a1 _ _⟩
    all_goals (try simp only [tl_empty] at *)
    all_goals simp_all [valB]
    all_goals omega
  · by_cases h2 : kd = 2
    · subst h2
      go_enter Tryz.func71, Tryz.ntmps71
      go_wp2
      go_loop [3] (fun i => ∃ k : Nat, k ≤ s.size ∧ i = .int .i64 k ∧ ∀ j, j < k → okB s j) (fun i => s.size - (intOf i).toNat)
      case atStart => exact ⟨0, Nat.zero_le _, rfl, fun j hj => absurd hj (by omega)⟩
      case round =>
        obtain ⟨k, hk, rfl, hok⟩ := hrel
        have HOK := Lib.hid hok
        clear hok
        by_cases hlt : k < s.size
        · rcases (by omega : ((s[k].toNat : Int) < 48) ∨ (48 ≤ (s[k].toNat : Int) ∧ (s[k].toNat : Int) ≤ 57) ∨ (57 < (s[k].toNat : Int) ∧ (s[k].toNat : Int) < 97) ∨ (97 ≤ (s[k].toNat : Int) ∧ (s[k].toNat : Int) ≤ 122) ∨ 122 < (s[k].toNat : Int)) with h | ⟨h, h'⟩ | ⟨h, h'⟩ | ⟨h, h'⟩ | h
          · have hn : (s[k].toNat : Int) < 97 := by omega
            go_wp2
            go_ret
            exact ⟨ret_bool (by unfold valB; rw [tB_at hlt (by unfold okC; omega)]; simp), below_a1 _ _⟩
          · have hn : (s[k].toNat : Int) < 97 := by omega
            go_wp2
            go_round
            case rel => exact ⟨k + 1, by omega, by go_num, fun j hj => by
              by_cases e : j = k
              · subst e; intro _; exact .inr ⟨h, h'⟩
              · exact HOK.out j (by omega)⟩
            case measure => simp [intOf]; omega
          · go_wp2
            go_ret
            exact ⟨ret_bool (by unfold valB; rw [tB_at hlt (by unfold okC; omega)]; simp), below_a1 _ _⟩
          · go_wp2
            go_round
            case rel => exact ⟨k + 1, by omega, by go_num, fun j hj => by
              by_cases e : j = k
              · subst e; intro _; exact .inl ⟨h, h'⟩
              · exact HOK.out j (by omega)⟩
            case measure => simp [intOf]; omega
          · have hn : 97 ≤ (s[k].toNat : Int) := by omega
            have hn2 : 48 ≤ (s[k].toNat : Int) := by omega
            have hn3 : 57 < (s[k].toNat : Int) := by omega
            go_wp2
            go_ret
            exact ⟨ret_bool (by unfold valB; rw [tB_at hlt (by unfold okC; omega)]; simp), below_a1 _ _⟩
        · have hall : ∀ j, okB s j := fun j h => HOK.out j (by omega) h
          have HA := Lib.hid hall
          clear hall
          rcases (by omega : (s.size : Int) ≤ 8 ∨ 8 < (s.size : Int)) with h | h
          · have HT := Lib.hid (tB_yes (s := s) ⟨by omega, HA.out⟩)
            go_wp2
            all_goals go_ret
            all_goals exact ⟨ret_bool (by simp_all [valB, HT.out]), below_a1 _ _⟩
          · have HT := Lib.hid (tB_size (s := s) (by omega))
            go_wp2
            all_goals go_ret
            all_goals exact ⟨ret_bool (by simp_all [valB, HT.out]), below_a1 _ _⟩
    · go_enter Tryz.func71, Tryz.ntmps71
      have b1 : (kd == 1) = false := by simp [h1]
      have b2 : (kd == 2) = false := by simp [h2]
      have H1 := Lib.hid h1
      have H2 := Lib.hid h2
      clear h1 h2
      go_wp2
      go_ret
      exact ⟨ret_bool (by simp [valB, b1, b2]), below_a1 _ _⟩
end Go.Proofs.YtflfnekaiaplfaaGreat.vl
