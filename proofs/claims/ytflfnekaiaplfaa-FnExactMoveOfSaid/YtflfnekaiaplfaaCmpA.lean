/- Lists of texts compared, by the program and by the model. -/
import Derived.Test.YtflfnekaiaplfaaMem
import Derived.Test.YtflfnekaiaplfaaCmp
import Derived.BigQuiet
import Derived.BigRegion
import Derived.Deep.QuietTactic
import Derived.WalkLawsBesides
import Derived.Sort.Walk0
import Derived.Outline
namespace Go.Proofs.Ytflfnekaiaplfaa.cm
open ad mem
open Go.ChangeShapes Go.WideShapes Go.ChangeAt Go.RowKit Go.Lib
set_option linter.unusedVariables false
set_option linter.unusedSimpArgs false

theorem bless (s t : ByteArray) : Op.bytesLess s.toList t.toList = @decide (ltS s t) (Classical.propDecidable _) := by
  rw [bytesLess_eq]; unfold ltS; congr

def Quiet (w : World) (v : Value) (e : Ending) (w' : World) : Prop := e = .returned v ∧ ∃ n, w' = w.drewN n
theorem ret_i {a b : Int} (h : a = b) : Ending.returned (.int .i64 a) = .returned (.int .i64 b) := by rw [h]

set_option maxHeartbeats 1000000 in
theorem alike_any (A B : Option Addr) (c c' : Nat) (l m : List ByteArray) (w : World) (h : Strs w A l) (h' : Strs w B m) (hl : l.length ≤ maxLen) (hm : m.length ≤ maxLen) :
    Calls Try.prog 55 #[.slice A l.length c, .slice B m.length c'] w (Quiet w (.int .i64 (pre l m))) := by
  unfold maxLen at hl hm
  have H := Lib.hid h
  have H' := Lib.hid h'
  clear h h'
  obtain ⟨n, hn, hn1, hn2⟩ : ∃ n : Nat, min l.length m.length = n ∧ n ≤ l.length ∧ n ≤ m.length := ⟨_, rfl, by omega, by omega⟩
  have hnI : min (l.length : Int) (m.length : Int) = (n : Int) := by omega
  have HN := Lib.hid hn
  clear hn
  go_enter Try.func55, Try.ntmps55
  go_wp2
  go_loopw [13] (fun i wr => ∃ k q : Nat, k ≤ n ∧ i = .int .i64 k ∧ wr = w.drewN q ∧ ∀ j (h1 : j < l.length) (h2 : j < m.length), j < k → l[j] = m[j]) (fun i _ => n - (RowKit.intOf i).toNat)
  case atStart => exact ⟨0, 0, Nat.zero_le _, rfl, rfl, fun j _ _ hj => absurd hj (by omega)⟩
  case round =>
    obtain ⟨k, q, hk, rfl, rfl, hok⟩ := hrel
    have HOK := Lib.hid hok
    clear hok
    by_cases hlt : k < n
    · have hlt1 : k < l.length := by omega
      have hlt2 : k < m.length := by omega
      obtain ⟨b, o, rfl, hbg, hc, hsz⟩ := H.out k hlt1
      obtain ⟨b', o', rfl, hbg', hc', hsz'⟩ := H'.out k hlt2
      go_wp2
      go_quiet (fail)
      go_wp2
      · have hb : (!l[k].toList == m[k].toList) = true := by assumption
        go_ret
        exact ⟨ret_i (by rw [pre_at l m k hlt1 hlt2 HOK.out (tl_ne hb)]), q + nq, World.drewN_drewN _ _ _⟩
      · have hb : (!l[k].toList == m[k].toList) = false := by assumption
        go_roundw
        case rel => exact ⟨k + 1, _, by omega, by go_num, rfl, fun j h1 h2 hj => by
          by_cases e : j = k
          · subst e; exact tl_eq hb
          · exact HOK.out j h1 h2 (by omega)⟩
        case measure => simp [RowKit.intOf]; omega
    · obtain rfl : k = n := by omega
      go_wp2
      go_ret
      exact ⟨ret_i (by rw [pre_all l m (fun j h1 h2 => HOK.out j h1 h2 (by have := HN.out; omega)), HN.out]), _, rfl⟩

-- [PLAIN
end Go.Proofs.Ytflfnekaiaplfaa.cm
