/- The model's Unseal of any text. No condition. -/
import Derived.Test.YtifgnebjjkjgoaaRows
import Derived.Test.YtifgnebjjkjgoaaUnseal
import Derived.WalkKit
import Derived.Lib.Hide
import Derived.ProofKit
import Derived.WalkSpells
import Derived.Handy
import Derived.Deep.RegionWith
namespace Go.Proofs.Ytifgnebjjkjgoaa.seal
open Go.ChangeShapes Go.WideShapes Go.ChangeAt Go.RowKit Go.Lib
set_option linter.unusedVariables false
set_option linter.unusedSimpArgs false

theorem four_at {s : ByteArray} (h : s.size ≤ 8000) (h4 : 4 ≤ s.size) : ((four (crc.crcOf 0 (s.data.toList.take (s.size - 4)))).toList == (s.extract (s.size - 4) s.size).toList) = @decide (sealOf (ahead s) = s) (Classical.propDecidable _) := by
  have e : crc.crcOf 0 (s.data.toList.take (s.size - 4)) = crc.moreOf 0 (ahead s) := by
    rw [crc.moreOf_yes (s := ahead s) (by rw [ahead_size]; omega) (by omega) (by omega), ahead_list]
  rw [e, list_eq]
  exact decide_eq_decide.2 (four_iff h h4)

theorem four_ok (l : List UInt8) (w : World) :
    Calls Try.prog 34 #[.int .i64 (crc.crcOf 0 l)] w fun e w' => e = .returned (.string (four (crc.crcOf 0 l))) ∧ Below w.heap.size w w' :=
  four_any _ _ (crc.in_inv _).1 (crc.in_inv _).2

set_option maxHeartbeats 1000000 in
theorem spec_unseal (s : ByteArray) (w : World) :
    Calls Try.prog 27 #[.string s] w fun e w' => e = .returned (told s) ∧ Below w.heap.size w w' := by
  by_cases h : (8000 : Int) < s.size
  · have HV := Lib.hid (told_size (s := s) (by omega))
    go_enter Try.func27, Try.ntmps27
    go_wp2
    exact bodyPost_ret (v := textOut ByteArray.empty 0 2) (by simp [results, Try.results27, go_sem]; rfl) rfl ⟨by rw [HV.out], by go_grown⟩
  have h' : (s.size : Int) ≤ 8000 := by omega
  clear h
  by_cases h4 : (s.size : Int) < 4
  · have HV := Lib.hid (told_short (s := s) (by omega) (by omega))
    go_enter Try.func27, Try.ntmps27
    go_wp2
    exact bodyPost_ret (v := textOut ByteArray.empty 0 4) (by simp [results, Try.results27, go_sem]; rfl) rfl ⟨by rw [HV.out], by go_grown⟩
  have h4' : 4 ≤ (s.size : Int) := by omega
  clear h4
  have hz : (s.extract 0 (s.size - 4)).size ≤ 7996 := by have := ahead_size s; unfold ahead at this; omega
  have hat := four_at (s := s) (by omega) (by omega)
  have hsl : ∀ w : World, (Instr.slice 9 (.string s) (some (.int .i64 ((s.size : Int) - 4))) none none).run Try.prog w = .ok (.string (s.extract (s.size - 4) s.size)) w := fun w => by
    rw [Go.run_slice_string_from_if _ _ _ _ _ Try.underlying9, if_pos (by omega)]
    have e : ((s.size : Int) - 4).toNat = s.size - 4 := by omega
    rw [e]
  have g1 : (0 : Int) ≤ (s.size : Int) - 4 := by omega
  have g2 : (s.size : Int) - 4 ≤ (s.size : Int) := by omega
  have g3 : (s.size : Int) - 4 < (s.size : Int) := by omega
  by_cases hq : sealOf (ahead s) = s
  · have HV := Lib.hid (told_ok (s := s) (by omega) (by omega) hq)
    rw [show @decide (sealOf (ahead s) = s) (Classical.propDecidable _) = true from @decide_eq_true _ (Classical.propDecidable _) hq] at hat
    clear hq
    go_enter Try.func27, Try.ntmps27
    go_wp2
    have hwr : IntKind.i64.wrap ((s.size : Int) - 4) = (s.size : Int) - 4 := IntWalk.i64_in _ (by omega)
    go_region_with (first
      | (go_at_call 35; refine (crc.spec_crc _ _ _ (by unfold maxLen; omega) (by omega) (by omega)).mono ?_; rintro e w' ⟨rfl, rfl⟩)
      | (go_at_call 34; refine (four_ok _ _).mono ?_; rintro e w2 ⟨rfl, hb⟩))
    clear hwr hsl g1 g2 g3
    have hb' := ((Below.refl (w.alloc (.cells #[Value.string ByteArray.empty, .int .i64 0, .int .i64 0] 27)).heap.size (w.alloc (.cells #[Value.string ByteArray.empty, .int .i64 0, .int .i64 0] 27))).drew).trans hb
    obtain ⟨⟨c0, c1, c2⟩, hf, hn⟩ := cells_later hb'
    have hbw : Below w.heap.size w w2 := ((Below.refl w.heap.size w).alloc (Nat.le_refl _) _).trans (hb'.mono (by simp))
    clear hb hb'
    have f0 := hf 0
    have f1 := hf 1
    have f2 := hf 2
    clear hf
    go_wp2
    refine bodyPost_ret (v := textOut (ahead s) 0 0) ?_ rfl ⟨by rw [HV.out], ?_⟩
    · simp [results, Try.results27, go_sem, c0, c1, c2]
      rfl
    · go_grown
  · have HV := Lib.hid (told_sum (s := s) (by omega) (by omega) hq)
    rw [show @decide (sealOf (ahead s) = s) (Classical.propDecidable _) = false from @decide_eq_false _ (Classical.propDecidable _) hq] at hat
    clear hq
    go_enter Try.func27, Try.ntmps27
    go_wp2
    have hwr : IntKind.i64.wrap ((s.size : Int) - 4) = (s.size : Int) - 4 := IntWalk.i64_in _ (by omega)
    go_region_with (first
      | (go_at_call 35; refine (crc.spec_crc _ _ _ (by unfold maxLen; omega) (by omega) (by omega)).mono ?_; rintro e w' ⟨rfl, rfl⟩)
      | (go_at_call 34; refine (four_ok _ _).mono ?_; rintro e w2 ⟨rfl, hb⟩))
    clear hwr hsl g1 g2 g3
    have hb' := ((Below.refl (w.alloc (.cells #[Value.string ByteArray.empty, .int .i64 0, .int .i64 0] 27)).heap.size (w.alloc (.cells #[Value.string ByteArray.empty, .int .i64 0, .int .i64 0] 27))).drew).trans hb
    obtain ⟨⟨c0, c1, c2⟩, hf, hn⟩ := cells_later hb'
    have hbw : Below w.heap.size w w2 := ((Below.refl w.heap.size w).alloc (Nat.le_refl _) _).trans (hb'.mono (by simp))
    clear hb hb'
    have f0 := hf 0
    have f1 := hf 1
    have f2 := hf 2
    clear hf
    go_wp2
    refine bodyPost_ret (v := textOut ByteArray.empty 0 5) ?_ rfl ⟨by rw [HV.out], ?_⟩
    · simp [results, Try.results27, go_sem, c0, c1, c2]
      rfl
    · go_grown
end Go.Proofs.Ytifgnebjjkjgoaa.seal
