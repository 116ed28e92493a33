/- Seal and Unseal, the program's and the model's, of any text. No condition. -/
import Derived.Test.YtifgnebjjkjgoaaRows
import Derived.Test.YtifgnebjjkjgoaaCrcA
import Derived.Test.YtifgnebjjkjgoaaJoin
import Derived.WalkKit
import Derived.Lib.Hide
import Derived.ProofKit
import Derived.WalkSpells
import Derived.Laws.BytesArg
namespace Go.Proofs.Ytifgnebjjkjgoaa.seal
open Go.ChangeShapes Go.WideShapes Go.ChangeAt Go.RowKit Go.Lib
set_option linter.unusedVariables false
set_option linter.unusedSimpArgs false

theorem make4 (w : World) : (Instr.makeSlice 22 (.int .i64 4) (.int .i64 4)).run Try.prog w = .ok (.slice (some ⟨w.heap.size, 0, none⟩) 4 4) (w.alloc (.cells #[.int .u8 0, .int .u8 0, .int .u8 0, .int .u8 0] 5)) := by
  obtain ⟨i0, hi, hz0, hz1, hz2⟩ := info_parts str.info_u8
  rw [run_make (P := Try.prog) w 22 5 i0 (.int .u8 0) Try.underlying22 hi hz0 .i64 .i64 4 4 (by omega) (by omega) (by rw [hz2]; omega) (by omega), hz1]
  have e : madeCells (Value.int .u8 0).cells (Int.toNat 4 * 1) = #[.int .u8 0, .int .u8 0, .int .u8 0, .int .u8 0] := by kernel_rfl
  rw [e]; rfl

theorem conv4 (w : World) (x0 x1 x2 x3 : Int) : (convert 22 9 (.slice (some ⟨w.heap.size, 0, none⟩) 4 4)).run Try.prog (w.alloc (.cells #[.int .u8 x0, .int .u8 x1, .int .u8 x2, .int .u8 x3] 5)) = .ok (.string (strOfNums [x0, x1, x2, x3])) (w.alloc (.cells #[.int .u8 x0, .int .u8 x1, .int .u8 x2, .int .u8 x3] 5)) :=
  run_convert_bytes_arg _ 22 5 Try.underlying22 Try.underlying5 w.heap.size 0 4 4 [x0, x1, x2, x3] rfl (by
    intro i hi
    rw [World.cell?_alloc_at _ _ _ _ rfl]
    match i, hi with
    | 0, _ => rfl
    | 1, _ => rfl
    | 2, _ => rfl
    | 3, _ => rfl) 9 Try.underlying9

/-- the four bytes of a number, the lowest first. -/
def four (n : Int) : ByteArray := strOfNums [n % 256, n / 256 % 256, n / 65536 % 256, n / 16777216]
theorem four_size (n : Int) : (four n).size = 4 := strOfNums_size _

theorem ret_str {a b : ByteArray} (h : a = b) : Ending.returned (.string a) = .returned (.string b) := by rw [h]

set_option maxHeartbeats 1000000 in
theorem four_any (n : Int) (w : World) (h0 : 0 ≤ n) (h1 : n ≤ 4294967295) :
    Calls Try.prog 34 #[.int .i64 n] w fun e w' => e = .returned (.string (four n)) ∧ Below w.heap.size w w' := by
  have hcv := conv4
  go_enter Try.func34, Try.ntmps34
  go_wp2
  go_ret
  exact ⟨rfl, (Below.refl _ _).alloc (Nat.le_refl _) _⟩

def sealed (s : ByteArray) : ByteArray := ⟨(s.data.toList ++ (four (crc.moreOf 0 s)).data.toList).toArray⟩
/-- what both tell of a text. -/
def sealOf (s : ByteArray) : ByteArray := if s.size ≤ 7996 then sealed s else ByteArray.empty
theorem sealOf_yes {s : ByteArray} (h : s.size ≤ 7996) : sealOf s = sealed s := if_pos h
theorem sealOf_no {s : ByteArray} (h : 7996 < s.size) : sealOf s = ByteArray.empty := if_neg (by omega)
theorem sealed_size (s : ByteArray) : (sealed s).size = s.size + 4 := by
  have e : (four (crc.moreOf 0 s)).data.toList.length = 4 := four_size _
  have e2 : (sealed s).size = (s.data.toList ++ (four (crc.moreOf 0 s)).data.toList).length := by
    unfold sealed; generalize s.data.toList ++ (four (crc.moreOf 0 s)).data.toList = l; rfl
  rw [e2, List.length_append, e]; rfl

theorem cat2 (a b : ByteArray) : str.cat [a, b] = a.data.toList ++ b.data.toList := by simp [str.cat]
theorem cat1 (a : ByteArray) : str.cat [a] = a.data.toList := by simp [str.cat]
theorem crc_in (s : ByteArray) : 0 ≤ crc.moreOf 0 s ∧ crc.moreOf 0 s ≤ 4294967295 := by
  unfold crc.moreOf; split
  · exact crc.in_inv _
  · omega

set_option maxHeartbeats 1000000 in
theorem seal_any (s : ByteArray) (w : World) :
    Calls Try.prog 12 #[.string s] w fun e w' => e = .returned (.string (sealOf s)) ∧ Below w.heap.size w w' := by
  by_cases hs : (7996 : Int) < s.size
  · have HV := Lib.hid (sealOf_no (s := s) (by omega))
    go_enter Try.func12, Try.ntmps12
    go_wp2
    go_ret
    exact ⟨ret_str HV.out.symm, Below.refl _ _⟩
  · have hs' : (s.size : Int) ≤ 7996 := by omega
    clear hs
    have HV : Hid (sealOf s = ⟨(s.data.toList ++ (four (crc.moreOf 0 s)).data.toList).toArray⟩) := Lib.hid (sealOf_yes (s := s) (by omega))
    obtain ⟨hi0, hi1⟩ := crc_in s
    have hcv := conv4
    have hmk := make4
    go_enter Try.func12, Try.ntmps12
    go_wp2_with fail
    refine (crc.crc_any _ _).mono ?_
    rintro e w' ⟨rfl, rfl⟩
    generalize crc.moreOf 0 s = n at *
    go_wp2
    refine wp_loop_rounds 5 ?_
    rw [rounds_succ]
    go_wp2
    rw [rounds_succ]
    go_wp2
    rw [rounds_succ]
    go_wp2
    rw [rounds_succ]
    go_wp2
    rw [rounds_succ]
    go_wp2_with fail
    refine (str.join_any [s, four n] (w.heap.size + 1) _ ?_ (by simp) ?_ (by simp)).mono ?_
    · intro k hk
      rw [World.cell?_alloc_at _ _ _ _ (by simp)]
      match k, hk with
      | 0, _ => rfl
      | 1, _ => rfl
    · rw [cat2, List.length_append]
      have e : (four n).data.toList.length = 4 := four_size _
      have e' : s.data.toList.length = s.size := rfl
      omega
    rintro e w2 ⟨rfl, hb⟩
    go_wp2
    go_ret
    exact ⟨ret_str (by rw [HV.out, cat2]), (((Below.refl _ _).alloc (Nat.le_refl _) _).alloc (by simp) _).trans (hb.mono (by simp; omega))⟩

set_option maxHeartbeats 1000000 in
theorem spec_seal (s : ByteArray) (w : World) (hs0 : (s.size : Int) ≤ 1048576) :
    Calls Try.prog 13 #[.string s] w fun e w' => e = .returned (.string (sealOf s)) ∧ Below w.heap.size w w' := by
  by_cases hs : (7996 : Int) < s.size
  · have HV := Lib.hid (sealOf_no (s := s) (by omega))
    go_enter Try.func13, Try.ntmps13
    go_wp2
    go_ret
    exact ⟨ret_str HV.out.symm, Below.refl _ _⟩
  · have hs' : (s.size : Int) ≤ 7996 := by omega
    clear hs
    have HV : Hid (sealOf s = ⟨(s.data.toList ++ (four (crc.moreOf 0 s)).data.toList).toArray⟩) := Lib.hid (sealOf_yes (s := s) (by omega))
    have HM := Lib.hid (crc.moreOf_yes (c := 0) (s := s) (by omega) (by omega) (by omega))
    have hc : crc.In (crc.crcOf 0 s.data.toList) := crc.in_inv _
    have hc1 := hc.1
    have hc2 := hc.2
    go_enter Try.func13, Try.ntmps13
    go_wp2_with fail
    refine (crc.spec_crc _ _ _ (by unfold maxLen; omega) (by omega) (by omega)).mono ?_
    rintro e w' ⟨rfl, rfl⟩
    generalize crc.crcOf 0 s.data.toList = n at *
    go_wp2_with fail
    refine (four_any _ _ hc1 hc2).mono ?_
    rintro e w2 ⟨rfl, hb⟩
    have h4 : (four n).size ≤ 4 := Nat.le_of_eq (four_size _)
    generalize hf : four n = f at *
    have HF := Lib.hid hf
    clear hf
    have hadd : s.size + f.size ≤ 9223372036854775807 := by omega
    go_wp2
    go_ret
    refine ⟨ret_str ?_, hb⟩
    rw [HV.out, HM.out, HF.out]
    apply ByteArray.ext
    simp [ByteArray.data_append]
end Go.Proofs.Ytifgnebjjkjgoaa.seal
