/- The program's and the model's CRC of any text. -/
import Derived.Test.YtifgnebjjkjgoaaRows
import Derived.Test.YtifgnebjjkjgoaaCrcM
import Derived.WalkKit
import Derived.Lib.Hide
import Derived.ProofKit
namespace Go.Proofs.Ytifgnebjjkjgoaa.crc
open Go.ChangeShapes Go.WideShapes Go.ChangeAt Go.RowKit
set_option linter.unusedVariables false
set_option linter.unusedSimpArgs false

set_option maxHeartbeats 400000 in
theorem shift_any (r0 : Int) (s : ByteArray) (w : World) (hs : s.size ≤ maxLen) (h0 : In r0) :
    Calls Try.prog 37 #[.int .u32 r0, .string s] w fun e w' => e = .returned (.int .u32 (reg r0 s.data.toList)) ∧ w = w' := by
  unfold maxLen at hs
  go_enter Try.func37, Try.ntmps37
  go_wp2
  go_loop [0, 5, 6] (fun r i l => ∃ (k : Nat) (r' : Int), k ≤ s.size ∧ i = .int .i64 k ∧ r = .int .u32 r' ∧ r' = reg r0 (s.data.toList.take k)) (fun _ i _ => s.size - (intOf i).toNat)
  case atStart => exact ⟨0, r0, Nat.zero_le _, rfl, rfl, rfl⟩
  case round =>
    obtain ⟨k, r', hk, rfl, rfl, hr⟩ := hrel
    have hi : In r' := by rw [hr]; exact in_reg h0 _
    have HR := Lib.hid hr
    clear hr
    obtain ⟨h2, h3⟩ := hi
    by_cases hlt : k < s.size
    · go_wp2
      have H8 := Lib.hid (reg_take r0 s k hlt)
      have hx := in_xor r' ((s[k].toNat : Int) % 4294967296)
      have HB : Hid (byteB r' s[k] = it 8 (bits .xor .u32 r' ((s[k].toNat : Int) % 4294967296))) := Lib.hid rfl
      generalize bits .xor .u32 r' ((s[k].toNat : Int) % 4294967296) = x at hx HB ⊢
      go_loop [0, 6, 19] (fun r l j => ∃ (m : Nat) (q : Int), m ≤ 8 ∧ j = .int .i64 m ∧ r = .int .u32 q ∧ q = it m x) (fun _ _ j => 8 - (intOf j).toNat)
      case atStart => exact ⟨0, x, by omega, rfl, rfl, rfl⟩
      case round =>
        obtain ⟨m, q, hm, rfl, rfl, hq⟩ := hrel
        have hi : In q := by rw [hq]; exact in_it _ hx
        have HQ := Lib.hid hq
        clear hq
        obtain ⟨h4, h5⟩ := hi
        by_cases hlt2 : m < 8
        · go_wp2
          · have hb : (bits .and .u32 q 1 == 1) = true := by assumption
            go_round
            case rel => exact ⟨m + 1, _, by omega, by go_num, rfl, by rw [← bitB_yes hb, HQ.out]; rfl⟩
            case measure => simp [intOf]; omega
          · have hb : (bits .and .u32 q 1 == 1) = false := by assumption
            go_round
            case rel => exact ⟨m + 1, _, by omega, by go_num, rfl, by rw [← bitB_no hb, HQ.out]; rfl⟩
            case measure => simp [intOf]; omega
        · have hm8 : m = 8 := by omega
          go_wp2
          go_round
          case rel => exact ⟨k + 1, _, by omega, by go_num, rfl, by rw [H8.out, ← HR.out, HB.out, HQ.out, hm8]⟩
          case measure => simp [intOf]; omega
    · go_wp2
      go_ret
      exact ⟨ret_num (by rw [HR.out, reg_all _ _ _ (by omega)]), rfl⟩

def inv (q : Int) : Int := bits .xor .u32 q 4294967295
theorem in_inv (q : Int) : In (inv q) := in_xor _ _
/-- the CRC of what stands behind a text of the CRC c. -/
def crcOf (c : Int) (l : List UInt8) : Int := inv (reg (inv c) l)

set_option maxHeartbeats 400000 in
theorem spec_crc (c : Int) (s : ByteArray) (w : World) (hs : s.size ≤ maxLen) (h0 : 0 ≤ c) (h1 : c ≤ 4294967295) :
    Calls Try.prog 35 #[.int .i64 c, .string s] w fun e w' => e = .returned (.int .i64 (crcOf c s.data.toList)) ∧ w = w' := by
  unfold maxLen at hs
  go_enter Try.func35, Try.ntmps35
  go_wp2
  have h0 := in_inv c
  have HC : Hid (crcOf c s.data.toList = bits .xor .u32 (reg (inv c) s.data.toList) 4294967295) := Lib.hid rfl
  unfold inv at h0 HC
  generalize bits .xor .u32 c 4294967295 = r0 at h0 HC ⊢
  go_loop [5, 6, 7] (fun r i l => ∃ (k : Nat) (r' : Int), k ≤ s.size ∧ i = .int .i64 k ∧ r = .int .u32 r' ∧ r' = reg r0 (s.data.toList.take k)) (fun _ i _ => s.size - (intOf i).toNat)
  case atStart => exact ⟨0, r0, Nat.zero_le _, rfl, rfl, rfl⟩
  case round =>
    obtain ⟨k, r', hk, rfl, rfl, hr⟩ := hrel
    have hi : In r' := by rw [hr]; exact in_reg h0 _
    have HR := Lib.hid hr
    clear hr
    obtain ⟨h2, h3⟩ := hi
    by_cases hlt : k < s.size
    · go_wp2
      have H8 := Lib.hid (reg_take r0 s k hlt)
      have hx := in_xor r' ((s[k].toNat : Int) % 4294967296)
      have HB : Hid (byteB r' s[k] = it 8 (bits .xor .u32 r' ((s[k].toNat : Int) % 4294967296))) := Lib.hid rfl
      generalize bits .xor .u32 r' ((s[k].toNat : Int) % 4294967296) = x at hx HB ⊢
      go_loop [5, 7] (fun r j => ∃ (m : Nat) (q : Int), m ≤ 8 ∧ j = .int .i64 m ∧ r = .int .u32 q ∧ q = it m x) (fun _ j => 8 - (intOf j).toNat)
      case atStart => exact ⟨0, x, by omega, rfl, rfl, rfl⟩
      case round =>
        obtain ⟨m, q, hm, rfl, rfl, hq⟩ := hrel
        have hi : In q := by rw [hq]; exact in_it _ hx
        have HQ := Lib.hid hq
        clear hq
        obtain ⟨h4, h5⟩ := hi
        by_cases hlt2 : m < 8
        · go_wp2
          · have hb : (bits .and .u32 q 1 == 1) = true := by assumption
            go_round
            case rel => exact ⟨m + 1, _, by omega, by go_num, rfl, by rw [← bitB_yes hb, HQ.out]; rfl⟩
            case measure => simp [intOf]; omega
          · have hb : (bits .and .u32 q 1 == 1) = false := by assumption
            go_round
            case rel => exact ⟨m + 1, _, by omega, by go_num, rfl, by rw [← bitB_no hb, HQ.out]; rfl⟩
            case measure => simp [intOf]; omega
        · have hm8 : m = 8 := by omega
          go_wp2
          go_round
          case rel => exact ⟨k + 1, _, by omega, by go_num, rfl, by rw [H8.out, ← HR.out, HB.out, HQ.out, hm8]⟩
          case measure => simp [intOf]; omega
    · go_wp2
      go_ret
      exact ⟨ret_num (by rw [HC.out, HR.out, reg_all _ _ _ (by omega)]; exact IntWalk.wrap64_in _ ⟨by have := bits_lo_u32 .xor (reg r0 s.data.toList) 4294967295; omega, by have := bits_hi_u32 .xor (reg r0 s.data.toList) 4294967295; omega⟩), rfl⟩

theorem xor_turned (k : IntKind) (a b : Int) : bits .xor k a b = bits .xor k b a := by
  show k.wrap ((BitVec.ofInt k.bits a ^^^ BitVec.ofInt k.bits b).toNat : Int) = k.wrap ((BitVec.ofInt k.bits b ^^^ BitVec.ofInt k.bits a).toNat : Int)
  rw [BitVec.xor_comm]

/-- what both tell of a CRC and a text behind it. -/
def moreOf (c : Int) (s : ByteArray) : Int := if s.size ≤ 8000 ∧ 0 ≤ c ∧ c ≤ 4294967295 then crcOf c s.data.toList else 0
theorem moreOf_yes {c : Int} {s : ByteArray} (hs : s.size ≤ 8000) (h0 : 0 ≤ c) (h1 : c ≤ 4294967295) : moreOf c s = crcOf c s.data.toList := if_pos ⟨hs, h0, h1⟩
theorem moreOf_no {c : Int} {s : ByteArray} (h : 8000 < s.size ∨ c < 0 ∨ 4294967295 < c) : moreOf c s = 0 := if_neg (by omega)
theorem more_ways (c : Int) (s : ByteArray) : (8000 < (s.size : Int)) ∨ ((s.size : Int) ≤ 8000 ∧ c < 0) ∨ ((s.size : Int) ≤ 8000 ∧ 0 ≤ c ∧ 4294967295 < c) ∨ ((s.size : Int) ≤ 8000 ∧ 0 ≤ c ∧ c ≤ 4294967295) := by omega

set_option maxHeartbeats 400000 in
theorem more_any (c : Int) (s : ByteArray) (w : World) :
    Calls Try.prog 17 #[.int .i64 c, .string s] w fun e w' => e = .returned (.int .i64 (moreOf c s)) ∧ w = w' := by
  rcases more_ways c s with h | ⟨h, h0⟩ | ⟨h, h0, h1⟩ | ⟨h, h0, h1⟩
  · have HV := Lib.hid (moreOf_no (c := c) (s := s) (by omega))
    go_enter Try.func17, Try.ntmps17
    go_wp2
    go_ret
    exact ⟨ret_num HV.out.symm, rfl⟩
  · have HV := Lib.hid (moreOf_no (c := c) (s := s) (by omega))
    go_enter Try.func17, Try.ntmps17
    go_wp2
    go_ret
    exact ⟨ret_num HV.out.symm, rfl⟩
  · have HV := Lib.hid (moreOf_no (c := c) (s := s) (by omega))
    go_enter Try.func17, Try.ntmps17
    go_wp2
    go_ret
    exact ⟨ret_num HV.out.symm, rfl⟩
  · have HV := Lib.hid (moreOf_yes (c := c) (s := s) (by omega) h0 h1)
    have hin : In (bits .xor .u32 IntKind.u32.max c) := in_xor _ _
    have HX : Hid (bits .xor .u32 IntKind.u32.max c = inv c) := Lib.hid (xor_turned _ _ _)
    go_enter Try.func17, Try.ntmps17
    go_wp2_with fail
    refine (shift_any _ _ _ (by unfold maxLen; omega) hin).mono ?_
    rintro e w' ⟨rfl, rfl⟩
    go_wp2
    go_ret
    exact ⟨ret_num (by
      rw [HX.out]
      show wrap64 (bits .xor .u32 IntKind.u32.max (reg (inv c) s.data.toList)) = _
      rw [xor_turned, HV.out]
      exact IntWalk.wrap64_in _ ⟨by have := bits_lo_u32 .xor (reg (inv c) s.data.toList) IntKind.u32.max; omega, by have := bits_hi_u32 .xor (reg (inv c) s.data.toList) IntKind.u32.max; omega⟩), rfl⟩

set_option maxHeartbeats 400000 in
theorem spec_more (c : Int) (s : ByteArray) (w : World) :
    Calls Try.prog 18 #[.int .i64 c, .string s] w fun e w' => e = .returned (.int .i64 (moreOf c s)) ∧ w = w' := by
  rcases more_ways c s with h | ⟨h, h0⟩ | ⟨h, h0, h1⟩ | ⟨h, h0, h1⟩
  · have HV := Lib.hid (moreOf_no (c := c) (s := s) (by omega))
    go_enter Try.func18, Try.ntmps18
    go_wp2
    go_ret
    exact ⟨ret_num HV.out.symm, rfl⟩
  · have HV := Lib.hid (moreOf_no (c := c) (s := s) (by omega))
    go_enter Try.func18, Try.ntmps18
    go_wp2
    go_ret
    exact ⟨ret_num HV.out.symm, rfl⟩
  · have HV := Lib.hid (moreOf_no (c := c) (s := s) (by omega))
    go_enter Try.func18, Try.ntmps18
    go_wp2
    go_ret
    exact ⟨ret_num HV.out.symm, rfl⟩
  · have HV := Lib.hid (moreOf_yes (c := c) (s := s) (by omega) h0 h1)
    go_enter Try.func18, Try.ntmps18
    go_wp2_with fail
    refine (spec_crc _ _ _ (by unfold maxLen; omega) h0 h1).mono ?_
    rintro e w' ⟨rfl, rfl⟩
    go_wp2
    go_ret
    exact ⟨ret_num HV.out.symm, rfl⟩

set_option maxHeartbeats 400000 in
theorem crc_any (s : ByteArray) (w : World) :
    Calls Try.prog 19 #[.string s] w fun e w' => e = .returned (.int .i64 (moreOf 0 s)) ∧ w = w' := by
  go_enter Try.func19, Try.ntmps19
  go_wp2_with fail
  refine (more_any _ _ _).mono ?_
  rintro e w' ⟨rfl, rfl⟩
  go_wp2
  go_ret
  exact ⟨rfl, rfl⟩

set_option maxHeartbeats 400000 in
theorem spec_crc0 (s : ByteArray) (w : World) :
    Calls Try.prog 26 #[.string s] w fun e w' => e = .returned (.int .i64 (moreOf 0 s)) ∧ w = w' := by
  by_cases h : 8000 < (s.size : Int)
  · have HV := Lib.hid (moreOf_no (c := 0) (s := s) (by omega))
    go_enter Try.func26, Try.ntmps26
    go_wp2
    go_ret
    exact ⟨ret_num HV.out.symm, rfl⟩
  · have h' : (s.size : Int) ≤ 8000 := by omega
    clear h
    have HV := Lib.hid (moreOf_yes (c := 0) (s := s) (by omega) (by omega) (by omega))
    go_enter Try.func26, Try.ntmps26
    go_wp2_with fail
    refine (spec_crc _ _ _ (by unfold maxLen; omega) (by omega) (by omega)).mono ?_
    rintro e w' ⟨rfl, rfl⟩
    go_wp2
    go_ret
    exact ⟨ret_num HV.out.symm, rfl⟩
end Go.Proofs.Ytifgnebjjkjgoaa.crc
