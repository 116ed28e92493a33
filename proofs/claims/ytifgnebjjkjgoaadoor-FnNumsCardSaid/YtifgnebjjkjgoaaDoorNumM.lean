/- Numbers and their bytes, plainly. No condition. -/
import Derived.WalkKit
import Derived.Lib.Zigzag
import Derived.Lib.UnsafeStr
import Derived.IntWalk
import Derived.Laws.BitsAllLaws
namespace Go.Proofs.YtifgnebjjkjgoaaDoor.num
open Go.RowKit Go.Lib
set_option linter.unusedVariables false
set_option linter.unusedSimpArgs false

/-- the number between 0 and 2^64-1 that stands for n. -/
def zz (n : Int) : Int := if n < 0 then -2 * n - 1 else 2 * n
theorem zz_neg {n : Int} (h : n < 0) : zz n = -2 * n - 1 := if_pos h
theorem zz_pos {n : Int} (h : 0 ≤ n) : zz n = 2 * n := if_neg (by omega)
theorem zz_in {n : Int} (h0 : -9223372036854775808 ≤ n) (h1 : n ≤ 9223372036854775807) : 0 ≤ zz n ∧ zz n ≤ 18446744073709551615 := by
  unfold zz; split <;> omega

theorem fold_val {n : Int} (h0 : -9223372036854775808 ≤ n) (h1 : n ≤ 9223372036854775807) :
    bits .xor .u64 (IntKind.u64.wrap (wrap64 (n * 2))) (IntKind.u64.wrap (n / 9223372036854775808)) = zz n := by
  by_cases h : n < 0
  · have e1 : IntKind.u64.wrap (wrap64 (n * 2)) = (((2 * n + 18446744073709551616).toNat : Nat) : Int) := by
      rw [IntKind.wrap_u64, wrap64]; omega
    have e2 : IntKind.u64.wrap (n / 9223372036854775808) = ((2 ^ 64 - 1 : Nat) : Int) := by
      rw [IntKind.wrap_u64]; omega
    rw [e1, e2, bits_xor_u64_nat _ _ (by omega) (by decide), Nat.xor_comm, xor_ones64 _ (by omega), zz_neg h]
    omega
  · have e1 : IntKind.u64.wrap (wrap64 (n * 2)) = (((2 * n).toNat : Nat) : Int) := by
      rw [IntKind.wrap_u64, wrap64]; omega
    have e2 : IntKind.u64.wrap (n / 9223372036854775808) = ((0 : Nat) : Int) := by
      rw [IntKind.wrap_u64]; omega
    rw [e1, e2, bits_xor_u64_nat _ _ (by omega) (by decide), Nat.xor_zero, zz_pos (by omega)]
    omega

/-- seven bits a byte, the lowest first, 128 more in all bytes but the last one. -/
def enc (u : Nat) : List UInt8 := if h : u < 128 then [UInt8.ofNat u] else UInt8.ofNat (u % 128 + 128) :: enc (u / 128)
termination_by u
decreasing_by omega
theorem enc_last {u : Nat} (h : u < 128) : enc u = [UInt8.ofNat u] := by rw [enc, dif_pos h]
theorem enc_more {u : Nat} (h : 128 ≤ u) : enc u = UInt8.ofNat (u % 128 + 128) :: enc (u / 128) := by rw [enc, dif_neg (by omega)]
theorem enc_len (k : Nat) : ∀ u, u < 128 ^ (k + 1) → (enc u).length ≤ k + 1 := by
  induction k with
  | zero => intro u h; rw [enc_last (by simpa using h)]; simp
  | succ k ih =>
    intro u h
    by_cases h2 : u < 128
    · rw [enc_last h2]; simp
    · rw [enc_more (by omega), List.length_cons]
      have := ih (u / 128) (by rw [Nat.pow_succ] at h; omega)
      omega
theorem enc_pos (u : Nat) : 1 ≤ (enc u).length := by
  by_cases h : u < 128
  · rw [enc_last h]; simp
  · rw [enc_more (by omega)]; simp
theorem enc_ten {u : Nat} (h : u ≤ 18446744073709551615) : (enc u).length ≤ 10 := enc_len 9 u (by have : 128 ^ (9 + 1) = 1180591620717411303424 := by decide
                                                                                                  omega)

theorem cell_byte (a : Nat) (h : a < 256) : Value.int .u8 ((UInt8.ofNat a).toNat : Int) = .int .u8 (a : Int) := by
  rw [UInt8.toNat_ofNat_of_lt' (by omega)]
set_option maxRecDepth 100000 in
theorem or128 : ∀ a < 256, a ||| 128 = a % 128 + 128 := by decide
theorem or_byte (u : Nat) : bits .or .u8 ((u : Int) % 256) 128 = ((u % 128 + 128 : Nat) : Int) := by
  rw [u8_or _ _ (by omega) (by omega) (by omega) (by omega)]
  have e : ((u : Int) % 256).toNat = u % 256 := by omega
  have e2 : (128 : Int).toNat = 128 := rfl
  rw [e, e2, or128 _ (by omega)]
  congr 1; omega
/-- what is there already, l, and what is still to come. -/
theorem enc_step {u0 : List UInt8} {l : List UInt8} {u : Nat} (h : u0 = l ++ enc u) (hu : 128 ≤ u) : u0 = (l ++ [UInt8.ofNat (u % 128 + 128)]) ++ enc (u / 128) := by
  rw [h, enc_more hu]; simp
end Go.Proofs.YtifgnebjjkjgoaaDoor.num
