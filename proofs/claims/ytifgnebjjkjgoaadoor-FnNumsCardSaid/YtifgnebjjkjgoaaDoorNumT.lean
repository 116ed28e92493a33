/- What is read of the bytes of a number, and of a text, whole and cut. No condition. -/
import Derived.Test.YtifgnebjjkjgoaaDoorNumM
import Derived.Test.YtifgnebjjkjgoaaDoorDec
import Derived.Test.YtifgnebjjkjgoaaDoorText
import Derived.Test.YtifgnebjjkjgoaaDoorPutTextA
import Derived.WalkKit
namespace Go.Proofs.YtifgnebjjkjgoaaDoor.rd
open Go.RowKit Go.Lib
set_option linter.unusedVariables false
set_option linter.unusedSimpArgs false

theorem pow_step (k : Nat) : 2 ^ (7 * (k + 1)) = 128 * 2 ^ (7 * k) := by rw [Nat.mul_add, Nat.pow_add]; omega
theorem nine {u : Nat} (h : u * 2 ^ (7 * 9) < 2 ^ 64) : u < 2 := by
  have e : 2 ^ (7 * 9) = 9223372036854775808 := by decide
  have e2 : 2 ^ 64 = 18446744073709551616 := by decide
  rw [e, e2] at h; omega
theorem part (u p : Nat) : u % 128 * p + u / 128 * (128 * p) = u * p := by
  have h := Nat.mod_add_div u 128
  calc u % 128 * p + u / 128 * (128 * p) = (u % 128 + 128 * (u / 128)) * p := by rw [Nat.add_mul, Nat.mul_comm 128 (u / 128), Nat.mul_assoc]
    _ = u * p := by rw [h]

theorem ok_eq {a b c d : Nat} (h : a = b) (h2 : c = d) : (Except.ok (a, c) : Except Int (Nat × Nat)) = .ok (b, d) := by rw [h, h2]

theorem dec_enc (rest : List UInt8) : ∀ (k u acc : Nat), u * 2 ^ (7 * k) < 2 ^ 64 → k ≤ 9 → (0 < k → 0 < u) → dec k acc (num.enc u ++ rest) = .ok (acc + u * 2 ^ (7 * k), k + (num.enc u).length) := by
  intro k u
  induction u using Nat.strongRecOn generalizing k with
  | _ u ih =>
    intro acc hu hk hpos
    by_cases h : u < 128
    · have hc : (UInt8.ofNat u).toNat = u := UInt8.toNat_ofNat_of_lt' (by change _ < 256; omega)
      rw [num.enc_last h, List.singleton_append, dec, hc, if_neg (by
        rintro ⟨rfl, h2⟩
        have := nine hu; omega), if_pos h, if_neg (by omega)]
      rfl
    · have hc : (UInt8.ofNat (u % 128 + 128)).toNat = u % 128 + 128 := UInt8.toNat_ofNat_of_lt' (by change _ < 256; omega)
      have hk9 : k ≠ 9 := by
        rintro rfl
        have := nine hu; omega
      have hp := part u (2 ^ (7 * k))
      have hlt : u / 128 * 2 ^ (7 * (k + 1)) < 2 ^ 64 := by rw [pow_step]; omega
      rw [num.enc_more (by omega), List.cons_append, dec, hc, if_neg (by omega), if_neg (by omega), ih (u / 128) (by omega) (k + 1) _ hlt (by omega) (fun _ => by omega), pow_step, List.length_cons]
      have e : u % 128 + 128 - 128 = u % 128 := by omega
      rw [e]
      exact ok_eq (by rw [Nat.add_assoc, hp]) (by omega)
theorem dec_cut : ∀ (k u acc : Nat), u * 2 ^ (7 * k) < 2 ^ 64 → k ≤ 9 → dec k acc (num.enc u).dropLast = .error 4 := by
  intro k u
  induction u using Nat.strongRecOn generalizing k with
  | _ u ih =>
    intro acc hu hk
    by_cases h : u < 128
    · rw [num.enc_last h]; rfl
    · have hc : (UInt8.ofNat (u % 128 + 128)).toNat = u % 128 + 128 := UInt8.toNat_ofNat_of_lt' (by change _ < 256; omega)
      have hk9 : k ≠ 9 := by
        rintro rfl
        have := nine hu; omega
      have hp := part u (2 ^ (7 * k))
      have hlt : u / 128 * 2 ^ (7 * (k + 1)) < 2 ^ 64 := by rw [pow_step]; omega
      have hne : num.enc (u / 128) ≠ [] := fun e => by have := num.enc_pos (u / 128); rw [e] at this; simp at this
      rw [num.enc_more (by omega), List.dropLast_cons_of_ne_nil hne, dec, hc, if_neg (by omega), if_neg (by omega)]
      exact ih (u / 128) (by omega) (k + 1) _ hlt (by omega)
theorem num_zz {n : Int} : numOf (num.zz n).toNat = n := by
  unfold numOf num.zz
  split <;> split <;> omega
theorem zz_pow {n : Int} (h0 : -9223372036854775808 ≤ n) (h1 : n ≤ 9223372036854775807) : (num.zz n).toNat * 2 ^ (7 * 0) < 2 ^ 64 := by
  have h := num.zz_in h0 h1
  have e2 : 2 ^ 64 = 18446744073709551616 := by decide
  rw [e2]; simp; omega
/-- a number is got back from its bytes. -/
theorem res_back {s : ByteArray} {n : Int} {i : Int} {rest : List UInt8} (h0 : -9223372036854775808 ≤ n) (h1 : n ≤ 9223372036854775807) (hs : s.size ≤ 8000) (hi : 0 ≤ i) (hl : s.data.toList.drop i.toNat = (num.numB n).data.toList ++ rest) :
    res s i = .ok ((num.zz n).toNat, (num.numB n).size) := by
  rw [res_dec hs hi, hl]
  have e : (num.numB n).data.toList = num.enc (num.zz n).toNat := rfl
  rw [e, dec_enc rest 0 _ 0 (zz_pow h0 h1) (by omega) (by omega)]
  simp; rfl
theorem res_cut {s : ByteArray} {n : Int} (h0 : -9223372036854775808 ≤ n) (h1 : n ≤ 9223372036854775807) (hl : s.data.toList = (num.numB n).data.toList.dropLast) (hs : s.size ≤ 8000) : res s 0 = .error 4 := by
  rw [res_dec hs (by omega)]
  have e : (num.numB n).data.toList = num.enc (num.zz n).toNat := rfl
  simp only [Int.toNat_zero, List.drop_zero]
  rw [hl, e, dec_cut 0 _ 0 (zz_pow h0 h1) (by omega)]
end Go.Proofs.YtifgnebjjkjgoaaDoor.rd
