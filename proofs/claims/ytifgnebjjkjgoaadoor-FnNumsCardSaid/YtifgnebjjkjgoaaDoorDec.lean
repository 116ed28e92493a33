/- Numbers out of their bytes, plainly. No condition. -/
import Derived.WalkKit
import Derived.Lib.Strings
import Derived.Laws.Bits64
import Derived.Laws.Bits64b
import Derived.Laws.BitsAllLaws
namespace Go.Proofs.YtifgnebjjkjgoaaDoor.rd
open Go.RowKit Go.Lib
set_option linter.unusedVariables false
set_option linter.unusedSimpArgs false

/-- what comes of k bytes that are read already, and told u, and of the bytes that follow: a fault's code, or the number and how many bytes it has. -/
def dec : Nat → Nat → List UInt8 → Except Int (Nat × Nat)
  | _, _, [] => .error 4
  | k, u, c :: r =>
    if k = 9 ∧ 1 < c.toNat then .error 3
    else if c.toNat < 128 then (if c.toNat = 0 ∧ 0 < k then .error 3 else .ok (u + c.toNat * 2 ^ (7 * k), k + 1))
    else dec (k + 1) (u + (c.toNat - 128) * 2 ^ (7 * k)) r
/-- the number between the others that u stands for. -/
def numOf (u : Nat) : Int := if u % 2 = 1 then -((u / 2 : Nat) : Int) - 1 else ((u / 2 : Nat) : Int)
def codeV (r : Except Int (Nat × Nat)) : Int := match r with | .error c => c | .ok _ => 0
def numV (r : Except Int (Nat × Nat)) : Int := match r with | .error _ => 0 | .ok p => numOf p.1
def atV (i : Int) (r : Except Int (Nat × Nat)) : Int := match r with | .error _ => 0 | .ok p => i + (p.2 : Int)
/-- what is told of a text and a place. -/
def res (s : ByteArray) (i : Int) : Except Int (Nat × Nat) :=
  if 8000 < s.size then .error 2 else if i < 0 then .error 1 else dec 0 0 (s.data.toList.drop i.toNat)
theorem res_size {s : ByteArray} {i : Int} (h : 8000 < s.size) : res s i = .error 2 := if_pos h
theorem res_form {s : ByteArray} {i : Int} (h : s.size ≤ 8000) (hi : i < 0) : res s i = .error 1 := by unfold res; rw [if_neg (by omega), if_pos hi]
theorem res_dec {s : ByteArray} {i : Int} (h : s.size ≤ 8000) (hi : 0 ≤ i) : res s i = dec 0 0 (s.data.toList.drop i.toNat) := by unfold res; rw [if_neg (by omega), if_neg (by omega)]

theorem drop_at (s : ByteArray) (k : Nat) (h : k < s.size) : s.data.toList.drop k = s[k] :: s.data.toList.drop (k + 1) := by
  rw [List.drop_eq_getElem_cons (by simpa using h)]; rfl
theorem drop_end (s : ByteArray) (k : Nat) (h : s.size ≤ k) : s.data.toList.drop k = [] := List.drop_eq_nil_of_le (by simpa using h)

theorem dec_short {s : ByteArray} {k u p : Nat} (h : s.size ≤ p) : dec k u (s.data.toList.drop p) = .error 4 := by rw [drop_end s p h, dec]
theorem dec_ten {s : ByteArray} {k u p : Nat} (h : p < s.size) (hk : k = 9) (hc : 1 < s[p].toNat) : dec k u (s.data.toList.drop p) = .error 3 := by
  rw [drop_at s p h, dec, if_pos ⟨hk, hc⟩]
theorem dec_nought {s : ByteArray} {k u p : Nat} (h : p < s.size) (hk : 0 < k) (hc : s[p].toNat = 0) : dec k u (s.data.toList.drop p) = .error 3 := by
  rw [drop_at s p h, dec, if_neg (by omega), if_pos (by omega), if_pos ⟨hc, hk⟩]
theorem dec_last {s : ByteArray} {k u p : Nat} (h : p < s.size) (h9 : ¬ (k = 9 ∧ 1 < s[p].toNat)) (hc : s[p].toNat < 128) (h0 : ¬ (s[p].toNat = 0 ∧ 0 < k)) :
    dec k u (s.data.toList.drop p) = .ok (u + s[p].toNat * 2 ^ (7 * k), k + 1) := by
  rw [drop_at s p h, dec, if_neg h9, if_pos hc, if_neg h0]
theorem dec_more {s : ByteArray} {k u p : Nat} (h : p < s.size) (h9 : ¬ (k = 9 ∧ 1 < s[p].toNat)) (hc : 128 ≤ s[p].toNat) :
    dec k u (s.data.toList.drop p) = dec (k + 1) (u + (s[p].toNat - 128) * 2 ^ (7 * k)) (s.data.toList.drop (p + 1)) := by
  rw [drop_at s p h, dec, if_neg h9, if_neg (by omega)]

/-- seven more bits above those that are there. -/
theorem or_add {u b m : Nat} (hu : u < 2 ^ m) : u ||| b * 2 ^ m = u + b * 2 ^ m := by
  rw [Nat.or_comm, Nat.mul_comm b, ← Nat.two_pow_add_eq_or_of_lt hu b, Nat.add_comm]
theorem next_lt {u b m : Nat} (hu : u < 2 ^ m) (hb : b < 128) : u + b * 2 ^ m < 2 ^ (m + 7) := by
  have e : 2 ^ (m + 7) = 128 * 2 ^ m := by rw [Nat.pow_add]; omega
  have : b * 2 ^ m ≤ 127 * 2 ^ m := Nat.mul_le_mul_right _ (by omega)
  omega
end Go.Proofs.YtifgnebjjkjgoaaDoor.rd
