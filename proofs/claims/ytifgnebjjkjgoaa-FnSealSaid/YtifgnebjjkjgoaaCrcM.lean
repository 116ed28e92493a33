/- The CRC's register, in plain numbers: how it goes on by a bit, by a byte, by a text. No condition. -/
import Derived.WalkKit
import Derived.Laws.Closers25b
import Derived.Laws.BitsAllLaws
namespace Go.Proofs.Ytifgnebjjkjgoaa.crc
open Go.RowKit
set_option linter.unusedVariables false
set_option linter.unusedSimpArgs false

theorem ret_num {k : IntKind} {a b : Int} (h : a = b) : Ending.returned (.int k a) = .returned (.int k b) := by rw [h]

def bitB (q : Int) : Int := if (bits .and .u32 q 1 == 1) = true then bits .xor .u32 (q / 2) 3988292384 else q / 2
def it : Nat → Int → Int
  | 0, q => q
  | m + 1, q => bitB (it m q)
def byteB (r : Int) (c : UInt8) : Int := it 8 (bits .xor .u32 r ((c.toNat : Int) % 4294967296))
def reg (r : Int) (l : List UInt8) : Int := l.foldl byteB r

theorem bitB_yes {q : Int} (h : (bits .and .u32 q 1 == 1) = true) : bitB q = bits .xor .u32 (q / 2) 3988292384 := by simp only [bitB, h, if_true]
theorem bitB_no {q : Int} (h : (bits .and .u32 q 1 == 1) = false) : bitB q = q / 2 := by simp [bitB, h]

def In (q : Int) : Prop := 0 ≤ q ∧ q ≤ 4294967295

theorem in_xor (a b : Int) : In (bits .xor .u32 a b) := ⟨bits_lo_u32 _ _ _, bits_hi_u32 _ _ _⟩
theorem in_bit {q : Int} (h : In q) : In (bitB q) := by
  unfold bitB; unfold In at h ⊢; split
  · exact in_xor _ _
  · omega
theorem in_it (m : Nat) {q : Int} (h : In q) : In (it m q) := by
  induction m with
  | zero => exact h
  | succ m ih => exact in_bit ih
theorem in_byte (r : Int) (c : UInt8) : In (byteB r c) := in_it 8 (in_xor _ _)
theorem in_reg {r : Int} (h : In r) (l : List UInt8) : In (reg r l) := by
  induction l generalizing r with
  | nil => exact h
  | cons c l ih => exact ih (in_byte r c)
theorem reg_snoc (r : Int) (l : List UInt8) (c : UInt8) : reg r (l ++ [c]) = byteB (reg r l) c := by simp [reg]
theorem reg_app (r : Int) (l m : List UInt8) : reg r (l ++ m) = reg (reg r l) m := by simp [reg]
theorem take_snoc (s : ByteArray) (k : Nat) (h : k < s.size) : s.data.toList.take (k + 1) = s.data.toList.take k ++ [s[k]] := by
  rw [List.take_succ_eq_append_getElem (by simpa using h)]; rfl
theorem reg_take (r : Int) (s : ByteArray) (k : Nat) (h : k < s.size) : reg r (s.data.toList.take (k + 1)) = byteB (reg r (s.data.toList.take k)) s[k] := by
  rw [take_snoc s k h, reg_snoc]
theorem reg_all (r : Int) (s : ByteArray) (k : Nat) (h : s.size ≤ k) : reg r (s.data.toList.take k) = reg r s.data.toList := by
  rw [List.take_of_length_le (by simpa using h)]
end Go.Proofs.Ytifgnebjjkjgoaa.crc
