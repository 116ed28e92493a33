/- The CRC tells apart two texts that differ in one byte; it goes on from text to text. No condition. -/
import Derived.Test.YtifgnebjjkjgoaaCrcA
import Derived.Test.YtifgnebjjkjgoaaUnseal
import Derived.WalkKit
import Derived.Laws.BitsAllLaws
namespace Go.Proofs.Ytifgnebjjkjgoaa.crc
open Go.RowKit Go.Lib
set_option linter.unusedVariables false
set_option linter.unusedSimpArgs false

theorem and1 {q : Int} (h : In q) : bits .and .u32 q 1 = q % 2 := by
  obtain ⟨Q, rfl⟩ := Int.eq_ofNat_of_zero_le h.1
  have hQ := h.2
  have := u32_and_nat Q 1 (by omega) (by omega)
  rw [show ((1 : Nat) : Int) = 1 from rfl] at this
  rw [this, Nat.and_one_is_mod]; omega

theorem xor32 {a b : Int} (ha : In a) (hb : In b) : bits .xor .u32 a b = ((a.toNat ^^^ b.toNat : Nat) : Int) :=
  u32_xor a b ha.1 (by have := ha.2; omega) hb.1 (by have := hb.2; omega)
theorem xor_left {a b c : Int} (ha : In a) (hb : In b) (hc : In c) (h : bits .xor .u32 a c = bits .xor .u32 b c) : a = b := by
  rw [xor32 ha hc, xor32 hb hc] at h
  have h2 : a.toNat ^^^ c.toNat = b.toNat ^^^ c.toNat := by omega
  have h3 : a.toNat = b.toNat := by
    have := congrArg (· ^^^ c.toNat) h2
    simpa [Nat.xor_assoc] using this
  have := ha.1; have := hb.1; omega

theorem poly_in : In 3988292384 := ⟨by omega, by omega⟩
theorem high (a : Int) (h0 : 0 ≤ a) (h1 : a < 2147483648) : 2147483648 ≤ bits .xor .u32 a 3988292384 := by
  rw [xor32 ⟨h0, by omega⟩ poly_in]
  have hb : (a.toNat ^^^ (3988292384 : Int).toNat).testBit 31 = true := by
    rw [Nat.testBit_xor, Nat.testBit_lt_two_pow (by omega)]
    decide
  rcases Nat.lt_or_ge (a.toNat ^^^ (3988292384 : Int).toNat) (2 ^ 31) with h | h
  · rw [Nat.testBit_lt_two_pow h] at hb; cases hb
  · omega

theorem bit_inj {p q : Int} (hp : In p) (hq : In q) (h : bitB p = bitB q) : p = q := by
  have ap := and1 hp
  have aq := and1 hq
  have hp1 := hp.1; have hp2 := hp.2; have hq1 := hq.1; have hq2 := hq.2
  have key : ∀ x, In x → (x % 2 = 1 → bitB x = bits .xor .u32 (x / 2) 3988292384) ∧ (x % 2 = 0 → bitB x = x / 2) := fun x hx =>
    ⟨fun h => bitB_yes (by rw [and1 hx, h]; rfl), fun h => bitB_no (by rw [and1 hx, h]; rfl)⟩
  have kp := key p hp
  have kq := key q hq
  rcases Int.emod_two_eq p with e | e <;> rcases Int.emod_two_eq q with f | f
  · rw [kp.2 e, kq.2 f] at h; omega
  · rw [kp.2 e, kq.1 f] at h
    have := high (q / 2) (by omega) (by omega); omega
  · rw [kp.1 e, kq.2 f] at h
    have := high (p / 2) (by omega) (by omega); omega
  · rw [kp.1 e, kq.1 f] at h
    have := xor_left ⟨by omega, by omega⟩ ⟨by omega, by omega⟩ poly_in h; omega
theorem it_inj (m : Nat) {p q : Int} (hp : In p) (hq : In q) (h : it m p = it m q) : p = q := by
  induction m with
  | zero => exact h
  | succ m ih => exact ih (bit_inj (in_it m hp) (in_it m hq) h)
theorem byte_in (c : UInt8) : In ((c.toNat : Int) % 4294967296) := by have := c.toNat_lt; exact ⟨by omega, by omega⟩
theorem byte_inj_r {p q : Int} (hp : In p) (hq : In q) (c : UInt8) (h : byteB p c = byteB q c) : p = q :=
  xor_left hp hq (byte_in c) (it_inj 8 (in_xor _ _) (in_xor _ _) h)
theorem byte_inj_c {p : Int} (hp : In p) {c d : UInt8} (h : byteB p c = byteB p d) : c = d := by
  have h1 := it_inj 8 (in_xor _ _) (in_xor _ _) h
  rw [xor_turned _ p, xor_turned _ p] at h1
  have h2 := xor_left (byte_in c) (byte_in d) hp h1
  have := c.toNat_lt; have := d.toNat_lt
  apply UInt8.toNat.inj; omega
theorem reg_inj {p q : Int} (hp : In p) (hq : In q) (l : List UInt8) (h : reg p l = reg q l) : p = q := by
  induction l generalizing p q with
  | nil => exact h
  | cons c l ih => exact byte_inj_r hp hq c (ih (in_byte p c) (in_byte q c) h)
theorem inv_inj {p q : Int} (hp : In p) (hq : In q) (h : inv p = inv q) : p = q := xor_left hp hq ⟨by omega, by omega⟩ h
/-- one byte turned: another CRC. -/
theorem crc_turned {x : Int} (hx : In x) (l m : List UInt8) {c d : UInt8} (hcd : c ≠ d) : crcOf x (l ++ c :: m) ≠ crcOf x (l ++ d :: m) := by
  intro h
  have h1 := inv_inj (in_reg (in_inv x) _) (in_reg (in_inv x) _) h
  rw [reg_app, reg_app] at h1
  have h2 := reg_inj (in_byte _ c) (in_byte _ d) m h1
  exact hcd (byte_inj_c (in_reg (in_inv x) l) h2)
theorem inv_inv {q : Int} (hq : In q) : inv (inv q) = q := by
  unfold inv
  have h1 : In 4294967295 := ⟨by omega, by omega⟩
  rw [xor32 (in_xor q 4294967295) h1, xor32 hq h1]
  have : (((q.toNat ^^^ (4294967295 : Int).toNat : Nat) : Int)).toNat = q.toNat ^^^ (4294967295 : Int).toNat := Int.toNat_natCast _
  rw [this, Nat.xor_assoc, Nat.xor_self, Nat.xor_zero]
  have := hq.1; omega
/-- a CRC goes on from text to text. -/
theorem crc_goes (x : Int) (l m : List UInt8) : crcOf (crcOf x l) m = crcOf x (l ++ m) := by
  unfold crcOf
  rw [inv_inv (in_reg (in_inv x) l), reg_app]
end Go.Proofs.Ytifgnebjjkjgoaa.crc
