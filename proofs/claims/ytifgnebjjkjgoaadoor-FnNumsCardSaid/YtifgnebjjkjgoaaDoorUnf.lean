/- unfold: of a number between the others that which it stands for. Condition: it is from 0 to 2^64-1. -/
import Derived.Test.YtifgnebjjkjgoaaDoorRows
import Derived.Test.YtifgnebjjkjgoaaDoorDec
import Derived.WalkKit
import Derived.Lib.Hide
import Derived.Lib.Zigzag
import Derived.ProofKit
namespace Go.Proofs.YtifgnebjjkjgoaaDoor.rd
open Go.ChangeShapes Go.WideShapes Go.ChangeAt Go.RowKit
set_option linter.unusedVariables false
set_option linter.unusedSimpArgs false
theorem ret_num {k : IntKind} {a b : Int} (h : a = b) : Ending.returned (.int k a) = .returned (.int k b) := by rw [h]
theorem xor_turned (k : IntKind) (a b : Int) : bits .xor k a b = bits .xor k b a := by
  show k.wrap ((BitVec.ofInt k.bits a ^^^ BitVec.ofInt k.bits b).toNat : Int) = k.wrap ((BitVec.ofInt k.bits b ^^^ BitVec.ofInt k.bits a).toNat : Int)
  rw [BitVec.xor_comm]
theorem xor_none (x : Nat) (hx : x < 9223372036854775808) : bits .xor .i64 (x : Int) 0 = (x : Int) := by
  show IntKind.i64.wrap ((BitVec.ofInt 64 (x : Int) ^^^ BitVec.ofInt 64 0).toNat : Int) = _
  have h2 : (BitVec.ofInt 64 (x : Int)).toNat = x := by
    rw [BitVec.ofInt_natCast, BitVec.toNat_ofNat]; exact Nat.mod_eq_of_lt (by omega)
  have h0 : (BitVec.ofInt 64 0).toNat = 0 := by decide
  rw [BitVec.toNat_xor, h2, h0, Nat.xor_zero, IntKind.wrap_i64]
  omega

set_option maxHeartbeats 1000000 in
theorem unfold_any (u : Nat) (w : World) (h : (u : Int) ≤ 18446744073709551615) :
    Calls Tryd.prog 30 #[.int .u64 u] w fun e w' => e = .returned (.int .i64 (numOf u)) ∧ w = w' := by
  have hm := Lib.hid (Go.Lib.u64_and1 (u : Int) (by omega) (by omega))
  rcases Nat.mod_two_eq_zero_or_one u with h2 | h2
  · have h2' : bits .and .u64 (u : Int) 1 = 0 := by rw [hm.out]; omega
    have h3 := Lib.hid h2
    clear h2
    go_enter Tryd.func30, Tryd.ntmps30
    go_wp2
    go_ret
    refine ⟨ret_num ?_, rfl⟩
    have e : ((u : Int) / 2) = ((u / 2 : Nat) : Int) := by omega
    rw [e, xor_none _ (by omega), numOf, if_neg (by have := h3.out; omega)]
  · have h2' : bits .and .u64 (u : Int) 1 = 1 := by rw [hm.out]; omega
    have h3 := Lib.hid h2
    clear h2
    go_enter Tryd.func30, Tryd.ntmps30
    go_wp2
    go_ret
    refine ⟨ret_num ?_, rfl⟩
    have e : ((u : Int) / 2) = ((u / 2 : Nat) : Int) := by omega
    rw [e, xor_turned, Go.Lib.i64_not _ (by omega), numOf, if_pos h3.out]
end Go.Proofs.YtifgnebjjkjgoaaDoor.rd
