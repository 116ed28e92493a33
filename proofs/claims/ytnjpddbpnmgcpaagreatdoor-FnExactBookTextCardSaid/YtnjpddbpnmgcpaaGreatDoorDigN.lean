/- Numbers written in digits, those below 0 too: the model's. -/
import Derived.Test.YtnjpddbpnmgcpaaGreatDoorDig
namespace Go.Proofs.YtnjpddbpnmgcpaaGreatDoor.dig
open ad mem
open Go.ChangeShapes Go.WideShapes Go.ChangeAt Go.RowKit Go.Lib
set_option linter.unusedVariables false
set_option linter.unusedSimpArgs false

set_option maxHeartbeats 1000000 in
theorem dec_neg (n : Nat) (w : World) (h0 : 0 < n) (hn : n ≤ 1000000000) :
    Calls Tryz.prog 38 #[.int .i64 (-(n : Int))] w (Told w (.string (bs (45 :: decDigits n)))) := by
  have hz : (-(n : Int) == 0) = false := by simp; omega
  have hlt : -(n : Int) < 0 := by omega
  have hdn : decide (-(n : Int) < 0) = true := by simp; omega
  have hb1 : (-9223372036854775808 : Int) ≤ -(n : Int) := by omega
  have hle := dec_len n
  go_enter Tryz.func38, Tryz.ntmps38
  go_wp2
  go_loopw [0, 4] (fun a s wr => ∃ (k : Nat) (l : List UInt8), k ≤ 1000000000 ∧ a = .int .i64 (-(k : Int)) ∧ s = .string (bs l) ∧ Left n k l ∧ Below w.heap.size w wr) (fun a _ _ => (-(RowKit.intOf a)).toNat)
  case atStart => exact ⟨n, [], hn, rfl, rfl, left_start h0, Below.refl _ _⟩
  case round =>
    obtain ⟨k, l, hk, rfl, rfl, hL, hb⟩ := hrel
    have HL := Lib.hid hL
    have HB := Lib.hid hb
    clear hL hb
    have hsz : (bs l).size ≤ 1000000001 := by have := left_len HL.out; rw [bs_size]; omega
    by_cases hk0 : k = 0
    · subst hk0
      have HE := Lib.hid (left_end HL.out)
      go_wp2
      go_ret
      exact ⟨ret_str (by rw [HE.out]; exact bs_cons 45 _), HB.out⟩
    · have hkb : (-(k : Int) != 0) = true := by simp; omega
      have hkp : 0 < k := by omega
      clear hk0
      have hq : -((k / 10 : Nat) : Int) = (-(k : Int)).tdiv 10 := by rw [Int.neg_tdiv, Int.tdiv_eq_ediv_of_nonneg (by omega)]; omega
      have hr : (-(k : Int)).tmod 10 = -((k : Int) % 10) := by rw [Int.neg_tmod, Int.tmod_eq_emod_of_nonneg (by omega)]
      have HQ := Lib.hid hq
      obtain ⟨b, hbd⟩ : ∃ b : UInt8, b = UInt8.ofNat (48 + k % 10) := ⟨_, rfl⟩
      have hbn : (b.toNat : Int) = 48 + (k : Int) % 10 := by rw [hbd]; exact digit_nat k
      have HBD := Lib.hid hbd
      have hx1 : 0 ≤ (k : Int) % 10 := by omega
      have hx2 : (k : Int) % 10 < 10 := by omega
      clear hq hbd
      generalize hm : (k : Int) % 10 = m at *
      clear hm
      by_cases h0 : m = 0
      · subst h0
        have hr' : (-(k : Int)).tmod 10 = 0 := by rw [hr]; rfl
        have hcv := fun (W : World) (c : Nat) => conv1 W 48 c b (by rw [hbn]; rfl)
        clear hr hbn
        go_wp2
        go_roundw
        case rel => exact ⟨k / 10, b :: l, by omega, by (have hq : ((k / 10 : Nat) : Int) = (k : Int) / 10 := by omega); rw [hq], by rw [bs_cons], by rw [HBD.out]; exact left_step HL.out hkp, HB.out.alloc HB.out.size _⟩
        case measure => simp [RowKit.intOf]; omega
      · have hpos : 0 < m := by omega
        have hneg : -m < 0 := by omega
        have hcv := fun (W : World) (c : Nat) => conv1 W (48 + m) c b hbn
        clear hbn h0
        go_wp2
        go_roundw
        case rel => exact ⟨k / 10, b :: l, by omega, by (have hq : ((k / 10 : Nat) : Int) = (k : Int) / 10 := by omega); rw [hq], by rw [bs_cons], by rw [HBD.out]; exact left_step HL.out hkp, HB.out.alloc HB.out.size _⟩
        case measure => simp [RowKit.intOf]; omega
theorem dec_int (x : Int) (w : World) (h1 : -1000000000 ≤ x) (h2 : x ≤ 1000000000) :
    Calls Tryz.prog 38 #[.int .i64 x] w (Told w (.string (bs (itoa x)))) := by
  by_cases h : x < 0
  · obtain ⟨n, rfl⟩ : ∃ n : Nat, x = -(n : Int) := ⟨x.natAbs, by omega⟩
    have := dec_neg n w (by omega) (by omega)
    have e : itoa (-(n : Int)) = 45 :: decDigits n := by unfold itoa; rw [if_pos h]; congr 2; omega
    rw [e]; exact this
  · obtain ⟨n, rfl⟩ : ∃ n : Nat, x = n := ⟨x.toNat, by omega⟩
    have := dec_spec n w (by omega)
    have e : itoa (n : Int) = decDigits n := by unfold itoa; rw [if_neg h]; congr 1
    rw [e]; exact this
end Go.Proofs.YtnjpddbpnmgcpaaGreatDoor.dig
