/- readNum, the program's: it tells what the bytes stand for, or the fault. Condition: the place is a number of int64. -/
import Derived.Test.YtifgnebjjkjgoaaDoorRows
import Derived.Test.YtifgnebjjkjgoaaDoorAs
import Derived.Test.YtifgnebjjkjgoaaDoorDec
import Derived.Test.YtifgnebjjkjgoaaDoorScope
import Derived.Test.YtifgnebjjkjgoaaDoorUnf
import Derived.WalkKit
import Derived.Lib.Hide
import Derived.ProofKit
import Derived.BigQuiet
import Derived.Handy
import Derived.WalkSmall
import Derived.Deep.QuietTactic
namespace Go.Proofs.YtifgnebjjkjgoaaDoor.rd
open Go.ChangeShapes Go.WideShapes Go.ChangeAt Go.RowKit Go.Proofs.YtifgnebjjkjgoaaDoor.scp
set_option linter.unusedVariables false
set_option linter.unusedSimpArgs false

/-- what is read on: k bytes are read, u is told by them. -/
def J1 (s : ByteArray) (i : Int) (w0 : World) (R : Except Int (Nat × Nat)) (n : Nat) (a : Act) (w : World) : Prop :=
  ∃ (k u : Nat) (p uu sh : Int) (j8 j11 j12 j13 j14 j15 j16 j17 j18 j19 j20 j21 j22 j23 j24 j25 j26 j27 j28 j29 j30 j31 j32 j33 j34 j35 j36 j37 j38 j39 j40 j41 j42 j43 j44 j45 j46 j47 j48 j49 j50 j51 j52 j53 j54 j55 j56 j57 j58 j59 j60 j61 : Value), a = { tmps := #[.string s, .int .i64 p, undef, undef, .int .i64 0, .int .i64 0, .nilIface, .int .u64 uu, j8, .int .u64 sh, .pointer (some ⟨w0.heap.size, 0, none⟩), j11, j12, j13, j14, j15, j16, j17, j18, j19, j20, j21, j22, j23, j24, j25, j26, j27, j28, j29, j30, j31, j32, j33, j34, j35, j36, j37, j38, j39, j40, j41, j42, j43, j44, j45, j46, j47, j48, j49, j50, j51, j52, j53, j54, j55, j56, j57, j58, j59, j60, j61], defers := [] } ∧ p = i + (k : Int) ∧ uu = (u : Int) ∧ sh = 7 * (k : Int) ∧ n = 12 - k ∧ k ≤ 9 ∧ u < 2 ^ (7 * k) ∧ dec k u (s.data.toList.drop (i.toNat + k)) = R ∧ w = w0.alloc (.cells #[.int .i64 0] 56)
/-- the last byte, c, is there. -/
def J2 (s : ByteArray) (i : Int) (w0 : World) (R : Except Int (Nat × Nat)) (n : Nat) (a : Act) (w : World) : Prop :=
  ∃ (k u c : Nat) (p uu cc sh : Int) (j11 j12 j13 j14 j15 j16 j17 j18 j19 j20 j21 j22 j23 j24 j25 j26 j27 j28 j29 j30 j31 j32 j33 j34 j35 j36 j37 j38 j39 j40 j41 j42 j43 j44 j45 j46 j47 j48 j49 j50 j51 j52 j53 j54 j55 j56 j57 j58 j59 j60 j61 : Value), a = { tmps := #[.string s, .int .i64 p, undef, undef, .int .i64 0, .int .i64 0, .nilIface, .int .u64 uu, .int .u64 cc, .int .u64 sh, .pointer (some ⟨w0.heap.size, 0, none⟩), j11, j12, j13, j14, j15, j16, j17, j18, j19, j20, j21, j22, j23, j24, j25, j26, j27, j28, j29, j30, j31, j32, j33, j34, j35, j36, j37, j38, j39, j40, j41, j42, j43, j44, j45, j46, j47, j48, j49, j50, j51, j52, j53, j54, j55, j56, j57, j58, j59, j60, j61], defers := [] } ∧ p = i + (k : Int) + 1 ∧ uu = (u : Int) ∧ cc = (c : Int) ∧ n = 1 ∧ k ≤ 9 ∧ u < 2 ^ (7 * k) ∧ sh = 7 * (k : Int) ∧ c < 128 ∧ (k = 9 → c ≤ 1) ∧
    R = (if c = 0 ∧ 0 < k then .error 3 else .ok (u + c * 2 ^ (7 * k), k + 1)) ∧ i + (k : Int) + 1 ≤ 9223372036854775807 ∧ w = w0.alloc (.cells #[.int .i64 0] 56)
/-- something is wrong. -/
def J0 (s : ByteArray) (w0 : World) (R : Except Int (Nat × Nat)) (n : Nat) (a : Act) (w : World) : Prop :=
  ∃ (code : Int) (j1 j7 j8 j9 j11 j12 j13 j14 j15 j16 j17 j18 j19 j20 j21 j22 j23 j24 j25 j26 j27 j28 j29 j30 j31 j32 j33 j34 j35 j36 j37 j38 j39 j40 j41 j42 j43 j44 j45 j46 j47 j48 j49 j50 j51 j52 j53 j54 j55 j56 j57 j58 j59 j60 j61 : Value), a = { tmps := #[.string s, j1, undef, undef, .int .i64 0, .int .i64 0, .nilIface, j7, j8, j9, .pointer (some ⟨w0.heap.size, 0, none⟩), j11, j12, j13, j14, j15, j16, j17, j18, j19, j20, j21, j22, j23, j24, j25, j26, j27, j28, j29, j30, j31, j32, j33, j34, j35, j36, j37, j38, j39, j40, j41, j42, j43, j44, j45, j46, j47, j48, j49, j50, j51, j52, j53, j54, j55, j56, j57, j58, j59, j60, j61], defers := [] } ∧ n = 0 ∧ R = .error code ∧ w = w0.alloc (.cells #[.int .i64 code] 56)
def J (s : ByteArray) (i : Int) (w0 : World) (R : Except Int (Nat × Nat)) (l n : Nat) (a : Act) (w : World) : Prop :=
  (l = 1 ∧ J1 s i w0 R n a w) ∨ (l = 2 ∧ J2 s i w0 R n a w) ∨ (l = 0 ∧ J0 s w0 R n a w)

/-- the fault, as an error. -/
def errV (R : Except Int (Nat × Nat)) : Value := match R with | .error c => .iface 56 (.agg #[.int .i64 c]) | .ok _ => .nilIface

theorem or_val {u c k : Nat} (hu : u < 2 ^ (7 * k)) (hc : 128 ≤ c) (hc2 : c < 256) (hk : k ≤ 8) :
    bits .or .u64 (u : Int) (IntKind.u64.wrap (((c : Int) - 128) * 2 ^ (7 * k))) = ((u + (c - 128) * 2 ^ (7 * k) : Nat) : Int) := by
  have hp : 2 ^ (7 * k) ≤ 2 ^ 56 := Nat.pow_le_pow_right (by omega) (by omega)
  have h56 : 2 ^ 56 = 72057594037927936 := by decide
  have hm : (c - 128) * 2 ^ (7 * k) ≤ 127 * 2 ^ (7 * k) := Nat.mul_le_mul_right _ (by omega)
  have e : IntKind.u64.wrap (((c : Int) - 128) * 2 ^ (7 * k)) = (((c - 128) * 2 ^ (7 * k) : Nat) : Int) := by
    have e1 : ((c : Int) - 128) = ((c - 128 : Nat) : Int) := by omega
    have e2 : ((c - 128 : Nat) : Int) * 2 ^ (7 * k) = (((c - 128) * 2 ^ (7 * k) : Nat) : Int) := by rw [Int.natCast_mul, Int.natCast_pow]; rfl
    rw [e1, e2, IntWalk.u64_in _ (by omega)]
  rw [e, bits_or_u64_nat _ _ (by omega) (by omega), or_add hu]

theorem or_val2 {u c k : Nat} (hu : u < 2 ^ (7 * k)) (hc : c < 128) (hk : k ≤ 9) (h9 : k = 9 → c ≤ 1) :
    bits .or .u64 (u : Int) (IntKind.u64.wrap ((c : Int) * 2 ^ (7 * k))) = ((u + c * 2 ^ (7 * k) : Nat) : Int) ∧ u + c * 2 ^ (7 * k) ≤ 18446744073709551615 := by
  have e2 : (c : Int) * 2 ^ (7 * k) = ((c * 2 ^ (7 * k) : Nat) : Int) := by rw [Int.natCast_mul, Int.natCast_pow]; rfl
  have hb : c * 2 ^ (7 * k) ≤ 9223372036854775808 ∧ u < 9223372036854775808 := by
    rcases Nat.lt_or_ge k 9 with h | h
    · have hp : 2 ^ (7 * k) ≤ 2 ^ 56 := Nat.pow_le_pow_right (by omega) (by omega)
      have h56 : 2 ^ 56 = 72057594037927936 := by decide
      have hm : c * 2 ^ (7 * k) ≤ 127 * 2 ^ (7 * k) := Nat.mul_le_mul_right _ (by omega)
      omega
    · obtain rfl : k = 9 := by omega
      have hm : c * 2 ^ (7 * 9) ≤ 1 * 2 ^ (7 * 9) := Nat.mul_le_mul_right _ (h9 rfl)
      have h63 : 2 ^ (7 * 9) = 9223372036854775808 := by decide
      omega
  rw [e2, IntWalk.u64_in _ (by omega), bits_or_u64_nat _ _ (by omega) (by omega), or_add hu]
  exact ⟨rfl, by omega⟩

theorem ret3 {a b c d : Int} {v : Value} (h : a = b) (h2 : c = d) : Ending.returned (.tuple #[.int .i64 a, .int .i64 c, v]) = .returned (.tuple #[.int .i64 b, .int .i64 d, v]) := by rw [h, h2]

set_option maxHeartbeats 4000000 in
set_option maxRecDepth 100000 in
theorem read_dec (s : ByteArray) (i : Int) (w : World) (hs : (s.size : Int) ≤ 8000) (hi : 0 ≤ i) (hi2 : i ≤ 9223372036854775807) (R : Except Int (Nat × Nat)) (hR : dec 0 0 (s.data.toList.drop i.toNat) = R) :
    Calls Tryd.prog 22 #[.string s, .int .i64 i] w fun e w' => e = .returned (.tuple #[.int .i64 (numV R), .int .i64 (atV i R), errV R]) ∧ Below w.heap.size w w' := by
  have HR := Lib.hid hR
  clear hR
  go_enter Tryd.func22, Tryd.ntmps22
  go_wp2
  refine wp_scope_many (J s i w R) ?_ ?_
  · rintro l n a w' (⟨rfl, k, u, p, uu, sh, j8, j11, j12, j13, j14, j15, j16, j17, j18, j19, j20, j21, j22, j23, j24, j25, j26, j27, j28, j29, j30, j31, j32, j33, j34, j35, j36, j37, j38, j39, j40, j41, j42, j43, j44, j45, j46, j47, j48, j49, j50, j51, j52, j53, j54, j55, j56, j57, j58, j59, j60, j61, rfl, rfl, rfl, rfl, rfl, hk, hu, hd, rfl⟩ | ⟨rfl, k, u, c, p, uu, cc, sh, j11, j12, j13, j14, j15, j16, j17, j18, j19, j20, j21, j22, j23, j24, j25, j26, j27, j28, j29, j30, j31, j32, j33, j34, j35, j36, j37, j38, j39, j40, j41, j42, j43, j44, j45, j46, j47, j48, j49, j50, j51, j52, j53, j54, j55, j56, j57, j58, j59, j60, j61, rfl, rfl, rfl, rfl, rfl, hk, hu, rfl, hc, hc9, hd, hat, rfl⟩ | ⟨rfl, code, j1, j7, j8, j9, j11, j12, j13, j14, j15, j16, j17, j18, j19, j20, j21, j22, j23, j24, j25, j26, j27, j28, j29, j30, j31, j32, j33, j34, j35, j36, j37, j38, j39, j40, j41, j42, j43, j44, j45, j46, j47, j48, j49, j50, j51, j52, j53, j54, j55, j56, j57, j58, j59, j60, j61, rfl, rfl, hd, rfl⟩)
    · refine ⟨_, rfl, ?_⟩
      have HD := Lib.hid hd
      have HU := Lib.hid hu
      clear hd hu
      by_cases h : i + (k : Int) < (s.size : Int)
      · have hp : i.toNat + k < s.size := by omega
        have e : (i + (k : Int)).toNat = i.toNat + k := by omega
        have d10 : k = 9 → 1 < s[i.toNat + k].toNat → R = .error 3 := fun h9 h1 => by rw [← HD.out]; exact dec_ten hp h9 h1
        have dl : ¬ (k = 9 ∧ 1 < s[i.toNat + k].toNat) → s[i.toNat + k].toNat < 128 → R = (if s[i.toNat + k].toNat = 0 ∧ 0 < k then .error 3 else .ok (u + s[i.toNat + k].toNat * 2 ^ (7 * k), k + 1)) := fun h9 h1 => by
          by_cases h0 : s[i.toNat + k].toNat = 0 ∧ 0 < k
          · rw [if_pos h0, ← HD.out]; exact dec_nought hp h0.2 h0.1
          · rw [if_neg h0, ← HD.out]; exact dec_last hp h9 h1 h0
        have dm : ¬ (k = 9 ∧ 1 < s[i.toNat + k].toNat) → 128 ≤ s[i.toNat + k].toNat → dec (k + 1) (u + (s[i.toNat + k].toNat - 128) * 2 ^ (7 * k)) (s.data.toList.drop (i.toNat + (k + 1))) = R := fun h9 h1 => by
          rw [← HD.out, dec_more hp h9 h1]; rfl
        have hbl : s[i.toNat + k].toNat < 256 := (s[i.toNat + k]).toNat_lt
        obtain ⟨b, hb⟩ : ∃ b, s[i.toNat + k] = b := ⟨_, rfl⟩
        rw [hb] at d10 dl dm hbl
        have D10 := Lib.hid d10
        have DL := Lib.hid dl
        have DM := Lib.hid dm
        clear d10 dl dm
        have hwr : IntKind.u64.wrap (b.toNat : Int) = (b.toNat : Int) := IntWalk.u64_in _ (by omega)
        go_wp2
        · go_step3
          exact ⟨0, by omega, Or.inr (Or.inr ⟨rfl, 3, _, _, _, _, _, _, _, _, _, _, _, _, _, _, _, _, _, _, _, _, _, _, _, _, _, _, _, _, _, _, _, _, _, _, _, _, _, _, _, _, _, _, _, _, _, _, _, _, _, _, _, _, _, _, _, rfl, rfl, D10.out (by omega) (by omega), rfl⟩)⟩
        · go_step3
          exact ⟨1, by omega, Or.inr (Or.inl ⟨rfl, k, u, b.toNat, _, _, _, _, _, _, _, _, _, _, _, _, _, _, _, _, _, _, _, _, _, _, _, _, _, _, _, _, _, _, _, _, _, _, _, _, _, _, _, _, _, _, _, _, _, _, _, _, _, _, _, _, _, _, _, rfl, rfl, rfl, rfl, rfl, hk, HU.out, by omega, by omega, by omega, DL.out (by omega) (by omega), by omega, rfl⟩)⟩
        · go_step3
          exact ⟨1, by omega, Or.inr (Or.inl ⟨rfl, k, u, b.toNat, _, _, _, _, _, _, _, _, _, _, _, _, _, _, _, _, _, _, _, _, _, _, _, _, _, _, _, _, _, _, _, _, _, _, _, _, _, _, _, _, _, _, _, _, _, _, _, _, _, _, _, _, _, _, _, rfl, rfl, rfl, rfl, rfl, hk, HU.out, by omega, by omega, by omega, DL.out (by omega) (by omega), by omega, rfl⟩)⟩
        · have hov := or_val (c := b.toNat) HU.out (by omega) hbl (by omega)
          have hnx := next_lt (b := b.toNat - 128) HU.out (by omega)
          go_step3
          exact ⟨11 - k, by omega, Or.inl ⟨rfl, k + 1, u + (b.toNat - 128) * 2 ^ (7 * k), _, _, _, _, _, _, _, _, _, _, _, _, _, _, _, _, _, _, _, _, _, _, _, _, _, _, _, _, _, _, _, _, _, _, _, _, _, _, _, _, _, _, _, _, _, _, _, _, _, _, _, _, _, _, _, rfl, by omega, hov, by omega, by omega, by omega, hnx, DM.out (by omega) (by omega), rfl⟩⟩
      · go_wp2
        go_step3
        refine ⟨0, by omega, Or.inr (Or.inr ⟨rfl, 4, _, _, _, _, _, _, _, _, _, _, _, _, _, _, _, _, _, _, _, _, _, _, _, _, _, _, _, _, _, _, _, _, _, _, _, _, _, _, _, _, _, _, _, _, _, _, _, _, _, _, _, _, _, _, _, rfl, rfl, ?_, rfl⟩)⟩
        rw [← HD.out, dec_short (by omega)]
    · refine ⟨_, rfl, ?_⟩
      have HU := Lib.hid hu
      have HD := Lib.hid hd
      obtain ⟨hv1, hv2⟩ := or_val2 hu hc hk hc9
      have HV := Lib.hid hv1
      have HC := Lib.hid hc9
      clear hu hd hv1 hc9
      by_cases h0 : c = 0 ∧ 0 < k
      · have hz : ((c : Int) == 0) = true := by simp [h0.1]
        have hk0 : (0 : Int) < 7 * (k : Int) := by omega
        have HZ := Lib.hid h0
        clear h0
        go_wp2
        go_step3
        refine ⟨0, by omega, Or.inr (Or.inr ⟨rfl, 3, _, _, _, _, _, _, _, _, _, _, _, _, _, _, _, _, _, _, _, _, _, _, _, _, _, _, _, _, _, _, _, _, _, _, _, _, _, _, _, _, _, _, _, _, _, _, _, _, _, _, _, _, _, _, _, rfl, rfl, ?_, rfl⟩)⟩
        rw [HD.out, if_pos HZ.out]
      · have hg : ((c : Int) == 0) = false ∨ ((c : Int) == 0) = true ∧ ¬ (0 : Int) < 7 * (k : Int) := by
          by_cases hc0 : c = 0
          · exact Or.inr ⟨by simp [hc0], by omega⟩
          · exact Or.inl (by simp [hc0])
        have HD2 : Hid (R = .ok (u + c * 2 ^ (7 * k), k + 1)) := by have := HD.out; rw [if_neg h0] at this; exact Lib.hid this
        clear h0
        rcases hg with hz | ⟨hz, hk0⟩
        all_goals
          go_wp2_with fail
          rw [HV.out]
          refine (unfold_any _ _ (by omega)).mono ?_
          rintro e w' ⟨rfl, rfl⟩
          go_wp2
          rw [jumpM_ret]
          go_ret3
          refine ⟨?_, ?_⟩
          · rw [HD2.out]; simp only [numV, atV, errV]; exact ret3 rfl (by omega)
          · exact (Below.refl _ _).alloc (Nat.le_refl _) _
    · refine ⟨_, rfl, ?_⟩
      have HD := Lib.hid hd
      clear hd
      go_wp2
      go_quiet (fail)
      go_wp2
      rw [jumpM_ret]
      go_ret3
      refine ⟨?_, ?_⟩
      · rw [HD.out]; rfl
      · exact below_drewN ((Below.refl _ _).alloc (Nat.le_refl _) _) _
  · intro H
    refine ⟨12, ?_⟩
    go_wp2
    go_step3
    rename_i hK
    refine hK _ _ (H 1 12 _ _ _ (Or.inl ⟨rfl, 0, 0, i, 0, 0, _, _, _, _, _, _, _, _, _, _, _, _, _, _, _, _, _, _, _, _, _, _, _, _, _, _, _, _, _, _, _, _, _, _, _, _, _, _, _, _, _, _, _, _, _, _, _, _, _, _, _, _, rfl, by simp, rfl, rfl, rfl, by omega, by simp, ?_, rfl⟩) rfl)
    exact HR.out
end Go.Proofs.YtifgnebjjkjgoaaDoor.rd
