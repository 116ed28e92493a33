/- ConfigRight of the program. -/
import Derived.Test.YtfiknlmcoifhlaaGreatCrE
namespace Go.Proofs.YtfiknlmcoifhlaaGreat.cf
open ad mem vl ex un cm
open Go.ChangeShapes Go.WideShapes Go.ChangeAt Go.RowKit Go.Lib
set_option linter.unusedVariables false
set_option maxRecDepth 8000
set_option linter.unusedSimpArgs false

def cfgB (n : Nat) (l0 l1 : List (List DC)) : Prop := l0.length ≤ 12 ∧ l1.length ≤ 12 ∧ allB n l0 = true ∧ riseBl n l0 = true ∧ allM n l1 = true
noncomputable def configB (n : Nat) (ds : List DC) : Bool := @decide (cfgB n (bL (ds.getD 0 z)) (bL (ds.getD 1 z))) (Classical.propDecidable _)
theorem configB_eq {n : Nat} {l0 l1 : List (List DC)} : configB n [.l l0, .l l1] = (decide (l0.length ≤ 12) && decide (l1.length ≤ 12) && allB n l0 && riseBl n l0 && allM n l1) := by
  show @decide (cfgB n l0 l1) (Classical.propDecidable _) = _
  rw [Bool.eq_iff_iff, @decide_eq_true_iff _ (Classical.propDecidable _)]
  simp [cfgB, and_assoc]
set_option maxHeartbeats 8000000 in
theorem config_impl {B : Nat → Prop} {n : Nat} {w : World} {ds : List DC} {vs : List Value} {r : Bool} (hr : configB n ds = r) (h : Cells B n w shConfig_ ds vs) :
    Calls Tryz.prog 7 #[.agg vs.toArray] w (un.Told w (.bool r)) := by
  subst hr
  obtain ⟨l0, l1, A0, c0, A1, c1, rfl, rfl, k0, k1⟩ := open_Config h
  have hlen0 := k0.len.2
  unfold maxLen at hlen0
  have hlen1 := k1.len.2
  unfold maxLen at hlen1
  have H0 := Lib.hid (Gd.of1 k0)
  have H1 := Lib.hid (Gd.of1 k1)
  clear h k0 k1
  rw [configB_eq]
  go_enter Tryz.func7, Tryz.ntmps7
  by_cases h0 : 12 < l0.length
  · go_wp2
    all_goals go_ret
    all_goals refine ⟨ret_bool ?_, (below_a1 _ _)⟩
    all_goals (simp; omega)
  have h0' : l0.length ≤ 12 := by omega
  clear h0
  by_cases h1 : 12 < l1.length
  · go_wp2
    all_goals go_ret
    all_goals refine ⟨ret_bool ?_, (below_a1 _ _)⟩
    all_goals (simp; omega)
  have h1' : l1.length ≤ 12 := by omega
  clear h1
  cases hb1 : allB n l0
  · go_wp2_with fail
    refine (every_blocks hb1 (H0.out.alloc _).now).mono ?_
    rintro _ w1 ⟨rfl, hb⟩
    have E1 := Lib.hid (below_then (below_a1 _ _) hb (Nat.le_refl _))
    have Bc1 := Lib.hid ((Blk.new w _ _).step hb)
    have rc1 := Bc1.out.cell
    have bc1 := Bc1.out.lt
    have SX1 := Lib.hid ((H0.out.alloc _).below hb)
    have SY1 := Lib.hid ((H1.out.alloc _).below hb)
    clear hb H0 H1
    go_wp2
    all_goals go_ret
    all_goals refine ⟨ret_bool ?_, E1.out⟩
    all_goals (simp [hb1])
  go_wp2_with fail
  refine (every_blocks hb1 (H0.out.alloc _).now).mono ?_
  rintro _ w1 ⟨rfl, hb⟩
  have E1 := Lib.hid (below_then (below_a1 _ _) hb (Nat.le_refl _))
  have Bc1 := Lib.hid ((Blk.new w _ _).step hb)
  have rc1 := Bc1.out.cell
  have bc1 := Bc1.out.lt
  have SX1 := Lib.hid ((H0.out.alloc _).below hb)
  have SY1 := Lib.hid ((H1.out.alloc _).below hb)
  clear hb H0 H1
  cases hr1 : riseBl n l0
  · go_wp2_with fail
    refine (rising_blocks hr1 (SX1.out).now).mono ?_
    rintro _ w2 ⟨rfl, hb⟩
    have E2 := Lib.hid (below_then E1.out hb (Nat.le_refl _))
    have Bc2 := Lib.hid ((Bc1.out).step hb)
    have rc2 := Bc2.out.cell
    have bc2 := Bc2.out.lt
    have SX2 := Lib.hid ((SX1.out).below hb)
    have SY2 := Lib.hid ((SY1.out).below hb)
    clear hb Bc1 rc1 bc1 SX1 SY1 E1
    go_wp2
    all_goals go_ret
    all_goals refine ⟨ret_bool ?_, E2.out⟩
    all_goals (simp [hr1])
  go_wp2_with fail
  refine (rising_blocks hr1 (SX1.out).now).mono ?_
  rintro _ w2 ⟨rfl, hb⟩
  have E2 := Lib.hid (below_then E1.out hb (Nat.le_refl _))
  have Bc2 := Lib.hid ((Bc1.out).step hb)
  have rc2 := Bc2.out.cell
  have bc2 := Bc2.out.lt
  have SX2 := Lib.hid ((SX1.out).below hb)
  have SY2 := Lib.hid ((SY1.out).below hb)
  clear hb Bc1 rc1 bc1 SX1 SY1 E1
  go_wp2_with fail
  refine (every_moves (r := allM n l1) rfl (SY2.out).now).mono ?_
  rintro _ w3 ⟨rfl, hb⟩
  have E3 := Lib.hid (below_then E2.out hb (Nat.le_refl _))
  have Bc3 := Lib.hid ((Bc2.out).step hb)
  have rc3 := Bc3.out.cell
  have bc3 := Bc3.out.lt
  have SX3 := Lib.hid ((SX2.out).below hb)
  have SY3 := Lib.hid ((SY2.out).below hb)
  clear hb Bc2 rc2 bc2 SX2 SY2 E2
  go_wp2
  all_goals go_ret
  all_goals refine ⟨ret_bool ?_, E3.out⟩
  all_goals (simp [hb1, hr1, h0', h1'])
end Go.Proofs.YtfiknlmcoifhlaaGreat.cf
