/- RefsOf, called with any expression, tells what its model tells, changes nothing, and its answer owns its memory. No condition. -/
import Derived.Test.YtgkcohclejmhkaaRows
import Derived.WalkKit
import Derived.ProofKit
import Derived.OpenShut
import Derived.ShutString
import Derived.ChangeOld
import Derived.Below
import Derived.Lib.Hide
import Derived.Test.YtgkcohclejmhkaaUi
import Derived.Test.YtgkcohclejmhkaaGd
import Derived.Test.YtgkcohclejmhkaaUz
import Derived.Test.YtgkcohclejmhkaaUt
import Derived.Test.YtgkcohclejmhkaaUm
import Derived.Test.YtgkcohclejmhkaaUh
import Derived.Test.YtgkcohclejmhkaaKp
import Derived.Test.YtgkcohclejmhkaaRfL
import Derived.Deep.RegionHeld3
namespace Go.Proofs.Ytgkcohclejmhkaa.fnExactRefsOf
open Go.ChangeShapes Go.WideShapes Go.ChangeAt Go.RowKit
open Go.ChangeMaps (open_string shut_string)
set_option linter.unusedVariables false
set_option linter.unusedSimpArgs false

theorem own : ownKnob Try.prog.godebug = none := by kernel_rfl
theorem laidOut : laidOutB Try.prog = true := by kernel_rfl

open vl mem ex un cf

set_option maxHeartbeats 8000000 in
set_option maxRecDepth 100000 in
theorem walk (n0 : Nat) (ds0 : List un.DC) (vs0 : List Value) (w : World) (w0 : un.Cells un.Any n0 w un.shExpr_ ds0 vs0) :
    Calls Try.prog 3 #[.agg vs0.toArray] w fun e w' => e = .returned (.bool true) ∧ Below w.heap.size w w' := by
  obtain ⟨xa0, xa1, xa2, sa3, la4, sa5, sa6, xa7, xa8, sa9, sa10, la11, Aa4, ca4, Aa11, ca11, rfl, rfl, -⟩ := open_Expr w0
  have HS0 := Lib.hid (Gd.ofC w0)
  clear w0
  obtain ⟨X, hX⟩ : ∃ X, cf.refsX n0 ([.i xa0, .i xa1, .i xa2, .s sa3, .l la4, .s sa5, .s sa6, .i xa7, .i xa8, .s sa9, .s sa10, .l la11]) = X := ⟨_, rfl⟩
  go_enter Try.func3, Try.ntmps3
  go_wp2_with fail
  refine (szExpr_all n0 Any _ _ (1048576) _ ((HS0.out.below (below_a1 _ _))).now (by omega) (by omega)).mono ?_
  rintro _ w1 ⟨x0, rfl, HX0, lo0, hi0, hb⟩
  have E1 := Lib.hid (below_then (below_a1 _ _) hb (Nat.le_refl _))
  have M1 : Hid (w.heap.size + 1 ≤ w1.heap.size) := (by (have hx := hb.size; (try simp at hx); show _ ≤ _; omega))
  have Bp01 := Lib.hid ((Kp.ofB (Blk.new w _ _)).below hb)
  have rp01 := Bp01.out.now.cell
  clear hb 
  by_cases hx0 : x0 < 0
  · go_wp2
    go_ret
    exact ⟨rfl, E1.out⟩
  have HC0 : Hid (cCs [.i xa0, .i xa1, .i xa2, .s sa3, .l la4, .s sa5, .s sa6, .i xa7, .i xa8, .s sa9, .s sa10, .l la11] ≤ 1048576) := by
    have q := HX0.out
    unfold leftI at q
    show _ ≤ _
    split at q <;> omega
  have hx0' : 0 ≤ x0 := by omega
  clear hx0 HX0
  have HNB0 : Hid (nV [.i xa0, .i xa1, .i xa2, .s sa3, .l la4, .s sa5, .s sa6, .i xa7, .i xa8, .s sa9, .s sa10, .l la11] ≤ 13631488) := by (have := nV_le HS0.out.now; have := HC0.out; show _ ≤ _; omega)
  have KT0 := fun (W : World) (h : Below w.heap.size w W) => Lib.hid (toExpr_all n0 Any [.i xa0, .i xa1, .i xa2, .s sa3, .l la4, .s sa5, .s sa6, .i xa7, .i xa8, .s sa9, .s sa10, .l la11] [.int .i64 xa0, .int .i64 xa1, .int .i64 xa2, .string sa3, .slice Aa4 la4.length ca4, .string sa5, .string sa6, .int .i64 xa7, .int .i64 xa8, .string sa9, .string sa10, .slice Aa11 la11.length ca11] W (HS0.out.below h).now HC0.out)
  go_wp2_with fail
  refine (KT0 _ E1.out).out.mono ?_
  rintro _ w2 ⟨us, rfl, ho, hb⟩
  have hc := ho.cells
  obtain ⟨Aua4, cua4, Aua11, cua11, rfl, -⟩ := openv_Expr hc
  clear hc
  replace ho := Kp.ofS ho
  have E2 := Lib.hid (below_then E1.out hb (Nat.le_refl _))
  have M2 : Hid (w1.heap.size ≤ w2.heap.size) := (by (have hx := hb.size; (try simp at hx); show _ ≤ _; omega))
  have Bp02 := Lib.hid ((Bp01.out).below hb)
  have rp02 := Bp02.out.now.cell
  have Su02 := Lib.hid ho
  clear ho hb Bp01 rp01 E1
  go_wp2_with fail
  refine (cf.refs_spec hX (Su02.out).now.cells).mono ?_
  rintro _ w3 ⟨us, rfl, ho, hb⟩
  obtain ⟨X', AW, cW, e', rfl, _⟩ := ho.lst
  injection e' with e'; subst e'
  replace ho := Kp.of1 ho.lw
  have E3 := Lib.hid (below_then E2.out hb (Nat.le_refl _))
  have M3 : Hid (w2.heap.size ≤ w3.heap.size) := (by (have hx := hb.size; (try simp at hx); show _ ≤ _; omega))
  have Bp03 := Lib.hid ((Bp02.out).below hb)
  have rp03 := Bp03.out.now.cell
  have Su03 := Lib.hid ((Su02.out).below hb)
  have SW3 := Lib.hid ho
  clear ho hb Bp02 rp02 Su02 E2
  clear Su03
  have HSP := Lib.hid SW3.out.now
  go_wp2_with fail
  refine (KT0 _ E3.out).out.mono ?_
  rintro _ w4 ⟨us, rfl, ho, hb⟩
  have hc := ho.cells
  obtain ⟨Axa4, cxa4, Axa11, cxa11, rfl, -⟩ := openv_Expr hc
  clear hc
  replace ho := Kp.ofS ho
  have E4 := Lib.hid (below_then E3.out hb (Nat.le_refl _))
  have M4 : Hid (w3.heap.size ≤ w4.heap.size) := (by (have hx := hb.size; (try simp at hx); show _ ≤ _; omega))
  have Bp04 := Lib.hid ((Bp03.out).below hb)
  have rp04 := Bp04.out.now.cell
  have SW4 := Lib.hid ((SW3.out).below hb)
  have Sx04 := Lib.hid ho
  clear ho hb Bp03 rp03 SW3 E3
  go_wp2_with fail
  refine (cf.refs_impl hX (Sx04.out.alloc _).now.cells).mono ?_
  rintro _ w5 ⟨us, rfl, ho, hb⟩
  obtain ⟨X', AG, cG, e', rfl, _⟩ := ho.cell.lst
  injection e' with e'; subst e'
  replace ho := Kp.ofO ho
  have E5 := Lib.hid (below_then (below_da E4.out (Nat.le_refl _) _) hb (Nat.le_refl _))
  have M5 : Hid (w4.heap.size + 1 ≤ w5.heap.size) := (by (have hx := hb.size; (try simp at hx); show _ ≤ _; omega))
  have Bp05 := Lib.hid ((Bp04.out.alloc _).below hb)
  have rp05 := Bp05.out.now.cell
  have Bx05 := Lib.hid ((Kp.ofB (Blk.new w4 _ _)).below hb)
  have rx05 := Bx05.out.now.cell
  have SW5 := Lib.hid ((SW4.out.alloc _).below hb)
  have Sx05 := Lib.hid ((Sx04.out.alloc _).below hb)
  have SG5 := Lib.hid ho
  clear ho hb Bp04 rp04 SW4 Sx04 E4
  go_wp2_with fail
  refine (eqAddrS_all 2 _ _ (.l X) _ _ _ (SG5.out).now.cell (SW5.out).now).mono ?_
  rintro _ w6 ⟨rfl, hb⟩
  have E6 := Lib.hid (below_then E5.out hb (Nat.le_refl _))
  have M6 : Hid (w5.heap.size ≤ w6.heap.size) := (by (have hx := hb.size; (try simp at hx); show _ ≤ _; omega))
  have Bp06 := Lib.hid ((Bp05.out).below hb)
  have rp06 := Bp06.out.now.cell
  have Bx06 := Lib.hid ((Bx05.out).below hb)
  have rx06 := Bx06.out.now.cell
  have SW6 := Lib.hid ((SW5.out).below hb)
  have Sx06 := Lib.hid ((Sx05.out).below hb)
  have SG6 := Lib.hid ((SG5.out).below hb)
  clear hb Bp05 rp05 Bx05 rx05 SW5 Sx05 SG5 E5
  go_wp2_with fail
  go_region_held3 (fun w' => w'.cell? ⟨w4.heap.size, 0, none⟩ = some (.int .i64 xa0) ∧ w'.cell? ⟨w4.heap.size, 1, none⟩ = some (.int .i64 xa1) ∧ w'.cell? ⟨w4.heap.size, 2, none⟩ = some (.int .i64 xa2) ∧ w'.cell? ⟨w4.heap.size, 3, none⟩ = some (.string sa3) ∧ w'.cell? ⟨w4.heap.size, 4, none⟩ = some (.slice Axa4 la4.length cxa4) ∧ w'.cell? ⟨w4.heap.size, 5, none⟩ = some (.string sa5) ∧ w'.cell? ⟨w4.heap.size, 6, none⟩ = some (.string sa6) ∧ w'.cell? ⟨w4.heap.size, 7, none⟩ = some (.int .i64 xa7) ∧ w'.cell? ⟨w4.heap.size, 8, none⟩ = some (.int .i64 xa8) ∧ w'.cell? ⟨w4.heap.size, 9, none⟩ = some (.string sa9) ∧ w'.cell? ⟨w4.heap.size, 10, none⟩ = some (.string sa10) ∧ w'.cell? ⟨w4.heap.size, 11, none⟩ = some (.slice Axa11 la11.length cxa11) ∧ w'.cell? ⟨w.heap.size, 0, none⟩ = some (.int .i64 xa0) ∧ w'.cell? ⟨w.heap.size, 1, none⟩ = some (.int .i64 xa1) ∧ w'.cell? ⟨w.heap.size, 2, none⟩ = some (.int .i64 xa2) ∧ w'.cell? ⟨w.heap.size, 3, none⟩ = some (.string sa3) ∧ w'.cell? ⟨w.heap.size, 4, none⟩ = some (.slice Aa4 la4.length ca4) ∧ w'.cell? ⟨w.heap.size, 5, none⟩ = some (.string sa5) ∧ w'.cell? ⟨w.heap.size, 6, none⟩ = some (.string sa6) ∧ w'.cell? ⟨w.heap.size, 7, none⟩ = some (.int .i64 xa7) ∧ w'.cell? ⟨w.heap.size, 8, none⟩ = some (.int .i64 xa8) ∧ w'.cell? ⟨w.heap.size, 9, none⟩ = some (.string sa9) ∧ w'.cell? ⟨w.heap.size, 10, none⟩ = some (.string sa10) ∧ w'.cell? ⟨w.heap.size, 11, none⟩ = some (.slice Aa11 la11.length ca11)) (go_keep)
    (first
    | (go_at_call 9; refine (KT0 _ ?_).out.mono ?_; exact below_dn E6.out _; rintro _ w7 ⟨us, rfl, ho, hb⟩; have hbb := below_then (below_d w6 _) hb (Nat.le_refl _); have hc := ho.cells; clear ho; obtain ⟨Aqa4, cqa4, Aqa11, cqa11, rfl, -⟩ := openv_Expr hc; have E7 := Lib.hid (below_then E6.out hbb (Nat.le_refl _)); have M7 : Hid (w6.heap.size ≤ w7.heap.size) := (by (have hx := hbb.size; (try simp at hx); show _ ≤ _; omega)); have Bp07 := Lib.hid ((Bp06.out).below hbb); have rp07 := Bp07.out.now.cell; have Bx07 := Lib.hid ((Bx06.out).below hbb); have rx07 := Bx07.out.now.cell; have SW7 := Lib.hid ((SW6.out).below hbb); have Sx07 := Lib.hid ((Sx06.out).below hbb); have SG7 := Lib.hid ((SG6.out).below hbb); have Sq7 := Lib.hid (Kp.ofC hc); clear hb hbb hc)
    | (go_at_call 12; refine (eqExpr_all n0 _ _ _ _ _ _ Sx07.out.now.cells Sq7.out.now).mono ?_; rintro _ w8 ⟨rfl, hb⟩; have E8 := Lib.hid (below_then E7.out hb (Nat.le_refl _)); have M8 : Hid (w7.heap.size ≤ w8.heap.size) := (by (have hx := hb.size; (try simp at hx); show _ ≤ _; omega)); have Bp08 := Lib.hid ((Bp07.out).below hb); have rp08 := Bp08.out.now.cell; have Bx08 := Lib.hid ((Bx07.out).below hb); have rx08 := Bx08.out.now.cell; have SW8 := Lib.hid ((SW7.out).below hb); have Sx08 := Lib.hid ((Sx07.out).below hb); have SG8 := Lib.hid ((SG7.out).below hb); have Sq8 := Lib.hid ((Sq7.out).below hb); clear hb))
  go_split_ands
  clear Sq8
  clear Bp06 rp06 Bx06 rx06 SW6 Sx06 SG6 E6 Bp07 rp07 Bx07 rx07 SW7 Sx07 SG7 E7
  clear Sq7
  go_wp2_with fail
  refine (mkExpr_all n0 _ [.i xa0, .i xa1, .i xa2, .s sa3, .l la4, .s sa5, .s sa6, .i xa7, .i xa8, .s sa9, .s sa10, .l la11] _ (1) 1 _ (Sx08.out).now (fun b hb => by have := M1.out; have := M2.out; have := M3.out; have := M4.out; have := M5.out; have := M6.out; have := M7.out; have := M8.out; simp [Rg] at hb; omega) rfl (by omega) (by (have := HNB0.out; omega))).mono ?_
  rintro _ w9 ⟨z9, rfl, hz9, hown, ho⟩
  have M9 : Hid (w8.heap.size ≤ w9.heap.size) := ho.size
  have E9 := Lib.hid (Below.only E8.out ho E8.out.size (fun b hb => by have := M1.out; have := M2.out; have := M3.out; have := M4.out; have := M5.out; have := M6.out; have := M7.out; have := M8.out; simp [Rg] at hb; omega))
  have Bp09 := Lib.hid (Bp08.out.only ho (fun b h1 h2 h3 => by have := M1.out; have := M2.out; have := M3.out; have := M4.out; have := M5.out; have := M6.out; have := M7.out; have := M8.out; simp [Rg] at h3; omega))
  have rp09 := Bp09.out.now.cell
  have Bx09 := Lib.hid (Bx08.out.only ho (fun b h1 h2 h3 => by have := M1.out; have := M2.out; have := M3.out; have := M4.out; have := M5.out; have := M6.out; have := M7.out; have := M8.out; simp [Rg] at h3; omega))
  have rx09 := Bx09.out.now.cell
  have SW9 := Lib.hid (SW8.out.only ho (fun b h1 h2 h3 => by have := M1.out; have := M2.out; have := M3.out; have := M4.out; have := M5.out; have := M6.out; have := M7.out; have := M8.out; (try simp [Rg, Lw] at h1); simp [Rg] at h3; omega))
  have SG9 := Lib.hid (SG8.out.only ho (fun b h1 h2 h3 => by have := M1.out; have := M2.out; have := M3.out; have := M4.out; have := M5.out; have := M6.out; have := M7.out; have := M8.out; (try simp [Rg, Lw] at h1); simp [Rg] at h3; omega))
  have Sx09 := Lib.hid (Kp.ofS hown)
  clear hown ho E8 Bp08 rp08 Bx08 rx08 SW8 Sx08 SG8
  have hz9' : 0 ≤ z9 := by omega
  clear hz9
  go_wp2_with fail
  refine (eqAddrS_all 2 _ _ (.l X) _ _ _ (SG9.out).now.cell (SW9.out).now).mono ?_
  rintro _ w10 ⟨rfl, hb⟩
  have E10 := Lib.hid (below_then E9.out hb (Nat.le_refl _))
  have M10 : Hid (w9.heap.size ≤ w10.heap.size) := (by (have hx := hb.size; (try simp at hx); show _ ≤ _; omega))
  have Bp010 := Lib.hid ((Bp09.out).below hb)
  have rp010 := Bp010.out.now.cell
  have Bx010 := Lib.hid ((Bx09.out).below hb)
  have rx010 := Bx010.out.now.cell
  have SW10 := Lib.hid ((SW9.out).below hb)
  have SG10 := Lib.hid ((SG9.out).below hb)
  have Sx010 := Lib.hid ((Sx09.out).below hb)
  clear hb Bp09 rp09 Bx09 rx09 SW9 SG9 Sx09 E9
  clear Sx010
  go_wp2_with fail
  refine (mkAddrS_all 2 _ X _ 1 1 _ (SG10.out).now rfl (by omega) ((by (have := cf.refs_bound (n := n0) (ds := [.i xa0, .i xa1, .i xa2, .s sa3, .l la4, .s sa5, .s sa6, .i xa7, .i xa8, .s sa9, .s sa10, .l la11]); rw [hX] at this; omega)))).mono ?_
  rintro _ w11 ⟨z11, rfl, hz11, hown, ho⟩
  have M11 : Hid (w10.heap.size ≤ w11.heap.size) := ho.size
  have E11 := Lib.hid (Below.only E10.out ho E10.out.size (fun b hb => by have := M1.out; have := M2.out; have := M3.out; have := M4.out; have := M5.out; have := M6.out; have := M7.out; have := M8.out; have := M9.out; have := M10.out; simp [Rg] at hb; omega))
  have Bp011 := Lib.hid (Bp010.out.only ho (fun b h1 h2 h3 => by have := M1.out; have := M2.out; have := M3.out; have := M4.out; have := M5.out; have := M6.out; have := M7.out; have := M8.out; have := M9.out; have := M10.out; simp [Rg] at h3; omega))
  have rp011 := Bp011.out.now.cell
  have Bx011 := Lib.hid (Bx010.out.only ho (fun b h1 h2 h3 => by have := M1.out; have := M2.out; have := M3.out; have := M4.out; have := M5.out; have := M6.out; have := M7.out; have := M8.out; have := M9.out; have := M10.out; simp [Rg] at h3; omega))
  have rx011 := Bx011.out.now.cell
  have SW11 := Lib.hid (SW10.out.only ho (fun b h1 h2 h3 => by have := M1.out; have := M2.out; have := M3.out; have := M4.out; have := M5.out; have := M6.out; have := M7.out; have := M8.out; have := M9.out; have := M10.out; (try simp [Rg, Lw] at h1); simp [Rg] at h3; omega))
  have SG11 := Lib.hid (Kp.ofO hown)
  clear hown ho E10 Bp010 rp010 Bx010 rx010 SW10 SG10
  go_wp2_with fail
  refine (hdAddrS_all 2 _ _ _ _ _ X _ 1 1 _ HSP.out (SG11.out).now.cell rfl (by omega) ((by (have := cf.refs_bound (n := n0) (ds := [.i xa0, .i xa1, .i xa2, .s sa3, .l la4, .s sa5, .s sa6, .i xa7, .i xa8, .s sa9, .s sa10, .l la11]); rw [hX] at this; omega)))).mono ?_
  rintro _ w12 ⟨y12, rfl, hy12, hb⟩
  have E12 := Lib.hid (below_then E11.out hb (Nat.le_refl _))
  have M12 : Hid (w11.heap.size ≤ w12.heap.size) := (by (have hx := hb.size; (try simp at hx); show _ ≤ _; omega))
  have Bp012 := Lib.hid ((Bp011.out).below hb)
  have rp012 := Bp012.out.now.cell
  have Bx012 := Lib.hid ((Bx011.out).below hb)
  have rx012 := Bx012.out.now.cell
  have SW12 := Lib.hid ((SW11.out).below hb)
  have SG12 := Lib.hid ((SG11.out).below hb)
  clear hb Bp011 rp011 Bx011 rx011 SW11 SG11 E11
  obtain rfl : y12 = z11 := by omega
  have hy0 : 0 ≤ y12 := by omega
  go_wp2_with fail
  refine (KT0 _ E12.out).out.mono ?_
  rintro _ w13 ⟨us, rfl, ho, hb⟩
  have hc := ho.cells
  obtain ⟨Ava4, cva4, Ava11, cva11, rfl, -⟩ := openv_Expr hc
  clear hc
  replace ho := Kp.ofS ho
  have E13 := Lib.hid (below_then E12.out hb (Nat.le_refl _))
  have M13 : Hid (w12.heap.size ≤ w13.heap.size) := (by (have hx := hb.size; (try simp at hx); show _ ≤ _; omega))
  have Bp013 := Lib.hid ((Bp012.out).below hb)
  have rp013 := Bp013.out.now.cell
  have Bx013 := Lib.hid ((Bx012.out).below hb)
  have rx013 := Bx013.out.now.cell
  have SW13 := Lib.hid ((SW12.out).below hb)
  have SG13 := Lib.hid ((SG12.out).below hb)
  have Sv013 := Lib.hid ho
  clear ho hb Bp012 rp012 Bx012 rx012 SW12 SG12 E12
  go_wp2_with fail
  refine (cf.refs_impl hX (Sv013.out).now.cells).mono ?_
  rintro _ w14 ⟨us, rfl, ho, hb⟩
  obtain ⟨X', AH, cH, e', rfl, _⟩ := ho.cell.lst
  injection e' with e'; subst e'
  replace ho := Kp.ofO ho
  have E14 := Lib.hid (below_then E13.out hb (Nat.le_refl _))
  have M14 : Hid (w13.heap.size ≤ w14.heap.size) := (by (have hx := hb.size; (try simp at hx); show _ ≤ _; omega))
  have Bp014 := Lib.hid ((Bp013.out).below hb)
  have rp014 := Bp014.out.now.cell
  have Bx014 := Lib.hid ((Bx013.out).below hb)
  have rx014 := Bx014.out.now.cell
  have SW14 := Lib.hid ((SW13.out).below hb)
  have SG14 := Lib.hid ((SG13.out).below hb)
  have Sv014 := Lib.hid ((Sv013.out).below hb)
  have SH14 := Lib.hid ho
  clear ho hb Bp013 rp013 Bx013 rx013 SW13 SG13 Sv013 E13
  clear Sv014
  go_wp2_with fail
  refine (eqAddrS_all 2 _ _ (.l X) _ _ _ (SH14.out).now.cell (SW14.out).now).mono ?_
  rintro _ w15 ⟨rfl, hb⟩
  have E15 := Lib.hid (below_then E14.out hb (Nat.le_refl _))
  have M15 : Hid (w14.heap.size ≤ w15.heap.size) := (by (have hx := hb.size; (try simp at hx); show _ ≤ _; omega))
  have Bp015 := Lib.hid ((Bp014.out).below hb)
  have rp015 := Bp015.out.now.cell
  have Bx015 := Lib.hid ((Bx014.out).below hb)
  have rx015 := Bx015.out.now.cell
  have SW15 := Lib.hid ((SW14.out).below hb)
  have SG15 := Lib.hid ((SG14.out).below hb)
  have SH15 := Lib.hid ((SH14.out).below hb)
  clear hb Bp014 rp014 Bx014 rx014 SW14 SG14 SH14 E14
  go_wp2_with fail
  refine (hdAddrS_all 2 _ _ _ _ _ X _ 1 1 _ HSP.out (SG15.out).now.cell rfl (by omega) ((by (have := cf.refs_bound (n := n0) (ds := [.i xa0, .i xa1, .i xa2, .s sa3, .l la4, .s sa5, .s sa6, .i xa7, .i xa8, .s sa9, .s sa10, .l la11]); rw [hX] at this; omega)))).mono ?_
  rintro _ w16 ⟨y16, rfl, hy16, hb⟩
  have E16 := Lib.hid (below_then E15.out hb (Nat.le_refl _))
  have M16 : Hid (w15.heap.size ≤ w16.heap.size) := (by (have hx := hb.size; (try simp at hx); show _ ≤ _; omega))
  have Bp016 := Lib.hid ((Bp015.out).below hb)
  have rp016 := Bp016.out.now.cell
  have Bx016 := Lib.hid ((Bx015.out).below hb)
  have rx016 := Bx016.out.now.cell
  have SW16 := Lib.hid ((SW15.out).below hb)
  have SG16 := Lib.hid ((SG15.out).below hb)
  have SH16 := Lib.hid ((SH15.out).below hb)
  clear hb Bp015 rp015 Bx015 rx015 SW15 SG15 SH15 E15
  obtain rfl : y16 = y12 := by omega
  clear KT0
  go_wp2
  go_ret
  exact ⟨rfl, E16.out⟩

set_option maxRecDepth 100000 in
theorem lifted (os : Os) (started : os.Started) (H : Type) (enc : TypeId × Value → H) :
    ReturnsInHanded {} Try.checked os 3 .any (Rows.fnExactRefsOfSpec.pre6 enc Try.prog Try.f3 Rows.fnExactRefsOfRow.domain false) (Rows.fnExactRefsOfSpec.post enc Try.prog Try.f3 false true false false) := by
  refine returnsInHanded_of_change (C := Try.checked) own started (by kernel_rfl) Try.func3
    (ChangeSpec.witness6 (enc := enc) (C := Try.checked) false ⟨#[], #[.agg #[.int .i64 0, .int .i64 0, .int .i64 0, .string ByteArray.empty, .slice none 0 0, .string ByteArray.empty, .string ByteArray.empty, .int .i64 0, .int .i64 0, .string ByteArray.empty, .string ByteArray.empty, .slice none 0 0]], []⟩ 8 (by kernel_rfl) (by kernel_rfl) (by kernel_rfl) (by kernel_rfl)) ?_
  intro W base args ds gs before hval0 hW hcnd _
  have hval : ∀ (j : Nat) t v, Try.f3.params[j]? = some t → args[j]? = some v → Value.okWide Try.prog W .any base t v := hval0
  have hW' := hW
  obtain ⟨p, q, hA0, hV, rfl, hfz, hnd⟩ := hW
  have hA : DataW.TrodAll enc Try.prog W 0 (fun _ => true) true Try.f3.params.toList args.toList ds p := hA0
  rw [Try.params3] at hA hval
  obtain ⟨v0, vs0, d0, ds0, p0, q0, hargs, rfl, rfl, h0, r0⟩ := trodAll_cons hA
  obtain ⟨rfl, rfl, rfl⟩ := trodAll_nil r0
  obtain rfl : args = #[v0] := by cases args; simp_all
  obtain ⟨rfl, rfl⟩ := trodVars_none hV
  have k0 := h0
  have lt0 : ∀ x ∈ p0, x.block < W.heap.size := by obtain ⟨m, hm⟩ := k0; exact DataW.trod_lt m _ _ _ hm
  obtain ⟨n0, ds0, vs0, rfl, w0⟩ := un.open_str_ Try.underlying29 (fun _ => un.in_Expr) (hval 0 29 v0 rfl rfl) h0
  clear hA0 hval0
  refine (walk n0 ds0 vs0 W w0).mono fun e W' ⟨he, bel⟩ => ?_
  subst he
  exact ⟨_, rfl, _, _, _, [], _, [], hW', trodAll_mk1 (shut_bool Try.underlying4 _), (trodAll_cons_mk (Below.trod laidOut (by kernel_rfl) (of_decide_eq_true (by kernel_rfl)) k0 bel lt0) trodAll_mk0), rfl, bel.frame _, fun h => by cases h⟩

theorem over : Rows.fnExactRefsOfRow.holds Try.pinned (OpenSpec.ofChange Rows.fnExactRefsOfSpec) :=
  OpenClaim.holds_of_wide 3 Try.f3 rfl rfl rfl rfl rfl rfl rfl ⟨rfl, rfl, rfl, rfl, rfl⟩ rfl rfl rfl rfl rfl (by kernel_rfl) Try.func3 (by kernel_rfl)
    (of_decide_eq_true (by kernel_rfl)) (by unfold Func.isWrapper; first | (rw [if_pos (by decide +kernel)]; kernel_rfl) | (rw [if_neg (by decide +kernel)]; exact ⟨rfl, rfl⟩))
    (fun os started H enc _ => lifted os started H enc)

/-- the statement -/
theorem proved : Rows.FnExactRefsOfSaid := over
end Go.Proofs.Ytgkcohclejmhkaa.fnExactRefsOf
