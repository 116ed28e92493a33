/- Meets, called with any two moves, tells what its model tells, and changes nothing. No condition. -/
import Derived.Test.YtflfnekaiaplfaaRows
import Derived.WalkKit
import Derived.ProofKit
import Derived.OpenShut
import Derived.ShutString
import Derived.ChangeOld
import Derived.Below
import Derived.Lib.Hide
import Derived.Test.YtflfnekaiaplfaaUi
import Derived.Test.YtflfnekaiaplfaaGd
import Derived.Test.YtflfnekaiaplfaaUz
import Derived.Test.YtflfnekaiaplfaaUt
import Derived.Test.YtflfnekaiaplfaaUe
import Derived.Test.YtflfnekaiaplfaaRm
import Derived.Test.YtflfnekaiaplfaaMwM
import Derived.Test.YtflfnekaiaplfaaMwT
import Derived.Deep.RegionHeld3
namespace Go.Proofs.Ytflfnekaiaplfaa.fnExactMeets
open Go.ChangeShapes Go.WideShapes Go.ChangeAt Go.RowKit
open Go.ChangeMaps (open_string shut_string)
set_option linter.unusedVariables false
set_option linter.unusedSimpArgs false

theorem own : ownKnob Try.prog.godebug = none := by kernel_rfl
theorem laidOut : laidOutB Try.prog = true := by kernel_rfl

open vl mem ex un cf

set_option maxHeartbeats 8000000 in
set_option maxRecDepth 100000 in
theorem walk (n0 : Nat) (ds0 : List un.DC) (vs0 : List Value) (n1 : Nat) (ds1 : List un.DC) (vs1 : List Value) (w : World) (w0 : un.Cells un.Any n0 w un.shMove_ ds0 vs0) (w1 : un.Cells un.Any n1 w un.shMove_ ds1 vs1) :
    Calls Try.prog 4 #[.agg vs0.toArray, .agg vs1.toArray] w fun e w' => e = .returned (.bool true) ∧ Below w.heap.size w w' := by
  obtain ⟨xa0, la1, sa2, sa3, xa4, xa5, sa6, la7, sa8, sa9, xa10, xa11, sa12, Aa1, ca1, Aa7, ca7, rfl, rfl, -⟩ := open_Move w0
  have HS0 := Lib.hid (Gd.ofC w0)
  clear w0
  obtain ⟨xb0, lb1, sb2, sb3, xb4, xb5, sb6, lb7, sb8, sb9, xb10, xb11, sb12, Ab1, cb1, Ab7, cb7, rfl, rfl, -⟩ := open_Move w1
  have HS1 := Lib.hid (Gd.ofC w1)
  clear w1
  go_enter Try.func4, Try.ntmps4
  go_wp2_with fail
  refine (szMove_all n0 Any _ _ (1048576) _ ((HS0.out.below (below_a2 _ _ _))).now (by omega) (by omega)).mono ?_
  rintro _ w1 ⟨x0, rfl, HX0, lo0, hi0, hb⟩
  have E1 := Lib.hid (below_then (below_a2 _ _ _) hb (Nat.le_refl _))
  have Bp01 := Lib.hid (((Blk.new w _ _).alloc _).step hb)
  have rp01 := Bp01.out.cell
  have bp01 := Bp01.out.lt
  have Bp11 := Lib.hid ((Blk.new1 w _ _ _).step hb)
  have rp11 := Bp11.out.cell
  have bp11 := Bp11.out.lt
  clear hb
  by_cases hx0 : x0 < 0
  · go_wp2
    go_ret
    exact ⟨rfl, E1.out⟩
  have HC0 : Hid (cCs [.i xa0, .l la1, .s sa2, .s sa3, .i xa4, .i xa5, .s sa6, .l la7, .s sa8, .s sa9, .i xa10, .i xa11, .s sa12] ≤ 1048576) := by
    have q := HX0.out
    unfold leftI at q
    show _ ≤ _
    split at q <;> omega
  have hx0' : 0 ≤ x0 := by omega
  clear hx0 HX0
  go_wp2_with fail
  refine (szMove_all n1 Any _ _ (x0) _ ((HS1.out.below E1.out)).now hx0' hi0).mono ?_
  rintro _ w2 ⟨x1, rfl, HX1, lo1, hi1, hb⟩
  have E2 := Lib.hid (below_then E1.out hb (Nat.le_refl _))
  have Bp02 := Lib.hid ((Bp01.out).step hb)
  have rp02 := Bp02.out.cell
  have bp02 := Bp02.out.lt
  have Bp12 := Lib.hid ((Bp11.out).step hb)
  have rp12 := Bp12.out.cell
  have bp12 := Bp12.out.lt
  clear hb Bp01 rp01 bp01 Bp11 rp11 bp11 E1
  by_cases hx1 : x1 < 0
  · go_wp2
    go_ret
    exact ⟨rfl, E2.out⟩
  have HC1 : Hid (cCs [.i xb0, .l lb1, .s sb2, .s sb3, .i xb4, .i xb5, .s sb6, .l lb7, .s sb8, .s sb9, .i xb10, .i xb11, .s sb12] ≤ 1048576) := by
    have q := HX1.out
    unfold leftI at q
    show _ ≤ _
    split at q <;> omega
  have hx1' : 0 ≤ x1 := by omega
  clear hx1 HX1
  have KT0 := fun (W : World) (h : Below w.heap.size w W) => Lib.hid (toMove_room n0 Any [.i xa0, .l la1, .s sa2, .s sa3, .i xa4, .i xa5, .s sa6, .l la7, .s sa8, .s sa9, .i xa10, .i xa11, .s sa12] [.int .i64 xa0, .slice Aa1 la1.length ca1, .string sa2, .string sa3, .int .i64 xa4, .int .i64 xa5, .string sa6, .slice Aa7 la7.length ca7, .string sa8, .string sa9, .int .i64 xa10, .int .i64 xa11, .string sa12] W (HS0.out.below h).now HC0.out)
  have KT1 := fun (W : World) (h : Below w.heap.size w W) => Lib.hid (toMove_room n1 Any [.i xb0, .l lb1, .s sb2, .s sb3, .i xb4, .i xb5, .s sb6, .l lb7, .s sb8, .s sb9, .i xb10, .i xb11, .s sb12] [.int .i64 xb0, .slice Ab1 lb1.length cb1, .string sb2, .string sb3, .int .i64 xb4, .int .i64 xb5, .string sb6, .slice Ab7 lb7.length cb7, .string sb8, .string sb9, .int .i64 xb10, .int .i64 xb11, .string sb12] W (HS1.out.below h).now HC1.out)
  go_wp2_with fail
  go_region_held3 (fun w' => w'.cell? ⟨w.heap.size, 0, none⟩ = some (.int .i64 xa0) ∧ w'.cell? ⟨w.heap.size, 1, none⟩ = some (.slice Aa1 la1.length ca1) ∧ w'.cell? ⟨w.heap.size, 2, none⟩ = some (.string sa2) ∧ w'.cell? ⟨w.heap.size, 3, none⟩ = some (.string sa3) ∧ w'.cell? ⟨w.heap.size, 4, none⟩ = some (.int .i64 xa4) ∧ w'.cell? ⟨w.heap.size, 5, none⟩ = some (.int .i64 xa5) ∧ w'.cell? ⟨w.heap.size, 6, none⟩ = some (.string sa6) ∧ w'.cell? ⟨w.heap.size, 7, none⟩ = some (.slice Aa7 la7.length ca7) ∧ w'.cell? ⟨w.heap.size, 8, none⟩ = some (.string sa8) ∧ w'.cell? ⟨w.heap.size, 9, none⟩ = some (.string sa9) ∧ w'.cell? ⟨w.heap.size, 10, none⟩ = some (.int .i64 xa10) ∧ w'.cell? ⟨w.heap.size, 11, none⟩ = some (.int .i64 xa11) ∧ w'.cell? ⟨w.heap.size, 12, none⟩ = some (.string sa12) ∧ w'.cell? ⟨w.heap.size + 1, 0, none⟩ = some (.int .i64 xb0) ∧ w'.cell? ⟨w.heap.size + 1, 1, none⟩ = some (.slice Ab1 lb1.length cb1) ∧ w'.cell? ⟨w.heap.size + 1, 2, none⟩ = some (.string sb2) ∧ w'.cell? ⟨w.heap.size + 1, 3, none⟩ = some (.string sb3) ∧ w'.cell? ⟨w.heap.size + 1, 4, none⟩ = some (.int .i64 xb4) ∧ w'.cell? ⟨w.heap.size + 1, 5, none⟩ = some (.int .i64 xb5) ∧ w'.cell? ⟨w.heap.size + 1, 6, none⟩ = some (.string sb6) ∧ w'.cell? ⟨w.heap.size + 1, 7, none⟩ = some (.slice Ab7 lb7.length cb7) ∧ w'.cell? ⟨w.heap.size + 1, 8, none⟩ = some (.string sb8) ∧ w'.cell? ⟨w.heap.size + 1, 9, none⟩ = some (.string sb9) ∧ w'.cell? ⟨w.heap.size + 1, 10, none⟩ = some (.int .i64 xb10) ∧ w'.cell? ⟨w.heap.size + 1, 11, none⟩ = some (.int .i64 xb11) ∧ w'.cell? ⟨w.heap.size + 1, 12, none⟩ = some (.string sb12)) (go_keep)
    (first
    | (go_at_call_of 8 (Value.string sa12); refine (KT0 _ ?_).out.mono ?_; exact below_dn E2.out _; rintro _ w3 ⟨us, rfl, HRu0, ho, hb⟩; have hbb := below_then (below_d w2 _) hb (Nat.le_refl _); have hc := ho.cells; clear ho; obtain ⟨Aua1, cua1, Aua7, cua7, rfl, -⟩ := openv_Move hc; have E3 := Lib.hid (below_then E2.out hbb (Nat.le_refl _)); have Bp03 := Lib.hid ((Bp02.out).step hbb); have rp03 := Bp03.out.cell; have bp03 := Bp03.out.lt; have Bp13 := Lib.hid ((Bp12.out).step hbb); have rp13 := Bp13.out.cell; have bp13 := Bp13.out.lt; have Su03 := Lib.hid (Gd.ofC hc); clear hb hbb hc)
    | (go_at_call_of 8 (Value.string sb12); refine (KT1 _ ?_).out.mono ?_; exact E3.out; rintro _ w4 ⟨us, rfl, HRu1, ho, hb⟩; have hc := ho.cells; clear ho; obtain ⟨Aub1, cub1, Aub7, cub7, rfl, -⟩ := openv_Move hc; have E4 := Lib.hid (below_then E3.out hb (Nat.le_refl _)); have Bp04 := Lib.hid ((Bp03.out).step hb); have rp04 := Bp04.out.cell; have bp04 := Bp04.out.lt; have Bp14 := Lib.hid ((Bp13.out).step hb); have rp14 := Bp14.out.cell; have bp14 := Bp14.out.lt; have Su04 := Lib.hid ((Su03.out).below hb); have Su14 := Lib.hid (Gd.ofC hc); clear hb hc)
    | (go_at_call 18; refine (cf.meets_spec (Su04.out).now (Su14.out).now HRu0.out HRu1.out).mono ?_; rintro _ w5 ⟨rfl, hb⟩; have E5 := Lib.hid (below_then E4.out hb (Nat.le_refl _)); have Bp05 := Lib.hid ((Bp04.out).step hb); have rp05 := Bp05.out.cell; have bp05 := Bp05.out.lt; have Bp15 := Lib.hid ((Bp14.out).step hb); have rp15 := Bp15.out.cell; have bp15 := Bp15.out.lt; have Su05 := Lib.hid ((Su04.out).below hb); have Su15 := Lib.hid ((Su14.out).below hb); clear hb))
  go_split_ands
  clear Bp02 rp02 bp02 Bp12 rp12 bp12 E2 Bp03 rp03 bp03 Bp13 rp13 bp13 Su03 E3 Bp04 rp04 bp04 Bp14 rp14 bp14 Su04 Su14 E4
  clear Su05
  clear Su15
  go_wp2_with fail
  refine (KT0 _ E5.out).out.mono ?_
  rintro _ w6 ⟨us, rfl, HRx0, ho, hb⟩
  have hc := ho.cells
  clear ho
  obtain ⟨Axa1, cxa1, Axa7, cxa7, rfl, -⟩ := openv_Move hc
  have E6 := Lib.hid (below_then E5.out hb (Nat.le_refl _))
  have Bp06 := Lib.hid ((Bp05.out).step hb)
  have rp06 := Bp06.out.cell
  have bp06 := Bp06.out.lt
  have Bp16 := Lib.hid ((Bp15.out).step hb)
  have rp16 := Bp16.out.cell
  have bp16 := Bp16.out.lt
  have Sx06 := Lib.hid (Gd.ofC hc)
  clear hc hb Bp05 rp05 bp05 Bp15 rp15 bp15 E5
  go_wp2_with fail
  refine (KT1 _ (below_da E6.out (Nat.le_refl _) _)).out.mono ?_
  rintro _ w7 ⟨us, rfl, HRx1, ho, hb⟩
  have hc := ho.cells
  clear ho
  obtain ⟨Axb1, cxb1, Axb7, cxb7, rfl, -⟩ := openv_Move hc
  have E7 := Lib.hid (below_then (below_da E6.out (Nat.le_refl _) _) hb (Nat.le_refl _))
  have Bp07 := Lib.hid ((Bp06.out.alloc _).step hb)
  have rp07 := Bp07.out.cell
  have bp07 := Bp07.out.lt
  have Bp17 := Lib.hid ((Bp16.out.alloc _).step hb)
  have rp17 := Bp17.out.cell
  have bp17 := Bp17.out.lt
  have Bx07 := Lib.hid ((Blk.new w6 _ _).step hb)
  have rx07 := Bx07.out.cell
  have bx07 := Bx07.out.lt
  have Sx07 := Lib.hid ((Sx06.out.alloc _).below hb)
  have Sx17 := Lib.hid (Gd.ofC hc)
  clear hc hb Bp06 rp06 bp06 Bp16 rp16 bp16 Sx06 E6
  go_wp2_with fail
  refine (cf.meets_impl (Sx07.out.alloc _).now (Sx17.out.alloc _).now).mono ?_
  rintro _ w8 ⟨rfl, hb⟩
  have E8 := Lib.hid (below_then (below_da E7.out (Nat.le_refl _) _) hb (Nat.le_refl _))
  have Bp08 := Lib.hid ((Bp07.out.alloc _).step hb)
  have rp08 := Bp08.out.cell
  have bp08 := Bp08.out.lt
  have Bp18 := Lib.hid ((Bp17.out.alloc _).step hb)
  have rp18 := Bp18.out.cell
  have bp18 := Bp18.out.lt
  have Bx08 := Lib.hid ((Bx07.out.alloc _).step hb)
  have rx08 := Bx08.out.cell
  have bx08 := Bx08.out.lt
  have Bx18 := Lib.hid ((Blk.new w7 _ _).step hb)
  have rx18 := Bx18.out.cell
  have bx18 := Bx18.out.lt
  have Sx08 := Lib.hid ((Sx07.out.alloc _).below hb)
  have Sx18 := Lib.hid ((Sx17.out.alloc _).below hb)
  clear hb Bp07 rp07 bp07 Bp17 rp17 bp17 Bx07 rx07 bx07 Sx07 Sx17 E7
  go_wp2_with fail
  go_region_held3 (fun w' => w'.cell? ⟨w6.heap.size, 0, none⟩ = some (.int .i64 xa0) ∧ w'.cell? ⟨w6.heap.size, 1, none⟩ = some (.slice Axa1 la1.length cxa1) ∧ w'.cell? ⟨w6.heap.size, 2, none⟩ = some (.string sa2) ∧ w'.cell? ⟨w6.heap.size, 3, none⟩ = some (.string sa3) ∧ w'.cell? ⟨w6.heap.size, 4, none⟩ = some (.int .i64 xa4) ∧ w'.cell? ⟨w6.heap.size, 5, none⟩ = some (.int .i64 xa5) ∧ w'.cell? ⟨w6.heap.size, 6, none⟩ = some (.string sa6) ∧ w'.cell? ⟨w6.heap.size, 7, none⟩ = some (.slice Axa7 la7.length cxa7) ∧ w'.cell? ⟨w6.heap.size, 8, none⟩ = some (.string sa8) ∧ w'.cell? ⟨w6.heap.size, 9, none⟩ = some (.string sa9) ∧ w'.cell? ⟨w6.heap.size, 10, none⟩ = some (.int .i64 xa10) ∧ w'.cell? ⟨w6.heap.size, 11, none⟩ = some (.int .i64 xa11) ∧ w'.cell? ⟨w6.heap.size, 12, none⟩ = some (.string sa12) ∧ w'.cell? ⟨w.heap.size, 0, none⟩ = some (.int .i64 xa0) ∧ w'.cell? ⟨w.heap.size, 1, none⟩ = some (.slice Aa1 la1.length ca1) ∧ w'.cell? ⟨w.heap.size, 2, none⟩ = some (.string sa2) ∧ w'.cell? ⟨w.heap.size, 3, none⟩ = some (.string sa3) ∧ w'.cell? ⟨w.heap.size, 4, none⟩ = some (.int .i64 xa4) ∧ w'.cell? ⟨w.heap.size, 5, none⟩ = some (.int .i64 xa5) ∧ w'.cell? ⟨w.heap.size, 6, none⟩ = some (.string sa6) ∧ w'.cell? ⟨w.heap.size, 7, none⟩ = some (.slice Aa7 la7.length ca7) ∧ w'.cell? ⟨w.heap.size, 8, none⟩ = some (.string sa8) ∧ w'.cell? ⟨w.heap.size, 9, none⟩ = some (.string sa9) ∧ w'.cell? ⟨w.heap.size, 10, none⟩ = some (.int .i64 xa10) ∧ w'.cell? ⟨w.heap.size, 11, none⟩ = some (.int .i64 xa11) ∧ w'.cell? ⟨w.heap.size, 12, none⟩ = some (.string sa12)) (go_keep)
    (first
    | (go_at_call 8; refine (KT0 _ ?_).out.mono ?_; exact below_dn E8.out _; rintro _ w9 ⟨us, rfl, _, ho, hb⟩; have hbb := below_then (below_d w8 _) hb (Nat.le_refl _); have hc := ho.cells; clear ho; obtain ⟨Aqa1, cqa1, Aqa7, cqa7, rfl, -⟩ := openv_Move hc; have E9 := Lib.hid (below_then E8.out hbb (Nat.le_refl _)); have Bp09 := Lib.hid ((Bp08.out).step hbb); have rp09 := Bp09.out.cell; have bp09 := Bp09.out.lt; have Bp19 := Lib.hid ((Bp18.out).step hbb); have rp19 := Bp19.out.cell; have bp19 := Bp19.out.lt; have Bx09 := Lib.hid ((Bx08.out).step hbb); have rx09 := Bx09.out.cell; have bx09 := Bx09.out.lt; have Bx19 := Lib.hid ((Bx18.out).step hbb); have rx19 := Bx19.out.cell; have bx19 := Bx19.out.lt; have Sx09 := Lib.hid ((Sx08.out).below hbb); have Sx19 := Lib.hid ((Sx18.out).below hbb); have Sq9 := Lib.hid (Gd.ofC hc); clear hb hbb hc)
    | (go_at_call 12; refine (eqMove_all n0 _ _ _ _ _ _ Sx09.out.now Sq9.out.now).mono ?_; rintro _ w10 ⟨rfl, hb⟩; have E10 := Lib.hid (below_then E9.out hb (Nat.le_refl _)); have Bp010 := Lib.hid ((Bp09.out).step hb); have rp010 := Bp010.out.cell; have bp010 := Bp010.out.lt; have Bp110 := Lib.hid ((Bp19.out).step hb); have rp110 := Bp110.out.cell; have bp110 := Bp110.out.lt; have Bx010 := Lib.hid ((Bx09.out).step hb); have rx010 := Bx010.out.cell; have bx010 := Bx010.out.lt; have Bx110 := Lib.hid ((Bx19.out).step hb); have rx110 := Bx110.out.cell; have bx110 := Bx110.out.lt; have Sx010 := Lib.hid ((Sx09.out).below hb); have Sx110 := Lib.hid ((Sx19.out).below hb); have Sq10 := Lib.hid ((Sq9.out).below hb); clear hb))
  go_split_ands
  clear Sq10
  clear Bp08 rp08 bp08 Bp18 rp18 bp18 Bx08 rx08 bx08 Bx18 rx18 bx18 Sx08 Sx18 E8 Bp09 rp09 bp09 Bp19 rp19 bp19 Bx09 rx09 bx09 Bx19 rx19 bx19 Sx09 Sx19 E9
  clear Sq9
  go_wp2_with fail
  go_region_held3 (fun w' => w'.cell? ⟨w7.heap.size, 0, none⟩ = some (.int .i64 xb0) ∧ w'.cell? ⟨w7.heap.size, 1, none⟩ = some (.slice Axb1 lb1.length cxb1) ∧ w'.cell? ⟨w7.heap.size, 2, none⟩ = some (.string sb2) ∧ w'.cell? ⟨w7.heap.size, 3, none⟩ = some (.string sb3) ∧ w'.cell? ⟨w7.heap.size, 4, none⟩ = some (.int .i64 xb4) ∧ w'.cell? ⟨w7.heap.size, 5, none⟩ = some (.int .i64 xb5) ∧ w'.cell? ⟨w7.heap.size, 6, none⟩ = some (.string sb6) ∧ w'.cell? ⟨w7.heap.size, 7, none⟩ = some (.slice Axb7 lb7.length cxb7) ∧ w'.cell? ⟨w7.heap.size, 8, none⟩ = some (.string sb8) ∧ w'.cell? ⟨w7.heap.size, 9, none⟩ = some (.string sb9) ∧ w'.cell? ⟨w7.heap.size, 10, none⟩ = some (.int .i64 xb10) ∧ w'.cell? ⟨w7.heap.size, 11, none⟩ = some (.int .i64 xb11) ∧ w'.cell? ⟨w7.heap.size, 12, none⟩ = some (.string sb12) ∧ w'.cell? ⟨w.heap.size + 1, 0, none⟩ = some (.int .i64 xb0) ∧ w'.cell? ⟨w.heap.size + 1, 1, none⟩ = some (.slice Ab1 lb1.length cb1) ∧ w'.cell? ⟨w.heap.size + 1, 2, none⟩ = some (.string sb2) ∧ w'.cell? ⟨w.heap.size + 1, 3, none⟩ = some (.string sb3) ∧ w'.cell? ⟨w.heap.size + 1, 4, none⟩ = some (.int .i64 xb4) ∧ w'.cell? ⟨w.heap.size + 1, 5, none⟩ = some (.int .i64 xb5) ∧ w'.cell? ⟨w.heap.size + 1, 6, none⟩ = some (.string sb6) ∧ w'.cell? ⟨w.heap.size + 1, 7, none⟩ = some (.slice Ab7 lb7.length cb7) ∧ w'.cell? ⟨w.heap.size + 1, 8, none⟩ = some (.string sb8) ∧ w'.cell? ⟨w.heap.size + 1, 9, none⟩ = some (.string sb9) ∧ w'.cell? ⟨w.heap.size + 1, 10, none⟩ = some (.int .i64 xb10) ∧ w'.cell? ⟨w.heap.size + 1, 11, none⟩ = some (.int .i64 xb11) ∧ w'.cell? ⟨w.heap.size + 1, 12, none⟩ = some (.string sb12)) (go_keep)
    (first
    | (go_at_call 8; refine (KT1 _ ?_).out.mono ?_; exact below_dn E10.out _; rintro _ w11 ⟨us, rfl, _, ho, hb⟩; have hbb := below_then (below_d w10 _) hb (Nat.le_refl _); have hc := ho.cells; clear ho; obtain ⟨Aqb1, cqb1, Aqb7, cqb7, rfl, -⟩ := openv_Move hc; have E11 := Lib.hid (below_then E10.out hbb (Nat.le_refl _)); have Bp011 := Lib.hid ((Bp010.out).step hbb); have rp011 := Bp011.out.cell; have bp011 := Bp011.out.lt; have Bp111 := Lib.hid ((Bp110.out).step hbb); have rp111 := Bp111.out.cell; have bp111 := Bp111.out.lt; have Bx011 := Lib.hid ((Bx010.out).step hbb); have rx011 := Bx011.out.cell; have bx011 := Bx011.out.lt; have Bx111 := Lib.hid ((Bx110.out).step hbb); have rx111 := Bx111.out.cell; have bx111 := Bx111.out.lt; have Sx011 := Lib.hid ((Sx010.out).below hbb); have Sx111 := Lib.hid ((Sx110.out).below hbb); have Sq11 := Lib.hid (Gd.ofC hc); clear hb hbb hc)
    | (go_at_call 12; refine (eqMove_all n1 _ _ _ _ _ _ Sx111.out.now Sq11.out.now).mono ?_; rintro _ w12 ⟨rfl, hb⟩; have E12 := Lib.hid (below_then E11.out hb (Nat.le_refl _)); have Bp012 := Lib.hid ((Bp011.out).step hb); have rp012 := Bp012.out.cell; have bp012 := Bp012.out.lt; have Bp112 := Lib.hid ((Bp111.out).step hb); have rp112 := Bp112.out.cell; have bp112 := Bp112.out.lt; have Bx012 := Lib.hid ((Bx011.out).step hb); have rx012 := Bx012.out.cell; have bx012 := Bx012.out.lt; have Bx112 := Lib.hid ((Bx111.out).step hb); have rx112 := Bx112.out.cell; have bx112 := Bx112.out.lt; have Sx012 := Lib.hid ((Sx011.out).below hb); have Sx112 := Lib.hid ((Sx111.out).below hb); have Sq12 := Lib.hid ((Sq11.out).below hb); clear hb))
  clear KT0 KT1
  go_wp2
  go_ret
  exact ⟨rfl, E12.out⟩

set_option maxRecDepth 100000 in
theorem lifted (os : Os) (started : os.Started) (H : Type) (enc : TypeId × Value → H) :
    ReturnsInHanded {} Try.checked os 4 .any (Rows.fnExactMeetsSpec.pre6 enc Try.prog Try.f4 Rows.fnExactMeetsRow.domain false) (Rows.fnExactMeetsSpec.post enc Try.prog Try.f4 false true false false) := by
  refine returnsInHanded_of_change (C := Try.checked) own started (by kernel_rfl) Try.func4
    (ChangeSpec.witness6 (enc := enc) (C := Try.checked) false ⟨#[], #[.agg #[.int .i64 0, .slice none 0 0, .string ByteArray.empty, .string ByteArray.empty, .int .i64 0, .int .i64 0, .string ByteArray.empty, .slice none 0 0, .string ByteArray.empty, .string ByteArray.empty, .int .i64 0, .int .i64 0, .string ByteArray.empty], .agg #[.int .i64 0, .slice none 0 0, .string ByteArray.empty, .string ByteArray.empty, .int .i64 0, .int .i64 0, .string ByteArray.empty, .slice none 0 0, .string ByteArray.empty, .string ByteArray.empty, .int .i64 0, .int .i64 0, .string ByteArray.empty]], []⟩ 8 (by kernel_rfl) (by kernel_rfl) (by kernel_rfl) (by kernel_rfl)) ?_
  intro W base args ds gs before hval0 hW hcnd _
  have hval : ∀ (j : Nat) t v, Try.f4.params[j]? = some t → args[j]? = some v → Value.okWide Try.prog W .any base t v := hval0
  have hW' := hW
  obtain ⟨p, q, hA0, hV, rfl, hfz, hnd⟩ := hW
  have hA : DataW.TrodAll enc Try.prog W 0 (fun _ => true) true Try.f4.params.toList args.toList ds p := hA0
  rw [Try.params4] at hA hval
  obtain ⟨v0, vs0, d0, ds0, p0, q0, hargs, rfl, rfl, h0, r0⟩ := trodAll_cons hA
  obtain ⟨v1, vs1, d1, ds1, p1, q1, rfl, rfl, rfl, h1, r1⟩ := trodAll_cons r0
  obtain ⟨rfl, rfl, rfl⟩ := trodAll_nil r1
  obtain rfl : args = #[v0, v1] := by cases args; simp_all
  obtain ⟨rfl, rfl⟩ := trodVars_none hV
  have k0 := h0
  have lt0 : ∀ x ∈ p0, x.block < W.heap.size := by obtain ⟨m, hm⟩ := k0; exact DataW.trod_lt m _ _ _ hm
  obtain ⟨n0, ds0, vs0, rfl, w0⟩ := un.open_str_ Try.underlying26 (fun _ => un.in_Move) (hval 0 26 v0 rfl rfl) h0
  have k1 := h1
  have lt1 : ∀ x ∈ p1, x.block < W.heap.size := by obtain ⟨m, hm⟩ := k1; exact DataW.trod_lt m _ _ _ hm
  obtain ⟨n1, ds1, vs1, rfl, w1⟩ := un.open_str_ Try.underlying26 (fun _ => un.in_Move) (hval 1 26 v1 rfl rfl) h1
  clear hA0 hval0
  refine (walk n0 ds0 vs0 n1 ds1 vs1 W w0 w1).mono fun e W' ⟨he, bel⟩ => ?_
  subst he
  exact ⟨_, rfl, _, _, _, [], _, [], hW', trodAll_mk1 (shut_bool Try.underlying4 _), (trodAll_cons_mk (Below.trod laidOut (by kernel_rfl) (of_decide_eq_true (by kernel_rfl)) k0 bel lt0) (trodAll_cons_mk (Below.trod laidOut (by kernel_rfl) (of_decide_eq_true (by kernel_rfl)) k1 bel lt1) trodAll_mk0)), rfl, bel.frame _, fun h => by cases h⟩

theorem over : Rows.fnExactMeetsRow.holds Try.pinned (OpenSpec.ofChange Rows.fnExactMeetsSpec) :=
  OpenClaim.holds_of_wide 4 Try.f4 rfl rfl rfl rfl rfl rfl rfl ⟨rfl, rfl, rfl, rfl, rfl⟩ rfl rfl rfl rfl rfl (by kernel_rfl) Try.func4 (by kernel_rfl)
    (of_decide_eq_true (by kernel_rfl)) (by unfold Func.isWrapper; first | (rw [if_pos (by decide +kernel)]; kernel_rfl) | (rw [if_neg (by decide +kernel)]; exact ⟨rfl, rfl⟩))
    (fun os started H enc _ => lifted os started H enc)

/-- the statement -/
theorem proved : Rows.FnExactMeetsSaid := over
end Go.Proofs.Ytflfnekaiaplfaa.fnExactMeets
