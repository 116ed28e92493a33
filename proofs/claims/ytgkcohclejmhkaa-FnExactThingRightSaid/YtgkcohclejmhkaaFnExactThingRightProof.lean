/- ThingRight, called with any thing, tells what its model tells, and changes nothing. No condition. -/
import Derived.Test.YtgkcohclejmhkaaRows
import Derived.WalkKit
import Derived.ProofKit
import Derived.OpenShut
import Derived.ShutString
import Derived.ChangeOld
import Derived.Below
import Derived.Lib.Hide
import Derived.Test.YtgkcohclejmhkaaUi
import Derived.Test.YtgkcohclejmhkaaGd
import Derived.Test.YtgkcohclejmhkaaUz
import Derived.Test.YtgkcohclejmhkaaUt
import Derived.Test.YtgkcohclejmhkaaThS
import Derived.Deep.RegionHeld3
namespace Go.Proofs.Ytgkcohclejmhkaa.fnExactThingRight
open Go.ChangeShapes Go.WideShapes Go.ChangeAt Go.RowKit
open Go.ChangeMaps (open_string shut_string)
set_option linter.unusedVariables false
set_option linter.unusedSimpArgs false

theorem own : ownKnob Try.prog.godebug = none := by kernel_rfl
theorem laidOut : laidOutB Try.prog = true := by kernel_rfl

open vl mem ex un cf

set_option maxHeartbeats 8000000 in
set_option maxRecDepth 100000 in
theorem walk (n0 : Nat) (ds0 : List un.DC) (vs0 : List Value) (w : World) (w0 : un.Cells un.Any n0 w un.shThing_ ds0 vs0) :
    Calls Try.prog 4 #[.agg vs0.toArray] w fun e w' => e = .returned (.bool true) ∧ Below w.heap.size w w' := by
  obtain ⟨la0, sa1, sa2, xa3, xa4, sa5, la6, la7, Aa0, ca0, Aa6, ca6, Aa7, ca7, rfl, rfl, -⟩ := open_Thing w0
  have HS0 := Lib.hid (Gd.ofC w0)
  clear w0
  go_enter Try.func4, Try.ntmps4
  go_wp2_with fail
  refine (szThing_all n0 Any _ _ (1048576) _ ((HS0.out.below (below_a1 _ _))).now (by omega) (by omega)).mono ?_
  rintro _ w1 ⟨x0, rfl, HX0, lo0, hi0, hb⟩
  have E1 := Lib.hid (below_then (below_a1 _ _) hb (Nat.le_refl _))
  have Bp01 := Lib.hid ((Blk.new w _ _).step hb)
  have rp01 := Bp01.out.cell
  have bp01 := Bp01.out.lt
  clear hb
  by_cases hx0 : x0 < 0
  · go_wp2
    go_ret
    exact ⟨rfl, E1.out⟩
  have HC0 : Hid (cCs [.l la0, .s sa1, .s sa2, .i xa3, .i xa4, .s sa5, .l la6, .l la7] ≤ 1048576) := by
    have q := HX0.out
    unfold leftI at q
    show _ ≤ _
    split at q <;> omega
  have hx0' : 0 ≤ x0 := by omega
  clear hx0 HX0
  have KT0 := fun (W : World) (h : Below w.heap.size w W) => Lib.hid (toThing_all n0 Any [.l la0, .s sa1, .s sa2, .i xa3, .i xa4, .s sa5, .l la6, .l la7] [.slice Aa0 la0.length ca0, .string sa1, .string sa2, .int .i64 xa3, .int .i64 xa4, .string sa5, .slice Aa6 la6.length ca6, .slice Aa7 la7.length ca7] W (HS0.out.below h).now HC0.out)
  go_wp2_with fail
  refine (KT0 _ E1.out).out.mono ?_
  rintro _ w2 ⟨us, rfl, ho, hb⟩
  have hc := ho.cells
  clear ho
  obtain ⟨Aua0, cua0, Aua6, cua6, Aua7, cua7, rfl, -⟩ := openv_Thing hc
  have E2 := Lib.hid (below_then E1.out hb (Nat.le_refl _))
  have Bp02 := Lib.hid ((Bp01.out).step hb)
  have rp02 := Bp02.out.cell
  have bp02 := Bp02.out.lt
  have Su02 := Lib.hid (Gd.ofC hc)
  clear hc hb Bp01 rp01 bp01 E1
  go_wp2_with fail
  refine (cf.thing_spec (n := n0) rfl (Su02.out).now).mono ?_
  rintro _ w3 ⟨rfl, hb⟩
  have E3 := Lib.hid (below_then E2.out hb (Nat.le_refl _))
  have Bp03 := Lib.hid ((Bp02.out).step hb)
  have rp03 := Bp03.out.cell
  have bp03 := Bp03.out.lt
  have Su03 := Lib.hid ((Su02.out).below hb)
  clear hb Bp02 rp02 bp02 Su02 E2
  clear Su03
  go_wp2_with fail
  refine (KT0 _ E3.out).out.mono ?_
  rintro _ w4 ⟨us, rfl, ho, hb⟩
  have hc := ho.cells
  clear ho
  obtain ⟨Axa0, cxa0, Axa6, cxa6, Axa7, cxa7, rfl, -⟩ := openv_Thing hc
  have E4 := Lib.hid (below_then E3.out hb (Nat.le_refl _))
  have Bp04 := Lib.hid ((Bp03.out).step hb)
  have rp04 := Bp04.out.cell
  have bp04 := Bp04.out.lt
  have Sx04 := Lib.hid (Gd.ofC hc)
  clear hc hb Bp03 rp03 bp03 E3
  go_wp2_with fail
  refine (cf.thing_impl (n := n0) rfl (Sx04.out.alloc _).now).mono ?_
  rintro _ w5 ⟨rfl, hb⟩
  have E5 := Lib.hid (below_then (below_da E4.out (Nat.le_refl _) _) hb (Nat.le_refl _))
  have Bp05 := Lib.hid ((Bp04.out.alloc _).step hb)
  have rp05 := Bp05.out.cell
  have bp05 := Bp05.out.lt
  have Bx05 := Lib.hid ((Blk.new w4 _ _).step hb)
  have rx05 := Bx05.out.cell
  have bx05 := Bx05.out.lt
  have Sx05 := Lib.hid ((Sx04.out.alloc _).below hb)
  clear hb Bp04 rp04 bp04 Sx04 E4
  go_wp2_with fail
  go_region_held3 (fun w' => w'.cell? ⟨w4.heap.size, 0, none⟩ = some (.slice Axa0 la0.length cxa0) ∧ w'.cell? ⟨w4.heap.size, 1, none⟩ = some (.string sa1) ∧ w'.cell? ⟨w4.heap.size, 2, none⟩ = some (.string sa2) ∧ w'.cell? ⟨w4.heap.size, 3, none⟩ = some (.int .i64 xa3) ∧ w'.cell? ⟨w4.heap.size, 4, none⟩ = some (.int .i64 xa4) ∧ w'.cell? ⟨w4.heap.size, 5, none⟩ = some (.string sa5) ∧ w'.cell? ⟨w4.heap.size, 6, none⟩ = some (.slice Axa6 la6.length cxa6) ∧ w'.cell? ⟨w4.heap.size, 7, none⟩ = some (.slice Axa7 la7.length cxa7) ∧ w'.cell? ⟨w.heap.size, 0, none⟩ = some (.slice Aa0 la0.length ca0) ∧ w'.cell? ⟨w.heap.size, 1, none⟩ = some (.string sa1) ∧ w'.cell? ⟨w.heap.size, 2, none⟩ = some (.string sa2) ∧ w'.cell? ⟨w.heap.size, 3, none⟩ = some (.int .i64 xa3) ∧ w'.cell? ⟨w.heap.size, 4, none⟩ = some (.int .i64 xa4) ∧ w'.cell? ⟨w.heap.size, 5, none⟩ = some (.string sa5) ∧ w'.cell? ⟨w.heap.size, 6, none⟩ = some (.slice Aa6 la6.length ca6) ∧ w'.cell? ⟨w.heap.size, 7, none⟩ = some (.slice Aa7 la7.length ca7)) (go_keep)
    (first
    | (go_at_call 18; refine (KT0 _ ?_).out.mono ?_; exact below_dn E5.out _; rintro _ w6 ⟨us, rfl, ho, hb⟩; have hbb := below_then (below_d w5 _) hb (Nat.le_refl _); have hc := ho.cells; clear ho; obtain ⟨Aqa0, cqa0, Aqa6, cqa6, Aqa7, cqa7, rfl, -⟩ := openv_Thing hc; have E6 := Lib.hid (below_then E5.out hbb (Nat.le_refl _)); have Bp06 := Lib.hid ((Bp05.out).step hbb); have rp06 := Bp06.out.cell; have bp06 := Bp06.out.lt; have Bx06 := Lib.hid ((Bx05.out).step hbb); have rx06 := Bx06.out.cell; have bx06 := Bx06.out.lt; have Sx06 := Lib.hid ((Sx05.out).below hbb); have Sq6 := Lib.hid (Gd.ofC hc); clear hb hbb hc)
    | (go_at_call 20; refine (eqThing_all n0 _ _ _ _ _ _ Sx06.out.now Sq6.out.now).mono ?_; rintro _ w7 ⟨rfl, hb⟩; have E7 := Lib.hid (below_then E6.out hb (Nat.le_refl _)); have Bp07 := Lib.hid ((Bp06.out).step hb); have rp07 := Bp07.out.cell; have bp07 := Bp07.out.lt; have Bx07 := Lib.hid ((Bx06.out).step hb); have rx07 := Bx07.out.cell; have bx07 := Bx07.out.lt; have Sx07 := Lib.hid ((Sx06.out).below hb); have Sq7 := Lib.hid ((Sq6.out).below hb); clear hb))
  clear KT0
  go_wp2
  go_ret
  exact ⟨rfl, E7.out⟩

set_option maxRecDepth 100000 in
theorem lifted (os : Os) (started : os.Started) (H : Type) (enc : TypeId × Value → H) :
    ReturnsInHanded {} Try.checked os 4 .any (Rows.fnExactThingRightSpec.pre6 enc Try.prog Try.f4 Rows.fnExactThingRightRow.domain false) (Rows.fnExactThingRightSpec.post enc Try.prog Try.f4 false true false false) := by
  refine returnsInHanded_of_change (C := Try.checked) own started (by kernel_rfl) Try.func4
    (ChangeSpec.witness6 (enc := enc) (C := Try.checked) false ⟨#[], #[.agg #[.slice none 0 0, .string ByteArray.empty, .string ByteArray.empty, .int .i64 0, .int .i64 0, .string ByteArray.empty, .slice none 0 0, .slice none 0 0]], []⟩ 8 (by kernel_rfl) (by kernel_rfl) (by kernel_rfl) (by kernel_rfl)) ?_
  intro W base args ds gs before hval0 hW hcnd _
  have hval : ∀ (j : Nat) t v, Try.f4.params[j]? = some t → args[j]? = some v → Value.okWide Try.prog W .any base t v := hval0
  have hW' := hW
  obtain ⟨p, q, hA0, hV, rfl, hfz, hnd⟩ := hW
  have hA : DataW.TrodAll enc Try.prog W 0 (fun _ => true) true Try.f4.params.toList args.toList ds p := hA0
  rw [Try.params4] at hA hval
  obtain ⟨v0, vs0, d0, ds0, p0, q0, hargs, rfl, rfl, h0, r0⟩ := trodAll_cons hA
  obtain ⟨rfl, rfl, rfl⟩ := trodAll_nil r0
  obtain rfl : args = #[v0] := by cases args; simp_all
  obtain ⟨rfl, rfl⟩ := trodVars_none hV
  have k0 := h0
  have lt0 : ∀ x ∈ p0, x.block < W.heap.size := by obtain ⟨m, hm⟩ := k0; exact DataW.trod_lt m _ _ _ hm
  obtain ⟨n0, ds0, vs0, rfl, w0⟩ := un.open_str_ Try.underlying47 (fun _ => un.in_Thing) (hval 0 47 v0 rfl rfl) h0
  clear hA0 hval0
  refine (walk n0 ds0 vs0 W w0).mono fun e W' ⟨he, bel⟩ => ?_
  subst he
  exact ⟨_, rfl, _, _, _, [], _, [], hW', trodAll_mk1 (shut_bool Try.underlying4 _), (trodAll_cons_mk (Below.trod laidOut (by kernel_rfl) (of_decide_eq_true (by kernel_rfl)) k0 bel lt0) trodAll_mk0), rfl, bel.frame _, fun h => by cases h⟩

theorem over : Rows.fnExactThingRightRow.holds Try.pinned (OpenSpec.ofChange Rows.fnExactThingRightSpec) :=
  OpenClaim.holds_of_wide 4 Try.f4 rfl rfl rfl rfl rfl rfl rfl ⟨rfl, rfl, rfl, rfl, rfl⟩ rfl rfl rfl rfl rfl (by kernel_rfl) Try.func4 (by kernel_rfl)
    (of_decide_eq_true (by kernel_rfl)) (by unfold Func.isWrapper; first | (rw [if_pos (by decide +kernel)]; kernel_rfl) | (rw [if_neg (by decide +kernel)]; exact ⟨rfl, rfl⟩))
    (fun os started H enc _ => lifted os started H enc)

/-- the statement -/
theorem proved : Rows.FnExactThingRightSaid := over
end Go.Proofs.Ytgkcohclejmhkaa.fnExactThingRight
