/- ValueRight, called with any value, tells what its model tells, and changes nothing. No condition. -/
import Derived.Test.YtnhoknbofmpdbaaRows
import Derived.WalkKit
import Derived.ProofKit
import Derived.OpenShut
import Derived.ShutString
import Derived.ChangeOld
import Derived.Below
import Derived.Lib.Hide
import Derived.Test.YtnhoknbofmpdbaaOpV
import Derived.Test.YtnhoknbofmpdbaaVlL
namespace Go.Proofs.Ytnhoknbofmpdbaa.fnExactValueRight
open Go.ChangeShapes Go.WideShapes Go.ChangeAt Go.RowKit
open Go.ChangeMaps (open_string shut_string)
set_option linter.unusedVariables false
set_option linter.unusedSimpArgs false

theorem own : ownKnob Try.prog.godebug = none := by kernel_rfl
theorem laidOut : laidOutB Try.prog = true := by kernel_rfl

open vl mem

set_option maxHeartbeats 2000000 in
set_option maxRecDepth 100000 in
theorem walk (D0 : vl.ValD) (w : World) (w0 : opv.ValIn D0) :
    Calls Try.prog 4 #[.agg #[.int .i64 D0.kind, .int .i64 D0.n, .string D0.text]] w fun e w' => e = .returned (.bool true) ∧ Below w.heap.size w w' := by
  have hs := w0.text
  clear w0
  have HS := Lib.hid hs
  by_cases hc : (D0.text.size : Int) ≤ 1048576
  · have HC := Lib.hid hc
    clear hc hs
    go_enter Try.func4, Try.ntmps4
    go_wp2_with fail
    refine (sz_val_ok D0 1048576 _ (by omega) (by omega) HS.out HC.out).mono ?_
    rintro _ w1 ⟨rfl, hb⟩
    have E1 := Lib.hid (below_then (below_a1 _ _) hb (Nat.le_refl _))
    have B1 := Lib.hid ((Blk.new w _ _).step hb)
    have q1 := B1.out.cell
    have hx0 : (0 : Int) ≤ 1048576 - D0.text.size := by have := HC.out; omega
    clear hb
    go_wp2_with fail
    refine (to_val D0 _).mono ?_
    rintro _ w2 ⟨rfl, hb⟩
    have E2 := Lib.hid (below_then E1.out hb (Nat.le_refl _))
    have B2 := Lib.hid (B1.out.step hb)
    have q2 := B2.out.cell
    clear hb q1 B1 E1
    go_wp2_with fail
    refine (right_spec D0 _ HS.out).mono ?_
    rintro _ w3 ⟨rfl, hb⟩
    have E3 := Lib.hid (below_then E2.out hb (Nat.le_refl _))
    have B3 := Lib.hid (B2.out.step hb)
    have q3 := B3.out.cell
    clear hb q2 B2 E2
    go_wp2_with fail
    refine (to_val D0 _).mono ?_
    rintro _ w4 ⟨rfl, hb⟩
    have E4 := Lib.hid (below_then E3.out hb (Nat.le_refl _))
    clear hb q3 B3 E3
    go_wp2_with fail
    refine (right_impl D0 _ HS.out).mono ?_
    rintro _ w5 ⟨rfl, hb⟩
    have E5 := Lib.hid (below_then E4.out hb (Nat.le_refl _))
    clear hb E4
    go_wp2
    go_ret
    exact ⟨rfl, E5.out⟩
  · have hc' : (1048576 : Int) < D0.text.size := by omega
    have HC := Lib.hid hc'
    clear hc hc' hs
    go_enter Try.func4, Try.ntmps4
    go_wp2_with fail
    refine (sz_val_no D0 1048576 _ (by omega) (by omega) HS.out HC.out).mono ?_
    rintro _ w1 ⟨rfl, hb⟩
    have E1 := Lib.hid (below_then (below_a1 _ _) hb (Nat.le_refl _))
    clear hb
    go_wp2
    go_ret
    exact ⟨rfl, E1.out⟩

set_option maxRecDepth 100000 in
theorem lifted (os : Os) (started : os.Started) (H : Type) (enc : TypeId × Value → H) :
    ReturnsInHanded {} Try.checked os 4 .any (Rows.fnExactValueRightSpec.pre6 enc Try.prog Try.f4 Rows.fnExactValueRightRow.domain false) (Rows.fnExactValueRightSpec.post enc Try.prog Try.f4 false true false false) := by
  refine returnsInHanded_of_change (C := Try.checked) own started (by kernel_rfl) Try.func4
    (ChangeSpec.witness6 (enc := enc) (C := Try.checked) false ⟨#[], #[.agg #[.int .i64 0, .int .i64 0, .string ByteArray.empty]], []⟩ 8 (by kernel_rfl) (by kernel_rfl) (by kernel_rfl) (by kernel_rfl)) ?_
  intro W base args ds gs before hval0 hW hcnd _
  have hval : ∀ (j : Nat) t v, Try.f4.params[j]? = some t → args[j]? = some v → Value.okWide Try.prog W .any base t v := hval0
  have hW' := hW
  obtain ⟨p, q, hA0, hV, rfl, hfz, hnd⟩ := hW
  have hA : DataW.TrodAll enc Try.prog W 0 (fun _ => true) true Try.f4.params.toList args.toList ds p := hA0
  rw [Try.params4] at hA hval
  obtain ⟨v0, vs0, d0, ds0, p0, q0, hargs, rfl, rfl, h0, r0⟩ := trodAll_cons hA
  obtain ⟨rfl, rfl, rfl⟩ := trodAll_nil r0
  obtain rfl : args = #[v0] := by cases args; simp_all
  obtain ⟨rfl, rfl⟩ := trodVars_none hV
  have k0 := h0
  have lt0 : ∀ x ∈ p0, x.block < W.heap.size := by obtain ⟨m, hm⟩ := k0; exact DataW.trod_lt m _ _ _ hm
  obtain ⟨D0, rfl, w0⟩ := opv.open_val (hval 0 31 v0 rfl rfl) h0
  clear hA0 hval0
  refine (walk D0 W w0).mono fun e W' ⟨he, bel⟩ => ?_
  subst he
  exact ⟨_, rfl, _, _, _, [], _, [], hW', trodAll_mk1 (shut_bool Try.underlying4 _), (trodAll_cons_mk (Below.trod laidOut (by kernel_rfl) (of_decide_eq_true (by kernel_rfl)) k0 bel lt0) trodAll_mk0), rfl, bel.frame _, fun h => by cases h⟩

theorem over : Rows.fnExactValueRightRow.holds Try.pinned (OpenSpec.ofChange Rows.fnExactValueRightSpec) :=
  OpenClaim.holds_of_wide 4 Try.f4 rfl rfl rfl rfl rfl rfl rfl ⟨rfl, rfl, rfl, rfl, rfl⟩ rfl rfl rfl rfl rfl (by kernel_rfl) Try.func4 (by kernel_rfl)
    (of_decide_eq_true (by kernel_rfl)) (by unfold Func.isWrapper; first | (rw [if_pos (by decide +kernel)]; kernel_rfl) | (rw [if_neg (by decide +kernel)]; exact ⟨rfl, rfl⟩))
    (fun os started H enc _ => lifted os started H enc)

/-- the statement -/
theorem proved : Rows.FnExactValueRightSaid := over
end Go.Proofs.Ytnhoknbofmpdbaa.fnExactValueRight
