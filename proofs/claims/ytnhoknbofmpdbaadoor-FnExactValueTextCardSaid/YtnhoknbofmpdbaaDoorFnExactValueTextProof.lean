/- ValueText, called with any value, tells the text that its model tells, and changes nothing. Conditions: none but the card's own: the library's tables that the row lists (the powers of ten) start as the program's text lays them. -/
import Derived.Test.YtnhoknbofmpdbaaDoorCards
import Derived.Test.YtnhoknbofmpdbaaDoorTie
import Derived.WalkKit
import Derived.ProofKit
import Derived.OpenShut
import Derived.ShutString
import Derived.ChangeOld
import Derived.Below
import Derived.LaidHandle
import Derived.LaidLaws
import Derived.LaidOnce
import Derived.LaidMore
import Derived.MakeChecks
import Derived.RowKitTokens
import Derived.Deep.DeepHandedRow
import Derived.Stop.Joined
import Derived.SevenTiedAt
import Derived.Handy
import Derived.Lib.Hide
import Derived.Test.YtnhoknbofmpdbaaDoorVlLP
import Derived.Test.YtnhoknbofmpdbaaDoorVlT
import Derived.Test.YtnhoknbofmpdbaaDoorOpV
import Derived.Test.YtnhoknbofmpdbaaDoorLaid
namespace Go.Proofs.YtnhoknbofmpdbaaDoor.fnExactValueText
open Go.ChangeShapes Go.WideShapes Go.ChangeAt Go.RowKit
open Go.ChangeMaps (open_string shut_string)
set_option linter.unusedVariables false
set_option linter.unusedSimpArgs false

theorem own : ownKnob Tryd.prog.godebug = none := by kernel_rfl
theorem laidOut : laidOutB Tryd.prog = true := by kernel_rfl
open vl mem

set_option maxHeartbeats 2000000 in
set_option maxRecDepth 100000 in
theorem walk (D0 : vl.ValD) (w : World) (w0 : opv.ValIn D0) (hL : laid.Met w) :
    Calls Tryd.prog 4 #[.agg #[.int .i64 D0.kind, .int .i64 D0.n, .string D0.text]] w fun e w' => e = .returned (.bool true) ∧ Below w.heap.size w w' := by
  have hs := w0.text
  clear w0
  have HS := Lib.hid hs
  have HT := Lib.hid hL
  by_cases hc : (D0.text.size : Int) ≤ 1048576
  · have HC := Lib.hid hc
    clear hc hs hL
    go_enter Tryd.func4, Tryd.ntmps4
    go_wp2_with fail
    refine (sz_val_ok D0 1048576 _ (by omega) (by omega) HS.out HC.out).mono ?_
    rintro _ w1 ⟨rfl, hb⟩
    have E1 := Lib.hid (below_then (below_a1 _ _) hb (Nat.le_refl _))
    have B1 := Lib.hid ((Blk.new w _ _).step hb)
    have q1 := B1.out.cell
    have hx0 : (0 : Int) ≤ 1048576 - D0.text.size := by have := HC.out; omega
    clear hb
    go_wp2_with fail
    refine (to_val D0 _).mono ?_
    rintro _ w2 ⟨rfl, hb⟩
    have E2 := Lib.hid (below_then E1.out hb (Nat.le_refl _))
    have B2 := Lib.hid (B1.out.step hb)
    have q2 := B2.out.cell
    clear hb q1 B1 E1
    go_wp2_with fail
    refine (textV_spec D0 _ HS.out).mono ?_
    rintro _ w3 ⟨rfl, hb⟩
    have E3 := Lib.hid (below_then E2.out hb (Nat.le_refl _))
    have B3 := Lib.hid (B2.out.step hb)
    have q3 := B3.out.cell
    clear hb q2 B2 E2
    go_wp2_with fail
    refine (to_val D0 _).mono ?_
    rintro _ w4 ⟨rfl, hb⟩
    have E4 := Lib.hid (below_then E3.out hb (Nat.le_refl _))
    clear hb q3 B3 E3
    go_wp2_with fail
    refine (textV_impl D0 _ HS.out (HT.out.below E4.out)).mono ?_
    rintro _ w5 ⟨rfl, hb⟩
    have E5 := Lib.hid (below_then E4.out hb (Nat.le_refl _))
    clear hb E4
    go_wp2
    go_ret
    exact ⟨rfl, E5.out⟩
  · have hc' : (1048576 : Int) < D0.text.size := by omega
    have HC := Lib.hid hc'
    clear hc hc' hs hL
    go_enter Tryd.func4, Tryd.ntmps4
    go_wp2_with fail
    refine (sz_val_no D0 1048576 _ (by omega) (by omega) HS.out HC.out).mono ?_
    rintro _ w1 ⟨rfl, hb⟩
    have E1 := Lib.hid (below_then (below_a1 _ _) hb (Nat.le_refl _))
    clear hb
    go_wp2
    go_ret
    exact ⟨rfl, E1.out⟩

set_option maxRecDepth 100000 in
theorem contract (H : Type) (enc : TypeId × Value → H) (W : World) (base : Nat) (args : Array Value) (ds gs : List (DataW H)) (before : List MemPlace)
    (hval : ∀ (j : Nat) t v, Tryd.f4.params[j]? = some t → args[j]? = some v → Value.okWide Tryd.prog W .any base t v)
    (hW : DataW.Whole enc Tryd.prog Tryd.f4.params.toList Rows.fnExactValueTextSpec.vars false W args.toList ds gs before) (hL : laidMetH Tryd.prog Rows.fnExactValueTextRow.laid W) :
    Calls Tryd.prog 4 args W fun e W' => ∃ v, e = .returned v ∧ Rows.fnExactValueTextSpec.post enc Tryd.prog Tryd.f4 false true false false W args v W' := by
  have hW' := hW
  obtain ⟨p, q, hA0, hV, rfl, hfz, hnd⟩ := hW
  have hA : DataW.TrodAll enc Tryd.prog W 0 (fun _ => true) true Tryd.f4.params.toList args.toList ds p := hA0
  rw [Tryd.params4] at hA hval
  obtain ⟨v0, vs0, d0, ds0, p0, q0, hargs, rfl, rfl, h0, r0⟩ := trodAll_cons hA
  obtain ⟨rfl, rfl, rfl⟩ := trodAll_nil r0
  obtain rfl : args = #[v0] := by cases args; simp_all
  obtain ⟨rfl, rfl⟩ := trodVars_none hV
  have k0 := h0
  have lt0 : ∀ x ∈ p0, x.block < W.heap.size := by obtain ⟨m, hm⟩ := k0; exact DataW.trod_lt m _ _ _ hm
  obtain ⟨D0, rfl, w0⟩ := opv.open_val (hval 0 32 v0 rfl rfl) h0
  clear hA0
  refine (walk D0 W w0 (laid.Met_of (by kernel_rfl) hL)).mono fun e W' ⟨he, bel⟩ => ?_
  subst he
  exact ⟨_, rfl, _, _, _, [], _, [], hW', trodAll_mk1 (shut_bool Tryd.underlying4 _), (trodAll_cons_mk (Below.trod laidOut (by kernel_rfl) (of_decide_eq_true (by kernel_rfl)) k0 bel lt0) trodAll_mk0), rfl, bel.frame _, fun h => by cases h⟩

theorem laid_met (os : Os) : laidMetH Tryd.prog Rows.fnExactValueTextRow.laid (((laid.start os)).forCall (fun _ _ => 0) ⟨#[], #[.agg #[.int .i64 0, .int .i64 0, .string ByteArray.empty]], []⟩).memory :=
  laidMetH_of_parts (laidMet_of_run' 8 (by kernel_rfl) (by kernel_rfl)) (by kernel_rfl)
theorem reads (os : Os) {H : Type} (enc : TypeId × Value → H) : ∃ ds places, DataW.whole enc Tryd.prog (((laid.start os)).forCall (fun _ _ => 0) ⟨#[], #[.agg #[.int .i64 0, .int .i64 0, .string ByteArray.empty]], []⟩).memory Tryd.f4.params.toList Rows.fnExactValueTextSpec.vars false (#[.agg #[.int .i64 0, .int .i64 0, .string ByteArray.empty]] : Array Value).toList 8 = some (ds, [], places) :=
  ⟨[.agg [.lit (.int .i64 0), .lit (.int .i64 0), .lit (.string [])]], [], by kernel_rfl⟩

set_option maxRecDepth 100000 in
theorem lifted (os : Os) (started : os.Started) (H : Type) (enc : TypeId × Value → H) (F : Stop.Interp) :
    ReturnsInHanded {} Tryd.checked os 4 .any ((OpenSpec.ofChange Rows.fnExactValueTextSpec).preRow enc Tryd.prog Tryd.f4 Rows.fnExactValueTextRow.domain false Rows.fnExactValueTextRow.laid) (((OpenSpec.ofChange Rows.fnExactValueTextSpec).at F).post enc Tryd.prog Tryd.f4 false true false false) := by
  obtain ⟨ds, places, hx⟩ := reads os enc
  refine returnsInHanded_of_row (C := Tryd.checked) (s := OpenSpec.ofChange Rows.fnExactValueTextSpec) own started (by kernel_rfl) Tryd.func4
    (witness_row_at (enc := enc) (C := Tryd.checked) false (laid.start os) #[.agg #[.int .i64 0, .int .i64 0, .string ByteArray.empty]] rfl (by kernel_rfl) (by kernel_rfl) (by kernel_rfl)
      (OpenSpec.preRow_of_cond 8 hx (by kernel_rfl) (fun k hk => by cases hk) (by kernel_rfl) (laid_met os))) ?_
  intro W base args ds gs before hval hW _ _ _ hL _ _
  exact contract H enc W base args ds gs before hval hW hL

theorem said : Rows.FnExactValueTextSaid :=
  OpenClaim.holds_of_cond 4 Tryd.f4 rfl rfl rfl rfl rfl rfl rfl ⟨rfl, rfl, rfl, rfl, rfl⟩ rfl rfl rfl rfl rfl (by kernel_rfl) Tryd.func4 (by kernel_rfl)
    (of_decide_eq_true (by kernel_rfl)) (by unfold Func.isWrapper; first | (rw [if_pos (by decide +kernel)]; kernel_rfl) | (rw [if_neg (by decide +kernel)]; exact ⟨rfl, rfl⟩))
    (fun os started H enc _ F => by rw [OpenClaim.pre_eq_preRow]; exact lifted os started H enc F)

theorem plain (f : FuncId) (fn : Func) (hf : Tryd.pinned.checked.prog.funcNamed "loop.example/g00770/laws.FnExactValueText" = some f) (hfn : Tryd.pinned.checked.prog.funcs[f]? = some fn) :
    true = Tryd.pinned.checked.prog.looks [] ∧ ∀ (j : Nat) t, fn.params[j]? = some t → Tryd.pinned.checked.prog.wantsStandIn t = false := by
  obtain rfl : f = 4 := Option.some.inj ((show Tryd.prog.funcNamed "loop.example/g00770/laws.FnExactValueText" = some 4 by kernel_rfl).symm.trans hf) |>.symm
  obtain rfl : fn = Tryd.f4 := (Option.some.inj (Tryd.func4.symm.trans hfn)).symm
  refine ⟨by kernel_rfl, fun j t ht => ?_⟩
  rw [Tryd.params4] at ht
  have hm := Array.mem_of_getElem? ht
  have hall : ∀ t ∈ (#[32] : Array TypeId), Tryd.prog.wantsStandIn t = false := by
    intro t ht
    simp at ht
    rcases ht with rfl <;> kernel_rfl
  exact hall t hm

/-- the statement -/
theorem proved : Rows.FnExactValueTextCardSaid :=
  Claim7.holds_tied_plain_at .later [] _ _ _ _ said (fun _ h => by cases h) (by kernel_rfl) (fun _ h => by cases h) fnExactValueText_row_tie rfl ⟨rfl, rfl⟩ (by kernel_rfl) rfl plain (by kernel_rfl)
end Go.Proofs.YtnhoknbofmpdbaaDoor.fnExactValueText
