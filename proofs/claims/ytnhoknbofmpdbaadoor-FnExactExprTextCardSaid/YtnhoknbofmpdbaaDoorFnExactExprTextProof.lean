/- ExprText, called with any expression, tells the text that its model tells, and changes nothing. Conditions: none but the card's own: the library's tables that the row lists (the powers of ten) start as the program's text lays them. -/
import Derived.Test.YtnhoknbofmpdbaaDoorCards
import Derived.Test.YtnhoknbofmpdbaaDoorTie
import Derived.WalkKit
import Derived.ProofKit
import Derived.OpenShut
import Derived.ShutString
import Derived.ChangeOld
import Derived.Below
import Derived.LaidHandle
import Derived.LaidLaws
import Derived.LaidOnce
import Derived.LaidMore
import Derived.MakeChecks
import Derived.RowKitTokens
import Derived.Deep.DeepHandedRow
import Derived.Stop.Joined
import Derived.SevenTiedAt
import Derived.Handy
import Derived.Lib.Hide
import Derived.Test.YtnhoknbofmpdbaaDoorOpE
import Derived.Test.YtnhoknbofmpdbaaDoorExY
import Derived.Test.YtnhoknbofmpdbaaDoorExZ
import Derived.Test.YtnhoknbofmpdbaaDoorExQ
import Derived.Deep.RegionHeld3
import Derived.Test.YtnhoknbofmpdbaaDoorLaid
namespace Go.Proofs.YtnhoknbofmpdbaaDoor.fnExactExprText
open Go.ChangeShapes Go.WideShapes Go.ChangeAt Go.RowKit
open Go.ChangeMaps (open_string shut_string)
set_option linter.unusedVariables false
set_option linter.unusedSimpArgs false

theorem own : ownKnob Tryd.prog.godebug = none := by kernel_rfl
theorem laidOut : laidOutB Tryd.prog = true := by kernel_rfl
open vl mem ex

set_option maxHeartbeats 4000000 in
set_option maxRecDepth 100000 in
theorem walk (P0 A0 : Option Addr) (c0 b0 n0 : Nat) (E0 : ex.ExprD) (w : World) (w0 : ex.In 0 n0 w P0 A0 E0) (hL : laid.Met w) :
    Calls Tryd.prog 6 #[.agg #[.int .i64 E0.kind, .int .i64 E0.val.kind, .int .i64 E0.val.n, .string E0.val.text, .slice P0 E0.addr.path.length c0, .string E0.addr.typ, .string E0.addr.nam, .int .i64 E0.addr.kind, .int .i64 E0.addr.n, .string E0.addr.key, .string E0.prop, .slice A0 E0.args.length b0]] w fun e w' => e = .returned (.bool true) ∧ Below w.heap.size w w' := by
  have HI := Lib.hid w0
  clear w0
  have HT := Lib.hid hL
  clear hL
  go_enter Tryd.func6, Tryd.ntmps6
  go_wp2_with fail
  refine (szExpr_of (szS_all n0) P0 A0 c0 b0 E0 1048576 _ (HI.out.below (below_a1 _ _)) (by omega) (by omega)).mono ?_
  rintro _ w1 ⟨x, rfl, HX, lo, hi, hb⟩
  have E1 := Lib.hid (below_then (below_a1 _ _) hb (Nat.le_refl _))
  have B1 := Lib.hid ((Blk.new w _ _).step hb)
  have b1 := B1.out.cell
  clear hb
  by_cases hx : x < 0
  · go_wp2
    go_ret
    exact ⟨rfl, E1.out⟩
  have HC : Hid (cntE E0 ≤ 1048576) := by
    have q := HX.out
    unfold adl.leftI at q
    show _ ≤ _
    split at q <;> omega
  have hx0 : 0 ≤ x := by omega
  clear hx HX
  have KT := fun (W : World) (h : Below w.heap.size w W) => Lib.hid (toExpr_of (toS_all n0) P0 A0 c0 b0 E0 W (HI.out.below h) HC.out)
  go_wp2_with fail
  refine (KT _ E1.out).out.mono ?_
  rintro _ w2 ⟨qa, qb, rfl, hin, hb⟩
  have E2 := Lib.hid (below_then E1.out hb (Nat.le_refl _))
  have B2 := Lib.hid (B1.out.step hb)
  have b2 := B2.out.cell
  have HU := Lib.hid hin
  clear hb hin b1 B1 E1
  go_wp2_with fail
  refine (ex.text_spec n0 _ qa qb _ _ E0 _ HU.out).mono ?_
  rintro _ w3 ⟨rfl, hb⟩
  have E3 := Lib.hid (below_then E2.out hb (Nat.le_refl _))
  have B3 := Lib.hid (B2.out.step hb)
  have b3 := B3.out.cell
  clear hb b2 B2 E2 HU
  go_wp2_with fail
  refine (KT _ E3.out).out.mono ?_
  rintro _ w4 ⟨xa, xb, rfl, hin, hb⟩
  have E4 := Lib.hid (below_then E3.out hb (Nat.le_refl _))
  have B4 := Lib.hid (B3.out.step hb)
  have b4 := B4.out.cell
  have HX4 := Lib.hid hin
  clear hb hin b3 B3 E3
  go_wp2_with fail
  refine (ex.text_impl n0 _ xa xb _ _ E0 _ (HX4.out.alloc _) (HT.out.below (below_da E4.out (Nat.le_refl _) _))).mono ?_
  rintro _ w5 ⟨rfl, hb⟩
  have E5 := Lib.hid (below_then (below_da E4.out (Nat.le_refl _) _) hb (Nat.le_refl _))
  have B5 := Lib.hid ((B4.out.alloc _).step hb)
  have b5 := B5.out.cell
  have X5 := Lib.hid ((Blk.new w4 _ _).step hb)
  have x5 := X5.out.cell
  have HX5 := Lib.hid ((HX4.out.alloc _).below hb)
  clear hb b4 B4 E4 HX4
  go_wp2_with fail
  go_region_held3 (fun w' => w'.cell? ⟨w4.heap.size, 0, none⟩ = some (.int .i64 E0.kind) ∧ w'.cell? ⟨w4.heap.size, 1, none⟩ = some (.int .i64 E0.val.kind) ∧ w'.cell? ⟨w4.heap.size, 2, none⟩ = some (.int .i64 E0.val.n) ∧ w'.cell? ⟨w4.heap.size, 3, none⟩ = some (.string E0.val.text) ∧ w'.cell? ⟨w4.heap.size, 4, none⟩ = some (.slice xa E0.addr.path.length E0.addr.path.length) ∧ w'.cell? ⟨w4.heap.size, 5, none⟩ = some (.string E0.addr.typ) ∧ w'.cell? ⟨w4.heap.size, 6, none⟩ = some (.string E0.addr.nam) ∧ w'.cell? ⟨w4.heap.size, 7, none⟩ = some (.int .i64 E0.addr.kind) ∧ w'.cell? ⟨w4.heap.size, 8, none⟩ = some (.int .i64 E0.addr.n) ∧ w'.cell? ⟨w4.heap.size, 9, none⟩ = some (.string E0.addr.key) ∧ w'.cell? ⟨w4.heap.size, 10, none⟩ = some (.string E0.prop) ∧ w'.cell? ⟨w4.heap.size, 11, none⟩ = some (.slice xb E0.args.length E0.args.length) ∧ w'.cell? ⟨w.heap.size, 0, none⟩ = some (.int .i64 E0.kind) ∧ w'.cell? ⟨w.heap.size, 1, none⟩ = some (.int .i64 E0.val.kind) ∧ w'.cell? ⟨w.heap.size, 2, none⟩ = some (.int .i64 E0.val.n) ∧ w'.cell? ⟨w.heap.size, 3, none⟩ = some (.string E0.val.text) ∧ w'.cell? ⟨w.heap.size, 4, none⟩ = some (.slice P0 E0.addr.path.length c0) ∧ w'.cell? ⟨w.heap.size, 5, none⟩ = some (.string E0.addr.typ) ∧ w'.cell? ⟨w.heap.size, 6, none⟩ = some (.string E0.addr.nam) ∧ w'.cell? ⟨w.heap.size, 7, none⟩ = some (.int .i64 E0.addr.kind) ∧ w'.cell? ⟨w.heap.size, 8, none⟩ = some (.int .i64 E0.addr.n) ∧ w'.cell? ⟨w.heap.size, 9, none⟩ = some (.string E0.addr.key) ∧ w'.cell? ⟨w.heap.size, 10, none⟩ = some (.string E0.prop) ∧ w'.cell? ⟨w.heap.size, 11, none⟩ = some (.slice A0 E0.args.length b0)) (go_keep)
    (first
    | (go_at_call 21; refine (KT _ ?_).out.mono ?_; exact below_dn E5.out _; rintro _ w6 ⟨ya, yb, rfl, hin, hb⟩; have hbb := below_then (below_d w5 _) hb (Nat.le_refl _); have E6 := Lib.hid (below_then E5.out hbb (Nat.le_refl _)); have B6 := Lib.hid (B5.out.step hbb); have b6 := B6.out.cell; have X6 := Lib.hid (X5.out.step hbb); have x6 := X6.out.cell; have HX6 := Lib.hid (HX5.out.below hbb); have HY6 := Lib.hid hin; clear hb hbb hin)
    | (go_at_call 23; refine (eqExpr_of (eqS_all n0) _ _ xa xb ya yb _ _ _ _ E0 _ HX6.out HY6.out HC.out).mono ?_; rintro _ w7 ⟨rfl, hb⟩; have E7 := Lib.hid (below_then E6.out hb (Nat.le_refl _)); have B7 := Lib.hid (B6.out.step hb); have b7 := B7.out.cell; have X7 := Lib.hid (X6.out.step hb); have x7 := X7.out.cell; clear hb))
  clear KT
  go_wp2
  go_ret
  exact ⟨rfl, E7.out⟩

set_option maxRecDepth 100000 in
theorem contract (H : Type) (enc : TypeId × Value → H) (W : World) (base : Nat) (args : Array Value) (ds gs : List (DataW H)) (before : List MemPlace)
    (hval : ∀ (j : Nat) t v, Tryd.f6.params[j]? = some t → args[j]? = some v → Value.okWide Tryd.prog W .any base t v)
    (hW : DataW.Whole enc Tryd.prog Tryd.f6.params.toList Rows.fnExactExprTextSpec.vars false W args.toList ds gs before) (hL : laidMetH Tryd.prog Rows.fnExactExprTextRow.laid W) :
    Calls Tryd.prog 6 args W fun e W' => ∃ v, e = .returned v ∧ Rows.fnExactExprTextSpec.post enc Tryd.prog Tryd.f6 false true false false W args v W' := by
  have hW' := hW
  obtain ⟨p, q, hA0, hV, rfl, hfz, hnd⟩ := hW
  have hA : DataW.TrodAll enc Tryd.prog W 0 (fun _ => true) true Tryd.f6.params.toList args.toList ds p := hA0
  rw [Tryd.params6] at hA hval
  obtain ⟨v0, vs0, d0, ds0, p0, q0, hargs, rfl, rfl, h0, r0⟩ := trodAll_cons hA
  obtain ⟨rfl, rfl, rfl⟩ := trodAll_nil r0
  obtain rfl : args = #[v0] := by cases args; simp_all
  obtain ⟨rfl, rfl⟩ := trodVars_none hV
  have k0 := h0
  have lt0 : ∀ x ∈ p0, x.block < W.heap.size := by obtain ⟨m, hm⟩ := k0; exact DataW.trod_lt m _ _ _ hm
  obtain ⟨E0, P0, c0, A0, b0, n0, rfl, w0⟩ := ope.open_expr (hval 0 45 v0 rfl rfl) h0
  clear hA0
  refine (walk P0 A0 c0 b0 n0 E0 W w0 (laid.Met_of (by kernel_rfl) hL)).mono fun e W' ⟨he, bel⟩ => ?_
  subst he
  exact ⟨_, rfl, _, _, _, [], _, [], hW', trodAll_mk1 (shut_bool Tryd.underlying4 _), (trodAll_cons_mk (Below.trod laidOut (by kernel_rfl) (of_decide_eq_true (by kernel_rfl)) k0 bel lt0) trodAll_mk0), rfl, bel.frame _, fun h => by cases h⟩

theorem laid_met (os : Os) : laidMetH Tryd.prog Rows.fnExactExprTextRow.laid (((laid.start os)).forCall (fun _ _ => 0) ⟨#[], #[.agg #[.int .i64 0, .int .i64 0, .int .i64 0, .string ByteArray.empty, .slice none 0 0, .string ByteArray.empty, .string ByteArray.empty, .int .i64 0, .int .i64 0, .string ByteArray.empty, .string ByteArray.empty, .slice none 0 0]], []⟩).memory :=
  laidMetH_of_parts (laidMet_of_run' 8 (by kernel_rfl) (by kernel_rfl)) (by kernel_rfl)
theorem reads (os : Os) {H : Type} (enc : TypeId × Value → H) : ∃ ds places, DataW.whole enc Tryd.prog (((laid.start os)).forCall (fun _ _ => 0) ⟨#[], #[.agg #[.int .i64 0, .int .i64 0, .int .i64 0, .string ByteArray.empty, .slice none 0 0, .string ByteArray.empty, .string ByteArray.empty, .int .i64 0, .int .i64 0, .string ByteArray.empty, .string ByteArray.empty, .slice none 0 0]], []⟩).memory Tryd.f6.params.toList Rows.fnExactExprTextSpec.vars false (#[.agg #[.int .i64 0, .int .i64 0, .int .i64 0, .string ByteArray.empty, .slice none 0 0, .string ByteArray.empty, .string ByteArray.empty, .int .i64 0, .int .i64 0, .string ByteArray.empty, .string ByteArray.empty, .slice none 0 0]] : Array Value).toList 8 = some (ds, [], places) :=
  ⟨[.agg [.lit (.int .i64 0), .agg [.lit (.int .i64 0), .lit (.int .i64 0), .lit (.string [])], .agg [.nil, .lit (.string []), .lit (.string []), .lit (.int .i64 0), .lit (.int .i64 0), .lit (.string [])], .lit (.string []), .nil]], [], by kernel_rfl⟩

set_option maxRecDepth 100000 in
theorem lifted (os : Os) (started : os.Started) (H : Type) (enc : TypeId × Value → H) (F : Stop.Interp) :
    ReturnsInHanded {} Tryd.checked os 6 .any ((OpenSpec.ofChange Rows.fnExactExprTextSpec).preRow enc Tryd.prog Tryd.f6 Rows.fnExactExprTextRow.domain false Rows.fnExactExprTextRow.laid) (((OpenSpec.ofChange Rows.fnExactExprTextSpec).at F).post enc Tryd.prog Tryd.f6 false true false false) := by
  obtain ⟨ds, places, hx⟩ := reads os enc
  refine returnsInHanded_of_row (C := Tryd.checked) (s := OpenSpec.ofChange Rows.fnExactExprTextSpec) own started (by kernel_rfl) Tryd.func6
    (witness_row_at (enc := enc) (C := Tryd.checked) false (laid.start os) #[.agg #[.int .i64 0, .int .i64 0, .int .i64 0, .string ByteArray.empty, .slice none 0 0, .string ByteArray.empty, .string ByteArray.empty, .int .i64 0, .int .i64 0, .string ByteArray.empty, .string ByteArray.empty, .slice none 0 0]] rfl (by kernel_rfl) (by kernel_rfl) (by kernel_rfl)
      (OpenSpec.preRow_of_cond 8 hx (by kernel_rfl) (fun k hk => by cases hk) (by kernel_rfl) (laid_met os))) ?_
  intro W base args ds gs before hval hW _ _ _ hL _ _
  exact contract H enc W base args ds gs before hval hW hL

theorem said : Rows.FnExactExprTextSaid :=
  OpenClaim.holds_of_cond 6 Tryd.f6 rfl rfl rfl rfl rfl rfl rfl ⟨rfl, rfl, rfl, rfl, rfl⟩ rfl rfl rfl rfl rfl (by kernel_rfl) Tryd.func6 (by kernel_rfl)
    (of_decide_eq_true (by kernel_rfl)) (by unfold Func.isWrapper; first | (rw [if_pos (by decide +kernel)]; kernel_rfl) | (rw [if_neg (by decide +kernel)]; exact ⟨rfl, rfl⟩))
    (fun os started H enc _ F => by rw [OpenClaim.pre_eq_preRow]; exact lifted os started H enc F)

theorem plain (f : FuncId) (fn : Func) (hf : Tryd.pinned.checked.prog.funcNamed "loop.example/g00770/laws.FnExactExprText" = some f) (hfn : Tryd.pinned.checked.prog.funcs[f]? = some fn) :
    true = Tryd.pinned.checked.prog.looks [] ∧ ∀ (j : Nat) t, fn.params[j]? = some t → Tryd.pinned.checked.prog.wantsStandIn t = false := by
  obtain rfl : f = 6 := Option.some.inj ((show Tryd.prog.funcNamed "loop.example/g00770/laws.FnExactExprText" = some 6 by kernel_rfl).symm.trans hf) |>.symm
  obtain rfl : fn = Tryd.f6 := (Option.some.inj (Tryd.func6.symm.trans hfn)).symm
  refine ⟨by kernel_rfl, fun j t ht => ?_⟩
  rw [Tryd.params6] at ht
  have hm := Array.mem_of_getElem? ht
  have hall : ∀ t ∈ (#[45] : Array TypeId), Tryd.prog.wantsStandIn t = false := by
    intro t ht
    simp at ht
    rcases ht with rfl <;> kernel_rfl
  exact hall t hm

/-- the statement -/
theorem proved : Rows.FnExactExprTextCardSaid :=
  Claim7.holds_tied_plain_at .later [] _ _ _ _ said (fun _ h => by cases h) (by kernel_rfl) (fun _ h => by cases h) fnExactExprText_row_tie rfl ⟨rfl, rfl⟩ (by kernel_rfl) rfl plain (by kernel_rfl)
end Go.Proofs.YtnhoknbofmpdbaaDoor.fnExactExprText
