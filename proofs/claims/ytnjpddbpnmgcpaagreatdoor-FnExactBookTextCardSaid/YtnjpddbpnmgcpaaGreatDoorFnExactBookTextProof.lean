/- BookText, called with any list of things, tells the text that its model tells, and changes nothing. Conditions: none but the card's own: the library's tables that the row lists (the powers of ten) start as the program's text lays them. -/
import Derived.Test.YtnjpddbpnmgcpaaGreatDoorCards
import Derived.Test.YtnjpddbpnmgcpaaGreatDoorTie
import Derived.WalkKit
import Derived.ProofKit
import Derived.OpenShut
import Derived.ShutString
import Derived.ChangeOld
import Derived.Below
import Derived.LaidHandle
import Derived.LaidLaws
import Derived.LaidOnce
import Derived.LaidMore
import Derived.MakeChecks
import Derived.RowKitTokens
import Derived.Deep.DeepHandedRow
import Derived.Stop.Joined
import Derived.SevenTiedAt
import Derived.Handy
import Derived.Lib.Hide
import Derived.Test.YtnjpddbpnmgcpaaGreatDoorUi
import Derived.Test.YtnjpddbpnmgcpaaGreatDoorGd
import Derived.Test.YtnjpddbpnmgcpaaGreatDoorUz
import Derived.Test.YtnjpddbpnmgcpaaGreatDoorUt
import Derived.Test.YtnjpddbpnmgcpaaGreatDoorUo
import Derived.Test.YtnjpddbpnmgcpaaGreatDoorUe
import Derived.Test.YtnjpddbpnmgcpaaGreatDoorBtB
import Derived.Test.YtnjpddbpnmgcpaaGreatDoorBtS
import Derived.Test.YtnjpddbpnmgcpaaGreatDoorLaid
namespace Go.Proofs.YtnjpddbpnmgcpaaGreatDoor.fnExactBookText
open Go.ChangeShapes Go.WideShapes Go.ChangeAt Go.RowKit
open Go.ChangeMaps (open_string shut_string)
set_option linter.unusedVariables false
set_option linter.unusedSimpArgs false

theorem own : ownKnob Tryz.prog.godebug = none := by kernel_rfl
theorem laidOut : laidOutB Tryz.prog = true := by kernel_rfl
open vl mem ex un cf

set_option maxHeartbeats 8000000 in
set_option maxRecDepth 100000 in
theorem walk (n0 : Nat) (xs0 : List (List un.DC)) (A0 : Option Addr) (c0 : Nat) (w : World) (w0 : un.Cell un.Any n0 w (.l 8) (.l xs0) (.slice A0 xs0.length c0)) (hL : laid.Met w) :
    Calls Tryz.prog 3 #[.slice A0 xs0.length c0] w fun e w' => e = .returned (.bool true) ∧ Below w.heap.size w w' := by
  have HS0 := Lib.hid (Gd.of1 w0)
  clear w0
  have HT := Lib.hid hL
  clear hL
  go_enter Tryz.func3, Tryz.ntmps3
  go_wp2_with fail
  refine (szThingS_all n0 Any _ _ (1048576) _ (HS0.out.below (Below.refl _ _)).now (by omega) (by omega)).mono ?_
  rintro _ w1 ⟨x0, rfl, HX0, lo0, hi0, hb⟩
  have E1 := Lib.hid (below_then (Below.refl _ _) hb (Nat.le_refl _))
  have M1 : Hid (w.heap.size ≤ w1.heap.size) := (by (have hx := hb.size; (try simp at hx); show _ ≤ _; omega))
  clear hb 
  by_cases hx0 : x0 < 0
  · go_wp2
    go_ret
    exact ⟨rfl, E1.out⟩
  have HC0 : Hid (cC (.l xs0) ≤ 1048576) := by
    have q := HX0.out
    unfold leftI at q
    show _ ≤ _
    split at q <;> omega
  have hx0' : 0 ≤ x0 := by omega
  clear hx0 HX0
  have KT0 := fun (W : World) (h : Below w.heap.size w W) => Lib.hid (toThingS_all n0 Any (.l xs0) (.slice A0 xs0.length c0) W (HS0.out.below h).now HC0.out)
  go_wp2_with fail
  refine ((KT0 _ E1.out).out).mono ?_
  rintro _ w2 ⟨us, rfl, ho, hb⟩
  obtain ⟨X', Au, cu, e', rfl, _⟩ := ho.cell.lst
  injection e' with e'; subst e'
  replace ho := Gd.of1 ho.cell
  have E2 := Lib.hid (below_then E1.out hb (Nat.le_refl _))
  have M2 : Hid (w1.heap.size ≤ w2.heap.size) := (by (have hx := hb.size; (try simp at hx); show _ ≤ _; omega))
  have Su2 := Lib.hid (ho)
  clear hb E1
  clear ho
  go_wp2_with fail
  refine (cf.bookText_spec (n := n0) rfl (Su2.out).now).mono ?_
  rintro _ w3 ⟨rfl, hb⟩
  have E3 := Lib.hid (below_then E2.out hb (Nat.le_refl _))
  have M3 : Hid (w2.heap.size ≤ w3.heap.size) := (by (have hx := hb.size; (try simp at hx); show _ ≤ _; omega))
  have Su3 := Lib.hid ((Su2.out).below hb)
  clear hb Su2 E2
  clear Su3
  go_wp2_with fail
  refine ((KT0 _ E3.out).out).mono ?_
  rintro _ w4 ⟨us, rfl, ho, hb⟩
  obtain ⟨X', Ax, cx, e', rfl, _⟩ := ho.cell.lst
  injection e' with e'; subst e'
  replace ho := Gd.of1 ho.cell
  have E4 := Lib.hid (below_then E3.out hb (Nat.le_refl _))
  have M4 : Hid (w3.heap.size ≤ w4.heap.size) := (by (have hx := hb.size; (try simp at hx); show _ ≤ _; omega))
  have Sx4 := Lib.hid (ho)
  clear hb E3
  clear ho
  go_wp2_with fail
  refine (cf.bookText_impl (n := n0) rfl (Sx4.out).now (HT.out.below E4.out)).mono ?_
  rintro _ w5 ⟨rfl, hb⟩
  have E5 := Lib.hid (below_then E4.out hb (Nat.le_refl _))
  have M5 : Hid (w4.heap.size ≤ w5.heap.size) := (by (have hx := hb.size; (try simp at hx); show _ ≤ _; omega))
  have Sx5 := Lib.hid ((Sx4.out).below hb)
  clear hb Sx4 E4
  go_wp2_with fail
  refine ((KT0 _ E5.out).out).mono ?_
  rintro _ w6 ⟨us, rfl, ho, hb⟩
  obtain ⟨X', Aq, cq, e', rfl, _⟩ := ho.cell.lst
  injection e' with e'; subst e'
  replace ho := Gd.of1 ho.cell
  have E6 := Lib.hid (below_then E5.out hb (Nat.le_refl _))
  have M6 : Hid (w5.heap.size ≤ w6.heap.size) := (by (have hx := hb.size; (try simp at hx); show _ ≤ _; omega))
  have Sx6 := Lib.hid ((Sx5.out).below hb)
  have Sq6 := Lib.hid (ho)
  clear hb Sx5 E5
  clear ho
  go_wp2_with fail
  refine (eqThingS_all n0 _ _ (.l xs0) _ _ _ (Sx6.out).now (Sq6.out).now).mono ?_
  rintro _ w7 ⟨rfl, hb⟩
  have E7 := Lib.hid (below_then E6.out hb (Nat.le_refl _))
  have M7 : Hid (w6.heap.size ≤ w7.heap.size) := (by (have hx := hb.size; (try simp at hx); show _ ≤ _; omega))
  have Sx7 := Lib.hid ((Sx6.out).below hb)
  have Sq7 := Lib.hid ((Sq6.out).below hb)
  clear hb Sx6 Sq6 E6
  clear KT0
  go_wp2
  go_ret
  exact ⟨rfl, E7.out⟩

set_option maxRecDepth 100000 in
theorem contract (H : Type) (enc : TypeId × Value → H) (W : World) (base : Nat) (args : Array Value) (ds gs : List (DataW H)) (before : List MemPlace)
    (hval : ∀ (j : Nat) t v, Tryz.f3.params[j]? = some t → args[j]? = some v → Value.okWide Tryz.prog W .any base t v)
    (hW : DataW.Whole enc Tryz.prog Tryz.f3.params.toList Rows.fnExactBookTextSpec.vars false W args.toList ds gs before) (hL : laidMetH Tryz.prog Rows.fnExactBookTextRow.laid W) (hsh : W.ShapedOpen Tryz.prog) :
    Calls Tryz.prog 3 args W fun e W' => ∃ v, e = .returned v ∧ Rows.fnExactBookTextSpec.post enc Tryz.prog Tryz.f3 false true false false W args v W' := by
  have hW' := hW
  obtain ⟨p, q, hA0, hV, rfl, hfz, hnd⟩ := hW
  have hA : DataW.TrodAll enc Tryz.prog W 0 (fun _ => true) true Tryz.f3.params.toList args.toList ds p := hA0
  rw [Tryz.params3] at hA hval
  obtain ⟨v0, vs0, d0, ds0, p0, q0, hargs, rfl, rfl, h0, r0⟩ := trodAll_cons hA
  obtain ⟨rfl, rfl, rfl⟩ := trodAll_nil r0
  obtain rfl : args = #[v0] := by cases args; simp_all
  obtain ⟨rfl, rfl⟩ := trodVars_none hV
  have k0 := h0
  have lt0 : ∀ x ∈ p0, x.block < W.heap.size := by obtain ⟨m, hm⟩ := k0; exact DataW.trod_lt m _ _ _ hm
  obtain ⟨n0, xs0, A0, c0, rfl, w0⟩ := un.open_lst (n := 0) Tryz.underlying22 (fun _ => un.in_ThingS) (hval 0 22 v0 rfl rfl) h0
  clear hA0
  refine (walk n0 xs0 A0 c0 W w0 (laid.Met_of (by kernel_rfl) hL)).mono fun e W' ⟨he, bel⟩ => ?_
  subst he
  exact ⟨_, rfl, _, _, _, [], _, [], hW', trodAll_mk1 (shut_bool Tryz.underlying4 _), (trodAll_cons_mk (Below.trod laidOut (by kernel_rfl) (of_decide_eq_true (by kernel_rfl)) k0 bel lt0) trodAll_mk0), rfl, bel.frame _, fun h => by cases h⟩

theorem laid_met (os : Os) : laidMetH Tryz.prog Rows.fnExactBookTextRow.laid (((laid.start os)).forCall (fun _ _ => 0) ⟨#[], #[.slice none 0 0], []⟩).memory :=
  laidMetH_of_parts (laidMet_of_run' 8 (by kernel_rfl) (by kernel_rfl)) (by kernel_rfl)
theorem reads (os : Os) {H : Type} (enc : TypeId × Value → H) : ∃ ds places, DataW.whole enc Tryz.prog (((laid.start os)).forCall (fun _ _ => 0) ⟨#[], #[.slice none 0 0], []⟩).memory Tryz.f3.params.toList Rows.fnExactBookTextSpec.vars false (#[.slice none 0 0] : Array Value).toList 8 = some (ds, [], places) :=
  ⟨[.nil], [], by kernel_rfl⟩

set_option maxRecDepth 100000 in
theorem lifted (os : Os) (started : os.Started) (H : Type) (enc : TypeId × Value → H) (F : Stop.Interp) :
    ReturnsInHanded {} Tryz.checked os 3 .any ((OpenSpec.ofChange Rows.fnExactBookTextSpec).preRow enc Tryz.prog Tryz.f3 Rows.fnExactBookTextRow.domain false Rows.fnExactBookTextRow.laid) (((OpenSpec.ofChange Rows.fnExactBookTextSpec).at F).post enc Tryz.prog Tryz.f3 false true false false) := by
  obtain ⟨ds, places, hx⟩ := reads os enc
  refine returnsInHanded_of_row (C := Tryz.checked) (s := OpenSpec.ofChange Rows.fnExactBookTextSpec) own started (by kernel_rfl) Tryz.func3
    (witness_row_at (enc := enc) (C := Tryz.checked) false (laid.start os) #[.slice none 0 0] rfl (by kernel_rfl) (by kernel_rfl) (by kernel_rfl)
      (OpenSpec.preRow_of_cond 8 hx (by kernel_rfl) (fun k hk => by cases hk) (by kernel_rfl) (laid_met os))) ?_
  intro W base args ds gs before hval hW _ _ _ hL hsh _
  exact contract H enc W base args ds gs before hval hW hL hsh

theorem said : Rows.FnExactBookTextSaid :=
  OpenClaim.holds_of_cond 3 Tryz.f3 rfl rfl rfl rfl rfl rfl rfl ⟨rfl, rfl, rfl, rfl, rfl⟩ rfl rfl rfl rfl rfl (by kernel_rfl) Tryz.func3 (by kernel_rfl)
    (of_decide_eq_true (by kernel_rfl)) (by unfold Func.isWrapper; first | (rw [if_pos (by decide +kernel)]; kernel_rfl) | (rw [if_neg (by decide +kernel)]; exact ⟨rfl, rfl⟩))
    (fun os started H enc _ F => by rw [OpenClaim.pre_eq_preRow]; exact lifted os started H enc F)

theorem plain (f : FuncId) (fn : Func) (hf : Tryz.pinned.checked.prog.funcNamed "loop.example/g00770/laws.FnExactBookText" = some f) (hfn : Tryz.pinned.checked.prog.funcs[f]? = some fn) :
    true = Tryz.pinned.checked.prog.looks [] ∧ ∀ (j : Nat) t, fn.params[j]? = some t → Tryz.pinned.checked.prog.wantsStandIn t = false := by
  obtain rfl : f = 3 := Option.some.inj ((show Tryz.prog.funcNamed "loop.example/g00770/laws.FnExactBookText" = some 3 by kernel_rfl).symm.trans hf) |>.symm
  obtain rfl : fn = Tryz.f3 := (Option.some.inj (Tryz.func3.symm.trans hfn)).symm
  refine ⟨by kernel_rfl, fun j t ht => ?_⟩
  rw [Tryz.params3] at ht
  have hm := Array.mem_of_getElem? ht
  have hall : ∀ t ∈ (#[22] : Array TypeId), Tryz.prog.wantsStandIn t = false := by
    intro t ht
    simp at ht
    rcases ht with rfl <;> kernel_rfl
  exact hall t hm

/-- the statement -/
theorem proved : Rows.FnExactBookTextCardSaid :=
  Claim7.holds_tied_plain_at .later [] _ _ _ _ said (fun _ h => by cases h) (by kernel_rfl) (fun _ h => by cases h) fnExactBookText_row_tie rfl ⟨rfl, rfl⟩ (by kernel_rfl) rfl plain (by kernel_rfl)
end Go.Proofs.YtnjpddbpnmgcpaaGreatDoor.fnExactBookText
