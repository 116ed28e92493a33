/- AddrText, called with any arguments, tells what its model tells, and changes nothing. No condition. -/
import Derived.Test.YtfbepcfaeeoneaaRows
import Derived.WalkKit
import Derived.ProofKit
import Derived.OpenShut
import Derived.ShutString
import Derived.ChangeOld
import Derived.Below
import Derived.Lib.Hide
import Derived.Test.YtfbepcfaeeoneaaOpn
import Derived.Test.YtfbepcfaeeoneaaAdL
import Derived.Test.YtfbepcfaeeoneaaTxtS
import Derived.Deep.RegionWith
import Derived.Deep.RegionHeld3
namespace Go.Proofs.Ytfbepcfaeeoneaa.fnExactAddrText
open Go.ChangeShapes Go.WideShapes Go.ChangeAt Go.RowKit
open Go.ChangeMaps (open_string shut_string)
set_option linter.unusedVariables false
set_option linter.unusedSimpArgs false

theorem own : ownKnob Try.prog.godebug = none := by kernel_rfl
theorem laidOut : laidOutB Try.prog = true := by kernel_rfl

open ad mem opn

set_option maxHeartbeats 4000000 in
set_option maxRecDepth 100000 in
theorem walk (A0 : Option Addr) (c0 : Nat) (D0 : ad.AddrD) (w : World) (w0 : opn.AddrIn w A0 D0) :
    Calls Try.prog 5 #[.agg #[.slice A0 D0.path.length c0, .string D0.typ, .string D0.nam, .int .i64 D0.kind, .int .i64 D0.n, .string D0.key]] w fun e w' => e = .returned (.bool true) ∧ Below w.heap.size w w' := by
  obtain ⟨hs0, hl0, ht0, hn0, hk0, _, _⟩ := w0
  have HS0 := Lib.hid hs0
  have HL0 := Lib.hid hl0
  clear hs0 hl0
  by_cases hc0 : (adl.cntA D0 : Int) ≤ 1048576
  rotate_left
  · have HN0 := Lib.hid (by omega : 1048576 < (adl.cntA D0 : Int))
    clear hc0
    go_enter Try.func5, Try.ntmps5
    go_wp2_with fail
    refine (adl.sz_no A0 c0 D0 (1048576) _ (HS0.out.below (below_a1 _ _)) (by omega) (by omega) HL0.out ht0 hn0 hk0 HN0.out).mono ?_
    rintro _ w1 ⟨rfl, hb⟩
    have E1 := Lib.hid (below_then (below_a1 _ _) hb (Nat.le_refl _))
    have Bp01 := Lib.hid ((Blk.new w _ _).step hb)
    have rp01 := Bp01.out.cell
    have bp01 := Bp01.out.lt
    clear hb
    go_wp2
    go_ret
    exact ⟨rfl, E1.out⟩
  have hp0 := adl.len_le hc0 (by omega)
  have HC0 := Lib.hid hc0
  have hlo0 : (0 : Int) ≤ 1048576 - (adl.cntA D0 : Int) := by omega
  have hhi0 : 1048576 - (adl.cntA D0 : Int) ≤ 1048576 := by have : (0 : Int) ≤ (adl.cntA D0 : Int) := Int.natCast_nonneg _; omega
  clear hc0
  go_enter Try.func5, Try.ntmps5
  go_wp2_with fail
  refine (adl.sz_ok A0 c0 D0 (1048576) _ (HS0.out.below (below_a1 _ _)) (by omega) (by omega) HL0.out ht0 hn0 hk0 HC0.out).mono ?_
  rintro _ w1 ⟨rfl, hb⟩
  have E1 := Lib.hid (below_then (below_a1 _ _) hb (Nat.le_refl _))
  have Bp01 := Lib.hid ((Blk.new w _ _).step hb)
  have rp01 := Bp01.out.cell
  have bp01 := Bp01.out.lt
  clear hb
  go_wp2_with fail
  refine (adl.toAddr_any A0 c0 D0 _ (HS0.out.below E1.out) hp0).mono ?_
  rintro _ w2 ⟨gu0, rfl, hg, hrow, hb⟩
  have E2 := Lib.hid (below_then E1.out hb (Nat.le_refl _))
  have Bp02 := Lib.hid ((Bp01.out).step hb)
  have rp02 := Bp02.out.cell
  have bp02 := Bp02.out.lt
  have Su02 := Lib.hid (hrow.strs HS0.out.sizes)
  have Ru02 := Lib.hid (hrow)
  clear hb Bp01 rp01 bp01 E1
  clear hg hrow
  go_wp2_with fail
  refine (txt.text_spec _ _ D0 _ (Su02.out) HL0.out ht0 hn0 hk0).mono ?_
  rintro _ w3 ⟨rfl, hb⟩
  have E3 := Lib.hid (below_then E2.out hb (Nat.le_refl _))
  have Bp03 := Lib.hid ((Bp02.out).step hb)
  have rp03 := Bp03.out.cell
  have bp03 := Bp03.out.lt
  have Su03 := Lib.hid ((Su02.out).below hb)
  have Ru03 := Lib.hid ((Ru02.out).step hb)
  clear hb Bp02 rp02 bp02 Su02 Ru02 E2
  clear Su03
  clear Ru03
  go_wp2_with fail
  refine (adl.toAddr_any A0 c0 D0 _ (HS0.out.below E3.out) hp0).mono ?_
  rintro _ w4 ⟨gx0, rfl, hg, hrow, hb⟩
  have E4 := Lib.hid (below_then E3.out hb (Nat.le_refl _))
  have Bp04 := Lib.hid ((Bp03.out).step hb)
  have rp04 := Bp04.out.cell
  have bp04 := Bp04.out.lt
  have Sx04 := Lib.hid (hrow.strs HS0.out.sizes)
  have Rx04 := Lib.hid (hrow)
  clear hb Bp03 rp03 bp03 E3
  clear hg hrow
  go_wp2_with fail
  refine (txt.text_impl _ _ D0 _ (Sx04.out.alloc _) HL0.out ht0 hn0 hk0).mono ?_
  rintro _ w5 ⟨rfl, hb⟩
  have E5 := Lib.hid (below_then (below_da E4.out (Nat.le_refl _) _) hb (Nat.le_refl _))
  have Bp05 := Lib.hid ((Bp04.out.alloc _).step hb)
  have rp05 := Bp05.out.cell
  have bp05 := Bp05.out.lt
  have Bx05 := Lib.hid ((Blk.new w4 _ _).step hb)
  have rx05 := Bx05.out.cell
  have bx05 := Bx05.out.lt
  have Sx05 := Lib.hid ((Sx04.out.alloc _).below hb)
  have Rx05 := Lib.hid ((Rx04.out.alloc _).step hb)
  clear hb Bp04 rp04 bp04 Sx04 Rx04 E4
  go_wp2_with fail
  have KT := fun (W : World) (h : Below w.heap.size w W) => Lib.hid (adl.toAddr_any A0 c0 D0 W (HS0.out.below h) hp0)
  have KE := fun (W : World) (h : Strs W (some ⟨gx0, 0, none⟩) D0.path) (g : Nat) (h' : Strs W (some ⟨g, 0, none⟩) D0.path) => Lib.hid (adl.eq_same (some ⟨gx0, 0, none⟩) (some ⟨g, 0, none⟩) D0.path.length D0.path.length D0 W h h' hp0)
  go_region_held3 (fun w' => w'.cell? ⟨w4.heap.size, 0, none⟩ = some (.slice (some ⟨gx0, 0, none⟩) D0.path.length D0.path.length) ∧ w'.cell? ⟨w4.heap.size, 1, none⟩ = some (.string D0.typ) ∧ w'.cell? ⟨w4.heap.size, 2, none⟩ = some (.string D0.nam) ∧ w'.cell? ⟨w4.heap.size, 3, none⟩ = some (.int .i64 D0.kind) ∧ w'.cell? ⟨w4.heap.size, 4, none⟩ = some (.int .i64 D0.n) ∧ w'.cell? ⟨w4.heap.size, 5, none⟩ = some (.string D0.key) ∧ w'.cell? ⟨w.heap.size, 0, none⟩ = some (.slice A0 D0.path.length c0) ∧ w'.cell? ⟨w.heap.size, 1, none⟩ = some (.string D0.typ) ∧ w'.cell? ⟨w.heap.size, 2, none⟩ = some (.string D0.nam) ∧ w'.cell? ⟨w.heap.size, 3, none⟩ = some (.int .i64 D0.kind) ∧ w'.cell? ⟨w.heap.size, 4, none⟩ = some (.int .i64 D0.n) ∧ w'.cell? ⟨w.heap.size, 5, none⟩ = some (.string D0.key)) (go_keep)
    (first
    | (go_at_call 15; refine (KT _ ?_).out.mono ?_; exact below_dn E5.out _; rintro _ w6 ⟨gq, rfl, hg, hrow, hb⟩; have hbb := below_then (below_d w5 _) hb (Nat.le_refl _); have E6 := Lib.hid (below_then (below_dn E5.out _) hb (Nat.le_refl _)); have Bp06 := Lib.hid ((Bp05.out).step hbb); have rp06 := Bp06.out.cell; have bp06 := Bp06.out.lt; have Bx06 := Lib.hid ((Bx05.out).step hbb); have rx06 := Bx06.out.cell; have bx06 := Bx06.out.lt; have Sx06 := Lib.hid ((Sx05.out).below hbb); have Rx06 := Lib.hid ((Rx05.out).step hbb); have Sq6 := Lib.hid (hrow.strs HS0.out.sizes); clear hb hbb hg hrow)
    | (go_at_call 17; refine (KE _ ?_ _ ?_).out.mono ?_; exact Sx06.out; exact Sq6.out; rintro _ w7 ⟨rfl, hb⟩; have E7 := Lib.hid (below_then E6.out hb (Nat.le_refl _)); have Bp07 := Lib.hid ((Bp06.out).step hb); have rp07 := Bp07.out.cell; have bp07 := Bp07.out.lt; have Bx07 := Lib.hid ((Bx06.out).step hb); have rx07 := Bx07.out.cell; have bx07 := Bx07.out.lt; have Sx07 := Lib.hid ((Sx06.out).below hb); have Sq7 := Lib.hid ((Sq6.out).below hb); have Rx07 := Lib.hid ((Rx06.out).step hb); clear hb))
  clear KT KE
  go_split_ands
  clear Sq7
  clear Bp05 rp05 bp05 Bx05 rx05 bx05 Sx05 Rx05 E5 Bp06 rp06 bp06 Bx06 rx06 bx06 Sx06 Rx06 E6
  clear Sq6
  go_wp2
  go_ret
  exact ⟨rfl, E7.out⟩

set_option maxRecDepth 100000 in
theorem lifted (os : Os) (started : os.Started) (H : Type) (enc : TypeId × Value → H) :
    ReturnsInHanded {} Try.checked os 5 .any (Rows.fnExactAddrTextSpec.pre6 enc Try.prog Try.f5 Rows.fnExactAddrTextRow.domain false) (Rows.fnExactAddrTextSpec.post enc Try.prog Try.f5 false true false false) := by
  refine returnsInHanded_of_change (C := Try.checked) own started (by kernel_rfl) Try.func5
    (ChangeSpec.witness6 (enc := enc) (C := Try.checked) false ⟨#[], #[.agg #[.slice none 0 0, .string ByteArray.empty, .string ByteArray.empty, .int .i64 0, .int .i64 0, .string ByteArray.empty]], []⟩ 8 (by kernel_rfl) (by kernel_rfl) (by kernel_rfl) (by kernel_rfl)) ?_
  intro W base args ds gs before hval0 hW hcnd _
  have hval : ∀ (j : Nat) t v, Try.f5.params[j]? = some t → args[j]? = some v → Value.okWide Try.prog W .any base t v := hval0
  have hW' := hW
  obtain ⟨p, q, hA0, hV, rfl, hfz, hnd⟩ := hW
  have hA : DataW.TrodAll enc Try.prog W 0 (fun _ => true) true Try.f5.params.toList args.toList ds p := hA0
  rw [Try.params5] at hA hval
  obtain ⟨v0, vs0, d0, ds0, p0, q0, hargs, rfl, rfl, h0, r0⟩ := trodAll_cons hA
  obtain ⟨rfl, rfl, rfl⟩ := trodAll_nil r0
  obtain rfl : args = #[v0] := by cases args; simp_all
  obtain ⟨rfl, rfl⟩ := trodVars_none hV
  have k0 := h0
  have lt0 : ∀ x ∈ p0, x.block < W.heap.size := by obtain ⟨m, hm⟩ := k0; exact DataW.trod_lt m _ _ _ hm
  obtain ⟨A0, c0, D0, rfl, w0⟩ := opn.open_addr (hval 0 25 v0 rfl rfl) h0
  clear hA0 hval0
  refine (walk A0 c0 D0 W w0).mono fun e W' ⟨he, bel⟩ => ?_
  subst he
  exact ⟨_, rfl, _, _, _, [], _, [], hW', trodAll_mk1 (shut_bool Try.underlying4 _), (trodAll_cons_mk (Below.trod laidOut (by kernel_rfl) (of_decide_eq_true (by kernel_rfl)) k0 bel lt0) trodAll_mk0), rfl, bel.frame _, fun h => by cases h⟩

theorem over : Rows.fnExactAddrTextRow.holds Try.pinned (OpenSpec.ofChange Rows.fnExactAddrTextSpec) :=
  OpenClaim.holds_of_wide 5 Try.f5 rfl rfl rfl rfl rfl rfl rfl ⟨rfl, rfl, rfl, rfl, rfl⟩ rfl rfl rfl rfl rfl (by kernel_rfl) Try.func5 (by kernel_rfl)
    (of_decide_eq_true (by kernel_rfl)) (by unfold Func.isWrapper; first | (rw [if_pos (by decide +kernel)]; kernel_rfl) | (rw [if_neg (by decide +kernel)]; exact ⟨rfl, rfl⟩))
    (fun os started H enc _ => lifted os started H enc)

/-- the statement -/
theorem proved : Rows.FnExactAddrTextSaid := over
end Go.Proofs.Ytfbepcfaeeoneaa.fnExactAddrText
