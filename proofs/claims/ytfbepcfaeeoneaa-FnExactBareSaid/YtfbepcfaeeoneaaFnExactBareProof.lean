/- Bare, called with any arguments, tells what its model tells, changes nothing, and its answer owns its memory. No condition. -/
import Derived.Test.YtfbepcfaeeoneaaRows
import Derived.WalkKit
import Derived.ProofKit
import Derived.OpenShut
import Derived.ShutString
import Derived.ChangeOld
import Derived.Below
import Derived.Lib.Hide
import Derived.Test.YtfbepcfaeeoneaaOpn
import Derived.Test.YtfbepcfaeeoneaaAdL
import Derived.Test.YtfbepcfaeeoneaaBareS
import Derived.Test.YtfbepcfaeeoneaaMark
import Derived.Deep.RegionWith
import Derived.Deep.RegionHeld3
namespace Go.Proofs.Ytfbepcfaeeoneaa.fnExactBare
open Go.ChangeShapes Go.WideShapes Go.ChangeAt Go.RowKit
open Go.ChangeMaps (open_string shut_string)
set_option linter.unusedVariables false
set_option linter.unusedSimpArgs false

theorem own : ownKnob Try.prog.godebug = none := by kernel_rfl
theorem laidOut : laidOutB Try.prog = true := by kernel_rfl

open ad mem opn own

set_option maxHeartbeats 8000000 in
set_option maxRecDepth 100000 in
theorem walk (A0 : Option Addr) (c0 : Nat) (D0 : ad.AddrD) (w : World) (w0 : opn.AddrIn w A0 D0) :
    Calls Try.prog 8 #[.agg #[.slice A0 D0.path.length c0, .string D0.typ, .string D0.nam, .int .i64 D0.kind, .int .i64 D0.n, .string D0.key]] w fun e w' => e = .returned (.bool true) ∧ Below w.heap.size w w' := by
  obtain ⟨hs0, hl0, ht0, hn0, hk0, _, _⟩ := w0
  have HS0 := Lib.hid hs0
  have HL0 := Lib.hid hl0
  clear hs0 hl0
  by_cases hc0 : (adl.cntA D0 : Int) ≤ 1048576
  rotate_left
  · have HN0 := Lib.hid (by omega : 1048576 < (adl.cntA D0 : Int))
    clear hc0
    go_enter Try.func8, Try.ntmps8
    go_wp2_with fail
    refine (adl.sz_no A0 c0 D0 (1048576) _ (HS0.out.below (below_a1 _ _)) (by omega) (by omega) HL0.out ht0 hn0 hk0 HN0.out).mono ?_
    rintro _ w1 ⟨rfl, hb⟩
    have E1 := Lib.hid (below_then (below_a1 _ _) hb (Nat.le_refl _))
    have M1 : Hid (w.heap.size + 1 ≤ w1.heap.size) := (by (have hx := hb.size; (try simp at hx); show _ ≤ _; omega))
    have Bp01 := Lib.hid ((Blk.new w _ _).step hb)
    have rp01 := Bp01.out.cell
    have bp01 := Bp01.out.lt
    clear hb
    go_wp2
    go_ret
    exact ⟨rfl, E1.out⟩
  have hp0 := adl.len_le hc0 (by omega)
  have HC0 := Lib.hid hc0
  have hlo0 : (0 : Int) ≤ 1048576 - (adl.cntA D0 : Int) := by omega
  have hhi0 : 1048576 - (adl.cntA D0 : Int) ≤ 1048576 := by have : (0 : Int) ≤ (adl.cntA D0 : Int) := Int.natCast_nonneg _; omega
  clear hc0
  have hpb := bare.bare_len hp0
  go_enter Try.func8, Try.ntmps8
  go_wp2_with fail
  refine (adl.sz_ok A0 c0 D0 (1048576) _ (HS0.out.below (below_a1 _ _)) (by omega) (by omega) HL0.out ht0 hn0 hk0 HC0.out).mono ?_
  rintro _ w1 ⟨rfl, hb⟩
  have E1 := Lib.hid (below_then (below_a1 _ _) hb (Nat.le_refl _))
  have M1 : Hid (w.heap.size + 1 ≤ w1.heap.size) := (by (have hx := hb.size; (try simp at hx); show _ ≤ _; omega))
  have Bp01 := Lib.hid ((Blk.new w _ _).step hb)
  have rp01 := Bp01.out.cell
  have bp01 := Bp01.out.lt
  clear hb
  go_wp2_with fail
  refine (adl.toAddr_any A0 c0 D0 _ (HS0.out.below E1.out) hp0).mono ?_
  rintro _ w2 ⟨gu0, rfl, hg, hrow, hb⟩
  have E2 := Lib.hid (below_then E1.out hb (Nat.le_refl _))
  have M2 : Hid (w1.heap.size ≤ w2.heap.size) := (by (have hx := hb.size; (try simp at hx); show _ ≤ _; omega))
  have Bp02 := Lib.hid ((Bp01.out).step hb)
  have rp02 := Bp02.out.cell
  have bp02 := Bp02.out.lt
  have Su02 := Lib.hid (hrow.strs HS0.out.sizes)
  have Ru02 := Lib.hid (hrow)
  clear hb Bp01 rp01 bp01 E1
  have Gu0 : Hid (w1.heap.size ≤ gu0 ∧ gu0 < w2.heap.size) := by (have hx := hrow.lt; (try simp at hg); show _ ∧ _; omega)
  clear hg hrow
  go_wp2_with fail
  refine (bare.bare_spec _ _ D0 _ (Su02.out) hp0 ht0 hn0 hk0).mono ?_
  rintro _ w3 ⟨Aw, cw, rfl, ho, hb⟩
  have E3 := Lib.hid (below_then E2.out hb (Nat.le_refl _))
  have M3 : Hid (w2.heap.size ≤ w3.heap.size) := (by (have hx := hb.size; (try simp at hx); show _ ≤ _; omega))
  have Bp03 := Lib.hid ((Bp02.out).step hb)
  have rp03 := Bp03.out.cell
  have bp03 := Bp03.out.lt
  have Su03 := Lib.hid ((Su02.out).below hb)
  have Ru03 := Lib.hid ((Ru02.out).step hb)
  clear hb Bp02 rp02 bp02 Su02 Ru02 E2
  have Ow3 := Lib.hid ho
  have Kw : Hid (∀ k, (Value.slice Aw (bare.bareD D0).path.length cw).ownBlock = some k → w2.heap.size ≤ k ∧ k < w3.heap.size) := by (intro k hk; have hx := ho.row k hk; (try simp at hx); omega)
  have Sw3 := Lib.hid (Own.strs ho (bare.bare_sizes HS0.out.sizes))
  clear ho
  clear Su03
  clear Ru03
  go_wp2_with fail
  refine (adl.toAddr_any A0 c0 D0 _ (HS0.out.below (below_da E3.out (Nat.le_refl _) _)) hp0).mono ?_
  rintro _ w4 ⟨gx0, rfl, hg, hrow, hb⟩
  have E4 := Lib.hid (below_then (below_da E3.out (Nat.le_refl _) _) hb (Nat.le_refl _))
  have M4 : Hid (w3.heap.size + 1 ≤ w4.heap.size) := (by (have hx := hb.size; (try simp at hx); show _ ≤ _; omega))
  have Bp04 := Lib.hid ((Bp03.out.alloc _).step hb)
  have rp04 := Bp04.out.cell
  have bp04 := Bp04.out.lt
  have Bwbox4 := Lib.hid ((Blk.new w3 _ _).step hb)
  have rwbox4 := Bwbox4.out.cell
  have bwbox4 := Bwbox4.out.lt
  have Sw4 := Lib.hid ((Sw3.out.alloc _).below hb)
  have Ow4 := Lib.hid ((Ow3.out.alloc _).step hb)
  have Sx04 := Lib.hid (hrow.strs HS0.out.sizes)
  have Rx04 := Lib.hid (hrow)
  clear hb Bp03 rp03 bp03 Sw3 E3 Ow3
  have Gx0 : Hid (w3.heap.size + 1 ≤ gx0 ∧ gx0 < w4.heap.size) := by (have hx := hrow.lt; (try simp at hg); show _ ∧ _; omega)
  clear hg hrow
  go_wp2_with fail
  refine (bare.bare_impl _ _ D0 _ (Sx04.out.alloc _) hp0 ht0 hn0 hk0).mono ?_
  rintro _ w5 ⟨Ag, cg, rfl, ho, hb⟩
  have E5 := Lib.hid (below_then (below_da E4.out (Nat.le_refl _) _) hb (Nat.le_refl _))
  have M5 : Hid (w4.heap.size + 1 ≤ w5.heap.size) := (by (have hx := hb.size; (try simp at hx); show _ ≤ _; omega))
  have Bp05 := Lib.hid ((Bp04.out.alloc _).step hb)
  have rp05 := Bp05.out.cell
  have bp05 := Bp05.out.lt
  have Bwbox5 := Lib.hid ((Bwbox4.out.alloc _).step hb)
  have rwbox5 := Bwbox5.out.cell
  have bwbox5 := Bwbox5.out.lt
  have Bx05 := Lib.hid ((Blk.new w4 _ _).step hb)
  have rx05 := Bx05.out.cell
  have bx05 := Bx05.out.lt
  have Sw5 := Lib.hid ((Sw4.out.alloc _).below hb)
  have Sx05 := Lib.hid ((Sx04.out.alloc _).below hb)
  have Rx05 := Lib.hid ((Rx04.out.alloc _).step hb)
  have Ow5 := Lib.hid ((Ow4.out.alloc _).step hb)
  clear hb Bp04 rp04 bp04 Bwbox4 rwbox4 bwbox4 Sw4 Sx04 Rx04 E4 Ow4
  have Og5 := Lib.hid ho
  have Kg : Hid (∀ k, (Value.slice Ag (bare.bareD D0).path.length cg).ownBlock = some k → w4.heap.size + 1 ≤ k ∧ k < w5.heap.size) := by (intro k hk; have hx := ho.row k hk; (try simp at hx); omega)
  have Sg5 := Lib.hid (Own.strs ho (bare.bare_sizes HS0.out.sizes))
  clear ho
  go_wp2_with fail
  refine (adl.eq_same _ _ _ _ (bare.bareD D0) _ (Sg5.out.alloc _) (Sw5.out.alloc _) hpb).mono ?_
  rintro _ w6 ⟨rfl, hb⟩
  have E6 := Lib.hid (below_then (below_da E5.out (Nat.le_refl _) _) hb (Nat.le_refl _))
  have M6 : Hid (w5.heap.size + 1 ≤ w6.heap.size) := (by (have hx := hb.size; (try simp at hx); show _ ≤ _; omega))
  have Bp06 := Lib.hid ((Bp05.out.alloc _).step hb)
  have rp06 := Bp06.out.cell
  have bp06 := Bp06.out.lt
  have Bwbox6 := Lib.hid ((Bwbox5.out.alloc _).step hb)
  have rwbox6 := Bwbox6.out.cell
  have bwbox6 := Bwbox6.out.lt
  have Bx06 := Lib.hid ((Bx05.out.alloc _).step hb)
  have rx06 := Bx06.out.cell
  have bx06 := Bx06.out.lt
  have Bgbox6 := Lib.hid ((Blk.new w5 _ _).step hb)
  have rgbox6 := Bgbox6.out.cell
  have bgbox6 := Bgbox6.out.lt
  have Sw6 := Lib.hid ((Sw5.out.alloc _).below hb)
  have Sx06 := Lib.hid ((Sx05.out.alloc _).below hb)
  have Sg6 := Lib.hid ((Sg5.out.alloc _).below hb)
  have Rx06 := Lib.hid ((Rx05.out.alloc _).step hb)
  have Ow6 := Lib.hid ((Ow5.out.alloc _).step hb)
  have Og6 := Lib.hid ((Og5.out.alloc _).step hb)
  clear hb Bp05 rp05 bp05 Bwbox5 rwbox5 bwbox5 Bx05 rx05 bx05 Sw5 Sx05 Sg5 Rx05 E5 Ow5 Og5
  go_wp2_with fail
  have KT := fun (W : World) (h : Below w.heap.size w W) => Lib.hid (adl.toAddr_any A0 c0 D0 W (HS0.out.below h) hp0)
  have KE := fun (W : World) (h : Strs W (some ⟨gx0, 0, none⟩) D0.path) (g : Nat) (h' : Strs W (some ⟨g, 0, none⟩) D0.path) => Lib.hid (adl.eq_same (some ⟨gx0, 0, none⟩) (some ⟨g, 0, none⟩) D0.path.length D0.path.length D0 W h h' hp0)
  go_region_held3 (fun w' => w'.cell? ⟨w4.heap.size, 0, none⟩ = some (.slice (some ⟨gx0, 0, none⟩) D0.path.length D0.path.length) ∧ w'.cell? ⟨w4.heap.size, 1, none⟩ = some (.string D0.typ) ∧ w'.cell? ⟨w4.heap.size, 2, none⟩ = some (.string D0.nam) ∧ w'.cell? ⟨w4.heap.size, 3, none⟩ = some (.int .i64 D0.kind) ∧ w'.cell? ⟨w4.heap.size, 4, none⟩ = some (.int .i64 D0.n) ∧ w'.cell? ⟨w4.heap.size, 5, none⟩ = some (.string D0.key) ∧ w'.cell? ⟨w.heap.size, 0, none⟩ = some (.slice A0 D0.path.length c0) ∧ w'.cell? ⟨w.heap.size, 1, none⟩ = some (.string D0.typ) ∧ w'.cell? ⟨w.heap.size, 2, none⟩ = some (.string D0.nam) ∧ w'.cell? ⟨w.heap.size, 3, none⟩ = some (.int .i64 D0.kind) ∧ w'.cell? ⟨w.heap.size, 4, none⟩ = some (.int .i64 D0.n) ∧ w'.cell? ⟨w.heap.size, 5, none⟩ = some (.string D0.key)) (go_keep)
    (first
    | (go_at_call 15; refine (KT _ ?_).out.mono ?_; exact below_dn E6.out _; rintro _ w7 ⟨gq, rfl, hg, hrow, hb⟩; have hbb := below_then (below_d w6 _) hb (Nat.le_refl _); have E7 := Lib.hid (below_then (below_dn E6.out _) hb (Nat.le_refl _)); have M7 : Hid (w6.heap.size ≤ w7.heap.size) := (by (have hx := hbb.size; (try simp at hx); show _ ≤ _; omega)); have Bp07 := Lib.hid ((Bp06.out).step hbb); have rp07 := Bp07.out.cell; have bp07 := Bp07.out.lt; have Bwbox7 := Lib.hid ((Bwbox6.out).step hbb); have rwbox7 := Bwbox7.out.cell; have bwbox7 := Bwbox7.out.lt; have Bx07 := Lib.hid ((Bx06.out).step hbb); have rx07 := Bx07.out.cell; have bx07 := Bx07.out.lt; have Bgbox7 := Lib.hid ((Bgbox6.out).step hbb); have rgbox7 := Bgbox7.out.cell; have bgbox7 := Bgbox7.out.lt; have Sw7 := Lib.hid ((Sw6.out).below hbb); have Sx07 := Lib.hid ((Sx06.out).below hbb); have Sg7 := Lib.hid ((Sg6.out).below hbb); have Rx07 := Lib.hid ((Rx06.out).step hbb); have Ow7 := Lib.hid ((Ow6.out).step hbb); have Og7 := Lib.hid ((Og6.out).step hbb); have Sq7 := Lib.hid (hrow.strs HS0.out.sizes); clear hb hbb hg hrow)
    | (go_at_call 17; refine (KE _ ?_ _ ?_).out.mono ?_; exact Sx07.out; exact Sq7.out; rintro _ w8 ⟨rfl, hb⟩; have E8 := Lib.hid (below_then E7.out hb (Nat.le_refl _)); have M8 : Hid (w7.heap.size ≤ w8.heap.size) := (by (have hx := hb.size; (try simp at hx); show _ ≤ _; omega)); have Bp08 := Lib.hid ((Bp07.out).step hb); have rp08 := Bp08.out.cell; have bp08 := Bp08.out.lt; have Bwbox8 := Lib.hid ((Bwbox7.out).step hb); have rwbox8 := Bwbox8.out.cell; have bwbox8 := Bwbox8.out.lt; have Bx08 := Lib.hid ((Bx07.out).step hb); have rx08 := Bx08.out.cell; have bx08 := Bx08.out.lt; have Bgbox8 := Lib.hid ((Bgbox7.out).step hb); have rgbox8 := Bgbox8.out.cell; have bgbox8 := Bgbox8.out.lt; have Sw8 := Lib.hid ((Sw7.out).below hb); have Sx08 := Lib.hid ((Sx07.out).below hb); have Sg8 := Lib.hid ((Sg7.out).below hb); have Sq8 := Lib.hid ((Sq7.out).below hb); have Rx08 := Lib.hid ((Rx07.out).step hb); have Ow8 := Lib.hid ((Ow7.out).step hb); have Og8 := Lib.hid ((Og7.out).step hb); clear hb))
  clear KT KE
  go_split_ands
  clear Sq8
  clear Bp06 rp06 bp06 Bwbox6 rwbox6 bwbox6 Bx06 rx06 bx06 Bgbox6 rgbox6 bgbox6 Sw6 Sx06 Sg6 Rx06 E6 Ow6 Og6 Bp07 rp07 bp07 Bwbox7 rwbox7 bwbox7 Bx07 rx07 bx07 Bgbox7 rgbox7 bgbox7 Sw7 Sx07 Sg7 Rx07 E7 Ow7 Og7
  clear Sq7
  have hbx0 : w.heap.size ≤ gx0 := by have := M1.out; have := M2.out; have := M3.out; have := M4.out; have := M5.out; have := M6.out; have := M7.out; have := M8.out; have := Gu0.out; have := Gx0.out; omega
  go_wp2_with fail
  refine (own.mark_addrI _ _ w.heap.size D0 _ (1) _ (row_own (Rx08.out) hbx0 HL0.out) (by rfl) hp0 (by omega) (by omega)).mono ?_
  rintro _ w9 ⟨rfl, ho, hg⟩
  have M9 : Hid (w8.heap.size ≤ w9.heap.size) := hg.size
  have E9 := Lib.hid (Below.grown E8.out hg (by have := M1.out; have := M2.out; have := M3.out; have := M4.out; have := M5.out; have := M6.out; have := M7.out; have := M8.out; have := Gu0.out; have := Gx0.out; first | omega | exact Nat.le_refl _) (fun k e => by have := M1.out; have := M2.out; have := M3.out; have := M4.out; have := M5.out; have := M6.out; have := M7.out; have := M8.out; have := Gu0.out; have := Gx0.out; have e2 : some gx0 = some _ := e; injection e2 with e2; omega))
  have Bp09 := Lib.hid (blk_grown Bp08.out hg (fun e => by have := M1.out; have := M2.out; have := M3.out; have := M4.out; have := M5.out; have := M6.out; have := M7.out; have := M8.out; have := Gu0.out; have := Gx0.out; have e2 : some gx0 = some _ := e; injection e2 with e2; omega))
  have rp09 := Bp09.out.cell
  have bp09 := Bp09.out.lt
  have Bwbox9 := Lib.hid (blk_grown Bwbox8.out hg (fun e => by have := M1.out; have := M2.out; have := M3.out; have := M4.out; have := M5.out; have := M6.out; have := M7.out; have := M8.out; have := Gu0.out; have := Gx0.out; have e2 : some gx0 = some _ := e; injection e2 with e2; omega))
  have rwbox9 := Bwbox9.out.cell
  have bwbox9 := Bwbox9.out.lt
  have Bx09 := Lib.hid (blk_grown Bx08.out hg (fun e => by have := M1.out; have := M2.out; have := M3.out; have := M4.out; have := M5.out; have := M6.out; have := M7.out; have := M8.out; have := Gu0.out; have := Gx0.out; have e2 : some gx0 = some _ := e; injection e2 with e2; omega))
  have rx09 := Bx09.out.cell
  have bx09 := Bx09.out.lt
  have Bgbox9 := Lib.hid (blk_grown Bgbox8.out hg (fun e => by have := M1.out; have := M2.out; have := M3.out; have := M4.out; have := M5.out; have := M6.out; have := M7.out; have := M8.out; have := Gu0.out; have := Gx0.out; have e2 : some gx0 = some _ := e; injection e2 with e2; omega))
  have rgbox9 := Bgbox9.out.cell
  have bgbox9 := Bgbox9.out.lt
  have Sw9 := Lib.hid (strs_grown Sw8.out hg (fun b o eA e => by have := M1.out; have := M2.out; have := M3.out; have := M4.out; have := M5.out; have := M6.out; have := M7.out; have := M8.out; have := Gu0.out; have := Gx0.out; have e2 : some gx0 = some _ := e; injection e2 with e2; have hx := Kw.out b (by rw [eA]; rfl); omega))
  have Sg9 := Lib.hid (strs_grown Sg8.out hg (fun b o eA e => by have := M1.out; have := M2.out; have := M3.out; have := M4.out; have := M5.out; have := M6.out; have := M7.out; have := M8.out; have := Gu0.out; have := Gx0.out; have e2 : some gx0 = some _ := e; injection e2 with e2; have hx := Kg.out b (by rw [eA]; rfl); omega))
  have Ow9 := Lib.hid (Own.kept Ow8.out hg (fun k hk e => by have := M1.out; have := M2.out; have := M3.out; have := M4.out; have := M5.out; have := M6.out; have := M7.out; have := M8.out; have := Gu0.out; have := Gx0.out; have e2 : some gx0 = some _ := e; injection e2 with e2; have hx := Kw.out k hk; omega))
  have Og9 := Lib.hid (Own.kept Og8.out hg (fun k hk e => by have := M1.out; have := M2.out; have := M3.out; have := M4.out; have := M5.out; have := M6.out; have := M7.out; have := M8.out; have := Gu0.out; have := Gx0.out; have e2 : some gx0 = some _ := e; injection e2 with e2; have hx := Kg.out k hk; omega))
  have Sx09 := Lib.hid (Own.marks_strs ho (by omega))
  clear ho hg E8 Bp08 rp08 bp08 Bwbox8 rwbox8 bwbox8 Bx08 rx08 bx08 Bgbox8 rgbox8 bgbox8 Sw8 Sx08 Sg8 Ow8 Og8 Rx08
  go_wp2_with fail
  refine (adl.eq_same _ _ _ _ (bare.bareD D0) _ (Sg9.out) (Sw9.out) hpb).mono ?_
  rintro _ w10 ⟨rfl, hb⟩
  have E10 := Lib.hid (below_then E9.out hb (Nat.le_refl _))
  have M10 : Hid (w9.heap.size ≤ w10.heap.size) := (by (have hx := hb.size; (try simp at hx); show _ ≤ _; omega))
  have Bp010 := Lib.hid ((Bp09.out).step hb)
  have rp010 := Bp010.out.cell
  have bp010 := Bp010.out.lt
  have Bwbox10 := Lib.hid ((Bwbox9.out).step hb)
  have rwbox10 := Bwbox10.out.cell
  have bwbox10 := Bwbox10.out.lt
  have Bx010 := Lib.hid ((Bx09.out).step hb)
  have rx010 := Bx010.out.cell
  have bx010 := Bx010.out.lt
  have Bgbox10 := Lib.hid ((Bgbox9.out).step hb)
  have rgbox10 := Bgbox10.out.cell
  have bgbox10 := Bgbox10.out.lt
  have Sw10 := Lib.hid ((Sw9.out).below hb)
  have Sg10 := Lib.hid ((Sg9.out).below hb)
  have Sx010 := Lib.hid ((Sx09.out).below hb)
  have Ow10 := Lib.hid ((Ow9.out).step hb)
  have Og10 := Lib.hid ((Og9.out).step hb)
  clear hb Bp09 rp09 bp09 Bwbox9 rwbox9 bwbox9 Bx09 rx09 bx09 Bgbox9 rgbox9 bgbox9 Sw9 Sg9 Sx09 E9 Ow9 Og9
  clear Sx010
  go_wp2_with fail
  refine (own.mark_addrI _ _ _ (bare.bareD D0) 1 1 _ Og10.out rfl hpb (by omega) (by omega)).mono ?_
  rintro _ w11 ⟨rfl, ho, hg⟩
  have M11 : Hid (w10.heap.size ≤ w11.heap.size) := hg.size
  have E11 := Lib.hid (Below.grown E10.out hg (by have := M1.out; have := M2.out; have := M3.out; have := M4.out; have := M5.out; have := M6.out; have := M7.out; have := M8.out; have := M9.out; have := M10.out; have := Gu0.out; have := Gx0.out; first | omega | exact Nat.le_refl _) (fun k e => by have := M1.out; have := M2.out; have := M3.out; have := M4.out; have := M5.out; have := M6.out; have := M7.out; have := M8.out; have := M9.out; have := M10.out; have := Gu0.out; have := Gx0.out; have hy := Kg.out _ e; omega))
  have Bp011 := Lib.hid (blk_grown Bp010.out hg (fun e => by have := M1.out; have := M2.out; have := M3.out; have := M4.out; have := M5.out; have := M6.out; have := M7.out; have := M8.out; have := M9.out; have := M10.out; have := Gu0.out; have := Gx0.out; have hy := Kg.out _ e; omega))
  have rp011 := Bp011.out.cell
  have bp011 := Bp011.out.lt
  have Bwbox11 := Lib.hid (blk_grown Bwbox10.out hg (fun e => by have := M1.out; have := M2.out; have := M3.out; have := M4.out; have := M5.out; have := M6.out; have := M7.out; have := M8.out; have := M9.out; have := M10.out; have := Gu0.out; have := Gx0.out; have hy := Kg.out _ e; omega))
  have rwbox11 := Bwbox11.out.cell
  have bwbox11 := Bwbox11.out.lt
  have Bx011 := Lib.hid (blk_grown Bx010.out hg (fun e => by have := M1.out; have := M2.out; have := M3.out; have := M4.out; have := M5.out; have := M6.out; have := M7.out; have := M8.out; have := M9.out; have := M10.out; have := Gu0.out; have := Gx0.out; have hy := Kg.out _ e; omega))
  have rx011 := Bx011.out.cell
  have bx011 := Bx011.out.lt
  have Bgbox11 := Lib.hid (blk_grown Bgbox10.out hg (fun e => by have := M1.out; have := M2.out; have := M3.out; have := M4.out; have := M5.out; have := M6.out; have := M7.out; have := M8.out; have := M9.out; have := M10.out; have := Gu0.out; have := Gx0.out; have hy := Kg.out _ e; omega))
  have rgbox11 := Bgbox11.out.cell
  have bgbox11 := Bgbox11.out.lt
  have Sw11 := Lib.hid (strs_grown Sw10.out hg (fun b o eA e => by have := M1.out; have := M2.out; have := M3.out; have := M4.out; have := M5.out; have := M6.out; have := M7.out; have := M8.out; have := M9.out; have := M10.out; have := Gu0.out; have := Gx0.out; have hy := Kg.out _ e; have hx := Kw.out b (by rw [eA]; rfl); omega))
  have Ow11 := Lib.hid (Own.kept Ow10.out hg (fun k hk e => by have := M1.out; have := M2.out; have := M3.out; have := M4.out; have := M5.out; have := M6.out; have := M7.out; have := M8.out; have := M9.out; have := M10.out; have := Gu0.out; have := Gx0.out; have hy := Kg.out _ e; have hx := Kw.out k hk; omega))
  have Sg11 := Lib.hid (Own.marks_strs ho (by omega))
  clear ho hg E10 Bp010 rp010 bp010 Bwbox10 rwbox10 bwbox10 Bx010 rx010 bx010 Bgbox10 rgbox10 bgbox10 Sw10 Sg10 Ow10 Og10
  go_wp2_with fail
  refine (own.held_addrI _ _ _ _ _ _ _ _ 1 1 _ (Sg11.out) rfl hpb (by omega) (by omega)).mono ?_
  rintro _ w12 ⟨rfl, hb⟩
  have E12 := Lib.hid (below_then E11.out hb (Nat.le_refl _))
  have M12 : Hid (w11.heap.size ≤ w12.heap.size) := (by (have hx := hb.size; (try simp at hx); show _ ≤ _; omega))
  have Bp012 := Lib.hid ((Bp011.out).step hb)
  have rp012 := Bp012.out.cell
  have bp012 := Bp012.out.lt
  have Bwbox12 := Lib.hid ((Bwbox11.out).step hb)
  have rwbox12 := Bwbox12.out.cell
  have bwbox12 := Bwbox12.out.lt
  have Bx012 := Lib.hid ((Bx011.out).step hb)
  have rx012 := Bx012.out.cell
  have bx012 := Bx012.out.lt
  have Bgbox12 := Lib.hid ((Bgbox11.out).step hb)
  have rgbox12 := Bgbox12.out.cell
  have bgbox12 := Bgbox12.out.lt
  have Sw12 := Lib.hid ((Sw11.out).below hb)
  have Sg12 := Lib.hid ((Sg11.out).below hb)
  have Ow12 := Lib.hid ((Ow11.out).step hb)
  clear hb Bp011 rp011 bp011 Bwbox11 rwbox11 bwbox11 Bx011 rx011 bx011 Bgbox11 rgbox11 bgbox11 Sw11 Sg11 E11 Ow11
  go_wp2_with fail
  refine (adl.toAddr_any A0 c0 D0 _ (HS0.out.below E12.out) hp0).mono ?_
  rintro _ w13 ⟨gv0, rfl, hg, hrow, hb⟩
  have E13 := Lib.hid (below_then E12.out hb (Nat.le_refl _))
  have M13 : Hid (w12.heap.size ≤ w13.heap.size) := (by (have hx := hb.size; (try simp at hx); show _ ≤ _; omega))
  have Bp013 := Lib.hid ((Bp012.out).step hb)
  have rp013 := Bp013.out.cell
  have bp013 := Bp013.out.lt
  have Bwbox13 := Lib.hid ((Bwbox12.out).step hb)
  have rwbox13 := Bwbox13.out.cell
  have bwbox13 := Bwbox13.out.lt
  have Bx013 := Lib.hid ((Bx012.out).step hb)
  have rx013 := Bx013.out.cell
  have bx013 := Bx013.out.lt
  have Bgbox13 := Lib.hid ((Bgbox12.out).step hb)
  have rgbox13 := Bgbox13.out.cell
  have bgbox13 := Bgbox13.out.lt
  have Sw13 := Lib.hid ((Sw12.out).below hb)
  have Sg13 := Lib.hid ((Sg12.out).below hb)
  have Ow13 := Lib.hid ((Ow12.out).step hb)
  have Sv013 := Lib.hid (hrow.strs HS0.out.sizes)
  have Rv013 := Lib.hid (hrow)
  clear hb Bp012 rp012 bp012 Bwbox12 rwbox12 bwbox12 Bx012 rx012 bx012 Bgbox12 rgbox12 bgbox12 Sw12 Sg12 E12 Ow12
  have Gv0 : Hid (w12.heap.size ≤ gv0 ∧ gv0 < w13.heap.size) := by (have hx := hrow.lt; (try simp at hg); show _ ∧ _; omega)
  clear hg hrow
  go_wp2_with fail
  refine (bare.bare_impl _ _ D0 _ (Sv013.out) hp0 ht0 hn0 hk0).mono ?_
  rintro _ w14 ⟨Ah, ch, rfl, ho, hb⟩
  have E14 := Lib.hid (below_then E13.out hb (Nat.le_refl _))
  have M14 : Hid (w13.heap.size ≤ w14.heap.size) := (by (have hx := hb.size; (try simp at hx); show _ ≤ _; omega))
  have Bp014 := Lib.hid ((Bp013.out).step hb)
  have rp014 := Bp014.out.cell
  have bp014 := Bp014.out.lt
  have Bwbox14 := Lib.hid ((Bwbox13.out).step hb)
  have rwbox14 := Bwbox14.out.cell
  have bwbox14 := Bwbox14.out.lt
  have Bx014 := Lib.hid ((Bx013.out).step hb)
  have rx014 := Bx014.out.cell
  have bx014 := Bx014.out.lt
  have Bgbox14 := Lib.hid ((Bgbox13.out).step hb)
  have rgbox14 := Bgbox14.out.cell
  have bgbox14 := Bgbox14.out.lt
  have Sw14 := Lib.hid ((Sw13.out).below hb)
  have Sg14 := Lib.hid ((Sg13.out).below hb)
  have Sv014 := Lib.hid ((Sv013.out).below hb)
  have Rv014 := Lib.hid ((Rv013.out).step hb)
  have Ow14 := Lib.hid ((Ow13.out).step hb)
  clear hb Bp013 rp013 bp013 Bwbox13 rwbox13 bwbox13 Bx013 rx013 bx013 Bgbox13 rgbox13 bgbox13 Sw13 Sg13 Sv013 Rv013 E13 Ow13
  have Oh14 := Lib.hid ho
  have Kh : Hid (∀ k, (Value.slice Ah (bare.bareD D0).path.length ch).ownBlock = some k → w13.heap.size ≤ k ∧ k < w14.heap.size) := by (intro k hk; have hx := ho.row k hk; (try simp at hx); omega)
  have Sh14 := Lib.hid (Own.strs ho (bare.bare_sizes HS0.out.sizes))
  clear ho
  clear Sv014
  clear Rv014
  go_wp2_with fail
  refine (adl.eq_same _ _ _ _ (bare.bareD D0) _ (Sh14.out.alloc _) (Sw14.out.alloc _) hpb).mono ?_
  rintro _ w15 ⟨rfl, hb⟩
  have E15 := Lib.hid (below_then (below_da E14.out (Nat.le_refl _) _) hb (Nat.le_refl _))
  have M15 : Hid (w14.heap.size + 1 ≤ w15.heap.size) := (by (have hx := hb.size; (try simp at hx); show _ ≤ _; omega))
  have Bp015 := Lib.hid ((Bp014.out.alloc _).step hb)
  have rp015 := Bp015.out.cell
  have bp015 := Bp015.out.lt
  have Bwbox15 := Lib.hid ((Bwbox14.out.alloc _).step hb)
  have rwbox15 := Bwbox15.out.cell
  have bwbox15 := Bwbox15.out.lt
  have Bx015 := Lib.hid ((Bx014.out.alloc _).step hb)
  have rx015 := Bx015.out.cell
  have bx015 := Bx015.out.lt
  have Bgbox15 := Lib.hid ((Bgbox14.out.alloc _).step hb)
  have rgbox15 := Bgbox15.out.cell
  have bgbox15 := Bgbox15.out.lt
  have Bhbox15 := Lib.hid ((Blk.new w14 _ _).step hb)
  have rhbox15 := Bhbox15.out.cell
  have bhbox15 := Bhbox15.out.lt
  have Sw15 := Lib.hid ((Sw14.out.alloc _).below hb)
  have Sg15 := Lib.hid ((Sg14.out.alloc _).below hb)
  have Sh15 := Lib.hid ((Sh14.out.alloc _).below hb)
  have Ow15 := Lib.hid ((Ow14.out.alloc _).step hb)
  have Oh15 := Lib.hid ((Oh14.out.alloc _).step hb)
  clear hb Bp014 rp014 bp014 Bwbox14 rwbox14 bwbox14 Bx014 rx014 bx014 Bgbox14 rgbox14 bgbox14 Sw14 Sg14 Sh14 E14 Ow14 Oh14
  go_wp2_with fail
  refine (own.held_addrI _ _ _ _ _ _ _ _ 1 1 _ (Sg15.out) rfl hpb (by omega) (by omega)).mono ?_
  rintro _ w16 ⟨rfl, hb⟩
  have E16 := Lib.hid (below_then E15.out hb (Nat.le_refl _))
  have M16 : Hid (w15.heap.size ≤ w16.heap.size) := (by (have hx := hb.size; (try simp at hx); show _ ≤ _; omega))
  have Bp016 := Lib.hid ((Bp015.out).step hb)
  have rp016 := Bp016.out.cell
  have bp016 := Bp016.out.lt
  have Bwbox16 := Lib.hid ((Bwbox15.out).step hb)
  have rwbox16 := Bwbox16.out.cell
  have bwbox16 := Bwbox16.out.lt
  have Bx016 := Lib.hid ((Bx015.out).step hb)
  have rx016 := Bx016.out.cell
  have bx016 := Bx016.out.lt
  have Bgbox16 := Lib.hid ((Bgbox15.out).step hb)
  have rgbox16 := Bgbox16.out.cell
  have bgbox16 := Bgbox16.out.lt
  have Bhbox16 := Lib.hid ((Bhbox15.out).step hb)
  have rhbox16 := Bhbox16.out.cell
  have bhbox16 := Bhbox16.out.lt
  have Sw16 := Lib.hid ((Sw15.out).below hb)
  have Sg16 := Lib.hid ((Sg15.out).below hb)
  have Sh16 := Lib.hid ((Sh15.out).below hb)
  have Ow16 := Lib.hid ((Ow15.out).step hb)
  have Oh16 := Lib.hid ((Oh15.out).step hb)
  clear hb Bp015 rp015 bp015 Bwbox15 rwbox15 bwbox15 Bx015 rx015 bx015 Bgbox15 rgbox15 bgbox15 Bhbox15 rhbox15 bhbox15 Sw15 Sg15 Sh15 E15 Ow15 Oh15
  go_wp2
  go_ret
  exact ⟨rfl, E16.out⟩

set_option maxRecDepth 100000 in
theorem lifted (os : Os) (started : os.Started) (H : Type) (enc : TypeId × Value → H) :
    ReturnsInHanded {} Try.checked os 8 .any (Rows.fnExactBareSpec.pre6 enc Try.prog Try.f8 Rows.fnExactBareRow.domain false) (Rows.fnExactBareSpec.post enc Try.prog Try.f8 false true false false) := by
  refine returnsInHanded_of_change (C := Try.checked) own started (by kernel_rfl) Try.func8
    (ChangeSpec.witness6 (enc := enc) (C := Try.checked) false ⟨#[], #[.agg #[.slice none 0 0, .string ByteArray.empty, .string ByteArray.empty, .int .i64 0, .int .i64 0, .string ByteArray.empty]], []⟩ 8 (by kernel_rfl) (by kernel_rfl) (by kernel_rfl) (by kernel_rfl)) ?_
  intro W base args ds gs before hval0 hW hcnd _
  have hval : ∀ (j : Nat) t v, Try.f8.params[j]? = some t → args[j]? = some v → Value.okWide Try.prog W .any base t v := hval0
  have hW' := hW
  obtain ⟨p, q, hA0, hV, rfl, hfz, hnd⟩ := hW
  have hA : DataW.TrodAll enc Try.prog W 0 (fun _ => true) true Try.f8.params.toList args.toList ds p := hA0
  rw [Try.params8] at hA hval
  obtain ⟨v0, vs0, d0, ds0, p0, q0, hargs, rfl, rfl, h0, r0⟩ := trodAll_cons hA
  obtain ⟨rfl, rfl, rfl⟩ := trodAll_nil r0
  obtain rfl : args = #[v0] := by cases args; simp_all
  obtain ⟨rfl, rfl⟩ := trodVars_none hV
  have k0 := h0
  have lt0 : ∀ x ∈ p0, x.block < W.heap.size := by obtain ⟨m, hm⟩ := k0; exact DataW.trod_lt m _ _ _ hm
  obtain ⟨A0, c0, D0, rfl, w0⟩ := opn.open_addr (hval 0 25 v0 rfl rfl) h0
  clear hA0 hval0
  refine (walk A0 c0 D0 W w0).mono fun e W' ⟨he, bel⟩ => ?_
  subst he
  exact ⟨_, rfl, _, _, _, [], _, [], hW', trodAll_mk1 (shut_bool Try.underlying4 _), (trodAll_cons_mk (Below.trod laidOut (by kernel_rfl) (of_decide_eq_true (by kernel_rfl)) k0 bel lt0) trodAll_mk0), rfl, bel.frame _, fun h => by cases h⟩

theorem over : Rows.fnExactBareRow.holds Try.pinned (OpenSpec.ofChange Rows.fnExactBareSpec) :=
  OpenClaim.holds_of_wide 8 Try.f8 rfl rfl rfl rfl rfl rfl rfl ⟨rfl, rfl, rfl, rfl, rfl⟩ rfl rfl rfl rfl rfl (by kernel_rfl) Try.func8 (by kernel_rfl)
    (of_decide_eq_true (by kernel_rfl)) (by unfold Func.isWrapper; first | (rw [if_pos (by decide +kernel)]; kernel_rfl) | (rw [if_neg (by decide +kernel)]; exact ⟨rfl, rfl⟩))
    (fun os started H enc _ => lifted os started H enc)

/-- the statement -/
theorem proved : Rows.FnExactBareSaid := over
end Go.Proofs.Ytfbepcfaeeoneaa.fnExactBare
