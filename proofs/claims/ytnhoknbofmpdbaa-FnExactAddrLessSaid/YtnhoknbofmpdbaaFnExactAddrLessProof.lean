/- AddrLess, called with any arguments, tells what its model tells, and changes nothing. No condition. -/
import Derived.Test.YtnhoknbofmpdbaaRows
import Derived.WalkKit
import Derived.ProofKit
import Derived.OpenShut
import Derived.ShutString
import Derived.ChangeOld
import Derived.Below
import Derived.Lib.Hide
import Derived.Test.YtnhoknbofmpdbaaOpn
import Derived.Test.YtnhoknbofmpdbaaAdL
import Derived.Test.YtnhoknbofmpdbaaLessS
import Derived.Deep.RegionWith
import Derived.Deep.RegionHeld3
namespace Go.Proofs.Ytnhoknbofmpdbaa.fnExactAddrLess
open Go.ChangeShapes Go.WideShapes Go.ChangeAt Go.RowKit
open Go.ChangeMaps (open_string shut_string)
set_option linter.unusedVariables false
set_option linter.unusedSimpArgs false

theorem own : ownKnob Try.prog.godebug = none := by kernel_rfl
theorem laidOut : laidOutB Try.prog = true := by kernel_rfl

open ad mem opn

set_option maxHeartbeats 4000000 in
set_option maxRecDepth 100000 in
theorem walk (A0 : Option Addr) (c0 : Nat) (D0 : ad.AddrD) (A1 : Option Addr) (c1 : Nat) (D1 : ad.AddrD) (w : World) (w0 : opn.AddrIn w A0 D0) (w1 : opn.AddrIn w A1 D1) :
    Calls Try.prog 3 #[.agg #[.slice A0 D0.path.length c0, .string D0.typ, .string D0.nam, .int .i64 D0.kind, .int .i64 D0.n, .string D0.key], .agg #[.slice A1 D1.path.length c1, .string D1.typ, .string D1.nam, .int .i64 D1.kind, .int .i64 D1.n, .string D1.key]] w fun e w' => e = .returned (.bool true) ∧ Below w.heap.size w w' := by
  obtain ⟨hs0, hl0, ht0, hn0, hk0, _, _⟩ := w0
  have HS0 := Lib.hid hs0
  have HL0 := Lib.hid hl0
  clear hs0 hl0
  obtain ⟨hs1, hl1, ht1, hn1, hk1, _, _⟩ := w1
  have HS1 := Lib.hid hs1
  have HL1 := Lib.hid hl1
  clear hs1 hl1
  by_cases hc0 : (adl.cntA D0 : Int) ≤ 1048576
  rotate_left
  · have HN0 := Lib.hid (by omega : 1048576 < (adl.cntA D0 : Int))
    clear hc0
    go_enter Try.func3, Try.ntmps3
    go_wp2_with fail
    refine (adl.sz_no A0 c0 D0 (1048576) _ (HS0.out.below (below_a2 _ _ _)) (by omega) (by omega) HL0.out ht0 hn0 hk0 HN0.out).mono ?_
    rintro _ w1 ⟨rfl, hb⟩
    have E1 := Lib.hid (below_then (below_a2 _ _ _) hb (Nat.le_refl _))
    have Bp01 := Lib.hid (((Blk.new w _ _).alloc _).step hb)
    have rp01 := Bp01.out.cell
    have bp01 := Bp01.out.lt
    have Bp11 := Lib.hid ((Blk.new1 w _ _ _).step hb)
    have rp11 := Bp11.out.cell
    have bp11 := Bp11.out.lt
    clear hb
    go_wp2
    go_ret
    exact ⟨rfl, E1.out⟩
  have hp0 := adl.len_le hc0 (by omega)
  have HC0 := Lib.hid hc0
  have hlo0 : (0 : Int) ≤ 1048576 - (adl.cntA D0 : Int) := by omega
  have hhi0 : 1048576 - (adl.cntA D0 : Int) ≤ 1048576 := by have : (0 : Int) ≤ (adl.cntA D0 : Int) := Int.natCast_nonneg _; omega
  clear hc0
  by_cases hc1 : (adl.cntA D1 : Int) ≤ 1048576 - (adl.cntA D0 : Int)
  rotate_left
  · have HN1 := Lib.hid (by omega : 1048576 - (adl.cntA D0 : Int) < (adl.cntA D1 : Int))
    clear hc1
    go_enter Try.func3, Try.ntmps3
    go_wp2_with fail
    refine (adl.sz_ok A0 c0 D0 (1048576) _ (HS0.out.below (below_a2 _ _ _)) (by omega) (by omega) HL0.out ht0 hn0 hk0 HC0.out).mono ?_
    rintro _ w1 ⟨rfl, hb⟩
    have E1 := Lib.hid (below_then (below_a2 _ _ _) hb (Nat.le_refl _))
    have Bp01 := Lib.hid (((Blk.new w _ _).alloc _).step hb)
    have rp01 := Bp01.out.cell
    have bp01 := Bp01.out.lt
    have Bp11 := Lib.hid ((Blk.new1 w _ _ _).step hb)
    have rp11 := Bp11.out.cell
    have bp11 := Bp11.out.lt
    clear hb
    go_wp2_with fail
    refine (adl.sz_no A1 c1 D1 (1048576 - (adl.cntA D0 : Int)) _ (HS1.out.below E1.out) hlo0 hhi0 HL1.out ht1 hn1 hk1 HN1.out).mono ?_
    rintro _ w2 ⟨rfl, hb⟩
    have E2 := Lib.hid (below_then E1.out hb (Nat.le_refl _))
    have Bp02 := Lib.hid ((Bp01.out).step hb)
    have rp02 := Bp02.out.cell
    have bp02 := Bp02.out.lt
    have Bp12 := Lib.hid ((Bp11.out).step hb)
    have rp12 := Bp12.out.cell
    have bp12 := Bp12.out.lt
    clear hb Bp01 rp01 bp01 Bp11 rp11 bp11 E1
    go_wp2
    go_ret
    exact ⟨rfl, E2.out⟩
  have hp1 := adl.len_le hc1 (by omega)
  have HC1 := Lib.hid hc1
  have hlo1 : (0 : Int) ≤ 1048576 - (adl.cntA D0 : Int) - (adl.cntA D1 : Int) := by omega
  have hhi1 : 1048576 - (adl.cntA D0 : Int) - (adl.cntA D1 : Int) ≤ 1048576 := by have : (0 : Int) ≤ (adl.cntA D1 : Int) := Int.natCast_nonneg _; omega
  clear hc1
  go_enter Try.func3, Try.ntmps3
  go_wp2_with fail
  refine (adl.sz_ok A0 c0 D0 (1048576) _ (HS0.out.below (below_a2 _ _ _)) (by omega) (by omega) HL0.out ht0 hn0 hk0 HC0.out).mono ?_
  rintro _ w1 ⟨rfl, hb⟩
  have E1 := Lib.hid (below_then (below_a2 _ _ _) hb (Nat.le_refl _))
  have Bp01 := Lib.hid (((Blk.new w _ _).alloc _).step hb)
  have rp01 := Bp01.out.cell
  have bp01 := Bp01.out.lt
  have Bp11 := Lib.hid ((Blk.new1 w _ _ _).step hb)
  have rp11 := Bp11.out.cell
  have bp11 := Bp11.out.lt
  clear hb
  go_wp2_with fail
  refine (adl.sz_ok A1 c1 D1 (1048576 - (adl.cntA D0 : Int)) _ (HS1.out.below E1.out) hlo0 hhi0 HL1.out ht1 hn1 hk1 HC1.out).mono ?_
  rintro _ w2 ⟨rfl, hb⟩
  have E2 := Lib.hid (below_then E1.out hb (Nat.le_refl _))
  have Bp02 := Lib.hid ((Bp01.out).step hb)
  have rp02 := Bp02.out.cell
  have bp02 := Bp02.out.lt
  have Bp12 := Lib.hid ((Bp11.out).step hb)
  have rp12 := Bp12.out.cell
  have bp12 := Bp12.out.lt
  clear hb Bp01 rp01 bp01 Bp11 rp11 bp11 E1
  go_wp2_with fail
  have KT := fun (W : World) (h : Below w.heap.size w W) => Lib.hid (adl.toAddr_any A0 c0 D0 W (HS0.out.below h) hp0)
  go_region_held3 (fun w' => w'.cell? ⟨w.heap.size, 0, none⟩ = some (.slice A0 D0.path.length c0) ∧ w'.cell? ⟨w.heap.size, 1, none⟩ = some (.string D0.typ) ∧ w'.cell? ⟨w.heap.size, 2, none⟩ = some (.string D0.nam) ∧ w'.cell? ⟨w.heap.size, 3, none⟩ = some (.int .i64 D0.kind) ∧ w'.cell? ⟨w.heap.size, 4, none⟩ = some (.int .i64 D0.n) ∧ w'.cell? ⟨w.heap.size, 5, none⟩ = some (.string D0.key) ∧ w'.cell? ⟨w.heap.size + 1, 0, none⟩ = some (.slice A1 D1.path.length c1) ∧ w'.cell? ⟨w.heap.size + 1, 1, none⟩ = some (.string D1.typ) ∧ w'.cell? ⟨w.heap.size + 1, 2, none⟩ = some (.string D1.nam) ∧ w'.cell? ⟨w.heap.size + 1, 3, none⟩ = some (.int .i64 D1.kind) ∧ w'.cell? ⟨w.heap.size + 1, 4, none⟩ = some (.int .i64 D1.n) ∧ w'.cell? ⟨w.heap.size + 1, 5, none⟩ = some (.string D1.key)) (go_keep)
    (first
    | (go_at_call_of 10 (Value.string D0.typ); refine (KT _ ?_).out.mono ?_; exact below_dn E2.out _; rintro _ w3 ⟨gu0, rfl, hg, hrow, hb⟩; have hbb := below_then (below_d w2 _) hb (Nat.le_refl _); have E3 := Lib.hid (below_then (below_dn E2.out _) hb (Nat.le_refl _)); have Bp03 := Lib.hid ((Bp02.out).step hbb); have rp03 := Bp03.out.cell; have bp03 := Bp03.out.lt; have Bp13 := Lib.hid ((Bp12.out).step hbb); have rp13 := Bp13.out.cell; have bp13 := Bp13.out.lt; have Su03 := Lib.hid (hrow.strs HS0.out.sizes); have Ru03 := Lib.hid hrow; clear hb hbb hg hrow)
    | (go_at_call_of 10 (Value.string D1.typ); refine (adl.toAddr_any A1 c1 D1 _ (HS1.out.below E3.out) hp1).mono ?_; rintro _ w4 ⟨gu1, rfl, hg, hrow, hb⟩; have E4 := Lib.hid (below_then E3.out hb (Nat.le_refl _)); have Bp04 := Lib.hid ((Bp03.out).step hb); have rp04 := Bp04.out.cell; have bp04 := Bp04.out.lt; have Bp14 := Lib.hid ((Bp13.out).step hb); have rp14 := Bp14.out.cell; have bp14 := Bp14.out.lt; have Su04 := Lib.hid ((Su03.out).below hb); have Ru04 := Lib.hid ((Ru03.out).step hb); have Su14 := Lib.hid (hrow.strs HS1.out.sizes); have Ru14 := Lib.hid (hrow); clear hb hg hrow)
    | (go_at_call 9; refine (cm.less_spec _ _ _ _ D0 D1 _ (Su04.out) (Su14.out) HL0.out HL1.out ht0 hn0 hk0 ht1 hn1 hk1).mono ?_; rintro _ w5 ⟨rfl, hb⟩; have E5 := Lib.hid (below_then E4.out hb (Nat.le_refl _)); have Bp05 := Lib.hid ((Bp04.out).step hb); have rp05 := Bp05.out.cell; have bp05 := Bp05.out.lt; have Bp15 := Lib.hid ((Bp14.out).step hb); have rp15 := Bp15.out.cell; have bp15 := Bp15.out.lt; have Su05 := Lib.hid ((Su04.out).below hb); have Su15 := Lib.hid ((Su14.out).below hb); have Ru05 := Lib.hid ((Ru04.out).step hb); have Ru15 := Lib.hid ((Ru14.out).step hb); clear hb))
  clear KT
  go_split_ands
  clear Bp02 rp02 bp02 Bp12 rp12 bp12 E2 Bp03 rp03 bp03 Bp13 rp13 bp13 Su03 Ru03 E3 Bp04 rp04 bp04 Bp14 rp14 bp14 Su04 Su14 Ru04 Ru14 E4
  clear Su05
  clear Ru05
  clear Su15
  clear Ru15
  go_wp2_with fail
  refine (adl.toAddr_any A0 c0 D0 _ (HS0.out.below E5.out) hp0).mono ?_
  rintro _ w6 ⟨gx0, rfl, hg, hrow, hb⟩
  have E6 := Lib.hid (below_then E5.out hb (Nat.le_refl _))
  have Bp06 := Lib.hid ((Bp05.out).step hb)
  have rp06 := Bp06.out.cell
  have bp06 := Bp06.out.lt
  have Bp16 := Lib.hid ((Bp15.out).step hb)
  have rp16 := Bp16.out.cell
  have bp16 := Bp16.out.lt
  have Sx06 := Lib.hid (hrow.strs HS0.out.sizes)
  have Rx06 := Lib.hid (hrow)
  clear hb Bp05 rp05 bp05 Bp15 rp15 bp15 E5
  clear hg hrow
  go_wp2_with fail
  refine (adl.toAddr_any A1 c1 D1 _ (HS1.out.below (below_da E6.out (Nat.le_refl _) _)) hp1).mono ?_
  rintro _ w7 ⟨gx1, rfl, hg, hrow, hb⟩
  have E7 := Lib.hid (below_then (below_da E6.out (Nat.le_refl _) _) hb (Nat.le_refl _))
  have Bp07 := Lib.hid ((Bp06.out.alloc _).step hb)
  have rp07 := Bp07.out.cell
  have bp07 := Bp07.out.lt
  have Bp17 := Lib.hid ((Bp16.out.alloc _).step hb)
  have rp17 := Bp17.out.cell
  have bp17 := Bp17.out.lt
  have Bx07 := Lib.hid ((Blk.new w6 _ _).step hb)
  have rx07 := Bx07.out.cell
  have bx07 := Bx07.out.lt
  have Sx07 := Lib.hid ((Sx06.out.alloc _).below hb)
  have Rx07 := Lib.hid ((Rx06.out.alloc _).step hb)
  have Sx17 := Lib.hid (hrow.strs HS1.out.sizes)
  have Rx17 := Lib.hid (hrow)
  clear hb Bp06 rp06 bp06 Bp16 rp16 bp16 Sx06 Rx06 E6
  clear hg hrow
  go_wp2_with fail
  refine (cm.less_impl _ _ _ _ D0 D1 _ (Sx07.out.alloc _) (Sx17.out.alloc _) HL0.out HL1.out ht0 hn0 hk0 ht1 hn1 hk1).mono ?_
  rintro _ w8 ⟨rfl, hb⟩
  have E8 := Lib.hid (below_then (below_da E7.out (Nat.le_refl _) _) hb (Nat.le_refl _))
  have Bp08 := Lib.hid ((Bp07.out.alloc _).step hb)
  have rp08 := Bp08.out.cell
  have bp08 := Bp08.out.lt
  have Bp18 := Lib.hid ((Bp17.out.alloc _).step hb)
  have rp18 := Bp18.out.cell
  have bp18 := Bp18.out.lt
  have Bx08 := Lib.hid ((Bx07.out.alloc _).step hb)
  have rx08 := Bx08.out.cell
  have bx08 := Bx08.out.lt
  have Bx18 := Lib.hid ((Blk.new w7 _ _).step hb)
  have rx18 := Bx18.out.cell
  have bx18 := Bx18.out.lt
  have Sx08 := Lib.hid ((Sx07.out.alloc _).below hb)
  have Sx18 := Lib.hid ((Sx17.out.alloc _).below hb)
  have Rx08 := Lib.hid ((Rx07.out.alloc _).step hb)
  have Rx18 := Lib.hid ((Rx17.out.alloc _).step hb)
  clear hb Bp07 rp07 bp07 Bp17 rp17 bp17 Bx07 rx07 bx07 Sx07 Sx17 Rx07 Rx17 E7
  go_wp2_with fail
  have KT := fun (W : World) (h : Below w.heap.size w W) => Lib.hid (adl.toAddr_any A0 c0 D0 W (HS0.out.below h) hp0)
  have KE := fun (W : World) (h : Strs W (some ⟨gx0, 0, none⟩) D0.path) (g : Nat) (h' : Strs W (some ⟨g, 0, none⟩) D0.path) => Lib.hid (adl.eq_same (some ⟨gx0, 0, none⟩) (some ⟨g, 0, none⟩) D0.path.length D0.path.length D0 W h h' hp0)
  go_region_held3 (fun w' => w'.cell? ⟨w6.heap.size, 0, none⟩ = some (.slice (some ⟨gx0, 0, none⟩) D0.path.length D0.path.length) ∧ w'.cell? ⟨w6.heap.size, 1, none⟩ = some (.string D0.typ) ∧ w'.cell? ⟨w6.heap.size, 2, none⟩ = some (.string D0.nam) ∧ w'.cell? ⟨w6.heap.size, 3, none⟩ = some (.int .i64 D0.kind) ∧ w'.cell? ⟨w6.heap.size, 4, none⟩ = some (.int .i64 D0.n) ∧ w'.cell? ⟨w6.heap.size, 5, none⟩ = some (.string D0.key) ∧ w'.cell? ⟨w.heap.size, 0, none⟩ = some (.slice A0 D0.path.length c0) ∧ w'.cell? ⟨w.heap.size, 1, none⟩ = some (.string D0.typ) ∧ w'.cell? ⟨w.heap.size, 2, none⟩ = some (.string D0.nam) ∧ w'.cell? ⟨w.heap.size, 3, none⟩ = some (.int .i64 D0.kind) ∧ w'.cell? ⟨w.heap.size, 4, none⟩ = some (.int .i64 D0.n) ∧ w'.cell? ⟨w.heap.size, 5, none⟩ = some (.string D0.key)) (go_keep)
    (first
    | (go_at_call 10; refine (KT _ ?_).out.mono ?_; exact below_dn E8.out _; rintro _ w9 ⟨gq, rfl, hg, hrow, hb⟩; have hbb := below_then (below_d w8 _) hb (Nat.le_refl _); have E9 := Lib.hid (below_then (below_dn E8.out _) hb (Nat.le_refl _)); have Bp09 := Lib.hid ((Bp08.out).step hbb); have rp09 := Bp09.out.cell; have bp09 := Bp09.out.lt; have Bp19 := Lib.hid ((Bp18.out).step hbb); have rp19 := Bp19.out.cell; have bp19 := Bp19.out.lt; have Bx09 := Lib.hid ((Bx08.out).step hbb); have rx09 := Bx09.out.cell; have bx09 := Bx09.out.lt; have Bx19 := Lib.hid ((Bx18.out).step hbb); have rx19 := Bx19.out.cell; have bx19 := Bx19.out.lt; have Sx09 := Lib.hid ((Sx08.out).below hbb); have Sx19 := Lib.hid ((Sx18.out).below hbb); have Rx09 := Lib.hid ((Rx08.out).step hbb); have Rx19 := Lib.hid ((Rx18.out).step hbb); have Sq9 := Lib.hid (hrow.strs HS0.out.sizes); clear hb hbb hg hrow)
    | (go_at_call 12; refine (KE _ ?_ _ ?_).out.mono ?_; exact Sx09.out; exact Sq9.out; rintro _ w10 ⟨rfl, hb⟩; have E10 := Lib.hid (below_then E9.out hb (Nat.le_refl _)); have Bp010 := Lib.hid ((Bp09.out).step hb); have rp010 := Bp010.out.cell; have bp010 := Bp010.out.lt; have Bp110 := Lib.hid ((Bp19.out).step hb); have rp110 := Bp110.out.cell; have bp110 := Bp110.out.lt; have Bx010 := Lib.hid ((Bx09.out).step hb); have rx010 := Bx010.out.cell; have bx010 := Bx010.out.lt; have Bx110 := Lib.hid ((Bx19.out).step hb); have rx110 := Bx110.out.cell; have bx110 := Bx110.out.lt; have Sx010 := Lib.hid ((Sx09.out).below hb); have Sx110 := Lib.hid ((Sx19.out).below hb); have Sq10 := Lib.hid ((Sq9.out).below hb); have Rx010 := Lib.hid ((Rx09.out).step hb); have Rx110 := Lib.hid ((Rx19.out).step hb); clear hb))
  clear KT KE
  go_split_ands
  clear Sq10
  clear Bp08 rp08 bp08 Bp18 rp18 bp18 Bx08 rx08 bx08 Bx18 rx18 bx18 Sx08 Sx18 Rx08 Rx18 E8 Bp09 rp09 bp09 Bp19 rp19 bp19 Bx09 rx09 bx09 Bx19 rx19 bx19 Sx09 Sx19 Rx09 Rx19 E9
  clear Sq9
  go_wp2_with fail
  have KT := fun (W : World) (h : Below w.heap.size w W) => Lib.hid (adl.toAddr_any A1 c1 D1 W (HS1.out.below h) hp1)
  have KE := fun (W : World) (h : Strs W (some ⟨gx1, 0, none⟩) D1.path) (g : Nat) (h' : Strs W (some ⟨g, 0, none⟩) D1.path) => Lib.hid (adl.eq_same (some ⟨gx1, 0, none⟩) (some ⟨g, 0, none⟩) D1.path.length D1.path.length D1 W h h' hp1)
  go_region_held3 (fun w' => w'.cell? ⟨w7.heap.size, 0, none⟩ = some (.slice (some ⟨gx1, 0, none⟩) D1.path.length D1.path.length) ∧ w'.cell? ⟨w7.heap.size, 1, none⟩ = some (.string D1.typ) ∧ w'.cell? ⟨w7.heap.size, 2, none⟩ = some (.string D1.nam) ∧ w'.cell? ⟨w7.heap.size, 3, none⟩ = some (.int .i64 D1.kind) ∧ w'.cell? ⟨w7.heap.size, 4, none⟩ = some (.int .i64 D1.n) ∧ w'.cell? ⟨w7.heap.size, 5, none⟩ = some (.string D1.key) ∧ w'.cell? ⟨w.heap.size + 1, 0, none⟩ = some (.slice A1 D1.path.length c1) ∧ w'.cell? ⟨w.heap.size + 1, 1, none⟩ = some (.string D1.typ) ∧ w'.cell? ⟨w.heap.size + 1, 2, none⟩ = some (.string D1.nam) ∧ w'.cell? ⟨w.heap.size + 1, 3, none⟩ = some (.int .i64 D1.kind) ∧ w'.cell? ⟨w.heap.size + 1, 4, none⟩ = some (.int .i64 D1.n) ∧ w'.cell? ⟨w.heap.size + 1, 5, none⟩ = some (.string D1.key)) (go_keep)
    (first
    | (go_at_call 10; refine (KT _ ?_).out.mono ?_; exact below_dn E10.out _; rintro _ w11 ⟨gq, rfl, hg, hrow, hb⟩; have hbb := below_then (below_d w10 _) hb (Nat.le_refl _); have E11 := Lib.hid (below_then (below_dn E10.out _) hb (Nat.le_refl _)); have Bp011 := Lib.hid ((Bp010.out).step hbb); have rp011 := Bp011.out.cell; have bp011 := Bp011.out.lt; have Bp111 := Lib.hid ((Bp110.out).step hbb); have rp111 := Bp111.out.cell; have bp111 := Bp111.out.lt; have Bx011 := Lib.hid ((Bx010.out).step hbb); have rx011 := Bx011.out.cell; have bx011 := Bx011.out.lt; have Bx111 := Lib.hid ((Bx110.out).step hbb); have rx111 := Bx111.out.cell; have bx111 := Bx111.out.lt; have Sx011 := Lib.hid ((Sx010.out).below hbb); have Sx111 := Lib.hid ((Sx110.out).below hbb); have Rx011 := Lib.hid ((Rx010.out).step hbb); have Rx111 := Lib.hid ((Rx110.out).step hbb); have Sq11 := Lib.hid (hrow.strs HS1.out.sizes); clear hb hbb hg hrow)
    | (go_at_call 12; refine (KE _ ?_ _ ?_).out.mono ?_; exact Sx111.out; exact Sq11.out; rintro _ w12 ⟨rfl, hb⟩; have E12 := Lib.hid (below_then E11.out hb (Nat.le_refl _)); have Bp012 := Lib.hid ((Bp011.out).step hb); have rp012 := Bp012.out.cell; have bp012 := Bp012.out.lt; have Bp112 := Lib.hid ((Bp111.out).step hb); have rp112 := Bp112.out.cell; have bp112 := Bp112.out.lt; have Bx012 := Lib.hid ((Bx011.out).step hb); have rx012 := Bx012.out.cell; have bx012 := Bx012.out.lt; have Bx112 := Lib.hid ((Bx111.out).step hb); have rx112 := Bx112.out.cell; have bx112 := Bx112.out.lt; have Sx012 := Lib.hid ((Sx011.out).below hb); have Sx112 := Lib.hid ((Sx111.out).below hb); have Sq12 := Lib.hid ((Sq11.out).below hb); have Rx012 := Lib.hid ((Rx011.out).step hb); have Rx112 := Lib.hid ((Rx111.out).step hb); clear hb))
  clear KT KE
  go_split_ands
  clear Sq12
  clear Bp010 rp010 bp010 Bp110 rp110 bp110 Bx010 rx010 bx010 Bx110 rx110 bx110 Sx010 Sx110 Rx010 Rx110 E10 Bp011 rp011 bp011 Bp111 rp111 bp111 Bx011 rx011 bx011 Bx111 rx111 bx111 Sx011 Sx111 Rx011 Rx111 E11
  clear Sq11
  go_wp2
  go_ret
  exact ⟨rfl, E12.out⟩

set_option maxRecDepth 100000 in
theorem lifted (os : Os) (started : os.Started) (H : Type) (enc : TypeId × Value → H) :
    ReturnsInHanded {} Try.checked os 3 .any (Rows.fnExactAddrLessSpec.pre6 enc Try.prog Try.f3 Rows.fnExactAddrLessRow.domain false) (Rows.fnExactAddrLessSpec.post enc Try.prog Try.f3 false true false false) := by
  refine returnsInHanded_of_change (C := Try.checked) own started (by kernel_rfl) Try.func3
    (ChangeSpec.witness6 (enc := enc) (C := Try.checked) false ⟨#[], #[.agg #[.slice none 0 0, .string ByteArray.empty, .string ByteArray.empty, .int .i64 0, .int .i64 0, .string ByteArray.empty], .agg #[.slice none 0 0, .string ByteArray.empty, .string ByteArray.empty, .int .i64 0, .int .i64 0, .string ByteArray.empty]], []⟩ 8 (by kernel_rfl) (by kernel_rfl) (by kernel_rfl) (by kernel_rfl)) ?_
  intro W base args ds gs before hval0 hW hcnd _
  have hval : ∀ (j : Nat) t v, Try.f3.params[j]? = some t → args[j]? = some v → Value.okWide Try.prog W .any base t v := hval0
  have hW' := hW
  obtain ⟨p, q, hA0, hV, rfl, hfz, hnd⟩ := hW
  have hA : DataW.TrodAll enc Try.prog W 0 (fun _ => true) true Try.f3.params.toList args.toList ds p := hA0
  rw [Try.params3] at hA hval
  obtain ⟨v0, vs0, d0, ds0, p0, q0, hargs, rfl, rfl, h0, r0⟩ := trodAll_cons hA
  obtain ⟨v1, vs1, d1, ds1, p1, q1, rfl, rfl, rfl, h1, r1⟩ := trodAll_cons r0
  obtain ⟨rfl, rfl, rfl⟩ := trodAll_nil r1
  obtain rfl : args = #[v0, v1] := by cases args; simp_all
  obtain ⟨rfl, rfl⟩ := trodVars_none hV
  have k0 := h0
  have lt0 : ∀ x ∈ p0, x.block < W.heap.size := by obtain ⟨m, hm⟩ := k0; exact DataW.trod_lt m _ _ _ hm
  obtain ⟨A0, c0, D0, rfl, w0⟩ := opn.open_addr (hval 0 24 v0 rfl rfl) h0
  have k1 := h1
  have lt1 : ∀ x ∈ p1, x.block < W.heap.size := by obtain ⟨m, hm⟩ := k1; exact DataW.trod_lt m _ _ _ hm
  obtain ⟨A1, c1, D1, rfl, w1⟩ := opn.open_addr (hval 1 24 v1 rfl rfl) h1
  clear hA0 hval0
  refine (walk A0 c0 D0 A1 c1 D1 W w0 w1).mono fun e W' ⟨he, bel⟩ => ?_
  subst he
  exact ⟨_, rfl, _, _, _, [], _, [], hW', trodAll_mk1 (shut_bool Try.underlying4 _), (trodAll_cons_mk (Below.trod laidOut (by kernel_rfl) (of_decide_eq_true (by kernel_rfl)) k0 bel lt0) (trodAll_cons_mk (Below.trod laidOut (by kernel_rfl) (of_decide_eq_true (by kernel_rfl)) k1 bel lt1) trodAll_mk0)), rfl, bel.frame _, fun h => by cases h⟩

theorem over : Rows.fnExactAddrLessRow.holds Try.pinned (OpenSpec.ofChange Rows.fnExactAddrLessSpec) :=
  OpenClaim.holds_of_wide 3 Try.f3 rfl rfl rfl rfl rfl rfl rfl ⟨rfl, rfl, rfl, rfl, rfl⟩ rfl rfl rfl rfl rfl (by kernel_rfl) Try.func3 (by kernel_rfl)
    (of_decide_eq_true (by kernel_rfl)) (by unfold Func.isWrapper; first | (rw [if_pos (by decide +kernel)]; kernel_rfl) | (rw [if_neg (by decide +kernel)]; exact ⟨rfl, rfl⟩))
    (fun os started H enc _ => lifted os started H enc)

/-- the statement -/
theorem proved : Rows.FnExactAddrLessSaid := over
end Go.Proofs.Ytnhoknbofmpdbaa.fnExactAddrLess
