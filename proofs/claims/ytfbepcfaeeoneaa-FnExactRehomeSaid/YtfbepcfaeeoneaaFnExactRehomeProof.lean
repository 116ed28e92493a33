/- Rehome, called with any arguments, tells what its model tells, changes nothing, and its answer owns its memory. No condition. -/
import Derived.Test.YtfbepcfaeeoneaaRows
import Derived.WalkKit
import Derived.ProofKit
import Derived.OpenShut
import Derived.ShutString
import Derived.ChangeOld
import Derived.Below
import Derived.Lib.Hide
import Derived.Test.YtfbepcfaeeoneaaOpn
import Derived.Test.YtfbepcfaeeoneaaAdL
import Derived.Test.YtfbepcfaeeoneaaMarkO
import Derived.Deep.RegionWith
import Derived.Deep.RegionHeld3
namespace Go.Proofs.Ytfbepcfaeeoneaa.fnExactRehome
open Go.ChangeShapes Go.WideShapes Go.ChangeAt Go.RowKit
open Go.ChangeMaps (open_string shut_string)
set_option linter.unusedVariables false
set_option linter.unusedSimpArgs false

theorem own : ownKnob Try.prog.godebug = none := by kernel_rfl
theorem laidOut : laidOutB Try.prog = true := by kernel_rfl

open ad mem opn own

set_option maxHeartbeats 8000000 in
set_option maxRecDepth 100000 in
theorem walk (A0 : Option Addr) (c0 : Nat) (D0 : ad.AddrD) (A1 : Option Addr) (c1 : Nat) (l1 : List ByteArray) (A2 : Option Addr) (c2 : Nat) (l2 : List ByteArray) (w : World) (w0 : opn.AddrIn w A0 D0) (w1 : mem.Strs w A1 l1) (z1 : l1.length ≤ maxLen) (w2 : mem.Strs w A2 l2) (z2 : l2.length ≤ maxLen) :
    Calls Try.prog 10 #[.agg #[.slice A0 D0.path.length c0, .string D0.typ, .string D0.nam, .int .i64 D0.kind, .int .i64 D0.n, .string D0.key], .slice A1 l1.length c1, .slice A2 l2.length c2] w fun e w' => e = .returned (.bool true) ∧ Below w.heap.size w w' := by
  obtain ⟨hs0, hl0, ht0, hn0, hk0, _, _⟩ := w0
  have HS0 := Lib.hid hs0
  have HL0 := Lib.hid hl0
  clear hs0 hl0
  have HS1 := Lib.hid w1
  have HL1 := Lib.hid z1
  clear w1 z1
  have HS2 := Lib.hid w2
  have HL2 := Lib.hid z2
  clear w2 z2
  by_cases hc0 : (adl.cntA D0 : Int) ≤ 1048576
  rotate_left
  · have HN0 := Lib.hid (by omega : 1048576 < (adl.cntA D0 : Int))
    clear hc0
    go_enter Try.func10, Try.ntmps10
    go_wp2_with fail
    refine (adl.sz_no A0 c0 D0 (1048576) _ (HS0.out.below (below_a1 _ _)) (by omega) (by omega) HL0.out ht0 hn0 hk0 HN0.out).mono ?_
    rintro _ w1 ⟨rfl, hb⟩
    have E1 := Lib.hid (below_then (below_a1 _ _) hb (Nat.le_refl _))
    have M1 : Hid (w.heap.size + 1 ≤ w1.heap.size) := (by (have hx := hb.size; (try simp at hx); show _ ≤ _; omega))
    have Bp01 := Lib.hid ((Blk.new w _ _).step hb)
    have rp01 := Bp01.out.cell
    have bp01 := Bp01.out.lt
    clear hb
    go_wp2
    go_ret
    exact ⟨rfl, E1.out⟩
  have hp0 := adl.len_le hc0 (by omega)
  have HC0 := Lib.hid hc0
  have hlo0 : (0 : Int) ≤ 1048576 - (adl.cntA D0 : Int) := by omega
  have hhi0 : 1048576 - (adl.cntA D0 : Int) ≤ 1048576 := by have : (0 : Int) ≤ (adl.cntA D0 : Int) := Int.natCast_nonneg _; omega
  clear hc0
  by_cases hc1 : (adl.cntL l1 : Int) ≤ 1048576 - (adl.cntA D0 : Int)
  rotate_left
  · have HN1 := Lib.hid (by omega : 1048576 - (adl.cntA D0 : Int) < (adl.cntL l1 : Int))
    clear hc1
    go_enter Try.func10, Try.ntmps10
    go_wp2_with fail
    refine (adl.sz_ok A0 c0 D0 (1048576) _ (HS0.out.below (below_a1 _ _)) (by omega) (by omega) HL0.out ht0 hn0 hk0 HC0.out).mono ?_
    rintro _ w1 ⟨rfl, hb⟩
    have E1 := Lib.hid (below_then (below_a1 _ _) hb (Nat.le_refl _))
    have M1 : Hid (w.heap.size + 1 ≤ w1.heap.size) := (by (have hx := hb.size; (try simp at hx); show _ ≤ _; omega))
    have Bp01 := Lib.hid ((Blk.new w _ _).step hb)
    have rp01 := Bp01.out.cell
    have bp01 := Bp01.out.lt
    clear hb
    go_wp2_with fail
    refine (adl.sz_noL A1 c1 l1 (1048576 - (adl.cntA D0 : Int)) _ (HS1.out.below E1.out) hlo0 hhi0 HL1.out HN1.out).mono ?_
    rintro _ w2 ⟨rfl, hb⟩
    have E2 := Lib.hid (below_then E1.out hb (Nat.le_refl _))
    have M2 : Hid (w1.heap.size ≤ w2.heap.size) := (by (have hx := hb.size; (try simp at hx); show _ ≤ _; omega))
    have Bp02 := Lib.hid ((Bp01.out).step hb)
    have rp02 := Bp02.out.cell
    have bp02 := Bp02.out.lt
    clear hb Bp01 rp01 bp01 E1
    go_wp2
    go_ret
    exact ⟨rfl, E2.out⟩
  have hp1 := adl.len_leL hc1 (by omega)
  have HC1 := Lib.hid hc1
  have hlo1 : (0 : Int) ≤ 1048576 - (adl.cntA D0 : Int) - (adl.cntL l1 : Int) := by omega
  have hhi1 : 1048576 - (adl.cntA D0 : Int) - (adl.cntL l1 : Int) ≤ 1048576 := by have : (0 : Int) ≤ (adl.cntL l1 : Int) := Int.natCast_nonneg _; omega
  clear hc1
  by_cases hc2 : (adl.cntL l2 : Int) ≤ 1048576 - (adl.cntA D0 : Int) - (adl.cntL l1 : Int)
  rotate_left
  · have HN2 := Lib.hid (by omega : 1048576 - (adl.cntA D0 : Int) - (adl.cntL l1 : Int) < (adl.cntL l2 : Int))
    clear hc2
    go_enter Try.func10, Try.ntmps10
    go_wp2_with fail
    refine (adl.sz_ok A0 c0 D0 (1048576) _ (HS0.out.below (below_a1 _ _)) (by omega) (by omega) HL0.out ht0 hn0 hk0 HC0.out).mono ?_
    rintro _ w1 ⟨rfl, hb⟩
    have E1 := Lib.hid (below_then (below_a1 _ _) hb (Nat.le_refl _))
    have M1 : Hid (w.heap.size + 1 ≤ w1.heap.size) := (by (have hx := hb.size; (try simp at hx); show _ ≤ _; omega))
    have Bp01 := Lib.hid ((Blk.new w _ _).step hb)
    have rp01 := Bp01.out.cell
    have bp01 := Bp01.out.lt
    clear hb
    go_wp2_with fail
    refine (adl.sz_okL A1 c1 l1 (1048576 - (adl.cntA D0 : Int)) _ (HS1.out.below E1.out) hlo0 hhi0 HL1.out HC1.out).mono ?_
    rintro _ w2 ⟨rfl, hb⟩
    have E2 := Lib.hid (below_then E1.out hb (Nat.le_refl _))
    have M2 : Hid (w1.heap.size ≤ w2.heap.size) := (by (have hx := hb.size; (try simp at hx); show _ ≤ _; omega))
    have Bp02 := Lib.hid ((Bp01.out).step hb)
    have rp02 := Bp02.out.cell
    have bp02 := Bp02.out.lt
    clear hb Bp01 rp01 bp01 E1
    go_wp2_with fail
    refine (adl.sz_noL A2 c2 l2 (1048576 - (adl.cntA D0 : Int) - (adl.cntL l1 : Int)) _ (HS2.out.below E2.out) hlo1 hhi1 HL2.out HN2.out).mono ?_
    rintro _ w3 ⟨rfl, hb⟩
    have E3 := Lib.hid (below_then E2.out hb (Nat.le_refl _))
    have M3 : Hid (w2.heap.size ≤ w3.heap.size) := (by (have hx := hb.size; (try simp at hx); show _ ≤ _; omega))
    have Bp03 := Lib.hid ((Bp02.out).step hb)
    have rp03 := Bp03.out.cell
    have bp03 := Bp03.out.lt
    clear hb Bp02 rp02 bp02 E2
    go_wp2
    go_ret
    exact ⟨rfl, E3.out⟩
  have hp2 := adl.len_leL hc2 (by omega)
  have HC2 := Lib.hid hc2
  have hlo2 : (0 : Int) ≤ 1048576 - (adl.cntA D0 : Int) - (adl.cntL l1 : Int) - (adl.cntL l2 : Int) := by omega
  have hhi2 : 1048576 - (adl.cntA D0 : Int) - (adl.cntL l1 : Int) - (adl.cntL l2 : Int) ≤ 1048576 := by have : (0 : Int) ≤ (adl.cntL l2 : Int) := Int.natCast_nonneg _; omega
  clear hc2
  have hpb := own.reh_len' (d := D0) (f := l1) (t := l2)
  go_enter Try.func10, Try.ntmps10
  go_wp2_with fail
  refine (adl.sz_ok A0 c0 D0 (1048576) _ (HS0.out.below (below_a1 _ _)) (by omega) (by omega) HL0.out ht0 hn0 hk0 HC0.out).mono ?_
  rintro _ w1 ⟨rfl, hb⟩
  have E1 := Lib.hid (below_then (below_a1 _ _) hb (Nat.le_refl _))
  have M1 : Hid (w.heap.size + 1 ≤ w1.heap.size) := (by (have hx := hb.size; (try simp at hx); show _ ≤ _; omega))
  have Bp01 := Lib.hid ((Blk.new w _ _).step hb)
  have rp01 := Bp01.out.cell
  have bp01 := Bp01.out.lt
  clear hb
  go_wp2_with fail
  refine (adl.sz_okL A1 c1 l1 (1048576 - (adl.cntA D0 : Int)) _ (HS1.out.below E1.out) hlo0 hhi0 HL1.out HC1.out).mono ?_
  rintro _ w2 ⟨rfl, hb⟩
  have E2 := Lib.hid (below_then E1.out hb (Nat.le_refl _))
  have M2 : Hid (w1.heap.size ≤ w2.heap.size) := (by (have hx := hb.size; (try simp at hx); show _ ≤ _; omega))
  have Bp02 := Lib.hid ((Bp01.out).step hb)
  have rp02 := Bp02.out.cell
  have bp02 := Bp02.out.lt
  clear hb Bp01 rp01 bp01 E1
  go_wp2_with fail
  refine (adl.sz_okL A2 c2 l2 (1048576 - (adl.cntA D0 : Int) - (adl.cntL l1 : Int)) _ (HS2.out.below E2.out) hlo1 hhi1 HL2.out HC2.out).mono ?_
  rintro _ w3 ⟨rfl, hb⟩
  have E3 := Lib.hid (below_then E2.out hb (Nat.le_refl _))
  have M3 : Hid (w2.heap.size ≤ w3.heap.size) := (by (have hx := hb.size; (try simp at hx); show _ ≤ _; omega))
  have Bp03 := Lib.hid ((Bp02.out).step hb)
  have rp03 := Bp03.out.cell
  have bp03 := Bp03.out.lt
  clear hb Bp02 rp02 bp02 E2
  go_wp2_with fail
  refine (adl.toAddr_any A0 c0 D0 _ (HS0.out.below E3.out) hp0).mono ?_
  rintro _ w4 ⟨gu0, rfl, hg, hrow, hb⟩
  have E4 := Lib.hid (below_then E3.out hb (Nat.le_refl _))
  have M4 : Hid (w3.heap.size ≤ w4.heap.size) := (by (have hx := hb.size; (try simp at hx); show _ ≤ _; omega))
  have Bp04 := Lib.hid ((Bp03.out).step hb)
  have rp04 := Bp04.out.cell
  have bp04 := Bp04.out.lt
  have Su04 := Lib.hid (hrow.strs HS0.out.sizes)
  have Ru04 := Lib.hid (hrow)
  clear hb Bp03 rp03 bp03 E3
  have Gu0 : Hid (w3.heap.size ≤ gu0 ∧ gu0 < w4.heap.size) := by (have hx := hrow.lt; (try simp at hg); show _ ∧ _; omega)
  clear hg hrow
  go_wp2_with fail
  refine (toStringS_any A1 c1 l1 _ (HS1.out.below E4.out) hp1).mono ?_
  rintro _ w5 ⟨gu1, rfl, hg, hrow, hb⟩
  have E5 := Lib.hid (below_then E4.out hb (Nat.le_refl _))
  have M5 : Hid (w4.heap.size ≤ w5.heap.size) := (by (have hx := hb.size; (try simp at hx); show _ ≤ _; omega))
  have Bp05 := Lib.hid ((Bp04.out).step hb)
  have rp05 := Bp05.out.cell
  have bp05 := Bp05.out.lt
  have Su05 := Lib.hid ((Su04.out).below hb)
  have Ru05 := Lib.hid ((Ru04.out).step hb)
  have Su15 := Lib.hid (hrow.strs HS1.out.sizes)
  have Ru15 := Lib.hid (hrow)
  clear hb Bp04 rp04 bp04 Su04 Ru04 E4
  have Gu1 : Hid (w4.heap.size ≤ gu1 ∧ gu1 < w5.heap.size) := by (have hx := hrow.lt; (try simp at hg); show _ ∧ _; omega)
  clear hg hrow
  go_wp2_with fail
  refine (toStringS_any A2 c2 l2 _ (HS2.out.below E5.out) hp2).mono ?_
  rintro _ w6 ⟨gu2, rfl, hg, hrow, hb⟩
  have E6 := Lib.hid (below_then E5.out hb (Nat.le_refl _))
  have M6 : Hid (w5.heap.size ≤ w6.heap.size) := (by (have hx := hb.size; (try simp at hx); show _ ≤ _; omega))
  have Bp06 := Lib.hid ((Bp05.out).step hb)
  have rp06 := Bp06.out.cell
  have bp06 := Bp06.out.lt
  have Su06 := Lib.hid ((Su05.out).below hb)
  have Su16 := Lib.hid ((Su15.out).below hb)
  have Ru06 := Lib.hid ((Ru05.out).step hb)
  have Ru16 := Lib.hid ((Ru15.out).step hb)
  have Su26 := Lib.hid (hrow.strs HS2.out.sizes)
  have Ru26 := Lib.hid (hrow)
  clear hb Bp05 rp05 bp05 Su05 Su15 Ru05 Ru15 E5
  have Gu2 : Hid (w5.heap.size ≤ gu2 ∧ gu2 < w6.heap.size) := by (have hx := hrow.lt; (try simp at hg); show _ ∧ _; omega)
  clear hg hrow
  go_wp2_with fail
  refine (reh.reh_spec _ _ _ _ _ _ D0 l1 l2 _ (Su06.out) (Su16.out) (Su26.out) HL0.out HL1.out HL2.out ht0 hn0 hk0 (Nat.le_refl _) HL0.out (.inl ⟨_, _, rfl⟩)).mono ?_
  rintro _ w7 ⟨Aw, cw, rfl, ho, hb⟩
  have E7 := Lib.hid (below_then E6.out hb (Nat.le_refl _))
  have M7 : Hid (w6.heap.size ≤ w7.heap.size) := (by (have hx := hb.size; (try simp at hx); show _ ≤ _; omega))
  have Bp07 := Lib.hid ((Bp06.out).step hb)
  have rp07 := Bp07.out.cell
  have bp07 := Bp07.out.lt
  have Su07 := Lib.hid ((Su06.out).below hb)
  have Su17 := Lib.hid ((Su16.out).below hb)
  have Su27 := Lib.hid ((Su26.out).below hb)
  have Ru07 := Lib.hid ((Ru06.out).step hb)
  have Ru17 := Lib.hid ((Ru16.out).step hb)
  have Ru27 := Lib.hid ((Ru26.out).step hb)
  clear hb Bp06 rp06 bp06 Su06 Su16 Su26 Ru06 Ru16 Ru26 E6
  have Ow7 := Lib.hid ho
  have Kw : Hid (∀ k, (Value.slice Aw (reh.dataR D0 l1 l2).path.length cw).ownBlock = some k → w6.heap.size ≤ k ∧ k < w7.heap.size) := by (intro k hk; have hx := ho.row k hk; (try simp at hx); omega)
  have Sw7 := Lib.hid (Own.strs ho (own.reh_sizes HS0.out.sizes HS2.out.sizes))
  clear ho
  clear Su07
  clear Ru07
  clear Su17
  clear Ru17
  clear Su27
  clear Ru27
  go_wp2_with fail
  refine (adl.toAddr_any A0 c0 D0 _ (HS0.out.below (below_da E7.out (Nat.le_refl _) _)) hp0).mono ?_
  rintro _ w8 ⟨gx0, rfl, hg, hrow, hb⟩
  have E8 := Lib.hid (below_then (below_da E7.out (Nat.le_refl _) _) hb (Nat.le_refl _))
  have M8 : Hid (w7.heap.size + 1 ≤ w8.heap.size) := (by (have hx := hb.size; (try simp at hx); show _ ≤ _; omega))
  have Bp08 := Lib.hid ((Bp07.out.alloc _).step hb)
  have rp08 := Bp08.out.cell
  have bp08 := Bp08.out.lt
  have Bwbox8 := Lib.hid ((Blk.new w7 _ _).step hb)
  have rwbox8 := Bwbox8.out.cell
  have bwbox8 := Bwbox8.out.lt
  have Sw8 := Lib.hid ((Sw7.out.alloc _).below hb)
  have Ow8 := Lib.hid ((Ow7.out.alloc _).step hb)
  have Sx08 := Lib.hid (hrow.strs HS0.out.sizes)
  have Rx08 := Lib.hid (hrow)
  clear hb Bp07 rp07 bp07 Sw7 E7 Ow7
  have Gx0 : Hid (w7.heap.size + 1 ≤ gx0 ∧ gx0 < w8.heap.size) := by (have hx := hrow.lt; (try simp at hg); show _ ∧ _; omega)
  clear hg hrow
  go_wp2_with fail
  refine (toStringS_any A1 c1 l1 _ (HS1.out.below (below_da E8.out (Nat.le_refl _) _)) hp1).mono ?_
  rintro _ w9 ⟨gx1, rfl, hg, hrow, hb⟩
  have E9 := Lib.hid (below_then (below_da E8.out (Nat.le_refl _) _) hb (Nat.le_refl _))
  have M9 : Hid (w8.heap.size + 1 ≤ w9.heap.size) := (by (have hx := hb.size; (try simp at hx); show _ ≤ _; omega))
  have Bp09 := Lib.hid ((Bp08.out.alloc _).step hb)
  have rp09 := Bp09.out.cell
  have bp09 := Bp09.out.lt
  have Bwbox9 := Lib.hid ((Bwbox8.out.alloc _).step hb)
  have rwbox9 := Bwbox9.out.cell
  have bwbox9 := Bwbox9.out.lt
  have Bx09 := Lib.hid ((Blk.new w8 _ _).step hb)
  have rx09 := Bx09.out.cell
  have bx09 := Bx09.out.lt
  have Sw9 := Lib.hid ((Sw8.out.alloc _).below hb)
  have Sx09 := Lib.hid ((Sx08.out.alloc _).below hb)
  have Rx09 := Lib.hid ((Rx08.out.alloc _).step hb)
  have Ow9 := Lib.hid ((Ow8.out.alloc _).step hb)
  have Sx19 := Lib.hid (hrow.strs HS1.out.sizes)
  have Rx19 := Lib.hid (hrow)
  clear hb Bp08 rp08 bp08 Bwbox8 rwbox8 bwbox8 Sw8 Sx08 Rx08 E8 Ow8
  have Gx1 : Hid (w8.heap.size + 1 ≤ gx1 ∧ gx1 < w9.heap.size) := by (have hx := hrow.lt; (try simp at hg); show _ ∧ _; omega)
  clear hg hrow
  go_wp2_with fail
  refine (toStringS_any A2 c2 l2 _ (HS2.out.below E9.out) hp2).mono ?_
  rintro _ w10 ⟨gx2, rfl, hg, hrow, hb⟩
  have E10 := Lib.hid (below_then E9.out hb (Nat.le_refl _))
  have M10 : Hid (w9.heap.size ≤ w10.heap.size) := (by (have hx := hb.size; (try simp at hx); show _ ≤ _; omega))
  have Bp010 := Lib.hid ((Bp09.out).step hb)
  have rp010 := Bp010.out.cell
  have bp010 := Bp010.out.lt
  have Bwbox10 := Lib.hid ((Bwbox9.out).step hb)
  have rwbox10 := Bwbox10.out.cell
  have bwbox10 := Bwbox10.out.lt
  have Bx010 := Lib.hid ((Bx09.out).step hb)
  have rx010 := Bx010.out.cell
  have bx010 := Bx010.out.lt
  have Sw10 := Lib.hid ((Sw9.out).below hb)
  have Sx010 := Lib.hid ((Sx09.out).below hb)
  have Sx110 := Lib.hid ((Sx19.out).below hb)
  have Rx010 := Lib.hid ((Rx09.out).step hb)
  have Rx110 := Lib.hid ((Rx19.out).step hb)
  have Ow10 := Lib.hid ((Ow9.out).step hb)
  have Sx210 := Lib.hid (hrow.strs HS2.out.sizes)
  have Rx210 := Lib.hid (hrow)
  clear hb Bp09 rp09 bp09 Bwbox9 rwbox9 bwbox9 Bx09 rx09 bx09 Sw9 Sx09 Sx19 Rx09 Rx19 E9 Ow9
  have Gx2 : Hid (w9.heap.size ≤ gx2 ∧ gx2 < w10.heap.size) := by (have hx := hrow.lt; (try simp at hg); show _ ∧ _; omega)
  clear hg hrow
  go_wp2_with fail
  refine (reh.reh_impl _ _ _ _ _ _ D0 l1 l2 _ (Sx010.out) (Sx110.out) (Sx210.out) HL0.out HL1.out HL2.out ht0 hn0 hk0 (Nat.le_refl _) HL0.out (.inl ⟨_, _, rfl⟩)).mono ?_
  rintro _ w11 ⟨Ag, cg, rfl, ho, hb⟩
  have E11 := Lib.hid (below_then E10.out hb (Nat.le_refl _))
  have M11 : Hid (w10.heap.size ≤ w11.heap.size) := (by (have hx := hb.size; (try simp at hx); show _ ≤ _; omega))
  have Bp011 := Lib.hid ((Bp010.out).step hb)
  have rp011 := Bp011.out.cell
  have bp011 := Bp011.out.lt
  have Bwbox11 := Lib.hid ((Bwbox10.out).step hb)
  have rwbox11 := Bwbox11.out.cell
  have bwbox11 := Bwbox11.out.lt
  have Bx011 := Lib.hid ((Bx010.out).step hb)
  have rx011 := Bx011.out.cell
  have bx011 := Bx011.out.lt
  have Sw11 := Lib.hid ((Sw10.out).below hb)
  have Sx011 := Lib.hid ((Sx010.out).below hb)
  have Sx111 := Lib.hid ((Sx110.out).below hb)
  have Sx211 := Lib.hid ((Sx210.out).below hb)
  have Rx011 := Lib.hid ((Rx010.out).step hb)
  have Rx111 := Lib.hid ((Rx110.out).step hb)
  have Rx211 := Lib.hid ((Rx210.out).step hb)
  have Ow11 := Lib.hid ((Ow10.out).step hb)
  clear hb Bp010 rp010 bp010 Bwbox10 rwbox10 bwbox10 Bx010 rx010 bx010 Sw10 Sx010 Sx110 Sx210 Rx010 Rx110 Rx210 E10 Ow10
  have Og11 := Lib.hid ho
  have Kg : Hid (∀ k, (Value.slice Ag (reh.dataR D0 l1 l2).path.length cg).ownBlock = some k → w10.heap.size ≤ k ∧ k < w11.heap.size) := by (intro k hk; have hx := ho.row k hk; (try simp at hx); omega)
  have Sg11 := Lib.hid (Own.strs ho (own.reh_sizes HS0.out.sizes HS2.out.sizes))
  clear ho
  go_wp2_with fail
  refine (own.eq_out _ _ _ _ (reh.dataR D0 l1 l2) (reh.codeR D0 l1 l2) _ (Sg11.out.alloc _) (Sw11.out.alloc _) hpb).mono ?_
  rintro _ w12 ⟨rfl, hb⟩
  have E12 := Lib.hid (below_then (below_da E11.out (Nat.le_refl _) _) hb (Nat.le_refl _))
  have M12 : Hid (w11.heap.size + 1 ≤ w12.heap.size) := (by (have hx := hb.size; (try simp at hx); show _ ≤ _; omega))
  have Bp012 := Lib.hid ((Bp011.out.alloc _).step hb)
  have rp012 := Bp012.out.cell
  have bp012 := Bp012.out.lt
  have Bwbox12 := Lib.hid ((Bwbox11.out.alloc _).step hb)
  have rwbox12 := Bwbox12.out.cell
  have bwbox12 := Bwbox12.out.lt
  have Bx012 := Lib.hid ((Bx011.out.alloc _).step hb)
  have rx012 := Bx012.out.cell
  have bx012 := Bx012.out.lt
  have Bgbox12 := Lib.hid ((Blk.new w11 _ _).step hb)
  have rgbox12 := Bgbox12.out.cell
  have bgbox12 := Bgbox12.out.lt
  have Sw12 := Lib.hid ((Sw11.out.alloc _).below hb)
  have Sx012 := Lib.hid ((Sx011.out.alloc _).below hb)
  have Sx112 := Lib.hid ((Sx111.out.alloc _).below hb)
  have Sx212 := Lib.hid ((Sx211.out.alloc _).below hb)
  have Sg12 := Lib.hid ((Sg11.out.alloc _).below hb)
  have Rx012 := Lib.hid ((Rx011.out.alloc _).step hb)
  have Rx112 := Lib.hid ((Rx111.out.alloc _).step hb)
  have Rx212 := Lib.hid ((Rx211.out.alloc _).step hb)
  have Ow12 := Lib.hid ((Ow11.out.alloc _).step hb)
  have Og12 := Lib.hid ((Og11.out.alloc _).step hb)
  clear hb Bp011 rp011 bp011 Bwbox11 rwbox11 bwbox11 Bx011 rx011 bx011 Sw11 Sx011 Sx111 Sx211 Sg11 Rx011 Rx111 Rx211 E11 Ow11 Og11
  go_wp2_with fail
  have KT := fun (W : World) (h : Below w.heap.size w W) => Lib.hid (adl.toAddr_any A0 c0 D0 W (HS0.out.below h) hp0)
  have KE := fun (W : World) (h : Strs W (some ⟨gx0, 0, none⟩) D0.path) (g : Nat) (h' : Strs W (some ⟨g, 0, none⟩) D0.path) => Lib.hid (adl.eq_same (some ⟨gx0, 0, none⟩) (some ⟨g, 0, none⟩) D0.path.length D0.path.length D0 W h h' hp0)
  go_region_held3 (fun w' => w'.cell? ⟨w8.heap.size, 0, none⟩ = some (.slice (some ⟨gx0, 0, none⟩) D0.path.length D0.path.length) ∧ w'.cell? ⟨w8.heap.size, 1, none⟩ = some (.string D0.typ) ∧ w'.cell? ⟨w8.heap.size, 2, none⟩ = some (.string D0.nam) ∧ w'.cell? ⟨w8.heap.size, 3, none⟩ = some (.int .i64 D0.kind) ∧ w'.cell? ⟨w8.heap.size, 4, none⟩ = some (.int .i64 D0.n) ∧ w'.cell? ⟨w8.heap.size, 5, none⟩ = some (.string D0.key) ∧ w'.cell? ⟨w.heap.size, 0, none⟩ = some (.slice A0 D0.path.length c0) ∧ w'.cell? ⟨w.heap.size, 1, none⟩ = some (.string D0.typ) ∧ w'.cell? ⟨w.heap.size, 2, none⟩ = some (.string D0.nam) ∧ w'.cell? ⟨w.heap.size, 3, none⟩ = some (.int .i64 D0.kind) ∧ w'.cell? ⟨w.heap.size, 4, none⟩ = some (.int .i64 D0.n) ∧ w'.cell? ⟨w.heap.size, 5, none⟩ = some (.string D0.key)) (go_keep)
    (first
    | (go_at_call 15; refine (KT _ ?_).out.mono ?_; exact below_dn E12.out _; rintro _ w13 ⟨gq, rfl, hg, hrow, hb⟩; have hbb := below_then (below_d w12 _) hb (Nat.le_refl _); have E13 := Lib.hid (below_then (below_dn E12.out _) hb (Nat.le_refl _)); have M13 : Hid (w12.heap.size ≤ w13.heap.size) := (by (have hx := hbb.size; (try simp at hx); show _ ≤ _; omega)); have Bp013 := Lib.hid ((Bp012.out).step hbb); have rp013 := Bp013.out.cell; have bp013 := Bp013.out.lt; have Bwbox13 := Lib.hid ((Bwbox12.out).step hbb); have rwbox13 := Bwbox13.out.cell; have bwbox13 := Bwbox13.out.lt; have Bx013 := Lib.hid ((Bx012.out).step hbb); have rx013 := Bx013.out.cell; have bx013 := Bx013.out.lt; have Bgbox13 := Lib.hid ((Bgbox12.out).step hbb); have rgbox13 := Bgbox13.out.cell; have bgbox13 := Bgbox13.out.lt; have Sw13 := Lib.hid ((Sw12.out).below hbb); have Sx013 := Lib.hid ((Sx012.out).below hbb); have Sx113 := Lib.hid ((Sx112.out).below hbb); have Sx213 := Lib.hid ((Sx212.out).below hbb); have Sg13 := Lib.hid ((Sg12.out).below hbb); have Rx013 := Lib.hid ((Rx012.out).step hbb); have Rx113 := Lib.hid ((Rx112.out).step hbb); have Rx213 := Lib.hid ((Rx212.out).step hbb); have Ow13 := Lib.hid ((Ow12.out).step hbb); have Og13 := Lib.hid ((Og12.out).step hbb); have Sq13 := Lib.hid (hrow.strs HS0.out.sizes); clear hb hbb hg hrow)
    | (go_at_call 17; refine (KE _ ?_ _ ?_).out.mono ?_; exact Sx013.out; exact Sq13.out; rintro _ w14 ⟨rfl, hb⟩; have E14 := Lib.hid (below_then E13.out hb (Nat.le_refl _)); have M14 : Hid (w13.heap.size ≤ w14.heap.size) := (by (have hx := hb.size; (try simp at hx); show _ ≤ _; omega)); have Bp014 := Lib.hid ((Bp013.out).step hb); have rp014 := Bp014.out.cell; have bp014 := Bp014.out.lt; have Bwbox14 := Lib.hid ((Bwbox13.out).step hb); have rwbox14 := Bwbox14.out.cell; have bwbox14 := Bwbox14.out.lt; have Bx014 := Lib.hid ((Bx013.out).step hb); have rx014 := Bx014.out.cell; have bx014 := Bx014.out.lt; have Bgbox14 := Lib.hid ((Bgbox13.out).step hb); have rgbox14 := Bgbox14.out.cell; have bgbox14 := Bgbox14.out.lt; have Sw14 := Lib.hid ((Sw13.out).below hb); have Sx014 := Lib.hid ((Sx013.out).below hb); have Sx114 := Lib.hid ((Sx113.out).below hb); have Sx214 := Lib.hid ((Sx213.out).below hb); have Sg14 := Lib.hid ((Sg13.out).below hb); have Sq14 := Lib.hid ((Sq13.out).below hb); have Rx014 := Lib.hid ((Rx013.out).step hb); have Rx114 := Lib.hid ((Rx113.out).step hb); have Rx214 := Lib.hid ((Rx213.out).step hb); have Ow14 := Lib.hid ((Ow13.out).step hb); have Og14 := Lib.hid ((Og13.out).step hb); clear hb))
  clear KT KE
  go_split_ands
  clear Sq14
  clear Bp012 rp012 bp012 Bwbox12 rwbox12 bwbox12 Bx012 rx012 bx012 Bgbox12 rgbox12 bgbox12 Sw12 Sx012 Sx112 Sx212 Sg12 Rx012 Rx112 Rx212 E12 Ow12 Og12 Bp013 rp013 bp013 Bwbox13 rwbox13 bwbox13 Bx013 rx013 bx013 Bgbox13 rgbox13 bgbox13 Sw13 Sx013 Sx113 Sx213 Sg13 Rx013 Rx113 Rx213 E13 Ow13 Og13
  clear Sq13
  go_wp2_with fail
  refine (toStringS_any A1 c1 l1 _ (HS1.out.below E14.out) hp1).mono ?_
  rintro _ w15 ⟨gq1, rfl, hg, hrow, hb⟩
  have E15 := Lib.hid (below_then E14.out hb (Nat.le_refl _))
  have M15 : Hid (w14.heap.size ≤ w15.heap.size) := (by (have hx := hb.size; (try simp at hx); show _ ≤ _; omega))
  have Bp015 := Lib.hid ((Bp014.out).step hb)
  have rp015 := Bp015.out.cell
  have bp015 := Bp015.out.lt
  have Bwbox15 := Lib.hid ((Bwbox14.out).step hb)
  have rwbox15 := Bwbox15.out.cell
  have bwbox15 := Bwbox15.out.lt
  have Bx015 := Lib.hid ((Bx014.out).step hb)
  have rx015 := Bx015.out.cell
  have bx015 := Bx015.out.lt
  have Bgbox15 := Lib.hid ((Bgbox14.out).step hb)
  have rgbox15 := Bgbox15.out.cell
  have bgbox15 := Bgbox15.out.lt
  have Sw15 := Lib.hid ((Sw14.out).below hb)
  have Sx015 := Lib.hid ((Sx014.out).below hb)
  have Sx115 := Lib.hid ((Sx114.out).below hb)
  have Sx215 := Lib.hid ((Sx214.out).below hb)
  have Sg15 := Lib.hid ((Sg14.out).below hb)
  have Rx015 := Lib.hid ((Rx014.out).step hb)
  have Rx115 := Lib.hid ((Rx114.out).step hb)
  have Rx215 := Lib.hid ((Rx214.out).step hb)
  have Ow15 := Lib.hid ((Ow14.out).step hb)
  have Og15 := Lib.hid ((Og14.out).step hb)
  have Sq115 := Lib.hid (hrow.strs HS1.out.sizes)
  have Rq115 := Lib.hid (hrow)
  clear hb Bp014 rp014 bp014 Bwbox14 rwbox14 bwbox14 Bx014 rx014 bx014 Bgbox14 rgbox14 bgbox14 Sw14 Sx014 Sx114 Sx214 Sg14 Rx014 Rx114 Rx214 E14 Ow14 Og14
  have Gq1 : Hid (w14.heap.size ≤ gq1 ∧ gq1 < w15.heap.size) := by (have hx := hrow.lt; (try simp at hg); show _ ∧ _; omega)
  clear hg hrow
  go_wp2_with fail
  refine (adl.eqL_same _ _ _ _ l1 _ (Sx115.out) (Sq115.out) hp1).mono ?_
  rintro _ w16 ⟨rfl, hb⟩
  have E16 := Lib.hid (below_then E15.out hb (Nat.le_refl _))
  have M16 : Hid (w15.heap.size ≤ w16.heap.size) := (by (have hx := hb.size; (try simp at hx); show _ ≤ _; omega))
  have Bp016 := Lib.hid ((Bp015.out).step hb)
  have rp016 := Bp016.out.cell
  have bp016 := Bp016.out.lt
  have Bwbox16 := Lib.hid ((Bwbox15.out).step hb)
  have rwbox16 := Bwbox16.out.cell
  have bwbox16 := Bwbox16.out.lt
  have Bx016 := Lib.hid ((Bx015.out).step hb)
  have rx016 := Bx016.out.cell
  have bx016 := Bx016.out.lt
  have Bgbox16 := Lib.hid ((Bgbox15.out).step hb)
  have rgbox16 := Bgbox16.out.cell
  have bgbox16 := Bgbox16.out.lt
  have Sw16 := Lib.hid ((Sw15.out).below hb)
  have Sx016 := Lib.hid ((Sx015.out).below hb)
  have Sx116 := Lib.hid ((Sx115.out).below hb)
  have Sx216 := Lib.hid ((Sx215.out).below hb)
  have Sg16 := Lib.hid ((Sg15.out).below hb)
  have Sq116 := Lib.hid ((Sq115.out).below hb)
  have Rx016 := Lib.hid ((Rx015.out).step hb)
  have Rx116 := Lib.hid ((Rx115.out).step hb)
  have Rx216 := Lib.hid ((Rx215.out).step hb)
  have Rq116 := Lib.hid ((Rq115.out).step hb)
  have Ow16 := Lib.hid ((Ow15.out).step hb)
  have Og16 := Lib.hid ((Og15.out).step hb)
  clear hb Bp015 rp015 bp015 Bwbox15 rwbox15 bwbox15 Bx015 rx015 bx015 Bgbox15 rgbox15 bgbox15 Sw15 Sx015 Sx115 Sx215 Sg15 Sq115 Rx015 Rx115 Rx215 Rq115 E15 Ow15 Og15
  clear Sq116
  clear Rq116
  go_wp2_with fail
  refine (toStringS_any A2 c2 l2 _ (HS2.out.below E16.out) hp2).mono ?_
  rintro _ w17 ⟨gq2, rfl, hg, hrow, hb⟩
  have E17 := Lib.hid (below_then E16.out hb (Nat.le_refl _))
  have M17 : Hid (w16.heap.size ≤ w17.heap.size) := (by (have hx := hb.size; (try simp at hx); show _ ≤ _; omega))
  have Bp017 := Lib.hid ((Bp016.out).step hb)
  have rp017 := Bp017.out.cell
  have bp017 := Bp017.out.lt
  have Bwbox17 := Lib.hid ((Bwbox16.out).step hb)
  have rwbox17 := Bwbox17.out.cell
  have bwbox17 := Bwbox17.out.lt
  have Bx017 := Lib.hid ((Bx016.out).step hb)
  have rx017 := Bx017.out.cell
  have bx017 := Bx017.out.lt
  have Bgbox17 := Lib.hid ((Bgbox16.out).step hb)
  have rgbox17 := Bgbox17.out.cell
  have bgbox17 := Bgbox17.out.lt
  have Sw17 := Lib.hid ((Sw16.out).below hb)
  have Sx017 := Lib.hid ((Sx016.out).below hb)
  have Sx117 := Lib.hid ((Sx116.out).below hb)
  have Sx217 := Lib.hid ((Sx216.out).below hb)
  have Sg17 := Lib.hid ((Sg16.out).below hb)
  have Rx017 := Lib.hid ((Rx016.out).step hb)
  have Rx117 := Lib.hid ((Rx116.out).step hb)
  have Rx217 := Lib.hid ((Rx216.out).step hb)
  have Ow17 := Lib.hid ((Ow16.out).step hb)
  have Og17 := Lib.hid ((Og16.out).step hb)
  have Sq217 := Lib.hid (hrow.strs HS2.out.sizes)
  have Rq217 := Lib.hid (hrow)
  clear hb Bp016 rp016 bp016 Bwbox16 rwbox16 bwbox16 Bx016 rx016 bx016 Bgbox16 rgbox16 bgbox16 Sw16 Sx016 Sx116 Sx216 Sg16 Rx016 Rx116 Rx216 E16 Ow16 Og16
  have Gq2 : Hid (w16.heap.size ≤ gq2 ∧ gq2 < w17.heap.size) := by (have hx := hrow.lt; (try simp at hg); show _ ∧ _; omega)
  clear hg hrow
  go_wp2_with fail
  refine (adl.eqL_same _ _ _ _ l2 _ (Sx217.out) (Sq217.out) hp2).mono ?_
  rintro _ w18 ⟨rfl, hb⟩
  have E18 := Lib.hid (below_then E17.out hb (Nat.le_refl _))
  have M18 : Hid (w17.heap.size ≤ w18.heap.size) := (by (have hx := hb.size; (try simp at hx); show _ ≤ _; omega))
  have Bp018 := Lib.hid ((Bp017.out).step hb)
  have rp018 := Bp018.out.cell
  have bp018 := Bp018.out.lt
  have Bwbox18 := Lib.hid ((Bwbox17.out).step hb)
  have rwbox18 := Bwbox18.out.cell
  have bwbox18 := Bwbox18.out.lt
  have Bx018 := Lib.hid ((Bx017.out).step hb)
  have rx018 := Bx018.out.cell
  have bx018 := Bx018.out.lt
  have Bgbox18 := Lib.hid ((Bgbox17.out).step hb)
  have rgbox18 := Bgbox18.out.cell
  have bgbox18 := Bgbox18.out.lt
  have Sw18 := Lib.hid ((Sw17.out).below hb)
  have Sx018 := Lib.hid ((Sx017.out).below hb)
  have Sx118 := Lib.hid ((Sx117.out).below hb)
  have Sx218 := Lib.hid ((Sx217.out).below hb)
  have Sg18 := Lib.hid ((Sg17.out).below hb)
  have Sq218 := Lib.hid ((Sq217.out).below hb)
  have Rx018 := Lib.hid ((Rx017.out).step hb)
  have Rx118 := Lib.hid ((Rx117.out).step hb)
  have Rx218 := Lib.hid ((Rx217.out).step hb)
  have Rq218 := Lib.hid ((Rq217.out).step hb)
  have Ow18 := Lib.hid ((Ow17.out).step hb)
  have Og18 := Lib.hid ((Og17.out).step hb)
  clear hb Bp017 rp017 bp017 Bwbox17 rwbox17 bwbox17 Bx017 rx017 bx017 Bgbox17 rgbox17 bgbox17 Sw17 Sx017 Sx117 Sx217 Sg17 Sq217 Rx017 Rx117 Rx217 Rq217 E17 Ow17 Og17
  clear Sq218
  clear Rq218
  have hbx0 : w.heap.size ≤ gx0 := by have := M1.out; have := M2.out; have := M3.out; have := M4.out; have := M5.out; have := M6.out; have := M7.out; have := M8.out; have := M9.out; have := M10.out; have := M11.out; have := M12.out; have := M13.out; have := M14.out; have := M15.out; have := M16.out; have := M17.out; have := M18.out; have := Gu0.out; have := Gu1.out; have := Gu2.out; have := Gx0.out; have := Gx1.out; have := Gx2.out; have := Gq1.out; have := Gq2.out; omega
  go_wp2_with fail
  refine (own.mark_addrI _ _ w.heap.size D0 _ (1) _ (row_own (Rx018.out) hbx0 HL0.out) (by rfl) hp0 (by omega) (by omega)).mono ?_
  rintro _ w19 ⟨rfl, ho, hg⟩
  have M19 : Hid (w18.heap.size ≤ w19.heap.size) := hg.size
  have E19 := Lib.hid (Below.grown E18.out hg (by have := M1.out; have := M2.out; have := M3.out; have := M4.out; have := M5.out; have := M6.out; have := M7.out; have := M8.out; have := M9.out; have := M10.out; have := M11.out; have := M12.out; have := M13.out; have := M14.out; have := M15.out; have := M16.out; have := M17.out; have := M18.out; have := Gu0.out; have := Gu1.out; have := Gu2.out; have := Gx0.out; have := Gx1.out; have := Gx2.out; have := Gq1.out; have := Gq2.out; first | omega | exact Nat.le_refl _) (fun k e => by have := M1.out; have := M2.out; have := M3.out; have := M4.out; have := M5.out; have := M6.out; have := M7.out; have := M8.out; have := M9.out; have := M10.out; have := M11.out; have := M12.out; have := M13.out; have := M14.out; have := M15.out; have := M16.out; have := M17.out; have := M18.out; have := Gu0.out; have := Gu1.out; have := Gu2.out; have := Gx0.out; have := Gx1.out; have := Gx2.out; have := Gq1.out; have := Gq2.out; have e2 : some gx0 = some _ := e; injection e2 with e2; omega))
  have Bp019 := Lib.hid (blk_grown Bp018.out hg (fun e => by have := M1.out; have := M2.out; have := M3.out; have := M4.out; have := M5.out; have := M6.out; have := M7.out; have := M8.out; have := M9.out; have := M10.out; have := M11.out; have := M12.out; have := M13.out; have := M14.out; have := M15.out; have := M16.out; have := M17.out; have := M18.out; have := Gu0.out; have := Gu1.out; have := Gu2.out; have := Gx0.out; have := Gx1.out; have := Gx2.out; have := Gq1.out; have := Gq2.out; have e2 : some gx0 = some _ := e; injection e2 with e2; omega))
  have rp019 := Bp019.out.cell
  have bp019 := Bp019.out.lt
  have Bwbox19 := Lib.hid (blk_grown Bwbox18.out hg (fun e => by have := M1.out; have := M2.out; have := M3.out; have := M4.out; have := M5.out; have := M6.out; have := M7.out; have := M8.out; have := M9.out; have := M10.out; have := M11.out; have := M12.out; have := M13.out; have := M14.out; have := M15.out; have := M16.out; have := M17.out; have := M18.out; have := Gu0.out; have := Gu1.out; have := Gu2.out; have := Gx0.out; have := Gx1.out; have := Gx2.out; have := Gq1.out; have := Gq2.out; have e2 : some gx0 = some _ := e; injection e2 with e2; omega))
  have rwbox19 := Bwbox19.out.cell
  have bwbox19 := Bwbox19.out.lt
  have Bx019 := Lib.hid (blk_grown Bx018.out hg (fun e => by have := M1.out; have := M2.out; have := M3.out; have := M4.out; have := M5.out; have := M6.out; have := M7.out; have := M8.out; have := M9.out; have := M10.out; have := M11.out; have := M12.out; have := M13.out; have := M14.out; have := M15.out; have := M16.out; have := M17.out; have := M18.out; have := Gu0.out; have := Gu1.out; have := Gu2.out; have := Gx0.out; have := Gx1.out; have := Gx2.out; have := Gq1.out; have := Gq2.out; have e2 : some gx0 = some _ := e; injection e2 with e2; omega))
  have rx019 := Bx019.out.cell
  have bx019 := Bx019.out.lt
  have Bgbox19 := Lib.hid (blk_grown Bgbox18.out hg (fun e => by have := M1.out; have := M2.out; have := M3.out; have := M4.out; have := M5.out; have := M6.out; have := M7.out; have := M8.out; have := M9.out; have := M10.out; have := M11.out; have := M12.out; have := M13.out; have := M14.out; have := M15.out; have := M16.out; have := M17.out; have := M18.out; have := Gu0.out; have := Gu1.out; have := Gu2.out; have := Gx0.out; have := Gx1.out; have := Gx2.out; have := Gq1.out; have := Gq2.out; have e2 : some gx0 = some _ := e; injection e2 with e2; omega))
  have rgbox19 := Bgbox19.out.cell
  have bgbox19 := Bgbox19.out.lt
  have Sw19 := Lib.hid (strs_grown Sw18.out hg (fun b o eA e => by have := M1.out; have := M2.out; have := M3.out; have := M4.out; have := M5.out; have := M6.out; have := M7.out; have := M8.out; have := M9.out; have := M10.out; have := M11.out; have := M12.out; have := M13.out; have := M14.out; have := M15.out; have := M16.out; have := M17.out; have := M18.out; have := Gu0.out; have := Gu1.out; have := Gu2.out; have := Gx0.out; have := Gx1.out; have := Gx2.out; have := Gq1.out; have := Gq2.out; have e2 : some gx0 = some _ := e; injection e2 with e2; have hx := Kw.out b (by rw [eA]; rfl); omega))
  have Sx119 := Lib.hid (strs_grown Sx118.out hg (fun b o eA e => by have := M1.out; have := M2.out; have := M3.out; have := M4.out; have := M5.out; have := M6.out; have := M7.out; have := M8.out; have := M9.out; have := M10.out; have := M11.out; have := M12.out; have := M13.out; have := M14.out; have := M15.out; have := M16.out; have := M17.out; have := M18.out; have := Gu0.out; have := Gu1.out; have := Gu2.out; have := Gx0.out; have := Gx1.out; have := Gx2.out; have := Gq1.out; have := Gq2.out; have e2 : some gx0 = some _ := e; injection e2 with e2; (have hx : gx1 = b := by injection eA with eA; injection eA); omega))
  have Sx219 := Lib.hid (strs_grown Sx218.out hg (fun b o eA e => by have := M1.out; have := M2.out; have := M3.out; have := M4.out; have := M5.out; have := M6.out; have := M7.out; have := M8.out; have := M9.out; have := M10.out; have := M11.out; have := M12.out; have := M13.out; have := M14.out; have := M15.out; have := M16.out; have := M17.out; have := M18.out; have := Gu0.out; have := Gu1.out; have := Gu2.out; have := Gx0.out; have := Gx1.out; have := Gx2.out; have := Gq1.out; have := Gq2.out; have e2 : some gx0 = some _ := e; injection e2 with e2; (have hx : gx2 = b := by injection eA with eA; injection eA); omega))
  have Sg19 := Lib.hid (strs_grown Sg18.out hg (fun b o eA e => by have := M1.out; have := M2.out; have := M3.out; have := M4.out; have := M5.out; have := M6.out; have := M7.out; have := M8.out; have := M9.out; have := M10.out; have := M11.out; have := M12.out; have := M13.out; have := M14.out; have := M15.out; have := M16.out; have := M17.out; have := M18.out; have := Gu0.out; have := Gu1.out; have := Gu2.out; have := Gx0.out; have := Gx1.out; have := Gx2.out; have := Gq1.out; have := Gq2.out; have e2 : some gx0 = some _ := e; injection e2 with e2; have hx := Kg.out b (by rw [eA]; rfl); omega))
  have Ow19 := Lib.hid (Own.kept Ow18.out hg (fun k hk e => by have := M1.out; have := M2.out; have := M3.out; have := M4.out; have := M5.out; have := M6.out; have := M7.out; have := M8.out; have := M9.out; have := M10.out; have := M11.out; have := M12.out; have := M13.out; have := M14.out; have := M15.out; have := M16.out; have := M17.out; have := M18.out; have := Gu0.out; have := Gu1.out; have := Gu2.out; have := Gx0.out; have := Gx1.out; have := Gx2.out; have := Gq1.out; have := Gq2.out; have e2 : some gx0 = some _ := e; injection e2 with e2; have hx := Kw.out k hk; omega))
  have Og19 := Lib.hid (Own.kept Og18.out hg (fun k hk e => by have := M1.out; have := M2.out; have := M3.out; have := M4.out; have := M5.out; have := M6.out; have := M7.out; have := M8.out; have := M9.out; have := M10.out; have := M11.out; have := M12.out; have := M13.out; have := M14.out; have := M15.out; have := M16.out; have := M17.out; have := M18.out; have := Gu0.out; have := Gu1.out; have := Gu2.out; have := Gx0.out; have := Gx1.out; have := Gx2.out; have := Gq1.out; have := Gq2.out; have e2 : some gx0 = some _ := e; injection e2 with e2; have hx := Kg.out k hk; omega))
  have Rx119 := Lib.hid (row_grown Rx118.out hg (fun e => by have := M1.out; have := M2.out; have := M3.out; have := M4.out; have := M5.out; have := M6.out; have := M7.out; have := M8.out; have := M9.out; have := M10.out; have := M11.out; have := M12.out; have := M13.out; have := M14.out; have := M15.out; have := M16.out; have := M17.out; have := M18.out; have := Gu0.out; have := Gu1.out; have := Gu2.out; have := Gx0.out; have := Gx1.out; have := Gx2.out; have := Gq1.out; have := Gq2.out; have e2 : some gx0 = some _ := e; injection e2 with e2; omega))
  have Rx219 := Lib.hid (row_grown Rx218.out hg (fun e => by have := M1.out; have := M2.out; have := M3.out; have := M4.out; have := M5.out; have := M6.out; have := M7.out; have := M8.out; have := M9.out; have := M10.out; have := M11.out; have := M12.out; have := M13.out; have := M14.out; have := M15.out; have := M16.out; have := M17.out; have := M18.out; have := Gu0.out; have := Gu1.out; have := Gu2.out; have := Gx0.out; have := Gx1.out; have := Gx2.out; have := Gq1.out; have := Gq2.out; have e2 : some gx0 = some _ := e; injection e2 with e2; omega))
  have Sx019 := Lib.hid (Own.marks_strs ho (by omega))
  clear ho hg E18 Bp018 rp018 bp018 Bwbox18 rwbox18 bwbox18 Bx018 rx018 bx018 Bgbox18 rgbox18 bgbox18 Sw18 Sx018 Sx118 Sx218 Sg18 Ow18 Og18 Rx018 Rx118 Rx218
  have hbx1 : w.heap.size ≤ gx1 := by have := M1.out; have := M2.out; have := M3.out; have := M4.out; have := M5.out; have := M6.out; have := M7.out; have := M8.out; have := M9.out; have := M10.out; have := M11.out; have := M12.out; have := M13.out; have := M14.out; have := M15.out; have := M16.out; have := M17.out; have := M18.out; have := M19.out; have := Gu0.out; have := Gu1.out; have := Gu2.out; have := Gx0.out; have := Gx1.out; have := Gx2.out; have := Gq1.out; have := Gq2.out; omega
  go_wp2_with fail
  refine (own.mark_listI _ _ w.heap.size l1 _ (1 + D0.path.length) _ (row_own (Rx119.out) hbx1 HL1.out) (by omega) hp1 (by omega) (by omega)).mono ?_
  rintro _ w20 ⟨rfl, ho, hg⟩
  have M20 : Hid (w19.heap.size ≤ w20.heap.size) := hg.size
  have E20 := Lib.hid (Below.grown E19.out hg (by have := M1.out; have := M2.out; have := M3.out; have := M4.out; have := M5.out; have := M6.out; have := M7.out; have := M8.out; have := M9.out; have := M10.out; have := M11.out; have := M12.out; have := M13.out; have := M14.out; have := M15.out; have := M16.out; have := M17.out; have := M18.out; have := M19.out; have := Gu0.out; have := Gu1.out; have := Gu2.out; have := Gx0.out; have := Gx1.out; have := Gx2.out; have := Gq1.out; have := Gq2.out; first | omega | exact Nat.le_refl _) (fun k e => by have := M1.out; have := M2.out; have := M3.out; have := M4.out; have := M5.out; have := M6.out; have := M7.out; have := M8.out; have := M9.out; have := M10.out; have := M11.out; have := M12.out; have := M13.out; have := M14.out; have := M15.out; have := M16.out; have := M17.out; have := M18.out; have := M19.out; have := Gu0.out; have := Gu1.out; have := Gu2.out; have := Gx0.out; have := Gx1.out; have := Gx2.out; have := Gq1.out; have := Gq2.out; have e2 : some gx1 = some _ := e; injection e2 with e2; omega))
  have Bp020 := Lib.hid (blk_grown Bp019.out hg (fun e => by have := M1.out; have := M2.out; have := M3.out; have := M4.out; have := M5.out; have := M6.out; have := M7.out; have := M8.out; have := M9.out; have := M10.out; have := M11.out; have := M12.out; have := M13.out; have := M14.out; have := M15.out; have := M16.out; have := M17.out; have := M18.out; have := M19.out; have := Gu0.out; have := Gu1.out; have := Gu2.out; have := Gx0.out; have := Gx1.out; have := Gx2.out; have := Gq1.out; have := Gq2.out; have e2 : some gx1 = some _ := e; injection e2 with e2; omega))
  have rp020 := Bp020.out.cell
  have bp020 := Bp020.out.lt
  have Bwbox20 := Lib.hid (blk_grown Bwbox19.out hg (fun e => by have := M1.out; have := M2.out; have := M3.out; have := M4.out; have := M5.out; have := M6.out; have := M7.out; have := M8.out; have := M9.out; have := M10.out; have := M11.out; have := M12.out; have := M13.out; have := M14.out; have := M15.out; have := M16.out; have := M17.out; have := M18.out; have := M19.out; have := Gu0.out; have := Gu1.out; have := Gu2.out; have := Gx0.out; have := Gx1.out; have := Gx2.out; have := Gq1.out; have := Gq2.out; have e2 : some gx1 = some _ := e; injection e2 with e2; omega))
  have rwbox20 := Bwbox20.out.cell
  have bwbox20 := Bwbox20.out.lt
  have Bx020 := Lib.hid (blk_grown Bx019.out hg (fun e => by have := M1.out; have := M2.out; have := M3.out; have := M4.out; have := M5.out; have := M6.out; have := M7.out; have := M8.out; have := M9.out; have := M10.out; have := M11.out; have := M12.out; have := M13.out; have := M14.out; have := M15.out; have := M16.out; have := M17.out; have := M18.out; have := M19.out; have := Gu0.out; have := Gu1.out; have := Gu2.out; have := Gx0.out; have := Gx1.out; have := Gx2.out; have := Gq1.out; have := Gq2.out; have e2 : some gx1 = some _ := e; injection e2 with e2; omega))
  have rx020 := Bx020.out.cell
  have bx020 := Bx020.out.lt
  have Bgbox20 := Lib.hid (blk_grown Bgbox19.out hg (fun e => by have := M1.out; have := M2.out; have := M3.out; have := M4.out; have := M5.out; have := M6.out; have := M7.out; have := M8.out; have := M9.out; have := M10.out; have := M11.out; have := M12.out; have := M13.out; have := M14.out; have := M15.out; have := M16.out; have := M17.out; have := M18.out; have := M19.out; have := Gu0.out; have := Gu1.out; have := Gu2.out; have := Gx0.out; have := Gx1.out; have := Gx2.out; have := Gq1.out; have := Gq2.out; have e2 : some gx1 = some _ := e; injection e2 with e2; omega))
  have rgbox20 := Bgbox20.out.cell
  have bgbox20 := Bgbox20.out.lt
  have Sw20 := Lib.hid (strs_grown Sw19.out hg (fun b o eA e => by have := M1.out; have := M2.out; have := M3.out; have := M4.out; have := M5.out; have := M6.out; have := M7.out; have := M8.out; have := M9.out; have := M10.out; have := M11.out; have := M12.out; have := M13.out; have := M14.out; have := M15.out; have := M16.out; have := M17.out; have := M18.out; have := M19.out; have := Gu0.out; have := Gu1.out; have := Gu2.out; have := Gx0.out; have := Gx1.out; have := Gx2.out; have := Gq1.out; have := Gq2.out; have e2 : some gx1 = some _ := e; injection e2 with e2; have hx := Kw.out b (by rw [eA]; rfl); omega))
  have Sx220 := Lib.hid (strs_grown Sx219.out hg (fun b o eA e => by have := M1.out; have := M2.out; have := M3.out; have := M4.out; have := M5.out; have := M6.out; have := M7.out; have := M8.out; have := M9.out; have := M10.out; have := M11.out; have := M12.out; have := M13.out; have := M14.out; have := M15.out; have := M16.out; have := M17.out; have := M18.out; have := M19.out; have := Gu0.out; have := Gu1.out; have := Gu2.out; have := Gx0.out; have := Gx1.out; have := Gx2.out; have := Gq1.out; have := Gq2.out; have e2 : some gx1 = some _ := e; injection e2 with e2; (have hx : gx2 = b := by injection eA with eA; injection eA); omega))
  have Sg20 := Lib.hid (strs_grown Sg19.out hg (fun b o eA e => by have := M1.out; have := M2.out; have := M3.out; have := M4.out; have := M5.out; have := M6.out; have := M7.out; have := M8.out; have := M9.out; have := M10.out; have := M11.out; have := M12.out; have := M13.out; have := M14.out; have := M15.out; have := M16.out; have := M17.out; have := M18.out; have := M19.out; have := Gu0.out; have := Gu1.out; have := Gu2.out; have := Gx0.out; have := Gx1.out; have := Gx2.out; have := Gq1.out; have := Gq2.out; have e2 : some gx1 = some _ := e; injection e2 with e2; have hx := Kg.out b (by rw [eA]; rfl); omega))
  have Sx020 := Lib.hid (strs_grown Sx019.out hg (fun b o eA e => by have := M1.out; have := M2.out; have := M3.out; have := M4.out; have := M5.out; have := M6.out; have := M7.out; have := M8.out; have := M9.out; have := M10.out; have := M11.out; have := M12.out; have := M13.out; have := M14.out; have := M15.out; have := M16.out; have := M17.out; have := M18.out; have := M19.out; have := Gu0.out; have := Gu1.out; have := Gu2.out; have := Gx0.out; have := Gx1.out; have := Gx2.out; have := Gq1.out; have := Gq2.out; have e2 : some gx1 = some _ := e; injection e2 with e2; (have hx : gx0 = b := by injection eA with eA; injection eA); omega))
  have Ow20 := Lib.hid (Own.kept Ow19.out hg (fun k hk e => by have := M1.out; have := M2.out; have := M3.out; have := M4.out; have := M5.out; have := M6.out; have := M7.out; have := M8.out; have := M9.out; have := M10.out; have := M11.out; have := M12.out; have := M13.out; have := M14.out; have := M15.out; have := M16.out; have := M17.out; have := M18.out; have := M19.out; have := Gu0.out; have := Gu1.out; have := Gu2.out; have := Gx0.out; have := Gx1.out; have := Gx2.out; have := Gq1.out; have := Gq2.out; have e2 : some gx1 = some _ := e; injection e2 with e2; have hx := Kw.out k hk; omega))
  have Og20 := Lib.hid (Own.kept Og19.out hg (fun k hk e => by have := M1.out; have := M2.out; have := M3.out; have := M4.out; have := M5.out; have := M6.out; have := M7.out; have := M8.out; have := M9.out; have := M10.out; have := M11.out; have := M12.out; have := M13.out; have := M14.out; have := M15.out; have := M16.out; have := M17.out; have := M18.out; have := M19.out; have := Gu0.out; have := Gu1.out; have := Gu2.out; have := Gx0.out; have := Gx1.out; have := Gx2.out; have := Gq1.out; have := Gq2.out; have e2 : some gx1 = some _ := e; injection e2 with e2; have hx := Kg.out k hk; omega))
  have Rx220 := Lib.hid (row_grown Rx219.out hg (fun e => by have := M1.out; have := M2.out; have := M3.out; have := M4.out; have := M5.out; have := M6.out; have := M7.out; have := M8.out; have := M9.out; have := M10.out; have := M11.out; have := M12.out; have := M13.out; have := M14.out; have := M15.out; have := M16.out; have := M17.out; have := M18.out; have := M19.out; have := Gu0.out; have := Gu1.out; have := Gu2.out; have := Gx0.out; have := Gx1.out; have := Gx2.out; have := Gq1.out; have := Gq2.out; have e2 : some gx1 = some _ := e; injection e2 with e2; omega))
  have Sx120 := Lib.hid (Own.marks_strs ho (by omega))
  clear ho hg E19 Bp019 rp019 bp019 Bwbox19 rwbox19 bwbox19 Bx019 rx019 bx019 Bgbox19 rgbox19 bgbox19 Sw19 Sx119 Sx219 Sg19 Sx019 Ow19 Og19 Rx119 Rx219
  have hbx2 : w.heap.size ≤ gx2 := by have := M1.out; have := M2.out; have := M3.out; have := M4.out; have := M5.out; have := M6.out; have := M7.out; have := M8.out; have := M9.out; have := M10.out; have := M11.out; have := M12.out; have := M13.out; have := M14.out; have := M15.out; have := M16.out; have := M17.out; have := M18.out; have := M19.out; have := M20.out; have := Gu0.out; have := Gu1.out; have := Gu2.out; have := Gx0.out; have := Gx1.out; have := Gx2.out; have := Gq1.out; have := Gq2.out; omega
  go_wp2_with fail
  refine (own.mark_listI _ _ w.heap.size l2 _ (1 + D0.path.length + l1.length) _ (row_own (Rx220.out) hbx2 HL2.out) (by omega) hp2 (by omega) (by omega)).mono ?_
  rintro _ w21 ⟨rfl, ho, hg⟩
  have M21 : Hid (w20.heap.size ≤ w21.heap.size) := hg.size
  have E21 := Lib.hid (Below.grown E20.out hg (by have := M1.out; have := M2.out; have := M3.out; have := M4.out; have := M5.out; have := M6.out; have := M7.out; have := M8.out; have := M9.out; have := M10.out; have := M11.out; have := M12.out; have := M13.out; have := M14.out; have := M15.out; have := M16.out; have := M17.out; have := M18.out; have := M19.out; have := M20.out; have := Gu0.out; have := Gu1.out; have := Gu2.out; have := Gx0.out; have := Gx1.out; have := Gx2.out; have := Gq1.out; have := Gq2.out; first | omega | exact Nat.le_refl _) (fun k e => by have := M1.out; have := M2.out; have := M3.out; have := M4.out; have := M5.out; have := M6.out; have := M7.out; have := M8.out; have := M9.out; have := M10.out; have := M11.out; have := M12.out; have := M13.out; have := M14.out; have := M15.out; have := M16.out; have := M17.out; have := M18.out; have := M19.out; have := M20.out; have := Gu0.out; have := Gu1.out; have := Gu2.out; have := Gx0.out; have := Gx1.out; have := Gx2.out; have := Gq1.out; have := Gq2.out; have e2 : some gx2 = some _ := e; injection e2 with e2; omega))
  have Bp021 := Lib.hid (blk_grown Bp020.out hg (fun e => by have := M1.out; have := M2.out; have := M3.out; have := M4.out; have := M5.out; have := M6.out; have := M7.out; have := M8.out; have := M9.out; have := M10.out; have := M11.out; have := M12.out; have := M13.out; have := M14.out; have := M15.out; have := M16.out; have := M17.out; have := M18.out; have := M19.out; have := M20.out; have := Gu0.out; have := Gu1.out; have := Gu2.out; have := Gx0.out; have := Gx1.out; have := Gx2.out; have := Gq1.out; have := Gq2.out; have e2 : some gx2 = some _ := e; injection e2 with e2; omega))
  have rp021 := Bp021.out.cell
  have bp021 := Bp021.out.lt
  have Bwbox21 := Lib.hid (blk_grown Bwbox20.out hg (fun e => by have := M1.out; have := M2.out; have := M3.out; have := M4.out; have := M5.out; have := M6.out; have := M7.out; have := M8.out; have := M9.out; have := M10.out; have := M11.out; have := M12.out; have := M13.out; have := M14.out; have := M15.out; have := M16.out; have := M17.out; have := M18.out; have := M19.out; have := M20.out; have := Gu0.out; have := Gu1.out; have := Gu2.out; have := Gx0.out; have := Gx1.out; have := Gx2.out; have := Gq1.out; have := Gq2.out; have e2 : some gx2 = some _ := e; injection e2 with e2; omega))
  have rwbox21 := Bwbox21.out.cell
  have bwbox21 := Bwbox21.out.lt
  have Bx021 := Lib.hid (blk_grown Bx020.out hg (fun e => by have := M1.out; have := M2.out; have := M3.out; have := M4.out; have := M5.out; have := M6.out; have := M7.out; have := M8.out; have := M9.out; have := M10.out; have := M11.out; have := M12.out; have := M13.out; have := M14.out; have := M15.out; have := M16.out; have := M17.out; have := M18.out; have := M19.out; have := M20.out; have := Gu0.out; have := Gu1.out; have := Gu2.out; have := Gx0.out; have := Gx1.out; have := Gx2.out; have := Gq1.out; have := Gq2.out; have e2 : some gx2 = some _ := e; injection e2 with e2; omega))
  have rx021 := Bx021.out.cell
  have bx021 := Bx021.out.lt
  have Bgbox21 := Lib.hid (blk_grown Bgbox20.out hg (fun e => by have := M1.out; have := M2.out; have := M3.out; have := M4.out; have := M5.out; have := M6.out; have := M7.out; have := M8.out; have := M9.out; have := M10.out; have := M11.out; have := M12.out; have := M13.out; have := M14.out; have := M15.out; have := M16.out; have := M17.out; have := M18.out; have := M19.out; have := M20.out; have := Gu0.out; have := Gu1.out; have := Gu2.out; have := Gx0.out; have := Gx1.out; have := Gx2.out; have := Gq1.out; have := Gq2.out; have e2 : some gx2 = some _ := e; injection e2 with e2; omega))
  have rgbox21 := Bgbox21.out.cell
  have bgbox21 := Bgbox21.out.lt
  have Sw21 := Lib.hid (strs_grown Sw20.out hg (fun b o eA e => by have := M1.out; have := M2.out; have := M3.out; have := M4.out; have := M5.out; have := M6.out; have := M7.out; have := M8.out; have := M9.out; have := M10.out; have := M11.out; have := M12.out; have := M13.out; have := M14.out; have := M15.out; have := M16.out; have := M17.out; have := M18.out; have := M19.out; have := M20.out; have := Gu0.out; have := Gu1.out; have := Gu2.out; have := Gx0.out; have := Gx1.out; have := Gx2.out; have := Gq1.out; have := Gq2.out; have e2 : some gx2 = some _ := e; injection e2 with e2; have hx := Kw.out b (by rw [eA]; rfl); omega))
  have Sg21 := Lib.hid (strs_grown Sg20.out hg (fun b o eA e => by have := M1.out; have := M2.out; have := M3.out; have := M4.out; have := M5.out; have := M6.out; have := M7.out; have := M8.out; have := M9.out; have := M10.out; have := M11.out; have := M12.out; have := M13.out; have := M14.out; have := M15.out; have := M16.out; have := M17.out; have := M18.out; have := M19.out; have := M20.out; have := Gu0.out; have := Gu1.out; have := Gu2.out; have := Gx0.out; have := Gx1.out; have := Gx2.out; have := Gq1.out; have := Gq2.out; have e2 : some gx2 = some _ := e; injection e2 with e2; have hx := Kg.out b (by rw [eA]; rfl); omega))
  have Sx021 := Lib.hid (strs_grown Sx020.out hg (fun b o eA e => by have := M1.out; have := M2.out; have := M3.out; have := M4.out; have := M5.out; have := M6.out; have := M7.out; have := M8.out; have := M9.out; have := M10.out; have := M11.out; have := M12.out; have := M13.out; have := M14.out; have := M15.out; have := M16.out; have := M17.out; have := M18.out; have := M19.out; have := M20.out; have := Gu0.out; have := Gu1.out; have := Gu2.out; have := Gx0.out; have := Gx1.out; have := Gx2.out; have := Gq1.out; have := Gq2.out; have e2 : some gx2 = some _ := e; injection e2 with e2; (have hx : gx0 = b := by injection eA with eA; injection eA); omega))
  have Sx121 := Lib.hid (strs_grown Sx120.out hg (fun b o eA e => by have := M1.out; have := M2.out; have := M3.out; have := M4.out; have := M5.out; have := M6.out; have := M7.out; have := M8.out; have := M9.out; have := M10.out; have := M11.out; have := M12.out; have := M13.out; have := M14.out; have := M15.out; have := M16.out; have := M17.out; have := M18.out; have := M19.out; have := M20.out; have := Gu0.out; have := Gu1.out; have := Gu2.out; have := Gx0.out; have := Gx1.out; have := Gx2.out; have := Gq1.out; have := Gq2.out; have e2 : some gx2 = some _ := e; injection e2 with e2; (have hx : gx1 = b := by injection eA with eA; injection eA); omega))
  have Ow21 := Lib.hid (Own.kept Ow20.out hg (fun k hk e => by have := M1.out; have := M2.out; have := M3.out; have := M4.out; have := M5.out; have := M6.out; have := M7.out; have := M8.out; have := M9.out; have := M10.out; have := M11.out; have := M12.out; have := M13.out; have := M14.out; have := M15.out; have := M16.out; have := M17.out; have := M18.out; have := M19.out; have := M20.out; have := Gu0.out; have := Gu1.out; have := Gu2.out; have := Gx0.out; have := Gx1.out; have := Gx2.out; have := Gq1.out; have := Gq2.out; have e2 : some gx2 = some _ := e; injection e2 with e2; have hx := Kw.out k hk; omega))
  have Og21 := Lib.hid (Own.kept Og20.out hg (fun k hk e => by have := M1.out; have := M2.out; have := M3.out; have := M4.out; have := M5.out; have := M6.out; have := M7.out; have := M8.out; have := M9.out; have := M10.out; have := M11.out; have := M12.out; have := M13.out; have := M14.out; have := M15.out; have := M16.out; have := M17.out; have := M18.out; have := M19.out; have := M20.out; have := Gu0.out; have := Gu1.out; have := Gu2.out; have := Gx0.out; have := Gx1.out; have := Gx2.out; have := Gq1.out; have := Gq2.out; have e2 : some gx2 = some _ := e; injection e2 with e2; have hx := Kg.out k hk; omega))
  have Sx221 := Lib.hid (Own.marks_strs ho (by omega))
  clear ho hg E20 Bp020 rp020 bp020 Bwbox20 rwbox20 bwbox20 Bx020 rx020 bx020 Bgbox20 rgbox20 bgbox20 Sw20 Sx220 Sg20 Sx020 Sx120 Ow20 Og20 Rx220
  go_wp2_with fail
  refine (own.eq_out _ _ _ _ (reh.dataR D0 l1 l2) (reh.codeR D0 l1 l2) _ (Sg21.out) (Sw21.out) hpb).mono ?_
  rintro _ w22 ⟨rfl, hb⟩
  have E22 := Lib.hid (below_then E21.out hb (Nat.le_refl _))
  have M22 : Hid (w21.heap.size ≤ w22.heap.size) := (by (have hx := hb.size; (try simp at hx); show _ ≤ _; omega))
  have Bp022 := Lib.hid ((Bp021.out).step hb)
  have rp022 := Bp022.out.cell
  have bp022 := Bp022.out.lt
  have Bwbox22 := Lib.hid ((Bwbox21.out).step hb)
  have rwbox22 := Bwbox22.out.cell
  have bwbox22 := Bwbox22.out.lt
  have Bx022 := Lib.hid ((Bx021.out).step hb)
  have rx022 := Bx022.out.cell
  have bx022 := Bx022.out.lt
  have Bgbox22 := Lib.hid ((Bgbox21.out).step hb)
  have rgbox22 := Bgbox22.out.cell
  have bgbox22 := Bgbox22.out.lt
  have Sw22 := Lib.hid ((Sw21.out).below hb)
  have Sg22 := Lib.hid ((Sg21.out).below hb)
  have Sx022 := Lib.hid ((Sx021.out).below hb)
  have Sx122 := Lib.hid ((Sx121.out).below hb)
  have Sx222 := Lib.hid ((Sx221.out).below hb)
  have Ow22 := Lib.hid ((Ow21.out).step hb)
  have Og22 := Lib.hid ((Og21.out).step hb)
  clear hb Bp021 rp021 bp021 Bwbox21 rwbox21 bwbox21 Bx021 rx021 bx021 Bgbox21 rgbox21 bgbox21 Sw21 Sg21 Sx021 Sx121 Sx221 E21 Ow21 Og21
  clear Sx022
  clear Sx122
  clear Sx222
  go_wp2_with fail
  refine (own.mark_out _ _ _ (reh.dataR D0 l1 l2) (reh.codeR D0 l1 l2) 1 1 _ Og22.out rfl hpb (by omega) (by omega)).mono ?_
  rintro _ w23 ⟨rfl, ho, hg⟩
  have M23 : Hid (w22.heap.size ≤ w23.heap.size) := hg.size
  have E23 := Lib.hid (Below.grown E22.out hg (by have := M1.out; have := M2.out; have := M3.out; have := M4.out; have := M5.out; have := M6.out; have := M7.out; have := M8.out; have := M9.out; have := M10.out; have := M11.out; have := M12.out; have := M13.out; have := M14.out; have := M15.out; have := M16.out; have := M17.out; have := M18.out; have := M19.out; have := M20.out; have := M21.out; have := M22.out; have := Gu0.out; have := Gu1.out; have := Gu2.out; have := Gx0.out; have := Gx1.out; have := Gx2.out; have := Gq1.out; have := Gq2.out; first | omega | exact Nat.le_refl _) (fun k e => by have := M1.out; have := M2.out; have := M3.out; have := M4.out; have := M5.out; have := M6.out; have := M7.out; have := M8.out; have := M9.out; have := M10.out; have := M11.out; have := M12.out; have := M13.out; have := M14.out; have := M15.out; have := M16.out; have := M17.out; have := M18.out; have := M19.out; have := M20.out; have := M21.out; have := M22.out; have := Gu0.out; have := Gu1.out; have := Gu2.out; have := Gx0.out; have := Gx1.out; have := Gx2.out; have := Gq1.out; have := Gq2.out; have hy := Kg.out _ e; omega))
  have Bp023 := Lib.hid (blk_grown Bp022.out hg (fun e => by have := M1.out; have := M2.out; have := M3.out; have := M4.out; have := M5.out; have := M6.out; have := M7.out; have := M8.out; have := M9.out; have := M10.out; have := M11.out; have := M12.out; have := M13.out; have := M14.out; have := M15.out; have := M16.out; have := M17.out; have := M18.out; have := M19.out; have := M20.out; have := M21.out; have := M22.out; have := Gu0.out; have := Gu1.out; have := Gu2.out; have := Gx0.out; have := Gx1.out; have := Gx2.out; have := Gq1.out; have := Gq2.out; have hy := Kg.out _ e; omega))
  have rp023 := Bp023.out.cell
  have bp023 := Bp023.out.lt
  have Bwbox23 := Lib.hid (blk_grown Bwbox22.out hg (fun e => by have := M1.out; have := M2.out; have := M3.out; have := M4.out; have := M5.out; have := M6.out; have := M7.out; have := M8.out; have := M9.out; have := M10.out; have := M11.out; have := M12.out; have := M13.out; have := M14.out; have := M15.out; have := M16.out; have := M17.out; have := M18.out; have := M19.out; have := M20.out; have := M21.out; have := M22.out; have := Gu0.out; have := Gu1.out; have := Gu2.out; have := Gx0.out; have := Gx1.out; have := Gx2.out; have := Gq1.out; have := Gq2.out; have hy := Kg.out _ e; omega))
  have rwbox23 := Bwbox23.out.cell
  have bwbox23 := Bwbox23.out.lt
  have Bx023 := Lib.hid (blk_grown Bx022.out hg (fun e => by have := M1.out; have := M2.out; have := M3.out; have := M4.out; have := M5.out; have := M6.out; have := M7.out; have := M8.out; have := M9.out; have := M10.out; have := M11.out; have := M12.out; have := M13.out; have := M14.out; have := M15.out; have := M16.out; have := M17.out; have := M18.out; have := M19.out; have := M20.out; have := M21.out; have := M22.out; have := Gu0.out; have := Gu1.out; have := Gu2.out; have := Gx0.out; have := Gx1.out; have := Gx2.out; have := Gq1.out; have := Gq2.out; have hy := Kg.out _ e; omega))
  have rx023 := Bx023.out.cell
  have bx023 := Bx023.out.lt
  have Bgbox23 := Lib.hid (blk_grown Bgbox22.out hg (fun e => by have := M1.out; have := M2.out; have := M3.out; have := M4.out; have := M5.out; have := M6.out; have := M7.out; have := M8.out; have := M9.out; have := M10.out; have := M11.out; have := M12.out; have := M13.out; have := M14.out; have := M15.out; have := M16.out; have := M17.out; have := M18.out; have := M19.out; have := M20.out; have := M21.out; have := M22.out; have := Gu0.out; have := Gu1.out; have := Gu2.out; have := Gx0.out; have := Gx1.out; have := Gx2.out; have := Gq1.out; have := Gq2.out; have hy := Kg.out _ e; omega))
  have rgbox23 := Bgbox23.out.cell
  have bgbox23 := Bgbox23.out.lt
  have Sw23 := Lib.hid (strs_grown Sw22.out hg (fun b o eA e => by have := M1.out; have := M2.out; have := M3.out; have := M4.out; have := M5.out; have := M6.out; have := M7.out; have := M8.out; have := M9.out; have := M10.out; have := M11.out; have := M12.out; have := M13.out; have := M14.out; have := M15.out; have := M16.out; have := M17.out; have := M18.out; have := M19.out; have := M20.out; have := M21.out; have := M22.out; have := Gu0.out; have := Gu1.out; have := Gu2.out; have := Gx0.out; have := Gx1.out; have := Gx2.out; have := Gq1.out; have := Gq2.out; have hy := Kg.out _ e; have hx := Kw.out b (by rw [eA]; rfl); omega))
  have Ow23 := Lib.hid (Own.kept Ow22.out hg (fun k hk e => by have := M1.out; have := M2.out; have := M3.out; have := M4.out; have := M5.out; have := M6.out; have := M7.out; have := M8.out; have := M9.out; have := M10.out; have := M11.out; have := M12.out; have := M13.out; have := M14.out; have := M15.out; have := M16.out; have := M17.out; have := M18.out; have := M19.out; have := M20.out; have := M21.out; have := M22.out; have := Gu0.out; have := Gu1.out; have := Gu2.out; have := Gx0.out; have := Gx1.out; have := Gx2.out; have := Gq1.out; have := Gq2.out; have hy := Kg.out _ e; have hx := Kw.out k hk; omega))
  have Sg23 := Lib.hid (Own.marks_strs ho (by omega))
  clear ho hg E22 Bp022 rp022 bp022 Bwbox22 rwbox22 bwbox22 Bx022 rx022 bx022 Bgbox22 rgbox22 bgbox22 Sw22 Sg22 Ow22 Og22
  go_wp2_with fail
  refine (own.held_out _ _ _ _ _ _ _ _ _ 1 1 _ (Sg23.out) rfl hpb (by omega) (by omega)).mono ?_
  rintro _ w24 ⟨rfl, hb⟩
  have E24 := Lib.hid (below_then E23.out hb (Nat.le_refl _))
  have M24 : Hid (w23.heap.size ≤ w24.heap.size) := (by (have hx := hb.size; (try simp at hx); show _ ≤ _; omega))
  have Bp024 := Lib.hid ((Bp023.out).step hb)
  have rp024 := Bp024.out.cell
  have bp024 := Bp024.out.lt
  have Bwbox24 := Lib.hid ((Bwbox23.out).step hb)
  have rwbox24 := Bwbox24.out.cell
  have bwbox24 := Bwbox24.out.lt
  have Bx024 := Lib.hid ((Bx023.out).step hb)
  have rx024 := Bx024.out.cell
  have bx024 := Bx024.out.lt
  have Bgbox24 := Lib.hid ((Bgbox23.out).step hb)
  have rgbox24 := Bgbox24.out.cell
  have bgbox24 := Bgbox24.out.lt
  have Sw24 := Lib.hid ((Sw23.out).below hb)
  have Sg24 := Lib.hid ((Sg23.out).below hb)
  have Ow24 := Lib.hid ((Ow23.out).step hb)
  clear hb Bp023 rp023 bp023 Bwbox23 rwbox23 bwbox23 Bx023 rx023 bx023 Bgbox23 rgbox23 bgbox23 Sw23 Sg23 E23 Ow23
  go_wp2_with fail
  refine (adl.toAddr_any A0 c0 D0 _ (HS0.out.below E24.out) hp0).mono ?_
  rintro _ w25 ⟨gv0, rfl, hg, hrow, hb⟩
  have E25 := Lib.hid (below_then E24.out hb (Nat.le_refl _))
  have M25 : Hid (w24.heap.size ≤ w25.heap.size) := (by (have hx := hb.size; (try simp at hx); show _ ≤ _; omega))
  have Bp025 := Lib.hid ((Bp024.out).step hb)
  have rp025 := Bp025.out.cell
  have bp025 := Bp025.out.lt
  have Bwbox25 := Lib.hid ((Bwbox24.out).step hb)
  have rwbox25 := Bwbox25.out.cell
  have bwbox25 := Bwbox25.out.lt
  have Bx025 := Lib.hid ((Bx024.out).step hb)
  have rx025 := Bx025.out.cell
  have bx025 := Bx025.out.lt
  have Bgbox25 := Lib.hid ((Bgbox24.out).step hb)
  have rgbox25 := Bgbox25.out.cell
  have bgbox25 := Bgbox25.out.lt
  have Sw25 := Lib.hid ((Sw24.out).below hb)
  have Sg25 := Lib.hid ((Sg24.out).below hb)
  have Ow25 := Lib.hid ((Ow24.out).step hb)
  have Sv025 := Lib.hid (hrow.strs HS0.out.sizes)
  have Rv025 := Lib.hid (hrow)
  clear hb Bp024 rp024 bp024 Bwbox24 rwbox24 bwbox24 Bx024 rx024 bx024 Bgbox24 rgbox24 bgbox24 Sw24 Sg24 E24 Ow24
  have Gv0 : Hid (w24.heap.size ≤ gv0 ∧ gv0 < w25.heap.size) := by (have hx := hrow.lt; (try simp at hg); show _ ∧ _; omega)
  clear hg hrow
  go_wp2_with fail
  refine (toStringS_any A1 c1 l1 _ (HS1.out.below E25.out) hp1).mono ?_
  rintro _ w26 ⟨gv1, rfl, hg, hrow, hb⟩
  have E26 := Lib.hid (below_then E25.out hb (Nat.le_refl _))
  have M26 : Hid (w25.heap.size ≤ w26.heap.size) := (by (have hx := hb.size; (try simp at hx); show _ ≤ _; omega))
  have Bp026 := Lib.hid ((Bp025.out).step hb)
  have rp026 := Bp026.out.cell
  have bp026 := Bp026.out.lt
  have Bwbox26 := Lib.hid ((Bwbox25.out).step hb)
  have rwbox26 := Bwbox26.out.cell
  have bwbox26 := Bwbox26.out.lt
  have Bx026 := Lib.hid ((Bx025.out).step hb)
  have rx026 := Bx026.out.cell
  have bx026 := Bx026.out.lt
  have Bgbox26 := Lib.hid ((Bgbox25.out).step hb)
  have rgbox26 := Bgbox26.out.cell
  have bgbox26 := Bgbox26.out.lt
  have Sw26 := Lib.hid ((Sw25.out).below hb)
  have Sg26 := Lib.hid ((Sg25.out).below hb)
  have Sv026 := Lib.hid ((Sv025.out).below hb)
  have Rv026 := Lib.hid ((Rv025.out).step hb)
  have Ow26 := Lib.hid ((Ow25.out).step hb)
  have Sv126 := Lib.hid (hrow.strs HS1.out.sizes)
  have Rv126 := Lib.hid (hrow)
  clear hb Bp025 rp025 bp025 Bwbox25 rwbox25 bwbox25 Bx025 rx025 bx025 Bgbox25 rgbox25 bgbox25 Sw25 Sg25 Sv025 Rv025 E25 Ow25
  have Gv1 : Hid (w25.heap.size ≤ gv1 ∧ gv1 < w26.heap.size) := by (have hx := hrow.lt; (try simp at hg); show _ ∧ _; omega)
  clear hg hrow
  go_wp2_with fail
  refine (toStringS_any A2 c2 l2 _ (HS2.out.below E26.out) hp2).mono ?_
  rintro _ w27 ⟨gv2, rfl, hg, hrow, hb⟩
  have E27 := Lib.hid (below_then E26.out hb (Nat.le_refl _))
  have M27 : Hid (w26.heap.size ≤ w27.heap.size) := (by (have hx := hb.size; (try simp at hx); show _ ≤ _; omega))
  have Bp027 := Lib.hid ((Bp026.out).step hb)
  have rp027 := Bp027.out.cell
  have bp027 := Bp027.out.lt
  have Bwbox27 := Lib.hid ((Bwbox26.out).step hb)
  have rwbox27 := Bwbox27.out.cell
  have bwbox27 := Bwbox27.out.lt
  have Bx027 := Lib.hid ((Bx026.out).step hb)
  have rx027 := Bx027.out.cell
  have bx027 := Bx027.out.lt
  have Bgbox27 := Lib.hid ((Bgbox26.out).step hb)
  have rgbox27 := Bgbox27.out.cell
  have bgbox27 := Bgbox27.out.lt
  have Sw27 := Lib.hid ((Sw26.out).below hb)
  have Sg27 := Lib.hid ((Sg26.out).below hb)
  have Sv027 := Lib.hid ((Sv026.out).below hb)
  have Sv127 := Lib.hid ((Sv126.out).below hb)
  have Rv027 := Lib.hid ((Rv026.out).step hb)
  have Rv127 := Lib.hid ((Rv126.out).step hb)
  have Ow27 := Lib.hid ((Ow26.out).step hb)
  have Sv227 := Lib.hid (hrow.strs HS2.out.sizes)
  have Rv227 := Lib.hid (hrow)
  clear hb Bp026 rp026 bp026 Bwbox26 rwbox26 bwbox26 Bx026 rx026 bx026 Bgbox26 rgbox26 bgbox26 Sw26 Sg26 Sv026 Sv126 Rv026 Rv126 E26 Ow26
  have Gv2 : Hid (w26.heap.size ≤ gv2 ∧ gv2 < w27.heap.size) := by (have hx := hrow.lt; (try simp at hg); show _ ∧ _; omega)
  clear hg hrow
  go_wp2_with fail
  refine (reh.reh_impl _ _ _ _ _ _ D0 l1 l2 _ (Sv027.out) (Sv127.out) (Sv227.out) HL0.out HL1.out HL2.out ht0 hn0 hk0 (Nat.le_refl _) HL0.out (.inl ⟨_, _, rfl⟩)).mono ?_
  rintro _ w28 ⟨Ah, ch, rfl, ho, hb⟩
  have E28 := Lib.hid (below_then E27.out hb (Nat.le_refl _))
  have M28 : Hid (w27.heap.size ≤ w28.heap.size) := (by (have hx := hb.size; (try simp at hx); show _ ≤ _; omega))
  have Bp028 := Lib.hid ((Bp027.out).step hb)
  have rp028 := Bp028.out.cell
  have bp028 := Bp028.out.lt
  have Bwbox28 := Lib.hid ((Bwbox27.out).step hb)
  have rwbox28 := Bwbox28.out.cell
  have bwbox28 := Bwbox28.out.lt
  have Bx028 := Lib.hid ((Bx027.out).step hb)
  have rx028 := Bx028.out.cell
  have bx028 := Bx028.out.lt
  have Bgbox28 := Lib.hid ((Bgbox27.out).step hb)
  have rgbox28 := Bgbox28.out.cell
  have bgbox28 := Bgbox28.out.lt
  have Sw28 := Lib.hid ((Sw27.out).below hb)
  have Sg28 := Lib.hid ((Sg27.out).below hb)
  have Sv028 := Lib.hid ((Sv027.out).below hb)
  have Sv128 := Lib.hid ((Sv127.out).below hb)
  have Sv228 := Lib.hid ((Sv227.out).below hb)
  have Rv028 := Lib.hid ((Rv027.out).step hb)
  have Rv128 := Lib.hid ((Rv127.out).step hb)
  have Rv228 := Lib.hid ((Rv227.out).step hb)
  have Ow28 := Lib.hid ((Ow27.out).step hb)
  clear hb Bp027 rp027 bp027 Bwbox27 rwbox27 bwbox27 Bx027 rx027 bx027 Bgbox27 rgbox27 bgbox27 Sw27 Sg27 Sv027 Sv127 Sv227 Rv027 Rv127 Rv227 E27 Ow27
  have Oh28 := Lib.hid ho
  have Kh : Hid (∀ k, (Value.slice Ah (reh.dataR D0 l1 l2).path.length ch).ownBlock = some k → w27.heap.size ≤ k ∧ k < w28.heap.size) := by (intro k hk; have hx := ho.row k hk; (try simp at hx); omega)
  have Sh28 := Lib.hid (Own.strs ho (own.reh_sizes HS0.out.sizes HS2.out.sizes))
  clear ho
  clear Sv028
  clear Rv028
  clear Sv128
  clear Rv128
  clear Sv228
  clear Rv228
  go_wp2_with fail
  refine (own.eq_out _ _ _ _ (reh.dataR D0 l1 l2) (reh.codeR D0 l1 l2) _ (Sh28.out.alloc _) (Sw28.out.alloc _) hpb).mono ?_
  rintro _ w29 ⟨rfl, hb⟩
  have E29 := Lib.hid (below_then (below_da E28.out (Nat.le_refl _) _) hb (Nat.le_refl _))
  have M29 : Hid (w28.heap.size + 1 ≤ w29.heap.size) := (by (have hx := hb.size; (try simp at hx); show _ ≤ _; omega))
  have Bp029 := Lib.hid ((Bp028.out.alloc _).step hb)
  have rp029 := Bp029.out.cell
  have bp029 := Bp029.out.lt
  have Bwbox29 := Lib.hid ((Bwbox28.out.alloc _).step hb)
  have rwbox29 := Bwbox29.out.cell
  have bwbox29 := Bwbox29.out.lt
  have Bx029 := Lib.hid ((Bx028.out.alloc _).step hb)
  have rx029 := Bx029.out.cell
  have bx029 := Bx029.out.lt
  have Bgbox29 := Lib.hid ((Bgbox28.out.alloc _).step hb)
  have rgbox29 := Bgbox29.out.cell
  have bgbox29 := Bgbox29.out.lt
  have Bhbox29 := Lib.hid ((Blk.new w28 _ _).step hb)
  have rhbox29 := Bhbox29.out.cell
  have bhbox29 := Bhbox29.out.lt
  have Sw29 := Lib.hid ((Sw28.out.alloc _).below hb)
  have Sg29 := Lib.hid ((Sg28.out.alloc _).below hb)
  have Sh29 := Lib.hid ((Sh28.out.alloc _).below hb)
  have Ow29 := Lib.hid ((Ow28.out.alloc _).step hb)
  have Oh29 := Lib.hid ((Oh28.out.alloc _).step hb)
  clear hb Bp028 rp028 bp028 Bwbox28 rwbox28 bwbox28 Bx028 rx028 bx028 Bgbox28 rgbox28 bgbox28 Sw28 Sg28 Sh28 E28 Ow28 Oh28
  go_wp2_with fail
  refine (own.held_out _ _ _ _ _ _ _ _ _ 1 1 _ (Sg29.out) rfl hpb (by omega) (by omega)).mono ?_
  rintro _ w30 ⟨rfl, hb⟩
  have E30 := Lib.hid (below_then E29.out hb (Nat.le_refl _))
  have M30 : Hid (w29.heap.size ≤ w30.heap.size) := (by (have hx := hb.size; (try simp at hx); show _ ≤ _; omega))
  have Bp030 := Lib.hid ((Bp029.out).step hb)
  have rp030 := Bp030.out.cell
  have bp030 := Bp030.out.lt
  have Bwbox30 := Lib.hid ((Bwbox29.out).step hb)
  have rwbox30 := Bwbox30.out.cell
  have bwbox30 := Bwbox30.out.lt
  have Bx030 := Lib.hid ((Bx029.out).step hb)
  have rx030 := Bx030.out.cell
  have bx030 := Bx030.out.lt
  have Bgbox30 := Lib.hid ((Bgbox29.out).step hb)
  have rgbox30 := Bgbox30.out.cell
  have bgbox30 := Bgbox30.out.lt
  have Bhbox30 := Lib.hid ((Bhbox29.out).step hb)
  have rhbox30 := Bhbox30.out.cell
  have bhbox30 := Bhbox30.out.lt
  have Sw30 := Lib.hid ((Sw29.out).below hb)
  have Sg30 := Lib.hid ((Sg29.out).below hb)
  have Sh30 := Lib.hid ((Sh29.out).below hb)
  have Ow30 := Lib.hid ((Ow29.out).step hb)
  have Oh30 := Lib.hid ((Oh29.out).step hb)
  clear hb Bp029 rp029 bp029 Bwbox29 rwbox29 bwbox29 Bx029 rx029 bx029 Bgbox29 rgbox29 bgbox29 Bhbox29 rhbox29 bhbox29 Sw29 Sg29 Sh29 E29 Ow29 Oh29
  go_wp2
  go_ret
  exact ⟨rfl, E30.out⟩

set_option maxRecDepth 100000 in
theorem lifted (os : Os) (started : os.Started) (H : Type) (enc : TypeId × Value → H) :
    ReturnsInHanded {} Try.checked os 10 .any (Rows.fnExactRehomeSpec.pre6 enc Try.prog Try.f10 Rows.fnExactRehomeRow.domain false) (Rows.fnExactRehomeSpec.post enc Try.prog Try.f10 false true false false) := by
  refine returnsInHanded_of_change (C := Try.checked) own started (by kernel_rfl) Try.func10
    (ChangeSpec.witness6 (enc := enc) (C := Try.checked) false ⟨#[], #[.agg #[.slice none 0 0, .string ByteArray.empty, .string ByteArray.empty, .int .i64 0, .int .i64 0, .string ByteArray.empty], .slice none 0 0, .slice none 0 0], []⟩ 8 (by kernel_rfl) (by kernel_rfl) (by kernel_rfl) (by kernel_rfl)) ?_
  intro W base args ds gs before hval0 hW hcnd _
  have hval : ∀ (j : Nat) t v, Try.f10.params[j]? = some t → args[j]? = some v → Value.okWide Try.prog W .any base t v := hval0
  have hW' := hW
  obtain ⟨p, q, hA0, hV, rfl, hfz, hnd⟩ := hW
  have hA : DataW.TrodAll enc Try.prog W 0 (fun _ => true) true Try.f10.params.toList args.toList ds p := hA0
  rw [Try.params10] at hA hval
  obtain ⟨v0, vs0, d0, ds0, p0, q0, hargs, rfl, rfl, h0, r0⟩ := trodAll_cons hA
  obtain ⟨v1, vs1, d1, ds1, p1, q1, rfl, rfl, rfl, h1, r1⟩ := trodAll_cons r0
  obtain ⟨v2, vs2, d2, ds2, p2, q2, rfl, rfl, rfl, h2, r2⟩ := trodAll_cons r1
  obtain ⟨rfl, rfl, rfl⟩ := trodAll_nil r2
  obtain rfl : args = #[v0, v1, v2] := by cases args; simp_all
  obtain ⟨rfl, rfl⟩ := trodVars_none hV
  have k0 := h0
  have lt0 : ∀ x ∈ p0, x.block < W.heap.size := by obtain ⟨m, hm⟩ := k0; exact DataW.trod_lt m _ _ _ hm
  obtain ⟨A0, c0, D0, rfl, w0⟩ := opn.open_addr (hval 0 25 v0 rfl rfl) h0
  have k1 := h1
  have lt1 : ∀ x ∈ p1, x.block < W.heap.size := by obtain ⟨m, hm⟩ := k1; exact DataW.trod_lt m _ _ _ hm
  obtain ⟨A1, c1, l1, rfl, w1, z1⟩ := opn.open_words (hval 1 23 v1 rfl rfl) h1
  have k2 := h2
  have lt2 : ∀ x ∈ p2, x.block < W.heap.size := by obtain ⟨m, hm⟩ := k2; exact DataW.trod_lt m _ _ _ hm
  obtain ⟨A2, c2, l2, rfl, w2, z2⟩ := opn.open_words (hval 2 23 v2 rfl rfl) h2
  clear hA0 hval0
  refine (walk A0 c0 D0 A1 c1 l1 A2 c2 l2 W w0 w1 z1 w2 z2).mono fun e W' ⟨he, bel⟩ => ?_
  subst he
  exact ⟨_, rfl, _, _, _, [], _, [], hW', trodAll_mk1 (shut_bool Try.underlying4 _), (trodAll_cons_mk (Below.trod laidOut (by kernel_rfl) (of_decide_eq_true (by kernel_rfl)) k0 bel lt0) (trodAll_cons_mk (Below.trod laidOut (by kernel_rfl) (of_decide_eq_true (by kernel_rfl)) k1 bel lt1) (trodAll_cons_mk (Below.trod laidOut (by kernel_rfl) (of_decide_eq_true (by kernel_rfl)) k2 bel lt2) trodAll_mk0))), rfl, bel.frame _, fun h => by cases h⟩

theorem over : Rows.fnExactRehomeRow.holds Try.pinned (OpenSpec.ofChange Rows.fnExactRehomeSpec) :=
  OpenClaim.holds_of_wide 10 Try.f10 rfl rfl rfl rfl rfl rfl rfl ⟨rfl, rfl, rfl, rfl, rfl⟩ rfl rfl rfl rfl rfl (by kernel_rfl) Try.func10 (by kernel_rfl)
    (of_decide_eq_true (by kernel_rfl)) (by unfold Func.isWrapper; first | (rw [if_pos (by decide +kernel)]; kernel_rfl) | (rw [if_neg (by decide +kernel)]; exact ⟨rfl, rfl⟩))
    (fun os started H enc _ => lifted os started H enc)

/-- the statement -/
theorem proved : Rows.FnExactRehomeSaid := over
end Go.Proofs.Ytfbepcfaeeoneaa.fnExactRehome
