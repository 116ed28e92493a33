/- ConfigRight of the model. -/
import Derived.Test.YtfiknlmcoifhlaaGreatCrI
namespace Go.Proofs.YtfiknlmcoifhlaaGreat.cf
open ad mem vl ex un cm
open Go.ChangeShapes Go.WideShapes Go.ChangeAt Go.RowKit Go.Lib
set_option linter.unusedVariables false
set_option maxRecDepth 8000
set_option linter.unusedSimpArgs false

set_option maxHeartbeats 8000000 in
theorem config_spec {B : Nat → Prop} {n : Nat} {w : World} {ds : List DC} {vs : List Value} {r : Bool} (hr : configB n ds = r) (h : Cells B n w shConfig_ ds vs) :
    Calls Tryz.prog 5 #[.agg vs.toArray] w (un.Told w (.bool r)) := by
  subst hr
  obtain ⟨l0, l1, A0, c0, A1, c1, rfl, rfl, k0, k1⟩ := open_Config h
  have hlen0 := k0.len.2
  unfold maxLen at hlen0
  have hlen1 := k1.len.2
  unfold maxLen at hlen1
  have H0 := Lib.hid (Gd.of1 k0)
  have H1 := Lib.hid (Gd.of1 k1)
  clear h k0 k1
  rw [configB_eq]
  go_enter Tryz.func5, Tryz.ntmps5
  by_cases h0 : 12 < l0.length
  · go_wp2
    all_goals go_ret
    all_goals exact ⟨ret_bool (by simp; omega), below_a1 _ _⟩
  by_cases h1 : 12 < l1.length
  · go_wp2
    all_goals go_ret
    all_goals exact ⟨ret_bool (by simp; omega), below_a1 _ _⟩
  have h0' : l0.length ≤ 12 := by omega
  have h1' : l1.length ≤ 12 := by omega
  clear h0 h1
  go_wp2
  have hd0 : decide ((12 : Int) < (l0.length : Int)) = false := by simp; omega
  have hd1 : decide ((12 : Int) < (l1.length : Int)) = false := by simp; omega
  try rw [hd0]
  try rw [hd1]
  try rw [Bool.false_or]
  clear hd0 hd1
  go_loopw [3] (fun i wr => ∃ j : Nat, j ≤ l0.length ∧ i = .int .i64 j ∧ (∀ q (h : q < l0.length), q < j → blockB (bB (n - 1) l0[q]) = true) ∧ (∀ q (h : q + 1 < l0.length), q + 1 < j → aheadA (bA l0[q]) (bA l0[q + 1])) ∧ Blk wr w.heap.size 31 #[.slice A0 l0.length c0, .slice A1 l1.length c1] ∧ Below w.heap.size w wr) (fun i _ => l0.length - (RowKit.intOf i).toNat)
  case atStart => exact ⟨0, Nat.zero_le _, rfl, fun q _ hq => absurd hq (by omega), fun q _ hq => absurd hq (by omega), Blk.new w _ _, below_a1 _ _⟩
  case round =>
    obtain ⟨j, hj, rfl, hok, hri, hB, hb⟩ := hrel
    have HOK := Lib.hid hok
    have HRI := Lib.hid hri
    have E1 := Lib.hid hb
    have b1 := hB.cell
    have B1 := Lib.hid hB
    clear hok hb hB hri
    by_cases hlt : j < l0.length
    · obtain ⟨m', b, o, us, hm, rfl, _, hbl, hr, hin⟩ := (H0.out.below E1.out).now.item j hlt
      obtain rfl : m' = n - 1 := by omega
      have HI := Lib.hid (Gd.ofC hin)
      obtain ⟨lq0, sq1, sq2, xq3, xq4, sq5, xq6, lq7, lq8, Aq0, cq0, Aq7, cq7, Aq8, cq8, ed, rfl, kq0, kq1, kq2, kq3, kq4, kq5, -⟩ := open_Block hin
      have HA := Lib.hid (Gd.ofC (show Cells B (n - 1) wr shAddr_ [.l lq0, .s sq1, .s sq2, .i xq3, .i xq4, .s sq5] [.slice Aq0 lq0.length cq0, .string sq1, .string sq2, .int .i64 xq3, .int .i64 xq4, .string sq5] from ⟨kq0, Cell.mkS kq1, Cell.mkS kq2, Cell.mkI kq3, Cell.mkI kq4, Cell.mkS kq5, trivial⟩))
      have eA : bA l0[j] = bA [.l lq0, .s sq1, .s sq2, .i xq3, .i xq4, .s sq5] := by rw [ed]; rfl
      have HEA := Lib.hid eA
      have HR := Lib.hid (show wr.rangeAt b (o + j * 9) _ from hr)
      clear hr hin ed kq0 kq1 kq2 kq3 kq4 kq5 eA
      have hjI : (j : Int) < l0.length := by omega
      have KB := fun (r : Bool) (hb1 : blockB (bB (n - 1) l0[j]) = r) (W' : World) (h : Below wr.heap.size wr W') => block_spec rfl hb1 (HI.out.below h).now
      have q0 := later_cell (b := b) (o := o + j * 9) hbl (by simpa using HR.out 0 _ rfl)
      have q1 := later_cell (b := b) (o := o + j * 9 + 1) hbl (by simpa using HR.out 1 _ rfl)
      have q2 := later_cell (b := b) (o := o + j * 9 + 2) hbl (by simpa using HR.out 2 _ rfl)
      have q3 := later_cell (b := b) (o := o + j * 9 + 3) hbl (by simpa using HR.out 3 _ rfl)
      have q4 := later_cell (b := b) (o := o + j * 9 + 4) hbl (by simpa using HR.out 4 _ rfl)
      have q5 := later_cell (b := b) (o := o + j * 9 + 5) hbl (by simpa using HR.out 5 _ rfl)
      have q6 := later_cell (b := b) (o := o + j * 9 + 6) hbl (by simpa using HR.out 6 _ rfl)
      have q7 := later_cell (b := b) (o := o + j * 9 + 7) hbl (by simpa using HR.out 7 _ rfl)
      have q8 := later_cell (b := b) (o := o + j * 9 + 8) hbl (by simpa using HR.out 8 _ rfl)
      have qb := later_cell (b := w.heap.size) (o := 0) B1.out.lt (by rw [b1]; rfl)
      cases hb1 : blockB (bB (n - 1) l0[j])
      · replace KB := KB _ hb1
        go_wp2_with fail
        refine wp_region_later (by kernel_rfl) (by kernel_rfl) ?_
        repeat (go_big_quiet_step ((go_at_call 11; exact later_call (KB _ (later_below _)))))
        refine wpQuiet_nil ?_
        rintro _ ⟨u9, rfl⟩
        have E2 := Lib.hid (below_then E1.out (later_below u9) (Nat.le_refl _))
        have B2 := Lib.hid (B1.out.step (later_below u9))
        generalize later wr u9 = w9 at E2 B2 ⊢
        have b2 := B2.out.cell
        clear q0 q1 q2 q3 q4 q5 q6 q7 q8 qb KB b1 B1
        go_wp2
        go_ret
        exact ⟨ret_bool (by simp [allB_no (n := n) (xs := l0) j hlt hb1]), E2.out⟩
      replace KB := KB _ hb1
      by_cases hz : j = 0
      · have hjn : ¬ 0 < j := by omega
        have hjd : decide (0 < (j : Int)) = false := by simp; omega
        have HNX : Hid (∀ q (h : q + 1 < l0.length), q + 1 < j + 1 → aheadA (bA l0[q]) (bA l0[q + 1])) := fun q h hq => absurd hq (by omega)
        have HZ := Lib.hid hz
        clear hz
        go_wp2_with fail
        refine wp_region_later (by kernel_rfl) (by kernel_rfl) ?_
        repeat (go_big_quiet_step ((go_at_call 11; exact later_call (KB _ (later_below _)))))
        refine wpQuiet_nil ?_
        rintro _ ⟨u9, rfl⟩
        have E2 := Lib.hid (below_then E1.out (later_below u9) (Nat.le_refl _))
        have B2 := Lib.hid (B1.out.step (later_below u9))
        generalize later wr u9 = w9 at E2 B2 ⊢
        have b2 := B2.out.cell
        clear q0 q1 q2 q3 q4 q5 q6 q7 q8 qb KB b1 B1
        go_wp2
        go_roundw
        case rel => exact ⟨j + 1, by omega, by go_num, fun q h hq => by
          by_cases e : q = j
          · subst e; exact hb1
          · exact HOK.out q h (by omega), HNX.out, B2.out, E2.out⟩
        case measure => simp [RowKit.intOf]; omega
      obtain ⟨i, hij⟩ : ∃ i, i + 1 = j := ⟨j - 1, by omega⟩
      have hi : i < l0.length := by omega
      have hiI : (i : Int) < l0.length := by omega
      obtain ⟨m'', b', o', us', hm', e', _, hbl', hr', hin'⟩ := (H0.out.below E1.out).now.item i hi
      injection e' with e'; injection e' with e1 e2 _
      subst e1 e2
      obtain rfl : m'' = n - 1 := by omega
      obtain ⟨lr0, sr1, sr2, xr3, xr4, sr5, xr6, lr7, lr8, Ar0, cr0, Ar7, cr7, Ar8, cr8, ed', rfl, kr0, kr1, kr2, kr3, kr4, kr5, -⟩ := open_Block hin'
      have HA' := Lib.hid (Gd.ofC (show Cells B (n - 1) wr shAddr_ [.l lr0, .s sr1, .s sr2, .i xr3, .i xr4, .s sr5] [.slice Ar0 lr0.length cr0, .string sr1, .string sr2, .int .i64 xr3, .int .i64 xr4, .string sr5] from ⟨kr0, Cell.mkS kr1, Cell.mkS kr2, Cell.mkI kr3, Cell.mkI kr4, Cell.mkS kr5, trivial⟩))
      have eA' : bA l0[i] = bA [.l lr0, .s sr1, .s sr2, .i xr3, .i xr4, .s sr5] := by rw [ed']; rfl
      have HEA' := Lib.hid eA'
      have HR' := Lib.hid (show wr.rangeAt b (o + i * 9) _ from hr')
      clear hr' hin' ed' kr0 kr1 kr2 kr3 kr4 kr5 eA' hm'
      have ei : (j : Int) - 1 = i := by omega
      have ew : IntKind.i64.wrap ((j : Int) - 1) = i := by rw [IntWalk.i64_left, IntWalk.wrap64_in _ (by omega)]; exact ei
      have hi0 : (0 : Int) ≤ (i : Int) := by omega
      have hjn : 0 < j := by omega
      have hjd : decide (0 < (j : Int)) = true := by simp; omega
      have p0 := later_cell (b := b) (o := o + i * 9) hbl (by simpa using HR'.out 0 _ rfl)
      have p1 := later_cell (b := b) (o := o + i * 9 + 1) hbl (by simpa using HR'.out 1 _ rfl)
      have p2 := later_cell (b := b) (o := o + i * 9 + 2) hbl (by simpa using HR'.out 2 _ rfl)
      have p3 := later_cell (b := b) (o := o + i * 9 + 3) hbl (by simpa using HR'.out 3 _ rfl)
      have p4 := later_cell (b := b) (o := o + i * 9 + 4) hbl (by simpa using HR'.out 4 _ rfl)
      have p5 := later_cell (b := b) (o := o + i * 9 + 5) hbl (by simpa using HR'.out 5 _ rfl)
      have KL := fun (r : Bool) (hl : (@decide (aheadA (bA [.l lr0, .s sr1, .s sr2, .i xr3, .i xr4, .s sr5]) (bA [.l lq0, .s sq1, .s sq2, .i xq3, .i xq4, .s sq5])) (Classical.propDecidable _)) = r) (W' : World) (h : Below wr.heap.size wr W') => (show Calls _ _ _ _ _ from hl ▸ cf.less_spec (HA'.out.below h).now (HA.out.below h).now)
      by_cases hl : aheadA (bA [.l lr0, .s sr1, .s sr2, .i xr3, .i xr4, .s sr5]) (bA [.l lq0, .s sq1, .s sq2, .i xq3, .i xq4, .s sq5])
      · replace KL := KL true (by simp [hl])
        have HNX : Hid (∀ q (h : q + 1 < l0.length), q + 1 < j + 1 → aheadA (bA l0[q]) (bA l0[q + 1])) := fun q h hq => by
          by_cases e : q = i
          · subst e; subst hij; rw [HEA.out, HEA'.out]; exact hl
          · exact HRI.out q h (by omega)
        go_wp2_with fail
        refine wp_region_later (by kernel_rfl) (by kernel_rfl) ?_
        repeat (go_big_quiet_step ((first | (go_at_call 11; exact later_call (KB _ (later_below _))) | (go_at_call 12; exact later_call (KL _ (later_below _))))))
        refine wpQuiet_nil ?_
        rintro _ ⟨u9, rfl⟩
        have E2 := Lib.hid (below_then E1.out (later_below u9) (Nat.le_refl _))
        have B2 := Lib.hid (B1.out.step (later_below u9))
        generalize later wr u9 = w9 at E2 B2 ⊢
        have b2 := B2.out.cell
        clear q0 q1 q2 q3 q4 q5 q6 q7 q8 qb p0 p1 p2 p3 p4 p5 KB KL b1 B1
        go_wp2
        go_roundw
        case rel => exact ⟨j + 1, by omega, by go_num, fun q h hq => by
          by_cases e : q = j
          · subst e; exact hb1
          · exact HOK.out q h (by omega), HNX.out, B2.out, E2.out⟩
        case measure => simp [RowKit.intOf]; omega
      · replace KL := KL false (by simp [hl])
        go_wp2_with fail
        refine wp_region_later (by kernel_rfl) (by kernel_rfl) ?_
        repeat (go_big_quiet_step ((first | (go_at_call 11; exact later_call (KB _ (later_below _))) | (go_at_call 12; exact later_call (KL _ (later_below _))))))
        refine wpQuiet_nil ?_
        rintro _ ⟨u9, rfl⟩
        have E2 := Lib.hid (below_then E1.out (later_below u9) (Nat.le_refl _))
        have B2 := Lib.hid (B1.out.step (later_below u9))
        generalize later wr u9 = w9 at E2 B2 ⊢
        have b2 := B2.out.cell
        clear q0 q1 q2 q3 q4 q5 q6 q7 q8 qb p0 p1 p2 p3 p4 p5 KB KL b1 B1
        go_wp2
        go_ret
        exact ⟨ret_bool (by simp [riseBl_no (n := n) (xs := l0) i (by omega) (fun hh => hl (by subst hij; rw [HEA.out, HEA'.out] at hh; exact hh))]), E2.out⟩
    · have HB0 : Hid (allB n l0 = true) := allB_iff.2 (fun q h => HOK.out q h (by omega))
      have HR0 : Hid (riseBl n l0 = true) := riseBl_iff.2 (fun q h => HRI.out q h (by omega))
      clear HOK HRI
      go_wp2
      go_loopw [4] (fun i wr => ∃ j : Nat, j ≤ l1.length ∧ i = .int .i64 j ∧ (∀ q (h : q < l1.length), q < j → moveB (bM l1[q]) = true) ∧ Blk wr w.heap.size 31 #[.slice A0 l0.length c0, .slice A1 l1.length c1] ∧ Below w.heap.size w wr) (fun i _ => l1.length - (RowKit.intOf i).toNat)
      case atStart => exact ⟨0, Nat.zero_le _, rfl, fun q _ hq => absurd hq (by omega), B1.out, E1.out⟩
      case round =>
        clear b1 B1 E1
        obtain ⟨k, hk, rfl, hok, hB, hb⟩ := hrel
        have HOK := Lib.hid hok
        have E1 := Lib.hid hb
        have b1 := hB.cell
        have B1 := Lib.hid hB
        clear hok hb hB
        by_cases hlt2 : k < l1.length
        · obtain ⟨m', b, o, us, hm, rfl, _, hbl, hr, hin⟩ := (H1.out.below E1.out).now.item k hlt2
          have HI := Lib.hid (Gd.ofC hin)
          obtain ⟨xv0, lv1, sv2, sv3, xv4, xv5, sv6, lv7, sv8, sv9, xv10, xv11, sv12, Av1, cv1, Av7, cv7, ed, rfl, -⟩ := open_Move hin
          have HR := Lib.hid (show wr.rangeAt b (o + k * 13) _ from hr)
          clear hr hin ed
          cases hf : moveB (bM l1[k])
          all_goals
            go_wp2_with (refine wpList_load_mid rfl 47 (.tmp 60) rfl b (o + k * 13) rfl _ _ HR.out Tryz.underlying47 rfl (by kernel_rfl) ?_)
            go_wp2_with fail
            refine (moveR_spec hf HI.out.now).mono ?_
            rintro _ w2 ⟨rfl, hb⟩
            have E2 := Lib.hid (below_then E1.out hb (Nat.le_refl _))
            have B2 := Lib.hid (B1.out.step hb)
            have b2 := B2.out.cell
            clear hb b1 B1
            go_wp2
          · go_ret
            exact ⟨ret_bool (by simp [allM_no (n := n) (xs := l1) k hlt2 hf]), E2.out⟩
          · go_roundw
            case rel => exact ⟨k + 1, by omega, by go_num, fun j h hj => by
              by_cases e : j = k
              · subst e; exact hf
              · exact HOK.out j h (by omega), B2.out, E2.out⟩
            case measure => simp [RowKit.intOf]; omega
        · have HM0 : Hid (allM n l1 = true) := allM_iff.2 (fun j h => HOK.out j h (by omega))
          go_wp2
          go_ret
          exact ⟨ret_bool (by simp [HB0.out, HR0.out, HM0.out, h0', h1']), E1.out⟩
end Go.Proofs.YtfiknlmcoifhlaaGreat.cf
