/- BookRight of the model. -/
import Derived.Test.YtnjpddbpnmgcpaaGreatDoorBoI
namespace Go.Proofs.YtnjpddbpnmgcpaaGreatDoor.cf
open ad mem vl ex un cm
open Go.ChangeShapes Go.WideShapes Go.ChangeAt Go.RowKit Go.Lib
set_option linter.unusedVariables false
set_option maxRecDepth 8000
set_option linter.unusedSimpArgs false

set_option maxHeartbeats 8000000 in
theorem book_spec {B : Nat → Prop} {n c : Nat} {w : World} {xs : List (List DC)} {A : Option Addr} {r : Bool} (hr : bookB xs = r) (h : Cell B n w (.l 8) (.l xs) (.slice A xs.length c)) :
    Calls Tryz.prog 16 #[.slice A xs.length c] w (un.Told w (.bool r)) := by
  subst hr
  have hlen := h.len.2
  unfold maxLen at hlen
  have H := Lib.hid (Gd.of1 h)
  clear h
  go_enter Tryz.func16, Tryz.ntmps16
  by_cases hm : 40 < xs.length
  · go_wp2
    go_ret
    exact ⟨ret_bool (bookB_no (fun hh => by have := hh.1; omega)).symm, Below.refl _ _⟩
  have hm4 : xs.length ≤ 40 := by omega
  have hd4 : decide ((40 : Int) < (xs.length : Int)) = false := by (simp; try omega)
  clear hm
  go_wp2
  try rw [hd4]
  clear hd4
  go_loopw [3] (fun i wr => ∃ j : Nat, j ≤ xs.length ∧ i = .int .i64 j ∧ (∀ q (h : q < xs.length), q < j → thB xs[q] = true) ∧ (∀ q (h : q + 1 < xs.length), q + 1 < j → aheadA (bA xs[q]) (bA xs[q + 1])) ∧ Below w.heap.size w wr) (fun i _ => xs.length - (RowKit.intOf i).toNat)
  case atStart => exact ⟨0, Nat.zero_le _, rfl, fun q _ hq => absurd hq (by omega), fun q _ hq => absurd hq (by omega), Below.refl _ _⟩
  case round =>
    obtain ⟨j, hj, rfl, hok, hri, hb⟩ := hrel
    have HOK := Lib.hid hok
    have HRI := Lib.hid hri
    have E1 := Lib.hid hb
    clear hok hb hri
    by_cases hlt : j < xs.length
    · obtain ⟨m', b, o, us, hm, rfl, _, hbl, hr, hin⟩ := (H.out.below E1.out).now.item j hlt
      obtain rfl : m' = n - 1 := by omega
      have HI := Lib.hid (Gd.ofC hin)
      obtain ⟨lq0, sq1, sq2, xq3, xq4, sq5, lq6, lq7, Aq0, cq0, Aq6, cq6, Aq7, cq7, ed, rfl, kq0, kq1, kq2, kq3, kq4, kq5, kq6, kq7⟩ := open_Thing hin
      have HED := Lib.hid ed
      have HAQ := Lib.hid (Gd.ofC (show Cells B (n - 1) wr shAddr_ [.l lq0, .s sq1, .s sq2, .i xq3, .i xq4, .s sq5] [.slice Aq0 lq0.length cq0, .string sq1, .string sq2, .int .i64 xq3, .int .i64 xq4, .string sq5] from ⟨kq0, Cell.mkS kq1, Cell.mkS kq2, Cell.mkI kq3, Cell.mkI kq4, Cell.mkS kq5, trivial⟩))
      have hen : bA xs[j] = bA [.l lq0, .s sq1, .s sq2, .i xq3, .i xq4, .s sq5] := by rw [ed]; rfl
      have HEN := Lib.hid hen
      clear hen kq0 kq1 kq2 kq3 kq4 kq5 kq6 kq7
      have HR := Lib.hid (show wr.rangeAt b (o + j * 8) _ from hr)
      have hjI : (j : Int) < xs.length := by omega
      clear hr hin ed hm
      have q0 := later_cell (b := b) (o := o + j * 8) hbl (by simpa using HR.out 0 _ rfl)
      have q1 := later_cell (b := b) (o := o + j * 8 + 1) hbl (by simpa using HR.out 1 _ rfl)
      have q2 := later_cell (b := b) (o := o + j * 8 + 2) hbl (by simpa using HR.out 2 _ rfl)
      have q3 := later_cell (b := b) (o := o + j * 8 + 3) hbl (by simpa using HR.out 3 _ rfl)
      have q4 := later_cell (b := b) (o := o + j * 8 + 4) hbl (by simpa using HR.out 4 _ rfl)
      have q5 := later_cell (b := b) (o := o + j * 8 + 5) hbl (by simpa using HR.out 5 _ rfl)
      have q6 := later_cell (b := b) (o := o + j * 8 + 6) hbl (by simpa using HR.out 6 _ rfl)
      have q7 := later_cell (b := b) (o := o + j * 8 + 7) hbl (by simpa using HR.out 7 _ rfl)
      have K0 := fun (r : Bool) (hK : thB xs[j] = r) (W' : World) (h : Below wr.heap.size wr W') => thing_spec hK (HI.out.below h).now
      cases hT0 : thB xs[j]
      · replace K0 := K0 _ hT0
        go_wp2_with fail
        refine wp_region_later (by kernel_rfl) (by kernel_rfl) ?_
        repeat (go_big_quiet_step ((first | (go_at_call 36; exact later_call (K0 _ (later_below _))))))
        refine wpQuiet_nil ?_
        rintro _ ⟨u9, rfl⟩
        have E2 := Lib.hid (below_then E1.out (later_below u9) (Nat.le_refl _))
        generalize later wr u9 = w9 at E2 ⊢
        clear q0 q1 q2 q3 q4 q5 q6 q7 K0
        go_wp2
        go_ret
        exact ⟨ret_bool ((bookB_no (fun hh => by have := hh.2.1 j hlt; rw [hT0] at this; cases this)).symm), E2.out⟩
      replace K0 := K0 _ hT0
      by_cases hz : j = 0
      · have HZJ := Lib.hid hz
        have hjn : ¬ 0 < j := by (have := HZJ.out; omega)
        have hjd : decide (0 < (j : Int)) = false := by (have := HZJ.out; simp; omega)
        clear hz
        have HG : Hid (thB xs[j] = true) := hT0
        have HNX : Hid (∀ q (h : q + 1 < xs.length), q + 1 < j + 1 → aheadA (bA xs[q]) (bA xs[q + 1])) := fun q h hq => absurd hq (by have := HZJ.out; omega)
        go_wp2_with fail
        refine wp_region_later (by kernel_rfl) (by kernel_rfl) ?_
        repeat (go_big_quiet_step ((first | (go_at_call 36; exact later_call (K0 _ (later_below _))))))
        refine wpQuiet_nil ?_
        rintro _ ⟨u9, rfl⟩
        have E2 := Lib.hid (below_then E1.out (later_below u9) (Nat.le_refl _))
        generalize later wr u9 = w9 at E2 ⊢
        clear q0 q1 q2 q3 q4 q5 q6 q7 K0
        go_wp2
        go_roundw
        case rel => exact ⟨j + 1, by omega, by go_num, fun q h hq => by
          by_cases e : q = j
          · subst e; exact HG.out
          · exact HOK.out q h (by omega), HNX.out, E2.out⟩
        case measure => simp [RowKit.intOf]; omega
      obtain ⟨i, hij⟩ : ∃ i, i + 1 = j := ⟨j - 1, by omega⟩
      have hi : i < xs.length := by omega
      have hiI : (i : Int) < xs.length := by omega
      obtain ⟨m'', b', o', us', hm', e', _, hbl', hr', hin'⟩ := (H.out.below E1.out).now.item i hi
      injection e' with e'; injection e' with e1 e2 _
      subst e1 e2
      obtain rfl : m'' = n - 1 := by omega
      have HI' := Lib.hid (Gd.ofC hin')
      obtain ⟨lr0, sr1, sr2, xr3, xr4, sr5, lr6, lr7, Ar0, cr0, Ar6, cr6, Ar7, cr7, ed', rfl, kr0, kr1, kr2, kr3, kr4, kr5, kr6, kr7⟩ := open_Thing hin'
      have HED' := Lib.hid ed'
      have HAR := Lib.hid (Gd.ofC (show Cells B (n - 1) wr shAddr_ [.l lr0, .s sr1, .s sr2, .i xr3, .i xr4, .s sr5] [.slice Ar0 lr0.length cr0, .string sr1, .string sr2, .int .i64 xr3, .int .i64 xr4, .string sr5] from ⟨kr0, Cell.mkS kr1, Cell.mkS kr2, Cell.mkI kr3, Cell.mkI kr4, Cell.mkS kr5, trivial⟩))
      have her : bA xs[i] = bA [.l lr0, .s sr1, .s sr2, .i xr3, .i xr4, .s sr5] := by rw [ed']; rfl
      have HER := Lib.hid her
      clear her kr0 kr1 kr2 kr3 kr4 kr5 kr6 kr7
      have HR' := Lib.hid (show wr.rangeAt b (o + i * 8) _ from hr')
      clear hr' hin' ed' hm'
      have ei : (j : Int) - 1 = i := by omega
      have ew : IntKind.i64.wrap ((j : Int) - 1) = i := by rw [IntWalk.i64_left, IntWalk.wrap64_in _ (by omega)]; exact ei
      have hi0 : (0 : Int) ≤ (i : Int) := by omega
      have hjn : 0 < j := by omega
      have hjd : decide (0 < (j : Int)) = true := by simp; omega
      have p0 := later_cell (b := b) (o := o + i * 8) hbl (by simpa using HR'.out 0 _ rfl)
      have p1 := later_cell (b := b) (o := o + i * 8 + 1) hbl (by simpa using HR'.out 1 _ rfl)
      have p2 := later_cell (b := b) (o := o + i * 8 + 2) hbl (by simpa using HR'.out 2 _ rfl)
      have p3 := later_cell (b := b) (o := o + i * 8 + 3) hbl (by simpa using HR'.out 3 _ rfl)
      have p4 := later_cell (b := b) (o := o + i * 8 + 4) hbl (by simpa using HR'.out 4 _ rfl)
      have p5 := later_cell (b := b) (o := o + i * 8 + 5) hbl (by simpa using HR'.out 5 _ rfl)
      have K1 := fun (r : Bool) (hK : (@decide (aheadA (bA xs[i]) (bA xs[j])) (Classical.propDecidable _)) = r) (W' : World) (h : Below wr.heap.size wr W') => (show Calls _ _ _ _ _ from hK ▸ HEN.out ▸ HER.out ▸ cf.less_spec (HAR.out.below h).now (HAQ.out.below h).now)
      by_cases hls : aheadA (bA xs[i]) (bA xs[j])
      rotate_left
      · replace K1 := K1 false (by simp [hls])
        have HLS := Lib.hid hls
        clear hls
        go_wp2_with fail
        refine wp_region_later (by kernel_rfl) (by kernel_rfl) ?_
        repeat (go_big_quiet_step ((first | (go_at_call 36; exact later_call (K0 _ (later_below _))) | (go_at_call 37; exact later_call (K1 _ (later_below _))))))
        refine wpQuiet_nil ?_
        rintro _ ⟨u9, rfl⟩
        have E2 := Lib.hid (below_then E1.out (later_below u9) (Nat.le_refl _))
        generalize later wr u9 = w9 at E2 ⊢
        clear q0 q1 q2 q3 q4 q5 q6 q7 p0 p1 p2 p3 p4 p5 K0 K1
        go_wp2
        go_ret
        exact ⟨ret_bool ((bookB_no (fun hh => HLS.out (by have := hh.2.2 i (by omega); subst hij; exact this))).symm), E2.out⟩
      replace K1 := K1 true (by simp [hls])
      have hLT : Hid (aheadA (bA xs[i]) (bA xs[j])) := hls
      clear hls
      have HG : Hid (thB xs[j] = true) := hT0
      have HNX : Hid (∀ q (h : q + 1 < xs.length), q + 1 < j + 1 → aheadA (bA xs[q]) (bA xs[q + 1])) := fun q h hq => by
        by_cases e : q = i
        · subst e; subst hij; exact hLT.out
        · exact HRI.out q h (by omega)
      go_wp2_with fail
      refine wp_region_later (by kernel_rfl) (by kernel_rfl) ?_
      repeat (go_big_quiet_step ((first | (go_at_call 36; exact later_call (K0 _ (later_below _))) | (go_at_call 37; exact later_call (K1 _ (later_below _))))))
      refine wpQuiet_nil ?_
      rintro _ ⟨u9, rfl⟩
      have E2 := Lib.hid (below_then E1.out (later_below u9) (Nat.le_refl _))
      generalize later wr u9 = w9 at E2 ⊢
      clear q0 q1 q2 q3 q4 q5 q6 q7 p0 p1 p2 p3 p4 p5 K0 K1
      go_wp2
      go_roundw
      case rel => exact ⟨j + 1, by omega, by go_num, fun q h hq => by
        by_cases e : q = j
        · subst e; exact HG.out
        · exact HOK.out q h (by omega), HNX.out, E2.out⟩
      case measure => simp [RowKit.intOf]; omega
    · go_wp2
      go_ret
      exact ⟨ret_bool (bookB_yes ⟨hm4, fun i h => HOK.out i h (by omega), fun i h => HRI.out i h (by omega)⟩).symm, E1.out⟩
end Go.Proofs.YtnjpddbpnmgcpaaGreatDoor.cf
