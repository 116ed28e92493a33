/- Right things side by side: a book, of the program. BookRight of the model. A right book, of both sides: the program's own name for it. -/
import Derived.Test.YtflfnekaiaplfaaGreatThS
namespace Go.Proofs.YtflfnekaiaplfaaGreat.cf
open ad mem vl ex un cm
open Go.ChangeShapes Go.WideShapes Go.ChangeAt Go.RowKit Go.Lib
set_option linter.unusedVariables false
set_option maxRecDepth 8000
set_option linter.unusedSimpArgs false

/-- a right book: how many, each right, rising. -/
def bookOk (l : List (List DC)) : Prop := l.length ≤ 40 ∧ (∀ i (h : i < l.length), thB l[i] = true) ∧ ∀ i (h : i + 1 < l.length), aheadA (bA l[i]) (bA l[i + 1])
noncomputable def bookB (l : List (List DC)) : Bool := @decide (bookOk l) (Classical.propDecidable _)
theorem bookB_no {l : List (List DC)} (h : ¬ bookOk l) : bookB l = false := by simp [bookB, h]
theorem bookB_yes {l : List (List DC)} (h : bookOk l) : bookB l = true := by simp [bookB, h]
theorem bookB_iff {l : List (List DC)} : bookB l = true ↔ bookOk l := by simp [bookB]
theorem bA_thing (a b c d e f g h : DC) : bA [a, b, c, d, e, f, g, h] = bA [a, b, c, d, e, f] := rfl
theorem compare_things {B B' : Nat → Prop} {n m : Nat} {w : World} {ds ds' : List DC} {vs vs' : List Value} {cv : Int} (hr : cm.orI (cm.looks (bA ds) (bA ds')) = cv) (h : Cells B n w shThing_ ds vs) (h' : Cells B' m w shThing_ ds' vs') :
    Calls Tryz.prog 76 #[.agg vs.toArray, .agg vs'.toArray] w (un.Told w (.int .i64 cv)) := by
  subst hr
  obtain ⟨lq0, sq1, sq2, xq3, xq4, sq5, lq6, lq7, Aq0, cq0, Aq6, cq6, Aq7, cq7, rfl, rfl, kq0, kq1, kq2, kq3, kq4, kq5, -⟩ := open_Thing h
  obtain ⟨lr0, sr1, sr2, xr3, xr4, sr5, lr6, lr7, Ar0, cr0, Ar6, cr6, Ar7, cr7, rfl, rfl, kr0, kr1, kr2, kr3, kr4, kr5, -⟩ := open_Thing h'
  have HA := Lib.hid (Gd.ofC (show Cells B n w shAddr_ [.l lq0, .s sq1, .s sq2, .i xq3, .i xq4, .s sq5] [.slice Aq0 lq0.length cq0, .string sq1, .string sq2, .int .i64 xq3, .int .i64 xq4, .string sq5] from ⟨kq0, Cell.mkS kq1, Cell.mkS kq2, Cell.mkI kq3, Cell.mkI kq4, Cell.mkS kq5, trivial⟩))
  have HA' := Lib.hid (Gd.ofC (show Cells B' m w shAddr_ [.l lr0, .s sr1, .s sr2, .i xr3, .i xr4, .s sr5] [.slice Ar0 lr0.length cr0, .string sr1, .string sr2, .int .i64 xr3, .int .i64 xr4, .string sr5] from ⟨kr0, Cell.mkS kr1, Cell.mkS kr2, Cell.mkI kr3, Cell.mkI kr4, Cell.mkS kr5, trivial⟩))
  have e : cm.orI (cm.looks (bA [.l lq0, .s sq1, .s sq2, .i xq3, .i xq4, .s sq5, .l lq6, .l lq7]) (bA [.l lr0, .s sr1, .s sr2, .i xr3, .i xr4, .s sr5, .l lr6, .l lr7])) = cm.orI (cm.looks (bA [.l lq0, .s sq1, .s sq2, .i xq3, .i xq4, .s sq5]) (bA [.l lr0, .s sr1, .s sr2, .i xr3, .i xr4, .s sr5])) := rfl
  rw [e]
  clear h h' kq0 kq1 kq2 kq3 kq4 kq5 kr0 kr1 kr2 kr3 kr4 kr5 e
  go_enter Tryz.func76, Tryz.ntmps76
  go_wp2_with fail
  refine (compare_impl ((HA.out.alloc _).alloc _).now ((HA'.out.alloc _).alloc _).now).mono ?_
  rintro _ w1 ⟨rfl, hb⟩
  have E1 := Lib.hid (below_then (below_a2 _ _ _) hb (Nat.le_refl _))
  have Ba1 := Lib.hid (((Blk.new w _ _).alloc _).step hb)
  have ra1 := Ba1.out.cell
  have ba1 := Ba1.out.lt
  have Bb1 := Lib.hid ((Blk.new1 w _ _ _).step hb)
  have rb1 := Bb1.out.cell
  have bb1 := Bb1.out.lt
  have SA1 := Lib.hid (((HA.out.alloc _).alloc _).below hb)
  have SC1 := Lib.hid (((HA'.out.alloc _).alloc _).below hb)
  clear hb HA HA'
  go_wp2
  go_ret
  exact ⟨rfl, E1.out⟩
noncomputable def allTh (n : Nat) (xs : List (List DC)) : Bool := @decide (∀ i (h : i < xs.length), thB xs[i] = true) (Classical.propDecidable _)
theorem allTh_iff {n : Nat} {xs : List (List DC)} : allTh n xs = true ↔ ∀ i (h : i < xs.length), thB xs[i] = true := by simp [allTh]
theorem allTh_no {n : Nat} {xs : List (List DC)} (i : Nat) (h : i < xs.length) (hw : thB xs[i] = false) : allTh n xs = false := by
  rw [Bool.eq_false_iff]; exact fun hh => by have := allTh_iff.1 hh i h; simp [hw] at this
set_option maxHeartbeats 4000000 in
theorem every_things {B : Nat → Prop} {n c : Nat} {w : World} {xs : List (List DC)} {A : Option Addr} {r : Bool} (hr : allTh n xs = r) (h : Cell B n w (.l 8) (.l xs) (.slice A xs.length c)) :
    Calls Tryz.prog 74 #[.slice A xs.length c, .func (.func 29) #[] #[]] w (un.Told w (.bool r)) := by
  subst hr
  have hlen := h.len.2
  unfold maxLen at hlen
  have H := Lib.hid (Gd.of1 h)
  clear h
  go_enter Tryz.func74, Tryz.ntmps74
  go_wp2
  go_loopw [9] (fun i wr => ∃ k : Nat, k ≤ xs.length ∧ i = .int .i64 k ∧ (∀ j (h : j < xs.length), j < k → thB xs[j] = true) ∧ Below w.heap.size w wr) (fun i _ => xs.length - (RowKit.intOf i).toNat)
  case atStart => exact ⟨0, Nat.zero_le _, rfl, fun j _ hj => absurd hj (by omega), Below.refl _ _⟩
  case round =>
    obtain ⟨k, hk, rfl, hok, hb⟩ := hrel
    have HOK := Lib.hid hok
    have E1 := Lib.hid hb
    clear hok hb
    by_cases hlt : k < xs.length
    · obtain ⟨m', b, o, us, hm, rfl, _, hbl, hr, hin⟩ := (H.out.below E1.out).now.item k hlt
      obtain rfl : m' = n - 1 := by omega
      have HI := Lib.hid (Gd.ofC hin)
      obtain ⟨lq0, sq1, sq2, xq3, xq4, sq5, lq6, lq7, Aq0, cq0, Aq6, cq6, Aq7, cq7, ed, rfl, -⟩ := open_Thing hin
      have HR := Lib.hid (show wr.rangeAt b (o + k * 8) _ from hr)
      clear hr hin ed
      cases hf : thB xs[k]
      · go_wp2_with (refine wpList_load_mid rfl 41 (.tmp 11) rfl b (o + k * 8) rfl _ _ HR.out Tryz.underlying41 rfl (by kernel_rfl) ?_)
        go_wp2_with fail
        refine (thing_impl hf (HI.out.alloc _).now).mono ?_
        rintro _ w2 ⟨rfl, hb⟩
        have E2 := Lib.hid (below_then (below_da E1.out (Nat.le_refl _) _) hb (Nat.le_refl _))
        clear hb
        go_wp2
        go_ret
        exact ⟨ret_bool (allTh_no k hlt hf).symm, E2.out⟩
      · go_wp2_with (refine wpList_load_mid rfl 41 (.tmp 11) rfl b (o + k * 8) rfl _ _ HR.out Tryz.underlying41 rfl (by kernel_rfl) ?_)
        go_wp2_with fail
        refine (thing_impl hf (HI.out.alloc _).now).mono ?_
        rintro _ w2 ⟨rfl, hb⟩
        have E2 := Lib.hid (below_then (below_da E1.out (Nat.le_refl _) _) hb (Nat.le_refl _))
        clear hb
        go_wp2
        go_roundw
        case rel => exact ⟨k + 1, by omega, by go_num, fun j h hj => by
          by_cases e : j = k
          · subst e; exact hf
          · exact HOK.out j h (by omega), E2.out⟩
        case measure => simp [RowKit.intOf]; omega
    · go_wp2
      go_ret
      exact ⟨ret_bool (allTh_iff.2 (fun j h => HOK.out j h (by omega))).symm, E1.out⟩
noncomputable def riseTh (n : Nat) (xs : List (List DC)) : Bool := @decide (∀ i (h : i + 1 < xs.length), aheadA (bA xs[i]) (bA xs[i + 1])) (Classical.propDecidable _)
theorem riseTh_iff {n : Nat} {xs : List (List DC)} : riseTh n xs = true ↔ ∀ i (h : i + 1 < xs.length), aheadA (bA xs[i]) (bA xs[i + 1]) := by simp [riseTh]
theorem riseTh_no {n : Nat} {xs : List (List DC)} (i : Nat) (h : i + 1 < xs.length) (hw : ¬ aheadA (bA xs[i]) (bA xs[i + 1])) : riseTh n xs = false := by
  rw [Bool.eq_false_iff]; exact fun hh => hw (riseTh_iff.1 hh i h)
set_option maxHeartbeats 4000000 in
theorem rising_things {B : Nat → Prop} {n c : Nat} {w : World} {xs : List (List DC)} {A : Option Addr} {r : Bool} (hr : riseTh n xs = r) (h : Cell B n w (.l 8) (.l xs) (.slice A xs.length c)) :
    Calls Tryz.prog 75 #[.slice A xs.length c, .func (.func 76) #[] #[]] w (un.Told w (.bool r)) := by
  subst hr
  have hlen := h.len.2
  unfold maxLen at hlen
  have H := Lib.hid (Gd.of1 h)
  clear h
  go_enter Tryz.func75, Tryz.ntmps75
  go_wp2
  go_loopw [5] (fun i wr => ∃ k : Nat, 1 ≤ k ∧ k ≤ xs.length + 1 ∧ i = .int .i64 k ∧ (∀ i (h : i + 1 < xs.length), i + 1 < k → aheadA (bA xs[i]) (bA xs[i + 1])) ∧ Below w.heap.size w wr) (fun i _ => xs.length + 1 - (RowKit.intOf i).toNat)
  case atStart => exact ⟨1, by omega, by omega, rfl, fun q _ hq => absurd hq (by omega), Below.refl _ _⟩
  case round =>
    obtain ⟨j, hj1, hj2, rfl, hok, hb⟩ := hrel
    have HOK := Lib.hid hok
    have E1 := Lib.hid hb
    clear hok hb
    by_cases hlt : j < xs.length
    · obtain ⟨m', b, o, us, hm, rfl, _, hbl, hr, hin⟩ := (H.out.below E1.out).now.item j hlt
      obtain rfl : m' = n - 1 := by omega
      obtain ⟨i, hij⟩ : ∃ i, i + 1 = j := ⟨j - 1, by omega⟩
      have hi : i < xs.length := by omega
      have hjI : (j : Int) < xs.length := by omega
      have hiI : (i : Int) < xs.length := by omega
      obtain ⟨m'', b', o', us', hm', e', _, hbl', hr', hin'⟩ := (H.out.below E1.out).now.item i hi
      injection e' with e'; injection e' with e1 e2 _
      subst e1 e2
      obtain rfl : m'' = n - 1 := by omega
      have HI := Lib.hid (Gd.ofC hin)
      have HI' := Lib.hid (Gd.ofC hin')
      obtain ⟨lq0, sq1, sq2, xq3, xq4, sq5, lq6, lq7, Aq0, cq0, Aq6, cq6, Aq7, cq7, ed, rfl, -⟩ := open_Thing hin
      obtain ⟨lr0, sr1, sr2, xr3, xr4, sr5, lr6, lr7, Ar0, cr0, Ar6, cr6, Ar7, cr7, ed', rfl, -⟩ := open_Thing hin'
      have HR := Lib.hid (show wr.rangeAt b (o + j * 8) _ from hr)
      have HR' := Lib.hid (show wr.rangeAt b (o + i * 8) _ from hr')
      obtain ⟨cv, hcv⟩ : ∃ cv, cm.orI (cm.looks (bA xs[i]) (bA xs[j])) = cv := ⟨_, rfl⟩
      have HLT : Hid (cv < 0 ↔ aheadA (bA xs[i]) (bA xs[j])) := by rw [← hcv]; exact Iff.rfl
      clear hr hr' hin hin' ed ed' hm hm'
      have ei : (j : Int) - 1 = i := by omega
      have ew : IntKind.i64.wrap ((j : Int) - 1) = i := by rw [IntWalk.i64_left, IntWalk.wrap64_in _ (by omega)]; exact ei
      have hi0 : (0 : Int) ≤ (i : Int) := by omega
      have KC := fun (W' : World) (h : Below wr.heap.size wr W') => compare_things hcv (HI'.out.below h).now (HI.out.below h).now
      have q0 := later_cell (b := b) (o := o + j * 8) hbl (by simpa using HR.out 0 _ rfl)
      have q1 := later_cell (b := b) (o := o + j * 8 + 1) hbl (by simpa using HR.out 1 _ rfl)
      have q2 := later_cell (b := b) (o := o + j * 8 + 2) hbl (by simpa using HR.out 2 _ rfl)
      have q3 := later_cell (b := b) (o := o + j * 8 + 3) hbl (by simpa using HR.out 3 _ rfl)
      have q4 := later_cell (b := b) (o := o + j * 8 + 4) hbl (by simpa using HR.out 4 _ rfl)
      have q5 := later_cell (b := b) (o := o + j * 8 + 5) hbl (by simpa using HR.out 5 _ rfl)
      have q6 := later_cell (b := b) (o := o + j * 8 + 6) hbl (by simpa using HR.out 6 _ rfl)
      have q7 := later_cell (b := b) (o := o + j * 8 + 7) hbl (by simpa using HR.out 7 _ rfl)
      have p0 := later_cell (b := b) (o := o + i * 8) hbl (by simpa using HR'.out 0 _ rfl)
      have p1 := later_cell (b := b) (o := o + i * 8 + 1) hbl (by simpa using HR'.out 1 _ rfl)
      have p2 := later_cell (b := b) (o := o + i * 8 + 2) hbl (by simpa using HR'.out 2 _ rfl)
      have p3 := later_cell (b := b) (o := o + i * 8 + 3) hbl (by simpa using HR'.out 3 _ rfl)
      have p4 := later_cell (b := b) (o := o + i * 8 + 4) hbl (by simpa using HR'.out 4 _ rfl)
      have p5 := later_cell (b := b) (o := o + i * 8 + 5) hbl (by simpa using HR'.out 5 _ rfl)
      have p6 := later_cell (b := b) (o := o + i * 8 + 6) hbl (by simpa using HR'.out 6 _ rfl)
      have p7 := later_cell (b := b) (o := o + i * 8 + 7) hbl (by simpa using HR'.out 7 _ rfl)
      clear hcv
      by_cases hneg : cv < 0
      · go_wp2_with fail
        refine wp_region_later (by kernel_rfl) (by kernel_rfl) ?_
        repeat (go_big_quiet_step ((go_at_call 76; exact later_call (KC _ (later_below _)))))
        refine wpQuiet_nil ?_
        rintro _ ⟨u9, rfl⟩
        have E2 := Lib.hid (below_then E1.out (later_below u9) (Nat.le_refl _))
        generalize later wr u9 = w9 at E2 ⊢
        clear q0 p0 q1 p1 q2 p2 q3 p3 q4 p4 q5 p5 q6 p6 q7 p7 KC
        go_wp2
        go_roundw
        case rel => exact ⟨j + 1, by omega, by omega, by go_num, fun q h hq => by
          by_cases e : q = i
          · subst e; subst hij; exact HLT.out.1 hneg
          · exact HOK.out q h (by omega), E2.out⟩
        case measure => simp [RowKit.intOf]; omega
      · have hge : 0 ≤ cv := by omega
        clear hneg
        go_wp2_with fail
        refine wp_region_later (by kernel_rfl) (by kernel_rfl) ?_
        repeat (go_big_quiet_step ((go_at_call 76; exact later_call (KC _ (later_below _)))))
        refine wpQuiet_nil ?_
        rintro _ ⟨u9, rfl⟩
        have E2 := Lib.hid (below_then E1.out (later_below u9) (Nat.le_refl _))
        generalize later wr u9 = w9 at E2 ⊢
        clear q0 p0 q1 p1 q2 p2 q3 p3 q4 p4 q5 p5 q6 p6 q7 p7 KC
        go_wp2
        go_ret
        exact ⟨ret_bool (riseTh_no i (by omega) (fun hh => by subst hij; have := HLT.out.2 hh; omega)).symm, E2.out⟩
    · go_wp2
      go_ret
      exact ⟨ret_bool (riseTh_iff.2 (fun q h => HOK.out q h (by omega))).symm, E1.out⟩
theorem bookB_eq {n : Nat} {l : List (List DC)} : bookB l = (decide (l.length ≤ 40) && allTh n l && riseTh n l) := by
  rw [Bool.eq_iff_iff]
  simp only [Bool.and_eq_true, decide_eq_true_eq, allTh_iff, riseTh_iff]
  show @decide (bookOk l) (Classical.propDecidable _) = true ↔ _
  rw [@decide_eq_true_iff _ (Classical.propDecidable _)]
  simp only [bookOk, and_assoc]
set_option maxHeartbeats 2000000 in
theorem book_impl {B : Nat → Prop} {n c : Nat} {w : World} {xs : List (List DC)} {A : Option Addr} {r : Bool} (hr : bookB xs = r) (h : Cell B n w (.l 8) (.l xs) (.slice A xs.length c)) :
    Calls Tryz.prog 52 #[.slice A xs.length c] w (un.Told w (.bool r)) := by
  subst hr
  have hlen := h.len.2
  unfold maxLen at hlen
  have H := Lib.hid (Gd.of1 h)
  clear h
  rw [bookB_eq (n := n)]
  go_enter Tryz.func52, Tryz.ntmps52
  by_cases h4 : xs.length ≤ 40
  · cases ha : allTh n xs
    rotate_left
    · go_wp2_with fail
      refine (every_things ha (H.out).now).mono ?_
      rintro _ w1 ⟨rfl, hb⟩
      have E1 := Lib.hid (below_then (Below.refl _ _) hb (Nat.le_refl _))
      have SL1 := Lib.hid ((H.out).below hb)
      clear hb H
      go_wp2_with fail
      refine (rising_things (r := riseTh n xs) rfl (SL1.out).now).mono ?_
      rintro _ w2 ⟨rfl, hb⟩
      have E2 := Lib.hid (below_then E1.out hb (Nat.le_refl _))
      have SL2 := Lib.hid ((SL1.out).below hb)
      clear hb SL1 E1
      go_wp2
      all_goals go_ret
      all_goals refine ⟨ret_bool ?_, E2.out⟩
      all_goals (simp [ha, h4])
    go_wp2_with fail
    refine (every_things ha (H.out).now).mono ?_
    rintro _ w1 ⟨rfl, hb⟩
    have E1 := Lib.hid (below_then (Below.refl _ _) hb (Nat.le_refl _))
    have SL1 := Lib.hid ((H.out).below hb)
    clear hb H
    go_wp2
    all_goals go_ret
    all_goals refine ⟨ret_bool ?_, E1.out⟩
    all_goals (simp [ha, h4])
  go_wp2
  all_goals go_ret
  all_goals refine ⟨ret_bool ?_, (Below.refl _ _)⟩
  all_goals (simp; try omega)
end Go.Proofs.YtflfnekaiaplfaaGreat.cf
namespace Go.Proofs.YtflfnekaiaplfaaGreat.cf
open ad mem vl ex un cm
open Go.ChangeShapes Go.WideShapes Go.ChangeAt Go.RowKit Go.Lib
set_option linter.unusedVariables false
set_option maxRecDepth 8000
set_option linter.unusedSimpArgs false

set_option maxHeartbeats 8000000 in
theorem book_spec {B : Nat → Prop} {n c : Nat} {w : World} {xs : List (List DC)} {A : Option Addr} {r : Bool} (hr : bookB xs = r) (h : Cell B n w (.l 8) (.l xs) (.slice A xs.length c)) :
    Calls Tryz.prog 20 #[.slice A xs.length c] w (un.Told w (.bool r)) := by
  subst hr
  have hlen := h.len.2
  unfold maxLen at hlen
  have H := Lib.hid (Gd.of1 h)
  clear h
  go_enter Tryz.func20, Tryz.ntmps20
  by_cases hm : 40 < xs.length
  · go_wp2
    go_ret
    exact ⟨ret_bool (bookB_no (fun hh => by have := hh.1; omega)).symm, Below.refl _ _⟩
  have hm4 : xs.length ≤ 40 := by omega
  have hd4 : decide ((40 : Int) < (xs.length : Int)) = false := by (simp; try omega)
  clear hm
  go_wp2
  try rw [hd4]
  clear hd4
  go_loopw [3] (fun i wr => ∃ j : Nat, j ≤ xs.length ∧ i = .int .i64 j ∧ (∀ q (h : q < xs.length), q < j → thB xs[q] = true) ∧ (∀ q (h : q + 1 < xs.length), q + 1 < j → aheadA (bA xs[q]) (bA xs[q + 1])) ∧ Below w.heap.size w wr) (fun i _ => xs.length - (RowKit.intOf i).toNat)
  case atStart => exact ⟨0, Nat.zero_le _, rfl, fun q _ hq => absurd hq (by omega), fun q _ hq => absurd hq (by omega), Below.refl _ _⟩
  case round =>
    obtain ⟨j, hj, rfl, hok, hri, hb⟩ := hrel
    have HOK := Lib.hid hok
    have HRI := Lib.hid hri
    have E1 := Lib.hid hb
    clear hok hb hri
    by_cases hlt : j < xs.length
    · obtain ⟨m', b, o, us, hm, rfl, _, hbl, hr, hin⟩ := (H.out.below E1.out).now.item j hlt
      obtain rfl : m' = n - 1 := by omega
      have HI := Lib.hid (Gd.ofC hin)
      obtain ⟨lq0, sq1, sq2, xq3, xq4, sq5, lq6, lq7, Aq0, cq0, Aq6, cq6, Aq7, cq7, ed, rfl, kq0, kq1, kq2, kq3, kq4, kq5, kq6, kq7⟩ := open_Thing hin
      have HED := Lib.hid ed
      have HAQ := Lib.hid (Gd.ofC (show Cells B (n - 1) wr shAddr_ [.l lq0, .s sq1, .s sq2, .i xq3, .i xq4, .s sq5] [.slice Aq0 lq0.length cq0, .string sq1, .string sq2, .int .i64 xq3, .int .i64 xq4, .string sq5] from ⟨kq0, Cell.mkS kq1, Cell.mkS kq2, Cell.mkI kq3, Cell.mkI kq4, Cell.mkS kq5, trivial⟩))
      have hen : bA xs[j] = bA [.l lq0, .s sq1, .s sq2, .i xq3, .i xq4, .s sq5] := by rw [ed]; rfl
      have HEN := Lib.hid hen
      clear hen kq0 kq1 kq2 kq3 kq4 kq5 kq6 kq7
      have HR := Lib.hid (show wr.rangeAt b (o + j * 8) _ from hr)
      have hjI : (j : Int) < xs.length := by omega
      clear hr hin ed hm
      have q0 := later_cell (b := b) (o := o + j * 8) hbl (by simpa using HR.out 0 _ rfl)
      have q1 := later_cell (b := b) (o := o + j * 8 + 1) hbl (by simpa using HR.out 1 _ rfl)
      have q2 := later_cell (b := b) (o := o + j * 8 + 2) hbl (by simpa using HR.out 2 _ rfl)
      have q3 := later_cell (b := b) (o := o + j * 8 + 3) hbl (by simpa using HR.out 3 _ rfl)
      have q4 := later_cell (b := b) (o := o + j * 8 + 4) hbl (by simpa using HR.out 4 _ rfl)
      have q5 := later_cell (b := b) (o := o + j * 8 + 5) hbl (by simpa using HR.out 5 _ rfl)
      have q6 := later_cell (b := b) (o := o + j * 8 + 6) hbl (by simpa using HR.out 6 _ rfl)
      have q7 := later_cell (b := b) (o := o + j * 8 + 7) hbl (by simpa using HR.out 7 _ rfl)
      have K0 := fun (r : Bool) (hK : thB xs[j] = r) (W' : World) (h : Below wr.heap.size wr W') => thing_spec hK (HI.out.below h).now
      cases hT0 : thB xs[j]
      · replace K0 := K0 _ hT0
        go_wp2_with fail
        refine wp_region_later (by kernel_rfl) (by kernel_rfl) ?_
        repeat (go_big_quiet_step ((first | (go_at_call 21; exact later_call (K0 _ (later_below _))))))
        refine wpQuiet_nil ?_
        rintro _ ⟨u9, rfl⟩
        have E2 := Lib.hid (below_then E1.out (later_below u9) (Nat.le_refl _))
        generalize later wr u9 = w9 at E2 ⊢
        clear q0 q1 q2 q3 q4 q5 q6 q7 K0
        go_wp2
        go_ret
        exact ⟨ret_bool ((bookB_no (fun hh => by have := hh.2.1 j hlt; rw [hT0] at this; cases this)).symm), E2.out⟩
      replace K0 := K0 _ hT0
      by_cases hz : j = 0
      · have HZJ := Lib.hid hz
        have hjn : ¬ 0 < j := by (have := HZJ.out; omega)
        have hjd : decide (0 < (j : Int)) = false := by (have := HZJ.out; simp; omega)
        clear hz
        have HG : Hid (thB xs[j] = true) := hT0
        have HNX : Hid (∀ q (h : q + 1 < xs.length), q + 1 < j + 1 → aheadA (bA xs[q]) (bA xs[q + 1])) := fun q h hq => absurd hq (by have := HZJ.out; omega)
        go_wp2_with fail
        refine wp_region_later (by kernel_rfl) (by kernel_rfl) ?_
        repeat (go_big_quiet_step ((first | (go_at_call 21; exact later_call (K0 _ (later_below _))))))
        refine wpQuiet_nil ?_
        rintro _ ⟨u9, rfl⟩
        have E2 := Lib.hid (below_then E1.out (later_below u9) (Nat.le_refl _))
        generalize later wr u9 = w9 at E2 ⊢
        clear q0 q1 q2 q3 q4 q5 q6 q7 K0
        go_wp2
        go_roundw
        case rel => exact ⟨j + 1, by omega, by go_num, fun q h hq => by
          by_cases e : q = j
          · subst e; exact HG.out
          · exact HOK.out q h (by omega), HNX.out, E2.out⟩
        case measure => simp [RowKit.intOf]; omega
      obtain ⟨i, hij⟩ : ∃ i, i + 1 = j := ⟨j - 1, by omega⟩
      have hi : i < xs.length := by omega
      have hiI : (i : Int) < xs.length := by omega
      obtain ⟨m'', b', o', us', hm', e', _, hbl', hr', hin'⟩ := (H.out.below E1.out).now.item i hi
      injection e' with e'; injection e' with e1 e2 _
      subst e1 e2
      obtain rfl : m'' = n - 1 := by omega
      have HI' := Lib.hid (Gd.ofC hin')
      obtain ⟨lr0, sr1, sr2, xr3, xr4, sr5, lr6, lr7, Ar0, cr0, Ar6, cr6, Ar7, cr7, ed', rfl, kr0, kr1, kr2, kr3, kr4, kr5, kr6, kr7⟩ := open_Thing hin'
      have HED' := Lib.hid ed'
      have HAR := Lib.hid (Gd.ofC (show Cells B (n - 1) wr shAddr_ [.l lr0, .s sr1, .s sr2, .i xr3, .i xr4, .s sr5] [.slice Ar0 lr0.length cr0, .string sr1, .string sr2, .int .i64 xr3, .int .i64 xr4, .string sr5] from ⟨kr0, Cell.mkS kr1, Cell.mkS kr2, Cell.mkI kr3, Cell.mkI kr4, Cell.mkS kr5, trivial⟩))
      have her : bA xs[i] = bA [.l lr0, .s sr1, .s sr2, .i xr3, .i xr4, .s sr5] := by rw [ed']; rfl
      have HER := Lib.hid her
      clear her kr0 kr1 kr2 kr3 kr4 kr5 kr6 kr7
      have HR' := Lib.hid (show wr.rangeAt b (o + i * 8) _ from hr')
      clear hr' hin' ed' hm'
      have ei : (j : Int) - 1 = i := by omega
      have ew : IntKind.i64.wrap ((j : Int) - 1) = i := by rw [IntWalk.i64_left, IntWalk.wrap64_in _ (by omega)]; exact ei
      have hi0 : (0 : Int) ≤ (i : Int) := by omega
      have hjn : 0 < j := by omega
      have hjd : decide (0 < (j : Int)) = true := by simp; omega
      have p0 := later_cell (b := b) (o := o + i * 8) hbl (by simpa using HR'.out 0 _ rfl)
      have p1 := later_cell (b := b) (o := o + i * 8 + 1) hbl (by simpa using HR'.out 1 _ rfl)
      have p2 := later_cell (b := b) (o := o + i * 8 + 2) hbl (by simpa using HR'.out 2 _ rfl)
      have p3 := later_cell (b := b) (o := o + i * 8 + 3) hbl (by simpa using HR'.out 3 _ rfl)
      have p4 := later_cell (b := b) (o := o + i * 8 + 4) hbl (by simpa using HR'.out 4 _ rfl)
      have p5 := later_cell (b := b) (o := o + i * 8 + 5) hbl (by simpa using HR'.out 5 _ rfl)
      have K1 := fun (r : Bool) (hK : (@decide (aheadA (bA xs[i]) (bA xs[j])) (Classical.propDecidable _)) = r) (W' : World) (h : Below wr.heap.size wr W') => (show Calls _ _ _ _ _ from hK ▸ HEN.out ▸ HER.out ▸ cf.less_spec (HAR.out.below h).now (HAQ.out.below h).now)
      by_cases hls : aheadA (bA xs[i]) (bA xs[j])
      rotate_left
      · replace K1 := K1 false (by simp [hls])
        have HLS := Lib.hid hls
        clear hls
        go_wp2_with fail
        refine wp_region_later (by kernel_rfl) (by kernel_rfl) ?_
        repeat (go_big_quiet_step ((first | (go_at_call 21; exact later_call (K0 _ (later_below _))) | (go_at_call 44; exact later_call (K1 _ (later_below _))))))
        refine wpQuiet_nil ?_
        rintro _ ⟨u9, rfl⟩
        have E2 := Lib.hid (below_then E1.out (later_below u9) (Nat.le_refl _))
        generalize later wr u9 = w9 at E2 ⊢
        clear q0 q1 q2 q3 q4 q5 q6 q7 p0 p1 p2 p3 p4 p5 K0 K1
        go_wp2
        go_ret
        exact ⟨ret_bool ((bookB_no (fun hh => HLS.out (by have := hh.2.2 i (by omega); subst hij; exact this))).symm), E2.out⟩
      replace K1 := K1 true (by simp [hls])
      have hLT : Hid (aheadA (bA xs[i]) (bA xs[j])) := hls
      clear hls
      have HG : Hid (thB xs[j] = true) := hT0
      have HNX : Hid (∀ q (h : q + 1 < xs.length), q + 1 < j + 1 → aheadA (bA xs[q]) (bA xs[q + 1])) := fun q h hq => by
        by_cases e : q = i
        · subst e; subst hij; exact hLT.out
        · exact HRI.out q h (by omega)
      go_wp2_with fail
      refine wp_region_later (by kernel_rfl) (by kernel_rfl) ?_
      repeat (go_big_quiet_step ((first | (go_at_call 21; exact later_call (K0 _ (later_below _))) | (go_at_call 44; exact later_call (K1 _ (later_below _))))))
      refine wpQuiet_nil ?_
      rintro _ ⟨u9, rfl⟩
      have E2 := Lib.hid (below_then E1.out (later_below u9) (Nat.le_refl _))
      generalize later wr u9 = w9 at E2 ⊢
      clear q0 q1 q2 q3 q4 q5 q6 q7 p0 p1 p2 p3 p4 p5 K0 K1
      go_wp2
      go_roundw
      case rel => exact ⟨j + 1, by omega, by go_num, fun q h hq => by
        by_cases e : q = j
        · subst e; exact HG.out
        · exact HOK.out q h (by omega), HNX.out, E2.out⟩
      case measure => simp [RowKit.intOf]; omega
    · go_wp2
      go_ret
      exact ⟨ret_bool (bookB_yes ⟨hm4, fun i h => HOK.out i h (by omega), fun i h => HRI.out i h (by omega)⟩).symm, E1.out⟩
end Go.Proofs.YtflfnekaiaplfaaGreat.cf
namespace Go.Proofs.YtflfnekaiaplfaaGreat.cf
open ad mem vl ex un cm
open Go.ChangeShapes Go.WideShapes Go.ChangeAt Go.RowKit Go.Lib
set_option linter.unusedVariables false
set_option maxRecDepth 8000
set_option linter.unusedSimpArgs false
theorem bookRight_impl {B : Nat → Prop} {n c : Nat} {w : World} {xs : List (List DC)} {A : Option Addr} {r : Bool} (hr : bookB xs = r) (h : Cell B n w (.l 8) (.l xs) (.slice A xs.length c)) :
    Calls Tryz.prog 28 #[.slice A xs.length c] w (un.Told w (.bool r)) := by
  have H := Lib.hid (Gd.of1 h)
  clear h
  go_enter Tryz.func28, Tryz.ntmps28
  go_wp2_with fail
  refine (book_impl hr H.out.now).mono ?_
  rintro _ w1 ⟨rfl, hb⟩
  go_wp2
  go_ret
  exact ⟨rfl, hb⟩
end Go.Proofs.YtflfnekaiaplfaaGreat.cf
