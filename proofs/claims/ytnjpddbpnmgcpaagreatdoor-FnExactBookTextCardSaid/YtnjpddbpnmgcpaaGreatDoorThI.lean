/- ThingRight of the program. -/
import Derived.Test.YtnjpddbpnmgcpaaGreatDoorThP
namespace Go.Proofs.YtnjpddbpnmgcpaaGreatDoor.cf
open ad mem vl ex un cm
open Go.ChangeShapes Go.WideShapes Go.ChangeAt Go.RowKit Go.Lib
set_option linter.unusedVariables false
set_option maxRecDepth 8000
set_option linter.unusedSimpArgs false

theorem cmp_addrs {B B' : Nat → Prop} {n n' : Nat} {w : World} {ds ds' : List DC} {vs vs' : List Value} {cv : Int} (hr : cm.orI (cm.looks (bA ds) (bA ds')) = cv) (h : Cells B n w shAddr_ ds vs) (h' : Cells B' n' w shAddr_ ds' vs') :
    Calls Tryz.prog 103 #[.agg vs.toArray, .agg vs'.toArray] w (un.Told w (.int .i64 cv)) := by
  subst hr; exact compare_impl h h'
set_option maxHeartbeats 4000000 in
theorem need_closure {B B' : Nat → Prop} {n m bb : Nat} {w : World} {ds ds' : List DC} {vs vs' : List Value} {r : Bool} (hr : needB (bA ds') ds = r) (h : Cells B n w shAddr_ ds vs) (h' : Cells B' m w shThing_ ds' vs') (hb : Blk w bb 50 vs'.toArray) :
    Calls Tryz.prog 123 #[.agg vs.toArray, .pointer (some ⟨bb, 0, none⟩)] w (un.Told w (.bool r)) := by
  have HA := Lib.hid (Gd.ofC h)
  obtain ⟨lq0, sq1, sq2, xq3, xq4, sq5, Aq0, cq0, rfl, rfl, -⟩ := open_Addr h
  obtain ⟨lt0, st1, st2, xt3, xt4, st5, lt6, lt7, At0, ct0, At6, ct6, At7, ct7, rfl, rfl, kt0, kt1, kt2, kt3, kt4, kt5, -⟩ := open_Thing h'
  have HT := Lib.hid (Gd.ofC (show Cells B' m w shAddr_ [.l lt0, .s st1, .s st2, .i xt3, .i xt4, .s st5] [.slice At0 lt0.length ct0, .string st1, .string st2, .int .i64 xt3, .int .i64 xt4, .string st5] from ⟨kt0, Cell.mkS kt1, Cell.mkS kt2, Cell.mkI kt3, Cell.mkI kt4, Cell.mkS kt5, trivial⟩))
  obtain ⟨D, hD⟩ : ∃ D, bA [.l lq0, .s sq1, .s sq2, .i xq3, .i xq4, .s sq5] = D := ⟨_, rfl⟩
  obtain ⟨D', hD'⟩ : ∃ D, bA [.l lt0, .s st1, .s st2, .i xt3, .i xt4, .s st5] = D := ⟨_, rfl⟩
  have e : needB (bA [.l lt0, .s st1, .s st2, .i xt3, .i xt4, .s st5, .l lt6, .l lt7]) [.l lq0, .s sq1, .s sq2, .i xq3, .i xq4, .s sq5] = (addrB D && !adl.eqA D D') := by rw [← hD, ← hD']; rfl
  rw [e] at hr
  subst hr
  clear h h' e kt0 kt1 kt2 kt3 kt4 kt5
  have Bb0 := Lib.hid hb
  have rb0 := Bb0.out.cell
  have bb0 := Bb0.out.lt
  clear hb
  have Bbx := (Bb0.out.alloc (.cells #[.slice Aq0 lq0.length cq0, .string sq1, .string sq2, .int .i64 xq3, .int .i64 xq4, .string sq5] 46)).cell
  go_enter Tryz.func123, Tryz.ntmps123
  cases ha : addrB D
  rotate_left
  · go_wp2_with fail
    refine (addrRight_impl hD ha (HA.out.alloc _).now).mono ?_
    rintro _ w1 ⟨rfl, hb⟩
    have E1 := Lib.hid (below_then (below_a1 _ _) hb (Nat.le_refl _))
    have Bb1 := Lib.hid ((Bb0.out.alloc _).step hb)
    have rb1 := Bb1.out.cell
    have bb1 := Bb1.out.lt
    have Bx1 := Lib.hid ((Blk.new w _ _).step hb)
    have rx1 := Bx1.out.cell
    have bx1 := Bx1.out.lt
    have SA1 := Lib.hid ((HA.out.alloc _).below hb)
    have ST1 := Lib.hid ((HT.out.alloc _).below hb)
    clear hb Bb0 rb0 bb0 HA HT
    go_wp2_with fail
    refine (sameAddr_impl (r := adl.eqA D D') hD hD' rfl (SA1.out).now (ST1.out).now).mono ?_
    rintro _ w2 ⟨rfl, hb⟩
    have E2 := Lib.hid (below_then E1.out hb (Nat.le_refl _))
    have Bb2 := Lib.hid ((Bb1.out).step hb)
    have rb2 := Bb2.out.cell
    have bb2 := Bb2.out.lt
    have Bx2 := Lib.hid ((Bx1.out).step hb)
    have rx2 := Bx2.out.cell
    have bx2 := Bx2.out.lt
    have SA2 := Lib.hid ((SA1.out).below hb)
    have ST2 := Lib.hid ((ST1.out).below hb)
    clear hb Bb1 rb1 bb1 Bx1 rx1 bx1 SA1 ST1 E1
    go_wp2
    all_goals go_ret
    all_goals refine ⟨ret_bool ?_, E2.out⟩
    all_goals (simp [ha])
  go_wp2_with fail
  refine (addrRight_impl hD ha (HA.out.alloc _).now).mono ?_
  rintro _ w1 ⟨rfl, hb⟩
  have E1 := Lib.hid (below_then (below_a1 _ _) hb (Nat.le_refl _))
  have Bb1 := Lib.hid ((Bb0.out.alloc _).step hb)
  have rb1 := Bb1.out.cell
  have bb1 := Bb1.out.lt
  have Bx1 := Lib.hid ((Blk.new w _ _).step hb)
  have rx1 := Bx1.out.cell
  have bx1 := Bx1.out.lt
  have SA1 := Lib.hid ((HA.out.alloc _).below hb)
  have ST1 := Lib.hid ((HT.out.alloc _).below hb)
  clear hb Bb0 rb0 bb0 HA HT
  go_wp2
  all_goals go_ret
  all_goals refine ⟨ret_bool ?_, E1.out⟩
  all_goals (simp [ha])
noncomputable def allNe (ds' : List DC) (n : Nat) (xs : List (List DC)) : Bool := @decide (∀ i (h : i < xs.length), needB (bA ds') xs[i] = true) (Classical.propDecidable _)
theorem allNe_iff {ds' : List DC} {n : Nat} {xs : List (List DC)} : allNe ds' n xs = true ↔ ∀ i (h : i < xs.length), needB (bA ds') xs[i] = true := by simp [allNe]
theorem allNe_no {ds' : List DC} {n : Nat} {xs : List (List DC)} (i : Nat) (h : i < xs.length) (hw : needB (bA ds') xs[i] = false) : allNe ds' n xs = false := by
  rw [Bool.eq_false_iff]; exact fun hh => by have := allNe_iff.1 hh i h; simp [hw] at this
set_option maxHeartbeats 4000000 in
theorem every_needs {B' : Nat → Prop} {m bb : Nat} {ds' : List DC} {vs' : List Value} {B : Nat → Prop} {n c : Nat} {w : World} {xs : List (List DC)} {A : Option Addr} {r : Bool} (hr : allNe ds' n xs = r) (h : Cell B n w (.l 2) (.l xs) (.slice A xs.length c)) (h' : Cells B' m w shThing_ ds' vs') (hb' : Blk w bb 50 vs'.toArray) :
    Calls Tryz.prog 125 #[.slice A xs.length c, .func (.func 123) #[] #[.pointer (some ⟨bb, 0, none⟩)]] w (un.Told w (.bool r)) := by
  subst hr
  have hlen := h.len.2
  unfold maxLen at hlen
  have H := Lib.hid (Gd.of1 h)
  clear h
  have HB' := Lib.hid (Gd.ofC h')
  have HBk := Lib.hid (Gd.ofB hb')
  clear h' hb'
  go_enter Tryz.func125, Tryz.ntmps125
  go_wp2
  go_loopw [9] (fun i wr => ∃ k : Nat, k ≤ xs.length ∧ i = .int .i64 k ∧ (∀ j (h : j < xs.length), j < k → needB (bA ds') xs[j] = true) ∧ Below w.heap.size w wr) (fun i _ => xs.length - (RowKit.intOf i).toNat)
  case atStart => exact ⟨0, Nat.zero_le _, rfl, fun j _ hj => absurd hj (by omega), Below.refl _ _⟩
  case round =>
    obtain ⟨k, hk, rfl, hok, hb⟩ := hrel
    have HOK := Lib.hid hok
    have E1 := Lib.hid hb
    clear hok hb
    by_cases hlt : k < xs.length
    · obtain ⟨m', b, o, us, hm, rfl, _, hbl, hr, hin⟩ := (H.out.below E1.out).now.item k hlt
      obtain rfl : m' = n - 1 := by omega
      have HI := Lib.hid (Gd.ofC hin)
      obtain ⟨lq0, sq1, sq2, xq3, xq4, sq5, Aq0, cq0, ed, rfl, -⟩ := open_Addr hin
      have HR := Lib.hid (show wr.rangeAt b (o + k * 6) _ from hr)
      clear hr hin ed
      cases hf : needB (bA ds') xs[k]
      · go_wp2_with (refine wpList_load_mid rfl 46 (.tmp 11) rfl b (o + k * 6) rfl _ _ HR.out Tryz.underlying46 rfl (by kernel_rfl) ?_)
        go_wp2_with fail
        refine (need_closure hf (HI.out.alloc _).now ((HB'.out.below E1.out).alloc _).now ((HBk.out.below E1.out).alloc _).now).mono ?_
        rintro _ w2 ⟨rfl, hb⟩
        have E2 := Lib.hid (below_then (below_da E1.out (Nat.le_refl _) _) hb (Nat.le_refl _))
        clear hb
        go_wp2
        go_ret
        exact ⟨ret_bool (allNe_no k hlt hf).symm, E2.out⟩
      · go_wp2_with (refine wpList_load_mid rfl 46 (.tmp 11) rfl b (o + k * 6) rfl _ _ HR.out Tryz.underlying46 rfl (by kernel_rfl) ?_)
        go_wp2_with fail
        refine (need_closure hf (HI.out.alloc _).now ((HB'.out.below E1.out).alloc _).now ((HBk.out.below E1.out).alloc _).now).mono ?_
        rintro _ w2 ⟨rfl, hb⟩
        have E2 := Lib.hid (below_then (below_da E1.out (Nat.le_refl _) _) hb (Nat.le_refl _))
        clear hb
        go_wp2
        go_roundw
        case rel => exact ⟨k + 1, by omega, by go_num, fun j h hj => by
          by_cases e : j = k
          · subst e; exact hf
          · exact HOK.out j h (by omega), E2.out⟩
        case measure => simp [RowKit.intOf]; omega
    · go_wp2
      go_ret
      exact ⟨ret_bool (allNe_iff.2 (fun j h => HOK.out j h (by omega))).symm, E1.out⟩
noncomputable def riseAd (n : Nat) (xs : List (List DC)) : Bool := @decide (∀ i (h : i + 1 < xs.length), aheadA (bA xs[i]) (bA xs[i + 1])) (Classical.propDecidable _)
theorem riseAd_iff {n : Nat} {xs : List (List DC)} : riseAd n xs = true ↔ ∀ i (h : i + 1 < xs.length), aheadA (bA xs[i]) (bA xs[i + 1]) := by simp [riseAd]
theorem riseAd_no {n : Nat} {xs : List (List DC)} (i : Nat) (h : i + 1 < xs.length) (hw : ¬ aheadA (bA xs[i]) (bA xs[i + 1])) : riseAd n xs = false := by
  rw [Bool.eq_false_iff]; exact fun hh => hw (riseAd_iff.1 hh i h)
set_option maxHeartbeats 4000000 in
theorem rising_addrs {B : Nat → Prop} {n c : Nat} {w : World} {xs : List (List DC)} {A : Option Addr} {r : Bool} (hr : riseAd n xs = r) (h : Cell B n w (.l 2) (.l xs) (.slice A xs.length c)) :
    Calls Tryz.prog 126 #[.slice A xs.length c, .func (.func 103) #[] #[]] w (un.Told w (.bool r)) := by
  subst hr
  have hlen := h.len.2
  unfold maxLen at hlen
  have H := Lib.hid (Gd.of1 h)
  clear h
  go_enter Tryz.func126, Tryz.ntmps126
  go_wp2
  go_loopw [5] (fun i wr => ∃ k : Nat, 1 ≤ k ∧ k ≤ xs.length + 1 ∧ i = .int .i64 k ∧ (∀ i (h : i + 1 < xs.length), i + 1 < k → aheadA (bA xs[i]) (bA xs[i + 1])) ∧ Below w.heap.size w wr) (fun i _ => xs.length + 1 - (RowKit.intOf i).toNat)
  case atStart => exact ⟨1, by omega, by omega, rfl, fun q _ hq => absurd hq (by omega), Below.refl _ _⟩
  case round =>
    obtain ⟨j, hj1, hj2, rfl, hok, hb⟩ := hrel
    have HOK := Lib.hid hok
    have E1 := Lib.hid hb
    clear hok hb
    by_cases hlt : j < xs.length
    · obtain ⟨m', b, o, us, hm, rfl, _, hbl, hr, hin⟩ := (H.out.below E1.out).now.item j hlt
      obtain rfl : m' = n - 1 := by omega
      obtain ⟨i, hij⟩ : ∃ i, i + 1 = j := ⟨j - 1, by omega⟩
      have hi : i < xs.length := by omega
      have hjI : (j : Int) < xs.length := by omega
      have hiI : (i : Int) < xs.length := by omega
      obtain ⟨m'', b', o', us', hm', e', _, hbl', hr', hin'⟩ := (H.out.below E1.out).now.item i hi
      injection e' with e'; injection e' with e1 e2 _
      subst e1 e2
      obtain rfl : m'' = n - 1 := by omega
      have HI := Lib.hid (Gd.ofC hin)
      have HI' := Lib.hid (Gd.ofC hin')
      obtain ⟨lq0, sq1, sq2, xq3, xq4, sq5, Aq0, cq0, ed, rfl, -⟩ := open_Addr hin
      obtain ⟨lr0, sr1, sr2, xr3, xr4, sr5, Ar0, cr0, ed', rfl, -⟩ := open_Addr hin'
      have HR := Lib.hid (show wr.rangeAt b (o + j * 6) _ from hr)
      have HR' := Lib.hid (show wr.rangeAt b (o + i * 6) _ from hr')
      obtain ⟨cv, hcv⟩ : ∃ cv, cm.orI (cm.looks (bA xs[i]) (bA xs[j])) = cv := ⟨_, rfl⟩
      have HLT : Hid (cv < 0 ↔ aheadA (bA xs[i]) (bA xs[j])) := by rw [← hcv]; exact Iff.rfl
      clear hr hr' hin hin' ed ed' hm hm'
      have ei : (j : Int) - 1 = i := by omega
      have ew : IntKind.i64.wrap ((j : Int) - 1) = i := by rw [IntWalk.i64_left, IntWalk.wrap64_in _ (by omega)]; exact ei
      have hi0 : (0 : Int) ≤ (i : Int) := by omega
      have KC := fun (W' : World) (h : Below wr.heap.size wr W') => cmp_addrs hcv (HI'.out.below h).now (HI.out.below h).now
      have q0 := later_cell (b := b) (o := o + j * 6) hbl (by simpa using HR.out 0 _ rfl)
      have q1 := later_cell (b := b) (o := o + j * 6 + 1) hbl (by simpa using HR.out 1 _ rfl)
      have q2 := later_cell (b := b) (o := o + j * 6 + 2) hbl (by simpa using HR.out 2 _ rfl)
      have q3 := later_cell (b := b) (o := o + j * 6 + 3) hbl (by simpa using HR.out 3 _ rfl)
      have q4 := later_cell (b := b) (o := o + j * 6 + 4) hbl (by simpa using HR.out 4 _ rfl)
      have q5 := later_cell (b := b) (o := o + j * 6 + 5) hbl (by simpa using HR.out 5 _ rfl)
      have p0 := later_cell (b := b) (o := o + i * 6) hbl (by simpa using HR'.out 0 _ rfl)
      have p1 := later_cell (b := b) (o := o + i * 6 + 1) hbl (by simpa using HR'.out 1 _ rfl)
      have p2 := later_cell (b := b) (o := o + i * 6 + 2) hbl (by simpa using HR'.out 2 _ rfl)
      have p3 := later_cell (b := b) (o := o + i * 6 + 3) hbl (by simpa using HR'.out 3 _ rfl)
      have p4 := later_cell (b := b) (o := o + i * 6 + 4) hbl (by simpa using HR'.out 4 _ rfl)
      have p5 := later_cell (b := b) (o := o + i * 6 + 5) hbl (by simpa using HR'.out 5 _ rfl)
      clear hcv
      by_cases hneg : cv < 0
      · go_wp2_with fail
        refine wp_region_later (by kernel_rfl) (by kernel_rfl) ?_
        repeat (go_big_quiet_step ((go_at_call 103; exact later_call (KC _ (later_below _)))))
        refine wpQuiet_nil ?_
        rintro _ ⟨u9, rfl⟩
        have E2 := Lib.hid (below_then E1.out (later_below u9) (Nat.le_refl _))
        generalize later wr u9 = w9 at E2 ⊢
        clear q0 p0 q1 p1 q2 p2 q3 p3 q4 p4 q5 p5 KC
        go_wp2
        go_roundw
        case rel => exact ⟨j + 1, by omega, by omega, by go_num, fun q h hq => by
          by_cases e : q = i
          · subst e; subst hij; exact HLT.out.1 hneg
          · exact HOK.out q h (by omega), E2.out⟩
        case measure => simp [RowKit.intOf]; omega
      · have hge : 0 ≤ cv := by omega
        clear hneg
        go_wp2_with fail
        refine wp_region_later (by kernel_rfl) (by kernel_rfl) ?_
        repeat (go_big_quiet_step ((go_at_call 103; exact later_call (KC _ (later_below _)))))
        refine wpQuiet_nil ?_
        rintro _ ⟨u9, rfl⟩
        have E2 := Lib.hid (below_then E1.out (later_below u9) (Nat.le_refl _))
        generalize later wr u9 = w9 at E2 ⊢
        clear q0 p0 q1 p1 q2 p2 q3 p3 q4 p4 q5 p5 KC
        go_wp2
        go_ret
        exact ⟨ret_bool (riseAd_no i (by omega) (fun hh => by subst hij; have := HLT.out.2 hh; omega)).symm, E2.out⟩
    · go_wp2
      go_ret
      exact ⟨ret_bool (riseAd_iff.2 (fun q h => HOK.out q h (by omega))).symm, E1.out⟩
theorem needsB_eq {n : Nat} {ds' : List DC} {l : List (List DC)} : needsB (bA ds') l = (decide (l.length ≤ 400) && allNe ds' n l && riseAd n l) := by
  rw [Bool.eq_iff_iff]
  simp only [Bool.and_eq_true, decide_eq_true_eq, allNe_iff, riseAd_iff]
  show @decide (needsOk (bA ds') l) (Classical.propDecidable _) = true ↔ _
  rw [@decide_eq_true_iff _ (Classical.propDecidable _)]
  simp only [needsOk, and_assoc]
set_option maxHeartbeats 4000000 in
theorem needs_impl {B : Nat → Prop} {n : Nat} {w : World} {ds : List DC} {vs : List Value} {r : Bool} (hr : needsB (bA ds) (bL (ds.getD 7 z)) = r) (h : Cells B n w shThing_ ds vs) :
    Calls Tryz.prog 102 #[.agg vs.toArray] w (un.Told w (.bool r)) := by
  have HT := Lib.hid (Gd.ofC h)
  obtain ⟨lt0, st1, st2, xt3, xt4, st5, lt6, lt7, At0, ct0, At6, ct6, At7, ct7, rfl, rfl, kt0, kt1, kt2, kt3, kt4, kt5, kt6, kt7⟩ := open_Thing h
  change needsB (bA [.l lt0, .s st1, .s st2, .i xt3, .i xt4, .s st5, .l lt6, .l lt7]) lt7 = r at hr
  rw [needsB_eq (n := n)] at hr
  subst hr
  have hlen := kt7.len.2
  unfold maxLen at hlen
  have H := Lib.hid (Gd.of1 kt7)
  clear h kt0 kt1 kt2 kt3 kt4 kt5 kt6 kt7
  go_enter Tryz.func102, Tryz.ntmps102
  by_cases h4 : lt7.length ≤ 400
  · cases ha : allNe [.l lt0, .s st1, .s st2, .i xt3, .i xt4, .s st5, .l lt6, .l lt7] n lt7
    rotate_left
    · go_wp2_with fail
      refine (every_needs ha (H.out.alloc _).now (HT.out.alloc _).now (Blk.new _ _ _)).mono ?_
      rintro _ w1 ⟨rfl, hb⟩
      have E1 := Lib.hid (below_then (below_a1 _ _) hb (Nat.le_refl _))
      have Bt1 := Lib.hid ((Blk.new w _ _).step hb)
      have rt1 := Bt1.out.cell
      have bt1 := Bt1.out.lt
      have SL1 := Lib.hid ((H.out.alloc _).below hb)
      have ST1 := Lib.hid ((HT.out.alloc _).below hb)
      clear hb H HT
      go_wp2_with fail
      refine (rising_addrs (r := riseAd n lt7) rfl (SL1.out).now).mono ?_
      rintro _ w2 ⟨rfl, hb⟩
      have E2 := Lib.hid (below_then E1.out hb (Nat.le_refl _))
      have Bt2 := Lib.hid ((Bt1.out).step hb)
      have rt2 := Bt2.out.cell
      have bt2 := Bt2.out.lt
      have SL2 := Lib.hid ((SL1.out).below hb)
      have ST2 := Lib.hid ((ST1.out).below hb)
      clear hb Bt1 rt1 bt1 SL1 ST1 E1
      go_wp2
      all_goals go_ret
      all_goals refine ⟨ret_bool ?_, E2.out⟩
      all_goals (simp [ha, h4])
    go_wp2_with fail
    refine (every_needs ha (H.out.alloc _).now (HT.out.alloc _).now (Blk.new _ _ _)).mono ?_
    rintro _ w1 ⟨rfl, hb⟩
    have E1 := Lib.hid (below_then (below_a1 _ _) hb (Nat.le_refl _))
    have Bt1 := Lib.hid ((Blk.new w _ _).step hb)
    have rt1 := Bt1.out.cell
    have bt1 := Bt1.out.lt
    have SL1 := Lib.hid ((H.out.alloc _).below hb)
    have ST1 := Lib.hid ((HT.out.alloc _).below hb)
    clear hb H HT
    go_wp2
    all_goals go_ret
    all_goals refine ⟨ret_bool ?_, E1.out⟩
    all_goals (simp [ha, h4])
  go_wp2
  all_goals go_ret
  all_goals refine ⟨ret_bool ?_, (below_a1 _ _)⟩
  all_goals (simp; try omega)
set_option maxHeartbeats 4000000 in
theorem thing_impl {B : Nat → Prop} {n : Nat} {w : World} {ds : List DC} {vs : List Value} {r : Bool} (hr : thB ds = r) (h : Cells B n w shThing_ ds vs) :
    Calls Tryz.prog 74 #[.agg vs.toArray] w (un.Told w (.bool r)) := by
  subst hr
  have HT := Lib.hid (Gd.ofC h)
  obtain ⟨lt0, st1, st2, xt3, xt4, st5, lt6, lt7, At0, ct0, At6, ct6, At7, ct7, rfl, rfl, kt0, kt1, kt2, kt3, kt4, kt5, kt6, kt7⟩ := open_Thing h
  have HA := Lib.hid (Gd.ofC (show Cells B n w shAddr_ [.l lt0, .s st1, .s st2, .i xt3, .i xt4, .s st5] [.slice At0 lt0.length ct0, .string st1, .string st2, .int .i64 xt3, .int .i64 xt4, .string st5] from ⟨kt0, Cell.mkS kt1, Cell.mkS kt2, Cell.mkI kt3, Cell.mkI kt4, Cell.mkS kt5, trivial⟩))
  have HP := Lib.hid (Gd.of1 kt6)
  obtain ⟨D, hD⟩ : ∃ D, bA [.l lt0, .s st1, .s st2, .i xt3, .i xt4, .s st5] = D := ⟨_, rfl⟩
  have e : thB [.l lt0, .s st1, .s st2, .i xt3, .i xt4, .s st5, .l lt6, .l lt7] = (addrB D && pairsB lt6 && needsB D lt7) := by rw [← hD]; rfl
  have e2 : bA [.l lt0, .s st1, .s st2, .i xt3, .i xt4, .s st5, .l lt6, .l lt7] = D := hD
  rw [e]
  have HN := fun (r : Bool) (hr : needsB D lt7 = r) (w' : World) (hc : Cells B n w' shThing_ [.l lt0, .s st1, .s st2, .i xt3, .i xt4, .s st5, .l lt6, .l lt7] [.slice At0 lt0.length ct0, .string st1, .string st2, .int .i64 xt3, .int .i64 xt4, .string st5, .slice At6 lt6.length ct6, .slice At7 lt7.length ct7]) => needs_impl (r := r) (by rw [← hr, ← hD]; rfl) hc
  clear h kt0 kt1 kt2 kt3 kt4 kt5 kt6 kt7 e e2
  go_enter Tryz.func74, Tryz.ntmps74
  cases ha : addrB D
  rotate_left
  · go_wp2_with fail
    refine (addrRight_impl hD ha (HA.out.alloc _).now).mono ?_
    rintro _ w1 ⟨rfl, hb⟩
    have E1 := Lib.hid (below_then (below_a1 _ _) hb (Nat.le_refl _))
    have Bt1 := Lib.hid ((Blk.new w _ _).step hb)
    have rt1 := Bt1.out.cell
    have bt1 := Bt1.out.lt
    have SA1 := Lib.hid ((HA.out.alloc _).below hb)
    have SP1 := Lib.hid ((HP.out.alloc _).below hb)
    have ST1 := Lib.hid ((HT.out.alloc _).below hb)
    clear hb HA HP HT
    cases hp : pairsB lt6
    rotate_left
    · go_wp2_with fail
      refine (pairs_impl hp (SP1.out).now).mono ?_
      rintro _ w2 ⟨rfl, hb⟩
      have E2 := Lib.hid (below_then E1.out hb (Nat.le_refl _))
      have Bt2 := Lib.hid ((Bt1.out).step hb)
      have rt2 := Bt2.out.cell
      have bt2 := Bt2.out.lt
      have SA2 := Lib.hid ((SA1.out).below hb)
      have SP2 := Lib.hid ((SP1.out).below hb)
      have ST2 := Lib.hid ((ST1.out).below hb)
      clear hb Bt1 rt1 bt1 SA1 SP1 ST1 E1
      go_wp2_with fail
      refine (HN _ rfl _ (ST2.out).now).mono ?_
      rintro _ w3 ⟨rfl, hb⟩
      have E3 := Lib.hid (below_then E2.out hb (Nat.le_refl _))
      have Bt3 := Lib.hid ((Bt2.out).step hb)
      have rt3 := Bt3.out.cell
      have bt3 := Bt3.out.lt
      have SA3 := Lib.hid ((SA2.out).below hb)
      have SP3 := Lib.hid ((SP2.out).below hb)
      have ST3 := Lib.hid ((ST2.out).below hb)
      clear hb Bt2 rt2 bt2 SA2 SP2 ST2 E2
      go_wp2
      all_goals go_ret
      all_goals refine ⟨ret_bool ?_, E3.out⟩
      all_goals (simp [ha, hp])
    go_wp2_with fail
    refine (pairs_impl hp (SP1.out).now).mono ?_
    rintro _ w2 ⟨rfl, hb⟩
    have E2 := Lib.hid (below_then E1.out hb (Nat.le_refl _))
    have Bt2 := Lib.hid ((Bt1.out).step hb)
    have rt2 := Bt2.out.cell
    have bt2 := Bt2.out.lt
    have SA2 := Lib.hid ((SA1.out).below hb)
    have SP2 := Lib.hid ((SP1.out).below hb)
    have ST2 := Lib.hid ((ST1.out).below hb)
    clear hb Bt1 rt1 bt1 SA1 SP1 ST1 E1
    go_wp2
    all_goals go_ret
    all_goals refine ⟨ret_bool ?_, E2.out⟩
    all_goals (simp [ha, hp])
  go_wp2_with fail
  refine (addrRight_impl hD ha (HA.out.alloc _).now).mono ?_
  rintro _ w1 ⟨rfl, hb⟩
  have E1 := Lib.hid (below_then (below_a1 _ _) hb (Nat.le_refl _))
  have Bt1 := Lib.hid ((Blk.new w _ _).step hb)
  have rt1 := Bt1.out.cell
  have bt1 := Bt1.out.lt
  have SA1 := Lib.hid ((HA.out.alloc _).below hb)
  have SP1 := Lib.hid ((HP.out.alloc _).below hb)
  have ST1 := Lib.hid ((HT.out.alloc _).below hb)
  clear hb HA HP HT
  go_wp2
  all_goals go_ret
  all_goals refine ⟨ret_bool ?_, E1.out⟩
  all_goals (simp [ha])
end Go.Proofs.YtnjpddbpnmgcpaaGreatDoor.cf
