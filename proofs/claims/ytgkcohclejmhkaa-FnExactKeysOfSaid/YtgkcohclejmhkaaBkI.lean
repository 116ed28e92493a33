/- BlockRight of the program. -/
import Derived.Test.YtgkcohclejmhkaaBkF
namespace Go.Proofs.Ytgkcohclejmhkaa.cf
open ad mem vl ex un cm
open Go.ChangeShapes Go.WideShapes Go.ChangeAt Go.RowKit Go.Lib
set_option linter.unusedVariables false
set_option maxRecDepth 8000
set_option linter.unusedSimpArgs false

noncomputable def allP (c : Int) (k n : Nat) (xs : List (List DC)) : Bool := @decide (∀ i (h : i < xs.length), fitP c k (bP (n - 1) xs[i]) = true) (Classical.propDecidable _)
noncomputable def riseP (n : Nat) (xs : List (List DC)) : Bool := @decide (∀ i (h : i + 1 < xs.length), ltS (bP (n - 1) xs[i]).name (bP (n - 1) xs[i + 1]).name) (Classical.propDecidable _)
theorem allP_iff {c : Int} {k n : Nat} {xs : List (List DC)} : allP c k n xs = true ↔ ∀ i (h : i < xs.length), fitP c k (bP (n - 1) xs[i]) = true := by simp [allP]
theorem allP_no {c : Int} {k n : Nat} {xs : List (List DC)} (i : Nat) (h : i < xs.length) (hw : fitP c k (bP (n - 1) xs[i]) = false) : allP c k n xs = false := by
  rw [Bool.eq_false_iff]; exact fun hh => by have := allP_iff.1 hh i h; simp [hw] at this
theorem riseP_iff {n : Nat} {xs : List (List DC)} : riseP n xs = true ↔ ∀ i (h : i + 1 < xs.length), ltS (bP (n - 1) xs[i]).name (bP (n - 1) xs[i + 1]).name := by simp [riseP]
theorem riseP_no {n : Nat} {xs : List (List DC)} (i : Nat) (h : i + 1 < xs.length) (hw : ¬ ltS (bP (n - 1) xs[i]).name (bP (n - 1) xs[i + 1]).name) : riseP n xs = false := by
  rw [Bool.eq_false_iff]; exact fun hh => hw (riseP_iff.1 hh i h)
set_option maxHeartbeats 4000000 in
theorem every_props {B B' : Nat → Prop} {n m c bb : Nat} {w : World} {xs : List (List DC)} {A : Option Addr} {ds' : List DC} {vs' : List Value} {r : Bool} (hr : allP (bI (ds'.getD 6 z)) (bL (ds'.getD 7 z)).length n xs = r)
    (h : Cell B n w (.l 4) (.l xs) (.slice A xs.length c)) (h' : Cells B' m w shBlock_ ds' vs') (hb : Blk w bb 63 vs'.toArray) :
    Calls Try.prog 129 #[.slice A xs.length c, .func (.func 127) #[] #[.pointer (some ⟨bb, 0, none⟩)]] w (un.Told w (.bool r)) := by
  subst hr
  have hlen := h.len.2
  unfold maxLen at hlen
  have H := Lib.hid (Gd.of1 h)
  have HB' := Lib.hid (Gd.ofC h')
  have HBk := Lib.hid (Gd.ofB hb)
  clear h h' hb
  go_enter Try.func129, Try.ntmps129
  go_wp2
  go_loopw [9] (fun i wr => ∃ k : Nat, k ≤ xs.length ∧ i = .int .i64 k ∧ (∀ j (h : j < xs.length), j < k → fitP (bI (ds'.getD 6 z)) (bL (ds'.getD 7 z)).length (bP (n - 1) xs[j]) = true) ∧ Below w.heap.size w wr) (fun i _ => xs.length - (RowKit.intOf i).toNat)
  case atStart => exact ⟨0, Nat.zero_le _, rfl, fun j _ hj => absurd hj (by omega), Below.refl _ _⟩
  case round =>
    obtain ⟨k, hk, rfl, hok, hb⟩ := hrel
    have HOK := Lib.hid hok
    have E1 := Lib.hid hb
    clear hok hb
    by_cases hlt : k < xs.length
    · obtain ⟨m', b, o, us, hm, rfl, _, hbl, hr, hin⟩ := (H.out.below E1.out).now.item k hlt
      obtain rfl : m' = n - 1 := by omega
      have HI := Lib.hid (Gd.ofC hin)
      obtain ⟨sq0, xq1, xq2, xq3, sq4, lq5, sq6, sq7, xq8, xq9, sq10, sq11, lq12, Aq5, cq5, Aq12, cq12, ed, rfl, -⟩ := open_Prop hin
      have HR := Lib.hid hr
      have HED := Lib.hid ed
      clear hr hin ed
      cases hf : fitP (bI (ds'.getD 6 z)) (bL (ds'.getD 7 z)).length (bP (n - 1) xs[k])
      · go_wp2_with (refine wpList_load_mid rfl 144 (.tmp 11) rfl b (o + k * 13) rfl _ _ HR.out Try.underlying144 rfl (by kernel_rfl) ?_)
        go_wp2_with fail
        refine (fit_closure hf (HI.out.alloc _).now ((HB'.out.below E1.out).alloc _).now ((HBk.out.below E1.out).alloc _).now).mono ?_
        rintro _ w2 ⟨rfl, hb⟩
        have E2 := Lib.hid (below_then (below_da E1.out (Nat.le_refl _) _) hb (Nat.le_refl _))
        clear hb
        go_wp2
        go_ret
        exact ⟨ret_bool (allP_no k hlt hf).symm, E2.out⟩
      · go_wp2_with (refine wpList_load_mid rfl 144 (.tmp 11) rfl b (o + k * 13) rfl _ _ HR.out Try.underlying144 rfl (by kernel_rfl) ?_)
        go_wp2_with fail
        refine (fit_closure hf (HI.out.alloc _).now ((HB'.out.below E1.out).alloc _).now ((HBk.out.below E1.out).alloc _).now).mono ?_
        rintro _ w2 ⟨rfl, hb⟩
        have E2 := Lib.hid (below_then (below_da E1.out (Nat.le_refl _) _) hb (Nat.le_refl _))
        clear hb
        go_wp2
        go_roundw
        case rel => exact ⟨k + 1, by omega, by go_num, fun j h hj => by
          by_cases e : j = k
          · subst e; exact hf
          · exact HOK.out j h (by omega), E2.out⟩
        case measure => simp [RowKit.intOf]; omega
    · go_wp2
      go_ret
      exact ⟨ret_bool (allP_iff.2 (fun j h => HOK.out j h (by omega))).symm, E1.out⟩
set_option maxHeartbeats 1000000 in
theorem compare_props {B B' : Nat → Prop} {n m : Nat} {w : World} {ds ds' : List DC} {vs vs' : List Value} {cv : Int} (hr : cm.cmpS (bS (ds.getD 0 z)) (bS (ds'.getD 0 z)) = cv) (h : Cells B n w shProp_ ds vs) (h' : Cells B' m w shProp_ ds' vs') :
    Calls Try.prog 131 #[.agg vs.toArray, .agg vs'.toArray] w (un.Told w (.int .i64 cv)) := by
  subst hr
  obtain ⟨sq0, xq1, xq2, xq3, sq4, lq5, sq6, sq7, xq8, xq9, sq10, sq11, lq12, Aq5, cq5, Aq12, cq12, rfl, rfl, -⟩ := open_Prop h
  obtain ⟨sr0, xr1, xr2, xr3, sr4, lr5, sr6, sr7, xr8, xr9, sr10, sr11, lr12, Ar5, cr5, Ar12, cr12, rfl, rfl, -⟩ := open_Prop h'
  clear h h'
  go_enter Try.func131, Try.ntmps131
  go_wp2_with (go_at_call 121; refine (cm.cmp_s _ _ _).mono ?_; rintro _ _ ⟨rfl, rfl⟩)
  go_ret
  exact ⟨rfl, below_a2 _ _ _⟩
set_option maxHeartbeats 4000000 in
theorem rising_props {B : Nat → Prop} {n c : Nat} {w : World} {xs : List (List DC)} {A : Option Addr} {r : Bool} (hr : riseP n xs = r) (h : Cell B n w (.l 4) (.l xs) (.slice A xs.length c)) :
    Calls Try.prog 130 #[.slice A xs.length c, .func (.func 131) #[] #[]] w (un.Told w (.bool r)) := by
  subst hr
  have hlen := h.len.2
  unfold maxLen at hlen
  have H := Lib.hid (Gd.of1 h)
  clear h
  go_enter Try.func130, Try.ntmps130
  go_wp2
  go_loopw [5] (fun i wr => ∃ k : Nat, 1 ≤ k ∧ k ≤ xs.length + 1 ∧ i = .int .i64 k ∧ (∀ q (h : q + 1 < xs.length), q + 1 < k → ltS (bP (n - 1) xs[q]).name (bP (n - 1) xs[q + 1]).name) ∧ Below w.heap.size w wr) (fun i _ => xs.length + 1 - (RowKit.intOf i).toNat)
  case atStart => exact ⟨1, by omega, by omega, rfl, fun q _ hq => absurd hq (by omega), Below.refl _ _⟩
  case round =>
    obtain ⟨j, hj1, hj2, rfl, hok, hb⟩ := hrel
    have HOK := Lib.hid hok
    have E1 := Lib.hid hb
    clear hok hb
    by_cases hlt : j < xs.length
    · obtain ⟨m', b, o, us, hm, rfl, _, hbl, hr, hin⟩ := (H.out.below E1.out).now.item j hlt
      obtain rfl : m' = n - 1 := by omega
      obtain ⟨i, hij⟩ : ∃ i, i + 1 = j := ⟨j - 1, by omega⟩
      have hi : i < xs.length := by omega
      have hjI : (j : Int) < xs.length := by omega
      have hiI : (i : Int) < xs.length := by omega
      obtain ⟨m'', b', o', us', hm', e', _, hbl', hr', hin'⟩ := (H.out.below E1.out).now.item i hi
      injection e' with e'; injection e' with e1 e2 _
      subst e1 e2
      obtain rfl : m'' = n - 1 := by omega
      have HI := Lib.hid (Gd.ofC hin)
      have HI' := Lib.hid (Gd.ofC hin')
      obtain ⟨sq0, xq1, xq2, xq3, sq4, lq5, sq6, sq7, xq8, xq9, sq10, sq11, lq12, Aq5, cq5, Aq12, cq12, ed, rfl, -⟩ := open_Prop hin
      obtain ⟨sr0, xr1, xr2, xr3, sr4, lr5, sr6, sr7, xr8, xr9, sr10, sr11, lr12, Ar5, cr5, Ar12, cr12, ed', rfl, -⟩ := open_Prop hin'
      have HR := Lib.hid (show wr.rangeAt b (o + j * 13) _ from hr)
      have HR' := Lib.hid (show wr.rangeAt b (o + i * 13) _ from hr')
      have hnj : bS (xs[j].getD 0 z) = sq0 := by rw [ed]; rfl
      have hni : bS (xs[i].getD 0 z) = sr0 := by rw [ed']; rfl
      obtain ⟨cv, hcv⟩ : ∃ cv, cm.cmpS (bS (xs[i].getD 0 z)) (bS (xs[j].getD 0 z)) = cv := ⟨_, rfl⟩
      have HLT : Hid (cv < 0 ↔ ltS (bP (n - 1) xs[i]).name (bP (n - 1) xs[j]).name) := by rw [← hcv]; exact cm.cmpS_neg
      clear hr hr' hin hin' ed ed' hm hm' hnj hni
      have ei : (j : Int) - 1 = i := by omega
      have ew : IntKind.i64.wrap ((j : Int) - 1) = i := by rw [IntWalk.i64_left, IntWalk.wrap64_in _ (by omega)]; exact ei
      have hi0 : (0 : Int) ≤ (i : Int) := by omega
      have KC := fun (W' : World) (h : Below wr.heap.size wr W') => compare_props hcv (HI'.out.below h).now (HI.out.below h).now
      have q0 := later_cell (b := b) (o := o + j * 13) hbl (by simpa using HR.out 0 _ rfl)
      have q1 := later_cell (b := b) (o := o + j * 13 + 1) hbl (by simpa using HR.out 1 _ rfl)
      have q2 := later_cell (b := b) (o := o + j * 13 + 2) hbl (by simpa using HR.out 2 _ rfl)
      have q3 := later_cell (b := b) (o := o + j * 13 + 3) hbl (by simpa using HR.out 3 _ rfl)
      have q4 := later_cell (b := b) (o := o + j * 13 + 4) hbl (by simpa using HR.out 4 _ rfl)
      have q5 := later_cell (b := b) (o := o + j * 13 + 5) hbl (by simpa using HR.out 5 _ rfl)
      have q6 := later_cell (b := b) (o := o + j * 13 + 6) hbl (by simpa using HR.out 6 _ rfl)
      have q7 := later_cell (b := b) (o := o + j * 13 + 7) hbl (by simpa using HR.out 7 _ rfl)
      have q8 := later_cell (b := b) (o := o + j * 13 + 8) hbl (by simpa using HR.out 8 _ rfl)
      have q9 := later_cell (b := b) (o := o + j * 13 + 9) hbl (by simpa using HR.out 9 _ rfl)
      have q10 := later_cell (b := b) (o := o + j * 13 + 10) hbl (by simpa using HR.out 10 _ rfl)
      have q11 := later_cell (b := b) (o := o + j * 13 + 11) hbl (by simpa using HR.out 11 _ rfl)
      have q12 := later_cell (b := b) (o := o + j * 13 + 12) hbl (by simpa using HR.out 12 _ rfl)
      have p0 := later_cell (b := b) (o := o + i * 13) hbl (by simpa using HR'.out 0 _ rfl)
      have p1 := later_cell (b := b) (o := o + i * 13 + 1) hbl (by simpa using HR'.out 1 _ rfl)
      have p2 := later_cell (b := b) (o := o + i * 13 + 2) hbl (by simpa using HR'.out 2 _ rfl)
      have p3 := later_cell (b := b) (o := o + i * 13 + 3) hbl (by simpa using HR'.out 3 _ rfl)
      have p4 := later_cell (b := b) (o := o + i * 13 + 4) hbl (by simpa using HR'.out 4 _ rfl)
      have p5 := later_cell (b := b) (o := o + i * 13 + 5) hbl (by simpa using HR'.out 5 _ rfl)
      have p6 := later_cell (b := b) (o := o + i * 13 + 6) hbl (by simpa using HR'.out 6 _ rfl)
      have p7 := later_cell (b := b) (o := o + i * 13 + 7) hbl (by simpa using HR'.out 7 _ rfl)
      have p8 := later_cell (b := b) (o := o + i * 13 + 8) hbl (by simpa using HR'.out 8 _ rfl)
      have p9 := later_cell (b := b) (o := o + i * 13 + 9) hbl (by simpa using HR'.out 9 _ rfl)
      have p10 := later_cell (b := b) (o := o + i * 13 + 10) hbl (by simpa using HR'.out 10 _ rfl)
      have p11 := later_cell (b := b) (o := o + i * 13 + 11) hbl (by simpa using HR'.out 11 _ rfl)
      have p12 := later_cell (b := b) (o := o + i * 13 + 12) hbl (by simpa using HR'.out 12 _ rfl)
      clear hcv
      by_cases hneg : cv < 0
      · go_wp2_with fail
        refine wp_region_later (by kernel_rfl) (by kernel_rfl) ?_
        repeat (go_big_quiet_step ((go_at_call 131; exact later_call (KC _ (later_below _)))))
        refine wpQuiet_nil ?_
        rintro _ ⟨u9, rfl⟩
        have E2 := Lib.hid (below_then E1.out (later_below u9) (Nat.le_refl _))
        generalize later wr u9 = w9 at E2 ⊢
        clear q0 p0 q1 p1 q2 p2 q3 p3 q4 p4 q5 p5 q6 p6 q7 p7 q8 p8 q9 p9 q10 p10 q11 p11 q12 p12 KC
        go_wp2
        go_roundw
        case rel => exact ⟨j + 1, by omega, by omega, by go_num, fun q h hq => by
          by_cases e : q = i
          · subst e; subst hij; exact HLT.out.1 hneg
          · exact HOK.out q h (by omega), E2.out⟩
        case measure => simp [RowKit.intOf]; omega
      · have hge : 0 ≤ cv := by omega
        have HNG := Lib.hid hneg
        clear hneg
        go_wp2_with fail
        refine wp_region_later (by kernel_rfl) (by kernel_rfl) ?_
        repeat (go_big_quiet_step ((go_at_call 131; exact later_call (KC _ (later_below _)))))
        refine wpQuiet_nil ?_
        rintro _ ⟨u9, rfl⟩
        have E2 := Lib.hid (below_then E1.out (later_below u9) (Nat.le_refl _))
        generalize later wr u9 = w9 at E2 ⊢
        clear q0 p0 q1 p1 q2 p2 q3 p3 q4 p4 q5 p5 q6 p6 q7 p7 q8 p8 q9 p9 q10 p10 q11 p11 q12 p12 KC
        go_wp2
        go_ret
        exact ⟨ret_bool (riseP_no i (by omega) (fun hh => by subst hij; have := HLT.out.2 hh; omega)).symm, E2.out⟩
    · go_wp2
      go_ret
      exact ⟨ret_bool (riseP_iff.2 (fun q h => HOK.out q h (by omega))).symm, E1.out⟩
set_option maxHeartbeats 4000000 in
theorem props_impl {B : Nat → Prop} {n : Nat} {w : World} {ds : List DC} {vs : List Value} {r : Bool} (hr : (decide ((bL (ds.getD 8 z)).length ≤ 4) && allP (bI (ds.getD 6 z)) (bL (ds.getD 7 z)).length n (bL (ds.getD 8 z)) && riseP n (bL (ds.getD 8 z))) = r) (h : Cells B n w shBlock_ ds vs) :
    Calls Try.prog 110 #[.agg vs.toArray] w (un.Told w (.bool r)) := by
  subst hr
  have HB' := Lib.hid (Gd.ofC h)
  obtain ⟨l0, s1, s2, x3, x4, s5, x6, l7, l8, A0, c0, A7, c7, A8, c8, rfl, rfl, k0, k1, k2, k3, k4, k5, k6, k7, k8⟩ := open_Block h
  have hlen := k8.len.2
  unfold maxLen at hlen
  have HP := Lib.hid (Gd.of1 k8)
  clear h k0 k1 k2 k3 k4 k5 k6 k7 k8
  show Calls _ _ _ _ (un.Told w (.bool (decide (l8.length ≤ 4) && allP x6 l7.length n l8 && riseP n l8)))
  have hmf : ∀ (fn : Fn) (first cap : Array Value) (w : World), (Instr.makeFunc fn first cap).run Try.prog w = .ok (.func fn first cap) w := fun _ _ _ _ => rfl
  go_enter Try.func110, Try.ntmps110
  by_cases h4 : l8.length ≤ 4
  · cases hap : allP x6 l7.length n l8
    rotate_left
    · go_wp2_with fail
      refine (every_props (ds' := [.l l0, .s s1, .s s2, .i x3, .i x4, .s s5, .i x6, .l l7, .l l8]) hap (HP.out.alloc _).now (HB'.out.alloc _).now (Blk.new _ _ _)).mono ?_
      rintro _ w1 ⟨rfl, hb⟩
      have E1 := Lib.hid (below_then (below_a1 _ _) hb (Nat.le_refl _))
      have Bb1 := Lib.hid ((Blk.new w _ _).step hb)
      have rb1 := Bb1.out.cell
      have bb1 := Bb1.out.lt
      have SP1 := Lib.hid ((HP.out.alloc _).below hb)
      have SB1 := Lib.hid ((HB'.out.alloc _).below hb)
      clear hb HP HB'
      cases hri : riseP n l8
      rotate_left
      · go_wp2_with fail
        refine (rising_props hri (SP1.out).now).mono ?_
        rintro _ w2 ⟨rfl, hb⟩
        have E2 := Lib.hid (below_then E1.out hb (Nat.le_refl _))
        have Bb2 := Lib.hid ((Bb1.out).step hb)
        have rb2 := Bb2.out.cell
        have bb2 := Bb2.out.lt
        have SP2 := Lib.hid ((SP1.out).below hb)
        have SB2 := Lib.hid ((SB1.out).below hb)
        clear hb Bb1 rb1 bb1 SP1 SB1 E1
        go_wp2
        all_goals go_ret
        all_goals refine ⟨ret_bool ?_, E2.out⟩
        all_goals (simp [h4, hap, hri])
      go_wp2_with fail
      refine (rising_props hri (SP1.out).now).mono ?_
      rintro _ w2 ⟨rfl, hb⟩
      have E2 := Lib.hid (below_then E1.out hb (Nat.le_refl _))
      have Bb2 := Lib.hid ((Bb1.out).step hb)
      have rb2 := Bb2.out.cell
      have bb2 := Bb2.out.lt
      have SP2 := Lib.hid ((SP1.out).below hb)
      have SB2 := Lib.hid ((SB1.out).below hb)
      clear hb Bb1 rb1 bb1 SP1 SB1 E1
      go_wp2
      all_goals go_ret
      all_goals refine ⟨ret_bool ?_, E2.out⟩
      all_goals (simp [h4, hap, hri])
    go_wp2_with fail
    refine (every_props (ds' := [.l l0, .s s1, .s s2, .i x3, .i x4, .s s5, .i x6, .l l7, .l l8]) hap (HP.out.alloc _).now (HB'.out.alloc _).now (Blk.new _ _ _)).mono ?_
    rintro _ w1 ⟨rfl, hb⟩
    have E1 := Lib.hid (below_then (below_a1 _ _) hb (Nat.le_refl _))
    have Bb1 := Lib.hid ((Blk.new w _ _).step hb)
    have rb1 := Bb1.out.cell
    have bb1 := Bb1.out.lt
    have SP1 := Lib.hid ((HP.out.alloc _).below hb)
    have SB1 := Lib.hid ((HB'.out.alloc _).below hb)
    clear hb HP HB'
    go_wp2
    all_goals go_ret
    all_goals refine ⟨ret_bool ?_, E1.out⟩
    all_goals (simp [hap])
  have h4' : 4 < l8.length := by omega
  go_wp2
  all_goals go_ret
  all_goals refine ⟨ret_bool ?_, (below_a1 _ _)⟩
  all_goals (simp; try omega)
theorem keys_low {c : Int} {l : List ByteArray} (h : keysB c l = true) : -1 ≤ c := by
  rcases keysB_iff.1 h with ⟨_, h1, _⟩ | ⟨_, h1, _⟩ <;> omega
theorem fit_iff {c : Int} {k : Nat} {p : PropD} (hc : -1 ≤ c) : fitP c k p = true ↔ propOk c k p := by
  simp only [fitP, fitsB, propOk, Bool.and_eq_true, Bool.or_eq_true, Bool.not_eq_true', beq_eq_false_iff_ne, ne_eq]
  constructor
  · rintro ⟨h1, ⟨h2, h3⟩, h4⟩
    exact ⟨h1, h2, fun h => by rcases h3 with h3 | h3; exact absurd (by omega) h3; exact h3, fun h => by rcases h4 with h4 | h4; exact absurd h h4; exact h4⟩
  · rintro ⟨h1, h2, h3, h4⟩
    refine ⟨h1, ⟨h2, ?_⟩, ?_⟩
    · by_cases h : c = -1
      · exact .inr (h3 (by omega))
      · exact .inl h
    · by_cases h : k = 0
      · exact .inr (h4 h)
      · exact .inl h
theorem blockB_eq {n : Nat} {ds : List DC} : blockB (bB n ds) = (addrB (bA ds) && decide ((bA ds).kind = 0) && keysB (bI (ds.getD 6 z)) (bStrs (bL (ds.getD 7 z))) && (decide ((bL (ds.getD 8 z)).length ≤ 4) && allP (bI (ds.getD 6 z)) (bL (ds.getD 7 z)).length n (bL (ds.getD 8 z)) && riseP n (bL (ds.getD 8 z)))) := by
  rw [Bool.eq_iff_iff]
  simp only [Bool.and_eq_true, decide_eq_true_eq, allP_iff, riseP_iff]
  have hb : blockB (bB n ds) = true ↔ blockOk (bB n ds) := by simp [blockB]
  rw [hb]
  simp only [blockOk, bB, risePr, List.length_map, List.getElem_map, bStrs_len]
  constructor
  · rintro ⟨h1, h2, h3, h4, h5, h6⟩
    have hk := keysB_yes h3
    exact ⟨⟨⟨h1, h2⟩, hk⟩, ⟨h4, fun i h => (fit_iff (keys_low hk)).2 (h5 i h)⟩, h6⟩
  · rintro ⟨⟨⟨h1, h2⟩, h3⟩, ⟨h4, h5⟩, h6⟩
    exact ⟨h1, h2, keysB_iff.1 h3, h4, fun i h => (fit_iff (keys_low h3)).1 (h5 i h), h6⟩
set_option maxHeartbeats 4000000 in
theorem block_impl {B : Nat → Prop} {n : Nat} {w : World} {ds : List DC} {vs : List Value} {D : BlockD} {r : Bool} (hD : bB n ds = D) (hr : blockB D = r) (h : Cells B n w shBlock_ ds vs) :
    Calls Try.prog 68 #[.agg vs.toArray] w (un.Told w (.bool r)) := by
  subst hD hr
  have HB' := Lib.hid (Gd.ofC h)
  obtain ⟨l0, s1, s2, x3, x4, s5, x6, l7, l8, A0, c0, A7, c7, A8, c8, rfl, rfl, k0, k1, k2, k3, k4, k5, k6, k7, k8⟩ := open_Block h
  have HA := Lib.hid (Gd.ofC (show Cells B n w shAddr_ [.l l0, .s s1, .s s2, .i x3, .i x4, .s s5] [.slice A0 l0.length c0, .string s1, .string s2, .int .i64 x3, .int .i64 x4, .string s5] from ⟨k0, Cell.mkS k1, Cell.mkS k2, Cell.mkI k3, Cell.mkI k4, Cell.mkS k5, trivial⟩))
  rw [blockB_eq]
  obtain ⟨DA, hA⟩ : ∃ A, bA [.l l0, .s s1, .s s2, .i x3, .i x4, .s s5] = A := ⟨_, rfl⟩
  have hA' : bA [.l l0, .s s1, .s s2, .i x3, .i x4, .s s5, .i x6, .l l7, .l l8] = DA := hA
  have ekd : DA.kind = x3 := by rw [← hA]; rfl
  rw [hA', ekd]
  clear h k0 k1 k2 k3 k4 k5 k6 k7 k8 ekd hA'
  show Calls _ _ _ _ (un.Told w (.bool (addrB DA && decide (x3 = 0) && keysB x6 (bStrs l7) && (decide (l8.length ≤ 4) && allP x6 l7.length n l8 && riseP n l8))))
  go_enter Try.func68, Try.ntmps68
  cases ha : addrB DA
  · go_wp2_with fail
    refine (addrRight_impl hA ha (HA.out.alloc _).now).mono ?_
    rintro _ w1 ⟨rfl, hb⟩
    have E1 := Lib.hid (below_then (below_a1 _ _) hb (Nat.le_refl _))
    have Bb1 := Lib.hid ((Blk.new w _ _).step hb)
    have rb1 := Bb1.out.cell
    have bb1 := Bb1.out.lt
    have SA1 := Lib.hid ((HA.out.alloc _).below hb)
    have SB1 := Lib.hid ((HB'.out.alloc _).below hb)
    clear hb HA HB'
    go_wp2
    all_goals go_ret
    all_goals refine ⟨ret_bool ?_, E1.out⟩
    all_goals (simp [ha])
  go_wp2_with fail
  refine (addrRight_impl hA ha (HA.out.alloc _).now).mono ?_
  rintro _ w1 ⟨rfl, hb⟩
  have E1 := Lib.hid (below_then (below_a1 _ _) hb (Nat.le_refl _))
  have Bb1 := Lib.hid ((Blk.new w _ _).step hb)
  have rb1 := Bb1.out.cell
  have bb1 := Bb1.out.lt
  have SA1 := Lib.hid ((HA.out.alloc _).below hb)
  have SB1 := Lib.hid ((HB'.out.alloc _).below hb)
  clear hb HA HB'
  by_cases hk : x3 ≠ 0
  · go_wp2
    all_goals go_ret
    all_goals refine ⟨ret_bool ?_, E1.out⟩
    all_goals (simp [ha, hk])
  obtain rfl : x3 = 0 := by omega
  clear hk
  cases hy : keysB x6 (bStrs l7)
  · go_wp2_with fail
    refine (keys_impl (D := bB n [.l l0, .s s1, .s s2, .i 0, .i x4, .s s5, .i x6, .l l7, .l l8]) rfl hy (SB1.out).now).mono ?_
    rintro _ w2 ⟨rfl, hb⟩
    have E2 := Lib.hid (below_then E1.out hb (Nat.le_refl _))
    have Bb2 := Lib.hid ((Bb1.out).step hb)
    have rb2 := Bb2.out.cell
    have bb2 := Bb2.out.lt
    have SA2 := Lib.hid ((SA1.out).below hb)
    have SB2 := Lib.hid ((SB1.out).below hb)
    clear hb Bb1 rb1 bb1 SA1 SB1 E1
    go_wp2
    all_goals go_ret
    all_goals refine ⟨ret_bool ?_, E2.out⟩
    all_goals (simp [ha, hy])
  go_wp2_with fail
  refine (keys_impl (D := bB n [.l l0, .s s1, .s s2, .i 0, .i x4, .s s5, .i x6, .l l7, .l l8]) rfl hy (SB1.out).now).mono ?_
  rintro _ w2 ⟨rfl, hb⟩
  have E2 := Lib.hid (below_then E1.out hb (Nat.le_refl _))
  have Bb2 := Lib.hid ((Bb1.out).step hb)
  have rb2 := Bb2.out.cell
  have bb2 := Bb2.out.lt
  have SA2 := Lib.hid ((SA1.out).below hb)
  have SB2 := Lib.hid ((SB1.out).below hb)
  clear hb Bb1 rb1 bb1 SA1 SB1 E1
  go_wp2_with fail
  refine (props_impl rfl (SB2.out).now).mono ?_
  rintro _ w3 ⟨rfl, hb⟩
  have E3 := Lib.hid (below_then E2.out hb (Nat.le_refl _))
  have Bb3 := Lib.hid ((Bb2.out).step hb)
  have rb3 := Bb3.out.cell
  have bb3 := Bb3.out.lt
  have SA3 := Lib.hid ((SA2.out).below hb)
  have SB3 := Lib.hid ((SB2.out).below hb)
  clear hb Bb2 rb2 bb2 SA2 SB2 E2
  go_wp2
  all_goals go_ret
  all_goals refine ⟨ret_bool ?_, E3.out⟩
  all_goals (simp [ha, hy]; try rfl)
end Go.Proofs.Ytgkcohclejmhkaa.cf
