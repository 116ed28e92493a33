/- Pairs of a thing, of the program. ThingRight of the program. ThingRight of the model. -/
import Derived.Test.YtflfnekaiaplfaaGreatBr
import Derived.Test.YtflfnekaiaplfaaGreatVlI
import Derived.Test.YtflfnekaiaplfaaGreatGd
import Derived.BigQuiet
import Derived.BigRegion
import Derived.Outline
namespace Go.Proofs.YtflfnekaiaplfaaGreat.cf
open ad mem vl ex un cm
open Go.ChangeShapes Go.WideShapes Go.ChangeAt Go.RowKit Go.Lib
set_option linter.unusedVariables false
set_option maxRecDepth 8000
set_option linter.unusedSimpArgs false

theorem val_in {B : Nat → Prop} {n : Nat} {w : World} {ds : List DC} {vs : List Value} (h : Cells B n w shValue_ ds vs) : vs = [.int .i64 (bV ds).kind, .int .i64 (bV ds).n, .string (bV ds).text] ∧ (bV ds).text.size ≤ maxLen := by
  obtain ⟨x0, x1, s2, rfl, rfl, k0, k1, k2⟩ := open_Value h
  exact ⟨rfl, k2⟩
theorem valRight_impl {B : Nat → Prop} {n : Nat} {w : World} {ds : List DC} {vs : List Value} {r : Bool} (hr : valB (bV ds) = r) (h : Cells B n w shValue_ ds vs) :
    Calls Tryz.prog 98 #[.agg vs.toArray] w (un.Told w (.bool r)) := by
  subst hr; obtain ⟨rfl, h1⟩ := val_in h; exact vl.right_impl _ w h1
theorem valRight_spec {B : Nat → Prop} {n : Nat} {w : World} {ds : List DC} {vs : List Value} {r : Bool} (hr : valB (bV ds) = r) (h : Cells B n w shValue_ ds vs) :
    Calls Tryz.prog 71 #[.agg vs.toArray] w (un.Told w (.bool r)) := by
  subst hr; obtain ⟨rfl, h1⟩ := val_in h; exact vl.right_spec _ w h1
/-- a right pair. -/
noncomputable def pairB (ds : List DC) : Bool := wordB (bS (ds.getD 0 z)) && valB (bV (ds.drop 1))
def namP (ds : List DC) : ByteArray := bS (ds.getD 0 z)
def pairsOk (l : List (List DC)) : Prop := l.length ≤ 4 ∧ (∀ i (h : i < l.length), pairB l[i] = true) ∧ ∀ i (h : i + 1 < l.length), ltS (namP l[i]) (namP l[i + 1])
noncomputable def pairsB (l : List (List DC)) : Bool := @decide (pairsOk l) (Classical.propDecidable _)
noncomputable def needB (a : AddrD) (ds : List DC) : Bool := addrB (bA ds) && !adl.eqA (bA ds) a
def needsOk (a : AddrD) (l : List (List DC)) : Prop := l.length ≤ 400 ∧ (∀ i (h : i < l.length), needB a l[i] = true) ∧ ∀ i (h : i + 1 < l.length), aheadA (bA l[i]) (bA l[i + 1])
noncomputable def needsB (a : AddrD) (l : List (List DC)) : Bool := @decide (needsOk a l) (Classical.propDecidable _)
/-- a right thing. -/
noncomputable def thB (ds : List DC) : Bool := addrB (bA ds) && pairsB (bL (ds.getD 6 z)) && needsB (bA ds) (bL (ds.getD 7 z))
theorem pairsB_no {l : List (List DC)} (h : ¬ pairsOk l) : pairsB l = false := by simp [pairsB, h]
theorem pairsB_yes {l : List (List DC)} (h : pairsOk l) : pairsB l = true := by simp [pairsB, h]
theorem needsB_no {a : AddrD} {l : List (List DC)} (h : ¬ needsOk a l) : needsB a l = false := by simp [needsB, h]
theorem needsB_yes {a : AddrD} {l : List (List DC)} (h : needsOk a l) : needsB a l = true := by simp [needsB, h]
set_option maxHeartbeats 2000000 in
theorem pair_impl {B : Nat → Prop} {n : Nat} {w : World} {ds : List DC} {vs : List Value} {r : Bool} (hr : pairB ds = r) (h : Cells B n w shPair_ ds vs) :
    Calls Tryz.prog 82 #[.agg vs.toArray] w (un.Told w (.bool r)) := by
  subst hr
  obtain ⟨sq0, xq1, xq2, sq3, rfl, rfl, k0, k1, k2, k3⟩ := open_Pair h
  have HV := Lib.hid (Gd.ofC (show Cells B n w shValue_ [.i xq1, .i xq2, .s sq3] [.int .i64 xq1, .int .i64 xq2, .string sq3] from ⟨Cell.mkI k1, Cell.mkI k2, Cell.mkS k3, trivial⟩))
  have e : pairB [.s sq0, .i xq1, .i xq2, .s sq3] = (wordB sq0 && valB (bV [.i xq1, .i xq2, .s sq3])) := rfl
  rw [e]
  clear h k1 k2 k3 e
  go_enter Tryz.func82, Tryz.ntmps82
  cases hw : wordB sq0
  rotate_left
  · go_wp2_with fail
    refine (word_impl hw k0).mono ?_
    rintro _ _ ⟨rfl, rfl⟩
    go_wp2_with fail
    refine (valRight_impl (r := valB (bV [.i xq1, .i xq2, .s sq3])) rfl (HV.out.alloc _).now).mono ?_
    rintro _ w1 ⟨rfl, hb⟩
    have E1 := Lib.hid (below_then (below_a1 _ _) hb (Nat.le_refl _))
    have Bp1 := Lib.hid ((Blk.new w _ _).step hb)
    have rp1 := Bp1.out.cell
    have bp1 := Bp1.out.lt
    have SV1 := Lib.hid ((HV.out.alloc _).below hb)
    clear hb HV
    go_wp2
    all_goals go_ret
    all_goals refine ⟨ret_bool ?_, E1.out⟩
    all_goals (simp [hw])
  go_wp2_with fail
  refine (word_impl hw k0).mono ?_
  rintro _ _ ⟨rfl, rfl⟩
  go_wp2
  all_goals go_ret
  all_goals refine ⟨ret_bool ?_, (below_a1 _ _)⟩
  all_goals (simp [hw])
set_option maxHeartbeats 1000000 in
theorem compare_pairs {B B' : Nat → Prop} {n m : Nat} {w : World} {ds ds' : List DC} {vs vs' : List Value} {cv : Int} (hr : cm.cmpS (namP ds) (namP ds') = cv) (h : Cells B n w shPair_ ds vs) (h' : Cells B' m w shPair_ ds' vs') :
    Calls Tryz.prog 84 #[.agg vs.toArray, .agg vs'.toArray] w (un.Told w (.int .i64 cv)) := by
  subst hr
  obtain ⟨sq0, xq1, xq2, sq3, rfl, rfl, -⟩ := open_Pair h
  obtain ⟨sr0, xr1, xr2, sr3, rfl, rfl, -⟩ := open_Pair h'
  clear h h'
  go_enter Tryz.func84, Tryz.ntmps84
  go_wp2_with (go_at_call 91; refine (cm.cmp_s _ _ _).mono ?_; rintro _ _ ⟨rfl, rfl⟩)
  go_ret
  exact ⟨rfl, below_a2 _ _ _⟩
noncomputable def allPa (n : Nat) (xs : List (List DC)) : Bool := @decide (∀ i (h : i < xs.length), pairB xs[i] = true) (Classical.propDecidable _)
theorem allPa_iff {n : Nat} {xs : List (List DC)} : allPa n xs = true ↔ ∀ i (h : i < xs.length), pairB xs[i] = true := by simp [allPa]
theorem allPa_no {n : Nat} {xs : List (List DC)} (i : Nat) (h : i < xs.length) (hw : pairB xs[i] = false) : allPa n xs = false := by
  rw [Bool.eq_false_iff]; exact fun hh => by have := allPa_iff.1 hh i h; simp [hw] at this
set_option maxHeartbeats 4000000 in
theorem every_pairs {B : Nat → Prop} {n c : Nat} {w : World} {xs : List (List DC)} {A : Option Addr} {r : Bool} (hr : allPa n xs = r) (h : Cell B n w (.l 7) (.l xs) (.slice A xs.length c)) :
    Calls Tryz.prog 81 #[.slice A xs.length c, .func (.func 82) #[] #[]] w (un.Told w (.bool r)) := by
  subst hr
  have hlen := h.len.2
  unfold maxLen at hlen
  have H := Lib.hid (Gd.of1 h)
  clear h
  go_enter Tryz.func81, Tryz.ntmps81
  go_wp2
  go_loopw [9] (fun i wr => ∃ k : Nat, k ≤ xs.length ∧ i = .int .i64 k ∧ (∀ j (h : j < xs.length), j < k → pairB xs[j] = true) ∧ Below w.heap.size w wr) (fun i _ => xs.length - (RowKit.intOf i).toNat)
  case atStart => exact ⟨0, Nat.zero_le _, rfl, fun j _ hj => absurd hj (by omega), Below.refl _ _⟩
  case round =>
    obtain ⟨k, hk, rfl, hok, hb⟩ := hrel
    have HOK := Lib.hid hok
    have E1 := Lib.hid hb
    clear hok hb
    by_cases hlt : k < xs.length
    · obtain ⟨m', b, o, us, hm, rfl, _, hbl, hr, hin⟩ := (H.out.below E1.out).now.item k hlt
      obtain rfl : m' = n - 1 := by omega
      have HI := Lib.hid (Gd.ofC hin)
      obtain ⟨sq0, xq1, xq2, sq3, ed, rfl, -⟩ := open_Pair hin
      have HR := Lib.hid (show wr.rangeAt b (o + k * 4) _ from hr)
      clear hr hin ed
      cases hf : pairB xs[k]
      · go_wp2_with (refine wpList_load_mid rfl 86 (.tmp 11) rfl b (o + k * 4) rfl _ _ HR.out Tryz.underlying86 rfl (by kernel_rfl) ?_)
        go_wp2_with fail
        refine (pair_impl hf (HI.out.alloc _).now).mono ?_
        rintro _ w2 ⟨rfl, hb⟩
        have E2 := Lib.hid (below_then (below_da E1.out (Nat.le_refl _) _) hb (Nat.le_refl _))
        clear hb
        go_wp2
        go_ret
        exact ⟨ret_bool (allPa_no k hlt hf).symm, E2.out⟩
      · go_wp2_with (refine wpList_load_mid rfl 86 (.tmp 11) rfl b (o + k * 4) rfl _ _ HR.out Tryz.underlying86 rfl (by kernel_rfl) ?_)
        go_wp2_with fail
        refine (pair_impl hf (HI.out.alloc _).now).mono ?_
        rintro _ w2 ⟨rfl, hb⟩
        have E2 := Lib.hid (below_then (below_da E1.out (Nat.le_refl _) _) hb (Nat.le_refl _))
        clear hb
        go_wp2
        go_roundw
        case rel => exact ⟨k + 1, by omega, by go_num, fun j h hj => by
          by_cases e : j = k
          · subst e; exact hf
          · exact HOK.out j h (by omega), E2.out⟩
        case measure => simp [RowKit.intOf]; omega
    · go_wp2
      go_ret
      exact ⟨ret_bool (allPa_iff.2 (fun j h => HOK.out j h (by omega))).symm, E1.out⟩
noncomputable def risePa (n : Nat) (xs : List (List DC)) : Bool := @decide (∀ i (h : i + 1 < xs.length), ltS (namP xs[i]) (namP xs[i + 1])) (Classical.propDecidable _)
theorem risePa_iff {n : Nat} {xs : List (List DC)} : risePa n xs = true ↔ ∀ i (h : i + 1 < xs.length), ltS (namP xs[i]) (namP xs[i + 1]) := by simp [risePa]
theorem risePa_no {n : Nat} {xs : List (List DC)} (i : Nat) (h : i + 1 < xs.length) (hw : ¬ ltS (namP xs[i]) (namP xs[i + 1])) : risePa n xs = false := by
  rw [Bool.eq_false_iff]; exact fun hh => hw (risePa_iff.1 hh i h)
set_option maxHeartbeats 4000000 in
theorem rising_pairs {B : Nat → Prop} {n c : Nat} {w : World} {xs : List (List DC)} {A : Option Addr} {r : Bool} (hr : risePa n xs = r) (h : Cell B n w (.l 7) (.l xs) (.slice A xs.length c)) :
    Calls Tryz.prog 83 #[.slice A xs.length c, .func (.func 84) #[] #[]] w (un.Told w (.bool r)) := by
  subst hr
  have hlen := h.len.2
  unfold maxLen at hlen
  have H := Lib.hid (Gd.of1 h)
  clear h
  go_enter Tryz.func83, Tryz.ntmps83
  go_wp2
  go_loopw [5] (fun i wr => ∃ k : Nat, 1 ≤ k ∧ k ≤ xs.length + 1 ∧ i = .int .i64 k ∧ (∀ i (h : i + 1 < xs.length), i + 1 < k → ltS (namP xs[i]) (namP xs[i + 1])) ∧ Below w.heap.size w wr) (fun i _ => xs.length + 1 - (RowKit.intOf i).toNat)
  case atStart => exact ⟨1, by omega, by omega, rfl, fun q _ hq => absurd hq (by omega), Below.refl _ _⟩
  case round =>
    obtain ⟨j, hj1, hj2, rfl, hok, hb⟩ := hrel
    have HOK := Lib.hid hok
    have E1 := Lib.hid hb
    clear hok hb
    by_cases hlt : j < xs.length
    · obtain ⟨m', b, o, us, hm, rfl, _, hbl, hr, hin⟩ := (H.out.below E1.out).now.item j hlt
      obtain rfl : m' = n - 1 := by omega
      obtain ⟨i, hij⟩ : ∃ i, i + 1 = j := ⟨j - 1, by omega⟩
      have hi : i < xs.length := by omega
      have hjI : (j : Int) < xs.length := by omega
      have hiI : (i : Int) < xs.length := by omega
      obtain ⟨m'', b', o', us', hm', e', _, hbl', hr', hin'⟩ := (H.out.below E1.out).now.item i hi
      injection e' with e'; injection e' with e1 e2 _
      subst e1 e2
      obtain rfl : m'' = n - 1 := by omega
      have HI := Lib.hid (Gd.ofC hin)
      have HI' := Lib.hid (Gd.ofC hin')
      obtain ⟨sq0, xq1, xq2, sq3, ed, rfl, -⟩ := open_Pair hin
      obtain ⟨sr0, xr1, xr2, sr3, ed', rfl, -⟩ := open_Pair hin'
      have HR := Lib.hid (show wr.rangeAt b (o + j * 4) _ from hr)
      have HR' := Lib.hid (show wr.rangeAt b (o + i * 4) _ from hr')
      obtain ⟨cv, hcv⟩ : ∃ cv, cm.cmpS (namP xs[i]) (namP xs[j]) = cv := ⟨_, rfl⟩
      have HLT : Hid (cv < 0 ↔ ltS (namP xs[i]) (namP xs[j])) := by rw [← hcv]; exact cm.cmpS_neg
      clear hr hr' hin hin' ed ed' hm hm'
      have ei : (j : Int) - 1 = i := by omega
      have ew : IntKind.i64.wrap ((j : Int) - 1) = i := by rw [IntWalk.i64_left, IntWalk.wrap64_in _ (by omega)]; exact ei
      have hi0 : (0 : Int) ≤ (i : Int) := by omega
      have KC := fun (W' : World) (h : Below wr.heap.size wr W') => compare_pairs hcv (HI'.out.below h).now (HI.out.below h).now
      have q0 := later_cell (b := b) (o := o + j * 4) hbl (by simpa using HR.out 0 _ rfl)
      have q1 := later_cell (b := b) (o := o + j * 4 + 1) hbl (by simpa using HR.out 1 _ rfl)
      have q2 := later_cell (b := b) (o := o + j * 4 + 2) hbl (by simpa using HR.out 2 _ rfl)
      have q3 := later_cell (b := b) (o := o + j * 4 + 3) hbl (by simpa using HR.out 3 _ rfl)
      have p0 := later_cell (b := b) (o := o + i * 4) hbl (by simpa using HR'.out 0 _ rfl)
      have p1 := later_cell (b := b) (o := o + i * 4 + 1) hbl (by simpa using HR'.out 1 _ rfl)
      have p2 := later_cell (b := b) (o := o + i * 4 + 2) hbl (by simpa using HR'.out 2 _ rfl)
      have p3 := later_cell (b := b) (o := o + i * 4 + 3) hbl (by simpa using HR'.out 3 _ rfl)
      clear hcv
      by_cases hneg : cv < 0
      · go_wp2_with fail
        refine wp_region_later (by kernel_rfl) (by kernel_rfl) ?_
        repeat (go_big_quiet_step ((go_at_call 84; exact later_call (KC _ (later_below _)))))
        refine wpQuiet_nil ?_
        rintro _ ⟨u9, rfl⟩
        have E2 := Lib.hid (below_then E1.out (later_below u9) (Nat.le_refl _))
        generalize later wr u9 = w9 at E2 ⊢
        clear q0 p0 q1 p1 q2 p2 q3 p3 KC
        go_wp2
        go_roundw
        case rel => exact ⟨j + 1, by omega, by omega, by go_num, fun q h hq => by
          by_cases e : q = i
          · subst e; subst hij; exact HLT.out.1 hneg
          · exact HOK.out q h (by omega), E2.out⟩
        case measure => simp [RowKit.intOf]; omega
      · have hge : 0 ≤ cv := by omega
        clear hneg
        go_wp2_with fail
        refine wp_region_later (by kernel_rfl) (by kernel_rfl) ?_
        repeat (go_big_quiet_step ((go_at_call 84; exact later_call (KC _ (later_below _)))))
        refine wpQuiet_nil ?_
        rintro _ ⟨u9, rfl⟩
        have E2 := Lib.hid (below_then E1.out (later_below u9) (Nat.le_refl _))
        generalize later wr u9 = w9 at E2 ⊢
        clear q0 p0 q1 p1 q2 p2 q3 p3 KC
        go_wp2
        go_ret
        exact ⟨ret_bool (risePa_no i (by omega) (fun hh => by subst hij; have := HLT.out.2 hh; omega)).symm, E2.out⟩
    · go_wp2
      go_ret
      exact ⟨ret_bool (risePa_iff.2 (fun q h => HOK.out q h (by omega))).symm, E1.out⟩
theorem pairsB_eq {n : Nat} {l : List (List DC)} : pairsB l = (decide (l.length ≤ 4) && allPa n l && risePa n l) := by
  rw [Bool.eq_iff_iff]
  simp only [Bool.and_eq_true, decide_eq_true_eq, allPa_iff, risePa_iff]
  show @decide (pairsOk l) (Classical.propDecidable _) = true ↔ _
  rw [@decide_eq_true_iff _ (Classical.propDecidable _)]
  simp only [pairsOk, and_assoc]
set_option maxHeartbeats 2000000 in
theorem pairs_impl {B : Nat → Prop} {n c : Nat} {w : World} {xs : List (List DC)} {A : Option Addr} {r : Bool} (hr : pairsB xs = r) (h : Cell B n w (.l 7) (.l xs) (.slice A xs.length c)) :
    Calls Tryz.prog 54 #[.slice A xs.length c] w (un.Told w (.bool r)) := by
  subst hr
  have hlen := h.len.2
  unfold maxLen at hlen
  have H := Lib.hid (Gd.of1 h)
  clear h
  rw [pairsB_eq (n := n)]
  go_enter Tryz.func54, Tryz.ntmps54
  by_cases h4 : xs.length ≤ 4
  · cases ha : allPa n xs
    rotate_left
    · go_wp2_with fail
      refine (every_pairs ha (H.out).now).mono ?_
      rintro _ w1 ⟨rfl, hb⟩
      have E1 := Lib.hid (below_then (Below.refl _ _) hb (Nat.le_refl _))
      have SL1 := Lib.hid ((H.out).below hb)
      clear hb H
      go_wp2_with fail
      refine (rising_pairs (r := risePa n xs) rfl (SL1.out).now).mono ?_
      rintro _ w2 ⟨rfl, hb⟩
      have E2 := Lib.hid (below_then E1.out hb (Nat.le_refl _))
      have SL2 := Lib.hid ((SL1.out).below hb)
      clear hb SL1 E1
      go_wp2
      all_goals go_ret
      all_goals refine ⟨ret_bool ?_, E2.out⟩
      all_goals (simp [ha, h4])
    go_wp2_with fail
    refine (every_pairs ha (H.out).now).mono ?_
    rintro _ w1 ⟨rfl, hb⟩
    have E1 := Lib.hid (below_then (Below.refl _ _) hb (Nat.le_refl _))
    have SL1 := Lib.hid ((H.out).below hb)
    clear hb H
    go_wp2
    all_goals go_ret
    all_goals refine ⟨ret_bool ?_, E1.out⟩
    all_goals (simp [ha, h4])
  go_wp2
  all_goals go_ret
  all_goals refine ⟨ret_bool ?_, (Below.refl _ _)⟩
  all_goals (simp; try omega)
end Go.Proofs.YtflfnekaiaplfaaGreat.cf
namespace Go.Proofs.YtflfnekaiaplfaaGreat.cf
open ad mem vl ex un cm
open Go.ChangeShapes Go.WideShapes Go.ChangeAt Go.RowKit Go.Lib
set_option linter.unusedVariables false
set_option maxRecDepth 8000
set_option linter.unusedSimpArgs false

theorem cmp_addrs {B B' : Nat → Prop} {n n' : Nat} {w : World} {ds ds' : List DC} {vs vs' : List Value} {cv : Int} (hr : cm.orI (cm.looks (bA ds) (bA ds')) = cv) (h : Cells B n w shAddr_ ds vs) (h' : Cells B' n' w shAddr_ ds' vs') :
    Calls Tryz.prog 57 #[.agg vs.toArray, .agg vs'.toArray] w (un.Told w (.int .i64 cv)) := by
  subst hr; exact compare_impl h h'
set_option maxHeartbeats 4000000 in
theorem need_closure {B B' : Nat → Prop} {n m bb : Nat} {w : World} {ds ds' : List DC} {vs vs' : List Value} {r : Bool} (hr : needB (bA ds') ds = r) (h : Cells B n w shAddr_ ds vs) (h' : Cells B' m w shThing_ ds' vs') (hb : Blk w bb 41 vs'.toArray) :
    Calls Tryz.prog 85 #[.agg vs.toArray, .pointer (some ⟨bb, 0, none⟩)] w (un.Told w (.bool r)) := by
  have HA := Lib.hid (Gd.ofC h)
  obtain ⟨lq0, sq1, sq2, xq3, xq4, sq5, Aq0, cq0, rfl, rfl, -⟩ := open_Addr h
  obtain ⟨lt0, st1, st2, xt3, xt4, st5, lt6, lt7, At0, ct0, At6, ct6, At7, ct7, rfl, rfl, kt0, kt1, kt2, kt3, kt4, kt5, -⟩ := open_Thing h'
  have HT := Lib.hid (Gd.ofC (show Cells B' m w shAddr_ [.l lt0, .s st1, .s st2, .i xt3, .i xt4, .s st5] [.slice At0 lt0.length ct0, .string st1, .string st2, .int .i64 xt3, .int .i64 xt4, .string st5] from ⟨kt0, Cell.mkS kt1, Cell.mkS kt2, Cell.mkI kt3, Cell.mkI kt4, Cell.mkS kt5, trivial⟩))
  obtain ⟨D, hD⟩ : ∃ D, bA [.l lq0, .s sq1, .s sq2, .i xq3, .i xq4, .s sq5] = D := ⟨_, rfl⟩
  obtain ⟨D', hD'⟩ : ∃ D, bA [.l lt0, .s st1, .s st2, .i xt3, .i xt4, .s st5] = D := ⟨_, rfl⟩
  have e : needB (bA [.l lt0, .s st1, .s st2, .i xt3, .i xt4, .s st5, .l lt6, .l lt7]) [.l lq0, .s sq1, .s sq2, .i xq3, .i xq4, .s sq5] = (addrB D && !adl.eqA D D') := by rw [← hD, ← hD']; rfl
  rw [e] at hr
  subst hr
  clear h h' e kt0 kt1 kt2 kt3 kt4 kt5
  have Bb0 := Lib.hid hb
  have rb0 := Bb0.out.cell
  have bb0 := Bb0.out.lt
  clear hb
  have Bbx := (Bb0.out.alloc (.cells #[.slice Aq0 lq0.length cq0, .string sq1, .string sq2, .int .i64 xq3, .int .i64 xq4, .string sq5] 37)).cell
  go_enter Tryz.func85, Tryz.ntmps85
  cases ha : addrB D
  rotate_left
  · go_wp2_with fail
    refine (addrRight_impl hD ha (HA.out.alloc _).now).mono ?_
    rintro _ w1 ⟨rfl, hb⟩
    have E1 := Lib.hid (below_then (below_a1 _ _) hb (Nat.le_refl _))
    have Bb1 := Lib.hid ((Bb0.out.alloc _).step hb)
    have rb1 := Bb1.out.cell
    have bb1 := Bb1.out.lt
    have Bx1 := Lib.hid ((Blk.new w _ _).step hb)
    have rx1 := Bx1.out.cell
    have bx1 := Bx1.out.lt
    have SA1 := Lib.hid ((HA.out.alloc _).below hb)
    have ST1 := Lib.hid ((HT.out.alloc _).below hb)
    clear hb Bb0 rb0 bb0 HA HT
    go_wp2_with fail
    refine (sameAddr_impl (r := adl.eqA D D') hD hD' rfl (SA1.out).now (ST1.out).now).mono ?_
    rintro _ w2 ⟨rfl, hb⟩
    have E2 := Lib.hid (below_then E1.out hb (Nat.le_refl _))
    have Bb2 := Lib.hid ((Bb1.out).step hb)
    have rb2 := Bb2.out.cell
    have bb2 := Bb2.out.lt
    have Bx2 := Lib.hid ((Bx1.out).step hb)
    have rx2 := Bx2.out.cell
    have bx2 := Bx2.out.lt
    have SA2 := Lib.hid ((SA1.out).below hb)
    have ST2 := Lib.hid ((ST1.out).below hb)
    clear hb Bb1 rb1 bb1 Bx1 rx1 bx1 SA1 ST1 E1
    go_wp2
    all_goals go_ret
    all_goals refine ⟨ret_bool ?_, E2.out⟩
    all_goals (simp [ha])
  go_wp2_with fail
  refine (addrRight_impl hD ha (HA.out.alloc _).now).mono ?_
  rintro _ w1 ⟨rfl, hb⟩
  have E1 := Lib.hid (below_then (below_a1 _ _) hb (Nat.le_refl _))
  have Bb1 := Lib.hid ((Bb0.out.alloc _).step hb)
  have rb1 := Bb1.out.cell
  have bb1 := Bb1.out.lt
  have Bx1 := Lib.hid ((Blk.new w _ _).step hb)
  have rx1 := Bx1.out.cell
  have bx1 := Bx1.out.lt
  have SA1 := Lib.hid ((HA.out.alloc _).below hb)
  have ST1 := Lib.hid ((HT.out.alloc _).below hb)
  clear hb Bb0 rb0 bb0 HA HT
  go_wp2
  all_goals go_ret
  all_goals refine ⟨ret_bool ?_, E1.out⟩
  all_goals (simp [ha])
noncomputable def allNe (ds' : List DC) (n : Nat) (xs : List (List DC)) : Bool := @decide (∀ i (h : i < xs.length), needB (bA ds') xs[i] = true) (Classical.propDecidable _)
theorem allNe_iff {ds' : List DC} {n : Nat} {xs : List (List DC)} : allNe ds' n xs = true ↔ ∀ i (h : i < xs.length), needB (bA ds') xs[i] = true := by simp [allNe]
theorem allNe_no {ds' : List DC} {n : Nat} {xs : List (List DC)} (i : Nat) (h : i < xs.length) (hw : needB (bA ds') xs[i] = false) : allNe ds' n xs = false := by
  rw [Bool.eq_false_iff]; exact fun hh => by have := allNe_iff.1 hh i h; simp [hw] at this
set_option maxHeartbeats 4000000 in
theorem every_needs {B' : Nat → Prop} {m bb : Nat} {ds' : List DC} {vs' : List Value} {B : Nat → Prop} {n c : Nat} {w : World} {xs : List (List DC)} {A : Option Addr} {r : Bool} (hr : allNe ds' n xs = r) (h : Cell B n w (.l 2) (.l xs) (.slice A xs.length c)) (h' : Cells B' m w shThing_ ds' vs') (hb' : Blk w bb 41 vs'.toArray) :
    Calls Tryz.prog 87 #[.slice A xs.length c, .func (.func 85) #[] #[.pointer (some ⟨bb, 0, none⟩)]] w (un.Told w (.bool r)) := by
  subst hr
  have hlen := h.len.2
  unfold maxLen at hlen
  have H := Lib.hid (Gd.of1 h)
  clear h
  have HB' := Lib.hid (Gd.ofC h')
  have HBk := Lib.hid (Gd.ofB hb')
  clear h' hb'
  go_enter Tryz.func87, Tryz.ntmps87
  go_wp2
  go_loopw [9] (fun i wr => ∃ k : Nat, k ≤ xs.length ∧ i = .int .i64 k ∧ (∀ j (h : j < xs.length), j < k → needB (bA ds') xs[j] = true) ∧ Below w.heap.size w wr) (fun i _ => xs.length - (RowKit.intOf i).toNat)
  case atStart => exact ⟨0, Nat.zero_le _, rfl, fun j _ hj => absurd hj (by omega), Below.refl _ _⟩
  case round =>
    obtain ⟨k, hk, rfl, hok, hb⟩ := hrel
    have HOK := Lib.hid hok
    have E1 := Lib.hid hb
    clear hok hb
    by_cases hlt : k < xs.length
    · obtain ⟨m', b, o, us, hm, rfl, _, hbl, hr, hin⟩ := (H.out.below E1.out).now.item k hlt
      obtain rfl : m' = n - 1 := by omega
      have HI := Lib.hid (Gd.ofC hin)
      obtain ⟨lq0, sq1, sq2, xq3, xq4, sq5, Aq0, cq0, ed, rfl, -⟩ := open_Addr hin
      have HR := Lib.hid (show wr.rangeAt b (o + k * 6) _ from hr)
      clear hr hin ed
      cases hf : needB (bA ds') xs[k]
      · go_wp2_with (refine wpList_load_mid rfl 37 (.tmp 11) rfl b (o + k * 6) rfl _ _ HR.out Tryz.underlying37 rfl (by kernel_rfl) ?_)
        go_wp2_with fail
        refine (need_closure hf (HI.out.alloc _).now ((HB'.out.below E1.out).alloc _).now ((HBk.out.below E1.out).alloc _).now).mono ?_
        rintro _ w2 ⟨rfl, hb⟩
        have E2 := Lib.hid (below_then (below_da E1.out (Nat.le_refl _) _) hb (Nat.le_refl _))
        clear hb
        go_wp2
        go_ret
        exact ⟨ret_bool (allNe_no k hlt hf).symm, E2.out⟩
      · go_wp2_with (refine wpList_load_mid rfl 37 (.tmp 11) rfl b (o + k * 6) rfl _ _ HR.out Tryz.underlying37 rfl (by kernel_rfl) ?_)
        go_wp2_with fail
        refine (need_closure hf (HI.out.alloc _).now ((HB'.out.below E1.out).alloc _).now ((HBk.out.below E1.out).alloc _).now).mono ?_
        rintro _ w2 ⟨rfl, hb⟩
        have E2 := Lib.hid (below_then (below_da E1.out (Nat.le_refl _) _) hb (Nat.le_refl _))
        clear hb
        go_wp2
        go_roundw
        case rel => exact ⟨k + 1, by omega, by go_num, fun j h hj => by
          by_cases e : j = k
          · subst e; exact hf
          · exact HOK.out j h (by omega), E2.out⟩
        case measure => simp [RowKit.intOf]; omega
    · go_wp2
      go_ret
      exact ⟨ret_bool (allNe_iff.2 (fun j h => HOK.out j h (by omega))).symm, E1.out⟩
noncomputable def riseAd (n : Nat) (xs : List (List DC)) : Bool := @decide (∀ i (h : i + 1 < xs.length), aheadA (bA xs[i]) (bA xs[i + 1])) (Classical.propDecidable _)
theorem riseAd_iff {n : Nat} {xs : List (List DC)} : riseAd n xs = true ↔ ∀ i (h : i + 1 < xs.length), aheadA (bA xs[i]) (bA xs[i + 1]) := by simp [riseAd]
theorem riseAd_no {n : Nat} {xs : List (List DC)} (i : Nat) (h : i + 1 < xs.length) (hw : ¬ aheadA (bA xs[i]) (bA xs[i + 1])) : riseAd n xs = false := by
  rw [Bool.eq_false_iff]; exact fun hh => hw (riseAd_iff.1 hh i h)
set_option maxHeartbeats 4000000 in
theorem rising_addrs {B : Nat → Prop} {n c : Nat} {w : World} {xs : List (List DC)} {A : Option Addr} {r : Bool} (hr : riseAd n xs = r) (h : Cell B n w (.l 2) (.l xs) (.slice A xs.length c)) :
    Calls Tryz.prog 88 #[.slice A xs.length c, .func (.func 57) #[] #[]] w (un.Told w (.bool r)) := by
  subst hr
  have hlen := h.len.2
  unfold maxLen at hlen
  have H := Lib.hid (Gd.of1 h)
  clear h
  go_enter Tryz.func88, Tryz.ntmps88
  go_wp2
  go_loopw [5] (fun i wr => ∃ k : Nat, 1 ≤ k ∧ k ≤ xs.length + 1 ∧ i = .int .i64 k ∧ (∀ i (h : i + 1 < xs.length), i + 1 < k → aheadA (bA xs[i]) (bA xs[i + 1])) ∧ Below w.heap.size w wr) (fun i _ => xs.length + 1 - (RowKit.intOf i).toNat)
  case atStart => exact ⟨1, by omega, by omega, rfl, fun q _ hq => absurd hq (by omega), Below.refl _ _⟩
  case round =>
    obtain ⟨j, hj1, hj2, rfl, hok, hb⟩ := hrel
    have HOK := Lib.hid hok
    have E1 := Lib.hid hb
    clear hok hb
    by_cases hlt : j < xs.length
    · obtain ⟨m', b, o, us, hm, rfl, _, hbl, hr, hin⟩ := (H.out.below E1.out).now.item j hlt
      obtain rfl : m' = n - 1 := by omega
      obtain ⟨i, hij⟩ : ∃ i, i + 1 = j := ⟨j - 1, by omega⟩
      have hi : i < xs.length := by omega
      have hjI : (j : Int) < xs.length := by omega
      have hiI : (i : Int) < xs.length := by omega
      obtain ⟨m'', b', o', us', hm', e', _, hbl', hr', hin'⟩ := (H.out.below E1.out).now.item i hi
      injection e' with e'; injection e' with e1 e2 _
      subst e1 e2
      obtain rfl : m'' = n - 1 := by omega
      have HI := Lib.hid (Gd.ofC hin)
      have HI' := Lib.hid (Gd.ofC hin')
      obtain ⟨lq0, sq1, sq2, xq3, xq4, sq5, Aq0, cq0, ed, rfl, -⟩ := open_Addr hin
      obtain ⟨lr0, sr1, sr2, xr3, xr4, sr5, Ar0, cr0, ed', rfl, -⟩ := open_Addr hin'
      have HR := Lib.hid (show wr.rangeAt b (o + j * 6) _ from hr)
      have HR' := Lib.hid (show wr.rangeAt b (o + i * 6) _ from hr')
      obtain ⟨cv, hcv⟩ : ∃ cv, cm.orI (cm.looks (bA xs[i]) (bA xs[j])) = cv := ⟨_, rfl⟩
      have HLT : Hid (cv < 0 ↔ aheadA (bA xs[i]) (bA xs[j])) := by rw [← hcv]; exact Iff.rfl
      clear hr hr' hin hin' ed ed' hm hm'
      have ei : (j : Int) - 1 = i := by omega
      have ew : IntKind.i64.wrap ((j : Int) - 1) = i := by rw [IntWalk.i64_left, IntWalk.wrap64_in _ (by omega)]; exact ei
      have hi0 : (0 : Int) ≤ (i : Int) := by omega
      have KC := fun (W' : World) (h : Below wr.heap.size wr W') => cmp_addrs hcv (HI'.out.below h).now (HI.out.below h).now
      have q0 := later_cell (b := b) (o := o + j * 6) hbl (by simpa using HR.out 0 _ rfl)
      have q1 := later_cell (b := b) (o := o + j * 6 + 1) hbl (by simpa using HR.out 1 _ rfl)
      have q2 := later_cell (b := b) (o := o + j * 6 + 2) hbl (by simpa using HR.out 2 _ rfl)
      have q3 := later_cell (b := b) (o := o + j * 6 + 3) hbl (by simpa using HR.out 3 _ rfl)
      have q4 := later_cell (b := b) (o := o + j * 6 + 4) hbl (by simpa using HR.out 4 _ rfl)
      have q5 := later_cell (b := b) (o := o + j * 6 + 5) hbl (by simpa using HR.out 5 _ rfl)
      have p0 := later_cell (b := b) (o := o + i * 6) hbl (by simpa using HR'.out 0 _ rfl)
      have p1 := later_cell (b := b) (o := o + i * 6 + 1) hbl (by simpa using HR'.out 1 _ rfl)
      have p2 := later_cell (b := b) (o := o + i * 6 + 2) hbl (by simpa using HR'.out 2 _ rfl)
      have p3 := later_cell (b := b) (o := o + i * 6 + 3) hbl (by simpa using HR'.out 3 _ rfl)
      have p4 := later_cell (b := b) (o := o + i * 6 + 4) hbl (by simpa using HR'.out 4 _ rfl)
      have p5 := later_cell (b := b) (o := o + i * 6 + 5) hbl (by simpa using HR'.out 5 _ rfl)
      clear hcv
      by_cases hneg : cv < 0
      · go_wp2_with fail
        refine wp_region_later (by kernel_rfl) (by kernel_rfl) ?_
        repeat (go_big_quiet_step ((go_at_call 57; exact later_call (KC _ (later_below _)))))
        refine wpQuiet_nil ?_
        rintro _ ⟨u9, rfl⟩
        have E2 := Lib.hid (below_then E1.out (later_below u9) (Nat.le_refl _))
        generalize later wr u9 = w9 at E2 ⊢
        clear q0 p0 q1 p1 q2 p2 q3 p3 q4 p4 q5 p5 KC
        go_wp2
        go_roundw
        case rel => exact ⟨j + 1, by omega, by omega, by go_num, fun q h hq => by
          by_cases e : q = i
          · subst e; subst hij; exact HLT.out.1 hneg
          · exact HOK.out q h (by omega), E2.out⟩
        case measure => simp [RowKit.intOf]; omega
      · have hge : 0 ≤ cv := by omega
        clear hneg
        go_wp2_with fail
        refine wp_region_later (by kernel_rfl) (by kernel_rfl) ?_
        repeat (go_big_quiet_step ((go_at_call 57; exact later_call (KC _ (later_below _)))))
        refine wpQuiet_nil ?_
        rintro _ ⟨u9, rfl⟩
        have E2 := Lib.hid (below_then E1.out (later_below u9) (Nat.le_refl _))
        generalize later wr u9 = w9 at E2 ⊢
        clear q0 p0 q1 p1 q2 p2 q3 p3 q4 p4 q5 p5 KC
        go_wp2
        go_ret
        exact ⟨ret_bool (riseAd_no i (by omega) (fun hh => by subst hij; have := HLT.out.2 hh; omega)).symm, E2.out⟩
    · go_wp2
      go_ret
      exact ⟨ret_bool (riseAd_iff.2 (fun q h => HOK.out q h (by omega))).symm, E1.out⟩
theorem needsB_eq {n : Nat} {ds' : List DC} {l : List (List DC)} : needsB (bA ds') l = (decide (l.length ≤ 400) && allNe ds' n l && riseAd n l) := by
  rw [Bool.eq_iff_iff]
  simp only [Bool.and_eq_true, decide_eq_true_eq, allNe_iff, riseAd_iff]
  show @decide (needsOk (bA ds') l) (Classical.propDecidable _) = true ↔ _
  rw [@decide_eq_true_iff _ (Classical.propDecidable _)]
  simp only [needsOk, and_assoc]
set_option maxHeartbeats 4000000 in
theorem needs_impl {B : Nat → Prop} {n : Nat} {w : World} {ds : List DC} {vs : List Value} {r : Bool} (hr : needsB (bA ds) (bL (ds.getD 7 z)) = r) (h : Cells B n w shThing_ ds vs) :
    Calls Tryz.prog 55 #[.agg vs.toArray] w (un.Told w (.bool r)) := by
  have HT := Lib.hid (Gd.ofC h)
  obtain ⟨lt0, st1, st2, xt3, xt4, st5, lt6, lt7, At0, ct0, At6, ct6, At7, ct7, rfl, rfl, kt0, kt1, kt2, kt3, kt4, kt5, kt6, kt7⟩ := open_Thing h
  change needsB (bA [.l lt0, .s st1, .s st2, .i xt3, .i xt4, .s st5, .l lt6, .l lt7]) lt7 = r at hr
  rw [needsB_eq (n := n)] at hr
  subst hr
  have hlen := kt7.len.2
  unfold maxLen at hlen
  have H := Lib.hid (Gd.of1 kt7)
  clear h kt0 kt1 kt2 kt3 kt4 kt5 kt6 kt7
  go_enter Tryz.func55, Tryz.ntmps55
  by_cases h4 : lt7.length ≤ 400
  · cases ha : allNe [.l lt0, .s st1, .s st2, .i xt3, .i xt4, .s st5, .l lt6, .l lt7] n lt7
    rotate_left
    · go_wp2_with fail
      refine (every_needs ha (H.out.alloc _).now (HT.out.alloc _).now (Blk.new _ _ _)).mono ?_
      rintro _ w1 ⟨rfl, hb⟩
      have E1 := Lib.hid (below_then (below_a1 _ _) hb (Nat.le_refl _))
      have Bt1 := Lib.hid ((Blk.new w _ _).step hb)
      have rt1 := Bt1.out.cell
      have bt1 := Bt1.out.lt
      have SL1 := Lib.hid ((H.out.alloc _).below hb)
      have ST1 := Lib.hid ((HT.out.alloc _).below hb)
      clear hb H HT
      go_wp2_with fail
      refine (rising_addrs (r := riseAd n lt7) rfl (SL1.out).now).mono ?_
      rintro _ w2 ⟨rfl, hb⟩
      have E2 := Lib.hid (below_then E1.out hb (Nat.le_refl _))
      have Bt2 := Lib.hid ((Bt1.out).step hb)
      have rt2 := Bt2.out.cell
      have bt2 := Bt2.out.lt
      have SL2 := Lib.hid ((SL1.out).below hb)
      have ST2 := Lib.hid ((ST1.out).below hb)
      clear hb Bt1 rt1 bt1 SL1 ST1 E1
      go_wp2
      all_goals go_ret
      all_goals refine ⟨ret_bool ?_, E2.out⟩
      all_goals (simp [ha, h4])
    go_wp2_with fail
    refine (every_needs ha (H.out.alloc _).now (HT.out.alloc _).now (Blk.new _ _ _)).mono ?_
    rintro _ w1 ⟨rfl, hb⟩
    have E1 := Lib.hid (below_then (below_a1 _ _) hb (Nat.le_refl _))
    have Bt1 := Lib.hid ((Blk.new w _ _).step hb)
    have rt1 := Bt1.out.cell
    have bt1 := Bt1.out.lt
    have SL1 := Lib.hid ((H.out.alloc _).below hb)
    have ST1 := Lib.hid ((HT.out.alloc _).below hb)
    clear hb H HT
    go_wp2
    all_goals go_ret
    all_goals refine ⟨ret_bool ?_, E1.out⟩
    all_goals (simp [ha, h4])
  go_wp2
  all_goals go_ret
  all_goals refine ⟨ret_bool ?_, (below_a1 _ _)⟩
  all_goals (simp; try omega)
set_option maxHeartbeats 4000000 in
theorem thing_impl {B : Nat → Prop} {n : Nat} {w : World} {ds : List DC} {vs : List Value} {r : Bool} (hr : thB ds = r) (h : Cells B n w shThing_ ds vs) :
    Calls Tryz.prog 29 #[.agg vs.toArray] w (un.Told w (.bool r)) := by
  subst hr
  have HT := Lib.hid (Gd.ofC h)
  obtain ⟨lt0, st1, st2, xt3, xt4, st5, lt6, lt7, At0, ct0, At6, ct6, At7, ct7, rfl, rfl, kt0, kt1, kt2, kt3, kt4, kt5, kt6, kt7⟩ := open_Thing h
  have HA := Lib.hid (Gd.ofC (show Cells B n w shAddr_ [.l lt0, .s st1, .s st2, .i xt3, .i xt4, .s st5] [.slice At0 lt0.length ct0, .string st1, .string st2, .int .i64 xt3, .int .i64 xt4, .string st5] from ⟨kt0, Cell.mkS kt1, Cell.mkS kt2, Cell.mkI kt3, Cell.mkI kt4, Cell.mkS kt5, trivial⟩))
  have HP := Lib.hid (Gd.of1 kt6)
  obtain ⟨D, hD⟩ : ∃ D, bA [.l lt0, .s st1, .s st2, .i xt3, .i xt4, .s st5] = D := ⟨_, rfl⟩
  have e : thB [.l lt0, .s st1, .s st2, .i xt3, .i xt4, .s st5, .l lt6, .l lt7] = (addrB D && pairsB lt6 && needsB D lt7) := by rw [← hD]; rfl
  have e2 : bA [.l lt0, .s st1, .s st2, .i xt3, .i xt4, .s st5, .l lt6, .l lt7] = D := hD
  rw [e]
  have HN := fun (r : Bool) (hr : needsB D lt7 = r) (w' : World) (hc : Cells B n w' shThing_ [.l lt0, .s st1, .s st2, .i xt3, .i xt4, .s st5, .l lt6, .l lt7] [.slice At0 lt0.length ct0, .string st1, .string st2, .int .i64 xt3, .int .i64 xt4, .string st5, .slice At6 lt6.length ct6, .slice At7 lt7.length ct7]) => needs_impl (r := r) (by rw [← hr, ← hD]; rfl) hc
  clear h kt0 kt1 kt2 kt3 kt4 kt5 kt6 kt7 e e2
  go_enter Tryz.func29, Tryz.ntmps29
  cases ha : addrB D
  rotate_left
  · go_wp2_with fail
    refine (addrRight_impl hD ha (HA.out.alloc _).now).mono ?_
    rintro _ w1 ⟨rfl, hb⟩
    have E1 := Lib.hid (below_then (below_a1 _ _) hb (Nat.le_refl _))
    have Bt1 := Lib.hid ((Blk.new w _ _).step hb)
    have rt1 := Bt1.out.cell
    have bt1 := Bt1.out.lt
    have SA1 := Lib.hid ((HA.out.alloc _).below hb)
    have SP1 := Lib.hid ((HP.out.alloc _).below hb)
    have ST1 := Lib.hid ((HT.out.alloc _).below hb)
    clear hb HA HP HT
    cases hp : pairsB lt6
    rotate_left
    · go_wp2_with fail
      refine (pairs_impl hp (SP1.out).now).mono ?_
      rintro _ w2 ⟨rfl, hb⟩
      have E2 := Lib.hid (below_then E1.out hb (Nat.le_refl _))
      have Bt2 := Lib.hid ((Bt1.out).step hb)
      have rt2 := Bt2.out.cell
      have bt2 := Bt2.out.lt
      have SA2 := Lib.hid ((SA1.out).below hb)
      have SP2 := Lib.hid ((SP1.out).below hb)
      have ST2 := Lib.hid ((ST1.out).below hb)
      clear hb Bt1 rt1 bt1 SA1 SP1 ST1 E1
      go_wp2_with fail
      refine (HN _ rfl _ (ST2.out).now).mono ?_
      rintro _ w3 ⟨rfl, hb⟩
      have E3 := Lib.hid (below_then E2.out hb (Nat.le_refl _))
      have Bt3 := Lib.hid ((Bt2.out).step hb)
      have rt3 := Bt3.out.cell
      have bt3 := Bt3.out.lt
      have SA3 := Lib.hid ((SA2.out).below hb)
      have SP3 := Lib.hid ((SP2.out).below hb)
      have ST3 := Lib.hid ((ST2.out).below hb)
      clear hb Bt2 rt2 bt2 SA2 SP2 ST2 E2
      go_wp2
      all_goals go_ret
      all_goals refine ⟨ret_bool ?_, E3.out⟩
      all_goals (simp [ha, hp])
    go_wp2_with fail
    refine (pairs_impl hp (SP1.out).now).mono ?_
    rintro _ w2 ⟨rfl, hb⟩
    have E2 := Lib.hid (below_then E1.out hb (Nat.le_refl _))
    have Bt2 := Lib.hid ((Bt1.out).step hb)
    have rt2 := Bt2.out.cell
    have bt2 := Bt2.out.lt
    have SA2 := Lib.hid ((SA1.out).below hb)
    have SP2 := Lib.hid ((SP1.out).below hb)
    have ST2 := Lib.hid ((ST1.out).below hb)
    clear hb Bt1 rt1 bt1 SA1 SP1 ST1 E1
    go_wp2
    all_goals go_ret
    all_goals refine ⟨ret_bool ?_, E2.out⟩
    all_goals (simp [ha, hp])
  go_wp2_with fail
  refine (addrRight_impl hD ha (HA.out.alloc _).now).mono ?_
  rintro _ w1 ⟨rfl, hb⟩
  have E1 := Lib.hid (below_then (below_a1 _ _) hb (Nat.le_refl _))
  have Bt1 := Lib.hid ((Blk.new w _ _).step hb)
  have rt1 := Bt1.out.cell
  have bt1 := Bt1.out.lt
  have SA1 := Lib.hid ((HA.out.alloc _).below hb)
  have SP1 := Lib.hid ((HP.out.alloc _).below hb)
  have ST1 := Lib.hid ((HT.out.alloc _).below hb)
  clear hb HA HP HT
  go_wp2
  all_goals go_ret
  all_goals refine ⟨ret_bool ?_, E1.out⟩
  all_goals (simp [ha])
end Go.Proofs.YtflfnekaiaplfaaGreat.cf
namespace Go.Proofs.YtflfnekaiaplfaaGreat.cf
open ad mem vl ex un cm
open Go.ChangeShapes Go.WideShapes Go.ChangeAt Go.RowKit Go.Lib
set_option linter.unusedVariables false
set_option maxRecDepth 8000
set_option linter.unusedSimpArgs false

theorem pair_noW {ds : List DC} {s : ByteArray} (e : namP ds = s) (h : wordB s = false) (k : pairB ds = true) : False := by
  unfold namP at e; subst e
  unfold pairB at k
  rw [h] at k; cases k
theorem pair_noV {ds : List DC} {v : ValD} (e : bV (ds.drop 1) = v) (h : valB v = false) (k : pairB ds = true) : False := by
  subst e
  unfold pairB at k
  rw [h, Bool.and_false] at k; cases k
theorem pairs_len {l : List (List DC)} (h : 4 < l.length) : pairsB l = false := pairsB_no fun hh => by have := hh.1; omega
set_option maxHeartbeats 8000000 in
theorem pairs_spec {B : Nat → Prop} {n c : Nat} {w : World} {xs : List (List DC)} {A : Option Addr} {r : Bool} (hr : pairsB xs = r) (h : Cell B n w (.l 7) (.l xs) (.slice A xs.length c)) :
    Calls Tryz.prog 46 #[.slice A xs.length c] w (un.Told w (.bool r)) := by
  subst hr
  have hlen := h.len.2
  unfold maxLen at hlen
  have H := Lib.hid (Gd.of1 h)
  clear h
  go_enter Tryz.func46, Tryz.ntmps46
  go_wp2
  go_loopw [3] (fun i wr => ∃ j : Nat, j ≤ xs.length ∧ i = .int .i64 j ∧ (∀ q (h : q < xs.length), q < j → pairB xs[q] = true) ∧ (∀ q (h : q + 1 < xs.length), q + 1 < j → ltS (namP xs[q]) (namP xs[q + 1])) ∧ Below w.heap.size w wr) (fun i _ => xs.length - (RowKit.intOf i).toNat)
  case atStart => exact ⟨0, Nat.zero_le _, rfl, fun q _ hq => absurd hq (by omega), fun q _ hq => absurd hq (by omega), Below.refl _ _⟩
  case round =>
    obtain ⟨j, hj, rfl, hok, hri, hb⟩ := hrel
    have HOK := Lib.hid hok
    have HRI := Lib.hid hri
    have E1 := Lib.hid hb
    clear hok hb hri
    by_cases hlt : j < xs.length
    · obtain ⟨m', b, o, us, hm, rfl, _, hbl, hr, hin⟩ := (H.out.below E1.out).now.item j hlt
      obtain rfl : m' = n - 1 := by omega
      have HI := Lib.hid (Gd.ofC hin)
      obtain ⟨sq0, xq1, xq2, sq3, ed, rfl, kq0, kq1, kq2, kq3⟩ := open_Pair hin
      have HED := Lib.hid ed
      have HV := Lib.hid (Gd.ofC (show Cells B (n - 1) wr shValue_ [.i xq1, .i xq2, .s sq3] [.int .i64 xq1, .int .i64 xq2, .string sq3] from ⟨Cell.mkI kq1, Cell.mkI kq2, Cell.mkS kq3, trivial⟩))
      have hen : namP xs[j] = sq0 := by rw [ed]; rfl
      have hev : bV (xs[j].drop 1) = bV [.i xq1, .i xq2, .s sq3] := by rw [ed]; rfl
      have HEN := Lib.hid (And.intro hen hev)
      clear hen hev kq1 kq2 kq3
      have HR := Lib.hid (show wr.rangeAt b (o + j * 4) _ from hr)
      have hjI : (j : Int) < xs.length := by omega
      clear hr hin ed hm
      have q0 := later_cell (b := b) (o := o + j * 4) hbl (by simpa using HR.out 0 _ rfl)
      have q1 := later_cell (b := b) (o := o + j * 4 + 1) hbl (by simpa using HR.out 1 _ rfl)
      have q2 := later_cell (b := b) (o := o + j * 4 + 2) hbl (by simpa using HR.out 2 _ rfl)
      have q3 := later_cell (b := b) (o := o + j * 4 + 3) hbl (by simpa using HR.out 3 _ rfl)
      have K0 := fun (r : Bool) (hK : wordB sq0 = r) (W' : World) (h : Below wr.heap.size wr W') => word_spec (w := W') hK kq0
      have K2 := fun (r : Bool) (hK : valB (bV [.i xq1, .i xq2, .s sq3]) = r) (W' : World) (h : Below wr.heap.size wr W') => valRight_spec hK (HV.out.below h).now
      cases hT0 : wordB sq0
      · replace K0 := K0 _ hT0
        go_wp2_with fail
        refine wp_region_later (by kernel_rfl) (by kernel_rfl) ?_
        repeat (go_big_quiet_step ((first | (go_at_call 69; exact later_same (K0 _ (later_below _))))))
        refine wpQuiet_nil ?_
        rintro _ ⟨u9, rfl⟩
        have E2 := Lib.hid (below_then E1.out (later_below u9) (Nat.le_refl _))
        generalize later wr u9 = w9 at E2 ⊢
        clear q0 q1 q2 q3 K0 K2
        go_wp2
        go_ret
        exact ⟨ret_bool ((pairsB_no (fun hh => pair_noW HEN.out.1 hT0 (hh.2.1 j hlt))).symm), E2.out⟩
      replace K0 := K0 _ hT0
      by_cases hz : j = 0
      · have HZJ := Lib.hid hz
        have hjn : ¬ 0 < j := by (have := HZJ.out; omega)
        have hjd : decide (0 < (j : Int)) = false := by (have := HZJ.out; simp; omega)
        clear hz
        cases hT2 : valB (bV [.i xq1, .i xq2, .s sq3])
        · replace K2 := K2 _ hT2
          go_wp2_with fail
          refine wp_region_later (by kernel_rfl) (by kernel_rfl) ?_
          repeat (go_big_quiet_step ((first | (go_at_call 69; exact later_same (K0 _ (later_below _))) | (go_at_call 71; exact later_call (K2 _ (later_below _))))))
          refine wpQuiet_nil ?_
          rintro _ ⟨u9, rfl⟩
          have E2 := Lib.hid (below_then E1.out (later_below u9) (Nat.le_refl _))
          generalize later wr u9 = w9 at E2 ⊢
          clear q0 q1 q2 q3 K0 K2
          go_wp2
          go_ret
          exact ⟨ret_bool ((pairsB_no (fun hh => pair_noV HEN.out.2 hT2 (hh.2.1 j hlt))).symm), E2.out⟩
        replace K2 := K2 _ hT2
        have HG : Hid (pairB xs[j] = true) := (by (show (wordB (namP xs[j]) && valB (bV (xs[j].drop 1))) = true); rw [HEN.out.1, HEN.out.2, hT0, hT2]; rfl)
        have HNX : Hid (∀ q (h : q + 1 < xs.length), q + 1 < j + 1 → ltS (namP xs[q]) (namP xs[q + 1])) := fun q h hq => absurd hq (by have := HZJ.out; omega)
        go_wp2_with fail
        refine wp_region_later (by kernel_rfl) (by kernel_rfl) ?_
        repeat (go_big_quiet_step ((first | (go_at_call 69; exact later_same (K0 _ (later_below _))) | (go_at_call 71; exact later_call (K2 _ (later_below _))))))
        refine wpQuiet_nil ?_
        rintro _ ⟨u9, rfl⟩
        have E2 := Lib.hid (below_then E1.out (later_below u9) (Nat.le_refl _))
        generalize later wr u9 = w9 at E2 ⊢
        clear q0 q1 q2 q3 K0 K2
        go_wp2
        go_roundw
        case rel => exact ⟨j + 1, by omega, by go_num, fun q h hq => by
          by_cases e : q = j
          · subst e; exact HG.out
          · exact HOK.out q h (by omega), HNX.out, E2.out⟩
        case measure => simp [RowKit.intOf]; omega
      obtain ⟨i, hij⟩ : ∃ i, i + 1 = j := ⟨j - 1, by omega⟩
      have hi : i < xs.length := by omega
      have hiI : (i : Int) < xs.length := by omega
      obtain ⟨m'', b', o', us', hm', e', _, hbl', hr', hin'⟩ := (H.out.below E1.out).now.item i hi
      injection e' with e'; injection e' with e1 e2 _
      subst e1 e2
      obtain rfl : m'' = n - 1 := by omega
      have HI' := Lib.hid (Gd.ofC hin')
      obtain ⟨sr0, xr1, xr2, sr3, ed', rfl, kr0, kr1, kr2, kr3⟩ := open_Pair hin'
      have HED' := Lib.hid ed'
      have her : namP xs[i] = sr0 := by rw [ed']; rfl
      have HER := Lib.hid her
      clear her kr1 kr2 kr3
      have HR' := Lib.hid (show wr.rangeAt b (o + i * 4) _ from hr')
      clear hr' hin' ed' hm'
      have ei : (j : Int) - 1 = i := by omega
      have ew : IntKind.i64.wrap ((j : Int) - 1) = i := by rw [IntWalk.i64_left, IntWalk.wrap64_in _ (by omega)]; exact ei
      have hi0 : (0 : Int) ≤ (i : Int) := by omega
      have hjn : 0 < j := by omega
      have hjd : decide (0 < (j : Int)) = true := by simp; omega
      have p0 := later_cell (b := b) (o := o + i * 4) hbl (by simpa using HR'.out 0 _ rfl)
      by_cases hls : ltS sr0 sq0
      rotate_left
      · have hbL : Op.bytesLess sr0.toList sq0.toList = false := by rw [cm.bless]; simpa using hls
        have HLS := Lib.hid hls
        clear hls
        go_wp2_with fail
        refine wp_region_later (by kernel_rfl) (by kernel_rfl) ?_
        repeat (go_big_quiet_step ((first | (go_at_call 69; exact later_same (K0 _ (later_below _))))))
        refine wpQuiet_nil ?_
        rintro _ ⟨u9, rfl⟩
        have E2 := Lib.hid (below_then E1.out (later_below u9) (Nat.le_refl _))
        generalize later wr u9 = w9 at E2 ⊢
        clear q0 q1 q2 q3 p0 K0 K2
        go_wp2
        go_ret
        exact ⟨ret_bool ((pairsB_no (fun hh => HLS.out (by have := hh.2.2 i (by omega); subst hij; rw [HEN.out.1, HER.out] at this; exact this))).symm), E2.out⟩
      have hbL : Op.bytesLess sr0.toList sq0.toList = true := by rw [cm.bless]; simpa using hls
      have hLT : Hid (ltS (namP xs[i]) (namP xs[j])) := by rw [HEN.out.1, HER.out]; exact hls
      clear hls
      cases hT2 : valB (bV [.i xq1, .i xq2, .s sq3])
      · replace K2 := K2 _ hT2
        go_wp2_with fail
        refine wp_region_later (by kernel_rfl) (by kernel_rfl) ?_
        repeat (go_big_quiet_step ((first | (go_at_call 69; exact later_same (K0 _ (later_below _))) | (go_at_call 71; exact later_call (K2 _ (later_below _))))))
        refine wpQuiet_nil ?_
        rintro _ ⟨u9, rfl⟩
        have E2 := Lib.hid (below_then E1.out (later_below u9) (Nat.le_refl _))
        generalize later wr u9 = w9 at E2 ⊢
        clear q0 q1 q2 q3 p0 K0 K2
        go_wp2
        go_ret
        exact ⟨ret_bool ((pairsB_no (fun hh => pair_noV HEN.out.2 hT2 (hh.2.1 j hlt))).symm), E2.out⟩
      replace K2 := K2 _ hT2
      have HG : Hid (pairB xs[j] = true) := (by (show (wordB (namP xs[j]) && valB (bV (xs[j].drop 1))) = true); rw [HEN.out.1, HEN.out.2, hT0, hT2]; rfl)
      have HNX : Hid (∀ q (h : q + 1 < xs.length), q + 1 < j + 1 → ltS (namP xs[q]) (namP xs[q + 1])) := fun q h hq => by
        by_cases e : q = i
        · subst e; subst hij; exact hLT.out
        · exact HRI.out q h (by omega)
      go_wp2_with fail
      refine wp_region_later (by kernel_rfl) (by kernel_rfl) ?_
      repeat (go_big_quiet_step ((first | (go_at_call 69; exact later_same (K0 _ (later_below _))) | (go_at_call 71; exact later_call (K2 _ (later_below _))))))
      refine wpQuiet_nil ?_
      rintro _ ⟨u9, rfl⟩
      have E2 := Lib.hid (below_then E1.out (later_below u9) (Nat.le_refl _))
      generalize later wr u9 = w9 at E2 ⊢
      clear q0 q1 q2 q3 p0 K0 K2
      go_wp2
      go_roundw
      case rel => exact ⟨j + 1, by omega, by go_num, fun q h hq => by
        by_cases e : q = j
        · subst e; exact HG.out
        · exact HOK.out q h (by omega), HNX.out, E2.out⟩
      case measure => simp [RowKit.intOf]; omega
    · go_wp2
      go_ret
      refine ⟨ret_bool ?_, E1.out⟩
      have HG : pairsB xs = decide (xs.length ≤ 4) := by
        by_cases h4 : xs.length ≤ 4
        · rw [pairsB_yes ⟨h4, fun i h => HOK.out i h (by omega), fun i h => HRI.out i h (by omega)⟩]; simp [h4]
        · rw [pairs_len (by omega)]; simp [h4]
      rw [HG]
      by_cases h4 : xs.length ≤ 4
      · simp [h4]; try omega
      · simp [h4]; try omega
set_option maxHeartbeats 8000000 in
theorem thing_spec {B : Nat → Prop} {n : Nat} {w : World} {ds : List DC} {vs : List Value} {r : Bool} (hr : thB ds = r) (h : Cells B n w shThing_ ds vs) :
    Calls Tryz.prog 21 #[.agg vs.toArray] w (un.Told w (.bool r)) := by
  subst hr
  obtain ⟨lt0, st1, st2, xt3, xt4, st5, lt6, lt7, At0, ct0, At6, ct6, At7, ct7, rfl, rfl, kt0, kt1, kt2, kt3, kt4, kt5, kt6, kt7⟩ := open_Thing h
  have HA := Lib.hid (Gd.ofC (show Cells B n w shAddr_ [.l lt0, .s st1, .s st2, .i xt3, .i xt4, .s st5] [.slice At0 lt0.length ct0, .string st1, .string st2, .int .i64 xt3, .int .i64 xt4, .string st5] from ⟨kt0, Cell.mkS kt1, Cell.mkS kt2, Cell.mkI kt3, Cell.mkI kt4, Cell.mkS kt5, trivial⟩))
  have HA0 := HA
  have HP := Lib.hid (Gd.of1 kt6)
  have HN := Lib.hid (Gd.of1 kt7)
  have hlen := kt7.len.2
  unfold maxLen at hlen
  obtain ⟨D, hD⟩ : ∃ D, bA [.l lt0, .s st1, .s st2, .i xt3, .i xt4, .s st5] = D := ⟨_, rfl⟩
  have e : thB [.l lt0, .s st1, .s st2, .i xt3, .i xt4, .s st5, .l lt6, .l lt7] = (addrB D && pairsB lt6 && needsB D lt7) := by rw [← hD]; rfl
  rw [e]
  clear h kt0 kt1 kt2 kt3 kt4 kt5 kt6 kt7 e
  go_enter Tryz.func21, Tryz.ntmps21
  cases ha : addrB D
  · go_wp2_with fail
    refine (addrRight_spec hD ha (HA.out.alloc _).now).mono ?_
    rintro _ w1 ⟨rfl, hb⟩
    have E1 := Lib.hid (below_then (below_a1 _ _) hb (Nat.le_refl _))
    have Bt1 := Lib.hid ((Blk.new w _ _).step hb)
    have rt1 := Bt1.out.cell
    have bt1 := Bt1.out.lt
    have SA1 := Lib.hid ((HA.out.alloc _).below hb)
    have SP1 := Lib.hid ((HP.out.alloc _).below hb)
    clear hb HA HP
    go_wp2
    all_goals go_ret
    all_goals refine ⟨ret_bool ?_, E1.out⟩
    all_goals (simp [ha])
  go_wp2_with fail
  refine (addrRight_spec hD ha (HA.out.alloc _).now).mono ?_
  rintro _ w1 ⟨rfl, hb⟩
  have E1 := Lib.hid (below_then (below_a1 _ _) hb (Nat.le_refl _))
  have Bt1 := Lib.hid ((Blk.new w _ _).step hb)
  have rt1 := Bt1.out.cell
  have bt1 := Bt1.out.lt
  have SA1 := Lib.hid ((HA.out.alloc _).below hb)
  have SP1 := Lib.hid ((HP.out.alloc _).below hb)
  clear hb HA HP
  cases hp : pairsB lt6
  · go_wp2_with fail
    refine (pairs_spec hp (SP1.out).now).mono ?_
    rintro _ w2 ⟨rfl, hb⟩
    have E2 := Lib.hid (below_then E1.out hb (Nat.le_refl _))
    have Bt2 := Lib.hid ((Bt1.out).step hb)
    have rt2 := Bt2.out.cell
    have bt2 := Bt2.out.lt
    have SA2 := Lib.hid ((SA1.out).below hb)
    have SP2 := Lib.hid ((SP1.out).below hb)
    clear hb Bt1 rt1 bt1 SA1 SP1 E1
    go_wp2
    all_goals go_ret
    all_goals refine ⟨ret_bool ?_, E2.out⟩
    all_goals (simp [hp])
  go_wp2_with fail
  refine (pairs_spec hp (SP1.out).now).mono ?_
  rintro _ w2 ⟨rfl, hb⟩
  have E2 := Lib.hid (below_then E1.out hb (Nat.le_refl _))
  have Bt2 := Lib.hid ((Bt1.out).step hb)
  have rt2 := Bt2.out.cell
  have bt2 := Bt2.out.lt
  have SA2 := Lib.hid ((SA1.out).below hb)
  have SP2 := Lib.hid ((SP1.out).below hb)
  clear hb Bt1 rt1 bt1 SA1 SP1 E1
  by_cases hm : 400 < lt7.length
  · go_wp2
    all_goals go_ret
    all_goals refine ⟨ret_bool ?_, E2.out⟩
    all_goals (rw [needsB_no (fun hh => by have := hh.1; omega)]; simp)
  have hm4 : lt7.length ≤ 400 := by omega
  clear hm
  have hd4 : decide ((400 : Int) < (lt7.length : Int)) = false := by (simp; try omega)
  go_wp2
  have EE := Lib.hid E2.out
  try rw [hd4]
  clear hd4
  go_loopw [3] (fun i wr => ∃ j : Nat, j ≤ lt7.length ∧ i = .int .i64 j ∧ (∀ q (h : q < lt7.length), q < j → needB D lt7[q] = true) ∧ (∀ q (h : q + 1 < lt7.length), q + 1 < j → aheadA (bA lt7[q]) (bA lt7[q + 1])) ∧ Blk wr w.heap.size 41 #[.slice At0 lt0.length ct0, .string st1, .string st2, .int .i64 xt3, .int .i64 xt4, .string st5, .slice At6 lt6.length ct6, .slice At7 lt7.length ct7] ∧ Below w.heap.size w wr) (fun i _ => lt7.length - (RowKit.intOf i).toNat)
  case atStart => exact ⟨0, Nat.zero_le _, rfl, fun q _ hq => absurd hq (by omega), fun q _ hq => absurd hq (by omega), Bt2.out, EE.out⟩
  case round =>
    obtain ⟨j, hj, rfl, hok, hri, hB, hb⟩ := hrel
    have HOK := Lib.hid hok
    have HRI := Lib.hid hri
    have E1 := Lib.hid hb
    have b1 := hB.cell
    have B1 := Lib.hid hB
    clear hB
    clear hok hb hri
    by_cases hlt : j < lt7.length
    · obtain ⟨m', b, o, us, hm, rfl, _, hbl, hr, hin⟩ := (HN.out.below E1.out).now.item j hlt
      obtain rfl : m' = n - 1 := by omega
      have HI := Lib.hid (Gd.ofC hin)
      obtain ⟨lq0, sq1, sq2, xq3, xq4, sq5, Aq0, cq0, ed, rfl, kq0, kq1, kq2, kq3, kq4, kq5⟩ := open_Addr hin
      have HED := Lib.hid ed
      have hen : bA lt7[j] = bA [.l lq0, .s sq1, .s sq2, .i xq3, .i xq4, .s sq5] := by rw [ed]
      have HEN := Lib.hid hen
      clear hen kq0 kq1 kq2 kq3 kq4 kq5
      have HAT := Lib.hid (HA0.out.below E1.out)
      have HR := Lib.hid (show wr.rangeAt b (o + j * 6) _ from hr)
      have hjI : (j : Int) < lt7.length := by omega
      clear hr hin ed hm
      have q0 := later_cell (b := b) (o := o + j * 6) hbl (by simpa using HR.out 0 _ rfl)
      have q1 := later_cell (b := b) (o := o + j * 6 + 1) hbl (by simpa using HR.out 1 _ rfl)
      have q2 := later_cell (b := b) (o := o + j * 6 + 2) hbl (by simpa using HR.out 2 _ rfl)
      have q3 := later_cell (b := b) (o := o + j * 6 + 3) hbl (by simpa using HR.out 3 _ rfl)
      have q4 := later_cell (b := b) (o := o + j * 6 + 4) hbl (by simpa using HR.out 4 _ rfl)
      have q5 := later_cell (b := b) (o := o + j * 6 + 5) hbl (by simpa using HR.out 5 _ rfl)
      have qb0 := later_cell (b := w.heap.size) (o := 0) B1.out.lt (by rw [b1]; rfl)
      have qb1 := later_cell (b := w.heap.size) (o := 1) B1.out.lt (by rw [b1]; rfl)
      have qb2 := later_cell (b := w.heap.size) (o := 2) B1.out.lt (by rw [b1]; rfl)
      have qb3 := later_cell (b := w.heap.size) (o := 3) B1.out.lt (by rw [b1]; rfl)
      have qb4 := later_cell (b := w.heap.size) (o := 4) B1.out.lt (by rw [b1]; rfl)
      have qb5 := later_cell (b := w.heap.size) (o := 5) B1.out.lt (by rw [b1]; rfl)
      have qb7 := later_cell (b := w.heap.size) (o := 7) B1.out.lt (by rw [b1]; rfl)
      have K0 := fun (r : Bool) (hK : addrB (bA [.l lq0, .s sq1, .s sq2, .i xq3, .i xq4, .s sq5]) = r) (W' : World) (h : Below wr.heap.size wr W') => (show Calls _ _ _ _ _ from addrRight_spec (by rw [HED.out]) hK (HI.out.below h).now)
      have K1 := fun (r : Bool) (hK : adl.eqA (bA [.l lq0, .s sq1, .s sq2, .i xq3, .i xq4, .s sq5]) D = r) (W' : World) (h : Below wr.heap.size wr W') => (show Calls _ _ _ _ _ from sameAddr_spec (by rw [HED.out]) hD hK (HI.out.below h).now (HAT.out.below h).now)
      cases hT0 : addrB (bA [.l lq0, .s sq1, .s sq2, .i xq3, .i xq4, .s sq5])
      · replace K0 := K0 _ hT0
        go_wp2_with fail
        refine wp_region_later (by kernel_rfl) (by kernel_rfl) ?_
        repeat (go_big_quiet_step ((first | (go_at_call 45; exact later_call (K0 _ (later_below _))))))
        refine wpQuiet_nil ?_
        rintro _ ⟨u9, rfl⟩
        have E2 := Lib.hid (below_then E1.out (later_below u9) (Nat.le_refl _))
        have B2 := Lib.hid (B1.out.step (later_below u9))
        generalize later wr u9 = w9 at E2 B2 ⊢
        clear q0 q1 q2 q3 q4 q5 K0 K1 b1 B1 qb0 qb1 qb2 qb3 qb4 qb5 qb7
        have b2 := B2.out.cell
        go_wp2
        go_ret
        exact ⟨ret_bool ((by rw [needsB_no (fun hh => by have := hh.2.1 j hlt; simp only [needB, Bool.and_eq_true] at this; have e := this.1; rw [HEN.out, hT0] at e; cases e)]; simp)), E2.out⟩
      replace K0 := K0 _ hT0
      cases hT1 : adl.eqA (bA [.l lq0, .s sq1, .s sq2, .i xq3, .i xq4, .s sq5]) D
      rotate_left
      · replace K1 := K1 _ hT1
        go_wp2_with fail
        refine wp_region_later (by kernel_rfl) (by kernel_rfl) ?_
        repeat (go_big_quiet_step ((first | (go_at_call 45; exact later_call (K0 _ (later_below _))) | (go_at_call 47; exact later_call (K1 _ (later_below _))))))
        refine wpQuiet_nil ?_
        rintro _ ⟨u9, rfl⟩
        have E2 := Lib.hid (below_then E1.out (later_below u9) (Nat.le_refl _))
        have B2 := Lib.hid (B1.out.step (later_below u9))
        generalize later wr u9 = w9 at E2 B2 ⊢
        clear q0 q1 q2 q3 q4 q5 K0 K1 b1 B1 qb0 qb1 qb2 qb3 qb4 qb5 qb7
        have b2 := B2.out.cell
        go_wp2
        go_ret
        exact ⟨ret_bool ((by rw [needsB_no (fun hh => by have := hh.2.1 j hlt; simp only [needB, Bool.and_eq_true] at this; have e := this.2; rw [HEN.out, hT1] at e; cases e)]; simp)), E2.out⟩
      replace K1 := K1 _ hT1
      by_cases hz : j = 0
      · have HZJ := Lib.hid hz
        have hjn : ¬ 0 < j := by (have := HZJ.out; omega)
        have hjd : decide (0 < (j : Int)) = false := by (have := HZJ.out; simp; omega)
        clear hz
        have HG : Hid (needB D lt7[j] = true) := (by (show (addrB (bA lt7[j]) && !adl.eqA (bA lt7[j]) D) = true); rw [HEN.out, hT0, hT1]; rfl)
        have HNX : Hid (∀ q (h : q + 1 < lt7.length), q + 1 < j + 1 → aheadA (bA lt7[q]) (bA lt7[q + 1])) := fun q h hq => absurd hq (by have := HZJ.out; omega)
        go_wp2_with fail
        refine wp_region_later (by kernel_rfl) (by kernel_rfl) ?_
        repeat (go_big_quiet_step ((first | (go_at_call 45; exact later_call (K0 _ (later_below _))) | (go_at_call 47; exact later_call (K1 _ (later_below _))))))
        refine wpQuiet_nil ?_
        rintro _ ⟨u9, rfl⟩
        have E2 := Lib.hid (below_then E1.out (later_below u9) (Nat.le_refl _))
        have B2 := Lib.hid (B1.out.step (later_below u9))
        generalize later wr u9 = w9 at E2 B2 ⊢
        clear q0 q1 q2 q3 q4 q5 K0 K1 b1 B1 qb0 qb1 qb2 qb3 qb4 qb5 qb7
        have b2 := B2.out.cell
        go_wp2
        go_roundw
        case rel => exact ⟨j + 1, by omega, by go_num, fun q h hq => by
          by_cases e : q = j
          · subst e; exact HG.out
          · exact HOK.out q h (by omega), HNX.out, B2.out, E2.out⟩
        case measure => simp [RowKit.intOf]; omega
      obtain ⟨i, hij⟩ : ∃ i, i + 1 = j := ⟨j - 1, by omega⟩
      have hi : i < lt7.length := by omega
      have hiI : (i : Int) < lt7.length := by omega
      obtain ⟨m'', b', o', us', hm', e', _, hbl', hr', hin'⟩ := (HN.out.below E1.out).now.item i hi
      injection e' with e'; injection e' with e1 e2 _
      subst e1 e2
      obtain rfl : m'' = n - 1 := by omega
      have HI' := Lib.hid (Gd.ofC hin')
      obtain ⟨lr0, sr1, sr2, xr3, xr4, sr5, Ar0, cr0, ed', rfl, kr0, kr1, kr2, kr3, kr4, kr5⟩ := open_Addr hin'
      have HED' := Lib.hid ed'
      have her : bA lt7[i] = bA [.l lr0, .s sr1, .s sr2, .i xr3, .i xr4, .s sr5] := by rw [ed']
      have HER := Lib.hid her
      clear her kr0 kr1 kr2 kr3 kr4 kr5
      have HR' := Lib.hid (show wr.rangeAt b (o + i * 6) _ from hr')
      clear hr' hin' ed' hm'
      have ei : (j : Int) - 1 = i := by omega
      have ew : IntKind.i64.wrap ((j : Int) - 1) = i := by rw [IntWalk.i64_left, IntWalk.wrap64_in _ (by omega)]; exact ei
      have hi0 : (0 : Int) ≤ (i : Int) := by omega
      have hjn : 0 < j := by omega
      have hjd : decide (0 < (j : Int)) = true := by simp; omega
      have p0 := later_cell (b := b) (o := o + i * 6) hbl (by simpa using HR'.out 0 _ rfl)
      have p1 := later_cell (b := b) (o := o + i * 6 + 1) hbl (by simpa using HR'.out 1 _ rfl)
      have p2 := later_cell (b := b) (o := o + i * 6 + 2) hbl (by simpa using HR'.out 2 _ rfl)
      have p3 := later_cell (b := b) (o := o + i * 6 + 3) hbl (by simpa using HR'.out 3 _ rfl)
      have p4 := later_cell (b := b) (o := o + i * 6 + 4) hbl (by simpa using HR'.out 4 _ rfl)
      have p5 := later_cell (b := b) (o := o + i * 6 + 5) hbl (by simpa using HR'.out 5 _ rfl)
      have K2 := fun (r : Bool) (hK : (@decide (aheadA (bA lt7[i]) (bA lt7[j])) (Classical.propDecidable _)) = r) (W' : World) (h : Below wr.heap.size wr W') => (show Calls _ _ _ _ _ from hK ▸ cf.less_spec (HI'.out.below h).now (HI.out.below h).now)
      by_cases hls : aheadA (bA lt7[i]) (bA lt7[j])
      rotate_left
      · replace K2 := K2 false (by simp [hls])
        have HLS := Lib.hid hls
        clear hls
        go_wp2_with fail
        refine wp_region_later (by kernel_rfl) (by kernel_rfl) ?_
        repeat (go_big_quiet_step ((first | (go_at_call 45; exact later_call (K0 _ (later_below _))) | (go_at_call 47; exact later_call (K1 _ (later_below _))) | (go_at_call 44; exact later_call (K2 _ (later_below _))))))
        refine wpQuiet_nil ?_
        rintro _ ⟨u9, rfl⟩
        have E2 := Lib.hid (below_then E1.out (later_below u9) (Nat.le_refl _))
        have B2 := Lib.hid (B1.out.step (later_below u9))
        generalize later wr u9 = w9 at E2 B2 ⊢
        clear q0 q1 q2 q3 q4 q5 p0 p1 p2 p3 p4 p5 K0 K1 K2 b1 B1 qb0 qb1 qb2 qb3 qb4 qb5 qb7
        have b2 := B2.out.cell
        go_wp2
        go_ret
        exact ⟨ret_bool ((by rw [needsB_no (fun hh => HLS.out (by have := hh.2.2 i (by omega); subst hij; exact this))]; simp)), E2.out⟩
      replace K2 := K2 true (by simp [hls])
      have hLT : Hid (aheadA (bA lt7[i]) (bA lt7[j])) := hls
      clear hls
      have HG : Hid (needB D lt7[j] = true) := (by (show (addrB (bA lt7[j]) && !adl.eqA (bA lt7[j]) D) = true); rw [HEN.out, hT0, hT1]; rfl)
      have HNX : Hid (∀ q (h : q + 1 < lt7.length), q + 1 < j + 1 → aheadA (bA lt7[q]) (bA lt7[q + 1])) := fun q h hq => by
        by_cases e : q = i
        · subst e; subst hij; exact hLT.out
        · exact HRI.out q h (by omega)
      go_wp2_with fail
      refine wp_region_later (by kernel_rfl) (by kernel_rfl) ?_
      repeat (go_big_quiet_step ((first | (go_at_call 45; exact later_call (K0 _ (later_below _))) | (go_at_call 47; exact later_call (K1 _ (later_below _))) | (go_at_call 44; exact later_call (K2 _ (later_below _))))))
      refine wpQuiet_nil ?_
      rintro _ ⟨u9, rfl⟩
      have E2 := Lib.hid (below_then E1.out (later_below u9) (Nat.le_refl _))
      have B2 := Lib.hid (B1.out.step (later_below u9))
      generalize later wr u9 = w9 at E2 B2 ⊢
      clear q0 q1 q2 q3 q4 q5 p0 p1 p2 p3 p4 p5 K0 K1 K2 b1 B1 qb0 qb1 qb2 qb3 qb4 qb5 qb7
      have b2 := B2.out.cell
      go_wp2
      go_roundw
      case rel => exact ⟨j + 1, by omega, by go_num, fun q h hq => by
        by_cases e : q = j
        · subst e; exact HG.out
        · exact HOK.out q h (by omega), HNX.out, B2.out, E2.out⟩
      case measure => simp [RowKit.intOf]; omega
    · go_wp2
      go_ret
      exact ⟨ret_bool (by simp [hp, needsB_yes ⟨hm4, fun i h => HOK.out i h (by omega), fun i h => HRI.out i h (by omega)⟩]), E1.out⟩
end Go.Proofs.YtflfnekaiaplfaaGreat.cf
