/- Pairs of a thing, of the program. -/
import Derived.Test.YtnjpddbpnmgcpaaGreatDoorBr
import Derived.Test.YtnjpddbpnmgcpaaGreatDoorVlI
import Derived.Test.YtnjpddbpnmgcpaaGreatDoorGd
import Derived.BigQuiet
import Derived.BigRegion
import Derived.Outline
namespace Go.Proofs.YtnjpddbpnmgcpaaGreatDoor.cf
open ad mem vl ex un cm
open Go.ChangeShapes Go.WideShapes Go.ChangeAt Go.RowKit Go.Lib
set_option linter.unusedVariables false
set_option maxRecDepth 8000
set_option linter.unusedSimpArgs false

theorem val_in {B : Nat → Prop} {n : Nat} {w : World} {ds : List DC} {vs : List Value} (h : Cells B n w shValue_ ds vs) : vs = [.int .i64 (bV ds).kind, .int .i64 (bV ds).n, .string (bV ds).text] ∧ (bV ds).text.size ≤ maxLen := by
  obtain ⟨x0, x1, s2, rfl, rfl, k0, k1, k2⟩ := open_Value h
  exact ⟨rfl, k2⟩
theorem valRight_impl {B : Nat → Prop} {n : Nat} {w : World} {ds : List DC} {vs : List Value} {r : Bool} (hr : valB (bV ds) = r) (h : Cells B n w shValue_ ds vs) :
    Calls Tryz.prog 79 #[.agg vs.toArray] w (un.Told w (.bool r)) := by
  subst hr; obtain ⟨rfl, h1⟩ := val_in h; exact vl.right_impl _ w h1
theorem valRight_spec {B : Nat → Prop} {n : Nat} {w : World} {ds : List DC} {vs : List Value} {r : Bool} (hr : valB (bV ds) = r) (h : Cells B n w shValue_ ds vs) :
    Calls Tryz.prog 83 #[.agg vs.toArray] w (un.Told w (.bool r)) := by
  subst hr; obtain ⟨rfl, h1⟩ := val_in h; exact vl.right_spec _ w h1
/-- a right pair. -/
noncomputable def pairB (ds : List DC) : Bool := wordB (bS (ds.getD 0 z)) && valB (bV (ds.drop 1))
def namP (ds : List DC) : ByteArray := bS (ds.getD 0 z)
def pairsOk (l : List (List DC)) : Prop := l.length ≤ 4 ∧ (∀ i (h : i < l.length), pairB l[i] = true) ∧ ∀ i (h : i + 1 < l.length), ltS (namP l[i]) (namP l[i + 1])
noncomputable def pairsB (l : List (List DC)) : Bool := @decide (pairsOk l) (Classical.propDecidable _)
noncomputable def needB (a : AddrD) (ds : List DC) : Bool := addrB (bA ds) && !adl.eqA (bA ds) a
def needsOk (a : AddrD) (l : List (List DC)) : Prop := l.length ≤ 400 ∧ (∀ i (h : i < l.length), needB a l[i] = true) ∧ ∀ i (h : i + 1 < l.length), aheadA (bA l[i]) (bA l[i + 1])
noncomputable def needsB (a : AddrD) (l : List (List DC)) : Bool := @decide (needsOk a l) (Classical.propDecidable _)
/-- a right thing. -/
noncomputable def thB (ds : List DC) : Bool := addrB (bA ds) && pairsB (bL (ds.getD 6 z)) && needsB (bA ds) (bL (ds.getD 7 z))
theorem pairsB_no {l : List (List DC)} (h : ¬ pairsOk l) : pairsB l = false := by simp [pairsB, h]
theorem pairsB_yes {l : List (List DC)} (h : pairsOk l) : pairsB l = true := by simp [pairsB, h]
theorem needsB_no {a : AddrD} {l : List (List DC)} (h : ¬ needsOk a l) : needsB a l = false := by simp [needsB, h]
theorem needsB_yes {a : AddrD} {l : List (List DC)} (h : needsOk a l) : needsB a l = true := by simp [needsB, h]
set_option maxHeartbeats 2000000 in
theorem pair_impl {B : Nat → Prop} {n : Nat} {w : World} {ds : List DC} {vs : List Value} {r : Bool} (hr : pairB ds = r) (h : Cells B n w shPair_ ds vs) :
    Calls Tryz.prog 120 #[.agg vs.toArray] w (un.Told w (.bool r)) := by
  subst hr
  obtain ⟨sq0, xq1, xq2, sq3, rfl, rfl, k0, k1, k2, k3⟩ := open_Pair h
  have HV := Lib.hid (Gd.ofC (show Cells B n w shValue_ [.i xq1, .i xq2, .s sq3] [.int .i64 xq1, .int .i64 xq2, .string sq3] from ⟨Cell.mkI k1, Cell.mkI k2, Cell.mkS k3, trivial⟩))
  have e : pairB [.s sq0, .i xq1, .i xq2, .s sq3] = (wordB sq0 && valB (bV [.i xq1, .i xq2, .s sq3])) := rfl
  rw [e]
  clear h k1 k2 k3 e
  go_enter Tryz.func120, Tryz.ntmps120
  cases hw : wordB sq0
  rotate_left
  · go_wp2_with fail
    refine (word_impl hw k0).mono ?_
    rintro _ _ ⟨rfl, rfl⟩
    go_wp2_with fail
    refine (valRight_impl (r := valB (bV [.i xq1, .i xq2, .s sq3])) rfl (HV.out.alloc _).now).mono ?_
    rintro _ w1 ⟨rfl, hb⟩
    have E1 := Lib.hid (below_then (below_a1 _ _) hb (Nat.le_refl _))
    have Bp1 := Lib.hid ((Blk.new w _ _).step hb)
    have rp1 := Bp1.out.cell
    have bp1 := Bp1.out.lt
    have SV1 := Lib.hid ((HV.out.alloc _).below hb)
    clear hb HV
    go_wp2
    all_goals go_ret
    all_goals refine ⟨ret_bool ?_, E1.out⟩
    all_goals (simp [hw])
  go_wp2_with fail
  refine (word_impl hw k0).mono ?_
  rintro _ _ ⟨rfl, rfl⟩
  go_wp2
  all_goals go_ret
  all_goals refine ⟨ret_bool ?_, (below_a1 _ _)⟩
  all_goals (simp [hw])
set_option maxHeartbeats 1000000 in
theorem compare_pairs {B B' : Nat → Prop} {n m : Nat} {w : World} {ds ds' : List DC} {vs vs' : List Value} {cv : Int} (hr : cm.cmpS (namP ds) (namP ds') = cv) (h : Cells B n w shPair_ ds vs) (h' : Cells B' m w shPair_ ds' vs') :
    Calls Tryz.prog 122 #[.agg vs.toArray, .agg vs'.toArray] w (un.Told w (.int .i64 cv)) := by
  subst hr
  obtain ⟨sq0, xq1, xq2, sq3, rfl, rfl, -⟩ := open_Pair h
  obtain ⟨sr0, xr1, xr2, sr3, rfl, rfl, -⟩ := open_Pair h'
  clear h h'
  go_enter Tryz.func122, Tryz.ntmps122
  go_wp2_with (go_at_call 129; refine (cm.cmp_s _ _ _).mono ?_; rintro _ _ ⟨rfl, rfl⟩)
  go_ret
  exact ⟨rfl, below_a2 _ _ _⟩
noncomputable def allPa (n : Nat) (xs : List (List DC)) : Bool := @decide (∀ i (h : i < xs.length), pairB xs[i] = true) (Classical.propDecidable _)
theorem allPa_iff {n : Nat} {xs : List (List DC)} : allPa n xs = true ↔ ∀ i (h : i < xs.length), pairB xs[i] = true := by simp [allPa]
theorem allPa_no {n : Nat} {xs : List (List DC)} (i : Nat) (h : i < xs.length) (hw : pairB xs[i] = false) : allPa n xs = false := by
  rw [Bool.eq_false_iff]; exact fun hh => by have := allPa_iff.1 hh i h; simp [hw] at this
set_option maxHeartbeats 4000000 in
theorem every_pairs {B : Nat → Prop} {n c : Nat} {w : World} {xs : List (List DC)} {A : Option Addr} {r : Bool} (hr : allPa n xs = r) (h : Cell B n w (.l 7) (.l xs) (.slice A xs.length c)) :
    Calls Tryz.prog 119 #[.slice A xs.length c, .func (.func 120) #[] #[]] w (un.Told w (.bool r)) := by
  subst hr
  have hlen := h.len.2
  unfold maxLen at hlen
  have H := Lib.hid (Gd.of1 h)
  clear h
  go_enter Tryz.func119, Tryz.ntmps119
  go_wp2
  go_loopw [9] (fun i wr => ∃ k : Nat, k ≤ xs.length ∧ i = .int .i64 k ∧ (∀ j (h : j < xs.length), j < k → pairB xs[j] = true) ∧ Below w.heap.size w wr) (fun i _ => xs.length - (RowKit.intOf i).toNat)
  case atStart => exact ⟨0, Nat.zero_le _, rfl, fun j _ hj => absurd hj (by omega), Below.refl _ _⟩
  case round =>
    obtain ⟨k, hk, rfl, hok, hb⟩ := hrel
    have HOK := Lib.hid hok
    have E1 := Lib.hid hb
    clear hok hb
    by_cases hlt : k < xs.length
    · obtain ⟨m', b, o, us, hm, rfl, _, hbl, hr, hin⟩ := (H.out.below E1.out).now.item k hlt
      obtain rfl : m' = n - 1 := by omega
      have HI := Lib.hid (Gd.ofC hin)
      obtain ⟨sq0, xq1, xq2, sq3, ed, rfl, -⟩ := open_Pair hin
      have HR := Lib.hid (show wr.rangeAt b (o + k * 4) _ from hr)
      clear hr hin ed
      cases hf : pairB xs[k]
      · go_wp2_with (refine wpList_load_mid rfl 54 (.tmp 11) rfl b (o + k * 4) rfl _ _ HR.out Tryz.underlying54 rfl (by kernel_rfl) ?_)
        go_wp2_with fail
        refine (pair_impl hf (HI.out.alloc _).now).mono ?_
        rintro _ w2 ⟨rfl, hb⟩
        have E2 := Lib.hid (below_then (below_da E1.out (Nat.le_refl _) _) hb (Nat.le_refl _))
        clear hb
        go_wp2
        go_ret
        exact ⟨ret_bool (allPa_no k hlt hf).symm, E2.out⟩
      · go_wp2_with (refine wpList_load_mid rfl 54 (.tmp 11) rfl b (o + k * 4) rfl _ _ HR.out Tryz.underlying54 rfl (by kernel_rfl) ?_)
        go_wp2_with fail
        refine (pair_impl hf (HI.out.alloc _).now).mono ?_
        rintro _ w2 ⟨rfl, hb⟩
        have E2 := Lib.hid (below_then (below_da E1.out (Nat.le_refl _) _) hb (Nat.le_refl _))
        clear hb
        go_wp2
        go_roundw
        case rel => exact ⟨k + 1, by omega, by go_num, fun j h hj => by
          by_cases e : j = k
          · subst e; exact hf
          · exact HOK.out j h (by omega), E2.out⟩
        case measure => simp [RowKit.intOf]; omega
    · go_wp2
      go_ret
      exact ⟨ret_bool (allPa_iff.2 (fun j h => HOK.out j h (by omega))).symm, E1.out⟩
noncomputable def risePa (n : Nat) (xs : List (List DC)) : Bool := @decide (∀ i (h : i + 1 < xs.length), ltS (namP xs[i]) (namP xs[i + 1])) (Classical.propDecidable _)
theorem risePa_iff {n : Nat} {xs : List (List DC)} : risePa n xs = true ↔ ∀ i (h : i + 1 < xs.length), ltS (namP xs[i]) (namP xs[i + 1]) := by simp [risePa]
theorem risePa_no {n : Nat} {xs : List (List DC)} (i : Nat) (h : i + 1 < xs.length) (hw : ¬ ltS (namP xs[i]) (namP xs[i + 1])) : risePa n xs = false := by
  rw [Bool.eq_false_iff]; exact fun hh => hw (risePa_iff.1 hh i h)
set_option maxHeartbeats 4000000 in
theorem rising_pairs {B : Nat → Prop} {n c : Nat} {w : World} {xs : List (List DC)} {A : Option Addr} {r : Bool} (hr : risePa n xs = r) (h : Cell B n w (.l 7) (.l xs) (.slice A xs.length c)) :
    Calls Tryz.prog 121 #[.slice A xs.length c, .func (.func 122) #[] #[]] w (un.Told w (.bool r)) := by
  subst hr
  have hlen := h.len.2
  unfold maxLen at hlen
  have H := Lib.hid (Gd.of1 h)
  clear h
  go_enter Tryz.func121, Tryz.ntmps121
  go_wp2
  go_loopw [5] (fun i wr => ∃ k : Nat, 1 ≤ k ∧ k ≤ xs.length + 1 ∧ i = .int .i64 k ∧ (∀ i (h : i + 1 < xs.length), i + 1 < k → ltS (namP xs[i]) (namP xs[i + 1])) ∧ Below w.heap.size w wr) (fun i _ => xs.length + 1 - (RowKit.intOf i).toNat)
  case atStart => exact ⟨1, by omega, by omega, rfl, fun q _ hq => absurd hq (by omega), Below.refl _ _⟩
  case round =>
    obtain ⟨j, hj1, hj2, rfl, hok, hb⟩ := hrel
    have HOK := Lib.hid hok
    have E1 := Lib.hid hb
    clear hok hb
    by_cases hlt : j < xs.length
    · obtain ⟨m', b, o, us, hm, rfl, _, hbl, hr, hin⟩ := (H.out.below E1.out).now.item j hlt
      obtain rfl : m' = n - 1 := by omega
      obtain ⟨i, hij⟩ : ∃ i, i + 1 = j := ⟨j - 1, by omega⟩
      have hi : i < xs.length := by omega
      have hjI : (j : Int) < xs.length := by omega
      have hiI : (i : Int) < xs.length := by omega
      obtain ⟨m'', b', o', us', hm', e', _, hbl', hr', hin'⟩ := (H.out.below E1.out).now.item i hi
      injection e' with e'; injection e' with e1 e2 _
      subst e1 e2
      obtain rfl : m'' = n - 1 := by omega
      have HI := Lib.hid (Gd.ofC hin)
      have HI' := Lib.hid (Gd.ofC hin')
      obtain ⟨sq0, xq1, xq2, sq3, ed, rfl, -⟩ := open_Pair hin
      obtain ⟨sr0, xr1, xr2, sr3, ed', rfl, -⟩ := open_Pair hin'
      have HR := Lib.hid (show wr.rangeAt b (o + j * 4) _ from hr)
      have HR' := Lib.hid (show wr.rangeAt b (o + i * 4) _ from hr')
      obtain ⟨cv, hcv⟩ : ∃ cv, cm.cmpS (namP xs[i]) (namP xs[j]) = cv := ⟨_, rfl⟩
      have HLT : Hid (cv < 0 ↔ ltS (namP xs[i]) (namP xs[j])) := by rw [← hcv]; exact cm.cmpS_neg
      clear hr hr' hin hin' ed ed' hm hm'
      have ei : (j : Int) - 1 = i := by omega
      have ew : IntKind.i64.wrap ((j : Int) - 1) = i := by rw [IntWalk.i64_left, IntWalk.wrap64_in _ (by omega)]; exact ei
      have hi0 : (0 : Int) ≤ (i : Int) := by omega
      have KC := fun (W' : World) (h : Below wr.heap.size wr W') => compare_pairs hcv (HI'.out.below h).now (HI.out.below h).now
      have q0 := later_cell (b := b) (o := o + j * 4) hbl (by simpa using HR.out 0 _ rfl)
      have q1 := later_cell (b := b) (o := o + j * 4 + 1) hbl (by simpa using HR.out 1 _ rfl)
      have q2 := later_cell (b := b) (o := o + j * 4 + 2) hbl (by simpa using HR.out 2 _ rfl)
      have q3 := later_cell (b := b) (o := o + j * 4 + 3) hbl (by simpa using HR.out 3 _ rfl)
      have p0 := later_cell (b := b) (o := o + i * 4) hbl (by simpa using HR'.out 0 _ rfl)
      have p1 := later_cell (b := b) (o := o + i * 4 + 1) hbl (by simpa using HR'.out 1 _ rfl)
      have p2 := later_cell (b := b) (o := o + i * 4 + 2) hbl (by simpa using HR'.out 2 _ rfl)
      have p3 := later_cell (b := b) (o := o + i * 4 + 3) hbl (by simpa using HR'.out 3 _ rfl)
      clear hcv
      by_cases hneg : cv < 0
      · go_wp2_with fail
        refine wp_region_later (by kernel_rfl) (by kernel_rfl) ?_
        repeat (go_big_quiet_step ((go_at_call 122; exact later_call (KC _ (later_below _)))))
        refine wpQuiet_nil ?_
        rintro _ ⟨u9, rfl⟩
        have E2 := Lib.hid (below_then E1.out (later_below u9) (Nat.le_refl _))
        generalize later wr u9 = w9 at E2 ⊢
        clear q0 p0 q1 p1 q2 p2 q3 p3 KC
        go_wp2
        go_roundw
        case rel => exact ⟨j + 1, by omega, by omega, by go_num, fun q h hq => by
          by_cases e : q = i
          · subst e; subst hij; exact HLT.out.1 hneg
          · exact HOK.out q h (by omega), E2.out⟩
        case measure => simp [RowKit.intOf]; omega
      · have hge : 0 ≤ cv := by omega
        clear hneg
        go_wp2_with fail
        refine wp_region_later (by kernel_rfl) (by kernel_rfl) ?_
        repeat (go_big_quiet_step ((go_at_call 122; exact later_call (KC _ (later_below _)))))
        refine wpQuiet_nil ?_
        rintro _ ⟨u9, rfl⟩
        have E2 := Lib.hid (below_then E1.out (later_below u9) (Nat.le_refl _))
        generalize later wr u9 = w9 at E2 ⊢
        clear q0 p0 q1 p1 q2 p2 q3 p3 KC
        go_wp2
        go_ret
        exact ⟨ret_bool (risePa_no i (by omega) (fun hh => by subst hij; have := HLT.out.2 hh; omega)).symm, E2.out⟩
    · go_wp2
      go_ret
      exact ⟨ret_bool (risePa_iff.2 (fun q h => HOK.out q h (by omega))).symm, E1.out⟩
theorem pairsB_eq {n : Nat} {l : List (List DC)} : pairsB l = (decide (l.length ≤ 4) && allPa n l && risePa n l) := by
  rw [Bool.eq_iff_iff]
  simp only [Bool.and_eq_true, decide_eq_true_eq, allPa_iff, risePa_iff]
  show @decide (pairsOk l) (Classical.propDecidable _) = true ↔ _
  rw [@decide_eq_true_iff _ (Classical.propDecidable _)]
  simp only [pairsOk, and_assoc]
set_option maxHeartbeats 2000000 in
theorem pairs_impl {B : Nat → Prop} {n c : Nat} {w : World} {xs : List (List DC)} {A : Option Addr} {r : Bool} (hr : pairsB xs = r) (h : Cell B n w (.l 7) (.l xs) (.slice A xs.length c)) :
    Calls Tryz.prog 101 #[.slice A xs.length c] w (un.Told w (.bool r)) := by
  subst hr
  have hlen := h.len.2
  unfold maxLen at hlen
  have H := Lib.hid (Gd.of1 h)
  clear h
  rw [pairsB_eq (n := n)]
  go_enter Tryz.func101, Tryz.ntmps101
  by_cases h4 : xs.length ≤ 4
  · cases ha : allPa n xs
    rotate_left
    · go_wp2_with fail
      refine (every_pairs ha (H.out).now).mono ?_
      rintro _ w1 ⟨rfl, hb⟩
      have E1 := Lib.hid (below_then (Below.refl _ _) hb (Nat.le_refl _))
      have SL1 := Lib.hid ((H.out).below hb)
      clear hb H
      go_wp2_with fail
      refine (rising_pairs (r := risePa n xs) rfl (SL1.out).now).mono ?_
      rintro _ w2 ⟨rfl, hb⟩
      have E2 := Lib.hid (below_then E1.out hb (Nat.le_refl _))
      have SL2 := Lib.hid ((SL1.out).below hb)
      clear hb SL1 E1
      go_wp2
      all_goals go_ret
      all_goals refine ⟨ret_bool ?_, E2.out⟩
      all_goals (simp [ha, h4])
    go_wp2_with fail
    refine (every_pairs ha (H.out).now).mono ?_
    rintro _ w1 ⟨rfl, hb⟩
    have E1 := Lib.hid (below_then (Below.refl _ _) hb (Nat.le_refl _))
    have SL1 := Lib.hid ((H.out).below hb)
    clear hb H
    go_wp2
    all_goals go_ret
    all_goals refine ⟨ret_bool ?_, E1.out⟩
    all_goals (simp [ha, h4])
  go_wp2
  all_goals go_ret
  all_goals refine ⟨ret_bool ?_, (Below.refl _ _)⟩
  all_goals (simp; try omega)
end Go.Proofs.YtnjpddbpnmgcpaaGreatDoor.cf
