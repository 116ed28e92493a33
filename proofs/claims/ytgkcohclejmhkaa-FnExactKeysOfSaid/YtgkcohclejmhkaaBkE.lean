/- every, rising of texts; keysRight. -/
import Derived.Test.YtgkcohclejmhkaaBkS
import Derived.Test.YtgkcohclejmhkaaShelf
namespace Go.Proofs.Ytgkcohclejmhkaa.cf
open ad mem vl ex un cm
open Go.ChangeShapes Go.WideShapes Go.ChangeAt Go.RowKit Go.Lib
set_option linter.unusedVariables false
set_option maxRecDepth 8000
set_option linter.unusedSimpArgs false

theorem cbL : ∀ a b : List UInt8, Lib.compareBytes a b < 0 ↔ a < b
  | [], [] => by simp [Lib.compareBytes]
  | [], _ :: _ => by simp [Lib.compareBytes]
  | _ :: _, [] => by simp [Lib.compareBytes]
  | a :: xs, b :: ys => by
    rw [Lib.compareBytes, List.cons_lt_cons_iff]
    by_cases h1 : a < b
    · simp [h1]
    · by_cases h2 : b < a
      · have h3 : a ≠ b := fun e => by subst e; exact h1 h2
        simp [h1, h2, h3]
      · have h3 : a = b := UInt8.le_antisymm (UInt8.not_lt.1 h2) (UInt8.not_lt.1 h1)
        subst h3
        simp [h1, cbL xs ys]
theorem tl_data (s : ByteArray) : s.toList = s.data.toList := by rw [toList_data]
theorem cb_lt (a b : ByteArray) : Lib.compareBytes a.data.toList b.data.toList < 0 ↔ ltS a b := by
  rw [cbL, ← tl_data, ← tl_data]; exact Iff.rfl
theorem word_impl {s : ByteArray} {r : Bool} {w : World} (hr : wordB s = r) (hs : s.size ≤ maxLen) : Calls Try.prog 95 #[.string s] w fun e w' => e = .returned (.bool r) ∧ w = w' := by
  subst hr; exact wd.impl_any s w hs
noncomputable def allW (l : List ByteArray) : Bool := @decide (∀ i (h : i < l.length), wordB l[i] = true) (Classical.propDecidable _)
noncomputable def riseB (l : List ByteArray) : Bool := @decide (riseS l) (Classical.propDecidable _)
theorem allW_iff {l : List ByteArray} : allW l = true ↔ ∀ i (h : i < l.length), wordB l[i] = true := by simp [allW]
theorem allW_no {l : List ByteArray} (i : Nat) (h : i < l.length) (hw : wordB l[i] = false) : allW l = false := by
  rw [Bool.eq_false_iff]; exact fun hh => by have := allW_iff.1 hh i h; simp [hw] at this
theorem riseB_iff {l : List ByteArray} : riseB l = true ↔ riseS l := by simp [riseB]
theorem riseB_no {l : List ByteArray} (i : Nat) (h : i + 1 < l.length) (hw : ¬ ltS l[i] l[i + 1]) : riseB l = false := by
  rw [Bool.eq_false_iff]; exact fun hh => hw (riseB_iff.1 hh i h)
set_option maxHeartbeats 2000000 in
theorem every_words {B : Nat → Prop} {n c : Nat} {w : World} {xs : List (List DC)} {A : Option Addr} {r : Bool} (hr : allW (bStrs xs) = r) (h : Cell B n w (.l 0) (.l xs) (.slice A xs.length c)) :
    Calls Try.prog 124 #[.slice A xs.length c, .func (.func 95) #[] #[]] w fun e w' => e = .returned (.bool r) ∧ w = w' := by
  subst hr
  have hlen := h.len.2
  unfold maxLen at hlen
  have HL := Lib.hid (bStrs_len xs)
  have H := Lib.hid h
  clear h
  go_enter Try.func124, Try.ntmps124
  go_wp2
  go_loop [9] (fun i => ∃ k : Nat, k ≤ xs.length ∧ i = .int .i64 k ∧ ∀ j (h : j < (bStrs xs).length), j < k → wordB (bStrs xs)[j] = true) (fun i => xs.length - (RowKit.intOf i).toNat)
  case atStart => exact ⟨0, Nat.zero_le _, rfl, fun j _ hj => absurd hj (by omega)⟩
  case round =>
    obtain ⟨k, hk, rfl, hok⟩ := hrel
    have HOK := Lib.hid hok
    clear hok
    by_cases hlt : k < xs.length
    · obtain ⟨b, o, rfl, hbg, hc, hsz⟩ := kcell H.out k hlt
      cases hw : wordB ((bStrs xs)[k]'(by rw [bStrs_len]; exact hlt))
      · go_wp2_with (go_at_call 95; refine (word_impl hw hsz).mono ?_; rintro e w' ⟨rfl, rfl⟩)
        go_ret
        exact ⟨ret_bool (allW_no k (by rw [HL.out]; exact hlt) hw).symm, rfl⟩
      · go_wp2_with (go_at_call 95; refine (word_impl hw hsz).mono ?_; rintro e w' ⟨rfl, rfl⟩)
        go_round
        case rel => exact ⟨k + 1, by omega, by go_num, fun j h hj => by
          by_cases e : j = k
          · subst e; exact hw
          · exact HOK.out j h (by omega)⟩
        case measure => simp [RowKit.intOf]; omega
    · go_wp2
      go_ret
      exact ⟨ret_bool (allW_iff.2 (fun j h => HOK.out j h (by rw [HL.out] at h; omega))).symm, rfl⟩
set_option maxHeartbeats 2000000 in
theorem rising_words {B : Nat → Prop} {n c : Nat} {w : World} {xs : List (List DC)} {A : Option Addr} {r : Bool} (hr : riseB (bStrs xs) = r) (h : Cell B n w (.l 0) (.l xs) (.slice A xs.length c)) :
    Calls Try.prog 125 #[.slice A xs.length c, .func (.func 126) #[] #[]] w (un.Told w (.bool r)) := by
  subst hr
  have hlen := h.len.2
  unfold maxLen at hlen
  have HL := Lib.hid (bStrs_len xs)
  have H := Lib.hid (Gd.of1 h)
  clear h
  go_enter Try.func125, Try.ntmps125
  go_wp2
  go_loopw [5] (fun i wr => ∃ k : Nat, 1 ≤ k ∧ k ≤ xs.length + 1 ∧ i = .int .i64 k ∧ (∀ q (h : q + 1 < (bStrs xs).length), q + 1 < k → ltS (bStrs xs)[q] (bStrs xs)[q + 1]) ∧ Below w.heap.size w wr) (fun i _ => xs.length + 1 - (RowKit.intOf i).toNat)
  case atStart => exact ⟨1, by omega, by omega, rfl, fun q _ hq => absurd hq (by omega), Below.refl _ _⟩
  case round =>
    obtain ⟨j, hj1, hj2, rfl, hok, hb⟩ := hrel
    have HOK := Lib.hid hok
    have HB := Lib.hid hb
    clear hok hb
    by_cases hlt : j < xs.length
    · obtain ⟨b, o, rfl, hbl, hc, hsz⟩ := kcell (H.out.below HB.out).now j hlt
      obtain ⟨i, hij⟩ : ∃ i, i + 1 = j := ⟨j - 1, by omega⟩
      have hi : i < xs.length := by omega
      have hjI : (j : Int) < xs.length := by omega
      have hiI : (i : Int) < xs.length := by omega
      obtain ⟨b', o', e', hbl', hc', hsz'⟩ := kcell (H.out.below HB.out).now i hi
      injection e' with e'; injection e' with e1 e2 _
      subst e1 e2
      have ei : (j : Int) - 1 = i := by omega
      have ew : IntKind.i64.wrap ((j : Int) - 1) = i := by rw [IntWalk.i64_left, IntWalk.wrap64_in _ (by omega)]; exact ei
      have hi0 : (0 : Int) ≤ (i : Int) := by omega
      obtain ⟨cv, hcv⟩ : ∃ cv, Lib.compareBytes ((bStrs xs)[i]'(by rw [bStrs_len]; exact hi)).data.toList ((bStrs xs)[j]'(by rw [bStrs_len]; exact hlt)).data.toList = cv := ⟨_, rfl⟩
      have hlt' := cb_lt ((bStrs xs)[i]'(by rw [bStrs_len]; exact hi)) ((bStrs xs)[j]'(by rw [bStrs_len]; exact hlt))
      rw [hcv] at hlt'
      have HLT := Lib.hid hlt'
      have HCV := Lib.hid hcv
      clear hlt' hcv
      by_cases hneg : cv < 0
      · go_wp2_with fail
        go_quiet ((go_at_call 126; exact Calls.quiet_of_same ((Try.strings_Compare _ _ _).mono fun _ _ ⟨a, b⟩ => ⟨by rw [a, HCV.out], b⟩)))
        go_wp2
        go_roundw
        case rel => exact ⟨j + 1, by omega, by omega, by go_num, fun q h hq => by
          by_cases e : q = i
          · subst e; subst hij; exact HLT.out.1 hneg
          · exact HOK.out q h (by omega), below_dn HB.out _⟩
        case measure => simp [RowKit.intOf]; omega
      · have hge : 0 ≤ cv := by omega
        clear hneg
        go_wp2_with fail
        go_quiet ((go_at_call 126; exact Calls.quiet_of_same ((Try.strings_Compare _ _ _).mono fun _ _ ⟨a, b⟩ => ⟨by rw [a, HCV.out], b⟩)))
        go_wp2
        go_ret
        exact ⟨ret_bool (riseB_no i (by rw [HL.out]; omega) (fun hh => by subst hij; have := HLT.out.2 hh; omega)).symm, below_dn HB.out _⟩
    · go_wp2
      go_ret
      exact ⟨ret_bool (riseB_iff.2 (fun q h => HOK.out q h (by rw [HL.out] at h; omega))).symm, HB.out⟩
set_option maxHeartbeats 4000000 in
theorem keys_impl {B : Nat → Prop} {n : Nat} {w : World} {ds : List DC} {vs : List Value} {D : BlockD} {r : Bool} (hD : bB n ds = D) (hr : keysB D.count D.each = r) (h : Cells B n w shBlock_ ds vs) :
    Calls Try.prog 109 #[.agg vs.toArray] w (un.Told w (.bool r)) := by
  subst hD hr
  obtain ⟨l0, s1, s2, x3, x4, s5, x6, l7, l8, A0, c0, A7, c7, A8, c8, rfl, rfl, k0, k1, k2, k3, k4, k5, k6, k7, k8⟩ := open_Block h
  have ec : (bB n [.l l0, .s s1, .s s2, .i x3, .i x4, .s s5, .i x6, .l l7, .l l8]).count = x6 := rfl
  have ee : (bB n [.l l0, .s s1, .s s2, .i x3, .i x4, .s s5, .i x6, .l l7, .l l8]).each = bStrs l7 := rfl
  rw [ec, ee]
  clear ec ee
  have hlen := k7.len.2
  unfold maxLen at hlen
  have HL := Lib.hid (bStrs_len l7)
  have H := Lib.hid (Gd.of1 k7)
  clear h k0 k1 k2 k3 k4 k5 k6 k7 k8
  by_cases h0 : l7.length = 0
  · go_enter Try.func109, Try.ntmps109
    go_wp2
    all_goals go_ret
    all_goals refine ⟨ret_bool ?_, below_a1 _ _⟩
    all_goals by_cases hc : -1 ≤ x6 ∧ x6 ≤ 8
    all_goals first
      | (rw [keysB_yes (.inl ⟨by rw [HL.out]; exact h0, hc.1, hc.2⟩)]; simp; omega)
      | (rw [keysB_no (fun hh => by
          rcases hh with ⟨_, h1, h2⟩ | ⟨h1, _⟩
          · exact hc ⟨h1, h2⟩
          · rw [HL.out] at h1; exact h1 h0)]; simp; omega)
      | (rw [keysB_no (fun hh => by
          rcases hh with ⟨_, h1, h2⟩ | ⟨h1, _⟩
          · exact hc ⟨h1, h2⟩
          · rw [HL.out] at h1; exact h1 h0)])
  have hK : keysB x6 (bStrs l7) = (decide (x6 = -1) && decide (l7.length ≤ 8) && allW (bStrs l7) && riseB (bStrs l7)) := by
    rw [Bool.eq_iff_iff, keysB_iff]
    simp only [Bool.and_eq_true, decide_eq_true_eq, allW_iff, riseB_iff]
    constructor
    · rintro (⟨h1, _⟩ | ⟨_, h2, h3, h4, h5⟩)
      · rw [HL.out] at h1; exact absurd h1 h0
      · exact ⟨⟨⟨h2, by rw [HL.out] at h3; exact h3⟩, h4⟩, h5⟩
    · rintro ⟨⟨⟨h2, h3⟩, h4⟩, h5⟩
      exact .inr ⟨by rw [HL.out]; exact h0, h2, by rw [HL.out]; exact h3, h4, h5⟩
  rw [hK]
  have hpos : 0 < l7.length := by omega
  clear h0 hK
  go_enter Try.func109, Try.ntmps109
  by_cases hm1 : x6 = -1
  · by_cases h8 : l7.length ≤ 8
    · cases hw : allW (bStrs l7)
      rotate_left
      · go_wp2_with fail
        refine (every_words hw (H.out.alloc _).now).mono ?_
        rintro _ _ ⟨rfl, rfl⟩
        cases hri : riseB (bStrs l7)
        rotate_left
        · go_wp2_with fail
          refine (rising_words hri (H.out.alloc _).now).mono ?_
          rintro _ w1 ⟨rfl, hb⟩
          have E1 := Lib.hid (below_then (below_a1 _ _) hb (Nat.le_refl _))
          have Bb1 := Lib.hid ((Blk.new w _ _).step hb)
          have rb1 := Bb1.out.cell
          have bb1 := Bb1.out.lt
          have SK1 := Lib.hid ((H.out.alloc _).below hb)
          clear hb H
          go_wp2
          all_goals go_ret
          all_goals refine ⟨ret_bool ?_, E1.out⟩
          all_goals (try simp_all)
          all_goals (try omega)
        go_wp2_with fail
        refine (rising_words hri (H.out.alloc _).now).mono ?_
        rintro _ w1 ⟨rfl, hb⟩
        have E1 := Lib.hid (below_then (below_a1 _ _) hb (Nat.le_refl _))
        have Bb1 := Lib.hid ((Blk.new w _ _).step hb)
        have rb1 := Bb1.out.cell
        have bb1 := Bb1.out.lt
        have SK1 := Lib.hid ((H.out.alloc _).below hb)
        clear hb H
        go_wp2
        all_goals go_ret
        all_goals refine ⟨ret_bool ?_, E1.out⟩
        all_goals (try simp_all)
        all_goals (try omega)
      go_wp2_with fail
      refine (every_words hw (H.out.alloc _).now).mono ?_
      rintro _ _ ⟨rfl, rfl⟩
      go_wp2
      all_goals go_ret
      all_goals refine ⟨ret_bool ?_, (below_a1 _ _)⟩
      all_goals (try simp_all)
      all_goals (try omega)
    go_wp2
    all_goals go_ret
    all_goals refine ⟨ret_bool ?_, (below_a1 _ _)⟩
    all_goals (try simp_all)
    all_goals (try omega)
  go_wp2
  all_goals go_ret
  all_goals refine ⟨ret_bool ?_, (below_a1 _ _)⟩
  all_goals (try simp_all)
  all_goals (try omega)
end Go.Proofs.Ytgkcohclejmhkaa.cf
