/- l04Keys of the model. -/
import Derived.Test.YtgkcohclejmhkaaUsS
import Derived.Test.YtgkcohclejmhkaaMvS
import Derived.Deep.RegionHeld3
import Derived.Deep.DeepCutAuto
import Derived.Test.YtgkcohclejmhkaaLt
namespace Go.Proofs.Ytgkcohclejmhkaa.cf
open ad mem vl ex un cm
open Go.ChangeShapes Go.WideShapes Go.ChangeAt Go.RowKit Go.Lib
set_option linter.unusedVariables false
set_option maxRecDepth 8000
set_option linter.unusedSimpArgs false

theorem _root_.Go.Proofs.Ytgkcohclejmhkaa.mem.Blk.drew' {w : World} {g : Nat} {T : TypeId} {cs : Array Value} (h : Blk w g T cs) (k : Nat) : Blk (w.drewN k) g T cs := h.step (below_d w k)
theorem kcell {B : Nat → Prop} {n c : Nat} {w : World} {xs : List (List DC)} {A : Option Addr} (h : Cell B n w (.l 0) (.l xs) (.slice A xs.length c)) (k : Nat) (hk : k < xs.length) :
    ∃ b o, A = some ⟨b, o, none⟩ ∧ b < w.heap.size ∧ w.cell? ⟨b, o + k, none⟩ = some (.string ((bStrs xs)[k]'(by rw [bStrs_len]; exact hk))) ∧ ((bStrs xs)[k]'(by rw [bStrs_len]; exact hk)).size ≤ maxLen := by
  obtain ⟨b, o, h1, h2, h3, h4⟩ := strs_of h k (by rw [bStrs_len]; exact hk)
  exact ⟨b, o, h1, h2, h3, h4⟩
theorem keysOk_word {c : Int} {l : List ByteArray} {k : Nat} (hk : k < l.length) (h : wordB l[k] = false) : ¬ keysOk c l := fun hh => by
  rcases hh with ⟨h1, _⟩ | ⟨_, _, _, h4, _⟩
  · omega
  · have := h4 k hk; simp [h] at this
theorem keysOk_rise {c : Int} {l : List ByteArray} {k : Nat} (hk : k + 1 < l.length) (h : ¬ ltS l[k] l[k + 1]) : ¬ keysOk c l := fun hh => by
  rcases hh with ⟨h1, _⟩ | ⟨_, _, _, _, h5⟩
  · omega
  · exact h (h5 k hk)
set_option maxHeartbeats 4000000 in
theorem keys_spec {B : Nat → Prop} {n : Nat} {w : World} {ds : List DC} {vs : List Value} {D : BlockD} {r : Bool} (hD : bB n ds = D) (hr : keysB D.count D.each = r) (h : Cells B n w shBlock_ ds vs) :
    Calls Try.prog 105 #[.agg vs.toArray] w (un.Told w (.bool r)) := by
  subst hD hr
  obtain ⟨l0, s1, s2, x3, x4, s5, x6, l7, l8, A0, c0, A7, c7, A8, c8, rfl, rfl, k0, k1, k2, k3, k4, k5, k6, k7, k8⟩ := open_Block h
  have ec : (bB n [.l l0, .s s1, .s s2, .i x3, .i x4, .s s5, .i x6, .l l7, .l l8]).count = x6 := rfl
  have ee : (bB n [.l l0, .s s1, .s s2, .i x3, .i x4, .s s5, .i x6, .l l7, .l l8]).each = bStrs l7 := rfl
  rw [ec, ee]
  clear ec ee
  have hln := bStrs_len l7
  have hlen := k7.len.2
  unfold maxLen at hlen
  have HL := Lib.hid hln
  have H := Lib.hid (Gd.of1 k7)
  clear h k0 k1 k2 k3 k4 k5 k6 k7 k8 hln
  by_cases h0 : l7.length = 0
  · go_enter Try.func105, Try.ntmps105
    go_wp2_with (go_at_call 89; refine (adr.is_spec _ _ _ _).mono ?_; rintro _ _ ⟨rfl, rfl⟩)
    go_ret
    refine ⟨ret_bool ?_, below_a1 _ _⟩
    by_cases hc : -1 ≤ x6 ∧ x6 ≤ 8
    · rw [keysB_yes (.inl ⟨by rw [HL.out]; exact h0, hc.1, hc.2⟩)]; simp [hc.1, hc.2]
    · rw [keysB_no (fun hh => by
        rcases hh with ⟨_, h1, h2⟩ | ⟨h1, _⟩
        · exact hc ⟨h1, h2⟩
        · rw [HL.out] at h1; exact h1 h0)]
      simp; omega
  have HZ := Lib.hid h0
  have hpos : 0 < l7.length := by omega
  clear h0
  go_enter Try.func105, Try.ntmps105
  go_wp2
  have hz0 : ((l7.length : Int) == 0) = false := by rw [beq_eq_false_iff_ne]; omega
  rw [hz0]
  clear hz0
  go_loopw [3] (fun i wr => ∃ j : Nat, j ≤ l7.length ∧ i = .int .i64 j ∧ (∀ q (h : q < (bStrs l7).length), q < j → wordB (bStrs l7)[q] = true) ∧ (∀ q (h : q + 1 < (bStrs l7).length), q + 1 < j → ltS (bStrs l7)[q] (bStrs l7)[q + 1]) ∧ Blk wr w.heap.size 63 #[.slice A0 l0.length c0, .string s1, .string s2, .int .i64 x3, .int .i64 x4, .string s5, .int .i64 x6, .slice A7 l7.length c7, .slice A8 l8.length c8] ∧ Below w.heap.size w wr) (fun i _ => l7.length - (RowKit.intOf i).toNat)
  case atStart => exact ⟨0, Nat.zero_le _, rfl, fun q _ hq => absurd hq (by omega), fun q _ hq => absurd hq (by omega), Blk.new w _ _, below_a1 _ _⟩
  case round =>
    obtain ⟨j, hj, rfl, hok, hri, hB, hb⟩ := hrel
    have HOK := Lib.hid hok
    have HRI := Lib.hid hri
    have HB := Lib.hid hb
    have b0 := hB.cell
    have BB := Lib.hid hB
    clear hok hb hB hri
    by_cases hlt : j < l7.length
    · have hjI : (j : Int) < l7.length := by omega
      obtain ⟨b, o, rfl, hbl, hc, hsz⟩ := kcell (H.out.below HB.out).now j hlt
      cases hw : wordB ((bStrs l7)[j]'(by rw [bStrs_len]; exact hlt))
      · have HW := Lib.hid hw
        clear hw
        go_wp2_with fail
        go_quiet ((go_at_call 88; exact Calls.quiet_of_same ((wd.spec_any _ _ hsz).mono fun _ _ ⟨a, b⟩ => ⟨by rw [a, HW.out], b.symm⟩)))
        go_wp2
        go_ret
        exact ⟨ret_bool (keysB_no (keysOk_word (by rw [HL.out]; exact hlt) HW.out)).symm, below_dn HB.out _⟩
      · have HW := Lib.hid hw
        clear hw
        by_cases hz : j = 0
        · subst hz
          have hc0 : wr.cell? ⟨b, o, none⟩ = some (.string ((bStrs l7)[0]'(by rw [bStrs_len]; exact hlt))) := by simpa using hc
          have e0 : ((0 : Nat) : Int) = 0 := rfl
          have hjI0 : (0 : Int) < l7.length := by omega
          go_wp2_with fail
          go_quiet ((go_at_call 88; exact Calls.quiet_of_same ((wd.spec_any _ _ hsz).mono fun _ _ ⟨a, b⟩ => ⟨by rw [a, HW.out], b.symm⟩)))
          go_wp2
          go_roundw
          case rel => exact ⟨1, by omega, by go_num, fun q h hq => by
            obtain rfl : q = 0 := by omega
            exact HW.out, fun q _ hq => absurd hq (by omega), BB.out.drew' _, below_dn HB.out _⟩
          case measure => simp [RowKit.intOf]; omega
        · obtain ⟨i, hij⟩ : ∃ i, i + 1 = j := ⟨j - 1, by omega⟩
          have hi : i < l7.length := by omega
          have hiI : (i : Int) < l7.length := by omega
          obtain ⟨b', o', e', hbl', hc', hsz'⟩ := kcell (H.out.below HB.out).now i hi
          injection e' with e'; injection e' with e1 e2 _
          subst e1 e2
          have ei : (j : Int) - 1 = i := by omega
          have ew : IntKind.i64.wrap ((j : Int) - 1) = i := by rw [IntWalk.i64_left, IntWalk.wrap64_in _ (by omega)]; exact ei
          have hpI : (0 : Int) < (j : Int) := by omega
          have hi0 : (0 : Int) ≤ (i : Int) := by omega
          have hjn : 0 < j := by omega
          go_wp2_with fail
          go_quiet ((go_at_call 88; exact Calls.quiet_of_same ((wd.spec_any _ _ hsz).mono fun _ _ ⟨a, b⟩ => ⟨by rw [a, HW.out], b.symm⟩)))
          go_wp2
          · have hb : (!Op.bytesLess ((bStrs l7)[i]'(by rw [bStrs_len]; exact hi)).toList ((bStrs l7)[j]'(by rw [bStrs_len]; exact hlt)).toList) = true := by assumption
            go_ret
            exact ⟨ret_bool (keysB_no (keysOk_rise (k := i) (by rw [HL.out]; omega) (by subst hij; simpa [bless] using hb))).symm, below_dn HB.out _⟩
          · have hb : (!Op.bytesLess ((bStrs l7)[i]'(by rw [bStrs_len]; exact hi)).toList ((bStrs l7)[j]'(by rw [bStrs_len]; exact hlt)).toList) = false := by assumption
            go_roundw
            case rel => exact ⟨j + 1, by omega, by go_num, fun q h hq => by
              by_cases e : q = j
              · subst e; exact HW.out
              · exact HOK.out q h (by omega), fun q h hq => by
              by_cases e : q = i
              · subst e; subst hij; simpa [bless] using hb
              · exact HRI.out q h (by omega), BB.out.drew' _, below_dn HB.out _⟩
            case measure => simp [RowKit.intOf]; omega
    · have HF := Lib.hid (show ∀ q (h : q < (bStrs l7).length), wordB (bStrs l7)[q] = true from fun q h => HOK.out q h (by rw [HL.out] at h; omega))
      have HG := Lib.hid (show riseS (bStrs l7) from fun q h => HRI.out q h (by rw [HL.out] at h; omega))
      by_cases hc : x6 = -1 ∧ l7.length ≤ 8
      · obtain ⟨hc1, hc2⟩ := hc
        have HY := Lib.hid (keysB_yes (.inr ⟨by rw [HL.out]; omega, hc1, by rw [HL.out]; exact hc2, HF.out, HG.out⟩))
        have hcI : (l7.length : Int) ≤ 8 := by omega
        go_wp2
        all_goals go_ret
        all_goals exact ⟨ret_bool (by rw [HY.out]; try (simp; omega)), HB.out⟩
      · have HN := Lib.hid (keysB_no (c := x6) (l := bStrs l7) (fun hh => by
          rcases hh with ⟨h1, _⟩ | ⟨_, h1, h2, _⟩
          · rw [HL.out] at h1; omega
          · rw [HL.out] at h2; exact hc ⟨h1, h2⟩))
        by_cases h1 : x6 = -1
        · have hcI : (8 : Int) < l7.length := by omega
          go_wp2
          all_goals go_ret
          all_goals exact ⟨ret_bool (by rw [HN.out]; try (simp; omega)), HB.out⟩
        · go_wp2
          all_goals go_ret
          all_goals exact ⟨ret_bool (by rw [HN.out]; try (simp; omega)), HB.out⟩
end Go.Proofs.Ytgkcohclejmhkaa.cf
