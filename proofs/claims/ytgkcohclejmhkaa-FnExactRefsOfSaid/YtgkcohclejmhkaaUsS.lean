/- Whether one of a kind stands in an expression: the model's, the program's. -/
import Derived.Test.YtgkcohclejmhkaaBr
import Derived.Test.YtgkcohclejmhkaaGd
import Derived.Test.YtgkcohclejmhkaaUe
import Derived.BigQuiet
import Derived.BigRegion
import Derived.Deep.QuietTactic
import Derived.Outline
namespace Go.Proofs.Ytgkcohclejmhkaa.cf
open ad mem vl ex un
open Go.ChangeShapes Go.WideShapes Go.ChangeAt Go.RowKit Go.Lib
set_option linter.unusedVariables false
set_option maxRecDepth 8000
set_option linter.unusedSimpArgs false

theorem bE_args {B : Nat → Prop} {n : Nat} {w : World} {x0 x1 x2 x7 x8 : Int} {s3 s5 s6 s9 s10 : ByteArray} {l4 l11 : List (List DC)} {v : Value} (h : Cell B n w (.l 3) (.l l11) v) :
    (bE n [.i x0, .i x1, .i x2, .s s3, .l l4, .s s5, .s s6, .i x7, .i x8, .s s9, .s s10, .l l11]).args = l11.map (bE (n - 1)) := by
  cases n with
  | zero => obtain ⟨_, rfl⟩ := h; rfl
  | succ n => rfl
theorem bE_kind (n : Nat) {x0 x1 x2 x7 x8 : Int} {s3 s5 s6 s9 s10 : ByteArray} {l4 l11 : List (List DC)} :
    (bE n [.i x0, .i x1, .i x2, .s s3, .l l4, .s s5, .s s6, .i x7, .i x8, .s s9, .s s10, .l l11]).kind = x0 := by cases n <;> rfl
set_option maxHeartbeats 4000000 in
theorem uses_spec (k : Int) : ∀ (n : Nat) {B : Nat → Prop} {w : World} {ds : List DC} {vs : List Value}, Cells B n w shExpr_ ds vs →
    Calls Try.prog 106 #[.agg vs.toArray, .int .i64 k] w (un.Told w (.bool (uses k (bE n ds)))) := fun n => by
  induction n using Nat.strongRecOn with
  | ind n ih =>
    intro B w ds vs h
    obtain ⟨x0, x1, x2, s3, l4, s5, s6, x7, x8, s9, s10, l11, A4, c4, A11, c11, rfl, rfl, k0, k1, k2, k3, k4, k5, k6, k7, k8, k9, k10, k11⟩ := open_Expr h
    have hlen := k11.len.2
    unfold maxLen at hlen
    have HE := Lib.hid (uses_eq k (bE n [.i x0, .i x1, .i x2, .s s3, .l l4, .s s5, .s s6, .i x7, .i x8, .s s9, .s s10, .l l11]))
    have HA := Lib.hid (bE_args (x0 := x0) (x1 := x1) (x2 := x2) (x7 := x7) (x8 := x8) (s3 := s3) (s5 := s5) (s6 := s6) (s9 := s9) (s10 := s10) (l4 := l4) k11)
    have H := Lib.hid (Gd.of1 k11)
    have IH := Lib.hid ih
    clear h k0 k1 k2 k3 k4 k5 k6 k7 k8 k9 k10 k11 ih
    go_enter Try.func106, Try.ntmps106
    go_wp2
    go_loopw [5] (fun i wr => ∃ j : Nat, j ≤ l11.length ∧ i = .int .i64 j ∧ (∀ q (h : q < l11.length), q < j → uses k (bE (n - 1) l11[q]) = false) ∧ Blk wr w.heap.size 37 #[.int .i64 x0, .int .i64 x1, .int .i64 x2, .string s3, .slice A4 l4.length c4, .string s5, .string s6, .int .i64 x7, .int .i64 x8, .string s9, .string s10, .slice A11 l11.length c11] ∧ Below w.heap.size w wr) (fun i _ => l11.length - (RowKit.intOf i).toNat)
    case atStart => exact ⟨0, Nat.zero_le _, rfl, fun q _ hq => absurd hq (by omega), Blk.new w _ _, below_a1 _ _⟩
    case round =>
      obtain ⟨j, hj, rfl, hok, hB, hb⟩ := hrel
      have HOK := Lib.hid hok
      have HB := Lib.hid hb
      have b0 := hB.cell
      have BB := Lib.hid hB
      clear hok hb hB
      by_cases hlt : j < l11.length
      · obtain ⟨m, b, o, us, hm, rfl, _, hbl, hr, hin⟩ := (H.out.below HB.out).now.item j hlt
        obtain rfl : m = n - 1 := by omega
        have hus := hin.len.2
        have HR := Lib.hid hr
        have HIN := Lib.hid (Gd.ofC hin)
        clear hr hin
        go_wp2_with (refine wpList_load_mid rfl 37 (.tmp 16) rfl b (o + j * 12) rfl us _ HR.out Try.underlying37 rfl (by rw [hus]; kernel_rfl) ?_)
        go_wp2_with fail
        refine (IH.out (n - 1) (by omega) HIN.out.now).mono ?_
        rintro _ w2 ⟨rfl, hb⟩
        have E2 := Lib.hid (below_then HB.out hb (Nat.le_refl _))
        have B2 := Lib.hid (BB.out.step hb)
        have b2 := B2.out.cell
        clear hb b0 BB
        cases hu : uses k (bE (n - 1) l11[j])
        · go_wp2
          go_roundw
          case rel => exact ⟨j + 1, by omega, by go_num, fun q h hq => by
            by_cases e : q = j
            · subst e; exact hu
            · exact HOK.out q h (by omega), B2.out, E2.out⟩
          case measure => simp [RowKit.intOf]; omega
        · go_wp2
          go_ret
          exact ⟨ret_bool (by rw [HE.out, HA.out, usesL_yes j (by simpa using hlt) (by simpa using hu)]; rfl), E2.out⟩
      · have hall : usesL k (l11.map (bE (n - 1))) = false := usesL_no fun i hi => by
          have := HOK.out i (by simpa using hi) (by simp at hi; omega)
          simpa using this
        have HN := Lib.hid hall
        clear hall
        go_wp2
        go_ret
        exact ⟨ret_bool (by rw [HE.out, HA.out, HN.out, bE_kind]; simp), HB.out⟩
set_option maxHeartbeats 4000000 in
theorem uses_impl (k : Int) : ∀ (n : Nat) {B : Nat → Prop} {w : World} {ds : List DC} {vs : List Value}, Cells B n w shExpr_ ds vs →
    Calls Try.prog 148 #[.agg vs.toArray, .int .i64 k] w (un.Told w (.bool (uses k (bE n ds)))) := fun n => by
  induction n using Nat.strongRecOn with
  | ind n ih =>
    intro B w ds vs h
    obtain ⟨x0, x1, x2, s3, l4, s5, s6, x7, x8, s9, s10, l11, A4, c4, A11, c11, rfl, rfl, k0, k1, k2, k3, k4, k5, k6, k7, k8, k9, k10, k11⟩ := open_Expr h
    have hlen := k11.len.2
    unfold maxLen at hlen
    have HE := Lib.hid (uses_eq k (bE n [.i x0, .i x1, .i x2, .s s3, .l l4, .s s5, .s s6, .i x7, .i x8, .s s9, .s s10, .l l11]))
    have HA := Lib.hid (bE_args (x0 := x0) (x1 := x1) (x2 := x2) (x7 := x7) (x8 := x8) (s3 := s3) (s5 := s5) (s6 := s6) (s9 := s9) (s10 := s10) (l4 := l4) k11)
    have H := Lib.hid (Gd.of1 k11)
    have IH := Lib.hid ih
    clear h k0 k1 k2 k3 k4 k5 k6 k7 k8 k9 k10 k11 ih
    by_cases hk : x0 = k
    · subst hk
      go_enter Try.func148, Try.ntmps148
      go_wp2
      go_ret
      exact ⟨ret_bool (by rw [HE.out, bE_kind]; simp), below_a1 _ _⟩
    go_enter Try.func148, Try.ntmps148
    go_wp2
    have HK := Lib.hid hk
    have hkb : (x0 == k) = false := by simp [hk]
    clear hk
    rw [hkb]
    go_loopw [14] (fun i wr => ∃ j : Nat, j ≤ l11.length ∧ i = .int .i64 j ∧ (∀ q (h : q < l11.length), q < j → uses k (bE (n - 1) l11[q]) = false) ∧ Below w.heap.size w wr) (fun i _ => l11.length - (RowKit.intOf i).toNat)
    case atStart => exact ⟨0, Nat.zero_le _, rfl, fun q _ hq => absurd hq (by omega), below_a1 _ _⟩
    case round =>
      obtain ⟨j, hj, rfl, hok, hb⟩ := hrel
      have HOK := Lib.hid hok
      have HB := Lib.hid hb
      clear hok hb
      by_cases hlt : j < l11.length
      · obtain ⟨m, b, o, us, hm, rfl, _, hbl, hr, hin⟩ := (H.out.below HB.out).now.item j hlt
        obtain rfl : m = n - 1 := by omega
        obtain ⟨y0, y1, y2, t3, m4, t5, t6, y7, y8, t9, t10, m11, G4, d4, G11, d11, ed, rfl, -⟩ := open_Expr hin
        have HR := Lib.hid hr
        have HIN := Lib.hid (Gd.ofC hin)
        clear hr hin
        go_wp2_with (refine wpList_load_mid rfl 37 (.tmp 16) rfl b (o + j * 12) rfl _ _ HR.out Try.underlying37 rfl (by kernel_rfl) ?_)
        go_wp2_with fail
        refine (IH.out (n - 1) (by omega) (HIN.out.alloc _).now).mono ?_
        rintro _ w2 ⟨rfl, hb⟩
        have E2 := Lib.hid (below_then (below_da HB.out (Nat.le_refl _) _) hb (Nat.le_refl _))
        clear hb
        cases hu : uses k (bE (n - 1) l11[j])
        · go_wp2
          go_roundw
          case rel =>
            exact ⟨j + 1, by omega, by go_num, fun q h hq => by
              by_cases e : q = j
              · subst e; exact hu
              · exact HOK.out q h (by omega), E2.out⟩
          case measure => simp [RowKit.intOf]; omega
        · go_wp2
          go_ret
          exact ⟨ret_bool (by rw [HE.out, HA.out, usesL_yes j (by simpa using hlt) (by simpa using hu)]; rfl), E2.out⟩
      · have hall : usesL k (l11.map (bE (n - 1))) = false := usesL_no fun i hi => by
          have := HOK.out i (by simpa using hi) (by simp at hi; omega)
          simpa using this
        have HN := Lib.hid hall
        clear hall
        go_wp2
        go_ret
        exact ⟨ret_bool (by rw [HE.out, HA.out, HN.out, bE_kind]; simp [HK.out]), HB.out⟩
end Go.Proofs.Ytgkcohclejmhkaa.cf
