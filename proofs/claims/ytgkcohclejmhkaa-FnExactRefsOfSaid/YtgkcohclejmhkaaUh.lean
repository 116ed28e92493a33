/- The laws' own helpers: data held against the marks. -/
import Derived.Test.YtgkcohclejmhkaaUm
namespace Go.Proofs.Ytgkcohclejmhkaa.un
open mem
open Go.ChangeShapes Go.WideShapes Go.ChangeAt Go.RowKit Go.Lib
set_option linter.unusedVariables false
set_option maxRecDepth 8000
set_option linter.unusedSimpArgs false

theorem mL_at (k j : Nat) (xs : List (List DC)) (h : j < xs.length) (h2 : j < (mL k xs).length) : (mL k xs)[j] = mCs (k + nL (xs.take j)) xs[j] := by
  have e : xs = xs.take j ++ xs[j] :: xs.drop (j + 1) := by rw [← List.drop_eq_getElem_cons h, List.take_append_drop]
  have e2 : mL k xs = mL k (xs.take j) ++ mCs (k + nL (xs.take j)) xs[j] :: mL (k + nL (xs.take j) + nCs xs[j]) (xs.drop (j + 1)) := by
    conv => lhs; rw [e]
    rw [mL_app]; simp [mL]
  have hl : (mL k (xs.take j)).length = j := by rw [mL_len]; simp; omega
  have e3 : (mL k xs)[j]? = some (mCs (k + nL (xs.take j)) xs[j]) := by
    rw [e2, List.getElem?_append_right (by omega), hl, Nat.sub_self]; rfl
  rw [List.getElem?_eq_getElem h2] at e3
  exact Option.some.inj e3
def HdStringS (n : Nat) : Prop := ∀ (B B0 : Nat → Prop) (n0 : Nat) (w0 : World) (v0 : Value) (xs : List (List DC)) (v : Value) (a : Int) (k : Nat) (w : World), Cell B0 n0 w0 (.l 0) (.l xs) v0 → Cell B n w (.l 0) (.l (mL k xs)) v → (k : Int) = a → 1 ≤ k → k + nL xs ≤ 100000000 →
    Calls Try.prog 49 #[v, .int .i64 a] w (fun e w' => ∃ z : Int, e = .returned (.int .i64 z) ∧ ((k + nL xs : Nat) : Int) = z ∧ Below w.heap.size w w')
def HdAddrS (n : Nat) : Prop := ∀ (B B0 : Nat → Prop) (n0 : Nat) (w0 : World) (v0 : Value) (xs : List (List DC)) (v : Value) (a : Int) (k : Nat) (w : World), Cell B0 n0 w0 (.l 2) (.l xs) v0 → Cell B n w (.l 2) (.l (mL k xs)) v → (k : Int) = a → 1 ≤ k → k + nL xs ≤ 100000000 →
    Calls Try.prog 15 #[v, .int .i64 a] w (fun e w' => ∃ z : Int, e = .returned (.int .i64 z) ∧ ((k + nL xs : Nat) : Int) = z ∧ Below w.heap.size w w')
set_option maxHeartbeats 2000000 in
theorem hdStringS_of {n : Nat} : HdStringS n := fun B B0 n0 w0 v0 xs v a k w h0 h ha hk1 hk => by
  obtain ⟨_, A0_, c0_, el0, rfl, _⟩ := h0.lst
  injection el0 with el0
  subst el0
  obtain ⟨_, A, c, el, rfl, hl⟩ := h.lst
  injection el with el
  subst el
  have eL := mL_len k xs
  have H := Lib.hid h
  rw [eL] at hl ⊢
  have H0 := Lib.hid h0
  have HK := Lib.hid hk
  unfold maxLen at hl
  subst ha
  have hkl : k ≤ 100000000 := by omega
  clear h h0 hk eL
  go_enter Try.func49, Try.ntmps49
  go_wp2
  go_loopw [1, 5] (fun q i wr => ∃ (j m : Nat), j ≤ xs.length ∧ i = .int .i64 j ∧ q = .int .i64 (m : Int) ∧ m = k + nL (xs.take j) ∧ Below w.heap.size w wr) (fun _ i _ => xs.length - (intOf i).toNat)
  case atStart => exact ⟨0, k, Nat.zero_le _, rfl, rfl, by simp [nL], Below.refl _ _⟩
  case round =>
    obtain ⟨j, m, hj, rfl, rfl, hm, hb⟩ := hrel
    have HM := Lib.hid hm
    have HB := Lib.hid hb
    have HT1 := Lib.hid (nL_le xs j)
    have hm1 : 1 ≤ m := by have := HM.out; omega
    have hm2 : m ≤ 100000000 := by have := HM.out; have := HK.out; have := HT1.out; omega
    clear hm hb
    by_cases hlt : j < xs.length
    · obtain ⟨m9, b9, o9, us9, _, _, _, _, _, hin9⟩ := H0.out.item j hlt
      obtain ⟨d0, ds0, v0, vs0, ed, rfl, h1, h2⟩ := All3.cons hin9
      obtain ⟨rfl, rfl⟩ := All3.nil h2
      obtain ⟨s0, rfl, rfl, k0⟩ := h1.str
      clear h1 h2
      clear k0
      have hj2 : j < (mL k xs).length := by rw [mL_len]; exact hlt
      obtain ⟨m0, b, o, us, hm0, rfl, _, hbl, hr, hin⟩ := ((H.out.below HB.out).item j hj2)
      rw [mL_at k j xs hlt hj2, ed, ← HM.out] at hin
      simp only [mCs, mC, nC] at hin
      replace hr : wr.rangeAt b (o + j * 1) us := hr
      have hn := nL_take xs j hlt
      rw [ed] at hn
      simp only [nCs, nC] at hn
      have HN := Lib.hid hn
      have HT := Lib.hid (nL_le xs (j + 1))
      have HS : Hid (m + (1) ≤ 100000000) := by (show _ ≤ _; have := HM.out; have := HK.out; have := HT.out; omega)
      obtain ⟨d1, ds1, v1, vs1, ed1, rfl, h1, h2⟩ := All3.cons hin
      injection ed1 with ed1 ed2
      subst ed1 ed2
      obtain ⟨_, rfl⟩ := All3.nil h2
      obtain ⟨t0, et, rfl, _⟩ := h1.str
      injection et with et
      subst et
      have hc0 := hr 0 _ rfl
      simp only [Nat.mul_one, Nat.add_zero] at hc0
      have HR := Lib.hid hr
      clear h1 h2 hin hr ed hn hj2
      have hjI : (j : Int) < xs.length := by omega
      have hj0 : (0 : Int) ≤ j := by omega
      have D0 := Lib.hid (Below.refl wr.heap.size wr)
      go_wp2_with fail
      have KM := fun (W : World) (a : Int) (h : ((m : Nat) : Int) = a) => Lib.hid (mark_text (m) a W h (by have := HS.out; omega) (by have := HS.out; omega))
      go_region_held3 (fun w' => w'.cell? ⟨b, o + j, none⟩ = some (.string (markT (m)))) (go_keep)
        (first
        | (go_at_call 48; refine (KM _ _ ?_).out.mono ?_; omega; rintro _ v1 ⟨rfl, hb0⟩; have hb := below_then (below_d wr _) hb0 (Nat.le_refl _); clear hb0 hc0; have D1 := Lib.hid (below_then D0.out hb (Nat.le_refl _)); have R := range_same HR.out (D1.out.block b hbl); have hc0 := R 0 _ rfl; simp only [Nat.mul_one, Nat.add_zero] at hc0; clear R hb D0))
      clear KM
      have EE := Lib.hid (below_then HB.out D1.out (Nat.le_refl _))
      go_wp2
      go_roundw
      case rel => exact ⟨j + 1, m + 1, hlt, by go_num, by go_num, by (have := HS.out; have := HN.out; have := HM.out; omega), EE.out⟩
      case measure => simp [intOf]; omega
    · obtain rfl : j = xs.length := by omega
      go_wp2
      go_ret
      exact ⟨(m : Int), rfl, by (have h8 := HM.out; rw [List.take_length] at h8; omega), HB.out⟩
theorem hdStringS_all (n : Nat) : HdStringS n := hdStringS_of
set_option maxHeartbeats 2000000 in
theorem hdAddrS_of {n : Nat} (KStringS : ∀ m, m < n → HdStringS m) : HdAddrS n := fun B B0 n0 w0 v0 xs v a k w h0 h ha hk1 hk => by
  obtain ⟨_, A0_, c0_, el0, rfl, _⟩ := h0.lst
  injection el0 with el0
  subst el0
  obtain ⟨_, A, c, el, rfl, hl⟩ := h.lst
  injection el with el
  subst el
  have eL := mL_len k xs
  have H := Lib.hid h
  rw [eL] at hl ⊢
  have H0 := Lib.hid h0
  have HK := Lib.hid hk
  unfold maxLen at hl
  subst ha
  have hkl : k ≤ 100000000 := by omega
  have HKStringS := Lib.hid KStringS
  clear h h0 hk eL KStringS
  go_enter Try.func15, Try.ntmps15
  go_wp2
  go_loopw [1, 5] (fun q i wr => ∃ (j m : Nat), j ≤ xs.length ∧ i = .int .i64 j ∧ q = .int .i64 (m : Int) ∧ m = k + nL (xs.take j) ∧ Below w.heap.size w wr) (fun _ i _ => xs.length - (intOf i).toNat)
  case atStart => exact ⟨0, k, Nat.zero_le _, rfl, rfl, by simp [nL], Below.refl _ _⟩
  case round =>
    obtain ⟨j, m, hj, rfl, rfl, hm, hb⟩ := hrel
    have HM := Lib.hid hm
    have HB := Lib.hid hb
    have HT1 := Lib.hid (nL_le xs j)
    have hm1 : 1 ≤ m := by have := HM.out; omega
    have hm2 : m ≤ 100000000 := by have := HM.out; have := HK.out; have := HT1.out; omega
    clear hm hb
    by_cases hlt : j < xs.length
    · obtain ⟨m9, b9, o9, us9, _, _, _, _, _, hin9⟩ := H0.out.item j hlt
      obtain ⟨l0, s1, s2, x3, x4, s5, A0, c0, ed, rfl, k0, k1, k2, k3, k4, k5⟩ := open_Addr hin9
      have I0 := Lib.hid k0
      clear k0 k1 k2 k3 k4 k5
      have hj2 : j < (mL k xs).length := by rw [mL_len]; exact hlt
      obtain ⟨m0, b, o, us, hm0, rfl, _, hbl, hr, hin⟩ := ((H.out.below HB.out).item j hj2)
      rw [mL_at k j xs hlt hj2, ed, ← HM.out] at hin
      simp only [mCs, mC, nC] at hin
      replace hr : wr.rangeAt b (o + j * 6) us := hr
      obtain ⟨m_0, hm_0⟩ : ∃ q, q = m + nL l0 := ⟨_, rfl⟩
      rw [← hm_0] at hin
      have hn := nL_take xs j hlt
      rw [ed] at hn
      simp only [nCs, nC] at hn
      have HN := Lib.hid hn
      have HT := Lib.hid (nL_le xs (j + 1))
      have HS : Hid (m + (nL l0 + 1 + 1 + 1 + 1 + 1) ≤ 100000000) := by (show _ ≤ _; have := HM.out; have := HK.out; have := HT.out; omega)
      have m_01 : 1 ≤ m_0 := by have := HS.out; omega
      have m_02 : m_0 ≤ 100000000 := by have := HS.out; omega
      have Hm_0 := Lib.hid hm_0
      obtain ⟨A0', c0', rfl, j0, j1, j2, j3, j4, j5⟩ := openv_Addr hin
      rw [mL_len] at j0
      have J0 := Lib.hid j0
      simp only [mL_len] at hr
      obtain ⟨hc0, hc1, hc2, hc3, hc4, hc5⟩ := range_Addr hr
      have HR := Lib.hid hr
      clear hin hr hin9 ed hn hj2 j0 j1 j2 j3 j4 j5 hm_0
      have hjI : (j : Int) < xs.length := by omega
      have hj0 : (0 : Int) ≤ j := by omega
      have D0 := Lib.hid (Below.refl wr.heap.size wr)
      go_wp2_with fail
      refine (HKStringS.out m0 (by omega) B B0 _ _ _ l0 _ _ (m) _ I0.out (J0.out.agree ⟨D0.out.size, fun x _ hx => D0.out.block x hx⟩) (by have := Hm_0.out; have := HS.out; omega) (by have := Hm_0.out; have := HS.out; omega) (by have := Hm_0.out; have := HS.out; omega)).mono ?_
      rintro _ v1 ⟨z, rfl, hz, hb⟩
      rw [← Hm_0.out] at hz
      subst hz
      clear hc0 hc1 hc2 hc3 hc4 hc5
      have D1 := Lib.hid (below_then D0.out hb (Nat.le_refl _))
      have R := range_same HR.out (D1.out.block b hbl)
      obtain ⟨hc0, hc1, hc2, hc3, hc4, hc5⟩ := range_Addr R
      clear R hb D0
      go_wp2_with fail
      have KM := fun (W : World) (a : Int) (h : ((m_0 : Nat) : Int) = a) => Lib.hid (mark_text (m_0) a W h (by have := Hm_0.out; have := HS.out; omega) (by have := Hm_0.out; have := HS.out; omega))
      go_region_held3 (fun w' => w'.cell? ⟨b, o + j * 6 + 1, none⟩ = some (.string (markT (m_0)))) (go_keep)
        (first
        | (go_at_call 48; refine (KM _ _ ?_).out.mono ?_; omega; rintro _ v2 ⟨rfl, hb0⟩; have hb := below_then (below_d v1 _) hb0 (Nat.le_refl _); clear hb0 hc0 hc1 hc2 hc3 hc4 hc5; have D2 := Lib.hid (below_then D1.out hb (Nat.le_refl _)); have R := range_same HR.out (D2.out.block b hbl); obtain ⟨hc0, hc1, hc2, hc3, hc4, hc5⟩ := range_Addr R; clear R hb D1))
      clear KM
      go_wp2_with fail
      have KM := fun (W : World) (a : Int) (h : ((m_0 + 1 : Nat) : Int) = a) => Lib.hid (mark_text (m_0 + 1) a W h (by have := Hm_0.out; have := HS.out; omega) (by have := Hm_0.out; have := HS.out; omega))
      go_region_held3 (fun w' => w'.cell? ⟨b, o + j * 6 + 2, none⟩ = some (.string (markT (m_0 + 1)))) (go_keep)
        (first
        | (go_at_call 48; refine (KM _ _ ?_).out.mono ?_; omega; rintro _ v3 ⟨rfl, hb0⟩; have hb := below_then (below_d v2 _) hb0 (Nat.le_refl _); clear hb0 hc0 hc1 hc2 hc3 hc4 hc5; have D3 := Lib.hid (below_then D2.out hb (Nat.le_refl _)); have R := range_same HR.out (D3.out.block b hbl); obtain ⟨hc0, hc1, hc2, hc3, hc4, hc5⟩ := range_Addr R; clear R hb D2))
      clear KM
      go_wp2_with fail
      have KM := fun (W : World) (a : Int) (h : ((m_0 + 1 + 1 + 1 + 1 : Nat) : Int) = a) => Lib.hid (mark_text (m_0 + 1 + 1 + 1 + 1) a W h (by have := Hm_0.out; have := HS.out; omega) (by have := Hm_0.out; have := HS.out; omega))
      go_region_held3 (fun w' => w'.cell? ⟨b, o + j * 6 + 5, none⟩ = some (.string (markT (m_0 + 1 + 1 + 1 + 1)))) (go_keep)
        (first
        | (go_at_call 48; refine (KM _ _ ?_).out.mono ?_; omega; rintro _ v4 ⟨rfl, hb0⟩; have hb := below_then (below_d v3 _) hb0 (Nat.le_refl _); clear hb0 hc0 hc1 hc2 hc3 hc4 hc5; have D4 := Lib.hid (below_then D3.out hb (Nat.le_refl _)); have R := range_same HR.out (D4.out.block b hbl); obtain ⟨hc0, hc1, hc2, hc3, hc4, hc5⟩ := range_Addr R; clear R hb D3))
      clear KM
      have EE := Lib.hid (below_then HB.out D4.out (Nat.le_refl _))
      go_wp2
      go_roundw
      case rel => exact ⟨j + 1, m_0 + 1 + 1 + 1 + 1 + 1, hlt, by go_num, by go_num, by (have := Hm_0.out; have := HS.out; have := HN.out; have := HM.out; omega), EE.out⟩
      case measure => simp [intOf]; omega
    · obtain rfl : j = xs.length := by omega
      go_wp2
      go_ret
      exact ⟨(m : Int), rfl, by (have h8 := HM.out; rw [List.take_length] at h8; omega), HB.out⟩
theorem hdAddrS_all (n : Nat) : HdAddrS n := hdAddrS_of (fun m _ => hdStringS_all m)
end Go.Proofs.Ytgkcohclejmhkaa.un
