/- The laws' own helpers: data held against the marks. -/
import Derived.Test.YtflfnekaiaplfaaGreatUm
namespace Go.Proofs.YtflfnekaiaplfaaGreat.un
open mem
open Go.ChangeShapes Go.WideShapes Go.ChangeAt Go.RowKit Go.Lib
set_option linter.unusedVariables false
set_option maxRecDepth 8000
set_option linter.unusedSimpArgs false

theorem mL_at (k j : Nat) (xs : List (List DC)) (h : j < xs.length) (h2 : j < (mL k xs).length) : (mL k xs)[j] = mCs (k + nL (xs.take j)) xs[j] := by
  have e : xs = xs.take j ++ xs[j] :: xs.drop (j + 1) := by rw [← List.drop_eq_getElem_cons h, List.take_append_drop]
  have e2 : mL k xs = mL k (xs.take j) ++ mCs (k + nL (xs.take j)) xs[j] :: mL (k + nL (xs.take j) + nCs xs[j]) (xs.drop (j + 1)) := by
    conv => lhs; rw [e]
    rw [mL_app]; simp [mL]
  have hl : (mL k (xs.take j)).length = j := by rw [mL_len]; simp; omega
  have e3 : (mL k xs)[j]? = some (mCs (k + nL (xs.take j)) xs[j]) := by
    rw [e2, List.getElem?_append_right (by omega), hl, Nat.sub_self]; rfl
  rw [List.getElem?_eq_getElem h2] at e3
  exact Option.some.inj e3
def HdStringS (n : Nat) : Prop := ∀ (B B0 : Nat → Prop) (n0 : Nat) (w0 : World) (v0 : Value) (xs : List (List DC)) (v : Value) (a : Int) (k : Nat) (w : World), Cell B0 n0 w0 (.l 0) (.l xs) v0 → Cell B n w (.l 0) (.l (mL k xs)) v → (k : Int) = a → 1 ≤ k → k + nL xs ≤ 100000000 →
    Calls Tryz.prog 63 #[v, .int .i64 a] w (fun e w' => ∃ z : Int, e = .returned (.int .i64 z) ∧ ((k + nL xs : Nat) : Int) = z ∧ Below w.heap.size w w')
def HdAddrS (n : Nat) : Prop := ∀ (B B0 : Nat → Prop) (n0 : Nat) (w0 : World) (v0 : Value) (xs : List (List DC)) (v : Value) (a : Int) (k : Nat) (w : World), Cell B0 n0 w0 (.l 2) (.l xs) v0 → Cell B n w (.l 2) (.l (mL k xs)) v → (k : Int) = a → 1 ≤ k → k + nL xs ≤ 100000000 →
    Calls Tryz.prog 65 #[v, .int .i64 a] w (fun e w' => ∃ z : Int, e = .returned (.int .i64 z) ∧ ((k + nL xs : Nat) : Int) = z ∧ Below w.heap.size w w')
def HdPairS (n : Nat) : Prop := ∀ (B B0 : Nat → Prop) (n0 : Nat) (w0 : World) (v0 : Value) (xs : List (List DC)) (v : Value) (a : Int) (k : Nat) (w : World), Cell B0 n0 w0 (.l 7) (.l xs) v0 → Cell B n w (.l 7) (.l (mL k xs)) v → (k : Int) = a → 1 ≤ k → k + nL xs ≤ 100000000 →
    Calls Tryz.prog 64 #[v, .int .i64 a] w (fun e w' => ∃ z : Int, e = .returned (.int .i64 z) ∧ ((k + nL xs : Nat) : Int) = z ∧ Below w.heap.size w w')
def HdThingS (n : Nat) : Prop := ∀ (B B0 : Nat → Prop) (n0 : Nat) (w0 : World) (v0 : Value) (xs : List (List DC)) (v : Value) (a : Int) (k : Nat) (w : World), Cell B0 n0 w0 (.l 8) (.l xs) v0 → Cell B n w (.l 8) (.l (mL k xs)) v → (k : Int) = a → 1 ≤ k → k + nL xs ≤ 100000000 →
    Calls Tryz.prog 41 #[v, .int .i64 a] w (fun e w' => ∃ z : Int, e = .returned (.int .i64 z) ∧ ((k + nL xs : Nat) : Int) = z ∧ Below w.heap.size w w')
def HdBookOut (n : Nat) : Prop := ∀ (B B0 : Nat → Prop) (n0 : Nat) (w0 : World) (vs0 : List Value) (ds : List DC) (vs : List Value) (a : Int) (k : Nat) (w : World), Cells B0 n0 w0 shBookOut_ ds vs0 → Cells B n w shBookOut_ (mV k ds) vs → (k : Int) = a → 1 ≤ k → k + nV ds ≤ 100000000 →
    Calls Tryz.prog 16 #[.agg vs.toArray, .int .i64 a] w (fun e w' => ∃ z : Int, e = .returned (.int .i64 z) ∧ ((k + nV ds : Nat) : Int) = z ∧ Below w.heap.size w w')
set_option maxHeartbeats 2000000 in
theorem hdStringS_of {n : Nat} : HdStringS n := fun B B0 n0 w0 v0 xs v a k w h0 h ha hk1 hk => by
  obtain ⟨_, A0_, c0_, el0, rfl, _⟩ := h0.lst
  injection el0 with el0
  subst el0
  obtain ⟨_, A, c, el, rfl, hl⟩ := h.lst
  injection el with el
  subst el
  have eL := mL_len k xs
  have H := Lib.hid h
  rw [eL] at hl ⊢
  have H0 := Lib.hid h0
  have HK := Lib.hid hk
  unfold maxLen at hl
  subst ha
  have hkl : k ≤ 100000000 := by omega
  clear h h0 hk eL
  go_enter Tryz.func63, Tryz.ntmps63
  go_wp2
  go_loopw [1, 5] (fun q i wr => ∃ (j m : Nat), j ≤ xs.length ∧ i = .int .i64 j ∧ q = .int .i64 (m : Int) ∧ m = k + nL (xs.take j) ∧ Below w.heap.size w wr) (fun _ i _ => xs.length - (intOf i).toNat)
  case atStart => exact ⟨0, k, Nat.zero_le _, rfl, rfl, by simp [nL], Below.refl _ _⟩
  case round =>
    obtain ⟨j, m, hj, rfl, rfl, hm, hb⟩ := hrel
    have HM := Lib.hid hm
    have HB := Lib.hid hb
    have HT1 := Lib.hid (nL_le xs j)
    have hm1 : 1 ≤ m := by have := HM.out; omega
    have hm2 : m ≤ 100000000 := by have := HM.out; have := HK.out; have := HT1.out; omega
    clear hm hb
    by_cases hlt : j < xs.length
    · obtain ⟨m9, b9, o9, us9, _, _, _, _, _, hin9⟩ := H0.out.item j hlt
      obtain ⟨d0, ds0, v0, vs0, ed, rfl, h1, h2⟩ := All3.cons hin9
      obtain ⟨rfl, rfl⟩ := All3.nil h2
      obtain ⟨s0, rfl, rfl, k0⟩ := h1.str
      clear h1 h2
      clear k0
      have hj2 : j < (mL k xs).length := by rw [mL_len]; exact hlt
      obtain ⟨m0, b, o, us, hm0, rfl, _, hbl, hr, hin⟩ := ((H.out.below HB.out).item j hj2)
      rw [mL_at k j xs hlt hj2, ed, ← HM.out] at hin
      simp only [mCs, mC, nC] at hin
      replace hr : wr.rangeAt b (o + j * 1) us := hr
      have hn := nL_take xs j hlt
      rw [ed] at hn
      simp only [nCs, nC] at hn
      have HN := Lib.hid hn
      have HT := Lib.hid (nL_le xs (j + 1))
      have HS : Hid (m + (1) ≤ 100000000) := by (show _ ≤ _; have := HM.out; have := HK.out; have := HT.out; omega)
      obtain ⟨d1, ds1, v1, vs1, ed1, rfl, h1, h2⟩ := All3.cons hin
      injection ed1 with ed1 ed2
      subst ed1 ed2
      obtain ⟨_, rfl⟩ := All3.nil h2
      obtain ⟨t0, et, rfl, _⟩ := h1.str
      injection et with et
      subst et
      have hc0 := hr 0 _ rfl
      simp only [Nat.mul_one, Nat.add_zero] at hc0
      have HR := Lib.hid hr
      clear h1 h2 hin hr ed hn hj2
      have hjI : (j : Int) < xs.length := by omega
      have hj0 : (0 : Int) ≤ j := by omega
      have D0 := Lib.hid (Below.refl wr.heap.size wr)
      go_wp2_with fail
      have KM := fun (W : World) (a : Int) (h : ((m : Nat) : Int) = a) => Lib.hid (mark_text (m) a W h (by have := HS.out; omega) (by have := HS.out; omega))
      go_region_held3 (fun w' => w'.cell? ⟨b, o + j, none⟩ = some (.string (markT (m)))) (go_keep)
        (first
        | (go_at_call 37; refine (KM _ _ ?_).out.mono ?_; omega; rintro _ v1 ⟨rfl, hb0⟩; have hb := below_then (below_d wr _) hb0 (Nat.le_refl _); clear hb0 hc0; have D1 := Lib.hid (below_then D0.out hb (Nat.le_refl _)); have R := range_same HR.out (D1.out.block b hbl); have hc0 := R 0 _ rfl; simp only [Nat.mul_one, Nat.add_zero] at hc0; clear R hb D0))
      clear KM
      have EE := Lib.hid (below_then HB.out D1.out (Nat.le_refl _))
      go_wp2
      go_roundw
      case rel => exact ⟨j + 1, m + 1, hlt, by go_num, by go_num, by (have := HS.out; have := HN.out; have := HM.out; omega), EE.out⟩
      case measure => simp [intOf]; omega
    · obtain rfl : j = xs.length := by omega
      go_wp2
      go_ret
      exact ⟨(m : Int), rfl, by (have h8 := HM.out; rw [List.take_length] at h8; omega), HB.out⟩
theorem hdStringS_all (n : Nat) : HdStringS n := hdStringS_of
set_option maxHeartbeats 2000000 in
theorem hdAddrS_of {n : Nat} (KStringS : ∀ m, m < n → HdStringS m) : HdAddrS n := fun B B0 n0 w0 v0 xs v a k w h0 h ha hk1 hk => by
  obtain ⟨_, A0_, c0_, el0, rfl, _⟩ := h0.lst
  injection el0 with el0
  subst el0
  obtain ⟨_, A, c, el, rfl, hl⟩ := h.lst
  injection el with el
  subst el
  have eL := mL_len k xs
  have H := Lib.hid h
  rw [eL] at hl ⊢
  have H0 := Lib.hid h0
  have HK := Lib.hid hk
  unfold maxLen at hl
  subst ha
  have hkl : k ≤ 100000000 := by omega
  have HKStringS := Lib.hid KStringS
  clear h h0 hk eL KStringS
  go_enter Tryz.func65, Tryz.ntmps65
  go_wp2
  go_loopw [1, 5] (fun q i wr => ∃ (j m : Nat), j ≤ xs.length ∧ i = .int .i64 j ∧ q = .int .i64 (m : Int) ∧ m = k + nL (xs.take j) ∧ Below w.heap.size w wr) (fun _ i _ => xs.length - (intOf i).toNat)
  case atStart => exact ⟨0, k, Nat.zero_le _, rfl, rfl, by simp [nL], Below.refl _ _⟩
  case round =>
    obtain ⟨j, m, hj, rfl, rfl, hm, hb⟩ := hrel
    have HM := Lib.hid hm
    have HB := Lib.hid hb
    have HT1 := Lib.hid (nL_le xs j)
    have hm1 : 1 ≤ m := by have := HM.out; omega
    have hm2 : m ≤ 100000000 := by have := HM.out; have := HK.out; have := HT1.out; omega
    clear hm hb
    by_cases hlt : j < xs.length
    · obtain ⟨m9, b9, o9, us9, _, _, _, _, _, hin9⟩ := H0.out.item j hlt
      obtain ⟨l0, s1, s2, x3, x4, s5, A0, c0, ed, rfl, k0, k1, k2, k3, k4, k5⟩ := open_Addr hin9
      have I0 := Lib.hid k0
      clear k0 k1 k2 k3 k4 k5
      have hj2 : j < (mL k xs).length := by rw [mL_len]; exact hlt
      obtain ⟨m0, b, o, us, hm0, rfl, _, hbl, hr, hin⟩ := ((H.out.below HB.out).item j hj2)
      rw [mL_at k j xs hlt hj2, ed, ← HM.out] at hin
      simp only [mCs, mC, nC] at hin
      replace hr : wr.rangeAt b (o + j * 6) us := hr
      obtain ⟨m_0, hm_0⟩ : ∃ q, q = m + nL l0 := ⟨_, rfl⟩
      rw [← hm_0] at hin
      have hn := nL_take xs j hlt
      rw [ed] at hn
      simp only [nCs, nC] at hn
      have HN := Lib.hid hn
      have HT := Lib.hid (nL_le xs (j + 1))
      have HS : Hid (m + (nL l0 + 1 + 1 + 1 + 1 + 1) ≤ 100000000) := by (show _ ≤ _; have := HM.out; have := HK.out; have := HT.out; omega)
      have m_01 : 1 ≤ m_0 := by have := HS.out; omega
      have m_02 : m_0 ≤ 100000000 := by have := HS.out; omega
      have Hm_0 := Lib.hid hm_0
      obtain ⟨A0', c0', rfl, j0, j1, j2, j3, j4, j5⟩ := openv_Addr hin
      rw [mL_len] at j0
      have J0 := Lib.hid j0
      simp only [mL_len] at hr
      obtain ⟨hc0, hc1, hc2, hc3, hc4, hc5⟩ := range_Addr hr
      have HR := Lib.hid hr
      clear hin hr hin9 ed hn hj2 j0 j1 j2 j3 j4 j5 hm_0
      have hjI : (j : Int) < xs.length := by omega
      have hj0 : (0 : Int) ≤ j := by omega
      have D0 := Lib.hid (Below.refl wr.heap.size wr)
      go_wp2_with fail
      refine (HKStringS.out m0 (by omega) B B0 _ _ _ l0 _ _ (m) _ I0.out (J0.out.agree ⟨D0.out.size, fun x _ hx => D0.out.block x hx⟩) (by have := Hm_0.out; have := HS.out; omega) (by have := Hm_0.out; have := HS.out; omega) (by have := Hm_0.out; have := HS.out; omega)).mono ?_
      rintro _ v1 ⟨z, rfl, hz, hb⟩
      rw [← Hm_0.out] at hz
      subst hz
      clear hc0 hc1 hc2 hc3 hc4 hc5
      have D1 := Lib.hid (below_then D0.out hb (Nat.le_refl _))
      have R := range_same HR.out (D1.out.block b hbl)
      obtain ⟨hc0, hc1, hc2, hc3, hc4, hc5⟩ := range_Addr R
      clear R hb D0
      go_wp2_with fail
      have KM := fun (W : World) (a : Int) (h : ((m_0 : Nat) : Int) = a) => Lib.hid (mark_text (m_0) a W h (by have := Hm_0.out; have := HS.out; omega) (by have := Hm_0.out; have := HS.out; omega))
      go_region_held3 (fun w' => w'.cell? ⟨b, o + j * 6 + 1, none⟩ = some (.string (markT (m_0)))) (go_keep)
        (first
        | (go_at_call 37; refine (KM _ _ ?_).out.mono ?_; omega; rintro _ v2 ⟨rfl, hb0⟩; have hb := below_then (below_d v1 _) hb0 (Nat.le_refl _); clear hb0 hc0 hc1 hc2 hc3 hc4 hc5; have D2 := Lib.hid (below_then D1.out hb (Nat.le_refl _)); have R := range_same HR.out (D2.out.block b hbl); obtain ⟨hc0, hc1, hc2, hc3, hc4, hc5⟩ := range_Addr R; clear R hb D1))
      clear KM
      go_wp2_with fail
      have KM := fun (W : World) (a : Int) (h : ((m_0 + 1 : Nat) : Int) = a) => Lib.hid (mark_text (m_0 + 1) a W h (by have := Hm_0.out; have := HS.out; omega) (by have := Hm_0.out; have := HS.out; omega))
      go_region_held3 (fun w' => w'.cell? ⟨b, o + j * 6 + 2, none⟩ = some (.string (markT (m_0 + 1)))) (go_keep)
        (first
        | (go_at_call 37; refine (KM _ _ ?_).out.mono ?_; omega; rintro _ v3 ⟨rfl, hb0⟩; have hb := below_then (below_d v2 _) hb0 (Nat.le_refl _); clear hb0 hc0 hc1 hc2 hc3 hc4 hc5; have D3 := Lib.hid (below_then D2.out hb (Nat.le_refl _)); have R := range_same HR.out (D3.out.block b hbl); obtain ⟨hc0, hc1, hc2, hc3, hc4, hc5⟩ := range_Addr R; clear R hb D2))
      clear KM
      go_wp2_with fail
      have KM := fun (W : World) (a : Int) (h : ((m_0 + 1 + 1 + 1 + 1 : Nat) : Int) = a) => Lib.hid (mark_text (m_0 + 1 + 1 + 1 + 1) a W h (by have := Hm_0.out; have := HS.out; omega) (by have := Hm_0.out; have := HS.out; omega))
      go_region_held3 (fun w' => w'.cell? ⟨b, o + j * 6 + 5, none⟩ = some (.string (markT (m_0 + 1 + 1 + 1 + 1)))) (go_keep)
        (first
        | (go_at_call 37; refine (KM _ _ ?_).out.mono ?_; omega; rintro _ v4 ⟨rfl, hb0⟩; have hb := below_then (below_d v3 _) hb0 (Nat.le_refl _); clear hb0 hc0 hc1 hc2 hc3 hc4 hc5; have D4 := Lib.hid (below_then D3.out hb (Nat.le_refl _)); have R := range_same HR.out (D4.out.block b hbl); obtain ⟨hc0, hc1, hc2, hc3, hc4, hc5⟩ := range_Addr R; clear R hb D3))
      clear KM
      have EE := Lib.hid (below_then HB.out D4.out (Nat.le_refl _))
      go_wp2
      go_roundw
      case rel => exact ⟨j + 1, m_0 + 1 + 1 + 1 + 1 + 1, hlt, by go_num, by go_num, by (have := Hm_0.out; have := HS.out; have := HN.out; have := HM.out; omega), EE.out⟩
      case measure => simp [intOf]; omega
    · obtain rfl : j = xs.length := by omega
      go_wp2
      go_ret
      exact ⟨(m : Int), rfl, by (have h8 := HM.out; rw [List.take_length] at h8; omega), HB.out⟩
theorem hdAddrS_all (n : Nat) : HdAddrS n := hdAddrS_of (fun m _ => hdStringS_all m)
set_option maxHeartbeats 2000000 in
theorem hdPairS_of {n : Nat} : HdPairS n := fun B B0 n0 w0 v0 xs v a k w h0 h ha hk1 hk => by
  obtain ⟨_, A0_, c0_, el0, rfl, _⟩ := h0.lst
  injection el0 with el0
  subst el0
  obtain ⟨_, A, c, el, rfl, hl⟩ := h.lst
  injection el with el
  subst el
  have eL := mL_len k xs
  have H := Lib.hid h
  rw [eL] at hl ⊢
  have H0 := Lib.hid h0
  have HK := Lib.hid hk
  unfold maxLen at hl
  subst ha
  have hkl : k ≤ 100000000 := by omega
  clear h h0 hk eL
  go_enter Tryz.func64, Tryz.ntmps64
  go_wp2
  go_loopw [1, 5] (fun q i wr => ∃ (j m : Nat), j ≤ xs.length ∧ i = .int .i64 j ∧ q = .int .i64 (m : Int) ∧ m = k + nL (xs.take j) ∧ Below w.heap.size w wr) (fun _ i _ => xs.length - (intOf i).toNat)
  case atStart => exact ⟨0, k, Nat.zero_le _, rfl, rfl, by simp [nL], Below.refl _ _⟩
  case round =>
    obtain ⟨j, m, hj, rfl, rfl, hm, hb⟩ := hrel
    have HM := Lib.hid hm
    have HB := Lib.hid hb
    have HT1 := Lib.hid (nL_le xs j)
    have hm1 : 1 ≤ m := by have := HM.out; omega
    have hm2 : m ≤ 100000000 := by have := HM.out; have := HK.out; have := HT1.out; omega
    clear hm hb
    by_cases hlt : j < xs.length
    · obtain ⟨m9, b9, o9, us9, _, _, _, _, _, hin9⟩ := H0.out.item j hlt
      obtain ⟨s0, x1, x2, s3, ed, rfl, k0, k1, k2, k3⟩ := open_Pair hin9
      clear k0 k1 k2 k3
      have hj2 : j < (mL k xs).length := by rw [mL_len]; exact hlt
      obtain ⟨m0, b, o, us, hm0, rfl, _, hbl, hr, hin⟩ := ((H.out.below HB.out).item j hj2)
      rw [mL_at k j xs hlt hj2, ed, ← HM.out] at hin
      simp only [mCs, mC, nC] at hin
      replace hr : wr.rangeAt b (o + j * 4) us := hr
      have hn := nL_take xs j hlt
      rw [ed] at hn
      simp only [nCs, nC] at hn
      have HN := Lib.hid hn
      have HT := Lib.hid (nL_le xs (j + 1))
      have HS : Hid (m + (1 + 1 + 1 + 1) ≤ 100000000) := by (show _ ≤ _; have := HM.out; have := HK.out; have := HT.out; omega)
      obtain ⟨rfl, j0, j1, j2, j3⟩ := openv_Pair hin
      obtain ⟨hc0, hc1, hc2, hc3⟩ := range_Pair hr
      have HR := Lib.hid hr
      clear hin hr hin9 ed hn hj2 j0 j1 j2 j3
      have hjI : (j : Int) < xs.length := by omega
      have hj0 : (0 : Int) ≤ j := by omega
      have D0 := Lib.hid (Below.refl wr.heap.size wr)
      go_wp2_with fail
      have KM := fun (W : World) (a : Int) (h : ((m : Nat) : Int) = a) => Lib.hid (mark_text (m) a W h (by have := HS.out; omega) (by have := HS.out; omega))
      go_region_held3 (fun w' => w'.cell? ⟨b, o + j * 4, none⟩ = some (.string (markT (m)))) (go_keep)
        (first
        | (go_at_call 37; refine (KM _ _ ?_).out.mono ?_; omega; rintro _ v1 ⟨rfl, hb0⟩; have hb := below_then (below_d wr _) hb0 (Nat.le_refl _); clear hb0 hc0 hc1 hc2 hc3; have D1 := Lib.hid (below_then D0.out hb (Nat.le_refl _)); have R := range_same HR.out (D1.out.block b hbl); obtain ⟨hc0, hc1, hc2, hc3⟩ := range_Pair R; clear R hb D0))
      clear KM
      go_wp2_with fail
      have KM := fun (W : World) (a : Int) (h : ((m + 1 + 1 + 1 : Nat) : Int) = a) => Lib.hid (mark_text (m + 1 + 1 + 1) a W h (by have := HS.out; omega) (by have := HS.out; omega))
      go_region_held3 (fun w' => w'.cell? ⟨b, o + j * 4 + 3, none⟩ = some (.string (markT (m + 1 + 1 + 1)))) (go_keep)
        (first
        | (go_at_call 37; refine (KM _ _ ?_).out.mono ?_; omega; rintro _ v2 ⟨rfl, hb0⟩; have hb := below_then (below_d v1 _) hb0 (Nat.le_refl _); clear hb0 hc0 hc1 hc2 hc3; have D2 := Lib.hid (below_then D1.out hb (Nat.le_refl _)); have R := range_same HR.out (D2.out.block b hbl); obtain ⟨hc0, hc1, hc2, hc3⟩ := range_Pair R; clear R hb D1))
      clear KM
      have EE := Lib.hid (below_then HB.out D2.out (Nat.le_refl _))
      go_wp2
      go_roundw
      case rel => exact ⟨j + 1, m + 1 + 1 + 1 + 1, hlt, by go_num, by go_num, by (have := HS.out; have := HN.out; have := HM.out; omega), EE.out⟩
      case measure => simp [intOf]; omega
    · obtain rfl : j = xs.length := by omega
      go_wp2
      go_ret
      exact ⟨(m : Int), rfl, by (have h8 := HM.out; rw [List.take_length] at h8; omega), HB.out⟩
theorem hdPairS_all (n : Nat) : HdPairS n := hdPairS_of
set_option maxHeartbeats 2000000 in
theorem hdThingS_of {n : Nat} (KAddrS : ∀ m, m < n → HdAddrS m) (KPairS : ∀ m, m < n → HdPairS m) (KStringS : ∀ m, m < n → HdStringS m) : HdThingS n := fun B B0 n0 w0 v0 xs v a k w h0 h ha hk1 hk => by
  obtain ⟨_, A0_, c0_, el0, rfl, _⟩ := h0.lst
  injection el0 with el0
  subst el0
  obtain ⟨_, A, c, el, rfl, hl⟩ := h.lst
  injection el with el
  subst el
  have eL := mL_len k xs
  have H := Lib.hid h
  rw [eL] at hl ⊢
  have H0 := Lib.hid h0
  have HK := Lib.hid hk
  unfold maxLen at hl
  subst ha
  have hkl : k ≤ 100000000 := by omega
  have HKAddrS := Lib.hid KAddrS
  have HKPairS := Lib.hid KPairS
  have HKStringS := Lib.hid KStringS
  clear h h0 hk eL KAddrS KPairS KStringS
  go_enter Tryz.func41, Tryz.ntmps41
  go_wp2
  go_loopw [1, 5] (fun q i wr => ∃ (j m : Nat), j ≤ xs.length ∧ i = .int .i64 j ∧ q = .int .i64 (m : Int) ∧ m = k + nL (xs.take j) ∧ Below w.heap.size w wr) (fun _ i _ => xs.length - (intOf i).toNat)
  case atStart => exact ⟨0, k, Nat.zero_le _, rfl, rfl, by simp [nL], Below.refl _ _⟩
  case round =>
    obtain ⟨j, m, hj, rfl, rfl, hm, hb⟩ := hrel
    have HM := Lib.hid hm
    have HB := Lib.hid hb
    have HT1 := Lib.hid (nL_le xs j)
    have hm1 : 1 ≤ m := by have := HM.out; omega
    have hm2 : m ≤ 100000000 := by have := HM.out; have := HK.out; have := HT1.out; omega
    clear hm hb
    by_cases hlt : j < xs.length
    · obtain ⟨m9, b9, o9, us9, _, _, _, _, _, hin9⟩ := H0.out.item j hlt
      obtain ⟨l0, s1, s2, x3, x4, s5, l6, l7, A0, c0, A6, c6, A7, c7, ed, rfl, k0, k1, k2, k3, k4, k5, k6, k7⟩ := open_Thing hin9
      have I0 := Lib.hid k0
      have I6 := Lib.hid k6
      have I7 := Lib.hid k7
      clear k0 k1 k2 k3 k4 k5 k6 k7
      have hj2 : j < (mL k xs).length := by rw [mL_len]; exact hlt
      obtain ⟨m0, b, o, us, hm0, rfl, _, hbl, hr, hin⟩ := ((H.out.below HB.out).item j hj2)
      rw [mL_at k j xs hlt hj2, ed, ← HM.out] at hin
      simp only [mCs, mC, nC] at hin
      replace hr : wr.rangeAt b (o + j * 8) us := hr
      obtain ⟨m_0, hm_0⟩ : ∃ q, q = m + nL l0 := ⟨_, rfl⟩
      rw [← hm_0] at hin
      obtain ⟨m_6, hm_6⟩ : ∃ q, q = m_0 + 1 + 1 + 1 + 1 + 1 + nL l6 := ⟨_, rfl⟩
      rw [← hm_6] at hin
      obtain ⟨m_7, hm_7⟩ : ∃ q, q = m_6 + nL l7 := ⟨_, rfl⟩
      have hn := nL_take xs j hlt
      rw [ed] at hn
      simp only [nCs, nC] at hn
      have HN := Lib.hid hn
      have HT := Lib.hid (nL_le xs (j + 1))
      have HS : Hid (m + (nL l0 + 1 + 1 + 1 + 1 + 1 + nL l6 + nL l7) ≤ 100000000) := by (show _ ≤ _; have := HM.out; have := HK.out; have := HT.out; omega)
      have m_01 : 1 ≤ m_0 := by have := HS.out; omega
      have m_02 : m_0 ≤ 100000000 := by have := HS.out; omega
      have m_61 : 1 ≤ m_6 := by have := HS.out; omega
      have m_62 : m_6 ≤ 100000000 := by have := HS.out; omega
      have m_71 : 1 ≤ m_7 := by have := HS.out; omega
      have m_72 : m_7 ≤ 100000000 := by have := HS.out; omega
      have Hm_0 := Lib.hid hm_0
      have Hm_6 := Lib.hid hm_6
      have Hm_7 := Lib.hid hm_7
      obtain ⟨A0', c0', A6', c6', A7', c7', rfl, j0, j1, j2, j3, j4, j5, j6, j7⟩ := openv_Thing hin
      rw [mL_len] at j0
      have J0 := Lib.hid j0
      rw [mL_len] at j6
      have J6 := Lib.hid j6
      rw [mL_len] at j7
      have J7 := Lib.hid j7
      simp only [mL_len] at hr
      obtain ⟨hc0, hc1, hc2, hc3, hc4, hc5, hc6, hc7⟩ := range_Thing hr
      have HR := Lib.hid hr
      clear hin hr hin9 ed hn hj2 j0 j1 j2 j3 j4 j5 j6 j7 hm_0 hm_6 hm_7
      have hjI : (j : Int) < xs.length := by omega
      have hj0 : (0 : Int) ≤ j := by omega
      have D0 := Lib.hid (Below.refl wr.heap.size wr)
      go_wp2_with fail
      refine (HKStringS.out m0 (by omega) B B0 _ _ _ l0 _ _ (m) _ I0.out (J0.out.agree ⟨D0.out.size, fun x _ hx => D0.out.block x hx⟩) (by have := Hm_0.out; have := Hm_6.out; have := Hm_7.out; have := HS.out; omega) (by have := Hm_0.out; have := Hm_6.out; have := Hm_7.out; have := HS.out; omega) (by have := Hm_0.out; have := Hm_6.out; have := Hm_7.out; have := HS.out; omega)).mono ?_
      rintro _ v1 ⟨z, rfl, hz, hb⟩
      rw [← Hm_0.out] at hz
      subst hz
      clear hc0 hc1 hc2 hc3 hc4 hc5 hc6 hc7
      have D1 := Lib.hid (below_then D0.out hb (Nat.le_refl _))
      have R := range_same HR.out (D1.out.block b hbl)
      obtain ⟨hc0, hc1, hc2, hc3, hc4, hc5, hc6, hc7⟩ := range_Thing R
      clear R hb D0
      go_wp2_with fail
      have KM := fun (W : World) (a : Int) (h : ((m_0 : Nat) : Int) = a) => Lib.hid (mark_text (m_0) a W h (by have := Hm_0.out; have := Hm_6.out; have := Hm_7.out; have := HS.out; omega) (by have := Hm_0.out; have := Hm_6.out; have := Hm_7.out; have := HS.out; omega))
      go_region_held3 (fun w' => w'.cell? ⟨b, o + j * 8 + 1, none⟩ = some (.string (markT (m_0)))) (go_keep)
        (first
        | (go_at_call 37; refine (KM _ _ ?_).out.mono ?_; omega; rintro _ v2 ⟨rfl, hb0⟩; have hb := below_then (below_d v1 _) hb0 (Nat.le_refl _); clear hb0 hc0 hc1 hc2 hc3 hc4 hc5 hc6 hc7; have D2 := Lib.hid (below_then D1.out hb (Nat.le_refl _)); have R := range_same HR.out (D2.out.block b hbl); obtain ⟨hc0, hc1, hc2, hc3, hc4, hc5, hc6, hc7⟩ := range_Thing R; clear R hb D1))
      clear KM
      go_wp2_with fail
      have KM := fun (W : World) (a : Int) (h : ((m_0 + 1 : Nat) : Int) = a) => Lib.hid (mark_text (m_0 + 1) a W h (by have := Hm_0.out; have := Hm_6.out; have := Hm_7.out; have := HS.out; omega) (by have := Hm_0.out; have := Hm_6.out; have := Hm_7.out; have := HS.out; omega))
      go_region_held3 (fun w' => w'.cell? ⟨b, o + j * 8 + 2, none⟩ = some (.string (markT (m_0 + 1)))) (go_keep)
        (first
        | (go_at_call 37; refine (KM _ _ ?_).out.mono ?_; omega; rintro _ v3 ⟨rfl, hb0⟩; have hb := below_then (below_d v2 _) hb0 (Nat.le_refl _); clear hb0 hc0 hc1 hc2 hc3 hc4 hc5 hc6 hc7; have D3 := Lib.hid (below_then D2.out hb (Nat.le_refl _)); have R := range_same HR.out (D3.out.block b hbl); obtain ⟨hc0, hc1, hc2, hc3, hc4, hc5, hc6, hc7⟩ := range_Thing R; clear R hb D2))
      clear KM
      go_wp2_with fail
      have KM := fun (W : World) (a : Int) (h : ((m_0 + 1 + 1 + 1 + 1 : Nat) : Int) = a) => Lib.hid (mark_text (m_0 + 1 + 1 + 1 + 1) a W h (by have := Hm_0.out; have := Hm_6.out; have := Hm_7.out; have := HS.out; omega) (by have := Hm_0.out; have := Hm_6.out; have := Hm_7.out; have := HS.out; omega))
      go_region_held3 (fun w' => w'.cell? ⟨b, o + j * 8 + 5, none⟩ = some (.string (markT (m_0 + 1 + 1 + 1 + 1)))) (go_keep)
        (first
        | (go_at_call 37; refine (KM _ _ ?_).out.mono ?_; omega; rintro _ v4 ⟨rfl, hb0⟩; have hb := below_then (below_d v3 _) hb0 (Nat.le_refl _); clear hb0 hc0 hc1 hc2 hc3 hc4 hc5 hc6 hc7; have D4 := Lib.hid (below_then D3.out hb (Nat.le_refl _)); have R := range_same HR.out (D4.out.block b hbl); obtain ⟨hc0, hc1, hc2, hc3, hc4, hc5, hc6, hc7⟩ := range_Thing R; clear R hb D3))
      clear KM
      go_wp2_with fail
      refine (HKPairS.out m0 (by omega) B B0 _ _ _ l6 _ _ (m_0 + 1 + 1 + 1 + 1 + 1) _ I6.out (J6.out.agree ⟨D4.out.size, fun x _ hx => D4.out.block x hx⟩) (by have := Hm_0.out; have := Hm_6.out; have := Hm_7.out; have := HS.out; omega) (by have := Hm_0.out; have := Hm_6.out; have := Hm_7.out; have := HS.out; omega) (by have := Hm_0.out; have := Hm_6.out; have := Hm_7.out; have := HS.out; omega)).mono ?_
      rintro _ v5 ⟨z, rfl, hz, hb⟩
      rw [← Hm_6.out] at hz
      subst hz
      clear hc0 hc1 hc2 hc3 hc4 hc5 hc6 hc7
      have D5 := Lib.hid (below_then D4.out hb (Nat.le_refl _))
      have R := range_same HR.out (D5.out.block b hbl)
      obtain ⟨hc0, hc1, hc2, hc3, hc4, hc5, hc6, hc7⟩ := range_Thing R
      clear R hb D4
      go_wp2_with fail
      refine (HKAddrS.out m0 (by omega) B B0 _ _ _ l7 _ _ (m_6) _ I7.out (J7.out.agree ⟨D5.out.size, fun x _ hx => D5.out.block x hx⟩) (by have := Hm_0.out; have := Hm_6.out; have := Hm_7.out; have := HS.out; omega) (by have := Hm_0.out; have := Hm_6.out; have := Hm_7.out; have := HS.out; omega) (by have := Hm_0.out; have := Hm_6.out; have := Hm_7.out; have := HS.out; omega)).mono ?_
      rintro _ v6 ⟨z, rfl, hz, hb⟩
      rw [← Hm_7.out] at hz
      subst hz
      clear hc0 hc1 hc2 hc3 hc4 hc5 hc6 hc7
      have D6 := Lib.hid (below_then D5.out hb (Nat.le_refl _))
      have R := range_same HR.out (D6.out.block b hbl)
      obtain ⟨hc0, hc1, hc2, hc3, hc4, hc5, hc6, hc7⟩ := range_Thing R
      clear R hb D5
      have EE := Lib.hid (below_then HB.out D6.out (Nat.le_refl _))
      go_wp2
      go_roundw
      case rel => exact ⟨j + 1, m_7, hlt, by go_num, by go_num, by (have := Hm_0.out; have := Hm_6.out; have := Hm_7.out; have := HS.out; have := HN.out; have := HM.out; omega), EE.out⟩
      case measure => simp [intOf]; omega
    · obtain rfl : j = xs.length := by omega
      go_wp2
      go_ret
      exact ⟨(m : Int), rfl, by (have h8 := HM.out; rw [List.take_length] at h8; omega), HB.out⟩
theorem hdThingS_all (n : Nat) : HdThingS n := hdThingS_of (fun m _ => hdAddrS_all m) (fun m _ => hdPairS_all m) (fun m _ => hdStringS_all m)
set_option maxHeartbeats 2000000 in
theorem hdBookOut_of {n : Nat} (KThingS : HdThingS n) : HdBookOut n := fun B B0 n0 w0 vs0 ds vs a k w h0 h ha hk1 hk => by
  obtain ⟨l0, x1, A0, c0, rfl, rfl, i0, i1⟩ := open_BookOut h0
  simp only [mV] at h
  simp only [nV] at hk
  obtain ⟨A0', c0', rfl, j0, j1⟩ := openv_BookOut h
  have I0 := Lib.hid i0
  have J0 := Lib.hid j0
  have I1 := Lib.hid i1
  have J1 := Lib.hid j1
  simp only [nV]
  simp only [mL_len]
  have HA := Lib.hid ha
  have HK := Lib.hid hk
  have hz1 : 1 ≤ a := by omega
  have hz2 : a ≤ 100000000 := by omega
  have HKThingS := Lib.hid KThingS
  clear h h0 ha hk i0 j0 i1 j1 KThingS
  go_enter Tryz.func16, Tryz.ntmps16
  go_wp2_with fail
  refine (HKThingS.out B B0 _ _ _ l0 _ _ (k) _ I0.out (by (have hJ := J0.out; (try simp only [mL_len] at hJ); exact hJ.below (below_a1 _ _))) (by have := HA.out; have := HK.out; omega) (by have := HA.out; have := HK.out; omega) (by have := HA.out; have := HK.out; omega)).mono ?_
  rintro _ v1 ⟨z1, rfl, hz1, hb⟩
  have E1 := Lib.hid (below_then (below_a1 _ _) hb (Nat.le_refl _))
  have C1 := Lib.hid ((Blk.new w _ _).step hb)
  have c_1 := C1.out.cell
  have HZ1 := Lib.hid hz1
  have hz1a : 1 ≤ z1 := by (have := HA.out; have := HZ1.out; have := HK.out; omega)
  have hz1b : z1 ≤ 100000000 := by (have := HA.out; have := HZ1.out; have := HK.out; omega)
  clear hb hz1
  go_wp2
  go_ret
  exact ⟨z1, rfl, by (have := HA.out; have := HZ1.out; have := HK.out; omega), E1.out⟩
theorem hdBookOut_all (n : Nat) : HdBookOut n := hdBookOut_of (hdThingS_all n)
end Go.Proofs.YtflfnekaiaplfaaGreat.un
