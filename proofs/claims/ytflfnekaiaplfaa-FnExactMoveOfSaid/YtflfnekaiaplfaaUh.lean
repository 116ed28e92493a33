/- The laws' own helpers: data held against the marks. -/
import Derived.Test.YtflfnekaiaplfaaUm
namespace Go.Proofs.Ytflfnekaiaplfaa.un
open mem
open Go.ChangeShapes Go.WideShapes Go.ChangeAt Go.RowKit Go.Lib
set_option linter.unusedVariables false
set_option maxRecDepth 8000
set_option linter.unusedSimpArgs false

theorem mL_at (k j : Nat) (xs : List (List DC)) (h : j < xs.length) (h2 : j < (mL k xs).length) : (mL k xs)[j] = mCs (k + nL (xs.take j)) xs[j] := by
  have e : xs = xs.take j ++ xs[j] :: xs.drop (j + 1) := by rw [← List.drop_eq_getElem_cons h, List.take_append_drop]
  have e2 : mL k xs = mL k (xs.take j) ++ mCs (k + nL (xs.take j)) xs[j] :: mL (k + nL (xs.take j) + nCs xs[j]) (xs.drop (j + 1)) := by
    conv => lhs; rw [e]
    rw [mL_app]; simp [mL]
  have hl : (mL k (xs.take j)).length = j := by rw [mL_len]; simp; omega
  have e3 : (mL k xs)[j]? = some (mCs (k + nL (xs.take j)) xs[j]) := by
    rw [e2, List.getElem?_append_right (by omega), hl, Nat.sub_self]; rfl
  rw [List.getElem?_eq_getElem h2] at e3
  exact Option.some.inj e3
def HdStringS (n : Nat) : Prop := ∀ (B B0 : Nat → Prop) (n0 : Nat) (w0 : World) (v0 : Value) (xs : List (List DC)) (v : Value) (a : Int) (k : Nat) (w : World), Cell B0 n0 w0 (.l 0) (.l xs) v0 → Cell B n w (.l 0) (.l (mL k xs)) v → (k : Int) = a → 1 ≤ k → k + nL xs ≤ 100000000 →
    Calls Try.prog 49 #[v, .int .i64 a] w (fun e w' => ∃ z : Int, e = .returned (.int .i64 z) ∧ ((k + nL xs : Nat) : Int) = z ∧ Below w.heap.size w w')
def HdAddr (n : Nat) : Prop := ∀ (B B0 : Nat → Prop) (n0 : Nat) (w0 : World) (vs0 : List Value) (ds : List DC) (vs : List Value) (a : Int) (k : Nat) (w : World), Cells B0 n0 w0 shAddr_ ds vs0 → Cells B n w shAddr_ (mV k ds) vs → (k : Int) = a → 1 ≤ k → k + nV ds ≤ 100000000 →
    Calls Try.prog 31 #[.agg vs.toArray, .int .i64 a] w (fun e w' => ∃ z : Int, e = .returned (.int .i64 z) ∧ ((k + nV ds : Nat) : Int) = z ∧ Below w.heap.size w w')
def HdAddrOut (n : Nat) : Prop := ∀ (B B0 : Nat → Prop) (n0 : Nat) (w0 : World) (vs0 : List Value) (ds : List DC) (vs : List Value) (a : Int) (k : Nat) (w : World), Cells B0 n0 w0 shAddrOut_ ds vs0 → Cells B n w shAddrOut_ (mV k ds) vs → (k : Int) = a → 1 ≤ k → k + nV ds ≤ 100000000 →
    Calls Try.prog 17 #[.agg vs.toArray, .int .i64 a] w (fun e w' => ∃ z : Int, e = .returned (.int .i64 z) ∧ ((k + nV ds : Nat) : Int) = z ∧ Below w.heap.size w w')
set_option maxHeartbeats 2000000 in
theorem hdStringS_of {n : Nat} : HdStringS n := fun B B0 n0 w0 v0 xs v a k w h0 h ha hk1 hk => by
  obtain ⟨_, A0_, c0_, el0, rfl, _⟩ := h0.lst
  injection el0 with el0
  subst el0
  obtain ⟨_, A, c, el, rfl, hl⟩ := h.lst
  injection el with el
  subst el
  have eL := mL_len k xs
  have H := Lib.hid h
  rw [eL] at hl ⊢
  have H0 := Lib.hid h0
  have HK := Lib.hid hk
  unfold maxLen at hl
  subst ha
  have hkl : k ≤ 100000000 := by omega
  clear h h0 hk eL
  go_enter Try.func49, Try.ntmps49
  go_wp2
  go_loopw [1, 5] (fun q i wr => ∃ (j m : Nat), j ≤ xs.length ∧ i = .int .i64 j ∧ q = .int .i64 (m : Int) ∧ m = k + nL (xs.take j) ∧ Below w.heap.size w wr) (fun _ i _ => xs.length - (intOf i).toNat)
  case atStart => exact ⟨0, k, Nat.zero_le _, rfl, rfl, by simp [nL], Below.refl _ _⟩
  case round =>
    obtain ⟨j, m, hj, rfl, rfl, hm, hb⟩ := hrel
    have HM := Lib.hid hm
    have HB := Lib.hid hb
    have HT1 := Lib.hid (nL_le xs j)
    have hm1 : 1 ≤ m := by have := HM.out; omega
    have hm2 : m ≤ 100000000 := by have := HM.out; have := HK.out; have := HT1.out; omega
    clear hm hb
    by_cases hlt : j < xs.length
    · obtain ⟨m9, b9, o9, us9, _, _, _, _, _, hin9⟩ := H0.out.item j hlt
      obtain ⟨d0, ds0, v0, vs0, ed, rfl, h1, h2⟩ := All3.cons hin9
      obtain ⟨rfl, rfl⟩ := All3.nil h2
      obtain ⟨s0, rfl, rfl, k0⟩ := h1.str
      clear h1 h2
      clear k0
      have hj2 : j < (mL k xs).length := by rw [mL_len]; exact hlt
      obtain ⟨m0, b, o, us, hm0, rfl, _, hbl, hr, hin⟩ := ((H.out.below HB.out).item j hj2)
      rw [mL_at k j xs hlt hj2, ed, ← HM.out] at hin
      simp only [mCs, mC, nC] at hin
      replace hr : wr.rangeAt b (o + j * 1) us := hr
      have hn := nL_take xs j hlt
      rw [ed] at hn
      simp only [nCs, nC] at hn
      have HN := Lib.hid hn
      have HT := Lib.hid (nL_le xs (j + 1))
      have HS : Hid (m + (1) ≤ 100000000) := by (show _ ≤ _; have := HM.out; have := HK.out; have := HT.out; omega)
      obtain ⟨d1, ds1, v1, vs1, ed1, rfl, h1, h2⟩ := All3.cons hin
      injection ed1 with ed1 ed2
      subst ed1 ed2
      obtain ⟨_, rfl⟩ := All3.nil h2
      obtain ⟨t0, et, rfl, _⟩ := h1.str
      injection et with et
      subst et
      have hc0 := hr 0 _ rfl
      simp only [Nat.mul_one, Nat.add_zero] at hc0
      have HR := Lib.hid hr
      clear h1 h2 hin hr ed hn hj2
      have hjI : (j : Int) < xs.length := by omega
      have hj0 : (0 : Int) ≤ j := by omega
      have D0 := Lib.hid (Below.refl wr.heap.size wr)
      go_wp2_with fail
      have KM := fun (W : World) (a : Int) (h : ((m : Nat) : Int) = a) => Lib.hid (mark_text (m) a W h (by have := HS.out; omega) (by have := HS.out; omega))
      go_region_held3 (fun w' => w'.cell? ⟨b, o + j, none⟩ = some (.string (markT (m)))) (go_keep)
        (first
        | (go_at_call 48; refine (KM _ _ ?_).out.mono ?_; omega; rintro _ v1 ⟨rfl, hb0⟩; have hb := below_then (below_d wr _) hb0 (Nat.le_refl _); clear hb0 hc0; have D1 := Lib.hid (below_then D0.out hb (Nat.le_refl _)); have R := range_same HR.out (D1.out.block b hbl); have hc0 := R 0 _ rfl; simp only [Nat.mul_one, Nat.add_zero] at hc0; clear R hb D0))
      clear KM
      have EE := Lib.hid (below_then HB.out D1.out (Nat.le_refl _))
      go_wp2
      go_roundw
      case rel => exact ⟨j + 1, m + 1, hlt, by go_num, by go_num, by (have := HS.out; have := HN.out; have := HM.out; omega), EE.out⟩
      case measure => simp [intOf]; omega
    · obtain rfl : j = xs.length := by omega
      go_wp2
      go_ret
      exact ⟨(m : Int), rfl, by (have h8 := HM.out; rw [List.take_length] at h8; omega), HB.out⟩
theorem hdStringS_all (n : Nat) : HdStringS n := hdStringS_of
set_option maxHeartbeats 2000000 in
theorem hdAddr_of {n : Nat} (KStringS : HdStringS n) : HdAddr n := fun B B0 n0 w0 vs0 ds vs a k w h0 h ha hk1 hk => by
  obtain ⟨l0, s1, s2, x3, x4, s5, A0, c0, rfl, rfl, i0, i1, i2, i3, i4, i5⟩ := open_Addr h0
  simp only [mV] at h
  simp only [nV] at hk
  obtain ⟨A0', c0', rfl, j0, j1, j2, j3, j4, j5⟩ := openv_Addr h
  have I0 := Lib.hid i0
  have J0 := Lib.hid j0
  have I1 := Lib.hid i1
  have J1 := Lib.hid j1
  have I2 := Lib.hid i2
  have J2 := Lib.hid j2
  have I3 := Lib.hid i3
  have J3 := Lib.hid j3
  have I4 := Lib.hid i4
  have J4 := Lib.hid j4
  have I5 := Lib.hid i5
  have J5 := Lib.hid j5
  simp only [nV]
  simp only [mL_len]
  have HA := Lib.hid ha
  have HK := Lib.hid hk
  have hz1 : 1 ≤ a := by omega
  have hz2 : a ≤ 100000000 := by omega
  have HKStringS := Lib.hid KStringS
  clear h h0 ha hk i0 j0 i1 j1 i2 j2 i3 j3 i4 j4 i5 j5 KStringS
  go_enter Try.func31, Try.ntmps31
  go_wp2_with fail
  refine (HKStringS.out B B0 _ _ _ l0 _ _ (k) _ I0.out (by (have hJ := J0.out; (try simp only [mL_len] at hJ); exact hJ.below (below_a1 _ _))) (by have := HA.out; have := HK.out; omega) (by have := HA.out; have := HK.out; omega) (by have := HA.out; have := HK.out; omega)).mono ?_
  rintro _ v1 ⟨z1, rfl, hz1, hb⟩
  have E1 := Lib.hid (below_then (below_a1 _ _) hb (Nat.le_refl _))
  have C1 := Lib.hid ((Blk.new w _ _).step hb)
  have c_1 := C1.out.cell
  have HZ1 := Lib.hid hz1
  have hz1a : 1 ≤ z1 := by (have := HA.out; have := HZ1.out; have := HK.out; omega)
  have hz1b : z1 ≤ 100000000 := by (have := HA.out; have := HZ1.out; have := HK.out; omega)
  clear hb hz1
  go_wp2
  go_ret
  exact ⟨z1, rfl, by (have := HA.out; have := HZ1.out; have := HK.out; omega), E1.out⟩
theorem hdAddr_all (n : Nat) : HdAddr n := hdAddr_of (hdStringS_all n)
set_option maxHeartbeats 2000000 in
theorem hdAddrOut_of {n : Nat} (KAddr : HdAddr n) : HdAddrOut n := fun B B0 n0 w0 vs0 ds vs a k w h0 h ha hk1 hk => by
  obtain ⟨l0, s1, s2, x3, x4, s5, x6, A0, c0, rfl, rfl, i0, i1, i2, i3, i4, i5, i6⟩ := open_AddrOut h0
  simp only [mV] at h
  simp only [nV] at hk
  obtain ⟨A0', c0', rfl, j0, j1, j2, j3, j4, j5, j6⟩ := openv_AddrOut h
  have I0 := Lib.hid i0
  have J0 := Lib.hid j0
  have I1 := Lib.hid i1
  have J1 := Lib.hid j1
  have I2 := Lib.hid i2
  have J2 := Lib.hid j2
  have I3 := Lib.hid i3
  have J3 := Lib.hid j3
  have I4 := Lib.hid i4
  have J4 := Lib.hid j4
  have I5 := Lib.hid i5
  have J5 := Lib.hid j5
  have I6 := Lib.hid i6
  have J6 := Lib.hid j6
  simp only [nV]
  simp only [mL_len]
  have HA := Lib.hid ha
  have HK := Lib.hid hk
  have hz1 : 1 ≤ a := by omega
  have hz2 : a ≤ 100000000 := by omega
  have HKAddr := Lib.hid KAddr
  clear h h0 ha hk i0 j0 i1 j1 i2 j2 i3 j3 i4 j4 i5 j5 i6 j6 KAddr
  go_enter Try.func17, Try.ntmps17
  go_wp2_with fail
  refine (HKAddr.out B B0 n0 w0 [.slice A0 l0.length c0, .string s1, .string s2, .int .i64 x3, .int .i64 x4, .string s5] [.l l0, .s s1, .s s2, .i x3, .i x4, .s s5] [.slice A0' l0.length c0', .string s1, .string s2, .int .i64 x3, .int .i64 x4, .string s5] _ (k) _ ⟨I0.out, Cell.mkS I1.out, Cell.mkS I2.out, Cell.mkI I3.out, Cell.mkI I4.out, Cell.mkS I5.out, trivial⟩ (by (simp only [mV]; exact ⟨(by (have hJ := J0.out; (try simp only [mL_len] at hJ); exact hJ.below (below_a1 _ _))), Cell.mkS J1.out, Cell.mkS J2.out, Cell.mkI J3.out, Cell.mkI J4.out, Cell.mkS J5.out, trivial⟩)) (by have := HA.out; have := HK.out; omega) (by have := HA.out; have := HK.out; omega) (by (try simp only [nV]); have := HA.out; have := HK.out; omega)).mono ?_
  rintro _ v1 ⟨z1, rfl, hz1, hb⟩
  simp only [nV] at hz1
  have E1 := Lib.hid (below_then (below_a1 _ _) hb (Nat.le_refl _))
  have C1 := Lib.hid ((Blk.new w _ _).step hb)
  have c_1 := C1.out.cell
  have HZ1 := Lib.hid hz1
  have hz1a : 1 ≤ z1 := by (have := HA.out; have := HZ1.out; have := HK.out; omega)
  have hz1b : z1 ≤ 100000000 := by (have := HA.out; have := HZ1.out; have := HK.out; omega)
  clear hb hz1
  go_wp2
  go_ret
  exact ⟨z1, rfl, by (have := HA.out; have := HZ1.out; have := HK.out; omega), E1.out⟩
theorem hdAddrOut_all (n : Nat) : HdAddrOut n := hdAddrOut_of (hdAddr_all n)
end Go.Proofs.Ytflfnekaiaplfaa.un
