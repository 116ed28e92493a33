/- MoveRight of the model. -/
import Derived.Test.YtflfnekaiaplfaaBr
import Derived.Test.YtflfnekaiaplfaaGd
import Derived.BigQuiet
import Derived.BigRegion
import Derived.Deep.QuietTactic
import Derived.Outline
namespace Go.Proofs.Ytflfnekaiaplfaa.cf
open ad mem vl ex un
open Go.ChangeShapes Go.WideShapes Go.ChangeAt Go.RowKit Go.Lib
set_option linter.unusedVariables false
set_option maxRecDepth 8000
set_option linter.unusedSimpArgs false

theorem home_iff (A : List ByteArray) (t n : ByteArray) (k i : Int) (y : ByteArray) : homeB ⟨A, t, n, k, i, y⟩ = (pathB A && decide (A.length ≠ 0) && decide (t.size = 0) && decide (n.size = 0) && k == 0 && i == 0 && decide (y.size = 0)) := rfl
set_option maxHeartbeats 2000000 in
theorem home_spec {B : Nat → Prop} {n : Nat} {w : World} {ds : List DC} {vs : List Value} {D : AddrD} {r : Bool} (hD : bA ds = D) (hr : homeB D = r) (h : Cells B n w shAddr_ ds vs) :
    Calls Try.prog 34 #[.agg vs.toArray] w (un.Told w (.bool r)) := by
  subst hD hr
  obtain ⟨l0, s1, s2, x3, x4, s5, A0, c0, rfl, rfl, k0, k1, k2, k3, k4, k5⟩ := open_Addr h
  clear h
  have e : bA [.l l0, .s s1, .s s2, .i x3, .i x4, .s s5] = ⟨bStrs l0, s1, s2, x3, x4, s5⟩ := rfl
  have hln := bStrs_len l0
  rw [e, home_iff, hln]
  have HH := Lib.hid (Gd.of1 k0)
  have hlen := k0.len.2
  unfold maxLen at hlen
  clear k0 k1 k2 k3 k4 k5 hln e
  cases hp : pathB (bStrs l0)
  rotate_left
  · go_enter Try.func34, Try.ntmps34
    go_wp2_with fail
    refine (pathRight_spec (A := A0) (c := c0) hp (HH.out.alloc _).now).mono ?_
    rintro _ w1 ⟨rfl, hb⟩
    have E1 := Lib.hid (below_then (below_a1 _ _) hb (Nat.le_refl _))
    have Ba1 := Lib.hid ((Blk.new w _ _).step hb)
    have ra1 := Ba1.out.cell
    have ba1 := Ba1.out.lt
    have SP1 := Lib.hid ((HH.out.alloc _).below hb)
    clear hb HH
    go_wp2
    all_goals go_ret
    all_goals refine ⟨ret_bool ?_, E1.out⟩
    all_goals (try simp only [tl_empty, tl_nil, tl_beq, tl_iff, Bool.not_eq_true', Bool.not_eq_false', decide_eq_true_eq, decide_eq_false_iff_not, Decidable.not_not, bne_iff_ne, bne_eq_false_iff_eq] at *)
    all_goals (simp_all)
    all_goals (have hne : l0 ≠ [] := by (intro h; subst h; simp at *))
    all_goals (by_cases h5 : s5 = ByteArray.empty)
    all_goals (first | (subst h5; simp [hne]; done) | (have h6 : s5.size ≠ 0 := fun h => h5 (empty_of_size h); simp [hne, h5, h6]))
  go_enter Try.func34, Try.ntmps34
  go_wp2_with fail
  refine (pathRight_spec (A := A0) (c := c0) hp (HH.out.alloc _).now).mono ?_
  rintro _ w1 ⟨rfl, hb⟩
  have E1 := Lib.hid (below_then (below_a1 _ _) hb (Nat.le_refl _))
  have Ba1 := Lib.hid ((Blk.new w _ _).step hb)
  have ra1 := Ba1.out.cell
  have ba1 := Ba1.out.lt
  have SP1 := Lib.hid ((HH.out.alloc _).below hb)
  clear hb HH
  go_wp2
  all_goals go_ret
  all_goals refine ⟨ret_bool ?_, E1.out⟩
  all_goals (try simp only [tl_empty, tl_nil, tl_beq, tl_iff, Bool.not_eq_true', Bool.not_eq_false', decide_eq_true_eq, decide_eq_false_iff_not, Decidable.not_not, bne_iff_ne, bne_eq_false_iff_eq] at *)
  all_goals (simp_all)
set_option maxHeartbeats 4000000 in
theorem move_spec {B : Nat → Prop} {n : Nat} {w : World} {ds : List DC} {vs : List Value} (h : Cells B n w shMove_ ds vs) :
    Calls Try.prog 21 #[.agg vs.toArray] w (un.Told w (.bool (moveB (bM ds)))) := by
  obtain ⟨x0, l1, s2, s3, x4, x5, s6, l7, s8, s9, x10, x11, s12, A1, c1, A7, c7, rfl, rfl, k0, k1, k2, k3, k4, k5, k6, k7, k8, k9, k10, k11, k12⟩ := open_Move h
  clear h
  have HF := Lib.hid (Gd.ofC (show Cells B n w shAddr_ [.l l1, .s s2, .s s3, .i x4, .i x5, .s s6] [.slice A1 l1.length c1, .string s2, .string s3, .int .i64 x4, .int .i64 x5, .string s6] from ⟨k1, Cell.mkS k2, Cell.mkS k3, Cell.mkI k4, Cell.mkI k5, Cell.mkS k6, trivial⟩))
  have HT := Lib.hid (Gd.ofC (show Cells B n w shAddr_ [.l l7, .s s8, .s s9, .i x10, .i x11, .s s12] [.slice A7 l7.length c7, .string s8, .string s9, .int .i64 x10, .int .i64 x11, .string s12] from ⟨k7, Cell.mkS k8, Cell.mkS k9, Cell.mkI k10, Cell.mkI k11, Cell.mkS k12, trivial⟩))
  clear k0 k1 k2 k3 k4 k5 k6 k7 k8 k9 k10 k11 k12
  obtain ⟨D, hD⟩ : ∃ D, bA [.l l1, .s s2, .s s3, .i x4, .i x5, .s s6] = D := ⟨_, rfl⟩
  obtain ⟨D', hD'⟩ : ∃ D, bA [.l l7, .s s8, .s s9, .i x10, .i x11, .s s12] = D := ⟨_, rfl⟩
  have e : bM [.i x0, .l l1, .s s2, .s s3, .i x4, .i x5, .s s6, .l l7, .s s8, .s s9, .i x10, .i x11, .s s12] = ⟨x0, D, D'⟩ := by rw [← hD, ← hD']; rfl
  rw [e]
  clear e
  have ht : D.typ = s2 := by rw [← hD]; rfl
  have ht' : D'.typ = s8 := by rw [← hD']; rfl
  have hk : D.kind = x4 := by rw [← hD]; rfl
  have hk' : D'.kind = x10 := by rw [← hD']; rfl
  go_enter Try.func21, Try.ntmps21
  cases hs : adl.eqA D D'
  rotate_left
  · go_wp2_with fail
    refine (sameAddr_spec hD hD' hs (HF.out.alloc _).now (HT.out.alloc _).now).mono ?_
    rintro _ w1 ⟨rfl, hb⟩
    have E1 := Lib.hid (below_then (below_a1 _ _) hb (Nat.le_refl _))
    have Bm1 := Lib.hid ((Blk.new w _ _).step hb)
    have rm1 := Bm1.out.cell
    have bm1 := Bm1.out.lt
    have SF1 := Lib.hid ((HF.out.alloc _).below hb)
    have ST1 := Lib.hid ((HT.out.alloc _).below hb)
    clear hb HF HT
    go_wp2
    all_goals go_ret
    all_goals refine ⟨ret_bool ?_, E1.out⟩
    all_goals (simp_all [moveB])
  go_wp2_with fail
  refine (sameAddr_spec hD hD' hs (HF.out.alloc _).now (HT.out.alloc _).now).mono ?_
  rintro _ w1 ⟨rfl, hb⟩
  have E1 := Lib.hid (below_then (below_a1 _ _) hb (Nat.le_refl _))
  have Bm1 := Lib.hid ((Blk.new w _ _).step hb)
  have rm1 := Bm1.out.cell
  have bm1 := Bm1.out.lt
  have SF1 := Lib.hid ((HF.out.alloc _).below hb)
  have ST1 := Lib.hid ((HT.out.alloc _).below hb)
  clear hb HF HT
  by_cases h3 : x0 = 3
  · cases hh : homeB D
    rotate_left
    · go_wp2_with fail
      refine (home_spec hD hh (SF1.out).now).mono ?_
      rintro _ w2 ⟨rfl, hb⟩
      have E2 := Lib.hid (below_then E1.out hb (Nat.le_refl _))
      have Bm2 := Lib.hid ((Bm1.out).step hb)
      have rm2 := Bm2.out.cell
      have bm2 := Bm2.out.lt
      have SF2 := Lib.hid ((SF1.out).below hb)
      have ST2 := Lib.hid ((ST1.out).below hb)
      clear hb Bm1 rm1 bm1 SF1 ST1 E1
      cases hh' : homeB D'
      rotate_left
      · go_wp2_with fail
        refine (home_spec hD' hh' (ST2.out).now).mono ?_
        rintro _ w3 ⟨rfl, hb⟩
        have E3 := Lib.hid (below_then E2.out hb (Nat.le_refl _))
        have Bm3 := Lib.hid ((Bm2.out).step hb)
        have rm3 := Bm3.out.cell
        have bm3 := Bm3.out.lt
        have SF3 := Lib.hid ((SF2.out).below hb)
        have ST3 := Lib.hid ((ST2.out).below hb)
        clear hb Bm2 rm2 bm2 SF2 ST2 E2
        go_wp2
        all_goals go_ret
        all_goals refine ⟨ret_bool ?_, E3.out⟩
        all_goals (simp_all [moveB])
      go_wp2_with fail
      refine (home_spec hD' hh' (ST2.out).now).mono ?_
      rintro _ w3 ⟨rfl, hb⟩
      have E3 := Lib.hid (below_then E2.out hb (Nat.le_refl _))
      have Bm3 := Lib.hid ((Bm2.out).step hb)
      have rm3 := Bm3.out.cell
      have bm3 := Bm3.out.lt
      have SF3 := Lib.hid ((SF2.out).below hb)
      have ST3 := Lib.hid ((ST2.out).below hb)
      clear hb Bm2 rm2 bm2 SF2 ST2 E2
      go_wp2
      all_goals go_ret
      all_goals refine ⟨ret_bool ?_, E3.out⟩
      all_goals (simp_all [moveB])
    go_wp2_with fail
    refine (home_spec hD hh (SF1.out).now).mono ?_
    rintro _ w2 ⟨rfl, hb⟩
    have E2 := Lib.hid (below_then E1.out hb (Nat.le_refl _))
    have Bm2 := Lib.hid ((Bm1.out).step hb)
    have rm2 := Bm2.out.cell
    have bm2 := Bm2.out.lt
    have SF2 := Lib.hid ((SF1.out).below hb)
    have ST2 := Lib.hid ((ST1.out).below hb)
    clear hb Bm1 rm1 bm1 SF1 ST1 E1
    go_wp2
    all_goals go_ret
    all_goals refine ⟨ret_bool ?_, E2.out⟩
    all_goals (simp_all [moveB])
  cases ha : addrB D
  rotate_left
  · go_wp2_with fail
    refine (addrRight_spec hD ha (SF1.out).now).mono ?_
    rintro _ w2 ⟨rfl, hb⟩
    have E2 := Lib.hid (below_then E1.out hb (Nat.le_refl _))
    have Bm2 := Lib.hid ((Bm1.out).step hb)
    have rm2 := Bm2.out.cell
    have bm2 := Bm2.out.lt
    have SF2 := Lib.hid ((SF1.out).below hb)
    have ST2 := Lib.hid ((ST1.out).below hb)
    clear hb Bm1 rm1 bm1 SF1 ST1 E1
    cases ha' : addrB D'
    rotate_left
    · go_wp2_with fail
      refine (addrRight_spec hD' ha' (ST2.out).now).mono ?_
      rintro _ w3 ⟨rfl, hb⟩
      have E3 := Lib.hid (below_then E2.out hb (Nat.le_refl _))
      have Bm3 := Lib.hid ((Bm2.out).step hb)
      have rm3 := Bm3.out.cell
      have bm3 := Bm3.out.lt
      have SF3 := Lib.hid ((SF2.out).below hb)
      have ST3 := Lib.hid ((ST2.out).below hb)
      clear hb Bm2 rm2 bm2 SF2 ST2 E2
      go_wp2
      all_goals go_ret
      all_goals refine ⟨ret_bool ?_, E3.out⟩
      all_goals (try simp only [tl_empty, tl_nil, tl_beq, tl_iff, Bool.not_eq_true', Bool.not_eq_false', decide_eq_true_eq, decide_eq_false_iff_not, Decidable.not_not, bne_iff_ne, bne_eq_false_iff_eq] at *)
      all_goals (simp_all [moveB])
    go_wp2_with fail
    refine (addrRight_spec hD' ha' (ST2.out).now).mono ?_
    rintro _ w3 ⟨rfl, hb⟩
    have E3 := Lib.hid (below_then E2.out hb (Nat.le_refl _))
    have Bm3 := Lib.hid ((Bm2.out).step hb)
    have rm3 := Bm3.out.cell
    have bm3 := Bm3.out.lt
    have SF3 := Lib.hid ((SF2.out).below hb)
    have ST3 := Lib.hid ((ST2.out).below hb)
    clear hb Bm2 rm2 bm2 SF2 ST2 E2
    go_wp2
    all_goals go_ret
    all_goals refine ⟨ret_bool ?_, E3.out⟩
    all_goals (simp_all [moveB])
  go_wp2_with fail
  refine (addrRight_spec hD ha (SF1.out).now).mono ?_
  rintro _ w2 ⟨rfl, hb⟩
  have E2 := Lib.hid (below_then E1.out hb (Nat.le_refl _))
  have Bm2 := Lib.hid ((Bm1.out).step hb)
  have rm2 := Bm2.out.cell
  have bm2 := Bm2.out.lt
  have SF2 := Lib.hid ((SF1.out).below hb)
  have ST2 := Lib.hid ((ST1.out).below hb)
  clear hb Bm1 rm1 bm1 SF1 ST1 E1
  go_wp2
  all_goals go_ret
  all_goals refine ⟨ret_bool ?_, E2.out⟩
  all_goals (simp_all [moveB])
end Go.Proofs.Ytflfnekaiaplfaa.cf
