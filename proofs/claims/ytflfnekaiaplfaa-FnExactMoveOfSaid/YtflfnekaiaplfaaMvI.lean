/- MoveRight of the program. -/
import Derived.Test.YtflfnekaiaplfaaMvS
import Derived.Test.YtflfnekaiaplfaaGd
import Derived.BigQuiet
import Derived.BigRegion
import Derived.Deep.QuietTactic
import Derived.Outline
namespace Go.Proofs.Ytflfnekaiaplfaa.cf
open ad mem vl ex un
open Go.ChangeShapes Go.WideShapes Go.ChangeAt Go.RowKit Go.Lib
set_option linter.unusedVariables false
set_option maxRecDepth 8000
set_option linter.unusedSimpArgs false

theorem home_eq (A : List ByteArray) (t n : ByteArray) (k i : Int) (y : ByteArray) : homeB ⟨A, t, n, k, i, y⟩ = (decide (A.length ≠ 0) && pathB A && adl.eqA ⟨A, t, n, k, i, y⟩ ⟨A, ByteArray.empty, ByteArray.empty, 0, 0, ByteArray.empty⟩) := by
  have e0 : ∀ s : ByteArray, decide (s.size = 0) = decide (s = ByteArray.empty) := fun s => by
    by_cases h : s.size = 0
    · have := empty_of_size h; subst this; rfl
    · have h2 : s ≠ ByteArray.empty := fun h3 => h (by rw [h3]; rfl)
      simp [h, h2]
  have e1 : adl.eqL A A = true := by simp [adl.eqL]
  simp only [homeB, adl.eqA, e0, e1]
  have e2 : ∀ a b : Int, decide (a = b) = (a == b) := fun a b => by
    by_cases h : a = b
    · simp [h]
    · simp [h]
  cases pathB A <;> cases decide (A.length ≠ 0) <;> simp [e2]
set_option maxHeartbeats 2000000 in
theorem home_impl {B : Nat → Prop} {n : Nat} {w : World} {ds : List DC} {vs : List Value} {D : AddrD} {r : Bool} (hD : bA ds = D) (hr : homeB D = r) (h : Cells B n w shAddr_ ds vs) :
    Calls Try.prog 42 #[.agg vs.toArray] w (un.Told w (.bool r)) := by
  subst hD hr
  have HD := Lib.hid (Gd.ofC h)
  obtain ⟨l0, s1, s2, x3, x4, s5, A0, c0, rfl, rfl, k0, k1, k2, k3, k4, k5⟩ := open_Addr h
  clear h
  have HZ := Lib.hid (Gd.ofC (show Cells B n w shAddr_ [.l l0, .s ByteArray.empty, .s ByteArray.empty, .i 0, .i 0, .s ByteArray.empty] [.slice A0 l0.length c0, .string ByteArray.empty, .string ByteArray.empty, .int .i64 0, .int .i64 0, .string ByteArray.empty] from ⟨k0, Cell.mkS (by simp [maxLen]), Cell.mkS (by simp [maxLen]), Cell.mkI (by unfold R64; omega), Cell.mkI (by unfold R64; omega), Cell.mkS (by simp [maxLen]), trivial⟩))
  have e : bA [.l l0, .s s1, .s s2, .i x3, .i x4, .s s5] = ⟨bStrs l0, s1, s2, x3, x4, s5⟩ := rfl
  have e' : bA [.l l0, .s ByteArray.empty, .s ByteArray.empty, .i 0, .i 0, .s ByteArray.empty] = ⟨bStrs l0, ByteArray.empty, ByteArray.empty, 0, 0, ByteArray.empty⟩ := rfl
  have hln := bStrs_len l0
  rw [e, home_eq, hln]
  have HH := Lib.hid (Gd.of1 k0)
  have hlen := k0.len.2
  unfold maxLen at hlen
  clear k0 k1 k2 k3 k4 k5 hln
  go_enter Try.func42, Try.ntmps42
  by_cases h0 : l0.length = 0
  · go_wp2
    all_goals go_ret
    all_goals refine ⟨ret_bool ?_, (below_a1 _ _)⟩
    all_goals (simp_all)
  cases hp : pathB (bStrs l0)
  rotate_left
  · go_wp2_with fail
    refine (pathRight_impl (A := A0) (c := c0) hp (HH.out.alloc _).now).mono ?_
    rintro _ w1 ⟨rfl, hb⟩
    have E1 := Lib.hid (below_then (below_a1 _ _) hb (Nat.le_refl _))
    have Ba1 := Lib.hid ((Blk.new w _ _).step hb)
    have ra1 := Ba1.out.cell
    have ba1 := Ba1.out.lt
    have SP1 := Lib.hid ((HH.out.alloc _).below hb)
    have SD1 := Lib.hid ((HD.out.alloc _).below hb)
    have SZ1 := Lib.hid ((HZ.out.alloc _).below hb)
    clear hb HH HD HZ
    cases hs : adl.eqA ⟨bStrs l0, s1, s2, x3, x4, s5⟩ ⟨bStrs l0, ByteArray.empty, ByteArray.empty, 0, 0, ByteArray.empty⟩
    rotate_left
    · go_wp2_with fail
      refine (sameAddr_impl e e' hs (SD1.out).now (SZ1.out).now).mono ?_
      rintro _ w2 ⟨rfl, hb⟩
      have E2 := Lib.hid (below_then E1.out hb (Nat.le_refl _))
      have Ba2 := Lib.hid ((Ba1.out).step hb)
      have ra2 := Ba2.out.cell
      have ba2 := Ba2.out.lt
      have SP2 := Lib.hid ((SP1.out).below hb)
      have SD2 := Lib.hid ((SD1.out).below hb)
      have SZ2 := Lib.hid ((SZ1.out).below hb)
      clear hb Ba1 ra1 ba1 SP1 SD1 SZ1 E1
      go_wp2
      all_goals go_ret
      all_goals refine ⟨ret_bool ?_, E2.out⟩
      all_goals (simp_all)
    go_wp2_with fail
    refine (sameAddr_impl e e' hs (SD1.out).now (SZ1.out).now).mono ?_
    rintro _ w2 ⟨rfl, hb⟩
    have E2 := Lib.hid (below_then E1.out hb (Nat.le_refl _))
    have Ba2 := Lib.hid ((Ba1.out).step hb)
    have ra2 := Ba2.out.cell
    have ba2 := Ba2.out.lt
    have SP2 := Lib.hid ((SP1.out).below hb)
    have SD2 := Lib.hid ((SD1.out).below hb)
    have SZ2 := Lib.hid ((SZ1.out).below hb)
    clear hb Ba1 ra1 ba1 SP1 SD1 SZ1 E1
    go_wp2
    all_goals go_ret
    all_goals refine ⟨ret_bool ?_, E2.out⟩
    all_goals (simp_all)
  go_wp2_with fail
  refine (pathRight_impl (A := A0) (c := c0) hp (HH.out.alloc _).now).mono ?_
  rintro _ w1 ⟨rfl, hb⟩
  have E1 := Lib.hid (below_then (below_a1 _ _) hb (Nat.le_refl _))
  have Ba1 := Lib.hid ((Blk.new w _ _).step hb)
  have ra1 := Ba1.out.cell
  have ba1 := Ba1.out.lt
  have SP1 := Lib.hid ((HH.out.alloc _).below hb)
  have SD1 := Lib.hid ((HD.out.alloc _).below hb)
  have SZ1 := Lib.hid ((HZ.out.alloc _).below hb)
  clear hb HH HD HZ
  go_wp2
  all_goals go_ret
  all_goals refine ⟨ret_bool ?_, E1.out⟩
  all_goals (simp_all)
set_option maxHeartbeats 4000000 in
theorem move_impl3 {B : Nat → Prop} {n : Nat} {w : World} {ds : List DC} {vs : List Value} (h : Cells B n w shMove_ ds vs) (hx : (bM ds).kind = 3) :
    Calls Try.prog 25 #[.agg vs.toArray] w (un.Told w (.bool (moveB (bM ds)))) := by
  obtain ⟨x0, l1, s2, s3, x4, x5, s6, l7, s8, s9, x10, x11, s12, A1, c1, A7, c7, rfl, rfl, k0, k1, k2, k3, k4, k5, k6, k7, k8, k9, k10, k11, k12⟩ := open_Move h
  clear h
  have HF := Lib.hid (Gd.ofC (show Cells B n w shAddr_ [.l l1, .s s2, .s s3, .i x4, .i x5, .s s6] [.slice A1 l1.length c1, .string s2, .string s3, .int .i64 x4, .int .i64 x5, .string s6] from ⟨k1, Cell.mkS k2, Cell.mkS k3, Cell.mkI k4, Cell.mkI k5, Cell.mkS k6, trivial⟩))
  have HT := Lib.hid (Gd.ofC (show Cells B n w shAddr_ [.l l7, .s s8, .s s9, .i x10, .i x11, .s s12] [.slice A7 l7.length c7, .string s8, .string s9, .int .i64 x10, .int .i64 x11, .string s12] from ⟨k7, Cell.mkS k8, Cell.mkS k9, Cell.mkI k10, Cell.mkI k11, Cell.mkS k12, trivial⟩))
  clear k0 k1 k2 k3 k4 k5 k6 k7 k8 k9 k10 k11 k12
  obtain ⟨D, hD⟩ : ∃ D, bA [.l l1, .s s2, .s s3, .i x4, .i x5, .s s6] = D := ⟨_, rfl⟩
  obtain ⟨D', hD'⟩ : ∃ D, bA [.l l7, .s s8, .s s9, .i x10, .i x11, .s s12] = D := ⟨_, rfl⟩
  have e : bM [.i x0, .l l1, .s s2, .s s3, .i x4, .i x5, .s s6, .l l7, .s s8, .s s9, .i x10, .i x11, .s s12] = ⟨x0, D, D'⟩ := by rw [← hD, ← hD']; rfl
  rw [e]
  clear e
  have ht : D.typ = s2 := by rw [← hD]; rfl
  have ht' : D'.typ = s8 := by rw [← hD']; rfl
  have hk : D.kind = x4 := by rw [← hD]; rfl
  have hk' : D'.kind = x10 := by rw [← hD']; rfl
  have h3 : x0 = 3 := hx
  clear hx
  go_enter Try.func25, Try.ntmps25
  cases hs : adl.eqA D D'
  rotate_left
  · go_wp2_with fail
    refine (sameAddr_impl hD hD' hs (HF.out.alloc _).now (HT.out.alloc _).now).mono ?_
    rintro _ w1 ⟨rfl, hb⟩
    have E1 := Lib.hid (below_then (below_a1 _ _) hb (Nat.le_refl _))
    have Bm1 := Lib.hid ((Blk.new w _ _).step hb)
    have rm1 := Bm1.out.cell
    have bm1 := Bm1.out.lt
    have SF1 := Lib.hid ((HF.out.alloc _).below hb)
    have ST1 := Lib.hid ((HT.out.alloc _).below hb)
    clear hb HF HT
    go_wp2
    all_goals go_ret
    all_goals refine ⟨ret_bool ?_, E1.out⟩
    all_goals (simp [moveB, hs])
  go_wp2_with fail
  refine (sameAddr_impl hD hD' hs (HF.out.alloc _).now (HT.out.alloc _).now).mono ?_
  rintro _ w1 ⟨rfl, hb⟩
  have E1 := Lib.hid (below_then (below_a1 _ _) hb (Nat.le_refl _))
  have Bm1 := Lib.hid ((Blk.new w _ _).step hb)
  have rm1 := Bm1.out.cell
  have bm1 := Bm1.out.lt
  have SF1 := Lib.hid ((HF.out.alloc _).below hb)
  have ST1 := Lib.hid ((HT.out.alloc _).below hb)
  clear hb HF HT
  cases ha : addrB D
  rotate_left
  · go_wp2_with fail
    refine (addrRight_impl hD ha (SF1.out).now).mono ?_
    rintro _ w2 ⟨rfl, hb⟩
    have E2 := Lib.hid (below_then E1.out hb (Nat.le_refl _))
    have Bm2 := Lib.hid ((Bm1.out).step hb)
    have rm2 := Bm2.out.cell
    have bm2 := Bm2.out.lt
    have SF2 := Lib.hid ((SF1.out).below hb)
    have ST2 := Lib.hid ((ST1.out).below hb)
    clear hb Bm1 rm1 bm1 SF1 ST1 E1
    cases ha' : addrB D'
    rotate_left
    · go_wp2_with fail
      refine (addrRight_impl hD' ha' (ST2.out).now).mono ?_
      rintro _ w3 ⟨rfl, hb⟩
      have E3 := Lib.hid (below_then E2.out hb (Nat.le_refl _))
      have Bm3 := Lib.hid ((Bm2.out).step hb)
      have rm3 := Bm3.out.cell
      have bm3 := Bm3.out.lt
      have SF3 := Lib.hid ((SF2.out).below hb)
      have ST3 := Lib.hid ((ST2.out).below hb)
      clear hb Bm2 rm2 bm2 SF2 ST2 E2
      cases hh : homeB D
      rotate_left
      · go_wp2_with fail
        refine (home_impl hD hh (SF3.out).now).mono ?_
        rintro _ w4 ⟨rfl, hb⟩
        have E4 := Lib.hid (below_then E3.out hb (Nat.le_refl _))
        have Bm4 := Lib.hid ((Bm3.out).step hb)
        have rm4 := Bm4.out.cell
        have bm4 := Bm4.out.lt
        have SF4 := Lib.hid ((SF3.out).below hb)
        have ST4 := Lib.hid ((ST3.out).below hb)
        clear hb Bm3 rm3 bm3 SF3 ST3 E3
        cases hh' : homeB D'
        rotate_left
        · go_wp2_with fail
          refine (home_impl hD' hh' (ST4.out).now).mono ?_
          rintro _ w5 ⟨rfl, hb⟩
          have E5 := Lib.hid (below_then E4.out hb (Nat.le_refl _))
          have Bm5 := Lib.hid ((Bm4.out).step hb)
          have rm5 := Bm5.out.cell
          have bm5 := Bm5.out.lt
          have SF5 := Lib.hid ((SF4.out).below hb)
          have ST5 := Lib.hid ((ST4.out).below hb)
          clear hb Bm4 rm4 bm4 SF4 ST4 E4
          go_wp2
          all_goals go_ret
          all_goals refine ⟨ret_bool ?_, E5.out⟩
          all_goals (simp [moveB, hs, h3, hh, hh'])
        go_wp2_with fail
        refine (home_impl hD' hh' (ST4.out).now).mono ?_
        rintro _ w5 ⟨rfl, hb⟩
        have E5 := Lib.hid (below_then E4.out hb (Nat.le_refl _))
        have Bm5 := Lib.hid ((Bm4.out).step hb)
        have rm5 := Bm5.out.cell
        have bm5 := Bm5.out.lt
        have SF5 := Lib.hid ((SF4.out).below hb)
        have ST5 := Lib.hid ((ST4.out).below hb)
        clear hb Bm4 rm4 bm4 SF4 ST4 E4
        go_wp2
        all_goals go_ret
        all_goals refine ⟨ret_bool ?_, E5.out⟩
        all_goals (simp [moveB, hs, h3, hh, hh'])
      go_wp2_with fail
      refine (home_impl hD hh (SF3.out).now).mono ?_
      rintro _ w4 ⟨rfl, hb⟩
      have E4 := Lib.hid (below_then E3.out hb (Nat.le_refl _))
      have Bm4 := Lib.hid ((Bm3.out).step hb)
      have rm4 := Bm4.out.cell
      have bm4 := Bm4.out.lt
      have SF4 := Lib.hid ((SF3.out).below hb)
      have ST4 := Lib.hid ((ST3.out).below hb)
      clear hb Bm3 rm3 bm3 SF3 ST3 E3
      go_wp2
      all_goals go_ret
      all_goals refine ⟨ret_bool ?_, E4.out⟩
      all_goals (simp [moveB, hs, h3, hh])
    go_wp2_with fail
    refine (addrRight_impl hD' ha' (ST2.out).now).mono ?_
    rintro _ w3 ⟨rfl, hb⟩
    have E3 := Lib.hid (below_then E2.out hb (Nat.le_refl _))
    have Bm3 := Lib.hid ((Bm2.out).step hb)
    have rm3 := Bm3.out.cell
    have bm3 := Bm3.out.lt
    have SF3 := Lib.hid ((SF2.out).below hb)
    have ST3 := Lib.hid ((ST2.out).below hb)
    clear hb Bm2 rm2 bm2 SF2 ST2 E2
    cases hh : homeB D
    rotate_left
    · go_wp2_with fail
      refine (home_impl hD hh (SF3.out).now).mono ?_
      rintro _ w4 ⟨rfl, hb⟩
      have E4 := Lib.hid (below_then E3.out hb (Nat.le_refl _))
      have Bm4 := Lib.hid ((Bm3.out).step hb)
      have rm4 := Bm4.out.cell
      have bm4 := Bm4.out.lt
      have SF4 := Lib.hid ((SF3.out).below hb)
      have ST4 := Lib.hid ((ST3.out).below hb)
      clear hb Bm3 rm3 bm3 SF3 ST3 E3
      cases hh' : homeB D'
      rotate_left
      · go_wp2_with fail
        refine (home_impl hD' hh' (ST4.out).now).mono ?_
        rintro _ w5 ⟨rfl, hb⟩
        have E5 := Lib.hid (below_then E4.out hb (Nat.le_refl _))
        have Bm5 := Lib.hid ((Bm4.out).step hb)
        have rm5 := Bm5.out.cell
        have bm5 := Bm5.out.lt
        have SF5 := Lib.hid ((SF4.out).below hb)
        have ST5 := Lib.hid ((ST4.out).below hb)
        clear hb Bm4 rm4 bm4 SF4 ST4 E4
        go_wp2
        all_goals go_ret
        all_goals refine ⟨ret_bool ?_, E5.out⟩
        all_goals (simp [moveB, hs, h3, hh, hh'])
      go_wp2_with fail
      refine (home_impl hD' hh' (ST4.out).now).mono ?_
      rintro _ w5 ⟨rfl, hb⟩
      have E5 := Lib.hid (below_then E4.out hb (Nat.le_refl _))
      have Bm5 := Lib.hid ((Bm4.out).step hb)
      have rm5 := Bm5.out.cell
      have bm5 := Bm5.out.lt
      have SF5 := Lib.hid ((SF4.out).below hb)
      have ST5 := Lib.hid ((ST4.out).below hb)
      clear hb Bm4 rm4 bm4 SF4 ST4 E4
      go_wp2
      all_goals go_ret
      all_goals refine ⟨ret_bool ?_, E5.out⟩
      all_goals (simp [moveB, hs, h3, hh, hh'])
    go_wp2_with fail
    refine (home_impl hD hh (SF3.out).now).mono ?_
    rintro _ w4 ⟨rfl, hb⟩
    have E4 := Lib.hid (below_then E3.out hb (Nat.le_refl _))
    have Bm4 := Lib.hid ((Bm3.out).step hb)
    have rm4 := Bm4.out.cell
    have bm4 := Bm4.out.lt
    have SF4 := Lib.hid ((SF3.out).below hb)
    have ST4 := Lib.hid ((ST3.out).below hb)
    clear hb Bm3 rm3 bm3 SF3 ST3 E3
    go_wp2
    all_goals go_ret
    all_goals refine ⟨ret_bool ?_, E4.out⟩
    all_goals (simp [moveB, hs, h3, hh])
  go_wp2_with fail
  refine (addrRight_impl hD ha (SF1.out).now).mono ?_
  rintro _ w2 ⟨rfl, hb⟩
  have E2 := Lib.hid (below_then E1.out hb (Nat.le_refl _))
  have Bm2 := Lib.hid ((Bm1.out).step hb)
  have rm2 := Bm2.out.cell
  have bm2 := Bm2.out.lt
  have SF2 := Lib.hid ((SF1.out).below hb)
  have ST2 := Lib.hid ((ST1.out).below hb)
  clear hb Bm1 rm1 bm1 SF1 ST1 E1
  cases hh : homeB D
  rotate_left
  · go_wp2_with fail
    refine (home_impl hD hh (SF2.out).now).mono ?_
    rintro _ w3 ⟨rfl, hb⟩
    have E3 := Lib.hid (below_then E2.out hb (Nat.le_refl _))
    have Bm3 := Lib.hid ((Bm2.out).step hb)
    have rm3 := Bm3.out.cell
    have bm3 := Bm3.out.lt
    have SF3 := Lib.hid ((SF2.out).below hb)
    have ST3 := Lib.hid ((ST2.out).below hb)
    clear hb Bm2 rm2 bm2 SF2 ST2 E2
    cases hh' : homeB D'
    rotate_left
    · go_wp2_with fail
      refine (home_impl hD' hh' (ST3.out).now).mono ?_
      rintro _ w4 ⟨rfl, hb⟩
      have E4 := Lib.hid (below_then E3.out hb (Nat.le_refl _))
      have Bm4 := Lib.hid ((Bm3.out).step hb)
      have rm4 := Bm4.out.cell
      have bm4 := Bm4.out.lt
      have SF4 := Lib.hid ((SF3.out).below hb)
      have ST4 := Lib.hid ((ST3.out).below hb)
      clear hb Bm3 rm3 bm3 SF3 ST3 E3
      go_wp2
      all_goals go_ret
      all_goals refine ⟨ret_bool ?_, E4.out⟩
      all_goals (simp [moveB, hs, h3, hh, hh'])
    go_wp2_with fail
    refine (home_impl hD' hh' (ST3.out).now).mono ?_
    rintro _ w4 ⟨rfl, hb⟩
    have E4 := Lib.hid (below_then E3.out hb (Nat.le_refl _))
    have Bm4 := Lib.hid ((Bm3.out).step hb)
    have rm4 := Bm4.out.cell
    have bm4 := Bm4.out.lt
    have SF4 := Lib.hid ((SF3.out).below hb)
    have ST4 := Lib.hid ((ST3.out).below hb)
    clear hb Bm3 rm3 bm3 SF3 ST3 E3
    go_wp2
    all_goals go_ret
    all_goals refine ⟨ret_bool ?_, E4.out⟩
    all_goals (simp [moveB, hs, h3, hh, hh'])
  go_wp2_with fail
  refine (home_impl hD hh (SF2.out).now).mono ?_
  rintro _ w3 ⟨rfl, hb⟩
  have E3 := Lib.hid (below_then E2.out hb (Nat.le_refl _))
  have Bm3 := Lib.hid ((Bm2.out).step hb)
  have rm3 := Bm3.out.cell
  have bm3 := Bm3.out.lt
  have SF3 := Lib.hid ((SF2.out).below hb)
  have ST3 := Lib.hid ((ST2.out).below hb)
  clear hb Bm2 rm2 bm2 SF2 ST2 E2
  go_wp2
  all_goals go_ret
  all_goals refine ⟨ret_bool ?_, E3.out⟩
  all_goals (simp [moveB, hs, h3, hh])
set_option maxHeartbeats 4000000 in
theorem move_impl1 {B : Nat → Prop} {n : Nat} {w : World} {ds : List DC} {vs : List Value} (h : Cells B n w shMove_ ds vs) (hx : (bM ds).kind = 1) :
    Calls Try.prog 25 #[.agg vs.toArray] w (un.Told w (.bool (moveB (bM ds)))) := by
  obtain ⟨x0, l1, s2, s3, x4, x5, s6, l7, s8, s9, x10, x11, s12, A1, c1, A7, c7, rfl, rfl, k0, k1, k2, k3, k4, k5, k6, k7, k8, k9, k10, k11, k12⟩ := open_Move h
  clear h
  have HF := Lib.hid (Gd.ofC (show Cells B n w shAddr_ [.l l1, .s s2, .s s3, .i x4, .i x5, .s s6] [.slice A1 l1.length c1, .string s2, .string s3, .int .i64 x4, .int .i64 x5, .string s6] from ⟨k1, Cell.mkS k2, Cell.mkS k3, Cell.mkI k4, Cell.mkI k5, Cell.mkS k6, trivial⟩))
  have HT := Lib.hid (Gd.ofC (show Cells B n w shAddr_ [.l l7, .s s8, .s s9, .i x10, .i x11, .s s12] [.slice A7 l7.length c7, .string s8, .string s9, .int .i64 x10, .int .i64 x11, .string s12] from ⟨k7, Cell.mkS k8, Cell.mkS k9, Cell.mkI k10, Cell.mkI k11, Cell.mkS k12, trivial⟩))
  clear k0 k1 k2 k3 k4 k5 k6 k7 k8 k9 k10 k11 k12
  obtain ⟨D, hD⟩ : ∃ D, bA [.l l1, .s s2, .s s3, .i x4, .i x5, .s s6] = D := ⟨_, rfl⟩
  obtain ⟨D', hD'⟩ : ∃ D, bA [.l l7, .s s8, .s s9, .i x10, .i x11, .s s12] = D := ⟨_, rfl⟩
  have e : bM [.i x0, .l l1, .s s2, .s s3, .i x4, .i x5, .s s6, .l l7, .s s8, .s s9, .i x10, .i x11, .s s12] = ⟨x0, D, D'⟩ := by rw [← hD, ← hD']; rfl
  rw [e]
  clear e
  have ht : D.typ = s2 := by rw [← hD]; rfl
  have ht' : D'.typ = s8 := by rw [← hD']; rfl
  have hk : D.kind = x4 := by rw [← hD]; rfl
  have hk' : D'.kind = x10 := by rw [← hD']; rfl
  have h3 : x0 = 1 := hx
  clear hx
  go_enter Try.func25, Try.ntmps25
  cases hs : adl.eqA D D'
  rotate_left
  · go_wp2_with fail
    refine (sameAddr_impl hD hD' hs (HF.out.alloc _).now (HT.out.alloc _).now).mono ?_
    rintro _ w1 ⟨rfl, hb⟩
    have E1 := Lib.hid (below_then (below_a1 _ _) hb (Nat.le_refl _))
    have Bm1 := Lib.hid ((Blk.new w _ _).step hb)
    have rm1 := Bm1.out.cell
    have bm1 := Bm1.out.lt
    have SF1 := Lib.hid ((HF.out.alloc _).below hb)
    have ST1 := Lib.hid ((HT.out.alloc _).below hb)
    clear hb HF HT
    go_wp2
    all_goals go_ret
    all_goals refine ⟨ret_bool ?_, E1.out⟩
    all_goals (simp [moveB, hs])
  go_wp2_with fail
  refine (sameAddr_impl hD hD' hs (HF.out.alloc _).now (HT.out.alloc _).now).mono ?_
  rintro _ w1 ⟨rfl, hb⟩
  have E1 := Lib.hid (below_then (below_a1 _ _) hb (Nat.le_refl _))
  have Bm1 := Lib.hid ((Blk.new w _ _).step hb)
  have rm1 := Bm1.out.cell
  have bm1 := Bm1.out.lt
  have SF1 := Lib.hid ((HF.out.alloc _).below hb)
  have ST1 := Lib.hid ((HT.out.alloc _).below hb)
  clear hb HF HT
  cases ha : addrB D
  rotate_left
  · go_wp2_with fail
    refine (addrRight_impl hD ha (SF1.out).now).mono ?_
    rintro _ w2 ⟨rfl, hb⟩
    have E2 := Lib.hid (below_then E1.out hb (Nat.le_refl _))
    have Bm2 := Lib.hid ((Bm1.out).step hb)
    have rm2 := Bm2.out.cell
    have bm2 := Bm2.out.lt
    have SF2 := Lib.hid ((SF1.out).below hb)
    have ST2 := Lib.hid ((ST1.out).below hb)
    clear hb Bm1 rm1 bm1 SF1 ST1 E1
    cases ha' : addrB D'
    rotate_left
    · go_wp2_with fail
      refine (addrRight_impl hD' ha' (ST2.out).now).mono ?_
      rintro _ w3 ⟨rfl, hb⟩
      have E3 := Lib.hid (below_then E2.out hb (Nat.le_refl _))
      have Bm3 := Lib.hid ((Bm2.out).step hb)
      have rm3 := Bm3.out.cell
      have bm3 := Bm3.out.lt
      have SF3 := Lib.hid ((SF2.out).below hb)
      have ST3 := Lib.hid ((ST2.out).below hb)
      clear hb Bm2 rm2 bm2 SF2 ST2 E2
      go_wp2
      all_goals go_ret
      all_goals refine ⟨ret_bool ?_, E3.out⟩
      all_goals clear hD hD'
      all_goals (try simp only [tl_empty, tl_nil, tl_beq, tl_iff, Bool.not_eq_true', Bool.not_eq_false', decide_eq_true_eq, decide_eq_false_iff_not, Decidable.not_not, bne_iff_ne, bne_eq_false_iff_eq] at *)
      all_goals (simp_all [moveB])
    go_wp2_with fail
    refine (addrRight_impl hD' ha' (ST2.out).now).mono ?_
    rintro _ w3 ⟨rfl, hb⟩
    have E3 := Lib.hid (below_then E2.out hb (Nat.le_refl _))
    have Bm3 := Lib.hid ((Bm2.out).step hb)
    have rm3 := Bm3.out.cell
    have bm3 := Bm3.out.lt
    have SF3 := Lib.hid ((SF2.out).below hb)
    have ST3 := Lib.hid ((ST2.out).below hb)
    clear hb Bm2 rm2 bm2 SF2 ST2 E2
    go_wp2
    all_goals go_ret
    all_goals refine ⟨ret_bool ?_, E3.out⟩
    all_goals clear hD hD'
    all_goals (try simp only [tl_empty, tl_nil, tl_beq, tl_iff, Bool.not_eq_true', Bool.not_eq_false', decide_eq_true_eq, decide_eq_false_iff_not, Decidable.not_not, bne_iff_ne, bne_eq_false_iff_eq] at *)
    all_goals (simp_all [moveB])
  go_wp2_with fail
  refine (addrRight_impl hD ha (SF1.out).now).mono ?_
  rintro _ w2 ⟨rfl, hb⟩
  have E2 := Lib.hid (below_then E1.out hb (Nat.le_refl _))
  have Bm2 := Lib.hid ((Bm1.out).step hb)
  have rm2 := Bm2.out.cell
  have bm2 := Bm2.out.lt
  have SF2 := Lib.hid ((SF1.out).below hb)
  have ST2 := Lib.hid ((ST1.out).below hb)
  clear hb Bm1 rm1 bm1 SF1 ST1 E1
  go_wp2
  all_goals go_ret
  all_goals refine ⟨ret_bool ?_, E2.out⟩
  all_goals clear hD hD'
  all_goals (try simp only [tl_empty, tl_nil, tl_beq, tl_iff, Bool.not_eq_true', Bool.not_eq_false', decide_eq_true_eq, decide_eq_false_iff_not, Decidable.not_not, bne_iff_ne, bne_eq_false_iff_eq] at *)
  all_goals (simp_all [moveB])
set_option maxHeartbeats 4000000 in
theorem move_impl2 {B : Nat → Prop} {n : Nat} {w : World} {ds : List DC} {vs : List Value} (h : Cells B n w shMove_ ds vs) (hx : (bM ds).kind = 2) :
    Calls Try.prog 25 #[.agg vs.toArray] w (un.Told w (.bool (moveB (bM ds)))) := by
  obtain ⟨x0, l1, s2, s3, x4, x5, s6, l7, s8, s9, x10, x11, s12, A1, c1, A7, c7, rfl, rfl, k0, k1, k2, k3, k4, k5, k6, k7, k8, k9, k10, k11, k12⟩ := open_Move h
  clear h
  have HF := Lib.hid (Gd.ofC (show Cells B n w shAddr_ [.l l1, .s s2, .s s3, .i x4, .i x5, .s s6] [.slice A1 l1.length c1, .string s2, .string s3, .int .i64 x4, .int .i64 x5, .string s6] from ⟨k1, Cell.mkS k2, Cell.mkS k3, Cell.mkI k4, Cell.mkI k5, Cell.mkS k6, trivial⟩))
  have HT := Lib.hid (Gd.ofC (show Cells B n w shAddr_ [.l l7, .s s8, .s s9, .i x10, .i x11, .s s12] [.slice A7 l7.length c7, .string s8, .string s9, .int .i64 x10, .int .i64 x11, .string s12] from ⟨k7, Cell.mkS k8, Cell.mkS k9, Cell.mkI k10, Cell.mkI k11, Cell.mkS k12, trivial⟩))
  clear k0 k1 k2 k3 k4 k5 k6 k7 k8 k9 k10 k11 k12
  obtain ⟨D, hD⟩ : ∃ D, bA [.l l1, .s s2, .s s3, .i x4, .i x5, .s s6] = D := ⟨_, rfl⟩
  obtain ⟨D', hD'⟩ : ∃ D, bA [.l l7, .s s8, .s s9, .i x10, .i x11, .s s12] = D := ⟨_, rfl⟩
  have e : bM [.i x0, .l l1, .s s2, .s s3, .i x4, .i x5, .s s6, .l l7, .s s8, .s s9, .i x10, .i x11, .s s12] = ⟨x0, D, D'⟩ := by rw [← hD, ← hD']; rfl
  rw [e]
  clear e
  have ht : D.typ = s2 := by rw [← hD]; rfl
  have ht' : D'.typ = s8 := by rw [← hD']; rfl
  have hk : D.kind = x4 := by rw [← hD]; rfl
  have hk' : D'.kind = x10 := by rw [← hD']; rfl
  have h3 : x0 = 2 := hx
  clear hx
  go_enter Try.func25, Try.ntmps25
  cases hs : adl.eqA D D'
  rotate_left
  · go_wp2_with fail
    refine (sameAddr_impl hD hD' hs (HF.out.alloc _).now (HT.out.alloc _).now).mono ?_
    rintro _ w1 ⟨rfl, hb⟩
    have E1 := Lib.hid (below_then (below_a1 _ _) hb (Nat.le_refl _))
    have Bm1 := Lib.hid ((Blk.new w _ _).step hb)
    have rm1 := Bm1.out.cell
    have bm1 := Bm1.out.lt
    have SF1 := Lib.hid ((HF.out.alloc _).below hb)
    have ST1 := Lib.hid ((HT.out.alloc _).below hb)
    clear hb HF HT
    go_wp2
    all_goals go_ret
    all_goals refine ⟨ret_bool ?_, E1.out⟩
    all_goals (simp [moveB, hs])
  go_wp2_with fail
  refine (sameAddr_impl hD hD' hs (HF.out.alloc _).now (HT.out.alloc _).now).mono ?_
  rintro _ w1 ⟨rfl, hb⟩
  have E1 := Lib.hid (below_then (below_a1 _ _) hb (Nat.le_refl _))
  have Bm1 := Lib.hid ((Blk.new w _ _).step hb)
  have rm1 := Bm1.out.cell
  have bm1 := Bm1.out.lt
  have SF1 := Lib.hid ((HF.out.alloc _).below hb)
  have ST1 := Lib.hid ((HT.out.alloc _).below hb)
  clear hb HF HT
  cases ha : addrB D
  rotate_left
  · go_wp2_with fail
    refine (addrRight_impl hD ha (SF1.out).now).mono ?_
    rintro _ w2 ⟨rfl, hb⟩
    have E2 := Lib.hid (below_then E1.out hb (Nat.le_refl _))
    have Bm2 := Lib.hid ((Bm1.out).step hb)
    have rm2 := Bm2.out.cell
    have bm2 := Bm2.out.lt
    have SF2 := Lib.hid ((SF1.out).below hb)
    have ST2 := Lib.hid ((ST1.out).below hb)
    clear hb Bm1 rm1 bm1 SF1 ST1 E1
    cases ha' : addrB D'
    rotate_left
    · go_wp2_with fail
      refine (addrRight_impl hD' ha' (ST2.out).now).mono ?_
      rintro _ w3 ⟨rfl, hb⟩
      have E3 := Lib.hid (below_then E2.out hb (Nat.le_refl _))
      have Bm3 := Lib.hid ((Bm2.out).step hb)
      have rm3 := Bm3.out.cell
      have bm3 := Bm3.out.lt
      have SF3 := Lib.hid ((SF2.out).below hb)
      have ST3 := Lib.hid ((ST2.out).below hb)
      clear hb Bm2 rm2 bm2 SF2 ST2 E2
      go_wp2
      all_goals go_ret
      all_goals refine ⟨ret_bool ?_, E3.out⟩
      all_goals clear hD hD'
      all_goals (try simp only [tl_empty, tl_nil, tl_beq, tl_iff, Bool.not_eq_true', Bool.not_eq_false', decide_eq_true_eq, decide_eq_false_iff_not, Decidable.not_not, bne_iff_ne, bne_eq_false_iff_eq] at *)
      all_goals (simp_all [moveB])
    go_wp2_with fail
    refine (addrRight_impl hD' ha' (ST2.out).now).mono ?_
    rintro _ w3 ⟨rfl, hb⟩
    have E3 := Lib.hid (below_then E2.out hb (Nat.le_refl _))
    have Bm3 := Lib.hid ((Bm2.out).step hb)
    have rm3 := Bm3.out.cell
    have bm3 := Bm3.out.lt
    have SF3 := Lib.hid ((SF2.out).below hb)
    have ST3 := Lib.hid ((ST2.out).below hb)
    clear hb Bm2 rm2 bm2 SF2 ST2 E2
    go_wp2
    all_goals go_ret
    all_goals refine ⟨ret_bool ?_, E3.out⟩
    all_goals clear hD hD'
    all_goals (try simp only [tl_empty, tl_nil, tl_beq, tl_iff, Bool.not_eq_true', Bool.not_eq_false', decide_eq_true_eq, decide_eq_false_iff_not, Decidable.not_not, bne_iff_ne, bne_eq_false_iff_eq] at *)
    all_goals (simp_all [moveB])
  go_wp2_with fail
  refine (addrRight_impl hD ha (SF1.out).now).mono ?_
  rintro _ w2 ⟨rfl, hb⟩
  have E2 := Lib.hid (below_then E1.out hb (Nat.le_refl _))
  have Bm2 := Lib.hid ((Bm1.out).step hb)
  have rm2 := Bm2.out.cell
  have bm2 := Bm2.out.lt
  have SF2 := Lib.hid ((SF1.out).below hb)
  have ST2 := Lib.hid ((ST1.out).below hb)
  clear hb Bm1 rm1 bm1 SF1 ST1 E1
  go_wp2
  all_goals go_ret
  all_goals refine ⟨ret_bool ?_, E2.out⟩
  all_goals clear hD hD'
  all_goals (try simp only [tl_empty, tl_nil, tl_beq, tl_iff, Bool.not_eq_true', Bool.not_eq_false', decide_eq_true_eq, decide_eq_false_iff_not, Decidable.not_not, bne_iff_ne, bne_eq_false_iff_eq] at *)
  all_goals (simp_all [moveB])
set_option maxHeartbeats 4000000 in
theorem move_implo {B : Nat → Prop} {n : Nat} {w : World} {ds : List DC} {vs : List Value} (h : Cells B n w shMove_ ds vs) (hx : (bM ds).kind ≠ 3 ∧ (bM ds).kind ≠ 1 ∧ (bM ds).kind ≠ 2) :
    Calls Try.prog 25 #[.agg vs.toArray] w (un.Told w (.bool (moveB (bM ds)))) := by
  obtain ⟨x0, l1, s2, s3, x4, x5, s6, l7, s8, s9, x10, x11, s12, A1, c1, A7, c7, rfl, rfl, k0, k1, k2, k3, k4, k5, k6, k7, k8, k9, k10, k11, k12⟩ := open_Move h
  clear h
  have HF := Lib.hid (Gd.ofC (show Cells B n w shAddr_ [.l l1, .s s2, .s s3, .i x4, .i x5, .s s6] [.slice A1 l1.length c1, .string s2, .string s3, .int .i64 x4, .int .i64 x5, .string s6] from ⟨k1, Cell.mkS k2, Cell.mkS k3, Cell.mkI k4, Cell.mkI k5, Cell.mkS k6, trivial⟩))
  have HT := Lib.hid (Gd.ofC (show Cells B n w shAddr_ [.l l7, .s s8, .s s9, .i x10, .i x11, .s s12] [.slice A7 l7.length c7, .string s8, .string s9, .int .i64 x10, .int .i64 x11, .string s12] from ⟨k7, Cell.mkS k8, Cell.mkS k9, Cell.mkI k10, Cell.mkI k11, Cell.mkS k12, trivial⟩))
  clear k0 k1 k2 k3 k4 k5 k6 k7 k8 k9 k10 k11 k12
  obtain ⟨D, hD⟩ : ∃ D, bA [.l l1, .s s2, .s s3, .i x4, .i x5, .s s6] = D := ⟨_, rfl⟩
  obtain ⟨D', hD'⟩ : ∃ D, bA [.l l7, .s s8, .s s9, .i x10, .i x11, .s s12] = D := ⟨_, rfl⟩
  have e : bM [.i x0, .l l1, .s s2, .s s3, .i x4, .i x5, .s s6, .l l7, .s s8, .s s9, .i x10, .i x11, .s s12] = ⟨x0, D, D'⟩ := by rw [← hD, ← hD']; rfl
  rw [e]
  clear e
  have ht : D.typ = s2 := by rw [← hD]; rfl
  have ht' : D'.typ = s8 := by rw [← hD']; rfl
  have hk : D.kind = x4 := by rw [← hD]; rfl
  have hk' : D'.kind = x10 := by rw [← hD']; rfl
  have h3 : x0 ≠ 3 ∧ x0 ≠ 1 ∧ x0 ≠ 2 := hx
  clear hx
  obtain ⟨h3, h1, h2⟩ := h3
  go_enter Try.func25, Try.ntmps25
  cases hs : adl.eqA D D'
  rotate_left
  · go_wp2_with fail
    refine (sameAddr_impl hD hD' hs (HF.out.alloc _).now (HT.out.alloc _).now).mono ?_
    rintro _ w1 ⟨rfl, hb⟩
    have E1 := Lib.hid (below_then (below_a1 _ _) hb (Nat.le_refl _))
    have Bm1 := Lib.hid ((Blk.new w _ _).step hb)
    have rm1 := Bm1.out.cell
    have bm1 := Bm1.out.lt
    have SF1 := Lib.hid ((HF.out.alloc _).below hb)
    have ST1 := Lib.hid ((HT.out.alloc _).below hb)
    clear hb HF HT
    go_wp2
    all_goals go_ret
    all_goals refine ⟨ret_bool ?_, E1.out⟩
    all_goals (simp [moveB, hs])
  go_wp2_with fail
  refine (sameAddr_impl hD hD' hs (HF.out.alloc _).now (HT.out.alloc _).now).mono ?_
  rintro _ w1 ⟨rfl, hb⟩
  have E1 := Lib.hid (below_then (below_a1 _ _) hb (Nat.le_refl _))
  have Bm1 := Lib.hid ((Blk.new w _ _).step hb)
  have rm1 := Bm1.out.cell
  have bm1 := Bm1.out.lt
  have SF1 := Lib.hid ((HF.out.alloc _).below hb)
  have ST1 := Lib.hid ((HT.out.alloc _).below hb)
  clear hb HF HT
  cases ha : addrB D
  rotate_left
  · go_wp2_with fail
    refine (addrRight_impl hD ha (SF1.out).now).mono ?_
    rintro _ w2 ⟨rfl, hb⟩
    have E2 := Lib.hid (below_then E1.out hb (Nat.le_refl _))
    have Bm2 := Lib.hid ((Bm1.out).step hb)
    have rm2 := Bm2.out.cell
    have bm2 := Bm2.out.lt
    have SF2 := Lib.hid ((SF1.out).below hb)
    have ST2 := Lib.hid ((ST1.out).below hb)
    clear hb Bm1 rm1 bm1 SF1 ST1 E1
    cases ha' : addrB D'
    rotate_left
    · go_wp2_with fail
      refine (addrRight_impl hD' ha' (ST2.out).now).mono ?_
      rintro _ w3 ⟨rfl, hb⟩
      have E3 := Lib.hid (below_then E2.out hb (Nat.le_refl _))
      have Bm3 := Lib.hid ((Bm2.out).step hb)
      have rm3 := Bm3.out.cell
      have bm3 := Bm3.out.lt
      have SF3 := Lib.hid ((SF2.out).below hb)
      have ST3 := Lib.hid ((ST2.out).below hb)
      clear hb Bm2 rm2 bm2 SF2 ST2 E2
      go_wp2
      all_goals go_ret
      all_goals refine ⟨ret_bool ?_, E3.out⟩
      all_goals clear hD hD'
      all_goals (try simp only [tl_empty, tl_nil, tl_beq, tl_iff, Bool.not_eq_true', Bool.not_eq_false', decide_eq_true_eq, decide_eq_false_iff_not, Decidable.not_not, bne_iff_ne, bne_eq_false_iff_eq] at *)
      all_goals (simp_all [moveB])
    go_wp2_with fail
    refine (addrRight_impl hD' ha' (ST2.out).now).mono ?_
    rintro _ w3 ⟨rfl, hb⟩
    have E3 := Lib.hid (below_then E2.out hb (Nat.le_refl _))
    have Bm3 := Lib.hid ((Bm2.out).step hb)
    have rm3 := Bm3.out.cell
    have bm3 := Bm3.out.lt
    have SF3 := Lib.hid ((SF2.out).below hb)
    have ST3 := Lib.hid ((ST2.out).below hb)
    clear hb Bm2 rm2 bm2 SF2 ST2 E2
    go_wp2
    all_goals go_ret
    all_goals refine ⟨ret_bool ?_, E3.out⟩
    all_goals clear hD hD'
    all_goals (try simp only [tl_empty, tl_nil, tl_beq, tl_iff, Bool.not_eq_true', Bool.not_eq_false', decide_eq_true_eq, decide_eq_false_iff_not, Decidable.not_not, bne_iff_ne, bne_eq_false_iff_eq] at *)
    all_goals (simp_all [moveB])
  go_wp2_with fail
  refine (addrRight_impl hD ha (SF1.out).now).mono ?_
  rintro _ w2 ⟨rfl, hb⟩
  have E2 := Lib.hid (below_then E1.out hb (Nat.le_refl _))
  have Bm2 := Lib.hid ((Bm1.out).step hb)
  have rm2 := Bm2.out.cell
  have bm2 := Bm2.out.lt
  have SF2 := Lib.hid ((SF1.out).below hb)
  have ST2 := Lib.hid ((ST1.out).below hb)
  clear hb Bm1 rm1 bm1 SF1 ST1 E1
  go_wp2
  all_goals go_ret
  all_goals refine ⟨ret_bool ?_, E2.out⟩
  all_goals clear hD hD'
  all_goals (try simp only [tl_empty, tl_nil, tl_beq, tl_iff, Bool.not_eq_true', Bool.not_eq_false', decide_eq_true_eq, decide_eq_false_iff_not, Decidable.not_not, bne_iff_ne, bne_eq_false_iff_eq] at *)
  all_goals (simp_all [moveB])
theorem move_impl {B : Nat → Prop} {n : Nat} {w : World} {ds : List DC} {vs : List Value} (h : Cells B n w shMove_ ds vs) :
    Calls Try.prog 25 #[.agg vs.toArray] w (un.Told w (.bool (moveB (bM ds)))) := by
  by_cases h3 : (bM ds).kind = 3
  · exact move_impl3 h h3
  by_cases h1 : (bM ds).kind = 1
  · exact move_impl1 h h1
  by_cases h2 : (bM ds).kind = 2
  · exact move_impl2 h h2
  exact move_implo h ⟨h3, h1, h2⟩
end Go.Proofs.Ytflfnekaiaplfaa.cf
