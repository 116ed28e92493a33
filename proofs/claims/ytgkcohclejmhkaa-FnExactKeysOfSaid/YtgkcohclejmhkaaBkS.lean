/- BlockRight of the model. -/
import Derived.Test.YtgkcohclejmhkaaBkK
namespace Go.Proofs.Ytgkcohclejmhkaa.cf
open ad mem vl ex un cm
open Go.ChangeShapes Go.WideShapes Go.ChangeAt Go.RowKit Go.Lib
set_option linter.unusedVariables false
set_option maxRecDepth 8000
set_option linter.unusedSimpArgs false

theorem word_spec {s : ByteArray} {r : Bool} {w : World} (hr : wordB s = r) (hs : s.size ≤ maxLen) : Calls Try.prog 88 #[.string s] w fun e w' => e = .returned (.bool r) ∧ w = w' := by
  subst hr; exact wd.spec_any s w hs
theorem usesE_spec {k : Int} {B : Nat → Prop} {n : Nat} {w : World} {ds : List DC} {vs : List Value} {E : ExprD} {r : Bool} (hE : bE n ds = E) (hr : uses k E = r) (h : Cells B n w shExpr_ ds vs) :
    Calls Try.prog 106 #[.agg vs.toArray, .int .i64 k] w (un.Told w (.bool r)) := by
  subst hE hr; exact uses_spec k n h
theorem no_addr {D : BlockD} (h : addrB D.addr = false) : blockB D = false := blockB_no fun hh => by simp [hh.1] at h
theorem no_kind {D : BlockD} (h : D.addr.kind ≠ 0) : blockB D = false := blockB_no fun hh => h hh.2.1
theorem no_keys {D : BlockD} (h : keysB D.count D.each = false) : blockB D = false := blockB_no fun hh => by rw [keysB_yes hh.2.2.1] at h; cases h
theorem no_many {D : BlockD} (h : 4 < D.props.length) : blockB D = false := blockB_no fun hh => by have := hh.2.2.2.1; omega
theorem no_prop {D : BlockD} {j : Nat} (hj : j < D.props.length) (h : ¬ propOk D.count D.each.length D.props[j]) : blockB D = false := blockB_no fun hh => h (hh.2.2.2.2.1 j hj)
theorem no_rise {D : BlockD} {j : Nat} (hj : j + 1 < D.props.length) (h : ¬ ltS D.props[j].name D.props[j + 1].name) : blockB D = false := blockB_no fun hh => h (hh.2.2.2.2.2 j hj)
set_option maxHeartbeats 8000000 in
theorem block_spec {B : Nat → Prop} {n : Nat} {w : World} {ds : List DC} {vs : List Value} {D : BlockD} {r : Bool} (hD : bB n ds = D) (hr : blockB D = r) (h : Cells B n w shBlock_ ds vs) :
    Calls Try.prog 64 #[.agg vs.toArray] w (un.Told w (.bool r)) := by
  subst hr
  obtain ⟨l0, s1, s2, x3, x4, s5, x6, l7, l8, A0, c0, A7, c7, A8, c8, rfl, rfl, k0, k1, k2, k3, k4, k5, k6, k7, k8⟩ := open_Block h
  have HW0 := Lib.hid (Gd.ofC h)
  have HA0 := Lib.hid (Gd.ofC (show Cells B n w shAddr_ [.l l0, .s s1, .s s2, .i x3, .i x4, .s s5] [.slice A0 l0.length c0, .string s1, .string s2, .int .i64 x3, .int .i64 x4, .string s5] from ⟨k0, Cell.mkS k1, Cell.mkS k2, Cell.mkI k3, Cell.mkI k4, Cell.mkS k5, trivial⟩))
  have HP := Lib.hid (Gd.of1 k8)
  have hlen := k8.len.2
  unfold maxLen at hlen
  have hlen7 := k7.len.2
  unfold maxLen at hlen7
  clear h k0 k1 k2 k3 k4 k5 k6 k7 k8
  obtain ⟨DA, hA⟩ : ∃ A, bA [.l l0, .s s1, .s s2, .i x3, .i x4, .s s5] = A := ⟨_, rfl⟩
  have ec : D.count = x6 := by rw [← hD]; rfl
  have ee : D.each = bStrs l7 := by rw [← hD]; rfl
  have ea : D.addr = DA := by rw [← hD, ← hA]; rfl
  have ep : D.props = l8.map (bP (n - 1)) := by rw [← hD]; rfl
  have ekd : D.addr.kind = x3 := by rw [← hD]; rfl
  have hln := bStrs_len l7
  have HI := Lib.hid (And.intro ec (And.intro ee (And.intro ea (And.intro ep (And.intro ekd hln)))))
  clear ec ee ep hln
  go_enter Try.func64, Try.ntmps64
  cases ha : addrB DA
  · go_wp2_with fail
    refine (addrRight_spec hA ha (HA0.out.alloc _).now).mono ?_
    rintro _ w1 ⟨rfl, hb⟩
    have E1 := Lib.hid (below_then (below_a1 _ _) hb (Nat.le_refl _))
    have Bb1 := Lib.hid ((Blk.new w _ _).step hb)
    have rb1 := Bb1.out.cell
    have bb1 := Bb1.out.lt
    have SW1 := Lib.hid ((HW0.out.alloc _).below hb)
    have SA1 := Lib.hid ((HA0.out.alloc _).below hb)
    clear hb HW0 HA0
    go_wp2
    go_ret
    exact ⟨ret_bool (no_addr (by rw [ea]; exact ha)).symm, E1.out⟩
  go_wp2_with fail
  refine (addrRight_spec hA ha (HA0.out.alloc _).now).mono ?_
  rintro _ w1 ⟨rfl, hb⟩
  have E1 := Lib.hid (below_then (below_a1 _ _) hb (Nat.le_refl _))
  have Bb1 := Lib.hid ((Blk.new w _ _).step hb)
  have rb1 := Bb1.out.cell
  have bb1 := Bb1.out.lt
  have SW1 := Lib.hid ((HW0.out.alloc _).below hb)
  have SA1 := Lib.hid ((HA0.out.alloc _).below hb)
  clear hb HW0 HA0
  by_cases hk : x3 ≠ 0
  · go_wp2
    go_ret
    exact ⟨ret_bool (no_kind (by rw [HI.out.2.2.2.2.1]; exact hk)).symm, E1.out⟩
  obtain rfl : x3 = 0 := by omega
  clear hk
  cases hy : keysB D.count D.each
  · go_wp2_with fail
    refine (keys_spec hD hy (SW1.out).now).mono ?_
    rintro _ w2 ⟨rfl, hb⟩
    have E2 := Lib.hid (below_then E1.out hb (Nat.le_refl _))
    have Bb2 := Lib.hid ((Bb1.out).step hb)
    have rb2 := Bb2.out.cell
    have bb2 := Bb2.out.lt
    have SW2 := Lib.hid ((SW1.out).below hb)
    have SA2 := Lib.hid ((SA1.out).below hb)
    clear hb Bb1 rb1 bb1 SW1 SA1 E1
    go_wp2
    go_ret
    exact ⟨ret_bool (no_keys hy).symm, E2.out⟩
  go_wp2_with fail
  refine (keys_spec hD hy (SW1.out).now).mono ?_
  rintro _ w2 ⟨rfl, hb⟩
  have E2 := Lib.hid (below_then E1.out hb (Nat.le_refl _))
  have Bb2 := Lib.hid ((Bb1.out).step hb)
  have rb2 := Bb2.out.cell
  have bb2 := Bb2.out.lt
  have SW2 := Lib.hid ((SW1.out).below hb)
  have SA2 := Lib.hid ((SA1.out).below hb)
  clear hb Bb1 rb1 bb1 SW1 SA1 E1
  by_cases hm : 4 < l8.length
  · go_wp2
    go_ret
    exact ⟨ret_bool (no_many (by rw [HI.out.2.2.2.1]; simpa using hm)).symm, E2.out⟩
  have hm4 : l8.length ≤ 4 := by omega
  clear hm
  go_wp2
  have hd4 : decide ((4 : Int) < (l8.length : Int)) = false := by simp; omega
  rw [hd4]
  clear hd4
  go_loopw [3] (fun i wr => ∃ j : Nat, j ≤ l8.length ∧ i = .int .i64 j ∧ (∀ q (h : q < l8.length), q < j → propOk x6 l7.length (bP (n - 1) l8[q])) ∧ (∀ q (h : q + 1 < l8.length), q + 1 < j → ltS (bP (n - 1) l8[q]).name (bP (n - 1) l8[q + 1]).name) ∧ Blk wr w.heap.size 63 #[.slice A0 l0.length c0, .string s1, .string s2, .int .i64 0, .int .i64 x4, .string s5, .int .i64 x6, .slice A7 l7.length c7, .slice A8 l8.length c8] ∧ Below w.heap.size w wr) (fun i _ => l8.length - (RowKit.intOf i).toNat)
  case atStart => exact ⟨0, Nat.zero_le _, rfl, fun q _ hq => absurd hq (by omega), fun q _ hq => absurd hq (by omega), Bb2.out, E2.out⟩
  case round =>
    obtain ⟨j, hj, rfl, hok, hri, hB, hb⟩ := hrel
    have HOK := Lib.hid hok
    have HRI := Lib.hid hri
    have E8 := Lib.hid hb
    have rb8 := hB.cell
    have bb8 := hB.lt
    have Bb8 := Lib.hid hB
    have HP8 := Lib.hid (HP.out.below hb).now
    have hkO := Lib.hid hy
    have haO := Lib.hid ha
    clear hok hb hB hri hy ha rb2 bb2
    by_cases hlt : j < l8.length
    · obtain ⟨m, b, o, us, hm, rfl, _, hbl, hr, hin⟩ := HP8.out.item j hlt
      obtain rfl : m = n - 1 := by omega
      obtain ⟨t0, y1, y2, y3, t4, m5, t6, t7, y8, y9, t10, t11, m12, A5', c5', A12', c12', ed, rfl, j0, j1, j2, j3, j4, j5, j6, j7, j8, j9, j10, j11, j12⟩ := open_Prop hin
      have HR := Lib.hid hr
      have HE8 := Lib.hid (Gd.ofC (show Cells B (n - 1) wr shExpr_ [.i y1, .i y2, .i y3, .s t4, .l m5, .s t6, .s t7, .i y8, .i y9, .s t10, .s t11, .l m12] [.int .i64 y1, .int .i64 y2, .int .i64 y3, .string t4, .slice A5' m5.length c5', .string t6, .string t7, .int .i64 y8, .int .i64 y9, .string t10, .string t11, .slice A12' m12.length c12'] from ⟨Cell.mkI j1, Cell.mkI j2, Cell.mkI j3, Cell.mkS j4, j5, Cell.mkS j6, Cell.mkS j7, Cell.mkI j8, Cell.mkI j9, Cell.mkS j10, Cell.mkS j11, j12, trivial⟩))
      obtain ⟨E, hE⟩ : ∃ E, bE (n - 1) [.i y1, .i y2, .i y3, .s t4, .l m5, .s t6, .s t7, .i y8, .i y9, .s t10, .s t11, .l m12] = E := ⟨_, rfl⟩
      have eP : bP (n - 1) l8[j] = ⟨t0, E⟩ := by rw [ed, ← hE]; rfl
      have eD : ∀ (h : j < D.props.length), D.props[j] = ⟨t0, E⟩ := fun h => by
        have : D.props[j]'h = (l8.map (bP (n - 1)))[j]'(by rw [← HI.out.2.2.2.1]; exact h) := by congr 1; exact HI.out.2.2.2.1
        rw [this]; simpa using eP
      have hjD : j < D.props.length := by rw [HI.out.2.2.2.1]; simpa using hlt
      have HD := Lib.hid (And.intro hjD eD)
      have HEP := Lib.hid eP
      have hjI : (j : Int) < l8.length := by omega
      clear hr hin ed j1 j2 j3 j4 j5 j6 j7 j8 j9 j10 j11 j12 eD eP
      have HLD : ∀ (t : Unit), True := fun _ => trivial
      cases hw : wordB t0
      · go_wp2_with (refine wpList_load_mid rfl 144 (.tmp 36) rfl b (o + j * 13) rfl _ _ HR.out Try.underlying144 rfl (by kernel_rfl) ?_)
        go_wp2_with fail
        have hW : Below wr.heap.size wr (wr.alloc (.cells #[.string t0, .int .i64 y1, .int .i64 y2, .int .i64 y3, .string t4, .slice A5' m5.length c5', .string t6, .string t7, .int .i64 y8, .int .i64 y9, .string t10, .string t11, .slice A12' m12.length c12'] 144)) := below_a1 _ _
        have hBP : Blk (wr.alloc (.cells #[.string t0, .int .i64 y1, .int .i64 y2, .int .i64 y3, .string t4, .slice A5' m5.length c5', .string t6, .string t7, .int .i64 y8, .int .i64 y9, .string t10, .string t11, .slice A12' m12.length c12'] 144)) wr.heap.size 144 #[.string t0, .int .i64 y1, .int .i64 y2, .int .i64 y3, .string t4, .slice A5' m5.length c5', .string t6, .string t7, .int .i64 y8, .int .i64 y9, .string t10, .string t11, .slice A12' m12.length c12'] := Blk.new _ _ _
        generalize wr.alloc (.cells #[.string t0, .int .i64 y1, .int .i64 y2, .int .i64 y3, .string t4, .slice A5' m5.length c5', .string t6, .string t7, .int .i64 y8, .int .i64 y9, .string t10, .string t11, .slice A12' m12.length c12'] 144) = W at hW hBP ⊢
        have q0 := later_cell (o := 0) hBP.lt (by rw [hBP.cell]; rfl)
        have q1 := later_cell (o := 1) hBP.lt (by rw [hBP.cell]; rfl)
        have q2 := later_cell (o := 2) hBP.lt (by rw [hBP.cell]; rfl)
        have q3 := later_cell (o := 3) hBP.lt (by rw [hBP.cell]; rfl)
        have q4 := later_cell (o := 4) hBP.lt (by rw [hBP.cell]; rfl)
        have q5 := later_cell (o := 5) hBP.lt (by rw [hBP.cell]; rfl)
        have q6 := later_cell (o := 6) hBP.lt (by rw [hBP.cell]; rfl)
        have q7 := later_cell (o := 7) hBP.lt (by rw [hBP.cell]; rfl)
        have q8 := later_cell (o := 8) hBP.lt (by rw [hBP.cell]; rfl)
        have q9 := later_cell (o := 9) hBP.lt (by rw [hBP.cell]; rfl)
        have q10 := later_cell (o := 10) hBP.lt (by rw [hBP.cell]; rfl)
        have q11 := later_cell (o := 11) hBP.lt (by rw [hBP.cell]; rfl)
        have q12 := later_cell (o := 12) hBP.lt (by rw [hBP.cell]; rfl)
        have qb := later_cell (b := w.heap.size) (o := 8) (Nat.lt_of_lt_of_le bb8 hW.size) (by rw [hW.cell (p := ⟨w.heap.size, 8, none⟩) bb8, rb8]; rfl)
        refine wp_region_later (by kernel_rfl) (by kernel_rfl) ?_
        repeat (go_big_quiet_step ((first | (go_at_call 88; exact later_same (word_spec hw j0)))))
        refine wpQuiet_nil ?_
        rintro _ ⟨u9, rfl⟩
        have hb := below_then hW (later_below u9) (Nat.le_refl _)
        have hbp := hBP.step (later_below u9)
        generalize later W u9 = w9 at hb hbp ⊢
        clear hW hBP q0 q1 q2 q3 q4 q5 q6 q7 q8 q9 q10 q11 q12 qb
        have E9 := Lib.hid (below_then E8.out hb (Nat.le_refl _))
        have Bb9 := Lib.hid ((Bb8.out).step hb)
        have rb9 := Bb9.out.cell
        have bb9 := Bb9.out.lt
        have SE9 := Lib.hid ((HE8.out).below hb)
        have Bp9 := Lib.hid hbp
        have rp9 := Bp9.out.cell
        have bp9 := Bp9.out.lt
        clear hb hbp
        go_wp2
        go_ret
        exact ⟨ret_bool (no_prop HD.out.1 (by rw [HD.out.2]; exact fun hh => by have := hh.1; simp [hw] at this)).symm, E9.out⟩
      by_cases hz : j = 0
      · have HZJ := Lib.hid hz
        clear hz
        have HNX : Hid (∀ q (h : q + 1 < l8.length), q + 1 < j + 1 → ltS (bP (n - 1) l8[q]).name (bP (n - 1) l8[q + 1]).name) := fun q h hq => absurd hq (by have := HZJ.out; omega)
        cases hx : exprB 4 E
        · go_wp2_with (refine wpList_load_mid rfl 144 (.tmp 36) rfl b (o + j * 13) rfl _ _ HR.out Try.underlying144 rfl (by kernel_rfl) ?_)
          go_wp2_with fail
          have hjn : ¬ 0 < j := by (have := HZJ.out; omega)
          have hjd : decide (0 < (j : Int)) = false := by (simp; omega)
          have hW : Below wr.heap.size wr (wr.alloc (.cells #[.string t0, .int .i64 y1, .int .i64 y2, .int .i64 y3, .string t4, .slice A5' m5.length c5', .string t6, .string t7, .int .i64 y8, .int .i64 y9, .string t10, .string t11, .slice A12' m12.length c12'] 144)) := below_a1 _ _
          have hBP : Blk (wr.alloc (.cells #[.string t0, .int .i64 y1, .int .i64 y2, .int .i64 y3, .string t4, .slice A5' m5.length c5', .string t6, .string t7, .int .i64 y8, .int .i64 y9, .string t10, .string t11, .slice A12' m12.length c12'] 144)) wr.heap.size 144 #[.string t0, .int .i64 y1, .int .i64 y2, .int .i64 y3, .string t4, .slice A5' m5.length c5', .string t6, .string t7, .int .i64 y8, .int .i64 y9, .string t10, .string t11, .slice A12' m12.length c12'] := Blk.new _ _ _
          generalize wr.alloc (.cells #[.string t0, .int .i64 y1, .int .i64 y2, .int .i64 y3, .string t4, .slice A5' m5.length c5', .string t6, .string t7, .int .i64 y8, .int .i64 y9, .string t10, .string t11, .slice A12' m12.length c12'] 144) = W at hW hBP ⊢
          have q0 := later_cell (o := 0) hBP.lt (by rw [hBP.cell]; rfl)
          have q1 := later_cell (o := 1) hBP.lt (by rw [hBP.cell]; rfl)
          have q2 := later_cell (o := 2) hBP.lt (by rw [hBP.cell]; rfl)
          have q3 := later_cell (o := 3) hBP.lt (by rw [hBP.cell]; rfl)
          have q4 := later_cell (o := 4) hBP.lt (by rw [hBP.cell]; rfl)
          have q5 := later_cell (o := 5) hBP.lt (by rw [hBP.cell]; rfl)
          have q6 := later_cell (o := 6) hBP.lt (by rw [hBP.cell]; rfl)
          have q7 := later_cell (o := 7) hBP.lt (by rw [hBP.cell]; rfl)
          have q8 := later_cell (o := 8) hBP.lt (by rw [hBP.cell]; rfl)
          have q9 := later_cell (o := 9) hBP.lt (by rw [hBP.cell]; rfl)
          have q10 := later_cell (o := 10) hBP.lt (by rw [hBP.cell]; rfl)
          have q11 := later_cell (o := 11) hBP.lt (by rw [hBP.cell]; rfl)
          have q12 := later_cell (o := 12) hBP.lt (by rw [hBP.cell]; rfl)
          have qb := later_cell (b := w.heap.size) (o := 8) (Nat.lt_of_lt_of_le bb8 hW.size) (by rw [hW.cell (p := ⟨w.heap.size, 8, none⟩) bb8, rb8]; rfl)
          have KE := fun (W' : World) (h : Below W.heap.size W W') => exprRight_spec hE hx (HE8.out.below (below_then hW h (Nat.le_refl _))).now
          refine wp_region_later (by kernel_rfl) (by kernel_rfl) ?_
          repeat (go_big_quiet_step ((first | (go_at_call 88; exact later_same (word_spec hw j0)) | (go_at_call 33; exact later_call (KE _ (later_below _))))))
          refine wpQuiet_nil ?_
          rintro _ ⟨u9, rfl⟩
          have hb := below_then hW (later_below u9) (Nat.le_refl _)
          have hbp := hBP.step (later_below u9)
          generalize later W u9 = w9 at hb hbp ⊢
          clear hW hBP q0 q1 q2 q3 q4 q5 q6 q7 q8 q9 q10 q11 q12 qb KE
          have E9 := Lib.hid (below_then E8.out hb (Nat.le_refl _))
          have Bb9 := Lib.hid ((Bb8.out).step hb)
          have rb9 := Bb9.out.cell
          have bb9 := Bb9.out.lt
          have SE9 := Lib.hid ((HE8.out).below hb)
          have Bp9 := Lib.hid hbp
          have rp9 := Bp9.out.cell
          have bp9 := Bp9.out.lt
          clear hb hbp
          go_wp2
          go_ret
          exact ⟨ret_bool (no_prop HD.out.1 (by rw [HD.out.2]; exact fun hh => by have := hh.2.1; simp [hx] at this)).symm, E9.out⟩
        go_wp2_with (refine wpList_load_mid rfl 144 (.tmp 36) rfl b (o + j * 13) rfl _ _ HR.out Try.underlying144 rfl (by kernel_rfl) ?_)
        go_wp2_with fail
        have hjn : ¬ 0 < j := by (have := HZJ.out; omega)
        have hjd : decide (0 < (j : Int)) = false := by (simp; omega)
        have hW : Below wr.heap.size wr (wr.alloc (.cells #[.string t0, .int .i64 y1, .int .i64 y2, .int .i64 y3, .string t4, .slice A5' m5.length c5', .string t6, .string t7, .int .i64 y8, .int .i64 y9, .string t10, .string t11, .slice A12' m12.length c12'] 144)) := below_a1 _ _
        have hBP : Blk (wr.alloc (.cells #[.string t0, .int .i64 y1, .int .i64 y2, .int .i64 y3, .string t4, .slice A5' m5.length c5', .string t6, .string t7, .int .i64 y8, .int .i64 y9, .string t10, .string t11, .slice A12' m12.length c12'] 144)) wr.heap.size 144 #[.string t0, .int .i64 y1, .int .i64 y2, .int .i64 y3, .string t4, .slice A5' m5.length c5', .string t6, .string t7, .int .i64 y8, .int .i64 y9, .string t10, .string t11, .slice A12' m12.length c12'] := Blk.new _ _ _
        generalize wr.alloc (.cells #[.string t0, .int .i64 y1, .int .i64 y2, .int .i64 y3, .string t4, .slice A5' m5.length c5', .string t6, .string t7, .int .i64 y8, .int .i64 y9, .string t10, .string t11, .slice A12' m12.length c12'] 144) = W at hW hBP ⊢
        have q0 := later_cell (o := 0) hBP.lt (by rw [hBP.cell]; rfl)
        have q1 := later_cell (o := 1) hBP.lt (by rw [hBP.cell]; rfl)
        have q2 := later_cell (o := 2) hBP.lt (by rw [hBP.cell]; rfl)
        have q3 := later_cell (o := 3) hBP.lt (by rw [hBP.cell]; rfl)
        have q4 := later_cell (o := 4) hBP.lt (by rw [hBP.cell]; rfl)
        have q5 := later_cell (o := 5) hBP.lt (by rw [hBP.cell]; rfl)
        have q6 := later_cell (o := 6) hBP.lt (by rw [hBP.cell]; rfl)
        have q7 := later_cell (o := 7) hBP.lt (by rw [hBP.cell]; rfl)
        have q8 := later_cell (o := 8) hBP.lt (by rw [hBP.cell]; rfl)
        have q9 := later_cell (o := 9) hBP.lt (by rw [hBP.cell]; rfl)
        have q10 := later_cell (o := 10) hBP.lt (by rw [hBP.cell]; rfl)
        have q11 := later_cell (o := 11) hBP.lt (by rw [hBP.cell]; rfl)
        have q12 := later_cell (o := 12) hBP.lt (by rw [hBP.cell]; rfl)
        have qb := later_cell (b := w.heap.size) (o := 8) (Nat.lt_of_lt_of_le bb8 hW.size) (by rw [hW.cell (p := ⟨w.heap.size, 8, none⟩) bb8, rb8]; rfl)
        have KE := fun (W' : World) (h : Below W.heap.size W W') => exprRight_spec hE hx (HE8.out.below (below_then hW h (Nat.le_refl _))).now
        refine wp_region_later (by kernel_rfl) (by kernel_rfl) ?_
        repeat (go_big_quiet_step ((first | (go_at_call 88; exact later_same (word_spec hw j0)) | (go_at_call 33; exact later_call (KE _ (later_below _))))))
        refine wpQuiet_nil ?_
        rintro _ ⟨u9, rfl⟩
        have hb := below_then hW (later_below u9) (Nat.le_refl _)
        have hbp := hBP.step (later_below u9)
        generalize later W u9 = w9 at hb hbp ⊢
        clear hW hBP q0 q1 q2 q3 q4 q5 q6 q7 q8 q9 q10 q11 q12 qb KE
        have E9 := Lib.hid (below_then E8.out hb (Nat.le_refl _))
        have Bb9 := Lib.hid ((Bb8.out).step hb)
        have rb9 := Bb9.out.cell
        have bb9 := Bb9.out.lt
        have SE9 := Lib.hid ((HE8.out).below hb)
        have Bp9 := Lib.hid hbp
        have rp9 := Bp9.out.cell
        have bp9 := Bp9.out.lt
        clear hb hbp
        by_cases hcn : x6 < 0
        · cases hu3 : uses 3 E
          rotate_left
          · go_wp2_with fail
            refine (usesE_spec hE hu3 (SE9.out).now).mono ?_
            rintro _ w10 ⟨rfl, hb⟩
            have E10 := Lib.hid (below_then E9.out hb (Nat.le_refl _))
            have Bb10 := Lib.hid ((Bb9.out).step hb)
            have rb10 := Bb10.out.cell
            have bb10 := Bb10.out.lt
            have Bp10 := Lib.hid ((Bp9.out).step hb)
            have rp10 := Bp10.out.cell
            have bp10 := Bp10.out.lt
            have SE10 := Lib.hid ((SE9.out).below hb)
            clear hb Bb9 rb9 bb9 Bp9 rp9 bp9 SE9 E9
            go_wp2
            go_ret
            exact ⟨ret_bool (no_prop HD.out.1 (by rw [HD.out.2]; exact fun hh => by have := hh.2.2.1 (by rw [HI.out.1]; exact hcn); simp [hu3] at this)).symm, E10.out⟩
          go_wp2_with fail
          refine (usesE_spec hE hu3 (SE9.out).now).mono ?_
          rintro _ w10 ⟨rfl, hb⟩
          have E10 := Lib.hid (below_then E9.out hb (Nat.le_refl _))
          have Bb10 := Lib.hid ((Bb9.out).step hb)
          have rb10 := Bb10.out.cell
          have bb10 := Bb10.out.lt
          have Bp10 := Lib.hid ((Bp9.out).step hb)
          have rp10 := Bp10.out.cell
          have bp10 := Bp10.out.lt
          have SE10 := Lib.hid ((SE9.out).below hb)
          clear hb Bb9 rb9 bb9 Bp9 rp9 bp9 SE9 E9
          by_cases hen : l7.length = 0
          · have hen0 := Lib.hid hen
            have henb : ((l7.length : Int) == 0) = true := by (rw [hen]; rfl)
            clear hen
            cases hu4 : uses 4 E
            rotate_left
            · go_wp2_with fail
              refine (usesE_spec hE hu4 (SE10.out).now).mono ?_
              rintro _ w11 ⟨rfl, hb⟩
              have E11 := Lib.hid (below_then E10.out hb (Nat.le_refl _))
              have Bb11 := Lib.hid ((Bb10.out).step hb)
              have rb11 := Bb11.out.cell
              have bb11 := Bb11.out.lt
              have Bp11 := Lib.hid ((Bp10.out).step hb)
              have rp11 := Bp11.out.cell
              have bp11 := Bp11.out.lt
              have SE11 := Lib.hid ((SE10.out).below hb)
              clear hb Bb10 rb10 bb10 Bp10 rp10 bp10 SE10 E10
              go_wp2
              go_ret
              exact ⟨ret_bool (no_prop HD.out.1 (by rw [HD.out.2]; exact fun hh => by have := hh.2.2.2 (by rw [HI.out.2.1, HI.out.2.2.2.2.2]; exact hen0.out); simp [hu4] at this)).symm, E11.out⟩
            go_wp2_with fail
            refine (usesE_spec hE hu4 (SE10.out).now).mono ?_
            rintro _ w11 ⟨rfl, hb⟩
            have E11 := Lib.hid (below_then E10.out hb (Nat.le_refl _))
            have Bb11 := Lib.hid ((Bb10.out).step hb)
            have rb11 := Bb11.out.cell
            have bb11 := Bb11.out.lt
            have Bp11 := Lib.hid ((Bp10.out).step hb)
            have rp11 := Bp11.out.cell
            have bp11 := Bp11.out.lt
            have SE11 := Lib.hid ((SE10.out).below hb)
            clear hb Bb10 rb10 bb10 Bp10 rp10 bp10 SE10 E10
            have hpo : propOk x6 l7.length (bP (n - 1) l8[j]) := by rw [HEP.out]; exact ⟨hw, hx, fun _ => hu3, fun _ => hu4⟩
            have hnx : ∀ q (h : q + 1 < l8.length), q + 1 < j + 1 → ltS (bP (n - 1) l8[q]).name (bP (n - 1) l8[q + 1]).name := HNX.out
            have HPO := Lib.hid (And.intro hpo hnx)
            clear hpo hnx
            go_wp2
            go_roundw
            case rel => exact ⟨j + 1, by omega, by go_num, fun q h hq => by
              by_cases e : q = j
              · subst e; exact HPO.out.1
              · exact HOK.out q h (by omega), HPO.out.2, Bb11.out, E11.out⟩
            case measure => simp [RowKit.intOf]; omega
          have hpo : propOk x6 l7.length (bP (n - 1) l8[j]) := by rw [HEP.out]; exact ⟨hw, hx, fun _ => hu3, fun h => absurd h (by omega)⟩
          have hnx : ∀ q (h : q + 1 < l8.length), q + 1 < j + 1 → ltS (bP (n - 1) l8[q]).name (bP (n - 1) l8[q + 1]).name := HNX.out
          have HPO := Lib.hid (And.intro hpo hnx)
          clear hpo hnx
          go_wp2
          go_roundw
          case rel => exact ⟨j + 1, by omega, by go_num, fun q h hq => by
            by_cases e : q = j
            · subst e; exact HPO.out.1
            · exact HOK.out q h (by omega), HPO.out.2, Bb10.out, E10.out⟩
          case measure => simp [RowKit.intOf]; omega
        by_cases hen : l7.length = 0
        · have hen0 := Lib.hid hen
          have henb : ((l7.length : Int) == 0) = true := by (rw [hen]; rfl)
          clear hen
          cases hu4 : uses 4 E
          rotate_left
          · go_wp2_with fail
            refine (usesE_spec hE hu4 (SE9.out).now).mono ?_
            rintro _ w10 ⟨rfl, hb⟩
            have E10 := Lib.hid (below_then E9.out hb (Nat.le_refl _))
            have Bb10 := Lib.hid ((Bb9.out).step hb)
            have rb10 := Bb10.out.cell
            have bb10 := Bb10.out.lt
            have Bp10 := Lib.hid ((Bp9.out).step hb)
            have rp10 := Bp10.out.cell
            have bp10 := Bp10.out.lt
            have SE10 := Lib.hid ((SE9.out).below hb)
            clear hb Bb9 rb9 bb9 Bp9 rp9 bp9 SE9 E9
            go_wp2
            go_ret
            exact ⟨ret_bool (no_prop HD.out.1 (by rw [HD.out.2]; exact fun hh => by have := hh.2.2.2 (by rw [HI.out.2.1, HI.out.2.2.2.2.2]; exact hen0.out); simp [hu4] at this)).symm, E10.out⟩
          go_wp2_with fail
          refine (usesE_spec hE hu4 (SE9.out).now).mono ?_
          rintro _ w10 ⟨rfl, hb⟩
          have E10 := Lib.hid (below_then E9.out hb (Nat.le_refl _))
          have Bb10 := Lib.hid ((Bb9.out).step hb)
          have rb10 := Bb10.out.cell
          have bb10 := Bb10.out.lt
          have Bp10 := Lib.hid ((Bp9.out).step hb)
          have rp10 := Bp10.out.cell
          have bp10 := Bp10.out.lt
          have SE10 := Lib.hid ((SE9.out).below hb)
          clear hb Bb9 rb9 bb9 Bp9 rp9 bp9 SE9 E9
          have hpo : propOk x6 l7.length (bP (n - 1) l8[j]) := by rw [HEP.out]; exact ⟨hw, hx, fun h => absurd h (by omega), fun _ => hu4⟩
          have hnx : ∀ q (h : q + 1 < l8.length), q + 1 < j + 1 → ltS (bP (n - 1) l8[q]).name (bP (n - 1) l8[q + 1]).name := HNX.out
          have HPO := Lib.hid (And.intro hpo hnx)
          clear hpo hnx
          go_wp2
          go_roundw
          case rel => exact ⟨j + 1, by omega, by go_num, fun q h hq => by
            by_cases e : q = j
            · subst e; exact HPO.out.1
            · exact HOK.out q h (by omega), HPO.out.2, Bb10.out, E10.out⟩
          case measure => simp [RowKit.intOf]; omega
        have hpo : propOk x6 l7.length (bP (n - 1) l8[j]) := by rw [HEP.out]; exact ⟨hw, hx, fun h => absurd h (by omega), fun h => absurd h (by omega)⟩
        have hnx : ∀ q (h : q + 1 < l8.length), q + 1 < j + 1 → ltS (bP (n - 1) l8[q]).name (bP (n - 1) l8[q + 1]).name := HNX.out
        have HPO := Lib.hid (And.intro hpo hnx)
        clear hpo hnx
        go_wp2
        go_roundw
        case rel => exact ⟨j + 1, by omega, by go_num, fun q h hq => by
          by_cases e : q = j
          · subst e; exact HPO.out.1
          · exact HOK.out q h (by omega), HPO.out.2, Bb9.out, E9.out⟩
        case measure => simp [RowKit.intOf]; omega
      obtain ⟨i, hij⟩ : ∃ i, i + 1 = j := ⟨j - 1, by omega⟩
      have hi : i < l8.length := by omega
      have hiI : (i : Int) < l8.length := by omega
      obtain ⟨m', b', o', us', hm', e', _, hbl', hr', hin'⟩ := HP8.out.item i hi
      injection e' with e'; injection e' with e1 e2 _
      subst e1 e2
      obtain rfl : m' = n - 1 := by omega
      obtain ⟨u0, z1, z2, z3, z4, z5, z6, z7, z8, z9, z10, z11, z12, A5'', c5'', A12'', c12'', ed', rfl, -⟩ := open_Prop hin'
      have hc' : wr.cell? ⟨b, o + i * 13, none⟩ = some (.string u0) := by have := hr' 0 _ rfl; simpa [sh, shPr] using this
      have enu : (bP (n - 1) l8[i]).name = u0 := by rw [ed']; rfl
      have ent : (bP (n - 1) l8[j]).name = t0 := by rw [HEP.out]
      have HNM := Lib.hid (And.intro enu ent)
      have ei : (j : Int) - 1 = i := by omega
      have ew : IntKind.i64.wrap ((j : Int) - 1) = i := by rw [IntWalk.i64_left, IntWalk.wrap64_in _ (by omega)]; exact ei
      have hjn : 0 < j := by omega
      have hi0 : (0 : Int) ≤ (i : Int) := by omega
      clear hr' hin' ed' hm' enu ent
      by_cases hls : ¬ ltS u0 t0
      · have hbL : Op.bytesLess u0.toList t0.toList = false := by rw [bless]; simpa using hls
        go_wp2_with (refine wpList_load_mid rfl 144 (.tmp 36) rfl b (o + j * 13) rfl _ _ HR.out Try.underlying144 rfl (by kernel_rfl) ?_)
        go_wp2_with fail
        have hW : Below wr.heap.size wr (wr.alloc (.cells #[.string t0, .int .i64 y1, .int .i64 y2, .int .i64 y3, .string t4, .slice A5' m5.length c5', .string t6, .string t7, .int .i64 y8, .int .i64 y9, .string t10, .string t11, .slice A12' m12.length c12'] 144)) := below_a1 _ _
        have hBP : Blk (wr.alloc (.cells #[.string t0, .int .i64 y1, .int .i64 y2, .int .i64 y3, .string t4, .slice A5' m5.length c5', .string t6, .string t7, .int .i64 y8, .int .i64 y9, .string t10, .string t11, .slice A12' m12.length c12'] 144)) wr.heap.size 144 #[.string t0, .int .i64 y1, .int .i64 y2, .int .i64 y3, .string t4, .slice A5' m5.length c5', .string t6, .string t7, .int .i64 y8, .int .i64 y9, .string t10, .string t11, .slice A12' m12.length c12'] := Blk.new _ _ _
        generalize wr.alloc (.cells #[.string t0, .int .i64 y1, .int .i64 y2, .int .i64 y3, .string t4, .slice A5' m5.length c5', .string t6, .string t7, .int .i64 y8, .int .i64 y9, .string t10, .string t11, .slice A12' m12.length c12'] 144) = W at hW hBP ⊢
        have q0 := later_cell (o := 0) hBP.lt (by rw [hBP.cell]; rfl)
        have q1 := later_cell (o := 1) hBP.lt (by rw [hBP.cell]; rfl)
        have q2 := later_cell (o := 2) hBP.lt (by rw [hBP.cell]; rfl)
        have q3 := later_cell (o := 3) hBP.lt (by rw [hBP.cell]; rfl)
        have q4 := later_cell (o := 4) hBP.lt (by rw [hBP.cell]; rfl)
        have q5 := later_cell (o := 5) hBP.lt (by rw [hBP.cell]; rfl)
        have q6 := later_cell (o := 6) hBP.lt (by rw [hBP.cell]; rfl)
        have q7 := later_cell (o := 7) hBP.lt (by rw [hBP.cell]; rfl)
        have q8 := later_cell (o := 8) hBP.lt (by rw [hBP.cell]; rfl)
        have q9 := later_cell (o := 9) hBP.lt (by rw [hBP.cell]; rfl)
        have q10 := later_cell (o := 10) hBP.lt (by rw [hBP.cell]; rfl)
        have q11 := later_cell (o := 11) hBP.lt (by rw [hBP.cell]; rfl)
        have q12 := later_cell (o := 12) hBP.lt (by rw [hBP.cell]; rfl)
        have qb := later_cell (b := w.heap.size) (o := 8) (Nat.lt_of_lt_of_le bb8 hW.size) (by rw [hW.cell (p := ⟨w.heap.size, 8, none⟩) bb8, rb8]; rfl)
        have qp := later_cell (b := b) (o := o + i * 13) (Nat.lt_of_lt_of_le hbl hW.size) (by rw [hW.cell (p := ⟨b, o + i * 13, none⟩) hbl]; exact hc')
        refine wp_region_later (by kernel_rfl) (by kernel_rfl) ?_
        repeat (go_big_quiet_step ((first | (go_at_call 88; exact later_same (word_spec hw j0)))))
        refine wpQuiet_nil ?_
        rintro _ ⟨u9, rfl⟩
        have hb := below_then hW (later_below u9) (Nat.le_refl _)
        have hbp := hBP.step (later_below u9)
        generalize later W u9 = w9 at hb hbp ⊢
        clear hW hBP q0 q1 q2 q3 q4 q5 q6 q7 q8 q9 q10 q11 q12 qb qp
        have E9 := Lib.hid (below_then E8.out hb (Nat.le_refl _))
        have Bb9 := Lib.hid ((Bb8.out).step hb)
        have rb9 := Bb9.out.cell
        have bb9 := Bb9.out.lt
        have SE9 := Lib.hid ((HE8.out).below hb)
        have Bp9 := Lib.hid hbp
        have rp9 := Bp9.out.cell
        have bp9 := Bp9.out.lt
        clear hb hbp
        go_wp2
        go_ret
        exact ⟨ret_bool (no_rise (j := i) (by rw [HI.out.2.2.2.1]; simp; omega) (fun hh => hls (by have e1 := HNM.out.1; have e2 := HNM.out.2; subst hij; simp only [HI.out.2.2.2.1, List.getElem_map, e1, e2] at hh; exact hh))).symm, E9.out⟩
      have hbL : Op.bytesLess u0.toList t0.toList = true := by rw [bless]; simpa using hls
      have HNX : Hid (∀ q (h : q + 1 < l8.length), q + 1 < j + 1 → ltS (bP (n - 1) l8[q]).name (bP (n - 1) l8[q + 1]).name) := fun q h hq => by
        by_cases e : q = i
        · subst e; subst hij; rw [HNM.out.1, HNM.out.2]; exact Classical.not_not.1 hls
        · exact HRI.out q h (by omega)
      cases hx : exprB 4 E
      · go_wp2_with (refine wpList_load_mid rfl 144 (.tmp 36) rfl b (o + j * 13) rfl _ _ HR.out Try.underlying144 rfl (by kernel_rfl) ?_)
        go_wp2_with fail
        have hW : Below wr.heap.size wr (wr.alloc (.cells #[.string t0, .int .i64 y1, .int .i64 y2, .int .i64 y3, .string t4, .slice A5' m5.length c5', .string t6, .string t7, .int .i64 y8, .int .i64 y9, .string t10, .string t11, .slice A12' m12.length c12'] 144)) := below_a1 _ _
        have hBP : Blk (wr.alloc (.cells #[.string t0, .int .i64 y1, .int .i64 y2, .int .i64 y3, .string t4, .slice A5' m5.length c5', .string t6, .string t7, .int .i64 y8, .int .i64 y9, .string t10, .string t11, .slice A12' m12.length c12'] 144)) wr.heap.size 144 #[.string t0, .int .i64 y1, .int .i64 y2, .int .i64 y3, .string t4, .slice A5' m5.length c5', .string t6, .string t7, .int .i64 y8, .int .i64 y9, .string t10, .string t11, .slice A12' m12.length c12'] := Blk.new _ _ _
        generalize wr.alloc (.cells #[.string t0, .int .i64 y1, .int .i64 y2, .int .i64 y3, .string t4, .slice A5' m5.length c5', .string t6, .string t7, .int .i64 y8, .int .i64 y9, .string t10, .string t11, .slice A12' m12.length c12'] 144) = W at hW hBP ⊢
        have q0 := later_cell (o := 0) hBP.lt (by rw [hBP.cell]; rfl)
        have q1 := later_cell (o := 1) hBP.lt (by rw [hBP.cell]; rfl)
        have q2 := later_cell (o := 2) hBP.lt (by rw [hBP.cell]; rfl)
        have q3 := later_cell (o := 3) hBP.lt (by rw [hBP.cell]; rfl)
        have q4 := later_cell (o := 4) hBP.lt (by rw [hBP.cell]; rfl)
        have q5 := later_cell (o := 5) hBP.lt (by rw [hBP.cell]; rfl)
        have q6 := later_cell (o := 6) hBP.lt (by rw [hBP.cell]; rfl)
        have q7 := later_cell (o := 7) hBP.lt (by rw [hBP.cell]; rfl)
        have q8 := later_cell (o := 8) hBP.lt (by rw [hBP.cell]; rfl)
        have q9 := later_cell (o := 9) hBP.lt (by rw [hBP.cell]; rfl)
        have q10 := later_cell (o := 10) hBP.lt (by rw [hBP.cell]; rfl)
        have q11 := later_cell (o := 11) hBP.lt (by rw [hBP.cell]; rfl)
        have q12 := later_cell (o := 12) hBP.lt (by rw [hBP.cell]; rfl)
        have qb := later_cell (b := w.heap.size) (o := 8) (Nat.lt_of_lt_of_le bb8 hW.size) (by rw [hW.cell (p := ⟨w.heap.size, 8, none⟩) bb8, rb8]; rfl)
        have qp := later_cell (b := b) (o := o + i * 13) (Nat.lt_of_lt_of_le hbl hW.size) (by rw [hW.cell (p := ⟨b, o + i * 13, none⟩) hbl]; exact hc')
        have KE := fun (W' : World) (h : Below W.heap.size W W') => exprRight_spec hE hx (HE8.out.below (below_then hW h (Nat.le_refl _))).now
        refine wp_region_later (by kernel_rfl) (by kernel_rfl) ?_
        repeat (go_big_quiet_step ((first | (go_at_call 88; exact later_same (word_spec hw j0)) | (go_at_call 33; exact later_call (KE _ (later_below _))))))
        refine wpQuiet_nil ?_
        rintro _ ⟨u9, rfl⟩
        have hb := below_then hW (later_below u9) (Nat.le_refl _)
        have hbp := hBP.step (later_below u9)
        generalize later W u9 = w9 at hb hbp ⊢
        clear hW hBP q0 q1 q2 q3 q4 q5 q6 q7 q8 q9 q10 q11 q12 qb qp KE
        have E9 := Lib.hid (below_then E8.out hb (Nat.le_refl _))
        have Bb9 := Lib.hid ((Bb8.out).step hb)
        have rb9 := Bb9.out.cell
        have bb9 := Bb9.out.lt
        have SE9 := Lib.hid ((HE8.out).below hb)
        have Bp9 := Lib.hid hbp
        have rp9 := Bp9.out.cell
        have bp9 := Bp9.out.lt
        clear hb hbp
        go_wp2
        go_ret
        exact ⟨ret_bool (no_prop HD.out.1 (by rw [HD.out.2]; exact fun hh => by have := hh.2.1; simp [hx] at this)).symm, E9.out⟩
      go_wp2_with (refine wpList_load_mid rfl 144 (.tmp 36) rfl b (o + j * 13) rfl _ _ HR.out Try.underlying144 rfl (by kernel_rfl) ?_)
      go_wp2_with fail
      have hW : Below wr.heap.size wr (wr.alloc (.cells #[.string t0, .int .i64 y1, .int .i64 y2, .int .i64 y3, .string t4, .slice A5' m5.length c5', .string t6, .string t7, .int .i64 y8, .int .i64 y9, .string t10, .string t11, .slice A12' m12.length c12'] 144)) := below_a1 _ _
      have hBP : Blk (wr.alloc (.cells #[.string t0, .int .i64 y1, .int .i64 y2, .int .i64 y3, .string t4, .slice A5' m5.length c5', .string t6, .string t7, .int .i64 y8, .int .i64 y9, .string t10, .string t11, .slice A12' m12.length c12'] 144)) wr.heap.size 144 #[.string t0, .int .i64 y1, .int .i64 y2, .int .i64 y3, .string t4, .slice A5' m5.length c5', .string t6, .string t7, .int .i64 y8, .int .i64 y9, .string t10, .string t11, .slice A12' m12.length c12'] := Blk.new _ _ _
      generalize wr.alloc (.cells #[.string t0, .int .i64 y1, .int .i64 y2, .int .i64 y3, .string t4, .slice A5' m5.length c5', .string t6, .string t7, .int .i64 y8, .int .i64 y9, .string t10, .string t11, .slice A12' m12.length c12'] 144) = W at hW hBP ⊢
      have q0 := later_cell (o := 0) hBP.lt (by rw [hBP.cell]; rfl)
      have q1 := later_cell (o := 1) hBP.lt (by rw [hBP.cell]; rfl)
      have q2 := later_cell (o := 2) hBP.lt (by rw [hBP.cell]; rfl)
      have q3 := later_cell (o := 3) hBP.lt (by rw [hBP.cell]; rfl)
      have q4 := later_cell (o := 4) hBP.lt (by rw [hBP.cell]; rfl)
      have q5 := later_cell (o := 5) hBP.lt (by rw [hBP.cell]; rfl)
      have q6 := later_cell (o := 6) hBP.lt (by rw [hBP.cell]; rfl)
      have q7 := later_cell (o := 7) hBP.lt (by rw [hBP.cell]; rfl)
      have q8 := later_cell (o := 8) hBP.lt (by rw [hBP.cell]; rfl)
      have q9 := later_cell (o := 9) hBP.lt (by rw [hBP.cell]; rfl)
      have q10 := later_cell (o := 10) hBP.lt (by rw [hBP.cell]; rfl)
      have q11 := later_cell (o := 11) hBP.lt (by rw [hBP.cell]; rfl)
      have q12 := later_cell (o := 12) hBP.lt (by rw [hBP.cell]; rfl)
      have qb := later_cell (b := w.heap.size) (o := 8) (Nat.lt_of_lt_of_le bb8 hW.size) (by rw [hW.cell (p := ⟨w.heap.size, 8, none⟩) bb8, rb8]; rfl)
      have qp := later_cell (b := b) (o := o + i * 13) (Nat.lt_of_lt_of_le hbl hW.size) (by rw [hW.cell (p := ⟨b, o + i * 13, none⟩) hbl]; exact hc')
      have KE := fun (W' : World) (h : Below W.heap.size W W') => exprRight_spec hE hx (HE8.out.below (below_then hW h (Nat.le_refl _))).now
      refine wp_region_later (by kernel_rfl) (by kernel_rfl) ?_
      repeat (go_big_quiet_step ((first | (go_at_call 88; exact later_same (word_spec hw j0)) | (go_at_call 33; exact later_call (KE _ (later_below _))))))
      refine wpQuiet_nil ?_
      rintro _ ⟨u9, rfl⟩
      have hb := below_then hW (later_below u9) (Nat.le_refl _)
      have hbp := hBP.step (later_below u9)
      generalize later W u9 = w9 at hb hbp ⊢
      clear hW hBP q0 q1 q2 q3 q4 q5 q6 q7 q8 q9 q10 q11 q12 qb qp KE
      have E9 := Lib.hid (below_then E8.out hb (Nat.le_refl _))
      have Bb9 := Lib.hid ((Bb8.out).step hb)
      have rb9 := Bb9.out.cell
      have bb9 := Bb9.out.lt
      have SE9 := Lib.hid ((HE8.out).below hb)
      have Bp9 := Lib.hid hbp
      have rp9 := Bp9.out.cell
      have bp9 := Bp9.out.lt
      clear hb hbp
      by_cases hcn : x6 < 0
      · cases hu3 : uses 3 E
        rotate_left
        · go_wp2_with fail
          refine (usesE_spec hE hu3 (SE9.out).now).mono ?_
          rintro _ w10 ⟨rfl, hb⟩
          have E10 := Lib.hid (below_then E9.out hb (Nat.le_refl _))
          have Bb10 := Lib.hid ((Bb9.out).step hb)
          have rb10 := Bb10.out.cell
          have bb10 := Bb10.out.lt
          have Bp10 := Lib.hid ((Bp9.out).step hb)
          have rp10 := Bp10.out.cell
          have bp10 := Bp10.out.lt
          have SE10 := Lib.hid ((SE9.out).below hb)
          clear hb Bb9 rb9 bb9 Bp9 rp9 bp9 SE9 E9
          go_wp2
          go_ret
          exact ⟨ret_bool (no_prop HD.out.1 (by rw [HD.out.2]; exact fun hh => by have := hh.2.2.1 (by rw [HI.out.1]; exact hcn); simp [hu3] at this)).symm, E10.out⟩
        go_wp2_with fail
        refine (usesE_spec hE hu3 (SE9.out).now).mono ?_
        rintro _ w10 ⟨rfl, hb⟩
        have E10 := Lib.hid (below_then E9.out hb (Nat.le_refl _))
        have Bb10 := Lib.hid ((Bb9.out).step hb)
        have rb10 := Bb10.out.cell
        have bb10 := Bb10.out.lt
        have Bp10 := Lib.hid ((Bp9.out).step hb)
        have rp10 := Bp10.out.cell
        have bp10 := Bp10.out.lt
        have SE10 := Lib.hid ((SE9.out).below hb)
        clear hb Bb9 rb9 bb9 Bp9 rp9 bp9 SE9 E9
        by_cases hen : l7.length = 0
        · have hen0 := Lib.hid hen
          have henb : ((l7.length : Int) == 0) = true := by (rw [hen]; rfl)
          clear hen
          cases hu4 : uses 4 E
          rotate_left
          · go_wp2_with fail
            refine (usesE_spec hE hu4 (SE10.out).now).mono ?_
            rintro _ w11 ⟨rfl, hb⟩
            have E11 := Lib.hid (below_then E10.out hb (Nat.le_refl _))
            have Bb11 := Lib.hid ((Bb10.out).step hb)
            have rb11 := Bb11.out.cell
            have bb11 := Bb11.out.lt
            have Bp11 := Lib.hid ((Bp10.out).step hb)
            have rp11 := Bp11.out.cell
            have bp11 := Bp11.out.lt
            have SE11 := Lib.hid ((SE10.out).below hb)
            clear hb Bb10 rb10 bb10 Bp10 rp10 bp10 SE10 E10
            go_wp2
            go_ret
            exact ⟨ret_bool (no_prop HD.out.1 (by rw [HD.out.2]; exact fun hh => by have := hh.2.2.2 (by rw [HI.out.2.1, HI.out.2.2.2.2.2]; exact hen0.out); simp [hu4] at this)).symm, E11.out⟩
          go_wp2_with fail
          refine (usesE_spec hE hu4 (SE10.out).now).mono ?_
          rintro _ w11 ⟨rfl, hb⟩
          have E11 := Lib.hid (below_then E10.out hb (Nat.le_refl _))
          have Bb11 := Lib.hid ((Bb10.out).step hb)
          have rb11 := Bb11.out.cell
          have bb11 := Bb11.out.lt
          have Bp11 := Lib.hid ((Bp10.out).step hb)
          have rp11 := Bp11.out.cell
          have bp11 := Bp11.out.lt
          have SE11 := Lib.hid ((SE10.out).below hb)
          clear hb Bb10 rb10 bb10 Bp10 rp10 bp10 SE10 E10
          have hpo : propOk x6 l7.length (bP (n - 1) l8[j]) := by rw [HEP.out]; exact ⟨hw, hx, fun _ => hu3, fun _ => hu4⟩
          have hnx : ∀ q (h : q + 1 < l8.length), q + 1 < j + 1 → ltS (bP (n - 1) l8[q]).name (bP (n - 1) l8[q + 1]).name := HNX.out
          have HPO := Lib.hid (And.intro hpo hnx)
          clear hpo hnx
          go_wp2
          go_roundw
          case rel => exact ⟨j + 1, by omega, by go_num, fun q h hq => by
            by_cases e : q = j
            · subst e; exact HPO.out.1
            · exact HOK.out q h (by omega), HPO.out.2, Bb11.out, E11.out⟩
          case measure => simp [RowKit.intOf]; omega
        have hpo : propOk x6 l7.length (bP (n - 1) l8[j]) := by rw [HEP.out]; exact ⟨hw, hx, fun _ => hu3, fun h => absurd h (by omega)⟩
        have hnx : ∀ q (h : q + 1 < l8.length), q + 1 < j + 1 → ltS (bP (n - 1) l8[q]).name (bP (n - 1) l8[q + 1]).name := HNX.out
        have HPO := Lib.hid (And.intro hpo hnx)
        clear hpo hnx
        go_wp2
        go_roundw
        case rel => exact ⟨j + 1, by omega, by go_num, fun q h hq => by
          by_cases e : q = j
          · subst e; exact HPO.out.1
          · exact HOK.out q h (by omega), HPO.out.2, Bb10.out, E10.out⟩
        case measure => simp [RowKit.intOf]; omega
      by_cases hen : l7.length = 0
      · have hen0 := Lib.hid hen
        have henb : ((l7.length : Int) == 0) = true := by (rw [hen]; rfl)
        clear hen
        cases hu4 : uses 4 E
        rotate_left
        · go_wp2_with fail
          refine (usesE_spec hE hu4 (SE9.out).now).mono ?_
          rintro _ w10 ⟨rfl, hb⟩
          have E10 := Lib.hid (below_then E9.out hb (Nat.le_refl _))
          have Bb10 := Lib.hid ((Bb9.out).step hb)
          have rb10 := Bb10.out.cell
          have bb10 := Bb10.out.lt
          have Bp10 := Lib.hid ((Bp9.out).step hb)
          have rp10 := Bp10.out.cell
          have bp10 := Bp10.out.lt
          have SE10 := Lib.hid ((SE9.out).below hb)
          clear hb Bb9 rb9 bb9 Bp9 rp9 bp9 SE9 E9
          go_wp2
          go_ret
          exact ⟨ret_bool (no_prop HD.out.1 (by rw [HD.out.2]; exact fun hh => by have := hh.2.2.2 (by rw [HI.out.2.1, HI.out.2.2.2.2.2]; exact hen0.out); simp [hu4] at this)).symm, E10.out⟩
        go_wp2_with fail
        refine (usesE_spec hE hu4 (SE9.out).now).mono ?_
        rintro _ w10 ⟨rfl, hb⟩
        have E10 := Lib.hid (below_then E9.out hb (Nat.le_refl _))
        have Bb10 := Lib.hid ((Bb9.out).step hb)
        have rb10 := Bb10.out.cell
        have bb10 := Bb10.out.lt
        have Bp10 := Lib.hid ((Bp9.out).step hb)
        have rp10 := Bp10.out.cell
        have bp10 := Bp10.out.lt
        have SE10 := Lib.hid ((SE9.out).below hb)
        clear hb Bb9 rb9 bb9 Bp9 rp9 bp9 SE9 E9
        have hpo : propOk x6 l7.length (bP (n - 1) l8[j]) := by rw [HEP.out]; exact ⟨hw, hx, fun h => absurd h (by omega), fun _ => hu4⟩
        have hnx : ∀ q (h : q + 1 < l8.length), q + 1 < j + 1 → ltS (bP (n - 1) l8[q]).name (bP (n - 1) l8[q + 1]).name := HNX.out
        have HPO := Lib.hid (And.intro hpo hnx)
        clear hpo hnx
        go_wp2
        go_roundw
        case rel => exact ⟨j + 1, by omega, by go_num, fun q h hq => by
          by_cases e : q = j
          · subst e; exact HPO.out.1
          · exact HOK.out q h (by omega), HPO.out.2, Bb10.out, E10.out⟩
        case measure => simp [RowKit.intOf]; omega
      have hpo : propOk x6 l7.length (bP (n - 1) l8[j]) := by rw [HEP.out]; exact ⟨hw, hx, fun h => absurd h (by omega), fun h => absurd h (by omega)⟩
      have hnx : ∀ q (h : q + 1 < l8.length), q + 1 < j + 1 → ltS (bP (n - 1) l8[q]).name (bP (n - 1) l8[q + 1]).name := HNX.out
      have HPO := Lib.hid (And.intro hpo hnx)
      clear hpo hnx
      go_wp2
      go_roundw
      case rel => exact ⟨j + 1, by omega, by go_num, fun q h hq => by
        by_cases e : q = j
        · subst e; exact HPO.out.1
        · exact HOK.out q h (by omega), HPO.out.2, Bb9.out, E9.out⟩
      case measure => simp [RowKit.intOf]; omega
    · have hall : ∀ q (h : q < D.props.length), propOk D.count D.each.length D.props[q] := fun q h => by
        have h' : q < l8.length := by have := h; rw [HI.out.2.2.2.1] at this; simpa using this
        have := HOK.out q h' (by omega)
        simp only [HI.out.1, HI.out.2.1, HI.out.2.2.2.2.2, HI.out.2.2.2.1, List.getElem_map]
        exact this
      have hrr : risePr D.props := fun q h => by
        have h' : q + 1 < l8.length := by have := h; rw [HI.out.2.2.2.1] at this; simpa using this
        have := HRI.out q h' (by omega)
        simp only [HI.out.2.2.2.1, List.getElem_map]
        exact this
      have HY := Lib.hid (blockB_yes (b := D) ⟨by rw [ea]; exact haO.out, by rw [HI.out.2.2.2.2.1], keysB_iff.1 hkO.out, by rw [HI.out.2.2.2.1]; simpa using hm4, hall, hrr⟩)
      clear hall hrr
      go_wp2
      go_ret
      exact ⟨ret_bool HY.out.symm, E8.out⟩
end Go.Proofs.Ytgkcohclejmhkaa.cf
