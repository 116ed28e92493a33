/- The laws' own helpers: how much is left when data is counted. -/
import Derived.Test.YtflfnekaiaplfaaUc
import Derived.BigQuiet
import Derived.BigRegion
import Derived.Deep.QuietTactic
import Derived.Outline
import Derived.Deep.RegionHeld3
namespace Go.Proofs.Ytflfnekaiaplfaa.un
open mem
open Go.ChangeShapes Go.WideShapes Go.ChangeAt Go.RowKit Go.Lib
set_option linter.unusedVariables false
set_option maxRecDepth 8000
set_option linter.unusedSimpArgs false

def SzStringS (n : Nat) : Prop := ∀ (B : Nat → Prop) (d : DC) (v : Value) (a : Int) (w : World), Cell B n w (.l 0) d v → 0 ≤ a → a ≤ 1048576 →
    Calls Try.prog 20 #[v, .int .i64 a] w (Left1 w a (cC d))
def SzAddr (n : Nat) : Prop := ∀ (B : Nat → Prop) (ds : List DC) (vs : List Value) (a : Int) (w : World), Cells B n w shAddr_ ds vs → 0 ≤ a → a ≤ 1048576 →
    Calls Try.prog 6 #[.agg vs.toArray, .int .i64 a] w (Left1 w a (cCs ds))
def SzMove (n : Nat) : Prop := ∀ (B : Nat → Prop) (ds : List DC) (vs : List Value) (a : Int) (w : World), Cells B n w shMove_ ds vs → 0 ≤ a → a ≤ 1048576 →
    Calls Try.prog 5 #[.agg vs.toArray, .int .i64 a] w (Left1 w a (cCs ds))
set_option maxHeartbeats 2000000 in
theorem szStringS_of {n : Nat} : SzStringS n := fun B d v a w h h0 h1 => by
  obtain ⟨xs, A, c, rfl, rfl, hl⟩ := h.lst
  have H := Lib.hid h
  unfold maxLen at hl
  clear h
  by_cases hn : a - (xs.length : Int) < 0
  · go_enter Try.func20, Try.ntmps20
    go_wp2
    go_ret
    exact ⟨-1, rfl, Lib.hid (by simp only [cC]; unfold leftI; rw [if_neg (by omega)]), by omega, by omega, Below.refl _ _⟩
  · go_enter Try.func20, Try.ntmps20
    go_wp2
    go_loopw [1, 5] (fun s i wr => ∃ k : Nat, ∃ x : Int, k ≤ xs.length ∧ i = .int .i64 k ∧ s = .int .i64 x ∧ 0 ≤ x ∧ x ≤ 1048576 ∧ x = a - xs.length - cL (xs.take k) ∧ Below w.heap.size w wr) (fun _ i _ => xs.length - (intOf i).toNat)
    case atStart => exact ⟨0, _, Nat.zero_le _, rfl, rfl, by omega, by omega, by simp [cL], Below.refl _ _⟩
    case round =>
      obtain ⟨k, x, hk, rfl, rfl, hx0, hx1, hx, hb⟩ := hrel
      have HX := Lib.hid hx
      have HB := Lib.hid hb
      clear hx hb
      by_cases hlt : k < xs.length
      · obtain ⟨m, b, o, us, hm, rfl, _, hbl, hr, hin⟩ := (H.out.below HB.out).item k hlt
        have HS := Lib.hid (cL_take xs k hlt)
        have HT := Lib.hid (cL_le xs (k + 1))
        obtain ⟨d0, ds0, v0, vs0, ed, rfl, h1, h2⟩ := All3.cons hin
        obtain ⟨rfl, rfl⟩ := All3.nil h2
        obtain ⟨s, rfl, rfl, hs⟩ := h1.str
        have hc : wr.cell? ⟨b, o + k, none⟩ = some (.string s) := by have := hr 0 _ rfl; simpa [sh] using this
        have HE : Hid (cCs xs[k] = s.size) := by (have : cCs xs[k] = s.size := by (rw [ed]; simp [cCs, cC])); exact this
        unfold maxLen at hs
        clear hr hin h1 h2 ed
        by_cases hy : x - (s.size : Int) < 0
        · go_wp2
          go_ret
          refine ⟨-1, rfl, Lib.hid ?_, by omega, by omega, HB.out⟩
          have q1 := HX.out
          have q2 := HS.out
          have q3 := HT.out
          have q4 := HE.out
          simp only [cC]
          unfold leftI
          rw [if_neg (by omega)]
        · have hy0 : 0 ≤ x - (s.size : Int) := by omega
          have hy1 : x - (s.size : Int) ≤ 1048576 := by omega
          clear hy
          go_wp2
          go_roundw
          case rel => exact ⟨k + 1, x - (s.size : Int), hlt, by go_num, rfl, hy0, hy1, by (have q1 := HX.out; have q2 := HS.out; have q4 := HE.out; omega), HB.out⟩
          case measure => simp [intOf]; omega
      · obtain rfl : k = xs.length := by omega
        go_wp2
        go_ret
        refine ⟨x, rfl, Lib.hid ?_, by omega, by omega, HB.out⟩
        have q1 := HX.out
        rw [List.take_length] at q1
        simp only [cC]
        unfold leftI
        rw [if_pos (by omega)]; omega
theorem szStringS_all (n : Nat) : SzStringS n := szStringS_of
set_option maxHeartbeats 4000000 in
theorem szAddr_of {n : Nat} (KStringS : SzStringS n) : SzAddr n := fun B ds vs a w h h0 h1 => by
  obtain ⟨l0, s1, s2, x3, x4, s5, A0, c0, rfl, rfl, k0, k1, k2, k3, k4, k5⟩ := open_Addr h
  have H0 := Lib.hid k0
  have H1 := Lib.hid k1
  have H2 := Lib.hid k2
  have H3 := Lib.hid k3
  have H4 := Lib.hid k4
  have H5 := Lib.hid k5
  unfold maxLen at k1
  unfold maxLen at k2
  unfold maxLen at k5
  have HKStringS := Lib.hid KStringS
  clear k0 k3 k4 h KStringS
  go_enter Try.func6, Try.ntmps6
  go_wp2_with fail
  refine (HKStringS.out B (.l l0) (.slice A0 l0.length c0) a _ (H0.out.below (below_a1 _ _)) h0 h1).mono ?_
  rintro _ w1 ⟨x_1, rfl, HX1, lo1, hi1, hb⟩
  have E1 := Lib.hid (below_then (below_a1 _ _) hb (Nat.le_refl _))
  have B1 := Lib.hid ((Blk.new w _ _).step hb)
  have b1 := B1.out.cell
  clear hb
  by_cases n1 : x_1 < 0
  · go_wp2
    go_ret
    refine ⟨-1, rfl, Lib.hid ?_, by omega, by omega, E1.out⟩
    have q1 := HX1.out
    simp only [cCs, cC] at q1 ⊢; unfold leftI at q1 ⊢; split at q1 <;> first | omega | (rw [if_neg (by omega)])
  have p1 : 0 ≤ x_1 := by omega
  clear n1
  by_cases n2 : (x_1 - (s1.size : Int)) < 0
  · go_wp2
    go_ret
    refine ⟨-1, rfl, Lib.hid ?_, by omega, by omega, E1.out⟩
    have q1 := HX1.out
    simp only [cCs, cC] at q1 ⊢; unfold leftI at q1 ⊢; split at q1 <;> first | omega | (rw [if_neg (by omega)])
  have p2 : 0 ≤ (x_1 - (s1.size : Int)) := by omega
  have i2 : (x_1 - (s1.size : Int)) ≤ 1048576 := by omega
  clear n2
  by_cases n3 : ((x_1 - (s1.size : Int)) - (s2.size : Int)) < 0
  · go_wp2
    go_ret
    refine ⟨-1, rfl, Lib.hid ?_, by omega, by omega, E1.out⟩
    have q1 := HX1.out
    simp only [cCs, cC] at q1 ⊢; unfold leftI at q1 ⊢; split at q1 <;> first | omega | (rw [if_neg (by omega)])
  have p3 : 0 ≤ ((x_1 - (s1.size : Int)) - (s2.size : Int)) := by omega
  have i3 : ((x_1 - (s1.size : Int)) - (s2.size : Int)) ≤ 1048576 := by omega
  clear n3
  by_cases n4 : (((x_1 - (s1.size : Int)) - (s2.size : Int)) - (s5.size : Int)) < 0
  · go_wp2
    go_ret
    refine ⟨-1, rfl, Lib.hid ?_, by omega, by omega, E1.out⟩
    have q1 := HX1.out
    simp only [cCs, cC] at q1 ⊢; unfold leftI at q1 ⊢; split at q1 <;> first | omega | (rw [if_neg (by omega)])
  have p4 : 0 ≤ (((x_1 - (s1.size : Int)) - (s2.size : Int)) - (s5.size : Int)) := by omega
  have i4 : (((x_1 - (s1.size : Int)) - (s2.size : Int)) - (s5.size : Int)) ≤ 1048576 := by omega
  clear n4
  go_wp2
  go_ret
  refine ⟨(((x_1 - (s1.size : Int)) - (s2.size : Int)) - (s5.size : Int)), rfl, Lib.hid ?_, by omega, by omega, E1.out⟩
  have q1 := HX1.out
  simp only [cCs, cC] at q1 ⊢; unfold leftI at q1 ⊢; split at q1 <;> first | omega | (rw [if_pos (by omega)]; omega)
theorem szAddr_all (n : Nat) : SzAddr n := szAddr_of (szStringS_all n)
set_option maxHeartbeats 4000000 in
theorem szMove_of {n : Nat} (KAddr : SzAddr n) : SzMove n := fun B ds vs a w h h0 h1 => by
  obtain ⟨x0, l1, s2, s3, x4, x5, s6, l7, s8, s9, x10, x11, s12, A1, c1, A7, c7, rfl, rfl, k0, k1, k2, k3, k4, k5, k6, k7, k8, k9, k10, k11, k12⟩ := open_Move h
  have H0 := Lib.hid k0
  have H1 := Lib.hid k1
  have H2 := Lib.hid k2
  have H3 := Lib.hid k3
  have H4 := Lib.hid k4
  have H5 := Lib.hid k5
  have H6 := Lib.hid k6
  have H7 := Lib.hid k7
  have H8 := Lib.hid k8
  have H9 := Lib.hid k9
  have H10 := Lib.hid k10
  have H11 := Lib.hid k11
  have H12 := Lib.hid k12
  unfold maxLen at k2
  unfold maxLen at k3
  unfold maxLen at k6
  unfold maxLen at k8
  unfold maxLen at k9
  unfold maxLen at k12
  have HKAddr := Lib.hid KAddr
  clear k0 k1 k4 k5 k7 k10 k11 h KAddr
  go_enter Try.func5, Try.ntmps5
  go_wp2_with fail
  refine (HKAddr.out B [.l l1, .s s2, .s s3, .i x4, .i x5, .s s6] [.slice A1 l1.length c1, .string s2, .string s3, .int .i64 x4, .int .i64 x5, .string s6] a _ ⟨H1.out.below (below_a1 _ _), Cell.mkS H2.out, Cell.mkS H3.out, Cell.mkI H4.out, Cell.mkI H5.out, Cell.mkS H6.out, trivial⟩ h0 h1).mono ?_
  rintro _ w1 ⟨x_1, rfl, HX1, lo1, hi1, hb⟩
  have E1 := Lib.hid (below_then (below_a1 _ _) hb (Nat.le_refl _))
  have B1 := Lib.hid ((Blk.new w _ _).step hb)
  have b1 := B1.out.cell
  clear hb
  by_cases n1 : x_1 < 0
  · go_wp2
    go_ret
    refine ⟨-1, rfl, Lib.hid ?_, by omega, by omega, E1.out⟩
    have q1 := HX1.out
    simp only [cCs, cC] at q1 ⊢; unfold leftI at q1 ⊢; split at q1 <;> first | omega | (rw [if_neg (by omega)])
  have p1 : 0 ≤ x_1 := by omega
  clear n1
  go_wp2_with fail
  refine (HKAddr.out B [.l l7, .s s8, .s s9, .i x10, .i x11, .s s12] [.slice A7 l7.length c7, .string s8, .string s9, .int .i64 x10, .int .i64 x11, .string s12] x_1 _ ⟨H7.out.below E1.out, Cell.mkS H8.out, Cell.mkS H9.out, Cell.mkI H10.out, Cell.mkI H11.out, Cell.mkS H12.out, trivial⟩ p1 hi1).mono ?_
  rintro _ w2 ⟨x_2, rfl, HX2, lo2, hi2, hb⟩
  have E2 := Lib.hid (below_then E1.out hb (Nat.le_refl _))
  have B2 := Lib.hid (B1.out.step hb)
  have b2 := B2.out.cell
  clear hb b1 B1
  by_cases n2 : x_2 < 0
  · go_wp2
    go_ret
    refine ⟨-1, rfl, Lib.hid ?_, by omega, by omega, E2.out⟩
    have q1 := HX1.out
    have q2 := HX2.out
    simp only [cCs, cC] at q1 q2 ⊢; unfold leftI at q1 q2 ⊢; split at q1 <;> split at q2 <;> first | omega | (rw [if_neg (by omega)])
  have p2 : 0 ≤ x_2 := by omega
  clear n2
  go_wp2
  go_ret
  refine ⟨x_2, rfl, Lib.hid ?_, by omega, by omega, E2.out⟩
  have q1 := HX1.out
  have q2 := HX2.out
  simp only [cCs, cC] at q1 q2 ⊢; unfold leftI at q1 q2 ⊢; split at q1 <;> split at q2 <;> first | omega | (rw [if_pos (by omega)]; omega)
theorem szMove_all (n : Nat) : SzMove n := szMove_of (szAddr_all n)
end Go.Proofs.Ytflfnekaiaplfaa.un
