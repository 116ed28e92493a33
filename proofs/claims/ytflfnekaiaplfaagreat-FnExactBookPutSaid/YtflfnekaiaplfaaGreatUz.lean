/- The laws' own helpers: how much is left when data is counted. -/
import Derived.Test.YtflfnekaiaplfaaGreatUc
import Derived.BigQuiet
import Derived.BigRegion
import Derived.Deep.QuietTactic
import Derived.Outline
import Derived.Deep.RegionHeld3
namespace Go.Proofs.YtflfnekaiaplfaaGreat.un
open mem
open Go.ChangeShapes Go.WideShapes Go.ChangeAt Go.RowKit Go.Lib
set_option linter.unusedVariables false
set_option maxRecDepth 8000
set_option linter.unusedSimpArgs false

def SzStringS (n : Nat) : Prop := ∀ (B : Nat → Prop) (d : DC) (v : Value) (a : Int) (w : World), Cell B n w (.l 0) d v → 0 ≤ a → a ≤ 1048576 →
    Calls Tryz.prog 42 #[v, .int .i64 a] w (Left1 w a (cC d))
def SzAddr (n : Nat) : Prop := ∀ (B : Nat → Prop) (ds : List DC) (vs : List Value) (a : Int) (w : World), Cells B n w shAddr_ ds vs → 0 ≤ a → a ≤ 1048576 →
    Calls Tryz.prog 17 #[.agg vs.toArray, .int .i64 a] w (Left1 w a (cCs ds))
def SzValue (n : Nat) : Prop := ∀ (B : Nat → Prop) (ds : List DC) (vs : List Value) (a : Int) (w : World), Cells B n w shValue_ ds vs → 0 ≤ a → a ≤ 1048576 →
    Calls Tryz.prog 66 #[.agg vs.toArray, .int .i64 a] w (Left1 w a (cCs ds))
def SzAddrS (n : Nat) : Prop := ∀ (B : Nat → Prop) (d : DC) (v : Value) (a : Int) (w : World), Cell B n w (.l 2) d v → 0 ≤ a → a ≤ 1048576 →
    Calls Tryz.prog 19 #[v, .int .i64 a] w (Left1 w a (cC d))
def SzPair (n : Nat) : Prop := ∀ (B : Nat → Prop) (ds : List DC) (vs : List Value) (a : Int) (w : World), Cells B n w shPair_ ds vs → 0 ≤ a → a ≤ 1048576 →
    Calls Tryz.prog 43 #[.agg vs.toArray, .int .i64 a] w (Left1 w a (cCs ds))
def SzPairS (n : Nat) : Prop := ∀ (B : Nat → Prop) (d : DC) (v : Value) (a : Int) (w : World), Cell B n w (.l 7) d v → 0 ≤ a → a ≤ 1048576 →
    Calls Tryz.prog 18 #[v, .int .i64 a] w (Left1 w a (cC d))
def SzThing (n : Nat) : Prop := ∀ (B : Nat → Prop) (ds : List DC) (vs : List Value) (a : Int) (w : World), Cells B n w shThing_ ds vs → 0 ≤ a → a ≤ 1048576 →
    Calls Tryz.prog 5 #[.agg vs.toArray, .int .i64 a] w (Left1 w a (cCs ds))
def SzThingS (n : Nat) : Prop := ∀ (B : Nat → Prop) (d : DC) (v : Value) (a : Int) (w : World), Cell B n w (.l 8) d v → 0 ≤ a → a ≤ 1048576 →
    Calls Tryz.prog 4 #[v, .int .i64 a] w (Left1 w a (cC d))
set_option maxHeartbeats 2000000 in
theorem szStringS_of {n : Nat} : SzStringS n := fun B d v a w h h0 h1 => by
  obtain ⟨xs, A, c, rfl, rfl, hl⟩ := h.lst
  have H := Lib.hid h
  unfold maxLen at hl
  clear h
  by_cases hn : a - (xs.length : Int) < 0
  · go_enter Tryz.func42, Tryz.ntmps42
    go_wp2
    go_ret
    exact ⟨-1, rfl, Lib.hid (by simp only [cC]; unfold leftI; rw [if_neg (by omega)]), by omega, by omega, Below.refl _ _⟩
  · go_enter Tryz.func42, Tryz.ntmps42
    go_wp2
    go_loopw [1, 5] (fun s i wr => ∃ k : Nat, ∃ x : Int, k ≤ xs.length ∧ i = .int .i64 k ∧ s = .int .i64 x ∧ 0 ≤ x ∧ x ≤ 1048576 ∧ x = a - xs.length - cL (xs.take k) ∧ Below w.heap.size w wr) (fun _ i _ => xs.length - (intOf i).toNat)
    case atStart => exact ⟨0, _, Nat.zero_le _, rfl, rfl, by omega, by omega, by simp [cL], Below.refl _ _⟩
    case round =>
      obtain ⟨k, x, hk, rfl, rfl, hx0, hx1, hx, hb⟩ := hrel
      have HX := Lib.hid hx
      have HB := Lib.hid hb
      clear hx hb
      by_cases hlt : k < xs.length
      · obtain ⟨m, b, o, us, hm, rfl, _, hbl, hr, hin⟩ := (H.out.below HB.out).item k hlt
        have HS := Lib.hid (cL_take xs k hlt)
        have HT := Lib.hid (cL_le xs (k + 1))
        obtain ⟨d0, ds0, v0, vs0, ed, rfl, h1, h2⟩ := All3.cons hin
        obtain ⟨rfl, rfl⟩ := All3.nil h2
        obtain ⟨s, rfl, rfl, hs⟩ := h1.str
        have hc : wr.cell? ⟨b, o + k, none⟩ = some (.string s) := by have := hr 0 _ rfl; simpa [sh] using this
        have HE : Hid (cCs xs[k] = s.size) := by (have : cCs xs[k] = s.size := by (rw [ed]; simp [cCs, cC])); exact this
        unfold maxLen at hs
        clear hr hin h1 h2 ed
        by_cases hy : x - (s.size : Int) < 0
        · go_wp2
          go_ret
          refine ⟨-1, rfl, Lib.hid ?_, by omega, by omega, HB.out⟩
          have q1 := HX.out
          have q2 := HS.out
          have q3 := HT.out
          have q4 := HE.out
          simp only [cC]
          unfold leftI
          rw [if_neg (by omega)]
        · have hy0 : 0 ≤ x - (s.size : Int) := by omega
          have hy1 : x - (s.size : Int) ≤ 1048576 := by omega
          clear hy
          go_wp2
          go_roundw
          case rel => exact ⟨k + 1, x - (s.size : Int), hlt, by go_num, rfl, hy0, hy1, by (have q1 := HX.out; have q2 := HS.out; have q4 := HE.out; omega), HB.out⟩
          case measure => simp [intOf]; omega
      · obtain rfl : k = xs.length := by omega
        go_wp2
        go_ret
        refine ⟨x, rfl, Lib.hid ?_, by omega, by omega, HB.out⟩
        have q1 := HX.out
        rw [List.take_length] at q1
        simp only [cC]
        unfold leftI
        rw [if_pos (by omega)]; omega
theorem szStringS_all (n : Nat) : SzStringS n := szStringS_of
set_option maxHeartbeats 4000000 in
theorem szAddr_of {n : Nat} (KStringS : SzStringS n) : SzAddr n := fun B ds vs a w h h0 h1 => by
  obtain ⟨l0, s1, s2, x3, x4, s5, A0, c0, rfl, rfl, k0, k1, k2, k3, k4, k5⟩ := open_Addr h
  have H0 := Lib.hid k0
  have H1 := Lib.hid k1
  have H2 := Lib.hid k2
  have H3 := Lib.hid k3
  have H4 := Lib.hid k4
  have H5 := Lib.hid k5
  unfold maxLen at k1
  unfold maxLen at k2
  unfold maxLen at k5
  have HKStringS := Lib.hid KStringS
  clear k0 k3 k4 h KStringS
  go_enter Tryz.func17, Tryz.ntmps17
  go_wp2_with fail
  refine (HKStringS.out B (.l l0) (.slice A0 l0.length c0) a _ (H0.out.below (below_a1 _ _)) h0 h1).mono ?_
  rintro _ w1 ⟨x_1, rfl, HX1, lo1, hi1, hb⟩
  have E1 := Lib.hid (below_then (below_a1 _ _) hb (Nat.le_refl _))
  have B1 := Lib.hid ((Blk.new w _ _).step hb)
  have b1 := B1.out.cell
  clear hb
  by_cases n1 : x_1 < 0
  · go_wp2
    go_ret
    refine ⟨-1, rfl, Lib.hid ?_, by omega, by omega, E1.out⟩
    have q1 := HX1.out
    simp only [cCs, cC] at q1 ⊢; unfold leftI at q1 ⊢; split at q1 <;> first | omega | (rw [if_neg (by omega)])
  have p1 : 0 ≤ x_1 := by omega
  clear n1
  by_cases n2 : (x_1 - (s1.size : Int)) < 0
  · go_wp2
    go_ret
    refine ⟨-1, rfl, Lib.hid ?_, by omega, by omega, E1.out⟩
    have q1 := HX1.out
    simp only [cCs, cC] at q1 ⊢; unfold leftI at q1 ⊢; split at q1 <;> first | omega | (rw [if_neg (by omega)])
  have p2 : 0 ≤ (x_1 - (s1.size : Int)) := by omega
  have i2 : (x_1 - (s1.size : Int)) ≤ 1048576 := by omega
  clear n2
  by_cases n3 : ((x_1 - (s1.size : Int)) - (s2.size : Int)) < 0
  · go_wp2
    go_ret
    refine ⟨-1, rfl, Lib.hid ?_, by omega, by omega, E1.out⟩
    have q1 := HX1.out
    simp only [cCs, cC] at q1 ⊢; unfold leftI at q1 ⊢; split at q1 <;> first | omega | (rw [if_neg (by omega)])
  have p3 : 0 ≤ ((x_1 - (s1.size : Int)) - (s2.size : Int)) := by omega
  have i3 : ((x_1 - (s1.size : Int)) - (s2.size : Int)) ≤ 1048576 := by omega
  clear n3
  by_cases n4 : (((x_1 - (s1.size : Int)) - (s2.size : Int)) - (s5.size : Int)) < 0
  · go_wp2
    go_ret
    refine ⟨-1, rfl, Lib.hid ?_, by omega, by omega, E1.out⟩
    have q1 := HX1.out
    simp only [cCs, cC] at q1 ⊢; unfold leftI at q1 ⊢; split at q1 <;> first | omega | (rw [if_neg (by omega)])
  have p4 : 0 ≤ (((x_1 - (s1.size : Int)) - (s2.size : Int)) - (s5.size : Int)) := by omega
  have i4 : (((x_1 - (s1.size : Int)) - (s2.size : Int)) - (s5.size : Int)) ≤ 1048576 := by omega
  clear n4
  go_wp2
  go_ret
  refine ⟨(((x_1 - (s1.size : Int)) - (s2.size : Int)) - (s5.size : Int)), rfl, Lib.hid ?_, by omega, by omega, E1.out⟩
  have q1 := HX1.out
  simp only [cCs, cC] at q1 ⊢; unfold leftI at q1 ⊢; split at q1 <;> first | omega | (rw [if_pos (by omega)]; omega)
theorem szAddr_all (n : Nat) : SzAddr n := szAddr_of (szStringS_all n)
set_option maxHeartbeats 4000000 in
theorem szValue_of {n : Nat} : SzValue n := fun B ds vs a w h h0 h1 => by
  obtain ⟨x0, x1, s2, rfl, rfl, k0, k1, k2⟩ := open_Value h
  have H0 := Lib.hid k0
  have H1 := Lib.hid k1
  have H2 := Lib.hid k2
  unfold maxLen at k2
  clear k0 k1 h
  go_enter Tryz.func66, Tryz.ntmps66
  by_cases n1 : (a - (s2.size : Int)) < 0
  · go_wp2
    go_ret
    refine ⟨-1, rfl, Lib.hid ?_, by omega, by omega, (below_a1 _ _)⟩
    simp only [cCs, cC]; unfold leftI; first | omega | (rw [if_neg (by omega)])
  have p1 : 0 ≤ (a - (s2.size : Int)) := by omega
  have i1 : (a - (s2.size : Int)) ≤ 1048576 := by omega
  clear n1
  go_wp2
  go_ret
  refine ⟨(a - (s2.size : Int)), rfl, Lib.hid ?_, by omega, by omega, (below_a1 _ _)⟩
  simp only [cCs, cC]; unfold leftI; first | omega | (rw [if_pos (by omega)]; omega)
theorem szValue_all (n : Nat) : SzValue n := szValue_of
set_option maxHeartbeats 2000000 in
theorem szAddrS_of {n : Nat} (K : ∀ m, m < n → SzAddr m) : SzAddrS n := fun B d v a w h h0 h1 => by
  obtain ⟨xs, A, c, rfl, rfl, hl⟩ := h.lst
  have H := Lib.hid h
  unfold maxLen at hl
  have HK := Lib.hid K
  clear h K
  by_cases hn : a - (xs.length : Int) < 0
  · go_enter Tryz.func19, Tryz.ntmps19
    go_wp2
    go_ret
    exact ⟨-1, rfl, Lib.hid (by simp only [cC]; unfold leftI; rw [if_neg (by omega)]), by omega, by omega, Below.refl _ _⟩
  · go_enter Tryz.func19, Tryz.ntmps19
    go_wp2
    go_loopw [1, 5] (fun s i wr => ∃ k : Nat, ∃ x : Int, k ≤ xs.length ∧ i = .int .i64 k ∧ s = .int .i64 x ∧ 0 ≤ x ∧ x ≤ 1048576 ∧ x = a - xs.length - cL (xs.take k) ∧ Below w.heap.size w wr) (fun _ i _ => xs.length - (intOf i).toNat)
    case atStart => exact ⟨0, _, Nat.zero_le _, rfl, rfl, by omega, by omega, by simp [cL], Below.refl _ _⟩
    case round =>
      obtain ⟨k, x, hk, rfl, rfl, hx0, hx1, hx, hb⟩ := hrel
      have HX := Lib.hid hx
      have HB := Lib.hid hb
      clear hx hb
      by_cases hlt : k < xs.length
      · obtain ⟨m, b, o, us, hm, rfl, _, hbl, hr, hin⟩ := (H.out.below HB.out).item k hlt
        have HS := Lib.hid (cL_take xs k hlt)
        have HT := Lib.hid (cL_le xs (k + 1))
        have hus := hin.len.2
        have HR := Lib.hid hr
        have HIN := Lib.hid hin
        clear hr hin
        go_wp2_with (refine wpList_load_mid rfl 25 (.tmp 20) rfl b (o + k * 6) rfl us _ HR.out Tryz.underlying25 rfl (by rw [hus]; kernel_rfl) ?_)
        go_wp2_with fail
        refine (HK.out m (by omega) B xs[k] us x _ HIN.out hx0 hx1).mono ?_
        rintro _ w2 ⟨y, rfl, HY, lo, hi, hb⟩
        have E2 := Lib.hid (below_then HB.out hb (Nat.le_refl _))
        clear hb
        by_cases hy : y < 0
        · go_wp2
          go_ret
          refine ⟨-1, rfl, Lib.hid ?_, by omega, by omega, E2.out⟩
          have q1 := HX.out
          have q2 := HS.out
          have q3 := HT.out
          have q4 := HY.out
          simp only [cC] at q4 ⊢
          unfold leftI at q4 ⊢
          split at q4
          · omega
          · rw [if_neg (by omega)]
        · have hy0 : 0 ≤ y := by omega
          clear hy
          go_wp2
          go_roundw
          case rel => exact ⟨k + 1, y, hlt, by go_num, rfl, hy0, hi, by
            have q1 := HX.out
            have q2 := HS.out
            have q4 := HY.out
            (try simp only [cC] at q4)
            unfold leftI at q4
            split at q4 <;> omega, E2.out⟩
          case measure => simp [intOf]; omega
      · obtain rfl : k = xs.length := by omega
        go_wp2
        go_ret
        refine ⟨x, rfl, Lib.hid ?_, by omega, by omega, HB.out⟩
        have q1 := HX.out
        rw [List.take_length] at q1
        simp only [cC]
        unfold leftI
        rw [if_pos (by omega)]; omega
theorem szAddrS_all (n : Nat) : SzAddrS n := szAddrS_of (fun m _ => szAddr_all m)
set_option maxHeartbeats 4000000 in
theorem szPair_of {n : Nat} (KValue : SzValue n) : SzPair n := fun B ds vs a w h h0 h1 => by
  obtain ⟨s0, x1, x2, s3, rfl, rfl, k0, k1, k2, k3⟩ := open_Pair h
  have H0 := Lib.hid k0
  have H1 := Lib.hid k1
  have H2 := Lib.hid k2
  have H3 := Lib.hid k3
  unfold maxLen at k0
  unfold maxLen at k3
  have HKValue := Lib.hid KValue
  clear k1 k2 h KValue
  go_enter Tryz.func43, Tryz.ntmps43
  by_cases n1 : (a - (s0.size : Int)) < 0
  · go_wp2
    go_ret
    refine ⟨-1, rfl, Lib.hid ?_, by omega, by omega, (below_a1 _ _)⟩
    simp only [cCs, cC]; unfold leftI; first | omega | (rw [if_neg (by omega)])
  have p1 : 0 ≤ (a - (s0.size : Int)) := by omega
  have i1 : (a - (s0.size : Int)) ≤ 1048576 := by omega
  clear n1
  go_wp2_with fail
  refine (HKValue.out B [.i x1, .i x2, .s s3] [.int .i64 x1, .int .i64 x2, .string s3] (a - (s0.size : Int)) _ ⟨Cell.mkI H1.out, Cell.mkI H2.out, Cell.mkS H3.out, trivial⟩ p1 i1).mono ?_
  rintro _ w1 ⟨x_2, rfl, HX2, lo2, hi2, hb⟩
  have E1 := Lib.hid (below_then (below_a1 _ _) hb (Nat.le_refl _))
  have B1 := Lib.hid ((Blk.new w _ _).step hb)
  have b1 := B1.out.cell
  clear hb
  by_cases n2 : x_2 < 0
  · go_wp2
    go_ret
    refine ⟨-1, rfl, Lib.hid ?_, by omega, by omega, E1.out⟩
    have q2 := HX2.out
    simp only [cCs, cC] at q2 ⊢; unfold leftI at q2 ⊢; split at q2 <;> first | omega | (rw [if_neg (by omega)])
  have p2 : 0 ≤ x_2 := by omega
  clear n2
  go_wp2
  go_ret
  refine ⟨x_2, rfl, Lib.hid ?_, by omega, by omega, E1.out⟩
  have q2 := HX2.out
  simp only [cCs, cC] at q2 ⊢; unfold leftI at q2 ⊢; split at q2 <;> first | omega | (rw [if_pos (by omega)]; omega)
theorem szPair_all (n : Nat) : SzPair n := szPair_of (szValue_all n)
set_option maxHeartbeats 2000000 in
theorem szPairS_of {n : Nat} (K : ∀ m, m < n → SzPair m) : SzPairS n := fun B d v a w h h0 h1 => by
  obtain ⟨xs, A, c, rfl, rfl, hl⟩ := h.lst
  have H := Lib.hid h
  unfold maxLen at hl
  have HK := Lib.hid K
  clear h K
  by_cases hn : a - (xs.length : Int) < 0
  · go_enter Tryz.func18, Tryz.ntmps18
    go_wp2
    go_ret
    exact ⟨-1, rfl, Lib.hid (by simp only [cC]; unfold leftI; rw [if_neg (by omega)]), by omega, by omega, Below.refl _ _⟩
  · go_enter Tryz.func18, Tryz.ntmps18
    go_wp2
    go_loopw [1, 5] (fun s i wr => ∃ k : Nat, ∃ x : Int, k ≤ xs.length ∧ i = .int .i64 k ∧ s = .int .i64 x ∧ 0 ≤ x ∧ x ≤ 1048576 ∧ x = a - xs.length - cL (xs.take k) ∧ Below w.heap.size w wr) (fun _ i _ => xs.length - (intOf i).toNat)
    case atStart => exact ⟨0, _, Nat.zero_le _, rfl, rfl, by omega, by omega, by simp [cL], Below.refl _ _⟩
    case round =>
      obtain ⟨k, x, hk, rfl, rfl, hx0, hx1, hx, hb⟩ := hrel
      have HX := Lib.hid hx
      have HB := Lib.hid hb
      clear hx hb
      by_cases hlt : k < xs.length
      · obtain ⟨m, b, o, us, hm, rfl, _, hbl, hr, hin⟩ := (H.out.below HB.out).item k hlt
        have HS := Lib.hid (cL_take xs k hlt)
        have HT := Lib.hid (cL_le xs (k + 1))
        have hus := hin.len.2
        have HR := Lib.hid hr
        have HIN := Lib.hid hin
        clear hr hin
        go_wp2_with (refine wpList_load_mid rfl 78 (.tmp 20) rfl b (o + k * 4) rfl us _ HR.out Tryz.underlying78 rfl (by rw [hus]; kernel_rfl) ?_)
        go_wp2_with fail
        refine (HK.out m (by omega) B xs[k] us x _ HIN.out hx0 hx1).mono ?_
        rintro _ w2 ⟨y, rfl, HY, lo, hi, hb⟩
        have E2 := Lib.hid (below_then HB.out hb (Nat.le_refl _))
        clear hb
        by_cases hy : y < 0
        · go_wp2
          go_ret
          refine ⟨-1, rfl, Lib.hid ?_, by omega, by omega, E2.out⟩
          have q1 := HX.out
          have q2 := HS.out
          have q3 := HT.out
          have q4 := HY.out
          simp only [cC] at q4 ⊢
          unfold leftI at q4 ⊢
          split at q4
          · omega
          · rw [if_neg (by omega)]
        · have hy0 : 0 ≤ y := by omega
          clear hy
          go_wp2
          go_roundw
          case rel => exact ⟨k + 1, y, hlt, by go_num, rfl, hy0, hi, by
            have q1 := HX.out
            have q2 := HS.out
            have q4 := HY.out
            (try simp only [cC] at q4)
            unfold leftI at q4
            split at q4 <;> omega, E2.out⟩
          case measure => simp [intOf]; omega
      · obtain rfl : k = xs.length := by omega
        go_wp2
        go_ret
        refine ⟨x, rfl, Lib.hid ?_, by omega, by omega, HB.out⟩
        have q1 := HX.out
        rw [List.take_length] at q1
        simp only [cC]
        unfold leftI
        rw [if_pos (by omega)]; omega
theorem szPairS_all (n : Nat) : SzPairS n := szPairS_of (fun m _ => szPair_all m)
set_option maxHeartbeats 4000000 in
theorem szThing_of {n : Nat} (KAddr : SzAddr n) (KAddrS : SzAddrS n) (KPairS : SzPairS n) : SzThing n := fun B ds vs a w h h0 h1 => by
  obtain ⟨l0, s1, s2, x3, x4, s5, l6, l7, A0, c0, A6, c6, A7, c7, rfl, rfl, k0, k1, k2, k3, k4, k5, k6, k7⟩ := open_Thing h
  have H0 := Lib.hid k0
  have H1 := Lib.hid k1
  have H2 := Lib.hid k2
  have H3 := Lib.hid k3
  have H4 := Lib.hid k4
  have H5 := Lib.hid k5
  have H6 := Lib.hid k6
  have H7 := Lib.hid k7
  unfold maxLen at k1
  unfold maxLen at k2
  unfold maxLen at k5
  have HKAddr := Lib.hid KAddr
  have HKAddrS := Lib.hid KAddrS
  have HKPairS := Lib.hid KPairS
  clear k0 k3 k4 k6 k7 h KAddr KAddrS KPairS
  go_enter Tryz.func5, Tryz.ntmps5
  go_wp2_with fail
  refine (HKAddr.out B [.l l0, .s s1, .s s2, .i x3, .i x4, .s s5] [.slice A0 l0.length c0, .string s1, .string s2, .int .i64 x3, .int .i64 x4, .string s5] a _ ⟨H0.out.below (below_a1 _ _), Cell.mkS H1.out, Cell.mkS H2.out, Cell.mkI H3.out, Cell.mkI H4.out, Cell.mkS H5.out, trivial⟩ h0 h1).mono ?_
  rintro _ w1 ⟨x_1, rfl, HX1, lo1, hi1, hb⟩
  have E1 := Lib.hid (below_then (below_a1 _ _) hb (Nat.le_refl _))
  have B1 := Lib.hid ((Blk.new w _ _).step hb)
  have b1 := B1.out.cell
  clear hb
  by_cases n1 : x_1 < 0
  · go_wp2
    go_ret
    refine ⟨-1, rfl, Lib.hid ?_, by omega, by omega, E1.out⟩
    have q1 := HX1.out
    simp only [cCs, cC] at q1 ⊢; unfold leftI at q1 ⊢; split at q1 <;> first | omega | (rw [if_neg (by omega)])
  have p1 : 0 ≤ x_1 := by omega
  clear n1
  go_wp2_with fail
  refine (HKPairS.out B (.l l6) (.slice A6 l6.length c6) x_1 _ (H6.out.below E1.out) p1 hi1).mono ?_
  rintro _ w2 ⟨x_2, rfl, HX2, lo2, hi2, hb⟩
  have E2 := Lib.hid (below_then E1.out hb (Nat.le_refl _))
  have B2 := Lib.hid (B1.out.step hb)
  have b2 := B2.out.cell
  clear hb b1 B1
  by_cases n2 : x_2 < 0
  · go_wp2
    go_ret
    refine ⟨-1, rfl, Lib.hid ?_, by omega, by omega, E2.out⟩
    have q1 := HX1.out
    have q2 := HX2.out
    simp only [cCs, cC] at q1 q2 ⊢; unfold leftI at q1 q2 ⊢; split at q1 <;> split at q2 <;> first | omega | (rw [if_neg (by omega)])
  have p2 : 0 ≤ x_2 := by omega
  clear n2
  go_wp2_with fail
  refine (HKAddrS.out B (.l l7) (.slice A7 l7.length c7) x_2 _ (H7.out.below E2.out) p2 hi2).mono ?_
  rintro _ w3 ⟨x_3, rfl, HX3, lo3, hi3, hb⟩
  have E3 := Lib.hid (below_then E2.out hb (Nat.le_refl _))
  have B3 := Lib.hid (B2.out.step hb)
  have b3 := B3.out.cell
  clear hb b2 B2
  by_cases n3 : x_3 < 0
  · go_wp2
    go_ret
    refine ⟨-1, rfl, Lib.hid ?_, by omega, by omega, E3.out⟩
    have q1 := HX1.out
    have q2 := HX2.out
    have q3 := HX3.out
    simp only [cCs, cC] at q1 q2 q3 ⊢; unfold leftI at q1 q2 q3 ⊢; split at q1 <;> split at q2 <;> split at q3 <;> first | omega | (rw [if_neg (by omega)])
  have p3 : 0 ≤ x_3 := by omega
  clear n3
  go_wp2
  go_ret
  refine ⟨x_3, rfl, Lib.hid ?_, by omega, by omega, E3.out⟩
  have q1 := HX1.out
  have q2 := HX2.out
  have q3 := HX3.out
  simp only [cCs, cC] at q1 q2 q3 ⊢; unfold leftI at q1 q2 q3 ⊢; split at q1 <;> split at q2 <;> split at q3 <;> first | omega | (rw [if_pos (by omega)]; omega)
theorem szThing_all (n : Nat) : SzThing n := szThing_of (szAddr_all n) (szAddrS_all n) (szPairS_all n)
set_option maxHeartbeats 2000000 in
theorem szThingS_of {n : Nat} (K : ∀ m, m < n → SzThing m) : SzThingS n := fun B d v a w h h0 h1 => by
  obtain ⟨xs, A, c, rfl, rfl, hl⟩ := h.lst
  have H := Lib.hid h
  unfold maxLen at hl
  have HK := Lib.hid K
  clear h K
  by_cases hn : a - (xs.length : Int) < 0
  · go_enter Tryz.func4, Tryz.ntmps4
    go_wp2
    go_ret
    exact ⟨-1, rfl, Lib.hid (by simp only [cC]; unfold leftI; rw [if_neg (by omega)]), by omega, by omega, Below.refl _ _⟩
  · go_enter Tryz.func4, Tryz.ntmps4
    go_wp2
    go_loopw [1, 5] (fun s i wr => ∃ k : Nat, ∃ x : Int, k ≤ xs.length ∧ i = .int .i64 k ∧ s = .int .i64 x ∧ 0 ≤ x ∧ x ≤ 1048576 ∧ x = a - xs.length - cL (xs.take k) ∧ Below w.heap.size w wr) (fun _ i _ => xs.length - (intOf i).toNat)
    case atStart => exact ⟨0, _, Nat.zero_le _, rfl, rfl, by omega, by omega, by simp [cL], Below.refl _ _⟩
    case round =>
      obtain ⟨k, x, hk, rfl, rfl, hx0, hx1, hx, hb⟩ := hrel
      have HX := Lib.hid hx
      have HB := Lib.hid hb
      clear hx hb
      by_cases hlt : k < xs.length
      · obtain ⟨m, b, o, us, hm, rfl, _, hbl, hr, hin⟩ := (H.out.below HB.out).item k hlt
        have HS := Lib.hid (cL_take xs k hlt)
        have HT := Lib.hid (cL_le xs (k + 1))
        have hus := hin.len.2
        have HR := Lib.hid hr
        have HIN := Lib.hid hin
        clear hr hin
        go_wp2_with (refine wpList_load_mid rfl 29 (.tmp 20) rfl b (o + k * 8) rfl us _ HR.out Tryz.underlying29 rfl (by rw [hus]; kernel_rfl) ?_)
        go_wp2_with fail
        refine (HK.out m (by omega) B xs[k] us x _ HIN.out hx0 hx1).mono ?_
        rintro _ w2 ⟨y, rfl, HY, lo, hi, hb⟩
        have E2 := Lib.hid (below_then HB.out hb (Nat.le_refl _))
        clear hb
        by_cases hy : y < 0
        · go_wp2
          go_ret
          refine ⟨-1, rfl, Lib.hid ?_, by omega, by omega, E2.out⟩
          have q1 := HX.out
          have q2 := HS.out
          have q3 := HT.out
          have q4 := HY.out
          simp only [cC] at q4 ⊢
          unfold leftI at q4 ⊢
          split at q4
          · omega
          · rw [if_neg (by omega)]
        · have hy0 : 0 ≤ y := by omega
          clear hy
          go_wp2
          go_roundw
          case rel => exact ⟨k + 1, y, hlt, by go_num, rfl, hy0, hi, by
            have q1 := HX.out
            have q2 := HS.out
            have q4 := HY.out
            (try simp only [cC] at q4)
            unfold leftI at q4
            split at q4 <;> omega, E2.out⟩
          case measure => simp [intOf]; omega
      · obtain rfl : k = xs.length := by omega
        go_wp2
        go_ret
        refine ⟨x, rfl, Lib.hid ?_, by omega, by omega, HB.out⟩
        have q1 := HX.out
        rw [List.take_length] at q1
        simp only [cC]
        unfold leftI
        rw [if_pos (by omega)]; omega
theorem szThingS_all (n : Nat) : SzThingS n := szThingS_of (fun m _ => szThing_all m)
end Go.Proofs.YtflfnekaiaplfaaGreat.un
