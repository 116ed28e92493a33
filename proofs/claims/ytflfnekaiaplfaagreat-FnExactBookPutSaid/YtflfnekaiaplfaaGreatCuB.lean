/- slices.BinarySearchFunc over things. cutBook of the program. -/
import Derived.Test.YtflfnekaiaplfaaGreatBfI
import Derived.Test.YtflfnekaiaplfaaGreatBoL
namespace Go.Proofs.YtflfnekaiaplfaaGreat.cf
open ad mem vl ex un cm Go.Shelf
open Go.ChangeShapes Go.WideShapes Go.ChangeAt Go.RowKit Go.Lib
set_option linter.unusedVariables false
set_option maxRecDepth 8000
set_option linter.unusedSimpArgs false


noncomputable def cf (ds x : List DC) : Int := cm.orI (cm.looks (bA x) (bA ds))
theorem cut_cmp {B B' : Nat → Prop} {n m : Nat} {w : World} {ds ds' : List DC} {vs vs' : List Value} {cv : Int} (hr : cf ds' ds = cv) (h : Cells B n w shThing_ ds vs) (h' : Cells B' m w shAddr_ ds' vs') :
    Calls Tryz.prog 56 #[.agg vs.toArray, .agg vs'.toArray] w (un.Told w (.int .i64 cv)) := by
  unfold cf at hr
  subst hr
  obtain ⟨lq0, sq1, sq2, xq3, xq4, sq5, lq6, lq7, Aq0, cq0, Aq6, cq6, Aq7, cq7, rfl, rfl, kq0, kq1, kq2, kq3, kq4, kq5, -⟩ := open_Thing h
  have HA' := Lib.hid (Gd.ofC h')
  obtain ⟨lr0, sr1, sr2, xr3, xr4, sr5, Ar0, cr0, rfl, rfl, -⟩ := open_Addr h'
  have HA := Lib.hid (Gd.ofC (show Cells B n w shAddr_ [.l lq0, .s sq1, .s sq2, .i xq3, .i xq4, .s sq5] [.slice Aq0 lq0.length cq0, .string sq1, .string sq2, .int .i64 xq3, .int .i64 xq4, .string sq5] from ⟨kq0, Cell.mkS kq1, Cell.mkS kq2, Cell.mkI kq3, Cell.mkI kq4, Cell.mkS kq5, trivial⟩))
  have e : cm.orI (cm.looks (bA [.l lq0, .s sq1, .s sq2, .i xq3, .i xq4, .s sq5, .l lq6, .l lq7]) (bA [.l lr0, .s sr1, .s sr2, .i xr3, .i xr4, .s sr5])) = cm.orI (cm.looks (bA [.l lq0, .s sq1, .s sq2, .i xq3, .i xq4, .s sq5]) (bA [.l lr0, .s sr1, .s sr2, .i xr3, .i xr4, .s sr5])) := rfl
  rw [e]
  clear h h' kq0 kq1 kq2 kq3 kq4 kq5 e
  go_enter Tryz.func56, Tryz.ntmps56
  go_wp2_with fail
  refine (compare_impl ((HA.out.alloc _).alloc _).now ((HA'.out.alloc _).alloc _).now).mono ?_
  rintro _ w1 ⟨rfl, hb⟩
  have E1 := Lib.hid (below_then (below_a2 _ _ _) hb (Nat.le_refl _))
  clear hb HA HA'
  go_wp2
  go_ret
  exact ⟨rfl, E1.out⟩
/-- where an address stands in a book, or would stand. -/
structure Cut (xs : List (List DC)) (ds : List DC) (k : Nat) (there : Bool) : Prop where
  le : k ≤ xs.length
  low : ∀ i (h : i < xs.length), i < k → cf ds xs[i] < 0
  high : ∀ i (h : i < xs.length), k ≤ i → 0 ≤ cf ds xs[i]
  yes : there = true → ∃ h : k < xs.length, cf ds xs[k] = 0
  no : there = false → ∀ h : k < xs.length, cf ds xs[k] ≠ 0
set_option maxHeartbeats 4000000 in
theorem bsearch {B B' : Nat → Prop} {n m c : Nat} {w : World} {xs : List (List DC)} {A : Option Addr} {ds : List DC} {vs : List Value} (h : Cell B n w (.l 8) (.l xs) (.slice A xs.length c)) (h' : Cells B' m w shAddr_ ds vs) (hxl : xs.length ≤ 1000)
    (hmono : ∀ i j (hi : i < xs.length) (hj : j < xs.length), i ≤ j → cf ds xs[j] < 0 → cf ds xs[i] < 0) :
    Calls Tryz.prog 58 #[.slice A xs.length c, .agg vs.toArray, .func (.func 56) #[] #[]] w fun e w' => (∃ k there, e = .returned (.tuple #[.int .i64 (k : Nat), .bool there]) ∧ Cut xs ds k there) ∧ Below w.heap.size w w' := by
  have H := Lib.hid (Gd.of1 h)
  have HA := Lib.hid (Gd.ofC h')
  have HM := Lib.hid hmono
  obtain ⟨lr0, sr1, sr2, xr3, xr4, sr5, Ar0, cr0, hds, rfl, -⟩ := open_Addr h'
  clear h h' hmono hds
  have hbox : Blk (w.alloc (.cells #[.slice Ar0 lr0.length cr0, .string sr1, .string sr2, .int .i64 xr3, .int .i64 xr4, .string sr5] 37)) w.heap.size 37 #[.slice Ar0 lr0.length cr0, .string sr1, .string sr2, .int .i64 xr3, .int .i64 xr4, .string sr5] := Blk.new w _ _
  have BX := Lib.hid hbox
  have E0 := Lib.hid (below_a1 w (.cells #[.slice Ar0 lr0.length cr0, .string sr1, .string sr2, .int .i64 xr3, .int .i64 xr4, .string sr5] 37))
  clear hbox
  go_enter Tryz.func58, Tryz.ntmps58
  go_wp2
  obtain ⟨W1, hW1⟩ : ∃ W1, w.alloc (.cells #[.slice Ar0 lr0.length cr0, .string sr1, .string sr2, .int .i64 xr3, .int .i64 xr4, .string sr5] 37) = W1 := ⟨_, rfl⟩
  rw [hW1] at BX E0 ⊢
  clear hW1
  go_loopw [9, 10] (fun s9 s10 wr => ∃ lo hi : Nat, s9 = .int .i64 lo ∧ s10 = .int .i64 hi ∧ lo ≤ hi ∧ hi ≤ xs.length ∧ ((∀ t (h : t < xs.length), t < lo → cf ds xs[t] < 0) ∧ (∀ t (h : t < xs.length), hi ≤ t → 0 ≤ cf ds xs[t])) ∧ Below W1.heap.size W1 wr) (fun s9 s10 _ => (RowKit.intOf s10).toNat - (RowKit.intOf s9).toNat)
  case atStart => exact ⟨0, xs.length, rfl, rfl, Nat.zero_le _, Nat.le_refl _, ⟨fun t _ ht => absurd ht (Nat.not_lt_zero _), fun t h1 h2 => by omega⟩, Below.refl _ _⟩
  case round =>
    obtain ⟨lo, hi, rfl, rfl, hlh, hin2, hI, hb⟩ := hrel
    have I := Lib.hid hI
    have EB := Lib.hid hb
    have E1 := Lib.hid (below_then E0.out hb (Nat.le_refl _))
    have BR := BX.out.step hb
    clear hI hb
    by_cases hlt : lo < hi
    · obtain ⟨j, hjd⟩ : ∃ j, (lo + hi) / 2 = j := ⟨_, rfl⟩
      have hjlo : lo ≤ j := by omega
      have hjhi : j < hi := by omega
      have hj : j < xs.length := by omega
      have hjM : ((lo : Int) + (hi : Int)) / 2 = (j : Int) := by omega
      obtain ⟨m', b, o, us, hm, rfl, _, hbl, hr, hin⟩ := (H.out.below E1.out).now.item j hj
      obtain rfl : m' = n - 1 := by omega
      have hjI : (j : Int) < xs.length := by omega
      have HI := Lib.hid (Gd.ofC hin)
      obtain ⟨lq0, sq1, sq2, xq3, xq4, sq5, lq6, lq7, Aq0, cq0, Aq6, cq6, Aq7, cq7, ed, rfl, -⟩ := open_Thing hin
      have HR := Lib.hid (show wr.rangeAt b (o + j * 8) _ from hr)
      obtain ⟨cv, hcv⟩ : ∃ cv, cf ds xs[j] = cv := ⟨_, rfl⟩
      have HCV := Lib.hid hcv
      clear hr hin ed hm
      have hzr : w.heap.size < wr.heap.size := BR.lt
      have hcell : ∀ k u, ([.slice Ar0 lr0.length cr0, .string sr1, .string sr2, .int .i64 xr3, .int .i64 xr4, .string sr5] : List Value)[k]? = some u → wr.cell? ⟨w.heap.size, k, none⟩ = some u := fun k u hu => by rw [BR.cell k]; simpa using hu
      have KC := fun (W' : World) (h : Below wr.heap.size wr W') => cut_cmp HCV.out (HI.out.below h).now ((HA.out.below E1.out).below h).now
      have q0 := later_cell (b := b) (o := o + j * 8) hbl (by simpa using HR.out 0 _ rfl)
      have q1 := later_cell (b := b) (o := o + j * 8 + 1) hbl (by simpa using HR.out 1 _ rfl)
      have q2 := later_cell (b := b) (o := o + j * 8 + 2) hbl (by simpa using HR.out 2 _ rfl)
      have q3 := later_cell (b := b) (o := o + j * 8 + 3) hbl (by simpa using HR.out 3 _ rfl)
      have q4 := later_cell (b := b) (o := o + j * 8 + 4) hbl (by simpa using HR.out 4 _ rfl)
      have q5 := later_cell (b := b) (o := o + j * 8 + 5) hbl (by simpa using HR.out 5 _ rfl)
      have q6 := later_cell (b := b) (o := o + j * 8 + 6) hbl (by simpa using HR.out 6 _ rfl)
      have q7 := later_cell (b := b) (o := o + j * 8 + 7) hbl (by simpa using HR.out 7 _ rfl)
      have p0 := later_cell (b := w.heap.size) (o := 0) hzr (hcell 0 _ rfl)
      have p1 := later_cell (b := w.heap.size) (o := 1) hzr (hcell 1 _ rfl)
      have p2 := later_cell (b := w.heap.size) (o := 2) hzr (hcell 2 _ rfl)
      have p3 := later_cell (b := w.heap.size) (o := 3) hzr (hcell 3 _ rfl)
      have p4 := later_cell (b := w.heap.size) (o := 4) hzr (hcell 4 _ rfl)
      have p5 := later_cell (b := w.heap.size) (o := 5) hzr (hcell 5 _ rfl)
      clear hcv hcell
      by_cases hneg : cv < 0
      · go_wp2_with fail
        refine wp_region_later (by kernel_rfl) (by kernel_rfl) ?_
        repeat (go_big_quiet_step ((go_at_call 56; exact later_call (KC _ (later_below _)))))
        refine wpQuiet_nil ?_
        rintro _ ⟨u9, rfl⟩
        have E2 := Lib.hid (below_then E1.out (later_below u9) (Nat.le_refl _))
        have EB2 := Lib.hid (below_then EB.out (later_below u9) (Nat.le_refl _))
        generalize later wr u9 = w9 at E2 EB2 ⊢
        clear q0 p0 q1 p1 q2 p2 q3 p3 q4 p4 q5 p5 q6 q7 KC
        go_wp2
        go_roundw
        case rel => exact ⟨j + 1, hi, by go_num, rfl, by omega, hin2, ⟨fun t h ht => HM.out t j h hj (by omega) (by rw [HCV.out]; exact hneg), I.out.2⟩, EB2.out⟩
        case measure => simp [RowKit.intOf]; omega
      · have hge : 0 ≤ cv := by omega
        clear hneg
        go_wp2_with fail
        refine wp_region_later (by kernel_rfl) (by kernel_rfl) ?_
        repeat (go_big_quiet_step ((go_at_call 56; exact later_call (KC _ (later_below _)))))
        refine wpQuiet_nil ?_
        rintro _ ⟨u9, rfl⟩
        have E2 := Lib.hid (below_then E1.out (later_below u9) (Nat.le_refl _))
        have EB2 := Lib.hid (below_then EB.out (later_below u9) (Nat.le_refl _))
        generalize later wr u9 = w9 at E2 EB2 ⊢
        clear q0 p0 q1 p1 q2 p2 q3 p3 q4 p4 q5 p5 q6 q7 KC
        go_wp2
        go_roundw
        case rel => exact ⟨lo, j, rfl, by go_num, by omega, by omega, ⟨I.out.1, fun t h ht => Int.not_lt.1 fun hh => by
          have := HM.out j t hj h ht hh
          rw [HCV.out] at this; omega⟩, EB2.out⟩
        case measure => simp [RowKit.intOf]; omega
    · obtain rfl : hi = lo := by omega
      by_cases hj : hi < xs.length
      · have hd : decide ((hi : Int) < (xs.length : Int)) = true := by simp; omega
        obtain ⟨m', b, o, us, hm, rfl, _, hbl, hr, hin⟩ := (H.out.below E1.out).now.item hi hj
        obtain rfl : m' = n - 1 := by omega
        have hjI : (hi : Int) < xs.length := by omega
        have HI := Lib.hid (Gd.ofC hin)
        obtain ⟨lq0, sq1, sq2, xq3, xq4, sq5, lq6, lq7, Aq0, cq0, Aq6, cq6, Aq7, cq7, ed, rfl, -⟩ := open_Thing hin
        have HR := Lib.hid (show wr.rangeAt b (o + hi * 8) _ from hr)
        obtain ⟨cv, hcv⟩ : ∃ cv, cf ds xs[hi] = cv := ⟨_, rfl⟩
        have HCV := Lib.hid hcv
        clear hr hin ed hm
        have hzr : w.heap.size < wr.heap.size := BR.lt
        have hcell : ∀ k u, ([.slice Ar0 lr0.length cr0, .string sr1, .string sr2, .int .i64 xr3, .int .i64 xr4, .string sr5] : List Value)[k]? = some u → wr.cell? ⟨w.heap.size, k, none⟩ = some u := fun k u hu => by rw [BR.cell k]; simpa using hu
        have KC := fun (W' : World) (h : Below wr.heap.size wr W') => cut_cmp HCV.out (HI.out.below h).now ((HA.out.below E1.out).below h).now
        have q0 := later_cell (b := b) (o := o + hi * 8) hbl (by simpa using HR.out 0 _ rfl)
        have q1 := later_cell (b := b) (o := o + hi * 8 + 1) hbl (by simpa using HR.out 1 _ rfl)
        have q2 := later_cell (b := b) (o := o + hi * 8 + 2) hbl (by simpa using HR.out 2 _ rfl)
        have q3 := later_cell (b := b) (o := o + hi * 8 + 3) hbl (by simpa using HR.out 3 _ rfl)
        have q4 := later_cell (b := b) (o := o + hi * 8 + 4) hbl (by simpa using HR.out 4 _ rfl)
        have q5 := later_cell (b := b) (o := o + hi * 8 + 5) hbl (by simpa using HR.out 5 _ rfl)
        have q6 := later_cell (b := b) (o := o + hi * 8 + 6) hbl (by simpa using HR.out 6 _ rfl)
        have q7 := later_cell (b := b) (o := o + hi * 8 + 7) hbl (by simpa using HR.out 7 _ rfl)
        have p0 := later_cell (b := w.heap.size) (o := 0) hzr (hcell 0 _ rfl)
        have p1 := later_cell (b := w.heap.size) (o := 1) hzr (hcell 1 _ rfl)
        have p2 := later_cell (b := w.heap.size) (o := 2) hzr (hcell 2 _ rfl)
        have p3 := later_cell (b := w.heap.size) (o := 3) hzr (hcell 3 _ rfl)
        have p4 := later_cell (b := w.heap.size) (o := 4) hzr (hcell 4 _ rfl)
        have p5 := later_cell (b := w.heap.size) (o := 5) hzr (hcell 5 _ rfl)
        clear hcv hcell
        by_cases hz : cv = 0
        · go_wp2_with fail
          refine wp_region_later (by kernel_rfl) (by kernel_rfl) ?_
          repeat (go_big_quiet_step ((go_at_call 56; exact later_call (KC _ (later_below _)))))
          refine wpQuiet_nil ?_
          rintro _ ⟨u9, rfl⟩
          have E2 := Lib.hid (below_then E1.out (later_below u9) (Nat.le_refl _))
          have EB2 := Lib.hid (below_then EB.out (later_below u9) (Nat.le_refl _))
          generalize later wr u9 = w9 at E2 EB2 ⊢
          clear q0 p0 q1 p1 q2 p2 q3 p3 q4 p4 q5 p5 q6 q7 KC
          go_wp2
          go_ret2
          exact ⟨⟨hi, true, by rw [hz]; rfl, ⟨by omega, I.out.1, I.out.2, fun _ => ⟨hj, by rw [HCV.out]; exact hz⟩, fun h => (by cases h)⟩⟩, E2.out⟩
        · go_wp2_with fail
          refine wp_region_later (by kernel_rfl) (by kernel_rfl) ?_
          repeat (go_big_quiet_step ((go_at_call 56; exact later_call (KC _ (later_below _)))))
          refine wpQuiet_nil ?_
          rintro _ ⟨u9, rfl⟩
          have E2 := Lib.hid (below_then E1.out (later_below u9) (Nat.le_refl _))
          have EB2 := Lib.hid (below_then EB.out (later_below u9) (Nat.le_refl _))
          generalize later wr u9 = w9 at E2 EB2 ⊢
          clear q0 p0 q1 p1 q2 p2 q3 p3 q4 p4 q5 p5 q6 q7 KC
          go_wp2
          go_ret2
          exact ⟨⟨hi, false, by simp [hz], ⟨by omega, I.out.1, I.out.2, fun h => (by cases h), fun _ _ => by rw [HCV.out]; exact hz⟩⟩, E2.out⟩
      · have hd : decide ((hi : Int) < (xs.length : Int)) = false := by simp; omega
        go_wp2_with fail
        refine wp_region_later (by kernel_rfl) (by kernel_rfl) ?_
        repeat (go_big_quiet_step (fail))
        refine wpQuiet_nil ?_
        rintro _ ⟨u9, rfl⟩
        have E2 := Lib.hid (below_then E1.out (later_below u9) (Nat.le_refl _))
        generalize later wr u9 = w9 at E2 ⊢
        go_wp2
        go_ret2
        exact ⟨⟨hi, false, rfl, ⟨by omega, I.out.1, I.out.2, fun h => (by cases h), fun _ h => absurd h hj⟩⟩, E2.out⟩
end Go.Proofs.YtflfnekaiaplfaaGreat.cf
namespace Go.Proofs.YtflfnekaiaplfaaGreat.cf
open ad mem vl ex un cm Go.Shelf
open Go.ChangeShapes Go.WideShapes Go.ChangeAt Go.RowKit Go.Lib
set_option linter.unusedVariables false
set_option maxRecDepth 8000
set_option linter.unusedSimpArgs false


def CutRes (A : Option Addr) (xs : List (List DC)) (ds : List DC) (e : Ending) : Prop := ∃ (k : Nat) (there : Bool) (A1 A2 A3 : Option Addr) (n2 c2 c3 to : Nat), e = .returned (.tuple #[.slice A1 k k, .slice A2 n2 c2, .slice A3 (xs.length - to) c3]) ∧ (n2 = 0 ↔ there = false) ∧ to = k + (if there then 1 else 0) ∧ to ≤ xs.length ∧ (0 < k → A1 = A) ∧ (to < xs.length → ∃ b o, A = some ⟨b, o, none⟩ ∧ A3 = some ⟨b, o + to * 8, none⟩) ∧ Cut xs ds k there
set_option maxHeartbeats 4000000 in
theorem cutBook_impl {B B' : Nat → Prop} {n m c : Nat} {w : World} {xs : List (List DC)} {A : Option Addr} {ds : List DC} {vs : List Value} (h : Cell B n w (.l 8) (.l xs) (.slice A xs.length c)) (h' : Cells B' m w shAddr_ ds vs) (hxl : xs.length ≤ 1000) (hcap : xs.length ≤ c) (hcm : c ≤ maxLen)
    (hmono : ∀ i j (hi : i < xs.length) (hj : j < xs.length), i ≤ j → cf ds xs[j] < 0 → cf ds xs[i] < 0) :
    Calls Tryz.prog 30 #[.slice A xs.length c, .agg vs.toArray] w fun e w' => CutRes A xs ds e ∧ Below w.heap.size w w' := by
  have HX := Lib.hid (Gd.of1 h)
  have HA := Lib.hid (Gd.ofC h')
  have HM := Lib.hid hmono
  obtain ⟨lr0, sr1, sr2, xr3, xr4, sr5, Ar0, cr0, hds, rfl, -⟩ := open_Addr h'
  clear h' hmono hds
  unfold maxLen at hcm
  have E0 := Lib.hid (below_a1 w (.cells #[.slice Ar0 lr0.length cr0, .string sr1, .string sr2, .int .i64 xr3, .int .i64 xr4, .string sr5] 37))
  have hA : xs.length = 0 ∨ ∃ b o, A = some ⟨b, o, none⟩ := by
    rcases Nat.eq_zero_or_pos xs.length with e | e
    · exact .inl e
    · obtain ⟨_, b, o, _, _, e2, _⟩ := h.item 0 e
      exact .inr ⟨b, o, e2⟩
  clear h
  go_enter Tryz.func30, Tryz.ntmps30
  go_wp2_with fail
  refine (bsearch (HX.out.alloc _).now (HA.out.alloc _).now hxl HM.out).mono ?_
  rintro _ w1 ⟨⟨k, there, rfl, hcut⟩, hb⟩
  have HC := Lib.hid hcut
  have E1 := Lib.hid (below_then E0.out hb (Nat.le_refl _))
  have hk := hcut.le
  clear hcut hb
  have hkc : k ≤ c := by omega
  have hkI : (k : Int) ≤ (xs.length : Int) := by omega
  have hkC : (k : Int) ≤ (c : Int) := by omega
  have hcI : (xs.length : Int) ≤ (c : Int) := by omega
  cases there
  · cases A with
    | none =>
      go_wp2_with fail
      refine wp_region_later (by kernel_rfl) (by kernel_rfl) ?_
      repeat (go_big_quiet_step (fail))
      refine wpQuiet_nil ?_
      rintro _ ⟨u9, rfl⟩
      have E2 := Lib.hid (below_then E1.out (later_below u9) (Nat.le_refl _))
      generalize later w1 u9 = w9 at E2 ⊢
      go_wp2
      all_goals go_ret3
      have h0 : xs.length = 0 := by
        rcases hA with h | ⟨b, o, h⟩
        · exact h
        · cases h
      exact ⟨⟨k, false, none, none, none, 0, 0, xs.length - k, k, rfl, by simp, by simp, hk, fun _ => rfl, fun h => by omega, HC.out⟩, E2.out⟩
    | some ad =>
      go_wp2_with fail
      refine wp_region_later (by kernel_rfl) (by kernel_rfl) ?_
      repeat (go_big_quiet_step (fail))
      refine wpQuiet_nil ?_
      rintro _ ⟨u9, rfl⟩
      have E2 := Lib.hid (below_then E1.out (later_below u9) (Nat.le_refl _))
      generalize later w1 u9 = w9 at E2 ⊢
      go_wp2
      all_goals go_ret3
      all_goals first
        | exact ⟨⟨k, false, some ad, some ad, some (ad.add (k * 8)), 0, 0, xs.length - k, k, rfl, by simp, by simp, hk, fun _ => rfl, fun h => by
            rcases hA with h0 | ⟨b, o, h0⟩
            · omega
            · injection h0 with h0; subst h0; exact ⟨b, o, rfl, by rw [un.addr_add]⟩, HC.out⟩, E2.out⟩
        | exact ⟨⟨k, false, some ad, some ad, some ad, 0, 0, 0, k, by rw [show xs.length - k = 0 by omega]; rfl, by simp, by simp, hk, fun _ => rfl, fun h => by omega, HC.out⟩, E2.out⟩
  · have hk1 : k < xs.length := (HC.out.yes rfl).1
    have hkI1 : (k : Int) + 1 ≤ (xs.length : Int) := by omega
    have hkC1 : (k : Int) + 1 ≤ (c : Int) := by omega
    obtain ⟨b, o, rfl⟩ : ∃ b o, A = some ⟨b, o, none⟩ := by
      rcases hA with h0 | h0
      · omega
      · exact h0
    go_wp2_with fail
    refine wp_region_later (by kernel_rfl) (by kernel_rfl) ?_
    repeat (go_big_quiet_step (fail))
    refine wpQuiet_nil ?_
    rintro _ ⟨u9, rfl⟩
    have E2 := Lib.hid (below_then E1.out (later_below u9) (Nat.le_refl _))
    generalize later w1 u9 = w9 at E2 ⊢
    go_wp2
    all_goals go_ret3
    all_goals first
      | exact ⟨⟨k, true, some ⟨b, o, none⟩, some ⟨b, o + k * 8, none⟩, some ⟨b, o + (k + 1) * 8, none⟩, 1, 1, xs.length - (k + 1), k + 1, rfl, by simp, by simp, by omega, fun _ => rfl, fun h => ⟨b, o, rfl, rfl⟩, HC.out⟩, E2.out⟩
      | exact ⟨⟨k, true, some ⟨b, o, none⟩, some ⟨b, o + k * 8, none⟩, some ⟨b, o, none⟩, 1, 1, 0, k + 1, by rw [show xs.length - (k + 1) = 0 by omega]; rfl, by simp, by simp, by omega, fun _ => rfl, fun h => by omega, HC.out⟩, E2.out⟩
end Go.Proofs.YtflfnekaiaplfaaGreat.cf
