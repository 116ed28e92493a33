/- Meets of the model. -/
import Derived.Test.YtflfnekaiaplfaaMwP
import Derived.Test.YtflfnekaiaplfaaMvS
import Derived.Test.YtflfnekaiaplfaaUnd
import Derived.Test.YtflfnekaiaplfaaBareS
import Derived.Test.YtflfnekaiaplfaaRm
import Derived.Test.YtflfnekaiaplfaaCpS
import Derived.Deep.CutBlock
import Derived.Deep.DeepCutAuto
import Derived.Deep.RegionHeld3
import Derived.BigQuiet
import Derived.BigRegion
import Derived.Deep.QuietTactic
import Derived.Outline
namespace Go.Proofs.Ytflfnekaiaplfaa.cf
open ad mem vl ex un
open Go.ChangeShapes Go.WideShapes Go.ChangeAt Go.RowKit Go.Lib
set_option linter.unusedVariables false
set_option maxRecDepth 8000
set_option linter.unusedSimpArgs false

theorem blk_drew {w : World} {g : Nat} {T : TypeId} {cs : Array Value} (h : Blk w g T cs) : Blk w.drew g T cs := h
theorem below_drew {w w' : World} {n : Nat} (h : Below n w w') : Below n w w'.drew := below_dn h 1
theorem new_at {w : World} {g : Nat} {T : TypeId} {cs : Array Value} (h : w.heap.size = g) : Blk (w.alloc (.cells cs T)) g T cs := by subst h; exact Blk.new _ _ _
set_option maxHeartbeats 1000000 in
theorem starts_any (A B : Option Addr) (c c' : Nat) (l m : List ByteArray) (w : World) (h : Strs w A l) (h' : Strs w B m) (hl : l.length ≤ maxLen) (hm : m.length ≤ maxLen) (hcap : l.length ≤ c) (hcm : c ≤ maxLen) :
    Calls Try.prog 50 #[.slice A l.length c, .slice B m.length c'] w (un.Told w (.bool (begB l m))) := by
  by_cases hle : m.length ≤ l.length
  · have K : ∀ W, Strs W A l → Strs W B m → Calls Try.prog 51 #[.slice A m.length c, .slice B m.length c'] W (cm.Quiet W (.int .i64 (cm.wordsI (l.take m.length) m))) := fun W h h' => by
      have := cm.words_spec A B c c' (l.take m.length) m W (cm.Strs_take h _) h' (by simp; omega) hm
      rwa [List.length_take, Nat.min_eq_left hle] at this
    have HK := Lib.hid K
    have H := Lib.hid h
    have H' := Lib.hid h'
    have hle' : (m.length : Int) ≤ l.length := by omega
    have hpc : m.length ≤ c := by omega
    have hpc' : (m.length : Int) ≤ c := by omega
    have HT : Hid ((cm.wordsI (l.take m.length) m == 0) = begB l m) := cm.take_words (l := l) (m := m)
    unfold maxLen at hl hm hcm
    clear h h' K hle
    go_enter Try.func50, Try.ntmps50
    go_wp2_with (go_at_call 51; refine (HK.out _ H.out H'.out).mono ?_; rintro _ _ ⟨rfl, n, rfl⟩)
    all_goals go_ret
    all_goals exact ⟨ret_bool (by rw [← HT.out]), below_d _ _⟩
  · have HT : Hid (decide (cm.pre l m = m.length) = false) := cm.pre_short (l := l) (m := m) (by omega)
    have hle' : ¬ (m.length : Int) ≤ l.length := by omega
    clear h h'
    go_enter Try.func50, Try.ntmps50
    go_wp2
    go_ret
    exact ⟨ret_bool HT.out.symm, Below.refl _ _⟩
theorem starts_spec {B B' : Nat → Prop} {n n' c c' : Nat} {w : World} {xs ys : List (List DC)} {A A' : Option Addr} {l m : List ByteArray} {r : Bool} (hl : bStrs xs = l) (hm : bStrs ys = m) (hr : begB l m = r) (h : Cell B n w (.l 0) (.l xs) (.slice A xs.length c)) (h' : Cell B' n' w (.l 0) (.l ys) (.slice A' ys.length c')) (hk : xs.length ≤ c ∧ c ≤ maxLen) :
    Calls Try.prog 50 #[.slice A xs.length c, .slice A' ys.length c'] w (un.Told w (.bool r)) := by
  subst hl hm hr
  have h1 := h.len.2
  have h2 := h'.len.2
  have := starts_any A A' c c' (bStrs xs) (bStrs ys) w (strs_of h) (strs_of h') (by rw [bStrs_len]; exact h1) (by rw [bStrs_len]; exact h2) (by rw [bStrs_len]; exact hk.1) hk.2
  rwa [bStrs_len, bStrs_len] at this
theorem bare_made {B : Nat → Prop} {n : Nat} {w : World} {ds : List DC} {vs : List Value} {D : AddrD} (hD : bA ds = D) (h : Cells B n w shAddr_ ds vs) (hl : D.path.length ≤ 1000000) :
    Calls Try.prog 39 #[.agg vs.toArray] w (bare.Made w (kBare D)) := by
  subst hD
  obtain ⟨A, c, rfl, h1, h2, h3, h4, h5⟩ := addr_in h
  exact bare.l02Bare_any A c _ w h1 hl
set_option maxHeartbeats 4000000 in
theorem l07Meets_spec {B B' : Nat → Prop} {n n' : Nat} {w : World} {ds ds' : List DC} {vs vs' : List Value} (h : Cells B n w shMove_ ds vs) (h' : Cells B' n' w shMove_ ds' vs') (hr : RoomL vs) (hr' : RoomL vs') (hA : MvOk (bM ds)) (hB : MvOk (bM ds')) :
    Calls Try.prog 32 #[.agg vs.toArray, .agg vs'.toArray] w (un.Told w (.bool (meetD (bM ds) (bM ds')))) := by
  obtain ⟨xa0, la1, sa2, sa3, xa4, xa5, sa6, la7, sa8, sa9, xa10, xa11, sa12, Aa1, ca1, Aa7, ca7, rfl, rfl, ka0, ka1, ka2, ka3, ka4, ka5, ka6, ka7, ka8, ka9, ka10, ka11, ka12⟩ := open_Move h
  obtain ⟨xb0, lb1, sb2, sb3, xb4, xb5, sb6, lb7, sb8, sb9, xb10, xb11, sb12, Ab1, cb1, Ab7, cb7, rfl, rfl, kb0, kb1, kb2, kb3, kb4, kb5, kb6, kb7, kb8, kb9, kb10, kb11, kb12⟩ := open_Move h'
  have RA : Hid (la7.length ≤ ca7 ∧ ca7 ≤ maxLen) := (by (have := hr (.slice Aa7 la7.length ca7) (by simp) _ _ _ rfl); exact ⟨this.1, this.2.1⟩)
  have RB : Hid (lb1.length ≤ cb1 ∧ cb1 ≤ maxLen) := (by (have := hr' (.slice Ab1 lb1.length cb1) (by simp) _ _ _ rfl); exact ⟨this.1, this.2.1⟩)
  have HPA := Lib.hid (Gd.of1 ka7)
  have HPB := Lib.hid (Gd.of1 kb1)
  clear h h' hr hr'
  have HFa := Lib.hid (Gd.ofC (show Cells B n w shAddr_ [.l la1, .s sa2, .s sa3, .i xa4, .i xa5, .s sa6] [.slice Aa1 la1.length ca1, .string sa2, .string sa3, .int .i64 xa4, .int .i64 xa5, .string sa6] from ⟨ka1, Cell.mkS ka2, Cell.mkS ka3, Cell.mkI ka4, Cell.mkI ka5, Cell.mkS ka6, trivial⟩))
  have HTa := Lib.hid (Gd.ofC (show Cells B n w shAddr_ [.l la7, .s sa8, .s sa9, .i xa10, .i xa11, .s sa12] [.slice Aa7 la7.length ca7, .string sa8, .string sa9, .int .i64 xa10, .int .i64 xa11, .string sa12] from ⟨ka7, Cell.mkS ka8, Cell.mkS ka9, Cell.mkI ka10, Cell.mkI ka11, Cell.mkS ka12, trivial⟩))
  have HMa := Lib.hid (Gd.ofC (show Cells B n w shMove_ [.i xa0, .l la1, .s sa2, .s sa3, .i xa4, .i xa5, .s sa6, .l la7, .s sa8, .s sa9, .i xa10, .i xa11, .s sa12] [.int .i64 xa0, .slice Aa1 la1.length ca1, .string sa2, .string sa3, .int .i64 xa4, .int .i64 xa5, .string sa6, .slice Aa7 la7.length ca7, .string sa8, .string sa9, .int .i64 xa10, .int .i64 xa11, .string sa12] from ⟨Cell.mkI ka0, ka1, Cell.mkS ka2, Cell.mkS ka3, Cell.mkI ka4, Cell.mkI ka5, Cell.mkS ka6, ka7, Cell.mkS ka8, Cell.mkS ka9, Cell.mkI ka10, Cell.mkI ka11, Cell.mkS ka12, trivial⟩))
  clear ka0 ka1 ka2 ka3 ka4 ka5 ka6 ka7 ka8 ka9 ka10 ka11 ka12
  obtain ⟨DFa, hFa⟩ : ∃ D, bA [.l la1, .s sa2, .s sa3, .i xa4, .i xa5, .s sa6] = D := ⟨_, rfl⟩
  obtain ⟨DTa, hTa⟩ : ∃ D, bA [.l la7, .s sa8, .s sa9, .i xa10, .i xa11, .s sa12] = D := ⟨_, rfl⟩
  have ea : bM [.i xa0, .l la1, .s sa2, .s sa3, .i xa4, .i xa5, .s sa6, .l la7, .s sa8, .s sa9, .i xa10, .i xa11, .s sa12] = ⟨xa0, DFa, DTa⟩ := by rw [← hFa, ← hTa]; rfl
  have HFb := Lib.hid (Gd.ofC (show Cells B' n' w shAddr_ [.l lb1, .s sb2, .s sb3, .i xb4, .i xb5, .s sb6] [.slice Ab1 lb1.length cb1, .string sb2, .string sb3, .int .i64 xb4, .int .i64 xb5, .string sb6] from ⟨kb1, Cell.mkS kb2, Cell.mkS kb3, Cell.mkI kb4, Cell.mkI kb5, Cell.mkS kb6, trivial⟩))
  have HTb := Lib.hid (Gd.ofC (show Cells B' n' w shAddr_ [.l lb7, .s sb8, .s sb9, .i xb10, .i xb11, .s sb12] [.slice Ab7 lb7.length cb7, .string sb8, .string sb9, .int .i64 xb10, .int .i64 xb11, .string sb12] from ⟨kb7, Cell.mkS kb8, Cell.mkS kb9, Cell.mkI kb10, Cell.mkI kb11, Cell.mkS kb12, trivial⟩))
  have HMb := Lib.hid (Gd.ofC (show Cells B' n' w shMove_ [.i xb0, .l lb1, .s sb2, .s sb3, .i xb4, .i xb5, .s sb6, .l lb7, .s sb8, .s sb9, .i xb10, .i xb11, .s sb12] [.int .i64 xb0, .slice Ab1 lb1.length cb1, .string sb2, .string sb3, .int .i64 xb4, .int .i64 xb5, .string sb6, .slice Ab7 lb7.length cb7, .string sb8, .string sb9, .int .i64 xb10, .int .i64 xb11, .string sb12] from ⟨Cell.mkI kb0, kb1, Cell.mkS kb2, Cell.mkS kb3, Cell.mkI kb4, Cell.mkI kb5, Cell.mkS kb6, kb7, Cell.mkS kb8, Cell.mkS kb9, Cell.mkI kb10, Cell.mkI kb11, Cell.mkS kb12, trivial⟩))
  clear kb0 kb1 kb2 kb3 kb4 kb5 kb6 kb7 kb8 kb9 kb10 kb11 kb12
  obtain ⟨DFb, hFb⟩ : ∃ D, bA [.l lb1, .s sb2, .s sb3, .i xb4, .i xb5, .s sb6] = D := ⟨_, rfl⟩
  obtain ⟨DTb, hTb⟩ : ∃ D, bA [.l lb7, .s sb8, .s sb9, .i xb10, .i xb11, .s sb12] = D := ⟨_, rfl⟩
  have eb : bM [.i xb0, .l lb1, .s sb2, .s sb3, .i xb4, .i xb5, .s sb6, .l lb7, .s sb8, .s sb9, .i xb10, .i xb11, .s sb12] = ⟨xb0, DFb, DTb⟩ := by rw [← hFb, ← hTb]; rfl
  rw [ea] at hA ⊢
  rw [eb] at hB ⊢
  have pa : Hid (bStrs la7 = DTa.path) := by rw [← hTa]; rfl
  have pb : Hid (bStrs lb1 = DFb.path) := by rw [← hFb]; rfl
  have HA := Lib.hid hA
  have HB := Lib.hid hB
  clear hA hB
  go_enter Try.func32, Try.ntmps32
  go_wp2_with fail
  go_cut [5, 6] (fun s5 s6 wx => ∃ g5 g6 : Nat, s5 = .pointer (some ⟨g5, 0, none⟩) ∧ s6 = .pointer (some ⟨g6, 0, none⟩) ∧ Blk wx g5 29 #[.slice Aa7 la7.length ca7, .string sa8, .string sa9, .int .i64 xa10, .int .i64 xa11, .string sa12] ∧ Blk wx g6 29 #[.slice Ab1 lb1.length cb1, .string sb2, .string sb3, .int .i64 xb4, .int .i64 xb5, .string sb6] ∧ Blk wx w.heap.size 34 #[.int .i64 xa0, .slice Aa1 la1.length ca1, .string sa2, .string sa3, .int .i64 xa4, .int .i64 xa5, .string sa6, .slice Aa7 la7.length ca7, .string sa8, .string sa9, .int .i64 xa10, .int .i64 xa11, .string sa12] ∧ Blk wx (w.heap.size + 1) 34 #[.int .i64 xb0, .slice Ab1 lb1.length cb1, .string sb2, .string sb3, .int .i64 xb4, .int .i64 xb5, .string sb6, .slice Ab7 lb7.length cb7, .string sb8, .string sb9, .int .i64 xb10, .int .i64 xb11, .string sb12] ∧ Below w.heap.size w wx)
  case first =>
    go_region
    all_goals (go_wp2_with fail; go_meet; refine ⟨_, _, rfl, rfl, ?_, ?_, ?_, ?_, ?_⟩)
    all_goals (first
      | ((repeat (first | with_reducible refine blk_drew ?_ | exact new_at (by simp) | exact new_at rfl | with_reducible refine Blk.alloc ?_ _)); done)
      | ((repeat (first | with_reducible exact Below.refl _ _ | with_reducible refine below_drew ?_ | with_reducible refine below_da ?_ (Nat.le_refl _) _)); done)
      | trace_state)
  case rest =>
    obtain ⟨g5, g6, rfl, rfl, hx, hy, ha, hb', hb⟩ := hcut
    rename World => w1
    have E1 := Lib.hid hb
    have Bx1 := Lib.hid hx
    have By1 := Lib.hid hy
    have Ba1 := Lib.hid ha
    have Bb1 := Lib.hid hb'
    have rx1 := Bx1.out.cell
    have ry1 := By1.out.cell
    have ra1 := Ba1.out.cell
    have rb1 := Bb1.out.cell
    have bx1 := Bx1.out.lt
    have by1 := By1.out.lt
    have ba1 := Ba1.out.lt
    have bb1 := Bb1.out.lt
    have SX1 := Lib.hid (HTa.out.below hb)
    have SY1 := Lib.hid (HFb.out.below hb)
    have SP1 := Lib.hid (HPA.out.below hb)
    have SQ1 := Lib.hid (HPB.out.below hb)
    clear hx hy ha hb' hb HTa HFb HPA HPB
    by_cases h3 : xa0 = 3 ∧ xb0 = 3
    · have h3' := h3.2
      replace h3 := h3.1
      cases h1 : begB DTa.path DFb.path
      · go_wp2_with fail
        refine (starts_spec pa.out pb.out h1 (SP1.out).now (SQ1.out).now RA.out).mono ?_
        rintro _ w2 ⟨rfl, hb⟩
        have E2 := Lib.hid (below_then E1.out hb (Nat.le_refl _))
        have Bx2 := Lib.hid ((Bx1.out).step hb)
        have rx2 := Bx2.out.cell
        have bx2 := Bx2.out.lt
        have By2 := Lib.hid ((By1.out).step hb)
        have ry2 := By2.out.cell
        have by2 := By2.out.lt
        have Ba2 := Lib.hid ((Ba1.out).step hb)
        have ra2 := Ba2.out.cell
        have ba2 := Ba2.out.lt
        have Bb2 := Lib.hid ((Bb1.out).step hb)
        have rb2 := Bb2.out.cell
        have bb2 := Bb2.out.lt
        have SX2 := Lib.hid ((SX1.out).below hb)
        have SY2 := Lib.hid ((SY1.out).below hb)
        have SP2 := Lib.hid ((SP1.out).below hb)
        have SQ2 := Lib.hid ((SQ1.out).below hb)
        clear hb Bx1 rx1 bx1 By1 ry1 by1 Ba1 ra1 ba1 Bb1 rb1 bb1 SX1 SY1 SP1 SQ1 E1
        cases h2 : begB DFb.path DTa.path
        all_goals
          go_wp2_with fail
          refine (starts_spec pb.out pa.out h2 (SQ2.out).now (SP2.out).now RB.out).mono ?_
          rintro _ w3 ⟨rfl, hb⟩
          have E3 := Lib.hid (below_then E2.out hb (Nat.le_refl _))
          have Bx3 := Lib.hid ((Bx2.out).step hb)
          have rx3 := Bx3.out.cell
          have bx3 := Bx3.out.lt
          have By3 := Lib.hid ((By2.out).step hb)
          have ry3 := By3.out.cell
          have by3 := By3.out.lt
          have Ba3 := Lib.hid ((Ba2.out).step hb)
          have ra3 := Ba3.out.cell
          have ba3 := Ba3.out.lt
          have Bb3 := Lib.hid ((Bb2.out).step hb)
          have rb3 := Bb3.out.cell
          have bb3 := Bb3.out.lt
          have SX3 := Lib.hid ((SX2.out).below hb)
          have SY3 := Lib.hid ((SY2.out).below hb)
          have SP3 := Lib.hid ((SP2.out).below hb)
          have SQ3 := Lib.hid ((SQ2.out).below hb)
          clear hb Bx2 rx2 bx2 By2 ry2 by2 Ba2 ra2 ba2 Bb2 rb2 bb2 SX2 SY2 SP2 SQ2 E2
          go_wp2
          all_goals go_ret
          all_goals exact ⟨ret_bool (by simp [meetD, h3, h3', h1, h2]), E3.out⟩
      go_wp2_with fail
      refine (starts_spec pa.out pb.out h1 (SP1.out).now (SQ1.out).now RA.out).mono ?_
      rintro _ w2 ⟨rfl, hb⟩
      have E2 := Lib.hid (below_then E1.out hb (Nat.le_refl _))
      have Bx2 := Lib.hid ((Bx1.out).step hb)
      have rx2 := Bx2.out.cell
      have bx2 := Bx2.out.lt
      have By2 := Lib.hid ((By1.out).step hb)
      have ry2 := By2.out.cell
      have by2 := By2.out.lt
      have Ba2 := Lib.hid ((Ba1.out).step hb)
      have ra2 := Ba2.out.cell
      have ba2 := Ba2.out.lt
      have Bb2 := Lib.hid ((Bb1.out).step hb)
      have rb2 := Bb2.out.cell
      have bb2 := Bb2.out.lt
      have SX2 := Lib.hid ((SX1.out).below hb)
      have SY2 := Lib.hid ((SY1.out).below hb)
      have SP2 := Lib.hid ((SP1.out).below hb)
      have SQ2 := Lib.hid ((SQ1.out).below hb)
      clear hb Bx1 rx1 bx1 By1 ry1 by1 Ba1 ra1 ba1 Bb1 rb1 bb1 SX1 SY1 SP1 SQ1 E1
      go_wp2
      all_goals go_ret
      all_goals refine ⟨ret_bool ?_, E2.out⟩
      all_goals (clear HA HB)
      all_goals (simp [meetD, h3, h3', h1])
    by_cases h4 : xa0 = 3
    · have h4' : xb0 ≠ 3 := fun e => h3 ⟨h4, e⟩
      clear h3
      obtain ⟨r2, h2⟩ : ∃ r, begB DFb.path DTa.path = r := ⟨_, rfl⟩
      go_wp2_with fail
      refine (starts_spec pb.out pa.out h2 (SQ1.out).now (SP1.out).now RB.out).mono ?_
      rintro _ w2 ⟨rfl, hb⟩
      have E2 := Lib.hid (below_then E1.out hb (Nat.le_refl _))
      have Bx2 := Lib.hid ((Bx1.out).step hb)
      have rx2 := Bx2.out.cell
      have bx2 := Bx2.out.lt
      have By2 := Lib.hid ((By1.out).step hb)
      have ry2 := By2.out.cell
      have by2 := By2.out.lt
      have Ba2 := Lib.hid ((Ba1.out).step hb)
      have ra2 := Ba2.out.cell
      have ba2 := Ba2.out.lt
      have Bb2 := Lib.hid ((Bb1.out).step hb)
      have rb2 := Bb2.out.cell
      have bb2 := Bb2.out.lt
      have SX2 := Lib.hid ((SX1.out).below hb)
      have SY2 := Lib.hid ((SY1.out).below hb)
      have SP2 := Lib.hid ((SP1.out).below hb)
      have SQ2 := Lib.hid ((SQ1.out).below hb)
      clear hb Bx1 rx1 bx1 By1 ry1 by1 Ba1 ra1 ba1 Bb1 rb1 bb1 SX1 SY1 SP1 SQ1 E1
      go_wp2
      all_goals go_ret
      all_goals refine ⟨ret_bool ?_, E2.out⟩
      all_goals (clear HA HB)
      all_goals (simp [meetD, h4, h4', h2])
    clear h3
    by_cases h5 : xb0 = 3
    · obtain ⟨r1, h1⟩ : ∃ r, begB DTa.path DFb.path = r := ⟨_, rfl⟩
      go_wp2_with fail
      refine (starts_spec pa.out pb.out h1 (SP1.out).now (SQ1.out).now RA.out).mono ?_
      rintro _ w2 ⟨rfl, hb⟩
      have E2 := Lib.hid (below_then E1.out hb (Nat.le_refl _))
      have Bx2 := Lib.hid ((Bx1.out).step hb)
      have rx2 := Bx2.out.cell
      have bx2 := Bx2.out.lt
      have By2 := Lib.hid ((By1.out).step hb)
      have ry2 := By2.out.cell
      have by2 := By2.out.lt
      have Ba2 := Lib.hid ((Ba1.out).step hb)
      have ra2 := Ba2.out.cell
      have ba2 := Ba2.out.lt
      have Bb2 := Lib.hid ((Bb1.out).step hb)
      have rb2 := Bb2.out.cell
      have bb2 := Bb2.out.lt
      have SX2 := Lib.hid ((SX1.out).below hb)
      have SY2 := Lib.hid ((SY1.out).below hb)
      have SP2 := Lib.hid ((SP1.out).below hb)
      have SQ2 := Lib.hid ((SQ1.out).below hb)
      clear hb Bx1 rx1 bx1 By1 ry1 by1 Ba1 ra1 ba1 Bb1 rb1 bb1 SX1 SY1 SP1 SQ1 E1
      go_wp2
      all_goals go_ret
      all_goals refine ⟨ret_bool ?_, E2.out⟩
      all_goals (clear HA HB)
      all_goals (simp [meetD, h4, h5, h1])
    by_cases h6 : xa0 = 2 ∨ xb0 = 2
    · have ZX : Hid (Sz (kBare DTa)) := (by (have z := sz_of SX1.out.now; rw [hTa] at z); exact ⟨z.typ, z.nam, by simp [kBare, maxLen], z.path, by (show R64 0; unfold R64; omega), by (show R64 0; unfold R64; omega)⟩)
      have ZY : Hid (Sz (kBare DFb)) := (by (have z := sz_of SY1.out.now; rw [hFb] at z); exact ⟨z.typ, z.nam, by simp [kBare, maxLen], z.path, by (show R64 0; unfold R64; omega), by (show R64 0; unfold R64; omega)⟩)
      have LX : Hid (DTa.path.length ≤ 1000000) := (by (have := (small_of (HA.out.right h4).2).len); show _ ≤ _; simp only at this; omega)
      have LY : Hid (DFb.path.length ≤ 1000000) := (by (have := (small_of (HB.out.right h5).1).len); show _ ≤ _; simp only at this; omega)
      obtain ⟨r, hr⟩ : ∃ r, adl.eqA (kBare DTa) (kBare DFb) = r := ⟨_, rfl⟩
      have HR : Hid (meetD ⟨xa0, DFa, DTa⟩ ⟨xb0, DFb, DTb⟩ = r) := (by (show _ = _); rw [← hr]; simp only [meetD, h4, h5, false_and, if_false, and_self]; rw [if_pos h6])
      have hk2 : (xa0 == 2 || xb0 == 2) = true := (by rcases h6 with h | h <;> simp [h])
      go_wp2_with fail
      all_goals
        refine wp_region_held_drew (S := fun w' => Blk w' g5 29 #[.slice Aa7 la7.length ca7, .string sa8, .string sa9, .int .i64 xa10, .int .i64 xa11, .string sa12] ∧ Blk w' g6 29 #[.slice Ab1 lb1.length cb1, .string sb2, .string sb3, .int .i64 xb4, .int .i64 xb5, .string sb6]) (by kernel_rfl) ⟨Bx1.out.step (below_d w1 1), By1.out.step (below_d w1 1)⟩ (fun _ => ?_)
        have hb := below_d w1 1
        have hdr : w1.drew = w1.drewN 1 := rfl
        rw [hdr]
        obtain ⟨w2, hWd⟩ : ∃ W, w1.drewN 1 = W := ⟨_, rfl⟩
        rw [hWd] at hb ⊢
        have E2 := Lib.hid (below_then E1.out hb (Nat.le_refl _))
        have Bx2 := Lib.hid ((Bx1.out).step hb)
        have rx2 := Bx2.out.cell
        have bx2 := Bx2.out.lt
        have By2 := Lib.hid ((By1.out).step hb)
        have ry2 := By2.out.cell
        have by2 := By2.out.lt
        have Ba2 := Lib.hid ((Ba1.out).step hb)
        have ra2 := Ba2.out.cell
        have ba2 := Ba2.out.lt
        have Bb2 := Lib.hid ((Bb1.out).step hb)
        have rb2 := Bb2.out.cell
        have bb2 := Bb2.out.lt
        have SX2 := Lib.hid ((SX1.out).below hb)
        have SY2 := Lib.hid ((SY1.out).below hb)
        have SP2 := Lib.hid ((SP1.out).below hb)
        have SQ2 := Lib.hid ((SQ1.out).below hb)
        clear hb hWd hdr
        refine wpAnyH_take (i := 0) (v := .agg #[.slice Aa7 la7.length ca7, .string sa8, .string sa9, .int .i64 xa10, .int .i64 xa11, .string sa12]) rfl (by kernel_rfl) (by kernel_rfl) (by kernel_rfl) (fun _ _ _ h => h) (Or.inl ⟨by rfl, ?_⟩) ⟨Bx2.out, By2.out⟩ ?_
        · intro w' hSw
          have hc1 := Blk.cell hSw.1
          have hc2 := Blk.cell hSw.2
          go_simp
        try simp only [Act.put, List.setIfInBounds_toArray, List.set_cons_zero, List.set_cons_succ]
        refine wpAnyH_take (i := 2) (v := .agg #[.slice Ab1 lb1.length cb1, .string sb2, .string sb3, .int .i64 xb4, .int .i64 xb5, .string sb6]) rfl (by kernel_rfl) (by kernel_rfl) (by kernel_rfl) (fun _ _ _ h => h) (Or.inl ⟨by rfl, ?_⟩) ⟨Bx2.out, By2.out⟩ ?_
        · intro w' hSw
          have hc1 := Blk.cell hSw.1
          have hc2 := Blk.cell hSw.2
          go_simp
        try simp only [Act.put, List.setIfInBounds_toArray, List.set_cons_zero, List.set_cons_succ]
        refine wpAnyH_ready (rs := [1]) (by kernel_rfl) (by simp) ?_
        refine AllReadyH.cons rfl (fun K hK => ?_) ?_
        · go_simp
          refine (bare_made hTa (SX2.out).now LX.out).mono ?_
          rintro _ w3 ⟨AX, cX, rfl, ho, hb⟩
          have NX0 := Lib.hid (Gd.ofC (own_addr (d := kBare DTa) ho ZX.out).cells)
          have E3 := Lib.hid (below_then E2.out hb (Nat.le_refl _))
          have Bx3 := Lib.hid ((Bx2.out).step hb)
          have rx3 := Bx3.out.cell
          have bx3 := Bx3.out.lt
          have By3 := Lib.hid ((By2.out).step hb)
          have ry3 := By3.out.cell
          have by3 := By3.out.lt
          have Ba3 := Lib.hid ((Ba2.out).step hb)
          have ra3 := Ba3.out.cell
          have ba3 := Ba3.out.lt
          have Bb3 := Lib.hid ((Bb2.out).step hb)
          have rb3 := Bb3.out.cell
          have bb3 := Bb3.out.lt
          have SX3 := Lib.hid ((SX2.out).below hb)
          have SY3 := Lib.hid ((SY2.out).below hb)
          have SP3 := Lib.hid ((SP2.out).below hb)
          have SQ3 := Lib.hid ((SQ2.out).below hb)
          clear ho hb
          try go_wp2_with fail
          refine hK.out _ _ ⟨Bx3.out, By3.out⟩ (fun _ => ?_)
          clear hK K
          try simp only [Act.put, List.setIfInBounds_toArray, List.set_cons_zero, List.set_cons_succ]
          refine wpAnyH_ready (rs := [3]) (by kernel_rfl) (by simp) ?_
          refine AllReadyH.cons rfl (fun K hK => ?_) ?_
          · go_simp
            refine (bare_made hFb (SY3.out).now LY.out).mono ?_
            rintro _ w4 ⟨AY, cY, rfl, ho, hb⟩
            have NY0 := Lib.hid (Gd.ofC (own_addr (d := kBare DFb) ho ZY.out).cells)
            have E4 := Lib.hid (below_then E3.out hb (Nat.le_refl _))
            have Bx4 := Lib.hid ((Bx3.out).step hb)
            have rx4 := Bx4.out.cell
            have bx4 := Bx4.out.lt
            have By4 := Lib.hid ((By3.out).step hb)
            have ry4 := By4.out.cell
            have by4 := By4.out.lt
            have Ba4 := Lib.hid ((Ba3.out).step hb)
            have ra4 := Ba4.out.cell
            have ba4 := Ba4.out.lt
            have Bb4 := Lib.hid ((Bb3.out).step hb)
            have rb4 := Bb4.out.cell
            have bb4 := Bb4.out.lt
            have SX4 := Lib.hid ((SX3.out).below hb)
            have SY4 := Lib.hid ((SY3.out).below hb)
            have SP4 := Lib.hid ((SP3.out).below hb)
            have SQ4 := Lib.hid ((SQ3.out).below hb)
            have SNX4 := Lib.hid ((NX0.out).below hb)
            clear ho hb
            try go_wp2_with fail
            refine hK.out _ _ ⟨Bx4.out, By4.out⟩ (fun _ => ?_)
            clear hK K
            try simp only [Act.put, List.setIfInBounds_toArray, List.set_cons_zero, List.set_cons_succ]
            refine wpAnyH_ready (rs := [4]) (by kernel_rfl) (by simp) ?_
            refine AllReadyH.cons rfl (fun K hK => ?_) ?_
            · go_simp
              refine (sameAddr_spec (bA_dA _) (bA_dA _) hr (SNX4.out).now (NY0.out).now).mono ?_
              rintro _ w5 ⟨rfl, hb⟩
              have E5 := Lib.hid (below_then E4.out hb (Nat.le_refl _))
              have Bx5 := Lib.hid ((Bx4.out).step hb)
              have rx5 := Bx5.out.cell
              have bx5 := Bx5.out.lt
              have By5 := Lib.hid ((By4.out).step hb)
              have ry5 := By5.out.cell
              have by5 := By5.out.lt
              have Ba5 := Lib.hid ((Ba4.out).step hb)
              have ra5 := Ba5.out.cell
              have ba5 := Ba5.out.lt
              have Bb5 := Lib.hid ((Bb4.out).step hb)
              have rb5 := Bb5.out.cell
              have bb5 := Bb5.out.lt
              have SX5 := Lib.hid ((SX4.out).below hb)
              have SY5 := Lib.hid ((SY4.out).below hb)
              have SP5 := Lib.hid ((SP4.out).below hb)
              have SQ5 := Lib.hid ((SQ4.out).below hb)
              have SNX5 := Lib.hid ((SNX4.out).below hb)
              have SNY5 := Lib.hid ((NY0.out).below hb)
              clear hb
              try go_wp2_with fail
              refine hK.out _ _ ⟨Bx5.out, By5.out⟩ (fun _ => ?_)
              clear hK K
              try simp only [Act.put, List.setIfInBounds_toArray, List.set_cons_zero, List.set_cons_succ]
              refine wpAnyH_take (i := 5) (v := .bool r) rfl (by kernel_rfl) (by kernel_rfl) (by kernel_rfl) (fun _ _ _ h => h) (Or.inl ⟨by rfl, ?_⟩) ⟨Bx5.out, By5.out⟩ ?_
              · intro w' hSw
                go_simp
              try simp only [Act.put, List.setIfInBounds_toArray, List.set_cons_zero, List.set_cons_succ]
              refine wpAnyH_done (by kernel_rfl) ?_ _
              go_simp
              go_wp2
              go_ret
              exact ⟨ret_bool HR.out.symm, E5.out⟩
            exact AllReadyH.nil
          exact AllReadyH.nil
        exact AllReadyH.nil
    obtain ⟨r1, h1⟩ : ∃ r, adl.eqA DTa DFb = r := ⟨_, rfl⟩
    have h7 : xa0 ≠ 2 := fun e => h6 (.inl e)
    have h8 : xb0 ≠ 2 := fun e => h6 (.inr e)
    clear h6
    have h7b : (xa0 == (2 : Int)) = false := by simp [h7]
    have h8b : (xb0 == (2 : Int)) = false := by simp [h8]
    go_wp2_with fail
    refine (sameAddr_spec hTa hFb h1 (SX1.out).now (SY1.out).now).mono ?_
    rintro _ w2 ⟨rfl, hb⟩
    have E2 := Lib.hid (below_then E1.out hb (Nat.le_refl _))
    have Bx2 := Lib.hid ((Bx1.out).step hb)
    have rx2 := Bx2.out.cell
    have bx2 := Bx2.out.lt
    have By2 := Lib.hid ((By1.out).step hb)
    have ry2 := By2.out.cell
    have by2 := By2.out.lt
    have Ba2 := Lib.hid ((Ba1.out).step hb)
    have ra2 := Ba2.out.cell
    have ba2 := Ba2.out.lt
    have Bb2 := Lib.hid ((Bb1.out).step hb)
    have rb2 := Bb2.out.cell
    have bb2 := Bb2.out.lt
    have SX2 := Lib.hid ((SX1.out).below hb)
    have SY2 := Lib.hid ((SY1.out).below hb)
    have SP2 := Lib.hid ((SP1.out).below hb)
    have SQ2 := Lib.hid ((SQ1.out).below hb)
    clear hb Bx1 rx1 bx1 By1 ry1 by1 Ba1 ra1 ba1 Bb1 rb1 bb1 SX1 SY1 SP1 SQ1 E1
    go_wp2
    all_goals go_ret
    all_goals refine ⟨ret_bool ?_, E2.out⟩
    all_goals (clear HA HB)
    all_goals (simp [meetD, h4, h5, h7, h8, h1])
end Go.Proofs.Ytflfnekaiaplfaa.cf
