/- Meets of the model. -/
import Derived.Test.YtflfnekaiaplfaaMwS
namespace Go.Proofs.Ytflfnekaiaplfaa.cf
open ad mem vl ex un
open Go.ChangeShapes Go.WideShapes Go.ChangeAt Go.RowKit Go.Lib
set_option linter.unusedVariables false
set_option maxRecDepth 8000
set_option linter.unusedSimpArgs false

theorem moveRight_spec' {B : Nat → Prop} {n : Nat} {w : World} {ds : List DC} {vs : List Value} {D : MoveD} {r : Bool} (hD : bM ds = D) (hr : moveB D = r) (h : Cells B n w shMove_ ds vs) :
    Calls Try.prog 21 #[.agg vs.toArray] w (un.Told w (.bool r)) := by
  subst hD hr; exact move_spec h
set_option maxHeartbeats 2000000 in
theorem meets_spec {B B' : Nat → Prop} {n n' : Nat} {w : World} {ds ds' : List DC} {vs vs' : List Value} (h : Cells B n w shMove_ ds vs) (h' : Cells B' n' w shMove_ ds' vs') (hr : RoomL vs) (hr' : RoomL vs') :
    Calls Try.prog 18 #[.agg vs.toArray, .agg vs'.toArray] w (un.Told w (.bool (meetB (bM ds) (bM ds')))) := by
  obtain ⟨xa0, la1, sa2, sa3, xa4, xa5, sa6, la7, sa8, sa9, xa10, xa11, sa12, Aa1, ca1, Aa7, ca7, rfl, rfl, ka0, ka1, ka2, ka3, ka4, ka5, ka6, ka7, ka8, ka9, ka10, ka11, ka12⟩ := open_Move h
  obtain ⟨xb0, lb1, sb2, sb3, xb4, xb5, sb6, lb7, sb8, sb9, xb10, xb11, sb12, Ab1, cb1, Ab7, cb7, rfl, rfl, kb0, kb1, kb2, kb3, kb4, kb5, kb6, kb7, kb8, kb9, kb10, kb11, kb12⟩ := open_Move h'
  have R1 := Lib.hid hr
  have R2 := Lib.hid hr'
  clear h h' hr hr'
  have HFa := Lib.hid (Gd.ofC (show Cells B n w shAddr_ [.l la1, .s sa2, .s sa3, .i xa4, .i xa5, .s sa6] [.slice Aa1 la1.length ca1, .string sa2, .string sa3, .int .i64 xa4, .int .i64 xa5, .string sa6] from ⟨ka1, Cell.mkS ka2, Cell.mkS ka3, Cell.mkI ka4, Cell.mkI ka5, Cell.mkS ka6, trivial⟩))
  have HTa := Lib.hid (Gd.ofC (show Cells B n w shAddr_ [.l la7, .s sa8, .s sa9, .i xa10, .i xa11, .s sa12] [.slice Aa7 la7.length ca7, .string sa8, .string sa9, .int .i64 xa10, .int .i64 xa11, .string sa12] from ⟨ka7, Cell.mkS ka8, Cell.mkS ka9, Cell.mkI ka10, Cell.mkI ka11, Cell.mkS ka12, trivial⟩))
  have HMa := Lib.hid (Gd.ofC (show Cells B n w shMove_ [.i xa0, .l la1, .s sa2, .s sa3, .i xa4, .i xa5, .s sa6, .l la7, .s sa8, .s sa9, .i xa10, .i xa11, .s sa12] [.int .i64 xa0, .slice Aa1 la1.length ca1, .string sa2, .string sa3, .int .i64 xa4, .int .i64 xa5, .string sa6, .slice Aa7 la7.length ca7, .string sa8, .string sa9, .int .i64 xa10, .int .i64 xa11, .string sa12] from ⟨Cell.mkI ka0, ka1, Cell.mkS ka2, Cell.mkS ka3, Cell.mkI ka4, Cell.mkI ka5, Cell.mkS ka6, ka7, Cell.mkS ka8, Cell.mkS ka9, Cell.mkI ka10, Cell.mkI ka11, Cell.mkS ka12, trivial⟩))
  clear ka0 ka1 ka2 ka3 ka4 ka5 ka6 ka7 ka8 ka9 ka10 ka11 ka12
  obtain ⟨DFa, hFa⟩ : ∃ D, bA [.l la1, .s sa2, .s sa3, .i xa4, .i xa5, .s sa6] = D := ⟨_, rfl⟩
  obtain ⟨DTa, hTa⟩ : ∃ D, bA [.l la7, .s sa8, .s sa9, .i xa10, .i xa11, .s sa12] = D := ⟨_, rfl⟩
  have ea : bM [.i xa0, .l la1, .s sa2, .s sa3, .i xa4, .i xa5, .s sa6, .l la7, .s sa8, .s sa9, .i xa10, .i xa11, .s sa12] = ⟨xa0, DFa, DTa⟩ := by rw [← hFa, ← hTa]; rfl
  have HFb := Lib.hid (Gd.ofC (show Cells B' n' w shAddr_ [.l lb1, .s sb2, .s sb3, .i xb4, .i xb5, .s sb6] [.slice Ab1 lb1.length cb1, .string sb2, .string sb3, .int .i64 xb4, .int .i64 xb5, .string sb6] from ⟨kb1, Cell.mkS kb2, Cell.mkS kb3, Cell.mkI kb4, Cell.mkI kb5, Cell.mkS kb6, trivial⟩))
  have HTb := Lib.hid (Gd.ofC (show Cells B' n' w shAddr_ [.l lb7, .s sb8, .s sb9, .i xb10, .i xb11, .s sb12] [.slice Ab7 lb7.length cb7, .string sb8, .string sb9, .int .i64 xb10, .int .i64 xb11, .string sb12] from ⟨kb7, Cell.mkS kb8, Cell.mkS kb9, Cell.mkI kb10, Cell.mkI kb11, Cell.mkS kb12, trivial⟩))
  have HMb := Lib.hid (Gd.ofC (show Cells B' n' w shMove_ [.i xb0, .l lb1, .s sb2, .s sb3, .i xb4, .i xb5, .s sb6, .l lb7, .s sb8, .s sb9, .i xb10, .i xb11, .s sb12] [.int .i64 xb0, .slice Ab1 lb1.length cb1, .string sb2, .string sb3, .int .i64 xb4, .int .i64 xb5, .string sb6, .slice Ab7 lb7.length cb7, .string sb8, .string sb9, .int .i64 xb10, .int .i64 xb11, .string sb12] from ⟨Cell.mkI kb0, kb1, Cell.mkS kb2, Cell.mkS kb3, Cell.mkI kb4, Cell.mkI kb5, Cell.mkS kb6, kb7, Cell.mkS kb8, Cell.mkS kb9, Cell.mkI kb10, Cell.mkI kb11, Cell.mkS kb12, trivial⟩))
  clear kb0 kb1 kb2 kb3 kb4 kb5 kb6 kb7 kb8 kb9 kb10 kb11 kb12
  obtain ⟨DFb, hFb⟩ : ∃ D, bA [.l lb1, .s sb2, .s sb3, .i xb4, .i xb5, .s sb6] = D := ⟨_, rfl⟩
  obtain ⟨DTb, hTb⟩ : ∃ D, bA [.l lb7, .s sb8, .s sb9, .i xb10, .i xb11, .s sb12] = D := ⟨_, rfl⟩
  have eb : bM [.i xb0, .l lb1, .s sb2, .s sb3, .i xb4, .i xb5, .s sb6, .l lb7, .s sb8, .s sb9, .i xb10, .i xb11, .s sb12] = ⟨xb0, DFb, DTb⟩ := by rw [← hFb, ← hTb]; rfl
  rw [ea, eb]
  have EA := Lib.hid ea
  have EB := Lib.hid eb
  clear ea eb hFa hTa hFb hTb HFa HTa HFb HTb
  cases ha : moveB ⟨xa0, DFa, DTa⟩
  · go_enter Try.func18, Try.ntmps18
    go_wp2_with fail
    refine (moveRight_spec' EA.out ha ((HMa.out.alloc _).alloc _).now).mono ?_
    rintro _ w1 ⟨rfl, hb⟩
    have E1 := Lib.hid (below_then (below_a2 _ _ _) hb (Nat.le_refl _))
    have Ba1 := Lib.hid (((Blk.new w _ _).alloc _).step hb)
    have ra1 := Ba1.out.cell
    have ba1 := Ba1.out.lt
    have Bb1 := Lib.hid ((Blk.new1 w _ _ _).step hb)
    have rb1 := Bb1.out.cell
    have bb1 := Bb1.out.lt
    have SA1 := Lib.hid (((HMa.out.alloc _).alloc _).below hb)
    have SB1 := Lib.hid (((HMb.out.alloc _).alloc _).below hb)
    clear hb HMa HMb
    go_wp2
    all_goals go_ret
    all_goals refine ⟨ret_bool ?_, E1.out⟩
    all_goals (simp [meetB, ha])
  cases hb : moveB ⟨xb0, DFb, DTb⟩
  · go_enter Try.func18, Try.ntmps18
    go_wp2_with fail
    refine (moveRight_spec' EA.out ha ((HMa.out.alloc _).alloc _).now).mono ?_
    rintro _ w1 ⟨rfl, hb⟩
    have E1 := Lib.hid (below_then (below_a2 _ _ _) hb (Nat.le_refl _))
    have Ba1 := Lib.hid (((Blk.new w _ _).alloc _).step hb)
    have ra1 := Ba1.out.cell
    have ba1 := Ba1.out.lt
    have Bb1 := Lib.hid ((Blk.new1 w _ _ _).step hb)
    have rb1 := Bb1.out.cell
    have bb1 := Bb1.out.lt
    have SA1 := Lib.hid (((HMa.out.alloc _).alloc _).below hb)
    have SB1 := Lib.hid (((HMb.out.alloc _).alloc _).below hb)
    clear hb HMa HMb
    go_wp2_with fail
    refine (moveRight_spec' EB.out hb (SB1.out).now).mono ?_
    rintro _ w2 ⟨rfl, hb⟩
    have E2 := Lib.hid (below_then E1.out hb (Nat.le_refl _))
    have Ba2 := Lib.hid ((Ba1.out).step hb)
    have ra2 := Ba2.out.cell
    have ba2 := Ba2.out.lt
    have Bb2 := Lib.hid ((Bb1.out).step hb)
    have rb2 := Bb2.out.cell
    have bb2 := Bb2.out.lt
    have SA2 := Lib.hid ((SA1.out).below hb)
    have SB2 := Lib.hid ((SB1.out).below hb)
    clear hb Ba1 ra1 ba1 Bb1 rb1 bb1 SA1 SB1 E1
    go_wp2
    all_goals go_ret
    all_goals refine ⟨ret_bool ?_, E2.out⟩
    all_goals (simp [meetB, ha, hb])
  have HE := Lib.hid (show meetB ⟨xa0, DFa, DTa⟩ ⟨xb0, DFb, DTb⟩ = meetD ⟨xa0, DFa, DTa⟩ ⟨xb0, DFb, DTb⟩ from by simp only [meetB, ha, hb, Bool.true_and])
  have OA := Lib.hid (mv_ok ha)
  have OB := Lib.hid (mv_ok hb)
  go_enter Try.func18, Try.ntmps18
  go_wp2_with fail
  refine (moveRight_spec' EA.out ha ((HMa.out.alloc _).alloc _).now).mono ?_
  rintro _ w1 ⟨rfl, hb⟩
  have E1 := Lib.hid (below_then (below_a2 _ _ _) hb (Nat.le_refl _))
  have Ba1 := Lib.hid (((Blk.new w _ _).alloc _).step hb)
  have ra1 := Ba1.out.cell
  have ba1 := Ba1.out.lt
  have Bb1 := Lib.hid ((Blk.new1 w _ _ _).step hb)
  have rb1 := Bb1.out.cell
  have bb1 := Bb1.out.lt
  have SA1 := Lib.hid (((HMa.out.alloc _).alloc _).below hb)
  have SB1 := Lib.hid (((HMb.out.alloc _).alloc _).below hb)
  clear hb HMa HMb
  go_wp2_with fail
  refine (moveRight_spec' EB.out hb (SB1.out).now).mono ?_
  rintro _ w2 ⟨rfl, hb⟩
  have E2 := Lib.hid (below_then E1.out hb (Nat.le_refl _))
  have Ba2 := Lib.hid ((Ba1.out).step hb)
  have ra2 := Ba2.out.cell
  have ba2 := Ba2.out.lt
  have Bb2 := Lib.hid ((Bb1.out).step hb)
  have rb2 := Bb2.out.cell
  have bb2 := Bb2.out.lt
  have SA2 := Lib.hid ((SA1.out).below hb)
  have SB2 := Lib.hid ((SB1.out).below hb)
  clear hb Ba1 ra1 ba1 Bb1 rb1 bb1 SA1 SB1 E1
  go_wp2_with fail
  refine (l07Meets_spec (SA2.out).now (SB2.out).now R1.out R2.out (by rw [EA.out]; exact OA.out) (by rw [EB.out]; exact OB.out)).mono ?_
  rintro _ w3 ⟨rfl, hb⟩
  have E3 := Lib.hid (below_then E2.out hb (Nat.le_refl _))
  have Ba3 := Lib.hid ((Ba2.out).step hb)
  have ra3 := Ba3.out.cell
  have ba3 := Ba3.out.lt
  have Bb3 := Lib.hid ((Bb2.out).step hb)
  have rb3 := Bb3.out.cell
  have bb3 := Bb3.out.lt
  have SA3 := Lib.hid ((SA2.out).below hb)
  have SB3 := Lib.hid ((SB2.out).below hb)
  clear hb Ba2 ra2 ba2 Bb2 rb2 bb2 SA2 SB2 E2
  go_wp2
  all_goals go_ret
  all_goals refine ⟨ret_bool ?_, E3.out⟩
  all_goals (rw [EA.out, EB.out]; exact HE.out.symm)
end Go.Proofs.Ytflfnekaiaplfaa.cf
