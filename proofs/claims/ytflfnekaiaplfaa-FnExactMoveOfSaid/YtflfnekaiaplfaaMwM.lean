/- Meets of the program. -/
import Derived.Test.YtflfnekaiaplfaaMwI
namespace Go.Proofs.Ytflfnekaiaplfaa.cf
open ad mem vl ex un
open Go.ChangeShapes Go.WideShapes Go.ChangeAt Go.RowKit Go.Lib
set_option linter.unusedVariables false
set_option maxRecDepth 8000
set_option linter.unusedSimpArgs false

theorem mov_is {k : Int} (hk : k = 1 ∨ k = 2 ∨ k = 3) (x4 x5 x10 x11 : Int) (s2 s3 s6 s8 s9 s12 : ByteArray) (A1 A7 : Option Addr) (n1 n7 c1 c7 : Nat) :
    (∃ fs, (∀ args w, (callFunc fs args).run Try.prog w = .ok (.enter fs args) w) ∧ (∀ w, (nilAhead 202 (movT k) (.agg #[.slice A1 n1 c1, .string s2, .string s3, .int .i64 x4, .int .i64 x5, .string s6, .slice A7 n7 c7, .string s8, .string s9, .int .i64 x10, .int .i64 x11, .string s12]) "loop.example/g00770/impl.source").run Try.prog w = .ok (some false) w) ∧ (∀ w, (method 202 (movT k) (.agg #[.slice A1 n1 c1, .string s2, .string s3, .int .i64 x4, .int .i64 x5, .string s6, .slice A7 n7 c7, .string s8, .string s9, .int .i64 x10, .int .i64 x11, .string s12]) "loop.example/g00770/impl.source").run Try.prog w = .ok (fs, .agg #[.slice A1 n1 c1, .string s2, .string s3, .int .i64 x4, .int .i64 x5, .string s6, .slice A7 n7 c7, .string s8, .string s9, .int .i64 x10, .int .i64 x11, .string s12]) w) ∧ (∀ w, Calls Try.prog fs #[.agg #[.slice A1 n1 c1, .string s2, .string s3, .int .i64 x4, .int .i64 x5, .string s6, .slice A7 n7 c7, .string s8, .string s9, .int .i64 x10, .int .i64 x11, .string s12]] w (un.Told w (.agg #[.slice A1 n1 c1, .string s2, .string s3, .int .i64 x4, .int .i64 x5, .string s6])))) ∧ (∃ ft, (∀ args w, (callFunc ft args).run Try.prog w = .ok (.enter ft args) w) ∧ (∀ w, (nilAhead 202 (movT k) (.agg #[.slice A1 n1 c1, .string s2, .string s3, .int .i64 x4, .int .i64 x5, .string s6, .slice A7 n7 c7, .string s8, .string s9, .int .i64 x10, .int .i64 x11, .string s12]) "loop.example/g00770/impl.target").run Try.prog w = .ok (some false) w) ∧ (∀ w, (method 202 (movT k) (.agg #[.slice A1 n1 c1, .string s2, .string s3, .int .i64 x4, .int .i64 x5, .string s6, .slice A7 n7 c7, .string s8, .string s9, .int .i64 x10, .int .i64 x11, .string s12]) "loop.example/g00770/impl.target").run Try.prog w = .ok (ft, .agg #[.slice A1 n1 c1, .string s2, .string s3, .int .i64 x4, .int .i64 x5, .string s6, .slice A7 n7 c7, .string s8, .string s9, .int .i64 x10, .int .i64 x11, .string s12]) w) ∧ (∀ w, Calls Try.prog ft #[.agg #[.slice A1 n1 c1, .string s2, .string s3, .int .i64 x4, .int .i64 x5, .string s6, .slice A7 n7 c7, .string s8, .string s9, .int .i64 x10, .int .i64 x11, .string s12]] w (un.Told w (.agg #[.slice A7 n7 c7, .string s8, .string s9, .int .i64 x10, .int .i64 x11, .string s12])))) ∧ (∃ fh, (∀ args w, (callFunc fh args).run Try.prog w = .ok (.enter fh args) w) ∧ (∀ w, (nilAhead 202 (movT k) (.agg #[.slice A1 n1 c1, .string s2, .string s3, .int .i64 x4, .int .i64 x5, .string s6, .slice A7 n7 c7, .string s8, .string s9, .int .i64 x10, .int .i64 x11, .string s12]) "loop.example/g00770/impl.holds").run Try.prog w = .ok (some false) w) ∧ (∀ w, (method 202 (movT k) (.agg #[.slice A1 n1 c1, .string s2, .string s3, .int .i64 x4, .int .i64 x5, .string s6, .slice A7 n7 c7, .string s8, .string s9, .int .i64 x10, .int .i64 x11, .string s12]) "loop.example/g00770/impl.holds").run Try.prog w = .ok (fh, .agg #[.slice A1 n1 c1, .string s2, .string s3, .int .i64 x4, .int .i64 x5, .string s6, .slice A7 n7 c7, .string s8, .string s9, .int .i64 x10, .int .i64 x11, .string s12]) w) ∧ (∀ {B B' : Nat → Prop} {n n' : Nat} {w : World} {ds ds' : List DC} {vs vs' : List Value} {D D' : AddrD} {r : Bool}, bA ds = D → bA ds' = D' → holdB k D D' = r → Cells B n w shAddr_ ds vs → Cells B' n' w shAddr_ ds' vs' → Calls Try.prog fh #[.agg #[.slice A1 n1 c1, .string s2, .string s3, .int .i64 x4, .int .i64 x5, .string s6, .slice A7 n7 c7, .string s8, .string s9, .int .i64 x10, .int .i64 x11, .string s12], .agg vs.toArray, .agg vs'.toArray] w (un.Told w (.bool r)))) := by
  rcases hk with rfl | rfl | rfl
  · exact ⟨⟨_, (by intro args w; kernel_rfl), nil1_source _ _ _ _ _ _ _ _ _ _ _ _ , met1_source _ _ _ _ _ _ _ _ _ _ _ _ , end_source _ _ _ _ _ _ _ _ _ _ _ _ _ _ _ _ ⟩, ⟨_, (by intro args w; kernel_rfl), nil1_target _ _ _ _ _ _ _ _ _ _ _ _ , met1_target _ _ _ _ _ _ _ _ _ _ _ _ , end_target _ _ _ _ _ _ _ _ _ _ _ _ _ _ _ _ ⟩, ⟨_, (by intro args w; kernel_rfl), nil1_holds _ _ _ _ _ _ _ _ _ _ _ _ , met1_holds _ _ _ _ _ _ _ _ _ _ _ _ , fun e1 e2 e3 h h' => by subst e1 e2 e3; exact hold1 _ _ _ _ _ _ _ _ _ _ _ _  h h'⟩⟩
  · exact ⟨⟨_, (by intro args w; kernel_rfl), nil2_source _ _ _ _ _ _ _ _ _ _ _ _ , met2_source _ _ _ _ _ _ _ _ _ _ _ _ , end_source _ _ _ _ _ _ _ _ _ _ _ _ _ _ _ _ ⟩, ⟨_, (by intro args w; kernel_rfl), nil2_target _ _ _ _ _ _ _ _ _ _ _ _ , met2_target _ _ _ _ _ _ _ _ _ _ _ _ , end_target _ _ _ _ _ _ _ _ _ _ _ _ _ _ _ _ ⟩, ⟨_, (by intro args w; kernel_rfl), nil2_holds _ _ _ _ _ _ _ _ _ _ _ _ , met2_holds _ _ _ _ _ _ _ _ _ _ _ _ , fun e1 e2 e3 h h' => by subst e1 e2 e3; exact hold2 _ _ _ _ _ _ _ _ _ _ _ _  h h'⟩⟩
  · exact ⟨⟨_, (by intro args w; kernel_rfl), nil3_source _ _ _ _ _ _ _ _ _ _ _ _ , met3_source _ _ _ _ _ _ _ _ _ _ _ _ , end_source _ _ _ _ _ _ _ _ _ _ _ _ _ _ _ _ ⟩, ⟨_, (by intro args w; kernel_rfl), nil3_target _ _ _ _ _ _ _ _ _ _ _ _ , met3_target _ _ _ _ _ _ _ _ _ _ _ _ , end_target _ _ _ _ _ _ _ _ _ _ _ _ _ _ _ _ ⟩, ⟨_, (by intro args w; kernel_rfl), nil3_holds _ _ _ _ _ _ _ _ _ _ _ _ , met3_holds _ _ _ _ _ _ _ _ _ _ _ _ , fun e1 e2 e3 h h' => by subst e1 e2 e3; exact hold3 _ _ _ _ _ _ _ _ _ _ _ _  h h'⟩⟩
theorem moveRight_impl {B : Nat → Prop} {n : Nat} {w : World} {ds : List DC} {vs : List Value} {D : MoveD} {r : Bool} (hD : bM ds = D) (hr : moveB D = r) (h : Cells B n w shMove_ ds vs) :
    Calls Try.prog 25 #[.agg vs.toArray] w (un.Told w (.bool r)) := by
  subst hD hr; exact move_impl h
theorem moveRight_spec {B : Nat → Prop} {n : Nat} {w : World} {ds : List DC} {vs : List Value} {D : MoveD} {r : Bool} (hD : bM ds = D) (hr : moveB D = r) (h : Cells B n w shMove_ ds vs) :
    Calls Try.prog 21 #[.agg vs.toArray] w (un.Told w (.bool r)) := by
  subst hD hr; exact move_spec h
set_option maxHeartbeats 4000000 in
theorem meets_impl {B B' : Nat → Prop} {n n' : Nat} {w : World} {ds ds' : List DC} {vs vs' : List Value} (h : Cells B n w shMove_ ds vs) (h' : Cells B' n' w shMove_ ds' vs') :
    Calls Try.prog 19 #[.agg vs.toArray, .agg vs'.toArray] w (un.Told w (.bool (meetB (bM ds) (bM ds')))) := by
  obtain ⟨xa0, la1, sa2, sa3, xa4, xa5, sa6, la7, sa8, sa9, xa10, xa11, sa12, Aa1, ca1, Aa7, ca7, rfl, rfl, ka0, ka1, ka2, ka3, ka4, ka5, ka6, ka7, ka8, ka9, ka10, ka11, ka12⟩ := open_Move h
  obtain ⟨xb0, lb1, sb2, sb3, xb4, xb5, sb6, lb7, sb8, sb9, xb10, xb11, sb12, Ab1, cb1, Ab7, cb7, rfl, rfl, kb0, kb1, kb2, kb3, kb4, kb5, kb6, kb7, kb8, kb9, kb10, kb11, kb12⟩ := open_Move h'
  clear h h'
  have HFa := Lib.hid (Gd.ofC (show Cells B n w shAddr_ [.l la1, .s sa2, .s sa3, .i xa4, .i xa5, .s sa6] [.slice Aa1 la1.length ca1, .string sa2, .string sa3, .int .i64 xa4, .int .i64 xa5, .string sa6] from ⟨ka1, Cell.mkS ka2, Cell.mkS ka3, Cell.mkI ka4, Cell.mkI ka5, Cell.mkS ka6, trivial⟩))
  have HTa := Lib.hid (Gd.ofC (show Cells B n w shAddr_ [.l la7, .s sa8, .s sa9, .i xa10, .i xa11, .s sa12] [.slice Aa7 la7.length ca7, .string sa8, .string sa9, .int .i64 xa10, .int .i64 xa11, .string sa12] from ⟨ka7, Cell.mkS ka8, Cell.mkS ka9, Cell.mkI ka10, Cell.mkI ka11, Cell.mkS ka12, trivial⟩))
  have HMa := Lib.hid (Gd.ofC (show Cells B n w shMove_ [.i xa0, .l la1, .s sa2, .s sa3, .i xa4, .i xa5, .s sa6, .l la7, .s sa8, .s sa9, .i xa10, .i xa11, .s sa12] [.int .i64 xa0, .slice Aa1 la1.length ca1, .string sa2, .string sa3, .int .i64 xa4, .int .i64 xa5, .string sa6, .slice Aa7 la7.length ca7, .string sa8, .string sa9, .int .i64 xa10, .int .i64 xa11, .string sa12] from ⟨Cell.mkI ka0, ka1, Cell.mkS ka2, Cell.mkS ka3, Cell.mkI ka4, Cell.mkI ka5, Cell.mkS ka6, ka7, Cell.mkS ka8, Cell.mkS ka9, Cell.mkI ka10, Cell.mkI ka11, Cell.mkS ka12, trivial⟩))
  clear ka0 ka1 ka2 ka3 ka4 ka5 ka6 ka7 ka8 ka9 ka10 ka11 ka12
  obtain ⟨DFa, hFa⟩ : ∃ D, bA [.l la1, .s sa2, .s sa3, .i xa4, .i xa5, .s sa6] = D := ⟨_, rfl⟩
  obtain ⟨DTa, hTa⟩ : ∃ D, bA [.l la7, .s sa8, .s sa9, .i xa10, .i xa11, .s sa12] = D := ⟨_, rfl⟩
  have ea : bM [.i xa0, .l la1, .s sa2, .s sa3, .i xa4, .i xa5, .s sa6, .l la7, .s sa8, .s sa9, .i xa10, .i xa11, .s sa12] = ⟨xa0, DFa, DTa⟩ := by rw [← hFa, ← hTa]; rfl
  have HFb := Lib.hid (Gd.ofC (show Cells B' n' w shAddr_ [.l lb1, .s sb2, .s sb3, .i xb4, .i xb5, .s sb6] [.slice Ab1 lb1.length cb1, .string sb2, .string sb3, .int .i64 xb4, .int .i64 xb5, .string sb6] from ⟨kb1, Cell.mkS kb2, Cell.mkS kb3, Cell.mkI kb4, Cell.mkI kb5, Cell.mkS kb6, trivial⟩))
  have HTb := Lib.hid (Gd.ofC (show Cells B' n' w shAddr_ [.l lb7, .s sb8, .s sb9, .i xb10, .i xb11, .s sb12] [.slice Ab7 lb7.length cb7, .string sb8, .string sb9, .int .i64 xb10, .int .i64 xb11, .string sb12] from ⟨kb7, Cell.mkS kb8, Cell.mkS kb9, Cell.mkI kb10, Cell.mkI kb11, Cell.mkS kb12, trivial⟩))
  have HMb := Lib.hid (Gd.ofC (show Cells B' n' w shMove_ [.i xb0, .l lb1, .s sb2, .s sb3, .i xb4, .i xb5, .s sb6, .l lb7, .s sb8, .s sb9, .i xb10, .i xb11, .s sb12] [.int .i64 xb0, .slice Ab1 lb1.length cb1, .string sb2, .string sb3, .int .i64 xb4, .int .i64 xb5, .string sb6, .slice Ab7 lb7.length cb7, .string sb8, .string sb9, .int .i64 xb10, .int .i64 xb11, .string sb12] from ⟨Cell.mkI kb0, kb1, Cell.mkS kb2, Cell.mkS kb3, Cell.mkI kb4, Cell.mkI kb5, Cell.mkS kb6, kb7, Cell.mkS kb8, Cell.mkS kb9, Cell.mkI kb10, Cell.mkI kb11, Cell.mkS kb12, trivial⟩))
  clear kb0 kb1 kb2 kb3 kb4 kb5 kb6 kb7 kb8 kb9 kb10 kb11 kb12
  obtain ⟨DFb, hFb⟩ : ∃ D, bA [.l lb1, .s sb2, .s sb3, .i xb4, .i xb5, .s sb6] = D := ⟨_, rfl⟩
  obtain ⟨DTb, hTb⟩ : ∃ D, bA [.l lb7, .s sb8, .s sb9, .i xb10, .i xb11, .s sb12] = D := ⟨_, rfl⟩
  have eb : bM [.i xb0, .l lb1, .s sb2, .s sb3, .i xb4, .i xb5, .s sb6, .l lb7, .s sb8, .s sb9, .i xb10, .i xb11, .s sb12] = ⟨xb0, DFb, DTb⟩ := by rw [← hFb, ← hTb]; rfl
  rw [ea, eb]
  cases ha : moveB ⟨xa0, DFa, DTa⟩
  · go_enter Try.func19, Try.ntmps19
    go_wp2_with fail
    refine (moveRight_impl ea ha ((HMa.out.alloc _).alloc _).now).mono ?_
    rintro _ w1 ⟨rfl, hb⟩
    have E1 := Lib.hid (below_then (below_a2 _ _ _) hb (Nat.le_refl _))
    have Ba1 := Lib.hid (((Blk.new w _ _).alloc _).step hb)
    have ra1 := Ba1.out.cell
    have ba1 := Ba1.out.lt
    have Bb1 := Lib.hid ((Blk.new1 w _ _ _).step hb)
    have rb1 := Bb1.out.cell
    have bb1 := Bb1.out.lt
    have SA1 := Lib.hid (((HMa.out.alloc _).alloc _).below hb)
    have SB1 := Lib.hid (((HMb.out.alloc _).alloc _).below hb)
    have ST1 := Lib.hid (((HTa.out.alloc _).alloc _).below hb)
    have SF1 := Lib.hid (((HFb.out.alloc _).alloc _).below hb)
    have SP1 := Lib.hid (((HFa.out.alloc _).alloc _).below hb)
    have SQ1 := Lib.hid (((HTb.out.alloc _).alloc _).below hb)
    clear hb HMa HMb HTa HFb HFa HTb
    go_wp2
    all_goals go_ret
    all_goals refine ⟨ret_bool ?_, E1.out⟩
    all_goals (simp [meetB, ha])
  cases hb : moveB ⟨xb0, DFb, DTb⟩
  · go_enter Try.func19, Try.ntmps19
    go_wp2_with fail
    refine (moveRight_impl ea ha ((HMa.out.alloc _).alloc _).now).mono ?_
    rintro _ w1 ⟨rfl, hb⟩
    have E1 := Lib.hid (below_then (below_a2 _ _ _) hb (Nat.le_refl _))
    have Ba1 := Lib.hid (((Blk.new w _ _).alloc _).step hb)
    have ra1 := Ba1.out.cell
    have ba1 := Ba1.out.lt
    have Bb1 := Lib.hid ((Blk.new1 w _ _ _).step hb)
    have rb1 := Bb1.out.cell
    have bb1 := Bb1.out.lt
    have SA1 := Lib.hid (((HMa.out.alloc _).alloc _).below hb)
    have SB1 := Lib.hid (((HMb.out.alloc _).alloc _).below hb)
    have ST1 := Lib.hid (((HTa.out.alloc _).alloc _).below hb)
    have SF1 := Lib.hid (((HFb.out.alloc _).alloc _).below hb)
    have SP1 := Lib.hid (((HFa.out.alloc _).alloc _).below hb)
    have SQ1 := Lib.hid (((HTb.out.alloc _).alloc _).below hb)
    clear hb HMa HMb HTa HFb HFa HTb
    go_wp2_with fail
    refine (moveRight_impl eb hb (SB1.out).now).mono ?_
    rintro _ w2 ⟨rfl, hb⟩
    have E2 := Lib.hid (below_then E1.out hb (Nat.le_refl _))
    have Ba2 := Lib.hid ((Ba1.out).step hb)
    have ra2 := Ba2.out.cell
    have ba2 := Ba2.out.lt
    have Bb2 := Lib.hid ((Bb1.out).step hb)
    have rb2 := Bb2.out.cell
    have bb2 := Bb2.out.lt
    have SA2 := Lib.hid ((SA1.out).below hb)
    have SB2 := Lib.hid ((SB1.out).below hb)
    have ST2 := Lib.hid ((ST1.out).below hb)
    have SF2 := Lib.hid ((SF1.out).below hb)
    have SP2 := Lib.hid ((SP1.out).below hb)
    have SQ2 := Lib.hid ((SQ1.out).below hb)
    clear hb Ba1 ra1 ba1 Bb1 rb1 bb1 SA1 SB1 ST1 SF1 SP1 SQ1 E1
    go_wp2
    all_goals go_ret
    all_goals refine ⟨ret_bool ?_, E2.out⟩
    all_goals (simp [meetB, ha, hb])
  have HE := Lib.hid (show meetB ⟨xa0, DFa, DTa⟩ ⟨xb0, DFb, DTb⟩ = (holdB xa0 DTa DFb || holdB xb0 DFb DTa) from by simp only [meetB, ha, hb, Bool.true_and]; exact meet_eq (mv_ok ha) (mv_ok hb))
  obtain ⟨⟨fsa, csa, nsa, msa, Ksa⟩, ⟨fta, cta, nta, mta, Kta⟩, ⟨fha, cha, nha, mha, Kha⟩⟩ := mov_is (mv_ok ha).kind xa4 xa5 xa10 xa11 sa2 sa3 sa6 sa8 sa9 sa12 Aa1 Aa7 la1.length la7.length ca1 ca7
  replace Ksa := Lib.hid Ksa
  replace Kta := Lib.hid Kta
  have HKha : Hid (∀ {B B' : Nat → Prop} {n n' : Nat} {w : World} {ds ds' : List DC} {vs vs' : List Value} {D D' : AddrD} {r : Bool}, bA ds = D → bA ds' = D' → holdB xa0 D D' = r → Cells B n w shAddr_ ds vs → Cells B' n' w shAddr_ ds' vs' → Calls Try.prog fha #[.agg #[.slice Aa1 la1.length ca1, .string sa2, .string sa3, .int .i64 xa4, .int .i64 xa5, .string sa6, .slice Aa7 la7.length ca7, .string sa8, .string sa9, .int .i64 xa10, .int .i64 xa11, .string sa12], .agg vs.toArray, .agg vs'.toArray] w (un.Told w (.bool r))) := Kha
  clear Kha
  obtain ⟨⟨fsb, csb, nsb, msb, Ksb⟩, ⟨ftb, ctb, ntb, mtb, Ktb⟩, ⟨fhb, chb, nhb, mhb, Khb⟩⟩ := mov_is (mv_ok hb).kind xb4 xb5 xb10 xb11 sb2 sb3 sb6 sb8 sb9 sb12 Ab1 Ab7 lb1.length lb7.length cb1 cb7
  replace Ksb := Lib.hid Ksb
  replace Ktb := Lib.hid Ktb
  have HKhb : Hid (∀ {B B' : Nat → Prop} {n n' : Nat} {w : World} {ds ds' : List DC} {vs vs' : List Value} {D D' : AddrD} {r : Bool}, bA ds = D → bA ds' = D' → holdB xb0 D D' = r → Cells B n w shAddr_ ds vs → Cells B' n' w shAddr_ ds' vs' → Calls Try.prog fhb #[.agg #[.slice Ab1 lb1.length cb1, .string sb2, .string sb3, .int .i64 xb4, .int .i64 xb5, .string sb6, .slice Ab7 lb7.length cb7, .string sb8, .string sb9, .int .i64 xb10, .int .i64 xb11, .string sb12], .agg vs.toArray, .agg vs'.toArray] w (un.Told w (.bool r))) := Khb
  clear Khb
  cases h1 : holdB xa0 DTa DFb
  · cases h2 : holdB xb0 DFb DTa
    · go_enter Try.func19, Try.ntmps19
      go_wp2_with fail
      refine (moveRight_impl ea ha ((HMa.out.alloc _).alloc _).now).mono ?_
      rintro _ w1 ⟨rfl, hb⟩
      have E1 := Lib.hid (below_then (below_a2 _ _ _) hb (Nat.le_refl _))
      have Ba1 := Lib.hid (((Blk.new w _ _).alloc _).step hb)
      have ra1 := Ba1.out.cell
      have ba1 := Ba1.out.lt
      have Bb1 := Lib.hid ((Blk.new1 w _ _ _).step hb)
      have rb1 := Bb1.out.cell
      have bb1 := Bb1.out.lt
      have SA1 := Lib.hid (((HMa.out.alloc _).alloc _).below hb)
      have SB1 := Lib.hid (((HMb.out.alloc _).alloc _).below hb)
      have ST1 := Lib.hid (((HTa.out.alloc _).alloc _).below hb)
      have SF1 := Lib.hid (((HFb.out.alloc _).alloc _).below hb)
      have SP1 := Lib.hid (((HFa.out.alloc _).alloc _).below hb)
      have SQ1 := Lib.hid (((HTb.out.alloc _).alloc _).below hb)
      clear hb HMa HMb HTa HFb HFa HTb
      go_wp2_with fail
      refine (moveRight_impl eb hb (SB1.out).now).mono ?_
      rintro _ w2 ⟨rfl, hb⟩
      have E2 := Lib.hid (below_then E1.out hb (Nat.le_refl _))
      have Ba2 := Lib.hid ((Ba1.out).step hb)
      have ra2 := Ba2.out.cell
      have ba2 := Ba2.out.lt
      have Bb2 := Lib.hid ((Bb1.out).step hb)
      have rb2 := Bb2.out.cell
      have bb2 := Bb2.out.lt
      have SA2 := Lib.hid ((SA1.out).below hb)
      have SB2 := Lib.hid ((SB1.out).below hb)
      have ST2 := Lib.hid ((ST1.out).below hb)
      have SF2 := Lib.hid ((SF1.out).below hb)
      have SP2 := Lib.hid ((SP1.out).below hb)
      have SQ2 := Lib.hid ((SQ1.out).below hb)
      clear hb Ba1 ra1 ba1 Bb1 rb1 bb1 SA1 SB1 ST1 SF1 SP1 SQ1 E1
      go_wp2_with fail
      have qa0 := later_cell ba2 (ra2 0)
      have qa1 := later_cell ba2 (ra2 1)
      have qa2 := later_cell ba2 (ra2 2)
      have qa3 := later_cell ba2 (ra2 3)
      have qa4 := later_cell ba2 (ra2 4)
      have qa5 := later_cell ba2 (ra2 5)
      have qa6 := later_cell ba2 (ra2 6)
      have qa7 := later_cell ba2 (ra2 7)
      have qa8 := later_cell ba2 (ra2 8)
      have qa9 := later_cell ba2 (ra2 9)
      have qa10 := later_cell ba2 (ra2 10)
      have qa11 := later_cell ba2 (ra2 11)
      have qa12 := later_cell ba2 (ra2 12)
      have qb0 := later_cell bb2 (rb2 0)
      have qb1 := later_cell bb2 (rb2 1)
      have qb2 := later_cell bb2 (rb2 2)
      have qb3 := later_cell bb2 (rb2 3)
      have qb4 := later_cell bb2 (rb2 4)
      have qb5 := later_cell bb2 (rb2 5)
      have qb6 := later_cell bb2 (rb2 6)
      have qb7 := later_cell bb2 (rb2 7)
      have qb8 := later_cell bb2 (rb2 8)
      have qb9 := later_cell bb2 (rb2 9)
      have qb10 := later_cell bb2 (rb2 10)
      have qb11 := later_cell bb2 (rb2 11)
      have qb12 := later_cell bb2 (rb2 12)
      refine wp_region_later (by kernel_rfl) (by kernel_rfl) ?_
      repeat (go_big_quiet_step ((go_at_call 27; exact later_call (moverOf_any _ _ _ _ _ _ _ _ _ _ _ _ _ _ _ _ _ _ ))))
      refine wpQuiet_nil ?_
      rintro _ ⟨u9, rfl⟩
      have hb := later_below u9
      generalize later w2 u9 = w3 at hb ⊢
      clear qa0 qa1 qa2 qa3 qa4 qa5 qa6 qa7 qa8 qa9 qa10 qa11 qa12 qb0 qb1 qb2 qb3 qb4 qb5 qb6 qb7 qb8 qb9 qb10 qb11 qb12
      have E3 := Lib.hid (below_then E2.out hb (Nat.le_refl _))
      have SA3 := Lib.hid ((SA2.out).below hb)
      have SB3 := Lib.hid ((SB2.out).below hb)
      have ST3 := Lib.hid ((ST2.out).below hb)
      have SF3 := Lib.hid ((SF2.out).below hb)
      have SP3 := Lib.hid ((SP2.out).below hb)
      have SQ3 := Lib.hid ((SQ2.out).below hb)
      clear hb
      go_wp2_with fail
      refine wp_region_later (by kernel_rfl) (by kernel_rfl) ?_
      repeat (go_big_quiet_step (first
        | exact later_call (Ksa.out _)
        | exact later_call (Kta.out _)
        | exact later_call (Ksb.out _)
        | exact later_call (Ktb.out _)
        | exact later_call (HKha.out hTa hFb h1 ((ST3.out.below (later_below _)).now) ((SF3.out.below (later_below _)).now))
        | exact later_call (HKhb.out hFb hTa h2 ((SF3.out.below (later_below _)).now) ((ST3.out.below (later_below _)).now))))
      refine wpQuiet_nil ?_
      rintro _ ⟨u9, rfl⟩
      have E4 := Lib.hid (below_then E3.out (later_below u9) (Nat.le_refl _))
      generalize later w3 u9 = w4 at *
      go_wp2
      go_ret
      exact ⟨ret_bool (by rw [HE.out, h1, h2]; try rfl), E4.out⟩
    go_enter Try.func19, Try.ntmps19
    go_wp2_with fail
    refine (moveRight_impl ea ha ((HMa.out.alloc _).alloc _).now).mono ?_
    rintro _ w1 ⟨rfl, hb⟩
    have E1 := Lib.hid (below_then (below_a2 _ _ _) hb (Nat.le_refl _))
    have Ba1 := Lib.hid (((Blk.new w _ _).alloc _).step hb)
    have ra1 := Ba1.out.cell
    have ba1 := Ba1.out.lt
    have Bb1 := Lib.hid ((Blk.new1 w _ _ _).step hb)
    have rb1 := Bb1.out.cell
    have bb1 := Bb1.out.lt
    have SA1 := Lib.hid (((HMa.out.alloc _).alloc _).below hb)
    have SB1 := Lib.hid (((HMb.out.alloc _).alloc _).below hb)
    have ST1 := Lib.hid (((HTa.out.alloc _).alloc _).below hb)
    have SF1 := Lib.hid (((HFb.out.alloc _).alloc _).below hb)
    have SP1 := Lib.hid (((HFa.out.alloc _).alloc _).below hb)
    have SQ1 := Lib.hid (((HTb.out.alloc _).alloc _).below hb)
    clear hb HMa HMb HTa HFb HFa HTb
    go_wp2_with fail
    refine (moveRight_impl eb hb (SB1.out).now).mono ?_
    rintro _ w2 ⟨rfl, hb⟩
    have E2 := Lib.hid (below_then E1.out hb (Nat.le_refl _))
    have Ba2 := Lib.hid ((Ba1.out).step hb)
    have ra2 := Ba2.out.cell
    have ba2 := Ba2.out.lt
    have Bb2 := Lib.hid ((Bb1.out).step hb)
    have rb2 := Bb2.out.cell
    have bb2 := Bb2.out.lt
    have SA2 := Lib.hid ((SA1.out).below hb)
    have SB2 := Lib.hid ((SB1.out).below hb)
    have ST2 := Lib.hid ((ST1.out).below hb)
    have SF2 := Lib.hid ((SF1.out).below hb)
    have SP2 := Lib.hid ((SP1.out).below hb)
    have SQ2 := Lib.hid ((SQ1.out).below hb)
    clear hb Ba1 ra1 ba1 Bb1 rb1 bb1 SA1 SB1 ST1 SF1 SP1 SQ1 E1
    go_wp2_with fail
    have qa0 := later_cell ba2 (ra2 0)
    have qa1 := later_cell ba2 (ra2 1)
    have qa2 := later_cell ba2 (ra2 2)
    have qa3 := later_cell ba2 (ra2 3)
    have qa4 := later_cell ba2 (ra2 4)
    have qa5 := later_cell ba2 (ra2 5)
    have qa6 := later_cell ba2 (ra2 6)
    have qa7 := later_cell ba2 (ra2 7)
    have qa8 := later_cell ba2 (ra2 8)
    have qa9 := later_cell ba2 (ra2 9)
    have qa10 := later_cell ba2 (ra2 10)
    have qa11 := later_cell ba2 (ra2 11)
    have qa12 := later_cell ba2 (ra2 12)
    have qb0 := later_cell bb2 (rb2 0)
    have qb1 := later_cell bb2 (rb2 1)
    have qb2 := later_cell bb2 (rb2 2)
    have qb3 := later_cell bb2 (rb2 3)
    have qb4 := later_cell bb2 (rb2 4)
    have qb5 := later_cell bb2 (rb2 5)
    have qb6 := later_cell bb2 (rb2 6)
    have qb7 := later_cell bb2 (rb2 7)
    have qb8 := later_cell bb2 (rb2 8)
    have qb9 := later_cell bb2 (rb2 9)
    have qb10 := later_cell bb2 (rb2 10)
    have qb11 := later_cell bb2 (rb2 11)
    have qb12 := later_cell bb2 (rb2 12)
    refine wp_region_later (by kernel_rfl) (by kernel_rfl) ?_
    repeat (go_big_quiet_step ((go_at_call 27; exact later_call (moverOf_any _ _ _ _ _ _ _ _ _ _ _ _ _ _ _ _ _ _ ))))
    refine wpQuiet_nil ?_
    rintro _ ⟨u9, rfl⟩
    have hb := later_below u9
    generalize later w2 u9 = w3 at hb ⊢
    clear qa0 qa1 qa2 qa3 qa4 qa5 qa6 qa7 qa8 qa9 qa10 qa11 qa12 qb0 qb1 qb2 qb3 qb4 qb5 qb6 qb7 qb8 qb9 qb10 qb11 qb12
    have E3 := Lib.hid (below_then E2.out hb (Nat.le_refl _))
    have SA3 := Lib.hid ((SA2.out).below hb)
    have SB3 := Lib.hid ((SB2.out).below hb)
    have ST3 := Lib.hid ((ST2.out).below hb)
    have SF3 := Lib.hid ((SF2.out).below hb)
    have SP3 := Lib.hid ((SP2.out).below hb)
    have SQ3 := Lib.hid ((SQ2.out).below hb)
    clear hb
    go_wp2_with fail
    refine wp_region_later (by kernel_rfl) (by kernel_rfl) ?_
    repeat (go_big_quiet_step (first
      | exact later_call (Ksa.out _)
      | exact later_call (Kta.out _)
      | exact later_call (Ksb.out _)
      | exact later_call (Ktb.out _)
      | exact later_call (HKha.out hTa hFb h1 ((ST3.out.below (later_below _)).now) ((SF3.out.below (later_below _)).now))
      | exact later_call (HKhb.out hFb hTa h2 ((SF3.out.below (later_below _)).now) ((ST3.out.below (later_below _)).now))))
    refine wpQuiet_nil ?_
    rintro _ ⟨u9, rfl⟩
    have E4 := Lib.hid (below_then E3.out (later_below u9) (Nat.le_refl _))
    generalize later w3 u9 = w4 at *
    go_wp2
    go_ret
    exact ⟨ret_bool (by rw [HE.out, h1, h2]; try rfl), E4.out⟩
  cases h2 : holdB xb0 DFb DTa
  all_goals
    go_enter Try.func19, Try.ntmps19
    go_wp2_with fail
    refine (moveRight_impl ea ha ((HMa.out.alloc _).alloc _).now).mono ?_
    rintro _ w1 ⟨rfl, hb⟩
    have E1 := Lib.hid (below_then (below_a2 _ _ _) hb (Nat.le_refl _))
    have Ba1 := Lib.hid (((Blk.new w _ _).alloc _).step hb)
    have ra1 := Ba1.out.cell
    have ba1 := Ba1.out.lt
    have Bb1 := Lib.hid ((Blk.new1 w _ _ _).step hb)
    have rb1 := Bb1.out.cell
    have bb1 := Bb1.out.lt
    have SA1 := Lib.hid (((HMa.out.alloc _).alloc _).below hb)
    have SB1 := Lib.hid (((HMb.out.alloc _).alloc _).below hb)
    have ST1 := Lib.hid (((HTa.out.alloc _).alloc _).below hb)
    have SF1 := Lib.hid (((HFb.out.alloc _).alloc _).below hb)
    have SP1 := Lib.hid (((HFa.out.alloc _).alloc _).below hb)
    have SQ1 := Lib.hid (((HTb.out.alloc _).alloc _).below hb)
    clear hb HMa HMb HTa HFb HFa HTb
    go_wp2_with fail
    refine (moveRight_impl eb hb (SB1.out).now).mono ?_
    rintro _ w2 ⟨rfl, hb⟩
    have E2 := Lib.hid (below_then E1.out hb (Nat.le_refl _))
    have Ba2 := Lib.hid ((Ba1.out).step hb)
    have ra2 := Ba2.out.cell
    have ba2 := Ba2.out.lt
    have Bb2 := Lib.hid ((Bb1.out).step hb)
    have rb2 := Bb2.out.cell
    have bb2 := Bb2.out.lt
    have SA2 := Lib.hid ((SA1.out).below hb)
    have SB2 := Lib.hid ((SB1.out).below hb)
    have ST2 := Lib.hid ((ST1.out).below hb)
    have SF2 := Lib.hid ((SF1.out).below hb)
    have SP2 := Lib.hid ((SP1.out).below hb)
    have SQ2 := Lib.hid ((SQ1.out).below hb)
    clear hb Ba1 ra1 ba1 Bb1 rb1 bb1 SA1 SB1 ST1 SF1 SP1 SQ1 E1
    go_wp2_with fail
    have qa0 := later_cell ba2 (ra2 0)
    have qa1 := later_cell ba2 (ra2 1)
    have qa2 := later_cell ba2 (ra2 2)
    have qa3 := later_cell ba2 (ra2 3)
    have qa4 := later_cell ba2 (ra2 4)
    have qa5 := later_cell ba2 (ra2 5)
    have qa6 := later_cell ba2 (ra2 6)
    have qa7 := later_cell ba2 (ra2 7)
    have qa8 := later_cell ba2 (ra2 8)
    have qa9 := later_cell ba2 (ra2 9)
    have qa10 := later_cell ba2 (ra2 10)
    have qa11 := later_cell ba2 (ra2 11)
    have qa12 := later_cell ba2 (ra2 12)
    have qb0 := later_cell bb2 (rb2 0)
    have qb1 := later_cell bb2 (rb2 1)
    have qb2 := later_cell bb2 (rb2 2)
    have qb3 := later_cell bb2 (rb2 3)
    have qb4 := later_cell bb2 (rb2 4)
    have qb5 := later_cell bb2 (rb2 5)
    have qb6 := later_cell bb2 (rb2 6)
    have qb7 := later_cell bb2 (rb2 7)
    have qb8 := later_cell bb2 (rb2 8)
    have qb9 := later_cell bb2 (rb2 9)
    have qb10 := later_cell bb2 (rb2 10)
    have qb11 := later_cell bb2 (rb2 11)
    have qb12 := later_cell bb2 (rb2 12)
    refine wp_region_later (by kernel_rfl) (by kernel_rfl) ?_
    repeat (go_big_quiet_step ((go_at_call 27; exact later_call (moverOf_any _ _ _ _ _ _ _ _ _ _ _ _ _ _ _ _ _ _ ))))
    refine wpQuiet_nil ?_
    rintro _ ⟨u9, rfl⟩
    have hb := later_below u9
    generalize later w2 u9 = w3 at hb ⊢
    clear qa0 qa1 qa2 qa3 qa4 qa5 qa6 qa7 qa8 qa9 qa10 qa11 qa12 qb0 qb1 qb2 qb3 qb4 qb5 qb6 qb7 qb8 qb9 qb10 qb11 qb12
    have E3 := Lib.hid (below_then E2.out hb (Nat.le_refl _))
    have SA3 := Lib.hid ((SA2.out).below hb)
    have SB3 := Lib.hid ((SB2.out).below hb)
    have ST3 := Lib.hid ((ST2.out).below hb)
    have SF3 := Lib.hid ((SF2.out).below hb)
    have SP3 := Lib.hid ((SP2.out).below hb)
    have SQ3 := Lib.hid ((SQ2.out).below hb)
    clear hb
    go_wp2_with fail
    refine wp_region_later (by kernel_rfl) (by kernel_rfl) ?_
    repeat (go_big_quiet_step (first
      | exact later_call (Ksa.out _)
      | exact later_call (Kta.out _)
      | exact later_call (Ksb.out _)
      | exact later_call (Ktb.out _)
      | exact later_call (HKha.out hTa hFb h1 ((ST3.out.below (later_below _)).now) ((SF3.out.below (later_below _)).now))
      | exact later_call (HKhb.out hFb hTa h2 ((SF3.out.below (later_below _)).now) ((ST3.out.below (later_below _)).now))))
    refine wpQuiet_nil ?_
    rintro _ ⟨u9, rfl⟩
    have E4 := Lib.hid (below_then E3.out (later_below u9) (Nat.le_refl _))
    generalize later w3 u9 = w4 at *
    go_wp2
    go_ret
    exact ⟨ret_bool (by rw [HE.out, h1]; try rfl), E4.out⟩
end Go.Proofs.Ytflfnekaiaplfaa.cf
