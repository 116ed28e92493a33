/- exprFits; the closure over a block. -/
import Derived.Test.YtgkcohclejmhkaaBkE
namespace Go.Proofs.Ytgkcohclejmhkaa.cf
open ad mem vl ex un cm
open Go.ChangeShapes Go.WideShapes Go.ChangeAt Go.RowKit Go.Lib
set_option linter.unusedVariables false
set_option maxRecDepth 8000
set_option linter.unusedSimpArgs false

noncomputable def fitsB (E : ExprD) (c : Int) (k : Nat) : Bool := exprB 4 E && (!(c == -1) || !uses 3 E) && (!(k == 0) || !uses 4 E)
noncomputable def fitP (c : Int) (k : Nat) (p : PropD) : Bool := wordB p.name && fitsB p.expr c k
theorem usesE_impl {k : Int} {B : Nat → Prop} {n : Nat} {w : World} {ds : List DC} {vs : List Value} {E : ExprD} {r : Bool} (hE : bE n ds = E) (hr : uses k E = r) (h : Cells B n w shExpr_ ds vs) :
    Calls Try.prog 148 #[.agg vs.toArray, .int .i64 k] w (un.Told w (.bool r)) := by
  subst hE hr; exact uses_impl k n h
set_option maxHeartbeats 4000000 in
theorem fits_impl {B B' : Nat → Prop} {n m : Nat} {w : World} {ds ds' : List DC} {vs vs' : List Value} {E : ExprD} {r : Bool} (hE : bE n ds = E) (hr : fitsB E (bI (ds'.getD 6 z)) (bL (ds'.getD 7 z)).length = r) (h : Cells B n w shExpr_ ds vs) (h' : Cells B' m w shBlock_ ds' vs') :
    Calls Try.prog 128 #[.agg vs.toArray, .agg vs'.toArray] w (un.Told w (.bool r)) := by
  have HE := Lib.hid (Gd.ofC h)
  obtain ⟨xa0, xa1, xa2, sa3, la4, sa5, sa6, xa7, xa8, sa9, sa10, la11, Aa4, ca4, Aa11, ca11, rfl, rfl, -⟩ := open_Expr h
  obtain ⟨lb0, sb1, sb2, xb3, xb4, sb5, xb6, lb7, lb8, Ab0, cb0, Ab7, cb7, Ab8, cb8, rfl, rfl, kb0, kb1, kb2, kb3, kb4, kb5, kb6, kb7, kb8⟩ := open_Block h'
  have hlen := kb7.len.2
  unfold maxLen at hlen
  clear h h' kb0 kb1 kb2 kb3 kb4 kb5 kb6 kb7 kb8
  change fitsB E xb6 lb7.length = r at hr
  subst hr
  go_enter Try.func128, Try.ntmps128
  cases hx : exprB 4 E
  · go_wp2_with fail
    refine (exprRight_impl hE hx ((HE.out.alloc _).alloc _).now).mono ?_
    rintro _ w1 ⟨rfl, hb⟩
    have E1 := Lib.hid (below_then (below_a2 _ _ _) hb (Nat.le_refl _))
    have Be1 := Lib.hid (((Blk.new w _ _).alloc _).step hb)
    have re1 := Be1.out.cell
    have be1 := Be1.out.lt
    have Bb1 := Lib.hid ((Blk.new1 w _ _ _).step hb)
    have rb1 := Bb1.out.cell
    have bb1 := Bb1.out.lt
    have SE1 := Lib.hid (((HE.out.alloc _).alloc _).below hb)
    clear hb HE
    go_wp2
    all_goals go_ret
    all_goals refine ⟨ret_bool ?_, E1.out⟩
    all_goals (simp [fitsB, hx])
  go_wp2_with fail
  refine (exprRight_impl hE hx ((HE.out.alloc _).alloc _).now).mono ?_
  rintro _ w1 ⟨rfl, hb⟩
  have E1 := Lib.hid (below_then (below_a2 _ _ _) hb (Nat.le_refl _))
  have Be1 := Lib.hid (((Blk.new w _ _).alloc _).step hb)
  have re1 := Be1.out.cell
  have be1 := Be1.out.lt
  have Bb1 := Lib.hid ((Blk.new1 w _ _ _).step hb)
  have rb1 := Bb1.out.cell
  have bb1 := Bb1.out.lt
  have SE1 := Lib.hid (((HE.out.alloc _).alloc _).below hb)
  clear hb HE
  by_cases hm1 : xb6 = -1
  · cases hu3 : uses 3 E
    rotate_left
    · go_wp2_with fail
      refine (usesE_impl hE hu3 (SE1.out).now).mono ?_
      rintro _ w2 ⟨rfl, hb⟩
      have E2 := Lib.hid (below_then E1.out hb (Nat.le_refl _))
      have Be2 := Lib.hid ((Be1.out).step hb)
      have re2 := Be2.out.cell
      have be2 := Be2.out.lt
      have Bb2 := Lib.hid ((Bb1.out).step hb)
      have rb2 := Bb2.out.cell
      have bb2 := Bb2.out.lt
      have SE2 := Lib.hid ((SE1.out).below hb)
      clear hb Be1 re1 be1 Bb1 rb1 bb1 SE1 E1
      by_cases hen : lb7.length = 0
      · cases hu4 : uses 4 E
        rotate_left
        · go_wp2_with fail
          refine (usesE_impl hE hu4 (SE2.out).now).mono ?_
          rintro _ w3 ⟨rfl, hb⟩
          have E3 := Lib.hid (below_then E2.out hb (Nat.le_refl _))
          have Be3 := Lib.hid ((Be2.out).step hb)
          have re3 := Be3.out.cell
          have be3 := Be3.out.lt
          have Bb3 := Lib.hid ((Bb2.out).step hb)
          have rb3 := Bb3.out.cell
          have bb3 := Bb3.out.lt
          have SE3 := Lib.hid ((SE2.out).below hb)
          clear hb Be2 re2 be2 Bb2 rb2 bb2 SE2 E2
          go_wp2
          all_goals go_ret
          all_goals refine ⟨ret_bool ?_, E3.out⟩
          all_goals (simp [fitsB, hx, hu4, hen, hu3, hm1])
        go_wp2_with fail
        refine (usesE_impl hE hu4 (SE2.out).now).mono ?_
        rintro _ w3 ⟨rfl, hb⟩
        have E3 := Lib.hid (below_then E2.out hb (Nat.le_refl _))
        have Be3 := Lib.hid ((Be2.out).step hb)
        have re3 := Be3.out.cell
        have be3 := Be3.out.lt
        have Bb3 := Lib.hid ((Bb2.out).step hb)
        have rb3 := Bb3.out.cell
        have bb3 := Bb3.out.lt
        have SE3 := Lib.hid ((SE2.out).below hb)
        clear hb Be2 re2 be2 Bb2 rb2 bb2 SE2 E2
        go_wp2
        all_goals go_ret
        all_goals refine ⟨ret_bool ?_, E3.out⟩
        all_goals (simp [fitsB, hx, hu4, hen, hu3, hm1])
      have hpos : 0 < lb7.length := by omega
      go_wp2
      all_goals go_ret
      all_goals refine ⟨ret_bool ?_, E2.out⟩
      all_goals (simp [fitsB, hx, hen, hu3, hm1])
    go_wp2_with fail
    refine (usesE_impl hE hu3 (SE1.out).now).mono ?_
    rintro _ w2 ⟨rfl, hb⟩
    have E2 := Lib.hid (below_then E1.out hb (Nat.le_refl _))
    have Be2 := Lib.hid ((Be1.out).step hb)
    have re2 := Be2.out.cell
    have be2 := Be2.out.lt
    have Bb2 := Lib.hid ((Bb1.out).step hb)
    have rb2 := Bb2.out.cell
    have bb2 := Bb2.out.lt
    have SE2 := Lib.hid ((SE1.out).below hb)
    clear hb Be1 re1 be1 Bb1 rb1 bb1 SE1 E1
    by_cases hen : lb7.length = 0
    · cases hu4 : uses 4 E
      rotate_left
      · go_wp2_with fail
        refine (usesE_impl hE hu4 (SE2.out).now).mono ?_
        rintro _ w3 ⟨rfl, hb⟩
        have E3 := Lib.hid (below_then E2.out hb (Nat.le_refl _))
        have Be3 := Lib.hid ((Be2.out).step hb)
        have re3 := Be3.out.cell
        have be3 := Be3.out.lt
        have Bb3 := Lib.hid ((Bb2.out).step hb)
        have rb3 := Bb3.out.cell
        have bb3 := Bb3.out.lt
        have SE3 := Lib.hid ((SE2.out).below hb)
        clear hb Be2 re2 be2 Bb2 rb2 bb2 SE2 E2
        go_wp2
        all_goals go_ret
        all_goals refine ⟨ret_bool ?_, E3.out⟩
        all_goals (simp [fitsB, hx, hu4, hen, hu3, hm1])
      go_wp2_with fail
      refine (usesE_impl hE hu4 (SE2.out).now).mono ?_
      rintro _ w3 ⟨rfl, hb⟩
      have E3 := Lib.hid (below_then E2.out hb (Nat.le_refl _))
      have Be3 := Lib.hid ((Be2.out).step hb)
      have re3 := Be3.out.cell
      have be3 := Be3.out.lt
      have Bb3 := Lib.hid ((Bb2.out).step hb)
      have rb3 := Bb3.out.cell
      have bb3 := Bb3.out.lt
      have SE3 := Lib.hid ((SE2.out).below hb)
      clear hb Be2 re2 be2 Bb2 rb2 bb2 SE2 E2
      go_wp2
      all_goals go_ret
      all_goals refine ⟨ret_bool ?_, E3.out⟩
      all_goals (simp [fitsB, hx, hu4, hen, hu3, hm1])
    have hpos : 0 < lb7.length := by omega
    go_wp2
    all_goals go_ret
    all_goals refine ⟨ret_bool ?_, E2.out⟩
    all_goals (simp [fitsB, hx, hen, hu3, hm1])
  by_cases hen : lb7.length = 0
  · cases hu4 : uses 4 E
    rotate_left
    · go_wp2_with fail
      refine (usesE_impl hE hu4 (SE1.out).now).mono ?_
      rintro _ w2 ⟨rfl, hb⟩
      have E2 := Lib.hid (below_then E1.out hb (Nat.le_refl _))
      have Be2 := Lib.hid ((Be1.out).step hb)
      have re2 := Be2.out.cell
      have be2 := Be2.out.lt
      have Bb2 := Lib.hid ((Bb1.out).step hb)
      have rb2 := Bb2.out.cell
      have bb2 := Bb2.out.lt
      have SE2 := Lib.hid ((SE1.out).below hb)
      clear hb Be1 re1 be1 Bb1 rb1 bb1 SE1 E1
      go_wp2
      all_goals go_ret
      all_goals refine ⟨ret_bool ?_, E2.out⟩
      all_goals (simp [fitsB, hx, hu4, hen, hm1])
    go_wp2_with fail
    refine (usesE_impl hE hu4 (SE1.out).now).mono ?_
    rintro _ w2 ⟨rfl, hb⟩
    have E2 := Lib.hid (below_then E1.out hb (Nat.le_refl _))
    have Be2 := Lib.hid ((Be1.out).step hb)
    have re2 := Be2.out.cell
    have be2 := Be2.out.lt
    have Bb2 := Lib.hid ((Bb1.out).step hb)
    have rb2 := Bb2.out.cell
    have bb2 := Bb2.out.lt
    have SE2 := Lib.hid ((SE1.out).below hb)
    clear hb Be1 re1 be1 Bb1 rb1 bb1 SE1 E1
    go_wp2
    all_goals go_ret
    all_goals refine ⟨ret_bool ?_, E2.out⟩
    all_goals (simp [fitsB, hx, hu4, hen, hm1])
  have hpos : 0 < lb7.length := by omega
  go_wp2
  all_goals go_ret
  all_goals refine ⟨ret_bool ?_, E1.out⟩
  all_goals (simp [fitsB, hx, hen, hm1])
theorem _root_.Go.Proofs.Ytgkcohclejmhkaa.un.Gd.ofB {w : World} {g : Nat} {T : TypeId} {cs : Array Value} (h : Blk w g T cs) : Gd (fun w => Blk w g T cs) w := ⟨fun w' hb => h.step hb⟩
set_option maxHeartbeats 4000000 in
theorem fit_closure {B B' : Nat → Prop} {n m bb : Nat} {w : World} {ds ds' : List DC} {vs vs' : List Value} {r : Bool} (hr : fitP (bI (ds'.getD 6 z)) (bL (ds'.getD 7 z)).length (bP n ds) = r) (h : Cells B n w shProp_ ds vs) (h' : Cells B' m w shBlock_ ds' vs') (hb : Blk w bb 63 vs'.toArray) :
    Calls Try.prog 127 #[.agg vs.toArray, .pointer (some ⟨bb, 0, none⟩)] w (un.Told w (.bool r)) := by
  have HB' := Lib.hid (Gd.ofC h')
  obtain ⟨sp0, xp1, xp2, xp3, sp4, lp5, sp6, sp7, xp8, xp9, sp10, sp11, lp12, Ap5, cp5, Ap12, cp12, rfl, rfl, kp0, kp1, kp2, kp3, kp4, kp5, kp6, kp7, kp8, kp9, kp10, kp11, kp12⟩ := open_Prop h
  obtain ⟨lb0, sb1, sb2, xb3, xb4, sb5, xb6, lb7, lb8, Ab0, cb0, Ab7, cb7, Ab8, cb8, rfl, rfl, -⟩ := open_Block h'
  have HE := Lib.hid (Gd.ofC (show Cells B n w shExpr_ [.i xp1, .i xp2, .i xp3, .s sp4, .l lp5, .s sp6, .s sp7, .i xp8, .i xp9, .s sp10, .s sp11, .l lp12] [.int .i64 xp1, .int .i64 xp2, .int .i64 xp3, .string sp4, .slice Ap5 lp5.length cp5, .string sp6, .string sp7, .int .i64 xp8, .int .i64 xp9, .string sp10, .string sp11, .slice Ap12 lp12.length cp12] from ⟨Cell.mkI kp1, Cell.mkI kp2, Cell.mkI kp3, Cell.mkS kp4, kp5, Cell.mkS kp6, Cell.mkS kp7, Cell.mkI kp8, Cell.mkI kp9, Cell.mkS kp10, Cell.mkS kp11, kp12, trivial⟩))
  obtain ⟨E, hE⟩ : ∃ E, bE n [.i xp1, .i xp2, .i xp3, .s sp4, .l lp5, .s sp6, .s sp7, .i xp8, .i xp9, .s sp10, .s sp11, .l lp12] = E := ⟨_, rfl⟩
  have eP : bP n [.s sp0, .i xp1, .i xp2, .i xp3, .s sp4, .l lp5, .s sp6, .s sp7, .i xp8, .i xp9, .s sp10, .s sp11, .l lp12] = ⟨sp0, E⟩ := by rw [← hE]; rfl
  change fitP xb6 lb7.length (bP n [.s sp0, .i xp1, .i xp2, .i xp3, .s sp4, .l lp5, .s sp6, .s sp7, .i xp8, .i xp9, .s sp10, .s sp11, .l lp12]) = r at hr
  rw [eP] at hr
  subst hr
  clear h h' eP kp1 kp2 kp3 kp4 kp5 kp6 kp7 kp8 kp9 kp10 kp11 kp12
  have Bb0 := Lib.hid hb
  have rb0 := Bb0.out.cell
  have bb0 := Bb0.out.lt
  clear hb
  go_enter Try.func127, Try.ntmps127
  have Bbx := (Bb0.out.alloc (.cells #[.string sp0, .int .i64 xp1, .int .i64 xp2, .int .i64 xp3, .string sp4, .slice Ap5 lp5.length cp5, .string sp6, .string sp7, .int .i64 xp8, .int .i64 xp9, .string sp10, .string sp11, .slice Ap12 lp12.length cp12] 144)).cell
  cases hw : wordB sp0
  rotate_left
  · go_wp2_with fail
    refine (word_impl hw kp0).mono ?_
    rintro _ _ ⟨rfl, rfl⟩
    go_wp2_with fail
    refine (fits_impl (r := fitsB E xb6 lb7.length) hE rfl (HE.out.alloc _).now (HB'.out.alloc _).now).mono ?_
    rintro _ w1 ⟨rfl, hb⟩
    have E1 := Lib.hid (below_then (below_a1 _ _) hb (Nat.le_refl _))
    have Bb1 := Lib.hid ((Bb0.out.alloc _).step hb)
    have rb1 := Bb1.out.cell
    have bb1 := Bb1.out.lt
    have Bp1 := Lib.hid ((Blk.new w _ _).step hb)
    have rp1 := Bp1.out.cell
    have bp1 := Bp1.out.lt
    have SE1 := Lib.hid ((HE.out.alloc _).below hb)
    have SB1 := Lib.hid ((HB'.out.alloc _).below hb)
    clear hb Bb0 rb0 bb0 HE HB'
    go_wp2
    all_goals go_ret
    all_goals refine ⟨ret_bool ?_, E1.out⟩
    all_goals (simp [fitP, hw])
  go_wp2_with fail
  refine (word_impl hw kp0).mono ?_
  rintro _ _ ⟨rfl, rfl⟩
  go_wp2
  all_goals go_ret
  all_goals refine ⟨ret_bool ?_, (below_a1 _ _)⟩
  all_goals (simp [fitP, hw])
end Go.Proofs.Ytgkcohclejmhkaa.cf
