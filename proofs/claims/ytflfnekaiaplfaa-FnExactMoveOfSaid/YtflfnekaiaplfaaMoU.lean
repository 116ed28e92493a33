/- MoveOf of the model. -/
import Derived.Test.YtflfnekaiaplfaaMoT
import Derived.Test.YtflfnekaiaplfaaMoO
namespace Go.Proofs.Ytflfnekaiaplfaa.cf
open ad mem vl ex un
open Go.ChangeShapes Go.WideShapes Go.ChangeAt Go.RowKit Go.Lib
set_option linter.unusedVariables false
set_option maxRecDepth 8000
set_option linter.unusedSimpArgs false

theorem move_nv (m : MoveD) (a : AddrD) : nV (moveX m a) ≤ 4 := by
  have h := (move_fits m a).len
  have e : nV (moveX m a) = nL (dS (moveTo m a).path) := by simp [moveX, outX, nV]
  rw [e, nL_dS]; exact h
theorem move_spec' {B : Nat → Prop} {n : Nat} {w : World} {ds : List DC} {vs : List Value} {D : MoveD} {r : Bool} (hD : bM ds = D) (hr : moveB D = r) (h : Cells B n w shMove_ ds vs) :
    Calls Try.prog 21 #[.agg vs.toArray] w (un.Told w (.bool r)) := by
  subst hD hr; exact move_spec h
theorem of_any {M : MoveD} {D : AddrD} (hM : MvOk M) (hD : addrB D = true) (A1 A7 A : Option Addr) (c1 c7 c : Nat) (w : World) (h1 : Strs w A1 M.src.path) (h7 : Strs w A7 M.dst.path) (h : Strs w A D.path) (z1 : Sz M.src) (z7 : Sz M.dst) (zD : Sz D) (l1 : M.src.path.length ≤ 1000000) (l7 : M.dst.path.length ≤ 1000000) (l0 : D.path.length ≤ 1000000) (hr : D.path.length ≤ c ∧ c ≤ maxLen ∧ ((∃ b o, A = some ⟨b, o, none⟩) ∨ (A = none ∧ c = 0))) :
    Calls Try.prog 23 #[.agg #[.int .i64 M.kind, .slice A1 M.src.path.length c1, .string M.src.typ, .string M.src.nam, .int .i64 M.src.kind, .int .i64 M.src.n, .string M.src.key, .slice A7 M.dst.path.length c7, .string M.dst.typ, .string M.dst.nam, .int .i64 M.dst.kind, .int .i64 M.dst.n, .string M.dst.key], .agg #[.slice A D.path.length c, .string D.typ, .string D.nam, .int .i64 D.kind, .int .i64 D.n, .string D.key]] w (OfO w (goesTo M D) (goesB M D)) := by
  rcases hM.kind with k | k | k
  · exact of1 M D A1 A7 A c1 c7 c w h1 h7 h hM hD z1 z7 zD l1 l7 l0 hr k
  · exact of2 M D A1 A7 A c1 c7 c w h1 h7 h hM hD z1 z7 zD l1 l7 l0 hr k
  · exact of3 M D A1 A7 A c1 c7 c w h1 h7 h hM hD z1 z7 zD l1 l7 l0 hr k
set_option maxHeartbeats 8000000 in
theorem moveOf_spec {B B' : Nat → Prop} {n n' : Nat} {w : World} {ds ds' : List DC} {vs vs' : List Value} {X : List DC} (hX : moveX (bM ds) (bA ds') = X) (h : Cells B n w shMove_ ds vs) (h' : Cells B' n' w shAddr_ ds' vs') (hr : RoomL vs') :
    Calls Try.prog 7 #[.agg vs.toArray, .agg vs'.toArray] w (fun e w' => ∃ us : List Value, e = .returned (.agg us.toArray) ∧ Cells (fun x => w.heap.size ≤ x) 1 w' shAddrOut_ X us ∧ Below w.heap.size w w') := by
  subst hX
  have HM := Lib.hid (Gd.ofC h)
  have HD := Lib.hid (Gd.ofC h')
  have ZD := Lib.hid (sz_of h')
  obtain ⟨A1, c1, A7, c7, rfl, s1, s7, z1, z7⟩ := move_in h
  obtain ⟨A, c, rfl, h1, h2, h3, h4, h5⟩ := addr_in h'
  have HK := Lib.hid (hr (.slice A (bA ds').path.length c) (by simp) _ _ _ rfl)
  obtain ⟨M, hM⟩ : ∃ M, bM ds = M := ⟨_, rfl⟩
  obtain ⟨D, hD⟩ : ∃ D, bA ds' = D := ⟨_, rfl⟩
  rw [hM] at s1 s7 z1 z7 HM ⊢
  rw [hD] at ZD HK h1 h2 h3 h4 h5 HD ⊢
  have S1 := Lib.hid (Gd.ofStrs s1)
  have S7 := Lib.hid (Gd.ofStrs s7)
  have S0 := Lib.hid (Gd.ofStrs h1)
  have Z1 := Lib.hid z1
  have Z7 := Lib.hid z7
  have EM := Lib.hid hM
  have ED := Lib.hid hD
  clear h h' hr s1 s7 z1 z7 h1 h2 h3 h4 h5 hM hD
  cases ha : moveB M
  · go_enter Try.func7, Try.ntmps7
    go_wp2_with fail
    refine (move_spec' EM.out ha ((((HM.out).alloc _).alloc _).alloc _).now).mono ?_
    rintro _ w1 ⟨rfl, hb⟩
    have E1 := Lib.hid (below_then (below_a3 _ _ _ _) hb (Nat.le_refl _))
    have Bm1 := Lib.hid ((((Blk.new w _ _).alloc _).alloc _).step hb)
    have rm1 := Bm1.out.cell
    have bm1 := Bm1.out.lt
    have Ba1 := Lib.hid (((Blk.new1 w _ _ _).alloc _).step hb)
    have ra1 := Ba1.out.cell
    have ba1 := Ba1.out.lt
    have Br1 := Lib.hid ((Blk.new2 w _ _ _ _).step hb)
    have rr1 := Br1.out.cell
    have br1 := Br1.out.lt
    have SM1 := Lib.hid (((((HM.out).alloc _).alloc _).alloc _).below hb)
    have SD1 := Lib.hid (((((HD.out).alloc _).alloc _).alloc _).below hb)
    have SS11 := Lib.hid (((((S1.out).alloc _).alloc _).alloc _).below hb)
    have SS71 := Lib.hid (((((S7.out).alloc _).alloc _).alloc _).below hb)
    have SS01 := Lib.hid (((((S0.out).alloc _).alloc _).alloc _).below hb)
    clear hb HM HD S1 S7 S0
    have fr := Br1.out.free
    go_wp2
    all_goals
      refine ret7 Br1.out ?_ ?_ ?_
      · intro W hW; have p9 := hW.cell; have f9 := hW.free; simp [results, Try.results7, go_sem, p9, f9]
      · rfl
      refine ⟨_, rfl, ?_, ?_⟩
      · have hq : moveX M D = outX bare.zeroD 1 := by rw [moveX, moveTo, show moveCode M D = 1 from by simp [moveCode, ha], if_neg (by omega)]
        rw [hq]
        exact (out_owns (k := 1) (base := w.heap.size) (own.Own.nil _ _) zero_sz (by unfold R64; omega)).cells.monoB (fun x hx _ => hx.1)
      · repeat (refine Below.setCell ?_ (by simp <;> omega) _)
        exact E1.out
  cases hb' : addrB D
  · go_enter Try.func7, Try.ntmps7
    go_wp2_with fail
    refine (move_spec' EM.out ha ((((HM.out).alloc _).alloc _).alloc _).now).mono ?_
    rintro _ w1 ⟨rfl, hb⟩
    have E1 := Lib.hid (below_then (below_a3 _ _ _ _) hb (Nat.le_refl _))
    have Bm1 := Lib.hid ((((Blk.new w _ _).alloc _).alloc _).step hb)
    have rm1 := Bm1.out.cell
    have bm1 := Bm1.out.lt
    have Ba1 := Lib.hid (((Blk.new1 w _ _ _).alloc _).step hb)
    have ra1 := Ba1.out.cell
    have ba1 := Ba1.out.lt
    have Br1 := Lib.hid ((Blk.new2 w _ _ _ _).step hb)
    have rr1 := Br1.out.cell
    have br1 := Br1.out.lt
    have SM1 := Lib.hid (((((HM.out).alloc _).alloc _).alloc _).below hb)
    have SD1 := Lib.hid (((((HD.out).alloc _).alloc _).alloc _).below hb)
    have SS11 := Lib.hid (((((S1.out).alloc _).alloc _).alloc _).below hb)
    have SS71 := Lib.hid (((((S7.out).alloc _).alloc _).alloc _).below hb)
    have SS01 := Lib.hid (((((S0.out).alloc _).alloc _).alloc _).below hb)
    clear hb HM HD S1 S7 S0
    go_wp2_with fail
    refine (addrRight_spec ED.out hb' (SD1.out).now).mono ?_
    rintro _ w2 ⟨rfl, hb⟩
    have E2 := Lib.hid (below_then E1.out hb (Nat.le_refl _))
    have Bm2 := Lib.hid ((Bm1.out).step hb)
    have rm2 := Bm2.out.cell
    have bm2 := Bm2.out.lt
    have Ba2 := Lib.hid ((Ba1.out).step hb)
    have ra2 := Ba2.out.cell
    have ba2 := Ba2.out.lt
    have Br2 := Lib.hid ((Br1.out).step hb)
    have rr2 := Br2.out.cell
    have br2 := Br2.out.lt
    have SM2 := Lib.hid ((SM1.out).below hb)
    have SD2 := Lib.hid ((SD1.out).below hb)
    have SS12 := Lib.hid ((SS11.out).below hb)
    have SS72 := Lib.hid ((SS71.out).below hb)
    have SS02 := Lib.hid ((SS01.out).below hb)
    clear hb Bm1 rm1 bm1 Ba1 ra1 ba1 Br1 rr1 br1 SM1 SD1 SS11 SS71 SS01 E1
    have fr := Br2.out.free
    go_wp2
    all_goals
      refine ret7 Br2.out ?_ ?_ ?_
      · intro W hW; have p9 := hW.cell; have f9 := hW.free; simp [results, Try.results7, go_sem, p9, f9]
      · rfl
      refine ⟨_, rfl, ?_, ?_⟩
      · have hq : moveX M D = outX bare.zeroD 1 := by rw [moveX, moveTo, show moveCode M D = 1 from by simp [moveCode, ha, hb'], if_neg (by omega)]
        rw [hq]
        exact (out_owns (k := 1) (base := w.heap.size) (own.Own.nil _ _) zero_sz (by unfold R64; omega)).cells.monoB (fun x hx _ => hx.1)
      · repeat (refine Below.setCell ?_ (by simp <;> omega) _)
        exact E2.out
  have OK := mv_ok ha
  have SZ := Lib.hid (goes_sz OK hb' Z7.out ZD.out)
  have LS : Hid (M.src.path.length ≤ 1000000 ∧ M.dst.path.length ≤ 1000000 ∧ D.path.length ≤ 1000000) := (by
    show _ ∧ _
    have h0 := (small_of hb').len
    by_cases hk : M.kind = 3
    · have h1 := (small_home (OK.home hk).1).1; have h2 := (small_home (OK.home hk).2).1; exact ⟨by omega, by omega, by omega⟩
    · have h1 := (small_of (OK.right hk).1).len; have h2 := (small_of (OK.right hk).2).len; exact ⟨by omega, by omega, by omega⟩)
  have K := Lib.hid (fun (W : World) (a : Strs W A1 M.src.path) (b : Strs W A7 M.dst.path) (d : Strs W A D.path) => of_any OK hb' A1 A7 A c1 c7 c W a b d Z1.out Z7.out ZD.out LS.out.1 LS.out.2.1 LS.out.2.2 HK.out)
  clear OK
  obtain ⟨G, hG⟩ : ∃ G, goesTo M D = G := ⟨_, rfl⟩
  rw [hG] at K SZ
  have HG := Lib.hid hG
  clear hG
  obtain ⟨r, hh⟩ : ∃ r, goesB M D = r := ⟨_, rfl⟩
  rw [hh] at K
  cases r
  · go_enter Try.func7, Try.ntmps7
    go_wp2_with fail
    refine (move_spec' EM.out ha ((((HM.out).alloc _).alloc _).alloc _).now).mono ?_
    rintro _ w1 ⟨rfl, hb⟩
    have E1 := Lib.hid (below_then (below_a3 _ _ _ _) hb (Nat.le_refl _))
    have Bm1 := Lib.hid ((((Blk.new w _ _).alloc _).alloc _).step hb)
    have rm1 := Bm1.out.cell
    have bm1 := Bm1.out.lt
    have Ba1 := Lib.hid (((Blk.new1 w _ _ _).alloc _).step hb)
    have ra1 := Ba1.out.cell
    have ba1 := Ba1.out.lt
    have Br1 := Lib.hid ((Blk.new2 w _ _ _ _).step hb)
    have rr1 := Br1.out.cell
    have br1 := Br1.out.lt
    have SM1 := Lib.hid (((((HM.out).alloc _).alloc _).alloc _).below hb)
    have SD1 := Lib.hid (((((HD.out).alloc _).alloc _).alloc _).below hb)
    have SS11 := Lib.hid (((((S1.out).alloc _).alloc _).alloc _).below hb)
    have SS71 := Lib.hid (((((S7.out).alloc _).alloc _).alloc _).below hb)
    have SS01 := Lib.hid (((((S0.out).alloc _).alloc _).alloc _).below hb)
    clear hb HM HD S1 S7 S0
    go_wp2_with fail
    refine (addrRight_spec ED.out hb' (SD1.out).now).mono ?_
    rintro _ w2 ⟨rfl, hb⟩
    have E2 := Lib.hid (below_then E1.out hb (Nat.le_refl _))
    have Bm2 := Lib.hid ((Bm1.out).step hb)
    have rm2 := Bm2.out.cell
    have bm2 := Bm2.out.lt
    have Ba2 := Lib.hid ((Ba1.out).step hb)
    have ra2 := Ba2.out.cell
    have ba2 := Ba2.out.lt
    have Br2 := Lib.hid ((Br1.out).step hb)
    have rr2 := Br2.out.cell
    have br2 := Br2.out.lt
    have SM2 := Lib.hid ((SM1.out).below hb)
    have SD2 := Lib.hid ((SD1.out).below hb)
    have SS12 := Lib.hid ((SS11.out).below hb)
    have SS72 := Lib.hid ((SS71.out).below hb)
    have SS02 := Lib.hid ((SS01.out).below hb)
    clear hb Bm1 rm1 bm1 Ba1 ra1 ba1 Br1 rr1 br1 SM1 SD1 SS11 SS71 SS01 E1
    have HW2 := Lib.hid E2.out.size
    go_wp2_with fail
    refine (K.out _ (SS12.out).now (SS72.out).now (SS02.out).now).mono ?_
    rintro _ w3 ⟨A9, c9, rfl, ho, hb⟩
    have O9 := Lib.hid (own.Own.mono (base' := w.heap.size) ho HW2.out)
    have O8 := Lib.hid (own.Own.mono (base' := w.heap.size + 1 + 1 + 1) ho br2)
    have E3 := Lib.hid (below_then E2.out hb (Nat.le_refl _))
    have Bm3 := Lib.hid ((Bm2.out).step hb)
    have rm3 := Bm3.out.cell
    have bm3 := Bm3.out.lt
    have Ba3 := Lib.hid ((Ba2.out).step hb)
    have ra3 := Ba3.out.cell
    have ba3 := Ba3.out.lt
    have Br3 := Lib.hid ((Br2.out).step hb)
    have rr3 := Br3.out.cell
    have br3 := Br3.out.lt
    have SM3 := Lib.hid ((SM2.out).below hb)
    have SD3 := Lib.hid ((SD2.out).below hb)
    have SS13 := Lib.hid ((SS12.out).below hb)
    have SS73 := Lib.hid ((SS72.out).below hb)
    have SS03 := Lib.hid ((SS02.out).below hb)
    clear hb ho Bm2 rm2 bm2 Ba2 ra2 ba2 Br2 rr2 br2 SM2 SD2 SS12 SS72 SS02 E2
    have fr := Br3.out.free
    go_wp2
    all_goals
      refine ret7a Br3.out ?_ _ ?_ ?_
      · intro W hW; have p9 := hW.cell; have f9 := hW.free; simp [results, Try.results7, go_sem, p9, f9]
      · rfl
      refine ⟨_, rfl, ?_, ?_⟩
      · have hq : moveX M D = outX bare.zeroD 6 := by rw [moveX, moveTo, show moveCode M D = 6 from by simp [moveCode, ha, hb', hh], if_neg (by omega)]
        rw [hq]
        exact (out_owns (k := 6) (base := w.heap.size) (own.Own.nil _ _) zero_sz (by unfold R64; omega)).cells.monoB (fun x hx _ => hx.1)
      · refine below_da ?_ (Nat.le_refl _) _
        repeat (refine Below.setCell ?_ (by simp <;> omega) _)
        exact E3.out
  go_enter Try.func7, Try.ntmps7
  go_wp2_with fail
  refine (move_spec' EM.out ha ((((HM.out).alloc _).alloc _).alloc _).now).mono ?_
  rintro _ w1 ⟨rfl, hb⟩
  have E1 := Lib.hid (below_then (below_a3 _ _ _ _) hb (Nat.le_refl _))
  have Bm1 := Lib.hid ((((Blk.new w _ _).alloc _).alloc _).step hb)
  have rm1 := Bm1.out.cell
  have bm1 := Bm1.out.lt
  have Ba1 := Lib.hid (((Blk.new1 w _ _ _).alloc _).step hb)
  have ra1 := Ba1.out.cell
  have ba1 := Ba1.out.lt
  have Br1 := Lib.hid ((Blk.new2 w _ _ _ _).step hb)
  have rr1 := Br1.out.cell
  have br1 := Br1.out.lt
  have SM1 := Lib.hid (((((HM.out).alloc _).alloc _).alloc _).below hb)
  have SD1 := Lib.hid (((((HD.out).alloc _).alloc _).alloc _).below hb)
  have SS11 := Lib.hid (((((S1.out).alloc _).alloc _).alloc _).below hb)
  have SS71 := Lib.hid (((((S7.out).alloc _).alloc _).alloc _).below hb)
  have SS01 := Lib.hid (((((S0.out).alloc _).alloc _).alloc _).below hb)
  clear hb HM HD S1 S7 S0
  go_wp2_with fail
  refine (addrRight_spec ED.out hb' (SD1.out).now).mono ?_
  rintro _ w2 ⟨rfl, hb⟩
  have E2 := Lib.hid (below_then E1.out hb (Nat.le_refl _))
  have Bm2 := Lib.hid ((Bm1.out).step hb)
  have rm2 := Bm2.out.cell
  have bm2 := Bm2.out.lt
  have Ba2 := Lib.hid ((Ba1.out).step hb)
  have ra2 := Ba2.out.cell
  have ba2 := Ba2.out.lt
  have Br2 := Lib.hid ((Br1.out).step hb)
  have rr2 := Br2.out.cell
  have br2 := Br2.out.lt
  have SM2 := Lib.hid ((SM1.out).below hb)
  have SD2 := Lib.hid ((SD1.out).below hb)
  have SS12 := Lib.hid ((SS11.out).below hb)
  have SS72 := Lib.hid ((SS71.out).below hb)
  have SS02 := Lib.hid ((SS01.out).below hb)
  clear hb Bm1 rm1 bm1 Ba1 ra1 ba1 Br1 rr1 br1 SM1 SD1 SS11 SS71 SS01 E1
  have HW2 := Lib.hid E2.out.size
  go_wp2_with fail
  refine (K.out _ (SS12.out).now (SS72.out).now (SS02.out).now).mono ?_
  rintro _ w3 ⟨A9, c9, rfl, ho, hb⟩
  have O9 := Lib.hid (own.Own.mono (base' := w.heap.size) ho HW2.out)
  have O8 := Lib.hid (own.Own.mono (base' := w.heap.size + 1 + 1 + 1) ho br2)
  have E3 := Lib.hid (below_then E2.out hb (Nat.le_refl _))
  have Bm3 := Lib.hid ((Bm2.out).step hb)
  have rm3 := Bm3.out.cell
  have bm3 := Bm3.out.lt
  have Ba3 := Lib.hid ((Ba2.out).step hb)
  have ra3 := Ba3.out.cell
  have ba3 := Ba3.out.lt
  have Br3 := Lib.hid ((Br2.out).step hb)
  have rr3 := Br3.out.cell
  have br3 := Br3.out.lt
  have SM3 := Lib.hid ((SM2.out).below hb)
  have SD3 := Lib.hid ((SD2.out).below hb)
  have SS13 := Lib.hid ((SS12.out).below hb)
  have SS73 := Lib.hid ((SS72.out).below hb)
  have SS03 := Lib.hid ((SS02.out).below hb)
  clear hb ho Bm2 rm2 bm2 Ba2 ra2 ba2 Br2 rr2 br2 SM2 SD2 SS12 SS72 SS02 E2
  have fr := Br3.out.free
  go_wp2
  all_goals
    refine ret7a Br3.out ?_ _ ?_ ?_
    · intro W hW; have p9 := hW.cell; have f9 := hW.free; simp [results, Try.results7, go_sem, p9, f9]
    · rfl
    refine ⟨_, rfl, ?_, ?_⟩
    · have hq : moveX M D = outX G 0 := by rw [moveX, moveTo, show moveCode M D = 0 from by simp [moveCode, ha, hb', hh], if_pos rfl, HG.out]
      rw [hq]
      exact (out_owns (k := 0) (base := w.heap.size) (by (refine own.Own.alloc ?_ _); (refine own.Own.mono (base := w.heap.size + 1 + 1 + 1) ?_ (by omega)); (iterate 7 refine own.Own.far ?_ (by simp <;> omega) _); exact O8.out) SZ.out (by unfold R64; omega)).cells.monoB (fun x hx _ => hx.1)
    · refine below_da ?_ (Nat.le_refl _) _
      repeat (refine Below.setCell ?_ (by simp <;> omega) _)
      exact E3.out
end Go.Proofs.Ytflfnekaiaplfaa.cf
