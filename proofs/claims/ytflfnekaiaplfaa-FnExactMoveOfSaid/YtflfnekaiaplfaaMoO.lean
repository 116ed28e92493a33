/- MoveOf of the program. -/
import Derived.Test.YtflfnekaiaplfaaMoN
namespace Go.Proofs.Ytflfnekaiaplfaa.cf
open ad mem vl ex un
open Go.ChangeShapes Go.WideShapes Go.ChangeAt Go.RowKit Go.Lib
set_option linter.unusedVariables false
set_option maxRecDepth 8000
set_option linter.unusedSimpArgs false

set_option maxHeartbeats 8000000 in
theorem moveOf_goes {B B' : Nat → Prop} {n n' : Nat} {w : World} {ds ds' : List DC} {vs vs' : List Value} {X : List DC} (hX : moveX (bM ds) (bA ds') = X) (h : Cells B n w shMove_ ds vs) (h' : Cells B' n' w shAddr_ ds' vs') (hr : RoomL vs') (ha : moveB (bM ds) = true) (hb' : addrB (bA ds') = true) (hh : holdB (bM ds).kind (bM ds).src (bA ds') = true) (hc0 : placeC (bM ds) (bA ds') = 0) :
    Calls Try.prog 10 #[.agg vs.toArray, .agg vs'.toArray] w (NewS 1 shAddrOut_ X w) := by
  subst hX
  have HM := Lib.hid (Gd.ofC h)
  have HD := Lib.hid (Gd.ofC h')
  have ZD := Lib.hid (sz_of h')
  obtain ⟨A1, c1, A7, c7, rfl, s1, s7, z1, z7⟩ := move_in h
  obtain ⟨A, c, rfl, h1, h2, h3, h4, h5⟩ := addr_in h'
  have HK := Lib.hid (hr (.slice A (bA ds').path.length c) (by simp) _ _ _ rfl)
  obtain ⟨M, hM⟩ : ∃ M, bM ds = M := ⟨_, rfl⟩
  obtain ⟨D, hD⟩ : ∃ D, bA ds' = D := ⟨_, rfl⟩
  rw [hM] at s1 s7 z1 z7 HM ⊢
  rw [hD] at ZD HK h1 h2 h3 h4 h5 HD ⊢
  have S1 := Lib.hid (Gd.ofStrs s1)
  have S7 := Lib.hid (Gd.ofStrs s7)
  have S0 := Lib.hid (Gd.ofStrs h1)
  have Z1 := Lib.hid z1
  have Z7 := Lib.hid z7
  have EM := Lib.hid hM
  have ED := Lib.hid hD
  have hM' := hM
  have hD' := hD
  clear h h' hr s1 s7 z1 z7 h1 h3 h4 h5 hM hD
  rw [hM'] at ha
  rw [hD'] at hb'
  rw [hM', hD'] at hh
  rw [hM', hD'] at hc0
  have OK := Lib.hid (mv_ok ha)
  have SZ := Lib.hid (goes_sz (mv_ok ha) hb' Z7.out ZD.out)
  have FT := Lib.hid (goes_fits (mv_ok ha) hb')
  have GE := Lib.hid (goes_eq (mv_ok ha) hb')
  have LS : Hid (M.src.path.length ≤ 1000000 ∧ M.dst.path.length ≤ 1000000) := (by
    show _ ∧ _
    by_cases hk : M.kind = 3
    · have h1 := (small_home ((mv_ok ha).home hk).1).1; have h2 := (small_home ((mv_ok ha).home hk).2).1; exact ⟨by omega, by omega⟩
    · have h1 := (small_of ((mv_ok ha).right hk).1).len; have h2 := (small_of ((mv_ok ha).right hk).2).len; exact ⟨by omega, by omega⟩)
  obtain ⟨⟨fs, cs, ns, ms, Ks⟩, -, ⟨fh, ch, nh, mh, Kh⟩⟩ := mov_is (mv_ok ha).kind M.src.kind M.src.n M.dst.kind M.dst.n M.src.typ M.src.nam M.src.key M.dst.typ M.dst.nam M.dst.key A1 A7 M.src.path.length M.dst.path.length c1 c7
  obtain ⟨fp, cp, np, mp, Kp⟩ := place_is (mv_ok ha) hb' A1 A7 A c1 c7 c Z1.out Z7.out ZD.out (by have := LS.out.1; unfold maxLen; omega) (by have := LS.out.2; unfold maxLen; omega) h2 HK.out
  replace Ks := Lib.hid Ks
  replace Kp := Lib.hid Kp
  have KH := Lib.hid (fun (W : World) (r : Bool) (hr : holdB M.kind M.src D = r) (a : Strs W A1 M.src.path) (b : Cells B' n' W shAddr_ ds' [.slice A D.path.length c, .string D.typ, .string D.nam, .int .i64 D.kind, .int .i64 D.n, .string D.key]) => Kh (D := M.src) (D' := D) (r := r) (ds := dA M.src) (bA_dA _) ED.out hr (strs_cells a Z1.out (by have := LS.out.1; unfold maxLen; omega) : Cells Any 1 W shAddr_ (dA M.src) [.slice A1 M.src.path.length c1, .string M.src.typ, .string M.src.nam, .int .i64 M.src.kind, .int .i64 M.src.n, .string M.src.key]) b)
  clear Kh
  have h2' := h2
  unfold maxLen at h2
  obtain ⟨C, hC⟩ : ∃ C, placeC M D = C := ⟨_, rfl⟩
  rw [hC] at Kp
  obtain ⟨G, hG⟩ : ∃ G, goesTo M D = G := ⟨_, rfl⟩
  rw [hG] at Kp SZ FT
  have HC := Lib.hid hC
  have HG := Lib.hid hG
  clear hC hG
  obtain rfl : C = 0 := by rw [← HC.out]; exact hc0
  go_enter Try.func10, Try.ntmps10
  go_wp2_with fail
  refine (moveRight_impl EM.out ha ((((HM.out).alloc _).alloc _).alloc _).now).mono ?_
  rintro _ w1 ⟨rfl, hb⟩
  have E1 := Lib.hid (below_then (below_a3 _ _ _ _) hb (Nat.le_refl _))
  have Bm1 := Lib.hid ((((Blk.new w _ _).alloc _).alloc _).step hb)
  have rm1 := Bm1.out.cell
  have bm1 := Bm1.out.lt
  have Ba1 := Lib.hid (((Blk.new1 w _ _ _).alloc _).step hb)
  have ra1 := Ba1.out.cell
  have ba1 := Ba1.out.lt
  have Br1 := Lib.hid ((Blk.new2 w _ _ _ _).step hb)
  have rr1 := Br1.out.cell
  have br1 := Br1.out.lt
  have SM1 := Lib.hid (((((HM.out).alloc _).alloc _).alloc _).below hb)
  have SD1 := Lib.hid (((((HD.out).alloc _).alloc _).alloc _).below hb)
  have SS11 := Lib.hid (((((S1.out).alloc _).alloc _).alloc _).below hb)
  have SS71 := Lib.hid (((((S7.out).alloc _).alloc _).alloc _).below hb)
  have SS01 := Lib.hid (((((S0.out).alloc _).alloc _).alloc _).below hb)
  clear hb HM HD S1 S7 S0
  go_wp2_with fail
  refine (addrRight_impl ED.out hb' (SD1.out).now).mono ?_
  rintro _ w2 ⟨rfl, hb⟩
  have E2 := Lib.hid (below_then E1.out hb (Nat.le_refl _))
  have Bm2 := Lib.hid ((Bm1.out).step hb)
  have rm2 := Bm2.out.cell
  have bm2 := Bm2.out.lt
  have Ba2 := Lib.hid ((Ba1.out).step hb)
  have ra2 := Ba2.out.cell
  have ba2 := Ba2.out.lt
  have Br2 := Lib.hid ((Br1.out).step hb)
  have rr2 := Br2.out.cell
  have br2 := Br2.out.lt
  have SM2 := Lib.hid ((SM1.out).below hb)
  have SD2 := Lib.hid ((SD1.out).below hb)
  have SS12 := Lib.hid ((SS11.out).below hb)
  have SS72 := Lib.hid ((SS71.out).below hb)
  have SS02 := Lib.hid ((SS01.out).below hb)
  clear hb Bm1 rm1 bm1 Ba1 ra1 ba1 Br1 rr1 br1 SM1 SD1 SS11 SS71 SS01 E1
  go_wp2_with fail
  refine (moverOf_any _ _ _ _ _ _ _ _ _ _ _ _ _ _ _ _ _ _ ).mono ?_
  rintro _ w3 ⟨rfl, hb⟩
  have E3 := Lib.hid (below_then E2.out hb (Nat.le_refl _))
  have Bm3 := Lib.hid ((Bm2.out).step hb)
  have rm3 := Bm3.out.cell
  have bm3 := Bm3.out.lt
  have Ba3 := Lib.hid ((Ba2.out).step hb)
  have ra3 := Ba3.out.cell
  have ba3 := Ba3.out.lt
  have Br3 := Lib.hid ((Br2.out).step hb)
  have rr3 := Br3.out.cell
  have br3 := Br3.out.lt
  have SM3 := Lib.hid ((SM2.out).below hb)
  have SD3 := Lib.hid ((SD2.out).below hb)
  have SS13 := Lib.hid ((SS12.out).below hb)
  have SS73 := Lib.hid ((SS72.out).below hb)
  have SS03 := Lib.hid ((SS02.out).below hb)
  clear hb Bm2 rm2 bm2 Ba2 ra2 ba2 Br2 rr2 br2 SM2 SD2 SS12 SS72 SS02 E2
  go_wp2_with fail
  have q0 := later_cell ba3 (ra3 0)
  have q1 := later_cell ba3 (ra3 1)
  have q2 := later_cell ba3 (ra3 2)
  have q3 := later_cell ba3 (ra3 3)
  have q4 := later_cell ba3 (ra3 4)
  have q5 := later_cell ba3 (ra3 5)
  refine wp_region_later (by kernel_rfl) (by kernel_rfl) ?_
  repeat (go_big_quiet_step (first
    | exact later_call (Ks.out _)
    | exact later_call (KH.out _ true hh (((SS13.out).below (later_below _)).now) (((SD3.out).below (later_below _)).now))))
  refine wpQuiet_nil ?_
  rintro _ ⟨u9, rfl⟩
  have hb := later_below u9
  generalize later w3 u9 = w4 at hb ⊢
  clear q0 q1 q2 q3 q4 q5
  have E4 := Lib.hid (below_then E3.out hb (Nat.le_refl _))
  have Bm4 := Lib.hid ((Bm3.out).step hb)
  have rm4 := Bm4.out.cell
  have bm4 := Bm4.out.lt
  have Ba4 := Lib.hid ((Ba3.out).step hb)
  have ra4 := Ba4.out.cell
  have ba4 := Ba4.out.lt
  have Br4 := Lib.hid ((Br3.out).step hb)
  have rr4 := Br4.out.cell
  have br4 := Br4.out.lt
  have SM4 := Lib.hid ((SM3.out).below hb)
  have SD4 := Lib.hid ((SD3.out).below hb)
  have SS14 := Lib.hid ((SS13.out).below hb)
  have SS74 := Lib.hid ((SS73.out).below hb)
  have SS04 := Lib.hid ((SS03.out).below hb)
  clear hb Bm3 rm3 bm3 Ba3 ra3 ba3 Br3 rr3 br3 SM3 SD3 SS13 SS73 SS03 E3
  go_wp2_with fail
  refine (Kp.out _ (SS14.out).now (SS74.out).now (SS04.out).now).mono ?_
  rintro _ w5 ⟨A9, c9, rfl, s9, hb⟩
  have E5 := Lib.hid (below_then E4.out hb (Nat.le_refl _))
  have Bm5 := Lib.hid ((Bm4.out).step hb)
  have rm5 := Bm5.out.cell
  have bm5 := Bm5.out.lt
  have Ba5 := Lib.hid ((Ba4.out).step hb)
  have ra5 := Ba5.out.cell
  have ba5 := Ba5.out.lt
  have Br5 := Lib.hid ((Br4.out).step hb)
  have rr5 := Br5.out.cell
  have br5 := Br5.out.lt
  have SM5 := Lib.hid ((SM4.out).below hb)
  have SD5 := Lib.hid ((SD4.out).below hb)
  have SS15 := Lib.hid ((SS14.out).below hb)
  have SS75 := Lib.hid ((SS74.out).below hb)
  have SS05 := Lib.hid ((SS04.out).below hb)
  have S9 := Lib.hid (Gd.ofStrs s9)
  clear hb s9 Bm4 rm4 bm4 Ba4 ra4 ba4 Br4 rr4 br4 SM4 SD4 SS14 SS74 SS04 E4
  have HZ8 := Lib.hid Br5.out.lt
  have KC := fun (W : World) (h : Strs W A9 G.path) => Lib.hid (bare.copy_impl A9 c9 G W h (by have := FT.out.len; omega) (by have := FT.out.typ; omega) (by have := FT.out.nam; omega) (by have := FT.out.key; omega) (fun k hk => by have := FT.out.path k hk; omega))
  go_wp2_with fail
  refine (KC _ ((S9.out).alloc _).now).out.mono ?_
  rintro _ w6 ⟨A8, c8, rfl, ho, hb⟩
  have O8 := Lib.hid ho
  have E6 := Lib.hid (below_then (below_da E5.out (Nat.le_refl _) _) hb (Nat.le_refl _))
  have Bm6 := Lib.hid (((Bm5.out).alloc _).step hb)
  have rm6 := Bm6.out.cell
  have bm6 := Bm6.out.lt
  have Ba6 := Lib.hid (((Ba5.out).alloc _).step hb)
  have ra6 := Ba6.out.cell
  have ba6 := Ba6.out.lt
  have Br6 := Lib.hid (((Br5.out).alloc _).step hb)
  have rr6 := Br6.out.cell
  have br6 := Br6.out.lt
  have Bo6 := Lib.hid ((Blk.new w5 _ _).step hb)
  have ro6 := Bo6.out.cell
  have bo6 := Bo6.out.lt
  have SM6 := Lib.hid (((SM5.out).alloc _).below hb)
  have SD6 := Lib.hid (((SD5.out).alloc _).below hb)
  have SS16 := Lib.hid (((SS15.out).alloc _).below hb)
  have SS76 := Lib.hid (((SS75.out).alloc _).below hb)
  have SS06 := Lib.hid (((SS05.out).alloc _).below hb)
  have SS96 := Lib.hid (((S9.out).alloc _).below hb)
  clear hb ho Bm5 rm5 bm5 Ba5 ra5 ba5 Br5 rr5 br5 SM5 SD5 SS15 SS75 SS05 S9 E5
  have fr := Br6.out.free
  go_wp2
  have hz8 : w.heap.size + 1 + 1 < w5.heap.size := HZ8.out
  have hz9 : w5.heap.size ≤ w6.heap.size := by have := Bo6.out.lt; omega
  refine ret7 Br6.out ?_ ?_ ?_
  · intro W hW; have p9 := hW.cell; have f9 := hW.free; simp [results, Try.results10, go_sem, p9, f9]
  · rfl
  refine ⟨_, rfl, ?_, ?_⟩
  · have hq : moveX M D = outX G 0 := by rw [moveX, moveTo, show moveCode M D = 0 from by simp [moveCode, ha, hb', GE.out, hh, HC.out], if_pos rfl, HG.out]
    rw [hq]
    refine (out_owns (base := w5.heap.size) ?_ SZ.out (by unfold R64; omega)).monoF (fun x hx => ⟨by have := hx.1; omega, hx.2⟩)
    iterate 7 refine own.Own.far ?_ (by simp <;> omega) _
    exact own.Own.mono O8.out (by simp)
  · repeat (refine Below.setCell ?_ (by simp <;> omega) _)
    exact E6.out
theorem moveOf_impl {B B' : Nat → Prop} {n n' : Nat} {w : World} {ds ds' : List DC} {vs vs' : List Value} {X : List DC} (hX : moveX (bM ds) (bA ds') = X) (h : Cells B n w shMove_ ds vs) (h' : Cells B' n' w shAddr_ ds' vs') (hr : RoomL vs') :
    Calls Try.prog 10 #[.agg vs.toArray, .agg vs'.toArray] w (NewS 1 shAddrOut_ X w) := by
  cases ha : moveB (bM ds)
  · exact moveOf_bad1 hX h h' hr ha
  cases hb : addrB (bA ds')
  · exact moveOf_bad2 hX h h' hr ha hb
  cases hh : holdB (bM ds).kind (bM ds).src (bA ds')
  · exact moveOf_none hX h h' hr ha hb hh
  by_cases hc : placeC (bM ds) (bA ds') = 0
  · exact moveOf_goes hX h h' hr ha hb hh hc
  · exact moveOf_far hX h h' hr ha hb hh hc
end Go.Proofs.Ytflfnekaiaplfaa.cf
