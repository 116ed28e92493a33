/- MoveOf of the program. -/
import Derived.Test.YtflfnekaiaplfaaMoI
import Derived.Test.YtflfnekaiaplfaaRm
import Derived.Deep.RegionHeld3
namespace Go.Proofs.Ytflfnekaiaplfaa.cf
open ad mem vl ex un
open Go.ChangeShapes Go.WideShapes Go.ChangeAt Go.RowKit Go.Lib
set_option linter.unusedVariables false
set_option maxRecDepth 8000
set_option linter.unusedSimpArgs false

theorem strs_cell {w : World} {A : Option Addr} {c : Nat} {l : List ByteArray} (h : Strs w A l) (hl : l.length ≤ maxLen) : Cell Any 1 w (.l 0) (.l (dS l)) (.slice A l.length c) := by
  have hlen : (dS l).length = l.length := by simp [dS]
  refine ⟨A, c, by rw [hlen], by rw [hlen]; exact hl, fun k hk => ?_⟩
  have hk2 : k < l.length := by omega
  obtain ⟨b, o, e, h1, h2, h3⟩ := h k hk2
  refine ⟨b, o, [.string l[k]], e, trivial, h1, fun j u hu => ?_, ?_⟩
  · have hj : j = 0 := by simpa using (List.getElem?_eq_some_iff.1 hu).1
    subst hj
    have hu' : u = .string l[k] := by simpa using hu.symm
    subst hu'
    simpa [sh] using h2
  · simp only [sh, dS, List.getElem_map]
    exact ⟨Cell.mkS h3, trivial⟩
theorem strs_cells {w : World} {A : Option Addr} {c : Nat} {d : AddrD} (h : Strs w A d.path) (hz : Sz d) (hl : d.path.length ≤ maxLen) : Cells Any 1 w shAddr_ (dA d) [.slice A d.path.length c, .string d.typ, .string d.nam, .int .i64 d.kind, .int .i64 d.n, .string d.key] :=
  ⟨strs_cell h hl, Cell.mkS hz.typ, Cell.mkS hz.nam, Cell.mkI hz.kind, Cell.mkI hz.n, Cell.mkS hz.key, trivial⟩
theorem out_owns {w : World} {base c : Nat} {A : Option Addr} {d : AddrD} {k : Int} (h : own.Own w base (.slice A d.path.length c) d.path) (hz : Sz d) (hk : R64 k) :
    Owns 1 w (Rg base w.heap.size) shAddrOut_ (outX d k) [.slice A d.path.length c, .string d.typ, .string d.nam, .int .i64 d.kind, .int .i64 d.n, .string d.key, .int .i64 k] :=
  Owns.cons (F1 := Rg base w.heap.size) (F2 := fun _ => False) (row_item h hz.path) (Owns.s hz.typ (Owns.s hz.nam (Owns.i hz.kind (Owns.i hz.n (Owns.s hz.key (Owns.i hk (Owns.nil _ _ _))))))) (fun _ h => h) (fun _ h => h.elim) (fun _ _ h => h)
theorem place_is {M : MoveD} {D : AddrD} (hM : MvOk M) (hD : addrB D = true) (A1 A7 A : Option Addr) (c1 c7 c : Nat) (hs : Sz M.src) (ht : Sz M.dst) (hd : Sz D) (l1 : M.src.path.length ≤ maxLen) (l7 : M.dst.path.length ≤ maxLen) (l0 : D.path.length ≤ maxLen) (hk : D.path.length ≤ c ∧ c ≤ maxLen ∧ ((∃ b o, A = some ⟨b, o, none⟩) ∨ (A = none ∧ c = 0))) :
    ∃ fp, (∀ args w, (callFunc fp args).run Try.prog w = .ok (.enter fp args) w) ∧ (∀ w, (nilAhead 202 (movT M.kind) (.agg #[.slice A1 M.src.path.length c1, .string M.src.typ, .string M.src.nam, .int .i64 M.src.kind, .int .i64 M.src.n, .string M.src.key, .slice A7 M.dst.path.length c7, .string M.dst.typ, .string M.dst.nam, .int .i64 M.dst.kind, .int .i64 M.dst.n, .string M.dst.key]) "loop.example/g00770/impl.place").run Try.prog w = .ok (some false) w) ∧ (∀ w, (method 202 (movT M.kind) (.agg #[.slice A1 M.src.path.length c1, .string M.src.typ, .string M.src.nam, .int .i64 M.src.kind, .int .i64 M.src.n, .string M.src.key, .slice A7 M.dst.path.length c7, .string M.dst.typ, .string M.dst.nam, .int .i64 M.dst.kind, .int .i64 M.dst.n, .string M.dst.key]) "loop.example/g00770/impl.place").run Try.prog w = .ok (fp, .agg #[.slice A1 M.src.path.length c1, .string M.src.typ, .string M.src.nam, .int .i64 M.src.kind, .int .i64 M.src.n, .string M.src.key, .slice A7 M.dst.path.length c7, .string M.dst.typ, .string M.dst.nam, .int .i64 M.dst.kind, .int .i64 M.dst.n, .string M.dst.key]) w) ∧ (∀ w, Strs w A1 M.src.path → Strs w A7 M.dst.path → Strs w A D.path → Calls Try.prog fp #[.agg #[.slice A1 M.src.path.length c1, .string M.src.typ, .string M.src.nam, .int .i64 M.src.kind, .int .i64 M.src.n, .string M.src.key, .slice A7 M.dst.path.length c7, .string M.dst.typ, .string M.dst.nam, .int .i64 M.dst.kind, .int .i64 M.dst.n, .string M.dst.key], .agg #[.slice A D.path.length c, .string D.typ, .string D.nam, .int .i64 D.kind, .int .i64 D.n, .string D.key]] w (PlaceO w (goesTo M D) (placeC M D))) := by
  have hz := goes_sz hM hD ht hd
  rcases hM.kind with k | k | k
  · have e1 : goesTo M D = M.dst := by simp [goesTo, k]
    have e2 : placeC M D = 0 := by simp [placeC, k]
    rw [e1, e2, k]
    exact ⟨_, (by intro args w; kernel_rfl), nil1_place _ _ _ _ _ _ _ _ _ _ _ _ , met1_place _ _ _ _ _ _ _ _ _ _ _ _ , fun w h1 h7 h => place1 M D A1 A7 A c1 c7 c w h7⟩
  · have e1 : goesTo M D = ⟨M.dst.path, M.dst.typ, M.dst.nam, D.kind, D.n, D.key⟩ := by simp [goesTo, k]
    have e2 : placeC M D = 0 := by simp [placeC, k]
    rw [e1, e2, k]
    exact ⟨_, (by intro args w; kernel_rfl), nil2_place _ _ _ _ _ _ _ _ _ _ _ _ , met2_place _ _ _ _ _ _ _ _ _ _ _ _ , fun w h1 h7 h => place2 M D A1 A7 A c1 c7 c w hD h7⟩
  · have e1 : goesTo M D = reh.dataR D M.src.path M.dst.path := by simp [goesTo, k]
    have e2 : placeC M D = reh.codeR D M.src.path M.dst.path := by simp [placeC, k]
    rw [e1] at hz
    rw [e1, e2, k]
    exact ⟨_, (by intro args w; kernel_rfl), nil3_place _ _ _ _ _ _ _ _ _ _ _ _ , met3_place _ _ _ _ _ _ _ _ _ _ _ _ , fun w h1 h7 h => place3 M D A1 A7 A c1 c7 c w h1 h7 h hs ht hd l1 l7 l0 hk hz⟩
set_option maxHeartbeats 8000000 in
theorem moveOf_bad1 {B B' : Nat → Prop} {n n' : Nat} {w : World} {ds ds' : List DC} {vs vs' : List Value} {X : List DC} (hX : moveX (bM ds) (bA ds') = X) (h : Cells B n w shMove_ ds vs) (h' : Cells B' n' w shAddr_ ds' vs') (hr : RoomL vs') (ha : moveB (bM ds) = false) :
    Calls Try.prog 10 #[.agg vs.toArray, .agg vs'.toArray] w (NewS 1 shAddrOut_ X w) := by
  subst hX
  have HM := Lib.hid (Gd.ofC h)
  have HD := Lib.hid (Gd.ofC h')
  have ZD := Lib.hid (sz_of h')
  obtain ⟨A1, c1, A7, c7, rfl, s1, s7, z1, z7⟩ := move_in h
  obtain ⟨A, c, rfl, h1, h2, h3, h4, h5⟩ := addr_in h'
  have HK := Lib.hid (hr (.slice A (bA ds').path.length c) (by simp) _ _ _ rfl)
  obtain ⟨M, hM⟩ : ∃ M, bM ds = M := ⟨_, rfl⟩
  obtain ⟨D, hD⟩ : ∃ D, bA ds' = D := ⟨_, rfl⟩
  rw [hM] at s1 s7 z1 z7 HM ⊢
  rw [hD] at ZD HK h1 h2 h3 h4 h5 HD ⊢
  have S1 := Lib.hid (Gd.ofStrs s1)
  have S7 := Lib.hid (Gd.ofStrs s7)
  have S0 := Lib.hid (Gd.ofStrs h1)
  have Z1 := Lib.hid z1
  have Z7 := Lib.hid z7
  have EM := Lib.hid hM
  have ED := Lib.hid hD
  have hM' := hM
  have hD' := hD
  clear h h' hr s1 s7 z1 z7 h1 h3 h4 h5 hM hD
  rw [hM'] at ha
  go_enter Try.func10, Try.ntmps10
  go_wp2_with fail
  refine (moveRight_impl EM.out ha ((((HM.out).alloc _).alloc _).alloc _).now).mono ?_
  rintro _ w1 ⟨rfl, hb⟩
  have E1 := Lib.hid (below_then (below_a3 _ _ _ _) hb (Nat.le_refl _))
  have Bm1 := Lib.hid ((((Blk.new w _ _).alloc _).alloc _).step hb)
  have rm1 := Bm1.out.cell
  have bm1 := Bm1.out.lt
  have Ba1 := Lib.hid (((Blk.new1 w _ _ _).alloc _).step hb)
  have ra1 := Ba1.out.cell
  have ba1 := Ba1.out.lt
  have Br1 := Lib.hid ((Blk.new2 w _ _ _ _).step hb)
  have rr1 := Br1.out.cell
  have br1 := Br1.out.lt
  have SM1 := Lib.hid (((((HM.out).alloc _).alloc _).alloc _).below hb)
  have SD1 := Lib.hid (((((HD.out).alloc _).alloc _).alloc _).below hb)
  have SS11 := Lib.hid (((((S1.out).alloc _).alloc _).alloc _).below hb)
  have SS71 := Lib.hid (((((S7.out).alloc _).alloc _).alloc _).below hb)
  have SS01 := Lib.hid (((((S0.out).alloc _).alloc _).alloc _).below hb)
  clear hb HM HD S1 S7 S0
  have fr := Br1.out.free
  go_wp2
  all_goals
    refine ret7 Br1.out ?_ ?_ ?_
    · intro W hW; have p9 := hW.cell; have f9 := hW.free; simp [results, Try.results10, go_sem, p9, f9]
    · rfl
    refine ⟨_, rfl, ?_, ?_⟩
    · have hq : moveX M D = outX bare.zeroD 1 := by rw [moveX, moveTo, show moveCode M D = 1 from by simp [moveCode, ha], if_neg (by omega)]
      rw [hq]
      exact (out_owns (c := 0) (k := 1) (base := w.heap.size) (own.Own.nil _ _) zero_sz (by unfold R64; omega)).monoF (fun _ h => h)
    · repeat (refine Below.setCell ?_ (by simp <;> omega) _)
      exact E1.out
set_option maxHeartbeats 8000000 in
theorem moveOf_bad2 {B B' : Nat → Prop} {n n' : Nat} {w : World} {ds ds' : List DC} {vs vs' : List Value} {X : List DC} (hX : moveX (bM ds) (bA ds') = X) (h : Cells B n w shMove_ ds vs) (h' : Cells B' n' w shAddr_ ds' vs') (hr : RoomL vs') (ha : moveB (bM ds) = true) (hb' : addrB (bA ds') = false) :
    Calls Try.prog 10 #[.agg vs.toArray, .agg vs'.toArray] w (NewS 1 shAddrOut_ X w) := by
  subst hX
  have HM := Lib.hid (Gd.ofC h)
  have HD := Lib.hid (Gd.ofC h')
  have ZD := Lib.hid (sz_of h')
  obtain ⟨A1, c1, A7, c7, rfl, s1, s7, z1, z7⟩ := move_in h
  obtain ⟨A, c, rfl, h1, h2, h3, h4, h5⟩ := addr_in h'
  have HK := Lib.hid (hr (.slice A (bA ds').path.length c) (by simp) _ _ _ rfl)
  obtain ⟨M, hM⟩ : ∃ M, bM ds = M := ⟨_, rfl⟩
  obtain ⟨D, hD⟩ : ∃ D, bA ds' = D := ⟨_, rfl⟩
  rw [hM] at s1 s7 z1 z7 HM ⊢
  rw [hD] at ZD HK h1 h2 h3 h4 h5 HD ⊢
  have S1 := Lib.hid (Gd.ofStrs s1)
  have S7 := Lib.hid (Gd.ofStrs s7)
  have S0 := Lib.hid (Gd.ofStrs h1)
  have Z1 := Lib.hid z1
  have Z7 := Lib.hid z7
  have EM := Lib.hid hM
  have ED := Lib.hid hD
  have hM' := hM
  have hD' := hD
  clear h h' hr s1 s7 z1 z7 h1 h3 h4 h5 hM hD
  rw [hM'] at ha
  rw [hD'] at hb'
  go_enter Try.func10, Try.ntmps10
  go_wp2_with fail
  refine (moveRight_impl EM.out ha ((((HM.out).alloc _).alloc _).alloc _).now).mono ?_
  rintro _ w1 ⟨rfl, hb⟩
  have E1 := Lib.hid (below_then (below_a3 _ _ _ _) hb (Nat.le_refl _))
  have Bm1 := Lib.hid ((((Blk.new w _ _).alloc _).alloc _).step hb)
  have rm1 := Bm1.out.cell
  have bm1 := Bm1.out.lt
  have Ba1 := Lib.hid (((Blk.new1 w _ _ _).alloc _).step hb)
  have ra1 := Ba1.out.cell
  have ba1 := Ba1.out.lt
  have Br1 := Lib.hid ((Blk.new2 w _ _ _ _).step hb)
  have rr1 := Br1.out.cell
  have br1 := Br1.out.lt
  have SM1 := Lib.hid (((((HM.out).alloc _).alloc _).alloc _).below hb)
  have SD1 := Lib.hid (((((HD.out).alloc _).alloc _).alloc _).below hb)
  have SS11 := Lib.hid (((((S1.out).alloc _).alloc _).alloc _).below hb)
  have SS71 := Lib.hid (((((S7.out).alloc _).alloc _).alloc _).below hb)
  have SS01 := Lib.hid (((((S0.out).alloc _).alloc _).alloc _).below hb)
  clear hb HM HD S1 S7 S0
  go_wp2_with fail
  refine (addrRight_impl ED.out hb' (SD1.out).now).mono ?_
  rintro _ w2 ⟨rfl, hb⟩
  have E2 := Lib.hid (below_then E1.out hb (Nat.le_refl _))
  have Bm2 := Lib.hid ((Bm1.out).step hb)
  have rm2 := Bm2.out.cell
  have bm2 := Bm2.out.lt
  have Ba2 := Lib.hid ((Ba1.out).step hb)
  have ra2 := Ba2.out.cell
  have ba2 := Ba2.out.lt
  have Br2 := Lib.hid ((Br1.out).step hb)
  have rr2 := Br2.out.cell
  have br2 := Br2.out.lt
  have SM2 := Lib.hid ((SM1.out).below hb)
  have SD2 := Lib.hid ((SD1.out).below hb)
  have SS12 := Lib.hid ((SS11.out).below hb)
  have SS72 := Lib.hid ((SS71.out).below hb)
  have SS02 := Lib.hid ((SS01.out).below hb)
  clear hb Bm1 rm1 bm1 Ba1 ra1 ba1 Br1 rr1 br1 SM1 SD1 SS11 SS71 SS01 E1
  have fr := Br2.out.free
  go_wp2
  all_goals
    refine ret7 Br2.out ?_ ?_ ?_
    · intro W hW; have p9 := hW.cell; have f9 := hW.free; simp [results, Try.results10, go_sem, p9, f9]
    · rfl
    refine ⟨_, rfl, ?_, ?_⟩
    · have hq : moveX M D = outX bare.zeroD 1 := by rw [moveX, moveTo, show moveCode M D = 1 from by simp [moveCode, ha, hb'], if_neg (by omega)]
      rw [hq]
      exact (out_owns (c := 0) (k := 1) (base := w.heap.size) (own.Own.nil _ _) zero_sz (by unfold R64; omega)).monoF (fun _ h => h)
    · repeat (refine Below.setCell ?_ (by simp <;> omega) _)
      exact E2.out
set_option maxHeartbeats 8000000 in
theorem moveOf_none {B B' : Nat → Prop} {n n' : Nat} {w : World} {ds ds' : List DC} {vs vs' : List Value} {X : List DC} (hX : moveX (bM ds) (bA ds') = X) (h : Cells B n w shMove_ ds vs) (h' : Cells B' n' w shAddr_ ds' vs') (hr : RoomL vs') (ha : moveB (bM ds) = true) (hb' : addrB (bA ds') = true) (hh : holdB (bM ds).kind (bM ds).src (bA ds') = false) :
    Calls Try.prog 10 #[.agg vs.toArray, .agg vs'.toArray] w (NewS 1 shAddrOut_ X w) := by
  subst hX
  have HM := Lib.hid (Gd.ofC h)
  have HD := Lib.hid (Gd.ofC h')
  have ZD := Lib.hid (sz_of h')
  obtain ⟨A1, c1, A7, c7, rfl, s1, s7, z1, z7⟩ := move_in h
  obtain ⟨A, c, rfl, h1, h2, h3, h4, h5⟩ := addr_in h'
  have HK := Lib.hid (hr (.slice A (bA ds').path.length c) (by simp) _ _ _ rfl)
  obtain ⟨M, hM⟩ : ∃ M, bM ds = M := ⟨_, rfl⟩
  obtain ⟨D, hD⟩ : ∃ D, bA ds' = D := ⟨_, rfl⟩
  rw [hM] at s1 s7 z1 z7 HM ⊢
  rw [hD] at ZD HK h1 h2 h3 h4 h5 HD ⊢
  have S1 := Lib.hid (Gd.ofStrs s1)
  have S7 := Lib.hid (Gd.ofStrs s7)
  have S0 := Lib.hid (Gd.ofStrs h1)
  have Z1 := Lib.hid z1
  have Z7 := Lib.hid z7
  have EM := Lib.hid hM
  have ED := Lib.hid hD
  have hM' := hM
  have hD' := hD
  clear h h' hr s1 s7 z1 z7 h1 h3 h4 h5 hM hD
  rw [hM'] at ha
  rw [hD'] at hb'
  rw [hM', hD'] at hh
  have OK := Lib.hid (mv_ok ha)
  have SZ := Lib.hid (goes_sz (mv_ok ha) hb' Z7.out ZD.out)
  have FT := Lib.hid (goes_fits (mv_ok ha) hb')
  have GE := Lib.hid (goes_eq (mv_ok ha) hb')
  have LS : Hid (M.src.path.length ≤ 1000000 ∧ M.dst.path.length ≤ 1000000) := (by
    show _ ∧ _
    by_cases hk : M.kind = 3
    · have h1 := (small_home ((mv_ok ha).home hk).1).1; have h2 := (small_home ((mv_ok ha).home hk).2).1; exact ⟨by omega, by omega⟩
    · have h1 := (small_of ((mv_ok ha).right hk).1).len; have h2 := (small_of ((mv_ok ha).right hk).2).len; exact ⟨by omega, by omega⟩)
  obtain ⟨⟨fs, cs, ns, ms, Ks⟩, -, ⟨fh, ch, nh, mh, Kh⟩⟩ := mov_is (mv_ok ha).kind M.src.kind M.src.n M.dst.kind M.dst.n M.src.typ M.src.nam M.src.key M.dst.typ M.dst.nam M.dst.key A1 A7 M.src.path.length M.dst.path.length c1 c7
  obtain ⟨fp, cp, np, mp, Kp⟩ := place_is (mv_ok ha) hb' A1 A7 A c1 c7 c Z1.out Z7.out ZD.out (by have := LS.out.1; unfold maxLen; omega) (by have := LS.out.2; unfold maxLen; omega) h2 HK.out
  replace Ks := Lib.hid Ks
  replace Kp := Lib.hid Kp
  have KH := Lib.hid (fun (W : World) (r : Bool) (hr : holdB M.kind M.src D = r) (a : Strs W A1 M.src.path) (b : Cells B' n' W shAddr_ ds' [.slice A D.path.length c, .string D.typ, .string D.nam, .int .i64 D.kind, .int .i64 D.n, .string D.key]) => Kh (D := M.src) (D' := D) (r := r) (ds := dA M.src) (bA_dA _) ED.out hr (strs_cells a Z1.out (by have := LS.out.1; unfold maxLen; omega) : Cells Any 1 W shAddr_ (dA M.src) [.slice A1 M.src.path.length c1, .string M.src.typ, .string M.src.nam, .int .i64 M.src.kind, .int .i64 M.src.n, .string M.src.key]) b)
  clear Kh
  have h2' := h2
  unfold maxLen at h2
  go_enter Try.func10, Try.ntmps10
  go_wp2_with fail
  refine (moveRight_impl EM.out ha ((((HM.out).alloc _).alloc _).alloc _).now).mono ?_
  rintro _ w1 ⟨rfl, hb⟩
  have E1 := Lib.hid (below_then (below_a3 _ _ _ _) hb (Nat.le_refl _))
  have Bm1 := Lib.hid ((((Blk.new w _ _).alloc _).alloc _).step hb)
  have rm1 := Bm1.out.cell
  have bm1 := Bm1.out.lt
  have Ba1 := Lib.hid (((Blk.new1 w _ _ _).alloc _).step hb)
  have ra1 := Ba1.out.cell
  have ba1 := Ba1.out.lt
  have Br1 := Lib.hid ((Blk.new2 w _ _ _ _).step hb)
  have rr1 := Br1.out.cell
  have br1 := Br1.out.lt
  have SM1 := Lib.hid (((((HM.out).alloc _).alloc _).alloc _).below hb)
  have SD1 := Lib.hid (((((HD.out).alloc _).alloc _).alloc _).below hb)
  have SS11 := Lib.hid (((((S1.out).alloc _).alloc _).alloc _).below hb)
  have SS71 := Lib.hid (((((S7.out).alloc _).alloc _).alloc _).below hb)
  have SS01 := Lib.hid (((((S0.out).alloc _).alloc _).alloc _).below hb)
  clear hb HM HD S1 S7 S0
  go_wp2_with fail
  refine (addrRight_impl ED.out hb' (SD1.out).now).mono ?_
  rintro _ w2 ⟨rfl, hb⟩
  have E2 := Lib.hid (below_then E1.out hb (Nat.le_refl _))
  have Bm2 := Lib.hid ((Bm1.out).step hb)
  have rm2 := Bm2.out.cell
  have bm2 := Bm2.out.lt
  have Ba2 := Lib.hid ((Ba1.out).step hb)
  have ra2 := Ba2.out.cell
  have ba2 := Ba2.out.lt
  have Br2 := Lib.hid ((Br1.out).step hb)
  have rr2 := Br2.out.cell
  have br2 := Br2.out.lt
  have SM2 := Lib.hid ((SM1.out).below hb)
  have SD2 := Lib.hid ((SD1.out).below hb)
  have SS12 := Lib.hid ((SS11.out).below hb)
  have SS72 := Lib.hid ((SS71.out).below hb)
  have SS02 := Lib.hid ((SS01.out).below hb)
  clear hb Bm1 rm1 bm1 Ba1 ra1 ba1 Br1 rr1 br1 SM1 SD1 SS11 SS71 SS01 E1
  go_wp2_with fail
  refine (moverOf_any _ _ _ _ _ _ _ _ _ _ _ _ _ _ _ _ _ _ ).mono ?_
  rintro _ w3 ⟨rfl, hb⟩
  have E3 := Lib.hid (below_then E2.out hb (Nat.le_refl _))
  have Bm3 := Lib.hid ((Bm2.out).step hb)
  have rm3 := Bm3.out.cell
  have bm3 := Bm3.out.lt
  have Ba3 := Lib.hid ((Ba2.out).step hb)
  have ra3 := Ba3.out.cell
  have ba3 := Ba3.out.lt
  have Br3 := Lib.hid ((Br2.out).step hb)
  have rr3 := Br3.out.cell
  have br3 := Br3.out.lt
  have SM3 := Lib.hid ((SM2.out).below hb)
  have SD3 := Lib.hid ((SD2.out).below hb)
  have SS13 := Lib.hid ((SS12.out).below hb)
  have SS73 := Lib.hid ((SS72.out).below hb)
  have SS03 := Lib.hid ((SS02.out).below hb)
  clear hb Bm2 rm2 bm2 Ba2 ra2 ba2 Br2 rr2 br2 SM2 SD2 SS12 SS72 SS02 E2
  go_wp2_with fail
  have q0 := later_cell ba3 (ra3 0)
  have q1 := later_cell ba3 (ra3 1)
  have q2 := later_cell ba3 (ra3 2)
  have q3 := later_cell ba3 (ra3 3)
  have q4 := later_cell ba3 (ra3 4)
  have q5 := later_cell ba3 (ra3 5)
  refine wp_region_later (by kernel_rfl) (by kernel_rfl) ?_
  repeat (go_big_quiet_step (first
    | exact later_call (Ks.out _)
    | exact later_call (KH.out _ false hh (((SS13.out).below (later_below _)).now) (((SD3.out).below (later_below _)).now))))
  refine wpQuiet_nil ?_
  rintro _ ⟨u9, rfl⟩
  have hb := later_below u9
  generalize later w3 u9 = w4 at hb ⊢
  clear q0 q1 q2 q3 q4 q5
  have E4 := Lib.hid (below_then E3.out hb (Nat.le_refl _))
  have Bm4 := Lib.hid ((Bm3.out).step hb)
  have rm4 := Bm4.out.cell
  have bm4 := Bm4.out.lt
  have Ba4 := Lib.hid ((Ba3.out).step hb)
  have ra4 := Ba4.out.cell
  have ba4 := Ba4.out.lt
  have Br4 := Lib.hid ((Br3.out).step hb)
  have rr4 := Br4.out.cell
  have br4 := Br4.out.lt
  have SM4 := Lib.hid ((SM3.out).below hb)
  have SD4 := Lib.hid ((SD3.out).below hb)
  have SS14 := Lib.hid ((SS13.out).below hb)
  have SS74 := Lib.hid ((SS73.out).below hb)
  have SS04 := Lib.hid ((SS03.out).below hb)
  clear hb Bm3 rm3 bm3 Ba3 ra3 ba3 Br3 rr3 br3 SM3 SD3 SS13 SS73 SS03 E3
  have fr := Br4.out.free
  go_wp2
  all_goals
    refine ret7 Br4.out ?_ ?_ ?_
    · intro W hW; have p9 := hW.cell; have f9 := hW.free; simp [results, Try.results10, go_sem, p9, f9]
    · rfl
    refine ⟨_, rfl, ?_, ?_⟩
    · have hq : moveX M D = outX bare.zeroD 6 := by rw [moveX, moveTo, show moveCode M D = 6 from by simp [moveCode, ha, hb', GE.out, hh], if_neg (by omega)]
      rw [hq]
      exact (out_owns (c := 0) (k := 6) (base := w.heap.size) (own.Own.nil _ _) zero_sz (by unfold R64; omega)).monoF (fun _ h => h)
    · repeat (refine Below.setCell ?_ (by simp <;> omega) _)
      exact E4.out
end Go.Proofs.Ytflfnekaiaplfaa.cf
