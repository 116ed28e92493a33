/- Where a move of the model puts what lies under a home. -/
import Derived.Test.YtflfnekaiaplfaaMoS
namespace Go.Proofs.Ytflfnekaiaplfaa.cf
open ad mem vl ex un
open Go.ChangeShapes Go.WideShapes Go.ChangeAt Go.RowKit Go.Lib
set_option linter.unusedVariables false
set_option maxRecDepth 8000
set_option linter.unusedSimpArgs false

theorem own_drew {w : World} {base : Nat} {v : Value} {l : List ByteArray} (h : own.Own w base v l) : own.Own w.drew base v l := h.step (below_d w 1)
theorem below_drew' {w w' : World} {n : Nat} (h : Below n w w') : Below n w w'.drew := below_dn h 1
theorem blkD {w : World} {g : Nat} {T : TypeId} {cs : Array Value} (h : Blk w g T cs) : Blk w.drew g T cs := h
theorem blk6 {w : World} {g : Nat} {T : TypeId} {a0 a1 a2 a3 a4 a5 : Value} (h : Blk w g T #[a0, a1, a2, a3, a4, a5]) (v0 v1 v2 v3 v4 v5 : Value) : Blk ((((((w.setCell ⟨g, 0, none⟩ v0).setCell ⟨g, 1, none⟩ v1).setCell ⟨g, 2, none⟩ v2).setCell ⟨g, 3, none⟩ v3).setCell ⟨g, 4, none⟩ v4).setCell ⟨g, 5, none⟩ v5) g T #[v0, v1, v2, v3, v4, v5] := by
  have h0 : Blk _ g T #[v0, a1, a2, a3, a4, a5] := Blk.put h 0 v0
  have h1 : Blk _ g T #[v0, v1, a2, a3, a4, a5] := Blk.put h0 1 v1
  have h2 : Blk _ g T #[v0, v1, v2, a3, a4, a5] := Blk.put h1 2 v2
  have h3 : Blk _ g T #[v0, v1, v2, v3, a4, a5] := Blk.put h2 3 v3
  have h4 : Blk _ g T #[v0, v1, v2, v3, v4, a5] := Blk.put h3 4 v4
  have h5 : Blk _ g T #[v0, v1, v2, v3, v4, v5] := Blk.put h4 5 v5
  exact h5
theorem ret6a {P : Program} {fn : Func} {R : Ending → World → Prop} {a : Act} {w : World} {g : Nat} {T : TypeId} {a0 a1 a2 a3 a4 a5 v0 v1 v2 v3 v4 v5 u : Value} {o : Obj} (h : Blk w g T #[a0, a1, a2, a3, a4, a5]) (hr : ∀ W, Blk W g T #[v0, v1, v2, v3, v4, v5] → (results fn a.tmps).run P W = .ok u W) (hd : a.defers = []) (hR : R (.returned u) (World.alloc ((((((w.setCell ⟨g, 0, none⟩ v0).setCell ⟨g, 1, none⟩ v1).setCell ⟨g, 2, none⟩ v2).setCell ⟨g, 3, none⟩ v3).setCell ⟨g, 4, none⟩ v4).setCell ⟨g, 5, none⟩ v5) o).drew) : bodyPost P fn R .ret a (World.alloc ((((((w.setCell ⟨g, 0, none⟩ v0).setCell ⟨g, 1, none⟩ v1).setCell ⟨g, 2, none⟩ v2).setCell ⟨g, 3, none⟩ v3).setCell ⟨g, 4, none⟩ v4).setCell ⟨g, 5, none⟩ v5) o).drew :=
  bodyPost_ret (hr _ (blkD ((blk6 h _ _ _ _ _ _).alloc o))) hd hR
theorem ret6 {P : Program} {fn : Func} {R : Ending → World → Prop} {a : Act} {w : World} {g : Nat} {T : TypeId} {a0 a1 a2 a3 a4 a5 v0 v1 v2 v3 v4 v5 u : Value} (h : Blk w g T #[a0, a1, a2, a3, a4, a5]) (hr : ∀ W, Blk W g T #[v0, v1, v2, v3, v4, v5] → (results fn a.tmps).run P W = .ok u W) (hd : a.defers = []) (hR : R (.returned u) ((((((w.setCell ⟨g, 0, none⟩ v0).setCell ⟨g, 1, none⟩ v1).setCell ⟨g, 2, none⟩ v2).setCell ⟨g, 3, none⟩ v3).setCell ⟨g, 4, none⟩ v4).setCell ⟨g, 5, none⟩ v5)) : bodyPost P fn R .ret a ((((((w.setCell ⟨g, 0, none⟩ v0).setCell ⟨g, 1, none⟩ v1).setCell ⟨g, 2, none⟩ v2).setCell ⟨g, 3, none⟩ v3).setCell ⟨g, 4, none⟩ v4).setCell ⟨g, 5, none⟩ v5) :=
  bodyPost_ret (hr _ (blk6 h _ _ _ _ _ _)) hd hR
set_option maxHeartbeats 4000000 in
theorem of3 (M : MoveD) (D : AddrD) (A1 A7 A : Option Addr) (c1 c7 c : Nat) (w : World) (h1 : Strs w A1 M.src.path) (h7 : Strs w A7 M.dst.path) (h : Strs w A D.path) (hM : MvOk M) (hD : addrB D = true) (z1 : Sz M.src) (z7 : Sz M.dst) (zD : Sz D) (l1 : M.src.path.length ≤ 1000000) (l7 : M.dst.path.length ≤ 1000000) (l0 : D.path.length ≤ 1000000) (hr : D.path.length ≤ c ∧ c ≤ maxLen ∧ ((∃ b o, A = some ⟨b, o, none⟩) ∨ (A = none ∧ c = 0))) (k : M.kind = 3) :
    Calls Try.prog 23 #[.agg #[.int .i64 M.kind, .slice A1 M.src.path.length c1, .string M.src.typ, .string M.src.nam, .int .i64 M.src.kind, .int .i64 M.src.n, .string M.src.key, .slice A7 M.dst.path.length c7, .string M.dst.typ, .string M.dst.nam, .int .i64 M.dst.kind, .int .i64 M.dst.n, .string M.dst.key], .agg #[.slice A D.path.length c, .string D.typ, .string D.nam, .int .i64 D.kind, .int .i64 D.n, .string D.key]] w (OfO w (goesTo M D) (goesB M D)) := by
  have e1 : goesTo M D = reh.dataR D M.src.path M.dst.path := by simp [goesTo, k]
  have e2 : goesB M D = decide (reh.codeR D M.src.path M.dst.path = 0) := by simp [goesB, k]
  have hz := goes_sz hM hD z7 zD
  rw [e1] at hz
  rw [e1, e2, k]
  have K := Lib.hid (fun (W : World) (hb : Below w.heap.size w W) => reh.reh_spec A c A1 c1 A7 c7 D M.src.path M.dst.path W (h.below hb) (h1.below hb) (h7.below hb) (by unfold maxLen; omega) (by unfold maxLen; omega) (by unfold maxLen; omega) zD.typ zD.nam zD.key hr.1 hr.2.1 hr.2.2)
  obtain ⟨X, hX⟩ : ∃ X, reh.dataR D M.src.path M.dst.path = X := ⟨_, rfl⟩
  obtain ⟨C, hC⟩ : ∃ X, reh.codeR D M.src.path M.dst.path = X := ⟨_, rfl⟩
  rw [hX, hC] at K
  rw [hX, hC]
  clear e1 e2 hz h1 h7 h hM hD z1 z7 zD l1 l7 l0 hr hX hC
  have hc : ∃ r, decide (C = 0) = r ∧ (C == (0 : Int)) = r := ⟨_, rfl, by by_cases h : C = 0 <;> simp [h]⟩
  obtain ⟨r, hc1, hc2⟩ := hc
  rw [hc1]
  clear hc1
  go_enter Try.func23, Try.ntmps23
  go_wp2_with fail
  refine (K.out _ (below_a3 _ _ _ _)).mono ?_
  rintro _ w1 ⟨B, cp, rfl, ho, hb⟩
  have E1 := Lib.hid (below_then (below_a3 _ _ _ _) hb (Nat.le_refl _))
  have P1 := Lib.hid ((Blk.new2 w _ _ _ _).step hb)
  have p1 := P1.out.cell
  have g1 := P1.out.free
  have z1 : w.heap.size + 1 + 1 < w1.heap.size := P1.out.lt
  have O1 : Hid (own.Own w1 (w.heap.size + 1 + 1 + 1) (.slice B X.path.length cp) X.path) := own.Own.mono ho (by simp)
  clear hb ho
  go_wp2_with fail
  go_region
  all_goals go_wp2
  refine ret6a P1.out (u := .tuple #[.agg #[.slice B X.path.length cp, .string X.typ, .string X.nam, .int .i64 X.kind, .int .i64 X.n, .string X.key], .bool r]) ?_ ?_ ?_
  · intro W hW; have p9 := hW.cell; have f9 := hW.free; simp [results, Try.results23, go_sem, p9, f9]
  · rfl
  refine ⟨B, cp, rfl, ?_, ?_⟩
  · refine own.Own.mono (base := w.heap.size + 1 + 1 + 1) ?_ (by omega)
    refine own_drew ?_
    refine own.Own.alloc ?_ _
    iterate 6 refine own.Own.far ?_ (by simp <;> omega) _
    exact O1.out
  · refine below_drew' (below_da ?_ (Nat.le_refl _) _)
    repeat (refine Below.setCell ?_ (by simp <;> omega) _)
    exact E1.out
end Go.Proofs.Ytflfnekaiaplfaa.cf
