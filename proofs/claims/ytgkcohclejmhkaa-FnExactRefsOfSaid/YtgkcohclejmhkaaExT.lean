/- The laws' own helpers on expressions: copied in. -/
import Derived.Test.YtgkcohclejmhkaaExL
namespace Go.Proofs.Ytgkcohclejmhkaa.ex
open ad mem vl
open Go.ChangeShapes Go.WideShapes Go.ChangeAt Go.RowKit Go.Lib
set_option linter.unusedVariables false
set_option maxRecDepth 8000
set_option linter.unusedSimpArgs false


theorem info_expr : (Try.prog.info? 37).map (fun i => (i.zero, i.size, i.bytes)) = some (some (.agg #[.int .i64 0, .int .i64 0, .int .i64 0, .string ByteArray.empty, .slice none 0 0, .string ByteArray.empty, .string ByteArray.empty, .int .i64 0, .int .i64 0, .string ByteArray.empty, .string ByteArray.empty, .slice none 0 0]), 12, 168) := by kernel_rfl
theorem isz2 : (Try.prog.info? 37).map (·.size) = some 12 := by kernel_rfl
theorem make_exprs (n : Nat) (hn : n ≤ 1048576) (w : World) :
    ∃ cs : Array Value, cs.size = n * 12 ∧ (Instr.makeSlice 35 (.int .i64 n) (.int .i64 n)).run Try.prog w = .ok (.slice (some ⟨w.heap.size, 0, none⟩) n n) (w.alloc (.cells cs 37)) := by
  obtain ⟨i, hi, hz0, hz1, hz2⟩ := info_parts info_expr
  have h := run_make (P := Try.prog) w 35 37 i _ Try.underlying35 hi hz0 .i64 .i64 n n (by omega) (by omega) (by rw [hz2]; omega) (by omega)
  refine ⟨_, ?_, h⟩
  simp [madeCells, hz1]
theorem Blk.set_ {w : World} {g : Nat} {T : TypeId} {cs : Array Value} (h : Blk w g T cs) (i : Nat) (u : Value) : Blk (w.setCell ⟨g, i, none⟩ u) g T (cs.setIfInBounds i u) := by
  unfold Blk at h ⊢
  simp [World.setCell, Array.getElem?_modify, h]

theorem blk_a3 {w : World} {g : Nat} {T : TypeId} {c0 c1 c2 c3 c4 c5 c6 c7 c8 c9 c10 c11 : Value} (h : Blk w g T #[c0, c1, c2, c3, c4, c5, c6, c7, c8, c9, c10, c11]) (a1 a2 a3 : Value) :
    Blk (((w.setCell ⟨g, 1, none⟩ a1).setCell ⟨g, 2, none⟩ a2).setCell ⟨g, 3, none⟩ a3) g T #[c0, a1, a2, a3, c4, c5, c6, c7, c8, c9, c10, c11] := by
  have := Blk.set_ (Blk.set_ (Blk.set_ h 1 a1) 2 a2) 3 a3
  simpa using this
theorem blk_a7 {w : World} {g : Nat} {T : TypeId} {c0 c1 c2 c3 c4 c5 c6 c7 c8 c9 c10 c11 : Value} (h : Blk w g T #[c0, c1, c2, c3, c4, c5, c6, c7, c8, c9, c10, c11]) (a4 a5 a6 a7 a8 a9 a10 : Value) :
    Blk (((((((w.setCell ⟨g, 4, none⟩ a4).setCell ⟨g, 5, none⟩ a5).setCell ⟨g, 6, none⟩ a6).setCell ⟨g, 7, none⟩ a7).setCell ⟨g, 8, none⟩ a8).setCell ⟨g, 9, none⟩ a9).setCell ⟨g, 10, none⟩ a10) g T #[c0, c1, c2, c3, a4, a5, a6, a7, a8, a9, a10, c11] := by
  have := Blk.set_ (Blk.set_ (Blk.set_ (Blk.set_ (Blk.set_ (Blk.set_ (Blk.set_ h 4 a4) 5 a5) 6 a6) 7 a7) 8 a8) 9 a9) 10 a10
  simpa using this
theorem far_a3 {w : World} {g g' : Nat} {T : TypeId} {cs : Array Value} (h : Blk w g T cs) (hg : g ≠ g') (a1 a2 a3 : Value) :
    Blk (((w.setCell ⟨g', 1, none⟩ a1).setCell ⟨g', 2, none⟩ a2).setCell ⟨g', 3, none⟩ a3) g T cs :=
  ((h.far (p := ⟨g', 1, none⟩) hg a1).far (p := ⟨g', 2, none⟩) hg a2).far (p := ⟨g', 3, none⟩) hg a3
theorem agree_a7 {lo : Nat} {w0 w : World} {g' : Nat} (h : Agree lo w0 w) (hg : g' < lo) (a4 a5 a6 a7 a8 a9 a10 : Value) :
    Agree lo w0 (((((((w.setCell ⟨g', 4, none⟩ a4).setCell ⟨g', 5, none⟩ a5).setCell ⟨g', 6, none⟩ a6).setCell ⟨g', 7, none⟩ a7).setCell ⟨g', 8, none⟩ a8).setCell ⟨g', 9, none⟩ a9).setCell ⟨g', 10, none⟩ a10) :=
  agree_set (agree_set (agree_set (agree_set (agree_set (agree_set (agree_set h (p := ⟨g', 4, none⟩) hg a4) (p := ⟨g', 5, none⟩) hg a5) (p := ⟨g', 6, none⟩) hg a6) (p := ⟨g', 7, none⟩) hg a7) (p := ⟨g', 8, none⟩) hg a8) (p := ⟨g', 9, none⟩) hg a9) (p := ⟨g', 10, none⟩) hg a10
theorem far_a7 {w : World} {g g' : Nat} {T : TypeId} {cs : Array Value} (h : Blk w g T cs) (hg : g ≠ g') (a4 a5 a6 a7 a8 a9 a10 : Value) :
    Blk (((((((w.setCell ⟨g', 4, none⟩ a4).setCell ⟨g', 5, none⟩ a5).setCell ⟨g', 6, none⟩ a6).setCell ⟨g', 7, none⟩ a7).setCell ⟨g', 8, none⟩ a8).setCell ⟨g', 9, none⟩ a9).setCell ⟨g', 10, none⟩ a10) g T cs :=
  ((((((h.far (p := ⟨g', 4, none⟩) hg a4).far (p := ⟨g', 5, none⟩) hg a5).far (p := ⟨g', 6, none⟩) hg a6).far (p := ⟨g', 7, none⟩) hg a7).far (p := ⟨g', 8, none⟩) hg a8).far (p := ⟨g', 9, none⟩) hg a9).far (p := ⟨g', 10, none⟩) hg a10

/-- the new expression of toExpr. -/
def NewE (w : World) (n : Nat) (e : ExprD) (en : Ending) (w' : World) : Prop := ∃ pa aa, en = .returned (.agg #[.int .i64 e.kind, .int .i64 e.val.kind, .int .i64 e.val.n, .string e.val.text, .slice pa e.addr.path.length e.addr.path.length, .string e.addr.typ, .string e.addr.nam, .int .i64 e.addr.kind, .int .i64 e.addr.n, .string e.addr.key, .string e.prop, .slice aa e.args.length e.args.length]) ∧ In w.heap.size n w' pa aa e ∧ Below w.heap.size w w'
def NewS (w : World) (n : Nat) (l : List ExprD) (en : Ending) (w' : World) : Prop := ∃ g, en = .returned (.slice (some ⟨g, 0, none⟩) l.length l.length) ∧ w.heap.size ≤ g ∧ Ar n w.heap.size w' (some ⟨g, 0, none⟩) l ∧ Below w.heap.size w w'
-- [PLAIN
def ToS (n : Nat) : Prop := ∀ (A : Option Addr) (c : Nat) (l : List ExprD) (w : World), Ar n 0 w A l → l.length + cntEs l ≤ 1048576 →
    Calls Try.prog 37 #[.slice A l.length c] w (NewS w n l)

set_option maxHeartbeats 400000 in
theorem toExpr_of {n : Nat} (ih : ToS n) (pa aa : Option Addr) (pc ac : Nat) (e : ExprD) (w : World) (h : In 0 n w pa aa e) (hc : cntE e ≤ 1048576) :
    Calls Try.prog 9 #[.agg #[.int .i64 e.kind, .int .i64 e.val.kind, .int .i64 e.val.n, .string e.val.text, .slice pa e.addr.path.length pc, .string e.addr.typ, .string e.addr.nam, .int .i64 e.addr.kind, .int .i64 e.addr.n, .string e.addr.key, .string e.prop, .slice aa e.args.length ac]] w (NewE w n e) := by
  have HI := Lib.hid h
  have IH := Lib.hid ih
  have HC : Hid (e.addr.path.length ≤ 1048576 ∧ e.args.length + cntEs e.args ≤ 1048576) := by
    show _ ∧ _
    rw [cntE_eq] at hc; unfold adl.cntA adl.cntL at hc; omega
  clear h ih hc
  go_enter Try.func9, Try.ntmps9
  go_wp2_with fail
  refine (to_val e.val _).mono ?_
  rintro _ w1 ⟨rfl, hb⟩
  have E1 := Lib.hid (below_then (below_a3 _ _ _ _) hb (Nat.le_refl _))
  have P1 := Lib.hid (((Blk.new w _ _).alloc _ |>.alloc _).step hb)
  have R1 := Lib.hid ((((Blk.new1 w _ _ _).alloc _)).step hb)
  have O1 := Lib.hid ((Blk.new2 w _ _ _ _).step hb)
  have p1 := P1.out.cell
  have o1 := O1.out.cell
  have f1 := O1.out.free
  have z1 : w.heap.size + 1 + 1 < w1.heap.size := O1.out.lt
  clear hb
  go_wp2_with fail
  have E1' := Lib.hid (Below.setCell (Below.setCell (Below.setCell E1.out (p := ⟨w.heap.size + 1 + 1, 1, none⟩) (by simp; omega) (.int .i64 e.val.kind)) (p := ⟨w.heap.size + 1 + 1, 2, none⟩) (by simp; omega) (.int .i64 e.val.n)) (p := ⟨w.heap.size + 1 + 1, 3, none⟩) (by simp; omega) (.string e.val.text))
  refine (adl.toAddr_any pa pc e.addr _ (HI.out.strs.below E1'.out) HC.out.1).mono ?_
  rintro _ w2 ⟨g, rfl, hg, hrow, hb⟩
  have E2 := Lib.hid (below_then E1'.out hb (Nat.le_refl _))
  have R2 := Lib.hid (Blk.step (far_a3 R1.out (by simp) _ _ _) hb)
  have P2 := Lib.hid (Blk.step (far_a3 P1.out (by omega) _ _ _) hb)
  have p2 := P2.out.cell
  have O2 := Lib.hid (Blk.step (blk_a3 O1.out _ _ _) hb)
  have hz2 := hb.size
  simp only [World.size_setCell] at hz2 hg
  have SP2 := Lib.hid (hrow.strs HI.out.strs.sizes)
  have o2 := O2.out.cell
  have f2 := O2.out.free
  have z2 : w.heap.size + 1 + 1 < w2.heap.size := by omega
  have hgl : w.heap.size + 1 + 1 < g := by omega
  clear hb hg hrow hz2 p1 o1 f1 P1 R1 O1
  go_wp2_with fail
  have E2' := Lib.hid (Below.setCell (Below.setCell (Below.setCell (Below.setCell (Below.setCell (Below.setCell (Below.setCell E2.out (p := ⟨w.heap.size + 1 + 1, 4, none⟩) (by simp; omega) (.slice (some ⟨g, 0, none⟩) e.addr.path.length e.addr.path.length)) (p := ⟨w.heap.size + 1 + 1, 5, none⟩) (by simp; omega) (.string e.addr.typ)) (p := ⟨w.heap.size + 1 + 1, 6, none⟩) (by simp; omega) (.string e.addr.nam)) (p := ⟨w.heap.size + 1 + 1, 7, none⟩) (by simp; omega) (.int .i64 e.addr.kind)) (p := ⟨w.heap.size + 1 + 1, 8, none⟩) (by simp; omega) (.int .i64 e.addr.n)) (p := ⟨w.heap.size + 1 + 1, 9, none⟩) (by simp; omega) (.string e.addr.key)) (p := ⟨w.heap.size + 1 + 1, 10, none⟩) (by simp; omega) (.string e.prop))
  refine (IH.out aa ac e.args _ (HI.out.args.below E2'.out) HC.out.2).mono ?_
  rintro _ w3 ⟨g2, rfl, hg2, har, hb⟩
  have E3 := Lib.hid (below_then E2'.out hb (Nat.le_refl _))
  have O3 := Lib.hid (Blk.step (blk_a7 O2.out _ _ _ _ _ _ _) hb)
  have R3 := Lib.hid (Blk.step (far_a7 R2.out (by simp) _ _ _ _ _ _ _) hb)
  have hz3 := hb.size
  simp only [World.size_setCell] at hz3 hg2
  have SP3 := Lib.hid (Strs.below (strs_agree (lo := w.heap.size + 1 + 1 + 1) SP2.out (fun p hp => by cases hp; exact hgl) (agree_a7 (Agree.refl _ _) (Nat.lt_succ_self _) _ _ _ _ _ _ _)) hb)
  have HA3 := Lib.hid (Ar.down (lo' := w.heap.size + 1 + 1 + 1) har (by simp only [World.size_setCell]; omega))
  have z3 : w.heap.size + 1 + 1 < w3.heap.size := by omega
  have o3 := O3.out.cell
  have f3 := O3.out.free
  have r3 := R3.out.cell
  have g3 := R3.out.free
  clear hb hg2 hz3 har p2 o2 f2 P2 R2 O2 SP2
  go_wp2
  refine bodyPost_ret (v := .agg #[.int .i64 e.kind, .int .i64 e.val.kind, .int .i64 e.val.n, .string e.val.text, .slice (some ⟨g, 0, none⟩) e.addr.path.length e.addr.path.length, .string e.addr.typ, .string e.addr.nam, .int .i64 e.addr.kind, .int .i64 e.addr.n, .string e.addr.key, .string e.prop, .slice (some ⟨g2, 0, none⟩) e.args.length e.args.length]) (by simp [results, Try.results9, go_sem, o3, f3, r3, g3, z3]) rfl ⟨some ⟨g, 0, none⟩, some ⟨g2, 0, none⟩, rfl, ?_, ?_⟩
  · refine In.down (lo := w.heap.size + 1 + 1 + 1) ?_ (by omega)
    refine In.agree (w := w3) ⟨SP3.out, fun p hp => by cases hp; exact hgl, HA3.out, HI.out.sz⟩ ?_
    repeat (with_reducible refine agree_set ?_ (by simp <;> omega) _)
    exact Agree.refl _ _
  · repeat (refine Below.setCell ?_ (by simp <;> omega) _)
    exact E3.out
-- PLAIN]
end Go.Proofs.Ytgkcohclejmhkaa.ex
