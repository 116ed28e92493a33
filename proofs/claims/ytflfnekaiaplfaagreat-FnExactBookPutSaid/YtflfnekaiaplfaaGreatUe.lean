/- The laws' own helpers: data compared with the same data. -/
import Derived.Test.YtflfnekaiaplfaaGreatUc
import Derived.BigQuiet
import Derived.BigRegion
import Derived.Deep.QuietTactic
import Derived.Outline
import Derived.Deep.RegionHeld3
namespace Go.Proofs.YtflfnekaiaplfaaGreat.un
open mem
open Go.ChangeShapes Go.WideShapes Go.ChangeAt Go.RowKit Go.Lib
set_option linter.unusedVariables false
set_option maxRecDepth 8000
set_option linter.unusedSimpArgs false

theorem openv_Addr {B : Nat → Prop} {n : Nat} {w : World} {x3 x4 : Int} {s1 s2 s5 : ByteArray} {l0 : List (List DC)} {vs : List Value} (h : Cells B n w shAddr_ [.l l0, .s s1, .s s2, .i x3, .i x4, .s s5] vs) : ∃ A0 c0, vs = [.slice A0 l0.length c0, .string s1, .string s2, .int .i64 x3, .int .i64 x4, .string s5] ∧ Cell B n w (.l 0) (.l l0) (.slice A0 l0.length c0) ∧ s1.size ≤ maxLen ∧ s2.size ≤ maxLen ∧ R64 x3 ∧ R64 x4 ∧ s5.size ≤ maxLen := by
  obtain ⟨m0, t1, t2, y3, y4, t5, A0, c0, e, rfl, k0, k1, k2, k3, k4, k5⟩ := open_Addr h
  simp only [List.cons.injEq, DC.i.injEq, DC.s.injEq, DC.l.injEq, and_true] at e
  obtain ⟨rfl, rfl, rfl, rfl, rfl, rfl⟩ := e
  exact ⟨A0, c0, rfl, k0, k1, k2, k3, k4, k5⟩
theorem range_Addr {w : World} {b o : Nat} {v0 v1 v2 v3 v4 v5 : Value} (h : w.rangeAt b o [v0, v1, v2, v3, v4, v5]) : w.cell? ⟨b, o, none⟩ = some v0 ∧ w.cell? ⟨b, o + 1, none⟩ = some v1 ∧ w.cell? ⟨b, o + 2, none⟩ = some v2 ∧ w.cell? ⟨b, o + 3, none⟩ = some v3 ∧ w.cell? ⟨b, o + 4, none⟩ = some v4 ∧ w.cell? ⟨b, o + 5, none⟩ = some v5 :=
  ⟨h 0 _ rfl, h 1 _ rfl, h 2 _ rfl, h 3 _ rfl, h 4 _ rfl, h 5 _ rfl⟩
theorem openv_Value {B : Nat → Prop} {n : Nat} {w : World} {x0 x1 : Int} {s2 : ByteArray} {vs : List Value} (h : Cells B n w shValue_ [.i x0, .i x1, .s s2] vs) : vs = [.int .i64 x0, .int .i64 x1, .string s2] ∧ R64 x0 ∧ R64 x1 ∧ s2.size ≤ maxLen := by
  obtain ⟨y0, y1, t2, e, rfl, k0, k1, k2⟩ := open_Value h
  simp only [List.cons.injEq, DC.i.injEq, DC.s.injEq, DC.l.injEq, and_true] at e
  obtain ⟨rfl, rfl, rfl⟩ := e
  exact ⟨rfl, k0, k1, k2⟩
theorem range_Value {w : World} {b o : Nat} {v0 v1 v2 : Value} (h : w.rangeAt b o [v0, v1, v2]) : w.cell? ⟨b, o, none⟩ = some v0 ∧ w.cell? ⟨b, o + 1, none⟩ = some v1 ∧ w.cell? ⟨b, o + 2, none⟩ = some v2 :=
  ⟨h 0 _ rfl, h 1 _ rfl, h 2 _ rfl⟩
theorem openv_Expr {B : Nat → Prop} {n : Nat} {w : World} {x0 x1 x2 x7 x8 : Int} {s3 s5 s6 s9 s10 : ByteArray} {l4 l11 : List (List DC)} {vs : List Value} (h : Cells B n w shExpr_ [.i x0, .i x1, .i x2, .s s3, .l l4, .s s5, .s s6, .i x7, .i x8, .s s9, .s s10, .l l11] vs) : ∃ A4 c4 A11 c11, vs = [.int .i64 x0, .int .i64 x1, .int .i64 x2, .string s3, .slice A4 l4.length c4, .string s5, .string s6, .int .i64 x7, .int .i64 x8, .string s9, .string s10, .slice A11 l11.length c11] ∧ R64 x0 ∧ R64 x1 ∧ R64 x2 ∧ s3.size ≤ maxLen ∧ Cell B n w (.l 0) (.l l4) (.slice A4 l4.length c4) ∧ s5.size ≤ maxLen ∧ s6.size ≤ maxLen ∧ R64 x7 ∧ R64 x8 ∧ s9.size ≤ maxLen ∧ s10.size ≤ maxLen ∧ Cell B n w (.l 3) (.l l11) (.slice A11 l11.length c11) := by
  obtain ⟨y0, y1, y2, t3, m4, t5, t6, y7, y8, t9, t10, m11, A4, c4, A11, c11, e, rfl, k0, k1, k2, k3, k4, k5, k6, k7, k8, k9, k10, k11⟩ := open_Expr h
  simp only [List.cons.injEq, DC.i.injEq, DC.s.injEq, DC.l.injEq, and_true] at e
  obtain ⟨rfl, rfl, rfl, rfl, rfl, rfl, rfl, rfl, rfl, rfl, rfl, rfl⟩ := e
  exact ⟨A4, c4, A11, c11, rfl, k0, k1, k2, k3, k4, k5, k6, k7, k8, k9, k10, k11⟩
theorem range_Expr {w : World} {b o : Nat} {v0 v1 v2 v3 v4 v5 v6 v7 v8 v9 v10 v11 : Value} (h : w.rangeAt b o [v0, v1, v2, v3, v4, v5, v6, v7, v8, v9, v10, v11]) : w.cell? ⟨b, o, none⟩ = some v0 ∧ w.cell? ⟨b, o + 1, none⟩ = some v1 ∧ w.cell? ⟨b, o + 2, none⟩ = some v2 ∧ w.cell? ⟨b, o + 3, none⟩ = some v3 ∧ w.cell? ⟨b, o + 4, none⟩ = some v4 ∧ w.cell? ⟨b, o + 5, none⟩ = some v5 ∧ w.cell? ⟨b, o + 6, none⟩ = some v6 ∧ w.cell? ⟨b, o + 7, none⟩ = some v7 ∧ w.cell? ⟨b, o + 8, none⟩ = some v8 ∧ w.cell? ⟨b, o + 9, none⟩ = some v9 ∧ w.cell? ⟨b, o + 10, none⟩ = some v10 ∧ w.cell? ⟨b, o + 11, none⟩ = some v11 :=
  ⟨h 0 _ rfl, h 1 _ rfl, h 2 _ rfl, h 3 _ rfl, h 4 _ rfl, h 5 _ rfl, h 6 _ rfl, h 7 _ rfl, h 8 _ rfl, h 9 _ rfl, h 10 _ rfl, h 11 _ rfl⟩
theorem openv_Prop {B : Nat → Prop} {n : Nat} {w : World} {x1 x2 x3 x8 x9 : Int} {s0 s4 s6 s7 s10 s11 : ByteArray} {l5 l12 : List (List DC)} {vs : List Value} (h : Cells B n w shProp_ [.s s0, .i x1, .i x2, .i x3, .s s4, .l l5, .s s6, .s s7, .i x8, .i x9, .s s10, .s s11, .l l12] vs) : ∃ A5 c5 A12 c12, vs = [.string s0, .int .i64 x1, .int .i64 x2, .int .i64 x3, .string s4, .slice A5 l5.length c5, .string s6, .string s7, .int .i64 x8, .int .i64 x9, .string s10, .string s11, .slice A12 l12.length c12] ∧ s0.size ≤ maxLen ∧ R64 x1 ∧ R64 x2 ∧ R64 x3 ∧ s4.size ≤ maxLen ∧ Cell B n w (.l 0) (.l l5) (.slice A5 l5.length c5) ∧ s6.size ≤ maxLen ∧ s7.size ≤ maxLen ∧ R64 x8 ∧ R64 x9 ∧ s10.size ≤ maxLen ∧ s11.size ≤ maxLen ∧ Cell B n w (.l 3) (.l l12) (.slice A12 l12.length c12) := by
  obtain ⟨t0, y1, y2, y3, t4, m5, t6, t7, y8, y9, t10, t11, m12, A5, c5, A12, c12, e, rfl, k0, k1, k2, k3, k4, k5, k6, k7, k8, k9, k10, k11, k12⟩ := open_Prop h
  simp only [List.cons.injEq, DC.i.injEq, DC.s.injEq, DC.l.injEq, and_true] at e
  obtain ⟨rfl, rfl, rfl, rfl, rfl, rfl, rfl, rfl, rfl, rfl, rfl, rfl, rfl⟩ := e
  exact ⟨A5, c5, A12, c12, rfl, k0, k1, k2, k3, k4, k5, k6, k7, k8, k9, k10, k11, k12⟩
theorem range_Prop {w : World} {b o : Nat} {v0 v1 v2 v3 v4 v5 v6 v7 v8 v9 v10 v11 v12 : Value} (h : w.rangeAt b o [v0, v1, v2, v3, v4, v5, v6, v7, v8, v9, v10, v11, v12]) : w.cell? ⟨b, o, none⟩ = some v0 ∧ w.cell? ⟨b, o + 1, none⟩ = some v1 ∧ w.cell? ⟨b, o + 2, none⟩ = some v2 ∧ w.cell? ⟨b, o + 3, none⟩ = some v3 ∧ w.cell? ⟨b, o + 4, none⟩ = some v4 ∧ w.cell? ⟨b, o + 5, none⟩ = some v5 ∧ w.cell? ⟨b, o + 6, none⟩ = some v6 ∧ w.cell? ⟨b, o + 7, none⟩ = some v7 ∧ w.cell? ⟨b, o + 8, none⟩ = some v8 ∧ w.cell? ⟨b, o + 9, none⟩ = some v9 ∧ w.cell? ⟨b, o + 10, none⟩ = some v10 ∧ w.cell? ⟨b, o + 11, none⟩ = some v11 ∧ w.cell? ⟨b, o + 12, none⟩ = some v12 :=
  ⟨h 0 _ rfl, h 1 _ rfl, h 2 _ rfl, h 3 _ rfl, h 4 _ rfl, h 5 _ rfl, h 6 _ rfl, h 7 _ rfl, h 8 _ rfl, h 9 _ rfl, h 10 _ rfl, h 11 _ rfl, h 12 _ rfl⟩
theorem openv_Block {B : Nat → Prop} {n : Nat} {w : World} {x3 x4 x6 : Int} {s1 s2 s5 : ByteArray} {l0 l7 l8 : List (List DC)} {vs : List Value} (h : Cells B n w shBlock_ [.l l0, .s s1, .s s2, .i x3, .i x4, .s s5, .i x6, .l l7, .l l8] vs) : ∃ A0 c0 A7 c7 A8 c8, vs = [.slice A0 l0.length c0, .string s1, .string s2, .int .i64 x3, .int .i64 x4, .string s5, .int .i64 x6, .slice A7 l7.length c7, .slice A8 l8.length c8] ∧ Cell B n w (.l 0) (.l l0) (.slice A0 l0.length c0) ∧ s1.size ≤ maxLen ∧ s2.size ≤ maxLen ∧ R64 x3 ∧ R64 x4 ∧ s5.size ≤ maxLen ∧ R64 x6 ∧ Cell B n w (.l 0) (.l l7) (.slice A7 l7.length c7) ∧ Cell B n w (.l 4) (.l l8) (.slice A8 l8.length c8) := by
  obtain ⟨m0, t1, t2, y3, y4, t5, y6, m7, m8, A0, c0, A7, c7, A8, c8, e, rfl, k0, k1, k2, k3, k4, k5, k6, k7, k8⟩ := open_Block h
  simp only [List.cons.injEq, DC.i.injEq, DC.s.injEq, DC.l.injEq, and_true] at e
  obtain ⟨rfl, rfl, rfl, rfl, rfl, rfl, rfl, rfl, rfl⟩ := e
  exact ⟨A0, c0, A7, c7, A8, c8, rfl, k0, k1, k2, k3, k4, k5, k6, k7, k8⟩
theorem range_Block {w : World} {b o : Nat} {v0 v1 v2 v3 v4 v5 v6 v7 v8 : Value} (h : w.rangeAt b o [v0, v1, v2, v3, v4, v5, v6, v7, v8]) : w.cell? ⟨b, o, none⟩ = some v0 ∧ w.cell? ⟨b, o + 1, none⟩ = some v1 ∧ w.cell? ⟨b, o + 2, none⟩ = some v2 ∧ w.cell? ⟨b, o + 3, none⟩ = some v3 ∧ w.cell? ⟨b, o + 4, none⟩ = some v4 ∧ w.cell? ⟨b, o + 5, none⟩ = some v5 ∧ w.cell? ⟨b, o + 6, none⟩ = some v6 ∧ w.cell? ⟨b, o + 7, none⟩ = some v7 ∧ w.cell? ⟨b, o + 8, none⟩ = some v8 :=
  ⟨h 0 _ rfl, h 1 _ rfl, h 2 _ rfl, h 3 _ rfl, h 4 _ rfl, h 5 _ rfl, h 6 _ rfl, h 7 _ rfl, h 8 _ rfl⟩
theorem openv_Move {B : Nat → Prop} {n : Nat} {w : World} {x0 x4 x5 x10 x11 : Int} {s2 s3 s6 s8 s9 s12 : ByteArray} {l1 l7 : List (List DC)} {vs : List Value} (h : Cells B n w shMove_ [.i x0, .l l1, .s s2, .s s3, .i x4, .i x5, .s s6, .l l7, .s s8, .s s9, .i x10, .i x11, .s s12] vs) : ∃ A1 c1 A7 c7, vs = [.int .i64 x0, .slice A1 l1.length c1, .string s2, .string s3, .int .i64 x4, .int .i64 x5, .string s6, .slice A7 l7.length c7, .string s8, .string s9, .int .i64 x10, .int .i64 x11, .string s12] ∧ R64 x0 ∧ Cell B n w (.l 0) (.l l1) (.slice A1 l1.length c1) ∧ s2.size ≤ maxLen ∧ s3.size ≤ maxLen ∧ R64 x4 ∧ R64 x5 ∧ s6.size ≤ maxLen ∧ Cell B n w (.l 0) (.l l7) (.slice A7 l7.length c7) ∧ s8.size ≤ maxLen ∧ s9.size ≤ maxLen ∧ R64 x10 ∧ R64 x11 ∧ s12.size ≤ maxLen := by
  obtain ⟨y0, m1, t2, t3, y4, y5, t6, m7, t8, t9, y10, y11, t12, A1, c1, A7, c7, e, rfl, k0, k1, k2, k3, k4, k5, k6, k7, k8, k9, k10, k11, k12⟩ := open_Move h
  simp only [List.cons.injEq, DC.i.injEq, DC.s.injEq, DC.l.injEq, and_true] at e
  obtain ⟨rfl, rfl, rfl, rfl, rfl, rfl, rfl, rfl, rfl, rfl, rfl, rfl, rfl⟩ := e
  exact ⟨A1, c1, A7, c7, rfl, k0, k1, k2, k3, k4, k5, k6, k7, k8, k9, k10, k11, k12⟩
theorem range_Move {w : World} {b o : Nat} {v0 v1 v2 v3 v4 v5 v6 v7 v8 v9 v10 v11 v12 : Value} (h : w.rangeAt b o [v0, v1, v2, v3, v4, v5, v6, v7, v8, v9, v10, v11, v12]) : w.cell? ⟨b, o, none⟩ = some v0 ∧ w.cell? ⟨b, o + 1, none⟩ = some v1 ∧ w.cell? ⟨b, o + 2, none⟩ = some v2 ∧ w.cell? ⟨b, o + 3, none⟩ = some v3 ∧ w.cell? ⟨b, o + 4, none⟩ = some v4 ∧ w.cell? ⟨b, o + 5, none⟩ = some v5 ∧ w.cell? ⟨b, o + 6, none⟩ = some v6 ∧ w.cell? ⟨b, o + 7, none⟩ = some v7 ∧ w.cell? ⟨b, o + 8, none⟩ = some v8 ∧ w.cell? ⟨b, o + 9, none⟩ = some v9 ∧ w.cell? ⟨b, o + 10, none⟩ = some v10 ∧ w.cell? ⟨b, o + 11, none⟩ = some v11 ∧ w.cell? ⟨b, o + 12, none⟩ = some v12 :=
  ⟨h 0 _ rfl, h 1 _ rfl, h 2 _ rfl, h 3 _ rfl, h 4 _ rfl, h 5 _ rfl, h 6 _ rfl, h 7 _ rfl, h 8 _ rfl, h 9 _ rfl, h 10 _ rfl, h 11 _ rfl, h 12 _ rfl⟩
theorem openv_Config {B : Nat → Prop} {n : Nat} {w : World} {l0 l1 : List (List DC)} {vs : List Value} (h : Cells B n w shConfig_ [.l l0, .l l1] vs) : ∃ A0 c0 A1 c1, vs = [.slice A0 l0.length c0, .slice A1 l1.length c1] ∧ Cell B n w (.l 5) (.l l0) (.slice A0 l0.length c0) ∧ Cell B n w (.l 6) (.l l1) (.slice A1 l1.length c1) := by
  obtain ⟨m0, m1, A0, c0, A1, c1, e, rfl, k0, k1⟩ := open_Config h
  simp only [List.cons.injEq, DC.i.injEq, DC.s.injEq, DC.l.injEq, and_true] at e
  obtain ⟨rfl, rfl⟩ := e
  exact ⟨A0, c0, A1, c1, rfl, k0, k1⟩
theorem range_Config {w : World} {b o : Nat} {v0 v1 : Value} (h : w.rangeAt b o [v0, v1]) : w.cell? ⟨b, o, none⟩ = some v0 ∧ w.cell? ⟨b, o + 1, none⟩ = some v1 :=
  ⟨h 0 _ rfl, h 1 _ rfl⟩
theorem openv_Pair {B : Nat → Prop} {n : Nat} {w : World} {x1 x2 : Int} {s0 s3 : ByteArray} {vs : List Value} (h : Cells B n w shPair_ [.s s0, .i x1, .i x2, .s s3] vs) : vs = [.string s0, .int .i64 x1, .int .i64 x2, .string s3] ∧ s0.size ≤ maxLen ∧ R64 x1 ∧ R64 x2 ∧ s3.size ≤ maxLen := by
  obtain ⟨t0, y1, y2, t3, e, rfl, k0, k1, k2, k3⟩ := open_Pair h
  simp only [List.cons.injEq, DC.i.injEq, DC.s.injEq, DC.l.injEq, and_true] at e
  obtain ⟨rfl, rfl, rfl, rfl⟩ := e
  exact ⟨rfl, k0, k1, k2, k3⟩
theorem range_Pair {w : World} {b o : Nat} {v0 v1 v2 v3 : Value} (h : w.rangeAt b o [v0, v1, v2, v3]) : w.cell? ⟨b, o, none⟩ = some v0 ∧ w.cell? ⟨b, o + 1, none⟩ = some v1 ∧ w.cell? ⟨b, o + 2, none⟩ = some v2 ∧ w.cell? ⟨b, o + 3, none⟩ = some v3 :=
  ⟨h 0 _ rfl, h 1 _ rfl, h 2 _ rfl, h 3 _ rfl⟩
theorem openv_Thing {B : Nat → Prop} {n : Nat} {w : World} {x3 x4 : Int} {s1 s2 s5 : ByteArray} {l0 l6 l7 : List (List DC)} {vs : List Value} (h : Cells B n w shThing_ [.l l0, .s s1, .s s2, .i x3, .i x4, .s s5, .l l6, .l l7] vs) : ∃ A0 c0 A6 c6 A7 c7, vs = [.slice A0 l0.length c0, .string s1, .string s2, .int .i64 x3, .int .i64 x4, .string s5, .slice A6 l6.length c6, .slice A7 l7.length c7] ∧ Cell B n w (.l 0) (.l l0) (.slice A0 l0.length c0) ∧ s1.size ≤ maxLen ∧ s2.size ≤ maxLen ∧ R64 x3 ∧ R64 x4 ∧ s5.size ≤ maxLen ∧ Cell B n w (.l 7) (.l l6) (.slice A6 l6.length c6) ∧ Cell B n w (.l 2) (.l l7) (.slice A7 l7.length c7) := by
  obtain ⟨m0, t1, t2, y3, y4, t5, m6, m7, A0, c0, A6, c6, A7, c7, e, rfl, k0, k1, k2, k3, k4, k5, k6, k7⟩ := open_Thing h
  simp only [List.cons.injEq, DC.i.injEq, DC.s.injEq, DC.l.injEq, and_true] at e
  obtain ⟨rfl, rfl, rfl, rfl, rfl, rfl, rfl, rfl⟩ := e
  exact ⟨A0, c0, A6, c6, A7, c7, rfl, k0, k1, k2, k3, k4, k5, k6, k7⟩
theorem range_Thing {w : World} {b o : Nat} {v0 v1 v2 v3 v4 v5 v6 v7 : Value} (h : w.rangeAt b o [v0, v1, v2, v3, v4, v5, v6, v7]) : w.cell? ⟨b, o, none⟩ = some v0 ∧ w.cell? ⟨b, o + 1, none⟩ = some v1 ∧ w.cell? ⟨b, o + 2, none⟩ = some v2 ∧ w.cell? ⟨b, o + 3, none⟩ = some v3 ∧ w.cell? ⟨b, o + 4, none⟩ = some v4 ∧ w.cell? ⟨b, o + 5, none⟩ = some v5 ∧ w.cell? ⟨b, o + 6, none⟩ = some v6 ∧ w.cell? ⟨b, o + 7, none⟩ = some v7 :=
  ⟨h 0 _ rfl, h 1 _ rfl, h 2 _ rfl, h 3 _ rfl, h 4 _ rfl, h 5 _ rfl, h 6 _ rfl, h 7 _ rfl⟩
theorem openv_Step {B : Nat → Prop} {n : Nat} {w : World} {x0 x4 x5 : Int} {s2 s3 s6 : ByteArray} {l1 : List (List DC)} {vs : List Value} (h : Cells B n w shStep_ [.i x0, .l l1, .s s2, .s s3, .i x4, .i x5, .s s6] vs) : ∃ A1 c1, vs = [.int .i64 x0, .slice A1 l1.length c1, .string s2, .string s3, .int .i64 x4, .int .i64 x5, .string s6] ∧ R64 x0 ∧ Cell B n w (.l 0) (.l l1) (.slice A1 l1.length c1) ∧ s2.size ≤ maxLen ∧ s3.size ≤ maxLen ∧ R64 x4 ∧ R64 x5 ∧ s6.size ≤ maxLen := by
  obtain ⟨y0, m1, t2, t3, y4, y5, t6, A1, c1, e, rfl, k0, k1, k2, k3, k4, k5, k6⟩ := open_Step h
  simp only [List.cons.injEq, DC.i.injEq, DC.s.injEq, DC.l.injEq, and_true] at e
  obtain ⟨rfl, rfl, rfl, rfl, rfl, rfl, rfl⟩ := e
  exact ⟨A1, c1, rfl, k0, k1, k2, k3, k4, k5, k6⟩
theorem range_Step {w : World} {b o : Nat} {v0 v1 v2 v3 v4 v5 v6 : Value} (h : w.rangeAt b o [v0, v1, v2, v3, v4, v5, v6]) : w.cell? ⟨b, o, none⟩ = some v0 ∧ w.cell? ⟨b, o + 1, none⟩ = some v1 ∧ w.cell? ⟨b, o + 2, none⟩ = some v2 ∧ w.cell? ⟨b, o + 3, none⟩ = some v3 ∧ w.cell? ⟨b, o + 4, none⟩ = some v4 ∧ w.cell? ⟨b, o + 5, none⟩ = some v5 ∧ w.cell? ⟨b, o + 6, none⟩ = some v6 :=
  ⟨h 0 _ rfl, h 1 _ rfl, h 2 _ rfl, h 3 _ rfl, h 4 _ rfl, h 5 _ rfl, h 6 _ rfl⟩
theorem openv_PlanOut {B : Nat → Prop} {n : Nat} {w : World} {x3 : Int} {l0 l1 l2 : List (List DC)} {vs : List Value} (h : Cells B n w shPlanOut_ [.l l0, .l l1, .l l2, .i x3] vs) : ∃ A0 c0 A1 c1 A2 c2, vs = [.slice A0 l0.length c0, .slice A1 l1.length c1, .slice A2 l2.length c2, .int .i64 x3] ∧ Cell B n w (.l 9) (.l l0) (.slice A0 l0.length c0) ∧ Cell B n w (.l 2) (.l l1) (.slice A1 l1.length c1) ∧ Cell B n w (.l 2) (.l l2) (.slice A2 l2.length c2) ∧ R64 x3 := by
  obtain ⟨m0, m1, m2, y3, A0, c0, A1, c1, A2, c2, e, rfl, k0, k1, k2, k3⟩ := open_PlanOut h
  simp only [List.cons.injEq, DC.i.injEq, DC.s.injEq, DC.l.injEq, and_true] at e
  obtain ⟨rfl, rfl, rfl, rfl⟩ := e
  exact ⟨A0, c0, A1, c1, A2, c2, rfl, k0, k1, k2, k3⟩
theorem range_PlanOut {w : World} {b o : Nat} {v0 v1 v2 v3 : Value} (h : w.rangeAt b o [v0, v1, v2, v3]) : w.cell? ⟨b, o, none⟩ = some v0 ∧ w.cell? ⟨b, o + 1, none⟩ = some v1 ∧ w.cell? ⟨b, o + 2, none⟩ = some v2 ∧ w.cell? ⟨b, o + 3, none⟩ = some v3 :=
  ⟨h 0 _ rfl, h 1 _ rfl, h 2 _ rfl, h 3 _ rfl⟩
theorem openv_Vault {B : Nat → Prop} {n : Nat} {w : World} {x0 x1 : Int} {s2 : ByteArray} {l3 l4 : List (List DC)} {vs : List Value} (h : Cells B n w shVault_ [.i x0, .i x1, .s s2, .l l3, .l l4] vs) : ∃ A3 c3 A4 c4, vs = [.int .i64 x0, .int .i64 x1, .string s2, .slice A3 l3.length c3, .slice A4 l4.length c4] ∧ R64 x0 ∧ R64 x1 ∧ s2.size ≤ maxLen ∧ Cell B n w (.l 8) (.l l3) (.slice A3 l3.length c3) ∧ Cell B n w (.l 1) (.l l4) (.slice A4 l4.length c4) := by
  obtain ⟨y0, y1, t2, m3, m4, A3, c3, A4, c4, e, rfl, k0, k1, k2, k3, k4⟩ := open_Vault h
  simp only [List.cons.injEq, DC.i.injEq, DC.s.injEq, DC.l.injEq, and_true] at e
  obtain ⟨rfl, rfl, rfl, rfl, rfl⟩ := e
  exact ⟨A3, c3, A4, c4, rfl, k0, k1, k2, k3, k4⟩
theorem range_Vault {w : World} {b o : Nat} {v0 v1 v2 v3 v4 : Value} (h : w.rangeAt b o [v0, v1, v2, v3, v4]) : w.cell? ⟨b, o, none⟩ = some v0 ∧ w.cell? ⟨b, o + 1, none⟩ = some v1 ∧ w.cell? ⟨b, o + 2, none⟩ = some v2 ∧ w.cell? ⟨b, o + 3, none⟩ = some v3 ∧ w.cell? ⟨b, o + 4, none⟩ = some v4 :=
  ⟨h 0 _ rfl, h 1 _ rfl, h 2 _ rfl, h 3 _ rfl, h 4 _ rfl⟩
theorem openv_Guard {B : Nat → Prop} {n : Nat} {w : World} {x2 : Int} {l0 l1 : List (List DC)} {vs : List Value} (h : Cells B n w shGuard_ [.l l0, .l l1, .i x2] vs) : ∃ A0 c0 A1 c1, vs = [.slice A0 l0.length c0, .slice A1 l1.length c1, .int .i64 x2] ∧ Cell B n w (.l 10) (.l l0) (.slice A0 l0.length c0) ∧ Cell B n w (.l 0) (.l l1) (.slice A1 l1.length c1) ∧ R64 x2 := by
  obtain ⟨m0, m1, y2, A0, c0, A1, c1, e, rfl, k0, k1, k2⟩ := open_Guard h
  simp only [List.cons.injEq, DC.i.injEq, DC.s.injEq, DC.l.injEq, and_true] at e
  obtain ⟨rfl, rfl, rfl⟩ := e
  exact ⟨A0, c0, A1, c1, rfl, k0, k1, k2⟩
theorem range_Guard {w : World} {b o : Nat} {v0 v1 v2 : Value} (h : w.rangeAt b o [v0, v1, v2]) : w.cell? ⟨b, o, none⟩ = some v0 ∧ w.cell? ⟨b, o + 1, none⟩ = some v1 ∧ w.cell? ⟨b, o + 2, none⟩ = some v2 :=
  ⟨h 0 _ rfl, h 1 _ rfl, h 2 _ rfl⟩
theorem openv_AddrOut {B : Nat → Prop} {n : Nat} {w : World} {x3 x4 x6 : Int} {s1 s2 s5 : ByteArray} {l0 : List (List DC)} {vs : List Value} (h : Cells B n w shAddrOut_ [.l l0, .s s1, .s s2, .i x3, .i x4, .s s5, .i x6] vs) : ∃ A0 c0, vs = [.slice A0 l0.length c0, .string s1, .string s2, .int .i64 x3, .int .i64 x4, .string s5, .int .i64 x6] ∧ Cell B n w (.l 0) (.l l0) (.slice A0 l0.length c0) ∧ s1.size ≤ maxLen ∧ s2.size ≤ maxLen ∧ R64 x3 ∧ R64 x4 ∧ s5.size ≤ maxLen ∧ R64 x6 := by
  obtain ⟨m0, t1, t2, y3, y4, t5, y6, A0, c0, e, rfl, k0, k1, k2, k3, k4, k5, k6⟩ := open_AddrOut h
  simp only [List.cons.injEq, DC.i.injEq, DC.s.injEq, DC.l.injEq, and_true] at e
  obtain ⟨rfl, rfl, rfl, rfl, rfl, rfl, rfl⟩ := e
  exact ⟨A0, c0, rfl, k0, k1, k2, k3, k4, k5, k6⟩
theorem range_AddrOut {w : World} {b o : Nat} {v0 v1 v2 v3 v4 v5 v6 : Value} (h : w.rangeAt b o [v0, v1, v2, v3, v4, v5, v6]) : w.cell? ⟨b, o, none⟩ = some v0 ∧ w.cell? ⟨b, o + 1, none⟩ = some v1 ∧ w.cell? ⟨b, o + 2, none⟩ = some v2 ∧ w.cell? ⟨b, o + 3, none⟩ = some v3 ∧ w.cell? ⟨b, o + 4, none⟩ = some v4 ∧ w.cell? ⟨b, o + 5, none⟩ = some v5 ∧ w.cell? ⟨b, o + 6, none⟩ = some v6 :=
  ⟨h 0 _ rfl, h 1 _ rfl, h 2 _ rfl, h 3 _ rfl, h 4 _ rfl, h 5 _ rfl, h 6 _ rfl⟩
theorem openv_ExprOut {B : Nat → Prop} {n : Nat} {w : World} {x0 x1 x2 x7 x8 x12 : Int} {s3 s5 s6 s9 s10 : ByteArray} {l4 l11 : List (List DC)} {vs : List Value} (h : Cells B n w shExprOut_ [.i x0, .i x1, .i x2, .s s3, .l l4, .s s5, .s s6, .i x7, .i x8, .s s9, .s s10, .l l11, .i x12] vs) : ∃ A4 c4 A11 c11, vs = [.int .i64 x0, .int .i64 x1, .int .i64 x2, .string s3, .slice A4 l4.length c4, .string s5, .string s6, .int .i64 x7, .int .i64 x8, .string s9, .string s10, .slice A11 l11.length c11, .int .i64 x12] ∧ R64 x0 ∧ R64 x1 ∧ R64 x2 ∧ s3.size ≤ maxLen ∧ Cell B n w (.l 0) (.l l4) (.slice A4 l4.length c4) ∧ s5.size ≤ maxLen ∧ s6.size ≤ maxLen ∧ R64 x7 ∧ R64 x8 ∧ s9.size ≤ maxLen ∧ s10.size ≤ maxLen ∧ Cell B n w (.l 3) (.l l11) (.slice A11 l11.length c11) ∧ R64 x12 := by
  obtain ⟨y0, y1, y2, t3, m4, t5, t6, y7, y8, t9, t10, m11, y12, A4, c4, A11, c11, e, rfl, k0, k1, k2, k3, k4, k5, k6, k7, k8, k9, k10, k11, k12⟩ := open_ExprOut h
  simp only [List.cons.injEq, DC.i.injEq, DC.s.injEq, DC.l.injEq, and_true] at e
  obtain ⟨rfl, rfl, rfl, rfl, rfl, rfl, rfl, rfl, rfl, rfl, rfl, rfl, rfl⟩ := e
  exact ⟨A4, c4, A11, c11, rfl, k0, k1, k2, k3, k4, k5, k6, k7, k8, k9, k10, k11, k12⟩
theorem range_ExprOut {w : World} {b o : Nat} {v0 v1 v2 v3 v4 v5 v6 v7 v8 v9 v10 v11 v12 : Value} (h : w.rangeAt b o [v0, v1, v2, v3, v4, v5, v6, v7, v8, v9, v10, v11, v12]) : w.cell? ⟨b, o, none⟩ = some v0 ∧ w.cell? ⟨b, o + 1, none⟩ = some v1 ∧ w.cell? ⟨b, o + 2, none⟩ = some v2 ∧ w.cell? ⟨b, o + 3, none⟩ = some v3 ∧ w.cell? ⟨b, o + 4, none⟩ = some v4 ∧ w.cell? ⟨b, o + 5, none⟩ = some v5 ∧ w.cell? ⟨b, o + 6, none⟩ = some v6 ∧ w.cell? ⟨b, o + 7, none⟩ = some v7 ∧ w.cell? ⟨b, o + 8, none⟩ = some v8 ∧ w.cell? ⟨b, o + 9, none⟩ = some v9 ∧ w.cell? ⟨b, o + 10, none⟩ = some v10 ∧ w.cell? ⟨b, o + 11, none⟩ = some v11 ∧ w.cell? ⟨b, o + 12, none⟩ = some v12 :=
  ⟨h 0 _ rfl, h 1 _ rfl, h 2 _ rfl, h 3 _ rfl, h 4 _ rfl, h 5 _ rfl, h 6 _ rfl, h 7 _ rfl, h 8 _ rfl, h 9 _ rfl, h 10 _ rfl, h 11 _ rfl, h 12 _ rfl⟩
theorem openv_ConfigOut {B : Nat → Prop} {n : Nat} {w : World} {x2 : Int} {l0 l1 : List (List DC)} {vs : List Value} (h : Cells B n w shConfigOut_ [.l l0, .l l1, .i x2] vs) : ∃ A0 c0 A1 c1, vs = [.slice A0 l0.length c0, .slice A1 l1.length c1, .int .i64 x2] ∧ Cell B n w (.l 5) (.l l0) (.slice A0 l0.length c0) ∧ Cell B n w (.l 6) (.l l1) (.slice A1 l1.length c1) ∧ R64 x2 := by
  obtain ⟨m0, m1, y2, A0, c0, A1, c1, e, rfl, k0, k1, k2⟩ := open_ConfigOut h
  simp only [List.cons.injEq, DC.i.injEq, DC.s.injEq, DC.l.injEq, and_true] at e
  obtain ⟨rfl, rfl, rfl⟩ := e
  exact ⟨A0, c0, A1, c1, rfl, k0, k1, k2⟩
theorem range_ConfigOut {w : World} {b o : Nat} {v0 v1 v2 : Value} (h : w.rangeAt b o [v0, v1, v2]) : w.cell? ⟨b, o, none⟩ = some v0 ∧ w.cell? ⟨b, o + 1, none⟩ = some v1 ∧ w.cell? ⟨b, o + 2, none⟩ = some v2 :=
  ⟨h 0 _ rfl, h 1 _ rfl, h 2 _ rfl⟩
theorem openv_ExpandOut {B : Nat → Prop} {n : Nat} {w : World} {x2 : Int} {l0 l1 : List (List DC)} {vs : List Value} (h : Cells B n w shExpandOut_ [.l l0, .l l1, .i x2] vs) : ∃ A0 c0 A1 c1, vs = [.slice A0 l0.length c0, .slice A1 l1.length c1, .int .i64 x2] ∧ Cell B n w (.l 8) (.l l0) (.slice A0 l0.length c0) ∧ Cell B n w (.l 2) (.l l1) (.slice A1 l1.length c1) ∧ R64 x2 := by
  obtain ⟨m0, m1, y2, A0, c0, A1, c1, e, rfl, k0, k1, k2⟩ := open_ExpandOut h
  simp only [List.cons.injEq, DC.i.injEq, DC.s.injEq, DC.l.injEq, and_true] at e
  obtain ⟨rfl, rfl, rfl⟩ := e
  exact ⟨A0, c0, A1, c1, rfl, k0, k1, k2⟩
theorem range_ExpandOut {w : World} {b o : Nat} {v0 v1 v2 : Value} (h : w.rangeAt b o [v0, v1, v2]) : w.cell? ⟨b, o, none⟩ = some v0 ∧ w.cell? ⟨b, o + 1, none⟩ = some v1 ∧ w.cell? ⟨b, o + 2, none⟩ = some v2 :=
  ⟨h 0 _ rfl, h 1 _ rfl, h 2 _ rfl⟩
theorem openv_BookOut {B : Nat → Prop} {n : Nat} {w : World} {x1 : Int} {l0 : List (List DC)} {vs : List Value} (h : Cells B n w shBookOut_ [.l l0, .i x1] vs) : ∃ A0 c0, vs = [.slice A0 l0.length c0, .int .i64 x1] ∧ Cell B n w (.l 8) (.l l0) (.slice A0 l0.length c0) ∧ R64 x1 := by
  obtain ⟨m0, y1, A0, c0, e, rfl, k0, k1⟩ := open_BookOut h
  simp only [List.cons.injEq, DC.i.injEq, DC.s.injEq, DC.l.injEq, and_true] at e
  obtain ⟨rfl, rfl⟩ := e
  exact ⟨A0, c0, rfl, k0, k1⟩
theorem range_BookOut {w : World} {b o : Nat} {v0 v1 : Value} (h : w.rangeAt b o [v0, v1]) : w.cell? ⟨b, o, none⟩ = some v0 ∧ w.cell? ⟨b, o + 1, none⟩ = some v1 :=
  ⟨h 0 _ rfl, h 1 _ rfl⟩
theorem openv_RewriteOut {B : Nat → Prop} {n : Nat} {w : World} {x3 : Int} {l0 l1 l2 : List (List DC)} {vs : List Value} (h : Cells B n w shRewriteOut_ [.l l0, .l l1, .l l2, .i x3] vs) : ∃ A0 c0 A1 c1 A2 c2, vs = [.slice A0 l0.length c0, .slice A1 l1.length c1, .slice A2 l2.length c2, .int .i64 x3] ∧ Cell B n w (.l 8) (.l l0) (.slice A0 l0.length c0) ∧ Cell B n w (.l 2) (.l l1) (.slice A1 l1.length c1) ∧ Cell B n w (.l 2) (.l l2) (.slice A2 l2.length c2) ∧ R64 x3 := by
  obtain ⟨m0, m1, m2, y3, A0, c0, A1, c1, A2, c2, e, rfl, k0, k1, k2, k3⟩ := open_RewriteOut h
  simp only [List.cons.injEq, DC.i.injEq, DC.s.injEq, DC.l.injEq, and_true] at e
  obtain ⟨rfl, rfl, rfl, rfl⟩ := e
  exact ⟨A0, c0, A1, c1, A2, c2, rfl, k0, k1, k2, k3⟩
theorem range_RewriteOut {w : World} {b o : Nat} {v0 v1 v2 v3 : Value} (h : w.rangeAt b o [v0, v1, v2, v3]) : w.cell? ⟨b, o, none⟩ = some v0 ∧ w.cell? ⟨b, o + 1, none⟩ = some v1 ∧ w.cell? ⟨b, o + 2, none⟩ = some v2 ∧ w.cell? ⟨b, o + 3, none⟩ = some v3 :=
  ⟨h 0 _ rfl, h 1 _ rfl, h 2 _ rfl, h 3 _ rfl⟩
theorem openv_ApplyOut {B : Nat → Prop} {n : Nat} {w : World} {x3 : Int} {l0 l1 l2 : List (List DC)} {vs : List Value} (h : Cells B n w shApplyOut_ [.l l0, .l l1, .l l2, .i x3] vs) : ∃ A0 c0 A1 c1 A2 c2, vs = [.slice A0 l0.length c0, .slice A1 l1.length c1, .slice A2 l2.length c2, .int .i64 x3] ∧ Cell B n w (.l 8) (.l l0) (.slice A0 l0.length c0) ∧ Cell B n w (.l 2) (.l l1) (.slice A1 l1.length c1) ∧ Cell B n w (.l 2) (.l l2) (.slice A2 l2.length c2) ∧ R64 x3 := by
  obtain ⟨m0, m1, m2, y3, A0, c0, A1, c1, A2, c2, e, rfl, k0, k1, k2, k3⟩ := open_ApplyOut h
  simp only [List.cons.injEq, DC.i.injEq, DC.s.injEq, DC.l.injEq, and_true] at e
  obtain ⟨rfl, rfl, rfl, rfl⟩ := e
  exact ⟨A0, c0, A1, c1, A2, c2, rfl, k0, k1, k2, k3⟩
theorem range_ApplyOut {w : World} {b o : Nat} {v0 v1 v2 v3 : Value} (h : w.rangeAt b o [v0, v1, v2, v3]) : w.cell? ⟨b, o, none⟩ = some v0 ∧ w.cell? ⟨b, o + 1, none⟩ = some v1 ∧ w.cell? ⟨b, o + 2, none⟩ = some v2 ∧ w.cell? ⟨b, o + 3, none⟩ = some v3 :=
  ⟨h 0 _ rfl, h 1 _ rfl, h 2 _ rfl, h 3 _ rfl⟩
theorem openv_VaultOut {B : Nat → Prop} {n : Nat} {w : World} {x0 x1 x5 : Int} {s2 : ByteArray} {l3 l4 : List (List DC)} {vs : List Value} (h : Cells B n w shVaultOut_ [.i x0, .i x1, .s s2, .l l3, .l l4, .i x5] vs) : ∃ A3 c3 A4 c4, vs = [.int .i64 x0, .int .i64 x1, .string s2, .slice A3 l3.length c3, .slice A4 l4.length c4, .int .i64 x5] ∧ R64 x0 ∧ R64 x1 ∧ s2.size ≤ maxLen ∧ Cell B n w (.l 8) (.l l3) (.slice A3 l3.length c3) ∧ Cell B n w (.l 1) (.l l4) (.slice A4 l4.length c4) ∧ R64 x5 := by
  obtain ⟨y0, y1, t2, m3, m4, y5, A3, c3, A4, c4, e, rfl, k0, k1, k2, k3, k4, k5⟩ := open_VaultOut h
  simp only [List.cons.injEq, DC.i.injEq, DC.s.injEq, DC.l.injEq, and_true] at e
  obtain ⟨rfl, rfl, rfl, rfl, rfl, rfl⟩ := e
  exact ⟨A3, c3, A4, c4, rfl, k0, k1, k2, k3, k4, k5⟩
theorem range_VaultOut {w : World} {b o : Nat} {v0 v1 v2 v3 v4 v5 : Value} (h : w.rangeAt b o [v0, v1, v2, v3, v4, v5]) : w.cell? ⟨b, o, none⟩ = some v0 ∧ w.cell? ⟨b, o + 1, none⟩ = some v1 ∧ w.cell? ⟨b, o + 2, none⟩ = some v2 ∧ w.cell? ⟨b, o + 3, none⟩ = some v3 ∧ w.cell? ⟨b, o + 4, none⟩ = some v4 ∧ w.cell? ⟨b, o + 5, none⟩ = some v5 :=
  ⟨h 0 _ rfl, h 1 _ rfl, h 2 _ rfl, h 3 _ rfl, h 4 _ rfl, h 5 _ rfl⟩
def EqStringS (n : Nat) : Prop := ∀ (B B' : Nat → Prop) (d : DC) (v u : Value) (w : World), Cell B n w (.l 0) d v → Cell B' n w (.l 0) d u →
    Calls Tryz.prog 61 #[v, u] w (Told w (.bool true))
def EqAddr (n : Nat) : Prop := ∀ (B B' : Nat → Prop) (ds : List DC) (vs us : List Value) (w : World), Cells B n w shAddr_ ds vs → Cells B' n w shAddr_ ds us →
    Calls Tryz.prog 33 #[.agg vs.toArray, .agg us.toArray] w (Told w (.bool true))
def EqValue (n : Nat) : Prop := ∀ (B B' : Nat → Prop) (ds : List DC) (vs us : List Value) (w : World), Cells B n w shValue_ ds vs → Cells B' n w shValue_ ds us →
    Calls Tryz.prog 97 #[.agg vs.toArray, .agg us.toArray] w (Told w (.bool true))
def EqAddrS (n : Nat) : Prop := ∀ (B B' : Nat → Prop) (d : DC) (v u : Value) (w : World), Cell B n w (.l 2) d v → Cell B' n w (.l 2) d u →
    Calls Tryz.prog 35 #[v, u] w (Told w (.bool true))
def EqPair (n : Nat) : Prop := ∀ (B B' : Nat → Prop) (ds : List DC) (vs us : List Value) (w : World), Cells B n w shPair_ ds vs → Cells B' n w shPair_ ds us →
    Calls Tryz.prog 62 #[.agg vs.toArray, .agg us.toArray] w (Told w (.bool true))
def EqPairS (n : Nat) : Prop := ∀ (B B' : Nat → Prop) (d : DC) (v u : Value) (w : World), Cell B n w (.l 7) d v → Cell B' n w (.l 7) d u →
    Calls Tryz.prog 34 #[v, u] w (Told w (.bool true))
def EqThing (n : Nat) : Prop := ∀ (B B' : Nat → Prop) (ds : List DC) (vs us : List Value) (w : World), Cells B n w shThing_ ds vs → Cells B' n w shThing_ ds us →
    Calls Tryz.prog 12 #[.agg vs.toArray, .agg us.toArray] w (Told w (.bool true))
def EqThingS (n : Nat) : Prop := ∀ (B B' : Nat → Prop) (d : DC) (v u : Value) (w : World), Cell B n w (.l 8) d v → Cell B' n w (.l 8) d u →
    Calls Tryz.prog 11 #[v, u] w (Told w (.bool true))
def EqBookOut (n : Nat) : Prop := ∀ (B B' : Nat → Prop) (ds : List DC) (vs us : List Value) (w : World), Cells B n w shBookOut_ ds vs → Cells B' n w shBookOut_ ds us →
    Calls Tryz.prog 10 #[.agg vs.toArray, .agg us.toArray] w (Told w (.bool true))
set_option maxHeartbeats 4000000 in
theorem eqStringS_of {n : Nat} : EqStringS n := fun B B' d v u w h h' => by
  obtain ⟨xs, A, c, rfl, rfl, hl⟩ := h.lst
  obtain ⟨ys, A', c', ey, rfl, _⟩ := h'.lst
  injection ey with ey
  subst ey
  have H := Lib.hid h
  have H' := Lib.hid h'
  unfold maxLen at hl
  clear h h'
  go_enter Tryz.func61, Tryz.ntmps61
  go_wp2
  go_loopw [5] (fun i wr => ∃ k : Nat, k ≤ xs.length ∧ i = .int .i64 k ∧ Below w.heap.size w wr) (fun i _ => xs.length - (intOf i).toNat)
  case atStart => exact ⟨0, Nat.zero_le _, rfl, Below.refl _ _⟩
  case round =>
    obtain ⟨k, hk, rfl, hb⟩ := hrel
    have HB := Lib.hid hb
    clear hb
    by_cases hlt : k < xs.length
    · obtain ⟨m, b, o, us, hm, rfl, _, hbl, hr, hin⟩ := (H.out.below HB.out).item k hlt
      obtain ⟨m', b', o', us', hm', rfl, _, hbl', hr', hin'⟩ := (H'.out.below HB.out).item k hlt
      obtain rfl : m = m' := by omega
      obtain ⟨d0, ds0, v0, vs0, ed, rfl, h1, h2⟩ := All3.cons hin
      obtain ⟨rfl, rfl⟩ := All3.nil h2
      rw [ed] at hin'
      obtain ⟨d1, ds1, v1, vs1, ed1, rfl, h3, h4⟩ := All3.cons hin'
      obtain ⟨rfl, rfl⟩ := All3.nil h4
      injection ed1 with ed1
      subst ed1
      obtain ⟨s, rfl, rfl, hs⟩ := h1.str
      obtain ⟨s', es, rfl, _⟩ := h3.str
      injection es with es
      subst es
      have hc : wr.cell? ⟨b, o + k, none⟩ = some (.string s) := by have := hr 0 _ rfl; simpa [sh] using this
      have hc' : wr.cell? ⟨b', o' + k, none⟩ = some (.string s) := by have := hr' 0 _ rfl; simpa [sh] using this
      clear hr hr' hin hin' h1 h2 h3 h4 ed hs
      go_wp2
      go_quiet (fail)
      go_wp2
      go_roundw
      case rel => exact ⟨k + 1, hlt, by go_num, below_dn HB.out _⟩
      case measure => simp [intOf]; omega
    · obtain rfl : k = xs.length := by omega
      go_wp2
      go_ret
      exact ⟨rfl, HB.out⟩
theorem eqStringS_all (n : Nat) : EqStringS n := eqStringS_of
set_option maxHeartbeats 4000000 in
theorem eqAddr_of {n : Nat} (KStringS : EqStringS n) : EqAddr n := fun B B' ds vs us w h h' => by
  obtain ⟨l0, s1, s2, x3, x4, s5, A0, c0, rfl, rfl, k0, k1, k2, k3, k4, k5⟩ := open_Addr h
  obtain ⟨A'0, c'0, rfl, j0, j1, j2, j3, j4, j5⟩ := openv_Addr h'
  have H0 := Lib.hid k0
  have J0 := Lib.hid j0
  have H1 := Lib.hid k1
  have H2 := Lib.hid k2
  have H3 := Lib.hid k3
  have H4 := Lib.hid k4
  have H5 := Lib.hid k5
  have HKStringS := Lib.hid KStringS
  clear h h' k0 j0 k1 j1 k2 j2 k3 j3 k4 j4 k5 j5 KStringS
  go_enter Tryz.func33, Tryz.ntmps33
  go_wp2_with fail
  refine (HKStringS.out B B' (.l l0) (.slice A0 l0.length c0) (.slice A'0 l0.length c'0) _ (H0.out.below (below_a2 _ _ _)) (J0.out.below (below_a2 _ _ _))).mono ?_
  rintro _ w1 ⟨rfl, hb⟩
  have E1 := Lib.hid (below_then (below_a2 _ _ _) hb (Nat.le_refl _))
  have P1 := Lib.hid (((Blk.new w _ _).alloc _).step hb)
  have R1 := Lib.hid ((Blk.new1 w _ _ _).step hb)
  have p1 := P1.out.cell
  have r1 := R1.out.cell
  clear hb
  go_wp2
  go_ret
  exact ⟨rfl, E1.out⟩
theorem eqAddr_all (n : Nat) : EqAddr n := eqAddr_of (eqStringS_all n)
set_option maxHeartbeats 4000000 in
theorem eqValue_of {n : Nat} : EqValue n := fun B B' ds vs us w h h' => by
  obtain ⟨x0, x1, s2, rfl, rfl, k0, k1, k2⟩ := open_Value h
  obtain ⟨rfl, j0, j1, j2⟩ := openv_Value h'
  have H0 := Lib.hid k0
  have H1 := Lib.hid k1
  have H2 := Lib.hid k2
  clear h h' k0 j0 k1 j1 k2 j2
  go_enter Tryz.func97, Tryz.ntmps97
  go_wp2
  go_ret
  exact ⟨rfl, (below_a2 _ _ _)⟩
theorem eqValue_all (n : Nat) : EqValue n := eqValue_of
set_option maxHeartbeats 4000000 in
theorem eqAddrS_of {n : Nat} (K : ∀ m, m < n → EqAddr m) : EqAddrS n := fun B B' d v u w h h' => by
  obtain ⟨xs, A, c, rfl, rfl, hl⟩ := h.lst
  obtain ⟨ys, A', c', ey, rfl, _⟩ := h'.lst
  injection ey with ey
  subst ey
  have H := Lib.hid h
  have H' := Lib.hid h'
  unfold maxLen at hl
  have HK := Lib.hid K
  clear h h' K
  go_enter Tryz.func35, Tryz.ntmps35
  go_wp2
  go_loopw [5] (fun i wr => ∃ k : Nat, k ≤ xs.length ∧ i = .int .i64 k ∧ Below w.heap.size w wr) (fun i _ => xs.length - (intOf i).toNat)
  case atStart => exact ⟨0, Nat.zero_le _, rfl, Below.refl _ _⟩
  case round =>
    obtain ⟨k, hk, rfl, hb⟩ := hrel
    have HB := Lib.hid hb
    clear hb
    by_cases hlt : k < xs.length
    · obtain ⟨m, b, o, us, hm, rfl, _, hbl, hr, hin⟩ := (H.out.below HB.out).item k hlt
      obtain ⟨m', b', o', us', hm', rfl, _, hbl', hr', hin'⟩ := (H'.out.below HB.out).item k hlt
      obtain rfl : m = m' := by omega
      replace hr : wr.rangeAt b (o + k * 6) us := hr
      replace hr' : wr.rangeAt b' (o' + k * 6) us' := hr'
      obtain ⟨l0, s1, s2, x3, x4, s5, A0, c0, ed, rfl, k0, k1, k2, k3, k4, k5⟩ := open_Addr hin
      rw [ed] at hin hin'
      obtain ⟨A'0, c'0, rfl, j0, j1, j2, j3, j4, j5⟩ := openv_Addr hin'
      have HR := Lib.hid hr
      have HR' := Lib.hid hr'
      have HIN := Lib.hid hin
      have HIN' := Lib.hid hin'
      obtain ⟨r0, r1, r2, r3, r4, r5⟩ := range_Addr hr
      obtain ⟨t0, t1, t2, t3, t4, t5⟩ := range_Addr hr'
      have hkI : (k : Int) < xs.length := by omega
      have hk0 : (0 : Int) ≤ k := by omega
      have KE := fun (W : World) (hW : Below wr.heap.size wr W) => Lib.hid (HK.out m (by omega) B B' [.l l0, .s s1, .s s2, .i x3, .i x4, .s s5] [.slice A0 l0.length c0, .string s1, .string s2, .int .i64 x3, .int .i64 x4, .string s5] [.slice A'0 l0.length c'0, .string s1, .string s2, .int .i64 x3, .int .i64 x4, .string s5] W (HIN.out.below hW) (HIN'.out.below hW))
      clear hin hin' hr hr' ed k0 j0 k1 j1 k2 j2 k3 j3 k4 j4 k5 j5
      go_wp2_with fail
      go_region_held3 (fun w' => w'.cell? ⟨b, o + k * 6, none⟩ = some (.slice A0 l0.length c0) ∧ w'.cell? ⟨b, o + k * 6 + 1, none⟩ = some (.string s1) ∧ w'.cell? ⟨b, o + k * 6 + 2, none⟩ = some (.string s2) ∧ w'.cell? ⟨b, o + k * 6 + 3, none⟩ = some (.int .i64 x3) ∧ w'.cell? ⟨b, o + k * 6 + 4, none⟩ = some (.int .i64 x4) ∧ w'.cell? ⟨b, o + k * 6 + 5, none⟩ = some (.string s5) ∧ w'.cell? ⟨b', o' + k * 6, none⟩ = some (.slice A'0 l0.length c'0) ∧ w'.cell? ⟨b', o' + k * 6 + 1, none⟩ = some (.string s1) ∧ w'.cell? ⟨b', o' + k * 6 + 2, none⟩ = some (.string s2) ∧ w'.cell? ⟨b', o' + k * 6 + 3, none⟩ = some (.int .i64 x3) ∧ w'.cell? ⟨b', o' + k * 6 + 4, none⟩ = some (.int .i64 x4) ∧ w'.cell? ⟨b', o' + k * 6 + 5, none⟩ = some (.string s5)) (go_keep)
        (first
        | (go_at_call 33; refine (KE _ ?_).out.mono ?_; exact below_d wr _; rintro _ w2 ⟨rfl, hb⟩; have hbb := below_then (below_d wr _) hb (Nat.le_refl _); have E2 := Lib.hid (below_then HB.out hbb (Nat.le_refl _)); have q1 := range_Addr (range_same HR.out (hbb.block b hbl)); have q2 := range_Addr (range_same HR'.out (hbb.block b' hbl')); clear hb hbb))
      clear KE
      go_wp2
      go_roundw
      case rel => exact ⟨k + 1, hlt, by go_num, E2.out⟩
      case measure => simp [intOf]; omega
    · obtain rfl : k = xs.length := by omega
      go_wp2
      go_ret
      exact ⟨rfl, HB.out⟩
theorem eqAddrS_all (n : Nat) : EqAddrS n := eqAddrS_of (fun m _ => eqAddr_all m)
set_option maxHeartbeats 4000000 in
theorem eqPair_of {n : Nat} (KValue : EqValue n) : EqPair n := fun B B' ds vs us w h h' => by
  obtain ⟨s0, x1, x2, s3, rfl, rfl, k0, k1, k2, k3⟩ := open_Pair h
  obtain ⟨rfl, j0, j1, j2, j3⟩ := openv_Pair h'
  have H0 := Lib.hid k0
  have H1 := Lib.hid k1
  have H2 := Lib.hid k2
  have H3 := Lib.hid k3
  have HKValue := Lib.hid KValue
  clear h h' k0 j0 k1 j1 k2 j2 k3 j3 KValue
  go_enter Tryz.func62, Tryz.ntmps62
  go_wp2_with fail
  refine (HKValue.out B B' [.i x1, .i x2, .s s3] [.int .i64 x1, .int .i64 x2, .string s3] [.int .i64 x1, .int .i64 x2, .string s3] _ ⟨Cell.mkI H1.out, Cell.mkI H2.out, Cell.mkS H3.out, trivial⟩ ⟨Cell.mkI H1.out, Cell.mkI H2.out, Cell.mkS H3.out, trivial⟩).mono ?_
  rintro _ w1 ⟨rfl, hb⟩
  have E1 := Lib.hid (below_then (below_a2 _ _ _) hb (Nat.le_refl _))
  have P1 := Lib.hid (((Blk.new w _ _).alloc _).step hb)
  have R1 := Lib.hid ((Blk.new1 w _ _ _).step hb)
  have p1 := P1.out.cell
  have r1 := R1.out.cell
  clear hb
  go_wp2
  go_ret
  exact ⟨rfl, E1.out⟩
theorem eqPair_all (n : Nat) : EqPair n := eqPair_of (eqValue_all n)
set_option maxHeartbeats 4000000 in
theorem eqPairS_of {n : Nat} (K : ∀ m, m < n → EqPair m) : EqPairS n := fun B B' d v u w h h' => by
  obtain ⟨xs, A, c, rfl, rfl, hl⟩ := h.lst
  obtain ⟨ys, A', c', ey, rfl, _⟩ := h'.lst
  injection ey with ey
  subst ey
  have H := Lib.hid h
  have H' := Lib.hid h'
  unfold maxLen at hl
  have HK := Lib.hid K
  clear h h' K
  go_enter Tryz.func34, Tryz.ntmps34
  go_wp2
  go_loopw [5] (fun i wr => ∃ k : Nat, k ≤ xs.length ∧ i = .int .i64 k ∧ Below w.heap.size w wr) (fun i _ => xs.length - (intOf i).toNat)
  case atStart => exact ⟨0, Nat.zero_le _, rfl, Below.refl _ _⟩
  case round =>
    obtain ⟨k, hk, rfl, hb⟩ := hrel
    have HB := Lib.hid hb
    clear hb
    by_cases hlt : k < xs.length
    · obtain ⟨m, b, o, us, hm, rfl, _, hbl, hr, hin⟩ := (H.out.below HB.out).item k hlt
      obtain ⟨m', b', o', us', hm', rfl, _, hbl', hr', hin'⟩ := (H'.out.below HB.out).item k hlt
      obtain rfl : m = m' := by omega
      replace hr : wr.rangeAt b (o + k * 4) us := hr
      replace hr' : wr.rangeAt b' (o' + k * 4) us' := hr'
      obtain ⟨s0, x1, x2, s3, ed, rfl, k0, k1, k2, k3⟩ := open_Pair hin
      rw [ed] at hin hin'
      obtain ⟨rfl, j0, j1, j2, j3⟩ := openv_Pair hin'
      have HR := Lib.hid hr
      have HR' := Lib.hid hr'
      have HIN := Lib.hid hin
      have HIN' := Lib.hid hin'
      obtain ⟨r0, r1, r2, r3⟩ := range_Pair hr
      obtain ⟨t0, t1, t2, t3⟩ := range_Pair hr'
      have hkI : (k : Int) < xs.length := by omega
      have hk0 : (0 : Int) ≤ k := by omega
      have KE := fun (W : World) (hW : Below wr.heap.size wr W) => Lib.hid (HK.out m (by omega) B B' [.s s0, .i x1, .i x2, .s s3] [.string s0, .int .i64 x1, .int .i64 x2, .string s3] [.string s0, .int .i64 x1, .int .i64 x2, .string s3] W (HIN.out.below hW) (HIN'.out.below hW))
      clear hin hin' hr hr' ed k0 j0 k1 j1 k2 j2 k3 j3
      go_wp2_with fail
      go_region_held3 (fun w' => w'.cell? ⟨b, o + k * 4, none⟩ = some (.string s0) ∧ w'.cell? ⟨b, o + k * 4 + 1, none⟩ = some (.int .i64 x1) ∧ w'.cell? ⟨b, o + k * 4 + 2, none⟩ = some (.int .i64 x2) ∧ w'.cell? ⟨b, o + k * 4 + 3, none⟩ = some (.string s3) ∧ w'.cell? ⟨b', o' + k * 4, none⟩ = some (.string s0) ∧ w'.cell? ⟨b', o' + k * 4 + 1, none⟩ = some (.int .i64 x1) ∧ w'.cell? ⟨b', o' + k * 4 + 2, none⟩ = some (.int .i64 x2) ∧ w'.cell? ⟨b', o' + k * 4 + 3, none⟩ = some (.string s3)) (go_keep)
        (first
        | (go_at_call 62; refine (KE _ ?_).out.mono ?_; exact below_d wr _; rintro _ w2 ⟨rfl, hb⟩; have hbb := below_then (below_d wr _) hb (Nat.le_refl _); have E2 := Lib.hid (below_then HB.out hbb (Nat.le_refl _)); have q1 := range_Pair (range_same HR.out (hbb.block b hbl)); have q2 := range_Pair (range_same HR'.out (hbb.block b' hbl')); clear hb hbb))
      clear KE
      go_wp2
      go_roundw
      case rel => exact ⟨k + 1, hlt, by go_num, E2.out⟩
      case measure => simp [intOf]; omega
    · obtain rfl : k = xs.length := by omega
      go_wp2
      go_ret
      exact ⟨rfl, HB.out⟩
theorem eqPairS_all (n : Nat) : EqPairS n := eqPairS_of (fun m _ => eqPair_all m)
set_option maxHeartbeats 4000000 in
theorem eqThing_of {n : Nat} (KAddr : EqAddr n) (KAddrS : EqAddrS n) (KPairS : EqPairS n) : EqThing n := fun B B' ds vs us w h h' => by
  obtain ⟨l0, s1, s2, x3, x4, s5, l6, l7, A0, c0, A6, c6, A7, c7, rfl, rfl, k0, k1, k2, k3, k4, k5, k6, k7⟩ := open_Thing h
  obtain ⟨A'0, c'0, A'6, c'6, A'7, c'7, rfl, j0, j1, j2, j3, j4, j5, j6, j7⟩ := openv_Thing h'
  have H0 := Lib.hid k0
  have J0 := Lib.hid j0
  have H1 := Lib.hid k1
  have H2 := Lib.hid k2
  have H3 := Lib.hid k3
  have H4 := Lib.hid k4
  have H5 := Lib.hid k5
  have H6 := Lib.hid k6
  have J6 := Lib.hid j6
  have H7 := Lib.hid k7
  have J7 := Lib.hid j7
  have HKAddr := Lib.hid KAddr
  have HKAddrS := Lib.hid KAddrS
  have HKPairS := Lib.hid KPairS
  clear h h' k0 j0 k1 j1 k2 j2 k3 j3 k4 j4 k5 j5 k6 j6 k7 j7 KAddr KAddrS KPairS
  go_enter Tryz.func12, Tryz.ntmps12
  go_wp2_with fail
  refine (HKAddr.out B B' [.l l0, .s s1, .s s2, .i x3, .i x4, .s s5] [.slice A0 l0.length c0, .string s1, .string s2, .int .i64 x3, .int .i64 x4, .string s5] [.slice A'0 l0.length c'0, .string s1, .string s2, .int .i64 x3, .int .i64 x4, .string s5] _ ⟨H0.out.below (below_a2 _ _ _), Cell.mkS H1.out, Cell.mkS H2.out, Cell.mkI H3.out, Cell.mkI H4.out, Cell.mkS H5.out, trivial⟩ ⟨J0.out.below (below_a2 _ _ _), Cell.mkS H1.out, Cell.mkS H2.out, Cell.mkI H3.out, Cell.mkI H4.out, Cell.mkS H5.out, trivial⟩).mono ?_
  rintro _ w1 ⟨rfl, hb⟩
  have E1 := Lib.hid (below_then (below_a2 _ _ _) hb (Nat.le_refl _))
  have P1 := Lib.hid (((Blk.new w _ _).alloc _).step hb)
  have R1 := Lib.hid ((Blk.new1 w _ _ _).step hb)
  have p1 := P1.out.cell
  have r1 := R1.out.cell
  clear hb
  go_wp2_with fail
  refine (HKPairS.out B B' (.l l6) (.slice A6 l6.length c6) (.slice A'6 l6.length c'6) _ (H6.out.below E1.out) (J6.out.below E1.out)).mono ?_
  rintro _ w2 ⟨rfl, hb⟩
  have E2 := Lib.hid (below_then E1.out hb (Nat.le_refl _))
  have P2 := Lib.hid (P1.out.step hb)
  have R2 := Lib.hid (R1.out.step hb)
  have p2 := P2.out.cell
  have r2 := R2.out.cell
  clear hb p1 r1 P1 R1 E1
  go_wp2_with fail
  refine (HKAddrS.out B B' (.l l7) (.slice A7 l7.length c7) (.slice A'7 l7.length c'7) _ (H7.out.below E2.out) (J7.out.below E2.out)).mono ?_
  rintro _ w3 ⟨rfl, hb⟩
  have E3 := Lib.hid (below_then E2.out hb (Nat.le_refl _))
  have P3 := Lib.hid (P2.out.step hb)
  have R3 := Lib.hid (R2.out.step hb)
  have p3 := P3.out.cell
  have r3 := R3.out.cell
  clear hb p2 r2 P2 R2 E2
  go_wp2
  go_ret
  exact ⟨rfl, E3.out⟩
theorem eqThing_all (n : Nat) : EqThing n := eqThing_of (eqAddr_all n) (eqAddrS_all n) (eqPairS_all n)
set_option maxHeartbeats 4000000 in
theorem eqThingS_of {n : Nat} (K : ∀ m, m < n → EqThing m) : EqThingS n := fun B B' d v u w h h' => by
  obtain ⟨xs, A, c, rfl, rfl, hl⟩ := h.lst
  obtain ⟨ys, A', c', ey, rfl, _⟩ := h'.lst
  injection ey with ey
  subst ey
  have H := Lib.hid h
  have H' := Lib.hid h'
  unfold maxLen at hl
  have HK := Lib.hid K
  clear h h' K
  go_enter Tryz.func11, Tryz.ntmps11
  go_wp2
  go_loopw [5] (fun i wr => ∃ k : Nat, k ≤ xs.length ∧ i = .int .i64 k ∧ Below w.heap.size w wr) (fun i _ => xs.length - (intOf i).toNat)
  case atStart => exact ⟨0, Nat.zero_le _, rfl, Below.refl _ _⟩
  case round =>
    obtain ⟨k, hk, rfl, hb⟩ := hrel
    have HB := Lib.hid hb
    clear hb
    by_cases hlt : k < xs.length
    · obtain ⟨m, b, o, us, hm, rfl, _, hbl, hr, hin⟩ := (H.out.below HB.out).item k hlt
      obtain ⟨m', b', o', us', hm', rfl, _, hbl', hr', hin'⟩ := (H'.out.below HB.out).item k hlt
      obtain rfl : m = m' := by omega
      replace hr : wr.rangeAt b (o + k * 8) us := hr
      replace hr' : wr.rangeAt b' (o' + k * 8) us' := hr'
      obtain ⟨l0, s1, s2, x3, x4, s5, l6, l7, A0, c0, A6, c6, A7, c7, ed, rfl, k0, k1, k2, k3, k4, k5, k6, k7⟩ := open_Thing hin
      rw [ed] at hin hin'
      obtain ⟨A'0, c'0, A'6, c'6, A'7, c'7, rfl, j0, j1, j2, j3, j4, j5, j6, j7⟩ := openv_Thing hin'
      have HR := Lib.hid hr
      have HR' := Lib.hid hr'
      have HIN := Lib.hid hin
      have HIN' := Lib.hid hin'
      obtain ⟨r0, r1, r2, r3, r4, r5, r6, r7⟩ := range_Thing hr
      obtain ⟨t0, t1, t2, t3, t4, t5, t6, t7⟩ := range_Thing hr'
      have hkI : (k : Int) < xs.length := by omega
      have hk0 : (0 : Int) ≤ k := by omega
      have KE := fun (W : World) (hW : Below wr.heap.size wr W) => Lib.hid (HK.out m (by omega) B B' [.l l0, .s s1, .s s2, .i x3, .i x4, .s s5, .l l6, .l l7] [.slice A0 l0.length c0, .string s1, .string s2, .int .i64 x3, .int .i64 x4, .string s5, .slice A6 l6.length c6, .slice A7 l7.length c7] [.slice A'0 l0.length c'0, .string s1, .string s2, .int .i64 x3, .int .i64 x4, .string s5, .slice A'6 l6.length c'6, .slice A'7 l7.length c'7] W (HIN.out.below hW) (HIN'.out.below hW))
      clear hin hin' hr hr' ed k0 j0 k1 j1 k2 j2 k3 j3 k4 j4 k5 j5 k6 j6 k7 j7
      go_wp2_with fail
      go_region_held3 (fun w' => w'.cell? ⟨b, o + k * 8, none⟩ = some (.slice A0 l0.length c0) ∧ w'.cell? ⟨b, o + k * 8 + 1, none⟩ = some (.string s1) ∧ w'.cell? ⟨b, o + k * 8 + 2, none⟩ = some (.string s2) ∧ w'.cell? ⟨b, o + k * 8 + 3, none⟩ = some (.int .i64 x3) ∧ w'.cell? ⟨b, o + k * 8 + 4, none⟩ = some (.int .i64 x4) ∧ w'.cell? ⟨b, o + k * 8 + 5, none⟩ = some (.string s5) ∧ w'.cell? ⟨b, o + k * 8 + 6, none⟩ = some (.slice A6 l6.length c6) ∧ w'.cell? ⟨b, o + k * 8 + 7, none⟩ = some (.slice A7 l7.length c7) ∧ w'.cell? ⟨b', o' + k * 8, none⟩ = some (.slice A'0 l0.length c'0) ∧ w'.cell? ⟨b', o' + k * 8 + 1, none⟩ = some (.string s1) ∧ w'.cell? ⟨b', o' + k * 8 + 2, none⟩ = some (.string s2) ∧ w'.cell? ⟨b', o' + k * 8 + 3, none⟩ = some (.int .i64 x3) ∧ w'.cell? ⟨b', o' + k * 8 + 4, none⟩ = some (.int .i64 x4) ∧ w'.cell? ⟨b', o' + k * 8 + 5, none⟩ = some (.string s5) ∧ w'.cell? ⟨b', o' + k * 8 + 6, none⟩ = some (.slice A'6 l6.length c'6) ∧ w'.cell? ⟨b', o' + k * 8 + 7, none⟩ = some (.slice A'7 l7.length c'7)) (go_keep)
        (first
        | (go_at_call 12; refine (KE _ ?_).out.mono ?_; exact below_d wr _; rintro _ w2 ⟨rfl, hb⟩; have hbb := below_then (below_d wr _) hb (Nat.le_refl _); have E2 := Lib.hid (below_then HB.out hbb (Nat.le_refl _)); have q1 := range_Thing (range_same HR.out (hbb.block b hbl)); have q2 := range_Thing (range_same HR'.out (hbb.block b' hbl')); clear hb hbb))
      clear KE
      go_wp2
      go_roundw
      case rel => exact ⟨k + 1, hlt, by go_num, E2.out⟩
      case measure => simp [intOf]; omega
    · obtain rfl : k = xs.length := by omega
      go_wp2
      go_ret
      exact ⟨rfl, HB.out⟩
theorem eqThingS_all (n : Nat) : EqThingS n := eqThingS_of (fun m _ => eqThing_all m)
set_option maxHeartbeats 4000000 in
theorem eqBookOut_of {n : Nat} (KThingS : EqThingS n) : EqBookOut n := fun B B' ds vs us w h h' => by
  obtain ⟨l0, x1, A0, c0, rfl, rfl, k0, k1⟩ := open_BookOut h
  obtain ⟨A'0, c'0, rfl, j0, j1⟩ := openv_BookOut h'
  have H0 := Lib.hid k0
  have J0 := Lib.hid j0
  have H1 := Lib.hid k1
  have HKThingS := Lib.hid KThingS
  clear h h' k0 j0 k1 j1 KThingS
  go_enter Tryz.func10, Tryz.ntmps10
  go_wp2_with fail
  refine (HKThingS.out B B' (.l l0) (.slice A0 l0.length c0) (.slice A'0 l0.length c'0) _ (H0.out.below (below_a2 _ _ _)) (J0.out.below (below_a2 _ _ _))).mono ?_
  rintro _ w1 ⟨rfl, hb⟩
  have E1 := Lib.hid (below_then (below_a2 _ _ _) hb (Nat.le_refl _))
  have P1 := Lib.hid (((Blk.new w _ _).alloc _).step hb)
  have R1 := Lib.hid ((Blk.new1 w _ _ _).step hb)
  have p1 := P1.out.cell
  have r1 := R1.out.cell
  clear hb
  go_wp2
  go_ret
  exact ⟨rfl, E1.out⟩
theorem eqBookOut_all (n : Nat) : EqBookOut n := eqBookOut_of (eqThingS_all n)
end Go.Proofs.YtflfnekaiaplfaaGreat.un
