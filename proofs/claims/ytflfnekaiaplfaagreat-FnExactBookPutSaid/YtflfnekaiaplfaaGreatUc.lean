/- Data of any shape: structs opened cell by cell. -/
import Derived.Test.YtflfnekaiaplfaaGreatUn
import Derived.Test.YtflfnekaiaplfaaGreatMem
namespace Go.Proofs.YtflfnekaiaplfaaGreat.un
open mem
open Go.ChangeShapes Go.WideShapes Go.ChangeAt Go.RowKit Go.Lib
set_option linter.unusedVariables false
set_option maxRecDepth 8000
set_option linter.unusedSimpArgs false

theorem Cell.mkI {B : Nat → Prop} {n : Nat} {w : World} {x : Int} (h : R64 x) : Cell B n w .i (.i x) (.int .i64 x) := by cases n <;> exact ⟨rfl, h⟩
theorem Cell.mkS {B : Nat → Prop} {n : Nat} {w : World} {s : ByteArray} (h : s.size ≤ maxLen) : Cell B n w .s (.s s) (.string s) := by cases n <;> exact ⟨rfl, h⟩
def leftI (a : Int) (n : Nat) : Int := if (n : Int) ≤ a then a - n else -1
/-- a size told: what is left, or -1. -/
def Left1 (w : World) (a : Int) (n : Nat) (e : Ending) (w' : World) : Prop := ∃ x : Int, e = .returned (.int .i64 x) ∧ Hid (x = leftI a n) ∧ -1 ≤ x ∧ x ≤ 1048576 ∧ Below w.heap.size w w'
def Told (w : World) (v : Value) (e : Ending) (w' : World) : Prop := e = .returned v ∧ Below w.heap.size w w'
theorem cl_nil : cL [] = 0 := by simp [cL]
theorem nl_nil : nL [] = 0 := by simp [nL]
abbrev shAddr_ : List CK := [.l 0, .s, .s, .i, .i, .s]
theorem open_Addr {B : Nat → Prop} {n : Nat} {w : World} {ds : List DC} {vs : List Value} (h : Cells B n w shAddr_ ds vs) : ∃ l0 s1 s2 x3 x4 s5 A0 c0, ds = [.l l0, .s s1, .s s2, .i x3, .i x4, .s s5] ∧ vs = [.slice A0 l0.length c0, .string s1, .string s2, .int .i64 x3, .int .i64 x4, .string s5] ∧ Cell B n w (.l 0) (.l l0) (.slice A0 l0.length c0) ∧ s1.size ≤ maxLen ∧ s2.size ≤ maxLen ∧ R64 x3 ∧ R64 x4 ∧ s5.size ≤ maxLen := by
  obtain ⟨d0, ds, v0, vs, rfl, rfl, h0, h⟩ := All3.cons h
  obtain ⟨d1, ds, v1, vs, rfl, rfl, h1, h⟩ := All3.cons h
  obtain ⟨d2, ds, v2, vs, rfl, rfl, h2, h⟩ := All3.cons h
  obtain ⟨d3, ds, v3, vs, rfl, rfl, h3, h⟩ := All3.cons h
  obtain ⟨d4, ds, v4, vs, rfl, rfl, h4, h⟩ := All3.cons h
  obtain ⟨d5, ds, v5, vs, rfl, rfl, h5, h⟩ := All3.cons h
  obtain ⟨rfl, rfl⟩ := All3.nil h
  obtain ⟨l0, A0, c0, rfl, rfl, _⟩ := h0.lst
  obtain ⟨s1, rfl, rfl, r1⟩ := h1.str
  obtain ⟨s2, rfl, rfl, r2⟩ := h2.str
  obtain ⟨x3, rfl, rfl, r3⟩ := h3.int
  obtain ⟨x4, rfl, rfl, r4⟩ := h4.int
  obtain ⟨s5, rfl, rfl, r5⟩ := h5.str
  exact ⟨l0, s1, s2, x3, x4, s5, A0, c0, rfl, rfl, h0, r1, r2, r3, r4, r5⟩
abbrev shValue_ : List CK := [.i, .i, .s]
theorem open_Value {B : Nat → Prop} {n : Nat} {w : World} {ds : List DC} {vs : List Value} (h : Cells B n w shValue_ ds vs) : ∃ x0 x1 s2, ds = [.i x0, .i x1, .s s2] ∧ vs = [.int .i64 x0, .int .i64 x1, .string s2] ∧ R64 x0 ∧ R64 x1 ∧ s2.size ≤ maxLen := by
  obtain ⟨d0, ds, v0, vs, rfl, rfl, h0, h⟩ := All3.cons h
  obtain ⟨d1, ds, v1, vs, rfl, rfl, h1, h⟩ := All3.cons h
  obtain ⟨d2, ds, v2, vs, rfl, rfl, h2, h⟩ := All3.cons h
  obtain ⟨rfl, rfl⟩ := All3.nil h
  obtain ⟨x0, rfl, rfl, r0⟩ := h0.int
  obtain ⟨x1, rfl, rfl, r1⟩ := h1.int
  obtain ⟨s2, rfl, rfl, r2⟩ := h2.str
  exact ⟨x0, x1, s2, rfl, rfl, r0, r1, r2⟩
abbrev shExpr_ : List CK := [.i, .i, .i, .s, .l 0, .s, .s, .i, .i, .s, .s, .l 3]
theorem open_Expr {B : Nat → Prop} {n : Nat} {w : World} {ds : List DC} {vs : List Value} (h : Cells B n w shExpr_ ds vs) : ∃ x0 x1 x2 s3 l4 s5 s6 x7 x8 s9 s10 l11 A4 c4 A11 c11, ds = [.i x0, .i x1, .i x2, .s s3, .l l4, .s s5, .s s6, .i x7, .i x8, .s s9, .s s10, .l l11] ∧ vs = [.int .i64 x0, .int .i64 x1, .int .i64 x2, .string s3, .slice A4 l4.length c4, .string s5, .string s6, .int .i64 x7, .int .i64 x8, .string s9, .string s10, .slice A11 l11.length c11] ∧ R64 x0 ∧ R64 x1 ∧ R64 x2 ∧ s3.size ≤ maxLen ∧ Cell B n w (.l 0) (.l l4) (.slice A4 l4.length c4) ∧ s5.size ≤ maxLen ∧ s6.size ≤ maxLen ∧ R64 x7 ∧ R64 x8 ∧ s9.size ≤ maxLen ∧ s10.size ≤ maxLen ∧ Cell B n w (.l 3) (.l l11) (.slice A11 l11.length c11) := by
  obtain ⟨d0, ds, v0, vs, rfl, rfl, h0, h⟩ := All3.cons h
  obtain ⟨d1, ds, v1, vs, rfl, rfl, h1, h⟩ := All3.cons h
  obtain ⟨d2, ds, v2, vs, rfl, rfl, h2, h⟩ := All3.cons h
  obtain ⟨d3, ds, v3, vs, rfl, rfl, h3, h⟩ := All3.cons h
  obtain ⟨d4, ds, v4, vs, rfl, rfl, h4, h⟩ := All3.cons h
  obtain ⟨d5, ds, v5, vs, rfl, rfl, h5, h⟩ := All3.cons h
  obtain ⟨d6, ds, v6, vs, rfl, rfl, h6, h⟩ := All3.cons h
  obtain ⟨d7, ds, v7, vs, rfl, rfl, h7, h⟩ := All3.cons h
  obtain ⟨d8, ds, v8, vs, rfl, rfl, h8, h⟩ := All3.cons h
  obtain ⟨d9, ds, v9, vs, rfl, rfl, h9, h⟩ := All3.cons h
  obtain ⟨d10, ds, v10, vs, rfl, rfl, h10, h⟩ := All3.cons h
  obtain ⟨d11, ds, v11, vs, rfl, rfl, h11, h⟩ := All3.cons h
  obtain ⟨rfl, rfl⟩ := All3.nil h
  obtain ⟨x0, rfl, rfl, r0⟩ := h0.int
  obtain ⟨x1, rfl, rfl, r1⟩ := h1.int
  obtain ⟨x2, rfl, rfl, r2⟩ := h2.int
  obtain ⟨s3, rfl, rfl, r3⟩ := h3.str
  obtain ⟨l4, A4, c4, rfl, rfl, _⟩ := h4.lst
  obtain ⟨s5, rfl, rfl, r5⟩ := h5.str
  obtain ⟨s6, rfl, rfl, r6⟩ := h6.str
  obtain ⟨x7, rfl, rfl, r7⟩ := h7.int
  obtain ⟨x8, rfl, rfl, r8⟩ := h8.int
  obtain ⟨s9, rfl, rfl, r9⟩ := h9.str
  obtain ⟨s10, rfl, rfl, r10⟩ := h10.str
  obtain ⟨l11, A11, c11, rfl, rfl, _⟩ := h11.lst
  exact ⟨x0, x1, x2, s3, l4, s5, s6, x7, x8, s9, s10, l11, A4, c4, A11, c11, rfl, rfl, r0, r1, r2, r3, h4, r5, r6, r7, r8, r9, r10, h11⟩
abbrev shProp_ : List CK := [.s, .i, .i, .i, .s, .l 0, .s, .s, .i, .i, .s, .s, .l 3]
theorem open_Prop {B : Nat → Prop} {n : Nat} {w : World} {ds : List DC} {vs : List Value} (h : Cells B n w shProp_ ds vs) : ∃ s0 x1 x2 x3 s4 l5 s6 s7 x8 x9 s10 s11 l12 A5 c5 A12 c12, ds = [.s s0, .i x1, .i x2, .i x3, .s s4, .l l5, .s s6, .s s7, .i x8, .i x9, .s s10, .s s11, .l l12] ∧ vs = [.string s0, .int .i64 x1, .int .i64 x2, .int .i64 x3, .string s4, .slice A5 l5.length c5, .string s6, .string s7, .int .i64 x8, .int .i64 x9, .string s10, .string s11, .slice A12 l12.length c12] ∧ s0.size ≤ maxLen ∧ R64 x1 ∧ R64 x2 ∧ R64 x3 ∧ s4.size ≤ maxLen ∧ Cell B n w (.l 0) (.l l5) (.slice A5 l5.length c5) ∧ s6.size ≤ maxLen ∧ s7.size ≤ maxLen ∧ R64 x8 ∧ R64 x9 ∧ s10.size ≤ maxLen ∧ s11.size ≤ maxLen ∧ Cell B n w (.l 3) (.l l12) (.slice A12 l12.length c12) := by
  obtain ⟨d0, ds, v0, vs, rfl, rfl, h0, h⟩ := All3.cons h
  obtain ⟨d1, ds, v1, vs, rfl, rfl, h1, h⟩ := All3.cons h
  obtain ⟨d2, ds, v2, vs, rfl, rfl, h2, h⟩ := All3.cons h
  obtain ⟨d3, ds, v3, vs, rfl, rfl, h3, h⟩ := All3.cons h
  obtain ⟨d4, ds, v4, vs, rfl, rfl, h4, h⟩ := All3.cons h
  obtain ⟨d5, ds, v5, vs, rfl, rfl, h5, h⟩ := All3.cons h
  obtain ⟨d6, ds, v6, vs, rfl, rfl, h6, h⟩ := All3.cons h
  obtain ⟨d7, ds, v7, vs, rfl, rfl, h7, h⟩ := All3.cons h
  obtain ⟨d8, ds, v8, vs, rfl, rfl, h8, h⟩ := All3.cons h
  obtain ⟨d9, ds, v9, vs, rfl, rfl, h9, h⟩ := All3.cons h
  obtain ⟨d10, ds, v10, vs, rfl, rfl, h10, h⟩ := All3.cons h
  obtain ⟨d11, ds, v11, vs, rfl, rfl, h11, h⟩ := All3.cons h
  obtain ⟨d12, ds, v12, vs, rfl, rfl, h12, h⟩ := All3.cons h
  obtain ⟨rfl, rfl⟩ := All3.nil h
  obtain ⟨s0, rfl, rfl, r0⟩ := h0.str
  obtain ⟨x1, rfl, rfl, r1⟩ := h1.int
  obtain ⟨x2, rfl, rfl, r2⟩ := h2.int
  obtain ⟨x3, rfl, rfl, r3⟩ := h3.int
  obtain ⟨s4, rfl, rfl, r4⟩ := h4.str
  obtain ⟨l5, A5, c5, rfl, rfl, _⟩ := h5.lst
  obtain ⟨s6, rfl, rfl, r6⟩ := h6.str
  obtain ⟨s7, rfl, rfl, r7⟩ := h7.str
  obtain ⟨x8, rfl, rfl, r8⟩ := h8.int
  obtain ⟨x9, rfl, rfl, r9⟩ := h9.int
  obtain ⟨s10, rfl, rfl, r10⟩ := h10.str
  obtain ⟨s11, rfl, rfl, r11⟩ := h11.str
  obtain ⟨l12, A12, c12, rfl, rfl, _⟩ := h12.lst
  exact ⟨s0, x1, x2, x3, s4, l5, s6, s7, x8, x9, s10, s11, l12, A5, c5, A12, c12, rfl, rfl, r0, r1, r2, r3, r4, h5, r6, r7, r8, r9, r10, r11, h12⟩
abbrev shBlock_ : List CK := [.l 0, .s, .s, .i, .i, .s, .i, .l 0, .l 4]
theorem open_Block {B : Nat → Prop} {n : Nat} {w : World} {ds : List DC} {vs : List Value} (h : Cells B n w shBlock_ ds vs) : ∃ l0 s1 s2 x3 x4 s5 x6 l7 l8 A0 c0 A7 c7 A8 c8, ds = [.l l0, .s s1, .s s2, .i x3, .i x4, .s s5, .i x6, .l l7, .l l8] ∧ vs = [.slice A0 l0.length c0, .string s1, .string s2, .int .i64 x3, .int .i64 x4, .string s5, .int .i64 x6, .slice A7 l7.length c7, .slice A8 l8.length c8] ∧ Cell B n w (.l 0) (.l l0) (.slice A0 l0.length c0) ∧ s1.size ≤ maxLen ∧ s2.size ≤ maxLen ∧ R64 x3 ∧ R64 x4 ∧ s5.size ≤ maxLen ∧ R64 x6 ∧ Cell B n w (.l 0) (.l l7) (.slice A7 l7.length c7) ∧ Cell B n w (.l 4) (.l l8) (.slice A8 l8.length c8) := by
  obtain ⟨d0, ds, v0, vs, rfl, rfl, h0, h⟩ := All3.cons h
  obtain ⟨d1, ds, v1, vs, rfl, rfl, h1, h⟩ := All3.cons h
  obtain ⟨d2, ds, v2, vs, rfl, rfl, h2, h⟩ := All3.cons h
  obtain ⟨d3, ds, v3, vs, rfl, rfl, h3, h⟩ := All3.cons h
  obtain ⟨d4, ds, v4, vs, rfl, rfl, h4, h⟩ := All3.cons h
  obtain ⟨d5, ds, v5, vs, rfl, rfl, h5, h⟩ := All3.cons h
  obtain ⟨d6, ds, v6, vs, rfl, rfl, h6, h⟩ := All3.cons h
  obtain ⟨d7, ds, v7, vs, rfl, rfl, h7, h⟩ := All3.cons h
  obtain ⟨d8, ds, v8, vs, rfl, rfl, h8, h⟩ := All3.cons h
  obtain ⟨rfl, rfl⟩ := All3.nil h
  obtain ⟨l0, A0, c0, rfl, rfl, _⟩ := h0.lst
  obtain ⟨s1, rfl, rfl, r1⟩ := h1.str
  obtain ⟨s2, rfl, rfl, r2⟩ := h2.str
  obtain ⟨x3, rfl, rfl, r3⟩ := h3.int
  obtain ⟨x4, rfl, rfl, r4⟩ := h4.int
  obtain ⟨s5, rfl, rfl, r5⟩ := h5.str
  obtain ⟨x6, rfl, rfl, r6⟩ := h6.int
  obtain ⟨l7, A7, c7, rfl, rfl, _⟩ := h7.lst
  obtain ⟨l8, A8, c8, rfl, rfl, _⟩ := h8.lst
  exact ⟨l0, s1, s2, x3, x4, s5, x6, l7, l8, A0, c0, A7, c7, A8, c8, rfl, rfl, h0, r1, r2, r3, r4, r5, r6, h7, h8⟩
abbrev shMove_ : List CK := [.i, .l 0, .s, .s, .i, .i, .s, .l 0, .s, .s, .i, .i, .s]
theorem open_Move {B : Nat → Prop} {n : Nat} {w : World} {ds : List DC} {vs : List Value} (h : Cells B n w shMove_ ds vs) : ∃ x0 l1 s2 s3 x4 x5 s6 l7 s8 s9 x10 x11 s12 A1 c1 A7 c7, ds = [.i x0, .l l1, .s s2, .s s3, .i x4, .i x5, .s s6, .l l7, .s s8, .s s9, .i x10, .i x11, .s s12] ∧ vs = [.int .i64 x0, .slice A1 l1.length c1, .string s2, .string s3, .int .i64 x4, .int .i64 x5, .string s6, .slice A7 l7.length c7, .string s8, .string s9, .int .i64 x10, .int .i64 x11, .string s12] ∧ R64 x0 ∧ Cell B n w (.l 0) (.l l1) (.slice A1 l1.length c1) ∧ s2.size ≤ maxLen ∧ s3.size ≤ maxLen ∧ R64 x4 ∧ R64 x5 ∧ s6.size ≤ maxLen ∧ Cell B n w (.l 0) (.l l7) (.slice A7 l7.length c7) ∧ s8.size ≤ maxLen ∧ s9.size ≤ maxLen ∧ R64 x10 ∧ R64 x11 ∧ s12.size ≤ maxLen := by
  obtain ⟨d0, ds, v0, vs, rfl, rfl, h0, h⟩ := All3.cons h
  obtain ⟨d1, ds, v1, vs, rfl, rfl, h1, h⟩ := All3.cons h
  obtain ⟨d2, ds, v2, vs, rfl, rfl, h2, h⟩ := All3.cons h
  obtain ⟨d3, ds, v3, vs, rfl, rfl, h3, h⟩ := All3.cons h
  obtain ⟨d4, ds, v4, vs, rfl, rfl, h4, h⟩ := All3.cons h
  obtain ⟨d5, ds, v5, vs, rfl, rfl, h5, h⟩ := All3.cons h
  obtain ⟨d6, ds, v6, vs, rfl, rfl, h6, h⟩ := All3.cons h
  obtain ⟨d7, ds, v7, vs, rfl, rfl, h7, h⟩ := All3.cons h
  obtain ⟨d8, ds, v8, vs, rfl, rfl, h8, h⟩ := All3.cons h
  obtain ⟨d9, ds, v9, vs, rfl, rfl, h9, h⟩ := All3.cons h
  obtain ⟨d10, ds, v10, vs, rfl, rfl, h10, h⟩ := All3.cons h
  obtain ⟨d11, ds, v11, vs, rfl, rfl, h11, h⟩ := All3.cons h
  obtain ⟨d12, ds, v12, vs, rfl, rfl, h12, h⟩ := All3.cons h
  obtain ⟨rfl, rfl⟩ := All3.nil h
  obtain ⟨x0, rfl, rfl, r0⟩ := h0.int
  obtain ⟨l1, A1, c1, rfl, rfl, _⟩ := h1.lst
  obtain ⟨s2, rfl, rfl, r2⟩ := h2.str
  obtain ⟨s3, rfl, rfl, r3⟩ := h3.str
  obtain ⟨x4, rfl, rfl, r4⟩ := h4.int
  obtain ⟨x5, rfl, rfl, r5⟩ := h5.int
  obtain ⟨s6, rfl, rfl, r6⟩ := h6.str
  obtain ⟨l7, A7, c7, rfl, rfl, _⟩ := h7.lst
  obtain ⟨s8, rfl, rfl, r8⟩ := h8.str
  obtain ⟨s9, rfl, rfl, r9⟩ := h9.str
  obtain ⟨x10, rfl, rfl, r10⟩ := h10.int
  obtain ⟨x11, rfl, rfl, r11⟩ := h11.int
  obtain ⟨s12, rfl, rfl, r12⟩ := h12.str
  exact ⟨x0, l1, s2, s3, x4, x5, s6, l7, s8, s9, x10, x11, s12, A1, c1, A7, c7, rfl, rfl, r0, h1, r2, r3, r4, r5, r6, h7, r8, r9, r10, r11, r12⟩
abbrev shConfig_ : List CK := [.l 5, .l 6]
theorem open_Config {B : Nat → Prop} {n : Nat} {w : World} {ds : List DC} {vs : List Value} (h : Cells B n w shConfig_ ds vs) : ∃ l0 l1 A0 c0 A1 c1, ds = [.l l0, .l l1] ∧ vs = [.slice A0 l0.length c0, .slice A1 l1.length c1] ∧ Cell B n w (.l 5) (.l l0) (.slice A0 l0.length c0) ∧ Cell B n w (.l 6) (.l l1) (.slice A1 l1.length c1) := by
  obtain ⟨d0, ds, v0, vs, rfl, rfl, h0, h⟩ := All3.cons h
  obtain ⟨d1, ds, v1, vs, rfl, rfl, h1, h⟩ := All3.cons h
  obtain ⟨rfl, rfl⟩ := All3.nil h
  obtain ⟨l0, A0, c0, rfl, rfl, _⟩ := h0.lst
  obtain ⟨l1, A1, c1, rfl, rfl, _⟩ := h1.lst
  exact ⟨l0, l1, A0, c0, A1, c1, rfl, rfl, h0, h1⟩
abbrev shPair_ : List CK := [.s, .i, .i, .s]
theorem open_Pair {B : Nat → Prop} {n : Nat} {w : World} {ds : List DC} {vs : List Value} (h : Cells B n w shPair_ ds vs) : ∃ s0 x1 x2 s3, ds = [.s s0, .i x1, .i x2, .s s3] ∧ vs = [.string s0, .int .i64 x1, .int .i64 x2, .string s3] ∧ s0.size ≤ maxLen ∧ R64 x1 ∧ R64 x2 ∧ s3.size ≤ maxLen := by
  obtain ⟨d0, ds, v0, vs, rfl, rfl, h0, h⟩ := All3.cons h
  obtain ⟨d1, ds, v1, vs, rfl, rfl, h1, h⟩ := All3.cons h
  obtain ⟨d2, ds, v2, vs, rfl, rfl, h2, h⟩ := All3.cons h
  obtain ⟨d3, ds, v3, vs, rfl, rfl, h3, h⟩ := All3.cons h
  obtain ⟨rfl, rfl⟩ := All3.nil h
  obtain ⟨s0, rfl, rfl, r0⟩ := h0.str
  obtain ⟨x1, rfl, rfl, r1⟩ := h1.int
  obtain ⟨x2, rfl, rfl, r2⟩ := h2.int
  obtain ⟨s3, rfl, rfl, r3⟩ := h3.str
  exact ⟨s0, x1, x2, s3, rfl, rfl, r0, r1, r2, r3⟩
abbrev shThing_ : List CK := [.l 0, .s, .s, .i, .i, .s, .l 7, .l 2]
theorem open_Thing {B : Nat → Prop} {n : Nat} {w : World} {ds : List DC} {vs : List Value} (h : Cells B n w shThing_ ds vs) : ∃ l0 s1 s2 x3 x4 s5 l6 l7 A0 c0 A6 c6 A7 c7, ds = [.l l0, .s s1, .s s2, .i x3, .i x4, .s s5, .l l6, .l l7] ∧ vs = [.slice A0 l0.length c0, .string s1, .string s2, .int .i64 x3, .int .i64 x4, .string s5, .slice A6 l6.length c6, .slice A7 l7.length c7] ∧ Cell B n w (.l 0) (.l l0) (.slice A0 l0.length c0) ∧ s1.size ≤ maxLen ∧ s2.size ≤ maxLen ∧ R64 x3 ∧ R64 x4 ∧ s5.size ≤ maxLen ∧ Cell B n w (.l 7) (.l l6) (.slice A6 l6.length c6) ∧ Cell B n w (.l 2) (.l l7) (.slice A7 l7.length c7) := by
  obtain ⟨d0, ds, v0, vs, rfl, rfl, h0, h⟩ := All3.cons h
  obtain ⟨d1, ds, v1, vs, rfl, rfl, h1, h⟩ := All3.cons h
  obtain ⟨d2, ds, v2, vs, rfl, rfl, h2, h⟩ := All3.cons h
  obtain ⟨d3, ds, v3, vs, rfl, rfl, h3, h⟩ := All3.cons h
  obtain ⟨d4, ds, v4, vs, rfl, rfl, h4, h⟩ := All3.cons h
  obtain ⟨d5, ds, v5, vs, rfl, rfl, h5, h⟩ := All3.cons h
  obtain ⟨d6, ds, v6, vs, rfl, rfl, h6, h⟩ := All3.cons h
  obtain ⟨d7, ds, v7, vs, rfl, rfl, h7, h⟩ := All3.cons h
  obtain ⟨rfl, rfl⟩ := All3.nil h
  obtain ⟨l0, A0, c0, rfl, rfl, _⟩ := h0.lst
  obtain ⟨s1, rfl, rfl, r1⟩ := h1.str
  obtain ⟨s2, rfl, rfl, r2⟩ := h2.str
  obtain ⟨x3, rfl, rfl, r3⟩ := h3.int
  obtain ⟨x4, rfl, rfl, r4⟩ := h4.int
  obtain ⟨s5, rfl, rfl, r5⟩ := h5.str
  obtain ⟨l6, A6, c6, rfl, rfl, _⟩ := h6.lst
  obtain ⟨l7, A7, c7, rfl, rfl, _⟩ := h7.lst
  exact ⟨l0, s1, s2, x3, x4, s5, l6, l7, A0, c0, A6, c6, A7, c7, rfl, rfl, h0, r1, r2, r3, r4, r5, h6, h7⟩
abbrev shStep_ : List CK := [.i, .l 0, .s, .s, .i, .i, .s]
theorem open_Step {B : Nat → Prop} {n : Nat} {w : World} {ds : List DC} {vs : List Value} (h : Cells B n w shStep_ ds vs) : ∃ x0 l1 s2 s3 x4 x5 s6 A1 c1, ds = [.i x0, .l l1, .s s2, .s s3, .i x4, .i x5, .s s6] ∧ vs = [.int .i64 x0, .slice A1 l1.length c1, .string s2, .string s3, .int .i64 x4, .int .i64 x5, .string s6] ∧ R64 x0 ∧ Cell B n w (.l 0) (.l l1) (.slice A1 l1.length c1) ∧ s2.size ≤ maxLen ∧ s3.size ≤ maxLen ∧ R64 x4 ∧ R64 x5 ∧ s6.size ≤ maxLen := by
  obtain ⟨d0, ds, v0, vs, rfl, rfl, h0, h⟩ := All3.cons h
  obtain ⟨d1, ds, v1, vs, rfl, rfl, h1, h⟩ := All3.cons h
  obtain ⟨d2, ds, v2, vs, rfl, rfl, h2, h⟩ := All3.cons h
  obtain ⟨d3, ds, v3, vs, rfl, rfl, h3, h⟩ := All3.cons h
  obtain ⟨d4, ds, v4, vs, rfl, rfl, h4, h⟩ := All3.cons h
  obtain ⟨d5, ds, v5, vs, rfl, rfl, h5, h⟩ := All3.cons h
  obtain ⟨d6, ds, v6, vs, rfl, rfl, h6, h⟩ := All3.cons h
  obtain ⟨rfl, rfl⟩ := All3.nil h
  obtain ⟨x0, rfl, rfl, r0⟩ := h0.int
  obtain ⟨l1, A1, c1, rfl, rfl, _⟩ := h1.lst
  obtain ⟨s2, rfl, rfl, r2⟩ := h2.str
  obtain ⟨s3, rfl, rfl, r3⟩ := h3.str
  obtain ⟨x4, rfl, rfl, r4⟩ := h4.int
  obtain ⟨x5, rfl, rfl, r5⟩ := h5.int
  obtain ⟨s6, rfl, rfl, r6⟩ := h6.str
  exact ⟨x0, l1, s2, s3, x4, x5, s6, A1, c1, rfl, rfl, r0, h1, r2, r3, r4, r5, r6⟩
abbrev shPlanOut_ : List CK := [.l 9, .l 2, .l 2, .i]
theorem open_PlanOut {B : Nat → Prop} {n : Nat} {w : World} {ds : List DC} {vs : List Value} (h : Cells B n w shPlanOut_ ds vs) : ∃ l0 l1 l2 x3 A0 c0 A1 c1 A2 c2, ds = [.l l0, .l l1, .l l2, .i x3] ∧ vs = [.slice A0 l0.length c0, .slice A1 l1.length c1, .slice A2 l2.length c2, .int .i64 x3] ∧ Cell B n w (.l 9) (.l l0) (.slice A0 l0.length c0) ∧ Cell B n w (.l 2) (.l l1) (.slice A1 l1.length c1) ∧ Cell B n w (.l 2) (.l l2) (.slice A2 l2.length c2) ∧ R64 x3 := by
  obtain ⟨d0, ds, v0, vs, rfl, rfl, h0, h⟩ := All3.cons h
  obtain ⟨d1, ds, v1, vs, rfl, rfl, h1, h⟩ := All3.cons h
  obtain ⟨d2, ds, v2, vs, rfl, rfl, h2, h⟩ := All3.cons h
  obtain ⟨d3, ds, v3, vs, rfl, rfl, h3, h⟩ := All3.cons h
  obtain ⟨rfl, rfl⟩ := All3.nil h
  obtain ⟨l0, A0, c0, rfl, rfl, _⟩ := h0.lst
  obtain ⟨l1, A1, c1, rfl, rfl, _⟩ := h1.lst
  obtain ⟨l2, A2, c2, rfl, rfl, _⟩ := h2.lst
  obtain ⟨x3, rfl, rfl, r3⟩ := h3.int
  exact ⟨l0, l1, l2, x3, A0, c0, A1, c1, A2, c2, rfl, rfl, h0, h1, h2, r3⟩
abbrev shVault_ : List CK := [.i, .i, .s, .l 8, .l 1]
theorem open_Vault {B : Nat → Prop} {n : Nat} {w : World} {ds : List DC} {vs : List Value} (h : Cells B n w shVault_ ds vs) : ∃ x0 x1 s2 l3 l4 A3 c3 A4 c4, ds = [.i x0, .i x1, .s s2, .l l3, .l l4] ∧ vs = [.int .i64 x0, .int .i64 x1, .string s2, .slice A3 l3.length c3, .slice A4 l4.length c4] ∧ R64 x0 ∧ R64 x1 ∧ s2.size ≤ maxLen ∧ Cell B n w (.l 8) (.l l3) (.slice A3 l3.length c3) ∧ Cell B n w (.l 1) (.l l4) (.slice A4 l4.length c4) := by
  obtain ⟨d0, ds, v0, vs, rfl, rfl, h0, h⟩ := All3.cons h
  obtain ⟨d1, ds, v1, vs, rfl, rfl, h1, h⟩ := All3.cons h
  obtain ⟨d2, ds, v2, vs, rfl, rfl, h2, h⟩ := All3.cons h
  obtain ⟨d3, ds, v3, vs, rfl, rfl, h3, h⟩ := All3.cons h
  obtain ⟨d4, ds, v4, vs, rfl, rfl, h4, h⟩ := All3.cons h
  obtain ⟨rfl, rfl⟩ := All3.nil h
  obtain ⟨x0, rfl, rfl, r0⟩ := h0.int
  obtain ⟨x1, rfl, rfl, r1⟩ := h1.int
  obtain ⟨s2, rfl, rfl, r2⟩ := h2.str
  obtain ⟨l3, A3, c3, rfl, rfl, _⟩ := h3.lst
  obtain ⟨l4, A4, c4, rfl, rfl, _⟩ := h4.lst
  exact ⟨x0, x1, s2, l3, l4, A3, c3, A4, c4, rfl, rfl, r0, r1, r2, h3, h4⟩
abbrev shGuard_ : List CK := [.l 10, .l 0, .i]
theorem open_Guard {B : Nat → Prop} {n : Nat} {w : World} {ds : List DC} {vs : List Value} (h : Cells B n w shGuard_ ds vs) : ∃ l0 l1 x2 A0 c0 A1 c1, ds = [.l l0, .l l1, .i x2] ∧ vs = [.slice A0 l0.length c0, .slice A1 l1.length c1, .int .i64 x2] ∧ Cell B n w (.l 10) (.l l0) (.slice A0 l0.length c0) ∧ Cell B n w (.l 0) (.l l1) (.slice A1 l1.length c1) ∧ R64 x2 := by
  obtain ⟨d0, ds, v0, vs, rfl, rfl, h0, h⟩ := All3.cons h
  obtain ⟨d1, ds, v1, vs, rfl, rfl, h1, h⟩ := All3.cons h
  obtain ⟨d2, ds, v2, vs, rfl, rfl, h2, h⟩ := All3.cons h
  obtain ⟨rfl, rfl⟩ := All3.nil h
  obtain ⟨l0, A0, c0, rfl, rfl, _⟩ := h0.lst
  obtain ⟨l1, A1, c1, rfl, rfl, _⟩ := h1.lst
  obtain ⟨x2, rfl, rfl, r2⟩ := h2.int
  exact ⟨l0, l1, x2, A0, c0, A1, c1, rfl, rfl, h0, h1, r2⟩
abbrev shAddrOut_ : List CK := [.l 0, .s, .s, .i, .i, .s, .i]
theorem open_AddrOut {B : Nat → Prop} {n : Nat} {w : World} {ds : List DC} {vs : List Value} (h : Cells B n w shAddrOut_ ds vs) : ∃ l0 s1 s2 x3 x4 s5 x6 A0 c0, ds = [.l l0, .s s1, .s s2, .i x3, .i x4, .s s5, .i x6] ∧ vs = [.slice A0 l0.length c0, .string s1, .string s2, .int .i64 x3, .int .i64 x4, .string s5, .int .i64 x6] ∧ Cell B n w (.l 0) (.l l0) (.slice A0 l0.length c0) ∧ s1.size ≤ maxLen ∧ s2.size ≤ maxLen ∧ R64 x3 ∧ R64 x4 ∧ s5.size ≤ maxLen ∧ R64 x6 := by
  obtain ⟨d0, ds, v0, vs, rfl, rfl, h0, h⟩ := All3.cons h
  obtain ⟨d1, ds, v1, vs, rfl, rfl, h1, h⟩ := All3.cons h
  obtain ⟨d2, ds, v2, vs, rfl, rfl, h2, h⟩ := All3.cons h
  obtain ⟨d3, ds, v3, vs, rfl, rfl, h3, h⟩ := All3.cons h
  obtain ⟨d4, ds, v4, vs, rfl, rfl, h4, h⟩ := All3.cons h
  obtain ⟨d5, ds, v5, vs, rfl, rfl, h5, h⟩ := All3.cons h
  obtain ⟨d6, ds, v6, vs, rfl, rfl, h6, h⟩ := All3.cons h
  obtain ⟨rfl, rfl⟩ := All3.nil h
  obtain ⟨l0, A0, c0, rfl, rfl, _⟩ := h0.lst
  obtain ⟨s1, rfl, rfl, r1⟩ := h1.str
  obtain ⟨s2, rfl, rfl, r2⟩ := h2.str
  obtain ⟨x3, rfl, rfl, r3⟩ := h3.int
  obtain ⟨x4, rfl, rfl, r4⟩ := h4.int
  obtain ⟨s5, rfl, rfl, r5⟩ := h5.str
  obtain ⟨x6, rfl, rfl, r6⟩ := h6.int
  exact ⟨l0, s1, s2, x3, x4, s5, x6, A0, c0, rfl, rfl, h0, r1, r2, r3, r4, r5, r6⟩
abbrev shExprOut_ : List CK := [.i, .i, .i, .s, .l 0, .s, .s, .i, .i, .s, .s, .l 3, .i]
theorem open_ExprOut {B : Nat → Prop} {n : Nat} {w : World} {ds : List DC} {vs : List Value} (h : Cells B n w shExprOut_ ds vs) : ∃ x0 x1 x2 s3 l4 s5 s6 x7 x8 s9 s10 l11 x12 A4 c4 A11 c11, ds = [.i x0, .i x1, .i x2, .s s3, .l l4, .s s5, .s s6, .i x7, .i x8, .s s9, .s s10, .l l11, .i x12] ∧ vs = [.int .i64 x0, .int .i64 x1, .int .i64 x2, .string s3, .slice A4 l4.length c4, .string s5, .string s6, .int .i64 x7, .int .i64 x8, .string s9, .string s10, .slice A11 l11.length c11, .int .i64 x12] ∧ R64 x0 ∧ R64 x1 ∧ R64 x2 ∧ s3.size ≤ maxLen ∧ Cell B n w (.l 0) (.l l4) (.slice A4 l4.length c4) ∧ s5.size ≤ maxLen ∧ s6.size ≤ maxLen ∧ R64 x7 ∧ R64 x8 ∧ s9.size ≤ maxLen ∧ s10.size ≤ maxLen ∧ Cell B n w (.l 3) (.l l11) (.slice A11 l11.length c11) ∧ R64 x12 := by
  obtain ⟨d0, ds, v0, vs, rfl, rfl, h0, h⟩ := All3.cons h
  obtain ⟨d1, ds, v1, vs, rfl, rfl, h1, h⟩ := All3.cons h
  obtain ⟨d2, ds, v2, vs, rfl, rfl, h2, h⟩ := All3.cons h
  obtain ⟨d3, ds, v3, vs, rfl, rfl, h3, h⟩ := All3.cons h
  obtain ⟨d4, ds, v4, vs, rfl, rfl, h4, h⟩ := All3.cons h
  obtain ⟨d5, ds, v5, vs, rfl, rfl, h5, h⟩ := All3.cons h
  obtain ⟨d6, ds, v6, vs, rfl, rfl, h6, h⟩ := All3.cons h
  obtain ⟨d7, ds, v7, vs, rfl, rfl, h7, h⟩ := All3.cons h
  obtain ⟨d8, ds, v8, vs, rfl, rfl, h8, h⟩ := All3.cons h
  obtain ⟨d9, ds, v9, vs, rfl, rfl, h9, h⟩ := All3.cons h
  obtain ⟨d10, ds, v10, vs, rfl, rfl, h10, h⟩ := All3.cons h
  obtain ⟨d11, ds, v11, vs, rfl, rfl, h11, h⟩ := All3.cons h
  obtain ⟨d12, ds, v12, vs, rfl, rfl, h12, h⟩ := All3.cons h
  obtain ⟨rfl, rfl⟩ := All3.nil h
  obtain ⟨x0, rfl, rfl, r0⟩ := h0.int
  obtain ⟨x1, rfl, rfl, r1⟩ := h1.int
  obtain ⟨x2, rfl, rfl, r2⟩ := h2.int
  obtain ⟨s3, rfl, rfl, r3⟩ := h3.str
  obtain ⟨l4, A4, c4, rfl, rfl, _⟩ := h4.lst
  obtain ⟨s5, rfl, rfl, r5⟩ := h5.str
  obtain ⟨s6, rfl, rfl, r6⟩ := h6.str
  obtain ⟨x7, rfl, rfl, r7⟩ := h7.int
  obtain ⟨x8, rfl, rfl, r8⟩ := h8.int
  obtain ⟨s9, rfl, rfl, r9⟩ := h9.str
  obtain ⟨s10, rfl, rfl, r10⟩ := h10.str
  obtain ⟨l11, A11, c11, rfl, rfl, _⟩ := h11.lst
  obtain ⟨x12, rfl, rfl, r12⟩ := h12.int
  exact ⟨x0, x1, x2, s3, l4, s5, s6, x7, x8, s9, s10, l11, x12, A4, c4, A11, c11, rfl, rfl, r0, r1, r2, r3, h4, r5, r6, r7, r8, r9, r10, h11, r12⟩
abbrev shConfigOut_ : List CK := [.l 5, .l 6, .i]
theorem open_ConfigOut {B : Nat → Prop} {n : Nat} {w : World} {ds : List DC} {vs : List Value} (h : Cells B n w shConfigOut_ ds vs) : ∃ l0 l1 x2 A0 c0 A1 c1, ds = [.l l0, .l l1, .i x2] ∧ vs = [.slice A0 l0.length c0, .slice A1 l1.length c1, .int .i64 x2] ∧ Cell B n w (.l 5) (.l l0) (.slice A0 l0.length c0) ∧ Cell B n w (.l 6) (.l l1) (.slice A1 l1.length c1) ∧ R64 x2 := by
  obtain ⟨d0, ds, v0, vs, rfl, rfl, h0, h⟩ := All3.cons h
  obtain ⟨d1, ds, v1, vs, rfl, rfl, h1, h⟩ := All3.cons h
  obtain ⟨d2, ds, v2, vs, rfl, rfl, h2, h⟩ := All3.cons h
  obtain ⟨rfl, rfl⟩ := All3.nil h
  obtain ⟨l0, A0, c0, rfl, rfl, _⟩ := h0.lst
  obtain ⟨l1, A1, c1, rfl, rfl, _⟩ := h1.lst
  obtain ⟨x2, rfl, rfl, r2⟩ := h2.int
  exact ⟨l0, l1, x2, A0, c0, A1, c1, rfl, rfl, h0, h1, r2⟩
abbrev shExpandOut_ : List CK := [.l 8, .l 2, .i]
theorem open_ExpandOut {B : Nat → Prop} {n : Nat} {w : World} {ds : List DC} {vs : List Value} (h : Cells B n w shExpandOut_ ds vs) : ∃ l0 l1 x2 A0 c0 A1 c1, ds = [.l l0, .l l1, .i x2] ∧ vs = [.slice A0 l0.length c0, .slice A1 l1.length c1, .int .i64 x2] ∧ Cell B n w (.l 8) (.l l0) (.slice A0 l0.length c0) ∧ Cell B n w (.l 2) (.l l1) (.slice A1 l1.length c1) ∧ R64 x2 := by
  obtain ⟨d0, ds, v0, vs, rfl, rfl, h0, h⟩ := All3.cons h
  obtain ⟨d1, ds, v1, vs, rfl, rfl, h1, h⟩ := All3.cons h
  obtain ⟨d2, ds, v2, vs, rfl, rfl, h2, h⟩ := All3.cons h
  obtain ⟨rfl, rfl⟩ := All3.nil h
  obtain ⟨l0, A0, c0, rfl, rfl, _⟩ := h0.lst
  obtain ⟨l1, A1, c1, rfl, rfl, _⟩ := h1.lst
  obtain ⟨x2, rfl, rfl, r2⟩ := h2.int
  exact ⟨l0, l1, x2, A0, c0, A1, c1, rfl, rfl, h0, h1, r2⟩
abbrev shBookOut_ : List CK := [.l 8, .i]
theorem open_BookOut {B : Nat → Prop} {n : Nat} {w : World} {ds : List DC} {vs : List Value} (h : Cells B n w shBookOut_ ds vs) : ∃ l0 x1 A0 c0, ds = [.l l0, .i x1] ∧ vs = [.slice A0 l0.length c0, .int .i64 x1] ∧ Cell B n w (.l 8) (.l l0) (.slice A0 l0.length c0) ∧ R64 x1 := by
  obtain ⟨d0, ds, v0, vs, rfl, rfl, h0, h⟩ := All3.cons h
  obtain ⟨d1, ds, v1, vs, rfl, rfl, h1, h⟩ := All3.cons h
  obtain ⟨rfl, rfl⟩ := All3.nil h
  obtain ⟨l0, A0, c0, rfl, rfl, _⟩ := h0.lst
  obtain ⟨x1, rfl, rfl, r1⟩ := h1.int
  exact ⟨l0, x1, A0, c0, rfl, rfl, h0, r1⟩
abbrev shRewriteOut_ : List CK := [.l 8, .l 2, .l 2, .i]
theorem open_RewriteOut {B : Nat → Prop} {n : Nat} {w : World} {ds : List DC} {vs : List Value} (h : Cells B n w shRewriteOut_ ds vs) : ∃ l0 l1 l2 x3 A0 c0 A1 c1 A2 c2, ds = [.l l0, .l l1, .l l2, .i x3] ∧ vs = [.slice A0 l0.length c0, .slice A1 l1.length c1, .slice A2 l2.length c2, .int .i64 x3] ∧ Cell B n w (.l 8) (.l l0) (.slice A0 l0.length c0) ∧ Cell B n w (.l 2) (.l l1) (.slice A1 l1.length c1) ∧ Cell B n w (.l 2) (.l l2) (.slice A2 l2.length c2) ∧ R64 x3 := by
  obtain ⟨d0, ds, v0, vs, rfl, rfl, h0, h⟩ := All3.cons h
  obtain ⟨d1, ds, v1, vs, rfl, rfl, h1, h⟩ := All3.cons h
  obtain ⟨d2, ds, v2, vs, rfl, rfl, h2, h⟩ := All3.cons h
  obtain ⟨d3, ds, v3, vs, rfl, rfl, h3, h⟩ := All3.cons h
  obtain ⟨rfl, rfl⟩ := All3.nil h
  obtain ⟨l0, A0, c0, rfl, rfl, _⟩ := h0.lst
  obtain ⟨l1, A1, c1, rfl, rfl, _⟩ := h1.lst
  obtain ⟨l2, A2, c2, rfl, rfl, _⟩ := h2.lst
  obtain ⟨x3, rfl, rfl, r3⟩ := h3.int
  exact ⟨l0, l1, l2, x3, A0, c0, A1, c1, A2, c2, rfl, rfl, h0, h1, h2, r3⟩
abbrev shApplyOut_ : List CK := [.l 8, .l 2, .l 2, .i]
theorem open_ApplyOut {B : Nat → Prop} {n : Nat} {w : World} {ds : List DC} {vs : List Value} (h : Cells B n w shApplyOut_ ds vs) : ∃ l0 l1 l2 x3 A0 c0 A1 c1 A2 c2, ds = [.l l0, .l l1, .l l2, .i x3] ∧ vs = [.slice A0 l0.length c0, .slice A1 l1.length c1, .slice A2 l2.length c2, .int .i64 x3] ∧ Cell B n w (.l 8) (.l l0) (.slice A0 l0.length c0) ∧ Cell B n w (.l 2) (.l l1) (.slice A1 l1.length c1) ∧ Cell B n w (.l 2) (.l l2) (.slice A2 l2.length c2) ∧ R64 x3 := by
  obtain ⟨d0, ds, v0, vs, rfl, rfl, h0, h⟩ := All3.cons h
  obtain ⟨d1, ds, v1, vs, rfl, rfl, h1, h⟩ := All3.cons h
  obtain ⟨d2, ds, v2, vs, rfl, rfl, h2, h⟩ := All3.cons h
  obtain ⟨d3, ds, v3, vs, rfl, rfl, h3, h⟩ := All3.cons h
  obtain ⟨rfl, rfl⟩ := All3.nil h
  obtain ⟨l0, A0, c0, rfl, rfl, _⟩ := h0.lst
  obtain ⟨l1, A1, c1, rfl, rfl, _⟩ := h1.lst
  obtain ⟨l2, A2, c2, rfl, rfl, _⟩ := h2.lst
  obtain ⟨x3, rfl, rfl, r3⟩ := h3.int
  exact ⟨l0, l1, l2, x3, A0, c0, A1, c1, A2, c2, rfl, rfl, h0, h1, h2, r3⟩
abbrev shVaultOut_ : List CK := [.i, .i, .s, .l 8, .l 1, .i]
theorem open_VaultOut {B : Nat → Prop} {n : Nat} {w : World} {ds : List DC} {vs : List Value} (h : Cells B n w shVaultOut_ ds vs) : ∃ x0 x1 s2 l3 l4 x5 A3 c3 A4 c4, ds = [.i x0, .i x1, .s s2, .l l3, .l l4, .i x5] ∧ vs = [.int .i64 x0, .int .i64 x1, .string s2, .slice A3 l3.length c3, .slice A4 l4.length c4, .int .i64 x5] ∧ R64 x0 ∧ R64 x1 ∧ s2.size ≤ maxLen ∧ Cell B n w (.l 8) (.l l3) (.slice A3 l3.length c3) ∧ Cell B n w (.l 1) (.l l4) (.slice A4 l4.length c4) ∧ R64 x5 := by
  obtain ⟨d0, ds, v0, vs, rfl, rfl, h0, h⟩ := All3.cons h
  obtain ⟨d1, ds, v1, vs, rfl, rfl, h1, h⟩ := All3.cons h
  obtain ⟨d2, ds, v2, vs, rfl, rfl, h2, h⟩ := All3.cons h
  obtain ⟨d3, ds, v3, vs, rfl, rfl, h3, h⟩ := All3.cons h
  obtain ⟨d4, ds, v4, vs, rfl, rfl, h4, h⟩ := All3.cons h
  obtain ⟨d5, ds, v5, vs, rfl, rfl, h5, h⟩ := All3.cons h
  obtain ⟨rfl, rfl⟩ := All3.nil h
  obtain ⟨x0, rfl, rfl, r0⟩ := h0.int
  obtain ⟨x1, rfl, rfl, r1⟩ := h1.int
  obtain ⟨s2, rfl, rfl, r2⟩ := h2.str
  obtain ⟨l3, A3, c3, rfl, rfl, _⟩ := h3.lst
  obtain ⟨l4, A4, c4, rfl, rfl, _⟩ := h4.lst
  obtain ⟨x5, rfl, rfl, r5⟩ := h5.int
  exact ⟨x0, x1, s2, l3, l4, x5, A3, c3, A4, c4, rfl, rfl, r0, r1, r2, h3, h4, r5⟩
end Go.Proofs.YtflfnekaiaplfaaGreat.un
