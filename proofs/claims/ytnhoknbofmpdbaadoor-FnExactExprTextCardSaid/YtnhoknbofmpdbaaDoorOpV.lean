/- A value that comes in, opened. -/
import Derived.Test.YtnhoknbofmpdbaaDoorOpn
import Derived.Test.YtnhoknbofmpdbaaDoorVl
namespace Go.Proofs.YtnhoknbofmpdbaaDoor.opv
open ad mem opn vl
open Go.ChangeShapes Go.WideShapes Go.ChangeAt Go.RowKit Go.Lib Go.Deep
set_option linter.unusedVariables false
set_option maxRecDepth 8000
set_option linter.unusedSimpArgs false

structure ValIn (v : ValD) : Prop where
  text : v.text.size ≤ maxLen
  kind : (Lit.int .i64 v.kind).wf = true
  n : (Lit.int .i64 v.n).wf = true

section
variable {H : Type} {enc : TypeId × Value → H} {w : World} {base : Nat} {spare : Nat → Bool} {held : Bool}
theorem cellsV : Tryd.prog.cellsOf 32 = 3 := by kernel_rfl
theorem cells_val {fuel : Nat} {cs : List Value} {x : DataW H × List MemPlace} (h : DataW.trod enc Tryd.prog w base spare held fuel 32 cs = some x) :
    ∃ v : ValD, cs = [.int .i64 v.kind, .int .i64 v.n, .string v.text] ∧ ValIn v := by
  have hu := Tryd.underlying32
  have hl := cells_len hu h
  rw [cellsV] at hl
  obtain ⟨n0, y0, h0⟩ := field_at hu h 0 2 0 1 rfl cellsI
  obtain ⟨n1, y1, h1⟩ := field_at hu h 1 2 1 1 rfl cellsI
  obtain ⟨n2, y2, h2⟩ := field_at hu h 2 9 2 1 rfl cellsS
  match cs, hl with
  | [c0, c1, c2], _ =>
    simp only [List.drop, List.take] at h0 h1 h2
    obtain ⟨k, e0, _, z0⟩ := DataW.trod_int Tryd.underlying2 h0
    obtain ⟨n, e1, _, z1⟩ := DataW.trod_int Tryd.underlying2 h1
    obtain ⟨s, e2, _, z2⟩ := DataW.trod_string Tryd.underlying9 h2
    simp only [List.cons.injEq, and_true] at e0 e1 e2
    subst e0 e1 e2
    exact ⟨⟨k, n, s⟩, rfl, ⟨z2, z0, z1⟩⟩
theorem open_val {r : Reach} {b0 : Nat} {v : Value} {d : DataW H} {p : List MemPlace} (hv : Value.okWide Tryd.prog w r b0 32 v) (h : DataW.Trod enc Tryd.prog w base spare held 32 v d p) :
    ∃ D : ValD, v = .agg #[.int .i64 D.kind, .int .i64 D.n, .string D.text] ∧ ValIn D := by
  obtain ⟨cs, rfl, _⟩ := okWide_struct Tryd.underlying32 hv
  obtain ⟨fuel, hf⟩ := h
  obtain ⟨D, e, hD⟩ := cells_val hf
  refine ⟨D, ?_, hD⟩
  obtain ⟨l⟩ := cs
  simp [Value.cells] at e
  rw [e]
end
end Go.Proofs.YtnhoknbofmpdbaaDoor.opv
