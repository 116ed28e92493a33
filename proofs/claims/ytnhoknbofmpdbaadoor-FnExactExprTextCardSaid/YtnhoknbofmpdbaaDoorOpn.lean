/- What comes in, opened: lists of texts, addresses. -/
import Derived.Test.YtnhoknbofmpdbaaDoorMem
import Derived.ProofKit
import Derived.OpenShut
import Derived.ShutString
import Derived.ChangeOld
import Derived.Deep.Strs
namespace Go.Proofs.YtnhoknbofmpdbaaDoor.opn
open ad mem
open Go.ChangeShapes Go.WideShapes Go.ChangeAt Go.RowKit Go.Lib Go.Deep
set_option linter.unusedVariables false
set_option maxRecDepth 8000
set_option linter.unusedSimpArgs false

structure AddrIn (w : World) (A : Option Addr) (d : AddrD) : Prop where
  strs : Strs w A d.path
  len : d.path.length ≤ maxLen
  typ : d.typ.size ≤ maxLen
  nam : d.nam.size ≤ maxLen
  key : d.key.size ≤ maxLen
  kind : (Lit.int .i64 d.kind).wf = true
  n : (Lit.int .i64 d.n).wf = true

section
variable {H : Type} {enc : TypeId × Value → H} {w : World} {base : Nat} {spare : Nat → Bool} {held : Bool}

theorem open_list {fuel : Nat} {cs : List Value} {x : DataW H × List MemPlace} (h : DataW.trod enc Tryd.prog w base spare held fuel 22 cs = some x) :
    ∃ A c l, cs = [.slice A l.length c] ∧ Strs w A l ∧ l.length ≤ maxLen := by
  rcases open_strs Tryd.underlying22 Tryd.underlying9 (by kernel_rfl) h with ⟨hcs, _⟩ | ⟨a, len, cap, m, Sx, hcs, _, hl, hm, hmm, _, hcell⟩
  · exact ⟨none, 0, [], hcs, Strs.nil _ _, by simp⟩
  · have hlm : len ≤ m := by rw [hmm]; split <;> omega
    refine ⟨some a, cap, (List.range len).map Sx, by simpa using hcs, fun k hk => ?_, by simpa using Nat.le_trans hl hm⟩
    have hk' : k < len := by simpa using hk
    obtain ⟨hc, hs⟩ := hcell k (by omega)
    obtain ⟨b, off, spot⟩ := a
    have hspot : spot = none := by simpa [Addr.add] using World.cell?_spot (hcell 0 (by omega)).1
    subst hspot
    have e : (⟨b, off, none⟩ : Addr).add k = ⟨b, off + k, none⟩ := by unfold Addr.add; split <;> simp_all
    rw [e] at hc
    exact ⟨b, off, rfl, World.block_lt_of_cell? _ _ hc, by simpa using hc, by simpa using hs⟩

theorem field_at {t : TypeId} {fs : Array Field} {fuel : Nat} {cs : List Value} {x : DataW H × List MemPlace} (ht : Tryd.prog.underlying t = some (.struct fs)) (h : DataW.trod enc Tryd.prog w base spare held fuel t cs = some x)
    (i ty off k : Nat) (hi : (fs[i]?).map (fun f => (f.type, f.offset)) = some (ty, off)) (hk : Tryd.prog.cellsOf ty = k) : ∃ n y, DataW.trod enc Tryd.prog w base spare held n ty ((cs.drop off).take k) = some y := by
  obtain ⟨xs, n, _, _, _, hl, hf⟩ := DataW.trod_struct ht h
  cases hfi : fs[i]? with
  | none => rw [hfi] at hi; cases hi
  | some f =>
    rw [hfi] at hi
    simp only [Option.map_some, Option.some.injEq, Prod.mk.injEq] at hi
    obtain ⟨rfl, rfl⟩ := hi
    have hlt : i < xs.length := by rw [hl]; exact (Array.getElem?_eq_some_iff.1 hfi).1
    exact ⟨n, xs[i], by rw [← hk, hf i f hfi, List.getElem?_eq_getElem hlt]⟩
theorem cells_len {t : TypeId} {fs : Array Field} {fuel : Nat} {cs : List Value} {x : DataW H × List MemPlace} (ht : Tryd.prog.underlying t = some (.struct fs)) (h : DataW.trod enc Tryd.prog w base spare held fuel t cs = some x) : cs.length = Tryd.prog.cellsOf t := by
  obtain ⟨xs, n, _, _, hl, _, _⟩ := DataW.trod_struct ht h
  exact hl

theorem cellsA : Tryd.prog.cellsOf 42 = 6 := by kernel_rfl
theorem cellsS : Tryd.prog.cellsOf 9 = 1 := by kernel_rfl
theorem cellsI : Tryd.prog.cellsOf 2 = 1 := by kernel_rfl
theorem cellsL : Tryd.prog.cellsOf 22 = 1 := by kernel_rfl

theorem cells_addr {fuel : Nat} {cs : List Value} {x : DataW H × List MemPlace} (h : DataW.trod enc Tryd.prog w base spare held fuel 42 cs = some x) :
    ∃ A c d, cs = [.slice A d.path.length c, .string d.typ, .string d.nam, .int .i64 d.kind, .int .i64 d.n, .string d.key] ∧ AddrIn w A d := by
  have hu := Tryd.underlying42
  have hl := cells_len hu h
  rw [cellsA] at hl
  obtain ⟨n0, y0, h0⟩ := field_at hu h 0 22 0 1 rfl cellsL
  obtain ⟨n1, y1, h1⟩ := field_at hu h 1 9 1 1 rfl cellsS
  obtain ⟨n2, y2, h2⟩ := field_at hu h 2 9 2 1 rfl cellsS
  obtain ⟨n3, y3, h3⟩ := field_at hu h 3 2 3 1 rfl cellsI
  obtain ⟨n4, y4, h4⟩ := field_at hu h 4 2 4 1 rfl cellsI
  obtain ⟨n5, y5, h5⟩ := field_at hu h 5 9 5 1 rfl cellsS
  match cs, hl with
  | [c0, c1, c2, c3, c4, c5], _ =>
    simp only [List.drop, List.take] at h0 h1 h2 h3 h4 h5
    obtain ⟨A, c, l, e0, hs, hll⟩ := open_list h0
    obtain ⟨s1, e1, _, z1⟩ := DataW.trod_string Tryd.underlying9 h1
    obtain ⟨s2, e2, _, z2⟩ := DataW.trod_string Tryd.underlying9 h2
    obtain ⟨k, e3, _, z3⟩ := DataW.trod_int Tryd.underlying2 h3
    obtain ⟨n, e4, _, z4⟩ := DataW.trod_int Tryd.underlying2 h4
    obtain ⟨s5, e5, _, z5⟩ := DataW.trod_string Tryd.underlying9 h5
    simp only [List.cons.injEq, and_true] at e0 e1 e2 e3 e4 e5
    subst e0 e1 e2 e3 e4 e5
    exact ⟨A, c, ⟨l, s1, s2, k, n, s5⟩, rfl, ⟨hs, hll, z1, z2, z5, z3, z4⟩⟩

theorem open_addr {r : Reach} {b0 : Nat} {v : Value} {d : DataW H} {p : List MemPlace} (hv : Value.okWide Tryd.prog w r b0 42 v) (h : DataW.Trod enc Tryd.prog w base spare held 42 v d p) :
    ∃ A c D, v = .agg #[.slice A D.path.length c, .string D.typ, .string D.nam, .int .i64 D.kind, .int .i64 D.n, .string D.key] ∧ AddrIn w A D := by
  obtain ⟨cs, rfl, _⟩ := okWide_struct Tryd.underlying42 hv
  obtain ⟨fuel, hf⟩ := h
  obtain ⟨A, c, D, e, hD⟩ := cells_addr hf
  refine ⟨A, c, D, ?_, hD⟩
  obtain ⟨l⟩ := cs
  simp [Value.cells] at e
  rw [e]
theorem open_words {r : Reach} {b0 : Nat} {v : Value} {d : DataW H} {p : List MemPlace} (hv : Value.okWide Tryd.prog w r b0 22 v) (h : DataW.Trod enc Tryd.prog w base spare held 22 v d p) :
    ∃ A c l, v = .slice A l.length c ∧ Strs w A l ∧ l.length ≤ maxLen := by
  obtain ⟨a, n, c, rfl⟩ := okWide_slice Tryd.underlying22 hv
  obtain ⟨fuel, hf⟩ := h
  obtain ⟨A, c', l, e, hD⟩ := open_list hf
  simp [Value.cells] at e
  exact ⟨A, c', l, by simp [e], hD⟩
end
end Go.Proofs.YtnhoknbofmpdbaaDoor.opn
