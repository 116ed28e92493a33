/- An expression that comes in, opened. -/
import Derived.Test.YtnhoknbofmpdbaaDoorOpV
import Derived.Test.YtnhoknbofmpdbaaDoorEx
import Derived.Deep.Slices
namespace Go.Proofs.YtnhoknbofmpdbaaDoor.ope
open ad mem opn opv vl ex
open Go.ChangeShapes Go.WideShapes Go.ChangeAt Go.RowKit Go.Lib Go.Deep
set_option linter.unusedVariables false
set_option maxRecDepth 8000
set_option linter.unusedSimpArgs false

section
variable {H : Type} {enc : TypeId × Value → H} {w : World} {base : Nat} {spare : Nat → Bool} {held : Bool}
theorem cellsX : Tryd.prog.cellsOf 45 = 12 := by kernel_rfl
theorem cellsXs : Tryd.prog.cellsOf 43 = 1 := by kernel_rfl

theorem field_fuel {t : TypeId} {fs : Array Field} {fuel : Nat} {cs : List Value} {x : DataW H × List MemPlace} (ht : Tryd.prog.underlying t = some (.struct fs)) (h : DataW.trod enc Tryd.prog w base spare held (fuel + 1) t cs = some x)
    (i ty off k : Nat) (hi : (fs[i]?).map (fun f => (f.type, f.offset)) = some (ty, off)) (hk : Tryd.prog.cellsOf ty = k) : ∃ y, DataW.trod enc Tryd.prog w base spare held fuel ty ((cs.drop off).take k) = some y := by
  obtain ⟨xs, n, hfu, _, _, hl, hf⟩ := DataW.trod_struct ht h
  obtain rfl : fuel = n := by omega
  cases hfi : fs[i]? with
  | none => rw [hfi] at hi; cases hi
  | some f =>
    rw [hfi] at hi
    simp only [Option.map_some, Option.some.injEq, Prod.mk.injEq] at hi
    obtain ⟨rfl, rfl⟩ := hi
    have hlt : i < xs.length := by rw [hl]; exact (Array.getElem?_eq_some_iff.1 hfi).1
    exact ⟨xs[i], by rw [← hk, hf i f hfi, List.getElem?_eq_getElem hlt]⟩

theorem cells_expr : ∀ (fuel : Nat) {cs : List Value} {x : DataW H × List MemPlace}, DataW.trod enc Tryd.prog w base spare held fuel 45 cs = some x →
    ∃ e pa pc aa ac, cs = cellsE e pa pc aa ac ∧ In 0 fuel w pa aa e := fun fuel => by
  induction fuel using Nat.strongRecOn with
  | ind fuel ih =>
    intro cs x h
    cases fuel with
    | zero => simp [DataW.trod] at h
    | succ f =>
      have hu := Tryd.underlying45
      have hl := cells_len hu h
      rw [cellsX] at hl
      obtain ⟨y0, h0⟩ := field_fuel hu h 0 2 0 1 rfl cellsI
      obtain ⟨y1, h1⟩ := field_fuel hu h 1 32 1 3 rfl cellsV
      obtain ⟨y2, h2⟩ := field_fuel hu h 2 42 4 6 rfl cellsA
      obtain ⟨y3, h3⟩ := field_fuel hu h 3 9 10 1 rfl cellsS
      obtain ⟨y4, h4⟩ := field_fuel hu h 4 43 11 1 rfl cellsXs
      match cs, hl with
      | [c0, c1, c2, c3, c4, c5, c6, c7, c8, c9, c10, c11], _ =>
        simp only [List.drop, List.take] at h0 h1 h2 h3 h4
        obtain ⟨k, e0, _, z0⟩ := DataW.trod_int Tryd.underlying2 h0
        obtain ⟨v, e1, hv⟩ := cells_val h1
        obtain ⟨pa, pc, a, e2, ha⟩ := cells_addr h2
        obtain ⟨p, e3, _, z3⟩ := DataW.trod_string Tryd.underlying9 h3
        have hargs : ∃ (aa : Option Addr) (ac : Nat) (l : List ExprD), c11 = .slice aa l.length ac ∧ Ar f 0 w aa l ∧ l.length ≤ maxLen := by
          rcases DataW.trod_slice Tryd.underlying43 h4 with ⟨hcs, _⟩ | ⟨ad, len, cap, elems, rest, m, hm, hcs, _, hb, hlc, hcm, hel, hat, _, _⟩
          · simp only [List.cons.injEq, and_true] at hcs
            exact ⟨none, 0, [], by rw [hcs]; rfl, Ar.nil _ _ _ _, by simp [maxLen]⟩
          · subst hm
            simp only [List.cons.injEq, and_true] at hcs
            have hsp : 0 < len → ad.spot = none := by
              intro h0
              have h5 := hat 0 h0
              have hlt : 0 < elems.length := by omega
              rw [List.getElem?_eq_getElem hlt, Option.bind_eq_some_iff] at h5
              obtain ⟨cs', hc1, hc2⟩ := h5
              obtain ⟨_, hlen, hcell⟩ := World.cells?_some hc1
              rw [cellsX] at hlen hcell
              have h00 := hcell 0 (by omega)
              rw [List.getElem?_eq_getElem (by omega)] at h00
              have := World.cell?_spot h00
              simpa [Addr.add] using this
            have hE : ∀ i : Nat, ∃ e : ExprD, i < len → ∃ pa pc aa ac b o, ad = ⟨b, o, none⟩ ∧ b < w.heap.size ∧ w.rangeAt b (o + i * 12) (cellsE e pa pc aa ac) ∧ In 0 m w pa aa e := by
              intro i
              by_cases hi : i < len
              · have h5 := hat i hi
                have hlt : i < elems.length := by omega
                rw [List.getElem?_eq_getElem hlt, Option.bind_eq_some_iff] at h5
                obtain ⟨cs', hc1, hc2⟩ := h5
                obtain ⟨e, pa, pc, aa, ac, hce, hE⟩ := ih m (by omega) hc2
                obtain ⟨_, hlen, hcell⟩ := World.cells?_some hc1
                rw [cellsX] at hlen hcell
                have h00 := hcell 0 (by omega)
                rw [List.getElem?_eq_getElem (by omega)] at h00
                obtain ⟨b, o, spot⟩ := ad
                have hspot : spot = none := hsp (by omega)
                subst hspot
                have hadd : ∀ j, ((⟨b, o, none⟩ : Addr).add (i * 12)).add j = ⟨b, o + i * 12 + j, none⟩ := fun j => by simp [Addr.add_mid]
                rw [cellsX] at hc1
                refine ⟨e, fun _ => ⟨pa, pc, aa, ac, b, o, rfl, ?_, ?_, hE⟩⟩
                · rw [hadd] at h00
                  exact World.block_lt_of_cell? _ _ h00
                · intro j v hv
                  have hj : j < 12 := by rw [← hce] at hv; have := (List.getElem?_eq_some_iff.1 hv).1; omega
                  have := hcell j hj
                  rw [hadd, hce, hv] at this
                  exact this
              · exact ⟨.mk 0 zeroV zeroA ByteArray.empty [], fun h => absurd h hi⟩
            obtain ⟨E, hE⟩ := Classical.axiomOfChoice hE
            refine ⟨some ad, cap, (List.range len).map E, by simpa using hcs, ?_, by simpa using Nat.le_trans hlc hcm⟩
            intro k hk
            have hk' : k < len := by simpa using hk
            obtain ⟨pa, pc, aa, ac, b, o, rfl, hbl, hr, hin⟩ := hE k hk'
            exact ⟨b, o, pa, pc, aa, ac, rfl, Nat.zero_le _, hbl, by simpa using hr, by simpa using hin.strs, Lo.zero _, by simpa using hin.args, by simpa using hin.sz⟩
        obtain ⟨aa, ac, l, e4, har, hll⟩ := hargs
        simp only [List.cons.injEq, and_true] at e0 e1 e2 e3
        obtain ⟨rfl, rfl, rfl⟩ := e1
        obtain ⟨rfl, rfl, rfl, rfl, rfl, rfl⟩ := e2
        subst e0 e3 e4
        exact ⟨.mk k v a p l, pa, pc, aa, ac, rfl, ⟨ha.strs, Lo.zero _, Ar.up har, ⟨hv.text, ha.len, ha.typ, ha.nam, ha.key, z3, hll⟩⟩⟩

theorem open_expr {r : Reach} {b0 : Nat} {v : Value} {d : DataW H} {p : List MemPlace} (hv : Value.okWide Tryd.prog w r b0 45 v) (h : DataW.Trod enc Tryd.prog w base spare held 45 v d p) :
    ∃ E pa pc aa ac n, v = .agg #[.int .i64 E.kind, .int .i64 E.val.kind, .int .i64 E.val.n, .string E.val.text, .slice pa E.addr.path.length pc, .string E.addr.typ, .string E.addr.nam, .int .i64 E.addr.kind, .int .i64 E.addr.n, .string E.addr.key, .string E.prop, .slice aa E.args.length ac] ∧ In 0 n w pa aa E := by
  obtain ⟨cs, rfl, _⟩ := okWide_struct Tryd.underlying45 hv
  obtain ⟨fuel, hf⟩ := h
  obtain ⟨E, pa, pc, aa, ac, e, hD⟩ := cells_expr fuel hf
  refine ⟨E, pa, pc, aa, ac, fuel, ?_, hD⟩
  obtain ⟨l⟩ := cs
  simp [Value.cells] at e
  rw [e]; rfl
end
end Go.Proofs.YtnhoknbofmpdbaaDoor.ope
