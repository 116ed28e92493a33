/- What comes in, opened: data of any shape. -/
import Derived.Test.YtflfnekaiaplfaaGreatUc
import Derived.ProofKit
import Derived.OpenShut
import Derived.ShutString
import Derived.ChangeOld
import Derived.Deep.Slices
namespace Go.Proofs.YtflfnekaiaplfaaGreat.un
open Go.ChangeShapes Go.WideShapes Go.ChangeAt Go.RowKit Go.Lib Go.Deep
set_option linter.unusedVariables false
set_option maxRecDepth 8000
set_option linter.unusedSimpArgs false

theorem R64.of_wf {x : Int} (h : (Lit.int .i64 x).wf = true) : R64 x := by
  show -9223372036854775808 ≤ x ∧ x ≤ 9223372036854775807
  simpa [Lit.wf, IntKind.min, IntKind.max, IntKind.signed, IntKind.bits] using h
theorem All3.app {R : CK → DC → Value → Prop} : ∀ {ks ds vs} {ks2 ds2 vs2}, All3 R ks ds vs → All3 R ks2 ds2 vs2 → All3 R (ks ++ ks2) (ds ++ ds2) (vs ++ vs2)
  | [], [], [], _, _, _, _, h => h
  | _ :: _, _ :: _, _ :: _, _, _, _, h1, h => ⟨h1.1, All3.app h1.2 h⟩
  | [], [], _ :: _, _, _, _, hh, _ => hh.elim
  | [], _ :: _, _, _, _, _, hh, _ => hh.elim
  | _ :: _, [], _, _, _, _, hh, _ => hh.elim
  | _ :: _, _ :: _, [], _, _, _, hh, _ => hh.elim

section
variable {H : Type} {enc : TypeId × Value → H} {w : World} {base : Nat} {spare : Nat → Bool} {held : Bool}
theorem in_field {t : TypeId} {fs : Array Field} {fuel : Nat} {cs : List Value} {x : DataW H × List MemPlace} (ht : Tryz.prog.underlying t = some (.struct fs)) (h : DataW.trod enc Tryz.prog w base spare held (fuel + 1) t cs = some x)
    (i ty off k : Nat) (hi : (fs[i]?).map (fun f => (f.type, f.offset)) = some (ty, off)) (hk : Tryz.prog.cellsOf ty = k) : ∃ y, DataW.trod enc Tryz.prog w base spare held fuel ty ((cs.drop off).take k) = some y := by
  obtain ⟨xs, n, hfu, _, _, hl, hf⟩ := DataW.trod_struct ht h
  obtain rfl : fuel = n := by omega
  cases hfi : fs[i]? with
  | none => rw [hfi] at hi; cases hi
  | some f =>
    rw [hfi] at hi
    simp only [Option.map_some, Option.some.injEq, Prod.mk.injEq] at hi
    obtain ⟨rfl, rfl⟩ := hi
    have hlt : i < xs.length := by rw [hl]; exact (Array.getElem?_eq_some_iff.1 hfi).1
    exact ⟨xs[i], by rw [← hk, hf i f hfi, List.getElem?_eq_getElem hlt]⟩
theorem in_len {t : TypeId} {fs : Array Field} {fuel : Nat} {cs : List Value} {x : DataW H × List MemPlace} (ht : Tryz.prog.underlying t = some (.struct fs)) (h : DataW.trod enc Tryz.prog w base spare held fuel t cs = some x) : cs.length = Tryz.prog.cellsOf t := by
  obtain ⟨xs, n, _, _, hl, _, _⟩ := DataW.trod_struct ht h
  exact hl
theorem in_pos {t : TypeId} {fs : Array Field} {fuel : Nat} {cs : List Value} {x : DataW H × List MemPlace} (ht : Tryz.prog.underlying t = some (.struct fs)) (h : DataW.trod enc Tryz.prog w base spare held fuel t cs = some x) : ∃ f, fuel = f + 1 := by
  cases fuel with
  | zero => simp [DataW.trod] at h
  | succ f => exact ⟨f, rfl⟩
/-- what a type's cells are. -/
def InT (H : Type) (enc : TypeId × Value → H) (w : World) (base : Nat) (spare : Nat → Bool) (held : Bool) (fuel : Nat) (t : TypeId) (ks : List CK) : Prop := ∀ {cs : List Value} {x : DataW H × List MemPlace}, DataW.trod enc Tryz.prog w base spare held fuel t cs = some x → ∃ ds, Cells Any fuel w ks ds cs
theorem in_int64 {fuel : Nat} : InT H enc w base spare held fuel 2 [.i] := fun h => by
  obtain ⟨k, e0, _, z0⟩ := DataW.trod_int Tryz.underlying2 h
  subst e0
  exact ⟨[.i k], Cell.mkI (R64.of_wf z0), trivial⟩
theorem in_string {fuel : Nat} : InT H enc w base spare held fuel 9 [.s] := fun h => by
  obtain ⟨k, e0, _, z0⟩ := DataW.trod_string Tryz.underlying9 h
  subst e0
  exact ⟨[.s k], Cell.mkS z0, trivial⟩
theorem in_slice {fuel : Nat} {t te : TypeId} {e N : Nat} (hu : Tryz.prog.underlying t = some (.slice te)) (hN : Tryz.prog.cellsOf te = N) (hs : (sh e).length = N) (h0 : 0 < N) (K : ∀ m, m < fuel → InT H enc w base spare held m te (sh e)) : InT H enc w base spare held fuel t [.l e] := fun {cs x} h => by
  rcases DataW.trod_slice hu h with ⟨hcs, _⟩ | ⟨ad, len, cap, elems, rest, m, hm, hcs, _, hb, hlc, hcm, hel, hat, _, _⟩
  · subst hcs
    refine ⟨[.l []], ?_, trivial⟩
    cases fuel with
    | zero => exact ⟨⟨none, 0, rfl⟩, rfl⟩
    | succ f => exact ⟨none, 0, rfl, by simp [maxLen], fun k hk => absurd hk (by simp)⟩
  · subst hm
    subst hcs
    have hsp : 0 < len → ad.spot = none := by
      intro h0
      have h5 := hat 0 h0
      have hlt : 0 < elems.length := by omega
      rw [List.getElem?_eq_getElem hlt, Option.bind_eq_some_iff] at h5
      obtain ⟨cs', hc1, hc2⟩ := h5
      obtain ⟨_, hlen, hcell⟩ := World.cells?_some hc1
      rw [hN] at hlen hcell
      have h00 := hcell 0 (by omega)
      rw [List.getElem?_eq_getElem (by omega)] at h00
      have := World.cell?_spot h00
      simpa [Addr.add] using this
    have hE : ∀ i : Nat, ∃ ds : List DC, i < len → ∃ b o us, ad = ⟨b, o, none⟩ ∧ b < w.heap.size ∧ w.rangeAt b (o + i * N) us ∧ Cells Any m w (sh e) ds us := by
      intro i
      by_cases hi : i < len
      · have h5 := hat i hi
        have hlt : i < elems.length := by omega
        rw [List.getElem?_eq_getElem hlt, Option.bind_eq_some_iff] at h5
        obtain ⟨cs', hc1, hc2⟩ := h5
        obtain ⟨ds, hD⟩ := K m (by omega) hc2
        obtain ⟨_, hlen, hcell⟩ := World.cells?_some hc1
        rw [hN] at hlen hcell
        have h00 := hcell 0 (by omega)
        rw [List.getElem?_eq_getElem (by omega)] at h00
        obtain ⟨b, o, spot⟩ := ad
        have hspot : spot = none := hsp (by omega)
        subst hspot
        have hadd : ∀ j, ((⟨b, o, none⟩ : Addr).add (i * N)).add j = ⟨b, o + i * N + j, none⟩ := fun j => by simp [Addr.add_mid]
        refine ⟨ds, fun _ => ⟨b, o, cs', rfl, ?_, ?_, hD⟩⟩
        · rw [hadd] at h00
          exact World.block_lt_of_cell? _ _ h00
        · intro j v hv
          have hj : j < N := by have := (List.getElem?_eq_some_iff.1 hv).1; omega
          have := hcell j hj
          rw [hadd, hv] at this
          exact this
      · exact ⟨[], fun h => absurd h hi⟩
    obtain ⟨E, hE⟩ := Classical.axiomOfChoice hE
    refine ⟨[.l ((List.range len).map E)], ⟨some ad, cap, by simp, by simpa using Nat.le_trans hlc hcm, fun k hk => ?_⟩, trivial⟩
    have hk' : k < len := by simpa using hk
    obtain ⟨b, o, us, rfl, hbl, hr, hin⟩ := hE k hk'
    exact ⟨b, o, us, rfl, trivial, hbl, by rw [hs]; exact hr, by simpa using hin⟩
theorem open_lst {n e : Nat} {t te : TypeId} {r : Reach} {b0 : Nat} {v : Value} {d : DataW H} {p : List MemPlace} (hu : Tryz.prog.underlying t = some (.slice te)) (K : ∀ n, InT H enc w base spare held n t [.l e]) (hv : Value.okWide Tryz.prog w r b0 t v) (h : DataW.Trod enc Tryz.prog w base spare held t v d p) :
    ∃ n xs A c, v = .slice A xs.length c ∧ Cell Any n w (.l e) (.l xs) v := by
  obtain ⟨a, n, c, rfl⟩ := okWide_slice hu hv
  obtain ⟨fuel, hf⟩ := h
  obtain ⟨ds, hD⟩ := K fuel hf
  obtain ⟨d0, ds0, v0, vs0, rfl, e0, h1, h2⟩ := All3.cons hD
  obtain ⟨rfl, rfl⟩ := All3.nil h2
  obtain ⟨xs, A, c', rfl, rfl, _⟩ := h1.lst
  simp [Value.cells] at e0
  obtain ⟨rfl, rfl, rfl⟩ := e0
  exact ⟨fuel, xs, _, _, rfl, h1⟩
theorem open_str_ {ks : List CK} {t : TypeId} {fs : Array Field} {r : Reach} {b0 : Nat} {v : Value} {d : DataW H} {p : List MemPlace} (hu : Tryz.prog.underlying t = some (.struct fs)) (K : ∀ n, InT H enc w base spare held n t ks) (hv : Value.okWide Tryz.prog w r b0 t v) (h : DataW.Trod enc Tryz.prog w base spare held t v d p) :
    ∃ n ds vs, v = .agg vs.toArray ∧ Cells Any n w ks ds vs := by
  obtain ⟨cs, rfl, _⟩ := okWide_struct hu hv
  obtain ⟨fuel, hf⟩ := h
  obtain ⟨ds, hD⟩ := K fuel hf
  obtain ⟨l⟩ := cs
  simp [Value.cells] at hD
  exact ⟨fuel, ds, l, rfl, hD⟩
theorem in_StringS {fuel : Nat} : InT H enc w base spare held fuel 23 [.l 0] := in_slice Tryz.underlying23 (by kernel_rfl) (N := 1) rfl (by omega) (fun m _ => in_string)
theorem ncells_Addr : Tryz.prog.cellsOf 25 = 6 := by kernel_rfl
theorem in_Addr_of {fuel : Nat} (KStringS : InT H enc w base spare held fuel 23 [.l 0]) : InT H enc w base spare held (fuel + 1) 25 shAddr_ := fun {cs x} h => by
  have hu := Tryz.underlying25
  have hl := in_len hu h
  rw [ncells_Addr] at hl
  obtain ⟨y0, h0⟩ := in_field hu h 0 23 0 1 rfl (by kernel_rfl)
  obtain ⟨y1, h1⟩ := in_field hu h 1 9 1 1 rfl (by kernel_rfl)
  obtain ⟨y2, h2⟩ := in_field hu h 2 9 2 1 rfl (by kernel_rfl)
  obtain ⟨y3, h3⟩ := in_field hu h 3 2 3 1 rfl (by kernel_rfl)
  obtain ⟨y4, h4⟩ := in_field hu h 4 2 4 1 rfl (by kernel_rfl)
  obtain ⟨y5, h5⟩ := in_field hu h 5 9 5 1 rfl (by kernel_rfl)
  match cs, hl with
  | [c0, c1, c2, c3, c4, c5], _ =>
    simp only [List.drop, List.take] at h0 h1 h2 h3 h4 h5
    obtain ⟨d0, g0⟩ := KStringS h0
    obtain ⟨d1, g1⟩ := in_string h1
    obtain ⟨d2, g2⟩ := in_string h2
    obtain ⟨d3, g3⟩ := in_int64 h3
    obtain ⟨d4, g4⟩ := in_int64 h4
    obtain ⟨d5, g5⟩ := in_string h5
    exact ⟨d0 ++ (d1 ++ (d2 ++ (d3 ++ (d4 ++ (d5))))), All3.app (Cells.ups g0 (Nat.le_succ _)) (All3.app (Cells.ups g1 (Nat.le_succ _)) (All3.app (Cells.ups g2 (Nat.le_succ _)) (All3.app (Cells.ups g3 (Nat.le_succ _)) (All3.app (Cells.ups g4 (Nat.le_succ _)) (Cells.ups g5 (Nat.le_succ _))))))⟩
theorem in_Addr {fuel : Nat} : InT H enc w base spare held fuel 25 shAddr_ := fun h => by
  obtain ⟨f, rfl⟩ := in_pos Tryz.underlying25 h
  exact in_Addr_of in_StringS h
theorem ncells_Value : Tryz.prog.cellsOf 76 = 3 := by kernel_rfl
theorem in_Value_of {fuel : Nat} : InT H enc w base spare held (fuel + 1) 76 shValue_ := fun {cs x} h => by
  have hu := Tryz.underlying76
  have hl := in_len hu h
  rw [ncells_Value] at hl
  obtain ⟨y0, h0⟩ := in_field hu h 0 2 0 1 rfl (by kernel_rfl)
  obtain ⟨y1, h1⟩ := in_field hu h 1 2 1 1 rfl (by kernel_rfl)
  obtain ⟨y2, h2⟩ := in_field hu h 2 9 2 1 rfl (by kernel_rfl)
  match cs, hl with
  | [c0, c1, c2], _ =>
    simp only [List.drop, List.take] at h0 h1 h2
    obtain ⟨d0, g0⟩ := in_int64 h0
    obtain ⟨d1, g1⟩ := in_int64 h1
    obtain ⟨d2, g2⟩ := in_string h2
    exact ⟨d0 ++ (d1 ++ (d2)), All3.app (Cells.ups g0 (Nat.le_succ _)) (All3.app (Cells.ups g1 (Nat.le_succ _)) (Cells.ups g2 (Nat.le_succ _)))⟩
theorem in_Value {fuel : Nat} : InT H enc w base spare held fuel 76 shValue_ := fun h => by
  obtain ⟨f, rfl⟩ := in_pos Tryz.underlying76 h
  exact in_Value_of h
theorem in_AddrS {fuel : Nat} : InT H enc w base spare held fuel 27 [.l 2] := in_slice Tryz.underlying27 (by kernel_rfl) (N := 6) rfl (by omega) (fun m _ => in_Addr)
theorem ncells_Pair : Tryz.prog.cellsOf 78 = 4 := by kernel_rfl
theorem in_Pair_of {fuel : Nat} (KValue : InT H enc w base spare held fuel 76 shValue_) : InT H enc w base spare held (fuel + 1) 78 shPair_ := fun {cs x} h => by
  have hu := Tryz.underlying78
  have hl := in_len hu h
  rw [ncells_Pair] at hl
  obtain ⟨y0, h0⟩ := in_field hu h 0 9 0 1 rfl (by kernel_rfl)
  obtain ⟨y1, h1⟩ := in_field hu h 1 76 1 3 rfl (by kernel_rfl)
  match cs, hl with
  | [c0, c1, c2, c3], _ =>
    simp only [List.drop, List.take] at h0 h1
    obtain ⟨d0, g0⟩ := in_string h0
    obtain ⟨d1, g1⟩ := KValue h1
    exact ⟨d0 ++ (d1), All3.app (Cells.ups g0 (Nat.le_succ _)) (Cells.ups g1 (Nat.le_succ _))⟩
theorem in_Pair {fuel : Nat} : InT H enc w base spare held fuel 78 shPair_ := fun h => by
  obtain ⟨f, rfl⟩ := in_pos Tryz.underlying78 h
  exact in_Pair_of in_Value h
theorem in_PairS {fuel : Nat} : InT H enc w base spare held fuel 26 [.l 7] := in_slice Tryz.underlying26 (by kernel_rfl) (N := 4) rfl (by omega) (fun m _ => in_Pair)
theorem ncells_Thing : Tryz.prog.cellsOf 29 = 8 := by kernel_rfl
theorem in_Thing_of {fuel : Nat} (KAddr : InT H enc w base spare held fuel 25 shAddr_) (KAddrS : InT H enc w base spare held fuel 27 [.l 2]) (KPairS : InT H enc w base spare held fuel 26 [.l 7]) : InT H enc w base spare held (fuel + 1) 29 shThing_ := fun {cs x} h => by
  have hu := Tryz.underlying29
  have hl := in_len hu h
  rw [ncells_Thing] at hl
  obtain ⟨y0, h0⟩ := in_field hu h 0 25 0 6 rfl (by kernel_rfl)
  obtain ⟨y1, h1⟩ := in_field hu h 1 26 6 1 rfl (by kernel_rfl)
  obtain ⟨y2, h2⟩ := in_field hu h 2 27 7 1 rfl (by kernel_rfl)
  match cs, hl with
  | [c0, c1, c2, c3, c4, c5, c6, c7], _ =>
    simp only [List.drop, List.take] at h0 h1 h2
    obtain ⟨d0, g0⟩ := KAddr h0
    obtain ⟨d1, g1⟩ := KPairS h1
    obtain ⟨d2, g2⟩ := KAddrS h2
    exact ⟨d0 ++ (d1 ++ (d2)), All3.app (Cells.ups g0 (Nat.le_succ _)) (All3.app (Cells.ups g1 (Nat.le_succ _)) (Cells.ups g2 (Nat.le_succ _)))⟩
theorem in_Thing {fuel : Nat} : InT H enc w base spare held fuel 29 shThing_ := fun h => by
  obtain ⟨f, rfl⟩ := in_pos Tryz.underlying29 h
  exact in_Thing_of in_Addr in_AddrS in_PairS h
theorem in_ThingS {fuel : Nat} : InT H enc w base spare held fuel 22 [.l 8] := in_slice Tryz.underlying22 (by kernel_rfl) (N := 8) rfl (by omega) (fun m _ => in_Thing)
end
end Go.Proofs.YtflfnekaiaplfaaGreat.un
