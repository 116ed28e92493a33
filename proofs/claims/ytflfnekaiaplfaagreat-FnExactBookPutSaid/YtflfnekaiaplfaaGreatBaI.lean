/- BookAt of the program. -/
import Derived.Test.YtflfnekaiaplfaaGreatCtI
import Derived.Test.YtflfnekaiaplfaaGreatItI
import Derived.Test.YtflfnekaiaplfaaGreatBoA
import Derived.Test.YtflfnekaiaplfaaGreatUt
namespace Go.Proofs.YtflfnekaiaplfaaGreat.cf
open ad mem vl ex un cm Go.Shelf
open Go.ChangeShapes Go.WideShapes Go.ChangeAt Go.RowKit Go.Lib
set_option linter.unusedVariables false
set_option maxRecDepth 8000
set_option linter.unusedSimpArgs false


attribute [local go_sem] Oper.semAt_some
theorem cells_of_cell {w : World} {b o : Nat} (h : (w.cell? ⟨b, o, none⟩).isSome = true) : ∃ ob : Obj, w.heap[b]? = some ob ∧ ob.isCells = true := by
  unfold World.cell? at h
  cases ho : w.heap[b]? with
  | none => simp [ho] at h
  | some ob => exact ⟨ob, rfl, by cases ob <;> simp_all [Obj.isCells]⟩
theorem _root_.Go.Proofs.YtflfnekaiaplfaaGreat.un.Own.keep : ∀ {n : Nat} {w w' : World} {F : Nat → Prop} {k : CK} {d : DC} {v : Value}, un.Own n w F k d v → w.heap.size ≤ w'.heap.size → (∀ b, F b → b < w.heap.size → (∃ ob : Obj, w.heap[b]? = some ob ∧ ob.isCells = true) → w'.heap[b]? = w.heap[b]?) → un.Own n w' F k d v
  | n, w, w', F, .i, d, v, h, _, _ => by cases d <;> cases n <;> first | exact h.elim | exact h
  | n, w, w', F, .s, d, v, h, _, _ => by cases d <;> cases n <;> first | exact h.elim | exact h
  | 0, w, w', F, .l e, d, v, h, _, _ => by cases d <;> first | exact h.elim | exact h
  | n + 1, w, w', F, .l e, d, v, h, hs, ha => by
    cases d with
    | i x => exact h.elim
    | s x => exact h.elim
    | l xs =>
      obtain ⟨A, c, h1, h2, h3⟩ := h
      refine ⟨A, c, h1, h2, ?_⟩
      rcases h3 with rfl | ⟨b, o, h4, h5, h6, h7, G, hG, hD, hh⟩
      · exact .inl rfl
      · by_cases hN : xs.length * (sh e).length = 0
        · refine .inr ⟨b, o, h4, h5, Nat.lt_of_lt_of_le h6 hs, fun j hj => absurd hj (by omega), G, hG, hD, fun j hj => ?_⟩
          obtain ⟨us, h8, h9, h10, h11⟩ := hh j hj
          have hz : (sh e).length = 0 := by rcases Nat.mul_eq_zero.1 hN with h | h <;> omega
          obtain rfl : us = [] := List.length_eq_zero_iff.1 (by omega)
          exact ⟨[], fun j v hv => by simp at hv, h9, h10, fun c k1 k2 k3 => absurd k1 (by omega)⟩
        · have hsame := ha b h5 h6 (cells_of_cell (h7 0 (by omega)).1)
          refine .inr ⟨b, o, h4, h5, Nat.lt_of_lt_of_le h6 hs, there_same h7 hsame, G, hG, hD, fun j hj => ?_⟩
          obtain ⟨us, h8, h9, h10, h11⟩ := hh j hj
          exact ⟨us, range_same h8 hsame, h9, h10, fun c k1 k2 k3 => un.Own.keep (h11 c k1 k2 k3) hs (fun x hx => ha x (hG j c x hx).1)⟩
theorem owns_keep {n : Nat} {w w' : World} {F : Nat → Prop} {ks : List CK} {ds : List DC} {vs : List Value} (h : Owns n w F ks ds vs) (hs : w.heap.size ≤ w'.heap.size) (ha : ∀ b, F b → b < w.heap.size → (∃ ob : Obj, w.heap[b]? = some ob ∧ ob.isCells = true) → w'.heap[b]? = w.heap[b]?) : Owns n w' F ks ds vs := by
  obtain ⟨h1, h2, G, hG, hD, hh⟩ := h
  exact ⟨h1, h2, G, hG, hD, fun c k1 k2 k3 => un.Own.keep (hh c k1 k2 k3) hs (fun x hx => ha x (hG c x hx))⟩
/-- what a struct owns it owns behind the turn of a block that is no cells. -/
theorem owns_turn {n : Nat} {w w' : World} {row : Option Nat} {F : Nat → Prop} {ks : List CK} {ds : List DC} {vs : List Value} (h : Owns n w F ks ds vs) (hg : w.grownBy w' row) (hr : ∀ r, row = some r → ∃ ob : Obj, w.heap[r]? = some ob ∧ ob.isCells = false) : Owns n w' F ks ds vs :=
  owns_keep h hg.size (fun b _ hb ⟨ob, h1, h2⟩ => hg.block b hb (fun e => by
    obtain ⟨o2, h3, h4⟩ := hr b e.symm
    rw [h1] at h3; cases h3; rw [h2] at h4; cases h4))
def zT : List DC := [.l [], .s ByteArray.empty, .s ByteArray.empty, .i 0, .i 0, .s ByteArray.empty, .l [], .l []]
theorem zero_owns (n : Nat) (w : World) (F : Nat → Prop) : Owns n w F shThing_ zT [.slice none 0 0, .string ⟨#[]⟩, .string ⟨#[]⟩, .int .i64 0, .int .i64 0, .string ⟨#[]⟩, .slice none 0 0, .slice none 0 0] := by
  have e : (⟨#[]⟩ : ByteArray).size ≤ maxLen := by simp [maxLen, ByteArray.size]
  have r : R64 0 := by unfold R64; omega
  refine Owns.cons (F1 := fun _ => False) (F2 := fun _ => False) un.Own.mkN ?_ (fun _ h => h.elim) (fun _ h => h.elim) (fun _ h _ => h.elim)
  refine Owns.s e (Owns.s e (Owns.i r (Owns.i r (Owns.s e ?_))))
  exact Owns.cons (F1 := fun _ => False) (F2 := fun _ => False) un.Own.mkN (Owns.of1 un.Own.mkN) (fun _ h => h.elim) (fun _ h => h.elim) (fun _ h _ => h.elim)
theorem blk_own {W W' : World} {row : Option Nat} {g : Nat} {T : TypeId} {cs : Array Value} (h : Blk W g T cs) (hg : W.grownBy W' row) (hr : ∀ k, row = some k → ∃ o : Obj, W.heap[k]? = some o ∧ o.isCells = false) : Blk W' g T cs := by
  have hlt := h.lt
  unfold Blk at h ⊢
  refine (hg.block g hlt (fun e => ?_)).trans h
  obtain ⟨o, ho, hc⟩ := hr g e.symm
  rw [h] at ho; cases ho; cases hc
theorem blk8 {w : World} {g : Nat} {T : TypeId} {a0 a1 a2 a3 a4 a5 a6 a7 : Value} (h : Blk w g T #[a0, a1, a2, a3, a4, a5, a6, a7]) (v0 v1 v2 v3 v4 v5 v6 v7 : Value) :
    Blk ((((((((w.setCell ⟨g, 0, none⟩ v0).setCell ⟨g, 1, none⟩ v1).setCell ⟨g, 2, none⟩ v2).setCell ⟨g, 3, none⟩ v3).setCell ⟨g, 4, none⟩ v4).setCell ⟨g, 5, none⟩ v5).setCell ⟨g, 6, none⟩ v6).setCell ⟨g, 7, none⟩ v7) g T #[v0, v1, v2, v3, v4, v5, v6, v7] := by
  have h0 : Blk _ g T #[v0, a1, a2, a3, a4, a5, a6, a7] := Blk.put h 0 v0
  have h1 : Blk _ g T #[v0, v1, a2, a3, a4, a5, a6, a7] := Blk.put h0 1 v1
  have h2 : Blk _ g T #[v0, v1, v2, a3, a4, a5, a6, a7] := Blk.put h1 2 v2
  have h3 : Blk _ g T #[v0, v1, v2, v3, a4, a5, a6, a7] := Blk.put h2 3 v3
  have h4 : Blk _ g T #[v0, v1, v2, v3, v4, a5, a6, a7] := Blk.put h3 4 v4
  have h5 : Blk _ g T #[v0, v1, v2, v3, v4, v5, a6, a7] := Blk.put h4 5 v5
  have h6 : Blk _ g T #[v0, v1, v2, v3, v4, v5, v6, a7] := Blk.put h5 6 v6
  have h7 : Blk _ g T #[v0, v1, v2, v3, v4, v5, v6, v7] := Blk.put h6 7 v7
  exact h7
noncomputable def atX (xs : List (List DC)) (a : AddrD) : List DC := match xs.find? (fun d => adl.eqA (bA d) a) with | some d => d | none => zT
noncomputable def bookAtX (xs : List (List DC)) (a : AddrD) : List DC := if bookB xs then atX xs a else zT
theorem atX_hit {xs pre : List (List DC)} {x : List DC} {a : AddrD} (h : pre ++ [x] <+: xs) (hp : ∀ y ∈ pre, adl.eqA (bA y) a = false) (hx : adl.eqA (bA x) a = true) : atX xs a = x := by
  obtain ⟨rest, rfl⟩ := h
  unfold atX
  have : ((pre ++ [x]) ++ rest).find? (fun d => adl.eqA (bA d) a) = some x := by
    rw [List.append_assoc, List.find?_append, List.find?_eq_none.2 (fun y hy => by simp [hp y hy])]
    simp [hx]
  rw [this]
theorem atX_miss {xs : List (List DC)} {a : AddrD} (hp : ∀ y ∈ xs, adl.eqA (bA y) a = false) : atX xs a = zT := by
  unfold atX
  rw [List.find?_eq_none.2 (fun y hy => by simp [hp y hy])]
end Go.Proofs.YtflfnekaiaplfaaGreat.cf
