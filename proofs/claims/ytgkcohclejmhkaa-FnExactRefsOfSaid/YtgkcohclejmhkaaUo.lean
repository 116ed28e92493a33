/- Plain: what owns its memory, put together: structs out of parts, lists item by item. -/
import Derived.Test.YtgkcohclejmhkaaUc
import Derived.Laws.IdiomCopy
namespace Go.Proofs.Ytgkcohclejmhkaa.un
open mem
open Go.ChangeShapes Go.WideShapes Go.ChangeAt Go.RowKit Go.Lib
set_option linter.unusedVariables false
set_option maxRecDepth 8000
set_option linter.unusedSimpArgs false

/-- the blocks from a up to b. -/
def Rg (a b : Nat) : Nat → Prop := fun x => a ≤ x ∧ x < b
theorem Rg.lo {a b x : Nat} (h : x < a) : ¬ Rg a b x := fun hx => by have := hx.1; omega
theorem Agree.set {B : Nat → Prop} {w w' : World} {p : Addr} (h : Agree B w w') (hp : ¬ B p.block) (u : Value) : Agree B w (w'.setCell p u) :=
  ⟨Nat.le_trans h.size (by simp), fun b h1 h2 => (Below.heap_setCell w' p u b (fun e => hp (e ▸ h1))).trans (h.block b h1 h2)⟩
theorem heap_cells (g : Nat) : ∀ (vs : List Value) (o : Nat) (w : World) (b : Nat), b ≠ g → (w.setCells g o vs).heap[b]? = w.heap[b]?
  | [], _, _, _, _ => rfl
  | v :: vs, o, w, b, h => by
    rw [World.setCells, heap_cells g vs (o + 1) _ b h]
    exact Below.heap_setCell w ⟨g, o, none⟩ v b h
theorem size_cells (g : Nat) : ∀ (vs : List Value) (o : Nat) (w : World), (w.setCells g o vs).heap.size = w.heap.size
  | [], _, _ => rfl
  | v :: vs, o, w => by rw [World.setCells, size_cells g vs (o + 1) _]; simp
theorem Agree.cells {B : Nat → Prop} {w w' : World} {g : Nat} (h : Agree B w w') (hp : ¬ B g) (o : Nat) (vs : List Value) : Agree B w (w'.setCells g o vs) :=
  ⟨by rw [size_cells]; exact h.size, fun b h1 h2 => (heap_cells g vs o w' b (fun e => hp (e ▸ h1))).trans (h.block b h1 h2)⟩
theorem Below.cells {B : Nat} {a : World} {g : Nat} (hg : B ≤ g) : ∀ (vs : List Value) (o : Nat) {w : World}, Below B a w → Below B a (w.setCells g o vs)
  | [], _, _, h => h
  | v :: vs, o, w, h => Below.cells hg vs (o + 1) (h.setCell (p := ⟨g, o, none⟩) hg v)
theorem Blk.put {w : World} {g : Nat} {T : TypeId} {cs : Array Value} (h : Blk w g T cs) (i : Nat) (u : Value) : Blk (w.setCell ⟨g, i, none⟩ u) g T (cs.setIfInBounds i u) := by
  unfold Blk at h ⊢
  simp [World.setCell, Array.getElem?_modify, h]
theorem blk_there {w : World} {g : Nat} {T : TypeId} {cs : Array Value} (h : Blk w g T cs) {o n : Nat} (hs : o + n ≤ cs.size) : w.there g o n := fun j hj => by
  refine ⟨?_, h.free _⟩
  rw [h.cell, Array.getElem?_eq_getElem (by omega)]; rfl

theorem Owns.nil (n : Nat) (w : World) (F : Nat → Prop) : Owns n w F [] [] [] := ⟨rfl, rfl, fun _ _ => False, fun _ _ h => h.elim, fun _ _ _ h => h.elim, fun c h => absurd h (by simp)⟩
/-- a cell ahead of a struct. -/
theorem Owns.cons {n : Nat} {w : World} {F1 F2 F : Nat → Prop} {k : CK} {d : DC} {v : Value} {ks : List CK} {ds : List DC} {vs : List Value} (h : Own n w F1 k d v) (hh : Owns n w F2 ks ds vs) (h1 : ∀ x, F1 x → F x) (h2 : ∀ x, F2 x → F x) (hd : ∀ x, F1 x → F2 x → False) :
    Owns n w F (k :: ks) (d :: ds) (v :: vs) := by
  obtain ⟨e1, e2, G, hG, hD, hh⟩ := hh
  refine ⟨by simp [e1], by simp [e2], fun c x => match c with | 0 => F1 x | c + 1 => G c x, fun c x hx => ?_, fun c c' x hx hx' => ?_, fun c k1 k2 k3 => ?_⟩
  · cases c with
    | zero => exact h1 x hx
    | succ c => exact h2 x (hG c x hx)
  · cases c with
    | zero =>
      cases c' with
      | zero => rfl
      | succ c' => exact (hd x hx (hG c' x hx')).elim
    | succ c =>
      cases c' with
      | zero => exact (hd x hx' (hG c x hx)).elim
      | succ c' => exact congrArg (· + 1) (hD c c' x hx hx')
  · cases c with
    | zero => exact h
    | succ c => exact hh c (by simpa using k1) (by simpa using k2) (by simpa using k3)
theorem Owns.app {n : Nat} {w : World} {F1 F2 F : Nat → Prop} (h1 : ∀ x, F1 x → F x) (h2 : ∀ x, F2 x → F x) (hd : ∀ x, F1 x → F2 x → False) {ks2 : List CK} {ds2 : List DC} {vs2 : List Value} (hh : Owns n w F2 ks2 ds2 vs2) :
    ∀ {ks : List CK} {ds : List DC} {vs : List Value}, Owns n w F1 ks ds vs → Owns n w F (ks ++ ks2) (ds ++ ds2) (vs ++ vs2) := by
  intro ks ds vs h
  obtain ⟨e1, e2, G1, hG1, hD1, k1⟩ := h
  obtain ⟨e3, e4, G2, hG2, hD2, k2⟩ := hh
  refine ⟨by simp [e1, e3], by simp [e2, e4], fun c x => if c < ks.length then G1 c x else G2 (c - ks.length) x, fun c x hx => ?_, fun c c' x hx hx' => ?_, fun c j1 j2 j3 => ?_⟩
  · dsimp only at hx
    split at hx
    · exact h1 x (hG1 _ _ hx)
    · exact h2 x (hG2 _ _ hx)
  · dsimp only at hx hx'
    split at hx <;> split at hx'
    · exact hD1 _ _ _ hx hx'
    · exact (hd x (hG1 _ _ hx) (hG2 _ _ hx')).elim
    · exact (hd x (hG1 _ _ hx') (hG2 _ _ hx)).elim
    · have := hD2 _ _ _ hx hx'; omega
  · dsimp only
    by_cases hc : c < ks.length
    · have e5 : (fun x => if c < ks.length then G1 c x else G2 (c - ks.length) x) = G1 c := by funext x; rw [if_pos hc]
      rw [e5, List.getElem_append_left hc, List.getElem_append_left (by omega), List.getElem_append_left (by omega)]
      exact k1 c hc _ _
    · have e5 : (fun x => if c < ks.length then G1 c x else G2 (c - ks.length) x) = G2 (c - ks.length) := by funext x; rw [if_neg hc]
      have e6 : c - ds.length = c - ks.length := by omega
      have e7 : c - vs.length = c - ks.length := by omega
      rw [e5, List.getElem_append_right (by omega), List.getElem_append_right (by omega), List.getElem_append_right (by omega)]
      simp only [e6, e7]
      exact k2 _ (by simp at j1; omega) (by simp at j2; omega) (by simp at j3; omega)
theorem Own.mkI {n : Nat} {w : World} {F : Nat → Prop} {x : Int} (h : R64 x) : Own n w F .i (.i x) (.int .i64 x) := by cases n <;> exact ⟨rfl, h⟩
theorem Own.mkS {n : Nat} {w : World} {F : Nat → Prop} {s : ByteArray} (h : s.size ≤ maxLen) : Own n w F .s (.s s) (.string s) := by cases n <;> exact ⟨rfl, h⟩
theorem Own.mkN {n : Nat} {w : World} {F : Nat → Prop} {e c : Nat} {A : Option Addr} : Own n w F (.l e) (.l []) (.slice A 0 c) := by
  cases n with
  | zero => exact ⟨⟨A, c, rfl⟩, rfl⟩
  | succ n => exact ⟨A, c, rfl, by simp [maxLen], .inl rfl⟩
theorem Owns.i {n : Nat} {w : World} {F : Nat → Prop} {x : Int} {ks : List CK} {ds : List DC} {vs : List Value} (h : R64 x) (hh : Owns n w F ks ds vs) : Owns n w F (.i :: ks) (.i x :: ds) (.int .i64 x :: vs) :=
  Owns.cons (F1 := fun _ => False) (Own.mkI h) hh (fun _ h => h.elim) (fun _ h => h) (fun _ h _ => h)
theorem Owns.s {n : Nat} {w : World} {F : Nat → Prop} {s : ByteArray} {ks : List CK} {ds : List DC} {vs : List Value} (h : s.size ≤ maxLen) (hh : Owns n w F ks ds vs) : Owns n w F (.s :: ks) (.s s :: ds) (.string s :: vs) :=
  Owns.cons (F1 := fun _ => False) (Own.mkS h) hh (fun _ h => h.elim) (fun _ h => h) (fun _ h _ => h)
theorem Owns.ups {n m : Nat} {w : World} {F : Nat → Prop} {ks : List CK} {ds : List DC} {vs : List Value} (h : Owns n w F ks ds vs) (hm : n ≤ m) : Owns m w F ks ds vs := by
  obtain ⟨h1, h2, G, hG, hD, hh⟩ := h
  exact ⟨h1, h2, G, hG, hD, fun c k1 k2 k3 => (hh c k1 k2 k3).ups hm⟩

/-- one more item. -/
theorem Own.snoc {n e cap b o : Nat} {w : World} {F F2 : Nat → Prop} {X : List (List DC)} {ds : List DC} {us : List Value} (h : Own (n + 1) w F (.l e) (.l X) (.slice (some ⟨b, o, none⟩) X.length cap)) (hb : F b) (hbl : b < w.heap.size) (hlen : X.length < maxLen)
    (ht : w.there b o ((X.length + 1) * (sh e).length)) (hs : Owns n w F2 (sh e) ds us) (hd : ∀ x, F x → F2 x → False) :
    Own (n + 1) (w.setCells b (o + X.length * (sh e).length) us) (fun x => F x ∨ F2 x) (.l e) (.l (X ++ [ds])) (.slice (some ⟨b, o, none⟩) (X.length + 1) cap) := by
  obtain ⟨A', c', e1, h2, h3⟩ := h
  injection e1 with e1 _ e2
  subst e1 e2
  obtain ⟨s1, s2, G2, hG2, hD2, hs⟩ := hs
  have hF2b : ∀ c x, G2 c x → x ≠ b := fun c x hx e => hd b hb (hG2 c b (e ▸ hx))
  have hag : ∀ {B : Nat → Prop}, (∀ x, B x → x ≠ b) → Agree B w (w.setCells b (o + X.length * (sh e).length) us) := fun {B} hB => Agree.cells (Agree.refl _ _) (fun h => hB b h rfl) _ _
  have hth : w.there b (o + X.length * (sh e).length) us.length := fun q hq => by
    have := ht (X.length * (sh e).length + q) (by rw [Nat.add_mul, Nat.one_mul]; omega)
    rwa [← Nat.add_assoc] at this
  obtain ⟨G, hG, hD, hh⟩ : ∃ G : Nat → Nat → Nat → Prop, (∀ j c x, G j c x → F x ∧ x ≠ b) ∧ (∀ j c j' c' x, G j c x → G j' c' x → j = j' ∧ c = c') ∧
      ∀ j (h : j < X.length), ∃ us, w.rangeAt b (o + j * (sh e).length) us ∧ us.length = (sh e).length ∧ X[j].length = (sh e).length ∧
          ∀ c (h1 : c < (sh e).length) (h2 : c < X[j].length) (h3 : c < us.length), Own n w (G j c) (sh e)[c] X[j][c] us[c] := by
    rcases h3 with rfl | ⟨b', o', e3, _, _, _, G, hG, hD, hh⟩
    · exact ⟨fun _ _ _ => False, fun _ _ _ h => h.elim, fun _ _ _ _ _ h => h.elim, fun j hj => absurd hj (by simp)⟩
    · injection e3 with e3; injection e3 with e3 e4 _
      subst e3 e4
      exact ⟨G, hG, hD, hh⟩
  refine ⟨some ⟨b, o, none⟩, cap, by rw [List.length_append]; rfl, by simp; omega, .inr ⟨b, o, rfl, .inl hb, by rw [size_cells]; exact hbl, by (have := World.there_setCells ht b (o + X.length * (sh e).length) us; simpa using this), fun j c x => if j < X.length then G j c x else (if j = X.length then G2 c x else False), fun j c x hx => ?_, fun j c j' c' x hx hx' => ?_, fun j hj => ?_⟩⟩
  · dsimp only at hx
    split at hx
    · exact ⟨.inl (hG _ _ _ hx).1, (hG _ _ _ hx).2⟩
    · split at hx
      · exact ⟨.inr (hG2 _ _ hx), hF2b _ _ hx⟩
      · exact hx.elim
  · dsimp only at hx hx'
    split at hx
    · split at hx'
      · exact hD _ _ _ _ _ hx hx'
      · split at hx'
        · exact (hd x (hG _ _ _ hx).1 (hG2 _ _ hx')).elim
        · exact hx'.elim
    · split at hx
      · split at hx'
        · exact (hd x (hG _ _ _ hx').1 (hG2 _ _ hx)).elim
        · split at hx'
          · exact ⟨by omega, hD2 _ _ _ hx hx'⟩
          · exact hx'.elim
      · exact hx.elim
  · dsimp only
    by_cases hlt : j < X.length
    · obtain ⟨us', k1, k2, k3, k4⟩ := hh j hlt
      have e5 : ∀ c, (fun x => if j < X.length then G j c x else (if j = X.length then G2 c x else False)) = G j c := fun c => by funext x; rw [if_pos hlt]
      refine ⟨us', World.rangeAt_setCells_apart k1 _ _ _ (.inr (.inl ?_)), k2, ?_, ?_⟩
      · have : (j + 1) * (sh e).length ≤ X.length * (sh e).length := Nat.mul_le_mul_right _ hlt
        rw [Nat.add_mul, Nat.one_mul] at this
        omega
      · rw [List.getElem_append_left hlt]; exact k3
      · rw [List.getElem_append_left hlt]
        intro c j1 j2 j3
        rw [e5]
        exact (k4 c j1 j2 j3).agree (hag fun x hx => (hG _ _ _ hx).2)
    · have hje : j = X.length := by simp at hj; omega
      subst hje
      have e5 : ∀ c, (fun x => if X.length < X.length then G X.length c x else (if X.length = X.length then G2 c x else False)) = G2 c := fun c => by funext x; rw [if_neg (by omega), if_pos rfl]
      refine ⟨us, World.rangeAt_setCells_same _ _ _ _ hth, s2, ?_, ?_⟩
      · simp; exact s1
      · simp only [List.getElem_append_right (Nat.le_refl X.length), Nat.sub_self, List.getElem_cons_zero]
        intro c j1 j2 j3
        exact ((hs c j1 j2 j3).agree (hag fun x hx => hF2b _ _ hx)).mono (fun x hx => by simp [hx])
end Go.Proofs.Ytgkcohclejmhkaa.un
