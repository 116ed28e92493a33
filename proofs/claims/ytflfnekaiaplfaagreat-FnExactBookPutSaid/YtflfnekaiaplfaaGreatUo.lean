/- Plain: what owns its memory, put together: structs out of parts, lists item by item. Plain: an item of a list that owns, cell by cell; a part of a struct; the world of a call, named. Plain: facts that worlds keep which agree on some blocks: for laws that mark memory. -/
import Derived.Test.YtflfnekaiaplfaaGreatUc
import Derived.Laws.IdiomCopy
namespace Go.Proofs.YtflfnekaiaplfaaGreat.un
open mem
open Go.ChangeShapes Go.WideShapes Go.ChangeAt Go.RowKit Go.Lib
set_option linter.unusedVariables false
set_option maxRecDepth 8000
set_option linter.unusedSimpArgs false

/-- the blocks from a up to b. -/
def Rg (a b : Nat) : Nat → Prop := fun x => a ≤ x ∧ x < b
theorem Rg.lo {a b x : Nat} (h : x < a) : ¬ Rg a b x := fun hx => by have := hx.1; omega
theorem Agree.set {B : Nat → Prop} {w w' : World} {p : Addr} (h : Agree B w w') (hp : ¬ B p.block) (u : Value) : Agree B w (w'.setCell p u) :=
  ⟨Nat.le_trans h.size (by simp), fun b h1 h2 => (Below.heap_setCell w' p u b (fun e => hp (e ▸ h1))).trans (h.block b h1 h2)⟩
theorem heap_cells (g : Nat) : ∀ (vs : List Value) (o : Nat) (w : World) (b : Nat), b ≠ g → (w.setCells g o vs).heap[b]? = w.heap[b]?
  | [], _, _, _, _ => rfl
  | v :: vs, o, w, b, h => by
    rw [World.setCells, heap_cells g vs (o + 1) _ b h]
    exact Below.heap_setCell w ⟨g, o, none⟩ v b h
theorem size_cells (g : Nat) : ∀ (vs : List Value) (o : Nat) (w : World), (w.setCells g o vs).heap.size = w.heap.size
  | [], _, _ => rfl
  | v :: vs, o, w => by rw [World.setCells, size_cells g vs (o + 1) _]; simp
theorem Agree.cells {B : Nat → Prop} {w w' : World} {g : Nat} (h : Agree B w w') (hp : ¬ B g) (o : Nat) (vs : List Value) : Agree B w (w'.setCells g o vs) :=
  ⟨by rw [size_cells]; exact h.size, fun b h1 h2 => (heap_cells g vs o w' b (fun e => hp (e ▸ h1))).trans (h.block b h1 h2)⟩
theorem Below.cells {B : Nat} {a : World} {g : Nat} (hg : B ≤ g) : ∀ (vs : List Value) (o : Nat) {w : World}, Below B a w → Below B a (w.setCells g o vs)
  | [], _, _, h => h
  | v :: vs, o, w, h => Below.cells hg vs (o + 1) (h.setCell (p := ⟨g, o, none⟩) hg v)
theorem Blk.put {w : World} {g : Nat} {T : TypeId} {cs : Array Value} (h : Blk w g T cs) (i : Nat) (u : Value) : Blk (w.setCell ⟨g, i, none⟩ u) g T (cs.setIfInBounds i u) := by
  unfold Blk at h ⊢
  simp [World.setCell, Array.getElem?_modify, h]
theorem blk_there {w : World} {g : Nat} {T : TypeId} {cs : Array Value} (h : Blk w g T cs) {o n : Nat} (hs : o + n ≤ cs.size) : w.there g o n := fun j hj => by
  refine ⟨?_, h.free _⟩
  rw [h.cell, Array.getElem?_eq_getElem (by omega)]; rfl

theorem Owns.nil (n : Nat) (w : World) (F : Nat → Prop) : Owns n w F [] [] [] := ⟨rfl, rfl, fun _ _ => False, fun _ _ h => h.elim, fun _ _ _ h => h.elim, fun c h => absurd h (by simp)⟩
/-- a cell ahead of a struct. -/
theorem Owns.cons {n : Nat} {w : World} {F1 F2 F : Nat → Prop} {k : CK} {d : DC} {v : Value} {ks : List CK} {ds : List DC} {vs : List Value} (h : Own n w F1 k d v) (hh : Owns n w F2 ks ds vs) (h1 : ∀ x, F1 x → F x) (h2 : ∀ x, F2 x → F x) (hd : ∀ x, F1 x → F2 x → False) :
    Owns n w F (k :: ks) (d :: ds) (v :: vs) := by
  obtain ⟨e1, e2, G, hG, hD, hh⟩ := hh
  refine ⟨by simp [e1], by simp [e2], fun c x => match c with | 0 => F1 x | c + 1 => G c x, fun c x hx => ?_, fun c c' x hx hx' => ?_, fun c k1 k2 k3 => ?_⟩
  · cases c with
    | zero => exact h1 x hx
    | succ c => exact h2 x (hG c x hx)
  · cases c with
    | zero =>
      cases c' with
      | zero => rfl
      | succ c' => exact (hd x hx (hG c' x hx')).elim
    | succ c =>
      cases c' with
      | zero => exact (hd x hx' (hG c x hx)).elim
      | succ c' => exact congrArg (· + 1) (hD c c' x hx hx')
  · cases c with
    | zero => exact h
    | succ c => exact hh c (by simpa using k1) (by simpa using k2) (by simpa using k3)
theorem Owns.app {n : Nat} {w : World} {F1 F2 F : Nat → Prop} (h1 : ∀ x, F1 x → F x) (h2 : ∀ x, F2 x → F x) (hd : ∀ x, F1 x → F2 x → False) {ks2 : List CK} {ds2 : List DC} {vs2 : List Value} (hh : Owns n w F2 ks2 ds2 vs2) :
    ∀ {ks : List CK} {ds : List DC} {vs : List Value}, Owns n w F1 ks ds vs → Owns n w F (ks ++ ks2) (ds ++ ds2) (vs ++ vs2) := by
  intro ks ds vs h
  obtain ⟨e1, e2, G1, hG1, hD1, k1⟩ := h
  obtain ⟨e3, e4, G2, hG2, hD2, k2⟩ := hh
  refine ⟨by simp [e1, e3], by simp [e2, e4], fun c x => if c < ks.length then G1 c x else G2 (c - ks.length) x, fun c x hx => ?_, fun c c' x hx hx' => ?_, fun c j1 j2 j3 => ?_⟩
  · dsimp only at hx
    split at hx
    · exact h1 x (hG1 _ _ hx)
    · exact h2 x (hG2 _ _ hx)
  · dsimp only at hx hx'
    split at hx <;> split at hx'
    · exact hD1 _ _ _ hx hx'
    · exact (hd x (hG1 _ _ hx) (hG2 _ _ hx')).elim
    · exact (hd x (hG1 _ _ hx') (hG2 _ _ hx)).elim
    · have := hD2 _ _ _ hx hx'; omega
  · dsimp only
    by_cases hc : c < ks.length
    · have e5 : (fun x => if c < ks.length then G1 c x else G2 (c - ks.length) x) = G1 c := by funext x; rw [if_pos hc]
      rw [e5, List.getElem_append_left hc, List.getElem_append_left (by omega), List.getElem_append_left (by omega)]
      exact k1 c hc _ _
    · have e5 : (fun x => if c < ks.length then G1 c x else G2 (c - ks.length) x) = G2 (c - ks.length) := by funext x; rw [if_neg hc]
      have e6 : c - ds.length = c - ks.length := by omega
      have e7 : c - vs.length = c - ks.length := by omega
      rw [e5, List.getElem_append_right (by omega), List.getElem_append_right (by omega), List.getElem_append_right (by omega)]
      simp only [e6, e7]
      exact k2 _ (by simp at j1; omega) (by simp at j2; omega) (by simp at j3; omega)
theorem Own.mkI {n : Nat} {w : World} {F : Nat → Prop} {x : Int} (h : R64 x) : Own n w F .i (.i x) (.int .i64 x) := by cases n <;> exact ⟨rfl, h⟩
theorem Own.mkS {n : Nat} {w : World} {F : Nat → Prop} {s : ByteArray} (h : s.size ≤ maxLen) : Own n w F .s (.s s) (.string s) := by cases n <;> exact ⟨rfl, h⟩
theorem Own.mkN {n : Nat} {w : World} {F : Nat → Prop} {e c : Nat} {A : Option Addr} : Own n w F (.l e) (.l []) (.slice A 0 c) := by
  cases n with
  | zero => exact ⟨⟨A, c, rfl⟩, rfl⟩
  | succ n => exact ⟨A, c, rfl, by simp [maxLen], .inl rfl⟩
theorem Owns.i {n : Nat} {w : World} {F : Nat → Prop} {x : Int} {ks : List CK} {ds : List DC} {vs : List Value} (h : R64 x) (hh : Owns n w F ks ds vs) : Owns n w F (.i :: ks) (.i x :: ds) (.int .i64 x :: vs) :=
  Owns.cons (F1 := fun _ => False) (Own.mkI h) hh (fun _ h => h.elim) (fun _ h => h) (fun _ h _ => h)
theorem Owns.s {n : Nat} {w : World} {F : Nat → Prop} {s : ByteArray} {ks : List CK} {ds : List DC} {vs : List Value} (h : s.size ≤ maxLen) (hh : Owns n w F ks ds vs) : Owns n w F (.s :: ks) (.s s :: ds) (.string s :: vs) :=
  Owns.cons (F1 := fun _ => False) (Own.mkS h) hh (fun _ h => h.elim) (fun _ h => h) (fun _ h _ => h)
theorem Owns.ups {n m : Nat} {w : World} {F : Nat → Prop} {ks : List CK} {ds : List DC} {vs : List Value} (h : Owns n w F ks ds vs) (hm : n ≤ m) : Owns m w F ks ds vs := by
  obtain ⟨h1, h2, G, hG, hD, hh⟩ := h
  exact ⟨h1, h2, G, hG, hD, fun c k1 k2 k3 => (hh c k1 k2 k3).ups hm⟩

/-- one more item. -/
theorem Own.snoc {n e cap b o : Nat} {w : World} {F F2 : Nat → Prop} {X : List (List DC)} {ds : List DC} {us : List Value} (h : Own (n + 1) w F (.l e) (.l X) (.slice (some ⟨b, o, none⟩) X.length cap)) (hb : F b) (hbl : b < w.heap.size) (hlen : X.length < maxLen)
    (ht : w.there b o ((X.length + 1) * (sh e).length)) (hs : Owns n w F2 (sh e) ds us) (hd : ∀ x, F x → F2 x → False) :
    Own (n + 1) (w.setCells b (o + X.length * (sh e).length) us) (fun x => F x ∨ F2 x) (.l e) (.l (X ++ [ds])) (.slice (some ⟨b, o, none⟩) (X.length + 1) cap) := by
  obtain ⟨A', c', e1, h2, h3⟩ := h
  injection e1 with e1 _ e2
  subst e1 e2
  obtain ⟨s1, s2, G2, hG2, hD2, hs⟩ := hs
  have hF2b : ∀ c x, G2 c x → x ≠ b := fun c x hx e => hd b hb (hG2 c b (e ▸ hx))
  have hag : ∀ {B : Nat → Prop}, (∀ x, B x → x ≠ b) → Agree B w (w.setCells b (o + X.length * (sh e).length) us) := fun {B} hB => Agree.cells (Agree.refl _ _) (fun h => hB b h rfl) _ _
  have hth : w.there b (o + X.length * (sh e).length) us.length := fun q hq => by
    have := ht (X.length * (sh e).length + q) (by rw [Nat.add_mul, Nat.one_mul]; omega)
    rwa [← Nat.add_assoc] at this
  obtain ⟨G, hG, hD, hh⟩ : ∃ G : Nat → Nat → Nat → Prop, (∀ j c x, G j c x → F x ∧ x ≠ b) ∧ (∀ j c j' c' x, G j c x → G j' c' x → j = j' ∧ c = c') ∧
      ∀ j (h : j < X.length), ∃ us, w.rangeAt b (o + j * (sh e).length) us ∧ us.length = (sh e).length ∧ X[j].length = (sh e).length ∧
          ∀ c (h1 : c < (sh e).length) (h2 : c < X[j].length) (h3 : c < us.length), Own n w (G j c) (sh e)[c] X[j][c] us[c] := by
    rcases h3 with rfl | ⟨b', o', e3, _, _, _, G, hG, hD, hh⟩
    · exact ⟨fun _ _ _ => False, fun _ _ _ h => h.elim, fun _ _ _ _ _ h => h.elim, fun j hj => absurd hj (by simp)⟩
    · injection e3 with e3; injection e3 with e3 e4 _
      subst e3 e4
      exact ⟨G, hG, hD, hh⟩
  refine ⟨some ⟨b, o, none⟩, cap, by rw [List.length_append]; rfl, by simp; omega, .inr ⟨b, o, rfl, .inl hb, by rw [size_cells]; exact hbl, by (have := World.there_setCells ht b (o + X.length * (sh e).length) us; simpa using this), fun j c x => if j < X.length then G j c x else (if j = X.length then G2 c x else False), fun j c x hx => ?_, fun j c j' c' x hx hx' => ?_, fun j hj => ?_⟩⟩
  · dsimp only at hx
    split at hx
    · exact ⟨.inl (hG _ _ _ hx).1, (hG _ _ _ hx).2⟩
    · split at hx
      · exact ⟨.inr (hG2 _ _ hx), hF2b _ _ hx⟩
      · exact hx.elim
  · dsimp only at hx hx'
    split at hx
    · split at hx'
      · exact hD _ _ _ _ _ hx hx'
      · split at hx'
        · exact (hd x (hG _ _ _ hx).1 (hG2 _ _ hx')).elim
        · exact hx'.elim
    · split at hx
      · split at hx'
        · exact (hd x (hG _ _ _ hx').1 (hG2 _ _ hx)).elim
        · split at hx'
          · exact ⟨by omega, hD2 _ _ _ hx hx'⟩
          · exact hx'.elim
      · exact hx.elim
  · dsimp only
    by_cases hlt : j < X.length
    · obtain ⟨us', k1, k2, k3, k4⟩ := hh j hlt
      have e5 : ∀ c, (fun x => if j < X.length then G j c x else (if j = X.length then G2 c x else False)) = G j c := fun c => by funext x; rw [if_pos hlt]
      refine ⟨us', World.rangeAt_setCells_apart k1 _ _ _ (.inr (.inl ?_)), k2, ?_, ?_⟩
      · have : (j + 1) * (sh e).length ≤ X.length * (sh e).length := Nat.mul_le_mul_right _ hlt
        rw [Nat.add_mul, Nat.one_mul] at this
        omega
      · rw [List.getElem_append_left hlt]; exact k3
      · rw [List.getElem_append_left hlt]
        intro c j1 j2 j3
        rw [e5]
        exact (k4 c j1 j2 j3).agree (hag fun x hx => (hG _ _ _ hx).2)
    · have hje : j = X.length := by simp at hj; omega
      subst hje
      have e5 : ∀ c, (fun x => if X.length < X.length then G X.length c x else (if X.length = X.length then G2 c x else False)) = G2 c := fun c => by funext x; rw [if_neg (by omega), if_pos rfl]
      refine ⟨us, World.rangeAt_setCells_same _ _ _ _ hth, s2, ?_, ?_⟩
      · simp; exact s1
      · simp only [List.getElem_append_right (Nat.le_refl X.length), Nat.sub_self, List.getElem_cons_zero]
        intro c j1 j2 j3
        exact ((hs c j1 j2 j3).agree (hag fun x hx => hF2b _ _ hx)).mono (fun x hx => by simp [hx])
end Go.Proofs.YtflfnekaiaplfaaGreat.un
namespace Go.Proofs.YtflfnekaiaplfaaGreat.un
open mem
open Go.ChangeShapes Go.WideShapes Go.ChangeAt Go.RowKit Go.Lib
set_option linter.unusedVariables false
set_option maxRecDepth 8000
set_option linter.unusedSimpArgs false

theorem named {P : Program} {f : FuncId} {args : Array Value} {W : World} {Q : Ending → World → Prop} (h : ∀ W2, W = W2 → Calls P f args W2 Q) : Calls P f args W Q := h _ rfl
theorem set_at {Y : List (List DC)} {j : Nat} {ds : List DC} (h : j < (Y.set j ds).length) : (Y.set j ds)[j] = ds := by simp
theorem set_set' {Y : List (List DC)} {j : Nat} {ds ds' : List DC} : (Y.set j ds).set j ds' = Y.set j ds' := by simp
theorem self_set {Y : List (List DC)} {j : Nat} (h : j < Y.length) : Y.set j Y[j] = Y := by simp

/-- the cells of an item are there. -/
theorem Own.thereat {n e cap b o L N j : Nat} {w : World} {F : Nat → Prop} {Y : List (List DC)} {ds : List DC} (h : Own n w F (.l e) (.l (Y.set j ds)) (.slice (some ⟨b, o, none⟩) L cap)) (hN : (sh e).length = N) (hj : j < Y.length) :
    F b ∧ b < w.heap.size ∧ ∀ c, c < N → ∃ x, w.cell? ⟨b, o + j * N + c, none⟩ = some x ∧ w.frozen? ⟨b, o + j * N + c, none⟩ = false := by
  subst hN
  obtain ⟨eL, _⟩ := h.cell.len
  rw [eL] at h
  obtain ⟨m, b', o', us, _, eA, hF, hb, ht, _⟩ := h.sub j (by simpa using hj)
  injection eA with eA; injection eA with e1 e2 _
  subst e1 e2
  exact ⟨hF, hb, fun c hc => by
    obtain ⟨h1, h2⟩ := ht c hc
    obtain ⟨x, hx⟩ := Option.isSome_iff_exists.1 h1
    exact ⟨x, hx, h2⟩⟩
theorem Own.putat {n e cap b o L N j : Nat} {w : World} {F : Nat → Prop} {Y : List (List DC)} {ds : List DC} (h : Own n w F (.l e) (.l (Y.set j ds)) (.slice (some ⟨b, o, none⟩) L cap)) (hN : (sh e).length = N) (hj : j < Y.length) (c : Nat) (k : CK) (hc : (sh e)[c]? = some k) (hk : ∀ e', k ≠ .l e')
    (d' : DC) (u : Value) (hu : Own 0 w F k d' u) : Own n (w.setCell ⟨b, o + j * N + c, none⟩ u) F (.l e) (.l (Y.set j (ds.set c d'))) (.slice (some ⟨b, o, none⟩) L cap) := by
  subst hN
  obtain ⟨eL, _⟩ := h.cell.len
  rw [eL] at h ⊢
  obtain ⟨hc1, hc2⟩ := List.getElem?_eq_some_iff.1 hc
  subst hc2
  have := Own.put h j (by simpa using hj) c hc1 hk d' u hu
  rwa [set_at, set_set'] at this
theorem Own.cellat {n e e' cap b o L N j : Nat} {w : World} {F : Nat → Prop} {Y : List (List DC)} {ds : List DC} {l : List (List DC)} {u : Value} (h : Own n w F (.l e) (.l (Y.set j ds)) (.slice (some ⟨b, o, none⟩) L cap)) (hN : (sh e).length = N) (hj : j < Y.length) (c : Nat) (hc : (sh e)[c]? = some (.l e')) (hd : ds[c]? = some (.l l))
    (hu : w.cell? ⟨b, o + j * N + c, none⟩ = some u) : ∃ m G, n = m + 1 ∧ (∀ x, G x → F x) ∧ Own m w G (.l e') (.l l) u ∧
      ∀ (w' : World) (l' : List (List DC)), Only G w w' → Own m w' G (.l e') (.l l') u → Own n w' F (.l e) (.l (Y.set j (ds.set c (.l l')))) (.slice (some ⟨b, o, none⟩) L cap) := by
  subst hN
  obtain ⟨eL, _⟩ := h.cell.len
  rw [eL] at h ⊢
  obtain ⟨hc1, hc2⟩ := List.getElem?_eq_some_iff.1 hc
  obtain ⟨hd1, hd2⟩ := List.getElem?_eq_some_iff.1 hd
  obtain ⟨m, b', o', us, rfl, eA, hF, hb, ht, hr, hul, hxl, G, hG, hh⟩ := h.sub j (by simpa using hj)
  injection eA with eA; injection eA with e1 e2 _
  subst e1 e2
  have hus : us[c]? = some u := by
    have h1 : c < us.length := by omega
    have h2 := hr c us[c] (List.getElem?_eq_getElem h1)
    rw [hu] at h2
    rw [List.getElem?_eq_getElem h1, ← h2]
  obtain ⟨hu1, hu2⟩ := List.getElem?_eq_some_iff.1 hus
  simp only [set_at] at hh
  obtain ⟨k1, k2⟩ := hh c hc1 hd1 hu1
  rw [hc2, hd2, hu2] at k1
  refine ⟨m, G c, rfl, fun x hx => (hG c x hx).1, k1, fun w' l' ho hl' => ?_⟩
  have := k2 w' (.l l') ho (by rw [hc2, hu2]; exact hl')
  rwa [set_set'] at this
/-- a part of a struct that owns, turned. -/
theorem Owns.part {n : Nat} {w : World} {F : Nat → Prop} {ks1 ks2 ks3 : List CK} {ds1 ds2 ds3 : List DC} {vs1 vs2 vs3 : List Value} (h : Owns n w F (ks1 ++ (ks2 ++ ks3)) (ds1 ++ (ds2 ++ ds3)) (vs1 ++ (vs2 ++ vs3))) (e1 : ds1.length = ks1.length) (e2 : vs1.length = ks1.length) (e3 : ds2.length = ks2.length) (e4 : vs2.length = ks2.length) :
    ∃ F2, (∀ x, F2 x → F x) ∧ Owns n w F2 ks2 ds2 vs2 ∧ ∀ w' ds2', Only F2 w w' → Owns n w' F2 ks2 ds2' vs2 → Owns n w' F (ks1 ++ (ks2 ++ ks3)) (ds1 ++ (ds2' ++ ds3)) (vs1 ++ (vs2 ++ vs3)) := by
  obtain ⟨h1, h2, G, hG, hD, hh⟩ := h
  simp only [List.length_append] at h1 h2
  have key : ∀ c (hc : c < ks2.length) (h2 : c < ds2.length) (h3 : c < vs2.length), Own n w (G (ks1.length + c)) ks2[c] ds2[c] vs2[c] := fun c hc k2 k3 => by
    have := hh (ks1.length + c) (by simp; omega) (by simp; omega) (by simp; omega)
    have a1 : (ks1 ++ (ks2 ++ ks3))[ks1.length + c]'(by simp; omega) = ks2[c] := by rw [List.getElem_append_right (by omega), List.getElem_append_left (by omega)]; simp
    have a2 : (ds1 ++ (ds2 ++ ds3))[ks1.length + c]'(by simp; omega) = ds2[c] := by rw [List.getElem_append_right (by omega), List.getElem_append_left (by omega)]; simp [e1]
    have a3 : (vs1 ++ (vs2 ++ vs3))[ks1.length + c]'(by simp; omega) = vs2[c] := by rw [List.getElem_append_right (by omega), List.getElem_append_left (by omega)]; simp [e2]
    rwa [a1, a2, a3] at this
  refine ⟨fun x => ∃ c, c < ks2.length ∧ G (ks1.length + c) x, fun x ⟨c, _, hx⟩ => hG _ _ hx, ⟨e3, e4, fun c x => c < ks2.length ∧ G (ks1.length + c) x, fun c x hx => ⟨c, hx.1, hx.2⟩, fun c c' x hx hx' => by have := hD _ _ _ hx.2 hx'.2; omega, fun c k1 k2 k3 => (key c k1 k2 k3).mono fun x hx => ⟨k1, hx⟩⟩, fun w' ds2' ho hs => ?_⟩
  obtain ⟨s1, s2, G2, hG2, hD2, hs⟩ := hs
  refine ⟨by simp only [List.length_append]; omega, by simp only [List.length_append]; omega, fun c x => if ks1.length ≤ c ∧ c < ks1.length + ks2.length then G2 (c - ks1.length) x else G c x, fun c x hx => ?_, fun c c' x hx hx' => ?_, fun c k1 k2 k3 => ?_⟩
  · dsimp only at hx
    split at hx
    · obtain ⟨q, _, hq⟩ := hG2 _ _ hx; exact hG _ _ hq
    · exact hG _ _ hx
  · dsimp only at hx hx'
    split at hx <;> split at hx'
    · have := hD2 _ _ _ hx hx'; omega
    · obtain ⟨q, h1, hq⟩ := hG2 _ _ hx
      have := hD _ _ _ hq hx'; omega
    · obtain ⟨q, h1, hq⟩ := hG2 _ _ hx'
      have := hD _ _ _ hq hx; omega
    · exact hD _ _ _ hx hx'
  · by_cases hc : ks1.length ≤ c ∧ c < ks1.length + ks2.length
    · obtain ⟨q, rfl⟩ : ∃ q, c = ks1.length + q := ⟨c - ks1.length, by omega⟩
      have hq : q < ks2.length := by omega
      have := hs q hq (by omega) (by omega)
      have a1 : (ks1 ++ (ks2 ++ ks3))[ks1.length + q]'k1 = ks2[q] := by rw [List.getElem_append_right (by omega), List.getElem_append_left (by omega)]; simp
      have a2 : (ds1 ++ (ds2' ++ ds3))[ks1.length + q]'k2 = ds2'[q]'(by omega) := by rw [List.getElem_append_right (by omega), List.getElem_append_left (by omega)]; simp [e1]
      have a3 : (vs1 ++ (vs2 ++ vs3))[ks1.length + q]'k3 = vs2[q]'(by omega) := by rw [List.getElem_append_right (by omega), List.getElem_append_left (by omega)]; simp [e2]
      rw [a1, a2, a3]
      exact this.mono fun x hx => by simp [hq, hx]
    · have hkeep := hh c (by simpa using k1) (by simp at k1 ⊢; omega) (by simpa using k3)
      have a2 : (ds1 ++ (ds2' ++ ds3))[c]'k2 = (ds1 ++ (ds2 ++ ds3))[c]'(by simp at k1 ⊢; omega) := by
        by_cases hlt : c < ks1.length
        · rw [List.getElem_append_left (by omega), List.getElem_append_left (by omega)]
        · rw [List.getElem_append_right (by omega), List.getElem_append_right (by omega), List.getElem_append_right (by omega), List.getElem_append_right (by omega)]
          simp [s1, e3]
      rw [a2]
      refine (hkeep.agree (ho.agree fun x hx _ ⟨q, h1, hq⟩ => hc ?_)).mono fun x hx => ?_
      · have := hD _ _ _ hx hq; omega
      · show (if _ then _ else _)
        rw [if_neg hc]; exact hx
theorem Owns.of1 {n : Nat} {w : World} {F : Nat → Prop} {k : CK} {d : DC} {v : Value} (h : Own n w F k d v) : Owns n w F [k] [d] [v] := Owns.cons (F2 := fun _ => False) h (Owns.nil _ _ _) (fun _ h => h) (fun _ h => h.elim) (fun _ _ h => h)
theorem Owns.to1 {n : Nat} {w : World} {F : Nat → Prop} {k : CK} {d : DC} {v : Value} (h : Owns n w F [k] [d] [v]) : Own n w F k d v := by
  obtain ⟨_, _, G, hG, _, hh⟩ := h
  exact (hh 0 (by simp) (by simp) (by simp)).mono (hG 0)
end Go.Proofs.YtflfnekaiaplfaaGreat.un
namespace Go.Proofs.YtflfnekaiaplfaaGreat.un
open mem
open Go.ChangeShapes Go.WideShapes Go.ChangeAt Go.RowKit Go.Lib
set_option linter.unusedVariables false
set_option linter.unusedSimpArgs false
/-- a fact that every world keeps which agrees on the blocks of D. -/
structure Kp (D : Nat → Prop) (P : World → Prop) (w : World) : Prop where
  go : ∀ w', Agree D w w' → P w'
theorem Kp.now {D : Nat → Prop} {P : World → Prop} {w : World} (h : Kp D P w) : P w := h.go w (Agree.refl _ _)
theorem Kp.agree {D : Nat → Prop} {P : World → Prop} {w w' : World} (h : Kp D P w) (ha : Agree D w w') : Kp D P w' := ⟨fun w'' hb => h.go w'' (ha.trans hb)⟩
theorem Kp.below {D : Nat → Prop} {P : World → Prop} {w w' : World} (h : Kp D P w) (hb : Below w.heap.size w w') : Kp D P w' := h.agree (.of_below hb)
theorem Kp.alloc {D : Nat → Prop} {P : World → Prop} {w : World} (h : Kp D P w) (o : Obj) : Kp D P (w.alloc o) := h.below (below_a1 w o)
theorem Kp.only {D F : Nat → Prop} {P : World → Prop} {w w' : World} (h : Kp D P w) (ho : Only F w w') (hd : ∀ b, D b → b < w.heap.size → ¬ F b) : Kp D P w' := h.agree (ho.agree hd)
theorem Kp.ofC {B : Nat → Prop} {n : Nat} {w : World} {ks : List CK} {ds : List DC} {vs : List Value} (h : Cells B n w ks ds vs) : Kp B (fun w => Cells B n w ks ds vs) w := ⟨fun w' ha => Cells.agree h ha⟩
theorem Kp.of1 {B : Nat → Prop} {n : Nat} {w : World} {k : CK} {d : DC} {v : Value} (h : Cell B n w k d v) : Kp B (fun w => Cell B n w k d v) w := ⟨fun w' ha => h.agree ha⟩
theorem Kp.ofO {F : Nat → Prop} {n : Nat} {w : World} {k : CK} {d : DC} {v : Value} (h : Own n w F k d v) : Kp F (fun w => Own n w F k d v) w := ⟨fun w' ha => h.agree ha⟩
theorem Owns.agree' {F : Nat → Prop} {n : Nat} {w w' : World} {ks : List CK} {ds : List DC} {vs : List Value} (h : Owns n w F ks ds vs) (ha : Agree F w w') : Owns n w' F ks ds vs := by
  obtain ⟨h1, h2, G, hG, hD, hh⟩ := h
  exact ⟨h1, h2, G, hG, hD, fun c k1 k2 k3 => (hh c k1 k2 k3).agree (ha.mono fun b hb => hG c b hb)⟩
theorem Kp.ofS {F : Nat → Prop} {n : Nat} {w : World} {ks : List CK} {ds : List DC} {vs : List Value} (h : Owns n w F ks ds vs) : Kp F (fun w => Owns n w F ks ds vs) w := ⟨fun w' ha => h.agree' ha⟩
theorem Kp.ofB {w : World} {g : Nat} {T : TypeId} {cs : Array Value} (h : Blk w g T cs) : Kp (fun b => b = g) (fun w => Blk w g T cs) w := ⟨fun w' ha => by
  unfold Blk at h ⊢
  rw [ha.block g rfl (Array.getElem?_eq_some_iff.1 h).1]; exact h⟩
/-- all that lies below a bound. -/
abbrev Lw (s : Nat) : Nat → Prop := fun b => b < s
theorem Cell.lw {B : Nat → Prop} {n : Nat} {w : World} {k : CK} {d : DC} {v : Value} (h : Cell B n w k d v) : Cell (Lw w.heap.size) n w k d v := h.mono fun b _ hb => hb
theorem Cells.lw {B : Nat → Prop} {n : Nat} {w : World} {ks : List CK} {ds : List DC} {vs : List Value} (h : Cells B n w ks ds vs) : Cells (Lw w.heap.size) n w ks ds vs := Cells.monoB h fun b _ hb => hb
/-- what a law asks of the model's answer, of the program's. -/
def AnsC (n : Nat) (k : CK) (d : DC) (w : World) (e : Ending) (w' : World) : Prop := ∃ v, e = .returned v ∧ Cell Any n w' k d v ∧ Below w.heap.size w w'
def AnsS (n : Nat) (ks : List CK) (ds : List DC) (w : World) (e : Ending) (w' : World) : Prop := ∃ vs : List Value, e = .returned (.agg vs.toArray) ∧ Cells Any n w' ks ds vs ∧ Below w.heap.size w w'
theorem nCs_le {B : Nat → Prop} {n : Nat} {w : World} (K : ∀ {e : Nat} {xs : List (List DC)} {v : Value}, Cell B n w (.l e) (.l xs) v → nL xs ≤ 13 * (xs.length + cL xs)) : ∀ {ks : List CK} {ds : List DC} {vs : List Value}, Cells B n w ks ds vs → nCs ds ≤ ks.length + 13 * cCs ds
  | [], [], [], _ => by simp [nCs]
  | k :: ks, d :: ds, v :: vs, h => by
    have h2 := nCs_le (fun {e xs v} hh => K hh) h.2
    have h1 : nC d ≤ 1 + 13 * cC d := by
      cases d with
      | i x => simp [nC]
      | s b => simp [nC]
      | l xs =>
        cases k with
        | i => obtain ⟨x, e, _⟩ := h.1.int; cases e
        | s => obtain ⟨x, e, _⟩ := h.1.str; cases e
        | l e => have := K h.1; simp only [nC, cC]; omega
    simp only [nCs, cCs, List.length_cons]
    omega
  | [], [], _ :: _, hh => hh.elim
  | [], _ :: _, _, hh => hh.elim
  | _ :: _, [], _, hh => hh.elim
  | _ :: _, _ :: _, [], hh => hh.elim
theorem sh_le : ∀ e, (sh e).length ≤ 13 := fun e => by
  unfold sh
  split <;> simp [shA, shV, shE, shPr, shB, shM, shPa, shT, shSt]
theorem nL_le13 : ∀ (n : Nat) {B : Nat → Prop} {w : World} {e : Nat} {xs : List (List DC)} {v : Value}, Cell B n w (.l e) (.l xs) v → nL xs ≤ 13 * (xs.length + cL xs) := fun n => by
  induction n with
  | zero => intro B w e xs v h; obtain ⟨_, rfl⟩ := h; simp [nL]
  | succ n ih =>
    intro B w e xs v h
    have hA : ∀ j, j ≤ xs.length → nL (xs.take j) ≤ 13 * (j + cL (xs.take j)) := fun j => by
      induction j with
      | zero => intro _; simp [nL]
      | succ j ihj =>
        intro hj
        have h1 := ihj (by omega)
        obtain ⟨xs', A, c, e1, rfl, _⟩ := h.lst
        injection e1 with e1
        subst e1
        obtain ⟨m, b, o, us, hm, _, _, _, _, hin⟩ := h.item j (by omega)
        obtain rfl : n = m := by omega
        have h2 := nCs_le (fun {e xs v} hh => ih hh) hin
        have h3 := sh_le e
        rw [nL_take xs j (by omega), cL_take xs j (by omega)]
        omega
    have := hA xs.length (Nat.le_refl _)
    rwa [List.take_length] at this
theorem nV_le {B : Nat → Prop} {n : Nat} {w : World} : ∀ {ks : List CK} {ds : List DC} {vs : List Value}, Cells B n w ks ds vs → nV ds ≤ 13 * cCs ds
  | [], [], [], _ => by simp [nV]
  | k :: ks, d :: ds, v :: vs, h => by
    have h2 := nV_le h.2
    cases d with
    | i x => simp only [nV, cCs, cC]; omega
    | s b => simp only [nV, cCs, cC]; omega
    | l xs =>
      cases k with
      | i => obtain ⟨x, e, _⟩ := h.1.int; cases e
      | s => obtain ⟨x, e, _⟩ := h.1.str; cases e
      | l e => have := nL_le13 n h.1; simp only [nV, cCs, cC]; omega
  | [], [], _ :: _, hh => hh.elim
  | [], _ :: _, _, hh => hh.elim
  | _ :: _, [], _, hh => hh.elim
  | _ :: _, _ :: _, [], hh => hh.elim
end Go.Proofs.YtflfnekaiaplfaaGreat.un
