/- Plain: an item of a list that owns, cell by cell; a part of a struct; the world of a call, named. -/
import Derived.Test.YtgkcohclejmhkaaUo
namespace Go.Proofs.Ytgkcohclejmhkaa.un
open mem
open Go.ChangeShapes Go.WideShapes Go.ChangeAt Go.RowKit Go.Lib
set_option linter.unusedVariables false
set_option maxRecDepth 8000
set_option linter.unusedSimpArgs false

theorem named {P : Program} {f : FuncId} {args : Array Value} {W : World} {Q : Ending → World → Prop} (h : ∀ W2, W = W2 → Calls P f args W2 Q) : Calls P f args W Q := h _ rfl
theorem set_at {Y : List (List DC)} {j : Nat} {ds : List DC} (h : j < (Y.set j ds).length) : (Y.set j ds)[j] = ds := by simp
theorem set_set' {Y : List (List DC)} {j : Nat} {ds ds' : List DC} : (Y.set j ds).set j ds' = Y.set j ds' := by simp
theorem self_set {Y : List (List DC)} {j : Nat} (h : j < Y.length) : Y.set j Y[j] = Y := by simp

/-- the cells of an item are there. -/
theorem Own.thereat {n e cap b o L N j : Nat} {w : World} {F : Nat → Prop} {Y : List (List DC)} {ds : List DC} (h : Own n w F (.l e) (.l (Y.set j ds)) (.slice (some ⟨b, o, none⟩) L cap)) (hN : (sh e).length = N) (hj : j < Y.length) :
    F b ∧ b < w.heap.size ∧ ∀ c, c < N → ∃ x, w.cell? ⟨b, o + j * N + c, none⟩ = some x ∧ w.frozen? ⟨b, o + j * N + c, none⟩ = false := by
  subst hN
  obtain ⟨eL, _⟩ := h.cell.len
  rw [eL] at h
  obtain ⟨m, b', o', us, _, eA, hF, hb, ht, _⟩ := h.sub j (by simpa using hj)
  injection eA with eA; injection eA with e1 e2 _
  subst e1 e2
  exact ⟨hF, hb, fun c hc => by
    obtain ⟨h1, h2⟩ := ht c hc
    obtain ⟨x, hx⟩ := Option.isSome_iff_exists.1 h1
    exact ⟨x, hx, h2⟩⟩
theorem Own.putat {n e cap b o L N j : Nat} {w : World} {F : Nat → Prop} {Y : List (List DC)} {ds : List DC} (h : Own n w F (.l e) (.l (Y.set j ds)) (.slice (some ⟨b, o, none⟩) L cap)) (hN : (sh e).length = N) (hj : j < Y.length) (c : Nat) (k : CK) (hc : (sh e)[c]? = some k) (hk : ∀ e', k ≠ .l e')
    (d' : DC) (u : Value) (hu : Own 0 w F k d' u) : Own n (w.setCell ⟨b, o + j * N + c, none⟩ u) F (.l e) (.l (Y.set j (ds.set c d'))) (.slice (some ⟨b, o, none⟩) L cap) := by
  subst hN
  obtain ⟨eL, _⟩ := h.cell.len
  rw [eL] at h ⊢
  obtain ⟨hc1, hc2⟩ := List.getElem?_eq_some_iff.1 hc
  subst hc2
  have := Own.put h j (by simpa using hj) c hc1 hk d' u hu
  rwa [set_at, set_set'] at this
theorem Own.cellat {n e e' cap b o L N j : Nat} {w : World} {F : Nat → Prop} {Y : List (List DC)} {ds : List DC} {l : List (List DC)} {u : Value} (h : Own n w F (.l e) (.l (Y.set j ds)) (.slice (some ⟨b, o, none⟩) L cap)) (hN : (sh e).length = N) (hj : j < Y.length) (c : Nat) (hc : (sh e)[c]? = some (.l e')) (hd : ds[c]? = some (.l l))
    (hu : w.cell? ⟨b, o + j * N + c, none⟩ = some u) : ∃ m G, n = m + 1 ∧ (∀ x, G x → F x) ∧ Own m w G (.l e') (.l l) u ∧
      ∀ (w' : World) (l' : List (List DC)), Only G w w' → Own m w' G (.l e') (.l l') u → Own n w' F (.l e) (.l (Y.set j (ds.set c (.l l')))) (.slice (some ⟨b, o, none⟩) L cap) := by
  subst hN
  obtain ⟨eL, _⟩ := h.cell.len
  rw [eL] at h ⊢
  obtain ⟨hc1, hc2⟩ := List.getElem?_eq_some_iff.1 hc
  obtain ⟨hd1, hd2⟩ := List.getElem?_eq_some_iff.1 hd
  obtain ⟨m, b', o', us, rfl, eA, hF, hb, ht, hr, hul, hxl, G, hG, hh⟩ := h.sub j (by simpa using hj)
  injection eA with eA; injection eA with e1 e2 _
  subst e1 e2
  have hus : us[c]? = some u := by
    have h1 : c < us.length := by omega
    have h2 := hr c us[c] (List.getElem?_eq_getElem h1)
    rw [hu] at h2
    rw [List.getElem?_eq_getElem h1, ← h2]
  obtain ⟨hu1, hu2⟩ := List.getElem?_eq_some_iff.1 hus
  simp only [set_at] at hh
  obtain ⟨k1, k2⟩ := hh c hc1 hd1 hu1
  rw [hc2, hd2, hu2] at k1
  refine ⟨m, G c, rfl, fun x hx => (hG c x hx).1, k1, fun w' l' ho hl' => ?_⟩
  have := k2 w' (.l l') ho (by rw [hc2, hu2]; exact hl')
  rwa [set_set'] at this
/-- a part of a struct that owns, turned. -/
theorem Owns.part {n : Nat} {w : World} {F : Nat → Prop} {ks1 ks2 ks3 : List CK} {ds1 ds2 ds3 : List DC} {vs1 vs2 vs3 : List Value} (h : Owns n w F (ks1 ++ (ks2 ++ ks3)) (ds1 ++ (ds2 ++ ds3)) (vs1 ++ (vs2 ++ vs3))) (e1 : ds1.length = ks1.length) (e2 : vs1.length = ks1.length) (e3 : ds2.length = ks2.length) (e4 : vs2.length = ks2.length) :
    ∃ F2, (∀ x, F2 x → F x) ∧ Owns n w F2 ks2 ds2 vs2 ∧ ∀ w' ds2', Only F2 w w' → Owns n w' F2 ks2 ds2' vs2 → Owns n w' F (ks1 ++ (ks2 ++ ks3)) (ds1 ++ (ds2' ++ ds3)) (vs1 ++ (vs2 ++ vs3)) := by
  obtain ⟨h1, h2, G, hG, hD, hh⟩ := h
  simp only [List.length_append] at h1 h2
  have key : ∀ c (hc : c < ks2.length) (h2 : c < ds2.length) (h3 : c < vs2.length), Own n w (G (ks1.length + c)) ks2[c] ds2[c] vs2[c] := fun c hc k2 k3 => by
    have := hh (ks1.length + c) (by simp; omega) (by simp; omega) (by simp; omega)
    have a1 : (ks1 ++ (ks2 ++ ks3))[ks1.length + c]'(by simp; omega) = ks2[c] := by rw [List.getElem_append_right (by omega), List.getElem_append_left (by omega)]; simp
    have a2 : (ds1 ++ (ds2 ++ ds3))[ks1.length + c]'(by simp; omega) = ds2[c] := by rw [List.getElem_append_right (by omega), List.getElem_append_left (by omega)]; simp [e1]
    have a3 : (vs1 ++ (vs2 ++ vs3))[ks1.length + c]'(by simp; omega) = vs2[c] := by rw [List.getElem_append_right (by omega), List.getElem_append_left (by omega)]; simp [e2]
    rwa [a1, a2, a3] at this
  refine ⟨fun x => ∃ c, c < ks2.length ∧ G (ks1.length + c) x, fun x ⟨c, _, hx⟩ => hG _ _ hx, ⟨e3, e4, fun c x => c < ks2.length ∧ G (ks1.length + c) x, fun c x hx => ⟨c, hx.1, hx.2⟩, fun c c' x hx hx' => by have := hD _ _ _ hx.2 hx'.2; omega, fun c k1 k2 k3 => (key c k1 k2 k3).mono fun x hx => ⟨k1, hx⟩⟩, fun w' ds2' ho hs => ?_⟩
  obtain ⟨s1, s2, G2, hG2, hD2, hs⟩ := hs
  refine ⟨by simp only [List.length_append]; omega, by simp only [List.length_append]; omega, fun c x => if ks1.length ≤ c ∧ c < ks1.length + ks2.length then G2 (c - ks1.length) x else G c x, fun c x hx => ?_, fun c c' x hx hx' => ?_, fun c k1 k2 k3 => ?_⟩
  · dsimp only at hx
    split at hx
    · obtain ⟨q, _, hq⟩ := hG2 _ _ hx; exact hG _ _ hq
    · exact hG _ _ hx
  · dsimp only at hx hx'
    split at hx <;> split at hx'
    · have := hD2 _ _ _ hx hx'; omega
    · obtain ⟨q, h1, hq⟩ := hG2 _ _ hx
      have := hD _ _ _ hq hx'; omega
    · obtain ⟨q, h1, hq⟩ := hG2 _ _ hx'
      have := hD _ _ _ hq hx; omega
    · exact hD _ _ _ hx hx'
  · by_cases hc : ks1.length ≤ c ∧ c < ks1.length + ks2.length
    · obtain ⟨q, rfl⟩ : ∃ q, c = ks1.length + q := ⟨c - ks1.length, by omega⟩
      have hq : q < ks2.length := by omega
      have := hs q hq (by omega) (by omega)
      have a1 : (ks1 ++ (ks2 ++ ks3))[ks1.length + q]'k1 = ks2[q] := by rw [List.getElem_append_right (by omega), List.getElem_append_left (by omega)]; simp
      have a2 : (ds1 ++ (ds2' ++ ds3))[ks1.length + q]'k2 = ds2'[q]'(by omega) := by rw [List.getElem_append_right (by omega), List.getElem_append_left (by omega)]; simp [e1]
      have a3 : (vs1 ++ (vs2 ++ vs3))[ks1.length + q]'k3 = vs2[q]'(by omega) := by rw [List.getElem_append_right (by omega), List.getElem_append_left (by omega)]; simp [e2]
      rw [a1, a2, a3]
      exact this.mono fun x hx => by simp [hq, hx]
    · have hkeep := hh c (by simpa using k1) (by simp at k1 ⊢; omega) (by simpa using k3)
      have a2 : (ds1 ++ (ds2' ++ ds3))[c]'k2 = (ds1 ++ (ds2 ++ ds3))[c]'(by simp at k1 ⊢; omega) := by
        by_cases hlt : c < ks1.length
        · rw [List.getElem_append_left (by omega), List.getElem_append_left (by omega)]
        · rw [List.getElem_append_right (by omega), List.getElem_append_right (by omega), List.getElem_append_right (by omega), List.getElem_append_right (by omega)]
          simp [s1, e3]
      rw [a2]
      refine (hkeep.agree (ho.agree fun x hx _ ⟨q, h1, hq⟩ => hc ?_)).mono fun x hx => ?_
      · have := hD _ _ _ hx hq; omega
      · show (if _ then _ else _)
        rw [if_neg hc]; exact hx
theorem Owns.of1 {n : Nat} {w : World} {F : Nat → Prop} {k : CK} {d : DC} {v : Value} (h : Own n w F k d v) : Owns n w F [k] [d] [v] := Owns.cons (F2 := fun _ => False) h (Owns.nil _ _ _) (fun _ h => h) (fun _ h => h.elim) (fun _ _ h => h)
theorem Owns.to1 {n : Nat} {w : World} {F : Nat → Prop} {k : CK} {d : DC} {v : Value} (h : Owns n w F [k] [d] [v]) : Own n w F k d v := by
  obtain ⟨_, _, G, hG, _, hh⟩ := h
  exact (hh 0 (by simp) (by simp) (by simp)).mono (hG 0)
end Go.Proofs.Ytgkcohclejmhkaa.un
