/- Plain: facts that worlds keep which agree on some blocks: for laws that mark memory. -/
import Derived.Test.YtgkcohclejmhkaaUp
namespace Go.Proofs.Ytgkcohclejmhkaa.un
open mem
open Go.ChangeShapes Go.WideShapes Go.ChangeAt Go.RowKit Go.Lib
set_option linter.unusedVariables false
set_option linter.unusedSimpArgs false
/-- a fact that every world keeps which agrees on the blocks of D. -/
structure Kp (D : Nat → Prop) (P : World → Prop) (w : World) : Prop where
  go : ∀ w', Agree D w w' → P w'
theorem Kp.now {D : Nat → Prop} {P : World → Prop} {w : World} (h : Kp D P w) : P w := h.go w (Agree.refl _ _)
theorem Kp.agree {D : Nat → Prop} {P : World → Prop} {w w' : World} (h : Kp D P w) (ha : Agree D w w') : Kp D P w' := ⟨fun w'' hb => h.go w'' (ha.trans hb)⟩
theorem Kp.below {D : Nat → Prop} {P : World → Prop} {w w' : World} (h : Kp D P w) (hb : Below w.heap.size w w') : Kp D P w' := h.agree (.of_below hb)
theorem Kp.alloc {D : Nat → Prop} {P : World → Prop} {w : World} (h : Kp D P w) (o : Obj) : Kp D P (w.alloc o) := h.below (below_a1 w o)
theorem Kp.only {D F : Nat → Prop} {P : World → Prop} {w w' : World} (h : Kp D P w) (ho : Only F w w') (hd : ∀ b, D b → b < w.heap.size → ¬ F b) : Kp D P w' := h.agree (ho.agree hd)
theorem Kp.ofC {B : Nat → Prop} {n : Nat} {w : World} {ks : List CK} {ds : List DC} {vs : List Value} (h : Cells B n w ks ds vs) : Kp B (fun w => Cells B n w ks ds vs) w := ⟨fun w' ha => Cells.agree h ha⟩
theorem Kp.of1 {B : Nat → Prop} {n : Nat} {w : World} {k : CK} {d : DC} {v : Value} (h : Cell B n w k d v) : Kp B (fun w => Cell B n w k d v) w := ⟨fun w' ha => h.agree ha⟩
theorem Kp.ofO {F : Nat → Prop} {n : Nat} {w : World} {k : CK} {d : DC} {v : Value} (h : Own n w F k d v) : Kp F (fun w => Own n w F k d v) w := ⟨fun w' ha => h.agree ha⟩
theorem Owns.agree' {F : Nat → Prop} {n : Nat} {w w' : World} {ks : List CK} {ds : List DC} {vs : List Value} (h : Owns n w F ks ds vs) (ha : Agree F w w') : Owns n w' F ks ds vs := by
  obtain ⟨h1, h2, G, hG, hD, hh⟩ := h
  exact ⟨h1, h2, G, hG, hD, fun c k1 k2 k3 => (hh c k1 k2 k3).agree (ha.mono fun b hb => hG c b hb)⟩
theorem Kp.ofS {F : Nat → Prop} {n : Nat} {w : World} {ks : List CK} {ds : List DC} {vs : List Value} (h : Owns n w F ks ds vs) : Kp F (fun w => Owns n w F ks ds vs) w := ⟨fun w' ha => h.agree' ha⟩
theorem Kp.ofB {w : World} {g : Nat} {T : TypeId} {cs : Array Value} (h : Blk w g T cs) : Kp (fun b => b = g) (fun w => Blk w g T cs) w := ⟨fun w' ha => by
  unfold Blk at h ⊢
  rw [ha.block g rfl (Array.getElem?_eq_some_iff.1 h).1]; exact h⟩
/-- all that lies below a bound. -/
abbrev Lw (s : Nat) : Nat → Prop := fun b => b < s
theorem Cell.lw {B : Nat → Prop} {n : Nat} {w : World} {k : CK} {d : DC} {v : Value} (h : Cell B n w k d v) : Cell (Lw w.heap.size) n w k d v := h.mono fun b _ hb => hb
theorem Cells.lw {B : Nat → Prop} {n : Nat} {w : World} {ks : List CK} {ds : List DC} {vs : List Value} (h : Cells B n w ks ds vs) : Cells (Lw w.heap.size) n w ks ds vs := Cells.monoB h fun b _ hb => hb
/-- what a law asks of the model's answer, of the program's. -/
def AnsC (n : Nat) (k : CK) (d : DC) (w : World) (e : Ending) (w' : World) : Prop := ∃ v, e = .returned v ∧ Cell Any n w' k d v ∧ Below w.heap.size w w'
def AnsS (n : Nat) (ks : List CK) (ds : List DC) (w : World) (e : Ending) (w' : World) : Prop := ∃ vs : List Value, e = .returned (.agg vs.toArray) ∧ Cells Any n w' ks ds vs ∧ Below w.heap.size w w'
theorem nCs_le {B : Nat → Prop} {n : Nat} {w : World} (K : ∀ {e : Nat} {xs : List (List DC)} {v : Value}, Cell B n w (.l e) (.l xs) v → nL xs ≤ 13 * (xs.length + cL xs)) : ∀ {ks : List CK} {ds : List DC} {vs : List Value}, Cells B n w ks ds vs → nCs ds ≤ ks.length + 13 * cCs ds
  | [], [], [], _ => by simp [nCs]
  | k :: ks, d :: ds, v :: vs, h => by
    have h2 := nCs_le (fun {e xs v} hh => K hh) h.2
    have h1 : nC d ≤ 1 + 13 * cC d := by
      cases d with
      | i x => simp [nC]
      | s b => simp [nC]
      | l xs =>
        cases k with
        | i => obtain ⟨x, e, _⟩ := h.1.int; cases e
        | s => obtain ⟨x, e, _⟩ := h.1.str; cases e
        | l e => have := K h.1; simp only [nC, cC]; omega
    simp only [nCs, cCs, List.length_cons]
    omega
  | [], [], _ :: _, hh => hh.elim
  | [], _ :: _, _, hh => hh.elim
  | _ :: _, [], _, hh => hh.elim
  | _ :: _, _ :: _, [], hh => hh.elim
theorem sh_le : ∀ e, (sh e).length ≤ 13 := fun e => by
  unfold sh
  split <;> simp [shA, shV, shE, shPr, shB, shM, shPa, shT, shSt]
theorem nL_le13 : ∀ (n : Nat) {B : Nat → Prop} {w : World} {e : Nat} {xs : List (List DC)} {v : Value}, Cell B n w (.l e) (.l xs) v → nL xs ≤ 13 * (xs.length + cL xs) := fun n => by
  induction n with
  | zero => intro B w e xs v h; obtain ⟨_, rfl⟩ := h; simp [nL]
  | succ n ih =>
    intro B w e xs v h
    have hA : ∀ j, j ≤ xs.length → nL (xs.take j) ≤ 13 * (j + cL (xs.take j)) := fun j => by
      induction j with
      | zero => intro _; simp [nL]
      | succ j ihj =>
        intro hj
        have h1 := ihj (by omega)
        obtain ⟨xs', A, c, e1, rfl, _⟩ := h.lst
        injection e1 with e1
        subst e1
        obtain ⟨m, b, o, us, hm, _, _, _, _, hin⟩ := h.item j (by omega)
        obtain rfl : n = m := by omega
        have h2 := nCs_le (fun {e xs v} hh => ih hh) hin
        have h3 := sh_le e
        rw [nL_take xs j (by omega), cL_take xs j (by omega)]
        omega
    have := hA xs.length (Nat.le_refl _)
    rwa [List.take_length] at this
theorem nV_le {B : Nat → Prop} {n : Nat} {w : World} : ∀ {ks : List CK} {ds : List DC} {vs : List Value}, Cells B n w ks ds vs → nV ds ≤ 13 * cCs ds
  | [], [], [], _ => by simp [nV]
  | k :: ks, d :: ds, v :: vs, h => by
    have h2 := nV_le h.2
    cases d with
    | i x => simp only [nV, cCs, cC]; omega
    | s b => simp only [nV, cCs, cC]; omega
    | l xs =>
      cases k with
      | i => obtain ⟨x, e, _⟩ := h.1.int; cases e
      | s => obtain ⟨x, e, _⟩ := h.1.str; cases e
      | l e => have := nL_le13 n h.1; simp only [nV, cCs, cC]; omega
  | [], [], _ :: _, hh => hh.elim
  | [], _ :: _, _, hh => hh.elim
  | _ :: _, [], _, hh => hh.elim
  | _ :: _, _ :: _, [], hh => hh.elim
end Go.Proofs.Ytgkcohclejmhkaa.un
