/- append of many items to a row under construction. -/
import Derived.Test.YtflfnekaiaplfaaGreatCpS
namespace Go.Proofs.YtflfnekaiaplfaaGreat.un
open mem
open Go.ChangeShapes Go.WideShapes Go.ChangeAt Go.RowKit Go.Lib
set_option linter.unusedVariables false
set_option maxRecDepth 8000
set_option linter.unusedSimpArgs false

/-- items that lie in a row somewhere. -/
structure Src (C : Nat → Prop) (n : Nat) (w : World) (e : Nat) (A : Option Addr) (Y : List (List DC)) : Prop where
  go : ∃ us : List (List Value), us.length = Y.length ∧ (∀ j (h2 : j < us.length), ∃ b o, A = some ⟨b, o, none⟩ ∧ b < w.heap.size ∧ w.rangeAt b (o + j * (sh e).length) us[j]) ∧ ∀ j (h1 : j < Y.length) (h2 : j < us.length), Cells C n w (sh e) Y[j] us[j]
theorem Src.mono {C C' : Nat → Prop} {n : Nat} {w : World} {e : Nat} {A : Option Addr} {Y : List (List DC)} (h : Src C n w e A Y) (hC : ∀ b, C b → b < w.heap.size → C' b) : Src C' n w e A Y := by
  obtain ⟨us, u1, u2, u3⟩ := h.go
  exact ⟨us, u1, u2, fun j h1 h2 => Cells.monoB (u3 j h1 h2) hC⟩
theorem Src.below {C : Nat → Prop} {n : Nat} {w w' : World} {e : Nat} {A : Option Addr} {Y : List (List DC)} (h : Src C n w e A Y) (hb : Below w.heap.size w w') : Src C n w' e A Y := by
  obtain ⟨us, u1, u2, u3⟩ := h.go
  refine ⟨us, u1, fun j h2 => ?_, fun j h1 h2 => Cells.below (u3 j h1 h2) hb⟩
  obtain ⟨b, o, e1, e2, e3⟩ := u2 j h2
  exact ⟨b, o, e1, Nat.lt_of_lt_of_le e2 hb.size, range_same e3 (hb.block b e2)⟩
theorem Src.at_ {C : Nat → Prop} {n : Nat} {w : World} {e : Nat} {A : Option Addr} {Y : List (List DC)} (h : Src C n w e A Y) (j : Nat) (hj : j < Y.length) : ∃ b o us, A = some ⟨b, o, none⟩ ∧ b < w.heap.size ∧ w.rangeAt b (o + j * (sh e).length) us ∧ Cells C n w (sh e) Y[j] us := by
  obtain ⟨us, u1, u2, u3⟩ := h.go
  obtain ⟨b, o, e1, e2, e3⟩ := u2 j (by omega)
  exact ⟨b, o, us[j], e1, e2, e3, u3 j hj (by omega)⟩
/-- out of a list. -/
theorem Cell.src {B : Nat → Prop} {n e c : Nat} {w : World} {Y : List (List DC)} {A : Option Addr} (h : Cell B (n + 1) w (.l e) (.l Y) (.slice A Y.length c)) : Src B n w e A Y := by
  have key : ∀ j : Fin Y.length, ∃ us, (∃ b o, A = some ⟨b, o, none⟩ ∧ b < w.heap.size ∧ w.rangeAt b (o + j.val * (sh e).length) us) ∧ Cells B n w (sh e) Y[j.val] us := fun j => by
    obtain ⟨m, b', o', us, hm, eA, _, hb, hr, hin⟩ := h.item j.val j.isLt
    obtain rfl : n = m := by omega
    exact ⟨us, ⟨b', o', eA, hb, hr⟩, hin⟩
  refine ⟨List.ofFn fun j => Classical.choose (key j), by simp, fun j h2 => ?_, fun j h1 h2 => ?_⟩
  · rw [List.getElem_ofFn]; exact (Classical.choose_spec (key ⟨j, by simpa using h2⟩)).1
  · rw [List.getElem_ofFn]; exact (Classical.choose_spec (key ⟨j, h1⟩)).2
/-- its first items, its last. -/
theorem Src.take {C : Nat → Prop} {n : Nat} {w : World} {e : Nat} {A : Option Addr} {Y : List (List DC)} (h : Src C n w e A Y) (k : Nat) : Src C n w e A (Y.take k) := by
  obtain ⟨us, u1, u2, u3⟩ := h.go
  refine ⟨us.take k, by simp [u1], fun j h2 => ?_, fun j h1 h2 => ?_⟩
  · rw [List.getElem_take]; exact u2 j (by rw [List.length_take] at h2; omega)
  · rw [List.getElem_take, List.getElem_take]; exact u3 j _ _
theorem Src.drop {C : Nat → Prop} {n : Nat} {w : World} {e b o : Nat} {A : Option Addr} {Y : List (List DC)} (h : Src C n w e (some ⟨b, o, none⟩) Y) (k : Nat) (hA : ∀ j, j < (Y.drop k).length → A = some ⟨b, o + k * (sh e).length, none⟩) : Src C n w e A (Y.drop k) := by
  obtain ⟨us, u1, u2, u3⟩ := h.go
  refine ⟨us.drop k, by simp [u1], fun j h2 => ?_, fun j h1 h2 => ?_⟩
  · rw [List.getElem_drop]
    obtain ⟨b', o', e1, e2, e3⟩ := u2 (k + j) (by rw [List.length_drop] at h2; omega)
    injection e1 with e1; injection e1 with e1 e1' _
    subst e1 e1'
    refine ⟨b, o + k * (sh e).length, hA j (by rw [List.length_drop] at h2 ⊢; omega), e2, ?_⟩
    have e4 : o + k * (sh e).length + j * (sh e).length = o + (k + j) * (sh e).length := by rw [Nat.add_mul]; omega
    rw [e4]; exact e3
  · rw [List.getElem_drop, List.getElem_drop]; exact u3 (k + j) _ _
theorem own_flat {w : World} {base N n : Nat} {T : TypeId} {v : Value} {xs ys : List Value} (h : w.ownsRow base T N v n xs) (h' : w.ownsRow base T N v n ys) : xs = ys := by
  rcases h.2 with ⟨e1, e2⟩ | ⟨g', cap', cur', e1, _, e2, _, _, _, e3⟩
  · exact (List.eq_nil_of_length_eq_zero (l := xs) (by rw [h.1, e2, Nat.zero_mul])).trans (List.eq_nil_of_length_eq_zero (l := ys) (by rw [h'.1, e2, Nat.zero_mul])).symm
  · rcases h'.2 with ⟨f1, f2⟩ | ⟨g2, cap2, cur2, f1, _, f2, _, _, _, f3⟩
    · rw [f1] at e1; cases e1
    · rw [f1] at e1; injection e1 with e1; injection e1 with e1; injection e1 with e1
      subst e1
      rw [f2] at e2; injection e2 with e2; injection e2 with e2
      rw [← e3, ← f3, e2]
theorem run_append_nil {P : Program} {w : World} {base N n : Nat} {t T ty : TypeId} (hI : Inf P t T N) {v : Value} {xs : List Value} (hown : w.ownsRow base T N v n xs) (A : Option Addr) (c : Nat) (hA : A = none) :
    (Builtin.append_ #[t, t] ty #[v, .slice A 0 c]).run P w = .ok v w := by
  subst hA
  obtain ⟨ht, i, z, bytes, hi, _⟩ := hI.go
  rcases hown.2 with ⟨rfl, rfl⟩ | ⟨g, cap, cur, rfl, _, _, hnc, _⟩
  · simp [Builtin.append_, run_underlying ht, sizeOf, typeInfo, hi, Builtin.lenOf, Builtin.firstCells]
  · simp [Builtin.append_, run_underlying ht, sizeOf, typeInfo, hi, Builtin.lenOf, Builtin.firstCells, hnc, storeCells]
/-- what the operation does, whatever the row's items are. -/
theorem run_many {P : Program} {w : World} {base n e : Nat} {t T ty : TypeId} {C : Nat → Prop} (hI : Inf P t T (sh e).length) {v : Value} {X : List (List DC)} {xs : List Value} (hrow : w.ownsRow base T (sh e).length v X.length xs) {Y : List (List DC)} {A : Option Addr} (c : Nat) (hY : Src C n w e A Y) (hbase : base ≤ w.heap.size) (hsm : X.length + Y.length ≤ 1000000) :
    ∃ (v' : Value) (w' : World) (us : List (List Value)), (Builtin.append_ #[t, t] ty #[v, .slice A Y.length c]).run P w = .ok v' w' ∧ us.length = Y.length ∧ w'.ownsRow base T (sh e).length v' (X.length + Y.length) (xs ++ us.flatten) ∧ w.grownBy w' v.ownBlock ∧ (v'.ownBlock = v.ownBlock ∨ v'.ownBlock = some w.heap.size) ∧ ∀ j (h1 : j < Y.length) (h2 : j < us.length), Cells C n w (sh e) Y[j] us[j] := by
  obtain ⟨us, u1, u2, u3⟩ := hY.go
  have hl : ∀ r ∈ us, r.length = (sh e).length := fun r hr => by
    obtain ⟨j, hj, rfl⟩ := List.getElem_of_mem hr
    exact Cells.length (u3 j (by omega) hj)
  have hfl := flat_len us hl
  rcases A with _ | ad
  · have h0 : Y = [] := by
      cases Y with
      | nil => rfl
      | cons y ys => obtain ⟨_, _, eA, _⟩ := u2 0 (by simp [u1]); cases eA
    subst h0
    have h0' : us = [] := List.eq_nil_of_length_eq_zero u1
    subst h0'
    exact ⟨v, w, [], run_append_nil (P := P) (ty := ty) hI hrow none c rfl, rfl, by simpa using hrow, World.grownBy.refl w _, .inl rfl, fun j h1 => absurd h1 (by simp)⟩
  · obtain ⟨ht, i, z, bytes, hi, hz, hN, hby, hzs, hpos, hbl⟩ := hI.go
    obtain ⟨v', w', hrun, h2, h3, _, h4⟩ := run_append_own_at (P := P) w base t ty T i z (sh e).length bytes ht hi hz hN hby hzs hpos v X.length xs hrow ad Y.length c us.flatten (by rw [hfl, u1]) (fun j u hj => by
          have hjl := (List.getElem?_eq_some_iff.1 hj).1
          rw [hfl] at hjl
          have hq : j / (sh e).length < us.length := by rw [Nat.div_lt_iff_lt_mul hpos]; exact hjl
          have hc : j % (sh e).length < (sh e).length := Nat.mod_lt _ hpos
          have ej : j / (sh e).length * (sh e).length + j % (sh e).length = j := by have := Nat.div_add_mod j (sh e).length; rw [Nat.mul_comm] at this; omega
          have h5 := flat_at us hl _ hq _ hc
          rw [ej, hj] at h5
          obtain ⟨b, o, eA, _, hr⟩ := u2 _ hq
          injection eA with eA
          subst eA
          have h6 := hr _ u h5.symm
          rw [un.addr_add]
          rw [Nat.add_assoc, ej] at h6
          exact h6) (fun y hy => by
          obtain ⟨r, hr, hy⟩ := List.mem_flatten.1 hy
          obtain ⟨j, hj, rfl⟩ := List.getElem_of_mem hr
          exact cells_one (u3 j (by omega) hj) y hy) (by simp only [maxLen]; omega) (by
        have : (X.length + Y.length) * bytes ≤ 1000001 * 4096 := Nat.mul_le_mul (by omega) hbl
        omega) hbase
    exact ⟨v', w', us, hrun, u1, h2, h3, h4, u3⟩
section
variable {P : Program}
/-- 'append(s, t...)', the items sharing memory. -/
theorem wpList_sackN {ops : Array Oper} {rest : List Oper} {o : Oper} {a : Act} {Q : Exit → Act → World → Prop} (hgd : o.guard = none) {t T : TypeId} {e n : Nat} (hI : Inf P t T (sh e).length) (s x : Operand)
    (ho : o.op = .call { callee := .builtin .append, args := #[s, x], argTypes := #[t, t] })
    {w : World} {base : Nat} {v : Value} {X Y : List (List DC)} {A : Option Addr} {m c : Nat} (hs : a.eval s = v) (hbag : Sack n w base T e v X) (hbase : base ≤ w.heap.size)
    (hx : a.eval x = .slice A m c) (hm : m = Y.length) (hY : Src (fun x => v.ownBlock ≠ some x) n w e A Y) (hsm : X.length + Y.length ≤ 1000000)
    (h : ∀ v' w', Sack n w' base T e v' (X ++ Y) → w.grownBy w' v.ownBlock → wpList P ops Q rest (a.put o.dst v') w') : wpList P ops Q (o :: rest) a w := by
  subst hm
  refine wpList_plain hgd fun _ hK => ?_
  obtain ⟨rows, hrow, hl, hh⟩ := hbag.go
  obtain ⟨v', w', us, hrun, u1, h2, h3, h4, u3⟩ := run_many (P := P) (ty := o.type) hI hrow c hY hbase hsm
  unfold Oper.wp execOp
  simp only [ho, resolve, invoke, builtin, Sem.run_bind, Sem.run_pure, Result.andThen_ok, List.map_toArray, List.map_cons, List.map_nil, hs, hx, hrun]
  refine hK _ _ (h v' w' (Sack.app (w1 := w) (Y := Y) (us := us) hbag (Below.refl _ _) u1 u3 (fun rows' hr' => ?_) h3 h4) h3)
  rw [own_flat hr' hrow]; exact h2
end

end Go.Proofs.YtflfnekaiaplfaaGreat.un
