/- Plain: many items appended to a row whose items share memory. Plain: a row of structs whose items are told by their numbers: put in another order, items written over others, cut. -/
import Derived.Test.YtgkcohclejmhkaaCpS
import Derived.Shelf.GgSortFunc.InsertionK
import Derived.Shelf.GgSortFunc.RowK
namespace Go.Proofs.Ytgkcohclejmhkaa.un
open mem
open Go.ChangeShapes Go.WideShapes Go.ChangeAt Go.RowKit Go.Lib
set_option linter.unusedVariables false
set_option maxRecDepth 8000
set_option linter.unusedSimpArgs false

/-- items that lie in a row somewhere. -/
structure Src (C : Nat → Prop) (n : Nat) (w : World) (e : Nat) (A : Option Addr) (Y : List (List DC)) : Prop where
  go : ∃ us : List (List Value), us.length = Y.length ∧ (∀ j (h2 : j < us.length), ∃ b o, A = some ⟨b, o, none⟩ ∧ b < w.heap.size ∧ w.rangeAt b (o + j * (sh e).length) us[j]) ∧ ∀ j (h1 : j < Y.length) (h2 : j < us.length), Cells C n w (sh e) Y[j] us[j]
theorem Src.mono {C C' : Nat → Prop} {n : Nat} {w : World} {e : Nat} {A : Option Addr} {Y : List (List DC)} (h : Src C n w e A Y) (hC : ∀ b, C b → b < w.heap.size → C' b) : Src C' n w e A Y := by
  obtain ⟨us, u1, u2, u3⟩ := h.go
  exact ⟨us, u1, u2, fun j h1 h2 => Cells.monoB (u3 j h1 h2) hC⟩
theorem Src.below {C : Nat → Prop} {n : Nat} {w w' : World} {e : Nat} {A : Option Addr} {Y : List (List DC)} (h : Src C n w e A Y) (hb : Below w.heap.size w w') : Src C n w' e A Y := by
  obtain ⟨us, u1, u2, u3⟩ := h.go
  refine ⟨us, u1, fun j h2 => ?_, fun j h1 h2 => Cells.below (u3 j h1 h2) hb⟩
  obtain ⟨b, o, e1, e2, e3⟩ := u2 j h2
  exact ⟨b, o, e1, Nat.lt_of_lt_of_le e2 hb.size, range_same e3 (hb.block b e2)⟩
theorem Src.at_ {C : Nat → Prop} {n : Nat} {w : World} {e : Nat} {A : Option Addr} {Y : List (List DC)} (h : Src C n w e A Y) (j : Nat) (hj : j < Y.length) : ∃ b o us, A = some ⟨b, o, none⟩ ∧ b < w.heap.size ∧ w.rangeAt b (o + j * (sh e).length) us ∧ Cells C n w (sh e) Y[j] us := by
  obtain ⟨us, u1, u2, u3⟩ := h.go
  obtain ⟨b, o, e1, e2, e3⟩ := u2 j (by omega)
  exact ⟨b, o, us[j], e1, e2, e3, u3 j hj (by omega)⟩
/-- out of a list. -/
theorem Cell.src {B : Nat → Prop} {n e c : Nat} {w : World} {Y : List (List DC)} {A : Option Addr} (h : Cell B (n + 1) w (.l e) (.l Y) (.slice A Y.length c)) : Src B n w e A Y := by
  have key : ∀ j : Fin Y.length, ∃ us, (∃ b o, A = some ⟨b, o, none⟩ ∧ b < w.heap.size ∧ w.rangeAt b (o + j.val * (sh e).length) us) ∧ Cells B n w (sh e) Y[j.val] us := fun j => by
    obtain ⟨m, b', o', us, hm, eA, _, hb, hr, hin⟩ := h.item j.val j.isLt
    obtain rfl : n = m := by omega
    exact ⟨us, ⟨b', o', eA, hb, hr⟩, hin⟩
  refine ⟨List.ofFn fun j => Classical.choose (key j), by simp, fun j h2 => ?_, fun j h1 h2 => ?_⟩
  · rw [List.getElem_ofFn]; exact (Classical.choose_spec (key ⟨j, by simpa using h2⟩)).1
  · rw [List.getElem_ofFn]; exact (Classical.choose_spec (key ⟨j, h1⟩)).2
/-- its first items, its last. -/
theorem Src.take {C : Nat → Prop} {n : Nat} {w : World} {e : Nat} {A : Option Addr} {Y : List (List DC)} (h : Src C n w e A Y) (k : Nat) : Src C n w e A (Y.take k) := by
  obtain ⟨us, u1, u2, u3⟩ := h.go
  refine ⟨us.take k, by simp [u1], fun j h2 => ?_, fun j h1 h2 => ?_⟩
  · rw [List.getElem_take]; exact u2 j (by rw [List.length_take] at h2; omega)
  · rw [List.getElem_take, List.getElem_take]; exact u3 j _ _
theorem Src.drop {C : Nat → Prop} {n : Nat} {w : World} {e b o : Nat} {A : Option Addr} {Y : List (List DC)} (h : Src C n w e (some ⟨b, o, none⟩) Y) (k : Nat) (hA : ∀ j, j < (Y.drop k).length → A = some ⟨b, o + k * (sh e).length, none⟩) : Src C n w e A (Y.drop k) := by
  obtain ⟨us, u1, u2, u3⟩ := h.go
  refine ⟨us.drop k, by simp [u1], fun j h2 => ?_, fun j h1 h2 => ?_⟩
  · rw [List.getElem_drop]
    obtain ⟨b', o', e1, e2, e3⟩ := u2 (k + j) (by rw [List.length_drop] at h2; omega)
    injection e1 with e1; injection e1 with e1 e1' _
    subst e1 e1'
    refine ⟨b, o + k * (sh e).length, hA j (by rw [List.length_drop] at h2 ⊢; omega), e2, ?_⟩
    have e4 : o + k * (sh e).length + j * (sh e).length = o + (k + j) * (sh e).length := by rw [Nat.add_mul]; omega
    rw [e4]; exact e3
  · rw [List.getElem_drop, List.getElem_drop]; exact u3 (k + j) _ _
theorem own_flat {w : World} {base N n : Nat} {T : TypeId} {v : Value} {xs ys : List Value} (h : w.ownsRow base T N v n xs) (h' : w.ownsRow base T N v n ys) : xs = ys := by
  rcases h.2 with ⟨e1, e2⟩ | ⟨g', cap', cur', e1, _, e2, _, _, _, e3⟩
  · exact (List.eq_nil_of_length_eq_zero (l := xs) (by rw [h.1, e2, Nat.zero_mul])).trans (List.eq_nil_of_length_eq_zero (l := ys) (by rw [h'.1, e2, Nat.zero_mul])).symm
  · rcases h'.2 with ⟨f1, f2⟩ | ⟨g2, cap2, cur2, f1, _, f2, _, _, _, f3⟩
    · rw [f1] at e1; cases e1
    · rw [f1] at e1; injection e1 with e1; injection e1 with e1; injection e1 with e1
      subst e1
      rw [f2] at e2; injection e2 with e2; injection e2 with e2
      rw [← e3, ← f3, e2]
theorem run_append_nil {P : Program} {w : World} {base N n : Nat} {t T ty : TypeId} (hI : Inf P t T N) {v : Value} {xs : List Value} (hown : w.ownsRow base T N v n xs) (A : Option Addr) (c : Nat) (hA : A = none) :
    (Builtin.append_ #[t, t] ty #[v, .slice A 0 c]).run P w = .ok v w := by
  subst hA
  obtain ⟨ht, i, z, bytes, hi, _⟩ := hI.go
  rcases hown.2 with ⟨rfl, rfl⟩ | ⟨g, cap, cur, rfl, _, _, hnc, _⟩
  · simp [Builtin.append_, run_underlying ht, sizeOf, typeInfo, hi, Builtin.lenOf, Builtin.firstCells]
  · simp [Builtin.append_, run_underlying ht, sizeOf, typeInfo, hi, Builtin.lenOf, Builtin.firstCells, hnc, storeCells]
/-- what the operation does, whatever the row's items are. -/
theorem run_many {P : Program} {w : World} {base n e : Nat} {t T ty : TypeId} {C : Nat → Prop} (hI : Inf P t T (sh e).length) {v : Value} {X : List (List DC)} {xs : List Value} (hrow : w.ownsRow base T (sh e).length v X.length xs) {Y : List (List DC)} {A : Option Addr} (c : Nat) (hY : Src C n w e A Y) (hbase : base ≤ w.heap.size) (hsm : X.length + Y.length ≤ 1000000) :
    ∃ (v' : Value) (w' : World) (us : List (List Value)), (Builtin.append_ #[t, t] ty #[v, .slice A Y.length c]).run P w = .ok v' w' ∧ us.length = Y.length ∧ w'.ownsRow base T (sh e).length v' (X.length + Y.length) (xs ++ us.flatten) ∧ w.grownBy w' v.ownBlock ∧ (v'.ownBlock = v.ownBlock ∨ v'.ownBlock = some w.heap.size) ∧ ∀ j (h1 : j < Y.length) (h2 : j < us.length), Cells C n w (sh e) Y[j] us[j] := by
  obtain ⟨us, u1, u2, u3⟩ := hY.go
  have hl : ∀ r ∈ us, r.length = (sh e).length := fun r hr => by
    obtain ⟨j, hj, rfl⟩ := List.getElem_of_mem hr
    exact Cells.length (u3 j (by omega) hj)
  have hfl := flat_len us hl
  rcases A with _ | ad
  · have h0 : Y = [] := by
      cases Y with
      | nil => rfl
      | cons y ys => obtain ⟨_, _, eA, _⟩ := u2 0 (by simp [u1]); cases eA
    subst h0
    have h0' : us = [] := List.eq_nil_of_length_eq_zero u1
    subst h0'
    exact ⟨v, w, [], run_append_nil (P := P) (ty := ty) hI hrow none c rfl, rfl, by simpa using hrow, World.grownBy.refl w _, .inl rfl, fun j h1 => absurd h1 (by simp)⟩
  · obtain ⟨ht, i, z, bytes, hi, hz, hN, hby, hzs, hpos, hbl⟩ := hI.go
    obtain ⟨v', w', hrun, h2, h3, _, h4⟩ := run_append_own_at (P := P) w base t ty T i z (sh e).length bytes ht hi hz hN hby hzs hpos v X.length xs hrow ad Y.length c us.flatten (by rw [hfl, u1]) (fun j u hj => by
          have hjl := (List.getElem?_eq_some_iff.1 hj).1
          rw [hfl] at hjl
          have hq : j / (sh e).length < us.length := by rw [Nat.div_lt_iff_lt_mul hpos]; exact hjl
          have hc : j % (sh e).length < (sh e).length := Nat.mod_lt _ hpos
          have ej : j / (sh e).length * (sh e).length + j % (sh e).length = j := by have := Nat.div_add_mod j (sh e).length; rw [Nat.mul_comm] at this; omega
          have h5 := flat_at us hl _ hq _ hc
          rw [ej, hj] at h5
          obtain ⟨b, o, eA, _, hr⟩ := u2 _ hq
          injection eA with eA
          subst eA
          have h6 := hr _ u h5.symm
          rw [un.addr_add]
          rw [Nat.add_assoc, ej] at h6
          exact h6) (fun y hy => by
          obtain ⟨r, hr, hy⟩ := List.mem_flatten.1 hy
          obtain ⟨j, hj, rfl⟩ := List.getElem_of_mem hr
          exact cells_one (u3 j (by omega) hj) y hy) (by simp only [maxLen]; omega) (by
        have : (X.length + Y.length) * bytes ≤ 1000001 * 4096 := Nat.mul_le_mul (by omega) hbl
        omega) hbase
    exact ⟨v', w', us, hrun, u1, h2, h3, h4, u3⟩
section
variable {P : Program}
/-- 'append(s, t...)', the items sharing memory. -/
theorem wpList_sackN {ops : Array Oper} {rest : List Oper} {o : Oper} {a : Act} {Q : Exit → Act → World → Prop} (hgd : o.guard = none) {t T : TypeId} {e n : Nat} (hI : Inf P t T (sh e).length) (s x : Operand)
    (ho : o.op = .call { callee := .builtin .append, args := #[s, x], argTypes := #[t, t] })
    {w : World} {base : Nat} {v : Value} {X Y : List (List DC)} {A : Option Addr} {m c : Nat} (hs : a.eval s = v) (hbag : Sack n w base T e v X) (hbase : base ≤ w.heap.size)
    (hx : a.eval x = .slice A m c) (hm : m = Y.length) (hY : Src (fun x => v.ownBlock ≠ some x) n w e A Y) (hsm : X.length + Y.length ≤ 1000000)
    (h : ∀ v' w', Sack n w' base T e v' (X ++ Y) → w.grownBy w' v.ownBlock → wpList P ops Q rest (a.put o.dst v') w') : wpList P ops Q (o :: rest) a w := by
  subst hm
  refine wpList_plain hgd fun _ hK => ?_
  obtain ⟨rows, hrow, hl, hh⟩ := hbag.go
  obtain ⟨v', w', us, hrun, u1, h2, h3, h4, u3⟩ := run_many (P := P) (ty := o.type) hI hrow c hY hbase hsm
  unfold Oper.wp execOp
  simp only [ho, resolve, invoke, builtin, Sem.run_bind, Sem.run_pure, Result.andThen_ok, List.map_toArray, List.map_cons, List.map_nil, hs, hx, hrun]
  refine hK _ _ (h v' w' (Sack.app (w1 := w) (Y := Y) (us := us) hbag (Below.refl _ _) u1 u3 (fun rows' hr' => ?_) h3 h4) h3)
  rw [own_flat hr' hrow]; exact h2
end

/-- a row under construction whose items' memory lies below b0. -/
structure SackC (b0 n : Nat) (w : World) (base : Nat) (T : TypeId) (e : Nat) (v : Value) (X : List (List DC)) : Prop where
  go : ∃ rows : List (List Value), w.ownsRow base T (sh e).length v X.length rows.flatten ∧ rows.length = X.length ∧
      ∀ j (h1 : j < X.length) (h2 : j < rows.length), Cells (Lw b0) n w (sh e) X[j] rows[j]
section
variable {b0 n base e : Nat} {w w' : World} {T : TypeId} {v v' : Value} {X Y : List (List DC)}
theorem SackC.nil (b0 n : Nat) (w : World) (base : Nat) (T : TypeId) (e : Nat) : SackC b0 n w base T e (.slice none 0 0) [] := ⟨[], World.ownsRow_nil _ _ _ _, rfl, fun j h => absurd h (by simp)⟩
theorem SackC.form (h : SackC b0 n w base T e v X) : ∃ A c, v = .slice A X.length c ∧ X.length ≤ maxLen := by
  obtain ⟨rows, ho, _⟩ := h.go
  rcases ho.2 with ⟨rfl, h0⟩ | ⟨g, cap, cur, rfl, _, _, h1, h2, _⟩
  · exact ⟨none, 0, by rw [h0], by rw [h0]; simp [maxLen]⟩
  · exact ⟨_, cap, rfl, by omega⟩
theorem SackC.below (h : SackC b0 n w base T e v X) (hb : Below w.heap.size w w') : SackC b0 n w' base T e v X := by
  obtain ⟨rows, ho, hl, hh⟩ := h.go
  exact ⟨rows, row_below ho hb, hl, fun j h1 h2 => Cells.below (hh j h1 h2) hb⟩
theorem SackC.row (h : SackC b0 n w base T e v X) : ∀ k, v.ownBlock = some k → base ≤ k ∧ k < w.heap.size := by
  obtain ⟨rows, ho, _⟩ := h.go
  exact fun k hk => World.ownsRow.lt ho k hk
theorem SackC.lower {base' : Nat} (h : SackC b0 n w base T e v X) (hb : base' ≤ base) : SackC b0 n w base' T e v X := by
  obtain ⟨rows, ⟨h1, h2⟩, hl, hh⟩ := h.go
  refine ⟨rows, ⟨h1, ?_⟩, hl, hh⟩
  rcases h2 with h2 | ⟨r, cap, cur, hv, hbr, h3⟩
  · exact .inl h2
  · exact .inr ⟨r, cap, cur, hv, by omega, h3⟩
theorem SackC.single {us : List Value} {ds : List DC} (h : Cells (Lw b0) n w (sh e) ds us) (hb : base ≤ w.heap.size) : SackC b0 n (w.alloc (.cells us.toArray T)) base T e (.slice (some ⟨w.heap.size, 0, none⟩) 1 1) [ds] := by
  have hl := Cells.length h
  refine ⟨[us], ⟨by simp [hl], .inr ⟨w.heap.size, 1, us.toArray, rfl, hb, heap_alloc_new w _, Nat.le_refl _, by simp [maxLen], by simp [hl], by simp [List.take_of_length_le, hl]⟩⟩, rfl, fun j h1 h2 => ?_⟩
  have : j = 0 := by simpa using h1
  subst this
  exact Cells.below h (below_a1 _ _)
/-- where the items are. -/
theorem SackC.src {A : Option Addr} {c : Nat} (h : SackC b0 n w base T e (.slice A X.length c) X) : Src (Lw b0) n w e A X := by
  obtain ⟨rows, ho, hl, hh⟩ := h.go
  refine ⟨rows, hl, fun j h2 => ?_, hh⟩
  have hrl : ∀ r ∈ rows, r.length = (sh e).length := fun r hr => by
    obtain ⟨j, hj, rfl⟩ := List.getElem_of_mem hr
    exact Cells.length (hh j (by omega) hj)
  rcases ho.2 with ⟨hv, h0⟩ | ⟨g, cap, cur, hv, hbg, hr, hnc, hcm, hcs, ht⟩
  · omega
  injection hv with hA _ hc
  subst hA hc
  refine ⟨g, 0, rfl, (Array.getElem?_eq_some_iff.1 hr).1, fun q u hu => ?_⟩
  have hc : q < (sh e).length := by
    have := (List.getElem?_eq_some_iff.1 hu).1
    have := hrl _ (List.getElem_mem h2); omega
  have hlt : j * (sh e).length + q < X.length * (sh e).length := by
    have : (j + 1) * (sh e).length ≤ X.length * (sh e).length := Nat.mul_le_mul_right _ (by omega)
    rw [Nat.add_mul, Nat.one_mul] at this; omega
  have := own_cell ho (j * (sh e).length + q) hlt
  rw [flat_at rows hrl j h2 q hc, hu] at this
  simpa using this
variable {P : Program}
theorem wpList_sackC {ops : Array Oper} {rest : List Oper} {o : Oper} {a : Act} {Q : Exit → Act → World → Prop} (hgd : o.guard = none) {t : TypeId} (hI : Inf P t T (sh e).length) (s x : Operand)
    (ho : o.op = .call { callee := .builtin .append, args := #[s, x], argTypes := #[t, t] })
    {A : Option Addr} {m c : Nat} (hs : a.eval s = v) (hbag : SackC b0 n w base T e v X) (hbase : base ≤ w.heap.size) (hb0 : b0 ≤ base)
    (hx : a.eval x = .slice A m c) (hm : m = Y.length) (hY : Src (Lw b0) n w e A Y) (hsm : X.length + Y.length ≤ 1000000)
    (h : ∀ v' w', SackC b0 n w' base T e v' (X ++ Y) → w.grownBy w' v.ownBlock → wpList P ops Q rest (a.put o.dst v') w') : wpList P ops Q (o :: rest) a w := by
  subst hm
  refine wpList_plain hgd fun _ hK => ?_
  have hbr := hbag.row
  obtain ⟨rows, hrow, hl, hh⟩ := hbag.go
  obtain ⟨v', w', us, hrun, u1, h2, h3, h4, u3⟩ := run_many (P := P) (ty := o.type) hI hrow c hY hbase hsm
  have hag : Agree (Lw b0) w w' := ⟨h3.size, fun b hb h5 => h3.block b h5 (fun e2 => by have := (hbr b e2.symm).1; have : b < b0 := hb; omega)⟩
  unfold Oper.wp execOp
  simp only [ho, resolve, invoke, builtin, Sem.run_bind, Sem.run_pure, Result.andThen_ok, List.map_toArray, List.map_cons, List.map_nil, hs, hx, hrun]
  refine hK _ _ (h v' w' ⟨rows ++ us, by simpa using h2, by simp [hl, u1], fun j k1 k2 => ?_⟩ h3)
  by_cases hlt : j < X.length
  · rw [List.getElem_append_left hlt, List.getElem_append_left (by omega)]
    exact Cells.agree (hh j hlt (by omega)) hag
  · rw [List.getElem_append_right (by omega), List.getElem_append_right (by omega)]
    have := Cells.agree (u3 (j - X.length) (by simp at k1; omega) (by simp at k2; omega)) hag
    simpa only [hl] using this
end
end Go.Proofs.Ytgkcohclejmhkaa.un
namespace Go.Proofs.Ytgkcohclejmhkaa.un
open mem
open Go.ChangeShapes Go.WideShapes Go.ChangeAt Go.RowKit Go.Lib
set_option linter.unusedVariables false
set_option maxRecDepth 8000
set_option linter.unusedSimpArgs false

/-- block g holds, item by item, the rows of these numbers. -/
structure RowI (w : World) (g cap N : Nat) (T : TypeId) (rows : List (List Value)) (p : List Nat) : Prop where
  go : ∃ cur : Array Value, w.heap[g]? = some (.cells cur T (0, 0)) ∧ cur.size = cap * N ∧ p.length ≤ cap ∧ (∀ q ∈ p, q < rows.length) ∧ ∀ j (h : j < p.length), w.rangeAt g (j * N) (rows.getD p[j] [])
section
variable {w w' : World} {g cap N n base : Nat} {T : TypeId} {rows : List (List Value)} {p : List Nat}
theorem RowI.lt (h : RowI w g cap N T rows p) : g < w.heap.size := by
  obtain ⟨cur, h1, _⟩ := h.go
  exact (Array.getElem?_eq_some_iff.1 h1).1
theorem RowI.len (h : RowI w g cap N T rows p) : p.length ≤ cap := by obtain ⟨_, _, _, h3, _⟩ := h.go; exact h3
theorem RowI.mem (h : RowI w g cap N T rows p) : ∀ q ∈ p, q < rows.length := by obtain ⟨_, _, _, _, h4, _⟩ := h.go; exact h4
theorem RowI.at_ (h : RowI w g cap N T rows p) (j : Nat) (hj : j < p.length) : w.rangeAt g (j * N) (rows.getD p[j] []) := by obtain ⟨_, _, _, _, _, h5⟩ := h.go; exact h5 j hj
theorem RowI.same (h : RowI w g cap N T rows p) (hb : w'.heap[g]? = w.heap[g]?) : RowI w' g cap N T rows p := by
  obtain ⟨cur, h1, h2, h3, h4, h5⟩ := h.go
  exact ⟨cur, by rw [hb]; exact h1, h2, h3, h4, fun j hj => range_same (h5 j hj) hb⟩
theorem RowI.below (h : RowI w g cap N T rows p) (hb : Below w.heap.size w w') : RowI w' g cap N T rows p := h.same (hb.block g h.lt)
theorem RowI.there (h : RowI w g cap N T rows p) {o m : Nat} (hm : o + m ≤ cap * N) : w.there g o m := by
  obtain ⟨cur, h1, h2, _⟩ := h.go
  exact blk_there (T := T) (cs := cur) h1 (by omega)
theorem RowI.take (h : RowI w g cap N T rows p) (k : Nat) : RowI w g cap N T rows (p.take k) := by
  obtain ⟨cur, h1, h2, h3, h4, h5⟩ := h.go
  refine ⟨cur, h1, h2, by rw [List.length_take]; omega, fun q hq => h4 q (List.mem_of_mem_take hq), fun j hj => ?_⟩
  rw [List.length_take] at hj
  rw [List.getElem_take]
  exact h5 j (by omega)
theorem cells_of_set : ∀ (us : List Value) (o : Nat) (w : World) (cur : Array Value), w.heap[g]? = some (.cells cur T (0, 0)) → ∃ cur', (w.setCells g o us).heap[g]? = some (.cells cur' T (0, 0)) ∧ cur'.size = cur.size
  | [], o, w, cur, h => ⟨cur, h, rfl⟩
  | u :: us, o, w, cur, h => by
    have h1 : (w.setCell ⟨g, o, none⟩ u).heap[g]? = some (.cells (cur.setIfInBounds o u) T (0, 0)) := Blk.put (w := w) (T := T) (cs := cur) h o u
    obtain ⟨cur', h2, h3⟩ := cells_of_set us (o + 1) _ _ h1
    exact ⟨cur', h2, by simpa using h3⟩
/-- item k written over by item q. -/
theorem RowI.set (h : RowI w g cap N T rows p) (hN : ∀ r ∈ rows, r.length = N) (k q : Nat) (hk : k < p.length) (hq : q < rows.length) : RowI (w.setCells g (k * N) (rows.getD q [])) g cap N T rows (p.set k q) := by
  obtain ⟨cur, h1, h2, h3, h4, h5⟩ := h.go
  obtain ⟨cur', h6, h7⟩ := cells_of_set (T := T) (rows.getD q []) (k * N) w cur h1
  have hl : ∀ q, q < rows.length → (rows.getD q []).length = N := fun q hq => by
    rw [List.getD_eq_getElem?_getD, List.getElem?_eq_getElem hq]; exact hN _ (List.getElem_mem hq)
  have hth : w.there g (k * N) (rows.getD q []).length := by
    rw [hl q hq]
    have : (k + 1) * N ≤ cap * N := Nat.mul_le_mul_right _ (by omega)
    rw [Nat.add_mul, Nat.one_mul] at this
    exact h.there this
  refine ⟨cur', h6, by omega, by simpa using h3, fun x hx => ?_, fun j hj => ?_⟩
  · rcases List.mem_or_eq_of_mem_set hx with hx | rfl
    · exact h4 x hx
    · exact hq
  · have hj' : j < p.length := by simpa using hj
    by_cases e : j = k
    · subst e
      rw [List.getElem_set_self]
      exact World.rangeAt_setCells_same _ _ _ _ hth
    · rw [List.getElem_set_ne (fun e2 => e e2.symm)]
      refine World.rangeAt_setCells_apart (h5 j hj') _ _ _ (.inr ?_)
      rw [hl p[j] (h4 _ (List.getElem_mem hj')), hl q hq]
      rcases Nat.lt_or_gt_of_ne e with hlt | hlt
      · have : (j + 1) * N ≤ k * N := Nat.mul_le_mul_right _ hlt
        rw [Nat.add_mul, Nat.one_mul] at this
        exact .inl (by omega)
      · have : (k + 1) * N ≤ j * N := Nat.mul_le_mul_right _ hlt
        rw [Nat.add_mul, Nat.one_mul] at this
        exact .inr (by omega)
/-- what stands behind the first k items, written over. -/
theorem RowI.cut (h : RowI w g cap N T rows p) (hN : ∀ r ∈ rows, r.length = N) (k o : Nat) (us : List Value) (hk : k * N ≤ o) : RowI (w.setCells g o us) g cap N T rows (p.take k) := by
  have ht := h.take k
  obtain ⟨cur, h1, h2, h3, h4, h5⟩ := ht.go
  obtain ⟨cur', h6, h7⟩ := cells_of_set (T := T) us o w cur h1
  refine ⟨cur', h6, by omega, h3, h4, fun j hj => ?_⟩
  have hjk : j < k := by rw [List.length_take] at hj; omega
  refine World.rangeAt_setCells_apart (h5 j hj) _ _ _ (.inr (.inl ?_))
  have hl : (rows.getD (p.take k)[j] []).length = N := by
    have hq := h4 _ (List.getElem_mem hj)
    rw [List.getD_eq_getElem?_getD, List.getElem?_eq_getElem hq]; exact hN _ (List.getElem_mem hq)
  have : (j + 1) * N ≤ k * N := Nat.mul_le_mul_right _ hjk
  rw [Nat.add_mul, Nat.one_mul] at this
  omega
theorem RowI.of (h : w.ownsRow base T N (.slice (some ⟨g, 0, none⟩) n cap) n rows.flatten) (hl : rows.length = n) (hN : ∀ r ∈ rows, r.length = N) : RowI w g cap N T rows (List.range n) := by
  have hc := h
  rcases h.2 with ⟨h1, _⟩ | ⟨g', cap', cur, hv, hb, hr, h1, h2, h3, ht⟩
  · cases h1
  injection hv with hv _ hcc
  injection hv with hv; injection hv with hv
  subst hv hcc
  refine ⟨cur, hr, h3, by simpa using h1, fun q hq => by rw [hl]; exact List.mem_range.1 hq, fun j hj => ?_⟩
  have hj' : j < rows.length := by simpa [hl] using hj
  rw [List.getElem_range]
  intro c u hu
  have e : rows.getD j [] = rows[j] := by rw [List.getD_eq_getElem?_getD, List.getElem?_eq_getElem hj']; rfl
  rw [e] at hu
  have hcN : c < N := by have := (List.getElem?_eq_some_iff.1 hu).1; have := hN _ (List.getElem_mem hj'); omega
  have hlt : j * N + c < n * N := by
    have : (j + 1) * N ≤ n * N := Nat.mul_le_mul_right _ (by omega)
    rw [Nat.add_mul, Nat.one_mul] at this; omega
  rw [own_cell hc (j * N + c) hlt, flat_at rows hN j hj' c hcN, hu]
theorem RowI.own (h : RowI w g cap N T rows p) (hN : ∀ r ∈ rows, r.length = N) (hb : base ≤ g) (hcm : cap ≤ maxLen) : w.ownsRow base T N (.slice (some ⟨g, 0, none⟩) p.length cap) p.length ((p.map fun q => rows.getD q []).flatten) := by
  obtain ⟨cur, h1, h2, h3, h4, h5⟩ := h.go
  have hR : ∀ r ∈ p.map (fun q => rows.getD q []), r.length = N := fun r hr => by
    obtain ⟨q, hq, rfl⟩ := List.mem_map.1 hr
    have hq' := h4 q hq
    rw [List.getD_eq_getElem?_getD, List.getElem?_eq_getElem hq']; exact hN _ (List.getElem_mem hq')
  have hfl := flat_len _ hR
  rw [List.length_map] at hfl
  refine ⟨hfl, .inr ⟨g, cap, cur, rfl, hb, h1, h3, hcm, h2, ?_⟩⟩
  have hle : p.length * N ≤ cap * N := Nat.mul_le_mul_right _ h3
  apply List.ext_getElem?
  intro t
  by_cases ht : t < p.length * N
  · have hN0 : 0 < N := by rcases Nat.eq_zero_or_pos N with e | e; (· subst e; simp at ht); exact e
    have hj : t / N < p.length := by rw [Nat.div_lt_iff_lt_mul hN0]; exact ht
    have hc : t % N < N := Nat.mod_lt _ hN0
    have et : t = t / N * N + t % N := by have := Nat.div_add_mod t N; rw [Nat.mul_comm] at this; omega
    have hrow := h5 (t / N) hj
    have e1 : ((p.map fun q => rows.getD q []).flatten)[t / N * N + t % N]? = ((p.map fun q => rows.getD q [])[t / N]'(by simpa using hj))[t % N]? := flat_at _ hR (t / N) (by simpa using hj) (t % N) hc
    rw [List.getElem?_take, if_pos ht]
    rw [← et] at e1
    rw [e1, List.getElem_map]
    have hrl : (rows.getD p[t / N] []).length = N := hR _ (List.mem_map_of_mem (List.getElem_mem hj))
    have hu : (rows.getD p[t / N] [])[t % N]? = some ((rows.getD p[t / N] [])[t % N]'(by omega)) := List.getElem?_eq_getElem (by omega)
    have := hrow (t % N) _ hu
    rw [cell_of_row _ g _ cur T (0, 0) h1, ← et] at this
    rw [hu, ← this]
    simp
  · rw [List.getElem?_take, if_neg ht, List.getElem?_eq_none (by omega)]
end
/-- the items of a row of the call's own, put in another order, some left out. -/
theorem Bag.reindex {n : Nat} {w : World} {base : Nat} {T : TypeId} {e g cap : Nat} {X : List (List DC)} (h : Bag n w base T e (.slice (some ⟨g, 0, none⟩) X.length cap) X) :
    base ≤ g ∧ g < w.heap.size ∧ cap ≤ maxLen ∧ ∃ rows : List (List Value), rows.length = X.length ∧ (∀ r ∈ rows, r.length = (sh e).length) ∧ RowI w g cap (sh e).length T rows (List.range X.length) ∧
      (∀ j (h1 : j < X.length) (h2 : j < rows.length), Cells (fun x => base ≤ x ∧ x < w.heap.size ∧ x ≠ g) n w (sh e) X[j] rows[j]) ∧
      ∀ (w' : World) (p : List Nat), Only (fun b => b = g) w w' → p.Nodup → RowI w' g cap (sh e).length T rows p → Bag n w' base T e (.slice (some ⟨g, 0, none⟩) p.length cap) (p.map fun q => X.getD q []) := by
  have hrow := h.row g rfl
  obtain ⟨rows, ho, hl, G, hG, hD, hh⟩ := h.go
  have hN : ∀ r ∈ rows, r.length = (sh e).length := fun r hr => by
    obtain ⟨j, hj, rfl⟩ := List.getElem_of_mem hr
    exact (hh j (by omega) hj).2.1
  have hcm : cap ≤ maxLen := by
    rcases ho.2 with ⟨h1, _⟩ | ⟨g', cap', cur, hv, _, _, _, h2, _⟩
    · cases h1
    · injection hv with _ _ hc; omega
  refine ⟨hrow.1, hrow.2, hcm, rows, hl, hN, RowI.of ho hl hN, fun j h1 h2 => Cells.monoB (hh j h1 h2).cells fun x hx _ => ⟨(hG j x hx).1, (hG j x hx).2.1, fun e2 => by subst e2; exact (hG j x hx).2.2 rfl⟩, fun w' p hO hnd hR => ?_⟩
  refine ⟨p.map fun q => rows.getD q [], by rw [List.length_map]; exact hR.own hN hrow.1 hcm, by simp, fun j x => ∃ hj : j < p.length, G p[j] x, fun j x hx => ?_, fun j j' x hx hx' => ?_, fun j h1 h2 => ?_⟩
  · obtain ⟨hj, hx⟩ := hx
    obtain ⟨a1, a2, a3⟩ := hG _ _ hx
    exact ⟨a1, Nat.lt_of_lt_of_le a2 hO.size, a3⟩
  · obtain ⟨hj, hx⟩ := hx
    obtain ⟨hj', hx'⟩ := hx'
    have e := hD _ _ x hx hx'
    have hp := List.pairwise_iff_getElem.1 hnd
    rcases Nat.lt_trichotomy j j' with h1 | h1 | h1
    · exact absurd e (hp j j' hj hj' h1)
    · exact h1
    · exact absurd e.symm (hp j' j hj' hj h1)
  · have hj : j < p.length := by simpa using h1
    have hq := hR.mem _ (List.getElem_mem hj)
    have hq2 : p[j] < X.length := by omega
    simp only [List.getElem_map]
    have e1 : X.getD p[j] [] = X[p[j]] := by rw [List.getD_eq_getElem?_getD, List.getElem?_eq_getElem hq2]; rfl
    have e2 : rows.getD p[j] [] = rows[p[j]] := by rw [List.getD_eq_getElem?_getD, List.getElem?_eq_getElem hq]; rfl
    rw [e1, e2]
    have h3 := (hh p[j] hq2 hq).agree' (hO.agree fun b hb _ e3 => (by subst e3; exact (hG _ _ hb).2.2 rfl))
    exact h3.monoF fun x hx => ⟨hj, hx⟩
/-- the worlds that a sort passes through. -/
theorem only_sort {α : Type} [Inhabited α] (enc : α → List Value) (k : Nat) (w : World) (g m : Nat) (d : Array α) (os : Array Obj) : Only (fun b => b = g) w (Go.Proofs.sortWorldK enc k w g 0 m d os) := by
  refine ⟨rfl, rfl, rfl, ?_, fun b hb hne => ?_⟩
  · show _ ≤ ((w.heap.modify g _) ++ os).size
    simp
  · show ((w.heap.modify g _) ++ os)[b]? = _
    rw [Array.getElem?_append_left (by simpa using hb), Array.getElem?_modify, if_neg (fun e => hne e.symm)]
theorem getD_map {α β : Type} (f : α → β) (l : List α) (q : Nat) (z : α) (y : β) (h : q < l.length) : (l.map f).getD q y = f (l.getD q z) := by
  rw [List.getD_eq_getElem?_getD, List.getD_eq_getElem?_getD, List.getElem?_eq_getElem h, List.getElem?_eq_getElem (by simpa using h), List.getElem_map]; rfl
theorem getD_at {β : Type} (l : List β) (q : Nat) (z : β) (h : q < l.length) : l.getD q z = l[q] := by rw [List.getD_eq_getElem?_getD, List.getElem?_eq_getElem h]; rfl
section
variable {w : World} {g cap N n : Nat} {T : TypeId} {rows : List (List Value)}
theorem holds_rows [Inhabited (Fin n)] (h : RowI w g cap N T rows (List.range n)) (hl : rows.length = n) (hN : ∀ r ∈ rows, r.length = N) : Go.Sort.HoldsK (fun i : Fin n => rows.getD i.val []) N w g 0 (Array.ofFn (n := n) id) := by
  obtain ⟨cur, h1, h2, h3, h4, h5⟩ := h.go
  intro t ht
  have ht' : t < n * N := by simpa using ht
  have hN0 : 0 < N := by rcases Nat.eq_zero_or_pos N with e | e; (· subst e; simp at ht'); exact e
  have hj : t / N < n := by rw [Nat.div_lt_iff_lt_mul hN0]; exact ht'
  have hc : t % N < N := Nat.mod_lt _ hN0
  have et : t / N * N + t % N = t := by have := Nat.div_add_mod t N; rw [Nat.mul_comm] at this; omega
  refine ⟨?_, frozen_of_row _ _ _ _ _ h1⟩
  rw [Go.Sort.get_flatK _ _ _ t (by simpa using ht')]
  have e1 : (Array.ofFn (n := n) id)[t / N]! = ⟨t / N, hj⟩ := by rw [getElem!_pos _ _ (by simpa using hj)]; simp
  have hrl : (rows.getD (t / N) []).length = N := by rw [getD_at _ _ _ (by omega)]; exact hN _ (List.getElem_mem _)
  have hu : (rows.getD (t / N) [])[t % N]? = some (rows.getD (t / N) [])[t % N]! := by rw [List.getElem?_eq_getElem (by omega), getElem!_pos _ _ (by omega)]
  have := h5 (t / N) (by simpa using hj) (t % N) _ (by rw [List.getElem_range]; exact hu)
  rw [et] at this
  rw [e1, Nat.zero_add]
  exact this
theorem rows_sort [Inhabited (Fin n)] (h : RowI w g cap N T rows (List.range n)) (hl : rows.length = n) (hN : ∀ r ∈ rows, r.length = N) (m : Nat) (d : Array (Fin n)) (hd : d.size = n) (os : Array Obj) :
    RowI (Go.Proofs.sortWorldK (fun i : Fin n => rows.getD i.val []) N w g 0 m d os) g cap N T rows (d.toList.map (·.val)) := by
  have hH := holds_rows h hl hN
  have hlt := h.lt
  obtain ⟨cur, h1, h2, h3, h4, h5⟩ := h.go
  have hb : (Go.Proofs.sortWorldK (fun i : Fin n => rows.getD i.val []) N w g 0 m d os).heap[g]? = some (.cells (Go.Sort.putCells id 0 (Go.Sort.flatK (fun i : Fin n => rows.getD i.val []) N d) cur) T (0, 0)) := by
    show ((w.heap.modify g _) ++ os)[g]? = _
    rw [Array.getElem?_append_left (by simpa using hlt), Array.getElem?_modify, if_pos rfl, h1]
    rfl
  refine ⟨_, hb, by simp [Go.Sort.putCells, h2], by simpa [hd] using h3, fun q hq => ?_, fun j hj => ?_⟩
  · obtain ⟨i, _, rfl⟩ := List.mem_map.1 hq
    rw [hl]; exact i.isLt
  · have hj' : j < d.size := by simpa using hj
    intro c u hu
    rw [List.getElem_map] at hu
    have hr : (rows.getD (d.toList[j]'(by simpa using hj')).val []).length = N := by rw [getD_at _ _ _ (by rw [hl]; exact Fin.isLt _)]; exact hN _ (List.getElem_mem _)
    have hc : c < N := by have := (List.getElem?_eq_some_iff.1 hu).1; omega
    have hN0 : 0 < N := by omega
    have hlt2 : j * N + c < d.size * N := by
      have : (j + 1) * N ≤ d.size * N := Nat.mul_le_mul_right _ hj'
      rw [Nat.add_mul, Nat.one_mul] at this; omega
    have h6 := Go.Sort.cell?_putRow id (Go.Sort.ahead w m) g 0 _ (Go.Sort.flatK (fun i : Fin n => rows.getD i.val []) N d) (Go.Sort.holds_ahead id w m g 0 _ hH) (by simp [hd]) (j * N + c) (by simpa using hlt2)
    have h7 : (Go.Proofs.sortWorldK (fun i : Fin n => rows.getD i.val []) N w g 0 m d os).cell? ⟨g, j * N + c, none⟩ = (Go.Sort.putRow id (Go.Sort.ahead w m) g 0 (Go.Sort.flatK (fun i : Fin n => rows.getD i.val []) N d)).cell? ⟨g, j * N + c, none⟩ := by
      apply World.cell?_of_block
      show ((w.heap.modify g _) ++ os)[g]? = (w.heap.modify g _)[g]?
      rw [Array.getElem?_append_left (by simpa using hlt)]
    rw [h7]
    rw [Nat.zero_add] at h6
    rw [h6, Go.Sort.get_flatK _ _ _ _ hlt2]
    have e1 : (j * N + c) / N = j := by rw [Nat.mul_comm, Nat.mul_add_div hN0, Nat.div_eq_of_lt hc]; rfl
    have e2 : (j * N + c) % N = c := by rw [Nat.mul_comm, Nat.mul_add_mod, Nat.mod_eq_of_lt hc]
    rw [e1, e2, getElem!_pos d j hj']
    have e3 : d.toList[j]'(by simpa using hj') = d[j] := by simp
    rw [e3] at hu
    rw [getElem!_pos _ c (by rw [← e3, hr]; exact hc)]
    simpa using (List.getElem?_eq_some_iff.1 hu).2
end
end Go.Proofs.Ytgkcohclejmhkaa.un
