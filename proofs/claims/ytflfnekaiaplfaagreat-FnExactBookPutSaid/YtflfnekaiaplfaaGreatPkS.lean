/- A row under construction whose items' memory lies from a bound on. append of many items to a row under construction whose items' memory lies from a bound on; parts of a list. -/
import Derived.Test.YtflfnekaiaplfaaGreatCpS
import Derived.Test.YtflfnekaiaplfaaGreatSkN
namespace Go.Proofs.YtflfnekaiaplfaaGreat.un
open mem
open Go.ChangeShapes Go.WideShapes Go.ChangeAt Go.RowKit Go.Lib
set_option linter.unusedVariables false
set_option maxRecDepth 8000
set_option linter.unusedSimpArgs false
/-- a row under construction whose items' memory lies elsewhere, not their own alone. -/
structure Pack (N n : Nat) (w : World) (base : Nat) (T : TypeId) (e : Nat) (v : Value) (X : List (List DC)) : Prop where
  go : ∃ rows : List (List Value), w.ownsRow base T (sh e).length v X.length rows.flatten ∧ rows.length = X.length ∧
      ∀ j (h1 : j < X.length) (h2 : j < rows.length), Cells (fun x => N ≤ x ∧ v.ownBlock ≠ some x) n w (sh e) X[j] rows[j]
theorem Pack.nil (N n : Nat) (w : World) (base : Nat) (T : TypeId) (e : Nat) : Pack N n w base T e (.slice none 0 0) [] :=
  ⟨[], World.ownsRow_nil _ _ _ _, rfl, fun j h => absurd h (by simp)⟩
theorem Pack.empty {N n : Nat} {w : World} {base : Nat} {T : TypeId} {e : Nat} (hb : base ≤ w.heap.size) : Pack N n (w.alloc (.cells #[] T)) base T e (.slice (some ⟨w.heap.size, 0, none⟩) 0 0) [] :=
  ⟨[], World.ownsRow_made w #[] 0 hb (by simp [maxLen]) (by simp), rfl, fun j h => absurd h (by simp)⟩
theorem Pack.form {N n : Nat} {w : World} {base : Nat} {T : TypeId} {e : Nat} {v : Value} {X : List (List DC)} (h : Pack N n w base T e v X) : ∃ A c, v = .slice A X.length c ∧ X.length ≤ maxLen := by
  obtain ⟨rows, ho, _⟩ := h.go
  rcases ho.2 with ⟨rfl, h0⟩ | ⟨g, cap, cur, rfl, _, _, h1, h2, _⟩
  · exact ⟨none, 0, by rw [h0], by rw [h0]; simp [maxLen]⟩
  · exact ⟨_, cap, rfl, by omega⟩
theorem Pack.below {N n : Nat} {w w' : World} {base : Nat} {T : TypeId} {e : Nat} {v : Value} {X : List (List DC)} (h : Pack N n w base T e v X) (hb : Below w.heap.size w w') : Pack N n w' base T e v X := by
  obtain ⟨rows, ho, hl, hh⟩ := h.go
  exact ⟨rows, row_below ho hb, hl, fun j h1 h2 => Cells.below (hh j h1 h2) hb⟩
theorem Pack.alloc {N n : Nat} {w : World} {base : Nat} {T : TypeId} {e : Nat} {v : Value} {X : List (List DC)} (h : Pack N n w base T e v X) (o : Obj) : Pack N n (w.alloc o) base T e v X := h.below (below_a1 w o)
theorem Pack.row {N n : Nat} {w : World} {base : Nat} {T : TypeId} {e : Nat} {v : Value} {X : List (List DC)} (h : Pack N n w base T e v X) : ∀ k, v.ownBlock = some k → base ≤ k ∧ k < w.heap.size := by
  obtain ⟨rows, ho, _⟩ := h.go
  exact fun k hk => World.ownsRow.lt ho k hk
/-- more items: what the operation leaves. -/
theorem Pack.app {N n : Nat} {w w1 w' : World} {base : Nat} {T : TypeId} {e : Nat} {v v' : Value} {X Y : List (List DC)} {us : List (List Value)} (h : Pack N n w base T e v X) (hb : Below w.heap.size w w1) (hl2 : us.length = Y.length)
    (hs : ∀ j (h1 : j < Y.length) (h2 : j < us.length), Cells (fun x => N ≤ x ∧ v.ownBlock ≠ some x) n w1 (sh e) Y[j] us[j])
    (ho' : ∀ rows : List (List Value), w1.ownsRow base T (sh e).length v X.length rows.flatten → w'.ownsRow base T (sh e).length v' (X.length + Y.length) (rows.flatten ++ us.flatten))
    (hg : w1.grownBy w' v.ownBlock) (hat : v'.ownBlock = v.ownBlock ∨ v'.ownBlock = some w1.heap.size) : Pack N n w' base T e v' (X ++ Y) := by
  obtain ⟨rows, ho, hl, hh⟩ := h.go
  have hag : Agree (fun x => N ≤ x ∧ v.ownBlock ≠ some x) w1 w' := ⟨hg.size, fun b h1 h2 => hg.block b h2 (fun e => h1.2 e.symm)⟩
  have hmo : ∀ {ds : List DC} {vs : List Value}, Cells (fun x => N ≤ x ∧ v.ownBlock ≠ some x) n w1 (sh e) ds vs → Cells (fun x => N ≤ x ∧ v'.ownBlock ≠ some x) n w' (sh e) ds vs := fun hc =>
    (Cells.agree (Cells.monoB (B' := fun x => (N ≤ x ∧ v.ownBlock ≠ some x) ∧ x < w1.heap.size) hc (fun b h1 h2 => ⟨h1, h2⟩)) (hag.mono fun b hb => hb.1)).monoB fun b h1 h2 => by
      refine ⟨h1.1.1, ?_⟩
      rcases hat with e1 | e1 <;> rw [e1]
      · exact h1.1.2
      · intro e2; injection e2 with e2; have := h1.2; omega
  refine ⟨rows ++ us, by simpa using ho' rows (row_below ho hb), by simp [hl, hl2], fun j h1 h2 => ?_⟩
  by_cases hlt : j < X.length
  · rw [List.getElem_append_left hlt, List.getElem_append_left (by omega)]
    exact hmo (Cells.below (hh j hlt (by omega)) hb)
  · rw [List.getElem_append_right (by omega), List.getElem_append_right (by omega)]
    have := hmo (hs (j - X.length) (by simp at h1; omega) (by simp at h2; omega))
    simpa only [hl] using this
/-- the finished row. -/
theorem Pack.done {N n : Nat} {w : World} {base : Nat} {T : TypeId} {e : Nat} {v : Value} {X : List (List DC)} (h : Pack N n w base T e v X) (hN : N ≤ base) : Cell (fun x => N ≤ x) (n + 1) w (.l e) (.l X) v := by
  obtain ⟨A, c, hv, hlen⟩ := h.form
  obtain ⟨rows, ho, hl, hh⟩ := h.go
  subst hv
  refine ⟨A, c, rfl, hlen, fun j h1 => ?_⟩
  rcases ho.2 with ⟨hv, h0⟩ | ⟨g, cap, cur, hv, hbg, hr, hnc, hcm, hcs, ht⟩
  · omega
  injection hv with hA _ hc
  subst hA hc
  have hgl : g < w.heap.size := (Array.getElem?_eq_some_iff.1 hr).1
  have hrl : ∀ r ∈ rows, r.length = (sh e).length := fun r hr => by
    obtain ⟨j, hj, rfl⟩ := List.getElem_of_mem hr
    exact Cells.length (hh j (by omega) hj)
  have hj2 : j < rows.length := by omega
  refine ⟨g, 0, rows[j], rfl, by show N ≤ g; omega, hgl, ?_, Cells.monoB (hh j h1 hj2) fun _ hx _ => hx.1⟩
  intro c u hu
  have hc : c < (sh e).length := by
    have := (List.getElem?_eq_some_iff.1 hu).1
    have := hrl _ (List.getElem_mem hj2); omega
  have hlt : j * (sh e).length + c < X.length * (sh e).length := by
    have : (j + 1) * (sh e).length ≤ X.length * (sh e).length := Nat.mul_le_mul_right _ h1
    rw [Nat.add_mul, Nat.one_mul] at this; omega
  have := own_cell ho (j * (sh e).length + c) hlt
  rw [flat_at rows hrl j hj2 c hc, hu] at this
  simpa using this
section
variable {P : Program}
/-- the same, where the items share memory. -/
theorem wp_pack1 {o : Oper} {a : Act} {K : Act → World → Prop} {Q : Exit → Act → World → Prop} {t T : TypeId} {e N n : Nat} (hI : Inf P t T (sh e).length) (s x : Operand)
    (ho : o.op = .call { callee := .builtin .append, args := #[s, x], argTypes := #[t, t] })
    {w w1 : World} {base : Nat} {v : Value} {X : List (List DC)} {us : List Value} {ds : List DC} {g c : Nat} (hs : a.eval s = v) (hbag : Pack N n w base T e v X) (hb : Below w.heap.size w w1) (hbase : base ≤ w.heap.size)
    (hx : a.eval x = .slice (some ⟨g, 0, none⟩) 1 c) (hgx : g = w1.heap.size) (hown : Cells (fun x => N ≤ x ∧ v.ownBlock ≠ some x) n w1 (sh e) ds us) (hsm : X.length ≤ 1000000)
    (h : ∀ v' w', Pack N n w' base T e v' (X ++ [ds]) → (w1.alloc (.cells us.toArray T)).grownBy w' v.ownBlock → K (a.put o.dst v') w') : o.wp P a (w1.alloc (.cells us.toArray T)) K Q := by
  subst hgx
  obtain ⟨ht, i, z, bytes, hi, hz, hN, hby, hzs, hpos, hbl⟩ := hI.go
  have hbo : Below w.heap.size w (w1.alloc (.cells us.toArray T)) := below_da hb (Nat.le_refl _) _
  obtain ⟨rows, hrow, hl, _⟩ := hbag.go
  have hlen : us.length = (sh e).length := Cells.length hown
  obtain ⟨v', w', hrun, h2, h3, _, h4⟩ := run_append_own_at (P := P) (w1.alloc (.cells us.toArray T)) base t o.type T i z (sh e).length bytes ht hi hz hN hby hzs hpos v X.length rows.flatten (row_below hrow hbo) ⟨w1.heap.size, 0, none⟩ 1 c us (by rw [hlen, Nat.one_mul]) new_cells (cells_one hown) (by simp only [maxLen]; omega) (by
    have : (X.length + 1) * bytes ≤ 1000001 * 4096 := Nat.mul_le_mul (by omega) hbl
    omega) (Nat.le_trans hbase hbo.size)
  unfold Oper.wp execOp
  simp only [ho, resolve, invoke, builtin, Sem.run_bind, Sem.run_pure, Result.andThen_ok, List.map_toArray, List.map_cons, List.map_nil, hs, hx, hrun]
  refine h v' w' (Pack.app (w1 := w1.alloc (.cells us.toArray T)) (Y := [ds]) (us := [us]) hbag hbo rfl (fun j h1 h2 => ?_) (fun rows' hr' => ?_) h3 h4) h3
  · have : j = 0 := by simpa using h1
    subst this
    exact Cells.below hown (below_a1 _ _)
  have e1 : rows'.flatten = rows.flatten := by
    have k1 := row_below hrow hbo
    rcases hr'.2 with ⟨e1, e2⟩ | ⟨g', cap', cur', e1, _, e2, _, _, _, e3⟩
    · exact (List.eq_nil_of_length_eq_zero (l := rows'.flatten) (by rw [hr'.1, e2, Nat.zero_mul])).trans (List.eq_nil_of_length_eq_zero (l := rows.flatten) (by rw [k1.1, e2, Nat.zero_mul])).symm
    · rcases k1.2 with ⟨f1, f2⟩ | ⟨g2, cap2, cur2, f1, _, f2, _, _, _, f3⟩
      · rw [f1] at e1; cases e1
      · rw [f1] at e1; injection e1 with e1; injection e1 with e1; injection e1 with e1
        subst e1
        rw [f2] at e2; injection e2 with e2; injection e2 with e2
        rw [← e3, ← f3, e2]
  rw [e1]; simpa using h2
theorem wpList_pack1 {ops : Array Oper} {rest : List Oper} {o : Oper} {a : Act} {Q : Exit → Act → World → Prop} (hgd : o.guard = none) {t T : TypeId} {e N n : Nat} (hI : Inf P t T (sh e).length) (s x : Operand)
    (ho : o.op = .call { callee := .builtin .append, args := #[s, x], argTypes := #[t, t] })
    {w w1 : World} {base : Nat} {v : Value} {X : List (List DC)} {us : List Value} {ds : List DC} {g c : Nat} (hs : a.eval s = v) (hbag : Pack N n w base T e v X) (hb : Below w.heap.size w w1) (hbase : base ≤ w.heap.size)
    (hx : a.eval x = .slice (some ⟨g, 0, none⟩) 1 c) (hgx : g = w1.heap.size) (hown : Cells (fun x => N ≤ x ∧ v.ownBlock ≠ some x) n w1 (sh e) ds us) (hsm : X.length ≤ 1000000)
    (h : ∀ v' w', Pack N n w' base T e v' (X ++ [ds]) → (w1.alloc (.cells us.toArray T)).grownBy w' v.ownBlock → wpList P ops Q rest (a.put o.dst v') w') : wpList P ops Q (o :: rest) a (w1.alloc (.cells us.toArray T)) :=
  wpList_plain hgd fun _ hK => wp_pack1 hI s x ho hs hbag hb hbase hx hgx hown hsm fun v' w' h1 h2 => hK _ _ (h v' w' h1 h2)
end
end Go.Proofs.YtflfnekaiaplfaaGreat.un
namespace Go.Proofs.YtflfnekaiaplfaaGreat.un
open mem
open Go.ChangeShapes Go.WideShapes Go.ChangeAt Go.RowKit Go.Lib
set_option linter.unusedVariables false
set_option maxRecDepth 8000
set_option linter.unusedSimpArgs false
section
variable {P : Program}
/-- 'append(s, t...)', the items sharing memory. -/
theorem wpList_packN {ops : Array Oper} {rest : List Oper} {o : Oper} {a : Act} {Q : Exit → Act → World → Prop} (hgd : o.guard = none) {t T : TypeId} {e N n : Nat} (hI : Inf P t T (sh e).length) (s x : Operand)
    (ho : o.op = .call { callee := .builtin .append, args := #[s, x], argTypes := #[t, t] })
    {w : World} {base : Nat} {v : Value} {X Y : List (List DC)} {A : Option Addr} {m c : Nat} (hs : a.eval s = v) (hbag : Pack N n w base T e v X) (hbase : base ≤ w.heap.size)
    (hx : a.eval x = .slice A m c) (hm : m = Y.length) (hY : Src (fun x => N ≤ x ∧ v.ownBlock ≠ some x) n w e A Y) (hsm : X.length + Y.length ≤ 1000000)
    (h : ∀ v' w', Pack N n w' base T e v' (X ++ Y) → w.grownBy w' v.ownBlock → wpList P ops Q rest (a.put o.dst v') w') : wpList P ops Q (o :: rest) a w := by
  subst hm
  refine wpList_plain hgd fun _ hK => ?_
  obtain ⟨rows, hrow, hl, hh⟩ := hbag.go
  obtain ⟨v', w', us, hrun, u1, h2, h3, h4, u3⟩ := run_many (P := P) (ty := o.type) hI hrow c hY hbase hsm
  unfold Oper.wp execOp
  simp only [ho, resolve, invoke, builtin, Sem.run_bind, Sem.run_pure, Result.andThen_ok, List.map_toArray, List.map_cons, List.map_nil, hs, hx, hrun]
  refine hK _ _ (h v' w' (Pack.app (w1 := w) (Y := Y) (us := us) hbag (Below.refl _ _) u1 u3 (fun rows' hr' => ?_) h3 h4) h3)
  rw [own_flat hr' hrow]; exact h2
end
/-- the first items of a list. -/
theorem Cell.takeL {B : Nat → Prop} {n e c c' : Nat} {w : World} {xs : List (List DC)} {A : Option Addr} (h : Cell B (n + 1) w (.l e) (.l xs) (.slice A xs.length c)) (k : Nat) : Cell B (n + 1) w (.l e) (.l (xs.take k)) (.slice A (xs.take k).length c') := by
  have hl := h.len.2
  refine ⟨A, c', rfl, by rw [List.length_take]; omega, fun j hj => ?_⟩
  have hj2 : j < xs.length := by rw [List.length_take] at hj; omega
  obtain ⟨m, b, o, us, hm, e1, e2, e3, e4, e5⟩ := h.item j hj2
  obtain rfl : n = m := by omega
  exact ⟨b, o, us, e1, e2, e3, e4, by rw [List.getElem_take]; exact e5⟩
/-- its last items. -/
theorem Cell.dropL {B : Nat → Prop} {n e c c' : Nat} {w : World} {xs : List (List DC)} {A A' : Option Addr} (h : Cell B (n + 1) w (.l e) (.l xs) (.slice A xs.length c)) (k : Nat) (hA : k < xs.length → ∀ b o, A = some ⟨b, o, none⟩ → A' = some ⟨b, o + k * (sh e).length, none⟩) : Cell B (n + 1) w (.l e) (.l (xs.drop k)) (.slice A' (xs.drop k).length c') := by
  have hl := h.len.2
  refine ⟨A', c', rfl, by rw [List.length_drop]; omega, fun j hj => ?_⟩
  have hj2 : k + j < xs.length := by rw [List.length_drop] at hj; omega
  obtain ⟨m, b, o, us, hm, e1, e2, e3, e4, e5⟩ := h.item (k + j) hj2
  obtain rfl : n = m := by omega
  refine ⟨b, o + k * (sh e).length, us, hA (by omega) b o e1, e2, e3, ?_, by rw [List.getElem_drop]; exact e5⟩
  rw [show o + k * (sh e).length + j * (sh e).length = o + (k + j) * (sh e).length by rw [Nat.add_mul]; omega]
  exact e4
end Go.Proofs.YtflfnekaiaplfaaGreat.un
