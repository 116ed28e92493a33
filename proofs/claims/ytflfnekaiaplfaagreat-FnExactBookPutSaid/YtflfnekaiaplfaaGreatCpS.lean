/- Plain: a row under construction: items of any shape, each with memory of its own (Bag), or with memory from before (Sack). Addresses copied by the model; what is made, as data of any shape. -/
import Derived.Test.YtflfnekaiaplfaaGreatUo
import Derived.Maps.AppendAt
import Derived.Deep.AppendLies
import Derived.RegionTactic
import Derived.OwnWalk
import Derived.Test.YtflfnekaiaplfaaGreatBare
import Derived.Test.YtflfnekaiaplfaaGreatBr
import Derived.Test.YtflfnekaiaplfaaGreatCf
namespace Go.Proofs.YtflfnekaiaplfaaGreat.un
open mem
open Go.ChangeShapes Go.WideShapes Go.ChangeAt Go.RowKit Go.Lib
set_option linter.unusedVariables false
set_option maxRecDepth 8000
set_option linter.unusedSimpArgs false

theorem cells_one {B : Nat → Prop} {n : Nat} {w : World} : ∀ {ks : List CK} {ds : List DC} {vs : List Value}, Cells B n w ks ds vs → ∀ u ∈ vs, u.oneCell' = true
  | [], [], [], _, u, hu => by simp at hu
  | k :: ks, d :: ds, v :: vs, h, u, hu => by
    rcases List.mem_cons.1 hu with rfl | hu
    · cases k with
      | i => obtain ⟨x, _, rfl, _⟩ := h.1.int; rfl
      | s => obtain ⟨x, _, rfl, _⟩ := h.1.str; rfl
      | l e => obtain ⟨x, A, c, _, rfl, _⟩ := h.1.lst; rfl
    · exact cells_one h.2 u hu
  | [], [], _ :: _, h, _, _ => h.elim
  | [], _ :: _, _, h, _, _ => h.elim
  | _ :: _, [], _, h, _, _ => h.elim
  | _ :: _, _ :: _, [], h, _, _ => h.elim
theorem Cells.length {B : Nat → Prop} {n : Nat} {w : World} {ks : List CK} {ds : List DC} {vs : List Value} (h : Cells B n w ks ds vs) : vs.length = ks.length := (All3.len h).2
theorem flat_at {N : Nat} : ∀ (rows : List (List Value)), (∀ r ∈ rows, r.length = N) → ∀ j (h : j < rows.length) c (hc : c < N), rows.flatten[j * N + c]? = rows[j][c]?
  | [], _, j, h, _, _ => absurd h (by simp)
  | r :: rows, hr, 0, h, c, hc => by
    have h0 := hr r (by simp)
    simp only [List.flatten_cons, Nat.zero_mul, Nat.zero_add, List.getElem_cons_zero]
    rw [List.getElem?_append_left (by omega)]
  | r :: rows, hr, j + 1, h, c, hc => by
    have h0 := hr r (by simp)
    simp only [List.flatten_cons, List.getElem_cons_succ]
    rw [List.getElem?_append_right (by rw [h0, Nat.add_mul]; omega), h0, show (j + 1) * N + c - N = j * N + c by rw [Nat.add_mul]; omega]
    exact flat_at rows (fun r h => hr r (by simp [h])) j (by simpa using h) c hc
theorem flat_len {N : Nat} : ∀ (rows : List (List Value)), (∀ r ∈ rows, r.length = N) → rows.flatten.length = rows.length * N
  | [], _ => by simp
  | r :: rows, h => by simp only [List.flatten_cons, List.length_append, List.length_cons]; rw [flat_len rows (fun r hr => h r (by simp [hr])), h r (by simp), Nat.add_mul]; omega
theorem addr_add (b o j : Nat) : (⟨b, o, none⟩ : Addr).add j = ⟨b, o + j, none⟩ := by unfold Addr.add; split <;> simp_all
theorem own_cell {w : World} {base n cap g N : Nat} {T : TypeId} {xs : List Value} (h : w.ownsRow base T N (.slice (some ⟨g, 0, none⟩) n cap) n xs) (j : Nat) (hj : j < n * N) : w.cell? ⟨g, j, none⟩ = xs[j]? := h.cellAt j hj

/-- a row under construction: X's items stand in it, each with memory of its own from base on. -/
structure Bag (n : Nat) (w : World) (base : Nat) (T : TypeId) (e : Nat) (v : Value) (X : List (List DC)) : Prop where
  go : ∃ rows : List (List Value), w.ownsRow base T (sh e).length v X.length rows.flatten ∧ rows.length = X.length ∧
    ∃ G : Nat → Nat → Prop, (∀ j x, G j x → base ≤ x ∧ x < w.heap.size ∧ v.ownBlock ≠ some x) ∧ (∀ j j' x, G j x → G j' x → j = j') ∧
      ∀ j (h1 : j < X.length) (h2 : j < rows.length), Owns n w (G j) (sh e) X[j] rows[j]
theorem Bag.nil (n : Nat) (w : World) (base : Nat) (T : TypeId) (e : Nat) : Bag n w base T e (.slice none 0 0) [] :=
  ⟨[], World.ownsRow_nil _ _ _ _, rfl, fun _ _ => False, fun _ _ h => h.elim, fun _ _ _ h => h.elim, fun j h => absurd h (by simp)⟩
theorem Bag.empty {n : Nat} {w : World} {base : Nat} {T : TypeId} {e : Nat} (hb : base ≤ w.heap.size) : Bag n (w.alloc (.cells #[] T)) base T e (.slice (some ⟨w.heap.size, 0, none⟩) 0 0) [] :=
  ⟨[], World.ownsRow_made w #[] 0 hb (by simp [maxLen]) (by simp), rfl, fun _ _ => False, fun _ _ h => h.elim, fun _ _ _ h => h.elim, fun j h => absurd h (by simp)⟩
theorem Bag.form {n : Nat} {w : World} {base : Nat} {T : TypeId} {e : Nat} {v : Value} {X : List (List DC)} (h : Bag n w base T e v X) : ∃ A c, v = .slice A X.length c ∧ X.length ≤ maxLen := by
  obtain ⟨rows, ho, _⟩ := h.go
  rcases ho.2 with ⟨rfl, h0⟩ | ⟨g, cap, cur, rfl, _, _, h1, h2, _⟩
  · exact ⟨none, 0, by rw [h0], by rw [h0]; simp [maxLen]⟩
  · exact ⟨_, cap, rfl, by omega⟩
theorem row_below {w w' : World} {base N n : Nat} {T : TypeId} {v : Value} {xs : List Value} (h : w.ownsRow base T N v n xs) (hb : Below w.heap.size w w') : w'.ownsRow base T N v n xs := by
  obtain ⟨h1, h2 | ⟨r, cap, cur, hv, hbr, hr, h3⟩⟩ := h
  · exact ⟨h1, .inl h2⟩
  · exact ⟨h1, .inr ⟨r, cap, cur, hv, hbr, by rw [hb.block r (Array.getElem?_eq_some_iff.1 hr).1]; exact hr, h3⟩⟩
theorem Bag.below {n : Nat} {w w' : World} {base : Nat} {T : TypeId} {e : Nat} {v : Value} {X : List (List DC)} (h : Bag n w base T e v X) (hb : Below w.heap.size w w') : Bag n w' base T e v X := by
  obtain ⟨rows, ho, hl, G, hG, hD, hh⟩ := h.go
  exact ⟨rows, row_below ho hb, hl, G, fun j x hx => ⟨(hG j x hx).1, Nat.lt_of_lt_of_le (hG j x hx).2.1 hb.size, (hG j x hx).2.2⟩, hD, fun j h1 h2 => (hh j h1 h2).below hb⟩
theorem Bag.alloc {n : Nat} {w : World} {base : Nat} {T : TypeId} {e : Nat} {v : Value} {X : List (List DC)} (h : Bag n w base T e v X) (o : Obj) : Bag n (w.alloc o) base T e v X := h.below (below_a1 w o)
theorem Bag.row {n : Nat} {w : World} {base : Nat} {T : TypeId} {e : Nat} {v : Value} {X : List (List DC)} (h : Bag n w base T e v X) : ∀ k, v.ownBlock = some k → base ≤ k ∧ k < w.heap.size := by
  obtain ⟨rows, ho, _⟩ := h.go
  exact fun k hk => World.ownsRow.lt ho k hk
/-- one more item: what the operation leaves. -/
theorem Bag.snoc {n : Nat} {w w1 w' : World} {base : Nat} {T : TypeId} {e : Nat} {v v' : Value} {X : List (List DC)} {F2 : Nat → Prop} {ds : List DC} {us : List Value} (h : Bag n w base T e v X) (hb : Below w.heap.size w w1) (hw : base ≤ w.heap.size)
    (hs : Owns n w1 F2 (sh e) ds us) (hF : ∀ x, F2 x → w.heap.size ≤ x ∧ x < w1.heap.size)
    (ho' : ∀ rows : List (List Value), w1.ownsRow base T (sh e).length v X.length rows.flatten → w'.ownsRow base T (sh e).length v' (X.length + 1) (rows.flatten ++ us))
    (hg : w1.grownBy w' v.ownBlock) (hat : v'.ownBlock = v.ownBlock ∨ v'.ownBlock = some w1.heap.size) : Bag n w' base T e v' (X ++ [ds]) := by
  have hrow := h.row
  obtain ⟨rows, ho, hl, G, hG, hD, hh⟩ := h.go
  have hsz := hb.size
  have hrl : ∀ x, v.ownBlock = some x → x < w.heap.size := fun x hx => (hrow x hx).2
  refine ⟨rows ++ [us], by simpa using ho' rows (row_below ho hb), by simp [hl], fun j x => if j < X.length then G j x else if j = X.length then F2 x else False, fun j x hx => ?_, fun j j' x hx hx' => ?_, fun j h1 h2 => ?_⟩
  · have hgs := hg.size
    dsimp only at hx
    split at hx
    · obtain ⟨a1, a2, a3⟩ := hG _ _ hx
      refine ⟨a1, by omega, ?_⟩
      rcases hat with e1 | e1 <;> rw [e1]
      · exact a3
      · intro e2; injection e2 with e2; omega
    · split at hx
      · obtain ⟨a1, a2⟩ := hF _ hx
        refine ⟨by omega, by omega, ?_⟩
        rcases hat with e1 | e1 <;> rw [e1]
        · intro e2; have := hrl _ e2; omega
        · intro e2; injection e2 with e2; omega
      · exact hx.elim
  · dsimp only at hx hx'
    split at hx
    · split at hx'
      · exact hD _ _ _ hx hx'
      · split at hx'
        · have a1 := (hG _ _ hx).2.1; have a2 := (hF _ hx').1; omega
        · exact hx'.elim
    · split at hx
      · split at hx'
        · have a1 := (hG _ _ hx').2.1; have a2 := (hF _ hx).1; omega
        · split at hx'
          · omega
          · exact hx'.elim
      · exact hx.elim
  · have hag : ∀ {B : Nat → Prop}, (∀ x, B x → v.ownBlock ≠ some x) → Agree B w1 w' := fun {B} hB => ⟨hg.size, fun b h1 h2 => hg.block b h2 (fun e => hB b h1 e.symm)⟩
    dsimp only
    by_cases hlt : j < X.length
    · have e5 : (fun x => if j < X.length then G j x else if j = X.length then F2 x else False) = G j := by funext x; rw [if_pos hlt]
      rw [e5, List.getElem_append_left hlt, List.getElem_append_left (by omega)]
      exact ((hh j hlt (by omega)).below hb).agree' (hag fun x hx => (hG _ _ hx).2.2)
    · have hje : j = X.length := by simp at h1; omega
      subst hje
      have e5 : (fun x => if X.length < X.length then G X.length x else if X.length = X.length then F2 x else False) = F2 := by funext x; rw [if_neg (by omega), if_pos rfl]
      rw [e5]
      have a1 : (X ++ [ds])[X.length] = ds := by simp
      have a2 : (rows ++ [us])[X.length]'h2 = us := by simp [← hl]
      rw [a1, a2]
      exact hs.agree' (hag fun x hx e2 => by have := hrl _ e2; have := (hF _ hx).1; omega)
/-- the finished row. -/
theorem Bag.done {n : Nat} {w : World} {base : Nat} {T : TypeId} {e : Nat} {v : Value} {X : List (List DC)} (h : Bag n w base T e v X) : Own (n + 1) w (Rg base w.heap.size) (.l e) (.l X) v := by
  obtain ⟨A, c, hv, hlen⟩ := h.form
  have hrow := h.row
  obtain ⟨rows, ho, hl, G, hG, hD, hh⟩ := h.go
  subst hv
  refine ⟨A, c, rfl, hlen, ?_⟩
  rcases ho.2 with ⟨hv, h0⟩ | ⟨g, cap, cur, hv, hbg, hr, hnc, hcm, hcs, ht⟩
  · left; exact List.eq_nil_of_length_eq_zero h0
  injection hv with hA _ hc
  subst hA hc
  by_cases hX : X = []
  · exact .inl hX
  have hgl : g < w.heap.size := (Array.getElem?_eq_some_iff.1 hr).1
  have hrl : ∀ r ∈ rows, r.length = (sh e).length := fun r hr => by
    obtain ⟨j, hj, rfl⟩ := List.getElem_of_mem hr
    exact (hh j (by omega) hj).2.1
  have hblk : Blk w g T cur := hr
  have hG2 : ∀ j x, G j x → Rg base w.heap.size x ∧ x ≠ g := fun j x hx => ⟨⟨(hG j x hx).1, (hG j x hx).2.1⟩, fun e2 => by subst e2; exact (hG j x hx).2.2 rfl⟩
  -- the sets of the cells
  have hcell : ∀ j (h1 : j < X.length), ∃ Gc : Nat → Nat → Prop, (∀ c x, Gc c x → G j x) ∧ (∀ c c' x, Gc c x → Gc c' x → c = c') ∧ X[j].length = (sh e).length ∧ ∀ c (k1 : c < (sh e).length) (k2 : c < X[j].length) (k3 : c < (rows[j]'(by omega)).length), Own n w (Gc c) (sh e)[c] X[j][c] (rows[j]'(by omega))[c] := fun j h1 => by
    obtain ⟨s1, s2, Gc, s3, s4, s5⟩ := hh j h1 (by omega)
    exact ⟨Gc, s3, s4, s1, s5⟩
  refine .inr ⟨g, 0, rfl, ⟨hbg, hgl⟩, hgl, blk_there hblk (by rw [hcs]; have := Nat.mul_le_mul_right (sh e).length hnc; omega), fun j c x => ∃ h1 : j < X.length, (Classical.choose (hcell j h1)) c x, fun j c x hx => ?_, fun j c j' c' x hx hx' => ?_, fun j h1 => ?_⟩
  · obtain ⟨h1, hx⟩ := hx
    exact hG2 j x ((Classical.choose_spec (hcell j h1)).1 c x hx)
  · obtain ⟨h1, hx⟩ := hx
    obtain ⟨h1', hx'⟩ := hx'
    obtain rfl : j = j' := hD _ _ x ((Classical.choose_spec (hcell j h1)).1 c x hx) ((Classical.choose_spec (hcell j' h1')).1 c' x hx')
    exact ⟨rfl, (Classical.choose_spec (hcell j h1)).2.1 c c' x hx hx'⟩
  · have hj2 : j < rows.length := by omega
    obtain ⟨_, _, s3, s4⟩ := Classical.choose_spec (hcell j h1)
    refine ⟨rows[j], ?_, hrl _ (List.getElem_mem _), s3, fun c k1 k2 k3 => (s4 c k1 k2 k3).mono fun x hx => ⟨h1, hx⟩⟩
    intro c u hu
    have hc : c < (sh e).length := by
      have := (List.getElem?_eq_some_iff.1 hu).1
      have := hrl _ (List.getElem_mem hj2); omega
    have hlt : j * (sh e).length + c < X.length * (sh e).length := by
      have : (j + 1) * (sh e).length ≤ X.length * (sh e).length := Nat.mul_le_mul_right _ h1
      rw [Nat.add_mul, Nat.one_mul] at this; omega
    have := own_cell ho (j * (sh e).length + c) hlt
    rw [flat_at rows hrl j hj2 c hc, hu] at this
    simpa using this
/-- the new block of 'append(s, x)' of one struct. -/
theorem new_cells {w : World} {T : TypeId} {us : List Value} : ∀ j u, us[j]? = some u → (w.alloc (.cells us.toArray T)).cell? ((⟨w.heap.size, 0, none⟩ : Addr).add j) = some u := fun j u hu => by
  rw [addr_add, Nat.zero_add, cell_of_row _ _ j _ _ _ (heap_alloc_new w _)]
  simpa using hu
/-- a row under construction whose items' memory lies elsewhere, not their own alone. -/
structure Sack (n : Nat) (w : World) (base : Nat) (T : TypeId) (e : Nat) (v : Value) (X : List (List DC)) : Prop where
  go : ∃ rows : List (List Value), w.ownsRow base T (sh e).length v X.length rows.flatten ∧ rows.length = X.length ∧
      ∀ j (h1 : j < X.length) (h2 : j < rows.length), Cells (fun x => v.ownBlock ≠ some x) n w (sh e) X[j] rows[j]
theorem Sack.nil (n : Nat) (w : World) (base : Nat) (T : TypeId) (e : Nat) : Sack n w base T e (.slice none 0 0) [] :=
  ⟨[], World.ownsRow_nil _ _ _ _, rfl, fun j h => absurd h (by simp)⟩
theorem Sack.empty {n : Nat} {w : World} {base : Nat} {T : TypeId} {e : Nat} (hb : base ≤ w.heap.size) : Sack n (w.alloc (.cells #[] T)) base T e (.slice (some ⟨w.heap.size, 0, none⟩) 0 0) [] :=
  ⟨[], World.ownsRow_made w #[] 0 hb (by simp [maxLen]) (by simp), rfl, fun j h => absurd h (by simp)⟩
theorem Sack.form {n : Nat} {w : World} {base : Nat} {T : TypeId} {e : Nat} {v : Value} {X : List (List DC)} (h : Sack n w base T e v X) : ∃ A c, v = .slice A X.length c ∧ X.length ≤ maxLen := by
  obtain ⟨rows, ho, _⟩ := h.go
  rcases ho.2 with ⟨rfl, h0⟩ | ⟨g, cap, cur, rfl, _, _, h1, h2, _⟩
  · exact ⟨none, 0, by rw [h0], by rw [h0]; simp [maxLen]⟩
  · exact ⟨_, cap, rfl, by omega⟩
theorem Sack.below {n : Nat} {w w' : World} {base : Nat} {T : TypeId} {e : Nat} {v : Value} {X : List (List DC)} (h : Sack n w base T e v X) (hb : Below w.heap.size w w') : Sack n w' base T e v X := by
  obtain ⟨rows, ho, hl, hh⟩ := h.go
  exact ⟨rows, row_below ho hb, hl, fun j h1 h2 => Cells.below (hh j h1 h2) hb⟩
theorem Sack.alloc {n : Nat} {w : World} {base : Nat} {T : TypeId} {e : Nat} {v : Value} {X : List (List DC)} (h : Sack n w base T e v X) (o : Obj) : Sack n (w.alloc o) base T e v X := h.below (below_a1 w o)
theorem Sack.row {n : Nat} {w : World} {base : Nat} {T : TypeId} {e : Nat} {v : Value} {X : List (List DC)} (h : Sack n w base T e v X) : ∀ k, v.ownBlock = some k → base ≤ k ∧ k < w.heap.size := by
  obtain ⟨rows, ho, _⟩ := h.go
  exact fun k hk => World.ownsRow.lt ho k hk
/-- more items: what the operation leaves. -/
theorem Sack.app {n : Nat} {w w1 w' : World} {base : Nat} {T : TypeId} {e : Nat} {v v' : Value} {X Y : List (List DC)} {us : List (List Value)} (h : Sack n w base T e v X) (hb : Below w.heap.size w w1) (hl2 : us.length = Y.length)
    (hs : ∀ j (h1 : j < Y.length) (h2 : j < us.length), Cells (fun x => v.ownBlock ≠ some x) n w1 (sh e) Y[j] us[j])
    (ho' : ∀ rows : List (List Value), w1.ownsRow base T (sh e).length v X.length rows.flatten → w'.ownsRow base T (sh e).length v' (X.length + Y.length) (rows.flatten ++ us.flatten))
    (hg : w1.grownBy w' v.ownBlock) (hat : v'.ownBlock = v.ownBlock ∨ v'.ownBlock = some w1.heap.size) : Sack n w' base T e v' (X ++ Y) := by
  obtain ⟨rows, ho, hl, hh⟩ := h.go
  have hag : Agree (fun x => v.ownBlock ≠ some x) w1 w' := ⟨hg.size, fun b h1 h2 => hg.block b h2 (fun e => h1 e.symm)⟩
  have hmo : ∀ {ds : List DC} {vs : List Value}, Cells (fun x => v.ownBlock ≠ some x) n w1 (sh e) ds vs → Cells (fun x => v'.ownBlock ≠ some x) n w' (sh e) ds vs := fun hc =>
    (Cells.agree (Cells.monoB (B' := fun x => v.ownBlock ≠ some x ∧ x < w1.heap.size) hc (fun b h1 h2 => ⟨h1, h2⟩)) (hag.mono fun b hb => hb.1)).monoB fun b h1 h2 => by
      rcases hat with e1 | e1 <;> rw [e1]
      · exact h1.1
      · intro e2; injection e2 with e2; have := h1.2; omega
  refine ⟨rows ++ us, by simpa using ho' rows (row_below ho hb), by simp [hl, hl2], fun j h1 h2 => ?_⟩
  by_cases hlt : j < X.length
  · rw [List.getElem_append_left hlt, List.getElem_append_left (by omega)]
    exact hmo (Cells.below (hh j hlt (by omega)) hb)
  · rw [List.getElem_append_right (by omega), List.getElem_append_right (by omega)]
    have := hmo (hs (j - X.length) (by simp at h1; omega) (by simp at h2; omega))
    simpa only [hl] using this
/-- the finished row. -/
theorem Sack.done {n : Nat} {w : World} {base : Nat} {T : TypeId} {e : Nat} {v : Value} {X : List (List DC)} (h : Sack n w base T e v X) : Cell Any (n + 1) w (.l e) (.l X) v := by
  obtain ⟨A, c, hv, hlen⟩ := h.form
  obtain ⟨rows, ho, hl, hh⟩ := h.go
  subst hv
  refine ⟨A, c, rfl, hlen, fun j h1 => ?_⟩
  rcases ho.2 with ⟨hv, h0⟩ | ⟨g, cap, cur, hv, hbg, hr, hnc, hcm, hcs, ht⟩
  · omega
  injection hv with hA _ hc
  subst hA hc
  have hgl : g < w.heap.size := (Array.getElem?_eq_some_iff.1 hr).1
  have hrl : ∀ r ∈ rows, r.length = (sh e).length := fun r hr => by
    obtain ⟨j, hj, rfl⟩ := List.getElem_of_mem hr
    exact Cells.length (hh j (by omega) hj)
  have hj2 : j < rows.length := by omega
  refine ⟨g, 0, rows[j], rfl, trivial, hgl, ?_, Cells.monoB (hh j h1 hj2) fun _ _ _ => trivial⟩
  intro c u hu
  have hc : c < (sh e).length := by
    have := (List.getElem?_eq_some_iff.1 hu).1
    have := hrl _ (List.getElem_mem hj2); omega
  have hlt : j * (sh e).length + c < X.length * (sh e).length := by
    have : (j + 1) * (sh e).length ≤ X.length * (sh e).length := Nat.mul_le_mul_right _ h1
    rw [Nat.add_mul, Nat.one_mul] at this; omega
  have := own_cell ho (j * (sh e).length + c) hlt
  rw [flat_at rows hrl j hj2 c hc, hu] at this
  simpa using this
theorem Bag.sack {n : Nat} {w : World} {base : Nat} {T : TypeId} {e : Nat} {v : Value} {X : List (List DC)} (h : Bag n w base T e v X) : Sack n w base T e v X := by
  obtain ⟨rows, ho, hl, G, hG, hD, hh⟩ := h.go
  exact ⟨rows, ho, hl, fun j h1 h2 => Cells.monoB (hh j h1 h2).cells fun x hx _ => (hG j x hx).2.2⟩

theorem Sack.start {n : Nat} {w : World} {o : Obj} {T : TypeId} {e : Nat} : Sack n ((w.alloc o).alloc (.cells #[] T)) (w.heap.size + 1) T e (.slice (some ⟨w.heap.size + 1, 0, none⟩) 0 0) [] := by
  have h := Sack.empty (n := n) (w := w.alloc o) (base := w.heap.size + 1) (T := T) (e := e) (by simp)
  have e1 : (w.alloc o).heap.size = w.heap.size + 1 := by simp
  rw [e1] at h; exact h
/-- facts past an operation that grew a row. -/
theorem grown_below {b : Nat} {w0 w w' : World} {v : Value} (h : Below b w0 w) (hg : w.grownBy w' v.ownBlock) (hB : b ≤ w.heap.size) (hr : ∀ k, v.ownBlock = some k → b ≤ k) : Below b w0 w' :=
  h.grown hg hB hr
theorem grown_blk {w w' : World} {row : Option Nat} {g : Nat} {T : TypeId} {cs : Array Value} (h : Blk w g T cs) (hg : w.grownBy w' row) (hr : row ≠ some g) : Blk w' g T cs := by
  unfold Blk; rw [hg.block g h.lt (fun e => hr e.symm)]; exact h
/-- what an element type must be. -/
structure Inf (P : Program) (t T : TypeId) (N : Nat) : Prop where
  go : P.underlying t = some (.slice T) ∧ ∃ i z bytes, P.info? T = some i ∧ i.zero = some z ∧ i.size = N ∧ i.bytes = bytes ∧ z.cells.size = N ∧ 0 < N ∧ bytes ≤ 4096
section
variable {P : Program}
/-- 'append(s, x)' of one struct, for the walk. -/
theorem wp_bag1 {o : Oper} {a : Act} {K : Act → World → Prop} {Q : Exit → Act → World → Prop} {t T : TypeId} {e n : Nat} (hI : Inf P t T (sh e).length) (s x : Operand)
    (ho : o.op = .call { callee := .builtin .append, args := #[s, x], argTypes := #[t, t] })
    {w w1 : World} {base : Nat} {v : Value} {X : List (List DC)} {us : List Value} {ds : List DC} {F2 : Nat → Prop} {g c : Nat} (hs : a.eval s = v) (hbag : Bag n w base T e v X) (hb : Below w.heap.size w w1) (hbase : base ≤ w.heap.size)
    (hx : a.eval x = .slice (some ⟨g, 0, none⟩) 1 c) (hgx : g = w1.heap.size) (hown : Owns n w1 F2 (sh e) ds us) (hF : ∀ x, F2 x → w.heap.size ≤ x ∧ x < w1.heap.size) (hsm : X.length ≤ 1000000)
    (h : ∀ v' w', Bag n w' base T e v' (X ++ [ds]) → (w1.alloc (.cells us.toArray T)).grownBy w' v.ownBlock → K (a.put o.dst v') w') : o.wp P a (w1.alloc (.cells us.toArray T)) K Q := by
  subst hgx
  obtain ⟨ht, i, z, bytes, hi, hz, hN, hby, hzs, hpos, hbl⟩ := hI.go
  have hbo : Below w.heap.size w (w1.alloc (.cells us.toArray T)) := below_da hb (Nat.le_refl _) _
  obtain ⟨rows, hrow, hl, _⟩ := hbag.go
  have hlen : us.length = (sh e).length := hown.2.1
  obtain ⟨v', w', hrun, h2, h3, _, h4⟩ := run_append_own_at (P := P) (w1.alloc (.cells us.toArray T)) base t o.type T i z (sh e).length bytes ht hi hz hN hby hzs hpos v X.length rows.flatten (row_below hrow hbo) ⟨w1.heap.size, 0, none⟩ 1 c us (by rw [hlen, Nat.one_mul]) new_cells (cells_one hown.cells) (by simp only [maxLen]; omega) (by
    have : (X.length + 1) * bytes ≤ 1000001 * 4096 := Nat.mul_le_mul (by omega) hbl
    omega) (Nat.le_trans hbase hbo.size)
  unfold Oper.wp execOp
  simp only [ho, resolve, invoke, builtin, Sem.run_bind, Sem.run_pure, Result.andThen_ok, List.map_toArray, List.map_cons, List.map_nil, hs, hx, hrun]
  refine h v' w' (Bag.snoc (w1 := w1.alloc (.cells us.toArray T)) hbag hbo hbase (hown.below (below_a1 _ _)) (fun x hx => ⟨(hF x hx).1, by have := (hF x hx).2; simp; omega⟩) (fun rows' hr' => ?_) h3 h4) h3
  have e1 : rows'.flatten = rows.flatten := by
    have k1 := row_below hrow hbo
    rcases hr'.2 with ⟨e1, e2⟩ | ⟨g', cap', cur', e1, _, e2, _, _, _, e3⟩
    · exact (List.eq_nil_of_length_eq_zero (l := rows'.flatten) (by rw [hr'.1, e2, Nat.zero_mul])).trans (List.eq_nil_of_length_eq_zero (l := rows.flatten) (by rw [k1.1, e2, Nat.zero_mul])).symm
    · rcases k1.2 with ⟨f1, f2⟩ | ⟨g2, cap2, cur2, f1, _, f2, _, _, _, f3⟩
      · rw [f1] at e1; cases e1
      · rw [f1] at e1; injection e1 with e1; injection e1 with e1; injection e1 with e1
        subst e1
        rw [f2] at e2; injection e2 with e2; injection e2 with e2
        rw [← e3, ← f3, e2]
  rw [e1]; exact h2
theorem wpList_bag1 {ops : Array Oper} {rest : List Oper} {o : Oper} {a : Act} {Q : Exit → Act → World → Prop} (hgd : o.guard = none) {t T : TypeId} {e n : Nat} (hI : Inf P t T (sh e).length) (s x : Operand)
    (ho : o.op = .call { callee := .builtin .append, args := #[s, x], argTypes := #[t, t] })
    {w w1 : World} {base : Nat} {v : Value} {X : List (List DC)} {us : List Value} {ds : List DC} {F2 : Nat → Prop} {g c : Nat} (hs : a.eval s = v) (hbag : Bag n w base T e v X) (hb : Below w.heap.size w w1) (hbase : base ≤ w.heap.size)
    (hx : a.eval x = .slice (some ⟨g, 0, none⟩) 1 c) (hgx : g = w1.heap.size) (hown : Owns n w1 F2 (sh e) ds us) (hF : ∀ x, F2 x → w.heap.size ≤ x ∧ x < w1.heap.size) (hsm : X.length ≤ 1000000)
    (h : ∀ v' w', Bag n w' base T e v' (X ++ [ds]) → (w1.alloc (.cells us.toArray T)).grownBy w' v.ownBlock → wpList P ops Q rest (a.put o.dst v') w') : wpList P ops Q (o :: rest) a (w1.alloc (.cells us.toArray T)) :=
  wpList_plain hgd fun _ hK => wp_bag1 hI s x ho hs hbag hb hbase hx hgx hown hF hsm fun v' w' h1 h2 => hK _ _ (h v' w' h1 h2)
/-- the same, where the items share memory. -/
theorem wp_sack1 {o : Oper} {a : Act} {K : Act → World → Prop} {Q : Exit → Act → World → Prop} {t T : TypeId} {e n : Nat} (hI : Inf P t T (sh e).length) (s x : Operand)
    (ho : o.op = .call { callee := .builtin .append, args := #[s, x], argTypes := #[t, t] })
    {w w1 : World} {base : Nat} {v : Value} {X : List (List DC)} {us : List Value} {ds : List DC} {g c : Nat} (hs : a.eval s = v) (hbag : Sack n w base T e v X) (hb : Below w.heap.size w w1) (hbase : base ≤ w.heap.size)
    (hx : a.eval x = .slice (some ⟨g, 0, none⟩) 1 c) (hgx : g = w1.heap.size) (hown : Cells (fun x => v.ownBlock ≠ some x) n w1 (sh e) ds us) (hsm : X.length ≤ 1000000)
    (h : ∀ v' w', Sack n w' base T e v' (X ++ [ds]) → (w1.alloc (.cells us.toArray T)).grownBy w' v.ownBlock → K (a.put o.dst v') w') : o.wp P a (w1.alloc (.cells us.toArray T)) K Q := by
  subst hgx
  obtain ⟨ht, i, z, bytes, hi, hz, hN, hby, hzs, hpos, hbl⟩ := hI.go
  have hbo : Below w.heap.size w (w1.alloc (.cells us.toArray T)) := below_da hb (Nat.le_refl _) _
  obtain ⟨rows, hrow, hl, _⟩ := hbag.go
  have hlen : us.length = (sh e).length := Cells.length hown
  obtain ⟨v', w', hrun, h2, h3, _, h4⟩ := run_append_own_at (P := P) (w1.alloc (.cells us.toArray T)) base t o.type T i z (sh e).length bytes ht hi hz hN hby hzs hpos v X.length rows.flatten (row_below hrow hbo) ⟨w1.heap.size, 0, none⟩ 1 c us (by rw [hlen, Nat.one_mul]) new_cells (cells_one hown) (by simp only [maxLen]; omega) (by
    have : (X.length + 1) * bytes ≤ 1000001 * 4096 := Nat.mul_le_mul (by omega) hbl
    omega) (Nat.le_trans hbase hbo.size)
  unfold Oper.wp execOp
  simp only [ho, resolve, invoke, builtin, Sem.run_bind, Sem.run_pure, Result.andThen_ok, List.map_toArray, List.map_cons, List.map_nil, hs, hx, hrun]
  refine h v' w' (Sack.app (w1 := w1.alloc (.cells us.toArray T)) (Y := [ds]) (us := [us]) hbag hbo rfl (fun j h1 h2 => ?_) (fun rows' hr' => ?_) h3 h4) h3
  · have : j = 0 := by simpa using h1
    subst this
    exact Cells.below hown (below_a1 _ _)
  have e1 : rows'.flatten = rows.flatten := by
    have k1 := row_below hrow hbo
    rcases hr'.2 with ⟨e1, e2⟩ | ⟨g', cap', cur', e1, _, e2, _, _, _, e3⟩
    · exact (List.eq_nil_of_length_eq_zero (l := rows'.flatten) (by rw [hr'.1, e2, Nat.zero_mul])).trans (List.eq_nil_of_length_eq_zero (l := rows.flatten) (by rw [k1.1, e2, Nat.zero_mul])).symm
    · rcases k1.2 with ⟨f1, f2⟩ | ⟨g2, cap2, cur2, f1, _, f2, _, _, _, f3⟩
      · rw [f1] at e1; cases e1
      · rw [f1] at e1; injection e1 with e1; injection e1 with e1; injection e1 with e1
        subst e1
        rw [f2] at e2; injection e2 with e2; injection e2 with e2
        rw [← e3, ← f3, e2]
  rw [e1]; simpa using h2
theorem wpList_sack1 {ops : Array Oper} {rest : List Oper} {o : Oper} {a : Act} {Q : Exit → Act → World → Prop} (hgd : o.guard = none) {t T : TypeId} {e n : Nat} (hI : Inf P t T (sh e).length) (s x : Operand)
    (ho : o.op = .call { callee := .builtin .append, args := #[s, x], argTypes := #[t, t] })
    {w w1 : World} {base : Nat} {v : Value} {X : List (List DC)} {us : List Value} {ds : List DC} {g c : Nat} (hs : a.eval s = v) (hbag : Sack n w base T e v X) (hb : Below w.heap.size w w1) (hbase : base ≤ w.heap.size)
    (hx : a.eval x = .slice (some ⟨g, 0, none⟩) 1 c) (hgx : g = w1.heap.size) (hown : Cells (fun x => v.ownBlock ≠ some x) n w1 (sh e) ds us) (hsm : X.length ≤ 1000000)
    (h : ∀ v' w', Sack n w' base T e v' (X ++ [ds]) → (w1.alloc (.cells us.toArray T)).grownBy w' v.ownBlock → wpList P ops Q rest (a.put o.dst v') w') : wpList P ops Q (o :: rest) a (w1.alloc (.cells us.toArray T)) :=
  wpList_plain hgd fun _ hK => wp_sack1 hI s x ho hs hbag hb hbase hx hgx hown hsm fun v' w' h1 h2 => hK _ _ (h v' w' h1 h2)
/-- one value more in a row of single cells. -/
theorem wp_row1 {o : Oper} {a : Act} {K : Act → World → Prop} {Q : Exit → Act → World → Prop} {t T : TypeId} (hI : Inf P t T 1) (s x : Operand)
    (ho : o.op = .call { callee := .builtin .append, args := #[s, x], argTypes := #[t, t] })
    {w1 : World} {base : Nat} {v u : Value} {xs : List Value} {g c : Nat} (hs : a.eval s = v) (hown : (w1.alloc (.cells #[u] T)).ownsRow base T 1 v xs.length xs) (hbase : base ≤ w1.heap.size)
    (hx : a.eval x = .slice (some ⟨g, 0, none⟩) 1 c) (hgx : g = w1.heap.size) (h1 : u.oneCell' = true) (hsm : xs.length ≤ 1000000)
    (h : ∀ v' w', w'.ownsRow base T 1 v' (xs ++ [u]).length (xs ++ [u]) → (w1.alloc (.cells #[u] T)).grownBy w' v.ownBlock → K (a.put o.dst v') w') : o.wp P a (w1.alloc (.cells #[u] T)) K Q := by
  subst hgx
  obtain ⟨ht, i, z, bytes, hi, hz, hN, hby, hzs, hpos, hbl⟩ := hI.go
  obtain ⟨v', w', hrun, h2, h3, _, _⟩ := run_append_own_at (P := P) (w1.alloc (.cells #[u] T)) base t o.type T i z 1 bytes ht hi hz hN hby hzs hpos v xs.length xs hown ⟨w1.heap.size, 0, none⟩ 1 c [u] rfl (new_cells (us := [u])) (fun y hy => by rw [List.mem_singleton.1 hy]; exact h1) (by simp only [maxLen]; omega) (by
    have : (xs.length + 1) * bytes ≤ 1000001 * 4096 := Nat.mul_le_mul (by omega) hbl
    omega) (by simp; omega)
  unfold Oper.wp execOp
  simp only [ho, resolve, invoke, builtin, Sem.run_bind, Sem.run_pure, Result.andThen_ok, List.map_toArray, List.map_cons, List.map_nil, hs, hx, hrun]
  exact h v' w' (by simpa using h2) h3
theorem wpList_row1 {ops : Array Oper} {rest : List Oper} {o : Oper} {a : Act} {Q : Exit → Act → World → Prop} (hgd : o.guard = none) {t T : TypeId} (hI : Inf P t T 1) (s x : Operand)
    (ho : o.op = .call { callee := .builtin .append, args := #[s, x], argTypes := #[t, t] })
    {w1 : World} {base : Nat} {v u : Value} {xs : List Value} {g c : Nat} (hs : a.eval s = v) (hown : (w1.alloc (.cells #[u] T)).ownsRow base T 1 v xs.length xs) (hbase : base ≤ w1.heap.size)
    (hx : a.eval x = .slice (some ⟨g, 0, none⟩) 1 c) (hgx : g = w1.heap.size) (h1 : u.oneCell' = true) (hsm : xs.length ≤ 1000000)
    (h : ∀ v' w', w'.ownsRow base T 1 v' (xs ++ [u]).length (xs ++ [u]) → (w1.alloc (.cells #[u] T)).grownBy w' v.ownBlock → wpList P ops Q rest (a.put o.dst v') w') : wpList P ops Q (o :: rest) a (w1.alloc (.cells #[u] T)) :=
  wpList_plain hgd fun _ hK => wp_row1 hI s x ho hs hown hbase hx hgx h1 hsm fun v' w' h1 h2 => hK _ _ (h v' w' h1 h2)
end
end Go.Proofs.YtflfnekaiaplfaaGreat.un
namespace Go.Proofs.YtflfnekaiaplfaaGreat.cf
open ad mem own bare un
open Go.ChangeShapes Go.WideShapes Go.ChangeAt Go.RowKit Go.Lib
set_option linter.unusedVariables false
set_option maxRecDepth 8000
set_option linter.unusedSimpArgs false

/-- an address as data. -/
def dS (l : List ByteArray) : List (List DC) := l.map fun s => [.s s]
def dA (d : AddrD) : List DC := [.l (dS d.path), .s d.typ, .s d.nam, .i d.kind, .i d.n, .s d.key]
theorem bStrs_dS (l : List ByteArray) : bStrs (dS l) = l := by
  unfold bStrs dS
  rw [List.map_map]
  exact (List.map_congr_left (fun s _ => rfl)).trans (List.map_id l)
theorem bA_dA (d : AddrD) : bA (dA d) = d := by
  show (⟨bStrs (dS d.path), d.typ, d.nam, d.kind, d.n, d.key⟩ : AddrD) = d
  rw [bStrs_dS]
theorem dA_len (d : AddrD) : (dS d.path).length = d.path.length := by simp [dS]
/-- the sizes of an address. -/
structure Sz (d : AddrD) : Prop where
  typ : d.typ.size ≤ maxLen
  nam : d.nam.size ≤ maxLen
  key : d.key.size ≤ maxLen
  path : ∀ k (h : k < d.path.length), d.path[k].size ≤ maxLen
  kind : R64 d.kind
  n : R64 d.n
theorem row_item {w : World} {base c : Nat} {A : Option Addr} {l : List ByteArray} (h : own.Own w base (.slice A l.length c) l) (hs : ∀ k (h : k < l.length), l[k].size ≤ maxLen) : un.Own 1 w (Rg base w.heap.size) (.l 0) (.l (dS l)) (.slice A l.length c) := by
  have hlen : (dS l).length = l.length := by simp [dS]
  have hl : l.length ≤ maxLen := by
    rcases h.2 with ⟨_, h0⟩ | ⟨g, cap, cur, hv, _, _, h1, h2, _⟩
    · rw [h0]; simp [maxLen]
    · omega
  refine ⟨A, c, by rw [hlen], by rw [hlen]; exact hl, ?_⟩
  rcases h.2 with ⟨hv, h0⟩ | ⟨g, cap, cur, hv, hb, hr, h1, h2, h3, ht⟩
  · left; rw [List.eq_nil_of_length_eq_zero h0]; rfl
  injection hv with hA _ hc
  subst hA hc
  have hgl : g < w.heap.size := (Array.getElem?_eq_some_iff.1 hr).1
  have hblk : Blk w g 9 cur := hr
  refine .inr ⟨g, 0, rfl, ⟨hb, hgl⟩, hgl, blk_there hblk (by rw [hlen]; show 0 + l.length * 1 ≤ _; omega), fun _ _ _ => False, fun _ _ _ h => h.elim, fun _ _ _ _ _ h => h.elim, fun j hj => ?_⟩
  have hj2 : j < l.length := by omega
  refine ⟨[.string l[j]], fun k u hu => ?_, rfl, by simp [dS, sh], fun k k1 k2 k3 => ?_⟩
  · have hk : k = 0 := by simpa using (List.getElem?_eq_some_iff.1 hu).1
    subst hk
    have hc := World.ownsRow.cells h (g := g) rfl j (.string l[j]) (by simp [hj2])
    rw [un.addr_add] at hc
    have : u = .string l[j] := by simpa using hu.symm
    subst this
    simpa [sh] using hc
  · have hk : k = 0 := by simp [sh] at k1; omega
    subst hk
    simp only [sh, dS, List.getElem_map, List.getElem_cons_zero]
    exact un.Own.mkS (hs j hj2)
/-- an address of the call's own. -/
theorem own_addr {w : World} {base c : Nat} {A : Option Addr} {d : AddrD} (h : own.Own w base (.slice A d.path.length c) d.path) (hz : Sz d) :
    Owns 1 w (Rg base w.heap.size) shAddr_ (dA d) [.slice A d.path.length c, .string d.typ, .string d.nam, .int .i64 d.kind, .int .i64 d.n, .string d.key] :=
  Owns.cons (F1 := Rg base w.heap.size) (F2 := fun _ => False) (row_item h hz.path) (Owns.s hz.typ (Owns.s hz.nam (Owns.i hz.kind (Owns.i hz.n (Owns.s hz.key (Owns.nil _ _ _)))))) (fun _ h => h) (fun _ h => h.elim) (fun _ _ h => h)
theorem sz_of {B : Nat → Prop} {n : Nat} {w : World} {ds : List DC} {vs : List Value} (h : Cells B n w shAddr_ ds vs) : Sz (bA ds) := by
  obtain ⟨l0, s1, s2, x3, x4, s5, A0, c0, rfl, rfl, k0, k1, k2, k3, k4, k5⟩ := open_Addr h
  refine ⟨k1, k2, k5, fun k hk => ?_, k3, k4⟩
  obtain ⟨b, o, _, _, _, h4⟩ := strs_of k0 k hk
  exact h4

set_option maxHeartbeats 2000000 in
theorem l02Copy_any (A : Option Addr) (c : Nat) (d : AddrD) (w : World) (h : Strs w A d.path) (hl : d.path.length ≤ 1000000) :
    Calls Tryz.prog 72 #[.agg #[.slice A d.path.length c, .string d.typ, .string d.nam, .int .i64 d.kind, .int .i64 d.n, .string d.key]] w (Made w d) := by
  have H := Lib.hid h
  have HL := Lib.hid hl
  clear h hl
  go_enter Tryz.func72, Tryz.ntmps72
  have E0 := Lib.hid (below_a2 w (.cells #[.slice A d.path.length c, .string d.typ, .string d.nam, .int .i64 d.kind, .int .i64 d.n, .string d.key] 37) (.cells #[.slice none 0 0, .string ⟨#[]⟩, .string ⟨#[]⟩, .int .i64 0, .int .i64 0, .string ⟨#[]⟩] 37))
  have Q0 := Lib.hid ((Blk.new w 37 #[.slice A d.path.length c, .string d.typ, .string d.nam, .int .i64 d.kind, .int .i64 d.n, .string d.key]).alloc (.cells #[.slice none 0 0, .string ⟨#[]⟩, .string ⟨#[]⟩, .int .i64 0, .int .i64 0, .string ⟨#[]⟩] 37))
  have P0 := Lib.hid (Blk.new1 w (.cells #[.slice A d.path.length c, .string d.typ, .string d.nam, .int .i64 d.kind, .int .i64 d.n, .string d.key] 37) 37 #[.slice none 0 0, .string ⟨#[]⟩, .string ⟨#[]⟩, .int .i64 0, .int .i64 0, .string ⟨#[]⟩])
  have hz0 : ((w.alloc (.cells #[.slice A d.path.length c, .string d.typ, .string d.nam, .int .i64 d.kind, .int .i64 d.n, .string d.key] 37)).alloc (.cells #[.slice none 0 0, .string ⟨#[]⟩, .string ⟨#[]⟩, .int .i64 0, .int .i64 0, .string ⟨#[]⟩] 37)).heap.size = w.heap.size + 1 + 1 := by simp
  go_wp2_with (at_builtin; refine wpList_append rfl (.tmp 3) (.tmp 5) rfl (w.heap.size + 1 + 1) (.slice (some ⟨w.heap.size + 1 + 1, 0, none⟩) 0 0) [] rfl (own_new _ _ _ hz0 (Nat.le_refl _)) A c d.path rfl (H.out.below (below_da E0.out (Nat.le_refl _) _)) ?c1 ?c2 ?_)
  case c1 => simp; exact Nat.le_trans HL.out (by omega)
  case c2 => simp
  intro v' w2 ho0 hg
  have ho : own.Own w2 (w.heap.size + 1 + 1) v' d.path := ho0
  obtain ⟨B, cp, rfl⟩ := ho.form
  have hr : ∀ k, (Value.slice (some (⟨w.heap.size + 1 + 1, 0, none⟩ : Addr)) 0 0).ownBlock = some k → w.heap.size + 1 + 1 ≤ k := fun k hk => by
    have e : w.heap.size + 1 + 1 = k := by simpa [Value.ownBlock] using hk
    omega
  have E2 := Lib.hid ((below_da E0.out (Nat.le_refl _) _).grown hg (by simp; omega) (fun k hk => Nat.le_trans (by omega) (hr k hk)))
  have Q2 := Lib.hid (blk_grown (Q0.out.alloc _) hg (fun e => by have := hr _ e; omega))
  have P2 := Lib.hid (blk_grown (P0.out.alloc _) hg (fun e => by have := hr _ e; omega))
  have q2 := Q2.out.cell
  have p2 := P2.out.cell
  have g2 := P2.out.free
  have f2 := Q2.out.free
  have O2 := Lib.hid ho
  clear ho ho0 hg hr hz0
  go_wp2
  refine bodyPost_ret (v := .agg #[.slice B d.path.length cp, .string d.typ, .string d.nam, .int .i64 d.kind, .int .i64 d.n, .string d.key]) (by simp [results, Tryz.results72, go_sem, p2, g2, q2, f2]; try rfl) rfl ⟨B, cp, rfl, ?_, ?_⟩
  · refine Own.mono (base := w.heap.size + 1 + 1) ?_ (by omega)
    iterate 7 refine Own.far ?_ (by simp <;> omega) _
    exact O2.out
  · repeat (refine Below.setCell ?_ (by simp <;> omega) _)
    exact E2.out
/-- a copy, as data of any shape. -/
def MadeU (w : World) (d : AddrD) (e : Ending) (w' : World) : Prop := ∃ A c, e = .returned (.agg #[.slice A d.path.length c, .string d.typ, .string d.nam, .int .i64 d.kind, .int .i64 d.n, .string d.key]) ∧ own.Own w' w.heap.size (.slice A d.path.length c) d.path ∧ Below w.heap.size w w'
theorem copy_spec {B : Nat → Prop} {n : Nat} {w : World} {ds : List DC} {vs : List Value} {D : AddrD} (hD : bA ds = D) (h : Cells B n w shAddr_ ds vs) (hl : D.path.length ≤ 1000000) :
    Calls Tryz.prog 72 #[.agg vs.toArray] w (Made w D) := by
  subst hD
  obtain ⟨A, c, rfl, h1, h2, h3, h4, h5⟩ := addr_in h
  exact l02Copy_any A c _ w h1 hl
theorem copy_prog {B : Nat → Prop} {n : Nat} {w : World} {ds : List DC} {vs : List Value} {D : AddrD} (hD : bA ds = D) (h : Cells B n w shAddr_ ds vs) (hl : D.path.length ≤ 1000000) (h1 : D.typ.size ≤ 1000000) (h2 : D.nam.size ≤ 1000000) (h3 : D.key.size ≤ 1000000) (h4 : ∀ k (h : k < D.path.length), D.path[k].size ≤ 1000000) :
    Calls Tryz.prog 93 #[.agg vs.toArray] w (Made w D) := by
  subst hD
  obtain ⟨A, c, rfl, k1, _⟩ := addr_in h
  exact copy_impl A c _ w k1 hl (by omega) (by omega) (by omega) (fun k hk => by have := h4 k hk; omega)
/-- what a right address holds. -/
structure Small (d : AddrD) : Prop where
  len : d.path.length ≤ 2
  typ : d.typ.size ≤ 8
  nam : d.nam.size ≤ 8
  key : d.key.size ≤ 8
  path : ∀ k (h : k < d.path.length), d.path[k].size ≤ 8
theorem small_of {d : AddrD} (hr : addrB d = true) : Small d := by
  obtain ⟨hp, h1, h2, h3⟩ := txt.addr_parts hr
  obtain ⟨hp1, hp2⟩ := txt.path_words hp
  have z1 := txt.word_size h1
  have z2 := txt.word_size h2
  have h3' := h3
  simp only [keyB, Bool.or_eq_true, Bool.and_eq_true, beq_iff_eq, decide_eq_true_eq] at h3'
  have z3 : d.key.size ≤ 8 := by
    rcases h3' with (⟨⟨k0, k1⟩, k2⟩ | ⟨⟨⟨k0, k1⟩, k2⟩, k3⟩) | ⟨⟨k0, k1⟩, k2⟩
    · omega
    · omega
    · exact txt.word_size k2
  exact ⟨by simpa using hp1, z1, z2, z3, fun k hk => txt.word_size (hp2 d.path[k] (List.getElem_mem hk))⟩
theorem info_addr : (Tryz.prog.info? 37).map (fun i => (i.zero, i.size, i.bytes)) = some (some (.agg #[.slice none 0 0, .string ByteArray.empty, .string ByteArray.empty, .int .i64 0, .int .i64 0, .string ByteArray.empty]), 6, 88) := by kernel_rfl
theorem inf_addr : Inf Tryz.prog 39 37 (sh 2).length := by
  obtain ⟨i0, hi, hz0, hz1, hz2⟩ := info_parts info_addr
  exact ⟨Tryz.underlying39, i0, _, 88, hi, hz0, hz1, hz2, rfl, by decide, by omega⟩
/-- what a copy is made into, where the item's row lies ahead of it. -/
theorem made_cells {w2 w1 : World} {base c : Nat} {A : Option Addr} {d : AddrD} {v : Value} {K : ByteArray} {k i : Int} (ho : own.Own w2 base (.slice A d.path.length c) d.path) (hz : Sz ⟨d.path, d.typ, d.nam, k, i, K⟩) (hb : Below w2.heap.size w2 w1) (hv : ∀ q, v.ownBlock = some q → q < base) :
    Cells (fun x => v.ownBlock ≠ some x) 1 w1 shAddr_ (dA ⟨d.path, d.typ, d.nam, k, i, K⟩) [.slice A d.path.length c, .string d.typ, .string d.nam, .int .i64 k, .int .i64 i, .string K] := by
  have h1 : un.Own 1 w1 (Rg base w2.heap.size) (.l 0) (.l (dS d.path)) (.slice A d.path.length c) := (row_item ho hz.path).below hb
  exact ⟨h1.cell.mono fun x hx _ => (fun e => by have := hv _ e; have := hx.1; omega), Cell.mkS hz.typ, Cell.mkS hz.nam, Cell.mkI hz.kind, Cell.mkI hz.n, Cell.mkS hz.key, trivial⟩
theorem made_owns {w2 w1 : World} {base c : Nat} {A : Option Addr} {d : AddrD} {K : ByteArray} {k i : Int} (ho : own.Own w2 base (.slice A d.path.length c) d.path) (hz : Sz ⟨d.path, d.typ, d.nam, k, i, K⟩) (hb : Below w2.heap.size w2 w1) :
    Owns 1 w1 (Rg base w2.heap.size) shAddr_ (dA ⟨d.path, d.typ, d.nam, k, i, K⟩) [.slice A d.path.length c, .string d.typ, .string d.nam, .int .i64 k, .int .i64 i, .string K] :=
  (own_addr (d := ⟨d.path, d.typ, d.nam, k, i, K⟩) ho hz).below hb
/-- the keys of a block's instances: kind, number, word. -/
def keyL (count : Int) (each : List ByteArray) : List (Int × Int × ByteArray) :=
  (List.range count.toNat).map (fun q : Nat => (1, (q : Int), ByteArray.empty)) ++ each.map (fun s => (2, 0, s)) ++ (if count < 0 ∧ each = [] then [(0, 0, ByteArray.empty)] else [])
def withK (d : AddrD) (k : Int × Int × ByteArray) : AddrD := ⟨d.path, d.typ, d.nam, k.1, k.2.1, k.2.2⟩
def keyX (d : AddrD) (l : List (Int × Int × ByteArray)) : List (List DC) := l.map fun k => dA (withK d k)
noncomputable def keysX (D : BlockD) : List (List DC) := if blockB D then keyX D.addr (keyL D.count D.each) else []
def kNum (n : Nat) : List (Int × Int × ByteArray) := (List.range n).map (fun q : Nat => (1, (q : Int), ByteArray.empty))
def kWord (l : List ByteArray) : List (Int × Int × ByteArray) := l.map (fun s => (2, 0, s))
theorem kNum_succ (n : Nat) : kNum (n + 1) = kNum n ++ [(1, (n : Int), ByteArray.empty)] := by simp [kNum, List.range_succ]
theorem kWord_succ (l : List ByteArray) (k : Nat) (h : k < l.length) : kWord (l.take (k + 1)) = kWord (l.take k) ++ [(2, 0, l[k])] := by
  rw [List.take_succ_eq_append_getElem h]; unfold kWord; rw [List.map_append]; rfl
theorem keyX_app (d : AddrD) (l m : List (Int × Int × ByteArray)) : keyX d (l ++ m) = keyX d l ++ keyX d m := by simp [keyX]
theorem keyX_len (d : AddrD) (l : List (Int × Int × ByteArray)) : (keyX d l).length = l.length := by simp [keyX]
theorem keyL_eq (count : Int) (each : List ByteArray) : keyL count each = kNum count.toNat ++ kWord each ++ (if count < 0 ∧ each = [] then [(0, 0, ByteArray.empty)] else []) := rfl
theorem own_base {w : World} {base base' N n : Nat} {T : TypeId} {v : Value} {xs : List Value} (h : w.ownsRow base T N v n xs) (hb : base' ≤ base) : w.ownsRow base' T N v n xs := by
  obtain ⟨h1, h2 | ⟨r, cap, cur, hv, hbr, h3⟩⟩ := h
  · exact ⟨h1, .inl h2⟩
  · exact ⟨h1, .inr ⟨r, cap, cur, hv, by omega, h3⟩⟩
theorem nL_dS (l : List ByteArray) : nL (dS l) = l.length := by
  induction l with
  | nil => rfl
  | cons s l ih =>
    show nCs [.s s] + nL (dS l) = l.length + 1
    rw [ih]
    show 1 + 0 + l.length = _
    omega
theorem nCs_dA (d : AddrD) : nCs (dA d) = d.path.length + 5 := by
  show nL (dS d.path) + (1 + (1 + (1 + (1 + (1 + 0))))) = _
  rw [nL_dS]
theorem nL_addrs {l : List AddrD} (h : ∀ d ∈ l, d.path.length ≤ 2) : nL (l.map dA) ≤ 7 * l.length := by
  induction l with
  | nil => simp [nL]
  | cons d l ih =>
    have h1 := ih (fun x hx => h x (List.mem_cons_of_mem _ hx))
    have h2 := h d (by simp)
    show nCs (dA d) + nL (l.map dA) ≤ 7 * (l.length + 1)
    rw [nCs_dA]; omega
end Go.Proofs.YtflfnekaiaplfaaGreat.cf
