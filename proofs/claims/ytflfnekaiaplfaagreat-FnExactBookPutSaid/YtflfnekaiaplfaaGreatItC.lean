/- Two parts of a book behind one another; a list of things that is being made while an iterator runs (Bag). -/
import Derived.Test.YtflfnekaiaplfaaGreatBaI
import Derived.Test.YtflfnekaiaplfaaGreatCpS
namespace Go.Proofs.YtflfnekaiaplfaaGreat.cf
open ad mem vl ex un cm Go.Shelf
open Go.ChangeShapes Go.WideShapes Go.ChangeAt Go.RowKit Go.Lib
set_option linter.unusedVariables false
theorem two_parts {B : Nat → Prop} {n : Nat} {wT : World} {G : List DC → Prop} {g c1 c2 : Nat} {A1 A2 : Option Addr} {T : TypeId} (l1 l2 : List (it.Th B n wT G)) (hm1 : l1.length ≤ maxLen) (hm2 : l2.length ≤ maxLen)
    (h1 : ∀ k (hk : k < l1.length), ∃ b o, A1 = some ⟨b, o, none⟩ ∧ b < wT.heap.size ∧ wT.rangeAt b (o + k * 8) l1[k].1.2)
    (h2 : ∀ k (hk : k < l2.length), ∃ b o, A2 = some ⟨b, o, none⟩ ∧ b < wT.heap.size ∧ wT.rangeAt b (o + k * 8) l2[k].1.2) :
    it.Parts g (.cells #[.slice A1 l1.length c1, .slice A2 l2.length c2] T (0, 0)) [l1, l2] := ⟨by simp [maxLen], fun i h => by
  have h' : i < 2 := by simpa using h
  rcases (show i = 0 ∨ i = 1 by omega) with rfl | rfl
  · exact ⟨A1, c1, fun W hW => by simp [World.cell?, hW], hm1, h1⟩
  · exact ⟨A2, c2, fun W hW => by simp [World.cell?, hW], hm2, h2⟩⟩
theorem part_take {B : Nat → Prop} {n : Nat} {wT : World} {G : List DC → Prop} {A : Option Addr} (l : List (it.Th B n wT G)) (j : Nat)
    (h : ∀ k (hk : k < l.length), ∃ b o, A = some ⟨b, o, none⟩ ∧ b < wT.heap.size ∧ wT.rangeAt b (o + k * 8) l[k].1.2) :
    ∀ k (hk : k < (l.take j).length), ∃ b o, A = some ⟨b, o, none⟩ ∧ b < wT.heap.size ∧ wT.rangeAt b (o + k * 8) (l.take j)[k].1.2 := fun k hk => by
  rw [List.getElem_take]
  exact h k (by simp at hk; omega)
theorem part_drop {B : Nat → Prop} {n b o : Nat} {wT : World} {G : List DC → Prop} (l : List (it.Th B n wT G)) (j : Nat)
    (h : ∀ k (hk : k < l.length), ∃ b' o', (some (⟨b, o, none⟩ : Addr)) = some ⟨b', o', none⟩ ∧ b' < wT.heap.size ∧ wT.rangeAt b' (o' + k * 8) l[k].1.2) :
    ∀ k (hk : k < (l.drop j).length), ∃ b' o', (some (⟨b, o + j * 8, none⟩ : Addr)) = some ⟨b', o', none⟩ ∧ b' < wT.heap.size ∧ wT.rangeAt b' (o' + k * 8) (l.drop j)[k].1.2 := fun k hk => by
  obtain ⟨b', o', e, hb, hr⟩ := h (j + k) (by simp at hk; omega)
  injection e with e; injection e with e1 e2; subst e1 e2
  refine ⟨b, o + j * 8, rfl, hb, ?_⟩
  rw [List.getElem_drop, show o + j * 8 + k * 8 = o + (j + k) * 8 by omega]
  exact hr
/-- a row under construction stays behind the turn of a block that is no cells. -/
theorem _root_.Go.Proofs.YtflfnekaiaplfaaGreat.un.Bag.turn {n : Nat} {w w' : World} {base : Nat} {T : TypeId} {e : Nat} {v : Value} {X : List (List DC)} {row : Option Nat} (h : Bag n w base T e v X) (hg : w.grownBy w' row) (hr : ∀ r, row = some r → ∃ ob : Obj, w.heap[r]? = some ob ∧ ob.isCells = false) : Bag n w' base T e v X := by
  obtain ⟨rows, ho, hl, G, hG, hD, hh⟩ := h.go
  refine ⟨rows, ho.kept hg ?_, hl, G, fun j x hx => ⟨(hG j x hx).1, Nat.lt_of_lt_of_le (hG j x hx).2.1 hg.size, (hG j x hx).2.2⟩, hD, fun j h1 h2 => owns_turn (hh j h1 h2) hg hr⟩
  rcases ho.2 with ⟨rfl, _⟩ | ⟨g, cap, cur, rfl, _, hgb, _⟩
  · exact .inl rfl
  · refine .inr fun e' => ?_
    obtain ⟨o, hob, hc⟩ := hr g (by simpa [Value.ownBlock] using e'.symm)
    rw [hgb] at hob; cases hob; cases hc
theorem boxed_turn {w w' : World} {b : Nat} {t : TypeId} {v : Value} {row : Option Nat} (h : Boxed w b t v) (hg : w.grownBy w' row) (hr : ∀ r, row = some r → ∃ ob : Obj, w.heap[r]? = some ob ∧ ob.isCells = false) : Boxed w' b t v :=
  h.kept hg (fun e' => by
    obtain ⟨o, hob, hc⟩ := hr b e'.symm
    rw [show w.heap[b]? = _ from h] at hob; cases hob; cases hc)
/-- what a round keeps where a list of things is made: the list in a box, the items with memory of their own, and all below. -/
theorem own_bag {α : Type} {n : Nat} {w1 : World} {t T : TypeId} {e : Nat} (f : α → List DC) (N L0 C : Nat) (hle : w1.heap.size ≤ C) :
    OwnFrom C (fun (pre : List α) W => ((∃ v, Boxed W L0 t v ∧ Bag n W N T e v (pre.map f)) ∧ Below w1.heap.size w1 W) ∧ N ≤ W.heap.size) := by
  refine OwnFrom.and (OwnFrom.and ?_ ?_) (fun s X Y row hs hg hr => Nat.le_trans hs hg.size)
  · rintro s X Y row ⟨v, hv, hb⟩ hg hr
    exact ⟨v, boxed_turn hv hg (fun r e => (hr r e).2), hb.turn hg (fun r e => (hr r e).2)⟩
  · exact ownFrom_below (Nat.le_refl _) hle
theorem row_above {w w' : World} {base N n : Nat} {T : TypeId} {v : Value} {xs : List Value} (h : w.ownsRow base T N v n xs) (ha : ∀ b, base ≤ b → b < w.heap.size → w'.heap[b]? = w.heap[b]?) : w'.ownsRow base T N v n xs := by
  obtain ⟨h1, h2 | ⟨r, cap, cur, hv, hbr, hr, h3⟩⟩ := h
  · exact ⟨h1, .inl h2⟩
  · exact ⟨h1, .inr ⟨r, cap, cur, hv, hbr, by rw [ha r hbr (Array.getElem?_eq_some_iff.1 hr).1]; exact hr, h3⟩⟩
/-- a row under construction stays where all from its base on stays. -/
theorem _root_.Go.Proofs.YtflfnekaiaplfaaGreat.un.Bag.above {n : Nat} {w w' : World} {base : Nat} {T : TypeId} {e : Nat} {v : Value} {X : List (List DC)} (h : Bag n w base T e v X) (hs : w.heap.size ≤ w'.heap.size) (ha : ∀ b, base ≤ b → b < w.heap.size → w'.heap[b]? = w.heap[b]?) : Bag n w' base T e v X := by
  obtain ⟨rows, ho, hl, G, hG, hD, hh⟩ := h.go
  exact ⟨rows, row_above ho ha, hl, G, fun j x hx => ⟨(hG j x hx).1, Nat.lt_of_lt_of_le (hG j x hx).2.1 hs, (hG j x hx).2.2⟩, hD, fun j h1 h2 => owns_keep (hh j h1 h2) hs (fun b hb hlt _ => ha b (hG j b hb).1 hlt)⟩
/-- 'append(s, x)' of one struct: its run. -/
theorem bag1_run {P : Program} {t T ty : TypeId} {e n : Nat} (hI : Inf P t T (sh e).length)
    {w w1 : World} {base : Nat} {v : Value} {X : List (List DC)} {us : List Value} {ds : List DC} {F2 : Nat → Prop} {c : Nat} (hbag : Bag n w base T e v X) (hb : Below w.heap.size w w1) (hbase : base ≤ w.heap.size)
    (hown : Owns n w1 F2 (sh e) ds us) (hF : ∀ x, F2 x → w.heap.size ≤ x ∧ x < w1.heap.size) (hsm : X.length ≤ 1000000) :
    ∃ v' w', (Builtin.append_ #[t, t] ty #[v, .slice (some ⟨w1.heap.size, 0, none⟩) 1 c]).run P (w1.alloc (.cells us.toArray T)) = .ok v' w' ∧ Bag n w' base T e v' (X ++ [ds]) ∧ (w1.alloc (.cells us.toArray T)).grownBy w' v.ownBlock ∧ (v'.ownBlock = v.ownBlock ∨ v'.ownBlock = some (w1.alloc (.cells us.toArray T)).heap.size) := by
  obtain ⟨ht, i, z, bytes, hi, hz, hN, hby, hzs, hpos, hbl⟩ := hI.go
  have hbo : Below w.heap.size w (w1.alloc (.cells us.toArray T)) := below_da hb (Nat.le_refl _) _
  obtain ⟨rows, hrow, hl, _⟩ := hbag.go
  have hlen : us.length = (sh e).length := hown.2.1
  obtain ⟨v', w', hrun, h2, h3, _, h4⟩ := run_append_own_at (P := P) (w1.alloc (.cells us.toArray T)) base t ty T i z (sh e).length bytes ht hi hz hN hby hzs hpos v X.length rows.flatten (row_below hrow hbo) ⟨w1.heap.size, 0, none⟩ 1 c us (by rw [hlen, Nat.one_mul]) new_cells (cells_one hown.cells) (by simp only [maxLen]; omega) (by
    have : (X.length + 1) * bytes ≤ 1000001 * 4096 := Nat.mul_le_mul (by omega) hbl
    omega) (Nat.le_trans hbase hbo.size)
  refine ⟨v', w', hrun, Bag.snoc (w1 := w1.alloc (.cells us.toArray T)) hbag hbo hbase (hown.below (below_a1 _ _)) (fun x hx => ⟨(hF x hx).1, by have := (hF x hx).2; simp; omega⟩) (fun rows' hr' => ?_) h3 h4, h3, h4⟩
  have e1 : rows'.flatten = rows.flatten := by
    have k1 := row_below hrow hbo
    rcases hr'.2 with ⟨e1, e2⟩ | ⟨g', cap', cur', e1, _, e2, _, _, _, e3⟩
    · exact (List.eq_nil_of_length_eq_zero (l := rows'.flatten) (by rw [hr'.1, e2, Nat.zero_mul])).trans (List.eq_nil_of_length_eq_zero (l := rows.flatten) (by rw [k1.1, e2, Nat.zero_mul])).symm
    · rcases k1.2 with ⟨f1, f2⟩ | ⟨g2, cap2, cur2, f1, _, f2, _, _, _, f3⟩
      · rw [f1] at e1; cases e1
      · rw [f1] at e1; injection e1 with e1; injection e1 with e1; injection e1 with e1
        subst e1
        rw [f2] at e2; injection e2 with e2; injection e2 with e2
        rw [← e3, ← f3, e2]
  rw [e1]; exact h2
/-- the step of a drawn region inside a fence. -/
theorem stepIn_bag1 {F : Fence} {m : Nat} {P : Program} {ops : Array Oper} {o : Oper} {a : Act} {K : Act → World → Prop} {Q : Exit → Act → World → Prop} {E : Prop} (hgd : o.guard = none) {t T : TypeId} {e n : Nat} (hI : Inf P t T (sh e).length) (s x : Operand)
    (ho : o.op = .call { callee := .builtin .append, args := #[s, x], argTypes := #[t, t] })
    {w w1 : World} {base : Nat} {v : Value} {X : List (List DC)} {us : List Value} {ds : List DC} {F2 : Nat → Prop} {c : Nat} (hs : a.eval s = v) (hbag : Bag n w base T e v X) (hb : Below w.heap.size w w1) (hbase : base ≤ w.heap.size)
    (hx : a.eval x = .slice (some ⟨w1.heap.size, 0, none⟩) 1 c) (hown : Owns n w1 F2 (sh e) ds us) (hF : ∀ x, F2 x → w.heap.size ≤ x ∧ x < w1.heap.size) (hsm : X.length ≤ 1000000)
    (h : ∀ v' w', Bag n w' base T e v' (X ++ [ds]) → (w1.alloc (.cells us.toArray T)).grownBy w' v.ownBlock → K (a.put o.dst v') w') :
    if Region.wanted o (yielded ops a.tmps) = true then Oper.wpIn F m P o a (w1.alloc (.cells us.toArray T)) K Q else E := by
  have hw : Region.wanted o (yielded ops a.tmps) = true := by simp [Region.wanted, hgd]
  rw [if_pos hw]
  obtain ⟨v', w', hr, h2, h3, h4⟩ := bag1_run (ty := o.type) (c := c) hI hbag hb hbase hown hF hsm
  unfold Oper.wpIn
  refine ⟨by simp [Oper.about, ho, resolve, Target.leads, Sem.run_pure], ?_⟩
  rw [Oper.semAt_plain F _ _ (by rw [ho]; intro c hc'; cases hc')]
  simp [execOp, ho, resolve, invoke, builtin, hs, hx, hr, Result.andThen]
  exact h v' w' h2 h3
theorem bag_boxed {n : Nat} {w : World} {base b : Nat} {t T : TypeId} {e : Nat} {v u : Value} {X : List (List DC)} (h : Bag n w base T e v X) (hu : Boxed w b t u) (hb : b < base) : v.ownBlock ≠ some b := fun e' => by
  have := (h.row b e').1
  omega
/-- 'l = append(l, ..)' of a struct in a round, behind a call: what the round owes. -/
theorem collectB {W w5 w6 : World} {N L0 C g n e : Nat} {t T : TypeId} {v v' : Value} {X X' : List (List DC)} {o : Obj} (hv : Boxed w5 L0 t v) (bb5 : Below W.heap.size W w5) (hbag : Bag n w5 C T e v X)
    (hN : N ≤ L0) (hL : L0 < C) (hgC : g < C) (hgL : g ≠ L0) (hC : C ≤ W.heap.size) (hown6 : Bag n w6 C T e v' X') (hg6 : (w5.alloc o).grownBy w6 v.ownBlock) (b : Nat) :
    KeepsFrom b W (w6.setCell ⟨L0, 0, none⟩ v') ∧ it.Kp N g W (w6.setCell ⟨L0, 0, none⟩ v') ∧ Boxed (w6.setCell ⟨L0, 0, none⟩ v') L0 t v' ∧ Bag n (w6.setCell ⟨L0, 0, none⟩ v') C T e v' X' ∧ W.heap.size ≤ (w6.setCell ⟨L0, 0, none⟩ v').heap.size := by
  have hbag1 := hbag.alloc o
  have hv6 : Boxed w6 L0 t v := (hv.alloc o).kept hg6 (fun e' => bag_boxed hbag1 (hv.alloc o) hL e'.symm)
  have hcell : ∀ j (p : Obj), v.ownBlock = some j → (w5.alloc o).heap[j]? = some p → p.isCells = true := fun j p ej hj => by
    obtain ⟨rows, hrow, _⟩ := hbag1.go
    rcases hrow.2 with ⟨rfl, _⟩ | ⟨g', cap, cur, rfl, _, hgb, _⟩
    · simp [Value.ownBlock] at ej
    · obtain rfl : g' = j := by simpa [Value.ownBlock] using ej
      rw [hgb] at hj; cases hj; rfl
  have hrw : ∀ j, v.ownBlock = some j → C ≤ j := fun j hj => (hbag1.row j hj).1
  have s5 := bb5.size
  have s6 := hg6.size
  have sS : (w6.setCell ⟨L0, 0, none⟩ v').heap.size = w6.heap.size := by simp [World.setCell]
  simp only [World.size_alloc] at s6
  refine ⟨(((it.keeps_of bb5).trans ((KeepsOthers.alloc w5 o).from b)).trans ((KeepsOthers.of_grownBy hg6 hcell).from b)).trans ((KeepsOthers.setCell _ _ _).from b), ⟨?_, ?_⟩, hv6.set v', hown6.above (by omega) (fun k hk _ => Below.heap_setCell _ _ _ k (by show k ≠ L0; omega)), by omega⟩
  · refine Below.setCell (p := ⟨L0, 0, none⟩) ?_ hN v'
    exact ((bb5.mono (by omega)).alloc (by omega) o).grown hg6 (by simp; omega) (fun j hj => by have := hrw j hj; omega)
  · have h1 : (w6.setCell ⟨L0, 0, none⟩ v').heap[g]? = w6.heap[g]? := Below.heap_setCell _ _ _ g hgL
    have h2 : w6.heap[g]? = (w5.alloc o).heap[g]? := hg6.block g (by simp; omega) (fun e => by have := hrw g e.symm; omega)
    have h3 : (w5.alloc o).heap[g]? = w5.heap[g]? := (below_a1 w5 o).block g (by omega)
    exact h1.trans (h2.trans (h3.trans (bb5.block g (by omega))))
end Go.Proofs.YtflfnekaiaplfaaGreat.cf
