/- Rows of texts of the call's own: appended to, marked, asked. -/
import Derived.Test.YtflfnekaiaplfaaGreatAdL
import Derived.Test.YtflfnekaiaplfaaGreatDigN
import Derived.OwnWalk
import Derived.Laws.AppendOwn
import Derived.Laws.OwnMore
import Derived.RegionTactic
import Derived.Deep.RegionHeld3
namespace Go.Proofs.YtflfnekaiaplfaaGreat.own
open ad mem dig
open Go.ChangeShapes Go.WideShapes Go.ChangeAt Go.RowKit Go.Lib
set_option linter.unusedVariables false
set_option maxRecDepth 8000
set_option linter.unusedSimpArgs false

/-- a slice that is a row of the call's own, of just these texts. -/
def Own (w : World) (base : Nat) (v : Value) (l : List ByteArray) : Prop := w.ownsRow base 9 1 v l.length (l.map Value.string)
theorem Own.nil (w : World) (base : Nat) : Own w base (.slice none 0 0) [] := World.ownsRow_nil _ _ _ _
theorem Own.form {w : World} {base : Nat} {v : Value} {l : List ByteArray} (h : Own w base v l) : ∃ A c, v = .slice A l.length c := by
  rcases h.2 with ⟨rfl, h0⟩ | ⟨g, cap, cur, rfl, _⟩
  · exact ⟨none, 0, by rw [h0]⟩
  · exact ⟨_, cap, rfl⟩
theorem Own.step {w w' : World} {base : Nat} {v : Value} {l : List ByteArray} (h : Own w base v l) (hb : Below w.heap.size w w') : Own w' base v l := by
  obtain ⟨h1, h2 | ⟨r, cap, cur, hv, hbr, hr, h3⟩⟩ := h
  · exact ⟨h1, .inl h2⟩
  · exact ⟨h1, .inr ⟨r, cap, cur, hv, hbr, by rw [hb.block r (Array.getElem?_eq_some_iff.1 hr).1]; exact hr, h3⟩⟩
theorem Own.alloc {w : World} {base : Nat} {v : Value} {l : List ByteArray} (h : Own w base v l) (o : Obj) : Own (w.alloc o) base v l := h.step (below_a1 w o)
theorem Own.far {w : World} {base : Nat} {v : Value} {l : List ByteArray} (h : Own w base v l) {p : Addr} (hp : p.block < base) (u : Value) : Own (w.setCell p u) base v l := by
  obtain ⟨h1, h2 | ⟨r, cap, cur, hv, hbr, hr, h3⟩⟩ := h
  · exact ⟨h1, .inl h2⟩
  · exact ⟨h1, .inr ⟨r, cap, cur, hv, hbr, by rw [Below.heap_setCell w p u r (by omega)]; exact hr, h3⟩⟩
theorem Own.drew {w : World} {base : Nat} {v : Value} {l : List ByteArray} (h : Own w base v l) : Own w.drew base v l := h
theorem Own.mono {w : World} {base base' : Nat} {v : Value} {l : List ByteArray} (h : Own w base v l) (hb : base' ≤ base) : Own w base' v l := by
  obtain ⟨h1, h2 | ⟨r, cap, cur, hv, hbr, h3⟩⟩ := h
  · exact ⟨h1, .inl h2⟩
  · exact ⟨h1, .inr ⟨r, cap, cur, hv, by omega, h3⟩⟩
theorem Own.row {w : World} {base : Nat} {v : Value} {l : List ByteArray} (h : Own w base v l) : ∀ k, v.ownBlock = some k → base ≤ k ∧ k < w.heap.size := fun k hk => World.ownsRow.lt h k hk
theorem Own.kept {w w' : World} {base : Nat} {v : Value} {l : List ByteArray} {row : Option Nat} (h : Own w base v l) (hg : w.grownBy w' row) (hne : ∀ k, v.ownBlock = some k → row ≠ some k) : Own w' base v l := by
  refine World.ownsRow.kept h hg ?_
  cases hv : v.ownBlock with
  | none => exact .inl rfl
  | some k => exact .inr (fun e => hne k hv e.symm)
theorem Own.strs {w : World} {base c : Nat} {A : Option Addr} {l : List ByteArray} (h : Own w base (.slice A l.length c) l) (hs : ∀ k (h : k < l.length), l[k].size ≤ maxLen) : Strs w A l := fun k hk => by
  rcases h.2 with ⟨h1, h0⟩ | ⟨g, cap, cur, hv, hb, hr, _, _, _, ht⟩
  · omega
  · have hA : A = some ⟨g, 0, none⟩ := by injection hv
    subst hA
    have hc := World.ownsRow.cells h (g := g) rfl k (.string l[k]) (by simp [hk])
    have e : (⟨g, 0, none⟩ : Addr).add k = ⟨g, k, none⟩ := by unfold Addr.add; split <;> simp_all
    rw [e] at hc
    exact ⟨g, 0, rfl, (Array.getElem?_eq_some_iff.1 hr).1, by simpa using hc, hs k hk⟩
theorem row_own {w : World} {g base : Nat} {l : List ByteArray} (h : Row w g l) (hb : base ≤ g) (hl : l.length ≤ maxLen) : Own w base (.slice (some ⟨g, 0, none⟩) l.length l.length) l :=
  ⟨by simp, .inr ⟨g, l.length, _, rfl, hb, h, Nat.le_refl _, hl, by simp, by simp [List.take_of_length_le]⟩⟩
theorem strs_grown {w w' : World} {A : Option Addr} {l : List ByteArray} {row : Option Nat} (h : Strs w A l) (hg : w.grownBy w' row) (hne : ∀ b o, A = some ⟨b, o, none⟩ → row ≠ some b) : Strs w' A l := fun k hk => by
  obtain ⟨b, o, e, h1, h2, h3⟩ := h k hk
  exact ⟨b, o, e, Nat.lt_of_lt_of_le h1 hg.size, by rw [World.cell?_of_block (hg.block b h1 (fun e2 => hne b o e e2.symm))]; exact h2, h3⟩
theorem blk_grown {w w' : World} {row : Option Nat} {g : Nat} {T : TypeId} {cs : Array Value} (h : Blk w g T cs) (hg : w.grownBy w' row) (hr : row ≠ some g) : Blk w' g T cs := by
  unfold Blk; rw [hg.block g h.lt (fun e => hr e.symm)]; exact h
theorem row_grown {w w' : World} {row : Option Nat} {g : Nat} {l : List ByteArray} (h : Row w g l) (hg : w.grownBy w' row) (hr : row ≠ some g) : Row w' g l := by
  unfold Row; rw [hg.block g h.lt (fun e => hr e.symm)]; exact h

theorem run_append_none (w : World) (base : Nat) (v : Value) (l : List ByteArray) (ty : TypeId) (hown : Own w base v l) (c : Nat) :
    (Builtin.append_ #[23, 23] ty #[v, .slice none 0 c]).run Tryz.prog w = .ok v w := by
  obtain ⟨i, hi, _, _, _⟩ := info_parts info_str
  have ht := Tryz.underlying23
  rcases hown.2 with ⟨rfl, h0⟩ | ⟨g, cap, cur, rfl, _, _, hnc, _⟩
  · simp [Builtin.append_, run_underlying ht, sizeOf, typeInfo, hi, Builtin.lenOf, Builtin.firstCells]
  · simp [Builtin.append_, run_underlying ht, sizeOf, typeInfo, hi, Builtin.lenOf, Builtin.firstCells, hnc, storeCells]

theorem wp_append {w : World} {o : Oper} {a : Act} {K : Act → World → Prop} {Q : Exit → Act → World → Prop} (s x : Operand)
    (ho : o.op = .call { callee := .builtin .append, args := #[s, x], argTypes := #[23, 23] })
    (base : Nat) (v : Value) (l : List ByteArray) (hs : a.eval s = v) (hown : Own w base v l) (A : Option Addr) (c : Nat) (m : List ByteArray) (hx : a.eval x = .slice A m.length c) (hm : Strs w A m)
    (h63 : l.length + m.length ≤ 2000000) (hbase : base ≤ w.heap.size)
    (h : ∀ v' w', Own w' base v' (l ++ m) → w.grownBy w' v.ownBlock → K (a.put o.dst v') w') : o.wp Tryz.prog a w K Q := by
  obtain ⟨i, hi, hz0, hz1, hz2⟩ := info_parts info_str
  cases A with
  | none =>
    have hm0 : m = [] := by
      cases m with
      | nil => rfl
      | cons y ys => obtain ⟨b, o, e, _⟩ := hm 0 (by simp); cases e
    subst hm0
    have hrun := run_append_none w base v l o.type hown c
    unfold Oper.wp execOp
    simp only [ho, resolve, invoke, builtin, Sem.run_bind, Sem.run_pure, Result.andThen_ok, List.map_toArray, List.map_cons, List.map_nil, hs, hx, List.length_nil, hrun]
    exact h v w (by simpa using hown) (World.grownBy.refl w _)
  | some ad =>
    refine wp_append_own w s x 23 ho base 9 i (.string ByteArray.empty) 1 16 Tryz.underlying23 hi hz0 hz1 hz2 rfl (by decide) v l.length (l.map Value.string) hs hown ad m.length c (m.map Value.string) hx (by simp) (fun j u hj => ?_) (fun u hu => ?_) (by unfold maxLen; omega) (by omega) hbase (fun v' w' h1 h2 _ => h v' w' (by unfold Own; rw [List.length_append, List.map_append]; exact h1) h2)
    · have hj' : j < m.length := by
        have := (List.getElem?_eq_some_iff.1 hj).1; simpa using this
      obtain ⟨b, o, e, _, hc, _⟩ := hm j hj'
      injection e with e
      subst e
      have e2 : (⟨b, o, none⟩ : Addr).add j = ⟨b, o + j, none⟩ := by unfold Addr.add; split <;> simp_all
      rw [e2, hc, ← hj]; simp [hj']
    · simp only [List.mem_map] at hu
      obtain ⟨s, _, rfl⟩ := hu
      rfl
theorem wpList_append {w : World} {ops : Array Oper} {rest : List Oper} {o : Oper} {a : Act} {Q : Exit → Act → World → Prop} (hgd : o.guard = none) (s x : Operand)
    (ho : o.op = .call { callee := .builtin .append, args := #[s, x], argTypes := #[23, 23] })
    (base : Nat) (v : Value) (l : List ByteArray) (hs : a.eval s = v) (hown : Own w base v l) (A : Option Addr) (c : Nat) (m : List ByteArray) (hx : a.eval x = .slice A m.length c) (hm : Strs w A m)
    (h63 : l.length + m.length ≤ 2000000) (hbase : base ≤ w.heap.size)
    (h : ∀ v' w', Own w' base v' (l ++ m) → w.grownBy w' v.ownBlock → wpList Tryz.prog ops Q rest (a.put o.dst v') w') : wpList Tryz.prog ops Q (o :: rest) a w :=
  wpList_plain hgd fun _ hK => wp_append s x ho base v l hs hown A c m hx hm h63 hbase fun v' w' h1 h2 => hK _ _ (h v' w' h1 h2)
theorem step_append {w : World} {ops : Array Oper} {o : Oper} {a : Act} {K : Act → World → Prop} {Q : Exit → Act → World → Prop} {E : Prop} (hgd : o.guard = none) (s x : Operand)
    (ho : o.op = .call { callee := .builtin .append, args := #[s, x], argTypes := #[23, 23] })
    (base : Nat) (v : Value) (l : List ByteArray) (hs : a.eval s = v) (hown : Own w base v l) (A : Option Addr) (c : Nat) (m : List ByteArray) (hx : a.eval x = .slice A m.length c) (hm : Strs w A m)
    (h63 : l.length + m.length ≤ 2000000) (hbase : base ≤ w.heap.size)
    (h : ∀ v' w', Own w' base v' (l ++ m) → w.grownBy w' v.ownBlock → K (a.put o.dst v') w') :
    if Region.wanted o (yielded ops a.tmps) = true then Oper.wp Tryz.prog o a w K Q else E := by
  have hw : Region.wanted o (yielded ops a.tmps) = true := by simp [Region.wanted, hgd]
  rw [if_pos hw]
  exact wp_append s x ho base v l hs hown A c m hx hm h63 hbase h

/-- the marks from k on. -/
def marks (k n : Nat) : List ByteArray := (List.range n).map fun j => markB (k + j)
theorem marks_len (k n : Nat) : (marks k n).length = n := by simp [marks]
theorem marks_at (k n j : Nat) (h : j < (marks k n).length) : (marks k n)[j] = markB (k + j) := by simp [marks]
/-- a list when its first i items are marked. -/
def mixL (k i : Nat) (l : List ByteArray) : List ByteArray := marks k i ++ l.drop i
theorem mix_zero (k : Nat) (l : List ByteArray) : mixL k 0 l = l := by simp [mixL, marks]
theorem mix_all (k : Nat) (l : List ByteArray) : mixL k l.length l = marks k l.length := by simp [mixL]
theorem mix_len (k i : Nat) (l : List ByteArray) (h : i ≤ l.length) : (mixL k i l).length = l.length := by simp [mixL, marks_len]; omega
theorem mix_set (k i : Nat) (l : List ByteArray) (h : i < l.length) : (mixL k i l).set i (markB (k + i)) = mixL k (i + 1) l := by
  unfold mixL
  have e : marks k (i + 1) = marks k i ++ [markB (k + i)] := by simp [marks, List.range_succ]
  rw [List.set_append_right _ _ (by rw [marks_len]; exact Nat.le_refl _), marks_len, Nat.sub_self, e, List.append_assoc, List.drop_eq_getElem_cons h]
  rfl

def Marked (w : World) (base : Nat) (v : Value) (k n : Nat) (e : Ending) (w' : World) : Prop := e = .returned (.int .i64 ((k + n : Nat) : Int)) ∧ Own w' base v (marks k n) ∧ w.grownBy w' v.ownBlock

set_option maxHeartbeats 1000000 in
theorem mark_list (A : Option Addr) (c base : Nat) (l : List ByteArray) (k : Nat) (w : World) (h : Own w base (.slice A l.length c) l) (hl : l.length ≤ 1048576) (hk1 : 1 ≤ k) (hk : k ≤ 10000000) :
    Calls Tryz.prog 36 #[.slice A l.length c, .int .i64 k] w (Marked w base (.slice A l.length c) k l.length) := by
  have H := Lib.hid h
  clear h
  go_enter Tryz.func36, Tryz.ntmps36
  go_wp2
  go_loopw [1, 5] (fun q i wr => ∃ (j m : Nat), j ≤ l.length ∧ m = k + j ∧ i = .int .i64 j ∧ q = .int .i64 m ∧ wr.ownsRow base 9 1 (.slice A l.length c) l.length ((mixL k j l).map Value.string) ∧ w.grownBy wr (Value.slice A l.length c).ownBlock) (fun _ i _ => l.length - (RowKit.intOf i).toNat)
  case atStart => exact ⟨0, k, Nat.zero_le _, rfl, rfl, rfl, by rw [mix_zero]; exact H.out, World.grownBy.refl w _⟩
  case round =>
    obtain ⟨j, m, hj, hm, rfl, rfl, hown, hgr⟩ := hrel
    have HM := Lib.hid hm
    have hm1 : 1 ≤ m := by omega
    have hm2 : m ≤ 20000000 := by omega
    have HO := Lib.hid hown
    have HG := Lib.hid hgr
    clear hm hown hgr
    by_cases hlt : j < l.length
    · obtain ⟨g, rfl⟩ : ∃ g, A = some ⟨g, 0, none⟩ := by
        rcases HO.out.2 with ⟨h1, h0⟩ | ⟨g, cap, cur, hv, _⟩
        · omega
        · exact ⟨g, by injection hv⟩
      go_wp2_with fail
      refine (mark_any m _ hm1 (by omega)).mono ?_
      rintro _ w2 ⟨rfl, hb⟩
      have hown2 : w2.ownsRow base 9 1 (.slice (some ⟨g, 0, none⟩) l.length c) l.length ((mixL k j l).map Value.string) := by
        obtain ⟨h1, h2 | ⟨r, cap, cur, hv, hbr, hr, h3⟩⟩ := HO.out
        · exact ⟨h1, .inl h2⟩
        · exact ⟨h1, .inr ⟨r, cap, cur, hv, hbr, by rw [hb.block r (Array.getElem?_eq_some_iff.1 hr).1]; exact hr, h3⟩⟩
      have hgr2 : w.grownBy w2 (some g) := ⟨hb.os.trans HG.out.os, hb.tape.trans HG.out.tape, hb.output.trans HG.out.output, Nat.le_trans HG.out.size hb.size, fun q hq hne => (hb.block q (Nat.lt_of_lt_of_le hq HG.out.size)).trans (HG.out.block q hq hne)⟩
      have hcell := World.ownsRow.cells hown2 (g := g) rfl j (.string ((mixL k j l)[j]'(by rw [mix_len k j l hj]; exact hlt))) (by simp [mix_len k j l hj, hlt])
      have e1 : (⟨g, 0, none⟩ : Addr).add j = ⟨g, j, none⟩ := by unfold Addr.add; split <;> simp_all
      rw [e1] at hcell
      have hfz : w2.frozen? ⟨g, j, none⟩ = false := by
        rcases hown2.2 with ⟨h1, _⟩ | ⟨r, cap, cur, hv, _, hr, _⟩
        · simp at h1
        · have : g = r := by injection hv with h1; injection h1 with h1; injection h1
          subst this
          exact frozen_of_row _ _ j _ _ hr
      have HO2 := Lib.hid hown2
      have HG2 := Lib.hid hgr2
      clear hb hown2 hgr2 e1 HO HG
      go_wp2
      go_roundw
      case rel =>
        have hs := HO2.out.stored j (.string (markB m))
        refine ⟨j + 1, m + 1, hlt, by rw [HM.out]; omega, by go_num, by go_num, ?_, ?_⟩
        · have := hs.1
          rw [← List.map_set, HM.out, mix_set k j l hlt] at this
          rw [HM.out]; exact this
        · exact ⟨hs.2.os.trans HG2.out.os, hs.2.tape.trans HG2.out.tape, hs.2.output.trans HG2.out.output, Nat.le_trans HG2.out.size hs.2.size, fun q hq hne => (hs.2.block q (Nat.lt_of_lt_of_le hq HG2.out.size) hne).trans (HG2.out.block q hq hne)⟩
      case measure => simp [RowKit.intOf]; omega
    · obtain rfl : j = l.length := by omega
      go_wp2
      go_ret
      refine ⟨by have e := HM.out; subst e; rfl, ?_, HG.out⟩
      have := HO.out
      rw [mix_all] at this
      unfold Own; rw [marks_len]; exact this

set_option maxHeartbeats 1000000 in
theorem held_list (A : Option Addr) (c : Nat) (n k : Nat) (w : World) (h : Strs w A (marks k n)) (hl : n ≤ 1048576) (hk1 : 1 ≤ k) (hk : k ≤ 10000000) :
    Calls Tryz.prog 63 #[.slice A n c, .int .i64 k] w (dig.Told w (.int .i64 ((k + n : Nat) : Int))) := by
  have H := Lib.hid h
  clear h
  go_enter Tryz.func63, Tryz.ntmps63
  go_wp2
  go_loopw [1, 5] (fun q i wr => ∃ (j m : Nat), j ≤ n ∧ m = k + j ∧ i = .int .i64 j ∧ q = .int .i64 m ∧ Below w.heap.size w wr) (fun _ i _ => n - (RowKit.intOf i).toNat)
  case atStart => exact ⟨0, k, Nat.zero_le _, rfl, rfl, rfl, Below.refl _ _⟩
  case round =>
    obtain ⟨j, m, hj, hm, rfl, rfl, hb⟩ := hrel
    have HM := Lib.hid hm
    have hm1 : 1 ≤ m := by omega
    have hm2 : m ≤ 20000000 := by omega
    have HB := Lib.hid hb
    have hzz := hb.size
    clear hm hb
    by_cases hlt : j < n
    · have hlt' : j < (marks k n).length := by rw [marks_len]; exact hlt
      obtain ⟨b, o, rfl, hbg, hc, hsz⟩ := H.out j hlt'
      have hcr : wr.cell? ⟨b, o + j, none⟩ = some (.string (markB m)) := by
        rw [HB.out.cell (p := ⟨b, o + j, none⟩) hbg, hc, marks_at, HM.out]
      have hbr : b < wr.heap.size := Nat.lt_of_lt_of_le hbg hzz
      have hjI : (j : Int) < n := by omega
      have hj0 : (0 : Int) ≤ j := by omega
      clear hc hsz hlt'
      go_wp2_with fail
      have KM := fun (W : World) => Lib.hid (mark_any m W hm1 (by omega))
      go_region_held3 (fun w' => w'.cell? ⟨b, o + j, none⟩ = some (.string (markB m))) (go_keep)
        (first
        | (go_at_call 37; refine (KM _).out.mono ?_; rintro _ w2 ⟨rfl, hb⟩; have hbb := below_then (below_d wr _) hb (Nat.le_refl _); have E2 := Lib.hid (below_then HB.out hbb (Nat.le_refl _)); have hc2 : w2.cell? ⟨b, o + j, none⟩ = some (.string (markB m)) := (hbb.cell (p := ⟨b, o + j, none⟩) hbr).trans hcr; clear hb hbb))
      go_wp2
      go_roundw
      case rel => exact ⟨j + 1, m + 1, hlt, by rw [HM.out]; omega, by go_num, by go_num, E2.out⟩
      case measure => simp [RowKit.intOf]; omega
    · obtain rfl : j = n := by omega
      go_wp2
      go_ret
      exact ⟨by have e := HM.out; subst e; rfl, HB.out⟩

def MarkedA (w : World) (base : Nat) (v : Value) (k n : Nat) (e : Ending) (w' : World) : Prop := e = .returned (.int .i64 ((k + n : Nat) : Int)) ∧ Own w' base v (marks k n) ∧ w.grownBy w' v.ownBlock
theorem grown_then {w w1 w2 : World} {row : Option Nat} (h : Below w.heap.size w w1) (hg : w1.grownBy w2 row) : w.grownBy w2 row :=
  ⟨hg.os.trans h.os, hg.tape.trans h.tape, hg.output.trans h.output, Nat.le_trans h.size hg.size, fun k hk hne => (hg.block k (Nat.lt_of_lt_of_le hk h.size) hne).trans (h.block k hk)⟩

set_option maxHeartbeats 1000000 in
theorem mark_addr (A : Option Addr) (c base : Nat) (d : AddrD) (k : Nat) (w : World) (h : Own w base (.slice A d.path.length c) d.path) (hl : d.path.length ≤ 1048576) (hk1 : 1 ≤ k) (hk : k ≤ 10000000) :
    Calls Tryz.prog 40 #[.agg #[.slice A d.path.length c, .string d.typ, .string d.nam, .int .i64 d.kind, .int .i64 d.n, .string d.key], .int .i64 k] w (MarkedA w base (.slice A d.path.length c) k d.path.length) := by
  have H := Lib.hid h
  clear h
  go_enter Tryz.func40, Tryz.ntmps40
  go_wp2_with fail
  refine (mark_list A c base d.path k _ (H.out.alloc _) hl hk1 hk).mono ?_
  rintro _ w1 ⟨rfl, ho, hg⟩
  have HO := Lib.hid ho
  have HG := Lib.hid (grown_then (below_a1 _ _) hg)
  clear ho hg
  go_wp2
  go_ret
  exact ⟨rfl, HO.out, HG.out⟩

end Go.Proofs.YtflfnekaiaplfaaGreat.own
