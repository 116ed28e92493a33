/- Memory: a list of texts in a slice; a row of the call's own that is known whole. -/
import Derived.Test.YtflfnekaiaplfaaGreatRows
import Derived.Test.YtflfnekaiaplfaaGreatAd
import Derived.WalkKit
import Derived.Lib.Hide
import Derived.ProofKit
import Derived.WalkSpells
import Derived.Below
import Derived.Laws.OwnMore
import Derived.OwnWalk
import Derived.OneCell
import Derived.Deep.Draws
namespace Go.Proofs.YtflfnekaiaplfaaGreat.mem
open ad
open Go.ChangeShapes Go.WideShapes Go.ChangeAt Go.RowKit Go.Lib
set_option linter.unusedVariables false
set_option linter.unusedSimpArgs false

theorem ret_bool {a b : Bool} (h : a = b) : Ending.returned (.bool a) = .returned (.bool b) := by rw [h]
theorem ret_int {a b : Int} (h : a = b) : Ending.returned (.int .i64 a) = .returned (.int .i64 b) := by rw [h]
theorem ret_str {a b : ByteArray} (h : a = b) : Ending.returned (.string a) = .returned (.string b) := by rw [h]

theorem tl_iff (s t : ByteArray) : s.toList = t.toList ↔ s = t := by
  constructor
  · intro h
    have h' : s.data.toList = t.data.toList := by rw [← toList_data, ← toList_data]; exact h
    exact ByteArray.ext (Array.toList_inj.1 h')
  · rintro rfl; rfl
theorem tl_empty (s : ByteArray) : s.toList.isEmpty = (s.size == 0) := by
  rw [toList_data, Bool.eq_iff_iff]; simp
  exact ⟨fun h => ByteArray.ext h, fun h => by rw [h]; rfl⟩
theorem tl_nil (s : ByteArray) : (s.toList = []) = (s = ByteArray.empty) := by
  rw [toList_data]; apply propext; simp
  exact ⟨fun h => ByteArray.ext h, fun h => by rw [h]; rfl⟩
theorem tl_beq (s t : ByteArray) : (s.toList == t.toList) = decide (s = t) := by
  by_cases h : s = t
  · subst h; simp
  · rw [decide_eq_false h]; exact beq_eq_false_iff_ne.2 (fun e => h ((tl_iff s t).1 e))
theorem tl_ne {s t : ByteArray} (h : (!s.toList == t.toList) = true) : s ≠ t := by
  rw [tl_beq] at h; simpa using h
theorem tl_eq {s t : ByteArray} (h : (!s.toList == t.toList) = false) : s = t := by
  rw [tl_beq] at h; simpa using h

/-- a slice that reads as a list of texts. -/
def Strs (w : World) (A : Option Addr) (l : List ByteArray) : Prop :=
  ∀ k (h : k < l.length), ∃ b o, A = some ⟨b, o, none⟩ ∧ b < w.heap.size ∧ w.cell? ⟨b, o + k, none⟩ = some (.string l[k]) ∧ l[k].size ≤ maxLen
theorem Strs.nil (w : World) (A : Option Addr) : Strs w A [] := fun k h => absurd h (by simp)
theorem Strs.below {w w' : World} {A : Option Addr} {l : List ByteArray} (h : Strs w A l) (hb : Below w.heap.size w w') : Strs w' A l := fun k hk => by
  obtain ⟨b, o, e, h1, h2, h3⟩ := h k hk
  exact ⟨b, o, e, Nat.lt_of_lt_of_le h1 hb.size, by rw [hb.cell (p := ⟨b, o + k, none⟩) h1]; exact h2, h3⟩
theorem Strs.alloc {w : World} {A : Option Addr} {l : List ByteArray} (h : Strs w A l) (o : Obj) : Strs (w.alloc o) A l := h.below ((Below.refl _ _).alloc (Nat.le_refl _) _)
theorem Strs.drew {w : World} {A : Option Addr} {l : List ByteArray} (h : Strs w A l) : Strs w.drew A l := h.below (Below.refl _ _).drew
theorem Strs.setNew {w : World} {A : Option Addr} {l : List ByteArray} (h : Strs w A l) {p : Addr} (hp : w.heap.size ≤ p.block) (u : Value) : Strs (w.setCell p u) A l := h.below ((Below.refl _ _).setCell hp _)

/-- a row that is known whole. -/
def Row (w : World) (g : Nat) (l : List ByteArray) : Prop := w.heap[g]? = some (.cells (l.map Value.string).toArray 9 (0, 0))
theorem Row.lt {w : World} {g : Nat} {l : List ByteArray} (h : Row w g l) : g < w.heap.size := (Array.getElem?_eq_some_iff.1 h).1
theorem Row.strs {w : World} {g : Nat} {l : List ByteArray} (h : Row w g l) (hs : ∀ k (h : k < l.length), l[k].size ≤ maxLen) : Strs w (some ⟨g, 0, none⟩) l := fun k hk =>
  ⟨g, 0, rfl, h.lt, by rw [cell_of_row _ _ _ _ _ _ h]; simp [hk], hs k hk⟩
theorem Row.below {w w' : World} {g B : Nat} {l : List ByteArray} (h : Row w g l) (hb : Below B w w') (hg : g < B) : Row w' g l := by
  unfold Row; rw [hb.block g hg]; exact h
theorem Row.far {w : World} {g : Nat} {l : List ByteArray} (h : Row w g l) {p : Addr} (hp : g ≠ p.block) (u : Value) : Row (w.setCell p u) g l := by
  unfold Row; rw [Below.heap_setCell w p u g hp]; exact h
theorem Row.alloc {w : World} {g : Nat} {l : List ByteArray} (h : Row w g l) (o : Obj) : Row (w.alloc o) g l := by
  unfold Row; rw [Below.heap_alloc w o g h.lt]; exact h
theorem Row.drew {w : World} {g : Nat} {l : List ByteArray} (h : Row w g l) : Row w.drew g l := h
theorem bcell {W w1 : World} (hb : Below W.heap.size W w1) : (∀ b o, b < W.heap.size → w1.cell? ⟨b, o, none⟩ = W.cell? ⟨b, o, none⟩) ∧ (∀ b o, b < W.heap.size → w1.frozen? ⟨b, o, none⟩ = W.frozen? ⟨b, o, none⟩) :=
  ⟨fun b o h => hb.cell (p := ⟨b, o, none⟩) h, fun b o h => hb.frozen (p := ⟨b, o, none⟩) h⟩
theorem below_a1 (w : World) (o1 : Obj) : Below w.heap.size w (w.alloc o1) := (Below.refl _ _).alloc (Nat.le_refl _) o1
theorem below_a2 (w : World) (o1 o2 : Obj) : Below w.heap.size w ((w.alloc o1).alloc o2) := (below_a1 w o1).alloc (by simp) o2
theorem below_a3 (w : World) (o1 o2 o3 : Obj) : Below w.heap.size w (((w.alloc o1).alloc o2).alloc o3) := (below_a2 w o1 o2).alloc (by simp; omega) o3
theorem below_d (w : World) (n : Nat) : Below w.heap.size w (w.drewN n) := ⟨rfl, rfl, rfl, Nat.le_refl _, fun _ _ => rfl⟩
theorem below_dn {B : Nat} {a w : World} (h : Below B a w) (n : Nat) : Below B a (w.drewN n) := ⟨h.os, h.tape, h.output, h.size, h.block⟩
/-- a block that is known whole. -/
def Blk (w : World) (g : Nat) (T : TypeId) (cs : Array Value) : Prop := w.heap[g]? = some (.cells cs T (0, 0))
theorem Blk.lt {w : World} {g : Nat} {T : TypeId} {cs : Array Value} (h : Blk w g T cs) : g < w.heap.size := (Array.getElem?_eq_some_iff.1 h).1
theorem Blk.new (w : World) (T : TypeId) (cs : Array Value) : Blk (w.alloc (.cells cs T)) w.heap.size T cs := heap_alloc_new w _
theorem Blk.new1 (w : World) (o : Obj) (T : TypeId) (cs : Array Value) : Blk ((w.alloc o).alloc (.cells cs T)) (w.heap.size + 1) T cs := by
  have := Blk.new (w.alloc o) T cs
  simpa using this
theorem Blk.new2 (w : World) (o o' : Obj) (T : TypeId) (cs : Array Value) : Blk (((w.alloc o).alloc o').alloc (.cells cs T)) (w.heap.size + 1 + 1) T cs := by
  have := Blk.new ((w.alloc o).alloc o') T cs
  simpa using this
theorem Blk.below {w w' : World} {g B : Nat} {T : TypeId} {cs : Array Value} (h : Blk w g T cs) (hb : Below B w w') (hg : g < B) : Blk w' g T cs := by
  unfold Blk; rw [hb.block g hg]; exact h
theorem Blk.step {w w' : World} {g : Nat} {T : TypeId} {cs : Array Value} (h : Blk w g T cs) (hb : Below w.heap.size w w') : Blk w' g T cs := h.below hb h.lt
theorem Blk.far {w : World} {g : Nat} {T : TypeId} {cs : Array Value} (h : Blk w g T cs) {p : Addr} (hp : g ≠ p.block) (u : Value) : Blk (w.setCell p u) g T cs := by
  unfold Blk; rw [Below.heap_setCell w p u g hp]; exact h
theorem Blk.alloc {w : World} {g : Nat} {T : TypeId} {cs : Array Value} (h : Blk w g T cs) (o : Obj) : Blk (w.alloc o) g T cs := h.step (below_a1 w o)
theorem Blk.drew {w : World} {g : Nat} {T : TypeId} {cs : Array Value} (h : Blk w g T cs) : Blk w.drew g T cs := h
theorem Blk.cell {w : World} {g : Nat} {T : TypeId} {cs : Array Value} (h : Blk w g T cs) : ∀ o, w.cell? ⟨g, o, none⟩ = cs[o]? := fun o => cell_of_row w g o cs T (0, 0) h
theorem Blk.free {w : World} {g : Nat} {T : TypeId} {cs : Array Value} (h : Blk w g T cs) : ∀ o, w.frozen? ⟨g, o, none⟩ = false := fun o => frozen_of_row _ _ o _ _ h
theorem Row.step {w w' : World} {g : Nat} {l : List ByteArray} (h : Row w g l) (hb : Below w.heap.size w w') : Row w' g l := h.below hb h.lt
theorem below_then {B : Nat} {a w w' : World} (h : Below B a w) (k : Below w.heap.size w w') (hB : B ≤ a.heap.size) : Below B a w' := h.trans (k.mono (Nat.le_trans hB h.size))
theorem below_da {B : Nat} {a w : World} (h : Below B a w) (hB : B ≤ a.heap.size) (o : Obj) : Below B a (w.alloc o) := h.alloc (Nat.le_trans hB h.size) o
theorem Strs.sizes {w : World} {A : Option Addr} {l : List ByteArray} (h : Strs w A l) : ∀ k (h : k < l.length), l[k].size ≤ maxLen := fun k hk => by
  obtain ⟨b, o, _, _, _, h3⟩ := h k hk; exact h3

/-- what stands in a new row when the first k are laid. -/
def fillL (l : List ByteArray) (k : Nat) : List Value := (l.take k).map Value.string ++ List.replicate (l.length - k) (.string ByteArray.empty)
theorem fillL_len (l : List ByteArray) (k : Nat) (h : k ≤ l.length) : (fillL l k).length = l.length := by simp [fillL]; omega
theorem fillL_all (l : List ByteArray) : fillL l l.length = l.map Value.string := by simp [fillL]
theorem fillL_set (l : List ByteArray) (k : Nat) (h : k < l.length) : (fillL l k).set k (.string l[k]) = fillL l (k + 1) := by
  unfold fillL
  apply List.ext_getElem?
  intro i
  rw [List.getElem?_set]
  by_cases hi : k = i
  · subst hi
    have : k < ((l.take k).map Value.string ++ List.replicate (l.length - k) (Value.string ByteArray.empty)).length := by simp; omega
    simp only [if_pos rfl, this, if_true]
    rw [List.getElem?_append_left (by simp; omega)]
    simp [h]
  · rw [if_neg hi]
    by_cases hlt : i < k
    · rw [List.getElem?_append_left (by simp; omega), List.getElem?_append_left (by simp; omega)]
      simp [List.getElem?_take, hlt, Nat.lt_succ_of_lt hlt]
    · rw [List.getElem?_append_right (by simp; omega), List.getElem?_append_right (by simp; omega)]
      simp only [List.length_map, List.length_take, List.getElem?_replicate]
      have e1 : min k l.length = k := by omega
      have e2 : min (k + 1) l.length = k + 1 := by omega
      rw [e1, e2]
      by_cases hh : i < l.length
      · rw [if_pos (by omega), if_pos (by omega)]
      · rw [if_neg (by omega), if_neg (by omega)]
theorem fillL_zero (l : List ByteArray) : fillL l 0 = List.replicate l.length (.string ByteArray.empty) := by simp [fillL]

theorem made_strs {w w' : World} {e : TypeId} {N : Nat} (h : w'.ownsRow w.heap.size e 1 (.slice (some ⟨w.heap.size, 0, none⟩) N N) N (madeCells #[Value.string ByteArray.empty] N).toList) :
    w'.heap[w.heap.size]? = some (.cells (List.replicate N (Value.string ByteArray.empty)).toArray e (0, 0)) := by
  obtain ⟨_, h | ⟨g, cap, cur, hv, _, hg, _, _, hs, ht⟩⟩ := h
  · exact absurd h.1 (by simp)
  · simp only [Value.slice.injEq, Option.some.injEq, Addr.mk.injEq] at hv
    obtain ⟨⟨rfl, _⟩, _, rfl⟩ := hv
    rw [hg]
    rw [List.take_of_length_le (by simp [hs])] at ht
    have : cur = (List.replicate N (Value.string ByteArray.empty)).toArray := by
      apply Array.ext'
      rw [ht]
      simp [madeCells, Value.cells, Nat.mod_one]
      exact List.ext_getElem (by simp) (by intro i h1 h2; simp)
    rw [this]
theorem row_set {w : World} {g : Nat} {l : List Value} {T : TypeId} {k : Nat} {v : Value} (h : w.heap[g]? = some (.cells l.toArray T (0, 0))) : (w.setCell ⟨g, k, none⟩ v).heap[g]? = some (.cells (l.set k v).toArray T (0, 0)) := by
  rw [heap_setCell_same _ _ _ _ _ _ h]; simp
theorem info_str : (Tryz.prog.info? 9).map (fun i => (i.zero, i.size, i.bytes)) = some (some (.string ByteArray.empty), 1, 16) := by kernel_rfl

/-- the new row of toStringS. -/
def NewRow (w : World) (l : List ByteArray) (e : Ending) (w' : World) : Prop := ∃ g, e = .returned (.slice (some ⟨g, 0, none⟩) l.length l.length) ∧ w.heap.size ≤ g ∧ Row w' g l ∧ Below w.heap.size w w'

-- [PLAIN
set_option maxHeartbeats 1000000 in
theorem toStringS_any (A : Option Addr) (c : Nat) (l : List ByteArray) (w : World) (h : Strs w A l) (hl : l.length ≤ 1048576) :
    Calls Tryz.prog 50 #[.slice A l.length c] w (NewRow w l) := by
  obtain ⟨i0, hi, hz0, hz1, hz2⟩ := info_parts info_str
  have H := Lib.hid h
  clear h
  go_enter Tryz.func50, Tryz.ntmps50
  go_wp2_with (at_make; refine wpList_make_full _ rfl (.tmp 6) (.tmp 6) 23 rfl w.heap.size 9 i0 (.string ByteArray.empty) 1 Tryz.underlying23 hi hz0 hz1 .i64 .i64 _ _ l.length rfl rfl rfl rfl ?b2 ?b3 ?b4 ?_)
  case b2 => rw [hz2]; omega
  case b3 => unfold maxLen; omega
  case b4 => exact Nat.le_refl _
  intro w1 hown hgrow
  have hrow := Lib.hid (made_strs hown)
  have hbl : Below w.heap.size w w1 := (Below.refl _ _).grown hgrow (Nat.le_refl _) (by simp)
  clear hown hgrow
  go_wp2
  go_loopw [4] (fun i wr => ∃ k : Nat, k ≤ l.length ∧ i = .int .i64 k ∧ wr.heap[w.heap.size]? = some (.cells (fillL l k).toArray 9 (0, 0)) ∧ Below w.heap.size w wr) (fun i _ => l.length - (intOf i).toNat)
  case atStart => exact ⟨0, Nat.zero_le _, rfl, by rw [fillL_zero]; exact hrow.out, hbl⟩
  case round =>
    clear hrow hbl
    obtain ⟨k, hk, rfl, hrow, hbl⟩ := hrel
    have HR := Lib.hid hrow
    clear hrow
    by_cases hlt : k < l.length
    · obtain ⟨b, o, rfl, hbg, hc, hsz⟩ := H.out k hlt
      have hcr : wr.cell? ⟨b, o + k, none⟩ = some (.string l[k]) := by rw [hbl.cell (p := ⟨b, o + k, none⟩) hbg]; exact hc
      have hf := frozen_of_row _ _ k _ _ HR.out
      obtain ⟨x, hx⟩ : ∃ x, wr.cell? ⟨w.heap.size, k, none⟩ = some x := by
        rw [cell_of_row _ _ _ _ _ _ HR.out]
        exact ⟨_, Array.getElem?_eq_getElem (by simp [fillL_len l k hk, hlt])⟩
      clear hc
      go_wp2
      go_roundw
      case rel => exact ⟨k + 1, by omega, by go_num, by rw [← fillL_set l k hlt]; exact row_set HR.out, hbl.setCell (p := ⟨w.heap.size, k, none⟩) (Nat.le_refl _) _⟩
      case measure => simp [intOf]; omega
    · obtain rfl : k = l.length := by omega
      go_wp2
      go_ret
      exact ⟨w.heap.size, rfl, Nat.le_refl _, by unfold Row; rw [HR.out, fillL_all], hbl⟩
-- PLAIN]
end Go.Proofs.YtflfnekaiaplfaaGreat.mem
