/- Laws that the library lacks: 'copy' from a text into a row of the call's own; a made row of bytes, known whole; texts joined. No condition. -/
import Derived.WalkKit
import Derived.Lib.Hide
import Derived.Lib.BufferWrite
import Derived.Laws.CopyOwn
import Derived.Laws.IdiomStrings
import Derived.OwnWalk
namespace Go.Proofs.YtnjpddbpnmgcpaaGreatDoor.str
open Go.RowKit Go.Lib
set_option linter.unusedVariables false
set_option linter.unusedSimpArgs false

def cat (ss : List ByteArray) : List UInt8 := (ss.map fun s => s.data.toList).flatten
theorem cat_nil : cat [] = [] := rfl
theorem cat_take (ss : List ByteArray) (k : Nat) (h : k < ss.length) : cat (ss.take (k + 1)) = cat (ss.take k) ++ ss[k].data.toList := by
  unfold cat; rw [List.take_succ_eq_append_getElem h, List.map_append, List.flatten_append]; simp
theorem cat_len (ss : List ByteArray) (k : Nat) (h : k < ss.length) : (cat (ss.take (k + 1))).length = (cat (ss.take k)).length + ss[k].size := by
  rw [cat_take ss k h, List.length_append]; rfl
theorem cat_all (ss : List ByteArray) (k : Nat) (h : ss.length ≤ k) : cat (ss.take k) = cat ss := by rw [List.take_of_length_le h]
theorem cat_le (ss : List ByteArray) (k : Nat) : (cat (ss.take k)).length ≤ (cat ss).length := by
  have e : cat ss = cat (ss.take k) ++ cat (ss.drop k) := by
    unfold cat; rw [← List.flatten_append, ← List.map_append, List.take_append_drop]
  rw [e, List.length_append]; omega

/-- A row of N bytes of which the first are l, the rest noughts. -/
def rowOf (l : List UInt8) (N : Nat) : List Value := byteCells l ++ List.replicate (N - l.length) (.int .u8 0)
theorem rowOf_len (l : List UInt8) (N : Nat) (h : l.length ≤ N) : (rowOf l N).length = N := by
  unfold rowOf; rw [List.length_append, byteCells_length, List.length_replicate]; omega
theorem rowOf_splice (l m : List UInt8) (N : Nat) (h : l.length + m.length ≤ N) : splice (rowOf l N) l.length (byteCells m) = rowOf (l ++ m) N := by
  unfold splice rowOf
  rw [List.take_append_of_le_length (by rw [byteCells_length]; omega), List.take_of_length_le (by rw [byteCells_length]; omega)]
  rw [List.drop_append, List.drop_of_length_le (by rw [byteCells_length]; omega), byteCells_append, List.append_assoc, byteCells_length, List.nil_append, List.drop_replicate, List.length_append]
  congr 3; rw [byteCells_length]; omega
theorem rowOf_full (l : List UInt8) : rowOf l l.length = byteCells l := by simp [rowOf]
theorem rowOf_at (l : List UInt8) (N j : Nat) (h : j < l.length) : (rowOf l N)[j]? = some (.int .u8 (l[j].toNat : Int)) := by
  unfold rowOf
  rw [List.getElem?_append_left (by rw [byteCells_length]; exact h)]
  simp [byteCells, h]

/-- 'make([]byte, N)': the new row, whole. -/
theorem made_row {w w' : World} {e : TypeId} {N : Nat} (h : w'.ownsRow w.heap.size e 1 (.slice (some ⟨w.heap.size, 0, none⟩) N N) N (madeCells #[Value.int .u8 0] N).toList) :
    w'.heap[w.heap.size]? = some (.cells (rowOf [] N).toArray e (0, 0)) := by
  obtain ⟨_, h | ⟨g, cap, cur, hv, _, hg, _, _, hs, ht⟩⟩ := h
  · exact absurd h.1 (by simp)
  · simp only [Value.slice.injEq, Option.some.injEq, Addr.mk.injEq] at hv
    obtain ⟨⟨rfl, _⟩, _, rfl⟩ := hv
    rw [hg]
    rw [List.take_of_length_le (by simp [hs])] at ht
    have : cur = (rowOf [] N).toArray := by
      apply Array.ext'
      rw [ht]
      simp [rowOf, byteCells, madeCells, Value.cells, Nat.mod_one]
      exact List.ext_getElem (by simp) (by intro i h1 h2; simp)
    rw [this]

theorem wpList_copy_str {P : Program} {w : World} {ops : Array Oper} {rest : List Oper} {o : Oper} {a : Act} {Q : Exit → Act → World → Prop} (hgd : o.guard = none) (d s : Operand) (dT sT : TypeId)
    (ho : o.op = .call { callee := .builtin .copy, args := #[d, s], argTypes := #[dT, sT] }) (elem : TypeId) (hu : P.underlying dT = some (.slice elem)) (hsz : (P.info? elem).map (·.size) = some 1)
    (dp : Option Addr) (dLen dCap : Nat) (t : ByteArray) (hd : a.eval d = .slice dp dLen dCap) (hs : a.eval s = .string t)
    (g off : Nat) (cur : List Value) (ty : TypeId) (hg : w.heap[g]? = some (.cells cur.toArray ty (0, 0))) (hn : t.size ≤ dLen)
    (hpos : 0 < t.size → dp = some ⟨g, off, none⟩) (hfit : off + t.size ≤ cur.length) (B : Nat) (w0 : World) (hb : Below B w0 w) (hBg : B ≤ g)
    (h : ∀ w', Hid (w'.heap[g]? = some (.cells (splice cur off (byteCells t.data.toList)).toArray ty (0, 0))) → Below B w0 w' → wpList P ops Q rest (a.put o.dst (goInt t.size)) w') :
    wpList P ops Q (o :: rest) a w := by
  refine wpList_plain hgd fun K hK => ?_
  have hlen : (byteCells t.data.toList).length = t.size := by rw [byteCells_length, ← size_eq]
  by_cases h0 : t.size = 0
  · have hrun := run_copy_empty_string (P := P) w dT sT o.type elem dp dLen dCap t hu (by cases hq : P.info? elem <;> simp [hq] at hsz ⊢) h0
    unfold Oper.wp
    simp [execOp, ho, resolve, invoke, builtin, hd, hs, hrun, Result.andThen]
    have := hK _ _ (h w (show _ = _ by
      have e : byteCells t.data.toList = [] := List.eq_nil_of_length_eq_zero (by omega)
      simpa [splice, e] using hg) hb)
    rw [h0] at this
    exact this
  · obtain rfl := hpos (by omega)
    have hrun := run_copy_row_string (P := P) w dT sT o.type elem g off dLen dCap t cur.toArray ty hu hsz hg hn (by simpa using hfit)
    unfold Oper.wp
    simp [execOp, ho, resolve, invoke, builtin, hd, hs, hrun, Result.andThen]
    refine hK _ _ (h _ (show _ = _ from ?_) (below_setRow hb hBg _))
    have := setRow_heap w g cur.toArray (List.take off cur ++ (byteCells t.data.toList ++ List.drop (off + t.size) cur)).toArray ty (0, 0) hg
    rw [splice, hlen]
    simpa using this
end Go.Proofs.YtnjpddbpnmgcpaaGreatDoor.str
