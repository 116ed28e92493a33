/- A law that the library lacks: a text made into bytes, for the walk. No condition. -/
import Derived.Test.YtifgnebjjkjgoaaSealT
import Derived.WalkKit
import Derived.Laws.IdiomStrings
namespace Go.Proofs.Ytifgnebjjkjgoaa.seal
open Go.RowKit Go.Lib
set_option linter.unusedVariables false
set_option linter.unusedSimpArgs false

/-- the bytes l stand in block g, and may be written. -/
structure Row (w : World) (g : Nat) (l : List UInt8) : Prop where
  cell : ∀ j (h : j < l.length), w.cell? ⟨g, j, none⟩ = some (.int .u8 (l[j].toNat : Int))
  free : ∀ j, j < l.length → w.frozen? ⟨g, j, none⟩ = false

theorem row_below {w w' : World} {g : Nat} {l : List UInt8} (h : Row w g l) {B : Nat} (hb : Below B w w') (hg : g < B) : Row w' g l :=
  ⟨fun j hj => by rw [hb.cell (p := ⟨g, j, none⟩) hg]; exact h.cell j hj, fun j hj => by rw [hb.frozen (p := ⟨g, j, none⟩) hg]; exact h.free j hj⟩

theorem wpList_bytes {P : Program} {w : World} {ops : Array Oper} {rest : List Oper} {o : Oper} {a : Act} {Q : Exit → Act → World → Prop} (hgd : o.guard = none) (x : Operand) (src dst e : TypeId)
    (ho : o.op = .convert src dst x) (hs : P.underlying src = some .string) (hd : P.underlying dst = some (.slice e)) (he : P.underlying e = some (.int .u8)) (s : ByteArray) (hx : a.eval x = .string s)
    (h : ∀ w' cap, Row w' w.heap.size s.data.toList → w.heap.size < w'.heap.size → Below w.heap.size w w' → wpList P ops Q rest (a.put o.dst (.slice (some ⟨w.heap.size, 0, none⟩) s.size cap)) w') :
    wpList P ops Q (o :: rest) a w := by
  refine wpList_plain hgd fun K hK => ?_
  have hrun := run_bytes_of_string (P := P) w src dst e s hs hd he
  unfold Oper.wp
  simp [execOp, ho, hx, hrun, Result.andThen]
  refine hK _ _ (h _ _ ⟨fun j hj => ?_, fun j hj => ?_⟩ ?_ ?_)
  · rw [show ∀ (o : Obj), (w.drew.alloc o) = (w.alloc o).drew from fun _ => rfl]
    show (w.alloc _).cell? _ = _
    rw [World.cell?_alloc_mark, bytesRow_at _ _ _ (by simpa using hj)]
    rfl
  · show (w.alloc _).frozen? _ = _
    rw [World.frozen?_alloc_mark]
    have h1 : j < s.data.size := by simpa using hj
    have h2 : s.data.size ≤ (bytesRow s (grownCap w s.size 0 e)).size := by unfold bytesRow; simp
    rw [decide_eq_false (by omega), Bool.false_and]
  · simp
  · exact (Below.refl _ _).drew.alloc (Nat.le_refl _) _
end Go.Proofs.Ytifgnebjjkjgoaa.seal
